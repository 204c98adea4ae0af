/- The contract of the specification's LogFall. For all that together has at most 1048576 records and numbers. -/
import Derived.Test.YtfpjohbcbflnhaaDoorIFall
namespace Go.Proofs.YtfpjohbcbflnhaaDoor
open Go.RowKit

end Go.Proofs.YtfpjohbcbflnhaaDoor
