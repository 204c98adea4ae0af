/- The contract of the program's copy of a list of records. For all that together has at most 1048576 records and numbers. -/
import Derived.Test.YtmbgnmnlkbeaoaaCopy
namespace Go.Proofs.Ytmbgnmnlkbeaoaa
open Go.RowKit

end Go.Proofs.Ytmbgnmnlkbeaoaa
