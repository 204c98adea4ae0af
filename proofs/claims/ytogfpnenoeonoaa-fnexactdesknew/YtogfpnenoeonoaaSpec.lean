/- The contract of the specification's RecOk. For every record whose numbers are at most 1048576. -/
import Derived.Test.YtogfpnenoeonoaaEnt
namespace Go.Proofs.Ytogfpnenoeonoaa
open Go.RowKit

end Go.Proofs.Ytogfpnenoeonoaa
