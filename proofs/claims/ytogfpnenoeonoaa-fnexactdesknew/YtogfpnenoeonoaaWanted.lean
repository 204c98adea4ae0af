/- The contract of what says whether a list is what can be wanted. For lists of at most 1048576 numbers. -/
import Derived.Test.YtogfpnenoeonoaaSmall
import Derived.WalkSmall
namespace Go.Proofs.Ytogfpnenoeonoaa
open Go.RowKit

end Go.Proofs.Ytogfpnenoeonoaa
