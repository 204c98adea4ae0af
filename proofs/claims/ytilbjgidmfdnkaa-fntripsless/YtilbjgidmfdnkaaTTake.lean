/- Contracts of what lets a record come to the program's chain. For chains of at most six trips and records of at most 1048576 numbers, in a world in which the sentinel's variable holds a pointer to an errors.errorString. -/
import Derived.Test.YtilbjgidmfdnkaaTAdd
namespace Go.Proofs.Ytilbjgidmfdnkaa.T
open Go.RowKit

theorem doL_begin {rs : List R} {r : Rc} (h4 : r.1 = 4) : doL rs r = rs ++ [(r.2.2, 1)] := by unfold doL; rw [if_pos h4]

theorem tripAt_nd {ns : List Nd} {t : Int} {n : Nd} (h : ns[(t - 1).toNat]? = some n) : tripAt (ns.map ndT) t = ndT n := tripAt_get (by rw [List.getElem?_map, h]; rfl)

end Go.Proofs.Ytilbjgidmfdnkaa.T
