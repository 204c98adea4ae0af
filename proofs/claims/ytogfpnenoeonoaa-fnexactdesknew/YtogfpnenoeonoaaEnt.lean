/- Contracts of the two functions that say whether a record is ok, the specification's and the program's. For every record whose numbers are at most 1048576, in a world in which the sentinel's variable holds a pointer to an errors.errorString. -/
import Derived.Test.YtogfpnenoeonoaaRec
namespace Go.Proofs.Ytogfpnenoeonoaa
open Go.RowKit

theorem alloc_below (w : World) (o : Obj) : Below w.heap.size w (w.alloc o) := (Below.refl _ _).alloc (Nat.le_refl _) o
theorem below_after {w : World} {o : Obj} {w' : World} (h : Below (w.alloc o).heap.size (w.alloc o) w') : Below w.heap.size w w' :=
  (alloc_below w o).trans (h.mono (by simp))

end Go.Proofs.Ytogfpnenoeonoaa
