/- The contract of the specification's LogForce. For all that together has at most 1048576 records and numbers. -/
import Derived.Test.YtfpjohbcbflnhaaDoorSLog
namespace Go.Proofs.YtfpjohbcbflnhaaDoor
open Go.RowKit

theorem frozenAlloc {w : World} {b o : Nat} (h : w.frozen? ⟨b, o, none⟩ = false) (hb : b < w.heap.size) (x : Obj) : (w.alloc x).frozen? ⟨b, o, none⟩ = false := by
  rw [← h]
  exact ((Below.refl w.heap.size w).alloc (Nat.le_refl _) x).frozen (p := ⟨b, o, none⟩) hb

end Go.Proofs.YtfpjohbcbflnhaaDoor
