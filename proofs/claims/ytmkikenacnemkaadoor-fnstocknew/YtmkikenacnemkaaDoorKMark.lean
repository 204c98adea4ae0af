/- Contracts of the law's marks over lists of holds and stocks, and of the look that they are held. For lists of at most 1048576 holds. -/
import Derived.Test.YtmkikenacnemkaaDoorKOk
namespace Go.Proofs.YtmkikenacnemkaaDoor
open Go.RowKit

/-- Holds, all marked. -/
def markH (n : Nat) (k : Int) : List Pl.H := (List.range n).map fun i => (k + 2 * (i : Nat), k + 2 * (i : Nat) + 1)
theorem markH_length (n : Nat) (k : Int) : (markH n k).length = n := by simp [markH]
theorem markH_get? (n : Nat) (k : Int) (i : Nat) (h : i < n) : (markH n k)[i]? = some (k + 2 * i, k + 2 * i + 1) := by simp [markH, h]
theorem markH_get (n : Nat) (k : Int) (i : Nat) (h : i < n) : (markH n k).getD i (0, 0) = (k + 2 * i, k + 2 * i + 1) := by
  rw [List.getD_eq_getElem?_getD, markH_get? n k i h]; rfl

theorem mixH_set (A xs : List Pl.H) (i : Nat) (hA : A.length = xs.length) (hi : i < xs.length) (x : Pl.H) (hx : A[i]? = some x) : (A.take i ++ xs.drop i).set i x = A.take (i + 1) ++ xs.drop (i + 1) := by
  have hi' : i < A.length := by omega
  rw [List.set_append_right _ _ (by simp; omega)]
  have h1 : i - (A.take i).length = 0 := by simp; omega
  rw [h1, List.drop_eq_getElem_cons hi, List.set_cons_zero, List.take_succ_eq_append_getElem hi']
  rw [List.getElem?_eq_getElem hi'] at hx
  simp only [Option.some.injEq] at hx
  rw [hx]; simp

theorem holds_mid {l h : Nat} {w w' : World} {lo n : Nat} {v : Value} {hs : List Pl.H} (ho : w.ownsRow lo 40 2 v n (hflat hs)) (hm : Mid l h w w') (hd : ∀ i, v.ownBlock = some i → i < l ∨ h ≤ i) : w'.ownsRow lo 40 2 v n (hflat hs) := ownsRow_mid ho hm hd

end Go.Proofs.YtmkikenacnemkaaDoor
