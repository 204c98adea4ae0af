/- Contracts of the two StockOf. For all that together has at most 1048576 records and numbers, in a world in which the sentinel's variable holds a pointer to an errors.errorString. -/
import Derived.Test.YthmbdboljjdcaaaKSDo2
import Derived.Test.YthmbdboljjdcaaaRecs
namespace Go.Proofs.Ythmbdboljjdcaaa
open Go.RowKit

/-- A stock's own block. -/
def SB (W : World) (S : Nat) (x y : Value) : Prop := W.heap[S]? = some (.cells #[x, y] 25 (0, 0))
theorem SB.new (w : World) (x y : Value) : SB (w.alloc (.cells #[x, y] 25)) w.heap.size x y := heap_alloc_new w _
theorem SB.lt {w : World} {b : Nat} {x y : Value} (h : SB w b x y) : b < w.heap.size := by
  unfold SB at h
  by_cases e : b < w.heap.size
  · exact e
  · rw [Array.getElem?_eq_none (by omega)] at h; cases h
theorem SB.later {w w' : World} {b L : Nat} {x y : Value} (h : SB w b x y) (hb : Below L w w') (hL : b < L) : SB w' b x y := by
  unfold SB at *
  rw [hb.block b hL]; exact h
theorem SB.mid {w w' : World} {b l h' : Nat} {x y : Value} (h : SB w b x y) (hm : Mid l h' w w') (hb : b < l ∨ h' ≤ b) : SB w' b x y := by
  have := h.lt
  unfold SB at *
  rw [hm.block b this hb]; exact h
theorem SB.cells {w : World} {b : Nat} {x y : Value} (h : SB w b x y) : w.cell? ⟨b, 0, none⟩ = some x ∧ w.cell? ⟨b, 1, none⟩ = some y ∧ w.frozen? ⟨b, 0, none⟩ = false ∧ w.frozen? ⟨b, 1, none⟩ = false := by
  refine ⟨?_, ?_, frozen_of_row w _ _ _ _ h, frozen_of_row w _ _ _ _ h⟩
  · rw [cell_of_row w _ _ _ _ _ h]; rfl
  · rw [cell_of_row w _ _ _ _ _ h]; rfl
theorem SB.set {w : World} {b : Nat} {x y : Value} (h : SB w b x y) (x' y' : Value) : SB ((w.setCell ⟨b, 0, none⟩ x').setCell ⟨b, 1, none⟩ y') b x' y' := by
  have h2 := heap_setCell_same w b 0 _ _ x' h
  have h3 := heap_setCell_same _ b 1 _ _ y' h2
  unfold SB
  rw [h3]; rfl
theorem SB.other {w : World} {b c : Nat} {x y : Value} (h : SB w b x y) (hne : b ≠ c) (x' y' : Value) : SB ((w.setCell ⟨c, 0, none⟩ x').setCell ⟨c, 1, none⟩ y') b x y := by
  unfold SB at *
  rw [Below.heap_setCell _ _ _ _ hne, Below.heap_setCell _ _ _ _ hne]; exact h

theorem sRun_nil (room : Int) (hs : List Pl.H) : Pl.sRun room [] hs = some hs := rfl
theorem sRun_no (room : Int) (r : R) (t : List R) (hs : List Pl.H) (h : Pl.sDo room hs r.1 r.2.1 r.2.2 = none) : Pl.sRun room (r :: t) hs = none := by simp [Pl.sRun, h]
theorem sRun_yes (room : Int) (r : R) (t : List R) (hs hs' : List Pl.H) (h : Pl.sDo room hs r.1 r.2.1 r.2.2 = some hs') : Pl.sRun room (r :: t) hs = Pl.sRun room t hs' := by simp [Pl.sRun, h]
theorem drop_at {rs : List R} {k : Nat} {r : R} (h : rs[k]? = some r) : rs.drop k = r :: rs.drop (k + 1) := by
  have hk : k < rs.length := by
    by_cases e : k < rs.length
    · exact e
    · rw [List.getElem?_eq_none (by omega)] at h; cases h
  rw [List.getElem?_eq_getElem hk] at h
  simp only [Option.some.injEq] at h
  rw [List.drop_eq_getElem_cons hk, h]

theorem newO_no {room : Int} (h : Pl.inB room 0 9 = false) : newO room = none := by simp [newO, h]
theorem newO_yes {room : Int} (h : Pl.inB room 0 9 = true) : newO room = some Pl.noHolds := by simp [newO, h]
theorem sOf_no {room : Int} (rs : List R) (h : Pl.inB room 0 9 = false) : Pl.sOf room rs = none := by simp [Pl.sOf, h]
theorem sOf_yes {room : Int} (rs : List R) (h : Pl.inB room 0 9 = true) : Pl.sOf room rs = Pl.sRun room rs Pl.noHolds := by simp [Pl.sOf, h]

theorem row_g {w : World} {base n : Nat} {v : Value} {xs : List Value} (h : w.ownsRow base 30 2 v n xs) (hn : 0 < n) : ∃ g cap, v = .slice (some ⟨g, 0, none⟩) n cap := by
  rcases h.2 with ⟨_, h0⟩ | ⟨g, cap, cur, hv, _⟩
  · omega
  · exact ⟨g, cap, hv⟩

end Go.Proofs.Ythmbdboljjdcaaa
