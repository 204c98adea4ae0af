/- What the laws over a stock and a record share: the two that came in, in the law's own blocks; and what is too great. No conditions. -/
import Derived.Test.YthmbdboljjdcaaaDoorKSDo2
import Derived.Deep.DeepCutAuto
namespace Go.Proofs.YthmbdboljjdcaaaDoor
open Go.RowKit

/-- A stock and a record that came in, in the law's own blocks. -/
def Pr (w : World) (B : Nat) (room : Int) (v : Value) (k t : Int) (u : Value) : Prop := Duo w B (.int .i64 room) v ∧ RecAt w (B + 1) k t u
theorem Pr.later {w w' : World} {B L : Nat} {room : Int} {v : Value} {k t : Int} {u : Value} (h : Pr w B room v k t u) (hb : Below L w w') (hL : w.heap.size ≤ L) : Pr w' B room v k t u := ⟨h.1.later hb hL, h.2.later hb hL⟩
theorem Pr.new (w : World) (room : Int) (v : Value) (k t : Int) (u : Value) (t1 t2 : TypeId) : Pr ((w.alloc (.cells #[.int .i64 room, v] t1)).alloc (.cells #[.int .i64 k, .int .i64 t, u] t2)) w.heap.size room v k t u := by
  refine ⟨(Duo.new w _ _ _).later (al_below _ _) (Nat.le_refl _), ?_⟩
  have h := RecAt.new (w.alloc (.cells #[.int .i64 room, v] t1)) k t u t2
  rw [World.size_alloc] at h
  exact h

theorem RecAt.mid {lo hi : Nat} {w w' : World} {b : Nat} {k t : Int} {u : Value} (h : RecAt w b k t u) (hm : Mid lo hi w w') (hb : b < lo ∨ hi ≤ b) : RecAt w' b k t u := by
  have hlt := World.block_lt_of_cell? _ _ h.1
  simp at hlt
  have e := hm.block b hlt hb
  exact ⟨by rw [← h.1]; exact World.cell?_of_block (a := ⟨b, 0, none⟩) e, by rw [← h.2.1]; exact World.cell?_of_block (a := ⟨b, 1, none⟩) e, by rw [← h.2.2]; exact World.cell?_of_block (a := ⟨b, 2, none⟩) e⟩
theorem Duo.mid' {lo hi : Nat} {w w' : World} {b : Nat} {x y : Value} (h : Duo w b x y) (hm : Mid lo hi w w') (hb : b < lo ∨ hi ≤ b) : Duo w' b x y := by
  have hlt := h.lt
  have e := hm.block b hlt hb
  exact ⟨by rw [← h.1]; exact World.cell?_of_block (a := ⟨b, 0, none⟩) e, by rw [← h.2]; exact World.cell?_of_block (a := ⟨b, 1, none⟩) e⟩

theorem k_drew {w2 w3 : World} (hb : Below w2.drew.heap.size w2.drew w3) : Below w2.heap.size w2 w3 := (Below.refl w2.heap.size w2).drew.trans hb
theorem k_size0 (w : World) : w.drew.heap.size = w.heap.size := rfl

end Go.Proofs.YthmbdboljjdcaaaDoor
