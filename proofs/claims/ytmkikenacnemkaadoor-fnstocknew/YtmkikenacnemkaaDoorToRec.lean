/- Contracts of the law's helpers over records: how great one is, a copy of it, and whether two are the same. For lists of at most 1048576 numbers. -/
import Derived.Test.YtmkikenacnemkaaDoorTo
namespace Go.Proofs.YtmkikenacnemkaaDoor
open Go.RowKit

theorem bcell {W w1 : World} (hb : Below W.heap.size W w1) : (∀ b o, b < W.heap.size → w1.cell? ⟨b, o, none⟩ = W.cell? ⟨b, o, none⟩) ∧ (∀ b o, b < W.heap.size → w1.frozen? ⟨b, o, none⟩ = W.frozen? ⟨b, o, none⟩) :=
  ⟨fun b o h => hb.cell (p := ⟨b, o, none⟩) h, fun b o h => hb.frozen (p := ⟨b, o, none⟩) h⟩

theorem size3 (w : World) (o1 o2 o3 : Obj) : (((w.alloc o1).alloc o2).alloc o3).heap.size = w.heap.size + 3 := by simp
theorem below3 (w : World) (o1 o2 o3 : Obj) : Below w.heap.size w (((w.alloc o1).alloc o2).alloc o3) :=
  (((Below.refl _ _).alloc (Nat.le_refl _) _).alloc (by simp) _).alloc (by simp; omega) _
theorem below2 (w : World) (o1 o2 : Obj) : Below w.heap.size w ((w.alloc o1).alloc o2) :=
  ((Below.refl _ _).alloc (Nat.le_refl _) _).alloc (by simp) _
theorem size2 (w : World) (o1 o2 : Obj) : ((w.alloc o1).alloc o2).heap.size = w.heap.size + 2 := by simp

/-- A record lies at the head of this block. -/
def RecAt (w : World) (b : Nat) (k t : Int) (v : Value) : Prop :=
  w.cell? ⟨b, 0, none⟩ = some (.int .i64 k) ∧ w.cell? ⟨b, 1, none⟩ = some (.int .i64 t) ∧ w.cell? ⟨b, 2, none⟩ = some v
theorem RecAt.later {B : Nat} {w w' : World} {b : Nat} {k t : Int} {v : Value} (h : RecAt w b k t v) (hb : Below B w w') (hB : w.heap.size ≤ B) : RecAt w' b k t v := by
  obtain ⟨h0, h1, h2⟩ := h
  have hlt := World.block_lt_of_cell? _ _ h0
  simp at hlt
  exact ⟨by rw [← h0]; exact hb.cell (p := ⟨b, 0, none⟩) (by simp; omega), by rw [← h1]; exact hb.cell (p := ⟨b, 1, none⟩) (by simp; omega), by rw [← h2]; exact hb.cell (p := ⟨b, 2, none⟩) (by simp; omega)⟩
theorem RecAt.new (w : World) (k t : Int) (v : Value) (ty : TypeId) : RecAt (w.alloc (.cells #[.int .i64 k, .int .i64 t, v] ty)) w.heap.size k t v := by
  refine ⟨?_, ?_, ?_⟩ <;> simp

end Go.Proofs.YtmkikenacnemkaaDoor
