/- Contracts of what the functions of houses share: the program's keeper, made of a house and turned into one again, and the specification's copy of a house. For all that together has at most 1048576 records and numbers. -/
import Derived.Test.YtclcehfaoeoipaaHTo
import Derived.Test.YtclcehfaoeoipaaSLog
import Derived.Deep.RegionHeld
namespace Go.Proofs.Ytclcehfaoeoipaa
open Go.RowKit

/-- A keeper as a value: its log, its number, whether it is up, how many it has. -/
abbrev keeperV (v : Value) (f id : Int) (up : Bool) (room : Int) : Value := .agg #[v, .int .i64 f, .int .i64 id, .bool up, .int .i64 room]

/-- A block as it lies. -/
def Blk (w : World) (b : Nat) (cs : Array Value) (ty : TypeId) : Prop := w.heap[b]? = some (.cells cs ty (0, 0))
theorem Blk.new (w : World) (cs : Array Value) (ty : TypeId) : Blk (w.alloc (.cells cs ty)) w.heap.size cs ty := heap_alloc_new w _
theorem Blk.lt {w : World} {b : Nat} {cs : Array Value} {ty : TypeId} (h : Blk w b cs ty) : b < w.heap.size := lt_of_heap h
theorem Blk.later {w w' : World} {b L : Nat} {cs : Array Value} {ty : TypeId} (h : Blk w b cs ty) (hb : Below L w w') (hL : b < L) : Blk w' b cs ty := by
  unfold Blk; rw [hb.block b hL]; exact h
theorem Blk.after {w w' : World} {b : Nat} {cs : Array Value} {ty : TypeId} (h : Blk w b cs ty) (hb : Below w.heap.size w w') : Blk w' b cs ty := h.later hb h.lt
theorem Blk.mid {w w' : World} {b l h' : Nat} {cs : Array Value} {ty : TypeId} (h : Blk w b cs ty) (hm : Mid l h' w w') (hb : b < l ∨ h' ≤ b) : Blk w' b cs ty := by
  unfold Blk; rw [hm.block b h.lt hb]; exact h
theorem Blk.cell {w : World} {b : Nat} {cs : Array Value} {ty : TypeId} (h : Blk w b cs ty) (i : Nat) : w.cell? ⟨b, i, none⟩ = cs[i]? := cell_of_row w _ _ _ _ _ h
theorem Blk.free {w : World} {b : Nat} {cs : Array Value} {ty : TypeId} (h : Blk w b cs ty) (i : Nat) : w.frozen? ⟨b, i, none⟩ = false := frozen_of_row w _ _ _ _ h
theorem Blk.other {w : World} {b : Nat} {cs : Array Value} {ty : TypeId} (h : Blk w b cs ty) {a : Addr} (ha : b ≠ a.block) (x : Value) : Blk (w.setCell a x) b cs ty := by
  unfold Blk; rw [Below.heap_setCell _ _ _ _ ha]; exact h
theorem Blk.alloc {w : World} {b : Nat} {cs : Array Value} {ty : TypeId} (h : Blk w b cs ty) (o : Obj) : Blk (w.alloc o) b cs ty := h.after (alloc_below w o)
theorem Blk.cells5 {w : World} {b : Nat} {x0 x1 x2 x3 x4 : Value} {ty : TypeId} (h : Blk w b #[x0, x1, x2, x3, x4] ty) :
    w.cell? ⟨b, 0, none⟩ = some x0 ∧ w.cell? ⟨b, 1, none⟩ = some x1 ∧ w.cell? ⟨b, 2, none⟩ = some x2 ∧ w.cell? ⟨b, 3, none⟩ = some x3 ∧ w.cell? ⟨b, 4, none⟩ = some x4 := by
  refine ⟨?_, ?_, ?_, ?_, ?_⟩ <;> (rw [h.cell]; rfl)
theorem Blk.cells2 {w : World} {b : Nat} {x0 x1 : Value} {ty : TypeId} (h : Blk w b #[x0, x1] ty) :
    w.cell? ⟨b, 0, none⟩ = some x0 ∧ w.cell? ⟨b, 1, none⟩ = some x1 := by
  refine ⟨?_, ?_⟩ <;> (rw [h.cell]; rfl)
theorem Blk.free5 {w : World} {b : Nat} {cs : Array Value} {ty : TypeId} (h : Blk w b cs ty) :
    w.frozen? ⟨b, 0, none⟩ = false ∧ w.frozen? ⟨b, 1, none⟩ = false ∧ w.frozen? ⟨b, 2, none⟩ = false ∧ w.frozen? ⟨b, 3, none⟩ = false ∧ w.frozen? ⟨b, 4, none⟩ = false :=
  ⟨h.free 0, h.free 1, h.free 2, h.free 3, h.free 4⟩
theorem Blk.new2 (w : World) (o : Obj) (cs : Array Value) (ty : TypeId) : Blk ((w.alloc o).alloc (.cells cs ty)) (w.heap.size + 1) cs ty := by
  have h := Blk.new (w.alloc o) cs ty
  rw [size1] at h
  exact h

end Go.Proofs.Ytclcehfaoeoipaa
