/- A block of memory as it lies, and what stays of it while others turn. Plain facts of worlds; nothing is walked here. -/
import Derived.Test.YtfpjohbcbflnhaaDoorSLog
namespace Go.Proofs.YtfpjohbcbflnhaaDoor
open Go.RowKit

/-- A record as plain data: its kind, its trip, its numbers. -/
abbrev Rc := R

/-- A block as it lies. -/
def Blk (w : World) (b : Nat) (cs : Array Value) (ty : TypeId) : Prop := w.heap[b]? = some (.cells cs ty (0, 0))
theorem Blk.new (w : World) (cs : Array Value) (ty : TypeId) : Blk (w.alloc (.cells cs ty)) w.heap.size cs ty := heap_alloc_new w _
theorem Blk.lt {w : World} {b : Nat} {cs : Array Value} {ty : TypeId} (h : Blk w b cs ty) : b < w.heap.size := lt_of_heap h
theorem Blk.later {w w' : World} {b L : Nat} {cs : Array Value} {ty : TypeId} (h : Blk w b cs ty) (hb : Below L w w') (hL : b < L) : Blk w' b cs ty := by
  unfold Blk; rw [hb.block b hL]; exact h
theorem Blk.after {w w' : World} {b : Nat} {cs : Array Value} {ty : TypeId} (h : Blk w b cs ty) (hb : Below w.heap.size w w') : Blk w' b cs ty := h.later hb h.lt
theorem Blk.mid {w w' : World} {b l h' : Nat} {cs : Array Value} {ty : TypeId} (h : Blk w b cs ty) (hm : Mid l h' w w') (hb : b < l ∨ h' ≤ b) : Blk w' b cs ty := by
  unfold Blk; rw [hm.block b h.lt hb]; exact h
theorem Blk.cell {w : World} {b : Nat} {cs : Array Value} {ty : TypeId} (h : Blk w b cs ty) (i : Nat) : w.cell? ⟨b, i, none⟩ = cs[i]? := cell_of_row w _ _ _ _ _ h
theorem Blk.free {w : World} {b : Nat} {cs : Array Value} {ty : TypeId} (h : Blk w b cs ty) (i : Nat) : w.frozen? ⟨b, i, none⟩ = false := frozen_of_row w _ _ _ _ h
theorem Blk.other {w : World} {b : Nat} {cs : Array Value} {ty : TypeId} (h : Blk w b cs ty) {a : Addr} (ha : b ≠ a.block) (x : Value) : Blk (w.setCell a x) b cs ty := by
  unfold Blk; rw [Below.heap_setCell _ _ _ _ ha]; exact h
theorem Blk.alloc {w : World} {b : Nat} {cs : Array Value} {ty : TypeId} (h : Blk w b cs ty) (o : Obj) : Blk (w.alloc o) b cs ty := h.after (alloc_below w o)
theorem Blk.cells5 {w : World} {b : Nat} {x0 x1 x2 x3 x4 : Value} {ty : TypeId} (h : Blk w b #[x0, x1, x2, x3, x4] ty) :
    w.cell? ⟨b, 0, none⟩ = some x0 ∧ w.cell? ⟨b, 1, none⟩ = some x1 ∧ w.cell? ⟨b, 2, none⟩ = some x2 ∧ w.cell? ⟨b, 3, none⟩ = some x3 ∧ w.cell? ⟨b, 4, none⟩ = some x4 := by
  refine ⟨?_, ?_, ?_, ?_, ?_⟩ <;> (rw [h.cell]; rfl)
theorem Blk.cells2 {w : World} {b : Nat} {x0 x1 : Value} {ty : TypeId} (h : Blk w b #[x0, x1] ty) :
    w.cell? ⟨b, 0, none⟩ = some x0 ∧ w.cell? ⟨b, 1, none⟩ = some x1 := by
  refine ⟨?_, ?_⟩ <;> (rw [h.cell]; rfl)
theorem Blk.free5 {w : World} {b : Nat} {cs : Array Value} {ty : TypeId} (h : Blk w b cs ty) :
    w.frozen? ⟨b, 0, none⟩ = false ∧ w.frozen? ⟨b, 1, none⟩ = false ∧ w.frozen? ⟨b, 2, none⟩ = false ∧ w.frozen? ⟨b, 3, none⟩ = false ∧ w.frozen? ⟨b, 4, none⟩ = false :=
  ⟨h.free 0, h.free 1, h.free 2, h.free 3, h.free 4⟩
theorem Blk.new2 (w : World) (o : Obj) (cs : Array Value) (ty : TypeId) : Blk ((w.alloc o).alloc (.cells cs ty)) (w.heap.size + 1) cs ty := by
  have h := Blk.new (w.alloc o) cs ty
  rw [size1] at h
  exact h
theorem Blk.set_ {w : World} {b : Nat} {cs : Array Value} {ty : TypeId} (h : Blk w b cs ty) (i : Nat) (x : Value) : Blk (w.setCell ⟨b, i, none⟩ x) b (cs.setIfInBounds i x) ty := by
  unfold Blk; rw [heap_setCell_same w b i _ _ x h]

theorem Blk.drew {w : World} {b : Nat} {cs : Array Value} {ty : TypeId} (h : Blk w b cs ty) : Blk w.drew b cs ty := h.after (Below.refl _ _).drew
/-- Blocks of unlike types are not one. -/
theorem Blk.ne {w : World} {b b' : Nat} {cs cs' : Array Value} {ty ty' : TypeId} (h : Blk w b cs ty) (h' : Blk w b' cs' ty') (ht : ty ≠ ty') : b ≠ b' := by
  intro e
  subst e
  unfold Blk at h h'
  rw [h] at h'
  simp at h'
  exact ht h'.2
theorem Blk.cells3 {w : World} {b : Nat} {x0 x1 x2 : Value} {ty : TypeId} (h : Blk w b #[x0, x1, x2] ty) :
    w.cell? ⟨b, 0, none⟩ = some x0 ∧ w.cell? ⟨b, 1, none⟩ = some x1 ∧ w.cell? ⟨b, 2, none⟩ = some x2 := by
  refine ⟨?_, ?_, ?_⟩ <;> (rw [h.cell]; rfl)
theorem row_apart {w : World} {base : Nat} {ty ty' : TypeId} {sz n g : Nat} {x : Value} {xs : List Value} {cur : Array Value} {fz : Nat × Nat} (hr : w.ownsRow base ty sz x n xs) (hh : w.heap[g]? = some (.cells cur ty' fz)) (ht : ty ≠ ty') : ∀ k, x.ownBlock = some k → k ≠ g := by
  intro k hk e
  subst e
  rcases hr.2 with ⟨hv, _⟩ | ⟨g', cap, cur', hv, _, h2, _⟩
  · rw [hv] at hk; simp [Value.ownBlock] at hk
  · rw [hv] at hk
    simp [Value.ownBlock] at hk
    subst hk
    rw [hh] at h2
    simp at h2
    exact ht h2.2.1.symm
/-- A row of the call's own is no such block. -/
theorem Blk.off {w : World} {b base sz n : Nat} {cs : Array Value} {ty ty' : TypeId} {v : Value} {xs : List Value} (h : Blk w b cs ty) (hr : w.ownsRow base ty' sz v n xs) (ht : ty' ≠ ty) : v.ownBlock ≠ some b := fun e => row_apart hr h ht b e rfl

end Go.Proofs.YtfpjohbcbflnhaaDoor
