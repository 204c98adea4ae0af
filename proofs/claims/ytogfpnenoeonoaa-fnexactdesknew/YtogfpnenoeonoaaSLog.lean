/- The contract of the specification's copy of a log. For all that together has at most 1048576 records and numbers. -/
import Derived.Test.YtogfpnenoeonoaaSCopy
import Derived.Deep.RegionLaw
import Derived.Deep.AppendLies
namespace Go.Proofs.Ytogfpnenoeonoaa
open Go.RowKit

/-- The blocks that the copy reads and writes: the log that came in, the result's, and the one that is made. -/
def Boxes (w : World) (B : Nat) (v vo : Value) (f : Int) : Prop :=
  w.heap[B]? = some (.cells #[v, .int .i64 f] 24 (0, 0)) ∧ w.heap[B + 1]? = some (.cells #[.slice none 0 0, .int .i64 0] 24 (0, 0)) ∧ w.heap[B + 3]? = some (.cells #[vo, .int .i64 f] 24 (0, 0))

theorem lt_of_heap {w : World} {k : Nat} {o : Obj} (h : w.heap[k]? = some o) : k < w.heap.size := by
  by_cases e : k < w.heap.size
  · exact e
  · rw [Array.getElem?_eq_none (by omega)] at h; cases h

theorem Boxes.size {w : World} {B : Nat} {v vo : Value} {f : Int} (h : Boxes w B v vo f) : B + 3 < w.heap.size := lt_of_heap h.2.2

theorem Boxes.later {w w' : World} {B : Nat} {v vo : Value} {f : Int} (h : Boxes w B v vo f) (hb : Below w.heap.size w w') : Boxes w' B v vo f := by
  have hs := h.size
  obtain ⟨h0, h1, h2⟩ := h
  exact ⟨by rw [hb.block B (by omega)]; exact h0, by rw [hb.block (B + 1) (by omega)]; exact h1, by rw [hb.block (B + 3) hs]; exact h2⟩

theorem Boxes.grown {w w' : World} {B : Nat} {v vo : Value} {f : Int} {row : Option Nat} (h : Boxes w B v vo f) (hg : w.grownBy w' row) (hr : ∀ k, row = some k → B + 2 ≤ k ∧ k ≠ B + 3) : Boxes w' B v vo f := by
  have hs := h.size
  obtain ⟨h0, h1, h2⟩ := h
  refine ⟨?_, ?_, ?_⟩
  · rw [hg.block B (by omega) (fun e => by have := hr _ e.symm; omega)]; exact h0
  · rw [hg.block (B + 1) (by omega) (fun e => by have := hr _ e.symm; omega)]; exact h1
  · rw [hg.block (B + 3) hs (fun e => by have := hr _ e.symm; omega)]; exact h2

theorem Boxes.set {w : World} {B : Nat} {v vo : Value} {f : Int} (h : Boxes w B v vo f) (x : Value) : Boxes (w.setCell ⟨B + 3, 0, none⟩ x) B v x f := by
  obtain ⟨h0, h1, h2⟩ := h
  refine ⟨?_, ?_, ?_⟩
  · rw [Below.heap_setCell _ _ _ _ (by simp)]; exact h0
  · rw [Below.heap_setCell _ _ _ _ (by simp)]; exact h1
  · rw [heap_setCell_same w (B + 3) 0 _ _ x h2]; simp

theorem Boxes.cells {w : World} {B : Nat} {v vo : Value} {f : Int} (h : Boxes w B v vo f) :
    w.cell? ⟨B, 0, none⟩ = some v ∧ w.cell? ⟨B, 1, none⟩ = some (.int .i64 f) ∧ w.cell? ⟨B + 3, 0, none⟩ = some vo ∧ w.cell? ⟨B + 3, 1, none⟩ = some (.int .i64 f) ∧ w.frozen? ⟨B + 3, 0, none⟩ = false ∧
    w.cell? ⟨B + 1, 0, none⟩ = some (.slice none 0 0) ∧ w.cell? ⟨B + 1, 1, none⟩ = some (.int .i64 0) ∧ w.frozen? ⟨B + 1, 0, none⟩ = false ∧ w.frozen? ⟨B + 1, 1, none⟩ = false := by
  obtain ⟨h0, h1, h2⟩ := h
  refine ⟨?_, ?_, ?_, ?_, frozen_of_row w _ _ _ _ h2, ?_, ?_, frozen_of_row w _ _ _ _ h1, frozen_of_row w _ _ _ _ h1⟩
  · rw [cell_of_row w _ _ _ _ _ h0]; rfl
  · rw [cell_of_row w _ _ _ _ _ h0]; rfl
  · rw [cell_of_row w _ _ _ _ _ h2]; rfl
  · rw [cell_of_row w _ _ _ _ _ h2]; rfl
  · rw [cell_of_row w _ _ _ _ _ h1]; rfl
  · rw [cell_of_row w _ _ _ _ _ h1]; rfl

theorem ownsRow_setCell_ne {w : World} {base : Nat} {e : TypeId} {size : Nat} {v : Value} {n : Nat} {xs : List Value} (h : w.ownsRow base e size v n xs) {a : Addr} (ha : ∀ g, v.ownBlock = some g → g ≠ a.block) (u : Value) : (w.setCell a u).ownsRow base e size v n xs := by
  obtain ⟨h1, h2⟩ := h
  refine ⟨h1, ?_⟩
  rcases h2 with h2 | ⟨g, cap, cur, hv, hg, hh, r⟩
  · exact Or.inl h2
  · exact Or.inr ⟨g, cap, cur, hv, hg, by rw [Below.heap_setCell _ _ _ _ (ha g (by rw [hv]; rfl))]; exact hh, r⟩

/-- A row of records is not the log's own block. -/
theorem Boxes.apart {w : World} {B base : Nat} {v vo : Value} {f : Int} {x : Value} {n : Nat} {xs : List Value} {ty : TypeId} {sz : Nat} (h : Boxes w B v vo f) (hr : w.ownsRow base ty sz x n xs) (ht : ty ≠ 24) : ∀ g, x.ownBlock = some g → g ≠ B + 3 := by
  intro g hg e
  subst e
  rcases hr.2 with ⟨hv, _⟩ | ⟨g', cap, cur', hv, _, hh, _⟩
  · rw [hv] at hg; simp [Value.ownBlock] at hg
  · rw [hv] at hg
    simp [Value.ownBlock] at hg
    subst hg
    rw [h.2.2] at hh
    simp at hh
    exact ht hh.2.symm

/-- What one round of the copy does. -/
theorem l1Copy_step {w wr w2 w4 : World} {B : Nat} {v vo : Value} {f : Int} {ps : List (R × Value)} {r : R} {ao2 : Option Addr} {cap2 g cap4 : Nat} {o : Obj} (hB : B = w.heap.size)
    (hrow : wr.ownsRow (B + 2) 44 3 vo ps.length (flat ps)) (hin : Inner wr (B + 2) wr.heap.size ps) (hbox : Boxes wr B v vo f) (hbe : Below w.heap.size w wr)
    (hb2 : Below wr.heap.size wr w2) (hown2 : w2.ownsRow (wr.heap.size + 2) 3 1 (.slice ao2 r.2.2.length cap2) r.2.2.length (r.2.2.map (Value.int .i64)))
    (hown4 : w4.ownsRow (B + 2) 44 3 (.slice (some ⟨g, 0, none⟩) (ps.length + 1) cap4) (ps.length + 1) (flat ps ++ [.int .i64 r.1, .int .i64 r.2.1, .slice ao2 r.2.2.length cap2]))
    (hg4 : (w2.alloc o).grownBy w4 vo.ownBlock) :
    Hid ((w4.setCell ⟨B + 3, 0, none⟩ (.slice (some ⟨g, 0, none⟩) (ps.length + 1) cap4)).ownsRow (B + 2) 44 3 (.slice (some ⟨g, 0, none⟩) (ps.length + 1) cap4) (ps ++ [(r, Value.slice ao2 r.2.2.length cap2)]).length (flat (ps ++ [(r, Value.slice ao2 r.2.2.length cap2)])) ∧
    Inner (w4.setCell ⟨B + 3, 0, none⟩ (.slice (some ⟨g, 0, none⟩) (ps.length + 1) cap4)) (B + 2) (w4.setCell ⟨B + 3, 0, none⟩ (.slice (some ⟨g, 0, none⟩) (ps.length + 1) cap4)).heap.size (ps ++ [(r, Value.slice ao2 r.2.2.length cap2)]) ∧
    Boxes (w4.setCell ⟨B + 3, 0, none⟩ (.slice (some ⟨g, 0, none⟩) (ps.length + 1) cap4)) B v (.slice (some ⟨g, 0, none⟩) (ps.length + 1) cap4) f ∧
    Below w.heap.size w (w4.setCell ⟨B + 3, 0, none⟩ (.slice (some ⟨g, 0, none⟩) (ps.length + 1) cap4))) ∧ Boxes w4 B v vo f := by
  have hsz := hbox.size
  have al := (Below.refl w2.heap.size w2).alloc (Nat.le_refl _) o
  have hs2 : (w2.alloc o).heap.size = w2.heap.size + 1 := by simp
  have hws := hb2.size
  have row3 : (w2.alloc o).ownsRow (B + 2) 44 3 vo ps.length (flat ps) := (ownsRow_below hrow hb2 (fun j hj => (hrow.lt j hj).2)).alloc o
  have in3 : Inner (w2.alloc o) (B + 2) wr.heap.size ps := (hin.below hb2 (Nat.le_refl _)).below al (by omega)
  have new3 := (ownsRow_base hown2 (show B + 2 ≤ wr.heap.size + 2 by omega)).alloc o
  have box3 : Boxes (w2.alloc o) B v vo f := (hbox.later hb2).later al
  have ap3 := box3.apart row3 (by decide)
  have box4 : Boxes w4 B v vo f := box3.grown hg4 (fun k hk => ⟨(row3.lt k hk).1, ap3 k hk⟩)
  have st := append_step (r := r) row3 in3 (by omega) new3 (fun k hk => by have := hown2.lt k hk; omega) hown4 hg4
  have ap4 := box4.apart hown4 (by decide)
  have be4 : Below w.heap.size w w4 := ((hbe.trans (hb2.mono hbe.size)).trans (al.mono (by have := hbe.size; omega))).grown hg4 (by have := hbe.size; omega) (fun k hk => by have := (row3.lt k hk).1; omega)
  refine ⟨⟨ownsRow_setCell_ne st.1 ap4 _, ?_, box4.set _, be4.setCell (by show w.heap.size ≤ B + 3; omega) _⟩, box4⟩
  obtain ⟨i1, i2, i3⟩ := st.2
  have hse : (w4.setCell ⟨B + 3, 0, none⟩ (.slice (some ⟨g, 0, none⟩) (ps.length + 1) cap4)).heap.size = w4.heap.size := by simp
  rw [hse]
  exact ⟨by rw [hse]; exact i1, fun p hp => ⟨ownsRow_setCell_ne (i2 p hp).1 (box4.apart (i2 p hp).1 (by decide)) _, (i2 p hp).2⟩, i3⟩

theorem boxes_new (w : World) (v : Value) (f : Int) (o : Obj) (vo : Value) : Boxes ((((w.alloc (.cells #[v, .int .i64 f] 24)).alloc (.cells #[.slice none 0 0, .int .i64 0] 24)).alloc o).alloc (.cells #[vo, .int .i64 f] 24)) w.heap.size v vo f := by
  refine ⟨?_, ?_, ?_⟩
  · rw [Below.heap_alloc _ _ _ (by simp; omega), Below.heap_alloc _ _ _ (by simp; omega), Below.heap_alloc _ _ _ (by simp)]; exact heap_alloc_new w _
  · rw [Below.heap_alloc _ _ _ (by simp), Below.heap_alloc _ _ _ (by simp)]
    have := heap_alloc_new (w.alloc (.cells #[v, .int .i64 f] 24)) (.cells #[.slice none 0 0, .int .i64 0] 24)
    rw [size1] at this
    exact this
  · have := heap_alloc_new (((w.alloc (.cells #[v, .int .i64 f] 24)).alloc (.cells #[.slice none 0 0, .int .i64 0] 24)).alloc o) (.cells #[vo, .int .i64 f] 24)
    rw [size3] at this
    exact this
theorem below4 (w : World) (o1 o2 o3 o4 : Obj) : Below w.heap.size w ((((w.alloc o1).alloc o2).alloc o3).alloc o4) := (below3 w o1 o2 o3).alloc (by simp; omega) _

theorem cellAlloc {w : World} {b o : Nat} {v : Value} (h : w.cell? ⟨b, o, none⟩ = some v) (x : Obj) : (w.alloc x).cell? ⟨b, o, none⟩ = some v := by
  rw [← h]
  exact ((Below.refl w.heap.size w).alloc (Nat.le_refl _) x).cell (p := ⟨b, o, none⟩) (World.block_lt_of_cell? _ _ h)
theorem news3 (w : World) (k t : Int) (u : Value) (ty : TypeId) : ∀ (j : Nat) (x : Value), [Value.int .i64 k, .int .i64 t, u][j]? = some x → (w.alloc (.cells #[.int .i64 k, .int .i64 t, u] ty)).cell? ((⟨w.heap.size, 0, none⟩ : Addr).add j) = some x := by
  intro j x hj
  match j, hj with
  | 0, hj => simp at hj; subst hj; simp [Addr.add]
  | 1, hj => simp at hj; subst hj; simp [Addr.add]
  | 2, hj => simp at hj; subst hj; simp [Addr.add]
theorem one3 (k t : Int) (ao : Option Addr) {n c : Nat} : ∀ x ∈ [Value.int .i64 k, .int .i64 t, .slice ao n c], x.oneCell' = true := by
  intro x hx; simp at hx; rcases hx with rfl | rfl | rfl <;> rfl

end Go.Proofs.Ytogfpnenoeonoaa
