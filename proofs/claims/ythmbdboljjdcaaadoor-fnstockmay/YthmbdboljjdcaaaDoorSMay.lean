/- The draw of a stock and a record (DrawStockMay). For codes of at most 1048576 bytes. -/
import Derived.Test.YthmbdboljjdcaaaDoorSStock
import Derived.Test.YthmbdboljjdcaaaDoorDRec
import Derived.Test.YthmbdboljjdcaaaDoorHeld
namespace Go.Proofs.YthmbdboljjdcaaaDoor
open Go.RowKit

/-- While a stock and a record are drawn: the results' blocks, the reader, the stock's block and its holds, the record's block and its numbers. -/
structure StRM (w W : World) (b q S X : Nat) (room : Int) (u : Value) (hs : List Pl.H) (k t : Int) (uz : Value) (zs : List Int) : Prop where
  res1 : ∃ ra rc, W.heap[w.heap.size]? = some (.cells #[ra, rc] 25 (0, 0))
  res2 : ∃ r0 r1 r2, W.heap[w.heap.size + 1]? = some (.cells #[r0, r1, r2] 28 (0, 0))
  stk : W.heap[S]? = some (.cells #[.int .i64 room, u] 25 (0, 0))
  row : W.heap[X]? = some (.cells #[.int .i64 k, .int .i64 t, uz] 28 (0, 0))
  ltS : b < S
  ltX : b < X
  hol : Holds W u hs
  own : ∀ g, u.ownBlock = some g → b < g ∧ g < X
  num : ∃ cap, Fresh W w.heap.size uz zs cap
  rd : Rd W b q
  ltb : w.heap.size + 1 < b
  low : Below w.heap.size w W

theorem keepR {W W' : World} {b q g : Nat} {cs : Array Value} {ty : TypeId} (hr : Rd W b q) (hb : Mid b (b + 1) W W') (hg : W.heap[g]? = some (.cells cs ty (0, 0))) (ht : ty ≠ 60) : W'.heap[g]? = some (.cells cs ty (0, 0)) := by
  obtain ⟨x, n, _, h1, _⟩ := hr
  have hne := ne_of_type hg h1 ht
  rw [hb.block g (heap_lt hg) (by omega)]; exact hg

theorem StRM.step {w W W' : World} {b q q' S X : Nat} {room : Int} {u : Value} {hs : List Pl.H} {k t : Int} {uz : Value} {zs : List Int} (h : StRM w W b q S X room u hs k t uz zs) (hb : Mid b (b + 1) W W') (hr : Rd W' b q') : StRM w W' b q' S X room u hs k t uz zs := by
  have hl := h.ltb
  refine ⟨?_, ?_, keepR h.rd hb h.stk (by decide), keepR h.rd hb h.row (by decide), h.ltS, h.ltX, h.hol.keep (fun g hg => ?_), h.own, ?_, hr, hl, h.low.trans (hb.below (by omega) h.low.size)⟩
  · obtain ⟨ra, rc, e⟩ := h.res1; exact ⟨ra, rc, keepR h.rd hb e (by decide)⟩
  · obtain ⟨r0, r1, r2, e⟩ := h.res2; exact ⟨r0, r1, r2, keepR h.rd hb e (by decide)⟩
  · obtain ⟨h1, h2⟩ := h.own g hg
    have := heap_lt h.row
    exact hb.block g (by omega) (Or.inr (by omega))
  · obtain ⟨cap, hf⟩ := h.num; exact ⟨cap, hf.mid h.rd hb⟩
theorem StRM.later {w W W' : World} {b q S X : Nat} {room : Int} {u : Value} {hs : List Pl.H} {k t : Int} {uz : Value} {zs : List Int} (h : StRM w W b q S X room u hs k t uz zs) (hb : Below W.heap.size W W') : StRM w W' b q S X room u hs k t uz zs :=
  h.step (Mid.of_below hb (Nat.le_refl _)) (h.rd.later hb (Nat.le_refl _))
theorem StRM.cells {w W : World} {b q S X : Nat} {room : Int} {u : Value} {hs : List Pl.H} {k t : Int} {uz : Value} {zs : List Int} (h : StRM w W b q S X room u hs k t uz zs) :
    (W.cell? ⟨S, 0, none⟩ = some (.int .i64 room) ∧ W.cell? ⟨S, 1, none⟩ = some u ∧ S < W.heap.size) ∧
    (W.cell? ⟨X, 0, none⟩ = some (.int .i64 k) ∧ W.cell? ⟨X, 1, none⟩ = some (.int .i64 t) ∧ W.cell? ⟨X, 2, none⟩ = some uz ∧ X < W.heap.size) ∧
    (W.frozen? ⟨X, 0, none⟩ = false ∧ W.frozen? ⟨X, 1, none⟩ = false ∧ W.frozen? ⟨X, 2, none⟩ = false) := by
  refine ⟨⟨?_, ?_, heap_lt h.stk⟩, ⟨?_, ?_, ?_, heap_lt h.row⟩, frozen_of_row W _ _ _ _ h.row, frozen_of_row W _ _ _ _ h.row, frozen_of_row W _ _ _ _ h.row⟩
  · rw [cell_of_row W _ _ _ _ _ h.stk]; rfl
  · rw [cell_of_row W _ _ _ _ _ h.stk]; rfl
  · rw [cell_of_row W _ _ _ _ _ h.row]; rfl
  · rw [cell_of_row W _ _ _ _ _ h.row]; rfl
  · rw [cell_of_row W _ _ _ _ _ h.row]; rfl
theorem StRM.cellsR {w W : World} {b q S X : Nat} {room : Int} {u : Value} {hs : List Pl.H} {k t : Int} {uz : Value} {zs : List Int} (h : StRM w W b q S X room u hs k t uz zs) :
    (∃ ra rc, W.cell? ⟨w.heap.size, 0, none⟩ = some ra ∧ W.cell? ⟨w.heap.size, 1, none⟩ = some rc) ∧ (W.frozen? ⟨w.heap.size, 0, none⟩ = false ∧ W.frozen? ⟨w.heap.size, 1, none⟩ = false) ∧
    (∃ r0 r1 r2, W.cell? ⟨w.heap.size + 1, 0, none⟩ = some r0 ∧ W.cell? ⟨w.heap.size + 1, 1, none⟩ = some r1 ∧ W.cell? ⟨w.heap.size + 1, 2, none⟩ = some r2) ∧ (W.frozen? ⟨w.heap.size + 1, 0, none⟩ = false ∧ W.frozen? ⟨w.heap.size + 1, 1, none⟩ = false ∧ W.frozen? ⟨w.heap.size + 1, 2, none⟩ = false) := by
  obtain ⟨ra, rc, e⟩ := h.res1
  obtain ⟨r0, r1, r2, e2⟩ := h.res2
  refine ⟨⟨ra, rc, ?_, ?_⟩, ⟨frozen_of_row W _ _ _ _ e, frozen_of_row W _ _ _ _ e⟩, ⟨r0, r1, r2, ?_, ?_, ?_⟩, frozen_of_row W _ _ _ _ e2, frozen_of_row W _ _ _ _ e2, frozen_of_row W _ _ _ _ e2⟩
  · rw [cell_of_row W _ _ _ _ _ e]; rfl
  · rw [cell_of_row W _ _ _ _ _ e]; rfl
  · rw [cell_of_row W _ _ _ _ _ e2]; rfl
  · rw [cell_of_row W _ _ _ _ _ e2]; rfl
  · rw [cell_of_row W _ _ _ _ _ e2]; rfl
/-- The record's block is given other numbers. -/
theorem StRM.setX {w W : World} {b q S X i : Nat} {room : Int} {u : Value} {hs : List Pl.H} {k t k' t' : Int} {uz uz' : Value} {zs zs' : List Int} (h : StRM w W b q S X room u hs k t uz zs) (x : Value)
    (e : (#[.int .i64 k, .int .i64 t, uz] : Array Value).setIfInBounds i x = #[.int .i64 k', .int .i64 t', uz']) (hn : ∃ cap, Fresh W w.heap.size uz' zs' cap) : StRM w (W.setCell ⟨X, i, none⟩ x) b q S X room u hs k' t' uz' zs' := by
  have hX := h.ltX
  have hlb := h.ltb
  have o : ∀ {g : Nat} {cs : Array Value} {ty : TypeId}, ty ≠ 28 → W.heap[g]? = some (.cells cs ty (0, 0)) → (W.setCell ⟨X, i, none⟩ x).heap[g]? = some (.cells cs ty (0, 0)) := fun ht hg => by
    rw [Below.heap_setCell _ _ _ _ (ne_of_type hg h.row ht)]; exact hg
  refine ⟨?_, ?_, o (by decide) h.stk, by rw [heap_setCell_same W X i _ _ _ h.row, e], h.ltS, hX, h.hol.keep (fun g hg => ?_), h.own, ?_, h.rd.setApart hX _, h.ltb, h.low.setCell (by simp; omega) _⟩
  · obtain ⟨ra, rc, e1⟩ := h.res1; exact ⟨ra, rc, o (by decide) e1⟩
  · obtain ⟨r0, r1, r2, e2⟩ := h.res2; exact ⟨r0, r1, r2, by rw [Below.heap_setCell _ _ _ _ (by simp; omega)]; exact e2⟩
  · obtain ⟨h1, h2⟩ := h.own g hg
    exact Below.heap_setCell _ _ _ _ (by simp; omega)
  · obtain ⟨cap, hf⟩ := hn; exact ⟨cap, hf.set h.row (by decide) x⟩

/-- The results are written: what was drawn stays. -/
theorem StRM.done {w W : World} {b q S X : Nat} {room : Int} {u : Value} {hs : List Pl.H} {k t : Int} {uz : Value} {zs : List Int} (h : StRM w W b q S X room u hs k t uz zs) (a0 a1 c0 c1 c2 : Value) :
    Holds (((((W.setCell ⟨w.heap.size, 0, none⟩ a0).setCell ⟨w.heap.size, 1, none⟩ a1).setCell ⟨w.heap.size + 1, 0, none⟩ c0).setCell ⟨w.heap.size + 1, 1, none⟩ c1).setCell ⟨w.heap.size + 1, 2, none⟩ c2) u hs ∧
    Ints (((((W.setCell ⟨w.heap.size, 0, none⟩ a0).setCell ⟨w.heap.size, 1, none⟩ a1).setCell ⟨w.heap.size + 1, 0, none⟩ c0).setCell ⟨w.heap.size + 1, 1, none⟩ c1).setCell ⟨w.heap.size + 1, 2, none⟩ c2) uz zs ∧
    Below w.heap.size w (((((W.setCell ⟨w.heap.size, 0, none⟩ a0).setCell ⟨w.heap.size, 1, none⟩ a1).setCell ⟨w.heap.size + 1, 0, none⟩ c0).setCell ⟨w.heap.size + 1, 1, none⟩ c1).setCell ⟨w.heap.size + 1, 2, none⟩ c2) := by
  have hlb := h.ltb
  obtain ⟨ra, rc, e1⟩ := h.res1
  obtain ⟨r0, r1, r2, e2⟩ := h.res2
  have i0 := heap_setCell_same W w.heap.size 0 _ _ a0 e1
  have j1 : ((W.setCell ⟨w.heap.size, 0, none⟩ a0).setCell ⟨w.heap.size, 1, none⟩ a1).heap[w.heap.size + 1]? = some (.cells #[r0, r1, r2] 28 (0, 0)) := by
    rw [Below.heap_setCell _ _ _ _ (by simp), Below.heap_setCell _ _ _ _ (by simp)]; exact e2
  have j2 := heap_setCell_same _ (w.heap.size + 1) 0 _ _ c0 j1
  have j3 := heap_setCell_same _ (w.heap.size + 1) 1 _ _ c1 j2
  refine ⟨?_, ?_, ((((h.low.setCell (by simp) _).setCell (by simp) _).setCell (by simp) _).setCell (by simp) _).setCell (by simp) _⟩
  · refine h.hol.keep fun g hg => ?_
    obtain ⟨h1, h2⟩ := h.own g hg
    rw [Below.heap_setCell _ _ _ _ (by simp; omega), Below.heap_setCell _ _ _ _ (by simp; omega), Below.heap_setCell _ _ _ _ (by simp; omega), Below.heap_setCell _ _ _ _ (by simp; omega), Below.heap_setCell _ _ _ _ (by simp; omega)]
  · obtain ⟨cap, hf⟩ := h.num
    exact (((((hf.set e1 (by decide) _).set i0 (by decide) _).set j1 (by decide) _).set j2 (by decide) _).set j3 (by decide) _).ints

theorem StRM.doneD {w W : World} {b q S X : Nat} {room : Int} {u : Value} {hs : List Pl.H} {k t : Int} {uz : Value} {zs : List Int} (h : StRM w W b q S X room u hs k t uz zs) (a0 a1 c0 c1 c2 : Value) :
    Holds (((((W.setCell ⟨w.heap.size, 0, none⟩ a0).setCell ⟨w.heap.size, 1, none⟩ a1).setCell ⟨w.heap.size + 1, 0, none⟩ c0).setCell ⟨w.heap.size + 1, 1, none⟩ c1).setCell ⟨w.heap.size + 1, 2, none⟩ c2).drew u hs ∧ Ints (((((W.setCell ⟨w.heap.size, 0, none⟩ a0).setCell ⟨w.heap.size, 1, none⟩ a1).setCell ⟨w.heap.size + 1, 0, none⟩ c0).setCell ⟨w.heap.size + 1, 1, none⟩ c1).setCell ⟨w.heap.size + 1, 2, none⟩ c2).drew uz zs ∧ Below w.heap.size w (((((W.setCell ⟨w.heap.size, 0, none⟩ a0).setCell ⟨w.heap.size, 1, none⟩ a1).setCell ⟨w.heap.size + 1, 0, none⟩ c0).setCell ⟨w.heap.size + 1, 1, none⟩ c1).setCell ⟨w.heap.size + 1, 2, none⟩ c2).drew := by
  obtain ⟨h1, h2, h3⟩ := h.done a0 a1 c0 c1 c2
  exact ⟨h1.later (Below.refl _ _).drew (Nat.le_refl _), h2.later (Below.refl _ _).drew (Nat.le_refl _), h3.drew⟩

end Go.Proofs.YthmbdboljjdcaaaDoor
