/- The record that a draw makes. -/
import Derived.Test.YtilbjgidmfdnkaaDMany
import Derived.Deep.RegionLawGrows
import Derived.Deep.RegionHeldLaw
import Derived.Deep.CutBlock
namespace Go.Proofs.Ytilbjgidmfdnkaa
open Go.RowKit

/-- What lies there while a record is drawn: the result's block, the record's own, its numbers, the reader. -/
structure StR (w W : World) (b q X : Nat) (k t : Int) (u : Value) (zs : List Int) : Prop where
  own : W.heap[X]? = some (.cells #[.int .i64 k, .int .i64 t, u] 45 (0, 0))
  res : W.heap[w.heap.size]? = some (.cells #[.int .i64 0, .int .i64 0, .slice none 0 0] 45 (0, 0))
  lt : w.heap.size < X
  many : Fresh W w.heap.size u zs zs.length
  few : zs.length ≤ 3
  rd : Rd W b q
  mid : Mid b (b + 1) w W
  low : b < w.heap.size

theorem row_later {W W' : World} {X B : Nat} {o : Obj} (h : W.heap[X]? = some o) (hb : Below B W W') (hB : W.heap.size ≤ B) : W'.heap[X]? = some o := by
  rw [hb.block X (by have := heap_lt h; omega)]; exact h
theorem row_mid {W W' : World} {X b : Nat} {o : Obj} (h : W.heap[X]? = some o) (hb : Mid b (b + 1) W W') (hx : b < X) : W'.heap[X]? = some o := by
  rw [hb.block X (heap_lt h) (Or.inr (by omega))]; exact h

theorem StR.step {w W W' : World} {b q q' X : Nat} {k t : Int} {u : Value} {zs : List Int} (h : StR w W b q X k t u zs) (hb : Mid b (b + 1) W W') (hr : Rd W' b q') : StR w W' b q' X k t u zs :=
  ⟨row_mid h.own hb (by have := h.lt; have := h.low; omega), row_mid h.res hb h.low, h.lt, h.many.mid h.rd hb, h.few, hr, h.mid.trans hb, h.low⟩
theorem StR.later {w W W' : World} {b q X : Nat} {k t : Int} {u : Value} {zs : List Int} (h : StR w W b q X k t u zs) (hb : Below W.heap.size W W') : StR w W' b q X k t u zs :=
  h.step (Mid.of_below hb (Nat.le_refl _)) (h.rd.later hb (Nat.le_refl _))
theorem StR.cells {w W : World} {b q X : Nat} {k t : Int} {u : Value} {zs : List Int} (h : StR w W b q X k t u zs) :
    (W.cell? ⟨X, 0, none⟩ = some (.int .i64 k) ∧ W.cell? ⟨X, 1, none⟩ = some (.int .i64 t) ∧ W.cell? ⟨X, 2, none⟩ = some u ∧
    W.frozen? ⟨X, 0, none⟩ = false ∧ W.frozen? ⟨X, 1, none⟩ = false ∧ W.frozen? ⟨X, 2, none⟩ = false) ∧
    (W.cell? ⟨w.heap.size, 0, none⟩ = some (.int .i64 0) ∧ W.cell? ⟨w.heap.size, 1, none⟩ = some (.int .i64 0) ∧ W.cell? ⟨w.heap.size, 2, none⟩ = some (.slice none 0 0) ∧
    W.frozen? ⟨w.heap.size, 0, none⟩ = false ∧ W.frozen? ⟨w.heap.size, 1, none⟩ = false ∧ W.frozen? ⟨w.heap.size, 2, none⟩ = false) := by
  refine ⟨⟨?_, ?_, ?_, frozen_of_row W _ _ _ _ h.own, frozen_of_row W _ _ _ _ h.own, frozen_of_row W _ _ _ _ h.own⟩, ⟨?_, ?_, ?_, frozen_of_row W _ _ _ _ h.res, frozen_of_row W _ _ _ _ h.res, frozen_of_row W _ _ _ _ h.res⟩⟩
  · rw [cell_of_row W _ _ _ _ _ h.own]; rfl
  · rw [cell_of_row W _ _ _ _ _ h.own]; rfl
  · rw [cell_of_row W _ _ _ _ _ h.own]; rfl
  · rw [cell_of_row W _ _ _ _ _ h.res]; rfl
  · rw [cell_of_row W _ _ _ _ _ h.res]; rfl
  · rw [cell_of_row W _ _ _ _ _ h.res]; rfl
theorem StR.set0 {w W : World} {b q X : Nat} {k t : Int} {u : Value} {zs : List Int} (h : StR w W b q X k t u zs) (x : Int) : StR w (W.setCell ⟨X, 0, none⟩ (.int .i64 x)) b q X x t u zs :=
  have hl := h.lt
  have hw := h.low
  ⟨by rw [heap_setCell_same W X 0 _ _ _ h.own]; simp, by rw [Below.heap_setCell _ _ _ _ (by simp; omega)]; exact h.res, hl, h.many.set h.own (by decide) _, h.few, h.rd.setApart (by omega) _, h.mid.setNew (by omega) _, hw⟩
theorem StR.set1 {w W : World} {b q X : Nat} {k t : Int} {u : Value} {zs : List Int} (h : StR w W b q X k t u zs) (x : Int) : StR w (W.setCell ⟨X, 1, none⟩ (.int .i64 x)) b q X k x u zs :=
  have hl := h.lt
  have hw := h.low
  ⟨by rw [heap_setCell_same W X 1 _ _ _ h.own]; simp, by rw [Below.heap_setCell _ _ _ _ (by simp; omega)]; exact h.res, hl, h.many.set h.own (by decide) _, h.few, h.rd.setApart (by omega) _, h.mid.setNew (by omega) _, hw⟩
theorem StR.set2 {w W : World} {b q X : Nat} {k t : Int} {u u' : Value} {zs zs' : List Int} (h : StR w W b q X k t u zs) (hm : Fresh W w.heap.size u' zs' zs'.length) (hf : zs'.length ≤ 3) : StR w (W.setCell ⟨X, 2, none⟩ u') b q X k t u' zs' :=
  have hl := h.lt
  have hw := h.low
  ⟨by rw [heap_setCell_same W X 2 _ _ _ h.own]; simp, by rw [Below.heap_setCell _ _ _ _ (by simp; omega)]; exact h.res, hl, hm.set h.own (by decide) _, hf, h.rd.setApart (by omega) _, h.mid.setNew (by omega) _, hw⟩
theorem one_fresh (W : World) (lo : Nat) (x : Int) (h : lo ≤ W.heap.size) : Fresh (W.alloc (.cells #[.int .i64 x] 3)) lo (.slice (some ⟨W.heap.size, 0, none⟩) 1 1) [x] 1 :=
  ⟨W.heap.size, 0, _, rfl, h, heap_alloc_new W _, fun k hk => by match k, hk with | 0, _ => rfl⟩

theorem StR.new2 {w W : World} {b q X : Nat} {k t : Int} {u : Value} {zs : List Int} (h : StR w W b q X k t u zs) (x : Int) : StR w ((W.setCell ⟨X, 2, none⟩ (.slice (some ⟨W.heap.size, 0, none⟩) 1 1)).alloc (.cells #[.int .i64 x] 3)) b q X k t (.slice (some ⟨W.heap.size, 0, none⟩) 1 1) [x] := by
  have hl := h.lt
  have hw := h.low
  have hX := heap_lt h.own
  have hn := heap_alloc_new (W.setCell ⟨X, 2, none⟩ (.slice (some ⟨W.heap.size, 0, none⟩) 1 1)) (.cells #[.int .i64 x] 3)
  rw [show (W.setCell ⟨X, 2, none⟩ (.slice (some ⟨W.heap.size, 0, none⟩) 1 1)).heap.size = W.heap.size by simp] at hn
  refine ⟨?_, ?_, hl, ⟨W.heap.size, 0, _, rfl, by omega, hn, fun k hk => by match k, hk with | 0, _ => rfl⟩, by simp, (h.rd.setApart (by omega) _).alloc _, (h.mid.setNew (by omega) _).alloc _, hw⟩
  · rw [Below.heap_alloc _ _ _ (by simp; omega), heap_setCell_same W X 2 _ _ _ h.own]; simp
  · rw [Below.heap_alloc _ _ _ (by simp; omega), Below.heap_setCell _ _ _ _ (by simp; omega)]; exact h.res

/-- What is left of it when the record is handed back. -/
structure StO (w W : World) (b q : Nat) (u : Value) (zs : List Int) (cap : Nat) : Prop where
  res : ∃ cs, W.heap[w.heap.size]? = some (.cells cs 45 (0, 0))
  many : Fresh W w.heap.size u zs cap
  rd : Rd W b q
  mid : Mid b (b + 1) w W
  low : b < w.heap.size
theorem StR.out {w W : World} {b q X : Nat} {k t : Int} {u : Value} {zs : List Int} (h : StR w W b q X k t u zs) : StO w W b q u zs zs.length := ⟨⟨_, h.res⟩, h.many, h.rd, h.mid, h.low⟩
theorem StO.set {w W : World} {b q : Nat} {u : Value} {zs : List Int} {cap : Nat} (h : StO w W b q u zs cap) (i : Nat) (x : Value) : StO w (W.setCell ⟨w.heap.size, i, none⟩ x) b q u zs cap := by
  obtain ⟨cs, hr⟩ := h.res
  exact ⟨⟨_, heap_setCell_same W _ i _ _ _ hr⟩, h.many.set hr (by decide) _, h.rd.setApart h.low _, h.mid.setNew (Nat.le_refl _) _, h.low⟩

theorem own_fresh {W : World} {base lo n : Nat} {v : Value} {zs : List Int} (h : W.ownsRow base 3 1 v n (zs.map (Value.int .i64))) (hn : 0 < n) (hl : lo ≤ base) : ∃ g cap, v = .slice (some ⟨g, 0, none⟩) zs.length cap ∧ Fresh W lo v zs cap := by
  obtain ⟨h1, h2⟩ := h
  rcases h2 with ⟨_, h0⟩ | ⟨g, cap, cur, hv, hg, hh, _, _, hc, ht⟩
  · omega
  · have hzl : zs.length = n := by simpa using h1
    refine ⟨g, cap, by rw [hzl]; exact hv, g, 0, cur, by rw [hzl]; exact hv, by omega, hh, fun k hk => ?_⟩
    have e : (cur.toList.take (n * 1))[k]? = (zs.map (Value.int .i64))[k]? := by rw [ht]
    rw [List.getElem?_take, if_pos (by omega)] at e
    rw [Nat.zero_add, ← Array.getElem?_toList, e]
    simp [List.getD_eq_getElem?_getD, hk]
theorem StO.setX {w W : World} {b q X i : Nat} {cs : Array Value} {u : Value} {zs : List Int} {cap : Nat} (h : StO w W b q u zs cap) (hX : W.heap[X]? = some (.cells cs 45 (0, 0))) (hl : w.heap.size < X) (x : Value) : StO w (W.setCell ⟨X, i, none⟩ x) b q u zs cap := by
  obtain ⟨cr, hr⟩ := h.res
  have hw := h.low
  exact ⟨⟨cr, by rw [Below.heap_setCell _ _ _ _ (by simp; omega)]; exact hr⟩, h.many.set hX (by decide) _, h.rd.setApart (by omega) _, h.mid.setNew (by omega) _, hw⟩
theorem fresh_cells {W : World} {lo g off : Nat} {zs : List Int} {cap : Nat} (h : Fresh W lo (.slice (some ⟨g, off, none⟩) zs.length cap) zs cap) (j : Nat) (u : Value) (hj : (zs.map (Value.int .i64))[j]? = some u) : W.cell? ((⟨g, off, none⟩ : Addr).add j) = some u := by
  obtain ⟨g', off', cs, hu, _, hh, hc⟩ := h
  simp at hu
  obtain ⟨rfl, rfl⟩ := hu
  have hjl : j < zs.length := by
    by_cases e : j < zs.length
    · exact e
    · rw [List.getElem?_eq_none (by simp; omega)] at hj; cases hj
  rw [Go.WideShapes.add_plain, cell_of_row W _ _ _ _ _ hh, hc j hjl, ← hj]
  simp [List.getD_eq_getElem?_getD, hjl]

end Go.Proofs.Ytilbjgidmfdnkaa
