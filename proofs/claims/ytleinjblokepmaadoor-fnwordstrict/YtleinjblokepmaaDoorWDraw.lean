/- The draws of words out of a code: DrawWordOk and DrawWordText. For codes of at most 1048576 bytes. -/
import Derived.Test.YtleinjblokepmaaDoorDWord
namespace Go.Proofs.YtleinjblokepmaaDoor
open Go.RowKit

set_option maxHeartbeats 2000000 in
theorem drawWordText_any (v : Value) (n : Nat) (w : World) (hv : CodeAt w v n) (hn : n ≤ 1048576) :
    Calls Tryd.prog 7 #[v] w fun e w' => ∃ k h t m : Int, e = .returned (wordV k h t m) ∧ Small4 k h t m ∧ Below w.heap.size w w' := by
  have hv0 := hidden (hv.later (alloc_below w (.cells #[.int .i64 0, .int .i64 0, .int .i64 0, .int .i64 0] 24)) (Nat.le_refl _))
  have HO := hidden (open_any v n _ hv0.out hn)
  obtain ⟨ao, cap, rfl, _⟩ := hv
  obtain ⟨w0, hw0⟩ : ∃ W, Hid (W = w.alloc (.cells #[.int .i64 0, .int .i64 0, .int .i64 0, .int .i64 0] 24)) := ⟨_, rfl⟩
  have B0 : Hid (Below w.heap.size w w0) := by show Below _ _ _; rw [hw0.out]; exact alloc_below _ _
  have S0 : Hid (w0.heap[w.heap.size]? = some (.cells #[.int .i64 0, .int .i64 0, .int .i64 0, .int .i64 0] 24 (0, 0))) := by show _ = _; rw [hw0.out]; exact heap_alloc_new _ _
  have Z0 : Hid (w0.heap.size = w.heap.size + 1) := by show _ = _; rw [hw0.out]; simp
  rw [← hw0.out] at HO
  clear hv0
  go_enter Tryd.func7, Tryd.ntmps7
  go_wp2_with fail
  rw [← hw0.out]
  refine HO.out.mono ?_
  rintro e w1 ⟨rfl, hr1, hs1, hb1⟩
  have R1 := hidden hr1
  have B1 := hidden (B0.out.trans (hb1.mono B0.out.size))
  have S1 : Hid (w1.heap[w.heap.size]? = some (.cells #[.int .i64 0, .int .i64 0, .int .i64 0, .int .i64 0] 24 (0, 0))) := by show _ = _; rw [hb1.block _ (rowW_lt S0.out)]; exact S0.out
  clear hr1 hb1 hs1
  go_wp2_with fail
  refine (word_draw _ 0 _ R1.out (by omega)).mono ?_
  rintro e w2 ⟨k, h, t, m, rfl, hS, q, hq, hr2, m2⟩
  have B2 := hidden (B1.out.trans (m2.below (B := w.heap.size) (by rw [Z0.out]; omega) B1.out.size))
  have S2 : Hid (w2.heap[w.heap.size]? = some (.cells #[.int .i64 0, .int .i64 0, .int .i64 0, .int .i64 0] 24 (0, 0))) := by
    show _ = _
    rw [m2.block _ (rowW_lt S1.out) (Or.inl (by rw [Z0.out]; omega))]; exact S1.out
  have HS := hidden hS
  clear hr2 m2 hS
  have c0 : w2.cell? ⟨w.heap.size, 0, none⟩ = some (.int .i64 0) := by rw [cell_of_row w2 _ _ _ _ _ S2.out]; rfl
  have c1 : w2.cell? ⟨w.heap.size, 1, none⟩ = some (.int .i64 0) := by rw [cell_of_row w2 _ _ _ _ _ S2.out]; rfl
  have c2 : w2.cell? ⟨w.heap.size, 2, none⟩ = some (.int .i64 0) := by rw [cell_of_row w2 _ _ _ _ _ S2.out]; rfl
  have c3 : w2.cell? ⟨w.heap.size, 3, none⟩ = some (.int .i64 0) := by rw [cell_of_row w2 _ _ _ _ _ S2.out]; rfl
  have f0 := frozen_of_row w2 _ 0 _ _ S2.out
  have f1 := frozen_of_row w2 _ 1 _ _ S2.out
  have f2 := frozen_of_row w2 _ 2 _ _ S2.out
  have f3 := frozen_of_row w2 _ 3 _ _ S2.out
  go_wp2
  exact bodyPost_ret (v := wordV k h t m) (by simp [results, Tryd.results7, go_sem, *]) rfl ⟨k, h, t, m, rfl, HS.out, (((B2.out.setCell (by simp) _).setCell (by simp) _).setCell (by simp) _).setCell (by simp) _⟩

/-- While a word is drawn behind the reader's opening: the result's block, the word's block, the reader between them. -/
structure StD (w W : World) (b q X : Nat) (k h t m : Int) : Prop where
  res : W.heap[w.heap.size]? = some (.cells #[.int .i64 0, .int .i64 0, .int .i64 0, .int .i64 0] 24 (0, 0))
  row : W.heap[X]? = some (.cells #[.int .i64 k, .int .i64 h, .int .i64 t, .int .i64 m] 24 (0, 0))
  nb : b < X
  rd : Rd W b q
  lt : w.heap.size < b
  low : Below w.heap.size w W
theorem StD.ne {w W : World} {b q X : Nat} {k h t m : Int} (s : StD w W b q X k h t m) : w.heap.size < X := by have := s.nb; have := s.lt; omega
theorem StD.step {w W W' : World} {b q q' X : Nat} {k h t m : Int} (s : StD w W b q X k h t m) (hb : Mid b (b + 1) W W') (hr : Rd W' b q') : StD w W' b q' X k h t m :=
  ⟨by rw [hb.block _ (rowW_lt s.res) (Or.inl s.lt)]; exact s.res, rowW_mid s.row hb s.nb, s.nb, hr, s.lt, s.low.trans (hb.below (Nat.le_of_lt s.lt) s.low.size)⟩
theorem StD.cells {w W : World} {b q X : Nat} {k h t m : Int} (s : StD w W b q X k h t m) :
    (W.cell? ⟨X, 0, none⟩ = some (.int .i64 k) ∧ W.cell? ⟨X, 1, none⟩ = some (.int .i64 h) ∧ W.cell? ⟨X, 2, none⟩ = some (.int .i64 t) ∧ W.cell? ⟨X, 3, none⟩ = some (.int .i64 m)) ∧
    (W.frozen? ⟨X, 0, none⟩ = false ∧ W.frozen? ⟨X, 1, none⟩ = false ∧ W.frozen? ⟨X, 2, none⟩ = false ∧ W.frozen? ⟨X, 3, none⟩ = false) ∧
    (W.cell? ⟨w.heap.size, 0, none⟩ = some (.int .i64 0) ∧ W.cell? ⟨w.heap.size, 1, none⟩ = some (.int .i64 0) ∧ W.cell? ⟨w.heap.size, 2, none⟩ = some (.int .i64 0) ∧ W.cell? ⟨w.heap.size, 3, none⟩ = some (.int .i64 0)) ∧
    (W.frozen? ⟨w.heap.size, 0, none⟩ = false ∧ W.frozen? ⟨w.heap.size, 1, none⟩ = false ∧ W.frozen? ⟨w.heap.size, 2, none⟩ = false ∧ W.frozen? ⟨w.heap.size, 3, none⟩ = false) ∧ X < W.heap.size ∧ w.heap.size < W.heap.size := by
  have f1 := fun j => frozen_of_row W X j _ _ s.row
  have f2 := fun j => frozen_of_row W w.heap.size j _ _ s.res
  have l1 : X < W.heap.size := by
    by_cases e : X < W.heap.size
    · exact e
    · have := s.row; rw [Array.getElem?_eq_none (by omega)] at this; cases this
  refine ⟨⟨?_, ?_, ?_, ?_⟩, ⟨f1 0, f1 1, f1 2, f1 3⟩, ⟨?_, ?_, ?_, ?_⟩, ⟨f2 0, f2 1, f2 2, f2 3⟩, l1, by have := s.ne; omega⟩
  all_goals first | (rw [cell_of_row W _ _ _ _ _ s.row]; rfl) | (rw [cell_of_row W _ _ _ _ _ s.res]; rfl)

theorem StD.set3 {w W : World} {b q X : Nat} {k h t m : Int} (s : StD w W b q X k h t m) (x : Int) : StD w (W.setCell ⟨X, 3, none⟩ (.int .i64 x)) b q X k h t x := by
  have hn := s.ne
  refine ⟨?_, ?_, s.nb, s.rd.setApart s.nb _, s.lt, s.low.setCell (by simp; omega) _⟩
  · rw [Below.heap_setCell _ _ _ _ (by simp; omega)]; exact s.res
  · rw [heap_setCell_same W X 3 _ _ _ s.row]; rfl

end Go.Proofs.YtleinjblokepmaaDoor
