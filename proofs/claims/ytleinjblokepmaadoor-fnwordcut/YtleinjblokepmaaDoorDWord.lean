/- The draws of a word out of a code: what comes out is four numbers, none below 0 and none above 9, and nothing that was there before has turned. For codes of at most 1048576 bytes. -/
import Derived.Test.YtleinjblokepmaaDoorWRd
import Derived.Test.YtleinjblokepmaaDoorWOk
import Derived.Deep.RegionHeldLaw
namespace Go.Proofs.YtleinjblokepmaaDoor
open Go.RowKit

/-- A word as it is drawn. -/
def Small4 (k h t m : Int) : Prop := (0 ≤ k ∧ k ≤ 9) ∧ (0 ≤ h ∧ h ≤ 9) ∧ (0 ≤ t ∧ t ≤ 9) ∧ (0 ≤ m ∧ m ≤ 9)

/-- While a word is drawn: the result's block (the first new one), the word's block, the reader. -/
structure StW (w W : World) (b q X : Nat) (k h t m : Int) : Prop where
  res : W.heap[w.heap.size]? = some (.cells #[.int .i64 0, .int .i64 0, .int .i64 0, .int .i64 0] 24 (0, 0))
  row : W.heap[X]? = some (.cells #[.int .i64 k, .int .i64 h, .int .i64 t, .int .i64 m] 24 (0, 0))
  ne : w.heap.size < X
  rd : Rd W b q
  lt : b < w.heap.size
  mid : Mid b (b + 1) w W

theorem rowW_mid {W W' : World} {X b : Nat} {o : Obj} (h : W.heap[X]? = some o) (hb : Mid b (b + 1) W W') (hx : b < X) : W'.heap[X]? = some o := by
  have hl : X < W.heap.size := by
    by_cases e : X < W.heap.size
    · exact e
    · rw [Array.getElem?_eq_none (by omega)] at h; cases h
  rw [hb.block X hl (Or.inr (by omega))]; exact h

theorem StW.step {w W W' : World} {b q q' X : Nat} {k h t m : Int} (s : StW w W b q X k h t m) (hb : Mid b (b + 1) W W') (hr : Rd W' b q') : StW w W' b q' X k h t m :=
  ⟨rowW_mid s.res hb s.lt, rowW_mid s.row hb (by have := s.lt; have := s.ne; omega), s.ne, hr, s.lt, s.mid.trans hb⟩

theorem StW.cells {w W : World} {b q X : Nat} {k h t m : Int} (s : StW w W b q X k h t m) :
    (W.cell? ⟨X, 0, none⟩ = some (.int .i64 k) ∧ W.cell? ⟨X, 1, none⟩ = some (.int .i64 h) ∧ W.cell? ⟨X, 2, none⟩ = some (.int .i64 t) ∧ W.cell? ⟨X, 3, none⟩ = some (.int .i64 m)) ∧
    (W.frozen? ⟨X, 0, none⟩ = false ∧ W.frozen? ⟨X, 1, none⟩ = false ∧ W.frozen? ⟨X, 2, none⟩ = false ∧ W.frozen? ⟨X, 3, none⟩ = false) ∧
    (W.cell? ⟨w.heap.size, 0, none⟩ = some (.int .i64 0) ∧ W.cell? ⟨w.heap.size, 1, none⟩ = some (.int .i64 0) ∧ W.cell? ⟨w.heap.size, 2, none⟩ = some (.int .i64 0) ∧ W.cell? ⟨w.heap.size, 3, none⟩ = some (.int .i64 0)) ∧
    (W.frozen? ⟨w.heap.size, 0, none⟩ = false ∧ W.frozen? ⟨w.heap.size, 1, none⟩ = false ∧ W.frozen? ⟨w.heap.size, 2, none⟩ = false ∧ W.frozen? ⟨w.heap.size, 3, none⟩ = false) ∧ X < W.heap.size ∧ w.heap.size < W.heap.size := by
  have f1 := fun j => frozen_of_row W X j _ _ s.row
  have f2 := fun j => frozen_of_row W w.heap.size j _ _ s.res
  have l1 : X < W.heap.size := by
    by_cases e : X < W.heap.size
    · exact e
    · have := s.row; rw [Array.getElem?_eq_none (by omega)] at this; cases this
  refine ⟨⟨?_, ?_, ?_, ?_⟩, ⟨f1 0, f1 1, f1 2, f1 3⟩, ⟨?_, ?_, ?_, ?_⟩, ⟨f2 0, f2 1, f2 2, f2 3⟩, l1, by have := s.ne; omega⟩
  all_goals first | (rw [cell_of_row W _ _ _ _ _ s.row]; rfl) | (rw [cell_of_row W _ _ _ _ _ s.res]; rfl)

theorem StW.setW {w W : World} {b q X : Nat} {k h t m k' h' t' m' : Int} (s : StW w W b q X k h t m) (i : Nat) (x : Value)
    (e : (#[.int .i64 k, .int .i64 h, .int .i64 t, .int .i64 m] : Array Value).setIfInBounds i x = #[.int .i64 k', .int .i64 h', .int .i64 t', .int .i64 m']) : StW w (W.setCell ⟨X, i, none⟩ x) b q X k' h' t' m' := by
  have hn := s.ne
  have hl := s.lt
  refine ⟨?_, ?_, s.ne, s.rd.setApart (by omega) x, s.lt, s.mid.setNew (by omega) x⟩
  · rw [Below.heap_setCell _ _ _ _ (by simp; omega)]; exact s.res
  · rw [heap_setCell_same W X i _ _ _ s.row, e]
theorem StW.set0 {w W : World} {b q X : Nat} {k h t m : Int} (s : StW w W b q X k h t m) (x : Int) : StW w (W.setCell ⟨X, 0, none⟩ (.int .i64 x)) b q X x h t m := s.setW 0 _ rfl
theorem StW.set1 {w W : World} {b q X : Nat} {k h t m : Int} (s : StW w W b q X k h t m) (x : Int) : StW w (W.setCell ⟨X, 1, none⟩ (.int .i64 x)) b q X k x t m := s.setW 1 _ rfl
theorem StW.set2 {w W : World} {b q X : Nat} {k h t m : Int} (s : StW w W b q X k h t m) (x : Int) : StW w (W.setCell ⟨X, 2, none⟩ (.int .i64 x)) b q X k h x m := s.setW 2 _ rfl
theorem StW.set3 {w W : World} {b q X : Nat} {k h t m : Int} (s : StW w W b q X k h t m) (x : Int) : StW w (W.setCell ⟨X, 3, none⟩ (.int .i64 x)) b q X k h t x := s.setW 3 _ rfl

theorem rowW_lt {W : World} {X : Nat} {o : Obj} (h : W.heap[X]? = some o) : X < W.heap.size := by
  by_cases e : X < W.heap.size
  · exact e
  · rw [Array.getElem?_eq_none (by omega)] at h; cases h

theorem StW.start {w W : World} {b q : Nat} (k h t m : Int) (hS : W.heap[w.heap.size]? = some (.cells #[.int .i64 0, .int .i64 0, .int .i64 0, .int .i64 0] 24 (0, 0))) (hr : Rd W b q) (hlt : b < w.heap.size) (hM : Mid b (b + 1) w W) :
    StW w (W.alloc (.cells #[.int .i64 k, .int .i64 h, .int .i64 t, .int .i64 m] 24)) b q W.heap.size k h t m := by
  have hs := rowW_lt hS
  exact ⟨by rw [Below.heap_alloc _ _ _ hs]; exact hS, heap_alloc_new W _, hs, hr.alloc _, hlt, hM.alloc _⟩

theorem StW.done {w W : World} {b q X : Nat} {k h t m : Int} (s : StW w W b q X k h t m) (p : Nat) (hq : q ≤ p + 6) (x0 x1 x2 x3 : Value) :
    ∃ q', q' ≤ p + 6 ∧ Rd ((((W.setCell ⟨w.heap.size, 0, none⟩ x0).setCell ⟨w.heap.size, 1, none⟩ x1).setCell ⟨w.heap.size, 2, none⟩ x2).setCell ⟨w.heap.size, 3, none⟩ x3) b q' ∧
      Mid b (b + 1) w ((((W.setCell ⟨w.heap.size, 0, none⟩ x0).setCell ⟨w.heap.size, 1, none⟩ x1).setCell ⟨w.heap.size, 2, none⟩ x2).setCell ⟨w.heap.size, 3, none⟩ x3) :=
  ⟨q, hq, (((s.rd.setApart s.lt _).setApart s.lt _).setApart s.lt _).setApart s.lt _, (((s.mid.setNew (Nat.le_refl _) _).setNew (Nat.le_refl _) _).setNew (Nat.le_refl _) _).setNew (Nat.le_refl _) _⟩

set_option maxHeartbeats 4000000 in
theorem word_draw (b p : Nat) (w : World) (h : Rd w b p) (hp : p ≤ 900000) :
    Calls Tryd.prog 15 #[.pointer (some ⟨b, 0, none⟩)] w fun e w' => ∃ k h t m : Int, e = .returned (wordV k h t m) ∧ Small4 k h t m ∧ ∃ q, q ≤ p + 6 ∧ Rd w' b q ∧ Mid b (b + 1) w w' := by
  have hlt := h.lt
  have R0 := hidden (h.alloc (.cells #[.int .i64 0, .int .i64 0, .int .i64 0, .int .i64 0] 24))
  have M0 := hidden ((Mid.refl b (b + 1) w).alloc (.cells #[.int .i64 0, .int .i64 0, .int .i64 0, .int .i64 0] 24))
  have S0 := hidden (heap_alloc_new w (.cells #[.int .i64 0, .int .i64 0, .int .i64 0, .int .i64 0] 24))
  clear h
  go_enter Tryd.func15, Tryd.ntmps15
  go_wp2_with fail
  refine (pick_any b p 7 _ R0.out (by omega) (by omega) (by omega)).mono ?_
  rintro e w1 ⟨x1, rfl, l1, u1, r1, m1⟩
  have R1 := hidden r1
  have M1 := hidden (M0.out.trans m1)
  have S1 := hidden (rowW_mid S0.out m1 hlt)
  clear r1 m1
  go_wp2_with fail
  refine (pick_any b (p + 1) 3 _ R1.out (by omega) (by omega) (by omega)).mono ?_
  rintro e w2 ⟨x2, rfl, l2, u2, r2, m2⟩
  have R2 := hidden r2
  have M2 := hidden (M1.out.trans m2)
  have S2 := hidden (rowW_mid S1.out m2 hlt)
  clear r2 m2
  go_wp2_with fail
  refine (pick_any b (p + 1 + 1) 4 _ R2.out (by omega) (by omega) (by omega)).mono ?_
  rintro e w3 ⟨x3, rfl, l3, u3, r3, m3⟩
  have M3 := hidden (M2.out.trans m3)
  have S3 := hidden (rowW_mid S2.out m3 hlt)
  have R3 := hidden r3
  clear r3 m3
  by_cases hx1 : x1 = 0
  · subst hx1
    obtain ⟨w4, hw4⟩ : ∃ W, Hid (W = w3.alloc (.cells #[.int .i64 1, .int .i64 (1 + x2), .int .i64 (1 + x3), .int .i64 0] 24)) := ⟨_, rfl⟩
    obtain ⟨X, hX⟩ : ∃ X, Hid (X = w3.heap.size) := ⟨_, rfl⟩
    have T4 : Hid (StW w w4 b (p + 3) X 1 (1 + x2) (1 + x3) 0) := by show StW _ _ _ _ _ _ _ _ _; rw [hw4.out, hX.out]; exact StW.start _ _ _ _ S3.out R3.out hlt M3.out
    clear M3 S3 R3 M2 S2 R2 M1 S1 R1 M0 S0 R0
    go_wp2_with fail
    rw [← hw4.out, ← hX.out]
    refine (pick_any b (p + 3) 3 _ T4.out.rd (by omega) (by omega) (by omega)).mono ?_
    rintro e w5 ⟨x4, rfl, l4, u4, r5, m5⟩
    have T5 := hidden (T4.out.step m5 r5)
    clear r5 m5
    obtain ⟨⟨c0, c1, c2, c3⟩, ⟨f0, f1, f2, f3⟩, -, -, lX, lw⟩ := T5.out.cells
    have T6 := hidden (T5.out.set3 (1 + x4))
    go_wp2_with fail
    clear c0 c1 c2 c3 f0 f1 f2 f3 lX lw
    obtain ⟨w6, hw6⟩ : ∃ W, Hid (W = w5.setCell ⟨X, 3, none⟩ (.int .i64 (1 + x4))) := ⟨_, rfl⟩
    rw [← hw6.out] at T6 ⊢
    refine (pick_any b (p + 3 + 1) 20 _ T6.out.rd (by omega) (by omega) (by omega)).mono ?_
    rintro e w7 ⟨y, rfl, ly, uy, r7, m7⟩
    have T7 := hidden (T6.out.step m7 r7)
    clear r7 m7 T6 T5 T4 hw6 hw4
    by_cases hy0 : y = 0
    · subst hy0
      obtain ⟨⟨c0, c1, c2, c3⟩, ⟨f0, f1, f2, f3⟩, -, -, lX, lw⟩ := T7.out.cells
      go_wp2_with fail
      refine (pick_any b _ 9 _ T7.out.rd (by omega) (by omega) (by omega)).mono ?_
      rintro e w8 ⟨z, rfl, lz, uz, r8, m8⟩
      have T8 := hidden (T7.out.step m8 r8)
      have T9 := hidden (T8.out.set0 z)
      clear r8 m8 c0 c1 c2 c3 f0 f1 f2 f3 lX lw
      obtain ⟨⟨c0, c1, c2, c3⟩, ⟨f0, f1, f2, f3⟩, ⟨d0, d1, d2, d3⟩, ⟨g0, g1, g2, g3⟩, lX, lw⟩ := T8.out.cells
      have hne : w.heap.size ≠ X := by have := T8.out.ne; omega
      go_wp2
      exact bodyPost_ret (v := wordV (z) (1 + x2) (1 + x3) (1 + x4)) (by simp [results, Tryd.results15, go_sem, *]) rfl ⟨_, _, _, _, rfl, by unfold Small4; omega, T9.out.done p (by omega) _ _ _ _⟩
    by_cases hy1 : y = 1
    · subst hy1
      obtain ⟨⟨c0, c1, c2, c3⟩, ⟨f0, f1, f2, f3⟩, -, -, lX, lw⟩ := T7.out.cells
      go_wp2_with fail
      refine (pick_any b _ 5 _ T7.out.rd (by omega) (by omega) (by omega)).mono ?_
      rintro e w8 ⟨z, rfl, lz, uz, r8, m8⟩
      have T8 := hidden (T7.out.step m8 r8)
      have T9 := hidden (T8.out.set1 z)
      clear r8 m8 c0 c1 c2 c3 f0 f1 f2 f3 lX lw
      obtain ⟨⟨c0, c1, c2, c3⟩, ⟨f0, f1, f2, f3⟩, ⟨d0, d1, d2, d3⟩, ⟨g0, g1, g2, g3⟩, lX, lw⟩ := T8.out.cells
      have hne : w.heap.size ≠ X := by have := T8.out.ne; omega
      go_wp2
      exact bodyPost_ret (v := wordV (1) (z) (1 + x3) (1 + x4)) (by simp [results, Tryd.results15, go_sem, *]) rfl ⟨_, _, _, _, rfl, by unfold Small4; omega, T9.out.done p (by omega) _ _ _ _⟩
    by_cases hy2 : y = 2
    · subst hy2
      obtain ⟨⟨c0, c1, c2, c3⟩, ⟨f0, f1, f2, f3⟩, -, -, lX, lw⟩ := T7.out.cells
      go_wp2_with fail
      refine (pick_any b _ 8 _ T7.out.rd (by omega) (by omega) (by omega)).mono ?_
      rintro e w8 ⟨z, rfl, lz, uz, r8, m8⟩
      have T8 := hidden (T7.out.step m8 r8)
      have T9 := hidden (T8.out.set2 z)
      clear r8 m8 c0 c1 c2 c3 f0 f1 f2 f3 lX lw
      obtain ⟨⟨c0, c1, c2, c3⟩, ⟨f0, f1, f2, f3⟩, ⟨d0, d1, d2, d3⟩, ⟨g0, g1, g2, g3⟩, lX, lw⟩ := T8.out.cells
      have hne : w.heap.size ≠ X := by have := T8.out.ne; omega
      go_wp2
      exact bodyPost_ret (v := wordV (1) (1 + x2) (z) (1 + x4)) (by simp [results, Tryd.results15, go_sem, *]) rfl ⟨_, _, _, _, rfl, by unfold Small4; omega, T9.out.done p (by omega) _ _ _ _⟩
    by_cases hy3 : y = 3
    · subst hy3
      obtain ⟨⟨c0, c1, c2, c3⟩, ⟨f0, f1, f2, f3⟩, -, -, lX, lw⟩ := T7.out.cells
      go_wp2_with fail
      refine (pick_any b _ 5 _ T7.out.rd (by omega) (by omega) (by omega)).mono ?_
      rintro e w8 ⟨z, rfl, lz, uz, r8, m8⟩
      have T8 := hidden (T7.out.step m8 r8)
      have T9 := hidden (T8.out.set3 z)
      clear r8 m8 c0 c1 c2 c3 f0 f1 f2 f3 lX lw
      obtain ⟨⟨c0, c1, c2, c3⟩, ⟨f0, f1, f2, f3⟩, ⟨d0, d1, d2, d3⟩, ⟨g0, g1, g2, g3⟩, lX, lw⟩ := T8.out.cells
      have hne : w.heap.size ≠ X := by have := T8.out.ne; omega
      go_wp2
      exact bodyPost_ret (v := wordV (1) (1 + x2) (1 + x3) (z)) (by simp [results, Tryd.results15, go_sem, *]) rfl ⟨_, _, _, _, rfl, by unfold Small4; omega, T9.out.done p (by omega) _ _ _ _⟩
    obtain ⟨⟨c0, c1, c2, c3⟩, ⟨f0, f1, f2, f3⟩, ⟨d0, d1, d2, d3⟩, ⟨g0, g1, g2, g3⟩, lX, lw⟩ := T7.out.cells
    have hne : w.heap.size ≠ X := by have := T7.out.ne; omega
    go_wp2
    exact bodyPost_ret (v := wordV (1) (1 + x2) (1 + x3) (1 + x4)) (by simp [results, Tryd.results15, go_sem, *]) rfl ⟨_, _, _, _, rfl, by unfold Small4; omega, T7.out.done p (by omega) _ _ _ _⟩
  · obtain ⟨w4, hw4⟩ : ∃ W, Hid (W = w3.alloc (.cells #[.int .i64 (1 + x1), .int .i64 (1 + x2), .int .i64 (1 + x3), .int .i64 0] 24)) := ⟨_, rfl⟩
    obtain ⟨X, hX⟩ : ∃ X, Hid (X = w3.heap.size) := ⟨_, rfl⟩
    have T4 : Hid (StW w w4 b (p + 3) X (1 + x1) (1 + x2) (1 + x3) 0) := by show StW _ _ _ _ _ _ _ _ _; rw [hw4.out, hX.out]; exact StW.start _ _ _ _ S3.out R3.out hlt M3.out
    clear M3 S3 R3 M2 S2 R2 M1 S1 R1 M0 S0 R0
    have hx1' : ¬ (1 + x1 = 1) := by omega
    go_wp2_with fail
    rw [← hw4.out, ← hX.out]
    refine (pick_any b (p + 3) 20 _ T4.out.rd (by omega) (by omega) (by omega)).mono ?_
    rintro e w7 ⟨y, rfl, ly, uy, r7, m7⟩
    have T7 := hidden (T4.out.step m7 r7)
    clear r7 m7 T4 hw4
    by_cases hy0 : y = 0
    · subst hy0
      obtain ⟨⟨c0, c1, c2, c3⟩, ⟨f0, f1, f2, f3⟩, -, -, lX, lw⟩ := T7.out.cells
      go_wp2_with fail
      refine (pick_any b _ 9 _ T7.out.rd (by omega) (by omega) (by omega)).mono ?_
      rintro e w8 ⟨z, rfl, lz, uz, r8, m8⟩
      have T8 := hidden (T7.out.step m8 r8)
      have T9 := hidden (T8.out.set0 z)
      clear r8 m8 c0 c1 c2 c3 f0 f1 f2 f3 lX lw
      obtain ⟨⟨c0, c1, c2, c3⟩, ⟨f0, f1, f2, f3⟩, ⟨d0, d1, d2, d3⟩, ⟨g0, g1, g2, g3⟩, lX, lw⟩ := T8.out.cells
      have hne : w.heap.size ≠ X := by have := T8.out.ne; omega
      go_wp2
      exact bodyPost_ret (v := wordV (z) (1 + x2) (1 + x3) (0)) (by simp [results, Tryd.results15, go_sem, *]) rfl ⟨_, _, _, _, rfl, by unfold Small4; omega, T9.out.done p (by omega) _ _ _ _⟩
    by_cases hy1 : y = 1
    · subst hy1
      obtain ⟨⟨c0, c1, c2, c3⟩, ⟨f0, f1, f2, f3⟩, -, -, lX, lw⟩ := T7.out.cells
      go_wp2_with fail
      refine (pick_any b _ 5 _ T7.out.rd (by omega) (by omega) (by omega)).mono ?_
      rintro e w8 ⟨z, rfl, lz, uz, r8, m8⟩
      have T8 := hidden (T7.out.step m8 r8)
      have T9 := hidden (T8.out.set1 z)
      clear r8 m8 c0 c1 c2 c3 f0 f1 f2 f3 lX lw
      obtain ⟨⟨c0, c1, c2, c3⟩, ⟨f0, f1, f2, f3⟩, ⟨d0, d1, d2, d3⟩, ⟨g0, g1, g2, g3⟩, lX, lw⟩ := T8.out.cells
      have hne : w.heap.size ≠ X := by have := T8.out.ne; omega
      go_wp2
      exact bodyPost_ret (v := wordV (1 + x1) (z) (1 + x3) (0)) (by simp [results, Tryd.results15, go_sem, *]) rfl ⟨_, _, _, _, rfl, by unfold Small4; omega, T9.out.done p (by omega) _ _ _ _⟩
    by_cases hy2 : y = 2
    · subst hy2
      obtain ⟨⟨c0, c1, c2, c3⟩, ⟨f0, f1, f2, f3⟩, -, -, lX, lw⟩ := T7.out.cells
      go_wp2_with fail
      refine (pick_any b _ 8 _ T7.out.rd (by omega) (by omega) (by omega)).mono ?_
      rintro e w8 ⟨z, rfl, lz, uz, r8, m8⟩
      have T8 := hidden (T7.out.step m8 r8)
      have T9 := hidden (T8.out.set2 z)
      clear r8 m8 c0 c1 c2 c3 f0 f1 f2 f3 lX lw
      obtain ⟨⟨c0, c1, c2, c3⟩, ⟨f0, f1, f2, f3⟩, ⟨d0, d1, d2, d3⟩, ⟨g0, g1, g2, g3⟩, lX, lw⟩ := T8.out.cells
      have hne : w.heap.size ≠ X := by have := T8.out.ne; omega
      go_wp2
      exact bodyPost_ret (v := wordV (1 + x1) (1 + x2) (z) (0)) (by simp [results, Tryd.results15, go_sem, *]) rfl ⟨_, _, _, _, rfl, by unfold Small4; omega, T9.out.done p (by omega) _ _ _ _⟩
    by_cases hy3 : y = 3
    · subst hy3
      obtain ⟨⟨c0, c1, c2, c3⟩, ⟨f0, f1, f2, f3⟩, -, -, lX, lw⟩ := T7.out.cells
      go_wp2_with fail
      refine (pick_any b _ 5 _ T7.out.rd (by omega) (by omega) (by omega)).mono ?_
      rintro e w8 ⟨z, rfl, lz, uz, r8, m8⟩
      have T8 := hidden (T7.out.step m8 r8)
      have T9 := hidden (T8.out.set3 z)
      clear r8 m8 c0 c1 c2 c3 f0 f1 f2 f3 lX lw
      obtain ⟨⟨c0, c1, c2, c3⟩, ⟨f0, f1, f2, f3⟩, ⟨d0, d1, d2, d3⟩, ⟨g0, g1, g2, g3⟩, lX, lw⟩ := T8.out.cells
      have hne : w.heap.size ≠ X := by have := T8.out.ne; omega
      go_wp2
      exact bodyPost_ret (v := wordV (1 + x1) (1 + x2) (1 + x3) (z)) (by simp [results, Tryd.results15, go_sem, *]) rfl ⟨_, _, _, _, rfl, by unfold Small4; omega, T9.out.done p (by omega) _ _ _ _⟩
    obtain ⟨⟨c0, c1, c2, c3⟩, ⟨f0, f1, f2, f3⟩, ⟨d0, d1, d2, d3⟩, ⟨g0, g1, g2, g3⟩, lX, lw⟩ := T7.out.cells
    have hne : w.heap.size ≠ X := by have := T7.out.ne; omega
    go_wp2
    exact bodyPost_ret (v := wordV (1 + x1) (1 + x2) (1 + x3) (0)) (by simp [results, Tryd.results15, go_sem, *]) rfl ⟨_, _, _, _, rfl, by unfold Small4; omega, T7.out.done p (by omega) _ _ _ _⟩

end Go.Proofs.YtleinjblokepmaaDoor
