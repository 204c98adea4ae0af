/- The draw of a record, and the law FnRecKinds, walked: whatever the codes, it answers true, and nothing that was there before has turned. In a world in which the sentinel's variable holds a pointer to an errors.errorString. -/
import Derived.Test.YtfpjohbcbflnhaaDoorEKind
import Derived.Test.YtfpjohbcbflnhaaDoorSpec
import Derived.Deep.RegionHeld
import Derived.Deep.RegionWith
import Derived.Test.YtfpjohbcbflnhaaDoorHeld
namespace Go.Proofs.YtfpjohbcbflnhaaDoor
open Go.RowKit

/-- A record's own block. -/
def RB (W : World) (X : Nat) (k t : Int) (u : Value) : Prop := W.heap[X]? = some (.cells #[.int .i64 k, .int .i64 t, u] 25 (0, 0))
theorem RB.new (w : World) (k t : Int) (u : Value) : RB (w.alloc (.cells #[.int .i64 k, .int .i64 t, u] 25)) w.heap.size k t u := heap_alloc_new w _
theorem RB.mid {w w' : World} {b l h' : Nat} {k t : Int} {u : Value} (h : RB w b k t u) (hm : Mid l h' w w') (hb : b < l ∨ h' ≤ b) : RB w' b k t u := by
  have := heap_lt h
  unfold RB at *
  rw [hm.block b this hb]; exact h
theorem RB.cells {w : World} {b : Nat} {k t : Int} {u : Value} (h : RB w b k t u) : w.cell? ⟨b, 0, none⟩ = some (.int .i64 k) ∧ w.cell? ⟨b, 1, none⟩ = some (.int .i64 t) ∧ w.cell? ⟨b, 2, none⟩ = some u ∧ w.frozen? ⟨b, 0, none⟩ = false ∧ w.frozen? ⟨b, 1, none⟩ = false ∧ w.frozen? ⟨b, 2, none⟩ = false := by
  refine ⟨?_, ?_, ?_, frozen_of_row w _ _ _ _ h, frozen_of_row w _ _ _ _ h, frozen_of_row w _ _ _ _ h⟩
  · rw [cell_of_row w _ _ _ _ _ h]; rfl
  · rw [cell_of_row w _ _ _ _ _ h]; rfl
  · rw [cell_of_row w _ _ _ _ _ h]; rfl
theorem RB.set0 {w : World} {b : Nat} {k t : Int} {u : Value} (h : RB w b k t u) (x : Int) : RB (w.setCell ⟨b, 0, none⟩ (.int .i64 x)) b x t u := by
  unfold RB
  rw [heap_setCell_same w b 0 _ _ _ h]; rfl

set_option maxRecDepth 100000 in
set_option maxHeartbeats 4000000 in
theorem drawRec_any (v : Value) (n : Nat) (w : World) (hv : CodeAt w v n) (hn : n ≤ 1048576) :
    Calls Tryd.prog 19 #[v] w fun e w' => ∃ k t u zs, e = .returned (.agg #[.int .i64 k, .int .i64 t, u]) ∧ Ints w' u zs ∧ zs.length ≤ 4 ∧ Below w.heap.size w w' := by
  have HO : Hid (∀ o, Calls Tryd.prog 22 #[v] (w.alloc o) fun e w' => e = .returned (.pointer (some ⟨w.heap.size + 1, 0, none⟩)) ∧ Rd w' (w.heap.size + 1) 0 ∧ w'.heap.size = w.heap.size + 2 ∧ Below (w.heap.size + 1) (w.alloc o) w') := fun o => by
    have := open_any v n (w.alloc o) (hv.later (alloc_below w o) (Nat.le_refl _)) hn
    rw [World.size_alloc] at this
    exact this
  obtain ⟨ao, cap, rfl, _⟩ := hv
  go_enter Tryd.func19, Tryd.ntmps19
  go_wp2_with fail
  refine (HO.out _).mono ?_
  rintro e w1 ⟨rfl, hr1, hs1, hb1⟩
  have R1 := hide_it hr1
  have B1 := hide_it ((alloc_below w _).trans (hb1.mono (by omega)))
  have Z1 : Hid (RB w1 w.heap.size 0 0 (.slice none 0 0)) := by show RB _ _ _ _ _; unfold RB; rw [hb1.block _ (by omega)]; exact heap_alloc_new w _
  clear hr1 hb1
  go_wp2_with fail
  refine (rec_draw (w.heap.size + 1) 0 w1 R1.out (by omega)).mono ?_
  rintro e w2 ⟨k, t, u, zs, q, cp, rfl, hz, hF, -, hq, r2, m2⟩
  obtain ⟨g, off, hyy⟩ : ∃ g off, u = .slice (some ⟨g, off, none⟩) zs.length cp := by obtain ⟨g, off, cs, h, _⟩ := hF; exact ⟨g, off, h⟩
  subst hyy
  have hsz : w.heap.size + 2 ≤ w2.heap.size := by have := m2.size; omega
  -- x
  obtain ⟨w3, hw3⟩ : ∃ W, Hid (W = w2.alloc (.cells #[.int .i64 k, .int .i64 t, .slice (some ⟨g, off, none⟩) zs.length cp] 25)) := ⟨_, rfl⟩
  have al3 := hide_it (show Below w2.heap.size w2 w3 by rw [hw3.out]; exact alloc_below _ _)
  have R3 := hide_it (r2.later al3.out (Nat.le_refl _))
  have F3 := hide_it ((hF.later al3.out (Nat.le_refl _)).mono (show w.heap.size + 2 ≤ w1.heap.size by omega))
  have X3 : Hid (RB w3 w2.heap.size k t (.slice (some ⟨g, off, none⟩) zs.length cp)) := by show RB _ _ _ _ _; rw [hw3.out]; exact RB.new w2 _ _ _
  have Z3 := hide_it ((Z1.out.mid m2 (Or.inl (by omega))).mid (Mid.of_below (lo := 0) (hi := 0) al3.out (Nat.le_refl _)) (Or.inr (Nat.zero_le _)))
  have M3 := hide_it (m2.trans (Mid.of_below al3.out (Nat.le_refl _)))
  clear r2 m2 hF
  go_wp2_with fail
  rw [← hw3.out]
  refine (pick_any (w.heap.size + 1) q 4 _ R3.out (by omega) (by omega) (by omega)).mono ?_
  rintro e w4 ⟨x, rfl, lx, ux, r4, m4⟩
  have R4 := hide_it r4
  have F4 := hide_it (F3.out.mid R3.out m4)
  have X4 := hide_it (X3.out.mid m4 (Or.inr (by omega)))
  have Z4 := hide_it (Z3.out.mid m4 (Or.inl (by omega)))
  have M4 := hide_it (M3.out.trans m4)
  clear r4 m4
  have fin : ∀ (W : World) (kk : Int), RB W w2.heap.size kk t (.slice (some ⟨g, off, none⟩) zs.length cp) → RB W w.heap.size 0 0 (.slice none 0 0) → Fresh W (w.heap.size + 2) (.slice (some ⟨g, off, none⟩) zs.length cp) zs cp → Below w.heap.size w W →
      Fresh (((W.setCell ⟨w.heap.size, 0, none⟩ (.int .i64 kk)).setCell ⟨w.heap.size, 1, none⟩ (.int .i64 t)).setCell ⟨w.heap.size, 2, none⟩ (.slice (some ⟨g, off, none⟩) zs.length cp)) (w.heap.size + 2) (.slice (some ⟨g, off, none⟩) zs.length cp) zs cp ∧ Below w.heap.size w (((W.setCell ⟨w.heap.size, 0, none⟩ (.int .i64 kk)).setCell ⟨w.heap.size, 1, none⟩ (.int .i64 t)).setCell ⟨w.heap.size, 2, none⟩ (.slice (some ⟨g, off, none⟩) zs.length cp)) := by
    intro W kk _ _ hf hb
    obtain ⟨g', off', cs, hu, hlo, hh, hc⟩ := hf
    refine ⟨⟨g', off', cs, hu, hlo, ?_, hc⟩, ((hb.setCell (by simp) _).setCell (by simp) _).setCell (by simp) _⟩
    rw [Below.heap_setCell _ _ _ _ (by simp; omega), Below.heap_setCell _ _ _ _ (by simp; omega), Below.heap_setCell _ _ _ _ (by simp; omega)]
    exact hh
  have FIN := hide_it fin
  clear fin
  by_cases hx0 : x = 0
  · subst hx0
    obtain ⟨x0, x1, x2, x3, x4, x5⟩ := X4.out.cells
    go_wp2_with fail
    refine (pick_any (w.heap.size + 1) (q + 1) 9 _ R4.out (by omega) (by omega) (by omega)).mono ?_
    rintro e w5 ⟨kk, rfl, lk, uk, r5, m5⟩
    have F5 := hide_it (F4.out.mid R4.out m5)
    have X5 := hide_it (X4.out.mid m5 (Or.inr (by omega)))
    have Z5 := hide_it (Z4.out.mid m5 (Or.inl (by omega)))
    have B5 := hide_it (B1.out.trans ((M4.out.trans m5).below (B := w.heap.size) (by omega) B1.out.size))
    have X6 := hide_it (X5.out.set0 kk)
    have Z6 := hide_it (Z5.out.mid (Mid.set (b := w2.heap.size) (i := 0) (.int .i64 kk)) (Or.inl (by omega)))
    have F6 := hide_it (F5.out.set (i := 0) X5.out (by decide) (.int .i64 kk))
    have B6 : Hid (Below w.heap.size w (w5.setCell ⟨w2.heap.size, 0, none⟩ (.int .i64 kk))) := B5.out.setCell (by simp; omega) _
    have hl5 := heap_lt X5.out
    have hlz := heap_lt Z5.out
    clear r5 m5 x0 x1 x2 x3 x4 x5
    obtain ⟨x0, x1, x2, x3, x4, x5⟩ := X5.out.cells
    obtain ⟨z0, z1, z2, z3, z4, z5⟩ := Z5.out.cells
    have hne : ¬ w2.heap.size = w.heap.size := by omega
    have hne2 : ¬ w.heap.size = w2.heap.size := by omega
    go_wp2
    exact bodyPost_ret (v := .agg #[.int .i64 kk, .int .i64 t, .slice (some ⟨g, off, none⟩) zs.length cp]) (by simp [results, Tryd.results19, go_sem, z0, z1, z2]) rfl ⟨kk, t, _, zs, rfl, (FIN.out _ kk X6.out Z6.out F6.out B6.out).1.ints, hz, (FIN.out _ kk X6.out Z6.out F6.out B6.out).2⟩
  · have B4 := hide_it (B1.out.trans (M4.out.below (B := w.heap.size) (by omega) B1.out.size))
    have hl4 := heap_lt X4.out
    have hlz := heap_lt Z4.out
    obtain ⟨x0, x1, x2, x3, x4, x5⟩ := X4.out.cells
    obtain ⟨z0, z1, z2, z3, z4, z5⟩ := Z4.out.cells
    have hne : ¬ w2.heap.size = w.heap.size := by omega
    have hne2 : ¬ w.heap.size = w2.heap.size := by omega
    have e0 : (x == 0) = false := by simp [hx0]
    go_wp2
    exact bodyPost_ret (v := .agg #[.int .i64 k, .int .i64 t, .slice (some ⟨g, off, none⟩) zs.length cp]) (by simp [results, Tryd.results19, go_sem, z0, z1, z2]) rfl ⟨k, t, _, zs, rfl, (FIN.out _ k X4.out Z4.out F4.out B4.out).1.ints, hz, (FIN.out _ k X4.out Z4.out F4.out B4.out).2⟩

end Go.Proofs.YtfpjohbcbflnhaaDoor
