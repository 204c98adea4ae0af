/- FnRecKinds answers true whatever the codes, and they read afterwards as they read before: promise 12 at every drawn record. The card: the sentinel's variable starts as the program's text lays it. -/
import Derived.Test.YtaogachhmdmoaaaDoorBase2
import Derived.Deep.RegionHeld
import Derived.Deep.RegionWith

namespace Go.Proofs.YtaogachhmdmoaaaDoor
open Go.RowKit

def plainK (k : Int) : Bool := decide (k ≠ 1) && decide (k ≠ 4)
theorem kinds_ok {k t : Int} {zs : List Int} (k' : Int) (h : Pl.recOk k t zs = true) (h1 : 1 ≤ k') (h7 : k' ≤ 7) : Pl.recOk k' t zs = (decide (k' = k) || (plainK k && plainK k')) := by
  by_cases hkk : k' = k
  · subst hkk; rw [h]; simp
  have ht : Pl.inB t 1 6 = true := by
    cases ht : Pl.inB t 1 6
    · rw [Pl.recOk_t k t zs ht] at h; cases h
    · rfl
  have hd : decide (k' = k) = false := by simp [hkk]
  rw [hd, Bool.false_or]
  by_cases k1 : k = 1
  · subst k1
    rw [Pl.recOk_1 t zs ht] at h
    have hl : zs.length = 1 := by simp [Pl.holdOk] at h; exact h.1
    have hp : plainK 1 = false := by decide
    rw [hp, Bool.false_and]
    by_cases k4 : k' = 4
    · subst k4; rw [Pl.recOk_4 t zs ht, Pl.manyOk_len zs (by omega)]
    · rw [Pl.recOk_p k' t zs ht hkk k4, hl]; simp
  by_cases k4 : k = 4
  · subst k4
    rw [Pl.recOk_4 t zs ht] at h
    have hl : zs.length = 3 := by
      by_cases e : zs.length = 3
      · exact e
      · rw [Pl.manyOk_len zs e] at h; cases h
    have hp : plainK 4 = false := by decide
    rw [hp, Bool.false_and]
    by_cases k1' : k' = 1
    · subst k1'; rw [Pl.recOk_1 t zs ht]; simp [Pl.holdOk, hl]
    · rw [Pl.recOk_p k' t zs ht k1' hkk, hl]; simp
  rw [Pl.recOk_p k t zs ht k1 k4] at h
  have hl : zs.length = 0 := by simp only [Bool.and_eq_true, beq_iff_eq] at h; exact h.2
  have hp : plainK k = true := by simp [plainK, k1, k4]
  rw [hp, Bool.true_and]
  by_cases k1' : k' = 1
  · subst k1'; rw [Pl.recOk_1 t zs ht]; simp [Pl.holdOk, hl, plainK]
  by_cases k4' : k' = 4
  · subst k4'; rw [Pl.recOk_4 t zs ht, Pl.manyOk_len zs (by omega)]; decide
  rw [Pl.recOk_p k' t zs ht k1' k4', hl, Pl.inB_mk (by omega) h7]
  simp [plainK, k1', k4']

end Go.Proofs.YtaogachhmdmoaaaDoor

namespace Go.Proofs.YtaogachhmdmoaaaDoor
open Go.RowKit

/-- A record's own block. -/
def RB (W : World) (X : Nat) (k t : Int) (u : Value) : Prop := W.heap[X]? = some (.cells #[.int .i64 k, .int .i64 t, u] 25 (0, 0))
theorem RB.new (w : World) (k t : Int) (u : Value) : RB (w.alloc (.cells #[.int .i64 k, .int .i64 t, u] 25)) w.heap.size k t u := heap_alloc_new w _
theorem RB.mid {w w' : World} {b l h' : Nat} {k t : Int} {u : Value} (h : RB w b k t u) (hm : Mid l h' w w') (hb : b < l ∨ h' ≤ b) : RB w' b k t u := by
  have := heap_lt h
  unfold RB at *
  rw [hm.block b this hb]; exact h
theorem RB.cells {w : World} {b : Nat} {k t : Int} {u : Value} (h : RB w b k t u) : w.cell? ⟨b, 0, none⟩ = some (.int .i64 k) ∧ w.cell? ⟨b, 1, none⟩ = some (.int .i64 t) ∧ w.cell? ⟨b, 2, none⟩ = some u ∧ w.frozen? ⟨b, 0, none⟩ = false ∧ w.frozen? ⟨b, 1, none⟩ = false ∧ w.frozen? ⟨b, 2, none⟩ = false := by
  refine ⟨?_, ?_, ?_, frozen_of_row w _ _ _ _ h, frozen_of_row w _ _ _ _ h, frozen_of_row w _ _ _ _ h⟩
  · rw [cell_of_row w _ _ _ _ _ h]; rfl
  · rw [cell_of_row w _ _ _ _ _ h]; rfl
  · rw [cell_of_row w _ _ _ _ _ h]; rfl
theorem RB.set0 {w : World} {b : Nat} {k t : Int} {u : Value} (h : RB w b k t u) (x : Int) : RB (w.setCell ⟨b, 0, none⟩ (.int .i64 x)) b x t u := by
  unfold RB
  rw [heap_setCell_same w b 0 _ _ _ h]; rfl

set_option maxRecDepth 100000 in
set_option maxHeartbeats 4000000 in
theorem drawRec_any (v : Value) (n : Nat) (w : World) (hv : CodeAt w v n) (hn : n ≤ 1048576) :
    Calls Tryd.prog 7 #[v] w fun e w' => ∃ k t u zs, e = .returned (.agg #[.int .i64 k, .int .i64 t, u]) ∧ Ints w' u zs ∧ zs.length ≤ 4 ∧ Below w.heap.size w w' := by
  have HO : Hid (∀ o, Calls Tryd.prog 19 #[v] (w.alloc o) fun e w' => e = .returned (.pointer (some ⟨w.heap.size + 1, 0, none⟩)) ∧ Rd w' (w.heap.size + 1) 0 ∧ w'.heap.size = w.heap.size + 2 ∧ Below (w.heap.size + 1) (w.alloc o) w') := fun o => by
    have := open_any v n (w.alloc o) (hv.later (alloc_below w o) (Nat.le_refl _)) hn
    rw [World.size_alloc] at this
    exact this
  obtain ⟨ao, cap, rfl, _⟩ := hv
  go_enter Tryd.func7, Tryd.ntmps7
  go_wp2_with fail
  refine (HO.out _).mono ?_
  rintro e w1 ⟨rfl, hr1, hs1, hb1⟩
  have R1 := hide_it hr1
  have B1 := hide_it ((alloc_below w _).trans (hb1.mono (by omega)))
  have Z1 : Hid (RB w1 w.heap.size 0 0 (.slice none 0 0)) := by show RB _ _ _ _ _; unfold RB; rw [hb1.block _ (by omega)]; exact heap_alloc_new w _
  clear hr1 hb1
  go_wp2_with fail
  refine (rec_draw (w.heap.size + 1) 0 w1 R1.out (by omega)).mono ?_
  rintro e w2 ⟨k, t, u, zs, q, cp, rfl, hz, hF, -, hq, r2, m2⟩
  obtain ⟨g, off, hyy⟩ : ∃ g off, u = .slice (some ⟨g, off, none⟩) zs.length cp := by obtain ⟨g, off, cs, h, _⟩ := hF; exact ⟨g, off, h⟩
  subst hyy
  have hsz : w.heap.size + 2 ≤ w2.heap.size := by have := m2.size; omega
  -- x
  obtain ⟨w3, hw3⟩ : ∃ W, Hid (W = w2.alloc (.cells #[.int .i64 k, .int .i64 t, .slice (some ⟨g, off, none⟩) zs.length cp] 25)) := ⟨_, rfl⟩
  have al3 := hide_it (show Below w2.heap.size w2 w3 by rw [hw3.out]; exact alloc_below _ _)
  have R3 := hide_it (r2.later al3.out (Nat.le_refl _))
  have F3 := hide_it ((hF.later al3.out (Nat.le_refl _)).mono (show w.heap.size + 2 ≤ w1.heap.size by omega))
  have X3 : Hid (RB w3 w2.heap.size k t (.slice (some ⟨g, off, none⟩) zs.length cp)) := by show RB _ _ _ _ _; rw [hw3.out]; exact RB.new w2 _ _ _
  have Z3 := hide_it ((Z1.out.mid m2 (Or.inl (by omega))).mid (Mid.of_below (lo := 0) (hi := 0) al3.out (Nat.le_refl _)) (Or.inr (Nat.zero_le _)))
  have M3 := hide_it (m2.trans (Mid.of_below al3.out (Nat.le_refl _)))
  clear r2 m2 hF
  go_wp2_with fail
  rw [← hw3.out]
  refine (pick_any (w.heap.size + 1) q 4 _ R3.out (by omega) (by omega) (by omega)).mono ?_
  rintro e w4 ⟨x, rfl, lx, ux, r4, m4⟩
  have R4 := hide_it r4
  have F4 := hide_it (F3.out.mid R3.out m4)
  have X4 := hide_it (X3.out.mid m4 (Or.inr (by omega)))
  have Z4 := hide_it (Z3.out.mid m4 (Or.inl (by omega)))
  have M4 := hide_it (M3.out.trans m4)
  clear r4 m4
  have fin : ∀ (W : World) (kk : Int), RB W w2.heap.size kk t (.slice (some ⟨g, off, none⟩) zs.length cp) → RB W w.heap.size 0 0 (.slice none 0 0) → Fresh W (w.heap.size + 2) (.slice (some ⟨g, off, none⟩) zs.length cp) zs cp → Below w.heap.size w W →
      Fresh (((W.setCell ⟨w.heap.size, 0, none⟩ (.int .i64 kk)).setCell ⟨w.heap.size, 1, none⟩ (.int .i64 t)).setCell ⟨w.heap.size, 2, none⟩ (.slice (some ⟨g, off, none⟩) zs.length cp)) (w.heap.size + 2) (.slice (some ⟨g, off, none⟩) zs.length cp) zs cp ∧ Below w.heap.size w (((W.setCell ⟨w.heap.size, 0, none⟩ (.int .i64 kk)).setCell ⟨w.heap.size, 1, none⟩ (.int .i64 t)).setCell ⟨w.heap.size, 2, none⟩ (.slice (some ⟨g, off, none⟩) zs.length cp)) := by
    intro W kk _ _ hf hb
    obtain ⟨g', off', cs, hu, hlo, hh, hc⟩ := hf
    refine ⟨⟨g', off', cs, hu, hlo, ?_, hc⟩, ((hb.setCell (by simp) _).setCell (by simp) _).setCell (by simp) _⟩
    rw [Below.heap_setCell _ _ _ _ (by simp; omega), Below.heap_setCell _ _ _ _ (by simp; omega), Below.heap_setCell _ _ _ _ (by simp; omega)]
    exact hh
  have FIN := hide_it fin
  clear fin
  by_cases hx0 : x = 0
  · subst hx0
    obtain ⟨x0, x1, x2, x3, x4, x5⟩ := X4.out.cells
    go_wp2_with fail
    refine (pick_any (w.heap.size + 1) (q + 1) 9 _ R4.out (by omega) (by omega) (by omega)).mono ?_
    rintro e w5 ⟨kk, rfl, lk, uk, r5, m5⟩
    have F5 := hide_it (F4.out.mid R4.out m5)
    have X5 := hide_it (X4.out.mid m5 (Or.inr (by omega)))
    have Z5 := hide_it (Z4.out.mid m5 (Or.inl (by omega)))
    have B5 := hide_it (B1.out.trans ((M4.out.trans m5).below (B := w.heap.size) (by omega) B1.out.size))
    have X6 := hide_it (X5.out.set0 kk)
    have Z6 := hide_it (Z5.out.mid (Mid.set (b := w2.heap.size) (i := 0) (.int .i64 kk)) (Or.inl (by omega)))
    have F6 := hide_it (F5.out.set (i := 0) X5.out (by decide) (.int .i64 kk))
    have B6 : Hid (Below w.heap.size w (w5.setCell ⟨w2.heap.size, 0, none⟩ (.int .i64 kk))) := B5.out.setCell (by simp; omega) _
    have hl5 := heap_lt X5.out
    have hlz := heap_lt Z5.out
    clear r5 m5 x0 x1 x2 x3 x4 x5
    obtain ⟨x0, x1, x2, x3, x4, x5⟩ := X5.out.cells
    obtain ⟨z0, z1, z2, z3, z4, z5⟩ := Z5.out.cells
    have hne : ¬ w2.heap.size = w.heap.size := by omega
    have hne2 : ¬ w.heap.size = w2.heap.size := by omega
    go_wp2
    exact bodyPost_ret (v := .agg #[.int .i64 kk, .int .i64 t, .slice (some ⟨g, off, none⟩) zs.length cp]) (by simp [results, Tryd.results7, go_sem, z0, z1, z2]) rfl ⟨kk, t, _, zs, rfl, (FIN.out _ kk X6.out Z6.out F6.out B6.out).1.ints, hz, (FIN.out _ kk X6.out Z6.out F6.out B6.out).2⟩
  · have B4 := hide_it (B1.out.trans (M4.out.below (B := w.heap.size) (by omega) B1.out.size))
    have hl4 := heap_lt X4.out
    have hlz := heap_lt Z4.out
    obtain ⟨x0, x1, x2, x3, x4, x5⟩ := X4.out.cells
    obtain ⟨z0, z1, z2, z3, z4, z5⟩ := Z4.out.cells
    have hne : ¬ w2.heap.size = w.heap.size := by omega
    have hne2 : ¬ w.heap.size = w2.heap.size := by omega
    have e0 : (x == 0) = false := by simp [hx0]
    go_wp2
    exact bodyPost_ret (v := .agg #[.int .i64 k, .int .i64 t, .slice (some ⟨g, off, none⟩) zs.length cp]) (by simp [results, Tryd.results7, go_sem, z0, z1, z2]) rfl ⟨k, t, _, zs, rfl, (FIN.out _ k X4.out Z4.out F4.out B4.out).1.ints, hz, (FIN.out _ k X4.out Z4.out F4.out B4.out).2⟩

set_option maxRecDepth 100000 in
set_option maxHeartbeats 4000000 in
theorem lawP12_small (vc : Value) (nc : Nat) (am : Option Addr) (nm cm : Nat) (a : Addr) (w : World) (hc : CodeAt w vc nc) (hnc : nc ≤ 1048576) (hnm : nm ≤ 1048576) (ha : ErrAt w a) :
    Calls Tryd.prog 6 #[vc, .slice am nm cm] w fun e w' => e = .returned (.bool true) ∧ Below w.heap.size w w' := by
  have HA : Hid (∀ W, Below w.heap.size w W → ErrAt W a) := fun W h => ha.later h (Nat.le_refl _)
  have HD := hide_it (drawRec_any vc nc w hc hnc)
  obtain ⟨ac, cc, rfl, _⟩ := hc
  clear ha
  go_enter Tryd.func6, Tryd.ntmps6
  go_wp2_with fail
  refine HD.out.mono ?_
  rintro e w1 ⟨k, t, u, zs, rfl, hu, hz4, hb1⟩
  obtain ⟨au, cu, hus⟩ := hu.shape
  subst hus
  have hzl : zs.length ≤ 1048576 := by omega
  have B1 := hide_it hb1
  have U1 := hide_it hu
  clear hb1 hu
  obtain ⟨w2, hw2⟩ : ∃ W, Hid (W = w1.alloc (.cells #[.int .i64 k, .int .i64 t, .slice au zs.length cu] 25)) := ⟨_, rfl⟩
  have al2 := hide_it (show Below w1.heap.size w1 w2 by rw [hw2.out]; exact alloc_below _ _)
  have B2 := hide_it (B1.out.trans (al2.out.mono B1.out.size))
  have U2 := hide_it (U1.out.later al2.out (Nat.le_refl _))
  have Q2 : Hid (RecAt w2 w1.heap.size k t (.slice au zs.length cu)) := by show RecAt _ _ _ _ _; rw [hw2.out]; exact RecAt.new w1 _ _ _ _
  obtain ⟨BB, hBB⟩ : ∃ b, Pl.recOk k t zs = b := ⟨_, rfl⟩
  have HBB := hide_it hBB
  have HIM : Hid (∀ W, Below w2.heap.size w2 W → Calls Tryd.prog 8 #[.agg #[.int .i64 k, .int .i64 t, .slice au zs.length cu]] W fun e w' => e = .returned (.bool BB) ∧ Below W.heap.size W w') := fun W h => by
    rw [← hBB]; exact implOk_any k t _ zs a W (U2.out.later h (Nat.le_refl _)) hzl (HA.out _ (B2.out.trans (h.mono B2.out.size)))
  have HSP : Hid (∀ W, Below w2.heap.size w2 W → Calls Tryd.prog 9 #[.agg #[.int .i64 k, .int .i64 t, .slice au zs.length cu]] W fun e w' => e = .returned (.bool BB) ∧ Below W.heap.size W w') := fun W h => by
    rw [← hBB]; exact specOk_any k t _ zs W (U2.out.later h (Nat.le_refl _)) hzl
  clear hBB
  go_wp2_with fail
  rw [← hw2.out]
  refine (HIM.out w2 (Below.refl _ _)).mono ?_
  rintro e w3 ⟨rfl, hb3⟩
  have N3 := hide_it hb3
  clear hb3
  obtain ⟨q0, q1, q2⟩ := Q2.out.later N3.out (Nat.le_refl _)
  go_wp2_with fail
  refine (HSP.out w3 N3.out).mono ?_
  rintro e w4 ⟨rfl, hb4⟩
  have N4 := hide_it (N3.out.trans (hb4.mono N3.out.size))
  have Q4 := hide_it (Q2.out.later N4.out (Nat.le_refl _))
  clear hb4 q0 q1 q2
  obtain ⟨q0, q1, q2⟩ := Q4.out
  cases BB
  · go_wp2_with fail
    refine (HSP.out w4 N4.out).mono ?_
    rintro e w5 ⟨rfl, hb5⟩
    have B5 := hide_it (B2.out.trans ((N4.out.trans (hb5.mono N4.out.size)).mono B2.out.size))
    clear hb5
    go_wp2
    go_ret
    exact ⟨rfl, B5.out⟩
  · obtain ⟨m, hm⟩ : ∃ m : Int, (nm : Int) % 7 = m := ⟨_, rfl⟩
    have hm0 : 0 ≤ m := by omega
    have hm7 : m < 7 := by omega
    have hq : w1.heap.size < w4.heap.size := World.block_lt_of_cell? _ _ q0
    obtain ⟨CC, hCC⟩ : ∃ b, Pl.recOk (1 + m) t zs = b := ⟨_, rfl⟩
    have HCC : Hid (CC = (decide (1 + m = k) || (plainK k && plainK (1 + m)))) := by show _ = _; rw [← hCC]; exact kinds_ok (1 + m) HBB.out (by omega) (by omega)
    have B4 := hide_it (B2.out.trans (N4.out.mono B2.out.size))
    have U4 := hide_it (U2.out.later N4.out (Nat.le_refl _))
    have HX : Hid (∀ W, Below w4.heap.size w4 W → Calls Tryd.prog 8 #[.agg #[.int .i64 (1 + m), .int .i64 t, .slice au zs.length cu]] W fun e w' => e = .returned (.bool CC) ∧ Below W.heap.size W w') := fun W h => by
      rw [← hCC]; exact implOk_any (1 + m) t _ zs a W (U4.out.later h (Nat.le_refl _)) hzl (HA.out _ (B4.out.trans (h.mono B4.out.size)))
    have hkb := Pl.inB_true (show Pl.inB k 1 7 = true by
      have h := HBB.out
      by_cases h1 : k = 1
      · subst h1; decide
      by_cases h4 : k = 4
      · subst h4; decide
      have ht : Pl.inB t 1 6 = true := by
        cases ht : Pl.inB t 1 6
        · rw [Pl.recOk_t k t zs ht] at h; cases h
        · rfl
      rw [Pl.recOk_p k t zs ht h1 h4] at h
      simp only [Bool.and_eq_true] at h
      have := Pl.inB_true h.1
      exact Pl.inB_mk (by omega) (by omega))
    clear hCC
    by_cases k1 : k = 1
    · subst k1
      by_cases m0 : m = 0
      · subst m0
        have HCC1 : CC = true := by rw [HCC.out]; decide
        have HX1 : Hid (∀ W, Below w4.heap.size w4 W → Calls Tryd.prog 8 #[.agg #[.int .i64 (1), .int .i64 t, .slice au zs.length cu]] W fun e w' => e = .returned (.bool CC) ∧ Below W.heap.size W w') := fun W h => HX.out W h
        rw [HCC1] at HX1
        obtain ⟨w5, hw5⟩ : ∃ W, Hid (W = w4.alloc (.cells #[.int .i64 (1), .int .i64 t, .slice au zs.length cu] 25)) := ⟨_, rfl⟩
        have al5 := hide_it (show Below w4.heap.size w4 w5 by rw [hw5.out]; exact alloc_below _ _)
        have X5 : Hid (RecAt w5 w4.heap.size (1) t (.slice au zs.length cu)) := by show RecAt _ _ _ _ _; rw [hw5.out]; exact RecAt.new w4 _ _ _ _
        have Q5 := hide_it (Q4.out.later al5.out (Nat.le_refl _))
        go_wp2_with fail
        rw [← hw5.out]
        clear q0 q1 q2
        obtain ⟨q0, q1, q2⟩ := Q5.out
        obtain ⟨x0, x1, x2⟩ := X5.out
        have KB : Hid (∀ W, Below w5.heap.size w5 W → W.cell? ⟨w4.heap.size, 0, none⟩ = some (.int .i64 (1)) ∧ W.cell? ⟨w4.heap.size, 1, none⟩ = some (.int .i64 t) ∧ W.cell? ⟨w4.heap.size, 2, none⟩ = some (.slice au zs.length cu) ∧ W.cell? ⟨w1.heap.size, 0, none⟩ = some (.int .i64 (1))) := fun W hb => ⟨(X5.out.later hb (Nat.le_refl _)).1, (X5.out.later hb (Nat.le_refl _)).2.1, (X5.out.later hb (Nat.le_refl _)).2.2, (Q5.out.later hb (Nat.le_refl _)).1⟩
        refine wp_region_held_drew (S := fun w' => w'.cell? ⟨w4.heap.size, 0, none⟩ = some (.int .i64 (1)) ∧ w'.cell? ⟨w4.heap.size, 1, none⟩ = some (.int .i64 t) ∧ w'.cell? ⟨w4.heap.size, 2, none⟩ = some (.slice au zs.length cu) ∧ w'.cell? ⟨w1.heap.size, 0, none⟩ = some (.int .i64 (1))) (by kernel_rfl) (KB.out _ (Below.refl _ _).drew) (fun hHeld => ?_)
        refine takeD (i := 0) (v := ?_) (some 56) rfl rfl (by kernel_rfl) (by kernel_rfl) (by kernel_rfl) (fun _ _ _ h => h) (by rfl) hHeld ?_ ?_
        rotate_left
        · intro W hSw
          try dsimp only at hSw
          go_simp
          try with_reducible rfl
        try simp only [Act.put]
        try simp only [List.setIfInBounds_toArray]
        try simp only [List.set_cons_succ]
        try simp only [List.set_cons_zero]
        refine takeD (i := 2) (v := ?_) (some 58) rfl rfl (by kernel_rfl) (by kernel_rfl) (by kernel_rfl) (fun _ _ _ h => h) (by rfl) hHeld ?_ ?_
        rotate_left
        · intro W hSw
          try dsimp only at hSw
          go_simp
          try with_reducible rfl
        try simp only [Act.put]
        try simp only [List.setIfInBounds_toArray]
        try simp only [List.set_cons_succ]
        try simp only [List.set_cons_zero]
        refine takeD (i := 3) (v := ?_) (some 59) rfl rfl (by kernel_rfl) (by kernel_rfl) (by kernel_rfl) (fun _ _ _ h => h) (by rfl) hHeld ?_ ?_
        rotate_left
        · intro W hSw
          try dsimp only at hSw
          go_simp
          try with_reducible rfl
        try simp only [Act.put]
        try simp only [List.setIfInBounds_toArray]
        try simp only [List.set_cons_succ]
        try simp only [List.set_cons_zero]
        refine takeD (i := 4) (v := ?_) (some 60) rfl rfl (by kernel_rfl) (by kernel_rfl) (by kernel_rfl) (fun _ _ _ h => h) (by rfl) hHeld ?_ ?_
        rotate_left
        · intro W hSw
          try dsimp only at hSw
          go_simp
          try with_reducible rfl
        try simp only [Act.put]
        try simp only [List.setIfInBounds_toArray]
        try simp only [List.set_cons_succ]
        try simp only [List.set_cons_zero]
        refine takeD (i := 5) (v := ?_) (some 61) rfl rfl (by kernel_rfl) (by kernel_rfl) (by kernel_rfl) (fun _ _ _ h => h) (by rfl) hHeld ?_ ?_
        rotate_left
        · intro W hSw
          try dsimp only at hSw
          go_simp
          try with_reducible rfl
        try simp only [Act.put]
        try simp only [List.setIfInBounds_toArray]
        try simp only [List.set_cons_succ]
        try simp only [List.set_cons_zero]
        refine takeD (i := 6) (v := ?_) (some 62) rfl rfl (by kernel_rfl) (by kernel_rfl) (by kernel_rfl) (fun _ _ _ h => h) (by rfl) hHeld ?_ ?_
        rotate_left
        · intro W hSw
          try dsimp only at hSw
          go_simp
          try with_reducible rfl
        try simp only [Act.put]
        try simp only [List.setIfInBounds_toArray]
        try simp only [List.set_cons_succ]
        try simp only [List.set_cons_zero]
        refine wpAnyH_ready (rs := [1]) (by kernel_rfl) (by simp) ?_
        refine AllReadyH.cons rfl (fun K hK => ?_) AllReadyH.nil
        go_simp
        refine (HX1.out _ al5.out.drew).mono ?_
        rintro e w6 ⟨rfl, hb6⟩
        have N6 := hide_it (al5.out.drew.trans (hb6.mono al5.out.size))
        have L6 := hide_it ((Below.refl w5.heap.size w5).drew.trans hb6)
        clear hb6
        try dsimp only
        refine hK.out _ _ (KB.out _ L6.out) (fun hHeld => ?_)
        clear hK K
        refine takeD (i := 7) (v := .bool true) (some 63) rfl rfl (by kernel_rfl) (by kernel_rfl) (by kernel_rfl) (fun _ _ _ h => h) (by rfl) hHeld ?_ ?_
        · intro W hSw
          try dsimp only at hSw
          first | (go_simp; done) | (go_simp; simp; done) | (go_simp; omega) | (go_simp; simp [*])
        try simp only [Act.put]
        try simp only [List.setIfInBounds_toArray]
        try simp only [List.set_cons_succ]
        try simp only [List.set_cons_zero]
        refine skipD (i := 8) (some 64) rfl rfl (by kernel_rfl) (by kernel_rfl) (by kernel_rfl) (fun _ _ _ h => h) (by rfl) hHeld ?_
        try simp only [Act.put]
        try simp only [List.setIfInBounds_toArray]
        try simp only [List.set_cons_succ]
        try simp only [List.set_cons_zero]
        refine skipD (i := 9) (some 65) rfl rfl (by kernel_rfl) (by kernel_rfl) (by kernel_rfl) (fun _ _ _ h => h) (by rfl) hHeld ?_
        try simp only [Act.put]
        try simp only [List.setIfInBounds_toArray]
        try simp only [List.set_cons_succ]
        try simp only [List.set_cons_zero]
        refine skipD (i := 10) (some 66) rfl rfl (by kernel_rfl) (by kernel_rfl) (by kernel_rfl) (fun _ _ _ h => h) (by rfl) hHeld ?_
        try simp only [Act.put]
        try simp only [List.setIfInBounds_toArray]
        try simp only [List.set_cons_succ]
        try simp only [List.set_cons_zero]
        refine skipD (i := 11) (some 67) rfl rfl (by kernel_rfl) (by kernel_rfl) (by kernel_rfl) (fun _ _ _ h => h) (by rfl) hHeld ?_
        try simp only [Act.put]
        try simp only [List.setIfInBounds_toArray]
        try simp only [List.set_cons_succ]
        try simp only [List.set_cons_zero]
        refine takeD (i := 12) (v := ?_) (some 68) rfl rfl (by kernel_rfl) (by kernel_rfl) (by kernel_rfl) (fun _ _ _ h => h) (by rfl) hHeld ?_ ?_
        rotate_left
        · intro W hSw
          try dsimp only at hSw
          go_simp
          try with_reducible rfl
        try simp only [Act.put]
        try simp only [List.setIfInBounds_toArray]
        try simp only [List.set_cons_succ]
        try simp only [List.set_cons_zero]
        refine takeD (i := 13) (v := ?_) (some 69) rfl rfl (by kernel_rfl) (by kernel_rfl) (by kernel_rfl) (fun _ _ _ h => h) (by rfl) hHeld ?_ ?_
        rotate_left
        · intro W hSw
          try dsimp only at hSw
          go_simp
          try with_reducible rfl
        try simp only [Act.put]
        try simp only [List.setIfInBounds_toArray]
        try simp only [List.set_cons_succ]
        try simp only [List.set_cons_zero]
        refine takeD (i := 14) (v := ?_) (some 4) rfl rfl (by kernel_rfl) (by kernel_rfl) (by kernel_rfl) (fun _ _ _ h => h) (by rfl) hHeld ?_ ?_
        rotate_left
        · intro W hSw
          try dsimp only at hSw
          go_simp
          try with_reducible rfl
        try simp only [Act.put]
        try simp only [List.setIfInBounds_toArray]
        try simp only [List.set_cons_succ]
        try simp only [List.set_cons_zero]
        refine wpAnyH_done (by kernel_rfl) ?_ _
        have B6 := hide_it (B4.out.trans (N6.out.mono B4.out.size))
        go_wp2
        go_ret
        exact ⟨rfl, B6.out⟩
      by_cases m3 : m = 3
      · subst m3
        have HCC1 : CC = false := by rw [HCC.out]; decide
        have HX1 : Hid (∀ W, Below w4.heap.size w4 W → Calls Tryd.prog 8 #[.agg #[.int .i64 (4), .int .i64 t, .slice au zs.length cu]] W fun e w' => e = .returned (.bool CC) ∧ Below W.heap.size W w') := fun W h => HX.out W h
        rw [HCC1] at HX1
        obtain ⟨w5, hw5⟩ : ∃ W, Hid (W = w4.alloc (.cells #[.int .i64 (4), .int .i64 t, .slice au zs.length cu] 25)) := ⟨_, rfl⟩
        have al5 := hide_it (show Below w4.heap.size w4 w5 by rw [hw5.out]; exact alloc_below _ _)
        have X5 : Hid (RecAt w5 w4.heap.size (4) t (.slice au zs.length cu)) := by show RecAt _ _ _ _ _; rw [hw5.out]; exact RecAt.new w4 _ _ _ _
        have Q5 := hide_it (Q4.out.later al5.out (Nat.le_refl _))
        go_wp2_with fail
        rw [← hw5.out]
        clear q0 q1 q2
        obtain ⟨q0, q1, q2⟩ := Q5.out
        obtain ⟨x0, x1, x2⟩ := X5.out
        first | (go_region_held (fun w' => w'.cell? ⟨w4.heap.size, 0, none⟩ = some (.int .i64 (4)) ∧ w'.cell? ⟨w4.heap.size, 1, none⟩ = some (.int .i64 t) ∧ w'.cell? ⟨w4.heap.size, 2, none⟩ = some (.slice au zs.length cu) ∧ w'.cell? ⟨w1.heap.size, 0, none⟩ = some (.int .i64 1)) (go_keep) ((go_at_call 8; refine (HX1.out _ al5.out.drew).mono ?_; rintro e w6 ⟨rfl, hb6⟩; have N6 := hide_it (al5.out.drew.trans (hb6.mono al5.out.size)); have L6 := hide_it ((Below.refl w5.heap.size w5).drew.trans hb6); obtain ⟨p0, p1, p2⟩ := Q5.out.later L6.out (Nat.le_refl _); obtain ⟨y0, y1, y2⟩ := X5.out.later L6.out (Nat.le_refl _); clear hb6))) | fail
        all_goals
          have B6 := hide_it (B4.out.trans (N6.out.mono B4.out.size))
          go_wp2
          go_ret
          exact ⟨rfl, B6.out⟩
      · have HCC1 : CC = false := by rw [HCC.out]; simp [plainK]; omega
        have g1 : (1 + m == 1) = false := by simp; omega
        have g2 : (1 + m == 4) = false := by simp; omega
        have g1n : (1 + m != 1) = true := by simp; omega
        have g2n : (1 + m != 4) = true := by simp; omega
        have HX1 : Hid (∀ W, Below w4.heap.size w4 W → Calls Tryd.prog 8 #[.agg #[.int .i64 (1 + m), .int .i64 t, .slice au zs.length cu]] W fun e w' => e = .returned (.bool CC) ∧ Below W.heap.size W w') := fun W h => HX.out W h
        rw [HCC1] at HX1
        obtain ⟨w5, hw5⟩ : ∃ W, Hid (W = w4.alloc (.cells #[.int .i64 (1 + m), .int .i64 t, .slice au zs.length cu] 25)) := ⟨_, rfl⟩
        have al5 := hide_it (show Below w4.heap.size w4 w5 by rw [hw5.out]; exact alloc_below _ _)
        have X5 : Hid (RecAt w5 w4.heap.size (1 + m) t (.slice au zs.length cu)) := by show RecAt _ _ _ _ _; rw [hw5.out]; exact RecAt.new w4 _ _ _ _
        have Q5 := hide_it (Q4.out.later al5.out (Nat.le_refl _))
        go_wp2_with fail
        rw [← hw5.out]
        clear q0 q1 q2
        obtain ⟨q0, q1, q2⟩ := Q5.out
        obtain ⟨x0, x1, x2⟩ := X5.out
        first | (go_region_held (fun w' => w'.cell? ⟨w4.heap.size, 0, none⟩ = some (.int .i64 (1 + m)) ∧ w'.cell? ⟨w4.heap.size, 1, none⟩ = some (.int .i64 t) ∧ w'.cell? ⟨w4.heap.size, 2, none⟩ = some (.slice au zs.length cu) ∧ w'.cell? ⟨w1.heap.size, 0, none⟩ = some (.int .i64 1)) (go_keep) ((go_at_call 8; refine (HX1.out _ al5.out.drew).mono ?_; rintro e w6 ⟨rfl, hb6⟩; have N6 := hide_it (al5.out.drew.trans (hb6.mono al5.out.size)); have L6 := hide_it ((Below.refl w5.heap.size w5).drew.trans hb6); obtain ⟨p0, p1, p2⟩ := Q5.out.later L6.out (Nat.le_refl _); obtain ⟨y0, y1, y2⟩ := X5.out.later L6.out (Nat.le_refl _); clear hb6))) | fail
        all_goals
          have B6 := hide_it (B4.out.trans (N6.out.mono B4.out.size))
          go_wp2
          go_ret
          exact ⟨rfl, B6.out⟩
    by_cases k4 : k = 4
    · subst k4
      by_cases m0 : m = 0
      · subst m0
        have HCC1 : CC = false := by rw [HCC.out]; decide
        have HX1 : Hid (∀ W, Below w4.heap.size w4 W → Calls Tryd.prog 8 #[.agg #[.int .i64 (1), .int .i64 t, .slice au zs.length cu]] W fun e w' => e = .returned (.bool CC) ∧ Below W.heap.size W w') := fun W h => HX.out W h
        rw [HCC1] at HX1
        obtain ⟨w5, hw5⟩ : ∃ W, Hid (W = w4.alloc (.cells #[.int .i64 (1), .int .i64 t, .slice au zs.length cu] 25)) := ⟨_, rfl⟩
        have al5 := hide_it (show Below w4.heap.size w4 w5 by rw [hw5.out]; exact alloc_below _ _)
        have X5 : Hid (RecAt w5 w4.heap.size (1) t (.slice au zs.length cu)) := by show RecAt _ _ _ _ _; rw [hw5.out]; exact RecAt.new w4 _ _ _ _
        have Q5 := hide_it (Q4.out.later al5.out (Nat.le_refl _))
        go_wp2_with fail
        rw [← hw5.out]
        clear q0 q1 q2
        obtain ⟨q0, q1, q2⟩ := Q5.out
        obtain ⟨x0, x1, x2⟩ := X5.out
        first | (go_region_held (fun w' => w'.cell? ⟨w4.heap.size, 0, none⟩ = some (.int .i64 (1)) ∧ w'.cell? ⟨w4.heap.size, 1, none⟩ = some (.int .i64 t) ∧ w'.cell? ⟨w4.heap.size, 2, none⟩ = some (.slice au zs.length cu) ∧ w'.cell? ⟨w1.heap.size, 0, none⟩ = some (.int .i64 4)) (go_keep) ((go_at_call 8; refine (HX1.out _ al5.out.drew).mono ?_; rintro e w6 ⟨rfl, hb6⟩; have N6 := hide_it (al5.out.drew.trans (hb6.mono al5.out.size)); have L6 := hide_it ((Below.refl w5.heap.size w5).drew.trans hb6); obtain ⟨p0, p1, p2⟩ := Q5.out.later L6.out (Nat.le_refl _); obtain ⟨y0, y1, y2⟩ := X5.out.later L6.out (Nat.le_refl _); clear hb6))) | fail
        all_goals
          have B6 := hide_it (B4.out.trans (N6.out.mono B4.out.size))
          go_wp2
          go_ret
          exact ⟨rfl, B6.out⟩
      by_cases m3 : m = 3
      · subst m3
        have HCC1 : CC = true := by rw [HCC.out]; decide
        have HX1 : Hid (∀ W, Below w4.heap.size w4 W → Calls Tryd.prog 8 #[.agg #[.int .i64 (4), .int .i64 t, .slice au zs.length cu]] W fun e w' => e = .returned (.bool CC) ∧ Below W.heap.size W w') := fun W h => HX.out W h
        rw [HCC1] at HX1
        obtain ⟨w5, hw5⟩ : ∃ W, Hid (W = w4.alloc (.cells #[.int .i64 (4), .int .i64 t, .slice au zs.length cu] 25)) := ⟨_, rfl⟩
        have al5 := hide_it (show Below w4.heap.size w4 w5 by rw [hw5.out]; exact alloc_below _ _)
        have X5 : Hid (RecAt w5 w4.heap.size (4) t (.slice au zs.length cu)) := by show RecAt _ _ _ _ _; rw [hw5.out]; exact RecAt.new w4 _ _ _ _
        have Q5 := hide_it (Q4.out.later al5.out (Nat.le_refl _))
        go_wp2_with fail
        rw [← hw5.out]
        clear q0 q1 q2
        obtain ⟨q0, q1, q2⟩ := Q5.out
        obtain ⟨x0, x1, x2⟩ := X5.out
        have KB : Hid (∀ W, Below w5.heap.size w5 W → W.cell? ⟨w4.heap.size, 0, none⟩ = some (.int .i64 (4)) ∧ W.cell? ⟨w4.heap.size, 1, none⟩ = some (.int .i64 t) ∧ W.cell? ⟨w4.heap.size, 2, none⟩ = some (.slice au zs.length cu) ∧ W.cell? ⟨w1.heap.size, 0, none⟩ = some (.int .i64 (4))) := fun W hb => ⟨(X5.out.later hb (Nat.le_refl _)).1, (X5.out.later hb (Nat.le_refl _)).2.1, (X5.out.later hb (Nat.le_refl _)).2.2, (Q5.out.later hb (Nat.le_refl _)).1⟩
        refine wp_region_held_drew (S := fun w' => w'.cell? ⟨w4.heap.size, 0, none⟩ = some (.int .i64 (4)) ∧ w'.cell? ⟨w4.heap.size, 1, none⟩ = some (.int .i64 t) ∧ w'.cell? ⟨w4.heap.size, 2, none⟩ = some (.slice au zs.length cu) ∧ w'.cell? ⟨w1.heap.size, 0, none⟩ = some (.int .i64 (4))) (by kernel_rfl) (KB.out _ (Below.refl _ _).drew) (fun hHeld => ?_)
        refine takeD (i := 0) (v := ?_) (some 56) rfl rfl (by kernel_rfl) (by kernel_rfl) (by kernel_rfl) (fun _ _ _ h => h) (by rfl) hHeld ?_ ?_
        rotate_left
        · intro W hSw
          try dsimp only at hSw
          go_simp
          try with_reducible rfl
        try simp only [Act.put]
        try simp only [List.setIfInBounds_toArray]
        try simp only [List.set_cons_succ]
        try simp only [List.set_cons_zero]
        refine takeD (i := 2) (v := ?_) (some 58) rfl rfl (by kernel_rfl) (by kernel_rfl) (by kernel_rfl) (fun _ _ _ h => h) (by rfl) hHeld ?_ ?_
        rotate_left
        · intro W hSw
          try dsimp only at hSw
          go_simp
          try with_reducible rfl
        try simp only [Act.put]
        try simp only [List.setIfInBounds_toArray]
        try simp only [List.set_cons_succ]
        try simp only [List.set_cons_zero]
        refine takeD (i := 3) (v := ?_) (some 59) rfl rfl (by kernel_rfl) (by kernel_rfl) (by kernel_rfl) (fun _ _ _ h => h) (by rfl) hHeld ?_ ?_
        rotate_left
        · intro W hSw
          try dsimp only at hSw
          go_simp
          try with_reducible rfl
        try simp only [Act.put]
        try simp only [List.setIfInBounds_toArray]
        try simp only [List.set_cons_succ]
        try simp only [List.set_cons_zero]
        refine takeD (i := 4) (v := ?_) (some 60) rfl rfl (by kernel_rfl) (by kernel_rfl) (by kernel_rfl) (fun _ _ _ h => h) (by rfl) hHeld ?_ ?_
        rotate_left
        · intro W hSw
          try dsimp only at hSw
          go_simp
          try with_reducible rfl
        try simp only [Act.put]
        try simp only [List.setIfInBounds_toArray]
        try simp only [List.set_cons_succ]
        try simp only [List.set_cons_zero]
        refine takeD (i := 5) (v := ?_) (some 61) rfl rfl (by kernel_rfl) (by kernel_rfl) (by kernel_rfl) (fun _ _ _ h => h) (by rfl) hHeld ?_ ?_
        rotate_left
        · intro W hSw
          try dsimp only at hSw
          go_simp
          try with_reducible rfl
        try simp only [Act.put]
        try simp only [List.setIfInBounds_toArray]
        try simp only [List.set_cons_succ]
        try simp only [List.set_cons_zero]
        refine takeD (i := 6) (v := ?_) (some 62) rfl rfl (by kernel_rfl) (by kernel_rfl) (by kernel_rfl) (fun _ _ _ h => h) (by rfl) hHeld ?_ ?_
        rotate_left
        · intro W hSw
          try dsimp only at hSw
          go_simp
          try with_reducible rfl
        try simp only [Act.put]
        try simp only [List.setIfInBounds_toArray]
        try simp only [List.set_cons_succ]
        try simp only [List.set_cons_zero]
        refine wpAnyH_ready (rs := [1]) (by kernel_rfl) (by simp) ?_
        refine AllReadyH.cons rfl (fun K hK => ?_) AllReadyH.nil
        go_simp
        refine (HX1.out _ al5.out.drew).mono ?_
        rintro e w6 ⟨rfl, hb6⟩
        have N6 := hide_it (al5.out.drew.trans (hb6.mono al5.out.size))
        have L6 := hide_it ((Below.refl w5.heap.size w5).drew.trans hb6)
        clear hb6
        try dsimp only
        refine hK.out _ _ (KB.out _ L6.out) (fun hHeld => ?_)
        clear hK K
        refine takeD (i := 7) (v := .bool true) (some 63) rfl rfl (by kernel_rfl) (by kernel_rfl) (by kernel_rfl) (fun _ _ _ h => h) (by rfl) hHeld ?_ ?_
        · intro W hSw
          try dsimp only at hSw
          first | (go_simp; done) | (go_simp; simp; done) | (go_simp; omega) | (go_simp; simp [*])
        try simp only [Act.put]
        try simp only [List.setIfInBounds_toArray]
        try simp only [List.set_cons_succ]
        try simp only [List.set_cons_zero]
        refine skipD (i := 8) (some 64) rfl rfl (by kernel_rfl) (by kernel_rfl) (by kernel_rfl) (fun _ _ _ h => h) (by rfl) hHeld ?_
        try simp only [Act.put]
        try simp only [List.setIfInBounds_toArray]
        try simp only [List.set_cons_succ]
        try simp only [List.set_cons_zero]
        refine skipD (i := 9) (some 65) rfl rfl (by kernel_rfl) (by kernel_rfl) (by kernel_rfl) (fun _ _ _ h => h) (by rfl) hHeld ?_
        try simp only [Act.put]
        try simp only [List.setIfInBounds_toArray]
        try simp only [List.set_cons_succ]
        try simp only [List.set_cons_zero]
        refine skipD (i := 10) (some 66) rfl rfl (by kernel_rfl) (by kernel_rfl) (by kernel_rfl) (fun _ _ _ h => h) (by rfl) hHeld ?_
        try simp only [Act.put]
        try simp only [List.setIfInBounds_toArray]
        try simp only [List.set_cons_succ]
        try simp only [List.set_cons_zero]
        refine skipD (i := 11) (some 67) rfl rfl (by kernel_rfl) (by kernel_rfl) (by kernel_rfl) (fun _ _ _ h => h) (by rfl) hHeld ?_
        try simp only [Act.put]
        try simp only [List.setIfInBounds_toArray]
        try simp only [List.set_cons_succ]
        try simp only [List.set_cons_zero]
        refine takeD (i := 12) (v := ?_) (some 68) rfl rfl (by kernel_rfl) (by kernel_rfl) (by kernel_rfl) (fun _ _ _ h => h) (by rfl) hHeld ?_ ?_
        rotate_left
        · intro W hSw
          try dsimp only at hSw
          go_simp
          try with_reducible rfl
        try simp only [Act.put]
        try simp only [List.setIfInBounds_toArray]
        try simp only [List.set_cons_succ]
        try simp only [List.set_cons_zero]
        refine takeD (i := 13) (v := ?_) (some 69) rfl rfl (by kernel_rfl) (by kernel_rfl) (by kernel_rfl) (fun _ _ _ h => h) (by rfl) hHeld ?_ ?_
        rotate_left
        · intro W hSw
          try dsimp only at hSw
          go_simp
          try with_reducible rfl
        try simp only [Act.put]
        try simp only [List.setIfInBounds_toArray]
        try simp only [List.set_cons_succ]
        try simp only [List.set_cons_zero]
        refine takeD (i := 14) (v := ?_) (some 4) rfl rfl (by kernel_rfl) (by kernel_rfl) (by kernel_rfl) (fun _ _ _ h => h) (by rfl) hHeld ?_ ?_
        rotate_left
        · intro W hSw
          try dsimp only at hSw
          go_simp
          try with_reducible rfl
        try simp only [Act.put]
        try simp only [List.setIfInBounds_toArray]
        try simp only [List.set_cons_succ]
        try simp only [List.set_cons_zero]
        refine wpAnyH_done (by kernel_rfl) ?_ _
        have B6 := hide_it (B4.out.trans (N6.out.mono B4.out.size))
        go_wp2
        go_ret
        exact ⟨rfl, B6.out⟩
      · have HCC1 : CC = false := by rw [HCC.out]; simp [plainK]; omega
        have g1 : (1 + m == 1) = false := by simp; omega
        have g2 : (1 + m == 4) = false := by simp; omega
        have g1n : (1 + m != 1) = true := by simp; omega
        have g2n : (1 + m != 4) = true := by simp; omega
        have HX1 : Hid (∀ W, Below w4.heap.size w4 W → Calls Tryd.prog 8 #[.agg #[.int .i64 (1 + m), .int .i64 t, .slice au zs.length cu]] W fun e w' => e = .returned (.bool CC) ∧ Below W.heap.size W w') := fun W h => HX.out W h
        rw [HCC1] at HX1
        obtain ⟨w5, hw5⟩ : ∃ W, Hid (W = w4.alloc (.cells #[.int .i64 (1 + m), .int .i64 t, .slice au zs.length cu] 25)) := ⟨_, rfl⟩
        have al5 := hide_it (show Below w4.heap.size w4 w5 by rw [hw5.out]; exact alloc_below _ _)
        have X5 : Hid (RecAt w5 w4.heap.size (1 + m) t (.slice au zs.length cu)) := by show RecAt _ _ _ _ _; rw [hw5.out]; exact RecAt.new w4 _ _ _ _
        have Q5 := hide_it (Q4.out.later al5.out (Nat.le_refl _))
        go_wp2_with fail
        rw [← hw5.out]
        clear q0 q1 q2
        obtain ⟨q0, q1, q2⟩ := Q5.out
        obtain ⟨x0, x1, x2⟩ := X5.out
        first | (go_region_held (fun w' => w'.cell? ⟨w4.heap.size, 0, none⟩ = some (.int .i64 (1 + m)) ∧ w'.cell? ⟨w4.heap.size, 1, none⟩ = some (.int .i64 t) ∧ w'.cell? ⟨w4.heap.size, 2, none⟩ = some (.slice au zs.length cu) ∧ w'.cell? ⟨w1.heap.size, 0, none⟩ = some (.int .i64 4)) (go_keep) ((go_at_call 8; refine (HX1.out _ al5.out.drew).mono ?_; rintro e w6 ⟨rfl, hb6⟩; have N6 := hide_it (al5.out.drew.trans (hb6.mono al5.out.size)); have L6 := hide_it ((Below.refl w5.heap.size w5).drew.trans hb6); obtain ⟨p0, p1, p2⟩ := Q5.out.later L6.out (Nat.le_refl _); obtain ⟨y0, y1, y2⟩ := X5.out.later L6.out (Nat.le_refl _); clear hb6))) | fail
        all_goals
          have B6 := hide_it (B4.out.trans (N6.out.mono B4.out.size))
          go_wp2
          go_ret
          exact ⟨rfl, B6.out⟩
    have f1 : (k == 1) = false := by simp [k1]
    have f4 : (k == 4) = false := by simp [k4]
    have f1n : (k != 1) = true := by simp [k1]
    have f4n : (k != 4) = true := by simp [k4]
    by_cases m0 : m = 0
    · subst m0
      have HCC1 : CC = false := by rw [HCC.out]; simp [plainK]; omega
      have g1 : ((1 : Int) == k) = false := by simp; omega
      have HX1 : Hid (∀ W, Below w4.heap.size w4 W → Calls Tryd.prog 8 #[.agg #[.int .i64 (1), .int .i64 t, .slice au zs.length cu]] W fun e w' => e = .returned (.bool CC) ∧ Below W.heap.size W w') := fun W h => HX.out W h
      rw [HCC1] at HX1
      obtain ⟨w5, hw5⟩ : ∃ W, Hid (W = w4.alloc (.cells #[.int .i64 (1), .int .i64 t, .slice au zs.length cu] 25)) := ⟨_, rfl⟩
      have al5 := hide_it (show Below w4.heap.size w4 w5 by rw [hw5.out]; exact alloc_below _ _)
      have X5 : Hid (RecAt w5 w4.heap.size (1) t (.slice au zs.length cu)) := by show RecAt _ _ _ _ _; rw [hw5.out]; exact RecAt.new w4 _ _ _ _
      have Q5 := hide_it (Q4.out.later al5.out (Nat.le_refl _))
      go_wp2_with fail
      rw [← hw5.out]
      clear q0 q1 q2
      obtain ⟨q0, q1, q2⟩ := Q5.out
      obtain ⟨x0, x1, x2⟩ := X5.out
      first | (go_region_held (fun w' => w'.cell? ⟨w4.heap.size, 0, none⟩ = some (.int .i64 (1)) ∧ w'.cell? ⟨w4.heap.size, 1, none⟩ = some (.int .i64 t) ∧ w'.cell? ⟨w4.heap.size, 2, none⟩ = some (.slice au zs.length cu) ∧ w'.cell? ⟨w1.heap.size, 0, none⟩ = some (.int .i64 k)) (go_keep) ((go_at_call 8; refine (HX1.out _ al5.out.drew).mono ?_; rintro e w6 ⟨rfl, hb6⟩; have N6 := hide_it (al5.out.drew.trans (hb6.mono al5.out.size)); have L6 := hide_it ((Below.refl w5.heap.size w5).drew.trans hb6); obtain ⟨p0, p1, p2⟩ := Q5.out.later L6.out (Nat.le_refl _); obtain ⟨y0, y1, y2⟩ := X5.out.later L6.out (Nat.le_refl _); clear hb6))) | fail
      all_goals
        have B6 := hide_it (B4.out.trans (N6.out.mono B4.out.size))
        go_wp2
        go_ret
        exact ⟨rfl, B6.out⟩
    by_cases m3 : m = 3
    · subst m3
      have HCC1 : CC = false := by rw [HCC.out]; simp [plainK]; omega
      have g1 : ((4 : Int) == k) = false := by simp; omega
      have HX1 : Hid (∀ W, Below w4.heap.size w4 W → Calls Tryd.prog 8 #[.agg #[.int .i64 (4), .int .i64 t, .slice au zs.length cu]] W fun e w' => e = .returned (.bool CC) ∧ Below W.heap.size W w') := fun W h => HX.out W h
      rw [HCC1] at HX1
      obtain ⟨w5, hw5⟩ : ∃ W, Hid (W = w4.alloc (.cells #[.int .i64 (4), .int .i64 t, .slice au zs.length cu] 25)) := ⟨_, rfl⟩
      have al5 := hide_it (show Below w4.heap.size w4 w5 by rw [hw5.out]; exact alloc_below _ _)
      have X5 : Hid (RecAt w5 w4.heap.size (4) t (.slice au zs.length cu)) := by show RecAt _ _ _ _ _; rw [hw5.out]; exact RecAt.new w4 _ _ _ _
      have Q5 := hide_it (Q4.out.later al5.out (Nat.le_refl _))
      go_wp2_with fail
      rw [← hw5.out]
      clear q0 q1 q2
      obtain ⟨q0, q1, q2⟩ := Q5.out
      obtain ⟨x0, x1, x2⟩ := X5.out
      first | (go_region_held (fun w' => w'.cell? ⟨w4.heap.size, 0, none⟩ = some (.int .i64 (4)) ∧ w'.cell? ⟨w4.heap.size, 1, none⟩ = some (.int .i64 t) ∧ w'.cell? ⟨w4.heap.size, 2, none⟩ = some (.slice au zs.length cu) ∧ w'.cell? ⟨w1.heap.size, 0, none⟩ = some (.int .i64 k)) (go_keep) ((go_at_call 8; refine (HX1.out _ al5.out.drew).mono ?_; rintro e w6 ⟨rfl, hb6⟩; have N6 := hide_it (al5.out.drew.trans (hb6.mono al5.out.size)); have L6 := hide_it ((Below.refl w5.heap.size w5).drew.trans hb6); obtain ⟨p0, p1, p2⟩ := Q5.out.later L6.out (Nat.le_refl _); obtain ⟨y0, y1, y2⟩ := X5.out.later L6.out (Nat.le_refl _); clear hb6))) | fail
      all_goals
        have B6 := hide_it (B4.out.trans (N6.out.mono B4.out.size))
        go_wp2
        go_ret
        exact ⟨rfl, B6.out⟩
    have HCC1 : CC = true := by rw [HCC.out]; simp [plainK, k1, k4]; omega
    have g1 : (1 + m == 1) = false := by simp; omega
    have g2 : (1 + m == 4) = false := by simp; omega
    have g1n : (1 + m != 1) = true := by simp; omega
    have g2n : (1 + m != 4) = true := by simp; omega
    by_cases hkk : 1 + m = k
    · subst hkk
      have HX1 : Hid (∀ W, Below w4.heap.size w4 W → Calls Tryd.prog 8 #[.agg #[.int .i64 (1 + m), .int .i64 t, .slice au zs.length cu]] W fun e w' => e = .returned (.bool CC) ∧ Below W.heap.size W w') := fun W h => HX.out W h
      rw [HCC1] at HX1
      obtain ⟨w5, hw5⟩ : ∃ W, Hid (W = w4.alloc (.cells #[.int .i64 (1 + m), .int .i64 t, .slice au zs.length cu] 25)) := ⟨_, rfl⟩
      have al5 := hide_it (show Below w4.heap.size w4 w5 by rw [hw5.out]; exact alloc_below _ _)
      have X5 : Hid (RecAt w5 w4.heap.size (1 + m) t (.slice au zs.length cu)) := by show RecAt _ _ _ _ _; rw [hw5.out]; exact RecAt.new w4 _ _ _ _
      have Q5 := hide_it (Q4.out.later al5.out (Nat.le_refl _))
      go_wp2_with fail
      rw [← hw5.out]
      clear q0 q1 q2
      obtain ⟨q0, q1, q2⟩ := Q5.out
      obtain ⟨x0, x1, x2⟩ := X5.out
      have KB : Hid (∀ W, Below w5.heap.size w5 W → W.cell? ⟨w4.heap.size, 0, none⟩ = some (.int .i64 (1 + m)) ∧ W.cell? ⟨w4.heap.size, 1, none⟩ = some (.int .i64 t) ∧ W.cell? ⟨w4.heap.size, 2, none⟩ = some (.slice au zs.length cu) ∧ W.cell? ⟨w1.heap.size, 0, none⟩ = some (.int .i64 (1 + m))) := fun W hb => ⟨(X5.out.later hb (Nat.le_refl _)).1, (X5.out.later hb (Nat.le_refl _)).2.1, (X5.out.later hb (Nat.le_refl _)).2.2, (Q5.out.later hb (Nat.le_refl _)).1⟩
      refine wp_region_held_drew (S := fun w' => w'.cell? ⟨w4.heap.size, 0, none⟩ = some (.int .i64 (1 + m)) ∧ w'.cell? ⟨w4.heap.size, 1, none⟩ = some (.int .i64 t) ∧ w'.cell? ⟨w4.heap.size, 2, none⟩ = some (.slice au zs.length cu) ∧ w'.cell? ⟨w1.heap.size, 0, none⟩ = some (.int .i64 (1 + m))) (by kernel_rfl) (KB.out _ (Below.refl _ _).drew) (fun hHeld => ?_)
      refine takeD (i := 0) (v := ?_) (some 56) rfl rfl (by kernel_rfl) (by kernel_rfl) (by kernel_rfl) (fun _ _ _ h => h) (by rfl) hHeld ?_ ?_
      rotate_left
      · intro W hSw
        try dsimp only at hSw
        go_simp
        try with_reducible rfl
      try simp only [Act.put]
      try simp only [List.setIfInBounds_toArray]
      try simp only [List.set_cons_succ]
      try simp only [List.set_cons_zero]
      refine takeD (i := 2) (v := ?_) (some 58) rfl rfl (by kernel_rfl) (by kernel_rfl) (by kernel_rfl) (fun _ _ _ h => h) (by rfl) hHeld ?_ ?_
      rotate_left
      · intro W hSw
        try dsimp only at hSw
        go_simp
        try with_reducible rfl
      try simp only [Act.put]
      try simp only [List.setIfInBounds_toArray]
      try simp only [List.set_cons_succ]
      try simp only [List.set_cons_zero]
      refine takeD (i := 3) (v := ?_) (some 59) rfl rfl (by kernel_rfl) (by kernel_rfl) (by kernel_rfl) (fun _ _ _ h => h) (by rfl) hHeld ?_ ?_
      rotate_left
      · intro W hSw
        try dsimp only at hSw
        go_simp
        try with_reducible rfl
      try simp only [Act.put]
      try simp only [List.setIfInBounds_toArray]
      try simp only [List.set_cons_succ]
      try simp only [List.set_cons_zero]
      refine takeD (i := 4) (v := ?_) (some 60) rfl rfl (by kernel_rfl) (by kernel_rfl) (by kernel_rfl) (fun _ _ _ h => h) (by rfl) hHeld ?_ ?_
      rotate_left
      · intro W hSw
        try dsimp only at hSw
        go_simp
        try with_reducible rfl
      try simp only [Act.put]
      try simp only [List.setIfInBounds_toArray]
      try simp only [List.set_cons_succ]
      try simp only [List.set_cons_zero]
      refine takeD (i := 5) (v := ?_) (some 61) rfl rfl (by kernel_rfl) (by kernel_rfl) (by kernel_rfl) (fun _ _ _ h => h) (by rfl) hHeld ?_ ?_
      rotate_left
      · intro W hSw
        try dsimp only at hSw
        go_simp
        try with_reducible rfl
      try simp only [Act.put]
      try simp only [List.setIfInBounds_toArray]
      try simp only [List.set_cons_succ]
      try simp only [List.set_cons_zero]
      refine takeD (i := 6) (v := ?_) (some 62) rfl rfl (by kernel_rfl) (by kernel_rfl) (by kernel_rfl) (fun _ _ _ h => h) (by rfl) hHeld ?_ ?_
      rotate_left
      · intro W hSw
        try dsimp only at hSw
        go_simp
        try with_reducible rfl
      try simp only [Act.put]
      try simp only [List.setIfInBounds_toArray]
      try simp only [List.set_cons_succ]
      try simp only [List.set_cons_zero]
      refine wpAnyH_ready (rs := [1]) (by kernel_rfl) (by simp) ?_
      refine AllReadyH.cons rfl (fun K hK => ?_) AllReadyH.nil
      go_simp
      refine (HX1.out _ al5.out.drew).mono ?_
      rintro e w6 ⟨rfl, hb6⟩
      have N6 := hide_it (al5.out.drew.trans (hb6.mono al5.out.size))
      have L6 := hide_it ((Below.refl w5.heap.size w5).drew.trans hb6)
      clear hb6
      try dsimp only
      refine hK.out _ _ (KB.out _ L6.out) (fun hHeld => ?_)
      clear hK K
      refine takeD (i := 7) (v := .bool true) (some 63) rfl rfl (by kernel_rfl) (by kernel_rfl) (by kernel_rfl) (fun _ _ _ h => h) (by rfl) hHeld ?_ ?_
      · intro W hSw
        try dsimp only at hSw
        first | (go_simp; done) | (go_simp; simp; done) | (go_simp; omega) | (go_simp; simp [*])
      try simp only [Act.put]
      try simp only [List.setIfInBounds_toArray]
      try simp only [List.set_cons_succ]
      try simp only [List.set_cons_zero]
      refine skipD (i := 8) (some 64) rfl rfl (by kernel_rfl) (by kernel_rfl) (by kernel_rfl) (fun _ _ _ h => h) (by rfl) hHeld ?_
      try simp only [Act.put]
      try simp only [List.setIfInBounds_toArray]
      try simp only [List.set_cons_succ]
      try simp only [List.set_cons_zero]
      refine skipD (i := 9) (some 65) rfl rfl (by kernel_rfl) (by kernel_rfl) (by kernel_rfl) (fun _ _ _ h => h) (by rfl) hHeld ?_
      try simp only [Act.put]
      try simp only [List.setIfInBounds_toArray]
      try simp only [List.set_cons_succ]
      try simp only [List.set_cons_zero]
      refine skipD (i := 10) (some 66) rfl rfl (by kernel_rfl) (by kernel_rfl) (by kernel_rfl) (fun _ _ _ h => h) (by rfl) hHeld ?_
      try simp only [Act.put]
      try simp only [List.setIfInBounds_toArray]
      try simp only [List.set_cons_succ]
      try simp only [List.set_cons_zero]
      refine skipD (i := 11) (some 67) rfl rfl (by kernel_rfl) (by kernel_rfl) (by kernel_rfl) (fun _ _ _ h => h) (by rfl) hHeld ?_
      try simp only [Act.put]
      try simp only [List.setIfInBounds_toArray]
      try simp only [List.set_cons_succ]
      try simp only [List.set_cons_zero]
      refine takeD (i := 12) (v := ?_) (some 68) rfl rfl (by kernel_rfl) (by kernel_rfl) (by kernel_rfl) (fun _ _ _ h => h) (by rfl) hHeld ?_ ?_
      rotate_left
      · intro W hSw
        try dsimp only at hSw
        go_simp
        try with_reducible rfl
      try simp only [Act.put]
      try simp only [List.setIfInBounds_toArray]
      try simp only [List.set_cons_succ]
      try simp only [List.set_cons_zero]
      refine takeD (i := 13) (v := ?_) (some 69) rfl rfl (by kernel_rfl) (by kernel_rfl) (by kernel_rfl) (fun _ _ _ h => h) (by rfl) hHeld ?_ ?_
      rotate_left
      · intro W hSw
        try dsimp only at hSw
        go_simp
        try with_reducible rfl
      try simp only [Act.put]
      try simp only [List.setIfInBounds_toArray]
      try simp only [List.set_cons_succ]
      try simp only [List.set_cons_zero]
      refine takeD (i := 14) (v := ?_) (some 4) rfl rfl (by kernel_rfl) (by kernel_rfl) (by kernel_rfl) (fun _ _ _ h => h) (by rfl) hHeld ?_ ?_
      rotate_left
      · intro W hSw
        try dsimp only at hSw
        go_simp
        try with_reducible rfl
      try simp only [Act.put]
      try simp only [List.setIfInBounds_toArray]
      try simp only [List.set_cons_succ]
      try simp only [List.set_cons_zero]
      refine wpAnyH_done (by kernel_rfl) ?_ _
      have B6 := hide_it (B4.out.trans (N6.out.mono B4.out.size))
      go_wp2
      go_ret
      exact ⟨rfl, B6.out⟩
    · have g3 : (1 + m == k) = false := by simp [hkk]
      have HX1 : Hid (∀ W, Below w4.heap.size w4 W → Calls Tryd.prog 8 #[.agg #[.int .i64 (1 + m), .int .i64 t, .slice au zs.length cu]] W fun e w' => e = .returned (.bool CC) ∧ Below W.heap.size W w') := fun W h => HX.out W h
      rw [HCC1] at HX1
      obtain ⟨w5, hw5⟩ : ∃ W, Hid (W = w4.alloc (.cells #[.int .i64 (1 + m), .int .i64 t, .slice au zs.length cu] 25)) := ⟨_, rfl⟩
      have al5 := hide_it (show Below w4.heap.size w4 w5 by rw [hw5.out]; exact alloc_below _ _)
      have X5 : Hid (RecAt w5 w4.heap.size (1 + m) t (.slice au zs.length cu)) := by show RecAt _ _ _ _ _; rw [hw5.out]; exact RecAt.new w4 _ _ _ _
      have Q5 := hide_it (Q4.out.later al5.out (Nat.le_refl _))
      go_wp2_with fail
      rw [← hw5.out]
      clear q0 q1 q2
      obtain ⟨q0, q1, q2⟩ := Q5.out
      obtain ⟨x0, x1, x2⟩ := X5.out
      first | (go_region_held (fun w' => w'.cell? ⟨w4.heap.size, 0, none⟩ = some (.int .i64 (1 + m)) ∧ w'.cell? ⟨w4.heap.size, 1, none⟩ = some (.int .i64 t) ∧ w'.cell? ⟨w4.heap.size, 2, none⟩ = some (.slice au zs.length cu) ∧ w'.cell? ⟨w1.heap.size, 0, none⟩ = some (.int .i64 k)) (go_keep) ((go_at_call 8; refine (HX1.out _ al5.out.drew).mono ?_; rintro e w6 ⟨rfl, hb6⟩; have N6 := hide_it (al5.out.drew.trans (hb6.mono al5.out.size)); have L6 := hide_it ((Below.refl w5.heap.size w5).drew.trans hb6); obtain ⟨p0, p1, p2⟩ := Q5.out.later L6.out (Nat.le_refl _); obtain ⟨y0, y1, y2⟩ := X5.out.later L6.out (Nat.le_refl _); clear hb6))) | fail
      all_goals
        have B6 := hide_it (B4.out.trans (N6.out.mono B4.out.size))
        go_wp2
        go_ret
        exact ⟨rfl, B6.out⟩

end Go.Proofs.YtaogachhmdmoaaaDoor

namespace Go.Proofs.YtaogachhmdmoaaaDoor
open Go.ChangeShapes Go.WideShapes Go.ChangeAt Go.WideMaps Go.WideElems Go.RowKit Go.Joins

set_option maxRecDepth 100000 in
set_option maxHeartbeats 2000000 in
theorem lawP12_great1 (ac : Option Addr) (nc cc : Nat) (am : Option Addr) (nm cm : Nat) (w : World) (h : 1048576 < (nc : Int)) :
    Calls Tryd.prog 6 #[.slice ac nc cc, .slice am nm cm] w fun e w' => e = .returned (.bool true) ∧ Below w.heap.size w w' := by
  go_enter Tryd.func6, Tryd.ntmps6
  go_wp2
  go_ret
  exact ⟨rfl, Below.refl _ _⟩

set_option maxRecDepth 100000 in
set_option maxHeartbeats 2000000 in
theorem lawP12_great2 (ac : Option Addr) (nc cc : Nat) (am : Option Addr) (nm cm : Nat) (w : World) (hc : (nc : Int) ≤ 1048576) (h : 1048576 < (nm : Int)) :
    Calls Tryd.prog 6 #[.slice ac nc cc, .slice am nm cm] w fun e w' => e = .returned (.bool true) ∧ Below w.heap.size w w' := by
  go_enter Tryd.func6, Tryd.ntmps6
  go_wp2
  go_ret
  exact ⟨rfl, Below.refl _ _⟩

theorem lawP12_any (vc vm : Value) (nc nm : Nat) (a : Addr) (w : World) (hc : CodeAt w vc nc) (hm : CodeAt w vm nm) (ha : ErrAt w a) :
    Calls Tryd.prog 6 #[vc, vm] w fun e w' => e = .returned (.bool true) ∧ Below w.heap.size w w' := by
  obtain ⟨am, cm, rfl, _⟩ := hm
  by_cases h1 : nc ≤ 1048576
  · by_cases h2 : nm ≤ 1048576
    · exact lawP12_small vc nc am nm cm a w hc h1 h2 ha
    · obtain ⟨ac, cc, rfl, _⟩ := hc
      exact lawP12_great2 ac nc cc am nm cm w (by omega) (by omega)
  · obtain ⟨ac, cc, rfl, _⟩ := hc
    exact lawP12_great1 ac nc cc am nm cm w (by omega)

set_option maxRecDepth 100000 in
theorem p12_lifted (os : Os) (started : os.Started) (H : Type) (enc : TypeId × Value → H) :
    ReturnsInHanded {} Tryd.checked os 6 .any (fun w args => (Rows.fnRecKindsSpec.pre enc Tryd.prog Tryd.f6 [] false w args ∧ laidMetH Tryd.prog laidErr w) ∧ sizedMet enc Tryd.prog Tryd.f6 (OpenSpec.ofChange Rows.fnRecKindsSpec) false w args)
      (Rows.fnRecKindsSpec.post enc Tryd.prog Tryd.f6 false true false false) := by
  refine returnsInHanded_of_change_and (C := Tryd.checked) (X := fun w _ => laidMetH Tryd.prog laidErr w) (fun _ _ _ hh h => h.of_heap hh) own started (by kernel_rfl) Tryd.func6
    (ChangeSpec.witness_shaped (enc := enc) (C := Tryd.checked) (os := os) (X := fun w _ => laidMetH Tryd.prog laidErr w) false (World.doorLaid Tryd.prog 28 os) #[.slice none 0 0, .slice none 0 0] 8 rfl (World.shaped_of_RefB (by kernel_rfl) (by kernel_rfl)) (by kernel_rfl) (by kernel_rfl) (by kernel_rfl) (door_met os _)) ?_
  intro W base args ds gs before hval0 hW _ _ hL _
  have hval : ∀ (j : Nat) t v, Tryd.f6.params[j]? = some t → args[j]? = some v → Value.okWide Tryd.prog W .any base t v := hval0
  have hW' := hW
  obtain ⟨p, q, hA0, hV0, rfl, hfz, hnd⟩ := hW
  have hA : DataW.TrodAll enc Tryd.prog W 0 (fun _ => true) true Tryd.f6.params.toList args.toList ds p := hA0
  have hV : DataW.TrodVars enc Tryd.prog W (fun _ => true) ["loop.example/concierge/impl.errNoRec"] gs q := hV0
  rw [Tryd.params6] at hA hval
  obtain ⟨v0, v1, d0, d1, p0, p1, rfl, rfl, rfl, h0, h1⟩ := trodAll_two hA
  obtain ⟨a, hErr, hvar⟩ := of_laid hL
  have vr : ∀ {X : World}, X.var? Tryd.prog "loop.example/concierge/impl.errNoRec" = some #[.iface 88 (.pointer (some a))] → ∀ sp : Nat → Bool,
      DataW.TrodVars enc Tryd.prog X sp ["loop.example/concierge/impl.errNoRec"] [tok enc (.iface 88 (.pointer (some a)))] [.cell 0 0] :=
    fun x0 sp => vars_read1 enc gErr gErrType Tryd.underlying49 x0 trivial sp
  obtain ⟨rfl, rfl⟩ := hV.unique (vr hvar _)
  clear hA0 hV0 hval0
  obtain ⟨nc, hC, _⟩ := open_code (hval 0 22 v0 rfl rfl) h0
  obtain ⟨nm, hM, _⟩ := open_code (hval 1 22 v1 rfl rfl) h1
  refine (lawP12_any v0 v1 nc nm a W hC hM hErr).mono fun e W' ⟨he, hb⟩ => ?_
  subst he
  have hlt : ∀ x ∈ p0, x.block < W.heap.size := fun x hx => hW'.lt x (by simp [hx])
  have hlt1 : ∀ x ∈ p1, x.block < W.heap.size := fun x hx => hW'.lt x (by simp [hx])
  refine ⟨_, rfl, _, _, _, [], p0 ++ p1, [.cell 0 0], hW', ?_, ?_, ?_, hb.frame _, fun h => by cases h⟩
  · exact trodAll_mk1 (shut_bool Tryd.underlying4 true)
  · exact trodAll_mk2 (Below.trod laidOut (by kernel_rfl) (of_decide_eq_true (by kernel_rfl)) h0 hb hlt) (Below.trod laidOut (by kernel_rfl) (of_decide_eq_true (by kernel_rfl)) h1 hb hlt1)
  · exact vr (var?_below hb gErr (World.block_lt_of_cell? _ _ hErr) hvar) _

theorem p12_said : Rows.FnRecKindsSaid :=
  OpenClaim.holds_of_wide 6 Tryd.f6 rfl rfl rfl rfl rfl rfl rfl ⟨rfl, rfl, rfl, rfl, rfl⟩ rfl rfl rfl rfl rfl (by kernel_rfl) Tryd.func6 (by kernel_rfl)
    (of_decide_eq_true (by kernel_rfl)) (by unfold Func.isWrapper; first | (rw [if_pos (by decide +kernel)]; kernel_rfl) | (rw [if_neg (by decide +kernel)]; exact ⟨rfl, rfl⟩))
    (fun os started H enc _ => p12_lifted os started H enc)

theorem p12_plain (f : FuncId) (fn : Func) (hf : Tryd.pinned.checked.prog.funcNamed "loop.example/concierge/laws.FnRecKinds" = some f) (hfn : Tryd.pinned.checked.prog.funcs[f]? = some fn) :
    true = Tryd.pinned.checked.prog.looks [] ∧ ∀ (j : Nat) t, fn.params[j]? = some t → Tryd.pinned.checked.prog.wantsStandIn t = false := by
  obtain rfl : f = 6 := Option.some.inj ((show Tryd.prog.funcNamed "loop.example/concierge/laws.FnRecKinds" = some 6 by kernel_rfl).symm.trans hf) |>.symm
  obtain rfl : fn = Tryd.f6 := (Option.some.inj (Tryd.func6.symm.trans hfn)).symm
  refine ⟨by kernel_rfl, fun j t ht => ?_⟩
  rw [Tryd.params6] at ht
  obtain rfl : t = 22 := by simpa using Array.mem_of_getElem? ht
  exact (show Tryd.prog.wantsStandIn 22 = false by kernel_rfl)

theorem p12_card : Rows.FnRecKindsCardSaid :=
  Claim7.holds_tied_plain_at .later [] _ _ _ _ p12_said (fun _ h => by cases h) (by kernel_rfl) (fun _ h => by cases h) fnRecKinds_row_tie rfl ⟨rfl, rfl⟩ (by kernel_rfl) rfl p12_plain (by kernel_rfl)
#print axioms p12_card

end Go.Proofs.YtaogachhmdmoaaaDoor
