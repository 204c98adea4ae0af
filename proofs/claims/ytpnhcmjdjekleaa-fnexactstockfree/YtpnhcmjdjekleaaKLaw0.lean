/- The laws FnExactStockNew, FnExactStockOk and FnExactStockFree, walked: at every argument each answers true, and nothing that was there before has turned. No conditions. -/
import Derived.Test.YtpnhcmjdjekleaaKNew
import Derived.Deep.RegionHeld
namespace Go.Proofs.Ytpnhcmjdjekleaa
open Go.RowKit

theorem Duo.mid {lo hi : Nat} {w w' : World} {b : Nat} {x y : Value} (h : Duo w b x y) (hm : Mid lo hi w w') (hb : b < lo ∨ hi ≤ b) : Duo w' b x y := by
  have hlt := h.lt
  have e := hm.block b hlt hb
  exact ⟨by rw [← h.1]; exact World.cell?_of_block (a := ⟨b, 0, none⟩) e, by rw [← h.2]; exact World.cell?_of_block (a := ⟨b, 1, none⟩) e⟩

theorem newO_len (room : Int) : (oH (newO room)).length ≤ 6 := by
  unfold newO oH; split <;> simp [Pl.noHolds]

set_option maxHeartbeats 4000000 in
theorem lawNew_any (room : Int) (w : World) :
    Calls Try.prog 3 #[.int .i64 room] w fun e w' => e = .returned (.bool true) ∧ Below w.heap.size w w' := by
  have hl6 := newO_len room
  have HSP0 := specNew_any room
  have HIM0 := implNew_any room
  obtain ⟨RR, hRR⟩ : ∃ x, oR room (newO room) = x := ⟨_, rfl⟩
  obtain ⟨HS, hHS⟩ : ∃ x, oH (newO room) = x := ⟨_, rfl⟩
  obtain ⟨BB, hBB⟩ : ∃ x, (newO room).isSome = x := ⟨_, rfl⟩
  rw [hHS] at hl6
  rw [hRR, hHS, hBB] at HSP0 HIM0
  have HSP := hide_it HSP0
  have HIM := hide_it HIM0
  clear HSP0 HIM0 hRR hHS hBB
  have hl : HS.length ≤ 1048576 := by omega
  go_enter Try.func3, Try.ntmps3
  go_wp2_with fail
  refine (HSP.out w).mono ?_
  rintro e w1 ⟨a1, c1, rfl, ho1, hb1⟩
  -- w0
  obtain ⟨w2, hw2⟩ : ∃ W, Hid (W = w1.alloc (.cells #[.int .i64 RR, .slice a1 HS.length c1] 24)) := ⟨_, rfl⟩
  have al2 := hide_it (show Below w1.heap.size w1 w2 by rw [hw2.out]; exact al_below _ _)
  have HS2 := hide_it (show w2.heap.size = w1.heap.size + 1 by rw [hw2.out]; simp)
  have B2 := hide_it (hb1.trans (al2.out.mono hb1.size))
  have Z2 : Hid (Duo w2 w1.heap.size (.int .i64 RR) (.slice a1 HS.length c1)) := by show Duo _ _ _ _; rw [hw2.out]; exact Duo.new w1 _ _ _
  have LT1 := hide_it (fun k hk => (ho1.lt k hk).2)
  have O2 := hide_it (ownsRow_below ho1 al2.out (fun k hk => LT1.out k hk))
  clear ho1 hb1
  go_wp2_with fail
  rw [← hw2.out]
  refine (HIM.out w2).mono ?_
  rintro e w3 ⟨a3, c3, rfl, ho3, hb3⟩
  -- g0
  obtain ⟨w4, hw4⟩ : ∃ W, Hid (W = w3.alloc (.cells #[.int .i64 RR, .slice a3 HS.length c3] 24)) := ⟨_, rfl⟩
  have al4 := hide_it (show Below w3.heap.size w3 w4 by rw [hw4.out]; exact al_below _ _)
  have HS4 := hide_it (show w4.heap.size = w3.heap.size + 1 by rw [hw4.out]; simp)
  have E4 := hide_it (hb3.trans (al4.out.mono hb3.size))
  have G4 : Hid (Duo w4 w3.heap.size (.int .i64 RR) (.slice a3 HS.length c3)) := by show Duo _ _ _ _; rw [hw4.out]; exact Duo.new w3 _ _ _
  have LT3 := hide_it (fun k hk => ho3.lt k hk)
  have O4g := hide_it (ownsRow_below ho3 al4.out (fun k hk => (LT3.out k hk).2))
  have O4 := hide_it (ownsRow_below O2.out E4.out (fun k hk => (O2.out.lt k hk).2))
  have hs23 : w2.heap.size ≤ w3.heap.size := hb3.size
  have Z4 := hide_it (Z2.out.later E4.out (Nat.le_refl _))
  have Z3 := hide_it (Z2.out.later hb3 (Nat.le_refl _))
  obtain ⟨z30, z31⟩ := Z3.out
  have hz3 := Z3.out.lt
  clear ho3 hb3
  go_wp2_with fail
  rw [← hw4.out]
  refine (eqStock_any RR _ _ HS w4 (holds_of_row O4g.out) (holds_of_row O4.out) hl).mono ?_
  rintro e w5 ⟨rfl, hb5⟩
  have E5 := hide_it (E4.out.trans (hb5.mono E4.out.size))
  have G5 := hide_it (G4.out.later hb5 (Nat.le_refl _))
  have O5g := hide_it (ownsRow_below O4g.out hb5 (fun k hk => (O4g.out.lt k hk).2))
  have HS5 := hide_it hb5.size
  clear hb5 z30 z31 hz3
  obtain ⟨g50, g51⟩ := G5.out
  go_wp2_with fail
  -- g0 is marked, and held
  refine (markStock_any RR _ HS 1 _ HS.length w5 O5g.out hl (by omega) (by omega)).mono ?_
  rintro e w6 ⟨rfl, ho6, hM6⟩
  have M6 := hide_it (hM6 w2.heap.size w3.heap.size (fun k hk => LT3.out k hk))
  have E6 := hide_it (E5.out.trans (M6.out.below (Nat.le_refl _) E5.out.size))
  have G6 := hide_it (G5.out.mid M6.out (Or.inr (Nat.le_refl _)))
  have O6 := hide_it ho6
  clear ho6 hM6 g50 g51
  obtain ⟨g60, g61⟩ := G6.out
  go_wp2_with fail
  have R6' : Hid (Holds w6 (.slice a3 HS.length c3) (markH HS.length 1)) := by
    have h := O6.out
    refine holds_of_row (base := w2.heap.size) ?_
    rw [markH_length]; exact h
  refine (heldStock_any RR _ HS.length 1 w6 R6'.out hl (by omega) (by omega)).mono ?_
  rintro e w7 ⟨rfl, hb7⟩
  have E7 := hide_it (E6.out.trans (hb7.mono E6.out.size))
  have N7 := hide_it hb7
  clear hb7 g60 g61
  go_wp2_with fail
  -- once more
  refine (HIM.out w7).mono ?_
  rintro e w8 ⟨a8, c8, rfl, ho8, hb8⟩
  obtain ⟨w9, hw9⟩ : ∃ W, Hid (W = w8.alloc (.cells #[.int .i64 RR, .slice a8 HS.length c8] 24)) := ⟨_, rfl⟩
  have al9 := hide_it (show Below w8.heap.size w8 w9 by rw [hw9.out]; exact al_below _ _)
  have N9 := hide_it (N7.out.trans ((hb8.trans (al9.out.mono hb8.size)).mono N7.out.size))
  have E9 := hide_it (E6.out.trans (N9.out.mono E6.out.size))
  have E8 := hide_it (E7.out.trans (hb8.mono E7.out.size))
  have O9h := hide_it (ownsRow_below ho8 al9.out (fun k hk => (ho8.lt k hk).2))
  have O9 := hide_it (ownsRow_below O2.out E9.out (fun k hk => (O2.out.lt k hk).2))
  have Z8 := hide_it (Z2.out.later E8.out (Nat.le_refl _))
  obtain ⟨z80, z81⟩ := Z8.out
  have hz8 := Z8.out.lt
  clear ho8 hb8
  go_wp2_with fail
  rw [← hw9.out]
  refine (eqStock_any RR _ _ HS w9 (holds_of_row O9h.out) (holds_of_row O9.out) hl).mono ?_
  rintro e w10 ⟨rfl, hb10⟩
  have N10 := hide_it (N9.out.trans (hb10.mono N9.out.size))
  have E10 := hide_it (E6.out.trans (N10.out.mono E6.out.size))
  clear hb10 z80 z81 hz8
  obtain ⟨g100, g101⟩ := G6.out.later N10.out (Nat.le_refl _)
  have R10 := hide_it (R6'.out.later N10.out (Nat.le_refl _))
  go_wp2_with fail
  refine (heldStock_any RR _ HS.length 1 w10 R10.out hl (by omega) (by omega)).mono ?_
  rintro e w11 ⟨rfl, hb11⟩
  have B11 := hide_it (B2.out.trans ((E10.out.trans (hb11.mono E10.out.size)).mono B2.out.size))
  clear hb11 g100 g101
  go_wp2
  go_ret
  exact ⟨rfl, B11.out⟩

set_option maxHeartbeats 1000000 in
theorem lawSOk_great (room : Int) (ao : Option Addr) (len cap : Nat) (w : World) (hl : (len : Int) ≤ 9223372036854775807) (hg : 1048576 < (len : Int)) :
    Calls Try.prog 4 #[.agg #[.int .i64 room, .slice ao len cap]] w fun e w' => e = .returned (.bool true) ∧ Below w.heap.size w w' := by
  have HS : Hid (∀ o, Calls Try.prog 11 #[.agg #[.int .i64 room, .slice ao len cap], .int .i64 1048576] (w.alloc o) fun e w' => e = .returned (.int .i64 (-1)) ∧ Below (w.alloc o).heap.size (w.alloc o) w') := fun o => by
    have := szStock_any room ao len cap 1048576 (w.alloc o) hl (by omega) (by omega)
    rw [leftOf_neg (by omega)] at this
    exact this
  go_enter Try.func4, Try.ntmps4
  go_wp2_with (go_at_call 11; refine (HS.out _).mono ?_; rintro e w1 ⟨rfl, hb⟩)
  go_ret
  exact ⟨rfl, al_after (by assumption)⟩

set_option maxHeartbeats 2000000 in
theorem lawSOk_small (room : Int) (v : Value) (hs : List Pl.H) (w : World) (hv : Holds w v hs) (hl : hs.length ≤ 1048576) :
    Calls Try.prog 4 #[.agg #[.int .i64 room, v]] w fun e w' => e = .returned (.bool true) ∧ Below w.heap.size w w' := by
  have HV : Hid (∀ W, Below w.heap.size w W → Holds W v hs) := fun W h => hv.later h (Nat.le_refl _)
  obtain ⟨ao, cap, hvs⟩ := hv.shape
  have H0 : Hid (Duo (w.alloc (.cells #[.int .i64 room, v] 32)) w.heap.size (.int .i64 room) v) := Duo.new w _ _ _
  have HS : Hid (∀ o, Calls Try.prog 11 #[.agg #[.int .i64 room, v], .int .i64 1048576] (w.alloc o) fun e w' => e = .returned (.int .i64 (1048576 - hs.length)) ∧ Below (w.alloc o).heap.size (w.alloc o) w') := fun o => by
    rw [hvs]
    have := szStock_any room ao hs.length cap 1048576 (w.alloc o) (by omega) (by omega) (by omega)
    rw [leftOf_pos (by omega)] at this
    exact this
  clear hv
  subst hvs
  go_enter Try.func4, Try.ntmps4
  go_wp2_with fail
  refine (HS.out _).mono ?_
  rintro e w1 ⟨rfl, hb1⟩
  have B1 := hide_it (al_after hb1)
  have T1 := hide_it (H0.out.later hb1 (Nat.le_refl _))
  clear hb1
  obtain ⟨c10, c11⟩ := T1.out
  go_wp2_with fail
  refine (toStock_any room _ hs w1 (HV.out _ B1.out) hl).mono ?_
  rintro e w2 ⟨rfl, ho2, hb2⟩
  have B2 := hide_it (B1.out.trans (hb2.mono B1.out.size))
  have T2 := hide_it (T1.out.later hb2 (Nat.le_refl _))
  have V2 := hide_it (holds_of_row ho2)
  clear hb2 ho2 c10 c11
  go_wp2_with fail
  refine (specStockOk_any room _ hs w2 V2.out hl).mono ?_
  rintro e w3 ⟨rfl, hb3⟩
  have B3 := hide_it (B2.out.trans (hb3.mono B2.out.size))
  have T3 := hide_it (T2.out.later hb3 (Nat.le_refl _))
  clear hb3
  obtain ⟨c30, c31⟩ := T3.out
  go_wp2_with fail
  refine (toStock_any room _ hs w3 (HV.out _ B3.out) hl).mono ?_
  rintro e w4 ⟨rfl, ho4, hb4⟩
  obtain ⟨g4, hg4⟩ : ∃ g, Hid (g = w3.heap.size + 3) := ⟨_, rfl⟩
  rw [← hg4.out] at ho4 ⊢
  have B4 := hide_it (B3.out.trans (hb4.mono B3.out.size))
  have T4 := hide_it (T3.out.later hb4 (Nat.le_refl _))
  have V4 := hide_it (holds_of_row ho4)
  clear hb4 ho4 c30 c31
  go_wp2_with fail
  have X5 := hide_it (Duo.new w4 (.int .i64 room) (.slice (some ⟨g4, 0, none⟩) hs.length hs.length) 24)
  have V5 : Hid (Holds (w4.alloc (.cells #[.int .i64 room, .slice (some ⟨g4, 0, none⟩) hs.length hs.length] 24)) (.slice (some ⟨g4, 0, none⟩) hs.length hs.length) hs) := V4.out.later (al_below _ _) (Nat.le_refl _)
  refine (implStockOk_any room _ hs _ V5.out hl).mono ?_
  rintro e w6 ⟨rfl, hb6⟩
  have B6 := hide_it (B4.out.trans ((al_after hb6).mono B4.out.size))
  have T6 := hide_it (T4.out.later (al_after hb6) (Nat.le_refl _))
  have X6 := hide_it (X5.out.later hb6 (Nat.le_refl _))
  have Y6 := hide_it (V5.out.later hb6 (Nat.le_refl _))
  have hz6 : w.heap.size ≤ w6.heap.size := B6.out.size
  clear hb6
  obtain ⟨c60, c61⟩ := T6.out
  obtain ⟨x60, x61⟩ := X6.out
  go_wp2_with fail
  go_region_with (first
    | (go_at_call 13; refine (toStock_any room _ hs _ ?_ hl).mono ?_; exact (HV.out _ B6.out.drew); rintro e w7 ⟨rfl, hm7, hb7⟩; have y7 := (Y6.out.later (Below.refl _ _).drew (Nat.le_refl _)).later hb7 (Nat.le_refl _); have z7 := holds_of_row hm7; have B7 := B6.out.drew.trans (hb7.mono hz6); obtain ⟨x70, x71⟩ := (X6.out.later (Below.refl _ _).drew (Nat.le_refl _)).later hb7 (Nat.le_refl _))
    | (go_at_call 8; refine (eqStock_any room _ _ hs _ ?_ ?_ hl).mono ?_; assumption; assumption; rintro e w8 ⟨rfl, hb8⟩))
  all_goals (try go_wp2)
  all_goals (go_ret; exact ⟨rfl, B7.trans (hb8.mono B7.size)⟩)

set_option maxHeartbeats 1000000 in
theorem lawSFree_great (room : Int) (ao : Option Addr) (len cap : Nat) (w : World) (hl : (len : Int) ≤ 9223372036854775807) (hg : 1048576 < (len : Int)) :
    Calls Try.prog 5 #[.agg #[.int .i64 room, .slice ao len cap]] w fun e w' => e = .returned (.bool true) ∧ Below w.heap.size w w' := by
  have HS : Hid (∀ o, Calls Try.prog 11 #[.agg #[.int .i64 room, .slice ao len cap], .int .i64 1048576] (w.alloc o) fun e w' => e = .returned (.int .i64 (-1)) ∧ Below (w.alloc o).heap.size (w.alloc o) w') := fun o => by
    have := szStock_any room ao len cap 1048576 (w.alloc o) hl (by omega) (by omega)
    rw [leftOf_neg (by omega)] at this
    exact this
  go_enter Try.func5, Try.ntmps5
  go_wp2_with (go_at_call 11; refine (HS.out _).mono ?_; rintro e w1 ⟨rfl, hb⟩)
  go_ret
  exact ⟨rfl, al_after (by assumption)⟩

set_option maxHeartbeats 2000000 in
theorem lawSFree_small (room : Int) (v : Value) (hs : List Pl.H) (w : World) (hv : Holds w v hs) (hl : hs.length ≤ 1048576) :
    Calls Try.prog 5 #[.agg #[.int .i64 room, v]] w fun e w' => e = .returned (.bool true) ∧ Below w.heap.size w w' := by
  have HV : Hid (∀ W, Below w.heap.size w W → Holds W v hs) := fun W h => hv.later h (Nat.le_refl _)
  obtain ⟨ao, cap, hvs⟩ := hv.shape
  have H0 : Hid (Duo (w.alloc (.cells #[.int .i64 room, v] 32)) w.heap.size (.int .i64 room) v) := Duo.new w _ _ _
  have HS : Hid (∀ o, Calls Try.prog 11 #[.agg #[.int .i64 room, v], .int .i64 1048576] (w.alloc o) fun e w' => e = .returned (.int .i64 (1048576 - hs.length)) ∧ Below (w.alloc o).heap.size (w.alloc o) w') := fun o => by
    rw [hvs]
    have := szStock_any room ao hs.length cap 1048576 (w.alloc o) (by omega) (by omega) (by omega)
    rw [leftOf_pos (by omega)] at this
    exact this
  clear hv
  subst hvs
  go_enter Try.func5, Try.ntmps5
  go_wp2_with fail
  refine (HS.out _).mono ?_
  rintro e w1 ⟨rfl, hb1⟩
  have B1 := hide_it (al_after hb1)
  have T1 := hide_it (H0.out.later hb1 (Nat.le_refl _))
  clear hb1
  obtain ⟨c10, c11⟩ := T1.out
  go_wp2_with fail
  refine (toStock_any room _ hs w1 (HV.out _ B1.out) hl).mono ?_
  rintro e w2 ⟨rfl, ho2, hb2⟩
  have B2 := hide_it (B1.out.trans (hb2.mono B1.out.size))
  have T2 := hide_it (T1.out.later hb2 (Nat.le_refl _))
  have V2 := hide_it (holds_of_row ho2)
  clear hb2 ho2 c10 c11
  go_wp2_with fail
  refine (specFree_any room _ hs w2 V2.out hl).mono ?_
  rintro e w3 ⟨rfl, hb3⟩
  have B3 := hide_it (B2.out.trans (hb3.mono B2.out.size))
  have T3 := hide_it (T2.out.later hb3 (Nat.le_refl _))
  clear hb3
  obtain ⟨c30, c31⟩ := T3.out
  go_wp2_with fail
  refine (toStock_any room _ hs w3 (HV.out _ B3.out) hl).mono ?_
  rintro e w4 ⟨rfl, ho4, hb4⟩
  obtain ⟨g4, hg4⟩ : ∃ g, Hid (g = w3.heap.size + 3) := ⟨_, rfl⟩
  rw [← hg4.out] at ho4 ⊢
  have B4 := hide_it (B3.out.trans (hb4.mono B3.out.size))
  have T4 := hide_it (T3.out.later hb4 (Nat.le_refl _))
  have V4 := hide_it (holds_of_row ho4)
  clear hb4 ho4 c30 c31
  go_wp2_with fail
  have X5 := hide_it (Duo.new w4 (.int .i64 room) (.slice (some ⟨g4, 0, none⟩) hs.length hs.length) 24)
  have V5 : Hid (Holds (w4.alloc (.cells #[.int .i64 room, .slice (some ⟨g4, 0, none⟩) hs.length hs.length] 24)) (.slice (some ⟨g4, 0, none⟩) hs.length hs.length) hs) := V4.out.later (al_below _ _) (Nat.le_refl _)
  refine (implFree_any room _ hs _ V5.out hl).mono ?_
  rintro e w6 ⟨rfl, hb6⟩
  have B6 := hide_it (B4.out.trans ((al_after hb6).mono B4.out.size))
  have T6 := hide_it (T4.out.later (al_after hb6) (Nat.le_refl _))
  have X6 := hide_it (X5.out.later hb6 (Nat.le_refl _))
  have Y6 := hide_it (V5.out.later hb6 (Nat.le_refl _))
  have hz6 : w.heap.size ≤ w6.heap.size := B6.out.size
  clear hb6
  obtain ⟨c60, c61⟩ := T6.out
  obtain ⟨x60, x61⟩ := X6.out
  go_wp2_with fail
  go_region_with (first
    | (go_at_call 13; refine (toStock_any room _ hs _ ?_ hl).mono ?_; exact (HV.out _ B6.out.drew); rintro e w7 ⟨rfl, hm7, hb7⟩; have y7 := (Y6.out.later (Below.refl _ _).drew (Nat.le_refl _)).later hb7 (Nat.le_refl _); have z7 := holds_of_row hm7; have B7 := B6.out.drew.trans (hb7.mono hz6); obtain ⟨x70, x71⟩ := (X6.out.later (Below.refl _ _).drew (Nat.le_refl _)).later hb7 (Nat.le_refl _))
    | (go_at_call 8; refine (eqStock_any room _ _ hs _ ?_ ?_ hl).mono ?_; assumption; assumption; rintro e w8 ⟨rfl, hb8⟩))
  all_goals (try go_wp2)
  all_goals (go_ret; exact ⟨rfl, B7.trans (hb8.mono B7.size)⟩)

end Go.Proofs.Ytpnhcmjdjekleaa
