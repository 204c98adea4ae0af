/- The law FnExactTripsOf, walked: at every list of records it answers true, and nothing that was there before has turned. In a world in which the sentinel's variable holds a pointer to an errors.errorString. -/
import Derived.Test.YtmbgnmnlkbeaoaaDoorTSpec5
import Derived.Test.YtmbgnmnlkbeaoaaDoorMarkRecs
namespace Go.Proofs.YtmbgnmnlkbeaoaaDoor
open Go.RowKit

theorem Made.own {w : World} {lo : Nat} {v : Value} {rs : List R} (h : Made w lo v rs) : ∃ ps : List (R × Value), ps.map (·.1) = rs ∧ ps.length = rs.length ∧ OwnRecs w lo w.heap.size v ps := by
  obtain ⟨ps, h1, h2⟩ := h
  exact ⟨ps, h1, by rw [← h1]; simp, h2⟩
theorem T.Made.own {w : World} {lo : Nat} {v : Value} {rs : List T.R} (h : T.Made w lo v rs) : ∃ ps : List (T.R × Value), ps.map (·.1) = rs ∧ ps.length = rs.length ∧ T.OwnRecs w lo w.heap.size v ps := by
  obtain ⟨ps, h1, h2⟩ := h
  exact ⟨ps, h1, by rw [← h1]; simp, h2⟩
theorem T.OwnRecs.recs' {w : World} {lo hi : Nat} {v : Value} {ps : List (T.R × Value)} {rs : List T.R} (h : T.OwnRecs w lo hi v ps) (hp : ps.map (·.1) = rs) : T.Recs w v rs := hp ▸ h.recs
theorem OwnRecs.recs' {w : World} {lo hi : Nat} {v : Value} {ps : List (R × Value)} {rs : List R} (h : OwnRecs w lo hi v ps) (hp : ps.map (·.1) = rs) : Recs w v rs := hp ▸ h.recs
theorem T.stg_recs {w : World} {lo hi : Nat} {v : Value} {ps : List (T.R × Value)} {rs : List T.R} {k : Int} (hp : ps.map (·.1) = rs) (h : T.OwnRecs w lo hi v (T.stg ps k ps.length)) : T.Recs w v (T.markAll rs k) := by
  have := h.recs
  rw [T.stg_all, hp] at this
  exact this
/-- The marks of a list of trips of the call's own. -/
theorem T.mark' (v : Value) (ps : List (T.R × Value)) (rs : List T.R) (lo hi : Nat) (w : World) (ho : T.OwnRecs w lo hi v ps) (hp : ps.map (·.1) = rs) (hl : T.tot rs ≤ 1048576) :
    Calls Tryd.prog 16 #[v, .int .i64 1] w fun e w' => e = .returned (.int .i64 (T.kAt rs 1 rs.length)) ∧ T.OwnRecs w' lo hi v (T.stg ps 1 ps.length) ∧ Mid lo hi w w' := by
  subst hp
  have := T.markTrips_any v ps 1 lo hi w ho hl (by omega) (by omega)
  rw [List.length_map]
  exact this
theorem mark' (v : Value) (ps : List (R × Value)) (rs : List R) (lo hi : Nat) (w : World) (ho : OwnRecs w lo hi v ps) (hp : ps.map (·.1) = rs) (hl : tot rs ≤ 1048576) :
    Calls Tryd.prog 24 #[v, .int .i64 1] w fun e w' => e = .returned (.int .i64 (kAt rs 1 rs.length)) ∧ Mid lo hi w w' := by
  subst hp
  rw [List.length_map]
  exact (markRecs_any v ps 1 lo hi w ho hl (by omega) (by omega)).mono fun e w' ⟨h1, _, h3⟩ => ⟨h1, h3⟩

set_option maxHeartbeats 4000000 in
theorem lawTOf_great (v : Value) (qs : List R) (w : World) (hv : Recs w v qs) (hm : (qs.length : Int) ≤ 9223372036854775807) (hms : ∀ r ∈ qs, (r.2.2.length : Int) ≤ 9223372036854775807) (hl : 1048576 < tot qs) :
    Calls Tryd.prog 5 #[v] w fun e w' => e = .returned (.bool true) ∧ Below w.heap.size w w' := by
  have HZ := szRecs_any v qs 1048576 w hv hm hms (by omega) (by omega)
  obtain ⟨ao, cap, rfl⟩ := hv.shape
  clear hv
  rw [leftOf_neg (by omega)] at HZ
  have HZ' := hide_it HZ
  clear HZ
  go_enter Tryd.func5, Tryd.ntmps5
  go_wp2_with fail
  refine HZ'.out.mono ?_
  rintro e w1 ⟨rfl, hb1⟩
  go_wp2
  go_ret
  exact ⟨rfl, hb1⟩

set_option maxHeartbeats 8000000 in
theorem lawTOf_small (v : Value) (qs : List R) (a : Addr) (w : World) (hv : Recs w v qs) (ha : ErrAt w a) (hl : tot qs ≤ 1048576) :
    Calls Tryd.prog 5 #[v] w fun e w' => e = .returned (.bool true) ∧ Below w.heap.size w w' := by
  have hlen := tot_len qs
  have HZ := szRecs_any v qs 1048576 w hv (by omega) (fun r hr => by have := tot_mem qs r hr; omega) (by omega) (by omega)
  have HV : Hid (∀ W, Below w.heap.size w W → Recs W v qs) := fun W h => hv.later h (Nat.le_refl _)
  have HAe : Hid (∀ W, Below w.heap.size w W → ErrAt W a) := fun W h => ha.later h (Nat.le_refl _)
  have HSP0 := T.specOf_any
  have HIM0 := T.implOf_any
  have FT := (T.ofO_fit qs).tot
  have hkx := kAt_bd qs 1 qs.length (Nat.le_refl _) hl (by omega) (by omega)
  have hkg := T.kAt_bd (T.ofO qs) 1 (T.ofO qs).length (Nat.le_refl _) FT (by omega) (by omega)
  obtain ⟨OO, hOO⟩ : ∃ x, T.ofO qs = x := ⟨_, rfl⟩
  obtain ⟨BB, hBB⟩ : ∃ x, (T.runT qs).isSome = x := ⟨_, rfl⟩
  rw [hOO] at FT hkg
  have HSP : Hid (∀ (u : Value) (W : World), Recs W u qs → Calls Tryd.prog 20 #[u] W fun e w' => T.TrOut W w' e OO BB) := fun u W h => by
    have := HSP0 u qs W h hl
    rw [hOO, hBB] at this; exact this
  have HIM : Hid (∀ (u : Value) (W : World), Recs W u qs → Below w.heap.size w W → Calls Tryd.prog 22 #[u] W fun e w' => T.TrOut W w' e OO BB) := fun u W h hb => by
    have := HIM0 u qs a W h hl (HAe.out W hb)
    rw [hOO, hBB] at this; exact this
  have HMX := mark'
  have HMG := T.mark'
  obtain ⟨KX, hKX⟩ : ∃ x, kAt qs 1 qs.length = x := ⟨_, rfl⟩
  obtain ⟨KG, hKG⟩ : ∃ x, T.kAt OO 1 OO.length = x := ⟨_, rfl⟩
  have HMX : Hid (∀ (u : Value) (ps : List (R × Value)) (lo hi : Nat) (W : World), OwnRecs W lo hi u ps → ps.map (·.1) = qs → Calls Tryd.prog 24 #[u, .int .i64 1] W fun e w' => e = .returned (.int .i64 KX) ∧ Mid lo hi W w') := fun u ps lo hi W h1 h2 => by
    have := mark' u ps qs lo hi W h1 h2 hl
    rw [hKX] at this; exact this
  have HMG : Hid (∀ (u : Value) (ps : List (T.R × Value)) (lo hi : Nat) (W : World), T.OwnRecs W lo hi u ps → ps.map (·.1) = OO → Calls Tryd.prog 16 #[u, .int .i64 1] W fun e w' => e = .returned (.int .i64 KG) ∧ T.OwnRecs W lo hi u ps ∧ T.OwnRecs w' lo hi u (T.stg ps 1 ps.length) ∧ Mid lo hi W w') := fun u ps lo hi W h1 h2 => by
    have := T.mark' u ps OO lo hi W h1 h2 FT
    rw [hKG] at this
    exact this.mono fun e w' ⟨x, y, z⟩ => ⟨x, h1, y, z⟩
  have HHG : Hid (∀ (u : Value) (W : World), T.Recs W u (T.markAll OO 1) → Calls Tryd.prog 18 #[u, .int .i64 1] W fun e w' => e = .returned (.int .i64 KG) ∧ w' = W) := fun u W h => by
    have := T.heldTrips_any u OO 1 W h FT (by omega) (by omega)
    rw [hKG] at this; exact this
  rw [hKX] at hkx
  rw [hKG] at hkg
  obtain ⟨ao, cap, rfl⟩ := hv.shape
  rw [leftOf_pos (by omega)] at HZ
  have hz0 : ¬ (1048576 : Int) - tot qs < 0 := by omega
  have HZ' := hide_it HZ
  clear HZ hv ha HSP0 HIM0 hOO hBB hKX hKG
  go_enter Tryd.func5, Tryd.ntmps5
  go_wp2_with fail
  refine HZ'.out.mono ?_
  rintro e w1 ⟨rfl, hb1⟩
  have B1 := hide_it hb1
  clear hb1
  go_wp2_with fail
  refine (toRecs_any _ qs w1 (HV.out _ B1.out) hl).mono ?_
  rintro e w2 ⟨rfl, hm2, hb2⟩
  have B2 := hide_it (B1.out.trans (hb2.mono B1.out.size))
  have M2 := hide_it hm2.recs
  clear hm2 hb2
  go_wp2_with fail
  refine (HSP.out _ w2 M2.out).mono ?_
  rintro e w3 ⟨aw, cw, rfl, hm3, hb3⟩
  have B3 := hide_it (B2.out.trans (hb3.mono B2.out.size))
  obtain ⟨pw, hpw, hpwl, how⟩ := hm3.own
  have PW := hide_it hpw
  have A3 := hide_it how
  clear hm3 hb3 hpw hpwl how
  go_wp2_with fail
  refine (toRecs_any _ qs w3 (HV.out _ B3.out) hl).mono ?_
  rintro e w4 ⟨rfl, hm4, hb4⟩
  have B4 := hide_it (B3.out.trans (hb4.mono B3.out.size))
  have A4 := hide_it (A3.out.below hb4 (Nat.le_refl _))
  obtain ⟨px, hpx, hpxl, hox⟩ := hm4.own
  have PX := hide_it hpx
  have X4 := hide_it hox
  have HS34 := hide_it hb4.size
  clear hm4 hb4 hpx hpxl hox
  go_wp2_with fail
  refine (HIM.out _ w4 (X4.out.recs' PX.out) B4.out).mono ?_
  rintro e w5 ⟨ag, cg, rfl, hm5, hb5⟩
  have B5 := hide_it (B4.out.trans (hb5.mono B4.out.size))
  have A5 := hide_it (A4.out.below hb5 HS34.out)
  have X5 := hide_it (X4.out.below hb5 (Nat.le_refl _))
  obtain ⟨pg, hpg, hpgl, hog⟩ := hm5.own
  have PG := hide_it hpg
  have G5 := hide_it hog
  have HS45 := hide_it hb5.size
  clear hm5 hb5 hpg hpgl hog
  go_wp2_with fail
  refine (T.eqTrips_any _ _ OO w5 (G5.out.recs' PG.out) (A5.out.recs' PW.out) FT).mono ?_
  rintro e w6 ⟨rfl, hb6⟩
  have B6 := hide_it (B5.out.trans (hb6.mono B5.out.size))
  have A6 := hide_it (A5.out.below hb6 (Nat.le_trans HS34.out HS45.out))
  have X6 := hide_it (X5.out.below hb6 HS45.out)
  have G6 := hide_it (G5.out.below hb6 (Nat.le_refl _))
  have HS56 := hide_it hb6.size
  clear hb6
  have step7 : Hid (∀ (W : World), Below w.heap.size w W → Calls Tryd.prog 21 #[.slice ao qs.length cap] W fun e w' => e = .returned (.slice (some ⟨W.heap.size, 0, none⟩) qs.length qs.length) ∧ Made w' W.heap.size (.slice (some ⟨W.heap.size, 0, none⟩) qs.length qs.length) qs ∧ Below W.heap.size W w') := fun W h => toRecs_any _ qs W (HV.out W h) hl
  cases BB
  all_goals
    go_wp2_with fail
    refine (step7.out w6 B6.out).mono ?_
    rintro e w7 ⟨rfl, hm7, hb7⟩
    have B7 := hide_it (B6.out.trans (hb7.mono B6.out.size))
    have A7 := hide_it (A6.out.below hb7 (Nat.le_trans HS34.out (Nat.le_trans HS45.out HS56.out)))
    have X7 := hide_it (X6.out.below hb7 (Nat.le_trans HS45.out HS56.out))
    have G7 := hide_it (G6.out.below hb7 HS56.out)
    have HS67 := hide_it hb7.size
    have M7 := hide_it hm7.recs
    clear hm7 hb7
    go_wp2_with fail
    refine (eqRecs_any _ _ qs w7 (X7.out.recs' PX.out) M7.out hl).mono ?_
    rintro e w8 ⟨rfl, hb8⟩
    have HS57 : Hid (w5.heap.size ≤ w7.heap.size) := Nat.le_trans HS56.out HS67.out
    have B8 := hide_it (B7.out.trans (hb8.mono B7.out.size))
    have A8 := hide_it (A7.out.below hb8 (Nat.le_trans HS34.out (Nat.le_trans HS45.out HS57.out)))
    have X8 := hide_it (X7.out.below hb8 (Nat.le_trans HS45.out HS57.out))
    have G8 := hide_it (G7.out.below hb8 HS57.out)
    have HS58 : Hid (w5.heap.size ≤ w8.heap.size) := Nat.le_trans HS57.out hb8.size
    clear hb8
    go_wp2_with fail
    refine (HMX.out _ px w3.heap.size w4.heap.size w8 X8.out PX.out).mono ?_
    rintro e w9 ⟨rfl, hM9⟩
    have E9 := hM9.below (Nat.le_refl w3.heap.size) (Nat.le_trans HS34.out (Nat.le_trans HS45.out HS58.out))
    have B9 := hide_it (B8.out.trans (E9.mono B3.out.size))
    have A9 := hide_it (A8.out.below E9 (Nat.le_refl _))
    have G9 := hide_it (G8.out.mid hM9 (Nat.le_refl _))
    have HS59 : Hid (w5.heap.size ≤ w9.heap.size) := Nat.le_trans HS58.out E9.size
    clear hM9 E9
    have hkx0 : ¬ KX < 0 := by omega
    go_wp2_with fail
    refine (T.eqTrips_any _ _ OO w9 (G9.out.recs' PG.out) (A9.out.recs' PW.out) FT).mono ?_
    rintro e w10 ⟨rfl, hb10⟩
    have B10 := hide_it (B9.out.trans (hb10.mono B9.out.size))
    have A10 := hide_it (A9.out.below hb10 (Nat.le_trans HS34.out (Nat.le_trans HS45.out HS59.out)))
    have G10 := hide_it (G9.out.below hb10 HS59.out)
    have HS510 : Hid (w5.heap.size ≤ w10.heap.size) := Nat.le_trans HS59.out hb10.size
    clear hb10
    go_wp2_with fail
    refine (HMG.out _ pg w4.heap.size w5.heap.size w10 G10.out PG.out).mono ?_
    rintro e w11 ⟨rfl, -, ho11, hM11⟩
    have E11 := hM11.below (Nat.le_refl w4.heap.size) (Nat.le_trans HS45.out HS510.out)
    have B11 := hide_it (B10.out.trans (E11.mono B4.out.size))
    have A11 := hide_it (A10.out.below E11 HS34.out)
    have G11 := hide_it ho11
    have HS511 : Hid (w5.heap.size ≤ w11.heap.size) := Nat.le_trans HS510.out E11.size
    clear ho11 hM11 E11
    go_wp2_with fail
    refine (HHG.out _ w11 (T.stg_recs PG.out G11.out)).mono ?_
    rintro e w11' ⟨rfl, rfl⟩
    have hkg0 : ¬ KG < 0 := by omega
    go_wp2_with fail
    refine (step7.out _ B11.out).mono ?_
    rintro e w12 ⟨rfl, hm12, hb12⟩
    have B12 := hide_it (B11.out.trans (hb12.mono B11.out.size))
    have A12 := hide_it (A11.out.below hb12 (Nat.le_trans HS34.out (Nat.le_trans HS45.out HS511.out)))
    have G12 := hide_it (G11.out.below hb12 HS511.out)
    have HS512 : Hid (w5.heap.size ≤ w12.heap.size) := Nat.le_trans HS511.out hb12.size
    have M12 := hide_it hm12.recs
    clear hm12 hb12
    go_wp2_with fail
    refine (HIM.out _ w12 M12.out B12.out).mono ?_
    rintro e w13 ⟨ah, ch, rfl, hm13, hb13⟩
    have B13 := hide_it (B12.out.trans (hb13.mono B12.out.size))
    have A13 := hide_it (A12.out.below hb13 (Nat.le_trans HS34.out (Nat.le_trans HS45.out HS512.out)))
    have G13 := hide_it (G12.out.below hb13 HS512.out)
    have HS513 : Hid (w5.heap.size ≤ w13.heap.size) := Nat.le_trans HS512.out hb13.size
    have M13 := hide_it hm13.recs
    clear hm13 hb13
    go_wp2_with fail
    refine (T.eqTrips_any _ _ OO w13 M13.out (A13.out.recs' PW.out) FT).mono ?_
    rintro e w14 ⟨rfl, hb14⟩
    have B14 := hide_it (B13.out.trans (hb14.mono B13.out.size))
    have G14 := hide_it (G13.out.below hb14 HS513.out)
    clear hb14
    go_wp2_with fail
    refine (HHG.out _ w14 (T.stg_recs PG.out G14.out)).mono ?_
    rintro e w14' ⟨rfl, rfl⟩
    go_wp2
    go_ret
    exact ⟨rfl, B14.out⟩

end Go.Proofs.YtmbgnmnlkbeaoaaDoor
