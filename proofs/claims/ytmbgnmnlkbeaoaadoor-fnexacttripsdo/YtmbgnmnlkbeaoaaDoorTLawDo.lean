/- The law FnExactTripsDo, walked: at every list of trips and every record it answers true, and nothing that was there before has turned. In a world in which the sentinel's variable holds a pointer to an errors.errorString. -/
import Derived.Test.YtmbgnmnlkbeaoaaDoorTLaw0
namespace Go.Proofs.YtmbgnmnlkbeaoaaDoor
open Go.RowKit

theorem lawTDo_great1 (v : Value) (hs : List T.R) (r : R) (u : Value) (w : World) (hv : T.Recs w v hs) (hu : Ints w u r.2.2) (hm : (hs.length : Int) ≤ 9223372036854775807) (hms : ∀ r ∈ hs, (r.1.length : Int) ≤ 9223372036854775807) (hg : 1048576 < T.tot hs) :
    Calls Tryd.prog 4 #[v, .agg #[.int .i64 r.1, .int .i64 r.2.1, u]] w fun e w' => e = .returned (.bool true) ∧ Below w.heap.size w w' := by
  have HV : Hid (∀ o, T.Recs (w.alloc o) v hs) := fun o => hv.later (alloc_below _ _) (Nat.le_refl _)
  obtain ⟨av, cv, hvs⟩ := hv.shape
  obtain ⟨au, cu, hus⟩ := hu.shape
  subst hvs hus
  clear hv hu
  go_enter Tryd.func4, Tryd.ntmps4
  go_wp2_with fail
  refine (sz_trips_neg _ hs _ (HV.out _) hm hms hg).mono ?_
  rintro e w1 ⟨rfl, hb⟩
  have HB := hide_it (below_after hb)
  clear hb
  go_wp2
  go_ret
  exact ⟨rfl, HB.out⟩

theorem lawTDo_great2 (v : Value) (hs : List T.R) (r : R) (u : Value) (w : World) (hv : T.Recs w v hs) (hu : Ints w u r.2.2) (_hm : (hs.length : Int) ≤ 9223372036854775807) (_hms : ∀ r ∈ hs, (r.1.length : Int) ≤ 9223372036854775807) (hxl : (r.2.2.length : Int) ≤ 9223372036854775807) (hl : T.tot hs ≤ 1048576) (hg : 1048576 < T.tot hs + r.2.2.length) :
    Calls Tryd.prog 4 #[v, .agg #[.int .i64 r.1, .int .i64 r.2.1, u]] w fun e w' => e = .returned (.bool true) ∧ Below w.heap.size w w' := by
  have HV : Hid (∀ o, T.Recs (w.alloc o) v hs) := fun o => hv.later (alloc_below _ _) (Nat.le_refl _)
  obtain ⟨av, cv, hvs⟩ := hv.shape
  obtain ⟨au, cu, hus⟩ := hu.shape
  subst hvs hus
  clear hv hu
  have HD := hide_it (Blk.new w #[.int .i64 r.1, .int .i64 r.2.1, .slice au r.2.2.length cu] 25)
  go_enter Tryd.func4, Tryd.ntmps4
  go_wp2_with fail
  refine (sz_trips_pos _ hs _ (HV.out _) hl).mono ?_
  rintro e w1 ⟨rfl, hb⟩
  have HB := hide_it (below_after hb)
  obtain ⟨q0, q1, q2⟩ := (HD.out.after hb).cells3
  clear hb
  have hneg : ¬ (1048576 : Int) - T.tot hs < 0 := by omega
  go_wp2_with fail
  refine (sz_trec_neg _ _ au (T.tot hs) r.2.2.length cu _ hxl hl (by omega)).mono ?_
  rintro e w2 ⟨rfl, hb2⟩
  have HB2 := hide_it (HB.out.trans (hb2.mono HB.out.size))
  clear hb2
  go_wp2
  go_ret
  exact ⟨rfl, HB2.out⟩

set_option maxHeartbeats 16000000 in
theorem lawTDo_small (v : Value) (hs : List T.R) (r : R) (u : Value) (a : Addr) (w : World) (hv : T.Recs w v hs) (hu : Ints w u r.2.2) (ha : ErrAt w a) (h2 : T.tot hs + r.2.2.length ≤ 1048576) :
    Calls Tryd.prog 4 #[v, .agg #[.int .i64 r.1, .int .i64 r.2.1, u]] w fun e w' => e = .returned (.bool true) ∧ Below w.heap.size w w' := by
  obtain ⟨k, t, zs⟩ := r
  dsimp only at hu h2 ⊢
  have hl : T.tot hs ≤ 1048576 := by omega
  have hzl : zs.length ≤ 1048576 := by omega
  have HV : Hid (∀ W, Below w.heap.size w W → T.Recs W v hs) := fun W h => hv.later h (Nat.le_refl _)
  have HU : Hid (∀ W, Below w.heap.size w W → Ints W u zs) := fun W h => hu.later h (Nat.le_refl _)
  have HAe : Hid (∀ W, Below w.heap.size w W → ErrAt W a) := fun W h => ha.later h (Nat.le_refl _)
  have FT := (T.doO_fit hs (k, t, zs)).tot
  have hkx := T.kAt_bd hs 1 hs.length (Nat.le_refl _) hl (by omega) (by omega)
  have hkg := T.kAt_bd (T.doO hs (k, t, zs)) 1 (T.doO hs (k, t, zs)).length (Nat.le_refl _) FT (by omega) (by omega)
  obtain ⟨OO, hOO⟩ : ∃ x, T.doO hs (k, t, zs) = x := ⟨_, rfl⟩
  obtain ⟨BB, hBB⟩ : ∃ x, T.tMay hs (k, t, zs) = x := ⟨_, rfl⟩
  rw [hOO] at FT hkg
  have HSP : Hid (∀ (x y : Value) (W : World), T.Recs W x hs → Ints W y zs → Calls Tryd.prog 14 #[x, .agg #[.int .i64 k, .int .i64 t, y]] W fun e w' => T.TrOut W w' e OO BB) := fun x y W g1 g2 => by
    have := T.specDo_any x hs (k, t, zs) y W g1 hl g2 hzl
    rw [hOO, hBB] at this; exact this
  have HIM : Hid (∀ (x y : Value) (W : World), T.Recs W x hs → Ints W y zs → Below w.heap.size w W → Calls Tryd.prog 15 #[x, .agg #[.int .i64 k, .int .i64 t, y]] W fun e w' => T.TrOut W w' e OO BB) := fun x y W g1 g2 g3 => by
    have := T.implDo_any x hs (k, t, zs) y a W g1 hl g2 hzl (HAe.out W g3)
    rw [hOO, hBB] at this; exact this
  obtain ⟨KX, hKX⟩ : ∃ x, T.kAt hs 1 hs.length = x := ⟨_, rfl⟩
  obtain ⟨KG, hKG⟩ : ∃ x, T.kAt OO 1 OO.length = x := ⟨_, rfl⟩
  have HMX : Hid (∀ (x : Value) (ps : List (T.R × Value)) (lo hi : Nat) (W : World), T.OwnRecs W lo hi x ps → ps.map (·.1) = hs → Calls Tryd.prog 16 #[x, .int .i64 1] W fun e w' => e = .returned (.int .i64 KX) ∧ Mid lo hi W w') := fun x ps lo hi W g1 g2 => by
    have := T.mark' x ps hs lo hi W g1 g2 hl
    rw [hKX] at this
    exact this.mono fun e w' ⟨x, _, z⟩ => ⟨x, z⟩
  have HMG : Hid (∀ (x : Value) (ps : List (T.R × Value)) (lo hi : Nat) (W : World), T.OwnRecs W lo hi x ps → ps.map (·.1) = OO → Calls Tryd.prog 16 #[x, .int .i64 1] W fun e w' => e = .returned (.int .i64 KG) ∧ T.OwnRecs w' lo hi x (T.stg ps 1 ps.length) ∧ Mid lo hi W w') := fun x ps lo hi W g1 g2 => by
    have := T.mark' x ps OO lo hi W g1 g2 FT
    rw [hKG] at this
    exact this
  have HHG : Hid (∀ (x : Value) (W : World), T.Recs W x (T.markAll OO 1) → Calls Tryd.prog 18 #[x, .int .i64 1] W fun e w' => e = .returned (.int .i64 KG) ∧ w' = W) := fun x W g => by
    have := T.heldTrips_any x OO 1 W g FT (by omega) (by omega)
    rw [hKG] at this; exact this
  rw [hKX] at hkx
  rw [hKG] at hkg
  obtain ⟨av, cv, hvs⟩ := hv.shape
  obtain ⟨au, cu, hus⟩ := hu.shape
  subst hvs hus
  have D0 := hide_it (Blk.new w #[.int .i64 k, .int .i64 t, .slice au zs.length cu] 25)
  obtain ⟨w0, hw0⟩ : ∃ W, Hid (W = w.alloc (.cells #[.int .i64 k, .int .i64 t, .slice au zs.length cu] 25)) := ⟨_, rfl⟩
  rw [← hw0.out] at D0
  have B0 : Hid (Below w.heap.size w w0) := by show Below _ _ _; rw [hw0.out]; exact alloc_below _ _
  have hneg : ¬ (1048576 : Int) - T.tot hs < 0 := by omega
  have hneg2 : ¬ (1048576 : Int) - T.tot hs - zs.length < 0 := by omega
  clear hv hu ha hOO hBB hKX hKG
  go_enter Tryd.func4, Tryd.ntmps4
  go_wp2_with fail
  rw [← hw0.out]
  refine (sz_trips_pos _ hs w0 (HV.out _ B0.out) hl).mono ?_
  rintro e w1 ⟨rfl, hb1⟩
  have B1 := hide_it (B0.out.trans (hb1.mono B0.out.size))
  have D1 := hide_it (D0.out.after hb1)
  obtain ⟨q0, q1, q2⟩ := D1.out.cells3
  clear hb1
  go_wp2_with fail
  refine (sz_trec_pos k t au (T.tot hs) zs.length cu w1 (by omega)).mono ?_
  rintro e w2 ⟨rfl, hb2⟩
  have B2 := hide_it (B1.out.trans (hb2.mono B1.out.size))
  have D2 := hide_it (D1.out.after hb2)
  clear hb2 q0 q1 q2
  obtain ⟨q0, q1, q2⟩ := D2.out.cells3
  go_wp2
  go_region_held (fun w' => w'.cell? ⟨w.heap.size, 0, none⟩ = some (.int .i64 k) ∧ w'.cell? ⟨w.heap.size, 1, none⟩ = some (.int .i64 t) ∧ w'.cell? ⟨w.heap.size, 2, none⟩ = some (.slice au zs.length cu)) (go_keep)
    ((first
      | (go_at_call 9; refine (T.toTrips_any _ hs _ (HV.out _ B2.out.drew) hl).mono ?_; rintro e w3 ⟨rfl, hm3, hb3⟩; have N3 := hide_it (t_drew hb3); have D3 := hide_it (D2.out.after N3.out); obtain ⟨r30, r31, r32⟩ := D3.out.cells3; have B3 := hide_it (B2.out.trans (N3.out.mono B2.out.size)); have M3 := hide_it hm3.recs; clear hm3 hb3)
      | (go_at_call 10; refine (toRec_any k t _ zs _ (HU.out _ B3.out) hzl).mono ?_; rintro e w4 ⟨rfl, ho4, hb4⟩; have N4 := hide_it (N3.out.trans (hb4.mono N3.out.size)); have D4 := hide_it (D3.out.after hb4); obtain ⟨r40, r41, r42⟩ := D4.out.cells3; have B4 := hide_it (B3.out.trans (hb4.mono B3.out.size)); have M4 := hide_it (M3.out.later hb4 (Nat.le_refl _)); have U4 := hide_it (ints_of_row ho4); clear ho4 hb4)
      | (go_at_call 14; refine (HSP.out _ _ _ M4.out U4.out).mono ?_; rintro e w5 ⟨aw, cw, rfl, hm5, hb5⟩; have MM5 := hide_it hm5; clear hm5; have N5 := hide_it (N4.out.trans (hb5.mono N4.out.size)); have D5 := hide_it (D4.out.after hb5); obtain ⟨r50, r51, r52⟩ := D5.out.cells3; have B5 := hide_it (B4.out.trans (hb5.mono B4.out.size)); clear hb5)))
  clear q0 q1 q2
  obtain ⟨pw, hpw, hpwl, how⟩ := MM5.out.own
  have PW := hide_it hpw
  have A5 := hide_it how
  clear hpw hpwl how
  go_wp2_with fail
  -- x0
  refine (T.toTrips_any _ hs w5 (HV.out _ B5.out) hl).mono ?_
  rintro e w6 ⟨rfl, hm6, hb6⟩
  obtain ⟨px, hpx, hpxl, hox⟩ := hm6.own
  have PX := hide_it hpx
  have X6 := hide_it hox
  have E6 := hide_it hb6
  have B6 := hide_it (B5.out.trans (hb6.mono B5.out.size))
  have D6 := hide_it (D5.out.after hb6)
  clear hm6 hb6 hpx hpxl hox r50 r51 r52
  obtain ⟨r60, r61, r62⟩ := D6.out.cells3
  go_wp2_with fail
  -- x1
  refine (toRec_any k t _ zs w6 (HU.out _ B6.out) hzl).mono ?_
  rintro e w7 ⟨rfl, ho7, hb7⟩
  obtain ⟨gu, hgu⟩ : ∃ g, Hid (g = w6.heap.size + 3) := ⟨_, rfl⟩
  rw [← hgu.out] at ho7 ⊢
  have R7 := hide_it ho7
  have E7 := hide_it (E6.out.trans (hb7.mono E6.out.size))
  have B7 := hide_it (B6.out.trans (hb7.mono B6.out.size))
  have D7 := hide_it (D6.out.after hb7)
  have X7 := hide_it (X6.out.below hb7 (Nat.le_refl _))
  have HS67 := hide_it hb7.size
  have HGU := hide_it (ho7.lt gu rfl).2
  clear ho7 hb7 r60 r61 r62
  obtain ⟨w8, hw8⟩ : ∃ W, Hid (W = w7.alloc (.cells #[.int .i64 k, .int .i64 t, .slice (some ⟨gu, 0, none⟩) zs.length zs.length] 31)) := ⟨_, rfl⟩
  have al8 : Below w7.heap.size w7 w8 := by rw [hw8.out]; exact alloc_below _ _
  have Y8 : Hid (Blk w8 w7.heap.size #[.int .i64 k, .int .i64 t, .slice (some ⟨gu, 0, none⟩) zs.length zs.length] 31) := by show Blk _ _ _ _; rw [hw8.out]; exact Blk.new w7 _ _
  have E8 := hide_it (E7.out.trans (al8.mono E7.out.size))
  have B8 := hide_it (B7.out.trans (al8.mono B7.out.size))
  have D8 := hide_it (D7.out.after al8)
  have X8 := hide_it (X7.out.below al8 HS67.out)
  have R8 := hide_it (ownsRow_below R7.out al8 (fun j hj => (R7.out.lt j hj).2))
  have HS78 : Hid (w8.heap.size = w7.heap.size + 1) := by show _ = _; rw [hw8.out]; simp
  clear al8
  go_wp2_with fail
  rw [← hw8.out]
  refine (HIM.out _ _ w8 (X8.out.recs' PX.out) (ints_of_row R8.out) B8.out).mono ?_
  rintro e w9 ⟨ag, cg, rfl, hm9, hb9⟩
  have SZ : Hid (w5.heap.size ≤ w6.heap.size ∧ w6.heap.size ≤ gu ∧ gu < w7.heap.size ∧ w7.heap.size < w8.heap.size) := by have h1 := HS67.out; have h2 := HS78.out; have h3 := E6.out.size; have h4 := hgu.out; have h5 := HGU.out; exact ⟨h3, by omega, h5, by omega⟩
  have A8 := hide_it (A5.out.below E8.out (Nat.le_refl _))
  obtain ⟨pg, hpg, hpgl, hog⟩ := hm9.own
  have PG := hide_it hpg
  have G9 := hide_it hog
  have B9 := hide_it (B8.out.trans (hb9.mono B8.out.size))
  have D9 := hide_it (D8.out.after hb9)
  have Y9 := hide_it (Y8.out.after hb9)
  have R9 := hide_it (ownsRow_below R8.out hb9 (fun j hj => (R8.out.lt j hj).2))
  have X9 := hide_it (X8.out.below hb9 (by have := SZ.out; omega))
  have A9 := hide_it (A8.out.below hb9 (by have := SZ.out; omega))
  have HS9 : Hid (w8.heap.size ≤ w9.heap.size) := hb9.size
  clear hm9 hb9 hpg hpgl hog
  go_wp2_with fail
  refine (T.eqTrips_any _ _ OO w9 (G9.out.recs' PG.out) (A9.out.recs' PW.out) FT).mono ?_
  rintro e w10 ⟨rfl, hb10⟩
  have B10 := hide_it (B9.out.trans (hb10.mono B9.out.size))
  have D10 := hide_it (D9.out.after hb10)
  have Y10 := hide_it (Y9.out.after hb10)
  have R10 := hide_it (ownsRow_below R9.out hb10 (fun j hj => (R9.out.lt j hj).2))
  have X10 := hide_it (X9.out.below hb10 (by have := SZ.out; have := HS9.out; omega))
  have A10 := hide_it (A9.out.below hb10 (by have := SZ.out; have := HS9.out; omega))
  have G10 := hide_it (G9.out.below hb10 (by have := SZ.out; have := HS9.out; omega))
  have HS10 : Hid (w9.heap.size ≤ w10.heap.size) := hb10.size
  clear hb10
  cases BB
  all_goals
    go_wp2_with fail
    refine (T.toTrips_any _ hs w10 (HV.out _ B10.out) hl).mono ?_
    rintro e w11 ⟨rfl, hm11, hb11⟩
    have M11 := hide_it hm11.recs
    have B11 := hide_it (B10.out.trans (hb11.mono B10.out.size))
    have D11 := hide_it (D10.out.after hb11)
    have Y11 := hide_it (Y10.out.after hb11)
    have R11 := hide_it (ownsRow_below R10.out hb11 (fun j hj => (R10.out.lt j hj).2))
    have X11 := hide_it (X10.out.below hb11 (by have := SZ.out; have := HS9.out; have := HS10.out; omega))
    have A11 := hide_it (A10.out.below hb11 (by have := SZ.out; have := HS9.out; have := HS10.out; omega))
    have G11 := hide_it (G10.out.below hb11 (by have := SZ.out; have := HS9.out; have := HS10.out; omega))
    have HS11 : Hid (w9.heap.size ≤ w11.heap.size) := Nat.le_trans HS10.out hb11.size
    clear hm11 hb11
    go_wp2_with fail
    refine (T.eqTrips_any _ _ hs w11 (X11.out.recs' PX.out) M11.out hl).mono ?_
    rintro e w12 ⟨rfl, hb12⟩
    have B12 := hide_it (B11.out.trans (hb12.mono B11.out.size))
    have D12 := hide_it (D11.out.after hb12)
    have Y12 := hide_it (Y11.out.after hb12)
    have R12 := hide_it (ownsRow_below R11.out hb12 (fun j hj => (R11.out.lt j hj).2))
    have X12 := hide_it (X11.out.below hb12 (by have := SZ.out; have := HS9.out; have := HS11.out; omega))
    have A12 := hide_it (A11.out.below hb12 (by have := SZ.out; have := HS9.out; have := HS11.out; omega))
    have G12 := hide_it (G11.out.below hb12 (by have := SZ.out; have := HS9.out; have := HS11.out; omega))
    have HS12 : Hid (w9.heap.size ≤ w12.heap.size) := Nat.le_trans HS11.out hb12.size
    clear hb12
    obtain ⟨r120, r121, r122⟩ := D12.out.cells3
    obtain ⟨y120, y121, y122⟩ := Y12.out.cells3
    have U12 := hide_it (ints_of_row R12.out)
    go_wp2
    go_region_held (fun w' => (w'.cell? ⟨w.heap.size, 0, none⟩ = some (.int .i64 k) ∧ w'.cell? ⟨w.heap.size, 1, none⟩ = some (.int .i64 t) ∧ w'.cell? ⟨w.heap.size, 2, none⟩ = some (.slice au zs.length cu)) ∧ w'.cell? ⟨w7.heap.size, 0, none⟩ = some (.int .i64 k) ∧ w'.cell? ⟨w7.heap.size, 1, none⟩ = some (.int .i64 t) ∧ w'.cell? ⟨w7.heap.size, 2, none⟩ = some (.slice (some ⟨gu, 0, none⟩) zs.length zs.length)) (go_keep)
      ((first
        | (go_at_call 10; refine (toRec_any k t _ zs _ (HU.out _ B12.out.drew) hzl).mono ?_; rintro e w13 ⟨rfl, ho13, hb13⟩; have N13 := hide_it (t_drew hb13); have D13 := hide_it (D12.out.after N13.out); obtain ⟨r130, r131, r132⟩ := D13.out.cells3; have Y13 := hide_it (Y12.out.after N13.out); obtain ⟨y130, y131, y132⟩ := Y13.out.cells3; have M13 := hide_it (ints_of_row ho13); have U13 := hide_it (U12.out.later N13.out (Nat.le_refl _)); clear ho13 hb13)
        | (go_at_call 13; refine (eqRec_any _ _ _ _ zs _ U13.out M13.out hzl).mono ?_; rintro e w14 ⟨rfl, hb14⟩; have N14 := hide_it (N13.out.trans (hb14.mono N13.out.size)); have D14 := hide_it (D13.out.after hb14); obtain ⟨r140, r141, r142⟩ := D14.out.cells3; have Y14 := hide_it (Y13.out.after hb14); obtain ⟨y140, y141, y142⟩ := Y14.out.cells3; clear hb14)))
    clear r120 r121 r122 y120 y121 y122 r130 r131 r132 y130 y131 y132
    have B14 := hide_it (B12.out.trans (N14.out.mono B12.out.size))
    have R14 := hide_it (ownsRow_below R12.out N14.out (fun j hj => (R12.out.lt j hj).2))
    have X14 := hide_it (X12.out.below N14.out (by have := SZ.out; have := HS9.out; have := HS12.out; omega))
    have A14 := hide_it (A12.out.below N14.out (by have := SZ.out; have := HS9.out; have := HS12.out; omega))
    have G14 := hide_it (G12.out.below N14.out (by have := SZ.out; have := HS9.out; have := HS12.out; omega))
    have HS14 : Hid (w9.heap.size ≤ w14.heap.size) := Nat.le_trans HS12.out N14.out.size
    -- the arguments are marked
    go_wp2_with fail
    refine (HMX.out _ px w5.heap.size w6.heap.size w14 X14.out PX.out).mono ?_
    rintro e w15 ⟨rfl, hM15⟩
    have E15 := hM15.below (Nat.le_refl w5.heap.size) (by have := SZ.out; have := HS9.out; have := HS14.out; omega)
    have B15 := hide_it (B14.out.trans (E15.mono B5.out.size))
    have A15 := hide_it (A14.out.below E15 (Nat.le_refl _))
    have G15 := hide_it (G14.out.mid hM15 (by have := SZ.out; omega))
    have Y15 := hide_it (Y14.out.mid hM15 (Or.inr (by have := SZ.out; omega)))
    have D15 := hide_it (D14.out.mid hM15 (Or.inl (by have := D5.out.lt; omega)))
    have R15 := hide_it (ownsRow_mid R14.out hM15 (fun j hj => Or.inr (by have := (R14.out.lt j hj).1; have := hgu.out; have := SZ.out; omega)))
    have HS15 : Hid (w9.heap.size ≤ w15.heap.size) := Nat.le_trans HS14.out E15.size
    clear hM15 E15 r140 r141 r142 y140 y141 y142
    obtain ⟨y150, y151, y152⟩ := Y15.out.cells3
    go_wp2_with fail
    refine (markRec_t k t gu zs.length zs.length KX _ _ w15 R15.out hzl (by omega) (by omega)).mono ?_
    rintro e w16 ⟨rfl, hM16⟩
    have E16 := hM16.below (show w5.heap.size ≤ gu by have := SZ.out; omega) (by have := SZ.out; have := HS9.out; have := HS15.out; omega)
    have B16 := hide_it (B15.out.trans (E16.mono B5.out.size))
    have A16 := hide_it (A15.out.below E16 (Nat.le_refl _))
    have G16 := hide_it (G15.out.mid hM16 (by have := SZ.out; omega))
    have D16 := hide_it (D15.out.mid hM16 (Or.inl (by have := D5.out.lt; have := SZ.out; omega)))
    have HS16 : Hid (w9.heap.size ≤ w16.heap.size) := Nat.le_trans HS15.out E16.size
    clear hM16 E16 y150 y151 y152
    have hkx0 : ¬ KX + zs.length < 0 := by omega
    go_wp2_with fail
    refine (T.eqTrips_any _ _ OO w16 (G16.out.recs' PG.out) (A16.out.recs' PW.out) FT).mono ?_
    rintro e w17 ⟨rfl, hb17⟩
    have B17 := hide_it (B16.out.trans (hb17.mono B16.out.size))
    have D17 := hide_it (D16.out.after hb17)
    have A17 := hide_it (A16.out.below hb17 (by have := SZ.out; have := HS9.out; have := HS16.out; omega))
    have G17 := hide_it (G16.out.below hb17 (by have := SZ.out; have := HS9.out; have := HS16.out; omega))
    have HS17 : Hid (w9.heap.size ≤ w17.heap.size) := Nat.le_trans HS16.out hb17.size
    clear hb17
    -- the answer is marked, and held
    go_wp2_with fail
    refine (HMG.out _ pg w8.heap.size w9.heap.size w17 G17.out PG.out).mono ?_
    rintro e w18 ⟨rfl, ho18, hM18⟩
    have E18 := hM18.below (show w5.heap.size ≤ w8.heap.size by have := SZ.out; omega) (by have := SZ.out; have := HS9.out; have := HS17.out; omega)
    have B18 := hide_it (B17.out.trans (E18.mono B5.out.size))
    have A18 := hide_it (A17.out.below E18 (Nat.le_refl _))
    have G18 := hide_it ho18
    have D18 := hide_it (D17.out.mid hM18 (Or.inl (by have := D5.out.lt; have := SZ.out; omega)))
    have HS18 : Hid (w9.heap.size ≤ w18.heap.size) := Nat.le_trans HS17.out E18.size
    clear ho18 hM18 E18
    go_wp2_with fail
    refine (HHG.out _ w18 (T.stg_recs PG.out G18.out)).mono ?_
    rintro e w18' ⟨rfl, rfl⟩
    have hkg0 : ¬ KG < 0 := by omega
    obtain ⟨q180, q181, q182⟩ := D18.out.cells3
    go_wp2
    go_region_held (fun w' => w'.cell? ⟨w.heap.size, 0, none⟩ = some (.int .i64 k) ∧ w'.cell? ⟨w.heap.size, 1, none⟩ = some (.int .i64 t) ∧ w'.cell? ⟨w.heap.size, 2, none⟩ = some (.slice au zs.length cu)) (go_keep)
      ((first
        | (go_at_call 9; refine (T.toTrips_any _ hs _ (HV.out _ B18.out.drew) hl).mono ?_; rintro e w19 ⟨rfl, hm19, hb19⟩; have N19 := hide_it (t_drew hb19); have D19 := hide_it (D18.out.after N19.out); obtain ⟨r190, r191, r192⟩ := D19.out.cells3; have B19 := hide_it (B18.out.trans (N19.out.mono B18.out.size)); have M19 := hide_it hm19.recs; clear hm19 hb19)
        | (go_at_call 10; refine (toRec_any k t _ zs _ (HU.out _ B19.out) hzl).mono ?_; rintro e w20 ⟨rfl, ho20, hb20⟩; have N20 := hide_it (N19.out.trans (hb20.mono N19.out.size)); have D20 := hide_it (D19.out.after hb20); obtain ⟨r200, r201, r202⟩ := D20.out.cells3; have B20 := hide_it (B19.out.trans (hb20.mono B19.out.size)); have M20 := hide_it (M19.out.later hb20 (Nat.le_refl _)); have U20 := hide_it (ints_of_row ho20); clear ho20 hb20)
        | (go_at_call 15; refine (HIM.out _ _ _ M20.out U20.out B20.out).mono ?_; rintro e w21 ⟨ah, ch, rfl, hm21, hb21⟩; have M21 := hide_it hm21.recs; clear hm21; have N21 := hide_it (N20.out.trans (hb21.mono N20.out.size)); have D21 := hide_it (D20.out.after hb21); obtain ⟨r210, r211, r212⟩ := D21.out.cells3; have B21 := hide_it (B20.out.trans (hb21.mono B20.out.size)); clear hb21)))
    have A21 := hide_it (A18.out.below N21.out (by have := SZ.out; have := HS9.out; have := HS18.out; omega))
    have G21 := hide_it (G18.out.below N21.out (by have := HS18.out; omega))
    have HS21 : Hid (w9.heap.size ≤ w21.heap.size) := Nat.le_trans HS18.out N21.out.size
    go_wp2_with fail
    refine (T.eqTrips_any _ _ OO w21 M21.out (A21.out.recs' PW.out) FT).mono ?_
    rintro e w22 ⟨rfl, hb22⟩
    have B22 := hide_it (B21.out.trans (hb22.mono B21.out.size))
    have G22 := hide_it (G21.out.below hb22 HS21.out)
    clear hb22
    go_wp2_with fail
    refine (HHG.out _ w22 (T.stg_recs PG.out G22.out)).mono ?_
    rintro e w22' ⟨rfl, rfl⟩
    go_wp2
    go_ret
    exact ⟨rfl, B22.out⟩

end Go.Proofs.YtmbgnmnlkbeaoaaDoor
