/- The law FnExactTripsMay, walked: at every list of trips and every record it answers true, and nothing that was there before has turned. In a world in which the sentinel's variable holds a pointer to an errors.errorString. -/
import Derived.Test.YtmbgnmnlkbeaoaaDoorTLaw0
namespace Go.Proofs.YtmbgnmnlkbeaoaaDoor
open Go.RowKit

theorem lawTMay_great1 (v : Value) (hs : List T.R) (r : R) (u : Value) (w : World) (hv : T.Recs w v hs) (hu : Ints w u r.2.2) (hm : (hs.length : Int) ≤ 9223372036854775807) (hms : ∀ r ∈ hs, (r.1.length : Int) ≤ 9223372036854775807) (hg : 1048576 < T.tot hs) :
    Calls Tryd.prog 3 #[v, .agg #[.int .i64 r.1, .int .i64 r.2.1, u]] w fun e w' => e = .returned (.bool true) ∧ Below w.heap.size w w' := by
  have HV : Hid (∀ o, T.Recs (w.alloc o) v hs) := fun o => hv.later (alloc_below _ _) (Nat.le_refl _)
  obtain ⟨av, cv, hvs⟩ := hv.shape
  obtain ⟨au, cu, hus⟩ := hu.shape
  subst hvs hus
  clear hv hu
  go_enter Tryd.func3, Tryd.ntmps3
  go_wp2_with fail
  refine (sz_trips_neg _ hs _ (HV.out _) hm hms hg).mono ?_
  rintro e w1 ⟨rfl, hb⟩
  have HB := hide_it (below_after hb)
  clear hb
  go_wp2
  go_ret
  exact ⟨rfl, HB.out⟩

theorem lawTMay_great2 (v : Value) (hs : List T.R) (r : R) (u : Value) (w : World) (hv : T.Recs w v hs) (hu : Ints w u r.2.2) (_hm : (hs.length : Int) ≤ 9223372036854775807) (_hms : ∀ r ∈ hs, (r.1.length : Int) ≤ 9223372036854775807) (hxl : (r.2.2.length : Int) ≤ 9223372036854775807) (hl : T.tot hs ≤ 1048576) (hg : 1048576 < T.tot hs + r.2.2.length) :
    Calls Tryd.prog 3 #[v, .agg #[.int .i64 r.1, .int .i64 r.2.1, u]] w fun e w' => e = .returned (.bool true) ∧ Below w.heap.size w w' := by
  have HV : Hid (∀ o, T.Recs (w.alloc o) v hs) := fun o => hv.later (alloc_below _ _) (Nat.le_refl _)
  obtain ⟨av, cv, hvs⟩ := hv.shape
  obtain ⟨au, cu, hus⟩ := hu.shape
  subst hvs hus
  clear hv hu
  have HD := hide_it (Blk.new w #[.int .i64 r.1, .int .i64 r.2.1, .slice au r.2.2.length cu] 25)
  go_enter Tryd.func3, Tryd.ntmps3
  go_wp2_with fail
  refine (sz_trips_pos _ hs _ (HV.out _) hl).mono ?_
  rintro e w1 ⟨rfl, hb⟩
  have HB := hide_it (below_after hb)
  obtain ⟨q0, q1, q2⟩ := (HD.out.after hb).cells3
  clear hb
  have hneg : ¬ (1048576 : Int) - T.tot hs < 0 := by omega
  go_wp2_with fail
  refine (sz_trec_neg _ _ au (T.tot hs) r.2.2.length cu _ hxl hl (by omega)).mono ?_
  rintro e w2 ⟨rfl, hb2⟩
  have HB2 := hide_it (HB.out.trans (hb2.mono HB.out.size))
  clear hb2
  go_wp2
  go_ret
  exact ⟨rfl, HB2.out⟩

set_option maxHeartbeats 8000000 in
theorem lawTMay_small (v : Value) (hs : List T.R) (r : R) (u : Value) (a : Addr) (w : World) (hv : T.Recs w v hs) (hu : Ints w u r.2.2) (ha : ErrAt w a) (h2 : T.tot hs + r.2.2.length ≤ 1048576) :
    Calls Tryd.prog 3 #[v, .agg #[.int .i64 r.1, .int .i64 r.2.1, u]] w fun e w' => e = .returned (.bool true) ∧ Below w.heap.size w w' := by
  obtain ⟨k, t, zs⟩ := r
  dsimp only at hu h2 ⊢
  have hl : T.tot hs ≤ 1048576 := by omega
  have hzl : zs.length ≤ 1048576 := by omega
  have HV : Hid (∀ W, Below w.heap.size w W → T.Recs W v hs) := fun W h => hv.later h (Nat.le_refl _)
  have HU : Hid (∀ W, Below w.heap.size w W → Ints W u zs) := fun W h => hu.later h (Nat.le_refl _)
  have HAe : Hid (∀ W, Below w.heap.size w W → ErrAt W a) := fun W h => ha.later h (Nat.le_refl _)
  obtain ⟨BB, hBB⟩ : ∃ x, T.tMay hs (k, t, zs) = x := ⟨_, rfl⟩
  have HSP : Hid (∀ (x y : Value) (W : World), T.Recs W x hs → Ints W y zs → Calls Tryd.prog 8 #[x, .agg #[.int .i64 k, .int .i64 t, y]] W fun e w' => e = .returned (.bool BB) ∧ Below W.heap.size W w') := fun x y W g1 g2 => by
    have := T.specMay_any x hs (k, t, zs) y W g1 hl g2 hzl
    rw [hBB] at this; exact this
  have HIM : Hid (∀ (x y : Value) (W : World), T.Recs W x hs → Ints W y zs → Below w.heap.size w W → Calls Tryd.prog 11 #[x, .agg #[.int .i64 k, .int .i64 t, y]] W fun e w' => e = .returned (.bool BB) ∧ Below W.heap.size W w') := fun x y W g1 g2 g3 => by
    have := T.implMay_any x hs (k, t, zs) y a W g1 hl g2 hzl (HAe.out W g3)
    rw [hBB] at this; exact this
  obtain ⟨av, cv, hvs⟩ := hv.shape
  obtain ⟨au, cu, hus⟩ := hu.shape
  subst hvs hus
  have D0 := hide_it (Blk.new w #[.int .i64 k, .int .i64 t, .slice au zs.length cu] 25)
  obtain ⟨w0, hw0⟩ : ∃ W, Hid (W = w.alloc (.cells #[.int .i64 k, .int .i64 t, .slice au zs.length cu] 25)) := ⟨_, rfl⟩
  rw [← hw0.out] at D0
  have B0 : Hid (Below w.heap.size w w0) := by show Below _ _ _; rw [hw0.out]; exact alloc_below _ _
  have hneg : ¬ (1048576 : Int) - T.tot hs < 0 := by omega
  have hneg2 : ¬ (1048576 : Int) - T.tot hs - zs.length < 0 := by omega
  clear hv hu ha hBB
  go_enter Tryd.func3, Tryd.ntmps3
  go_wp2_with fail
  rw [← hw0.out]
  refine (sz_trips_pos _ hs w0 (HV.out _ B0.out) hl).mono ?_
  rintro e w1 ⟨rfl, hb1⟩
  have B1 := hide_it (B0.out.trans (hb1.mono B0.out.size))
  have D1 := hide_it (D0.out.after hb1)
  obtain ⟨q0, q1, q2⟩ := D1.out.cells3
  clear hb1
  go_wp2_with fail
  refine (sz_trec_pos k t au (T.tot hs) zs.length cu w1 (by omega)).mono ?_
  rintro e w2 ⟨rfl, hb2⟩
  have B2 := hide_it (B1.out.trans (hb2.mono B1.out.size))
  have D2 := hide_it (D1.out.after hb2)
  clear hb2 q0 q1 q2
  obtain ⟨q0, q1, q2⟩ := D2.out.cells3
  go_wp2
  go_region_held (fun w' => w'.cell? ⟨w.heap.size, 0, none⟩ = some (.int .i64 k) ∧ w'.cell? ⟨w.heap.size, 1, none⟩ = some (.int .i64 t) ∧ w'.cell? ⟨w.heap.size, 2, none⟩ = some (.slice au zs.length cu)) (go_keep)
    ((first
      | (go_at_call 9; refine (T.toTrips_any _ hs _ (HV.out _ B2.out.drew) hl).mono ?_; rintro e w3 ⟨rfl, hm3, hb3⟩; have N3 := hide_it (t_drew hb3); have D3 := hide_it (D2.out.after N3.out); obtain ⟨r30, r31, r32⟩ := D3.out.cells3; have B3 := hide_it (B2.out.trans (N3.out.mono B2.out.size)); have M3 := hide_it hm3.recs; clear hm3 hb3)
      | (go_at_call 10; refine (toRec_any k t _ zs _ (HU.out _ B3.out) hzl).mono ?_; rintro e w4 ⟨rfl, ho4, hb4⟩; have N4 := hide_it (N3.out.trans (hb4.mono N3.out.size)); have D4 := hide_it (D3.out.after hb4); obtain ⟨r40, r41, r42⟩ := D4.out.cells3; have B4 := hide_it (B3.out.trans (hb4.mono B3.out.size)); have M4 := hide_it (M3.out.later hb4 (Nat.le_refl _)); have U4 := hide_it (ints_of_row ho4); clear ho4 hb4)
      | (go_at_call 8; refine (HSP.out _ _ _ M4.out U4.out).mono ?_; rintro e w5 ⟨rfl, hb5⟩; have N5 := hide_it (N4.out.trans (hb5.mono N4.out.size)); have D5 := hide_it (D4.out.after hb5); obtain ⟨r50, r51, r52⟩ := D5.out.cells3; have B5 := hide_it (B4.out.trans (hb5.mono B4.out.size)); clear hb5)))
  clear q0 q1 q2
  go_wp2_with fail
  -- x0
  refine (T.toTrips_any _ hs w5 (HV.out _ B5.out) hl).mono ?_
  rintro e w6 ⟨rfl, hm6, hb6⟩
  obtain ⟨px, hpx, hpxl, hox⟩ := hm6.own
  have PX := hide_it hpx
  have X6 := hide_it hox
  have E6 := hide_it hb6
  have B6 := hide_it (B5.out.trans (hb6.mono B5.out.size))
  have D6 := hide_it (D5.out.after hb6)
  clear hm6 hb6 hpx hpxl hox r50 r51 r52
  obtain ⟨r60, r61, r62⟩ := D6.out.cells3
  go_wp2_with fail
  -- x1
  refine (toRec_any k t _ zs w6 (HU.out _ B6.out) hzl).mono ?_
  rintro e w7 ⟨rfl, ho7, hb7⟩
  obtain ⟨gu, hgu⟩ : ∃ g, Hid (g = w6.heap.size + 3) := ⟨_, rfl⟩
  rw [← hgu.out] at ho7 ⊢
  have R7 := hide_it ho7
  have E7 := hide_it (E6.out.trans (hb7.mono E6.out.size))
  have B7 := hide_it (B6.out.trans (hb7.mono B6.out.size))
  have D7 := hide_it (D6.out.after hb7)
  have X7 := hide_it (X6.out.below hb7 (Nat.le_refl _))
  have HS67 := hide_it hb7.size
  have HGU := hide_it (ho7.lt gu rfl).2
  clear ho7 hb7 r60 r61 r62
  obtain ⟨w8, hw8⟩ : ∃ W, Hid (W = w7.alloc (.cells #[.int .i64 k, .int .i64 t, .slice (some ⟨gu, 0, none⟩) zs.length zs.length] 31)) := ⟨_, rfl⟩
  have al8 : Below w7.heap.size w7 w8 := by rw [hw8.out]; exact alloc_below _ _
  have Y8 : Hid (Blk w8 w7.heap.size #[.int .i64 k, .int .i64 t, .slice (some ⟨gu, 0, none⟩) zs.length zs.length] 31) := by show Blk _ _ _ _; rw [hw8.out]; exact Blk.new w7 _ _
  have E8 := hide_it (E7.out.trans (al8.mono E7.out.size))
  have B8 := hide_it (B7.out.trans (al8.mono B7.out.size))
  have D8 := hide_it (D7.out.after al8)
  have X8 := hide_it (X7.out.below al8 HS67.out)
  have R8 := hide_it (ownsRow_below R7.out al8 (fun j hj => (R7.out.lt j hj).2))
  have HS78 : Hid (w8.heap.size = w7.heap.size + 1) := by show _ = _; rw [hw8.out]; simp
  clear al8
  go_wp2_with fail
  rw [← hw8.out]
  refine (HIM.out _ _ w8 (X8.out.recs' PX.out) (ints_of_row R8.out) B8.out).mono ?_
  rintro e w9 ⟨rfl, hb9⟩
  have SZ : Hid (w6.heap.size ≤ w8.heap.size) := by have := HS67.out; have := HS78.out; show _ ≤ _; omega
  have B9 := hide_it (B8.out.trans (hb9.mono B8.out.size))
  have D9 := hide_it (D8.out.after hb9)
  have Y9 := hide_it (Y8.out.after hb9)
  have R9 := hide_it (ownsRow_below R8.out hb9 (fun j hj => (R8.out.lt j hj).2))
  have X9 := hide_it (X8.out.below hb9 (by have := SZ.out; omega))
  have HS9 : Hid (w6.heap.size ≤ w9.heap.size) := Nat.le_trans SZ.out hb9.size
  clear hb9
  obtain ⟨r90, r91, r92⟩ := D9.out.cells3
  cases BB
  all_goals
    go_wp2_with fail
    refine (T.toTrips_any _ hs w9 (HV.out _ B9.out) hl).mono ?_
    rintro e w10 ⟨rfl, hm10, hb10⟩
    have M10 := hide_it hm10.recs
    have B10 := hide_it (B9.out.trans (hb10.mono B9.out.size))
    have D10 := hide_it (D9.out.after hb10)
    have Y10 := hide_it (Y9.out.after hb10)
    have R10 := hide_it (ownsRow_below R9.out hb10 (fun j hj => (R9.out.lt j hj).2))
    have X10 := hide_it (X9.out.below hb10 (by have := HS9.out; omega))
    clear hm10 hb10
    go_wp2_with fail
    refine (T.eqTrips_any _ _ hs w10 (X10.out.recs' PX.out) M10.out hl).mono ?_
    rintro e w11 ⟨rfl, hb11⟩
    have B11 := hide_it (B10.out.trans (hb11.mono B10.out.size))
    have D11 := hide_it (D10.out.after hb11)
    have Y11 := hide_it (Y10.out.after hb11)
    have R11 := hide_it (ownsRow_below R10.out hb11 (fun j hj => (R10.out.lt j hj).2))
    clear hb11 r90 r91 r92
    obtain ⟨r110, r111, r112⟩ := D11.out.cells3
    obtain ⟨y110, y111, y112⟩ := Y11.out.cells3
    have U11 := hide_it (ints_of_row R11.out)
    go_wp2
    go_region_held (fun w' => (w'.cell? ⟨w.heap.size, 0, none⟩ = some (.int .i64 k) ∧ w'.cell? ⟨w.heap.size, 1, none⟩ = some (.int .i64 t) ∧ w'.cell? ⟨w.heap.size, 2, none⟩ = some (.slice au zs.length cu)) ∧ w'.cell? ⟨w7.heap.size, 0, none⟩ = some (.int .i64 k) ∧ w'.cell? ⟨w7.heap.size, 1, none⟩ = some (.int .i64 t) ∧ w'.cell? ⟨w7.heap.size, 2, none⟩ = some (.slice (some ⟨gu, 0, none⟩) zs.length zs.length)) (go_keep)
      ((first
        | (go_at_call 10; refine (toRec_any k t _ zs _ (HU.out _ B11.out.drew) hzl).mono ?_; rintro e w12 ⟨rfl, ho12, hb12⟩; have N12 := hide_it (t_drew hb12); have D12 := hide_it (D11.out.after N12.out); obtain ⟨r120, r121, r122⟩ := D12.out.cells3; have Y12 := hide_it (Y11.out.after N12.out); obtain ⟨y120, y121, y122⟩ := Y12.out.cells3; have B12 := hide_it (B11.out.trans (N12.out.mono B11.out.size)); have M12 := hide_it (ints_of_row ho12); have U12 := hide_it (U11.out.later N12.out (Nat.le_refl _)); clear ho12 hb12)
        | (go_at_call 13; refine (eqRec_any _ _ _ _ zs _ U12.out M12.out hzl).mono ?_; rintro e w13 ⟨rfl, hb13⟩; have D13 := hide_it (D12.out.after hb13); obtain ⟨r130, r131, r132⟩ := D13.out.cells3; have Y13 := hide_it (Y12.out.after hb13); obtain ⟨y130, y131, y132⟩ := Y13.out.cells3; have B13 := hide_it (B12.out.trans (hb13.mono B12.out.size)); clear hb13)))
    go_wp2
    go_ret
    exact ⟨rfl, B13.out⟩

end Go.Proofs.YtmbgnmnlkbeaoaaDoor
