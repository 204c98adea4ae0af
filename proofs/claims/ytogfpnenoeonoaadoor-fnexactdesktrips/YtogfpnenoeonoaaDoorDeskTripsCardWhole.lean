/- FnExactDeskTrips answers true at every desk, whatever counts, and they read afterwards as they read before: at every argument DeskTrips answers as its model. The card: the sentinel's variable starts as the program's text lays it. -/
import Derived.Test.YtogfpnenoeonoaaDoorBase5
import Derived.Deep.RegionHeld

namespace Go.Proofs.YtogfpnenoeonoaaDoor
open Go.RowKit

/-- Trips come back, in memory of the call's own. -/
def TrL (w w' : World) (e : Ending) (rs : List T.R) : Prop := ∃ ao cap, e = .returned (.slice ao rs.length cap) ∧ T.Made w' w.heap.size (.slice ao rs.length cap) rs ∧ Below w.heap.size w w'
def cutF (rs : List R) (f : Int) (forced : Bool) : List R := if forced = true then rs.take f.toNat else rs
def dkTrips (up : Bool) (rs : List R) (f : Int) (ws : List Wd) (forced : Bool) : List T.R := if dkOk up rs f ws = true then T.ofO (cutF rs f forced) else []
theorem dkTrips_tot (up : Bool) (rs : List R) (f : Int) (ws : List Wd) (forced : Bool) : T.tot (dkTrips up rs f ws forced) ≤ 1048576 := by
  unfold dkTrips; split
  · exact (T.ofO_fit _).tot
  · exact T.Fit.nil.tot
set_option maxHeartbeats 4000000 in
theorem l13Trips_any (up : Bool) (v u : Value) (rs : List R) (f : Int) (ws : List Wd) (forced : Bool) (w : World) (hv : DkIn w v u rs ws) (hl : tot rs ≤ 1048576) (h0 : 0 ≤ f) (h1 : f ≤ rs.length) :
    Calls Tryd.prog 37 #[deskV up v f u, .bool forced] w fun e w' => TrL w w' e (T.ofO (cutF rs f forced)) := by
  have hrl := tot_len rs
  have HV : Hid (∀ W, Below w.heap.size w W → DkIn W v u rs ws) := fun W h => hv.later h (Nat.le_refl _)
  obtain ⟨av, cv, au, cu, rfl, rfl⟩ := hv.1.shape
  have hcap : rs.length ≤ cv := by
    rcases hv.2.1 with ⟨e, h0⟩ | ⟨g, cap, e, h1⟩
    · omega
    · simp at e; omega
  clear hv
  have HO : Hid (∀ (N : Nat) (W : World), N ≤ rs.length → Below w.heap.size w W → Calls Tryd.prog 28 #[.slice av N cv] W fun e w' => T.TrOut W w' e (T.ofO (rs.take N)) (T.runT (rs.take N)).isSome) := fun N W hN h => by
    have hlen : (rs.take N).length = N := by rw [List.length_take]; omega
    have := T.l12Of_any (.slice av N cv) (rs.take N) W (Recs.take (HV.out W h).1.1 hN) (Nat.le_trans (pre_take rs _ hN) hl)
    exact this
  obtain ⟨F, rfl⟩ := Int.eq_ofNat_of_zero_le h0
  cases forced
  · have HE : Hid (cutF rs F false = rs) := rfl
    rw [HE.out]
    have HC : Hid (∀ W, rs.length ≤ rs.length → Below w.heap.size w W → Calls Tryd.prog 28 #[.slice av rs.length cv] W fun e w' => T.TrOut W w' e (T.ofO rs) (T.runT rs).isSome) := fun W h1 h2 => by
      have := HO.out rs.length W h1 h2
      rw [List.take_length] at this
      exact this
    go_enter Tryd.func37, Tryd.ntmps37
    go_wp2_with fail
    refine (HC.out _ (Nat.le_refl _) (alloc_below _ _)).mono ?_
    rintro e w1 ⟨ao, cap, rfl, hm, hb⟩
    have M1 := hide_it hm
    have B1 := hide_it (below_after hb)
    clear hm hb
    go_wp2
    go_ret
    exact ⟨ao, cap, rfl, M1.out.lo (by simp), B1.out⟩
  · have HE : Hid (cutF rs F true = rs.take F) := by show _ = _; simp [cutF]
    rw [HE.out]
    have HC := hide_it (HO.out F)
    have hF : F ≤ rs.length := by omega
    go_enter Tryd.func37, Tryd.ntmps37
    go_wp2_with fail
    refine (HC.out _ hF (alloc_below _ _)).mono ?_
    rintro e w1 ⟨ao, cap, rfl, hm, hb⟩
    have M1 := hide_it hm
    have B1 := hide_it (below_after hb)
    clear hm hb
    go_wp2
    go_ret
    exact ⟨ao, cap, rfl, M1.out.lo (by simp), B1.out⟩

set_option maxHeartbeats 4000000 in
theorem specDTrips_any (up : Bool) (v u : Value) (rs : List R) (f : Int) (ws : List Wd) (forced : Bool) (w : World) (hv : DkIn w v u rs ws) (hl : tot rs ≤ 1048576) (hlw : ws.length ≤ 1048576) :
    Calls Tryd.prog 13 #[deskV up v f u, .bool forced] w fun e w' => TrL w w' e (dkTrips up rs f ws forced) := by
  have HV : Hid (∀ W, Below w.heap.size w W → DkIn W v u rs ws) := fun W h => hv.later h (Nat.le_refl _)
  have HOK : Hid (∀ W, Below w.heap.size w W → Calls Tryd.prog 9 #[deskV up v f u] W fun e w' => e = .returned (.bool (dkOk up rs f ws)) ∧ Below W.heap.size W w') := fun W h =>
    specDeskOk_any up v u rs f ws W (HV.out W h).1 hl hlw hv.2.2
  obtain ⟨av, cv, au, cu, rfl, rfl⟩ := hv.1.shape
  clear hv
  have X0 : Hid (Blk (w.alloc (.cells #[.bool up, .slice av rs.length cv, .int .i64 f, .slice au ws.length cu] 35)) w.heap.size #[.bool up, .slice av rs.length cv, .int .i64 f, .slice au ws.length cu] 35) := Blk.new _ _ _
  cases hok : dkOk up rs f ws
  · have HR : Hid (dkTrips up rs f ws forced = []) := by show _ = _; simp [dkTrips, hok]
    rw [hok] at HOK
    rw [HR.out]
    clear hok
    go_enter Tryd.func13, Tryd.ntmps13
    go_wp2_with fail
    refine (HOK.out _ (alloc_below _ _)).mono ?_
    rintro e w1 ⟨rfl, hb⟩
    have B1 := hide_it (below_after hb)
    have hz1 := B1.out.size
    clear hb
    go_wp2
    go_ret
    exact ⟨some ⟨w1.heap.size, 0, none⟩, 0, rfl, T.Made.lit w1 _ hz1, B1.out.alloc hz1 _⟩
  · have HR : Hid (dkTrips up rs f ws forced = T.ofO (cutF rs f forced)) := by show _ = _; simp [dkTrips, hok]
    obtain ⟨hf0, hf1, -⟩ := logOk_f (dkOk_log hok)
    have HC : Hid (∀ W, Below w.heap.size w W → Calls Tryd.prog 37 #[deskV up (.slice av rs.length cv) f (.slice au ws.length cu), .bool forced] W fun e w' => TrL W w' e (T.ofO (cutF rs f forced))) := fun W h =>
      l13Trips_any up _ _ rs f ws forced W (HV.out W h) hl hf0 hf1
    rw [hok] at HOK
    rw [HR.out]
    clear hok hf0 hf1
    go_enter Tryd.func13, Tryd.ntmps13
    go_wp2_with fail
    refine (HOK.out _ (alloc_below _ _)).mono ?_
    rintro e w1 ⟨rfl, hb⟩
    obtain ⟨x0, x1, x2, x3⟩ := (X0.out.after hb).cells4
    have B1 := hide_it (below_after hb)
    have hz1 := B1.out.size
    clear hb
    go_wp2_with fail
    refine (HC.out w1 B1.out).mono ?_
    rintro e w2 ⟨ao, cap, rfl, hm, hb⟩
    have M2 := hide_it hm
    have B2 := hide_it (B1.out.trans (hb.mono hz1))
    clear hm hb
    go_wp2
    go_ret
    exact ⟨ao, cap, rfl, M2.out.lo hz1, B2.out⟩

set_option maxHeartbeats 4000000 in
set_option maxRecDepth 20000 in
theorem implDTrips_any (up : Bool) (v u : Value) (rs : List R) (f : Int) (ws : List Wd) (forced : Bool) (a : Addr) (w : World) (hv : DkIn w v u rs ws) (hl : tot rs ≤ 1048576) (hlw : ws.length ≤ 1048576) (ha : ErrAt w a) :
    Calls Tryd.prog 14 #[deskV up v f u, .bool forced] w fun e w' => TrL w w' e (dkTrips up rs f ws forced) := by
  have HC : Hid (∀ o, Calls Tryd.prog 34 #[deskV up v f u] (w.alloc o) fun e w' => ClOut (w.alloc o) w' e up rs f ws) := fun o =>
    clerkOf_any up v u rs f ws a (w.alloc o) (hv.1.later (alloc_below w o) (Nat.le_refl _)) hl hlw hv.2.1 (ha.later (alloc_below w o) (Nat.le_refl _))
  obtain ⟨av, cv, au, cu, rfl, rfl⟩ := hv.1.shape
  clear hv ha
  go_enter Tryd.func14, Tryd.ntmps14
  go_wp2_with fail
  refine (HC.out _).mono ?_
  rintro e w1 ⟨hb, hc⟩
  have B1 := hide_it (below_after hb)
  have hz1 := B1.out.size
  clear hb
  rcases hc with ⟨hok, rfl⟩ | ⟨hok, ao, cap, a2, c2, aa, ca, af, cf, b, ps, rfl, -, -, hma, hmf, -⟩
  · have HR : Hid (dkTrips up rs f ws forced = []) := by show _ = _; simp [dkTrips, hok]
    clear hok
    go_wp2
    go_ret
    rw [HR.out]
    exact ⟨none, 0, rfl, T.Made.none _ _, B1.out.alloc hz1 _⟩
  · have MA := hide_it hma
    have MF := hide_it hmf
    clear hma hmf
    cases forced
    · have HR : Hid (dkTrips up rs f ws false = T.ofO rs) := by show _ = _; simp [dkTrips, cutF, hok]
      clear hok
      go_wp2
      go_ret
      rw [HR.out]
      exact ⟨aa, ca, rfl, (MA.out.below (alloc_below _ _) (Nat.le_refl _)).lo (by simp), B1.out.alloc hz1 _⟩
    · have HR : Hid (dkTrips up rs f ws true = T.ofO (rs.take f.toNat)) := by show _ = _; simp [dkTrips, cutF, hok]
      clear hok
      go_wp2
      go_ret
      rw [HR.out]
      exact ⟨af, cf, rfl, (MF.out.below (alloc_below _ _) (Nat.le_refl _)).lo (by simp), B1.out.alloc hz1 _⟩

end Go.Proofs.YtogfpnenoeonoaaDoor

namespace Go.Proofs.YtogfpnenoeonoaaDoor
open Go.RowKit

theorem Made.own {w : World} {lo : Nat} {v : Value} {rs : List R} (h : Made w lo v rs) : ∃ ps : List (R × Value), ps.map (·.1) = rs ∧ ps.length = rs.length ∧ OwnRecs w lo w.heap.size v ps := by
  obtain ⟨ps, h1, h2⟩ := h
  exact ⟨ps, h1, by rw [← h1]; simp, h2⟩
theorem T.Made.own {w : World} {lo : Nat} {v : Value} {rs : List T.R} (h : T.Made w lo v rs) : ∃ ps : List (T.R × Value), ps.map (·.1) = rs ∧ ps.length = rs.length ∧ T.OwnRecs w lo w.heap.size v ps := by
  obtain ⟨ps, h1, h2⟩ := h
  exact ⟨ps, h1, by rw [← h1]; simp, h2⟩
theorem T.OwnRecs.recs' {w : World} {lo hi : Nat} {v : Value} {ps : List (T.R × Value)} {rs : List T.R} (h : T.OwnRecs w lo hi v ps) (hp : ps.map (·.1) = rs) : T.Recs w v rs := hp ▸ h.recs
theorem OwnRecs.recs' {w : World} {lo hi : Nat} {v : Value} {ps : List (R × Value)} {rs : List R} (h : OwnRecs w lo hi v ps) (hp : ps.map (·.1) = rs) : Recs w v rs := hp ▸ h.recs
theorem T.stg_recs {w : World} {lo hi : Nat} {v : Value} {ps : List (T.R × Value)} {rs : List T.R} {k : Int} (hp : ps.map (·.1) = rs) (h : T.OwnRecs w lo hi v (T.stg ps k ps.length)) : T.Recs w v (T.markAll rs k) := by
  have := h.recs
  rw [T.stg_all, hp] at this
  exact this
/-- The marks of a list of trips of the call's own. -/
theorem T.mark' (v : Value) (ps : List (T.R × Value)) (rs : List T.R) (lo hi : Nat) (w : World) (ho : T.OwnRecs w lo hi v ps) (hp : ps.map (·.1) = rs) (hl : T.tot rs ≤ 1048576) :
    Calls Tryd.prog 17 #[v, .int .i64 1] w fun e w' => e = .returned (.int .i64 (T.kAt rs 1 rs.length)) ∧ T.OwnRecs w' lo hi v (T.stg ps 1 ps.length) ∧ Mid lo hi w w' := by
  subst hp
  have := T.markTrips_any v ps 1 lo hi w ho hl (by omega) (by omega)
  rw [List.length_map]
  exact this
theorem mark' (v : Value) (ps : List (R × Value)) (rs : List R) (lo hi : Nat) (w : World) (ho : OwnRecs w lo hi v ps) (hp : ps.map (·.1) = rs) (hl : tot rs ≤ 1048576) :
    Calls Tryd.prog 63 #[v, .int .i64 1] w fun e w' => e = .returned (.int .i64 (kAt rs 1 rs.length)) ∧ Mid lo hi w w' := by
  subst hp
  rw [List.length_map]
  exact (markRecs_any v ps 1 lo hi w ho hl (by omega) (by omega)).mono fun e w' ⟨h1, _, h3⟩ => ⟨h1, h3⟩

end Go.Proofs.YtogfpnenoeonoaaDoor

namespace Go.Proofs.YtogfpnenoeonoaaDoor
open Go.RowKit

set_option maxHeartbeats 1000000 in
theorem lawDTrips_great (up : Bool) (v u : Value) (rs : List R) (f : Int) (ws : List Wd) (forced : Bool) (w : World) (hv : DkAt w v u rs ws) (hl : (rs.length : Int) ≤ 9223372036854775807) (hls : ∀ r ∈ rs, (r.2.2.length : Int) ≤ 9223372036854775807) (hlw : (ws.length : Int) ≤ 9223372036854775807) (hg : 1048576 < ((tot rs + ws.length : Nat) : Int)) :
    Calls Tryd.prog 4 #[deskV up v f u, .bool forced] w fun e w' => e = .returned (.bool true) ∧ Below w.heap.size w w' := by
  have HS : Hid (∀ o, Calls Tryd.prog 8 #[deskV up v f u, .int .i64 1048576] (w.alloc o) fun e w' => e = .returned (.int .i64 (-1)) ∧ Below (w.alloc o).heap.size (w.alloc o) w') := fun o => by
    have := szDesk_any up v u rs f ws 1048576 (w.alloc o) (hv.later (alloc_below w o) (Nat.le_refl _)) hl hls hlw (by omega) (by omega)
    rw [leftOf_neg (by omega)] at this
    exact this
  obtain ⟨av, cv, au, cu, rfl, rfl⟩ := hv.shape
  clear hv hl hls hg hlw
  go_enter Tryd.func4, Tryd.ntmps4
  go_wp2_with (go_at_call 8; refine (HS.out _).mono ?_; rintro e w1 ⟨rfl, hb⟩)
  go_ret
  exact ⟨rfl, below_after (by assumption)⟩

set_option maxHeartbeats 8000000 in
theorem lawDTrips_small (up : Bool) (v u : Value) (rs : List R) (f : Int) (ws : List Wd) (forced : Bool) (a : Addr) (w : World) (hv : DkAt w v u rs ws) (ha : ErrAt w a) (hlt : tot rs + ws.length ≤ 1048576) :
    Calls Tryd.prog 4 #[deskV up v f u, .bool forced] w fun e w' => e = .returned (.bool true) ∧ Below w.heap.size w w' := by
  have hrl := tot_len rs
  have hl : tot rs ≤ 1048576 := by omega
  have hlw : ws.length ≤ 1048576 := by omega
  have HS : Hid (∀ o, Calls Tryd.prog 8 #[deskV up v f u, .int .i64 1048576] (w.alloc o) fun e w' => e = .returned (.int .i64 (1048576 - ((tot rs + ws.length : Nat) : Int))) ∧ Below (w.alloc o).heap.size (w.alloc o) w') := fun o => by
    have := szDesk_any up v u rs f ws 1048576 (w.alloc o) (hv.later (alloc_below w o) (Nat.le_refl _)) (by omega) (fun r hr => by have := tot_mem rs r hr; omega) (by omega) (by omega) (by omega)
    rw [leftOf_pos (by omega)] at this
    exact this
  obtain ⟨TT, hTT⟩ : ∃ x, tot rs + ws.length = x := ⟨_, rfl⟩
  rw [hTT] at HS hlt
  clear hTT
  have HV : Hid (∀ W, Below w.heap.size w W → DkAt W v u rs ws) := fun W h => hv.later h (Nat.le_refl _)
  have HA : Hid (∀ W, Below w.heap.size w W → ErrAt W a) := fun W h => ha.later h (Nat.le_refl _)
  obtain ⟨av, cv, au, cu, hvs, hus⟩ := hv.shape
  have H0 : Hid (Blk (w.alloc (.cells #[.bool up, v, .int .i64 f, u] 27)) w.heap.size #[.bool up, v, .int .i64 f, u] 27) := Blk.new _ _ _
  clear hv ha
  subst hvs hus
  -- what comes out
  obtain ⟨OO, hO⟩ : ∃ o, Hid (dkTrips up rs f ws forced = o) := ⟨_, rfl⟩
  have FT : T.tot OO ≤ 1048576 := by have := dkTrips_tot up rs f ws forced; rw [hO.out] at this; exact this
  have HSP : Hid (∀ (x y : Value) (W : World), DkIn W x y rs ws → Calls Tryd.prog 13 #[deskV up x f y, .bool forced] W fun e w' => TrL W w' e OO) := fun x y W h => by
    have := specDTrips_any up x y rs f ws forced W h hl hlw; rw [hO.out] at this; exact this
  have HIM : Hid (∀ (x y : Value) (W : World), DkIn W x y rs ws → ErrAt W a → Calls Tryd.prog 14 #[deskV up x f y, .bool forced] W fun e w' => TrL W w' e OO) := fun x y W h h2 => by
    have := implDTrips_any up x y rs f ws forced a W h hl hlw h2; rw [hO.out] at this; exact this
  have HKX : Hid (0 ≤ kDk rs 1 ws.length ∧ kDk rs 1 ws.length ≤ 1000000000) := by
    have := kAt_bd rs 1 rs.length (Nat.le_refl _) hl (by omega) (by omega)
    constructor <;> (unfold kDk; omega)
  have hkg := T.kAt_bd OO 1 OO.length (Nat.le_refl _) FT (by omega) (by omega)
  obtain ⟨KG, hKG⟩ : ∃ x, T.kAt OO 1 OO.length = x := ⟨_, rfl⟩
  obtain ⟨KX, hKX⟩ : ∃ x, Hid (kDk rs 1 ws.length = x) := ⟨_, rfl⟩
  obtain ⟨hkx0, hkx1⟩ := HKX.out
  rw [hKX.out] at hkx0 hkx1
  have HMG : Hid (∀ (y : Value) (ps : List (T.R × Value)) (lo hi : Nat) (W : World), T.OwnRecs W lo hi y ps → ps.map (·.1) = OO → Calls Tryd.prog 17 #[y, .int .i64 1] W fun e w' => e = .returned (.int .i64 KG) ∧ T.Recs w' y (T.markAll OO 1) ∧ Mid lo hi W w') := fun y ps lo hi W h1 h2 => by
    have := T.mark' y ps OO lo hi W h1 h2 FT
    rw [hKG] at this
    exact this.mono fun e w' ⟨x, y, z⟩ => ⟨x, T.stg_recs h2 y, z⟩
  have HHG : Hid (∀ (y : Value) (W : World), T.Recs W y (T.markAll OO 1) → Calls Tryd.prog 18 #[y, .int .i64 1] W fun e w' => e = .returned (.int .i64 KG) ∧ w' = W) := fun y W h => by
    have := T.heldTrips_any y OO 1 W h FT (by omega) (by omega)
    rw [hKG] at this; exact this
  rw [hKG] at hkg
  clear hKG
  go_enter Tryd.func4, Tryd.ntmps4
  -- how great it is
  go_wp2_with fail
  refine (HS.out _).mono ?_
  rintro e w1 ⟨rfl, hb1⟩
  have B1 := hide_it (below_after hb1)
  have T1 := hide_it (H0.out.after hb1)
  have hz1 : w.heap.size ≤ w1.heap.size := B1.out.size
  clear hb1
  obtain ⟨c0, c1, c2, c3⟩ := T1.out.cells4
  -- w0
  go_wp2_with fail
  refine (toDesk_any up _ _ rs f ws w1 (HV.out _ B1.out) hl hlw).mono ?_
  rintro e w2 ⟨a2, cap2, b2, dap2, ps2, rfl, hp2, ho2, hb2⟩
  have B2 := hide_it (B1.out.trans (hb2.mono hz1))
  have T2 := hide_it (T1.out.after hb2)
  have V2 := hide_it (ho2.in_ hp2)
  have hz2 : w.heap.size ≤ w2.heap.size := B2.out.size
  clear hb2 ho2 hp2 c0 c1 c2 c3
  go_wp2_with fail
  refine (HSP.out _ _ w2 V2.out).mono ?_
  rintro e w3 ⟨a3, cap3, rfl, hm3, hb3⟩
  have B3 := hide_it (B2.out.trans (hb3.mono hz2))
  have T3 := hide_it (T2.out.after hb3)
  have V3 := hide_it hm3.recs
  have hz3 : w.heap.size ≤ w3.heap.size := B3.out.size
  clear hb3 hm3
  -- x0
  obtain ⟨c0, c1, c2, c3⟩ := T3.out.cells4
  go_wp2_with fail
  refine (toDesk_any up _ _ rs f ws w3 (HV.out _ B3.out) hl hlw).mono ?_
  rintro e w5 ⟨a5, cap5, b5, dap5, ps5, rfl, hp5, ho5, hb5⟩
  have HP5 := hide_it hp5
  have O5 := hide_it ho5
  have E5 := hide_it hb5
  clear hp5 ho5 hb5 c0 c1 c2 c3
  -- g0
  obtain ⟨w6, hw6⟩ : ∃ W, Hid (W = w5.alloc (.cells #[.bool up, (.slice a5 rs.length cap5), .int .i64 f, (.slice b5 ws.length dap5)] 35)) := ⟨_, rfl⟩
  go_wp2_with fail
  rw [← hw6.out]
  have al6 := hide_it (show Below w5.heap.size w5 w6 by rw [hw6.out]; exact alloc_below _ _)
  have HS6 := hide_it (show w6.heap.size = w5.heap.size + 1 by rw [hw6.out]; simp)
  have E6 := hide_it (E5.out.trans (al6.out.mono E5.out.size))
  have O6 := hide_it (O5.out.below al6.out (Nat.le_refl _))
  have X6 : Hid (Blk w6 w5.heap.size #[.bool up, (.slice a5 rs.length cap5), .int .i64 f, (.slice b5 ws.length dap5)] 35) := by show Blk _ _ _ _; rw [hw6.out]; exact Blk.new _ _ _
  have B6 := hide_it (B3.out.trans (E6.out.mono hz3))
  refine (HIM.out _ _ w6 (O6.out.in_ HP5.out) (HA.out _ B6.out)).mono ?_
  rintro e w7 ⟨a7, cap7, rfl, hm7, hb7⟩
  obtain ⟨ps7, hp7, -, ho7⟩ := hm7.own
  have HP7 := hide_it hp7
  have O7 := hide_it ho7
  have X7 := hide_it (X6.out.after hb7)
  have O7x := hide_it (O6.out.below hb7 (by have := HS6.out; omega))
  have E7 := hide_it (E6.out.trans (hb7.mono E6.out.size))
  have HS7 := hide_it hb7.size
  have R7 := hide_it hm7.recs
  have V7 := hide_it (V3.out.later E7.out (Nat.le_refl _))
  clear hp7 ho7 hb7 hm7
  go_wp2_with fail
  refine (T.eqTrips_any _ _ OO w7 R7.out V7.out FT).mono ?_
  rintro e w9 ⟨rfl, hb9⟩
  have E9 := hide_it (E7.out.trans (hb9.mono E7.out.size))
  have O9 := hide_it (O7.out.below hb9 (Nat.le_refl _))
  have O9x := hide_it (O7x.out.below hb9 (by have := HS6.out; have := HS7.out; omega))
  have X9 := hide_it (X7.out.after hb9)
  have T9 := hide_it (T3.out.after E9.out)
  have HS9 := hide_it hb9.size
  have B9 := hide_it (B3.out.trans (E9.out.mono hz3))
  have R9x := hide_it (O9x.out.at' HP5.out)
  clear hb9
  obtain ⟨c0, c1, c2, c3⟩ := T9.out.cells4
  obtain ⟨x0, x1, x2, x3⟩ := X9.out.cells4
  go_wp2_with fail
  go_region_held (fun w' => (w'.cell? ⟨w5.heap.size, 0, none⟩ = some (.bool up) ∧ w'.cell? ⟨w5.heap.size, 1, none⟩ = some (.slice a5 rs.length cap5) ∧ w'.cell? ⟨w5.heap.size, 2, none⟩ = some (.int .i64 f) ∧ w'.cell? ⟨w5.heap.size, 3, none⟩ = some (.slice b5 ws.length dap5)) ∧ (w'.cell? ⟨w.heap.size, 0, none⟩ = some (.bool up) ∧ w'.cell? ⟨w.heap.size, 1, none⟩ = some (.slice av rs.length cv) ∧ w'.cell? ⟨w.heap.size, 2, none⟩ = some (.int .i64 f) ∧ w'.cell? ⟨w.heap.size, 3, none⟩ = some (.slice au ws.length cu))) (go_keep)
    (first
    | (go_at_call 10; refine (toDesk_any up _ _ rs f ws _ ?_ hl hlw).mono ?_; exact (HV.out _ B9.out.drew); rintro e w10 ⟨a10, cap10, b10, dap10, ps10, rfl, hp10, ho10, hb10⟩; have hb10' := (Below.refl w9.heap.size w9).drew.trans hb10; have L10 := hide_it hb10'; have y10 := R9x.out.later hb10' (Nat.le_refl _); have v10 := ho10.at' hp10; obtain ⟨x100, x101, x102, x103⟩ := (X9.out.after hb10').cells4; obtain ⟨c100, c101, c102, c103⟩ := (T9.out.after hb10').cells4; clear hb10 hb10' hp10 ho10)
    | (go_at_call 12; refine (eqDesk_any up _ _ _ _ rs f ws _ ?_ ?_ hl hlw).mono ?_; assumption; assumption; rintro e w11 ⟨rfl, hb11⟩; have L11 := hide_it (L10.out.trans (hb11.mono L10.out.size)); obtain ⟨x110, x111, x112, x113⟩ := (X9.out.after L11.out).cells4; obtain ⟨c110, c111, c112, c113⟩ := (T9.out.after L11.out).cells4; clear hb11))
  clear c0 c1 c2 c3 x0 x1 x2 x3
  have h56 : w5.heap.size + 1 = w6.heap.size := HS6.out.symm
  have h67 : w6.heap.size ≤ w7.heap.size := HS7.out
  have h79 : w7.heap.size ≤ w9.heap.size := HS9.out
  have h45 : w3.heap.size ≤ w5.heap.size := E5.out.size
  have SZ := hide_it (show w5.heap.size < w6.heap.size ∧ w6.heap.size ≤ w7.heap.size ∧ w7.heap.size ≤ w9.heap.size ∧ w3.heap.size ≤ w5.heap.size by omega)
  clear h56 h67 h79 h45
  have E11 := hide_it (E9.out.trans (L11.out.mono E9.out.size))
  have O11x := hide_it (O9x.out.below L11.out (by have := SZ.out; omega))
  have O11 := hide_it (O9.out.below L11.out (by have := SZ.out; omega))
  have hmk : Calls Tryd.prog 16 #[deskV up (.slice a5 rs.length cap5) f (.slice b5 ws.length dap5), .int .i64 1] w11 fun e w' => e = .returned (.int .i64 KX) ∧ Mid w3.heap.size w5.heap.size w11 w' := by
    have h := markDesk_any up (.slice a5 rs.length cap5) (.slice b5 ws.length dap5) ps5 f ws 1 w3.heap.size w5.heap.size w11 O11x.out (by rw [HP5.out]; exact hl) hlw (by omega) (by omega)
    rw [HP5.out, hKX.out] at h
    exact h.mono fun e w' h => ⟨h.1, h.2.2⟩
  have HMK := hide_it hmk
  clear hmk
  go_wp2_with fail
  refine HMK.out.mono ?_
  rintro e w12 ⟨rfl, hM12⟩
  have E12 := hide_it (E11.out.trans (hM12.below (Nat.le_refl _) E11.out.size))
  have O12 := hide_it (O11.out.mid hM12 (by have := SZ.out; omega))
  have V12 := hide_it (V3.out.later E12.out (Nat.le_refl _))
  have HS12 := hide_it (show w9.heap.size ≤ w12.heap.size from Nat.le_trans L11.out.size hM12.size)
  have R12 := hide_it (O12.out.recs' HP7.out)
  clear hM12
  go_wp2_with fail
  refine (T.eqTrips_any _ _ OO w12 R12.out V12.out FT).mono ?_
  rintro e w13 ⟨rfl, hb13⟩
  have E13 := hide_it (E12.out.trans (hb13.mono E12.out.size))
  have O13 := hide_it (O12.out.below hb13 (by have := SZ.out; have := HS12.out; omega))
  clear hb13
  go_wp2_with fail
  refine (HMG.out _ ps7 w6.heap.size w7.heap.size w13 O13.out HP7.out).mono ?_
  rintro e w14 ⟨rfl, hR14, hM14⟩
  have E14 := hide_it (E13.out.trans (hM14.below (show w3.heap.size ≤ w6.heap.size by have := SZ.out; omega) E13.out.size))
  have R14 := hide_it hR14
  clear hM14 hR14
  go_wp2_with fail
  refine (HHG.out _ w14 R14.out).mono ?_
  rintro e w15 ⟨rfl, rfl⟩
  have T15 := hide_it (T3.out.after E14.out)
  have B15 := hide_it (B3.out.trans (E14.out.mono hz3))
  obtain ⟨c0, c1, c2, c3⟩ := T15.out.cells4
  go_wp2_with fail
  -- once more
  refine (toDesk_any up _ _ rs f ws _ (HV.out _ B15.out) hl hlw).mono ?_
  rintro e w16 ⟨a16, cap16, b16, dap16, ps16, rfl, hp16, ho16, hb16⟩
  have V16 := hide_it (ho16.in_ hp16)
  have N16 := hide_it hb16
  have E16 := hide_it (E14.out.trans (hb16.mono E14.out.size))
  have B16 := hide_it (B15.out.trans (hb16.mono B15.out.size))
  clear ho16 hp16 hb16 c0 c1 c2 c3
  go_wp2_with fail
  refine (HIM.out _ _ w16 V16.out (HA.out _ B16.out)).mono ?_
  rintro e w17 ⟨a17, cap17, rfl, hm17, hb17⟩
  have V17 := hide_it hm17.recs
  have E17 := hide_it (E16.out.trans (hb17.mono E16.out.size))
  have N17 := hide_it (N16.out.trans (hb17.mono N16.out.size))
  have Y17 := hide_it (V3.out.later E17.out (Nat.le_refl _))
  clear hm17 hb17
  go_wp2_with fail
  refine (T.eqTrips_any _ _ OO w17 V17.out Y17.out FT).mono ?_
  rintro e w19 ⟨rfl, hb19⟩
  have N19 := hide_it (N17.out.trans (hb19.mono N17.out.size))
  have B19 := hide_it (B3.out.trans ((E17.out.trans (hb19.mono E17.out.size)).mono hz3))
  have R19 := hide_it (R14.out.later N19.out (Nat.le_refl _))
  clear hb19
  go_wp2_with fail
  refine (HHG.out _ w19 R19.out).mono ?_
  rintro e w20 ⟨rfl, rfl⟩
  go_wp2
  go_ret
  exact ⟨rfl, B19.out⟩

theorem lawDTrips_any (up : Bool) (v u : Value) (rs : List R) (f : Int) (ws : List Wd) (forced : Bool) (a : Addr) (w : World) (hv : DkAt w v u rs ws) (ha : ErrAt w a) (hm : (rs.length : Int) ≤ 9223372036854775807) (hms : ∀ r ∈ rs, (r.2.2.length : Int) ≤ 9223372036854775807) (hmw : (ws.length : Int) ≤ 9223372036854775807) :
    Calls Tryd.prog 4 #[deskV up v f u, .bool forced] w fun e w' => e = .returned (.bool true) ∧ Below w.heap.size w w' := by
  by_cases hl : tot rs + ws.length ≤ 1048576
  · exact lawDTrips_small up v u rs f ws forced a w hv ha hl
  · exact lawDTrips_great up v u rs f ws forced w hv hm hms hmw (by omega)

end Go.Proofs.YtogfpnenoeonoaaDoor

namespace Go.Proofs.YtogfpnenoeonoaaDoor
open Go.ChangeShapes Go.WideShapes Go.ChangeAt Go.WideMaps Go.WideElems Go.RowKit Go.Joins

set_option maxRecDepth 100000 in
theorem deskTrips_lifted (os : Os) (started : os.Started) (H : Type) (enc : TypeId × Value → H) :
    ReturnsInHanded {} Tryd.checked os 4 .any (fun w args => (Rows.fnExactDeskTripsSpec.pre enc Tryd.prog Tryd.f4 [] false w args ∧ laidMetH Tryd.prog laidErr w) ∧ sizedMet enc Tryd.prog Tryd.f4 (OpenSpec.ofChange Rows.fnExactDeskTripsSpec) false w args)
      (Rows.fnExactDeskTripsSpec.post enc Tryd.prog Tryd.f4 false true false false) := by
  refine returnsInHanded_of_change_and (C := Tryd.checked) (X := fun w _ => laidMetH Tryd.prog laidErr w) (fun _ _ _ hh h => h.of_heap hh) own started (by kernel_rfl) Tryd.func4
    (ChangeSpec.witness_shaped (enc := enc) (C := Tryd.checked) (os := os) (X := fun w _ => laidMetH Tryd.prog laidErr w) false (World.doorLaid Tryd.prog 28 os) #[deskV false (.slice none 0 0) 0 (.slice none 0 0), .bool false] 8 rfl (World.shaped_of_RefB (by kernel_rfl) (by kernel_rfl)) (by kernel_rfl) (by kernel_rfl) (by kernel_rfl) (door_met os _)) ?_
  intro W base args ds gs before hval0 hW _ _ hL _
  have hval : ∀ (j : Nat) t v, Tryd.f4.params[j]? = some t → args[j]? = some v → Value.okWide Tryd.prog W .any base t v := hval0
  have hW' := hW
  obtain ⟨p, q, hA0, hV0, rfl, hfz, hnd⟩ := hW
  have hA : DataW.TrodAll enc Tryd.prog W 0 (fun _ => true) true Tryd.f4.params.toList args.toList ds p := hA0
  have hV : DataW.TrodVars enc Tryd.prog W (fun _ => true) ["loop.example/concierge/impl.errNoRec"] gs q := hV0
  rw [Tryd.params4] at hA hval
  obtain ⟨v0, v1, d0, d1, p0, p1, rfl, rfl, rfl, h0, h1⟩ := trodAll_two hA
  obtain ⟨a, hErr, hvar⟩ := of_laid hL
  have vr : ∀ {X : World}, X.var? Tryd.prog "loop.example/concierge/impl.errNoRec" = some #[.iface 152 (.pointer (some a))] → ∀ sp : Nat → Bool,
      DataW.TrodVars enc Tryd.prog X sp ["loop.example/concierge/impl.errNoRec"] [tok enc (.iface 152 (.pointer (some a)))] [.cell 0 0] :=
    fun x0 sp => vars_read1 enc gErr gErrType Tryd.underlying109 x0 trivial sp
  obtain ⟨rfl, rfl⟩ := hV.unique (vr hvar _)
  clear hA0 hV0 hval0
  obtain ⟨forced, rfl, rfl, rfl⟩ := open_bool Tryd.underlying4 (hval 1 4 v1 rfl rfl) h1
  obtain ⟨up, x, f, y, rs, ws, rfl, hR, hlen, hlens, hlenw⟩ := open_desk (hval 0 27 v0 rfl rfl) h0
  refine (lawDTrips_any up x y rs f ws forced a W hR hErr hlen hlens hlenw).mono fun e W' ⟨he, hb⟩ => ?_
  subst he
  have hlt : ∀ x ∈ p0, x.block < W.heap.size := fun x hx => hW'.lt x (by simp [hx])
  refine ⟨_, rfl, _, _, _, [], p0 ++ [], [.cell 0 0], hW', ?_, ?_, ?_, hb.frame _, fun h => by cases h⟩
  · exact trodAll_mk1 (shut_bool Tryd.underlying4 true)
  · exact trodAll_mk2 (Below.trod laidOut (by kernel_rfl) (of_decide_eq_true (by kernel_rfl)) h0 hb hlt) (shut_bool Tryd.underlying4 forced)
  · exact vr (var?_below hb gErr (World.block_lt_of_cell? _ _ hErr) hvar) _

theorem deskTrips_said : Rows.FnExactDeskTripsSaid :=
  OpenClaim.holds_of_wide 4 Tryd.f4 rfl rfl rfl rfl rfl rfl rfl ⟨rfl, rfl, rfl, rfl, rfl⟩ rfl rfl rfl rfl rfl (by kernel_rfl) Tryd.func4 (by kernel_rfl)
    (of_decide_eq_true (by kernel_rfl)) (by unfold Func.isWrapper; first | (rw [if_pos (by decide +kernel)]; kernel_rfl) | (rw [if_neg (by decide +kernel)]; exact ⟨rfl, rfl⟩))
    (fun os started H enc _ => deskTrips_lifted os started H enc)

theorem deskTrips_plain (f : FuncId) (fn : Func) (hf : Tryd.pinned.checked.prog.funcNamed "loop.example/concierge/laws.FnExactDeskTrips" = some f) (hfn : Tryd.pinned.checked.prog.funcs[f]? = some fn) :
    true = Tryd.pinned.checked.prog.looks [] ∧ ∀ (j : Nat) t, fn.params[j]? = some t → Tryd.pinned.checked.prog.wantsStandIn t = false := by
  obtain rfl : f = 4 := Option.some.inj ((show Tryd.prog.funcNamed "loop.example/concierge/laws.FnExactDeskTrips" = some 4 by kernel_rfl).symm.trans hf) |>.symm
  obtain rfl : fn = Tryd.f4 := (Option.some.inj (Tryd.func4.symm.trans hfn)).symm
  refine ⟨by kernel_rfl, fun j t ht => ?_⟩
  rw [Tryd.params4] at ht
  have hm := Array.mem_of_getElem? ht
  simp at hm
  rcases hm with rfl | rfl
  · exact (show Tryd.prog.wantsStandIn 27 = false by kernel_rfl)
  · exact (show Tryd.prog.wantsStandIn 4 = false by kernel_rfl)

theorem deskTrips_card : Rows.FnExactDeskTripsCardSaid :=
  Claim7.holds_tied_plain_at .later [] _ _ _ _ deskTrips_said (fun _ h => by cases h) (by kernel_rfl) (fun _ h => by cases h) fnExactDeskTrips_row_tie rfl ⟨rfl, rfl⟩ (by kernel_rfl) rfl deskTrips_plain (by kernel_rfl)
#print axioms deskTrips_card

end Go.Proofs.YtogfpnenoeonoaaDoor
