/- FnExactDeskRise answers true at every desk, and it reads afterwards as it read before: at every argument DeskRise answers as its model. The card: the sentinel's variable starts as the program's text lays it. -/
import Derived.Test.YtogfpnenoeonoaaDoorBase5
import Derived.Deep.RegionHeld

namespace Go.Proofs.YtogfpnenoeonoaaDoor
open Go.RowKit

set_option maxHeartbeats 1000000 in
theorem lawDRise_great (up : Bool) (v u : Value) (rs : List R) (f : Int) (ws : List Wd) (w : World) (hv : DkAt w v u rs ws) (hl : (rs.length : Int) ≤ 9223372036854775807) (hls : ∀ r ∈ rs, (r.2.2.length : Int) ≤ 9223372036854775807) (hlw : (ws.length : Int) ≤ 9223372036854775807) (hg : 1048576 < ((tot rs + ws.length : Nat) : Int)) :
    Calls Tryd.prog 7 #[deskV up v f u] w fun e w' => e = .returned (.bool true) ∧ Below w.heap.size w w' := by
  have HS : Hid (∀ o, Calls Tryd.prog 8 #[deskV up v f u, .int .i64 1048576] (w.alloc o) fun e w' => e = .returned (.int .i64 (-1)) ∧ Below (w.alloc o).heap.size (w.alloc o) w') := fun o => by
    have := szDesk_any up v u rs f ws 1048576 (w.alloc o) (hv.later (alloc_below w o) (Nat.le_refl _)) hl hls hlw (by omega) (by omega)
    rw [leftOf_neg (by omega)] at this
    exact this
  obtain ⟨av, cv, au, cu, rfl, rfl⟩ := hv.shape
  clear hv hl hls hg hlw
  go_enter Tryd.func7, Tryd.ntmps7
  go_wp2_with (go_at_call 8; refine (HS.out _).mono ?_; rintro e w1 ⟨rfl, hb⟩)
  go_ret
  exact ⟨rfl, below_after (by assumption)⟩

set_option maxHeartbeats 8000000 in
theorem lawDRise_small (up : Bool) (v u : Value) (rs : List R) (f : Int) (ws : List Wd) (a : Addr) (w : World) (hv : DkAt w v u rs ws) (ha : ErrAt w a) (hlt : tot rs + ws.length ≤ 1048576) :
    Calls Tryd.prog 7 #[deskV up v f u] w fun e w' => e = .returned (.bool true) ∧ Below w.heap.size w w' := by
  have hrl := tot_len rs
  have hl : tot rs ≤ 1048576 := by omega
  have hlw : ws.length ≤ 1048576 := by omega
  have HS : Hid (∀ o, Calls Tryd.prog 8 #[deskV up v f u, .int .i64 1048576] (w.alloc o) fun e w' => e = .returned (.int .i64 (1048576 - ((tot rs + ws.length : Nat) : Int))) ∧ Below (w.alloc o).heap.size (w.alloc o) w') := fun o => by
    have := szDesk_any up v u rs f ws 1048576 (w.alloc o) (hv.later (alloc_below w o) (Nat.le_refl _)) (by omega) (fun r hr => by have := tot_mem rs r hr; omega) (by omega) (by omega) (by omega)
    rw [leftOf_pos (by omega)] at this
    exact this
  obtain ⟨TT, hTT⟩ : ∃ x, tot rs + ws.length = x := ⟨_, rfl⟩
  rw [hTT] at HS hlt
  clear hTT
  have HV : Hid (∀ W, Below w.heap.size w W → DkAt W v u rs ws) := fun W h => hv.later h (Nat.le_refl _)
  have HA : Hid (∀ W, Below w.heap.size w W → ErrAt W a) := fun W h => ha.later h (Nat.le_refl _)
  obtain ⟨av, cv, au, cu, hvs, hus⟩ := hv.shape
  have H0 : Hid (Blk (w.alloc (.cells #[.bool up, v, .int .i64 f, u] 27)) w.heap.size #[.bool up, v, .int .i64 f, u] 27) := Blk.new _ _ _
  clear hv ha
  subst hvs hus
  -- what comes out
  obtain ⟨⟨UP, RS, F, WS⟩, hO⟩ : ∃ o : Dk, Hid (dkRise up rs f ws = o) := ⟨_, rfl⟩
  have hRl : tot RS ≤ 1048576 ∧ WS.length ≤ 1048576 := by have := dkRise_tot up rs f ws hl hlw; rw [hO.out] at this; exact this
  obtain ⟨hRl, hWl⟩ := hRl
  have HSP : Hid (∀ (x y : Value) (W : World), DkIn W x y rs ws → Calls Tryd.prog 24 #[deskV up x f y] W fun e w' => DkOut W w' e UP RS F WS) := fun x y W h => by
    have := specDRise_any up x y rs f ws W h hl hlw; rw [hO.out] at this; exact this
  have HIM : Hid (∀ (x y : Value) (W : World), DkIn W x y rs ws → ErrAt W a → Calls Tryd.prog 25 #[deskV up x f y] W fun e w' => DkOut W w' e UP RS F WS) := fun x y W h h2 => by
    have := implDRise_any up x y rs f ws a W h hl hlw h2; rw [hO.out] at this; exact this
  have HKO : Hid (0 ≤ kDk RS 1 WS.length ∧ kDk RS 1 WS.length ≤ 1000000000) := by
    have := kAt_bd RS 1 RS.length (Nat.le_refl _) hRl (by omega) (by omega)
    constructor <;> (unfold kDk; omega)
  have HKX : Hid (0 ≤ kDk rs 1 ws.length ∧ kDk rs 1 ws.length ≤ 1000000000) := by
    have := kAt_bd rs 1 rs.length (Nat.le_refl _) hl (by omega) (by omega)
    constructor <;> (unfold kDk; omega)
  obtain ⟨KO, hKO⟩ : ∃ x, Hid (kDk RS 1 WS.length = x) := ⟨_, rfl⟩
  obtain ⟨KX, hKX⟩ : ∃ x, Hid (kDk rs 1 ws.length = x) := ⟨_, rfl⟩
  obtain ⟨hko0, hko1⟩ := HKO.out
  obtain ⟨hkx0, hkx1⟩ := HKX.out
  rw [hKO.out] at hko0 hko1
  rw [hKX.out] at hkx0 hkx1
  go_enter Tryd.func7, Tryd.ntmps7
  -- how great it is
  go_wp2_with fail
  refine (HS.out _).mono ?_
  rintro e w1 ⟨rfl, hb1⟩
  have B1 := hide_it (below_after hb1)
  have T1 := hide_it (H0.out.after hb1)
  have hz1 : w.heap.size ≤ w1.heap.size := B1.out.size
  clear hb1
  obtain ⟨c0, c1, c2, c3⟩ := T1.out.cells4
  -- w0
  go_wp2_with fail
  refine (toDesk_any up _ _ rs f ws w1 (HV.out _ B1.out) hl hlw).mono ?_
  rintro e w2 ⟨a2, cap2, b2, dap2, ps2, rfl, hp2, ho2, hb2⟩
  have B2 := hide_it (B1.out.trans (hb2.mono hz1))
  have T2 := hide_it (T1.out.after hb2)
  have V2 := hide_it (ho2.in_ hp2)
  have hz2 : w.heap.size ≤ w2.heap.size := B2.out.size
  clear hb2 ho2 hp2 c0 c1 c2 c3
  go_wp2_with fail
  refine (HSP.out _ _ w2 V2.out).mono ?_
  rintro e w3 ⟨a3, cap3, b3, dap3, ps3, rfl, hp3, ho3, hb3⟩
  have B3 := hide_it (B2.out.trans (hb3.mono hz2))
  have T3 := hide_it (T2.out.after hb3)
  have V3 := hide_it (ho3.at' hp3)
  have hz3 : w.heap.size ≤ w3.heap.size := B3.out.size
  clear hb3 ho3 hp3
  -- x0
  obtain ⟨c0, c1, c2, c3⟩ := T3.out.cells4
  have k0 := fun x => cellAlloc c0 x
  have k1 := fun x => cellAlloc c1 x
  have k2 := fun x => cellAlloc c2 x
  have k3 := fun x => cellAlloc c3 x
  have hws3 : w.heap.size < w3.heap.size := T3.out.lt
  obtain ⟨w4, hw4⟩ : ∃ W, Hid (W = w3.alloc (.cells #[.bool UP, (.slice a3 RS.length cap3), .int .i64 F, (.slice b3 WS.length dap3)] 35)) := ⟨_, rfl⟩
  go_wp2_with fail
  rw [← hw4.out]
  have al4 := hide_it (show Below w3.heap.size w3 w4 by rw [hw4.out]; exact alloc_below _ _)
  have B4 := hide_it (B3.out.trans (al4.out.mono hz3))
  have T4 := hide_it (T3.out.after al4.out)
  have V4 := hide_it (V3.out.later al4.out (Nat.le_refl _))
  have Z4 : Hid (Blk w4 w3.heap.size #[.bool UP, (.slice a3 RS.length cap3), .int .i64 F, (.slice b3 WS.length dap3)] 35) := by show Blk _ _ _ _; rw [hw4.out]; exact Blk.new _ _ _
  clear k0 k1 k2 k3 c0 c1 c2 c3
  refine (toDesk_any up _ _ rs f ws w4 (HV.out _ B4.out) hl hlw).mono ?_
  rintro e w5 ⟨a5, cap5, b5, dap5, ps5, rfl, hp5, ho5, hb5⟩
  have HP5 := hide_it hp5
  have O5 := hide_it ho5
  have E5 := hide_it hb5
  clear hp5 ho5 hb5
  -- g0
  obtain ⟨w6, hw6⟩ : ∃ W, Hid (W = w5.alloc (.cells #[.bool up, (.slice a5 rs.length cap5), .int .i64 f, (.slice b5 ws.length dap5)] 35)) := ⟨_, rfl⟩
  go_wp2_with fail
  rw [← hw6.out]
  have al6 := hide_it (show Below w5.heap.size w5 w6 by rw [hw6.out]; exact alloc_below _ _)
  have HS6 := hide_it (show w6.heap.size = w5.heap.size + 1 by rw [hw6.out]; simp)
  have E6 := hide_it (E5.out.trans (al6.out.mono E5.out.size))
  have O6 := hide_it (O5.out.below al6.out (Nat.le_refl _))
  have X6 : Hid (Blk w6 w5.heap.size #[.bool up, (.slice a5 rs.length cap5), .int .i64 f, (.slice b5 ws.length dap5)] 35) := by show Blk _ _ _ _; rw [hw6.out]; exact Blk.new _ _ _
  have hz4 : w.heap.size ≤ w4.heap.size := B4.out.size
  have B6 := hide_it (B4.out.trans (E6.out.mono hz4))
  refine (HIM.out _ _ w6 (O6.out.in_ HP5.out) (HA.out _ B6.out)).mono ?_
  rintro e w7 ⟨a7, cap7, b7, dap7, ps7, rfl, hp7, ho7, hb7⟩
  have HP7 := hide_it hp7
  have O7 := hide_it ho7
  have X7 := hide_it (X6.out.after hb7)
  have O7x := hide_it (O6.out.below hb7 (by have := HS6.out; omega))
  have E7 := hide_it (E6.out.trans (hb7.mono E6.out.size))
  have HS7 := hide_it hb7.size
  clear hp7 ho7 hb7
  obtain ⟨w8, hw8⟩ : ∃ W, Hid (W = w7.alloc (.cells #[.bool UP, (.slice a7 RS.length cap7), .int .i64 F, (.slice b7 WS.length dap7)] 35)) := ⟨_, rfl⟩
  have Z7 := hide_it (Z4.out.after E7.out)
  obtain ⟨z0, z1, z2, z3⟩ := Z7.out.cells4
  have k0 := fun x => cellAlloc z0 x
  have k1 := fun x => cellAlloc z1 x
  have k2 := fun x => cellAlloc z2 x
  have k3 := fun x => cellAlloc z3 x
  have hlt37 : w3.heap.size < w7.heap.size := Z7.out.lt
  go_wp2_with fail
  rw [← hw8.out]
  have al8 := hide_it (show Below w7.heap.size w7 w8 by rw [hw8.out]; exact alloc_below _ _)
  have HS8 := hide_it (show w8.heap.size = w7.heap.size + 1 by rw [hw8.out]; simp)
  have E8 := hide_it (E7.out.trans (al8.out.mono E7.out.size))
  have O8 := hide_it (O7.out.below al8.out (Nat.le_refl _))
  have O8x := hide_it (O7x.out.below al8.out (by have := HS6.out; have := HS7.out; omega))
  have X8 := hide_it (X7.out.after al8.out)
  have G8 : Hid (Blk w8 w7.heap.size #[.bool UP, (.slice a7 RS.length cap7), .int .i64 F, (.slice b7 WS.length dap7)] 35) := by show Blk _ _ _ _; rw [hw8.out]; exact Blk.new _ _ _
  have R8 := hide_it (O8.out.at' HP7.out)
  have V8 := hide_it (V4.out.later E8.out (Nat.le_refl _))
  clear k0 k1 k2 k3 z0 z1 z2 z3
  refine (eqDesk_any UP _ _ _ _ RS F WS w8 R8.out V8.out hRl hWl).mono ?_
  rintro e w9 ⟨rfl, hb9⟩
  have E9 := hide_it (E8.out.trans (hb9.mono E8.out.size))
  have O9 := hide_it (O8.out.below hb9 (by have := HS8.out; omega))
  have O9x := hide_it (O8x.out.below hb9 (by have := HS6.out; have := HS7.out; have := HS8.out; omega))
  have X9 := hide_it (X8.out.after hb9)
  have G9 := hide_it (G8.out.after hb9)
  have T9 := hide_it (T4.out.after E9.out)
  have HS9 := hide_it hb9.size
  have hz9 : w.heap.size ≤ w9.heap.size := Nat.le_trans hz4 E9.out.size
  have B9 := hide_it (B4.out.trans (E9.out.mono hz4))
  have R9x := hide_it (O9x.out.at' HP5.out)
  clear hb9
  obtain ⟨c0, c1, c2, c3⟩ := T9.out.cells4
  obtain ⟨x0, x1, x2, x3⟩ := X9.out.cells4
  go_wp2_with fail
  go_region_held (fun w' => (w'.cell? ⟨w5.heap.size, 0, none⟩ = some (.bool up) ∧ w'.cell? ⟨w5.heap.size, 1, none⟩ = some (.slice a5 rs.length cap5) ∧ w'.cell? ⟨w5.heap.size, 2, none⟩ = some (.int .i64 f) ∧ w'.cell? ⟨w5.heap.size, 3, none⟩ = some (.slice b5 ws.length dap5)) ∧ (w'.cell? ⟨w.heap.size, 0, none⟩ = some (.bool up) ∧ w'.cell? ⟨w.heap.size, 1, none⟩ = some (.slice av rs.length cv) ∧ w'.cell? ⟨w.heap.size, 2, none⟩ = some (.int .i64 f) ∧ w'.cell? ⟨w.heap.size, 3, none⟩ = some (.slice au ws.length cu))) (go_keep)
    (first
    | (go_at_call 10; refine (toDesk_any up _ _ rs f ws _ ?_ hl hlw).mono ?_; exact (HV.out _ B9.out.drew); rintro e w10 ⟨a10, cap10, b10, dap10, ps10, rfl, hp10, ho10, hb10⟩; have hb10' := (Below.refl w9.heap.size w9).drew.trans hb10; have L10 := hide_it hb10'; have y10 := R9x.out.later hb10' (Nat.le_refl _); have v10 := ho10.at' hp10; obtain ⟨x100, x101, x102, x103⟩ := (X9.out.after hb10').cells4; obtain ⟨c100, c101, c102, c103⟩ := (T9.out.after hb10').cells4; clear hb10 hb10' hp10 ho10)
    | (go_at_call 12; refine (eqDesk_any up _ _ _ _ rs f ws _ ?_ ?_ hl hlw).mono ?_; assumption; assumption; rintro e w11 ⟨rfl, hb11⟩; have L11 := hide_it (L10.out.trans (hb11.mono L10.out.size)); obtain ⟨x110, x111, x112, x113⟩ := (X9.out.after L11.out).cells4; obtain ⟨c110, c111, c112, c113⟩ := (T9.out.after L11.out).cells4; clear hb11))
  clear c0 c1 c2 c3 x0 x1 x2 x3
  -- x0 is marked
  have hl5 : ps5.length = rs.length := by have := congrArg List.length HP5.out; simpa using this
  have hl7 : ps7.length = RS.length := by have := congrArg List.length HP7.out; simpa using this
  have HL5 := hide_it hl5
  have HL7 := hide_it hl7
  have h56 : w5.heap.size + 1 = w6.heap.size := HS6.out.symm
  have h67 : w6.heap.size ≤ w7.heap.size := HS7.out
  have h78 : w7.heap.size + 1 = w8.heap.size := HS8.out.symm
  have h89 : w8.heap.size ≤ w9.heap.size := HS9.out
  have h45 : w4.heap.size ≤ w5.heap.size := E5.out.size
  have SZ := hide_it (show w5.heap.size < w6.heap.size ∧ w6.heap.size ≤ w7.heap.size ∧ w7.heap.size < w8.heap.size ∧ w8.heap.size ≤ w9.heap.size ∧ w4.heap.size ≤ w5.heap.size by omega)
  clear hl5 hl7 h56 h67 h78 h89 h45
  have E11 := hide_it (E9.out.trans (L11.out.mono E9.out.size))
  have O11x := hide_it (O9x.out.below L11.out (by have := SZ.out; omega))
  have O11 := hide_it (O9.out.below L11.out (by have := SZ.out; omega))
  have G11 := hide_it (G9.out.after L11.out)
  have hmk : Calls Tryd.prog 16 #[deskV up (.slice a5 rs.length cap5) f (.slice b5 ws.length dap5), .int .i64 1] w11 fun e w' => e = .returned (.int .i64 KX) ∧ Mid w4.heap.size w5.heap.size w11 w' := by
    have h := markDesk_any up (.slice a5 rs.length cap5) (.slice b5 ws.length dap5) ps5 f ws 1 w4.heap.size w5.heap.size w11 O11x.out (by rw [HP5.out]; exact hl) hlw (by omega) (by omega)
    rw [HP5.out, hKX.out] at h
    exact h.mono fun e w' h => ⟨h.1, h.2.2⟩
  have HMK := hide_it hmk
  clear hmk
  go_wp2_with fail
  refine HMK.out.mono ?_
  rintro e w12 ⟨rfl, hM12⟩
  have E12 := hide_it (E11.out.trans (hM12.below (Nat.le_refl _) E11.out.size))
  have O12 := hide_it (O11.out.mid hM12 (by have := SZ.out; omega))
  have G12 := hide_it (G11.out.mid hM12 (Or.inr (by have := SZ.out; omega)))
  have Z12 := hide_it (Z4.out.after E12.out)
  have V12 := hide_it (V4.out.later E12.out (Nat.le_refl _))
  have HS12 := hide_it (show w9.heap.size ≤ w12.heap.size from Nat.le_trans L11.out.size hM12.size)
  have R12 := hide_it (O12.out.at' HP7.out)
  clear hM12
  obtain ⟨g0, g1, g2, g3⟩ := G12.out.cells4
  obtain ⟨z0, z1, z2, z3⟩ := Z12.out.cells4
  go_wp2_with fail
  refine (eqDesk_any UP _ _ _ _ RS F WS w12 R12.out V12.out hRl hWl).mono ?_
  rintro e w13 ⟨rfl, hb13⟩
  have E13 := hide_it (E12.out.trans (hb13.mono E12.out.size))
  have O13 := hide_it (O12.out.below hb13 (by have := SZ.out; have := HS12.out; omega))
  have G13 := hide_it (G12.out.after hb13)
  have HS13 := hide_it hb13.size
  clear hb13 g0 g1 g2 g3 z0 z1 z2 z3
  -- g0 is marked, and held
  have hmk : Calls Tryd.prog 16 #[deskV UP (.slice a7 RS.length cap7) F (.slice b7 WS.length dap7), .int .i64 1] w13 fun e w' => e = .returned (.int .i64 KO) ∧ DkAt w' (.slice a7 RS.length cap7) (.slice b7 WS.length dap7) (markAll RS 1) (markW WS.length (kAt RS 1 RS.length)) ∧ Mid w6.heap.size w7.heap.size w13 w' := by
    have h := markDesk_any UP (.slice a7 RS.length cap7) (.slice b7 WS.length dap7) ps7 F WS 1 w6.heap.size w7.heap.size w13 O13.out (by rw [HP7.out]; exact hRl) hWl (by omega) (by omega)
    rw [HP7.out, HL7.out, hKO.out] at h
    exact h
  have HMK2 := hide_it hmk
  clear hmk
  obtain ⟨g0, g1, g2, g3⟩ := G13.out.cells4
  go_wp2_with fail
  refine HMK2.out.mono ?_
  rintro e w14 ⟨rfl, hR14, hM14⟩
  have E14 := hide_it (E13.out.trans (hM14.below (show w4.heap.size ≤ w6.heap.size by have := SZ.out; omega) E13.out.size))
  have G14 := hide_it (G13.out.mid hM14 (Or.inr (Nat.le_refl _)))
  have R14 := hide_it hR14
  have HLD : Hid (∀ W, DkAt W (.slice a7 RS.length cap7) (.slice b7 WS.length dap7) (markAll RS 1) (markW WS.length (kAt RS 1 RS.length)) → Calls Tryd.prog 21 #[deskV UP (.slice a7 RS.length cap7) F (.slice b7 WS.length dap7), .int .i64 1] W fun e w' => e = .returned (.int .i64 KO) ∧ Below W.heap.size W w') := fun W h => by
    have := heldDesk_any UP (.slice a7 RS.length cap7) (.slice b7 WS.length dap7) RS F WS.length 1 W h hRl hWl (by omega) (by omega)
    rw [hKO.out] at this
    exact this
  clear hM14 hR14 g0 g1 g2 g3
  obtain ⟨g0, g1, g2, g3⟩ := G14.out.cells4
  go_wp2_with fail
  refine (HLD.out w14 R14.out).mono ?_
  rintro e w15 ⟨rfl, hb15⟩
  have E15 := hide_it (E14.out.trans (hb15.mono E14.out.size))
  have N15 := hide_it hb15
  have T15 := hide_it (T4.out.after E15.out)
  have B15 := hide_it (B4.out.trans (E15.out.mono hz4))
  clear hb15 g0 g1 g2 g3
  obtain ⟨c0, c1, c2, c3⟩ := T15.out.cells4
  go_wp2_with fail
  -- once more
  refine (toDesk_any up _ _ rs f ws w15 (HV.out _ B15.out) hl hlw).mono ?_
  rintro e w16 ⟨a16, cap16, b16, dap16, ps16, rfl, hp16, ho16, hb16⟩
  have V16 := hide_it (ho16.in_ hp16)
  have E16 := hide_it (E15.out.trans (hb16.mono E15.out.size))
  have N16 := hide_it (N15.out.trans (hb16.mono N15.out.size))
  have B16 := hide_it (B15.out.trans (hb16.mono B15.out.size))
  clear ho16 hp16 hb16 c0 c1 c2 c3
  go_wp2_with fail
  refine (HIM.out _ _ w16 V16.out (HA.out _ B16.out)).mono ?_
  rintro e w17 ⟨a17, cap17, b17, dap17, ps17, rfl, hp17, ho17, hb17⟩
  have V17 := hide_it (ho17.at' hp17)
  have E17 := hide_it (E16.out.trans (hb17.mono E16.out.size))
  have N17 := hide_it (N16.out.trans (hb17.mono N16.out.size))
  clear ho17 hp17 hb17
  obtain ⟨w18, hw18⟩ : ∃ W, Hid (W = w17.alloc (.cells #[.bool UP, (.slice a17 RS.length cap17), .int .i64 F, (.slice b17 WS.length dap17)] 35)) := ⟨_, rfl⟩
  obtain ⟨z0, z1, z2, z3⟩ := (Z4.out.after E17.out).cells4
  have k0 := fun x => cellAlloc z0 x
  have k1 := fun x => cellAlloc z1 x
  have k2 := fun x => cellAlloc z2 x
  have k3 := fun x => cellAlloc z3 x
  have hlt317 : w3.heap.size < w17.heap.size := World.block_lt_of_cell? _ _ z0
  go_wp2_with fail
  rw [← hw18.out]
  have al18 := hide_it (show Below w17.heap.size w17 w18 by rw [hw18.out]; exact alloc_below _ _)
  have E18 := hide_it (E17.out.trans (al18.out.mono E17.out.size))
  have N18 := hide_it (N17.out.trans (al18.out.mono N17.out.size))
  have V18 := hide_it (V17.out.later al18.out (Nat.le_refl _))
  have Y18 := hide_it (V4.out.later E18.out (Nat.le_refl _))
  clear k0 k1 k2 k3 z0 z1 z2 z3
  refine (eqDesk_any UP _ _ _ _ RS F WS w18 V18.out Y18.out hRl hWl).mono ?_
  rintro e w19 ⟨rfl, hb19⟩
  have E19 := hide_it (E18.out.trans (hb19.mono E18.out.size))
  have N19 := hide_it (N18.out.trans (hb19.mono N18.out.size))
  clear hb19
  obtain ⟨g0, g1, g2, g3⟩ := (G14.out.after N19.out).cells4
  have R19 := hide_it (R14.out.later N19.out (Nat.le_refl _))
  go_wp2_with fail
  refine (HLD.out w19 R19.out).mono ?_
  rintro e w20 ⟨rfl, hb20⟩
  have B20 := hide_it (B4.out.trans ((E19.out.trans (hb20.mono E19.out.size)).mono hz4))
  clear hb20 g0 g1 g2 g3
  go_wp2
  go_ret
  exact ⟨rfl, B20.out⟩

theorem lawDRise_any (up : Bool) (v u : Value) (rs : List R) (f : Int) (ws : List Wd) (a : Addr) (w : World) (hv : DkAt w v u rs ws) (ha : ErrAt w a) (hm : (rs.length : Int) ≤ 9223372036854775807) (hms : ∀ r ∈ rs, (r.2.2.length : Int) ≤ 9223372036854775807) (hmw : (ws.length : Int) ≤ 9223372036854775807) :
    Calls Tryd.prog 7 #[deskV up v f u] w fun e w' => e = .returned (.bool true) ∧ Below w.heap.size w w' := by
  by_cases hl : tot rs + ws.length ≤ 1048576
  · exact lawDRise_small up v u rs f ws a w hv ha hl
  · exact lawDRise_great up v u rs f ws w hv hm hms hmw (by omega)

end Go.Proofs.YtogfpnenoeonoaaDoor

namespace Go.Proofs.YtogfpnenoeonoaaDoor
open Go.ChangeShapes Go.WideShapes Go.ChangeAt Go.WideMaps Go.WideElems Go.RowKit Go.Joins

set_option maxRecDepth 100000 in
theorem deskRise_lifted (os : Os) (started : os.Started) (H : Type) (enc : TypeId × Value → H) :
    ReturnsInHanded {} Tryd.checked os 7 .any (fun w args => (Rows.fnExactDeskRiseSpec.pre enc Tryd.prog Tryd.f7 [] false w args ∧ laidMetH Tryd.prog laidErr w) ∧ sizedMet enc Tryd.prog Tryd.f7 (OpenSpec.ofChange Rows.fnExactDeskRiseSpec) false w args)
      (Rows.fnExactDeskRiseSpec.post enc Tryd.prog Tryd.f7 false true false false) := by
  refine returnsInHanded_of_change_and (C := Tryd.checked) (X := fun w _ => laidMetH Tryd.prog laidErr w) (fun _ _ _ hh h => h.of_heap hh) own started (by kernel_rfl) Tryd.func7
    (ChangeSpec.witness_shaped (enc := enc) (C := Tryd.checked) (os := os) (X := fun w _ => laidMetH Tryd.prog laidErr w) false (World.doorLaid Tryd.prog 28 os) #[deskV false (.slice none 0 0) 0 (.slice none 0 0)] 8 rfl (World.shaped_of_RefB (by kernel_rfl) (by kernel_rfl)) (by kernel_rfl) (by kernel_rfl) (by kernel_rfl) (door_met os _)) ?_
  intro W base args ds gs before hval0 hW _ _ hL _
  have hval : ∀ (j : Nat) t v, Tryd.f7.params[j]? = some t → args[j]? = some v → Value.okWide Tryd.prog W .any base t v := hval0
  have hW' := hW
  obtain ⟨p, q, hA0, hV0, rfl, hfz, hnd⟩ := hW
  have hA : DataW.TrodAll enc Tryd.prog W 0 (fun _ => true) true Tryd.f7.params.toList args.toList ds p := hA0
  have hV : DataW.TrodVars enc Tryd.prog W (fun _ => true) ["loop.example/concierge/impl.errNoRec"] gs q := hV0
  rw [Tryd.params7] at hA hval
  obtain ⟨v0, d0, rfl, rfl, h0⟩ := trodAll_one hA
  obtain ⟨a, hErr, hvar⟩ := of_laid hL
  have vr : ∀ {X : World}, X.var? Tryd.prog "loop.example/concierge/impl.errNoRec" = some #[.iface 152 (.pointer (some a))] → ∀ sp : Nat → Bool,
      DataW.TrodVars enc Tryd.prog X sp ["loop.example/concierge/impl.errNoRec"] [tok enc (.iface 152 (.pointer (some a)))] [.cell 0 0] :=
    fun x0 sp => vars_read1 enc gErr gErrType Tryd.underlying109 x0 trivial sp
  obtain ⟨rfl, rfl⟩ := hV.unique (vr hvar _)
  clear hA0 hV0 hval0
  obtain ⟨up, x, f, y, rs, ws, rfl, hR, hlen, hlens, hlenw⟩ := open_desk (hval 0 27 v0 rfl rfl) h0
  refine (lawDRise_any up x y rs f ws a W hR hErr hlen hlens hlenw).mono fun e W' ⟨he, hb⟩ => ?_
  subst he
  have hlt : ∀ x ∈ p, x.block < W.heap.size := fun x hx => hW'.lt x (by simp [hx])
  refine ⟨_, rfl, _, _, _, [], p, [.cell 0 0], hW', ?_, ?_, ?_, hb.frame _, fun h => by cases h⟩
  · exact trodAll_mk1 (shut_bool Tryd.underlying4 true)
  · exact trodAll_mk1 (Below.trod laidOut (by kernel_rfl) (of_decide_eq_true (by kernel_rfl)) h0 hb hlt)
  · exact vr (var?_below hb gErr (World.block_lt_of_cell? _ _ hErr) hvar) _

theorem deskRise_said : Rows.FnExactDeskRiseSaid :=
  OpenClaim.holds_of_wide 7 Tryd.f7 rfl rfl rfl rfl rfl rfl rfl ⟨rfl, rfl, rfl, rfl, rfl⟩ rfl rfl rfl rfl rfl (by kernel_rfl) Tryd.func7 (by kernel_rfl)
    (of_decide_eq_true (by kernel_rfl)) (by unfold Func.isWrapper; first | (rw [if_pos (by decide +kernel)]; kernel_rfl) | (rw [if_neg (by decide +kernel)]; exact ⟨rfl, rfl⟩))
    (fun os started H enc _ => deskRise_lifted os started H enc)

theorem deskRise_plain (f : FuncId) (fn : Func) (hf : Tryd.pinned.checked.prog.funcNamed "loop.example/concierge/laws.FnExactDeskRise" = some f) (hfn : Tryd.pinned.checked.prog.funcs[f]? = some fn) :
    true = Tryd.pinned.checked.prog.looks [] ∧ ∀ (j : Nat) t, fn.params[j]? = some t → Tryd.pinned.checked.prog.wantsStandIn t = false := by
  obtain rfl : f = 7 := Option.some.inj ((show Tryd.prog.funcNamed "loop.example/concierge/laws.FnExactDeskRise" = some 7 by kernel_rfl).symm.trans hf) |>.symm
  obtain rfl : fn = Tryd.f7 := (Option.some.inj (Tryd.func7.symm.trans hfn)).symm
  refine ⟨by kernel_rfl, fun j t ht => ?_⟩
  rw [Tryd.params7] at ht
  obtain rfl : t = 27 := by simpa using Array.mem_of_getElem? ht
  exact (show Tryd.prog.wantsStandIn 27 = false by kernel_rfl)

theorem deskRise_card : Rows.FnExactDeskRiseCardSaid :=
  Claim7.holds_tied_plain_at .later [] _ _ _ _ deskRise_said (fun _ h => by cases h) (by kernel_rfl) (fun _ h => by cases h) fnExactDeskRise_row_tie rfl ⟨rfl, rfl⟩ (by kernel_rfl) rfl deskRise_plain (by kernel_rfl)
#print axioms deskRise_card

end Go.Proofs.YtogfpnenoeonoaaDoor
