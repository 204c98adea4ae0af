/- FnExactDeskWords answers true at every desk, and it reads afterwards as it read before: at every argument DeskWords answers as its model. The card: the sentinel's variable starts as the program's text lays it. -/
import Derived.Test.YtgknnigjlnfplaaDoorBase6
import Derived.Deep.RegionHeld

namespace Go.Proofs.YtgknnigjlnfplaaDoor
open Go.RowKit

set_option maxHeartbeats 1000000 in
theorem lawDWords_great (up : Bool) (v u : Value) (rs : List R) (f : Int) (ws : List Wd) (w : World) (hv : DkAt w v u rs ws) (hl : (rs.length : Int) ≤ 9223372036854775807) (hls : ∀ r ∈ rs, (r.2.2.length : Int) ≤ 9223372036854775807) (hlw : (ws.length : Int) ≤ 9223372036854775807) (hg : 1048576 < ((tot rs + ws.length : Nat) : Int)) :
    Calls Tryd.prog 3 #[deskV up v f u] w fun e w' => e = .returned (.bool true) ∧ Below w.heap.size w w' := by
  have HS : Hid (∀ o, Calls Tryd.prog 4 #[deskV up v f u, .int .i64 1048576] (w.alloc o) fun e w' => e = .returned (.int .i64 (-1)) ∧ Below (w.alloc o).heap.size (w.alloc o) w') := fun o => by
    have := szDesk_any up v u rs f ws 1048576 (w.alloc o) (hv.later (alloc_below w o) (Nat.le_refl _)) hl hls hlw (by omega) (by omega)
    rw [leftOf_neg (by omega)] at this
    exact this
  obtain ⟨av, cv, au, cu, rfl, rfl⟩ := hv.shape
  clear hv hl hls hg hlw
  go_enter Tryd.func3, Tryd.ntmps3
  go_wp2_with (go_at_call 4; refine (HS.out _).mono ?_; rintro e w1 ⟨rfl, hb⟩)
  go_ret
  exact ⟨rfl, below_after (by assumption)⟩

set_option maxHeartbeats 8000000 in
theorem lawDWords_small (up : Bool) (v u : Value) (rs : List R) (f : Int) (ws : List Wd) (a : Addr) (w : World) (hv : DkAt w v u rs ws) (ha : ErrAt w a) (hlt : tot rs + ws.length ≤ 1048576) :
    Calls Tryd.prog 3 #[deskV up v f u] w fun e w' => e = .returned (.bool true) ∧ Below w.heap.size w w' := by
  have hrl := tot_len rs
  have hl : tot rs ≤ 1048576 := by omega
  have hlw : ws.length ≤ 1048576 := by omega
  have HS : Hid (∀ o, Calls Tryd.prog 4 #[deskV up v f u, .int .i64 1048576] (w.alloc o) fun e w' => e = .returned (.int .i64 (1048576 - ((tot rs + ws.length : Nat) : Int))) ∧ Below (w.alloc o).heap.size (w.alloc o) w') := fun o => by
    have := szDesk_any up v u rs f ws 1048576 (w.alloc o) (hv.later (alloc_below w o) (Nat.le_refl _)) (by omega) (fun r hr => by have := tot_mem rs r hr; omega) (by omega) (by omega) (by omega)
    rw [leftOf_pos (by omega)] at this
    exact this
  obtain ⟨TT, hTT⟩ : ∃ x, tot rs + ws.length = x := ⟨_, rfl⟩
  rw [hTT] at HS hlt
  clear hTT
  have HV : Hid (∀ W, Below w.heap.size w W → DkAt W v u rs ws) := fun W h => hv.later h (Nat.le_refl _)
  have HA : Hid (∀ W, Below w.heap.size w W → ErrAt W a) := fun W h => ha.later h (Nat.le_refl _)
  obtain ⟨av, cv, au, cu, hvs, hus⟩ := hv.shape
  have H0 : Hid (Blk (w.alloc (.cells #[.bool up, v, .int .i64 f, u] 27)) w.heap.size #[.bool up, v, .int .i64 f, u] 27) := Blk.new _ _ _
  clear hv ha
  subst hvs hus
  -- what comes out
  obtain ⟨OO, hO⟩ : ∃ o, Hid (dkWords up rs f ws = o) := ⟨_, rfl⟩
  have FT : OO.length ≤ 18 := by have := dkWords_len up rs f ws; rw [hO.out] at this; exact this
  have FT2 : OO.length ≤ 1048576 := by omega
  have HSP : Hid (∀ (x y : Value) (W : World), DkIn W x y rs ws → Calls Tryd.prog 5 #[deskV up x f y] W fun e w' => WsO W w' e OO) := fun x y W h => by
    have := specDWords_any up x y rs f ws W h hl hlw; rw [hO.out] at this; exact this
  have HIM : Hid (∀ (x y : Value) (W : World), DkIn W x y rs ws → ErrAt W a → Calls Tryd.prog 7 #[deskV up x f y] W fun e w' => WsO W w' e OO) := fun x y W h h2 => by
    have := implDWords_any up x y rs f ws a W h hl hlw h2; rw [hO.out] at this; exact this
  have HKX : Hid (0 ≤ kDk rs 1 ws.length ∧ kDk rs 1 ws.length ≤ 1000000000) := by
    have := kAt_bd rs 1 rs.length (Nat.le_refl _) hl (by omega) (by omega)
    constructor <;> (unfold kDk; omega)
  obtain ⟨KG, hKG⟩ : ∃ x : Int, 1 + 4 * (OO.length : Int) = x := ⟨_, rfl⟩
  have hkg : 0 ≤ KG ∧ KG ≤ 1000 := by omega
  obtain ⟨KX, hKX⟩ : ∃ x, Hid (kDk rs 1 ws.length = x) := ⟨_, rfl⟩
  obtain ⟨hkx0, hkx1⟩ := HKX.out
  rw [hKX.out] at hkx0 hkx1
  have HMG : Hid (∀ (y : Value) (lo hi : Nat) (W : World), W.ownsRow lo 58 4 y OO.length (wflat OO) → (∀ k, y.ownBlock = some k → k < hi) → hi ≤ W.heap.size → Calls Tryd.prog 11 #[y, .int .i64 1] W fun e w' => e = .returned (.int .i64 KG) ∧ Words w' y (markW OO.length 1) ∧ Mid lo hi W w') := fun y lo hi W h1 h2 h3 => by
    have := markWords_any y OO 1 lo OO.length W h1 FT2 (by omega) (by omega)
    rw [hKG] at this
    exact this.mono fun e w' ⟨x, r, z⟩ => ⟨x, words_of_row (by rw [markW_length]; exact r), Mid.of_grown z (fun k hk => ⟨(h1.lt k hk).1, h2 k hk⟩)⟩
  have HHG : Hid (∀ (y : Value) (W : World), Words W y (markW OO.length 1) → Calls Tryd.prog 12 #[y, .int .i64 1] W fun e w' => e = .returned (.int .i64 KG) ∧ w' = W) := fun y W h => by
    have := heldWords_any y OO.length 1 W h FT2 (by omega) (by omega)
    rw [hKG] at this; exact this
  clear hKG
  go_enter Tryd.func3, Tryd.ntmps3
  -- how great it is
  go_wp2_with fail
  refine (HS.out _).mono ?_
  rintro e w1 ⟨rfl, hb1⟩
  have B1 := hide_it (below_after hb1)
  have T1 := hide_it (H0.out.after hb1)
  have hz1 : w.heap.size ≤ w1.heap.size := B1.out.size
  clear hb1
  obtain ⟨c0, c1, c2, c3⟩ := T1.out.cells4
  -- w0
  go_wp2_with fail
  refine (toDesk_any up _ _ rs f ws w1 (HV.out _ B1.out) hl hlw).mono ?_
  rintro e w2 ⟨a2, cap2, b2, dap2, ps2, rfl, hp2, ho2, hb2⟩
  have B2 := hide_it (B1.out.trans (hb2.mono hz1))
  have T2 := hide_it (T1.out.after hb2)
  have V2 := hide_it (ho2.in_ hp2)
  have hz2 : w.heap.size ≤ w2.heap.size := B2.out.size
  clear hb2 ho2 hp2 c0 c1 c2 c3
  go_wp2_with fail
  refine (HSP.out _ _ w2 V2.out).mono ?_
  rintro e w3 ⟨a3, cap3, rfl, hm3, hb3⟩
  have B3 := hide_it (B2.out.trans (hb3.mono hz2))
  have T3 := hide_it (T2.out.after hb3)
  have V3 := hide_it (words_of_row hm3)
  have hz3 : w.heap.size ≤ w3.heap.size := B3.out.size
  clear hb3 hm3
  -- x0
  obtain ⟨c0, c1, c2, c3⟩ := T3.out.cells4
  go_wp2_with fail
  refine (toDesk_any up _ _ rs f ws w3 (HV.out _ B3.out) hl hlw).mono ?_
  rintro e w5 ⟨a5, cap5, b5, dap5, ps5, rfl, hp5, ho5, hb5⟩
  have HP5 := hide_it hp5
  have O5 := hide_it ho5
  have E5 := hide_it hb5
  clear hp5 ho5 hb5 c0 c1 c2 c3
  -- g0
  obtain ⟨w6, hw6⟩ : ∃ W, Hid (W = w5.alloc (.cells #[.bool up, (.slice a5 rs.length cap5), .int .i64 f, (.slice b5 ws.length dap5)] 35)) := ⟨_, rfl⟩
  go_wp2_with fail
  rw [← hw6.out]
  have al6 := hide_it (show Below w5.heap.size w5 w6 by rw [hw6.out]; exact alloc_below _ _)
  have HS6 := hide_it (show w6.heap.size = w5.heap.size + 1 by rw [hw6.out]; simp)
  have E6 := hide_it (E5.out.trans (al6.out.mono E5.out.size))
  have O6 := hide_it (O5.out.below al6.out (Nat.le_refl _))
  have X6 : Hid (Blk w6 w5.heap.size #[.bool up, (.slice a5 rs.length cap5), .int .i64 f, (.slice b5 ws.length dap5)] 35) := by show Blk _ _ _ _; rw [hw6.out]; exact Blk.new _ _ _
  have B6 := hide_it (B3.out.trans (E6.out.mono hz3))
  refine (HIM.out _ _ w6 (O6.out.in_ HP5.out) (HA.out _ B6.out)).mono ?_
  rintro e w7 ⟨a7, cap7, rfl, hm7, hb7⟩
  have O7 := hide_it hm7
  have L7 := hide_it (fun k hk => (hm7.lt k hk).2)
  have X7 := hide_it (X6.out.after hb7)
  have O7x := hide_it (O6.out.below hb7 (by have := HS6.out; omega))
  have E7 := hide_it (E6.out.trans (hb7.mono E6.out.size))
  have HS7 := hide_it hb7.size
  have R7 := hide_it (words_of_row hm7)
  have V7 := hide_it (V3.out.later E7.out (Nat.le_refl _))
  clear hb7 hm7
  go_wp2_with fail
  refine (eqWords_any _ _ OO w7 R7.out V7.out FT2).mono ?_
  rintro e w9 ⟨rfl, hb9⟩
  have E9 := hide_it (E7.out.trans (hb9.mono E7.out.size))
  have O9 := hide_it (ownsRow_below O7.out hb9 L7.out)
  have O9x := hide_it (O7x.out.below hb9 (by have := HS6.out; have := HS7.out; omega))
  have X9 := hide_it (X7.out.after hb9)
  have T9 := hide_it (T3.out.after E9.out)
  have HS9 := hide_it hb9.size
  have B9 := hide_it (B3.out.trans (E9.out.mono hz3))
  have R9x := hide_it (O9x.out.at' HP5.out)
  clear hb9
  obtain ⟨c0, c1, c2, c3⟩ := T9.out.cells4
  obtain ⟨x0, x1, x2, x3⟩ := X9.out.cells4
  go_wp2_with fail
  go_region_held (fun w' => (w'.cell? ⟨w5.heap.size, 0, none⟩ = some (.bool up) ∧ w'.cell? ⟨w5.heap.size, 1, none⟩ = some (.slice a5 rs.length cap5) ∧ w'.cell? ⟨w5.heap.size, 2, none⟩ = some (.int .i64 f) ∧ w'.cell? ⟨w5.heap.size, 3, none⟩ = some (.slice b5 ws.length dap5)) ∧ (w'.cell? ⟨w.heap.size, 0, none⟩ = some (.bool up) ∧ w'.cell? ⟨w.heap.size, 1, none⟩ = some (.slice av rs.length cv) ∧ w'.cell? ⟨w.heap.size, 2, none⟩ = some (.int .i64 f) ∧ w'.cell? ⟨w.heap.size, 3, none⟩ = some (.slice au ws.length cu))) (go_keep)
    (first
    | (go_at_call 6; refine (toDesk_any up _ _ rs f ws _ ?_ hl hlw).mono ?_; exact (HV.out _ B9.out.drew); rintro e w10 ⟨a10, cap10, b10, dap10, ps10, rfl, hp10, ho10, hb10⟩; have hb10' := (Below.refl w9.heap.size w9).drew.trans hb10; have L10 := hide_it hb10'; have y10 := R9x.out.later hb10' (Nat.le_refl _); have v10 := ho10.at' hp10; obtain ⟨x100, x101, x102, x103⟩ := (X9.out.after hb10').cells4; obtain ⟨c100, c101, c102, c103⟩ := (T9.out.after hb10').cells4; clear hb10 hb10' hp10 ho10)
    | (go_at_call 9; refine (eqDesk_any up _ _ _ _ rs f ws _ ?_ ?_ hl hlw).mono ?_; assumption; assumption; rintro e w11 ⟨rfl, hb11⟩; have L11 := hide_it (L10.out.trans (hb11.mono L10.out.size)); obtain ⟨x110, x111, x112, x113⟩ := (X9.out.after L11.out).cells4; obtain ⟨c110, c111, c112, c113⟩ := (T9.out.after L11.out).cells4; clear hb11))
  clear c0 c1 c2 c3 x0 x1 x2 x3
  have h56 : w5.heap.size + 1 = w6.heap.size := HS6.out.symm
  have h67 : w6.heap.size ≤ w7.heap.size := HS7.out
  have h79 : w7.heap.size ≤ w9.heap.size := HS9.out
  have h45 : w3.heap.size ≤ w5.heap.size := E5.out.size
  have SZ := hide_it (show w5.heap.size < w6.heap.size ∧ w6.heap.size ≤ w7.heap.size ∧ w7.heap.size ≤ w9.heap.size ∧ w3.heap.size ≤ w5.heap.size by omega)
  clear h56 h67 h79 h45
  have E11 := hide_it (E9.out.trans (L11.out.mono E9.out.size))
  have O11x := hide_it (O9x.out.below L11.out (by have := SZ.out; omega))
  have O11 := hide_it (ownsRow_below O9.out L11.out (fun k hk => (O9.out.lt k hk).2))
  have hmk : Calls Tryd.prog 10 #[deskV up (.slice a5 rs.length cap5) f (.slice b5 ws.length dap5), .int .i64 1] w11 fun e w' => e = .returned (.int .i64 KX) ∧ Mid w3.heap.size w5.heap.size w11 w' := by
    have h := markDesk_any up (.slice a5 rs.length cap5) (.slice b5 ws.length dap5) ps5 f ws 1 w3.heap.size w5.heap.size w11 O11x.out (by rw [HP5.out]; exact hl) hlw (by omega) (by omega)
    rw [HP5.out, hKX.out] at h
    exact h.mono fun e w' h => ⟨h.1, h.2.2⟩
  have HMK := hide_it hmk
  clear hmk
  go_wp2_with fail
  refine HMK.out.mono ?_
  rintro e w12 ⟨rfl, hM12⟩
  have E12 := hide_it (E11.out.trans (hM12.below (Nat.le_refl _) E11.out.size))
  have O12 := hide_it (ownsRow_mid O11.out hM12 (fun k hk => Or.inr (by have := (O11.out.lt k hk).1; have := SZ.out; omega)))
  have V12 := hide_it (V3.out.later E12.out (Nat.le_refl _))
  have HS12 := hide_it (show w9.heap.size ≤ w12.heap.size from Nat.le_trans L11.out.size hM12.size)
  have R12 := hide_it (words_of_row O12.out)
  clear hM12
  go_wp2_with fail
  refine (eqWords_any _ _ OO w12 R12.out V12.out FT2).mono ?_
  rintro e w13 ⟨rfl, hb13⟩
  have E13 := hide_it (E12.out.trans (hb13.mono E12.out.size))
  have O13 := hide_it (ownsRow_below O12.out hb13 (fun k hk => (O12.out.lt k hk).2))
  have HS13 := hide_it hb13.size
  clear hb13
  go_wp2_with fail
  refine (HMG.out _ w6.heap.size w7.heap.size w13 O13.out L7.out (by have := SZ.out; have := HS12.out; have := HS13.out; omega)).mono ?_
  rintro e w14 ⟨rfl, hR14, hM14⟩
  have E14 := hide_it (E13.out.trans (hM14.below (show w3.heap.size ≤ w6.heap.size by have := SZ.out; omega) E13.out.size))
  have R14 := hide_it hR14
  clear hM14 hR14
  go_wp2_with fail
  refine (HHG.out _ w14 R14.out).mono ?_
  rintro e w15 ⟨rfl, rfl⟩
  have T15 := hide_it (T3.out.after E14.out)
  have B15 := hide_it (B3.out.trans (E14.out.mono hz3))
  obtain ⟨c0, c1, c2, c3⟩ := T15.out.cells4
  go_wp2_with fail
  -- once more
  refine (toDesk_any up _ _ rs f ws _ (HV.out _ B15.out) hl hlw).mono ?_
  rintro e w16 ⟨a16, cap16, b16, dap16, ps16, rfl, hp16, ho16, hb16⟩
  have V16 := hide_it (ho16.in_ hp16)
  have N16 := hide_it hb16
  have E16 := hide_it (E14.out.trans (hb16.mono E14.out.size))
  have B16 := hide_it (B15.out.trans (hb16.mono B15.out.size))
  clear ho16 hp16 hb16 c0 c1 c2 c3
  go_wp2_with fail
  refine (HIM.out _ _ w16 V16.out (HA.out _ B16.out)).mono ?_
  rintro e w17 ⟨a17, cap17, rfl, hm17, hb17⟩
  have V17 := hide_it (words_of_row hm17)
  have E17 := hide_it (E16.out.trans (hb17.mono E16.out.size))
  have N17 := hide_it (N16.out.trans (hb17.mono N16.out.size))
  have Y17 := hide_it (V3.out.later E17.out (Nat.le_refl _))
  clear hm17 hb17
  go_wp2_with fail
  refine (eqWords_any _ _ OO w17 V17.out Y17.out FT2).mono ?_
  rintro e w19 ⟨rfl, hb19⟩
  have N19 := hide_it (N17.out.trans (hb19.mono N17.out.size))
  have B19 := hide_it (B3.out.trans ((E17.out.trans (hb19.mono E17.out.size)).mono hz3))
  have R19 := hide_it (R14.out.later N19.out (Nat.le_refl _))
  clear hb19
  go_wp2_with fail
  refine (HHG.out _ w19 R19.out).mono ?_
  rintro e w20 ⟨rfl, rfl⟩
  go_wp2
  go_ret
  exact ⟨rfl, B19.out⟩

theorem lawDWords_any (up : Bool) (v u : Value) (rs : List R) (f : Int) (ws : List Wd) (a : Addr) (w : World) (hv : DkAt w v u rs ws) (ha : ErrAt w a) (hm : (rs.length : Int) ≤ 9223372036854775807) (hms : ∀ r ∈ rs, (r.2.2.length : Int) ≤ 9223372036854775807) (hmw : (ws.length : Int) ≤ 9223372036854775807) :
    Calls Tryd.prog 3 #[deskV up v f u] w fun e w' => e = .returned (.bool true) ∧ Below w.heap.size w w' := by
  by_cases hl : tot rs + ws.length ≤ 1048576
  · exact lawDWords_small up v u rs f ws a w hv ha hl
  · exact lawDWords_great up v u rs f ws w hv hm hms hmw (by omega)

end Go.Proofs.YtgknnigjlnfplaaDoor

namespace Go.Proofs.YtgknnigjlnfplaaDoor
open Go.ChangeShapes Go.WideShapes Go.ChangeAt Go.WideMaps Go.WideElems Go.RowKit Go.Joins

set_option maxRecDepth 100000 in
theorem deskWords_lifted (os : Os) (started : os.Started) (H : Type) (enc : TypeId × Value → H) :
    ReturnsInHanded {} Tryd.checked os 3 .any (fun w args => (Rows.fnExactDeskWordsSpec.pre enc Tryd.prog Tryd.f3 [] false w args ∧ laidMetH Tryd.prog laidErr w) ∧ sizedMet enc Tryd.prog Tryd.f3 (OpenSpec.ofChange Rows.fnExactDeskWordsSpec) false w args)
      (Rows.fnExactDeskWordsSpec.post enc Tryd.prog Tryd.f3 false true false false) := by
  refine returnsInHanded_of_change_and (C := Tryd.checked) (X := fun w _ => laidMetH Tryd.prog laidErr w) (fun _ _ _ hh h => h.of_heap hh) own started (by kernel_rfl) Tryd.func3
    (ChangeSpec.witness_shaped (enc := enc) (C := Tryd.checked) (os := os) (X := fun w _ => laidMetH Tryd.prog laidErr w) false (World.doorLaid Tryd.prog 28 os) #[deskV false (.slice none 0 0) 0 (.slice none 0 0)] 8 rfl (World.shaped_of_RefB (by kernel_rfl) (by kernel_rfl)) (by kernel_rfl) (by kernel_rfl) (by kernel_rfl) (door_met os _)) ?_
  intro W base args ds gs before hval0 hW _ _ hL _
  have hval : ∀ (j : Nat) t v, Tryd.f3.params[j]? = some t → args[j]? = some v → Value.okWide Tryd.prog W .any base t v := hval0
  have hW' := hW
  obtain ⟨p, q, hA0, hV0, rfl, hfz, hnd⟩ := hW
  have hA : DataW.TrodAll enc Tryd.prog W 0 (fun _ => true) true Tryd.f3.params.toList args.toList ds p := hA0
  have hV : DataW.TrodVars enc Tryd.prog W (fun _ => true) ["loop.example/concierge/impl.errNoRec"] gs q := hV0
  rw [Tryd.params3] at hA hval
  obtain ⟨v0, d0, rfl, rfl, h0⟩ := trodAll_one hA
  obtain ⟨a, hErr, hvar⟩ := of_laid hL
  have vr : ∀ {X : World}, X.var? Tryd.prog "loop.example/concierge/impl.errNoRec" = some #[.iface 156 (.pointer (some a))] → ∀ sp : Nat → Bool,
      DataW.TrodVars enc Tryd.prog X sp ["loop.example/concierge/impl.errNoRec"] [tok enc (.iface 156 (.pointer (some a)))] [.cell 0 0] :=
    fun x0 sp => vars_read1 enc gErr gErrType Tryd.underlying116 x0 trivial sp
  obtain ⟨rfl, rfl⟩ := hV.unique (vr hvar _)
  clear hA0 hV0 hval0
  obtain ⟨up, x, f, y, rs, ws, rfl, hR, hlen, hlens, hlenw⟩ := open_desk (hval 0 27 v0 rfl rfl) h0
  refine (lawDWords_any up x y rs f ws a W hR hErr hlen hlens hlenw).mono fun e W' ⟨he, hb⟩ => ?_
  subst he
  have hlt : ∀ x ∈ p, x.block < W.heap.size := fun x hx => hW'.lt x (by simp [hx])
  refine ⟨_, rfl, _, _, _, [], p, [.cell 0 0], hW', ?_, ?_, ?_, hb.frame _, fun h => by cases h⟩
  · exact trodAll_mk1 (shut_bool Tryd.underlying4 true)
  · exact trodAll_mk1 (Below.trod laidOut (by kernel_rfl) (of_decide_eq_true (by kernel_rfl)) h0 hb hlt)
  · exact vr (var?_below hb gErr (World.block_lt_of_cell? _ _ hErr) hvar) _

theorem deskWords_said : Rows.FnExactDeskWordsSaid :=
  OpenClaim.holds_of_wide 3 Tryd.f3 rfl rfl rfl rfl rfl rfl rfl ⟨rfl, rfl, rfl, rfl, rfl⟩ rfl rfl rfl rfl rfl (by kernel_rfl) Tryd.func3 (by kernel_rfl)
    (of_decide_eq_true (by kernel_rfl)) (by unfold Func.isWrapper; first | (rw [if_pos (by decide +kernel)]; kernel_rfl) | (rw [if_neg (by decide +kernel)]; exact ⟨rfl, rfl⟩))
    (fun os started H enc _ => deskWords_lifted os started H enc)

theorem deskWords_plain (f : FuncId) (fn : Func) (hf : Tryd.pinned.checked.prog.funcNamed "loop.example/concierge/laws.FnExactDeskWords" = some f) (hfn : Tryd.pinned.checked.prog.funcs[f]? = some fn) :
    true = Tryd.pinned.checked.prog.looks [] ∧ ∀ (j : Nat) t, fn.params[j]? = some t → Tryd.pinned.checked.prog.wantsStandIn t = false := by
  obtain rfl : f = 3 := Option.some.inj ((show Tryd.prog.funcNamed "loop.example/concierge/laws.FnExactDeskWords" = some 3 by kernel_rfl).symm.trans hf) |>.symm
  obtain rfl : fn = Tryd.f3 := (Option.some.inj (Tryd.func3.symm.trans hfn)).symm
  refine ⟨by kernel_rfl, fun j t ht => ?_⟩
  rw [Tryd.params3] at ht
  obtain rfl : t = 27 := by simpa using Array.mem_of_getElem? ht
  exact (show Tryd.prog.wantsStandIn 27 = false by kernel_rfl)

theorem deskWords_card : Rows.FnExactDeskWordsCardSaid :=
  Claim7.holds_tied_plain_at .later [] _ _ _ _ deskWords_said (fun _ h => by cases h) (by kernel_rfl) (fun _ h => by cases h) fnExactDeskWords_row_tie rfl ⟨rfl, rfl⟩ (by kernel_rfl) rfl deskWords_plain (by kernel_rfl)
#print axioms deskWords_card

end Go.Proofs.YtgknnigjlnfplaaDoor
