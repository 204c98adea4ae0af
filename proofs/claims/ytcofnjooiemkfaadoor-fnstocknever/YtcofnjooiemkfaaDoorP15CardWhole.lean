/- FnStockNever answers true whatever the code, and it reads afterwards as it read before: promise 15 at every drawn stock and record. The card: the sentinel's variable starts as the program's text lays it. -/
import Derived.Test.YtcofnjooiemkfaaDoorBase5

namespace Go.Proofs.YtcofnjooiemkfaaDoor
open Go.RowKit

set_option maxRecDepth 100000 in
set_option maxHeartbeats 8000000 in
theorem lawP15_small (vc : Value) (nc : Nat) (a : Addr) (w : World) (hc : CodeAt w vc nc) (hcn : nc ≤ 1048576) (ha : ErrAt w a) :
    Calls Tryd.prog 3 #[vc] w fun e w' => e = .returned (.bool true) ∧ Below w.heap.size w w' := by
  have HD := hide_it (drawDo_any vc nc w hc hcn)
  have HA : Hid (∀ W, Below w.heap.size w W → ErrAt W a) := fun W hb => ha.later hb (Nat.le_refl _)
  obtain ⟨ac, cc, rfl, _⟩ := hc
  have hci : (nc : Int) ≤ 1048576 := by omega
  clear hcn ha
  go_enter Tryd.func3, Tryd.ntmps3
  go_wp2_with fail
  refine HD.out.mono ?_
  rintro e w1 ⟨room, u, hs, k, t, uz, zs, rfl, hl, hzl, hH, hI, hb1⟩
  have B1 := hide_it hb1
  have H1 := hide_it hH
  have I1 := hide_it hI
  obtain ⟨au, cu, rfl⟩ := hH.shape
  obtain ⟨az, cz, rfl⟩ := hI.shape
  clear hb1 hH hI HD
  have hl9 : hs.length ≤ 1048576 := by omega
  have hz9 : zs.length ≤ 1048576 := by omega
  obtain ⟨w2, hw2⟩ : ∃ W, Hid (W = (w1.alloc (.cells #[.int .i64 room, .slice au hs.length cu] 25)).alloc (.cells #[.int .i64 k, .int .i64 t, .slice az zs.length cz] 28)) := ⟨_, rfl⟩
  have al2 : Hid (Below w1.heap.size w1 w2) := by show Below _ _ _; rw [hw2.out]; exact below2 _ _ _
  have B2 := hide_it (B1.out.trans (al2.out.mono B1.out.size))
  have P2 : Hid (Pr w2 w1.heap.size room (.slice au hs.length cu) k t (.slice az zs.length cz)) := by show Pr _ _ _ _ _ _ _; rw [hw2.out]; exact Pr.new _ _ _ _ _ _ _ _
  have H2 := hide_it (H1.out.later al2.out (Nat.le_refl _))
  have I2 := hide_it (I1.out.later al2.out (Nat.le_refl _))
  obtain ⟨OO, hOO⟩ : ∃ x, Hid (Pl.sDo room hs k t zs = x) := ⟨_, rfl⟩
  obtain ⟨RR, hRR⟩ : ∃ x, oR room OO = x := ⟨_, rfl⟩
  obtain ⟨HS, hHS⟩ : ∃ x, oH OO = x := ⟨_, rfl⟩
  obtain ⟨BB, hBB⟩ : ∃ x, OO.isSome = x := ⟨_, rfl⟩
  have SP : Hid (∀ W, Below w2.heap.size w2 W → Calls Tryd.prog 10 #[.agg #[.int .i64 room, .slice au hs.length cu], .agg #[.int .i64 k, .int .i64 t, .slice az zs.length cz]] W fun e w' => StOut W w' e RR HS BB) := fun W hb => by
    have := specDo_any room _ hs k t _ zs W (H2.out.later hb (Nat.le_refl _)) hl9 (I2.out.later hb (Nat.le_refl _)) hz9
    rw [hOO.out, hRR, hHS, hBB] at this; exact this
  have IM : Hid (∀ W, Below w2.heap.size w2 W → Calls Tryd.prog 11 #[.agg #[.int .i64 room, .slice au hs.length cu], .agg #[.int .i64 k, .int .i64 t, .slice az zs.length cz]] W fun e w' => StOut W w' e RR HS BB) := fun W hb => by
    have := implDo_any room _ hs k t _ zs a W (H2.out.later hb (Nat.le_refl _)) hl9 (I2.out.later hb (Nat.le_refl _)) hz9 (HA.out _ (B2.out.trans (hb.mono B2.out.size)))
    rw [hOO.out, hRR, hHS, hBB] at this; exact this
  have hL9 : HS.length ≤ 1048576 := by
    rw [← hHS]
    cases hq : OO with
    | none => simp [oH]
    | some x => have h1 := hOO.out; rw [hq] at h1; have h2 := Pl.sDo_len h1; show x.length ≤ 1048576; omega
  have FIN : Hid (BB = true → RR = room ∧ Pl.sDo room hs k t zs = some HS) := fun h => by
    cases hq : OO with
    | none => rw [hq] at hBB; rw [← hBB] at h; cases h
    | some x =>
      rw [hq] at hRR hHS
      exact ⟨hRR.symm, by rw [hOO.out, hq]; exact congrArg some hHS⟩
  clear hOO hRR hHS hBB
  go_wp2_with fail
  rw [← hw2.out]
  refine (SP.out w2 (Below.refl _ _)).mono ?_
  rintro e w3 ⟨a3, c3, rfl, ho3, hb3⟩
  obtain ⟨w4, hw4⟩ : ∃ W, Hid (W = w3.alloc (.cells #[.int .i64 RR, .slice a3 HS.length c3] 25)) := ⟨_, rfl⟩
  have al4 : Below w3.heap.size w3 w4 := by rw [hw4.out]; exact alloc_below _ _
  have E4 := hide_it (hb3.trans (al4.mono hb3.size))
  have Z4 : Hid (Duo w4 w3.heap.size (.int .i64 RR) (.slice a3 HS.length c3)) := by show Duo _ _ _ _; rw [hw4.out]; exact Duo.new w3 _ _ _
  have V4 := hide_it ((holds_of_row ho3).later al4 (Nat.le_refl _))
  obtain ⟨⟨c0, c1⟩, ⟨r0, r1, r2⟩⟩ := P2.out.later hb3 (Nat.le_refl _)
  have k0 := fun o => cellAlloc c0 o
  have k1 := fun o => cellAlloc c1 o
  have k2 := fun o => cellAlloc r0 o
  have k3 := fun o => cellAlloc r1 o
  have k4 := fun o => cellAlloc r2 o
  have hl1 : w1.heap.size < w3.heap.size := World.block_lt_of_cell? _ _ c0
  have hl2 : w1.heap.size + 1 < w3.heap.size := World.block_lt_of_cell? _ _ r0
  clear ho3 hb3 al4
  go_wp2_with fail
  rw [← hw4.out]
  refine (IM.out w4 E4.out).mono ?_
  rintro e w5 ⟨a5, c5, rfl, ho5, hb5⟩
  obtain ⟨w6, hw6⟩ : ∃ W, Hid (W = w5.alloc (.cells #[.int .i64 RR, .slice a5 HS.length c5] 25)) := ⟨_, rfl⟩
  have al6 : Below w5.heap.size w5 w6 := by rw [hw6.out]; exact alloc_below _ _
  have e6 : Below w4.heap.size w4 w6 := hb5.trans (al6.mono hb5.size)
  have E6 := hide_it (E4.out.trans (e6.mono E4.out.size))
  have X6 : Hid (Duo w6 w5.heap.size (.int .i64 RR) (.slice a5 HS.length c5)) := by show Duo _ _ _ _; rw [hw6.out]; exact Duo.new w5 _ _ _
  have Z5 := hide_it (Z4.out.later hb5 (Nat.le_refl _))
  have Z6 := hide_it (Z4.out.later e6 (Nat.le_refl _))
  have V6 := hide_it (V4.out.later e6 (Nat.le_refl _))
  have U6 := hide_it ((holds_of_row ho5).later al6 (Nat.le_refl _))
  clear k0 k1 k2 k3 k4 c0 c1 r0 r1 r2
  obtain ⟨z0, z1⟩ := Z5.out
  have z0o := fun o => cellAlloc z0 o
  have z1o := fun o => cellAlloc z1 o
  have hzl3 := Z5.out.lt
  clear ho5 hb5 al6 e6
  cases BB
  · go_wp2_with fail
    rw [← hw6.out]
    refine (lnStock_any RR _ _ HS w6 U6.out V6.out hL9).mono ?_
    rintro e w7 ⟨rfl, hb7⟩
    have E7 := hide_it (E6.out.trans (hb7.mono E6.out.size))
    have U7 := hide_it (U6.out.later hb7 (Nat.le_refl _))
    have V7 := hide_it (V6.out.later hb7 (Nat.le_refl _))
    obtain ⟨p0, p1⟩ := Z6.out.later hb7 (Nat.le_refl _)
    obtain ⟨q0, q1⟩ := X6.out.later hb7 (Nat.le_refl _)
    clear hb7 z0 z1 z0o z1o
    go_wp2_with fail
    refine (lnStock_any RR _ _ HS w7 U7.out V7.out hL9).mono ?_
    rintro e w8 ⟨rfl, hb8⟩
    have B8 := hide_it (B2.out.trans ((E7.out.trans (hb8.mono E7.out.size)).mono B2.out.size))
    clear hb8
    go_wp2
    go_ret
    exact ⟨rfl, B8.out⟩
  obtain ⟨e1, hDO⟩ := FIN.out rfl
  subst e1
  clear FIN SP IM
  have HDO := hide_it hDO
  clear hDO
  go_wp2_with fail
  rw [← hw6.out]
  refine (lnStock_any RR _ _ HS w6 U6.out V6.out hL9).mono ?_
  rintro e w7 ⟨rfl, hb7⟩
  have E7 := hide_it (E6.out.trans (hb7.mono E6.out.size))
  have U7 := hide_it (U6.out.later hb7 (Nat.le_refl _))
  have X7 := hide_it (X6.out.later hb7 (Nat.le_refl _))
  have hX := X7.out.lt
  clear hb7 z0 z1 z0o z1o hzl3 V6 Z6 Z5 Z4 V4
  obtain ⟨x, hn, hset, ok0, rok, ok1⟩ := Pl.sDo_some HDO.out
  obtain ⟨f1, f2, f3⟩ := Pl.sFree_of ok1
  have FR := hide_it f1
  obtain ⟨FF, hFF⟩ : ∃ q, Hid (Pl.free RR HS = q) := ⟨_, rfl⟩
  rw [hFF.out] at f2 f3
  have OK1 := hide_it ok1
  clear hn hset ok0 rok ok1 f1
  obtain ⟨x0, x1⟩ := X7.out
  go_wp2_with fail
  refine (implStockOk_any RR _ HS w7 U7.out hL9).mono ?_
  rintro e w8 ⟨rfl, hb8⟩
  rw [OK1.out]
  have E8 := hide_it (E7.out.trans (hb8.mono E7.out.size))
  have U8 := hide_it (U7.out.later hb8 (Nat.le_refl _))
  have X8 := hide_it (X7.out.later hb8 (Nat.le_refl _))
  clear hb8 x0 x1
  obtain ⟨x0, x1⟩ := X8.out
  go_wp2_with fail
  refine (implFree_any RR _ HS w8 U8.out hL9).mono ?_
  rintro e w9 ⟨rfl, hb9⟩
  rw [FR.out, hFF.out]
  have E9 := hide_it (E8.out.trans (hb9.mono E8.out.size))
  have B9 := hide_it (B2.out.trans (E9.out.mono B2.out.size))
  have X9 := hide_it (X8.out.later hb9 (Nat.le_refl _))
  clear hb9 x0 x1
  obtain ⟨x0, x1⟩ := X9.out
  obtain ⟨⟨c0, c1⟩, ⟨r0, r1, r2⟩⟩ := P2.out.later E9.out (Nat.le_refl _)
  go_wp2
  go_ret
  exact ⟨rfl, B9.out⟩

end Go.Proofs.YtcofnjooiemkfaaDoor

namespace Go.Proofs.YtcofnjooiemkfaaDoor
open Go.ChangeShapes Go.WideShapes Go.ChangeAt Go.WideMaps Go.WideElems Go.RowKit Go.Joins

set_option maxHeartbeats 1000000 in
theorem lawP15_great (ac : Option Addr) (nc cc : Nat) (w : World) (h : 1048576 < (nc : Int)) :
    Calls Tryd.prog 3 #[.slice ac nc cc] w fun e w' => e = .returned (.bool true) ∧ Below w.heap.size w w' := by
  go_enter Tryd.func3, Tryd.ntmps3
  go_wp2
  go_ret
  exact ⟨rfl, Below.refl _ _⟩

theorem lawP15_any (vc : Value) (nc : Nat) (a : Addr) (w : World) (hc : CodeAt w vc nc) (ha : ErrAt w a) :
    Calls Tryd.prog 3 #[vc] w fun e w' => e = .returned (.bool true) ∧ Below w.heap.size w w' := by
  by_cases h1 : nc ≤ 1048576
  · exact lawP15_small vc nc a w hc h1 ha
  · obtain ⟨ac, cc, rfl, _⟩ := hc
    exact lawP15_great ac nc cc w (by omega)

set_option maxRecDepth 100000 in
theorem p15_lifted (os : Os) (started : os.Started) (H : Type) (enc : TypeId × Value → H) :
    ReturnsInHanded {} Tryd.checked os 3 .any (fun w args => (Rows.fnStockNeverSpec.pre enc Tryd.prog Tryd.f3 [] false w args ∧ laidMetH Tryd.prog laidErr w) ∧ sizedMet enc Tryd.prog Tryd.f3 (OpenSpec.ofChange Rows.fnStockNeverSpec) false w args)
      (Rows.fnStockNeverSpec.post enc Tryd.prog Tryd.f3 false true false false) := by
  refine returnsInHanded_of_change_and (C := Tryd.checked) (X := fun w _ => laidMetH Tryd.prog laidErr w) (fun _ _ _ hh h => h.of_heap hh) own started (by kernel_rfl) Tryd.func3
    (ChangeSpec.witness_shaped (enc := enc) (C := Tryd.checked) (os := os) (X := fun w _ => laidMetH Tryd.prog laidErr w) false (World.doorLaid Tryd.prog 28 os) #[.slice none 0 0] 8 rfl (World.shaped_of_RefB (by kernel_rfl) (by kernel_rfl)) (by kernel_rfl) (by kernel_rfl) (by kernel_rfl) (door_met os _)) ?_
  intro W base args ds gs before hval0 hW _ _ hL _
  have hval : ∀ (j : Nat) t v, Tryd.f3.params[j]? = some t → args[j]? = some v → Value.okWide Tryd.prog W .any base t v := hval0
  have hW' := hW
  obtain ⟨p, q, hA0, hV0, rfl, hfz, hnd⟩ := hW
  have hA : DataW.TrodAll enc Tryd.prog W 0 (fun _ => true) true Tryd.f3.params.toList args.toList ds p := hA0
  have hV : DataW.TrodVars enc Tryd.prog W (fun _ => true) ["loop.example/concierge/impl.errNoRec"] gs q := hV0
  rw [Tryd.params3] at hA hval
  obtain ⟨v0, d0, rfl, rfl, h0⟩ := trodAll_one hA
  obtain ⟨a, hErr, hvar⟩ := of_laid hL
  have vr : ∀ {X : World}, X.var? Tryd.prog "loop.example/concierge/impl.errNoRec" = some #[.iface 101 (.pointer (some a))] → ∀ sp : Nat → Bool,
      DataW.TrodVars enc Tryd.prog X sp ["loop.example/concierge/impl.errNoRec"] [tok enc (.iface 101 (.pointer (some a)))] [.cell 0 0] :=
    fun x0 sp => vars_read1 enc gErr gErrType Tryd.underlying72 x0 trivial sp
  obtain ⟨rfl, rfl⟩ := hV.unique (vr hvar _)
  clear hA0 hV0 hval0
  obtain ⟨nc, hC, _⟩ := open_code (hval 0 22 v0 rfl rfl) h0
  refine (lawP15_any v0 nc a W hC hErr).mono fun e W' ⟨he, hb⟩ => ?_
  subst he
  have hlt : ∀ x ∈ p, x.block < W.heap.size := fun x hx => hW'.lt x (by simp [hx])
  refine ⟨_, rfl, _, _, _, [], p, [.cell 0 0], hW', ?_, ?_, ?_, hb.frame _, fun h => by cases h⟩
  · exact trodAll_mk1 (shut_bool Tryd.underlying4 true)
  · exact trodAll_mk1 (Below.trod laidOut (by kernel_rfl) (of_decide_eq_true (by kernel_rfl)) h0 hb hlt)
  · exact vr (var?_below hb gErr (World.block_lt_of_cell? _ _ hErr) hvar) _

theorem p15_said : Rows.FnStockNeverSaid :=
  OpenClaim.holds_of_wide 3 Tryd.f3 rfl rfl rfl rfl rfl rfl rfl ⟨rfl, rfl, rfl, rfl, rfl⟩ rfl rfl rfl rfl rfl (by kernel_rfl) Tryd.func3 (by kernel_rfl)
    (of_decide_eq_true (by kernel_rfl)) (by unfold Func.isWrapper; first | (rw [if_pos (by decide +kernel)]; kernel_rfl) | (rw [if_neg (by decide +kernel)]; exact ⟨rfl, rfl⟩))
    (fun os started H enc _ => p15_lifted os started H enc)

theorem p15_plain (f : FuncId) (fn : Func) (hf : Tryd.pinned.checked.prog.funcNamed "loop.example/concierge/laws.FnStockNever" = some f) (hfn : Tryd.pinned.checked.prog.funcs[f]? = some fn) :
    true = Tryd.pinned.checked.prog.looks [] ∧ ∀ (j : Nat) t, fn.params[j]? = some t → Tryd.pinned.checked.prog.wantsStandIn t = false := by
  obtain rfl : f = 3 := Option.some.inj ((show Tryd.prog.funcNamed "loop.example/concierge/laws.FnStockNever" = some 3 by kernel_rfl).symm.trans hf) |>.symm
  obtain rfl : fn = Tryd.f3 := (Option.some.inj (Tryd.func3.symm.trans hfn)).symm
  refine ⟨by kernel_rfl, fun j t ht => ?_⟩
  rw [Tryd.params3] at ht
  obtain rfl : t = 22 := by simpa using Array.mem_of_getElem? ht
  exact (show Tryd.prog.wantsStandIn 22 = false by kernel_rfl)

theorem p15_card : Rows.FnStockNeverCardSaid :=
  Claim7.holds_tied_plain_at .later [] _ _ _ _ p15_said (fun _ h => by cases h) (by kernel_rfl) (fun _ h => by cases h) fnStockNever_row_tie rfl ⟨rfl, rfl⟩ (by kernel_rfl) rfl p15_plain (by kernel_rfl)
#print axioms p15_card

end Go.Proofs.YtcofnjooiemkfaaDoor
