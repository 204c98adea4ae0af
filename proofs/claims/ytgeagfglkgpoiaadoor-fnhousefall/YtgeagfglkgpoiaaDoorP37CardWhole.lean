/- FnHouseFall answers true whatever the code, and it reads afterwards as it read before: promise 37 at every drawn house. The card: the sentinel's variable starts as the program's text lays it. -/
import Derived.Test.YtgeagfglkgpoiaaDoorBase3
import Derived.Deep.RegionHeld

namespace Go.Proofs.YtgeagfglkgpoiaaDoor
open Go.RowKit

theorem sf_drew {w0 w1 : World} (h : Below w0.drew.heap.size w0.drew w1) : Below w0.heap.size w0 w1 := (Below.refl w0.heap.size w0).drew.trans h
theorem hoOk_fell {id room : Int} {rs : List R} {f : Int} (keep : Int) (h : hoOk id room rs f = true) : hoOk id room (rs.take (fallN rs.length f keep)) (fallN rs.length f keep) = true := by
  obtain ⟨h1, h2, h3⟩ := hoOk_parts h
  obtain ⟨l0, l1, l2⟩ := logOk_f h2
  have hn := fallN_le (keep := keep) l0 l1
  have h4 : logOk (rs.take (fallN rs.length f keep)) (fallN rs.length f keep) = true := by
    have hl : (rs.take (fallN rs.length f keep)).length = fallN rs.length f keep := by rw [List.length_take]; omega
    simp only [logOk, Bool.and_eq_true, decide_eq_true_eq] at h2 ⊢
    refine ⟨List.all_eq_true.2 fun x hx => List.all_eq_true.1 h2.1 x (List.mem_of_mem_take hx), by omega, Pl.inB_mk (by omega) (by omega)⟩
  rw [hoOk_of h1 h4]
  cases e : Pl.sOf room rs with
  | none => rw [e] at h3; cases h3
  | some hs =>
    obtain ⟨h5, e5⟩ := Pl.sOf_take (fallN rs.length f keep) e
    rw [e5]; rfl
theorem fallN_0 {n : Nat} {f : Int} : fallN n f 0 = f.toNat := by unfold fallN; rw [if_pos (Int.le_refl 0)]
/-- What a house that has fallen holds is what was forced. -/
theorem hsO_fell {id room : Int} {rs : List R} {f : Int} (h : hoOk id room rs f = true) : hsO id room (rs.take (fallN rs.length f 0)) (fallN rs.length f 0) false = hsO id room rs f true := by
  unfold hsO
  rw [if_pos h, if_pos (hoOk_fell 0 h), fallN_0]; rfl

set_option maxRecDepth 100000 in
set_option maxHeartbeats 8000000 in
theorem lawP37_small (vc : Value) (nc : Nat) (a : Addr) (w : World) (hc : CodeAt w vc nc) (hcn : nc ≤ 1048576) (ha : ErrAt w a) :
    Calls Tryd.prog 4 #[vc] w fun e w' => e = .returned (.bool true) ∧ Below w.heap.size w w' := by
  have HD := hide_it (drawHouseFall_any vc nc w hc hcn)
  have HA : Hid (∀ W, Below w.heap.size w W → ErrAt W a) := fun W hb => ha.later hb (Nat.le_refl _)
  obtain ⟨ac, cc, rfl, _⟩ := hc
  have hci : (nc : Int) ≤ 1048576 := by omega
  clear hcn ha
  go_enter Tryd.func4, Tryd.ntmps4
  go_wp2_with fail
  refine HD.out.mono ?_
  rintro e w1 ⟨id, up, room, o, f, rs, kp, rfl, hl9, hR, hfm, hkp, hb1⟩
  have hl : tot rs ≤ 1048576 := by omega
  have B1 := hide_it hb1
  have R1 := hide_it hR
  have FM := hide_it hfm
  obtain ⟨ao, co, rfl⟩ := hR.shape
  clear hb1 hR HD hfm
  obtain ⟨⟨ID, UP, ROOM, RS, F⟩, hO⟩ : ∃ o : Ho, Hid (hoFall id room rs f kp = o) := ⟨_, rfl⟩
  have hRl : tot RS ≤ 1048576 := by have := hoFall_tot id room rs f kp hl; rw [hO.out] at this; exact this
  obtain ⟨BB, hBB⟩ : ∃ b, Hid (hoOk id room rs f = b) := ⟨_, rfl⟩
  have HSP : Hid (∀ W, Below w1.heap.size w1 W → Calls Tryd.prog 16 #[houseV id up room (.slice ao rs.length co) f, .int .i64 kp] W fun e w' => HoOut W w' e ID UP ROOM RS F) := fun W hb => by
    have := specHFall_any id up room _ rs f kp W (R1.out.later hb (Nat.le_refl _)) hl; rw [hO.out] at this; exact this
  have HIM : Hid (∀ W, Below w1.heap.size w1 W → Calls Tryd.prog 14 #[houseV id up room (.slice ao rs.length co) f, .int .i64 kp] W fun e w' => HoOut W w' e ID UP ROOM RS F) := fun W hb => by
    have := implHFall_any id up room _ rs f kp a W (R1.out.later hb (Nat.le_refl _)) hl FM.out (HA.out _ (B1.out.trans (hb.mono B1.out.size))); rw [hO.out] at this; exact this
  have HOK : Hid (∀ W, Below w1.heap.size w1 W → Calls Tryd.prog 9 #[houseV id up room (.slice ao rs.length co) f] W fun e w' => e = .returned (.bool BB) ∧ Below W.heap.size W w') := fun W hb => by
    have := specHouseOk_any id up room _ rs f W (R1.out.later hb (Nat.le_refl _)) hl; rw [hBB.out] at this; exact this
  obtain ⟨w2, hw2⟩ : ∃ W, Hid (W = w1.alloc (.cells #[.int .i64 id, .bool up, .int .i64 room, .slice ao rs.length co, .int .i64 f] 27)) := ⟨_, rfl⟩
  have al2 : Hid (Below w1.heap.size w1 w2) := by show Below _ _ _; rw [hw2.out]; exact alloc_below _ _
  have L2 : Hid (Blk w2 w1.heap.size #[.int .i64 id, .bool up, .int .i64 room, .slice ao rs.length co, .int .i64 f] 27) := by show Blk _ _ _ _; rw [hw2.out]; exact Blk.new _ _ _
  go_wp2_with fail
  rw [← hw2.out]
  refine (HIM.out _ al2.out).mono ?_
  rintro e w3 ⟨a3, c3, rfl, hm3, hb3⟩
  have E3 := hide_it (al2.out.trans (hb3.mono al2.out.size))
  have L3 := hide_it (L2.out.after hb3)
  have M3 := hide_it hm3
  clear hm3 hb3
  obtain ⟨w4, hw4⟩ : ∃ W, Hid (W = w3.alloc (.cells #[.int .i64 ID, .bool UP, .int .i64 ROOM, .slice a3 RS.length c3, .int .i64 F] 27)) := ⟨_, rfl⟩
  have al4 : Hid (Below w3.heap.size w3 w4) := by show Below _ _ _; rw [hw4.out]; exact alloc_below _ _
  have E4 := hide_it (E3.out.trans (al4.out.mono E3.out.size))
  have L4 := hide_it (L3.out.after al4.out)
  have X4 : Hid (Blk w4 w3.heap.size #[.int .i64 ID, .bool UP, .int .i64 ROOM, .slice a3 RS.length c3, .int .i64 F] 27) := by show Blk _ _ _ _; rw [hw4.out]; exact Blk.new _ _ _
  have V4 := hide_it (M3.out.recs.later al4.out (Nat.le_refl _))
  have U4 := hide_it (R1.out.later E4.out (Nat.le_refl _))
  have B4 := hide_it (B1.out.trans (E4.out.mono B1.out.size))
  obtain ⟨l0, l1, l2, l3, l4⟩ := L4.out.cells5
  obtain ⟨x0, x1, x2, x3, x4⟩ := X4.out.cells5
  go_wp2_with fail
  rw [← hw4.out]
  go_cut [29] (fun b W => b = .bool (!BB) ∧ Hid (Below w4.heap.size w4 W))
  case first =>
    first | (go_region_held (fun w' => (w'.cell? ⟨w1.heap.size, 0, none⟩ = some (.int .i64 id) ∧ w'.cell? ⟨w1.heap.size, 1, none⟩ = some (.bool up) ∧ w'.cell? ⟨w1.heap.size, 2, none⟩ = some (.int .i64 room) ∧ w'.cell? ⟨w1.heap.size, 3, none⟩ = some (.slice ao rs.length co) ∧ w'.cell? ⟨w1.heap.size, 4, none⟩ = some (.int .i64 f)) ∧ (w'.cell? ⟨w3.heap.size, 0, none⟩ = some (.int .i64 ID) ∧ w'.cell? ⟨w3.heap.size, 1, none⟩ = some (.bool UP) ∧ w'.cell? ⟨w3.heap.size, 2, none⟩ = some (.int .i64 ROOM) ∧ w'.cell? ⟨w3.heap.size, 3, none⟩ = some (.slice a3 RS.length c3) ∧ w'.cell? ⟨w3.heap.size, 4, none⟩ = some (.int .i64 F))) (go_keep)
      (first
      | (go_at_call 16; refine (HSP.out _ E4.out.drew).mono ?_; rintro e w5 ⟨a5, c5, rfl, hm5, hb5⟩; have N5 := hide_it (sf_drew hb5); have V5 := hide_it hm5.recs; obtain ⟨l50, l51, l52, l53, l54⟩ := (L4.out.after N5.out).cells5; obtain ⟨x50, x51, x52, x53, x54⟩ := (X4.out.after N5.out).cells5; clear hm5 hb5)
      | (go_at_call 15; refine (lnHouse_any ID UP ROOM _ _ RS F _ (V4.out.later N5.out (Nat.le_refl _)) V5.out hRl).mono ?_; rintro e w6 ⟨rfl, hb6⟩; have N6 := hide_it (N5.out.trans (hb6.mono N5.out.size)); obtain ⟨l60, l61, l62, l63, l64⟩ := (L4.out.after N6.out).cells5; obtain ⟨x60, x61, x62, x63, x64⟩ := (X4.out.after N6.out).cells5; clear hb6)
      | (go_at_call 9; refine (HOK.out _ (E4.out.trans (N6.out.mono E4.out.size))).mono ?_; rintro e w7 ⟨rfl, hb7⟩; have N7 := hide_it (N6.out.trans (hb7.mono N6.out.size)); obtain ⟨l70, l71, l72, l73, l74⟩ := (L4.out.after N7.out).cells5; obtain ⟨x70, x71, x72, x73, x74⟩ := (X4.out.after N7.out).cells5; clear hb7))) | fail
    all_goals
      go_wp2_with fail
      go_meet
      case rel => exact ⟨by first | rfl | simp, N7⟩
  case rest =>
    obtain ⟨rfl, N8⟩ := hcut
    have L8 := hide_it (L4.out.after N8.out)
    have X8 := hide_it (X4.out.after N8.out)
    have V8 := hide_it (V4.out.later N8.out (Nat.le_refl _))
    have U8 := hide_it (U4.out.later N8.out (Nat.le_refl _))
    have E8 := hide_it (E4.out.trans (N8.out.mono E4.out.size))
    have B8 := hide_it (B4.out.trans (N8.out.mono B4.out.size))
    clear l0 l1 l2 l3 l4 x0 x1 x2 x3 x4
    obtain ⟨l0, l1, l2, l3, l4⟩ := L8.out.cells5
    obtain ⟨x0, x1, x2, x3, x4⟩ := X8.out.cells5
    cases BB
    · go_wp2_with fail
      go_region_held (fun w' => (w'.cell? ⟨w1.heap.size, 0, none⟩ = some (.int .i64 id) ∧ w'.cell? ⟨w1.heap.size, 1, none⟩ = some (.bool up) ∧ w'.cell? ⟨w1.heap.size, 2, none⟩ = some (.int .i64 room) ∧ w'.cell? ⟨w1.heap.size, 3, none⟩ = some (.slice ao rs.length co) ∧ w'.cell? ⟨w1.heap.size, 4, none⟩ = some (.int .i64 f)) ∧ (w'.cell? ⟨w3.heap.size, 0, none⟩ = some (.int .i64 ID) ∧ w'.cell? ⟨w3.heap.size, 1, none⟩ = some (.bool UP) ∧ w'.cell? ⟨w3.heap.size, 2, none⟩ = some (.int .i64 ROOM) ∧ w'.cell? ⟨w3.heap.size, 3, none⟩ = some (.slice a3 RS.length c3) ∧ w'.cell? ⟨w3.heap.size, 4, none⟩ = some (.int .i64 F))) (go_keep)
        (first
        | (go_at_call 16; refine (HSP.out _ E8.out.drew).mono ?_; rintro e w9 ⟨a9, c9, rfl, hm9, hb9⟩; have N9 := hide_it (sf_drew hb9); have V9 := hide_it hm9.recs; obtain ⟨l90, l91, l92, l93, l94⟩ := (L8.out.after N9.out).cells5; obtain ⟨x90, x91, x92, x93, x94⟩ := (X8.out.after N9.out).cells5; clear hm9 hb9)
        | (go_at_call 15; refine (lnHouse_any ID UP ROOM _ _ RS F _ (V8.out.later N9.out (Nat.le_refl _)) V9.out hRl).mono ?_; rintro e w10 ⟨rfl, hb10⟩; have N10 := hide_it (N9.out.trans (hb10.mono N9.out.size)); obtain ⟨la0, la1, la2, la3, la4⟩ := (L8.out.after N10.out).cells5; obtain ⟨xa0, xa1, xa2, xa3, xa4⟩ := (X8.out.after N10.out).cells5; clear hb10))
      all_goals
        go_wp2
        go_ret
        exact ⟨rfl, B8.out.trans (N10.out.mono B8.out.size)⟩
    · have hbb := hBB.out
      have hoo := hO.out
      obtain ⟨ll0, ll1, ll2⟩ := logOk_f (hoOk_parts hbb).2.1
      simp only [hoFall, hbb, if_true, Prod.mk.injEq] at hoo
      obtain ⟨rfl, rfl, rfl, hRS, hF⟩ := hoo
      have OKX : hoOk id room RS F = true := by rw [← hRS, ← hF]; exact hoOk_fell kp hbb
      have EFR : fallR rs f kp = RS := by unfold fallR; rw [if_pos (hoOk_parts hbb).2.1]; exact hRS
      have EFF : fallF rs f kp = F := by unfold fallF; rw [if_pos (hoOk_parts hbb).2.1]; exact hF
      have HS1 : Hid (∀ W, Below wc.heap.size wc W → Calls Tryd.prog 18 #[houseV id false room (.slice a3 RS.length c3) F] W fun e w' => e = .returned (.bool true) ∧ Below W.heap.size W w') := fun W hb => by
        have := implHouseOk_any id false room _ RS F a W (V8.out.later hb (Nat.le_refl _)) hRl (HA.out _ (B8.out.trans (hb.mono B8.out.size))); rw [OKX] at this; exact this
      have HS2 : Hid (∀ W, Below wc.heap.size wc W → Calls Tryd.prog 17 #[houseV id false room (.slice a3 RS.length c3) F] W fun e w' => HoOut W w' e id true room RS F) := fun W hb => by
        have := implHRise_any id false room _ RS F a W (V8.out.later hb (Nat.le_refl _)) hRl (HA.out _ (B8.out.trans (hb.mono B8.out.size)))
        rw [show hoRise id room RS F = (id, true, room, RS, F) by simp [hoRise, OKX]] at this; exact this
      obtain ⟨ZR, hZR⟩ : ∃ l : List R, Hid (rs.take (fallN rs.length f 0) = l) := ⟨_, rfl⟩
      obtain ⟨ZF, hZF⟩ : ∃ l : Int, Hid ((fallN rs.length f 0 : Int) = l) := ⟨_, rfl⟩
      have hZl : tot ZR ≤ 1048576 := by
        have h1 := pre_take rs (fallN rs.length f 0) (fallN_le (keep := 0) ll0 ll1)
        rw [hZR.out] at h1; omega
      have HS3 : Hid (∀ W, Below wc.heap.size wc W → Calls Tryd.prog 14 #[houseV id up room (.slice ao rs.length co) f, .int .i64 0] W fun e w' => HoOut W w' e id false room ZR ZF) := fun W hb => by
        have := implHFall_any id up room _ rs f 0 a W (U8.out.later hb (Nat.le_refl _)) hl FM.out (HA.out _ (B8.out.trans (hb.mono B8.out.size)))
        rw [show hoFall id room rs f 0 = (id, false, room, ZR, ZF) by simp [hoFall, hbb, hZR.out, hZF.out]] at this; exact this
      have HS4 : Hid (∀ W, Below wc.heap.size wc W → Calls Tryd.prog 20 #[.agg #[.slice ao rs.length co, .int .i64 f], .int .i64 kp] W fun e w' => LogOut W w' e RS F) := fun W hb => by
        have := implFall_form _ rs f kp a W (U8.out.later hb (Nat.le_refl _)) FM.out hl (HA.out _ (B8.out.trans (hb.mono B8.out.size)))
        rw [EFR, EFF] at this; exact this
      obtain ⟨QH, hQH⟩ : ∃ o : Option (List Pl.H), Hid (hsO id room rs f true = o) := ⟨_, rfl⟩
      have eZ : hsO id room ZR ZF false = QH := by rw [← hZR.out, ← hZF.out, ← hQH.out]; exact hsO_fell hbb
      have QL : Hid ((oH QH).length ≤ 6) := by show _ ≤ _; rw [← hQH.out]; exact hsO_len _ _ _ _ _
      have HS5 : Hid (∀ W, Below wc.heap.size wc W → Calls Tryd.prog 6 #[houseV id up room (.slice ao rs.length co) f, .bool true] W fun e w' => SkOut W w' e (oR room QH) (oH QH)) := fun W hb => by
        have := implHStock_any id up room _ rs f true a W (U8.out.later hb (Nat.le_refl _)) FM.out hl (HA.out _ (B8.out.trans (hb.mono B8.out.size))); rw [hQH.out] at this; exact this
      have HS6 : Hid (∀ x y W, Below wc.heap.size wc W → Recs W (.slice x ZR.length y) ZR → Form (.slice x ZR.length y) ZR.length → Calls Tryd.prog 6 #[houseV id false room (.slice x ZR.length y) ZF, .bool false] W fun e w' => SkOut W w' e (oR room QH) (oH QH)) := fun x y W hb hR hf => by
        have := implHStock_any id false room _ ZR ZF false a W hR hf hZl (HA.out _ (B8.out.trans (hb.mono B8.out.size))); rw [eZ] at this; exact this
      obtain ⟨QR, hQR⟩ : ∃ o : Int, Hid (oR room QH = o) := ⟨_, rfl⟩
      obtain ⟨QS, hQS⟩ : ∃ o : List Pl.H, Hid (oH QH = o) := ⟨_, rfl⟩
      rw [hQS.out] at QL
      rw [hQR.out, hQS.out] at HS5 HS6
      clear hbb OKX EFR EFF eZ hRS hF ll0 ll1 ll2 hZR hZF hO hBB HSP HIM HOK
      clear l0 l1 l2 l3 l4 x0 x1 x2 x3 x4
      have E9 : Hid (Below wc.heap.size wc wc) := Below.refl _ _
      obtain ⟨L8_0, L8_1, L8_2, L8_3, L8_4⟩ := L8.out.cells5
      obtain ⟨X8_0, X8_1, X8_2, X8_3, X8_4⟩ := X8.out.cells5
      go_wp2_with fail
      refine (HS2.out _ E9.out).mono ?_
      rintro e w21 ⟨a9, c9, rfl, hm9, hb⟩
      clear L8_0 L8_1 L8_2 L8_3 L8_4 X8_0 X8_1 X8_2 X8_3 X8_4
      replace L8 := hide_it (L8.out.after hb)
      replace X8 := hide_it (X8.out.after hb)
      replace V8 := hide_it (V8.out.later hb (Nat.le_refl _))
      replace U8 := hide_it (U8.out.later hb (Nat.le_refl _))
      replace B8 := hide_it (B8.out.trans (hb.mono B8.out.size))
      replace E9 := hide_it (E9.out.trans (hb.mono E9.out.size))
      have M9 := hide_it (hm9.recs)
      clear hm9
      clear hb
      obtain ⟨L8_0, L8_1, L8_2, L8_3, L8_4⟩ := L8.out.cells5
      have L8_0a := fun o => cellAlloc L8_0 o
      have L8_1a := fun o => cellAlloc L8_1 o
      have L8_2a := fun o => cellAlloc L8_2 o
      have L8_3a := fun o => cellAlloc L8_3 o
      have L8_4a := fun o => cellAlloc L8_4 o
      have L8_lt := L8.out.lt
      obtain ⟨X8_0, X8_1, X8_2, X8_3, X8_4⟩ := X8.out.cells5
      have X8_0a := fun o => cellAlloc X8_0 o
      have X8_1a := fun o => cellAlloc X8_1 o
      have X8_2a := fun o => cellAlloc X8_2 o
      have X8_3a := fun o => cellAlloc X8_3 o
      have X8_4a := fun o => cellAlloc X8_4 o
      have X8_lt := X8.out.lt
      obtain ⟨w22, hw22⟩ : ∃ W, Hid (W = w21.alloc (.cells #[.int .i64 id, .bool true, .int .i64 room, .slice a9 RS.length c9, .int .i64 F] 27)) := ⟨_, rfl⟩
      have alw22 : Below w21.heap.size w21 w22 := by rw [hw22.out]; exact alloc_below _ _
      replace L8 := hide_it (L8.out.after alw22)
      replace X8 := hide_it (X8.out.after alw22)
      replace V8 := hide_it (V8.out.later alw22 (Nat.le_refl _))
      replace U8 := hide_it (U8.out.later alw22 (Nat.le_refl _))
      replace B8 := hide_it (B8.out.trans (alw22.mono B8.out.size))
      replace E9 := hide_it (E9.out.trans (alw22.mono E9.out.size))
      replace M9 := hide_it (M9.out.later alw22 (Nat.le_refl _))
      have Y9 : Hid (Blk w22 (w21.heap.size) #[.int .i64 id, .bool true, .int .i64 room, .slice a9 RS.length c9, .int .i64 F] 27) := by show Blk _ _ _ _; rw [hw22.out]; exact Blk.new _ _ _
      clear alw22
      go_wp2_with fail
      rw [← hw22.out]
      refine (HS3.out _ E9.out).mono ?_
      rintro e w23 ⟨a10, c10, rfl, hm10, hb⟩
      clear L8_0 L8_1 L8_2 L8_3 L8_4 L8_0a L8_1a L8_2a L8_3a L8_4a L8_lt X8_0 X8_1 X8_2 X8_3 X8_4 X8_0a X8_1a X8_2a X8_3a X8_4a X8_lt
      replace L8 := hide_it (L8.out.after hb)
      replace X8 := hide_it (X8.out.after hb)
      replace V8 := hide_it (V8.out.later hb (Nat.le_refl _))
      replace U8 := hide_it (U8.out.later hb (Nat.le_refl _))
      replace B8 := hide_it (B8.out.trans (hb.mono B8.out.size))
      replace E9 := hide_it (E9.out.trans (hb.mono E9.out.size))
      replace M9 := hide_it (M9.out.later hb (Nat.le_refl _))
      replace Y9 := hide_it (Y9.out.after hb)
      have M10 := hide_it (hm10.recs)
      have F10 := hide_it (form_made hm10)
      clear hm10
      clear hb
      obtain ⟨L8_0, L8_1, L8_2, L8_3, L8_4⟩ := L8.out.cells5
      have L8_0a := fun o => cellAlloc L8_0 o
      have L8_1a := fun o => cellAlloc L8_1 o
      have L8_2a := fun o => cellAlloc L8_2 o
      have L8_3a := fun o => cellAlloc L8_3 o
      have L8_4a := fun o => cellAlloc L8_4 o
      have L8_lt := L8.out.lt
      obtain ⟨X8_0, X8_1, X8_2, X8_3, X8_4⟩ := X8.out.cells5
      have X8_0a := fun o => cellAlloc X8_0 o
      have X8_1a := fun o => cellAlloc X8_1 o
      have X8_2a := fun o => cellAlloc X8_2 o
      have X8_3a := fun o => cellAlloc X8_3 o
      have X8_4a := fun o => cellAlloc X8_4 o
      have X8_lt := X8.out.lt
      obtain ⟨Y9_0, Y9_1, Y9_2, Y9_3, Y9_4⟩ := Y9.out.cells5
      have Y9_0a := fun o => cellAlloc Y9_0 o
      have Y9_1a := fun o => cellAlloc Y9_1 o
      have Y9_2a := fun o => cellAlloc Y9_2 o
      have Y9_3a := fun o => cellAlloc Y9_3 o
      have Y9_4a := fun o => cellAlloc Y9_4 o
      have Y9_lt := Y9.out.lt
      obtain ⟨w24, hw24⟩ : ∃ W, Hid (W = w23.alloc (.cells #[.int .i64 id, .bool false, .int .i64 room, .slice a10 ZR.length c10, .int .i64 ZF] 27)) := ⟨_, rfl⟩
      have alw24 : Below w23.heap.size w23 w24 := by rw [hw24.out]; exact alloc_below _ _
      replace L8 := hide_it (L8.out.after alw24)
      replace X8 := hide_it (X8.out.after alw24)
      replace V8 := hide_it (V8.out.later alw24 (Nat.le_refl _))
      replace U8 := hide_it (U8.out.later alw24 (Nat.le_refl _))
      replace B8 := hide_it (B8.out.trans (alw24.mono B8.out.size))
      replace E9 := hide_it (E9.out.trans (alw24.mono E9.out.size))
      replace M9 := hide_it (M9.out.later alw24 (Nat.le_refl _))
      replace Y9 := hide_it (Y9.out.after alw24)
      replace M10 := hide_it (M10.out.later alw24 (Nat.le_refl _))
      have Z9 : Hid (Blk w24 (w23.heap.size) #[.int .i64 id, .bool false, .int .i64 room, .slice a10 ZR.length c10, .int .i64 ZF] 27) := by show Blk _ _ _ _; rw [hw24.out]; exact Blk.new _ _ _
      clear alw24
      obtain ⟨L8_0, L8_1, L8_2, L8_3, L8_4⟩ := L8.out.cells5
      obtain ⟨X8_0, X8_1, X8_2, X8_3, X8_4⟩ := X8.out.cells5
      obtain ⟨Y9_0, Y9_1, Y9_2, Y9_3, Y9_4⟩ := Y9.out.cells5
      obtain ⟨Z9_0, Z9_1, Z9_2, Z9_3, Z9_4⟩ := Z9.out.cells5
      go_wp2_with fail
      rw [← hw24.out]
      have KB : Hid (∀ W, Below w24.heap.size w24 W → (W.cell? ⟨w3.heap.size, 0, none⟩ = some (.int .i64 id) ∧ W.cell? ⟨w3.heap.size, 1, none⟩ = some (.bool false) ∧ W.cell? ⟨w3.heap.size, 2, none⟩ = some (.int .i64 room) ∧ W.cell? ⟨w3.heap.size, 3, none⟩ = some (.slice a3 RS.length c3) ∧ W.cell? ⟨w3.heap.size, 4, none⟩ = some (.int .i64 F)) ∧ (W.cell? ⟨w1.heap.size, 0, none⟩ = some (.int .i64 id) ∧ W.cell? ⟨w1.heap.size, 1, none⟩ = some (.bool up) ∧ W.cell? ⟨w1.heap.size, 2, none⟩ = some (.int .i64 room) ∧ W.cell? ⟨w1.heap.size, 3, none⟩ = some (.slice ao rs.length co) ∧ W.cell? ⟨w1.heap.size, 4, none⟩ = some (.int .i64 f)) ∧ (W.cell? ⟨w21.heap.size, 0, none⟩ = some (.int .i64 id) ∧ W.cell? ⟨w21.heap.size, 1, none⟩ = some (.bool true) ∧ W.cell? ⟨w21.heap.size, 2, none⟩ = some (.int .i64 room) ∧ W.cell? ⟨w21.heap.size, 3, none⟩ = some (.slice a9 RS.length c9) ∧ W.cell? ⟨w21.heap.size, 4, none⟩ = some (.int .i64 F)) ∧ (W.cell? ⟨w23.heap.size, 0, none⟩ = some (.int .i64 id) ∧ W.cell? ⟨w23.heap.size, 1, none⟩ = some (.bool false) ∧ W.cell? ⟨w23.heap.size, 2, none⟩ = some (.int .i64 room) ∧ W.cell? ⟨w23.heap.size, 3, none⟩ = some (.slice a10 ZR.length c10) ∧ W.cell? ⟨w23.heap.size, 4, none⟩ = some (.int .i64 ZF))) := fun W hb => ⟨(X8.out.after hb).cells5, (L8.out.after hb).cells5, (Y9.out.after hb).cells5, (Z9.out.after hb).cells5⟩
      clear L8_0 L8_1 L8_2 L8_3 L8_4 L8_0a L8_1a L8_2a L8_3a L8_4a L8_lt X8_0 X8_1 X8_2 X8_3 X8_4 X8_0a X8_1a X8_2a X8_3a X8_4a X8_lt Y9_0 Y9_1 Y9_2 Y9_3 Y9_4 Y9_0a Y9_1a Y9_2a Y9_3a Y9_4a Y9_lt Z9_0 Z9_1 Z9_2 Z9_3 Z9_4
      have LB : Hid (Below w24.heap.size w24 w24) := Below.refl _ _
      have hdr : Below w24.heap.size w24 w24.drew := (Below.refl _ _).drew
      replace L8 := hide_it (L8.out.after hdr)
      replace X8 := hide_it (X8.out.after hdr)
      replace V8 := hide_it (V8.out.later hdr (Nat.le_refl _))
      replace U8 := hide_it (U8.out.later hdr (Nat.le_refl _))
      replace B8 := hide_it (B8.out.trans (hdr.mono B8.out.size))
      replace E9 := hide_it (E9.out.trans (hdr.mono E9.out.size))
      replace M9 := hide_it (M9.out.later hdr (Nat.le_refl _))
      replace Y9 := hide_it (Y9.out.after hdr)
      replace M10 := hide_it (M10.out.later hdr (Nat.le_refl _))
      replace Z9 := hide_it (Z9.out.after hdr)
      replace LB := hide_it (LB.out.trans (hdr.mono LB.out.size))
      clear hdr
      refine wp_region_held_drew (S := fun w' => (w'.cell? ⟨w3.heap.size, 0, none⟩ = some (.int .i64 id) ∧ w'.cell? ⟨w3.heap.size, 1, none⟩ = some (.bool false) ∧ w'.cell? ⟨w3.heap.size, 2, none⟩ = some (.int .i64 room) ∧ w'.cell? ⟨w3.heap.size, 3, none⟩ = some (.slice a3 RS.length c3) ∧ w'.cell? ⟨w3.heap.size, 4, none⟩ = some (.int .i64 F)) ∧ (w'.cell? ⟨w1.heap.size, 0, none⟩ = some (.int .i64 id) ∧ w'.cell? ⟨w1.heap.size, 1, none⟩ = some (.bool up) ∧ w'.cell? ⟨w1.heap.size, 2, none⟩ = some (.int .i64 room) ∧ w'.cell? ⟨w1.heap.size, 3, none⟩ = some (.slice ao rs.length co) ∧ w'.cell? ⟨w1.heap.size, 4, none⟩ = some (.int .i64 f)) ∧ (w'.cell? ⟨w21.heap.size, 0, none⟩ = some (.int .i64 id) ∧ w'.cell? ⟨w21.heap.size, 1, none⟩ = some (.bool true) ∧ w'.cell? ⟨w21.heap.size, 2, none⟩ = some (.int .i64 room) ∧ w'.cell? ⟨w21.heap.size, 3, none⟩ = some (.slice a9 RS.length c9) ∧ w'.cell? ⟨w21.heap.size, 4, none⟩ = some (.int .i64 F)) ∧ (w'.cell? ⟨w23.heap.size, 0, none⟩ = some (.int .i64 id) ∧ w'.cell? ⟨w23.heap.size, 1, none⟩ = some (.bool false) ∧ w'.cell? ⟨w23.heap.size, 2, none⟩ = some (.int .i64 room) ∧ w'.cell? ⟨w23.heap.size, 3, none⟩ = some (.slice a10 ZR.length c10) ∧ w'.cell? ⟨w23.heap.size, 4, none⟩ = some (.int .i64 ZF))) (by kernel_rfl) (KB.out _ (Below.refl _ _).drew) (fun hHeld => ?_)
      refine takeD (i := 0) (v := ?_) (some 39) rfl rfl (by kernel_rfl) (by kernel_rfl) (by kernel_rfl) (fun _ _ _ h => h) (by rfl) hHeld ?_ ?_
      rotate_left
      · intro W hSw
        try dsimp only at hSw
        go_simp
        try with_reducible rfl
      try simp only [Act.put]
      try simp only [List.setIfInBounds_toArray]
      try simp only [List.set_cons_succ]
      try simp only [List.set_cons_zero]
      refine wpAnyH_ready (rs := [1]) (by kernel_rfl) (by simp) ?_
      refine AllReadyH.cons rfl (fun K hK => ?_) AllReadyH.nil
      go_simp
      refine (HS1.out _ E9.out).mono ?_
      rintro e w25 ⟨rfl, hb⟩
      replace L8 := hide_it (L8.out.after hb)
      replace X8 := hide_it (X8.out.after hb)
      replace V8 := hide_it (V8.out.later hb (Nat.le_refl _))
      replace U8 := hide_it (U8.out.later hb (Nat.le_refl _))
      replace B8 := hide_it (B8.out.trans (hb.mono B8.out.size))
      replace E9 := hide_it (E9.out.trans (hb.mono E9.out.size))
      replace M9 := hide_it (M9.out.later hb (Nat.le_refl _))
      replace Y9 := hide_it (Y9.out.after hb)
      replace M10 := hide_it (M10.out.later hb (Nat.le_refl _))
      replace Z9 := hide_it (Z9.out.after hb)
      replace LB := hide_it (LB.out.trans (hb.mono LB.out.size))
      clear hb
      try dsimp only
      refine hK.out _ _ (KB.out _ LB.out) (fun hHeld => ?_)
      clear hK K
      refine takeD (i := 2) (v := ?_) (some 41) rfl rfl (by kernel_rfl) (by kernel_rfl) (by kernel_rfl) (fun _ _ _ h => h) (by rfl) hHeld ?_ ?_
      rotate_left
      · intro W hSw
        try dsimp only at hSw
        go_simp
        try with_reducible rfl
      try simp only [Act.put]
      try simp only [List.setIfInBounds_toArray]
      try simp only [List.set_cons_succ]
      try simp only [List.set_cons_zero]
      refine takeD (i := 3) (v := ?_) (some 42) rfl rfl (by kernel_rfl) (by kernel_rfl) (by kernel_rfl) (fun _ _ _ h => h) (by rfl) hHeld ?_ ?_
      rotate_left
      · intro W hSw
        try dsimp only at hSw
        go_simp
        try with_reducible rfl
      try simp only [Act.put]
      try simp only [List.setIfInBounds_toArray]
      try simp only [List.set_cons_succ]
      try simp only [List.set_cons_zero]
      refine takeD (i := 4) (v := ?_) (some 43) rfl rfl (by kernel_rfl) (by kernel_rfl) (by kernel_rfl) (fun _ _ _ h => h) (by rfl) hHeld ?_ ?_
      rotate_left
      · intro W hSw
        try dsimp only at hSw
        go_simp
        try with_reducible rfl
      try simp only [Act.put]
      try simp only [List.setIfInBounds_toArray]
      try simp only [List.set_cons_succ]
      try simp only [List.set_cons_zero]
      refine takeD (i := 5) (v := ?_) (some 44) rfl rfl (by kernel_rfl) (by kernel_rfl) (by kernel_rfl) (fun _ _ _ h => h) (by rfl) hHeld ?_ ?_
      rotate_left
      · intro W hSw
        try dsimp only at hSw
        go_simp
        try with_reducible rfl
      try simp only [Act.put]
      try simp only [List.setIfInBounds_toArray]
      try simp only [List.set_cons_succ]
      try simp only [List.set_cons_zero]
      refine takeD (i := 6) (v := ?_) (some 45) rfl rfl (by kernel_rfl) (by kernel_rfl) (by kernel_rfl) (fun _ _ _ h => h) (by rfl) hHeld ?_ ?_
      rotate_left
      · intro W hSw
        try dsimp only at hSw
        go_simp
        try with_reducible rfl
      try simp only [Act.put]
      try simp only [List.setIfInBounds_toArray]
      try simp only [List.set_cons_succ]
      try simp only [List.set_cons_zero]
      refine takeD (i := 7) (v := ?_) (some 46) rfl rfl (by kernel_rfl) (by kernel_rfl) (by kernel_rfl) (fun _ _ _ h => h) (by rfl) hHeld ?_ ?_
      rotate_left
      · intro W hSw
        try dsimp only at hSw
        go_simp
        try with_reducible rfl
      try simp only [Act.put]
      try simp only [List.setIfInBounds_toArray]
      try simp only [List.set_cons_succ]
      try simp only [List.set_cons_zero]
      refine takeD (i := 8) (v := ?_) (some 47) rfl rfl (by kernel_rfl) (by kernel_rfl) (by kernel_rfl) (fun _ _ _ h => h) (by rfl) hHeld ?_ ?_
      rotate_left
      · intro W hSw
        try dsimp only at hSw
        go_simp
        try with_reducible rfl
      try simp only [Act.put]
      try simp only [List.setIfInBounds_toArray]
      try simp only [List.set_cons_succ]
      try simp only [List.set_cons_zero]
      refine takeD (i := 9) (v := ?_) (some 48) rfl rfl (by kernel_rfl) (by kernel_rfl) (by kernel_rfl) (fun _ _ _ h => h) (by rfl) hHeld ?_ ?_
      rotate_left
      · intro W hSw
        try dsimp only at hSw
        go_simp
        try with_reducible rfl
      try simp only [Act.put]
      try simp only [List.setIfInBounds_toArray]
      try simp only [List.set_cons_succ]
      try simp only [List.set_cons_zero]
      refine takeD (i := 10) (v := ?_) (some 49) rfl rfl (by kernel_rfl) (by kernel_rfl) (by kernel_rfl) (fun _ _ _ h => h) (by rfl) hHeld ?_ ?_
      rotate_left
      · intro W hSw
        try dsimp only at hSw
        go_simp
        try with_reducible rfl
      try simp only [Act.put]
      try simp only [List.setIfInBounds_toArray]
      try simp only [List.set_cons_succ]
      try simp only [List.set_cons_zero]
      refine takeD (i := 11) (v := ?_) (some 50) rfl rfl (by kernel_rfl) (by kernel_rfl) (by kernel_rfl) (fun _ _ _ h => h) (by rfl) hHeld ?_ ?_
      rotate_left
      · intro W hSw
        try dsimp only at hSw
        go_simp
        try with_reducible rfl
      try simp only [Act.put]
      try simp only [List.setIfInBounds_toArray]
      try simp only [List.set_cons_succ]
      try simp only [List.set_cons_zero]
      refine takeD (i := 12) (v := ?_) (some 51) rfl rfl (by kernel_rfl) (by kernel_rfl) (by kernel_rfl) (fun _ _ _ h => h) (by rfl) hHeld ?_ ?_
      rotate_left
      · intro W hSw
        try dsimp only at hSw
        go_simp
        try with_reducible rfl
      try simp only [Act.put]
      try simp only [List.setIfInBounds_toArray]
      try simp only [List.set_cons_succ]
      try simp only [List.set_cons_zero]
      refine wpAnyH_ready (rs := [13]) (by kernel_rfl) (by simp) ?_
      refine AllReadyH.cons rfl (fun K hK => ?_) AllReadyH.nil
      go_simp
      refine (HS4.out _ E9.out).mono ?_
      rintro e w26 ⟨a14, c14, rfl, hm14, hb⟩
      replace L8 := hide_it (L8.out.after hb)
      replace X8 := hide_it (X8.out.after hb)
      replace V8 := hide_it (V8.out.later hb (Nat.le_refl _))
      replace U8 := hide_it (U8.out.later hb (Nat.le_refl _))
      replace B8 := hide_it (B8.out.trans (hb.mono B8.out.size))
      replace E9 := hide_it (E9.out.trans (hb.mono E9.out.size))
      replace M9 := hide_it (M9.out.later hb (Nat.le_refl _))
      replace Y9 := hide_it (Y9.out.after hb)
      replace M10 := hide_it (M10.out.later hb (Nat.le_refl _))
      replace Z9 := hide_it (Z9.out.after hb)
      replace LB := hide_it (LB.out.trans (hb.mono LB.out.size))
      have M14 := hide_it hm14.recs
      clear hm14
      clear hb
      try dsimp only
      refine hK.out _ _ (KB.out _ LB.out) (fun hHeld => ?_)
      clear hK K
      refine wpAnyH_ready (rs := [14]) (by kernel_rfl) (by simp) ?_
      refine AllReadyH.cons rfl (fun K hK => ?_) AllReadyH.nil
      go_simp
      refine (lnLog_any _ _ RS F _ V8.out M14.out hRl).mono ?_
      rintro e w27 ⟨rfl, hb⟩
      replace L8 := hide_it (L8.out.after hb)
      replace X8 := hide_it (X8.out.after hb)
      replace V8 := hide_it (V8.out.later hb (Nat.le_refl _))
      replace U8 := hide_it (U8.out.later hb (Nat.le_refl _))
      replace B8 := hide_it (B8.out.trans (hb.mono B8.out.size))
      replace E9 := hide_it (E9.out.trans (hb.mono E9.out.size))
      replace M9 := hide_it (M9.out.later hb (Nat.le_refl _))
      replace Y9 := hide_it (Y9.out.after hb)
      replace M10 := hide_it (M10.out.later hb (Nat.le_refl _))
      replace Z9 := hide_it (Z9.out.after hb)
      replace LB := hide_it (LB.out.trans (hb.mono LB.out.size))
      clear hb
      try dsimp only
      refine hK.out _ _ (KB.out _ LB.out) (fun hHeld => ?_)
      clear hK K
      refine takeD (i := 15) (v := ?_) (some 54) rfl rfl (by kernel_rfl) (by kernel_rfl) (by kernel_rfl) (fun _ _ _ h => h) (by rfl) hHeld ?_ ?_
      rotate_left
      · intro W hSw
        try dsimp only at hSw
        go_simp
        try with_reducible rfl
      try simp only [Act.put]
      try simp only [List.setIfInBounds_toArray]
      try simp only [List.set_cons_succ]
      try simp only [List.set_cons_zero]
      refine takeD (i := 16) (v := ?_) (some 55) rfl rfl (by kernel_rfl) (by kernel_rfl) (by kernel_rfl) (fun _ _ _ h => h) (by rfl) hHeld ?_ ?_
      rotate_left
      · intro W hSw
        try dsimp only at hSw
        go_simp
        try with_reducible rfl
      try simp only [Act.put]
      try simp only [List.setIfInBounds_toArray]
      try simp only [List.set_cons_succ]
      try simp only [List.set_cons_zero]
      refine takeD (i := 17) (v := ?_) (some 56) rfl rfl (by kernel_rfl) (by kernel_rfl) (by kernel_rfl) (fun _ _ _ h => h) (by rfl) hHeld ?_ ?_
      rotate_left
      · intro W hSw
        try dsimp only at hSw
        go_simp
        try with_reducible rfl
      try simp only [Act.put]
      try simp only [List.setIfInBounds_toArray]
      try simp only [List.set_cons_succ]
      try simp only [List.set_cons_zero]
      refine takeD (i := 18) (v := ?_) (some 57) rfl rfl (by kernel_rfl) (by kernel_rfl) (by kernel_rfl) (fun _ _ _ h => h) (by rfl) hHeld ?_ ?_
      rotate_left
      · intro W hSw
        try dsimp only at hSw
        go_simp
        try with_reducible rfl
      try simp only [Act.put]
      try simp only [List.setIfInBounds_toArray]
      try simp only [List.set_cons_succ]
      try simp only [List.set_cons_zero]
      refine takeD (i := 19) (v := ?_) (some 58) rfl rfl (by kernel_rfl) (by kernel_rfl) (by kernel_rfl) (fun _ _ _ h => h) (by rfl) hHeld ?_ ?_
      rotate_left
      · intro W hSw
        try dsimp only at hSw
        go_simp
        try with_reducible rfl
      try simp only [Act.put]
      try simp only [List.setIfInBounds_toArray]
      try simp only [List.set_cons_succ]
      try simp only [List.set_cons_zero]
      refine takeD (i := 20) (v := ?_) (some 59) rfl rfl (by kernel_rfl) (by kernel_rfl) (by kernel_rfl) (fun _ _ _ h => h) (by rfl) hHeld ?_ ?_
      rotate_left
      · intro W hSw
        try dsimp only at hSw
        go_simp
        try with_reducible rfl
      try simp only [Act.put]
      try simp only [List.setIfInBounds_toArray]
      try simp only [List.set_cons_succ]
      try simp only [List.set_cons_zero]
      refine takeD (i := 21) (v := ?_) (some 60) rfl rfl (by kernel_rfl) (by kernel_rfl) (by kernel_rfl) (fun _ _ _ h => h) (by rfl) hHeld ?_ ?_
      rotate_left
      · intro W hSw
        try dsimp only at hSw
        go_simp
        try with_reducible rfl
      try simp only [Act.put]
      try simp only [List.setIfInBounds_toArray]
      try simp only [List.set_cons_succ]
      try simp only [List.set_cons_zero]
      refine takeD (i := 22) (v := ?_) (some 61) rfl rfl (by kernel_rfl) (by kernel_rfl) (by kernel_rfl) (fun _ _ _ h => h) (by rfl) hHeld ?_ ?_
      rotate_left
      · intro W hSw
        try dsimp only at hSw
        go_simp
        try with_reducible rfl
      try simp only [Act.put]
      try simp only [List.setIfInBounds_toArray]
      try simp only [List.set_cons_succ]
      try simp only [List.set_cons_zero]
      refine takeD (i := 23) (v := ?_) (some 62) rfl rfl (by kernel_rfl) (by kernel_rfl) (by kernel_rfl) (fun _ _ _ h => h) (by rfl) hHeld ?_ ?_
      rotate_left
      · intro W hSw
        try dsimp only at hSw
        go_simp
        try with_reducible rfl
      try simp only [Act.put]
      try simp only [List.setIfInBounds_toArray]
      try simp only [List.set_cons_succ]
      try simp only [List.set_cons_zero]
      refine takeD (i := 24) (v := ?_) (some 63) rfl rfl (by kernel_rfl) (by kernel_rfl) (by kernel_rfl) (fun _ _ _ h => h) (by rfl) hHeld ?_ ?_
      rotate_left
      · intro W hSw
        try dsimp only at hSw
        go_simp
        try with_reducible rfl
      try simp only [Act.put]
      try simp only [List.setIfInBounds_toArray]
      try simp only [List.set_cons_succ]
      try simp only [List.set_cons_zero]
      refine wpAnyH_ready (rs := [25]) (by kernel_rfl) (by simp) ?_
      refine AllReadyH.cons rfl (fun K hK => ?_) AllReadyH.nil
      go_simp
      refine (lnLog_any _ _ RS F _ M9.out V8.out hRl).mono ?_
      rintro e w28 ⟨rfl, hb⟩
      replace L8 := hide_it (L8.out.after hb)
      replace X8 := hide_it (X8.out.after hb)
      replace V8 := hide_it (V8.out.later hb (Nat.le_refl _))
      replace U8 := hide_it (U8.out.later hb (Nat.le_refl _))
      replace B8 := hide_it (B8.out.trans (hb.mono B8.out.size))
      replace E9 := hide_it (E9.out.trans (hb.mono E9.out.size))
      replace M9 := hide_it (M9.out.later hb (Nat.le_refl _))
      replace Y9 := hide_it (Y9.out.after hb)
      replace M10 := hide_it (M10.out.later hb (Nat.le_refl _))
      replace Z9 := hide_it (Z9.out.after hb)
      replace LB := hide_it (LB.out.trans (hb.mono LB.out.size))
      clear hb
      try dsimp only
      refine hK.out _ _ (KB.out _ LB.out) (fun hHeld => ?_)
      clear hK K
      refine takeD (i := 26) (v := ?_) (some 65) rfl rfl (by kernel_rfl) (by kernel_rfl) (by kernel_rfl) (fun _ _ _ h => h) (by rfl) hHeld ?_ ?_
      rotate_left
      · intro W hSw
        try dsimp only at hSw
        go_simp
        try with_reducible rfl
      try simp only [Act.put]
      try simp only [List.setIfInBounds_toArray]
      try simp only [List.set_cons_succ]
      try simp only [List.set_cons_zero]
      refine takeD (i := 27) (v := ?_) (some 66) rfl rfl (by kernel_rfl) (by kernel_rfl) (by kernel_rfl) (fun _ _ _ h => h) (by rfl) hHeld ?_ ?_
      rotate_left
      · intro W hSw
        try dsimp only at hSw
        go_simp
        try with_reducible rfl
      try simp only [Act.put]
      try simp only [List.setIfInBounds_toArray]
      try simp only [List.set_cons_succ]
      try simp only [List.set_cons_zero]
      refine takeD (i := 28) (v := ?_) (some 67) rfl rfl (by kernel_rfl) (by kernel_rfl) (by kernel_rfl) (fun _ _ _ h => h) (by rfl) hHeld ?_ ?_
      rotate_left
      · intro W hSw
        try dsimp only at hSw
        go_simp
        try with_reducible rfl
      try simp only [Act.put]
      try simp only [List.setIfInBounds_toArray]
      try simp only [List.set_cons_succ]
      try simp only [List.set_cons_zero]
      refine takeD (i := 30) (v := ?_) (some 69) rfl rfl (by kernel_rfl) (by kernel_rfl) (by kernel_rfl) (fun _ _ _ h => h) (by rfl) hHeld ?_ ?_
      rotate_left
      · intro W hSw
        try dsimp only at hSw
        go_simp
        try with_reducible rfl
      try simp only [Act.put]
      try simp only [List.setIfInBounds_toArray]
      try simp only [List.set_cons_succ]
      try simp only [List.set_cons_zero]
      refine wpAnyH_ready (rs := [29]) (by kernel_rfl) (by simp) ?_
      refine AllReadyH.cons rfl (fun K hK => ?_) AllReadyH.nil
      go_simp
      refine (HS6.out _ _ _ E9.out M10.out F10.out).mono ?_
      rintro e w29 ⟨a29, c29, rfl, ho29, hb⟩
      replace L8 := hide_it (L8.out.after hb)
      replace X8 := hide_it (X8.out.after hb)
      replace V8 := hide_it (V8.out.later hb (Nat.le_refl _))
      replace U8 := hide_it (U8.out.later hb (Nat.le_refl _))
      replace B8 := hide_it (B8.out.trans (hb.mono B8.out.size))
      replace E9 := hide_it (E9.out.trans (hb.mono E9.out.size))
      replace M9 := hide_it (M9.out.later hb (Nat.le_refl _))
      replace Y9 := hide_it (Y9.out.after hb)
      replace M10 := hide_it (M10.out.later hb (Nat.le_refl _))
      replace Z9 := hide_it (Z9.out.after hb)
      replace LB := hide_it (LB.out.trans (hb.mono LB.out.size))
      have H29 := hide_it (holds_of_row ho29)
      clear ho29
      clear hb
      try dsimp only
      refine hK.out _ _ (KB.out _ LB.out) (fun hHeld => ?_)
      clear hK K
      refine wpAnyH_ready (rs := [31]) (by kernel_rfl) (by simp) ?_
      refine AllReadyH.cons rfl (fun K hK => ?_) AllReadyH.nil
      go_simp
      refine (HS5.out _ E9.out).mono ?_
      rintro e w30 ⟨a31, c31, rfl, ho31, hb⟩
      replace L8 := hide_it (L8.out.after hb)
      replace X8 := hide_it (X8.out.after hb)
      replace V8 := hide_it (V8.out.later hb (Nat.le_refl _))
      replace U8 := hide_it (U8.out.later hb (Nat.le_refl _))
      replace B8 := hide_it (B8.out.trans (hb.mono B8.out.size))
      replace E9 := hide_it (E9.out.trans (hb.mono E9.out.size))
      replace M9 := hide_it (M9.out.later hb (Nat.le_refl _))
      replace Y9 := hide_it (Y9.out.after hb)
      replace M10 := hide_it (M10.out.later hb (Nat.le_refl _))
      replace Z9 := hide_it (Z9.out.after hb)
      replace LB := hide_it (LB.out.trans (hb.mono LB.out.size))
      have H31 := hide_it (holds_of_row ho31)
      have H29b := hide_it (H29.out.later hb (Nat.le_refl _))
      clear ho31
      clear hb
      try dsimp only
      refine hK.out _ _ (KB.out _ LB.out) (fun hHeld => ?_)
      clear hK K
      refine wpAnyH_ready (rs := [32]) (by kernel_rfl) (by simp) ?_
      refine AllReadyH.cons rfl (fun K hK => ?_) AllReadyH.nil
      go_simp
      refine (lnStock_any QR _ _ QS _ H29b.out H31.out (by have := QL.out; omega)).mono ?_
      rintro e w31 ⟨rfl, hb⟩
      replace L8 := hide_it (L8.out.after hb)
      replace X8 := hide_it (X8.out.after hb)
      replace V8 := hide_it (V8.out.later hb (Nat.le_refl _))
      replace U8 := hide_it (U8.out.later hb (Nat.le_refl _))
      replace B8 := hide_it (B8.out.trans (hb.mono B8.out.size))
      replace E9 := hide_it (E9.out.trans (hb.mono E9.out.size))
      replace M9 := hide_it (M9.out.later hb (Nat.le_refl _))
      replace Y9 := hide_it (Y9.out.after hb)
      replace M10 := hide_it (M10.out.later hb (Nat.le_refl _))
      replace Z9 := hide_it (Z9.out.after hb)
      replace LB := hide_it (LB.out.trans (hb.mono LB.out.size))
      clear hb
      try dsimp only
      refine hK.out _ _ (KB.out _ LB.out) (fun hHeld => ?_)
      clear hK K
      refine takeD (i := 33) (v := ?_) (some 72) rfl rfl (by kernel_rfl) (by kernel_rfl) (by kernel_rfl) (fun _ _ _ h => h) (by rfl) hHeld ?_ ?_
      rotate_left
      · intro W hSw
        try dsimp only at hSw
        go_simp
        try with_reducible rfl
      try simp only [Act.put]
      try simp only [List.setIfInBounds_toArray]
      try simp only [List.set_cons_succ]
      try simp only [List.set_cons_zero]
      refine takeD (i := 34) (v := ?_) (some 2) rfl rfl (by kernel_rfl) (by kernel_rfl) (by kernel_rfl) (fun _ _ _ h => h) (by rfl) hHeld ?_ ?_
      rotate_left
      · intro W hSw
        try dsimp only at hSw
        go_simp
        try with_reducible rfl
      try simp only [Act.put]
      try simp only [List.setIfInBounds_toArray]
      try simp only [List.set_cons_succ]
      try simp only [List.set_cons_zero]
      refine wpAnyH_done (by kernel_rfl) ?_ _
      clear KB LB
      go_wp2
      go_ret
      exact ⟨rfl, B8.out⟩

end Go.Proofs.YtgeagfglkgpoiaaDoor

namespace Go.Proofs.YtgeagfglkgpoiaaDoor
open Go.ChangeShapes Go.WideShapes Go.ChangeAt Go.WideMaps Go.WideElems Go.RowKit Go.Joins

set_option maxRecDepth 100000 in
set_option maxHeartbeats 2000000 in
theorem lawP37_great (ac : Option Addr) (nc cc : Nat) (w : World) (h : 1048576 < (nc : Int)) :
    Calls Tryd.prog 4 #[.slice ac nc cc] w fun e w' => e = .returned (.bool true) ∧ Below w.heap.size w w' := by
  go_enter Tryd.func4, Tryd.ntmps4
  go_wp2
  go_ret
  exact ⟨rfl, Below.refl _ _⟩

theorem lawP37_any (vc : Value) (nc : Nat) (a : Addr) (w : World) (hc : CodeAt w vc nc) (ha : ErrAt w a) :
    Calls Tryd.prog 4 #[vc] w fun e w' => e = .returned (.bool true) ∧ Below w.heap.size w w' := by
  by_cases h1 : nc ≤ 1048576
  · exact lawP37_small vc nc a w hc h1 ha
  · obtain ⟨ac, cc, rfl, _⟩ := hc
    exact lawP37_great ac nc cc w (by omega)

set_option maxRecDepth 100000 in
theorem p37_lifted (os : Os) (started : os.Started) (H : Type) (enc : TypeId × Value → H) :
    ReturnsInHanded {} Tryd.checked os 4 .any (fun w args => (Rows.fnHouseFallSpec.pre enc Tryd.prog Tryd.f4 [] false w args ∧ laidMetH Tryd.prog laidErr w) ∧ sizedMet enc Tryd.prog Tryd.f4 (OpenSpec.ofChange Rows.fnHouseFallSpec) false w args)
      (Rows.fnHouseFallSpec.post enc Tryd.prog Tryd.f4 false true false false) := by
  refine returnsInHanded_of_change_and (C := Tryd.checked) (X := fun w _ => laidMetH Tryd.prog laidErr w) (fun _ _ _ hh h => h.of_heap hh) own started (by kernel_rfl) Tryd.func4
    (ChangeSpec.witness_shaped (enc := enc) (C := Tryd.checked) (os := os) (X := fun w _ => laidMetH Tryd.prog laidErr w) false (World.doorLaid Tryd.prog 28 os) #[.slice none 0 0] 8 rfl (World.shaped_of_RefB (by kernel_rfl) (by kernel_rfl)) (by kernel_rfl) (by kernel_rfl) (by kernel_rfl) (door_met os _)) ?_
  intro W base args ds gs before hval0 hW _ _ hL _
  have hval : ∀ (j : Nat) t v, Tryd.f4.params[j]? = some t → args[j]? = some v → Value.okWide Tryd.prog W .any base t v := hval0
  have hW' := hW
  obtain ⟨p, q, hA0, hV0, rfl, hfz, hnd⟩ := hW
  have hA : DataW.TrodAll enc Tryd.prog W 0 (fun _ => true) true Tryd.f4.params.toList args.toList ds p := hA0
  have hV : DataW.TrodVars enc Tryd.prog W (fun _ => true) ["loop.example/concierge/impl.errNoRec"] gs q := hV0
  rw [Tryd.params4] at hA hval
  obtain ⟨v0, d0, rfl, rfl, h0⟩ := trodAll_one hA
  obtain ⟨a, hErr, hvar⟩ := of_laid hL
  have vr : ∀ {X : World}, X.var? Tryd.prog "loop.example/concierge/impl.errNoRec" = some #[.iface 125 (.pointer (some a))] → ∀ sp : Nat → Bool,
      DataW.TrodVars enc Tryd.prog X sp ["loop.example/concierge/impl.errNoRec"] [tok enc (.iface 125 (.pointer (some a)))] [.cell 0 0] :=
    fun x0 sp => vars_read1 enc gErr gErrType Tryd.underlying94 x0 trivial sp
  obtain ⟨rfl, rfl⟩ := hV.unique (vr hvar _)
  clear hA0 hV0 hval0
  obtain ⟨nc, hC, _⟩ := open_code (hval 0 22 v0 rfl rfl) h0
  refine (lawP37_any v0 nc a W hC hErr).mono fun e W' ⟨he, hb⟩ => ?_
  subst he
  have hlt : ∀ x ∈ p, x.block < W.heap.size := fun x hx => hW'.lt x (by simp [hx])
  refine ⟨_, rfl, _, _, _, [], p, [.cell 0 0], hW', ?_, ?_, ?_, hb.frame _, fun h => by cases h⟩
  · exact trodAll_mk1 (shut_bool Tryd.underlying4 true)
  · exact trodAll_mk1 (Below.trod laidOut (by kernel_rfl) (of_decide_eq_true (by kernel_rfl)) h0 hb hlt)
  · exact vr (var?_below hb gErr (World.block_lt_of_cell? _ _ hErr) hvar) _

theorem p37_said : Rows.FnHouseFallSaid :=
  OpenClaim.holds_of_wide 4 Tryd.f4 rfl rfl rfl rfl rfl rfl rfl ⟨rfl, rfl, rfl, rfl, rfl⟩ rfl rfl rfl rfl rfl (by kernel_rfl) Tryd.func4 (by kernel_rfl)
    (of_decide_eq_true (by kernel_rfl)) (by unfold Func.isWrapper; first | (rw [if_pos (by decide +kernel)]; kernel_rfl) | (rw [if_neg (by decide +kernel)]; exact ⟨rfl, rfl⟩))
    (fun os started H enc _ => p37_lifted os started H enc)

theorem p37_plain (f : FuncId) (fn : Func) (hf : Tryd.pinned.checked.prog.funcNamed "loop.example/concierge/laws.FnHouseFall" = some f) (hfn : Tryd.pinned.checked.prog.funcs[f]? = some fn) :
    true = Tryd.pinned.checked.prog.looks [] ∧ ∀ (j : Nat) t, fn.params[j]? = some t → Tryd.pinned.checked.prog.wantsStandIn t = false := by
  obtain rfl : f = 4 := Option.some.inj ((show Tryd.prog.funcNamed "loop.example/concierge/laws.FnHouseFall" = some 4 by kernel_rfl).symm.trans hf) |>.symm
  obtain rfl : fn = Tryd.f4 := (Option.some.inj (Tryd.func4.symm.trans hfn)).symm
  refine ⟨by kernel_rfl, fun j t ht => ?_⟩
  rw [Tryd.params4] at ht
  obtain rfl : t = 22 := by simpa using Array.mem_of_getElem? ht
  exact (show Tryd.prog.wantsStandIn 22 = false by kernel_rfl)

theorem p37_card : Rows.FnHouseFallCardSaid :=
  Claim7.holds_tied_plain_at .later [] _ _ _ _ p37_said (fun _ h => by cases h) (by kernel_rfl) (fun _ h => by cases h) fnHouseFall_row_tie rfl ⟨rfl, rfl⟩ (by kernel_rfl) rfl p37_plain (by kernel_rfl)
#print axioms p37_card

end Go.Proofs.YtgeagfglkgpoiaaDoor
