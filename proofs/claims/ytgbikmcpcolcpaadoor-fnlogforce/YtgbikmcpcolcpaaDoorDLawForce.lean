/- The law FnLogForce, walked: whatever the codes, it answers true, and nothing that was there before has turned. In a world in which the sentinel's variable holds a pointer to an errors.errorString. -/
import Derived.Test.YtgbikmcpcolcpaaDoorDFall
import Derived.Test.YtgbikmcpcolcpaaDoorLn
import Derived.Test.YtgbikmcpcolcpaaDoorSForce
import Derived.Deep.DeepCutAuto
namespace Go.Proofs.YtgbikmcpcolcpaaDoor
open Go.RowKit

theorem d_drew {w2 w3 : World} (hb : Below w2.drew.heap.size w2.drew w3) : Below w2.heap.size w2 w3 := (Below.refl w2.heap.size w2).drew.trans hb

set_option maxRecDepth 100000 in
set_option maxHeartbeats 8000000 in
theorem lawP6_small (vc : Value) (nc : Nat) (am : Option Addr) (nm cm : Nat) (a : Addr) (w : World) (hc : CodeAt w vc nc) (hnc : nc ≤ 1048576) (hnm : nm ≤ 1048576) (ha : ErrAt w a) :
    Calls Tryd.prog 4 #[vc, .slice am nm cm] w fun e w' => e = .returned (.bool true) ∧ Below w.heap.size w w' := by
  have HA : Hid (∀ W, Below w.heap.size w W → ErrAt W a) := fun W h => ha.later h (Nat.le_refl _)
  have HD := hide_it (drawForce_any vc nc w hc hnc)
  obtain ⟨ac, cc, rfl, _⟩ := hc
  clear ha
  go_enter Tryd.func4, Tryd.ntmps4
  go_wp2_with fail
  refine HD.out.mono ?_
  rintro e w1 ⟨u, f, rs, rfl, hu, hform, htot, hb1⟩
  obtain ⟨au, cu, hus⟩ := hu.shape
  subst hus
  have hl : tot rs ≤ 1048576 := by omega
  -- what comes out
  obtain ⟨RS, hRS⟩ : ∃ RS, forceR rs f = RS := ⟨_, rfl⟩
  obtain ⟨F, hF⟩ : ∃ F, forceF rs f = F := ⟨_, rfl⟩
  have hRl : tot RS ≤ 1048576 := by rw [← hRS]; have := forceR_len rs f htot; omega
  have HSP : Hid (∀ (x : Value) (W : World), Recs W x rs → Calls Tryd.prog 20 #[.agg #[x, .int .i64 f]] W fun e w' => LogOut W w' e RS F) := fun x W h => by rw [← hRS, ← hF]; exact specForce_any x rs f W h hl
  have HIM : Hid (∀ (x : Value) (W : World), Recs W x rs → ErrAt W a → Calls Tryd.prog 19 #[.agg #[x, .int .i64 f]] W fun e w' => LogOut W w' e RS F) := fun x W h h2 => by rw [← hRS, ← hF]; exact implForce_any x rs f a W h hl h2
  have HOK : Hid (∀ (x : Value) (W : World), Recs W x rs → Calls Tryd.prog 13 #[.agg #[x, .int .i64 f]] W fun e w' => e = .returned (.bool (logOk rs f)) ∧ Below W.heap.size W w') := fun x W h => specLogOk_any x rs f W h hl
  obtain ⟨BB, hBB⟩ : ∃ b, logOk rs f = b := ⟨_, rfl⟩
  rw [hBB] at HOK
  have HBB := hide_it hBB
  have HRS := hide_it hRS
  have HF := hide_it hF
  have B1 := hide_it hb1
  have U1 := hide_it hu
  clear hb1 hu hform hRS hF hBB
  -- l
  obtain ⟨w2, hw2⟩ : ∃ W, Hid (W = w1.alloc (.cells #[.slice au rs.length cu, .int .i64 f] 25)) := ⟨_, rfl⟩
  have al2 := hide_it (show Below w1.heap.size w1 w2 by rw [hw2.out]; exact alloc_below _ _)
  have B2 := hide_it (B1.out.trans (al2.out.mono B1.out.size))
  have U2 := hide_it (U1.out.later al2.out (Nat.le_refl _))
  have L2 : Hid (Two w2 w1.heap.size (.slice au rs.length cu) (.int .i64 f)) := by show Two _ _ _ _; rw [hw2.out]; exact box2 w1 _ _ _
  go_wp2_with fail
  rw [← hw2.out]
  refine (HIM.out _ w2 U2.out (HA.out _ B2.out)).mono ?_
  rintro e w3 ⟨a3, c3, rfl, hm3, hb3⟩
  -- x
  obtain ⟨w4, hw4⟩ : ∃ W, Hid (W = w3.alloc (.cells #[.slice a3 RS.length c3, .int .i64 F] 25)) := ⟨_, rfl⟩
  have al4 := hide_it (show Below w3.heap.size w3 w4 by rw [hw4.out]; exact alloc_below _ _)
  have N4 := hide_it (hb3.trans (al4.out.mono hb3.size))
  have B4 := hide_it (B2.out.trans (N4.out.mono B2.out.size))
  have U4 := hide_it (U2.out.later N4.out (Nat.le_refl _))
  have L4 := hide_it (L2.out.later N4.out (Nat.le_refl _))
  have M4 := hide_it (hm3.below al4.out (Nat.le_refl _))
  have X4 : Hid (Two w4 w3.heap.size (.slice a3 RS.length c3) (.int .i64 F)) := by show Two _ _ _ _; rw [hw4.out]; exact box2 w3 _ _ _
  have R4 := hide_it M4.out.recs
  have FO := hide_it M4.out.form'
  clear hm3 hb3
  obtain ⟨l0, l1⟩ := L4.out
  obtain ⟨x0, x1⟩ := X4.out
  have hz4 : w.heap.size ≤ w4.heap.size := B4.out.size
  go_wp2_with fail
  rw [← hw4.out]
  go_cut [28] (fun b W => b = .bool (!BB) ∧ Hid (Below w4.heap.size w4 W))
  case first =>
    first | (go_region_with (first
      | (go_at_call 20; refine (HSP.out _ _ (U4.out.later (Below.refl _ _).drew (Nat.le_refl _))).mono ?_; rintro e w5 ⟨a5, c5, rfl, hm5, hb5⟩; have N5 := hide_it (d_drew hb5); have V5 := hide_it hm5.recs; obtain ⟨l50, l51⟩ := L4.out.later N5.out (Nat.le_refl _); obtain ⟨x50, x51⟩ := X4.out.later N5.out (Nat.le_refl _); clear hm5 hb5)
      | (go_at_call 12; refine (lnLog_any _ _ RS F _ (R4.out.later N5.out (Nat.le_refl _)) V5.out hRl).mono ?_; rintro e w6 ⟨rfl, hb6⟩; have N6 := hide_it (N5.out.trans (hb6.mono N5.out.size)); obtain ⟨l60, l61⟩ := L4.out.later N6.out (Nat.le_refl _); obtain ⟨x60, x61⟩ := X4.out.later N6.out (Nat.le_refl _); clear hb6)
      | (go_at_call 13; refine (HOK.out _ _ (U4.out.later N6.out (Nat.le_refl _))).mono ?_; rintro e w7 ⟨rfl, hb7⟩; have N7 := hide_it (N6.out.trans (hb7.mono N6.out.size)); clear hb7))) | fail
    all_goals
      go_wp2_with fail
      go_meet
      case rel => exact ⟨by first | rfl | simp, N7⟩
  case rest =>
    obtain ⟨rfl, N8⟩ := hcut
    have B8 := hide_it (B4.out.trans (N8.out.mono hz4))
    have U8 := hide_it (U4.out.later N8.out (Nat.le_refl _))
    have R8 := hide_it (R4.out.later N8.out (Nat.le_refl _))
    have L8 := hide_it (L4.out.later N8.out (Nat.le_refl _))
    have X8 := hide_it (X4.out.later N8.out (Nat.le_refl _))
    clear l0 l1 x0 x1
    obtain ⟨l0, l1⟩ := L8.out
    obtain ⟨x0, x1⟩ := X8.out
    cases BB
    · go_wp2_with fail
      first | (go_region_with (first
        | (go_at_call 20; refine (HSP.out _ _ (U8.out.later (Below.refl _ _).drew (Nat.le_refl _))).mono ?_; rintro e w9 ⟨a9, c9, rfl, hm9, hb9⟩; have N9 := hide_it (d_drew hb9); have V9 := hide_it hm9.recs; obtain ⟨x90, x91⟩ := X8.out.later N9.out (Nat.le_refl _); clear hm9 hb9)
        | (go_at_call 12; refine (lnLog_any _ _ RS F _ (R8.out.later N9.out (Nat.le_refl _)) V9.out hRl).mono ?_; rintro e w10 ⟨rfl, hb10⟩; have N10 := hide_it (N9.out.trans (hb10.mono N9.out.size)); clear hb10))) | fail
      all_goals
        have B10 := hide_it (B8.out.trans (N10.out.mono B8.out.size))
        go_wp2
        go_ret
        exact ⟨rfl, B10.out⟩
    · have e1 := force_yes HBB.out
      obtain rfl : RS = rs := by rw [← HRS.out]; exact e1.1
      obtain rfl : F = RS.length := by rw [← HF.out]; exact e1.2
      have HFALL : Hid (∀ (keep : Int) (W : World), Below wc.heap.size wc W → Calls Tryd.prog 21 #[.agg #[.slice a3 RS.length c3, .int .i64 RS.length], .int .i64 keep] W fun e w' => LogOut W w' e RS RS.length) := fun keep W h => by
        have := implFall_form _ RS RS.length keep a W (R8.out.later h (Nat.le_refl _)) FO.out hl (HA.out _ (B8.out.trans (h.mono B8.out.size)))
        rw [(fall_forced keep HBB.out).1, (fall_forced keep HBB.out).2] at this
        exact this
      have HFORCE : Hid (∀ (W : World), Below wc.heap.size wc W → Calls Tryd.prog 19 #[.agg #[.slice a3 RS.length c3, .int .i64 RS.length]] W fun e w' => LogOut W w' e RS RS.length) := fun W h => by
        have := implForce_any _ RS RS.length a W (R8.out.later h (Nat.le_refl _)) hl (HA.out _ (B8.out.trans (h.mono B8.out.size)))
        rw [(force_forced HBB.out).1, (force_forced HBB.out).2] at this
        exact this
      go_wp2_with fail
      first | (go_region_with (first
        | (go_at_call 21; refine (HFALL.out _ _ (Below.refl _ _).drew).mono ?_; rintro e w9 ⟨a9, c9, rfl, hm9, hb9⟩; have N9 := hide_it (d_drew hb9); have V9 := hide_it hm9.recs; obtain ⟨x90, x91⟩ := X8.out.later N9.out (Nat.le_refl _); obtain ⟨l90, l91⟩ := L8.out.later N9.out (Nat.le_refl _); clear hm9 hb9)
        | (go_at_call 19; refine (HFORCE.out _ N10.out).mono ?_; rintro e w11 ⟨a11, c11, rfl, hm11, hb11⟩; have N11 := hide_it (N10.out.trans (hb11.mono N10.out.size)); have V11 := hide_it hm11.recs; obtain ⟨x110, x111⟩ := X8.out.later N11.out (Nat.le_refl _); obtain ⟨l110, l111⟩ := L8.out.later N11.out (Nat.le_refl _); clear hm11 hb11)
        | (go_at_call 16; refine (lnRecs_any _ _ RS _ (R8.out.later N12.out (Nat.le_refl _)) (U8.out.later N12.out (Nat.le_refl _)) hl).mono ?_; rintro e w13 ⟨rfl, hb13⟩; have N13 := hide_it (N12.out.trans (hb13.mono N12.out.size)); clear hb13)
        | (go_at_call 12; refine (lnLog_any _ _ RS RS.length _ V11.out (R8.out.later N11.out (Nat.le_refl _)) hl).mono ?_; rintro e w12 ⟨rfl, hb12⟩; have N12 := hide_it (N11.out.trans (hb12.mono N11.out.size)); obtain ⟨x120, x121⟩ := X8.out.later N12.out (Nat.le_refl _); obtain ⟨l120, l121⟩ := L8.out.later N12.out (Nat.le_refl _); clear hb12)
        | (go_at_call 12; refine (lnLog_any _ _ RS RS.length _ V9.out (R8.out.later N9.out (Nat.le_refl _)) hl).mono ?_; rintro e w10 ⟨rfl, hb10⟩; have N10 := hide_it (N9.out.trans (hb10.mono N9.out.size)); obtain ⟨x100, x101⟩ := X8.out.later N10.out (Nat.le_refl _); obtain ⟨l100, l101⟩ := L8.out.later N10.out (Nat.le_refl _); clear hb10))) | fail
      all_goals
        have B13 := hide_it (B8.out.trans (N13.out.mono B8.out.size))
        go_wp2
        go_ret
        exact ⟨rfl, B13.out⟩

end Go.Proofs.YtgbikmcpcolcpaaDoor
