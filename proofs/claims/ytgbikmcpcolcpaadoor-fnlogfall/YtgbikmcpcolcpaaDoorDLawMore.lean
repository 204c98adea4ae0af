/- The law FnLogMore, walked: whatever the codes, it answers true, and nothing that was there before has turned. In a world in which the sentinel's variable holds a pointer to an errors.errorString. -/
import Derived.Test.YtgbikmcpcolcpaaDoorDFall
import Derived.Test.YtgbikmcpcolcpaaDoorDOpen2
import Derived.Test.YtgbikmcpcolcpaaDoorLn
import Derived.Test.YtgbikmcpcolcpaaDoorSForce
import Derived.Deep.DeepCutAuto
namespace Go.Proofs.YtgbikmcpcolcpaaDoor
open Go.RowKit

theorem d_drew2 {w2 w3 : World} (hb : Below w2.drew.heap.size w2.drew w3) : Below w2.heap.size w2 w3 := (Below.refl w2.heap.size w2).drew.trans hb

theorem fallN_mono {n : Nat} {f k1 k2 : Int} (h0 : 0 ≤ f) (_h1 : f ≤ n) (hk : k1 ≤ k2) : fallN n f k1 ≤ fallN n f k2 := by
  unfold fallN
  split <;> split <;> (try split) <;> (try split) <;> omega
theorem fallN_40 {n : Nat} {f : Int} (h0 : 0 ≤ f) (_h1 : f ≤ n) (hn : n ≤ 40) : fallN n f 40 = n := by
  unfold fallN
  rw [if_neg (by omega)]
  split
  · omega
  · simp
theorem fall_yes {rs : List R} {f : Int} (keep : Int) (h : logOk rs f = true) : fallR rs f keep = rs.take (fallN rs.length f keep) ∧ fallF rs f keep = fallN rs.length f keep := by
  constructor <;> simp [fallR, fallF, h]
theorem fallR_tot (rs : List R) (f keep : Int) (hl : tot rs ≤ 1000) : tot (fallR rs f keep) ≤ 1000 := by
  unfold fallR
  split
  · rename_i h
    obtain ⟨a, b, _⟩ := logOk_f h
    exact Nat.le_trans (pre_take rs _ (fallN_le a b)) hl
  · simp [tot, pre]

set_option maxRecDepth 100000 in
set_option maxHeartbeats 8000000 in
theorem lawP8_small (vc : Value) (nc : Nat) (am : Option Addr) (nm cm : Nat) (a : Addr) (w : World) (hc : CodeAt w vc nc) (hnc : nc ≤ 1048576) (hnm : nm ≤ 1048576) (ha : ErrAt w a) :
    Calls Tryd.prog 6 #[vc, .slice am nm cm] w fun e w' => e = .returned (.bool true) ∧ Below w.heap.size w w' := by
  have HA : Hid (∀ W, Below w.heap.size w W → ErrAt W a) := fun W h => ha.later h (Nat.le_refl _)
  have HD := hide_it (drawFall_any vc nc w hc hnc)
  obtain ⟨ac, cc, rfl, _⟩ := hc
  clear ha
  go_enter Tryd.func6, Tryd.ntmps6
  go_wp2_with fail
  refine HD.out.mono ?_
  rintro e w1 ⟨u, f, rs, keep, rfl, hk0, hk1, hu, hform, htot, hb1⟩
  obtain ⟨au, cu, hus⟩ := hu.shape
  subst hus
  have hl : tot rs ≤ 1048576 := by omega
  obtain ⟨RS, hRS⟩ : ∃ RS, fallR rs f keep = RS := ⟨_, rfl⟩
  obtain ⟨F, hF⟩ : ∃ F, fallF rs f keep = F := ⟨_, rfl⟩
  have hRl : tot RS ≤ 1048576 := by rw [← hRS]; have := fallR_tot rs f keep htot; omega
  have HSP : Hid (∀ (x : Value) (W : World), Recs W x rs → Calls Tryd.prog 23 #[.agg #[x, .int .i64 f], .int .i64 keep] W fun e w' => LogOut W w' e RS F) := fun x W h => by rw [← hRS, ← hF]; exact specFall_any x rs f keep W h hl
  have HIM : Hid (∀ (W : World), Recs W (.slice au rs.length cu) rs → ErrAt W a → Calls Tryd.prog 21 #[.agg #[.slice au rs.length cu, .int .i64 f], .int .i64 keep] W fun e w' => LogOut W w' e RS F) := fun W h h2 => by rw [← hRS, ← hF]; exact implFall_form _ rs f keep a W h hform hl h2
  have HOK : Hid (∀ (x : Value) (W : World), Recs W x rs → Calls Tryd.prog 13 #[.agg #[x, .int .i64 f]] W fun e w' => e = .returned (.bool (logOk rs f)) ∧ Below W.heap.size W w') := fun x W h => specLogOk_any x rs f W h hl
  obtain ⟨BB, hBB⟩ : ∃ b, logOk rs f = b := ⟨_, rfl⟩
  rw [hBB] at HOK
  have HBB := hide_it hBB
  have HRS := hide_it hRS
  have HF := hide_it hF
  have B1 := hide_it hb1
  have U1 := hide_it hu
  have FU := hide_it hform
  clear hb1 hu hform hRS hF hBB
  -- l
  obtain ⟨w2, hw2⟩ : ∃ W, Hid (W = w1.alloc (.cells #[.slice au rs.length cu, .int .i64 f] 25)) := ⟨_, rfl⟩
  have al2 := hide_it (show Below w1.heap.size w1 w2 by rw [hw2.out]; exact alloc_below _ _)
  have B2 := hide_it (B1.out.trans (al2.out.mono B1.out.size))
  have U2 := hide_it (U1.out.later al2.out (Nat.le_refl _))
  have L2 : Hid (Two w2 w1.heap.size (.slice au rs.length cu) (.int .i64 f)) := by show Two _ _ _ _; rw [hw2.out]; exact box2 w1 _ _ _
  go_wp2_with fail
  rw [← hw2.out]
  refine (HIM.out w2 U2.out (HA.out _ B2.out)).mono ?_
  rintro e w3 ⟨a3, c3, rfl, hm3, hb3⟩
  -- x
  obtain ⟨w4, hw4⟩ : ∃ W, Hid (W = w3.alloc (.cells #[.slice a3 RS.length c3, .int .i64 F] 25)) := ⟨_, rfl⟩
  have al4 := hide_it (show Below w3.heap.size w3 w4 by rw [hw4.out]; exact alloc_below _ _)
  have N4 := hide_it (hb3.trans (al4.out.mono hb3.size))
  have B4 := hide_it (B2.out.trans (N4.out.mono B2.out.size))
  have U4 := hide_it (U2.out.later N4.out (Nat.le_refl _))
  have L4 := hide_it (L2.out.later N4.out (Nat.le_refl _))
  have M4 := hide_it (hm3.below al4.out (Nat.le_refl _))
  have X4 : Hid (Two w4 w3.heap.size (.slice a3 RS.length c3) (.int .i64 F)) := by show Two _ _ _ _; rw [hw4.out]; exact box2 w3 _ _ _
  have R4 := hide_it M4.out.recs
  clear hm3 hb3
  obtain ⟨l0, l1⟩ := L4.out
  obtain ⟨x0, x1⟩ := X4.out
  have hz4 : w.heap.size ≤ w4.heap.size := B4.out.size
  go_wp2_with fail
  rw [← hw4.out]
  go_cut [36] (fun b W => b = .bool (!BB) ∧ Hid (Below w4.heap.size w4 W))
  case first =>
    first | (go_region_held (fun w' => w'.cell? ⟨w1.heap.size, 0, none⟩ = some (.slice au rs.length cu) ∧ w'.cell? ⟨w1.heap.size, 1, none⟩ = some (.int .i64 f) ∧ w'.cell? ⟨w3.heap.size, 0, none⟩ = some (.slice a3 RS.length c3) ∧ w'.cell? ⟨w3.heap.size, 1, none⟩ = some (.int .i64 F)) (go_keep) (first
      | (go_at_call 23; refine (HSP.out _ _ (U4.out.later (Below.refl _ _).drew (Nat.le_refl _))).mono ?_; rintro e w5 ⟨a5, c5, rfl, hm5, hb5⟩; have N5 := hide_it (d_drew2 hb5); have V5 := hide_it hm5.recs; obtain ⟨l50, l51⟩ := L4.out.later N5.out (Nat.le_refl _); obtain ⟨x50, x51⟩ := X4.out.later N5.out (Nat.le_refl _); clear hm5 hb5)
      | (go_at_call 12; refine (lnLog_any _ _ RS F _ (R4.out.later N5.out (Nat.le_refl _)) V5.out hRl).mono ?_; rintro e w6 ⟨rfl, hb6⟩; have N6 := hide_it (N5.out.trans (hb6.mono N5.out.size)); obtain ⟨l60, l61⟩ := L4.out.later N6.out (Nat.le_refl _); obtain ⟨x60, x61⟩ := X4.out.later N6.out (Nat.le_refl _); clear hb6)
      | (go_at_call 13; refine (HOK.out _ _ (U4.out.later N6.out (Nat.le_refl _))).mono ?_; rintro e w7 ⟨rfl, hb7⟩; have N7 := hide_it (N6.out.trans (hb7.mono N6.out.size)); obtain ⟨l70, l71⟩ := L4.out.later N7.out (Nat.le_refl _); obtain ⟨x70, x71⟩ := X4.out.later N7.out (Nat.le_refl _); clear hb7))) | fail
    all_goals
      go_wp2_with fail
      go_meet
      case rel => exact ⟨by first | rfl | simp, N7⟩
  case rest =>
    obtain ⟨rfl, N8⟩ := hcut
    have B8 := hide_it (B4.out.trans (N8.out.mono hz4))
    have U8 := hide_it (U4.out.later N8.out (Nat.le_refl _))
    have R8 := hide_it (R4.out.later N8.out (Nat.le_refl _))
    have L8 := hide_it (L4.out.later N8.out (Nat.le_refl _))
    have X8 := hide_it (X4.out.later N8.out (Nat.le_refl _))
    clear l0 l1 x0 x1
    obtain ⟨l0, l1⟩ := L8.out
    obtain ⟨x0, x1⟩ := X8.out
    cases BB
    · go_wp2_with fail
      first | (go_region_held (fun w' => w'.cell? ⟨w1.heap.size, 0, none⟩ = some (.slice au rs.length cu) ∧ w'.cell? ⟨w1.heap.size, 1, none⟩ = some (.int .i64 f) ∧ w'.cell? ⟨w3.heap.size, 0, none⟩ = some (.slice a3 RS.length c3) ∧ w'.cell? ⟨w3.heap.size, 1, none⟩ = some (.int .i64 F)) (go_keep) (first
        | (go_at_call 23; refine (HSP.out _ _ (U8.out.later (Below.refl _ _).drew (Nat.le_refl _))).mono ?_; rintro e w9 ⟨a9, c9, rfl, hm9, hb9⟩; have N9 := hide_it (d_drew2 hb9); have V9 := hide_it hm9.recs; obtain ⟨x90, x91⟩ := X8.out.later N9.out (Nat.le_refl _); obtain ⟨l90, l91⟩ := L8.out.later N9.out (Nat.le_refl _); clear hm9 hb9)
        | (go_at_call 12; refine (lnLog_any _ _ RS F _ (R8.out.later N9.out (Nat.le_refl _)) V9.out hRl).mono ?_; rintro e w10 ⟨rfl, hb10⟩; have N10 := hide_it (N9.out.trans (hb10.mono N9.out.size)); obtain ⟨x100, x101⟩ := X8.out.later N10.out (Nat.le_refl _); obtain ⟨l100, l101⟩ := L8.out.later N10.out (Nat.le_refl _); clear hb10))) | fail
      all_goals
        have B10 := hide_it (B8.out.trans (N10.out.mono B8.out.size))
        go_wp2
        go_ret
        exact ⟨rfl, B10.out⟩
    · obtain ⟨hf0, hfn, h40⟩ := logOk_f HBB.out
      have e1 := fall_yes keep HBB.out
      obtain ⟨N, hN⟩ : ∃ N, fallN rs.length f keep = N := ⟨_, rfl⟩
      have hNl : N ≤ rs.length := by rw [← hN]; exact fallN_le hf0 hfn
      rw [hN] at e1
      obtain rfl : RS = rs.take N := by rw [← HRS.out]; exact e1.1
      obtain rfl : F = N := by rw [← HF.out]; exact e1.2
      have hRN : (rs.take N).length = N := by rw [List.length_take]; omega
      have HY : Hid (∀ (K : Int), keep ≤ K → ∀ (W : World), Below wc.heap.size wc W → Calls Tryd.prog 21 #[.agg #[.slice au rs.length cu, .int .i64 f], .int .i64 K] W fun e w' => ∃ N2 ay cy, N ≤ N2 ∧ N2 ≤ rs.length ∧ e = .returned (.agg #[.slice ay N2 cy, .int .i64 N2]) ∧ Made w' W.heap.size (.slice ay N2 cy) (rs.take N2) ∧ Below W.heap.size W w') := fun K hK W h => by
        refine (implFall_form _ rs f K a W (U8.out.later h (Nat.le_refl _)) FU.out hl (HA.out _ (B8.out.trans (h.mono B8.out.size)))).mono ?_
        rintro e w' ⟨ao, cp, h1, h2, h3⟩
        have e2 := fall_yes K HBB.out
        have hle := fallN_le (keep := K) hf0 hfn
        have hlen : (rs.take (fallN rs.length f K)).length = fallN rs.length f K := by rw [List.length_take]; omega
        rw [e2.1, hlen] at h1 h2
        rw [e2.2] at h1
        exact ⟨fallN rs.length f K, ao, cp, by rw [← hN]; exact fallN_mono hf0 hfn hK, hle, h1, h2, h3⟩
      have H40 : Hid (∀ (W : World), Below wc.heap.size wc W → Calls Tryd.prog 21 #[.agg #[.slice au rs.length cu, .int .i64 f], .int .i64 40] W fun e w' => LogOut W w' e rs rs.length) := fun W h => by
        have := implFall_form _ rs f 40 a W (U8.out.later h (Nat.le_refl _)) FU.out hl (HA.out _ (B8.out.trans (h.mono B8.out.size)))
        have e2 := fall_yes 40 HBB.out
        rw [fallN_40 hf0 hfn h40, List.take_length] at e2
        rw [e2.1, e2.2] at this
        exact this
      have HFO : Hid (∀ (W : World), Below wc.heap.size wc W → Calls Tryd.prog 19 #[.agg #[.slice au rs.length cu, .int .i64 f]] W fun e w' => LogOut W w' e rs rs.length) := fun W h => by
        have := implForce_any _ rs f a W (U8.out.later h (Nat.le_refl _)) hl (HA.out _ (B8.out.trans (h.mono B8.out.size)))
        rw [(force_yes HBB.out).1, (force_yes HBB.out).2] at this
        exact this
      rw [hRN] at X8 R8 x0
      have HRN := hide_it hRN
      clear e1 hN hRN
      have hmod : 0 ≤ (nm : Int) % 5 := by omega
      -- y
      by_cases hkn : keep < 0
      all_goals
        go_wp2_with fail
        refine (HY.out _ (by omega) _ (Below.refl _ _)).mono ?_
        rintro e wA ⟨N2, ay, cy, hN2, hN2l, rfl, hmA, hbA⟩
        obtain ⟨wB, hwB⟩ : ∃ W, Hid (W = wA.alloc (.cells #[.slice ay N2 cy, .int .i64 N2] 25)) := ⟨_, rfl⟩
        have alB := hide_it (show Below wA.heap.size wA wB by rw [hwB.out]; exact alloc_below _ _)
        have NA := hide_it hbA
        have NB := hide_it (hbA.trans (alB.out.mono hbA.size))
        have MB := hide_it (hmA.below alB.out (Nat.le_refl _))
        have YB : Hid (Two wB wA.heap.size (.slice ay N2 cy) (.int .i64 N2)) := by show Two _ _ _ _; rw [hwB.out]; exact box2 wA _ _ _
        have hlen2 : (rs.take N2).length = N2 := by rw [List.length_take]; omega
        have FYc := MB.out.form'
        rw [hlen2] at FYc
        have RYB : Hid (Recs wB (.slice ay N cy) (rs.take N)) := by
          have h1 := MB.out.recs
          have h2 := Recs.take (N := N) (by rw [hlen2]; exact h1) (by rw [hlen2]; exact hN2)
          rw [List.take_take, Nat.min_eq_left hN2] at h2
          exact h2
        have BB' := hide_it (B8.out.trans (NB.out.mono B8.out.size))
        have LB := hide_it (L8.out.later NB.out (Nat.le_refl _))
        have XB := hide_it (X8.out.later NB.out (Nat.le_refl _))
        have UB := hide_it (U8.out.later NB.out (Nat.le_refl _))
        have RB := hide_it (R8.out.later NB.out (Nat.le_refl _))
        have XA := X8.out.later NA.out (Nat.le_refl _)
        have hxl : w3.heap.size < wA.heap.size := World.block_lt_of_cell? _ _ XA.1
        clear hmA hbA l0 l1 x0 x1
        obtain ⟨x0, x1⟩ := XA
        go_wp2_with fail
        rw [← hwB.out]
        clear x0 x1
        obtain ⟨l0, l1⟩ := LB.out
        obtain ⟨x0, x1⟩ := XB.out
        obtain ⟨y0, y1⟩ := YB.out
        have hge : (N : Int) ≤ (N2 : Int) := by omega
        have hRtN : tot (rs.take N) ≤ 1048576 := hRl
        rcases FYc with ⟨hy, hn0⟩ | ⟨g, cap, hy, hcap⟩
        · simp only [Value.slice.injEq] at hy
          obtain ⟨rfl, -, rfl⟩ := hy
          obtain rfl : N2 = 0 := hn0
          obtain rfl : N = 0 := by omega
          first | (go_region_held (fun w' => w'.cell? ⟨wA.heap.size, 0, none⟩ = some (.slice none 0 0) ∧ w'.cell? ⟨w3.heap.size, 0, none⟩ = some (.slice a3 0 c3) ∧ w'.cell? ⟨w1.heap.size, 0, none⟩ = some (.slice au rs.length cu) ∧ w'.cell? ⟨w1.heap.size, 1, none⟩ = some (.int .i64 f)) (go_keep) (first
            | (go_at_call 16; refine (lnRecs_any _ _ (rs.take 0) _ (RYB.out.later (Below.refl _ _).drew (Nat.le_refl _)) (RB.out.later (Below.refl _ _).drew (Nat.le_refl _)) hRtN).mono ?_; rintro e wD ⟨rfl, hbD⟩; have ND := hide_it (d_drew2 hbD); obtain ⟨yD0, yD1⟩ := YB.out.later ND.out (Nat.le_refl _); obtain ⟨xD0, xD1⟩ := XB.out.later ND.out (Nat.le_refl _); obtain ⟨lD0, lD1⟩ := LB.out.later ND.out (Nat.le_refl _); clear hbD)
            | (go_at_call 21; refine (H40.out _ (NB.out.trans (ND.out.mono NB.out.size))).mono ?_; rintro e wE ⟨aE, cE, rfl, hmE, hbE⟩; have NE := hide_it (ND.out.trans (hbE.mono ND.out.size)); have VE := hide_it hmE.recs; obtain ⟨yE0, yE1⟩ := YB.out.later NE.out (Nat.le_refl _); obtain ⟨xE0, xE1⟩ := XB.out.later NE.out (Nat.le_refl _); obtain ⟨lE0, lE1⟩ := LB.out.later NE.out (Nat.le_refl _); clear hmE hbE)
            | (go_at_call 19; refine (HFO.out _ (NB.out.trans (NE.out.mono NB.out.size))).mono ?_; rintro e wF ⟨aF, cF, rfl, hmF, hbF⟩; have NF := hide_it (NE.out.trans (hbF.mono NE.out.size)); have VF := hide_it hmF.recs; have VE2 := hide_it (VE.out.later hbF (Nat.le_refl _)); obtain ⟨yF0, yF1⟩ := YB.out.later NF.out (Nat.le_refl _); obtain ⟨xF0, xF1⟩ := XB.out.later NF.out (Nat.le_refl _); obtain ⟨lF0, lF1⟩ := LB.out.later NF.out (Nat.le_refl _); clear hmF hbF)
            | (go_at_call 12; refine (lnLog_any _ _ rs rs.length _ VE2.out VF.out hl).mono ?_; rintro e wG ⟨rfl, hbG⟩; have NG := hide_it (NF.out.trans (hbG.mono NF.out.size)); obtain ⟨yG0, yG1⟩ := YB.out.later NG.out (Nat.le_refl _); obtain ⟨xG0, xG1⟩ := XB.out.later NG.out (Nat.le_refl _); obtain ⟨lG0, lG1⟩ := LB.out.later NG.out (Nat.le_refl _); clear hbG))) | fail
          all_goals
            have BG := hide_it (BB'.out.trans (NG.out.mono BB'.out.size))
            go_wp2
            go_ret
            exact ⟨rfl, BG.out⟩
        · simp only [Value.slice.injEq, true_and] at hy
          obtain ⟨rfl, rfl⟩ := hy
          have hcI : (N : Int) ≤ (cy : Int) := by omega
          first | (go_region_held (fun w' => w'.cell? ⟨wA.heap.size, 0, none⟩ = some (.slice (some ⟨g, 0, none⟩) N2 cy) ∧ w'.cell? ⟨w3.heap.size, 0, none⟩ = some (.slice a3 N c3) ∧ w'.cell? ⟨w1.heap.size, 0, none⟩ = some (.slice au rs.length cu) ∧ w'.cell? ⟨w1.heap.size, 1, none⟩ = some (.int .i64 f)) (go_keep) (first
            | (go_at_call 16; refine (lnRecs_any _ _ (rs.take N) _ (RYB.out.later (Below.refl _ _).drew (Nat.le_refl _)) (RB.out.later (Below.refl _ _).drew (Nat.le_refl _)) hRtN).mono ?_; rintro e wD ⟨rfl, hbD⟩; have ND := hide_it (d_drew2 hbD); obtain ⟨yD0, yD1⟩ := YB.out.later ND.out (Nat.le_refl _); obtain ⟨xD0, xD1⟩ := XB.out.later ND.out (Nat.le_refl _); obtain ⟨lD0, lD1⟩ := LB.out.later ND.out (Nat.le_refl _); clear hbD)
            | (go_at_call 21; refine (H40.out _ (NB.out.trans (ND.out.mono NB.out.size))).mono ?_; rintro e wE ⟨aE, cE, rfl, hmE, hbE⟩; have NE := hide_it (ND.out.trans (hbE.mono ND.out.size)); have VE := hide_it hmE.recs; obtain ⟨yE0, yE1⟩ := YB.out.later NE.out (Nat.le_refl _); obtain ⟨xE0, xE1⟩ := XB.out.later NE.out (Nat.le_refl _); obtain ⟨lE0, lE1⟩ := LB.out.later NE.out (Nat.le_refl _); clear hmE hbE)
            | (go_at_call 19; refine (HFO.out _ (NB.out.trans (NE.out.mono NB.out.size))).mono ?_; rintro e wF ⟨aF, cF, rfl, hmF, hbF⟩; have NF := hide_it (NE.out.trans (hbF.mono NE.out.size)); have VF := hide_it hmF.recs; have VE2 := hide_it (VE.out.later hbF (Nat.le_refl _)); obtain ⟨yF0, yF1⟩ := YB.out.later NF.out (Nat.le_refl _); obtain ⟨xF0, xF1⟩ := XB.out.later NF.out (Nat.le_refl _); obtain ⟨lF0, lF1⟩ := LB.out.later NF.out (Nat.le_refl _); clear hmF hbF)
            | (go_at_call 12; refine (lnLog_any _ _ rs rs.length _ VE2.out VF.out hl).mono ?_; rintro e wG ⟨rfl, hbG⟩; have NG := hide_it (NF.out.trans (hbG.mono NF.out.size)); obtain ⟨yG0, yG1⟩ := YB.out.later NG.out (Nat.le_refl _); obtain ⟨xG0, xG1⟩ := XB.out.later NG.out (Nat.le_refl _); obtain ⟨lG0, lG1⟩ := LB.out.later NG.out (Nat.le_refl _); clear hbG))) | fail
          all_goals
            have BG := hide_it (BB'.out.trans (NG.out.mono BB'.out.size))
            go_wp2
            go_ret
            exact ⟨rfl, BG.out⟩

end Go.Proofs.YtgbikmcpcolcpaaDoor
