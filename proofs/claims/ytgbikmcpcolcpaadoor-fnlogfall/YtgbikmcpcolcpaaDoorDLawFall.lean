/- The law FnLogFall, walked: whatever the code, it answers true, and nothing that was there before has turned. In a world in which the sentinel's variable holds a pointer to an errors.errorString. -/
import Derived.Test.YtgbikmcpcolcpaaDoorDLawMore
namespace Go.Proofs.YtgbikmcpcolcpaaDoor
open Go.RowKit

theorem logOk_cut {rs : List R} {f : Int} {N : Nat} (h : logOk rs f = true) (hN : N ≤ rs.length) : logOk (rs.take N) N = true := by
  obtain ⟨_, _, h2⟩ := logOk_f h
  unfold logOk at h ⊢
  simp only [Bool.and_eq_true, decide_eq_true_eq] at h ⊢
  have hl : (rs.take N).length = N := by rw [List.length_take]; omega
  refine ⟨?_, by omega, Pl.inB_mk (by omega) (by rw [hl]; omega)⟩
  rw [List.all_eq_true] at h ⊢
  exact fun x hx => h.1 x (List.mem_of_mem_take hx)
theorem fall_cut {rs : List R} {f : Int} {N : Nat} (keep : Int) (h : logOk rs f = true) (hN : N ≤ rs.length) : fallR (rs.take N) N keep = rs.take N ∧ fallF (rs.take N) N keep = N := by
  have h1 := logOk_cut h hN
  have hl : (rs.take N).length = N := by rw [List.length_take]; omega
  have e : fallN (rs.take N).length N keep = N := by rw [hl]; exact fallN_same N keep
  constructor
  · simp only [fallR, h1, if_true, e, List.take_take, Nat.min_self]
  · simp only [fallF, h1, if_true, e]

set_option maxRecDepth 100000 in
set_option maxHeartbeats 8000000 in
theorem lawP7_small (vc : Value) (nc : Nat) (a : Addr) (w : World) (hc : CodeAt w vc nc) (hnc : nc ≤ 1048576) (ha : ErrAt w a) :
    Calls Tryd.prog 5 #[vc] w fun e w' => e = .returned (.bool true) ∧ Below w.heap.size w w' := by
  have HA : Hid (∀ W, Below w.heap.size w W → ErrAt W a) := fun W h => ha.later h (Nat.le_refl _)
  have HD := hide_it (drawFall_any vc nc w hc hnc)
  obtain ⟨ac, cc, rfl, _⟩ := hc
  clear ha
  go_enter Tryd.func5, Tryd.ntmps5
  go_wp2_with fail
  refine HD.out.mono ?_
  rintro e w1 ⟨u, f, rs, keep, rfl, hk0, hk1, hu, hform, htot, hb1⟩
  obtain ⟨au, cu, hus⟩ := hu.shape
  subst hus
  have hl : tot rs ≤ 1048576 := by omega
  obtain ⟨RS, hRS⟩ : ∃ RS, fallR rs f keep = RS := ⟨_, rfl⟩
  obtain ⟨F, hF⟩ : ∃ F, fallF rs f keep = F := ⟨_, rfl⟩
  have hRl : tot RS ≤ 1048576 := by rw [← hRS]; have := fallR_tot rs f keep htot; omega
  have HSP : Hid (∀ (x : Value) (W : World), Recs W x rs → Calls Tryd.prog 23 #[.agg #[x, .int .i64 f], .int .i64 keep] W fun e w' => LogOut W w' e RS F) := fun x W h => by rw [← hRS, ← hF]; exact specFall_any x rs f keep W h hl
  have HIM : Hid (∀ (W : World), Recs W (.slice au rs.length cu) rs → ErrAt W a → Calls Tryd.prog 21 #[.agg #[.slice au rs.length cu, .int .i64 f], .int .i64 keep] W fun e w' => LogOut W w' e RS F) := fun W h h2 => by rw [← hRS, ← hF]; exact implFall_form _ rs f keep a W h hform hl h2
  have HOK : Hid (∀ (x : Value) (W : World), Recs W x rs → Calls Tryd.prog 13 #[.agg #[x, .int .i64 f]] W fun e w' => e = .returned (.bool (logOk rs f)) ∧ Below W.heap.size W w') := fun x W h => specLogOk_any x rs f W h hl
  obtain ⟨BB, hBB⟩ : ∃ b, logOk rs f = b := ⟨_, rfl⟩
  rw [hBB] at HOK
  have HBB := hide_it hBB
  have HRS := hide_it hRS
  have HF := hide_it hF
  have B1 := hide_it hb1
  have U1 := hide_it hu
  have FU := hide_it hform
  clear hb1 hu hform hRS hF hBB
  -- l
  obtain ⟨w2, hw2⟩ : ∃ W, Hid (W = w1.alloc (.cells #[.slice au rs.length cu, .int .i64 f] 25)) := ⟨_, rfl⟩
  have al2 := hide_it (show Below w1.heap.size w1 w2 by rw [hw2.out]; exact alloc_below _ _)
  have B2 := hide_it (B1.out.trans (al2.out.mono B1.out.size))
  have U2 := hide_it (U1.out.later al2.out (Nat.le_refl _))
  have L2 : Hid (Two w2 w1.heap.size (.slice au rs.length cu) (.int .i64 f)) := by show Two _ _ _ _; rw [hw2.out]; exact box2 w1 _ _ _
  go_wp2_with fail
  rw [← hw2.out]
  refine (HIM.out w2 U2.out (HA.out _ B2.out)).mono ?_
  rintro e w3 ⟨a3, c3, rfl, hm3, hb3⟩
  -- x
  obtain ⟨w4, hw4⟩ : ∃ W, Hid (W = w3.alloc (.cells #[.slice a3 RS.length c3, .int .i64 F] 25)) := ⟨_, rfl⟩
  have al4 := hide_it (show Below w3.heap.size w3 w4 by rw [hw4.out]; exact alloc_below _ _)
  have N4 := hide_it (hb3.trans (al4.out.mono hb3.size))
  have B4 := hide_it (B2.out.trans (N4.out.mono B2.out.size))
  have U4 := hide_it (U2.out.later N4.out (Nat.le_refl _))
  have L4 := hide_it (L2.out.later N4.out (Nat.le_refl _))
  have M4 := hide_it (hm3.below al4.out (Nat.le_refl _))
  have X4 : Hid (Two w4 w3.heap.size (.slice a3 RS.length c3) (.int .i64 F)) := by show Two _ _ _ _; rw [hw4.out]; exact box2 w3 _ _ _
  have R4 := hide_it M4.out.recs
  clear hm3 hb3
  obtain ⟨l0, l1⟩ := L4.out
  obtain ⟨x0, x1⟩ := X4.out
  have hz4 : w.heap.size ≤ w4.heap.size := B4.out.size
  go_wp2_with fail
  rw [← hw4.out]
  go_cut [29] (fun b W => b = .bool (!BB) ∧ Hid (Below w4.heap.size w4 W))
  case first =>
    first | (go_region_held (fun w' => w'.cell? ⟨w1.heap.size, 0, none⟩ = some (.slice au rs.length cu) ∧ w'.cell? ⟨w1.heap.size, 1, none⟩ = some (.int .i64 f) ∧ w'.cell? ⟨w3.heap.size, 0, none⟩ = some (.slice a3 RS.length c3) ∧ w'.cell? ⟨w3.heap.size, 1, none⟩ = some (.int .i64 F)) (go_keep) (first
      | (go_at_call 23; refine (HSP.out _ _ (U4.out.later (Below.refl _ _).drew (Nat.le_refl _))).mono ?_; rintro e w5 ⟨a5, c5, rfl, hm5, hb5⟩; have N5 := hide_it (d_drew2 hb5); have V5 := hide_it hm5.recs; obtain ⟨l50, l51⟩ := L4.out.later N5.out (Nat.le_refl _); obtain ⟨x50, x51⟩ := X4.out.later N5.out (Nat.le_refl _); clear hm5 hb5)
      | (go_at_call 12; refine (lnLog_any _ _ RS F _ (R4.out.later N5.out (Nat.le_refl _)) V5.out hRl).mono ?_; rintro e w6 ⟨rfl, hb6⟩; have N6 := hide_it (N5.out.trans (hb6.mono N5.out.size)); obtain ⟨l60, l61⟩ := L4.out.later N6.out (Nat.le_refl _); obtain ⟨x60, x61⟩ := X4.out.later N6.out (Nat.le_refl _); clear hb6)
      | (go_at_call 13; refine (HOK.out _ _ (U4.out.later N6.out (Nat.le_refl _))).mono ?_; rintro e w7 ⟨rfl, hb7⟩; have N7 := hide_it (N6.out.trans (hb7.mono N6.out.size)); obtain ⟨l70, l71⟩ := L4.out.later N7.out (Nat.le_refl _); obtain ⟨x70, x71⟩ := X4.out.later N7.out (Nat.le_refl _); clear hb7))) | fail
    all_goals
      go_wp2_with fail
      go_meet
      case rel => exact ⟨by first | rfl | simp, N7⟩
  case rest =>
    obtain ⟨rfl, N8⟩ := hcut
    have B8 := hide_it (B4.out.trans (N8.out.mono hz4))
    have U8 := hide_it (U4.out.later N8.out (Nat.le_refl _))
    have R8 := hide_it (R4.out.later N8.out (Nat.le_refl _))
    have L8 := hide_it (L4.out.later N8.out (Nat.le_refl _))
    have X8 := hide_it (X4.out.later N8.out (Nat.le_refl _))
    clear l0 l1 x0 x1
    obtain ⟨l0, l1⟩ := L8.out
    obtain ⟨x0, x1⟩ := X8.out
    cases BB
    · go_wp2_with fail
      first | (go_region_held (fun w' => w'.cell? ⟨w1.heap.size, 0, none⟩ = some (.slice au rs.length cu) ∧ w'.cell? ⟨w1.heap.size, 1, none⟩ = some (.int .i64 f) ∧ w'.cell? ⟨w3.heap.size, 0, none⟩ = some (.slice a3 RS.length c3) ∧ w'.cell? ⟨w3.heap.size, 1, none⟩ = some (.int .i64 F)) (go_keep) (first
        | (go_at_call 23; refine (HSP.out _ _ (U8.out.later (Below.refl _ _).drew (Nat.le_refl _))).mono ?_; rintro e w9 ⟨a9, c9, rfl, hm9, hb9⟩; have N9 := hide_it (d_drew2 hb9); have V9 := hide_it hm9.recs; obtain ⟨x90, x91⟩ := X8.out.later N9.out (Nat.le_refl _); obtain ⟨l90, l91⟩ := L8.out.later N9.out (Nat.le_refl _); clear hm9 hb9)
        | (go_at_call 12; refine (lnLog_any _ _ RS F _ (R8.out.later N9.out (Nat.le_refl _)) V9.out hRl).mono ?_; rintro e w10 ⟨rfl, hb10⟩; have N10 := hide_it (N9.out.trans (hb10.mono N9.out.size)); obtain ⟨x100, x101⟩ := X8.out.later N10.out (Nat.le_refl _); obtain ⟨l100, l101⟩ := L8.out.later N10.out (Nat.le_refl _); clear hb10))) | fail
      all_goals
        have B10 := hide_it (B8.out.trans (N10.out.mono B8.out.size))
        go_wp2
        go_ret
        exact ⟨rfl, B10.out⟩
    · obtain ⟨hf0, hfn, h40⟩ := logOk_f HBB.out
      have e1 := fall_yes keep HBB.out
      obtain ⟨N, hN⟩ : ∃ N, fallN rs.length f keep = N := ⟨_, rfl⟩
      have hNl : N ≤ rs.length := by rw [← hN]; exact fallN_le hf0 hfn
      rw [hN] at e1
      obtain rfl : RS = rs.take N := by rw [← HRS.out]; exact e1.1
      obtain rfl : F = N := by rw [← HF.out]; exact e1.2
      have hRN : (rs.take N).length = N := by rw [List.length_take]; omega
      have FX := M4.out.form'
      rw [hRN] at X8 R8 x0 FX
      have HX : Hid (∀ (W : World), Below wc.heap.size wc W → Calls Tryd.prog 21 #[.agg #[.slice a3 N c3, .int .i64 N], .int .i64 keep] W fun e w' => ∃ ao cp, e = .returned (.agg #[.slice ao N cp, .int .i64 N]) ∧ Recs w' (.slice ao N cp) (rs.take N) ∧ Below W.heap.size W w') := fun W h => by
        have := implFall_form (.slice a3 N c3) (rs.take N) N keep a W (R8.out.later h (Nat.le_refl _)) (by rw [hRN]; exact FX) hRl (HA.out _ (B8.out.trans (h.mono B8.out.size)))
        rw [(fall_cut keep HBB.out hNl).1, (fall_cut keep HBB.out hNl).2] at this
        refine this.mono ?_
        rintro e w' ⟨ao, cp, h1, h2, h3⟩
        rw [hRN] at h1 h2
        exact ⟨ao, cp, h1, h2.recs, h3⟩
      have RU : Hid (Recs wc (.slice au N cu) (rs.take N)) := Recs.take U8.out hNl
      obtain ⟨fN, rfl⟩ := Int.eq_ofNat_of_zero_le hf0
      have hRtN : tot (rs.take N) ≤ 1048576 := hRl
      have FUc := FU.out
      have hw : ∀ x : Int, -1000000 ≤ x → x ≤ 1000000 → IntKind.i64.wrap x = x := fun x _ _ => IntWalk.i64_in x ⟨by omega, by omega⟩
      clear e1 hRN FX hw
      rcases FUc with ⟨hy, hn0⟩ | ⟨g, cap, hy, hcap⟩
      · simp only [Value.slice.injEq] at hy
        obtain ⟨rfl, -, rfl⟩ := hy
        obtain rfl : rs = [] := List.length_eq_zero_iff.1 hn0
        obtain rfl : N = 0 := by simp at hNl; omega
        obtain rfl : fN = 0 := by simp at hfn; omega
        clear hN
        by_cases hkp : 0 < keep
        all_goals
          go_wp2_with fail
          first | (go_region_held (fun w' => w'.cell? ⟨w1.heap.size, 0, none⟩ = some (.slice none 0 0) ∧ w'.cell? ⟨w1.heap.size, 1, none⟩ = some (.int .i64 (0 : Nat)) ∧ w'.cell? ⟨w3.heap.size, 0, none⟩ = some (.slice a3 0 c3) ∧ w'.cell? ⟨w3.heap.size, 1, none⟩ = some (.int .i64 (0 : Nat))) (go_keep) (first
            | (go_at_call 16; refine (lnRecs_any _ _ (List.take 0 []) _ (R8.out.later (Below.refl _ _).drew (Nat.le_refl _)) (RU.out.later (Below.refl _ _).drew (Nat.le_refl _)) hRtN).mono ?_; rintro e wD ⟨rfl, hbD⟩; have ND := hide_it (d_drew2 hbD); obtain ⟨xD0, xD1⟩ := X8.out.later ND.out (Nat.le_refl _); obtain ⟨lD0, lD1⟩ := L8.out.later ND.out (Nat.le_refl _); clear hbD)
            | (go_at_call 21; refine (HX.out _ ND.out).mono ?_; rintro e wE ⟨aE, cE, rfl, hmE, hbE⟩; have NE := hide_it (ND.out.trans (hbE.mono ND.out.size)); have VE := hide_it hmE; obtain ⟨xE0, xE1⟩ := X8.out.later NE.out (Nat.le_refl _); obtain ⟨lE0, lE1⟩ := L8.out.later NE.out (Nat.le_refl _); clear hmE hbE)
            | (go_at_call 12; refine (lnLog_any _ _ (List.take 0 []) _ _ VE.out (R8.out.later NE.out (Nat.le_refl _)) hRtN).mono ?_; rintro e wG ⟨rfl, hbG⟩; have NG := hide_it (NE.out.trans (hbG.mono NE.out.size)); obtain ⟨xG0, xG1⟩ := X8.out.later NG.out (Nat.le_refl _); obtain ⟨lG0, lG1⟩ := L8.out.later NG.out (Nat.le_refl _); clear hbG))) | fail
          all_goals
            have BG := hide_it (B8.out.trans (NG.out.mono B8.out.size))
            go_wp2
            go_ret
            exact ⟨rfl, BG.out⟩
      · simp only [Value.slice.injEq, true_and] at hy
        obtain ⟨rfl, rfl⟩ := hy
        have hcI : (N : Int) ≤ (cu : Int) := by omega
        have hNI : (N : Int) ≤ (rs.length : Int) := by omega
        have hfI : (fN : Int) ≤ (rs.length : Int) := by omega
        have h40I : (rs.length : Int) ≤ 40 := by omega
        by_cases hkp : 0 < keep
        · obtain ⟨K, rfl⟩ := Int.eq_ofNat_of_zero_le (show 0 ≤ keep by omega)
          by_cases hlt : (K : Int) ≤ rs.length - fN
          · have hNe : N = fN + K := by rw [← hN, fallN_mid (by omega) hlt]
            subst hNe
            have hmn : (fN : Int) + (K : Int) ≤ (rs.length : Int) := by omega
            have hfk : (fN : Int) ≤ ((fN + K : Nat) : Int) := by omega
            have hfk2 : (fN : Int) ≤ (fN : Int) + (K : Int) := by omega
            clear hN
            go_wp2_with fail
            first | (go_region_held (fun w' => w'.cell? ⟨w1.heap.size, 0, none⟩ = some (.slice (some ⟨g, 0, none⟩) rs.length cu) ∧ w'.cell? ⟨w1.heap.size, 1, none⟩ = some (.int .i64 (fN : Nat)) ∧ w'.cell? ⟨w3.heap.size, 0, none⟩ = some (.slice a3 (fN + K) c3) ∧ w'.cell? ⟨w3.heap.size, 1, none⟩ = some (.int .i64 ((fN + K) : Nat))) (go_keep) (first
              | (go_at_call 16; refine (lnRecs_any _ _ (List.take (fN + K) rs) _ (R8.out.later (Below.refl _ _).drew (Nat.le_refl _)) (RU.out.later (Below.refl _ _).drew (Nat.le_refl _)) hRtN).mono ?_; rintro e wD ⟨rfl, hbD⟩; have ND := hide_it (d_drew2 hbD); obtain ⟨xD0, xD1⟩ := X8.out.later ND.out (Nat.le_refl _); obtain ⟨lD0, lD1⟩ := L8.out.later ND.out (Nat.le_refl _); clear hbD)
              | (go_at_call 21; refine (HX.out _ ND.out).mono ?_; rintro e wE ⟨aE, cE, rfl, hmE, hbE⟩; have NE := hide_it (ND.out.trans (hbE.mono ND.out.size)); have VE := hide_it hmE; obtain ⟨xE0, xE1⟩ := X8.out.later NE.out (Nat.le_refl _); obtain ⟨lE0, lE1⟩ := L8.out.later NE.out (Nat.le_refl _); clear hmE hbE)
              | (go_at_call 12; refine (lnLog_any _ _ (List.take (fN + K) rs) _ _ VE.out (R8.out.later NE.out (Nat.le_refl _)) hRtN).mono ?_; rintro e wG ⟨rfl, hbG⟩; have NG := hide_it (NE.out.trans (hbG.mono NE.out.size)); obtain ⟨xG0, xG1⟩ := X8.out.later NG.out (Nat.le_refl _); obtain ⟨lG0, lG1⟩ := L8.out.later NG.out (Nat.le_refl _); clear hbG))) | fail
            all_goals
              have BG := hide_it (B8.out.trans (NG.out.mono B8.out.size))
              go_wp2
              go_ret
              exact ⟨rfl, BG.out⟩
          · have hNe : N = rs.length := by rw [← hN, fallN_all (by omega) hlt]
            subst hNe
            have hmn : ¬ (fN : Int) + (K : Int) ≤ (rs.length : Int) := by omega
            have hmn2 : (rs.length : Int) ≤ (fN : Int) + (K : Int) := by omega
            have hmn3 : (rs.length : Int) < (fN : Int) + (K : Int) := by omega
            clear hN
            go_wp2_with fail
            first | (go_region_held (fun w' => w'.cell? ⟨w1.heap.size, 0, none⟩ = some (.slice (some ⟨g, 0, none⟩) rs.length cu) ∧ w'.cell? ⟨w1.heap.size, 1, none⟩ = some (.int .i64 (fN : Nat)) ∧ w'.cell? ⟨w3.heap.size, 0, none⟩ = some (.slice a3 rs.length c3) ∧ w'.cell? ⟨w3.heap.size, 1, none⟩ = some (.int .i64 (rs.length : Nat))) (go_keep) (first
              | (go_at_call 16; refine (lnRecs_any _ _ (List.take rs.length rs) _ (R8.out.later (Below.refl _ _).drew (Nat.le_refl _)) (RU.out.later (Below.refl _ _).drew (Nat.le_refl _)) hRtN).mono ?_; rintro e wD ⟨rfl, hbD⟩; have ND := hide_it (d_drew2 hbD); obtain ⟨xD0, xD1⟩ := X8.out.later ND.out (Nat.le_refl _); obtain ⟨lD0, lD1⟩ := L8.out.later ND.out (Nat.le_refl _); clear hbD)
              | (go_at_call 21; refine (HX.out _ ND.out).mono ?_; rintro e wE ⟨aE, cE, rfl, hmE, hbE⟩; have NE := hide_it (ND.out.trans (hbE.mono ND.out.size)); have VE := hide_it hmE; obtain ⟨xE0, xE1⟩ := X8.out.later NE.out (Nat.le_refl _); obtain ⟨lE0, lE1⟩ := L8.out.later NE.out (Nat.le_refl _); clear hmE hbE)
              | (go_at_call 12; refine (lnLog_any _ _ (List.take rs.length rs) _ _ VE.out (R8.out.later NE.out (Nat.le_refl _)) hRtN).mono ?_; rintro e wG ⟨rfl, hbG⟩; have NG := hide_it (NE.out.trans (hbG.mono NE.out.size)); obtain ⟨xG0, xG1⟩ := X8.out.later NG.out (Nat.le_refl _); obtain ⟨lG0, lG1⟩ := L8.out.later NG.out (Nat.le_refl _); clear hbG))) | fail
            all_goals
              have BG := hide_it (B8.out.trans (NG.out.mono B8.out.size))
              go_wp2
              go_ret
              exact ⟨rfl, BG.out⟩
        · have hNe : N = fN := by rw [← hN, fallN_lo (by omega)]
          subst hNe
          clear hN
          go_wp2_with fail
          first | (go_region_held (fun w' => w'.cell? ⟨w1.heap.size, 0, none⟩ = some (.slice (some ⟨g, 0, none⟩) rs.length cu) ∧ w'.cell? ⟨w1.heap.size, 1, none⟩ = some (.int .i64 (N : Nat)) ∧ w'.cell? ⟨w3.heap.size, 0, none⟩ = some (.slice a3 N c3) ∧ w'.cell? ⟨w3.heap.size, 1, none⟩ = some (.int .i64 (N : Nat))) (go_keep) (first
            | (go_at_call 16; refine (lnRecs_any _ _ (List.take N rs) _ (R8.out.later (Below.refl _ _).drew (Nat.le_refl _)) (RU.out.later (Below.refl _ _).drew (Nat.le_refl _)) hRtN).mono ?_; rintro e wD ⟨rfl, hbD⟩; have ND := hide_it (d_drew2 hbD); obtain ⟨xD0, xD1⟩ := X8.out.later ND.out (Nat.le_refl _); obtain ⟨lD0, lD1⟩ := L8.out.later ND.out (Nat.le_refl _); clear hbD)
            | (go_at_call 21; refine (HX.out _ ND.out).mono ?_; rintro e wE ⟨aE, cE, rfl, hmE, hbE⟩; have NE := hide_it (ND.out.trans (hbE.mono ND.out.size)); have VE := hide_it hmE; obtain ⟨xE0, xE1⟩ := X8.out.later NE.out (Nat.le_refl _); obtain ⟨lE0, lE1⟩ := L8.out.later NE.out (Nat.le_refl _); clear hmE hbE)
            | (go_at_call 12; refine (lnLog_any _ _ (List.take N rs) _ _ VE.out (R8.out.later NE.out (Nat.le_refl _)) hRtN).mono ?_; rintro e wG ⟨rfl, hbG⟩; have NG := hide_it (NE.out.trans (hbG.mono NE.out.size)); obtain ⟨xG0, xG1⟩ := X8.out.later NG.out (Nat.le_refl _); obtain ⟨lG0, lG1⟩ := L8.out.later NG.out (Nat.le_refl _); clear hbG))) | fail
          all_goals
            have BG := hide_it (B8.out.trans (NG.out.mono B8.out.size))
            go_wp2
            go_ret
            exact ⟨rfl, BG.out⟩

end Go.Proofs.YtgbikmcpcolcpaaDoor
