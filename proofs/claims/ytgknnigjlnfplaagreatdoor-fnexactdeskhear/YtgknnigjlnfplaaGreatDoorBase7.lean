/- What the last text of this claim stands on, part 7: plain facts and contracts; the last text says what is proved. -/
import Derived.Test.YtgknnigjlnfplaaGreatDoorBase6

namespace Go.Proofs.YtgknnigjlnfplaaGreatDoor
open Go.RowKit

theorem howN_all (ws : List Wd) (k t : Int) (zs : List Int) : ((howN ws k t (wants zs) : Int) == ((wants zs).length : Int)) = allT ws k t zs := by
  unfold howN allT
  rw [Bool.eq_iff_iff, beq_iff_eq, List.all_eq_true]
  constructor
  · intro h
    exact List.length_filter_eq_length_iff.1 (by omega)
  · intro h
    rw [List.length_filter_eq_length_iff.2 h]
theorem howN_any (ws : List Wd) (k t : Int) (zs : List Int) : decide ((0 : Int) < (howN ws k t (wants zs) : Int)) = anyT ws k t zs := by
  unfold howN anyT
  rw [Bool.eq_iff_iff, decide_eq_true_eq, List.any_eq_true]
  constructor
  · intro h
    obtain ⟨x, hx⟩ := List.exists_mem_of_length_pos (l := (wants zs).filter fun h => told ws k h t) (by omega)
    rw [List.mem_filter] at hx
    exact ⟨x, hx.1, hx.2⟩
  · rintro ⟨x, hx, hy⟩
    have := List.length_pos_of_mem (List.mem_filter.2 ⟨hx, hy⟩ : x ∈ (wants zs).filter fun h => told ws k h t)
    omega
theorem wants_bd {zs : List Int} (hl : zs.length ≤ 3) : (wants zs).length ≤ 10 ∧ ∀ h ∈ wants zs, 0 ≤ h ∧ h ≤ 10 := by
  refine ⟨by have := wantsK_len zs zs.length; unfold wants; omega, fun h hh => ?_⟩
  obtain ⟨i, hi, _, rfl⟩ := wantsK_mem.1 hh
  omega

set_option maxRecDepth 100000 in
set_option maxHeartbeats 8000000 in
theorem decision_any (c lo hi : Nat) (up : Bool) (v : Value) (f : Int) (u all forced : Value) (b N : Nat) (ps : List (R × Value)) (rs : List R) (ws : List Wd) (ts fts : List T.R) (t : Int) (w : World)
    (hc : Ck w c lo hi up v f u all forced b N ps rs ws ts fts) (hfit : T.Fit ts) (ht : 1 ≤ t ∧ t ≤ ts.length) :
    Calls Tryz.prog 44 #[.pointer (some ⟨c, 0, none⟩), .int .i64 t] w fun e w' => e = .returned (.int .i64 (decK ws t (T.tripAt ts t) (decide ((T.tripAt fts t).2 = (T.tripAt ts t).2)))) ∧ Below w.heap.size w w' := by
  have h6 : ts.length ≤ 6 := hfit.1
  obtain ⟨M, hM⟩ : ∃ M : Nat, (t - 1).toNat = M := ⟨_, rfl⟩
  obtain rfl : t = (M : Int) + 1 := by omega
  obtain ⟨⟨zs, s⟩, hq⟩ : ∃ q, ts[M]? = some q := ⟨_, List.getElem?_eq_getElem (by omega)⟩
  have e0 : T.tripAt ts ((M : Int) + 1) = (zs, s) := T.tripAt_get (by rw [hM]; exact hq)
  have hz3 : zs.length = 3 := hfit.2 _ (List.mem_of_getElem? hq)
  rw [e0]
  obtain ⟨bw1, bw2⟩ := wants_bd (zs := zs) (by omega)
  have HC : Hid (∀ W, Below w.heap.size w W → Ck W c lo hi up v f u all forced b N ps rs ws ts fts) := fun W h => hc.after h
  obtain ⟨av, cv, au, cu, rfl, rfl⟩ := (hc.own.at' hc.map).shape
  obtain ⟨ba, oa, ca, uz, hav, r0, r1, rI⟩ := trip_cell hc.all.recs hq
  subst hav
  obtain ⟨az, cz, rfl⟩ := rI.shape
  obtain ⟨af, cf, rfl⟩ := hc.frc.recs.shape
  have RI := hide_it rI
  have hcb := hc.blk
  have hM2 : (M : Int) < (ts.length : Int) := by omega
  have H3 : Hid (∀ (k : Int) (x : Value) (W : World), Below w.heap.size w W → 0 ≤ k ∧ k ≤ 10 → Ints W x (wants zs) → Calls Tryz.prog 68 #[.map (some b), .int .i64 k, x, .int .i64 ((M : Int) + 1)] W fun e w' => e = .returned (.int .i64 (howN ws k ((M : Int) + 1) (wants zs))) ∧ Below W.heap.size W w') := fun k x W h hk hx =>
    howMany_any lo b N ws k ((M : Int) + 1) x (wants zs) W (HC.out W h).bk hx bw1 bw2 hk (by omega)
  obtain ⟨SF, hSF⟩ : ∃ x, (T.tripAt fts ((M : Int) + 1)).2 = x := ⟨_, rfl⟩
  have H4 : Hid (∀ W, Below w.heap.size w W → Calls Tryz.prog 69 #[.pointer (some ⟨c, 0, none⟩), .int .i64 ((M : Int) + 1)] W fun e w' => e = .returned (.int .i64 SF) ∧ Below W.heap.size W w') := fun W h => by
    have := forcedState_any c _ _ _ _ _ _ af cf fts ((M : Int) + 1) W (HC.out W h).blk (HC.out W h).frc.recs (by omega)
    rw [hSF] at this; exact this
  rw [hSF]
  obtain ⟨NA, hNA⟩ : ∃ x, howN ws (talkB s) ((M : Int) + 1) (wants zs) = x := ⟨_, rfl⟩
  obtain ⟨NF, hNF⟩ : ∃ x, howN ws 5 ((M : Int) + 1) (wants zs) = x := ⟨_, rfl⟩
  have EA := howN_all ws (talkB s) ((M : Int) + 1) zs
  have EF := howN_any ws 5 ((M : Int) + 1) zs
  have H5 : Hid (∀ (x : Value) (W : World), Below w.heap.size w W → Ints W x (wants zs) → Calls Tryz.prog 68 #[.map (some b), .int .i64 (talkB s), x, .int .i64 ((M : Int) + 1)] W fun e w' => e = .returned (.int .i64 NA) ∧ Below W.heap.size W w') := fun x W h hx => by
    have := H3.out (talkB s) x W h (by unfold talkB; split <;> (try split) <;> (try split) <;> omega) hx
    rw [hNA] at this; exact this
  have H6 : Hid (∀ (x : Value) (W : World), Below w.heap.size w W → Ints W x (wants zs) → Calls Tryz.prog 68 #[.map (some b), .int .i64 5, x, .int .i64 ((M : Int) + 1)] W fun e w' => e = .returned (.int .i64 NF) ∧ Below W.heap.size W w') := fun x W h hx => by
    have := H3.out 5 x W h (by omega) hx
    rw [hNF] at this; exact this
  rw [hNA] at EA
  rw [hNF] at EF
  obtain ⟨NL, hNL⟩ : ∃ x, (wants zs).length = x := ⟨_, rfl⟩
  rw [hNL] at EA
  have H1 : Hid (∀ W, Below w.heap.size w W → Calls Tryz.prog 66 #[.agg #[.slice az zs.length cz, .int .i64 s]] W fun e w' => ∃ ao cap, e = .returned (.slice ao NL cap) ∧ Ints w' (.slice ao NL cap) (wants zs) ∧ Below W.heap.size W w') := fun W h =>
    (housesOf_any _ zs s W (RI.out.later h (Nat.le_refl _)) (by omega)).mono fun e w' ⟨ao, cap, he, hI, hb⟩ => by rw [hNL] at he hI; exact ⟨ao, cap, he, hI, hb⟩
  have HNL := hide_it hNL
  obtain ⟨AA, hAA⟩ : ∃ x, allT ws (talkB s) ((M : Int) + 1) zs = x := ⟨_, rfl⟩
  obtain ⟨FF, hFF⟩ : ∃ x, anyT ws 5 ((M : Int) + 1) zs = x := ⟨_, rfl⟩
  rw [hAA] at EA
  rw [hFF] at EF
  have HD : Hid (∀ r, decK ws ((M : Int) + 1) (zs, s) (decide (SF = s)) = r → (if s = 1 then (if FF = true then 6 else if AA = true then 5 else 0) else if s = 2 ∨ s = 3 then (if (decide (SF = s) && AA) = true then 7 else 0) else 0) = r) := fun r h => by
    rw [← h]
    unfold decK
    simp only
    by_cases s1 : s = 1
    · subst s1; rw [if_pos rfl, if_pos rfl, hFF]; simp only [show talkB 1 = 4 from rfl] at hAA; rw [hAA]
    by_cases s2 : s = 2
    · subst s2; simp only [show talkB 2 = 6 from rfl] at hAA; rw [hAA]; rfl
    by_cases s3 : s = 3
    · subst s3; simp only [show talkB 3 = 7 from rfl] at hAA; rw [hAA]; rfl
    · rw [if_neg s1, if_neg s1, if_neg s2, if_neg s3, if_neg (by omega)]
  obtain ⟨RR, hRR⟩ : ∃ r, decK ws ((M : Int) + 1) (zs, s) (decide (SF = s)) = r := ⟨_, rfl⟩
  have HR := hide_it (HD.out RR hRR)
  rw [hRR]
  have HT := hide_it (fun W => talk_any s W)
  obtain ⟨TA, hTA⟩ : ∃ x, talkA s = x := ⟨_, rfl⟩
  obtain ⟨TB, hTB⟩ : ∃ x, talkB s = x := ⟨_, rfl⟩
  rw [hTA, hTB] at HT
  rw [hTB] at H5
  clear hNL hRR HD hAA hFF hNA hNF bw1 bw2 hz3 e0 hq hM hfit ht hSF H3 rI hc hTA hTB
  obtain ⟨y0, y1, y2, y3, y4, y5, y6⟩ := hcb.cells7
  go_enter Tryz.func44, Tryz.ntmps44
  go_wp2_with fail
  have B0 : Hid (Below w.heap.size w w) := Below.refl _ _
  have CB := hide_it hcb
  obtain ⟨w1, hw1⟩ : ∃ W, Hid (W = w.alloc (.cells #[.slice az zs.length cz, .int .i64 s] 91)) := ⟨_, rfl⟩
  have alw1 : Below w.heap.size w w1 := by rw [hw1.out]; exact alloc_below _ _
  replace B0 := hide_it (B0.out.trans (alw1.mono B0.out.size))
  replace CB := hide_it (CB.out.after alw1)
  have TT : Hid (Blk w1 (w.heap.size) #[.slice az zs.length cz, .int .i64 s] 91) := by show Blk _ _ _ _; rw [hw1.out]; exact Blk.new _ _ _
  clear alw1
  rw [← hw1.out]
  clear y0 y1 y2 y3 y4 y5 y6 r0 r1 hcb
  refine (H1.out _ B0.out).mono ?_
  rintro e w2 ⟨ah, ch, rfl, hI, hb⟩
  replace B0 := hide_it (B0.out.trans (hb.mono B0.out.size))
  replace CB := hide_it (CB.out.after hb)
  replace TT := hide_it (TT.out.after hb)
  have IH := hide_it hI
  clear hI
  clear hb
  obtain ⟨TT_0, TT_1⟩ := TT.out.cells2
  obtain ⟨CB_0, CB_1, CB_2, CB_3, CB_4, CB_5, CB_6⟩ := CB.out.cells7
  go_wp2_with fail
  refine (HT.out _).mono ?_
  rintro e wq ⟨rfl, hwq⟩
  rw [hwq]
  clear hwq
  clear TT_0 TT_1 CB_0 CB_1 CB_2 CB_3 CB_4 CB_5 CB_6
  obtain ⟨TT_0, TT_1⟩ := TT.out.cells2
  obtain ⟨CB_0, CB_1, CB_2, CB_3, CB_4, CB_5, CB_6⟩ := CB.out.cells7
  go_wp2_with fail
  refine (H5.out _ _ B0.out IH.out).mono ?_
  rintro e w3 ⟨rfl, hb⟩
  clear TT_0 TT_1 CB_0 CB_1 CB_2 CB_3 CB_4 CB_5 CB_6
  replace B0 := hide_it (B0.out.trans (hb.mono B0.out.size))
  replace CB := hide_it (CB.out.after hb)
  replace TT := hide_it (TT.out.after hb)
  replace IH := hide_it (IH.out.later hb (Nat.le_refl _))
  clear hb
  have HEA := hide_it EA
  have HEF := hide_it EF
  obtain ⟨TT_0, TT_1⟩ := TT.out.cells2
  obtain ⟨CB_0, CB_1, CB_2, CB_3, CB_4, CB_5, CB_6⟩ := CB.out.cells7
  clear EF
  by_cases s1 : s = 1
  · subst s1
    go_wp2_with fail
    clear TT_0 TT_1 CB_0 CB_1 CB_2 CB_3 CB_4 CB_5 CB_6
    refine (H6.out _ _ B0.out IH.out).mono ?_
    rintro e w3 ⟨rfl, hb⟩
    replace B0 := hide_it (B0.out.trans (hb.mono B0.out.size))
    clear hb
    cases FF
    · have hn : ¬ (0 : Int) < (NF : Int) := of_decide_eq_false HEF.out
      cases AA
      · go_wp2
        go_ret
        exact ⟨by rw [← HR.out]; simp, B0.out⟩
      · go_wp2
        go_ret
        exact ⟨by rw [← HR.out]; simp, B0.out⟩
    · have hn : (0 : Int) < (NF : Int) := of_decide_eq_true HEF.out
      go_wp2
      go_ret
      exact ⟨by rw [← HR.out]; simp, B0.out⟩
  by_cases s23 : s = 2 ∨ s = 3
  · cases AA
    · rcases s23 with rfl | rfl
      · go_wp2_with fail
        refine wp_region_held_drew (S := fun w' => (w'.cell? ⟨w.heap.size, 0, none⟩ = some (.slice az zs.length cz) ∧ w'.cell? ⟨w.heap.size, 1, none⟩ = some (.int .i64 2))) (by kernel_rfl) ⟨TT_0, TT_1⟩ (fun hHeld => ?_)
        refine takeD (i := 0) (v := ?_) (some 53) rfl rfl (by kernel_rfl) (by kernel_rfl) (by kernel_rfl) (fun _ _ _ h => h) (by rfl) hHeld ?_ ?_
        rotate_left
        · intro W hSw
          try dsimp only at hSw
          go_simp
          try with_reducible rfl
        try simp only [Act.put]
        try simp only [List.setIfInBounds_toArray]
        try simp only [List.set_cons_succ]
        try simp only [List.set_cons_zero]
        refine takeD (i := 1) (v := .bool false) (some 54) rfl rfl (by kernel_rfl) (by kernel_rfl) (by kernel_rfl) (fun _ _ _ h => h) (by rfl) hHeld ?_ ?_
        · intro W hSw
          try dsimp only at hSw
          first | (go_simp; done) | (go_simp; simp; done) | (go_simp; omega) | (go_simp; simp [*])
        try simp only [Act.put]
        try simp only [List.setIfInBounds_toArray]
        try simp only [List.set_cons_succ]
        try simp only [List.set_cons_zero]
        refine skipD (i := 2) (some 55) rfl rfl (by kernel_rfl) (by kernel_rfl) (by kernel_rfl) (fun _ _ _ h => h) (by rfl) hHeld ?_
        try simp only [Act.put]
        try simp only [List.setIfInBounds_toArray]
        try simp only [List.set_cons_succ]
        try simp only [List.set_cons_zero]
        refine skipD (i := 3) (some 56) rfl rfl (by kernel_rfl) (by kernel_rfl) (by kernel_rfl) (fun _ _ _ h => h) (by rfl) hHeld ?_
        try simp only [Act.put]
        try simp only [List.setIfInBounds_toArray]
        try simp only [List.set_cons_succ]
        try simp only [List.set_cons_zero]
        refine skipD (i := 4) (some 57) rfl rfl (by kernel_rfl) (by kernel_rfl) (by kernel_rfl) (fun _ _ _ h => h) (by rfl) hHeld ?_
        try simp only [Act.put]
        try simp only [List.setIfInBounds_toArray]
        try simp only [List.set_cons_succ]
        try simp only [List.set_cons_zero]
        refine skipD (i := 5) (some 58) rfl rfl (by kernel_rfl) (by kernel_rfl) (by kernel_rfl) (fun _ _ _ h => h) (by rfl) hHeld ?_
        try simp only [Act.put]
        try simp only [List.setIfInBounds_toArray]
        try simp only [List.set_cons_succ]
        try simp only [List.set_cons_zero]
        refine skipD (i := 6) (some 59) rfl rfl (by kernel_rfl) (by kernel_rfl) (by kernel_rfl) (fun _ _ _ h => h) (by rfl) hHeld ?_
        try simp only [Act.put]
        try simp only [List.setIfInBounds_toArray]
        try simp only [List.set_cons_succ]
        try simp only [List.set_cons_zero]
        refine skipD (i := 7) (some 60) rfl rfl (by kernel_rfl) (by kernel_rfl) (by kernel_rfl) (fun _ _ _ h => h) (by rfl) hHeld ?_
        try simp only [Act.put]
        try simp only [List.setIfInBounds_toArray]
        try simp only [List.set_cons_succ]
        try simp only [List.set_cons_zero]
        refine takeD (i := 8) (v := .bool false) (some 61) rfl rfl (by kernel_rfl) (by kernel_rfl) (by kernel_rfl) (fun _ _ _ h => h) (by rfl) hHeld ?_ ?_
        · intro W hSw
          try dsimp only at hSw
          first | (go_simp; done) | (go_simp; simp; done) | (go_simp; omega) | (go_simp; simp [*])
        try simp only [Act.put]
        try simp only [List.setIfInBounds_toArray]
        try simp only [List.set_cons_succ]
        try simp only [List.set_cons_zero]
        refine wpAnyH_done (by kernel_rfl) ?_ _
        go_wp2
        go_ret
        exact ⟨by rw [← HR.out]; simp, B0.out.drew⟩
      · go_wp2_with fail
        refine wp_region_held_drew (S := fun w' => (w'.cell? ⟨w.heap.size, 0, none⟩ = some (.slice az zs.length cz) ∧ w'.cell? ⟨w.heap.size, 1, none⟩ = some (.int .i64 3))) (by kernel_rfl) ⟨TT_0, TT_1⟩ (fun hHeld => ?_)
        refine takeD (i := 0) (v := ?_) (some 53) rfl rfl (by kernel_rfl) (by kernel_rfl) (by kernel_rfl) (fun _ _ _ h => h) (by rfl) hHeld ?_ ?_
        rotate_left
        · intro W hSw
          try dsimp only at hSw
          go_simp
          try with_reducible rfl
        try simp only [Act.put]
        try simp only [List.setIfInBounds_toArray]
        try simp only [List.set_cons_succ]
        try simp only [List.set_cons_zero]
        refine takeD (i := 1) (v := .bool false) (some 54) rfl rfl (by kernel_rfl) (by kernel_rfl) (by kernel_rfl) (fun _ _ _ h => h) (by rfl) hHeld ?_ ?_
        · intro W hSw
          try dsimp only at hSw
          first | (go_simp; done) | (go_simp; simp; done) | (go_simp; omega) | (go_simp; simp [*])
        try simp only [Act.put]
        try simp only [List.setIfInBounds_toArray]
        try simp only [List.set_cons_succ]
        try simp only [List.set_cons_zero]
        refine skipD (i := 2) (some 55) rfl rfl (by kernel_rfl) (by kernel_rfl) (by kernel_rfl) (fun _ _ _ h => h) (by rfl) hHeld ?_
        try simp only [Act.put]
        try simp only [List.setIfInBounds_toArray]
        try simp only [List.set_cons_succ]
        try simp only [List.set_cons_zero]
        refine skipD (i := 3) (some 56) rfl rfl (by kernel_rfl) (by kernel_rfl) (by kernel_rfl) (fun _ _ _ h => h) (by rfl) hHeld ?_
        try simp only [Act.put]
        try simp only [List.setIfInBounds_toArray]
        try simp only [List.set_cons_succ]
        try simp only [List.set_cons_zero]
        refine skipD (i := 4) (some 57) rfl rfl (by kernel_rfl) (by kernel_rfl) (by kernel_rfl) (fun _ _ _ h => h) (by rfl) hHeld ?_
        try simp only [Act.put]
        try simp only [List.setIfInBounds_toArray]
        try simp only [List.set_cons_succ]
        try simp only [List.set_cons_zero]
        refine skipD (i := 5) (some 58) rfl rfl (by kernel_rfl) (by kernel_rfl) (by kernel_rfl) (fun _ _ _ h => h) (by rfl) hHeld ?_
        try simp only [Act.put]
        try simp only [List.setIfInBounds_toArray]
        try simp only [List.set_cons_succ]
        try simp only [List.set_cons_zero]
        refine skipD (i := 6) (some 59) rfl rfl (by kernel_rfl) (by kernel_rfl) (by kernel_rfl) (fun _ _ _ h => h) (by rfl) hHeld ?_
        try simp only [Act.put]
        try simp only [List.setIfInBounds_toArray]
        try simp only [List.set_cons_succ]
        try simp only [List.set_cons_zero]
        refine skipD (i := 7) (some 60) rfl rfl (by kernel_rfl) (by kernel_rfl) (by kernel_rfl) (fun _ _ _ h => h) (by rfl) hHeld ?_
        try simp only [Act.put]
        try simp only [List.setIfInBounds_toArray]
        try simp only [List.set_cons_succ]
        try simp only [List.set_cons_zero]
        refine takeD (i := 8) (v := .bool false) (some 61) rfl rfl (by kernel_rfl) (by kernel_rfl) (by kernel_rfl) (fun _ _ _ h => h) (by rfl) hHeld ?_ ?_
        · intro W hSw
          try dsimp only at hSw
          first | (go_simp; done) | (go_simp; simp; done) | (go_simp; omega) | (go_simp; simp [*])
        try simp only [Act.put]
        try simp only [List.setIfInBounds_toArray]
        try simp only [List.set_cons_succ]
        try simp only [List.set_cons_zero]
        refine wpAnyH_done (by kernel_rfl) ?_ _
        go_wp2
        go_ret
        exact ⟨by rw [← HR.out]; simp, B0.out.drew⟩
    · rcases s23 with rfl | rfl
      · by_cases hsf : SF = 2
        · subst SF
          go_wp2_with fail
          refine wp_region_held_drew (S := fun w' => (w'.cell? ⟨w.heap.size, 0, none⟩ = some (.slice az zs.length cz) ∧ w'.cell? ⟨w.heap.size, 1, none⟩ = some (.int .i64 2))) (by kernel_rfl) ⟨TT_0, TT_1⟩ (fun hHeld => ?_)
          refine takeD (i := 0) (v := ?_) (some 53) rfl rfl (by kernel_rfl) (by kernel_rfl) (by kernel_rfl) (fun _ _ _ h => h) (by rfl) hHeld ?_ ?_
          rotate_left
          · intro W hSw
            try dsimp only at hSw
            go_simp
            try with_reducible rfl
          try simp only [Act.put]
          try simp only [List.setIfInBounds_toArray]
          try simp only [List.set_cons_succ]
          try simp only [List.set_cons_zero]
          refine takeD (i := 1) (v := .bool true) (some 54) rfl rfl (by kernel_rfl) (by kernel_rfl) (by kernel_rfl) (fun _ _ _ h => h) (by rfl) hHeld ?_ ?_
          · intro W hSw
            try dsimp only at hSw
            first | (go_simp; done) | (go_simp; simp; done) | (go_simp; omega) | (go_simp; simp [*])
          try simp only [Act.put]
          try simp only [List.setIfInBounds_toArray]
          try simp only [List.set_cons_succ]
          try simp only [List.set_cons_zero]
          refine takeD (i := 2) (v := ?_) (some 55) rfl rfl (by kernel_rfl) (by kernel_rfl) (by kernel_rfl) (fun _ _ _ h => h) (by rfl) hHeld ?_ ?_
          rotate_left
          · intro W hSw
            try dsimp only at hSw
            go_simp
            try with_reducible rfl
          try simp only [Act.put]
          try simp only [List.setIfInBounds_toArray]
          try simp only [List.set_cons_succ]
          try simp only [List.set_cons_zero]
          refine takeD (i := 3) (v := ?_) (some 56) rfl rfl (by kernel_rfl) (by kernel_rfl) (by kernel_rfl) (fun _ _ _ h => h) (by rfl) hHeld ?_ ?_
          rotate_left
          · intro W hSw
            try dsimp only at hSw
            go_simp
            try with_reducible rfl
          try simp only [Act.put]
          try simp only [List.setIfInBounds_toArray]
          try simp only [List.set_cons_succ]
          try simp only [List.set_cons_zero]
          refine takeD (i := 5) (v := ?_) (some 58) rfl rfl (by kernel_rfl) (by kernel_rfl) (by kernel_rfl) (fun _ _ _ h => h) (by rfl) hHeld ?_ ?_
          rotate_left
          · intro W hSw
            try dsimp only at hSw
            go_simp
            try with_reducible rfl
          try simp only [Act.put]
          try simp only [List.setIfInBounds_toArray]
          try simp only [List.set_cons_succ]
          try simp only [List.set_cons_zero]
          refine takeD (i := 6) (v := ?_) (some 59) rfl rfl (by kernel_rfl) (by kernel_rfl) (by kernel_rfl) (fun _ _ _ h => h) (by rfl) hHeld ?_ ?_
          rotate_left
          · intro W hSw
            try dsimp only at hSw
            go_simp
            try with_reducible rfl
          try simp only [Act.put]
          try simp only [List.setIfInBounds_toArray]
          try simp only [List.set_cons_succ]
          try simp only [List.set_cons_zero]
          refine wpAnyH_ready (rs := [4]) (by kernel_rfl) (by simp) ?_
          refine AllReadyH.cons rfl (fun K hK => ?_) AllReadyH.nil
          go_simp
          refine (H4.out _ B0.out.drew).mono ?_
          rintro e w4 ⟨rfl, hb⟩
          have B4 := hide_it (B0.out.drew.trans (hb.mono B0.out.drew.size))
          have TT4 := hide_it (TT.out.after ((Below.refl w3.heap.size w3).drew.trans hb))
          clear hb
          try dsimp only
          refine hK.out _ _ TT4.out.cells2 (fun hHeld => ?_)
          clear hK K
          refine takeD (i := 7) (v := .bool true) (some 60) rfl rfl (by kernel_rfl) (by kernel_rfl) (by kernel_rfl) (fun _ _ _ h => h) (by rfl) hHeld ?_ ?_
          · intro W hSw
            try dsimp only at hSw
            first | (go_simp; done) | (go_simp; simp; done) | (go_simp; omega) | (go_simp; simp [*])
          try simp only [Act.put]
          try simp only [List.setIfInBounds_toArray]
          try simp only [List.set_cons_succ]
          try simp only [List.set_cons_zero]
          refine takeD (i := 8) (v := .bool true) (some 61) rfl rfl (by kernel_rfl) (by kernel_rfl) (by kernel_rfl) (fun _ _ _ h => h) (by rfl) hHeld ?_ ?_
          · intro W hSw
            try dsimp only at hSw
            first | (go_simp; done) | (go_simp; simp; done) | (go_simp; omega) | (go_simp; simp [*])
          try simp only [Act.put]
          try simp only [List.setIfInBounds_toArray]
          try simp only [List.set_cons_succ]
          try simp only [List.set_cons_zero]
          refine wpAnyH_done (by kernel_rfl) ?_ _
          go_wp2
          go_ret
          exact ⟨by rw [← HR.out]; simp, B4.out⟩
        · have hsn : (SF == 2) = false := by simpa using hsf
          go_wp2_with fail
          refine wp_region_held_drew (S := fun w' => (w'.cell? ⟨w.heap.size, 0, none⟩ = some (.slice az zs.length cz) ∧ w'.cell? ⟨w.heap.size, 1, none⟩ = some (.int .i64 2))) (by kernel_rfl) ⟨TT_0, TT_1⟩ (fun hHeld => ?_)
          refine takeD (i := 0) (v := ?_) (some 53) rfl rfl (by kernel_rfl) (by kernel_rfl) (by kernel_rfl) (fun _ _ _ h => h) (by rfl) hHeld ?_ ?_
          rotate_left
          · intro W hSw
            try dsimp only at hSw
            go_simp
            try with_reducible rfl
          try simp only [Act.put]
          try simp only [List.setIfInBounds_toArray]
          try simp only [List.set_cons_succ]
          try simp only [List.set_cons_zero]
          refine takeD (i := 1) (v := .bool true) (some 54) rfl rfl (by kernel_rfl) (by kernel_rfl) (by kernel_rfl) (fun _ _ _ h => h) (by rfl) hHeld ?_ ?_
          · intro W hSw
            try dsimp only at hSw
            first | (go_simp; done) | (go_simp; simp; done) | (go_simp; omega) | (go_simp; simp [*])
          try simp only [Act.put]
          try simp only [List.setIfInBounds_toArray]
          try simp only [List.set_cons_succ]
          try simp only [List.set_cons_zero]
          refine takeD (i := 2) (v := ?_) (some 55) rfl rfl (by kernel_rfl) (by kernel_rfl) (by kernel_rfl) (fun _ _ _ h => h) (by rfl) hHeld ?_ ?_
          rotate_left
          · intro W hSw
            try dsimp only at hSw
            go_simp
            try with_reducible rfl
          try simp only [Act.put]
          try simp only [List.setIfInBounds_toArray]
          try simp only [List.set_cons_succ]
          try simp only [List.set_cons_zero]
          refine takeD (i := 3) (v := ?_) (some 56) rfl rfl (by kernel_rfl) (by kernel_rfl) (by kernel_rfl) (fun _ _ _ h => h) (by rfl) hHeld ?_ ?_
          rotate_left
          · intro W hSw
            try dsimp only at hSw
            go_simp
            try with_reducible rfl
          try simp only [Act.put]
          try simp only [List.setIfInBounds_toArray]
          try simp only [List.set_cons_succ]
          try simp only [List.set_cons_zero]
          refine takeD (i := 5) (v := ?_) (some 58) rfl rfl (by kernel_rfl) (by kernel_rfl) (by kernel_rfl) (fun _ _ _ h => h) (by rfl) hHeld ?_ ?_
          rotate_left
          · intro W hSw
            try dsimp only at hSw
            go_simp
            try with_reducible rfl
          try simp only [Act.put]
          try simp only [List.setIfInBounds_toArray]
          try simp only [List.set_cons_succ]
          try simp only [List.set_cons_zero]
          refine takeD (i := 6) (v := ?_) (some 59) rfl rfl (by kernel_rfl) (by kernel_rfl) (by kernel_rfl) (fun _ _ _ h => h) (by rfl) hHeld ?_ ?_
          rotate_left
          · intro W hSw
            try dsimp only at hSw
            go_simp
            try with_reducible rfl
          try simp only [Act.put]
          try simp only [List.setIfInBounds_toArray]
          try simp only [List.set_cons_succ]
          try simp only [List.set_cons_zero]
          refine wpAnyH_ready (rs := [4]) (by kernel_rfl) (by simp) ?_
          refine AllReadyH.cons rfl (fun K hK => ?_) AllReadyH.nil
          go_simp
          refine (H4.out _ B0.out.drew).mono ?_
          rintro e w4 ⟨rfl, hb⟩
          have B4 := hide_it (B0.out.drew.trans (hb.mono B0.out.drew.size))
          have TT4 := hide_it (TT.out.after ((Below.refl w3.heap.size w3).drew.trans hb))
          clear hb
          try dsimp only
          refine hK.out _ _ TT4.out.cells2 (fun hHeld => ?_)
          clear hK K
          refine takeD (i := 7) (v := .bool false) (some 60) rfl rfl (by kernel_rfl) (by kernel_rfl) (by kernel_rfl) (fun _ _ _ h => h) (by rfl) hHeld ?_ ?_
          · intro W hSw
            try dsimp only at hSw
            first | (go_simp; done) | (go_simp; simp; done) | (go_simp; omega) | (go_simp; simp [*])
          try simp only [Act.put]
          try simp only [List.setIfInBounds_toArray]
          try simp only [List.set_cons_succ]
          try simp only [List.set_cons_zero]
          refine takeD (i := 8) (v := .bool false) (some 61) rfl rfl (by kernel_rfl) (by kernel_rfl) (by kernel_rfl) (fun _ _ _ h => h) (by rfl) hHeld ?_ ?_
          · intro W hSw
            try dsimp only at hSw
            first | (go_simp; done) | (go_simp; simp; done) | (go_simp; omega) | (go_simp; simp [*])
          try simp only [Act.put]
          try simp only [List.setIfInBounds_toArray]
          try simp only [List.set_cons_succ]
          try simp only [List.set_cons_zero]
          refine wpAnyH_done (by kernel_rfl) ?_ _
          go_wp2
          go_ret
          exact ⟨by rw [← HR.out]; simp [hsf], B4.out⟩
      · by_cases hsf : SF = 3
        · subst SF
          go_wp2_with fail
          refine wp_region_held_drew (S := fun w' => (w'.cell? ⟨w.heap.size, 0, none⟩ = some (.slice az zs.length cz) ∧ w'.cell? ⟨w.heap.size, 1, none⟩ = some (.int .i64 3))) (by kernel_rfl) ⟨TT_0, TT_1⟩ (fun hHeld => ?_)
          refine takeD (i := 0) (v := ?_) (some 53) rfl rfl (by kernel_rfl) (by kernel_rfl) (by kernel_rfl) (fun _ _ _ h => h) (by rfl) hHeld ?_ ?_
          rotate_left
          · intro W hSw
            try dsimp only at hSw
            go_simp
            try with_reducible rfl
          try simp only [Act.put]
          try simp only [List.setIfInBounds_toArray]
          try simp only [List.set_cons_succ]
          try simp only [List.set_cons_zero]
          refine takeD (i := 1) (v := .bool true) (some 54) rfl rfl (by kernel_rfl) (by kernel_rfl) (by kernel_rfl) (fun _ _ _ h => h) (by rfl) hHeld ?_ ?_
          · intro W hSw
            try dsimp only at hSw
            first | (go_simp; done) | (go_simp; simp; done) | (go_simp; omega) | (go_simp; simp [*])
          try simp only [Act.put]
          try simp only [List.setIfInBounds_toArray]
          try simp only [List.set_cons_succ]
          try simp only [List.set_cons_zero]
          refine takeD (i := 2) (v := ?_) (some 55) rfl rfl (by kernel_rfl) (by kernel_rfl) (by kernel_rfl) (fun _ _ _ h => h) (by rfl) hHeld ?_ ?_
          rotate_left
          · intro W hSw
            try dsimp only at hSw
            go_simp
            try with_reducible rfl
          try simp only [Act.put]
          try simp only [List.setIfInBounds_toArray]
          try simp only [List.set_cons_succ]
          try simp only [List.set_cons_zero]
          refine takeD (i := 3) (v := ?_) (some 56) rfl rfl (by kernel_rfl) (by kernel_rfl) (by kernel_rfl) (fun _ _ _ h => h) (by rfl) hHeld ?_ ?_
          rotate_left
          · intro W hSw
            try dsimp only at hSw
            go_simp
            try with_reducible rfl
          try simp only [Act.put]
          try simp only [List.setIfInBounds_toArray]
          try simp only [List.set_cons_succ]
          try simp only [List.set_cons_zero]
          refine takeD (i := 5) (v := ?_) (some 58) rfl rfl (by kernel_rfl) (by kernel_rfl) (by kernel_rfl) (fun _ _ _ h => h) (by rfl) hHeld ?_ ?_
          rotate_left
          · intro W hSw
            try dsimp only at hSw
            go_simp
            try with_reducible rfl
          try simp only [Act.put]
          try simp only [List.setIfInBounds_toArray]
          try simp only [List.set_cons_succ]
          try simp only [List.set_cons_zero]
          refine takeD (i := 6) (v := ?_) (some 59) rfl rfl (by kernel_rfl) (by kernel_rfl) (by kernel_rfl) (fun _ _ _ h => h) (by rfl) hHeld ?_ ?_
          rotate_left
          · intro W hSw
            try dsimp only at hSw
            go_simp
            try with_reducible rfl
          try simp only [Act.put]
          try simp only [List.setIfInBounds_toArray]
          try simp only [List.set_cons_succ]
          try simp only [List.set_cons_zero]
          refine wpAnyH_ready (rs := [4]) (by kernel_rfl) (by simp) ?_
          refine AllReadyH.cons rfl (fun K hK => ?_) AllReadyH.nil
          go_simp
          refine (H4.out _ B0.out.drew).mono ?_
          rintro e w4 ⟨rfl, hb⟩
          have B4 := hide_it (B0.out.drew.trans (hb.mono B0.out.drew.size))
          have TT4 := hide_it (TT.out.after ((Below.refl w3.heap.size w3).drew.trans hb))
          clear hb
          try dsimp only
          refine hK.out _ _ TT4.out.cells2 (fun hHeld => ?_)
          clear hK K
          refine takeD (i := 7) (v := .bool true) (some 60) rfl rfl (by kernel_rfl) (by kernel_rfl) (by kernel_rfl) (fun _ _ _ h => h) (by rfl) hHeld ?_ ?_
          · intro W hSw
            try dsimp only at hSw
            first | (go_simp; done) | (go_simp; simp; done) | (go_simp; omega) | (go_simp; simp [*])
          try simp only [Act.put]
          try simp only [List.setIfInBounds_toArray]
          try simp only [List.set_cons_succ]
          try simp only [List.set_cons_zero]
          refine takeD (i := 8) (v := .bool true) (some 61) rfl rfl (by kernel_rfl) (by kernel_rfl) (by kernel_rfl) (fun _ _ _ h => h) (by rfl) hHeld ?_ ?_
          · intro W hSw
            try dsimp only at hSw
            first | (go_simp; done) | (go_simp; simp; done) | (go_simp; omega) | (go_simp; simp [*])
          try simp only [Act.put]
          try simp only [List.setIfInBounds_toArray]
          try simp only [List.set_cons_succ]
          try simp only [List.set_cons_zero]
          refine wpAnyH_done (by kernel_rfl) ?_ _
          go_wp2
          go_ret
          exact ⟨by rw [← HR.out]; simp, B4.out⟩
        · have hsn : (SF == 3) = false := by simpa using hsf
          go_wp2_with fail
          refine wp_region_held_drew (S := fun w' => (w'.cell? ⟨w.heap.size, 0, none⟩ = some (.slice az zs.length cz) ∧ w'.cell? ⟨w.heap.size, 1, none⟩ = some (.int .i64 3))) (by kernel_rfl) ⟨TT_0, TT_1⟩ (fun hHeld => ?_)
          refine takeD (i := 0) (v := ?_) (some 53) rfl rfl (by kernel_rfl) (by kernel_rfl) (by kernel_rfl) (fun _ _ _ h => h) (by rfl) hHeld ?_ ?_
          rotate_left
          · intro W hSw
            try dsimp only at hSw
            go_simp
            try with_reducible rfl
          try simp only [Act.put]
          try simp only [List.setIfInBounds_toArray]
          try simp only [List.set_cons_succ]
          try simp only [List.set_cons_zero]
          refine takeD (i := 1) (v := .bool true) (some 54) rfl rfl (by kernel_rfl) (by kernel_rfl) (by kernel_rfl) (fun _ _ _ h => h) (by rfl) hHeld ?_ ?_
          · intro W hSw
            try dsimp only at hSw
            first | (go_simp; done) | (go_simp; simp; done) | (go_simp; omega) | (go_simp; simp [*])
          try simp only [Act.put]
          try simp only [List.setIfInBounds_toArray]
          try simp only [List.set_cons_succ]
          try simp only [List.set_cons_zero]
          refine takeD (i := 2) (v := ?_) (some 55) rfl rfl (by kernel_rfl) (by kernel_rfl) (by kernel_rfl) (fun _ _ _ h => h) (by rfl) hHeld ?_ ?_
          rotate_left
          · intro W hSw
            try dsimp only at hSw
            go_simp
            try with_reducible rfl
          try simp only [Act.put]
          try simp only [List.setIfInBounds_toArray]
          try simp only [List.set_cons_succ]
          try simp only [List.set_cons_zero]
          refine takeD (i := 3) (v := ?_) (some 56) rfl rfl (by kernel_rfl) (by kernel_rfl) (by kernel_rfl) (fun _ _ _ h => h) (by rfl) hHeld ?_ ?_
          rotate_left
          · intro W hSw
            try dsimp only at hSw
            go_simp
            try with_reducible rfl
          try simp only [Act.put]
          try simp only [List.setIfInBounds_toArray]
          try simp only [List.set_cons_succ]
          try simp only [List.set_cons_zero]
          refine takeD (i := 5) (v := ?_) (some 58) rfl rfl (by kernel_rfl) (by kernel_rfl) (by kernel_rfl) (fun _ _ _ h => h) (by rfl) hHeld ?_ ?_
          rotate_left
          · intro W hSw
            try dsimp only at hSw
            go_simp
            try with_reducible rfl
          try simp only [Act.put]
          try simp only [List.setIfInBounds_toArray]
          try simp only [List.set_cons_succ]
          try simp only [List.set_cons_zero]
          refine takeD (i := 6) (v := ?_) (some 59) rfl rfl (by kernel_rfl) (by kernel_rfl) (by kernel_rfl) (fun _ _ _ h => h) (by rfl) hHeld ?_ ?_
          rotate_left
          · intro W hSw
            try dsimp only at hSw
            go_simp
            try with_reducible rfl
          try simp only [Act.put]
          try simp only [List.setIfInBounds_toArray]
          try simp only [List.set_cons_succ]
          try simp only [List.set_cons_zero]
          refine wpAnyH_ready (rs := [4]) (by kernel_rfl) (by simp) ?_
          refine AllReadyH.cons rfl (fun K hK => ?_) AllReadyH.nil
          go_simp
          refine (H4.out _ B0.out.drew).mono ?_
          rintro e w4 ⟨rfl, hb⟩
          have B4 := hide_it (B0.out.drew.trans (hb.mono B0.out.drew.size))
          have TT4 := hide_it (TT.out.after ((Below.refl w3.heap.size w3).drew.trans hb))
          clear hb
          try dsimp only
          refine hK.out _ _ TT4.out.cells2 (fun hHeld => ?_)
          clear hK K
          refine takeD (i := 7) (v := .bool false) (some 60) rfl rfl (by kernel_rfl) (by kernel_rfl) (by kernel_rfl) (fun _ _ _ h => h) (by rfl) hHeld ?_ ?_
          · intro W hSw
            try dsimp only at hSw
            first | (go_simp; done) | (go_simp; simp; done) | (go_simp; omega) | (go_simp; simp [*])
          try simp only [Act.put]
          try simp only [List.setIfInBounds_toArray]
          try simp only [List.set_cons_succ]
          try simp only [List.set_cons_zero]
          refine takeD (i := 8) (v := .bool false) (some 61) rfl rfl (by kernel_rfl) (by kernel_rfl) (by kernel_rfl) (fun _ _ _ h => h) (by rfl) hHeld ?_ ?_
          · intro W hSw
            try dsimp only at hSw
            first | (go_simp; done) | (go_simp; simp; done) | (go_simp; omega) | (go_simp; simp [*])
          try simp only [Act.put]
          try simp only [List.setIfInBounds_toArray]
          try simp only [List.set_cons_succ]
          try simp only [List.set_cons_zero]
          refine wpAnyH_done (by kernel_rfl) ?_ _
          go_wp2
          go_ret
          exact ⟨by rw [← HR.out]; simp [hsf], B4.out⟩
  · have k1 : (s == 1) = false := by simpa using s1
    have k2 : (s == 2) = false := by simpa using fun h => s23 (Or.inl h)
    have k3 : (s == 3) = false := by simpa using fun h => s23 (Or.inr h)
    go_wp2
    go_ret
    exact ⟨by rw [← HR.out]; simp [s1, s23], B0.out⟩

end Go.Proofs.YtgknnigjlnfplaaGreatDoor

namespace Go.Proofs.YtgknnigjlnfplaaGreatDoor
open Go.RowKit

set_option maxRecDepth 100000 in
set_option maxHeartbeats 8000000 in
theorem l13All_any (up : Bool) (v : Value) (f : Int) (u y : Value) (ws : List Wd) (zs : List Int) (t k : Int) (w : World) (hu : Words w u ws) (hlw : ws.length ≤ 1048576) (hy : Ints w y zs) (hz : zs.length ≤ 3) (hT : ∀ h : Int, 1 ≤ h → h ≤ 3 → told ws k h t = ws.contains (k, h, t, 0)) :
    Calls Tryz.prog 56 #[deskV up v f u, .int .i64 t, y, .int .i64 k] w fun e w' => e = .returned (.bool (allT ws k t zs)) ∧ Below w.heap.size w w' := by
  have HU : Hid (∀ W, Below w.heap.size w W → Words W u ws) := fun W h => hu.later h (Nat.le_refl _)
  have HI : Hid (∀ W, Below w.heap.size w W → Ints W y zs) := fun W h => hy.later h (Nat.le_refl _)
  have HT := hide_it hT
  obtain ⟨au, cu, rfl⟩ := hu.shape
  obtain ⟨ay, cy, rfl⟩ := hy.shape
  have HC : Hid (∀ (h : Int) (W : World), Below w.heap.size w W → Calls Tryz.prog 33 #[.slice au ws.length cu, wordV k h t 0] W fun e w' => e = .returned (.bool (ws.contains (k, h, t, 0))) ∧ Below W.heap.size W w') := fun h W hb =>
    l13Told_any _ ws (k, h, t, 0) W (HU.out W hb) hlw
  clear hu hy hT
  obtain ⟨w0, hw0⟩ : ∃ W, Hid (W = w.alloc (.cells #[.bool up, v, .int .i64 f, .slice au ws.length cu] 36)) := ⟨_, rfl⟩
  have B0 : Hid (Below w.heap.size w w0) := by show Below _ _ _; rw [hw0.out]; exact alloc_below _ _
  have X0 : Hid (Blk w0 w.heap.size #[.bool up, v, .int .i64 f, .slice au ws.length cu] 36) := by show Blk _ _ _ _; rw [hw0.out]; exact Blk.new _ _ _
  go_enter Tryz.func56, Tryz.ntmps56
  go_wp2
  rw [← hw0.out]
  go_loopw [9] (fun i wr => ∃ q : Nat, q ≤ zs.length ∧ i = .int .i64 q ∧ Hid ((wantsK zs q).all (fun h => told ws k h t) = true) ∧ Hid (Below w0.heap.size w0 wr)) (fun i _ => zs.length - (intOf i).toNat)
  case atStart => exact ⟨0, Nat.zero_le _, rfl, rfl, Below.refl _ _⟩
  case round =>
    obtain ⟨q, hq, rfl, HV, HB⟩ := hrel
    by_cases hlt : q < zs.length
    · obtain ⟨b1, off, cap, hvv, hc⟩ := ints_cell (HI.out wr (B0.out.trans (HB.out.mono B0.out.size))) (by intro e; rw [e] at hlt; simp at hlt)
      simp only [Value.slice.injEq] at hvv
      obtain ⟨rfl, -, rfl⟩ := hvv
      obtain ⟨z, hz⟩ : ∃ z, zs.getD q 0 = z := ⟨_, rfl⟩
      have c0 := hc q hlt
      rw [hz] at c0
      clear hc
      obtain ⟨x0, x1, x2, x3⟩ := (X0.out.after HB.out).cells4
      by_cases hpos : 0 < z
      · have HW : Hid (wantsK zs (q + 1) = wantsK zs q ++ [((q : Nat) : Int) + 1]) := wantsK_yes (by rw [hz]; exact hpos)
        have HE := hide_it (HT.out ((q : Int) + 1) (by omega) (by omega))
        have HCC := hide_it (HC.out ((q : Int) + 1) wr (B0.out.trans (HB.out.mono B0.out.size)))
        have hmem : ((q : Nat) : Int) + 1 ∈ wants zs := wantsK_mem.2 ⟨q, hlt, by rw [hz]; exact hpos, rfl⟩
        have HMM := hide_it hmem
        obtain ⟨bb, hbb⟩ : ∃ x, ws.contains (k, (q : Int) + 1, t, 0) = x := ⟨_, rfl⟩
        rw [hbb] at HE HCC
        clear hz hbb hmem
        cases bb
        · go_wp2_with fail
          refine HCC.out.mono ?_
          rintro e w1 ⟨rfl, hb⟩
          have B1 := hide_it (B0.out.trans ((HB.out.trans (hb.mono HB.out.size)).mono B0.out.size))
          have L1 := hide_it (HB.out.trans (hb.mono HB.out.size))
          clear hb x0 x1 x2 x3
          go_wp2
          go_ret
          exact ⟨by rw [show allT ws k t zs = false from List.all_eq_false.2 ⟨_, HMM.out, by rw [HE.out]; decide⟩]; rfl, B1.out⟩
        · go_wp2_with fail
          refine HCC.out.mono ?_
          rintro e w1 ⟨rfl, hb⟩
          have B1 := hide_it (B0.out.trans ((HB.out.trans (hb.mono HB.out.size)).mono B0.out.size))
          have L1 := hide_it (HB.out.trans (hb.mono HB.out.size))
          clear hb x0 x1 x2 x3
          go_wp2
          go_roundw
          case rel => exact ⟨q + 1, by omega, by go_num, by show _ = _; rw [HW.out, List.all_append]; simp [HV.out, HE.out], L1⟩
          case measure => simp [intOf]; omega
      · have HW : Hid (wantsK zs (q + 1) = wantsK zs q) := wantsK_no (by rw [hz]; exact hpos)
        clear hz
        go_wp2
        go_roundw
        case rel => exact ⟨q + 1, by omega, by go_num, by show _ = _; rw [HW.out]; exact HV.out, HB⟩
        case measure => simp [intOf]; omega
    · have hqe : q = zs.length := by omega
      subst hqe
      have B1 := hide_it (B0.out.trans (HB.out.mono B0.out.size))
      have HF : Hid (allT ws k t zs = true) := HV.out
      go_wp2
      go_ret
      exact ⟨by rw [HF.out]; rfl, B1.out⟩

set_option maxRecDepth 100000 in
set_option maxHeartbeats 8000000 in
theorem l13Any_any (up : Bool) (v : Value) (f : Int) (u y : Value) (ws : List Wd) (zs : List Int) (t k : Int) (w : World) (hu : Words w u ws) (hlw : ws.length ≤ 1048576) (hy : Ints w y zs) (hz : zs.length ≤ 3) (hT : ∀ h : Int, 1 ≤ h → h ≤ 3 → told ws k h t = ws.contains (k, h, t, 0)) :
    Calls Tryz.prog 55 #[deskV up v f u, .int .i64 t, y, .int .i64 k] w fun e w' => e = .returned (.bool (anyT ws k t zs)) ∧ Below w.heap.size w w' := by
  have HU : Hid (∀ W, Below w.heap.size w W → Words W u ws) := fun W h => hu.later h (Nat.le_refl _)
  have HI : Hid (∀ W, Below w.heap.size w W → Ints W y zs) := fun W h => hy.later h (Nat.le_refl _)
  have HT := hide_it hT
  obtain ⟨au, cu, rfl⟩ := hu.shape
  obtain ⟨ay, cy, rfl⟩ := hy.shape
  have HC : Hid (∀ (h : Int) (W : World), Below w.heap.size w W → Calls Tryz.prog 33 #[.slice au ws.length cu, wordV k h t 0] W fun e w' => e = .returned (.bool (ws.contains (k, h, t, 0))) ∧ Below W.heap.size W w') := fun h W hb =>
    l13Told_any _ ws (k, h, t, 0) W (HU.out W hb) hlw
  clear hu hy hT
  obtain ⟨w0, hw0⟩ : ∃ W, Hid (W = w.alloc (.cells #[.bool up, v, .int .i64 f, .slice au ws.length cu] 36)) := ⟨_, rfl⟩
  have B0 : Hid (Below w.heap.size w w0) := by show Below _ _ _; rw [hw0.out]; exact alloc_below _ _
  have X0 : Hid (Blk w0 w.heap.size #[.bool up, v, .int .i64 f, .slice au ws.length cu] 36) := by show Blk _ _ _ _; rw [hw0.out]; exact Blk.new _ _ _
  go_enter Tryz.func55, Tryz.ntmps55
  go_wp2
  rw [← hw0.out]
  go_loopw [9] (fun i wr => ∃ q : Nat, q ≤ zs.length ∧ i = .int .i64 q ∧ Hid ((wantsK zs q).any (fun h => told ws k h t) = false) ∧ Hid (Below w0.heap.size w0 wr)) (fun i _ => zs.length - (intOf i).toNat)
  case atStart => exact ⟨0, Nat.zero_le _, rfl, rfl, Below.refl _ _⟩
  case round =>
    obtain ⟨q, hq, rfl, HV, HB⟩ := hrel
    by_cases hlt : q < zs.length
    · obtain ⟨b1, off, cap, hvv, hc⟩ := ints_cell (HI.out wr (B0.out.trans (HB.out.mono B0.out.size))) (by intro e; rw [e] at hlt; simp at hlt)
      simp only [Value.slice.injEq] at hvv
      obtain ⟨rfl, -, rfl⟩ := hvv
      obtain ⟨z, hz⟩ : ∃ z, zs.getD q 0 = z := ⟨_, rfl⟩
      have c0 := hc q hlt
      rw [hz] at c0
      clear hc
      obtain ⟨x0, x1, x2, x3⟩ := (X0.out.after HB.out).cells4
      by_cases hpos : 0 < z
      · have HW : Hid (wantsK zs (q + 1) = wantsK zs q ++ [((q : Nat) : Int) + 1]) := wantsK_yes (by rw [hz]; exact hpos)
        have HE := hide_it (HT.out ((q : Int) + 1) (by omega) (by omega))
        have HCC := hide_it (HC.out ((q : Int) + 1) wr (B0.out.trans (HB.out.mono B0.out.size)))
        have hmem : ((q : Nat) : Int) + 1 ∈ wants zs := wantsK_mem.2 ⟨q, hlt, by rw [hz]; exact hpos, rfl⟩
        have HMM := hide_it hmem
        obtain ⟨bb, hbb⟩ : ∃ x, ws.contains (k, (q : Int) + 1, t, 0) = x := ⟨_, rfl⟩
        rw [hbb] at HE HCC
        clear hz hbb hmem
        cases bb
        · go_wp2_with fail
          refine HCC.out.mono ?_
          rintro e w1 ⟨rfl, hb⟩
          have B1 := hide_it (B0.out.trans ((HB.out.trans (hb.mono HB.out.size)).mono B0.out.size))
          have L1 := hide_it (HB.out.trans (hb.mono HB.out.size))
          clear hb x0 x1 x2 x3
          go_wp2
          go_roundw
          case rel => exact ⟨q + 1, by omega, by go_num, by show _ = _; rw [HW.out, List.any_append]; simp [HV.out, HE.out], L1⟩
          case measure => simp [intOf]; omega
        · go_wp2_with fail
          refine HCC.out.mono ?_
          rintro e w1 ⟨rfl, hb⟩
          have B1 := hide_it (B0.out.trans ((HB.out.trans (hb.mono HB.out.size)).mono B0.out.size))
          have L1 := hide_it (HB.out.trans (hb.mono HB.out.size))
          clear hb x0 x1 x2 x3
          go_wp2
          go_ret
          exact ⟨by rw [show anyT ws k t zs = true from List.any_eq_true.2 ⟨_, HMM.out, HE.out⟩]; rfl, B1.out⟩
      · have HW : Hid (wantsK zs (q + 1) = wantsK zs q) := wantsK_no (by rw [hz]; exact hpos)
        clear hz
        go_wp2
        go_roundw
        case rel => exact ⟨q + 1, by omega, by go_num, by show _ = _; rw [HW.out]; exact HV.out, HB⟩
        case measure => simp [intOf]; omega
    · have hqe : q = zs.length := by omega
      subst hqe
      have B1 := hide_it (B0.out.trans (HB.out.mono B0.out.size))
      have HF : Hid (anyT ws k t zs = false) := HV.out
      go_wp2
      go_ret
      exact ⟨by rw [HF.out]; rfl, B1.out⟩

end Go.Proofs.YtgknnigjlnfplaaGreatDoor

namespace Go.Proofs.YtgknnigjlnfplaaGreatDoor
open Go.RowKit

/-- What comes of a record that somebody asks for. -/
def AsOut (w w' : World) (e : Ending) (c lo : Nat) (up : Bool) (v : Value) (f : Int) (u : Value) (rs : List R) (ws : List Wd) (r : R) : Prop :=
  (rOk r = false ∧ e = .returned (.tuple #[deskV false (.slice none 0 0) 0 (.slice none 0 0), .bool false]) ∧ Below w.heap.size w w') ∨
  (rOk r = true ∧ dkMay up rs r = false ∧ e = .returned (.tuple #[deskV up v f u, .bool false]) ∧ Below w.heap.size w w') ∨
  (rOk r = true ∧ dkMay up rs r = true ∧ Below c w w' ∧ ∃ a3 c3 ps3, e = .returned (.tuple #[deskV up (.slice a3 (rs ++ [r]).length c3) f u, .bool true]) ∧ ps3.map (·.1) = rs ++ [r] ∧ DkOwn w' lo w'.heap.size (.slice a3 (rs ++ [r]).length c3) u ps3 ws)

/-- What a desk is behind a record that somebody asked for, and whether it was written down. -/
def dkAsk (up : Bool) (rs : List R) (f : Int) (ws : List Wd) (r : R) : Dk × Bool := if dkOk up rs f ws = true ∧ rOk r = true then (if dkMay up rs r = true then ((up, rs ++ [r], f, ws), true) else ((up, rs, f, ws), false)) else (dkZ, false)
def DkO2 (w w' : World) (e : Ending) (o : Dk × Bool) : Prop := DkOut2 w w' e o.1.1 o.1.2.1 o.1.2.2.1 o.1.2.2.2 o.2
theorem DkO2.none_ {w w' : World} (h : Below w.heap.size w w') : DkO2 w w' (.returned (.tuple #[deskV false (.slice none 0 0) 0 (.slice none 0 0), .bool false])) (dkZ, false) := by
  obtain ⟨ps, hp, ho⟩ := Made.none w' w.heap.size
  exact ⟨none, 0, none, 0, ps, rfl, hp, ⟨ho, World.ownsRow_nil _ _ _ _, fun g hg => by simp [Value.ownBlock] at hg⟩, h⟩

end Go.Proofs.YtgknnigjlnfplaaGreatDoor

namespace Go.Proofs.YtgknnigjlnfplaaGreatDoor
open Go.RowKit

def LwOut (w w' : World) (e : Ending) (lo : Nat) (up : Bool) (v : Value) (f : Int) (u : Value) (rs : List R) (ws : List Wd) (r : R) : Prop :=
  (dkMay up rs r = false ∧ e = .returned (.tuple #[deskV up v f u, .bool false]) ∧ Below w.heap.size w w') ∨
  (dkMay up rs r = true ∧ Below lo w w' ∧ ∃ a3 c3 ps3, e = .returned (.tuple #[deskV up (.slice a3 (rs ++ [r]).length c3) f u, .bool true]) ∧ ps3.map (·.1) = rs ++ [r] ∧ DkTy w' lo w'.heap.size (.slice a3 (rs ++ [r]).length c3) u ps3 ws)

theorem DkTy.setB {w : World} {lo hi b j : Nat} {v u : Value} {ps : List (R × Value)} {ws : List Wd} {cur : Array Value} {ty : TypeId} (h : DkTy w lo hi v u ps ws) (hh : Blk w b cur ty) (h1 : 81 ≠ ty) (h2 : 3 ≠ ty) (h3 : 39 ≠ ty) (x : Value) : DkTy (w.setCell ⟨b, j, Option.none⟩ x) lo hi v u ps ws :=
  ⟨h.1.setB hh h1 h2 x, ownsRow_setCell_ne h.2.1 (fun g hg => row_apart h.2.1 hh h3 g hg) x, h.2.2⟩

set_option maxHeartbeats 16000000 in
set_option maxRecDepth 20000 in
theorem l13Write_any (up : Bool) (v : Value) (f : Int) (u : Value) (ps : List (R × Value)) (rs : List R) (ws : List Wd) (r : R) (ax : Option Addr) (cx lo hi : Nat) (w : World)
    (ho : DkOwn w lo hi v u ps ws) (hp : ps.map (·.1) = rs) (hlo : lo ≤ w.heap.size) (hlh : lo ≤ hi) (hl : tot rs ≤ 1048576) (hx : w.ownsRow hi 3 1 (.slice ax r.2.2.length cx) r.2.2.length (r.2.2.map (Value.int .i64))) (hok : dkOk up rs f ws = true) (hr : rOk r = true) :
    Calls Tryz.prog 57 #[deskV up v f u, .agg #[.int .i64 r.1, .int .i64 r.2.1, .slice ax r.2.2.length cx]] w fun e w' => LwOut w w' e lo up v f u rs ws r := by
  obtain ⟨hf0, hf1, -⟩ := logOk_f (dkOk_log hok)
  have hroom := T.runT_room (run_some hok)
  obtain ⟨ht1, ht6⟩ := T.rOk_trip hr
  have HI := hide_it (ho.in_ hp)
  have HO := hide_it ho
  have HX := hide_it hx
  have HP := hide_it hp
  obtain ⟨av, cv, au, cu, rfl, rfl⟩ := (ho.at' hp).shape
  have HT : Hid (∀ W, Below w.heap.size w W → Calls Tryz.prog 34 #[deskV up (.slice av rs.length cv) f (.slice au ws.length cu), .bool false] W fun e w' => TrL W w' e (T.ofO rs)) := fun W h =>
    l13Trips_any up _ _ rs f ws false W (HI.out.later h (Nat.le_refl _)) hl hf0 hf1
  have hfit := T.ofO_fit rs
  have HM : Hid (∀ (y : Value) (W : World), T.Recs W y (T.ofO rs) → Calls Tryz.prog 52 #[y, .agg #[.int .i64 r.1, .int .i64 r.2.1, .slice ax r.2.2.length cx]] W fun e w' => e = .returned (.bool (T.mayL (T.ofO rs) r)) ∧ Below W.heap.size W w') := fun y W h =>
    T.l12May_any y (T.ofO rs) r.1 r.2.1 _ r.2.2 W h hfit.tot ⟨_, _, _, rfl⟩ ht1 ht6
  have hpl : ps.length = rs.length := by have := congrArg List.length hp; simpa using this
  have HAD : Hid (∀ W, Below w.heap.size w W → Calls Tryz.prog 77 #[.agg #[.slice av rs.length cv, .int .i64 f], .agg #[.int .i64 r.1, .int .i64 r.2.1, .slice ax r.2.2.length cx]] W fun e w' => ∃ g cap' ps3, e = .returned (.tuple #[.agg #[.slice (some ⟨g, 0, none⟩) (rs ++ [r]).length cap', .int .i64 f], .bool true]) ∧ ps3.map (·.1) = rs ++ [r] ∧ DkTy w' lo w'.heap.size (.slice (some ⟨g, 0, none⟩) (rs ++ [r]).length cap') (.slice au ws.length cu) ps3 ws ∧ Below lo W w' ∧ Mid lo hi W w') := fun W h => by
    have hoW := HO.out.below h HO.out.1
    obtain ⟨q0, l0, t, q1', q2, q3', q4, q5'⟩ := hoW
    obtain ⟨l, q1, ql, q3, q5⟩ : ∃ l, lo ≤ l ∧ l ≤ hi ∧ OwnRecs W l t (.slice av rs.length cv) ps ∧ ∀ g, (Value.slice au ws.length cu).ownBlock = some g → g < hi ∧ (g < l ∨ t ≤ g) := by
      by_cases hl0 : l0 ≤ hi
      · exact ⟨l0, q1', hl0, q3', q5'⟩
      · exact ⟨hi, hlh, Nat.le_refl _, q3'.lo' (by omega), fun g hg => ⟨(q5' g hg).1, Or.inl (q5' g hg).1⟩⟩
    have hxW := ownsRow_below HX.out h (fun k hk => (HX.out.lt k hk).2)
    rw [← hpl] at q3 ⊢
    have hadd := l1Add_mid av cv ps f r ax cx l t W q3 (by omega) (ownsRow_base hxW ql) (fun k hk => by have := (hxW.lt k hk).1; omega) (by omega)
    refine hadd.mono ?_
    rintro e w' ⟨g, cap', he, hm, hb, hM⟩
    rw [HP.out] at hm
    obtain ⟨ps3, hp3, ho3⟩ := hm
    have hlen : (rs ++ [r]).length = ps.length + 1 := by rw [List.length_append, hpl]; rfl
    refine ⟨g, cap', ps3, by rw [hlen]; exact he, hp3, ?_, hb.mono q1, ⟨hM.os, hM.tape, hM.output, hM.size, fun j hj hh => hM.block j hj (by omega)⟩⟩
    rw [hlen]
    refine ⟨ho3.lo' q1, ownsRow_mid q4 hM (fun k hk => (q5 k hk).2), fun k hk => by have := (q4.lt k hk).2; have := hM.size; omega⟩
  clear ho hx hok hr hfit hp hf0 hf1
  obtain ⟨ts, hts⟩ : ∃ q, T.ofO rs = q := ⟨_, rfl⟩
  have HD : Hid (dkMay up rs r = (up && T.mayL ts r)) := by show _ = _; unfold dkMay; rw [hts]
  rw [hts] at HT HM
  clear hts
  obtain ⟨MM, hMM⟩ : ∃ q, T.mayL ts r = q := ⟨_, rfl⟩
  rw [hMM] at HM HD
  clear hMM
  have hhi := HO.out.1
  obtain ⟨w0, hw0⟩ : ∃ W, Hid (W = ((w.alloc (.cells #[.bool up, .slice av rs.length cv, .int .i64 f, .slice au ws.length cu] 36)).alloc (.cells #[.int .i64 r.1, .int .i64 r.2.1, .slice ax r.2.2.length cx] 81)).alloc (.cells #[.bool false, .slice none 0 0, .int .i64 0, .slice none 0 0] 36)) := ⟨_, rfl⟩
  have B0 : Hid (Below w.heap.size w w0) := by show Below _ _ _; rw [hw0.out]; exact below3 _ _ _ _
  have X0 : Hid (Blk w0 w.heap.size #[.bool up, .slice av rs.length cv, .int .i64 f, .slice au ws.length cu] 36) := by show Blk _ _ _ _; rw [hw0.out]; exact ((Blk.new _ _ _).alloc _).alloc _
  have R0 : Hid (Blk w0 (w.heap.size + 1) #[.int .i64 r.1, .int .i64 r.2.1, .slice ax r.2.2.length cx] 81) := by show Blk _ _ _ _; rw [hw0.out]; exact (Blk.new2 _ _ _ _).alloc _
  have Z0 : Hid (Blk w0 (w.heap.size + 1 + 1) #[.bool false, .slice none 0 0, .int .i64 0, .slice none 0 0] 36) := by
    show Blk _ _ _ _
    rw [hw0.out]
    have h := Blk.new ((w.alloc (.cells #[.bool up, .slice av rs.length cv, .int .i64 f, .slice au ws.length cu] 36)).alloc (.cells #[.int .i64 r.1, .int .i64 r.2.1, .slice ax r.2.2.length cx] 81)) #[.bool false, .slice none 0 0, .int .i64 0, .slice none 0 0] 36
    rw [size2] at h
    exact h
  have hs0 : w0.heap.size = w.heap.size + 3 := by rw [hw0.out, size3]
  have HS0 := hide_it hs0
  clear hs0
  obtain ⟨x0, x1, x2, x3⟩ := X0.out.cells4
  obtain ⟨r0, r1, r2⟩ := R0.out.cells3
  cases up
  · go_enter Tryz.func57, Tryz.ntmps57
    go_wp2_with fail
    rw [← hw0.out]
    refine wp_region_held_drew (S := fun w' => (w'.cell? ⟨w.heap.size, 0, none⟩ = some (.bool false) ∧ w'.cell? ⟨w.heap.size, 1, none⟩ = some (.slice av rs.length cv) ∧ w'.cell? ⟨w.heap.size, 2, none⟩ = some (.int .i64 f) ∧ w'.cell? ⟨w.heap.size, 3, none⟩ = some (.slice au ws.length cu)) ∧ (w'.cell? ⟨w.heap.size + 1, 0, none⟩ = some (.int .i64 r.1) ∧ w'.cell? ⟨w.heap.size + 1, 1, none⟩ = some (.int .i64 r.2.1) ∧ w'.cell? ⟨w.heap.size + 1, 2, none⟩ = some (.slice ax r.2.2.length cx))) (by kernel_rfl) ⟨⟨x0, x1, x2, x3⟩, r0, r1, r2⟩ (fun hHeld => ?_)
    clear x0 x1 x2 x3 r0 r1 r2
    refine takeD (i := 0) (v := ?_) (some 8) rfl rfl (by kernel_rfl) (by kernel_rfl) (by kernel_rfl) (fun _ _ _ h => h) (by rfl) hHeld ?_ ?_
    rotate_left
    · intro W hSw
      try dsimp only at hSw
      go_simp
      try with_reducible rfl
    try simp only [Act.put]
    try simp only [List.setIfInBounds_toArray]
    try simp only [List.set_cons_succ]
    try simp only [List.set_cons_zero]
    refine takeD (i := 1) (v := ?_) (some 9) rfl rfl (by kernel_rfl) (by kernel_rfl) (by kernel_rfl) (fun _ _ _ h => h) (by rfl) hHeld ?_ ?_
    rotate_left
    · intro W hSw
      try dsimp only at hSw
      go_simp
      try with_reducible rfl
    try simp only [Act.put]
    try simp only [List.setIfInBounds_toArray]
    try simp only [List.set_cons_succ]
    try simp only [List.set_cons_zero]
    refine takeD (i := 2) (v := .bool true) (some 10) rfl rfl (by kernel_rfl) (by kernel_rfl) (by kernel_rfl) (fun _ _ _ h => h) (by rfl) hHeld ?_ ?_
    · intro W hSw
      try dsimp only at hSw
      first | (go_simp; done) | (go_simp; simp [*]; done) | (go_simp; simp; omega)
    try simp only [Act.put]
    try simp only [List.setIfInBounds_toArray]
    try simp only [List.set_cons_succ]
    try simp only [List.set_cons_zero]
    refine takeD (i := 3) (v := .bool true) (some 11) rfl rfl (by kernel_rfl) (by kernel_rfl) (by kernel_rfl) (fun _ _ _ h => h) (by rfl) hHeld ?_ ?_
    · intro W hSw
      try dsimp only at hSw
      first | (go_simp; done) | (go_simp; simp [*]; done) | (go_simp; simp; omega)
    try simp only [Act.put]
    try simp only [List.setIfInBounds_toArray]
    try simp only [List.set_cons_succ]
    try simp only [List.set_cons_zero]
    refine skipD (i := 4) (some 12) rfl rfl (by kernel_rfl) (by kernel_rfl) (by kernel_rfl) (fun _ _ _ h => h) (by rfl) hHeld ?_
    try simp only [Act.put]
    try simp only [List.setIfInBounds_toArray]
    try simp only [List.set_cons_succ]
    try simp only [List.set_cons_zero]
    refine skipD (i := 5) (some 13) rfl rfl (by kernel_rfl) (by kernel_rfl) (by kernel_rfl) (fun _ _ _ h => h) (by rfl) hHeld ?_
    try simp only [Act.put]
    try simp only [List.setIfInBounds_toArray]
    try simp only [List.set_cons_succ]
    try simp only [List.set_cons_zero]
    refine skipD (i := 6) (some 14) rfl rfl (by kernel_rfl) (by kernel_rfl) (by kernel_rfl) (fun _ _ _ h => h) (by rfl) hHeld ?_
    try simp only [Act.put]
    try simp only [List.setIfInBounds_toArray]
    try simp only [List.set_cons_succ]
    try simp only [List.set_cons_zero]
    refine skipD (i := 7) (some 15) rfl rfl (by kernel_rfl) (by kernel_rfl) (by kernel_rfl) (fun _ _ _ h => h) (by rfl) hHeld ?_
    try simp only [Act.put]
    try simp only [List.setIfInBounds_toArray]
    try simp only [List.set_cons_succ]
    try simp only [List.set_cons_zero]
    refine skipD (i := 8) (some 16) rfl rfl (by kernel_rfl) (by kernel_rfl) (by kernel_rfl) (fun _ _ _ h => h) (by rfl) hHeld ?_
    try simp only [Act.put]
    try simp only [List.setIfInBounds_toArray]
    try simp only [List.set_cons_succ]
    try simp only [List.set_cons_zero]
    refine takeD (i := 9) (v := .bool true) (some 17) rfl rfl (by kernel_rfl) (by kernel_rfl) (by kernel_rfl) (fun _ _ _ h => h) (by rfl) hHeld ?_ ?_
    · intro W hSw
      try dsimp only at hSw
      first | (go_simp; done) | (go_simp; simp [*]; done) | (go_simp; simp; omega)
    try simp only [Act.put]
    try simp only [List.setIfInBounds_toArray]
    try simp only [List.set_cons_succ]
    try simp only [List.set_cons_zero]
    refine wpAnyH_done (by kernel_rfl) ?_ _
    obtain ⟨z0, z1, z2, z3⟩ := Z0.out.cells4
    obtain ⟨zf0, zf1, zf2, zf3⟩ := Z0.out.free4
    obtain ⟨x0, x1, x2, x3⟩ := X0.out.cells4
    go_wp2
    refine bodyPost_ret (v := .tuple #[deskV false (.slice av rs.length cv) f (.slice au ws.length cu), .bool false]) (by simp [results, Tryz.results57, go_sem, *]) rfl ?_
    refine Or.inl ⟨by rw [HD.out]; rfl, rfl, ?_⟩
    try refine Below.drew ?_
    iterate 4 (refine Below.setCell ?_ (show w.heap.size ≤ w.heap.size + 1 + 1 by omega) _)
    first | exact B0.out | exact B0.out.drew
  go_enter Tryz.func57, Tryz.ntmps57
  go_wp2_with fail
  rw [← hw0.out]
  refine wp_region_held_drew (S := fun w' => (w'.cell? ⟨w.heap.size, 0, none⟩ = some (.bool true) ∧ w'.cell? ⟨w.heap.size, 1, none⟩ = some (.slice av rs.length cv) ∧ w'.cell? ⟨w.heap.size, 2, none⟩ = some (.int .i64 f) ∧ w'.cell? ⟨w.heap.size, 3, none⟩ = some (.slice au ws.length cu)) ∧ (w'.cell? ⟨w.heap.size + 1, 0, none⟩ = some (.int .i64 r.1) ∧ w'.cell? ⟨w.heap.size + 1, 1, none⟩ = some (.int .i64 r.2.1) ∧ w'.cell? ⟨w.heap.size + 1, 2, none⟩ = some (.slice ax r.2.2.length cx))) (by kernel_rfl) ⟨⟨x0, x1, x2, x3⟩, r0, r1, r2⟩ (fun hHeld => ?_)
  clear x0 x1 x2 x3 r0 r1 r2
  refine takeD (i := 0) (v := ?_) (some 8) rfl rfl (by kernel_rfl) (by kernel_rfl) (by kernel_rfl) (fun _ _ _ h => h) (by rfl) hHeld ?_ ?_
  rotate_left
  · intro W hSw
    try dsimp only at hSw
    go_simp
    try with_reducible rfl
  try simp only [Act.put]
  try simp only [List.setIfInBounds_toArray]
  try simp only [List.set_cons_succ]
  try simp only [List.set_cons_zero]
  refine takeD (i := 1) (v := ?_) (some 9) rfl rfl (by kernel_rfl) (by kernel_rfl) (by kernel_rfl) (fun _ _ _ h => h) (by rfl) hHeld ?_ ?_
  rotate_left
  · intro W hSw
    try dsimp only at hSw
    go_simp
    try with_reducible rfl
  try simp only [Act.put]
  try simp only [List.setIfInBounds_toArray]
  try simp only [List.set_cons_succ]
  try simp only [List.set_cons_zero]
  refine takeD (i := 2) (v := .bool false) (some 10) rfl rfl (by kernel_rfl) (by kernel_rfl) (by kernel_rfl) (fun _ _ _ h => h) (by rfl) hHeld ?_ ?_
  · intro W hSw
    try dsimp only at hSw
    first | (go_simp; done) | (go_simp; simp [*]; done) | (go_simp; simp; omega)
  try simp only [Act.put]
  try simp only [List.setIfInBounds_toArray]
  try simp only [List.set_cons_succ]
  try simp only [List.set_cons_zero]
  refine takeD (i := 3) (v := .bool false) (some 11) rfl rfl (by kernel_rfl) (by kernel_rfl) (by kernel_rfl) (fun _ _ _ h => h) (by rfl) hHeld ?_ ?_
  · intro W hSw
    try dsimp only at hSw
    first | (go_simp; done) | (go_simp; simp [*]; done) | (go_simp; simp; omega)
  try simp only [Act.put]
  try simp only [List.setIfInBounds_toArray]
  try simp only [List.set_cons_succ]
  try simp only [List.set_cons_zero]
  refine takeD (i := 4) (v := ?_) (some 12) rfl rfl (by kernel_rfl) (by kernel_rfl) (by kernel_rfl) (fun _ _ _ h => h) (by rfl) hHeld ?_ ?_
  rotate_left
  · intro W hSw
    try dsimp only at hSw
    go_simp
    try with_reducible rfl
  try simp only [Act.put]
  try simp only [List.setIfInBounds_toArray]
  try simp only [List.set_cons_succ]
  try simp only [List.set_cons_zero]
  refine takeD (i := 6) (v := ?_) (some 14) rfl rfl (by kernel_rfl) (by kernel_rfl) (by kernel_rfl) (fun _ _ _ h => h) (by rfl) hHeld ?_ ?_
  rotate_left
  · intro W hSw
    try dsimp only at hSw
    go_simp
    try with_reducible rfl
  try simp only [Act.put]
  try simp only [List.setIfInBounds_toArray]
  try simp only [List.set_cons_succ]
  try simp only [List.set_cons_zero]
  refine wpAnyH_ready (rs := [5]) (by kernel_rfl) (by simp) ?_
  refine AllReadyH.cons rfl (fun K hK => ?_) AllReadyH.nil
  go_simp
  refine (HT.out _ B0.out.drew).mono ?_
  rintro e w1 ⟨a1, c1, rfl, hm1, hb1⟩
  have L1 := hide_it ((Below.refl w0.heap.size w0).drew.trans hb1)
  have B1 := hide_it (B0.out.trans (L1.out.mono B0.out.size))
  have T1 := hide_it hm1.recs
  clear hb1 hm1
  try dsimp only
  refine hK.out _ _ ⟨(X0.out.after L1.out).cells4, (R0.out.after L1.out).cells3⟩ (fun hHeld => ?_)
  clear hK K
  refine wpAnyH_ready (rs := [7]) (by kernel_rfl) (by simp) ?_
  refine AllReadyH.cons rfl (fun K hK => ?_) AllReadyH.nil
  go_simp
  refine (HM.out _ _ T1.out).mono ?_
  rintro e w2 ⟨rfl, hb2⟩
  have L2 := hide_it (L1.out.trans (hb2.mono L1.out.size))
  have B2 := hide_it (B0.out.trans (L2.out.mono B0.out.size))
  clear hb2
  try dsimp only
  refine hK.out _ _ ⟨(X0.out.after L2.out).cells4, (R0.out.after L2.out).cells3⟩ (fun hHeld => ?_)
  clear hK K
  cases MM
  · refine takeD (i := 8) (v := .bool true) (some 16) rfl rfl (by kernel_rfl) (by kernel_rfl) (by kernel_rfl) (fun _ _ _ h => h) (by rfl) hHeld ?_ ?_
    · intro W hSw
      try dsimp only at hSw
      first | (go_simp; done) | (go_simp; simp [*]; done) | (go_simp; simp; omega)
    try simp only [Act.put]
    try simp only [List.setIfInBounds_toArray]
    try simp only [List.set_cons_succ]
    try simp only [List.set_cons_zero]
    refine takeD (i := 9) (v := .bool true) (some 17) rfl rfl (by kernel_rfl) (by kernel_rfl) (by kernel_rfl) (fun _ _ _ h => h) (by rfl) hHeld ?_ ?_
    · intro W hSw
      try dsimp only at hSw
      first | (go_simp; done) | (go_simp; simp [*]; done) | (go_simp; simp; omega)
    try simp only [Act.put]
    try simp only [List.setIfInBounds_toArray]
    try simp only [List.set_cons_succ]
    try simp only [List.set_cons_zero]
    refine wpAnyH_done (by kernel_rfl) ?_ _
    obtain ⟨z0, z1, z2, z3⟩ := (Z0.out.after L2.out).cells4
    obtain ⟨zf0, zf1, zf2, zf3⟩ := (Z0.out.after L2.out).free4
    obtain ⟨x0, x1, x2, x3⟩ := (X0.out.after L2.out).cells4
    go_wp2
    refine bodyPost_ret (v := .tuple #[deskV true (.slice av rs.length cv) f (.slice au ws.length cu), .bool false]) (by simp [results, Tryz.results57, go_sem, *]) rfl ?_
    refine Or.inl ⟨by rw [HD.out]; rfl, rfl, ?_⟩
    try refine Below.drew ?_
    iterate 4 (refine Below.setCell ?_ (show w.heap.size ≤ w.heap.size + 1 + 1 by omega) _)
    exact B2.out
  · refine takeD (i := 8) (v := .bool false) (some 16) rfl rfl (by kernel_rfl) (by kernel_rfl) (by kernel_rfl) (fun _ _ _ h => h) (by rfl) hHeld ?_ ?_
    · intro W hSw
      try dsimp only at hSw
      first | (go_simp; done) | (go_simp; simp [*]; done) | (go_simp; simp; omega)
    try simp only [Act.put]
    try simp only [List.setIfInBounds_toArray]
    try simp only [List.set_cons_succ]
    try simp only [List.set_cons_zero]
    refine takeD (i := 9) (v := .bool false) (some 17) rfl rfl (by kernel_rfl) (by kernel_rfl) (by kernel_rfl) (fun _ _ _ h => h) (by rfl) hHeld ?_ ?_
    · intro W hSw
      try dsimp only at hSw
      first | (go_simp; done) | (go_simp; simp [*]; done) | (go_simp; simp; omega)
    try simp only [Act.put]
    try simp only [List.setIfInBounds_toArray]
    try simp only [List.set_cons_succ]
    try simp only [List.set_cons_zero]
    refine wpAnyH_done (by kernel_rfl) ?_ _
    obtain ⟨x0, x1, x2, x3⟩ := (X0.out.after L2.out).cells4
    obtain ⟨r0, r1, r2⟩ := (R0.out.after L2.out).cells3
    go_wp2_with fail
    refine (HAD.out w2 B2.out).mono ?_
    rintro e w3 ⟨g, cap', ps3, rfl, hp3, ho3, hb3, hM3⟩
    have hs2 := L2.out.size
    have X3 := hide_it ((X0.out.after L2.out).mid hM3 (Or.inr hhi))
    have Z3 := hide_it ((Z0.out.after L2.out).mid hM3 (Or.inr (by omega)))
    have O3 := hide_it ho3
    have P3 := hide_it hp3
    have B3 : Hid (Below lo w w3) := (B2.out.mono hlo).trans hb3
    have hs3 : w2.heap.size ≤ w3.heap.size := hM3.size
    obtain ⟨NN, hNN⟩ : ∃ q, Hid ((rs ++ [r]).length = q) := ⟨_, rfl⟩
    rw [hNN.out] at O3 ⊢
    clear hp3 ho3 hb3 hM3 x0 x1 x2 x3 r0 r1 r2
    have hxl := X3.out.lt
    have hzl := Z3.out.lt
    obtain ⟨x0, x1, x2, x3⟩ := X3.out.cells4
    obtain ⟨xf0, xf1, xf2, xf3⟩ := X3.out.free4
    obtain ⟨z0, z1, z2, z3⟩ := Z3.out.cells4
    obtain ⟨zf0, zf1, zf2, zf3⟩ := Z3.out.free4
    have k0 := fun x => cellAlloc x0 x
    have k1 := fun x => cellAlloc x1 x
    have k2 := fun x => cellAlloc x2 x
    have k3 := fun x => cellAlloc x3 x
    have p1 := fun x => frozenAlloc xf1 hxl x
    have p2 := fun x => frozenAlloc xf2 hxl x
    have m0 := fun x => cellAlloc z0 x
    have m1 := fun x => cellAlloc z1 x
    have m2 := fun x => cellAlloc z2 x
    have m3 := fun x => cellAlloc z3 x
    have n0 := fun x => frozenAlloc zf0 hzl x
    have n1 := fun x => frozenAlloc zf1 hzl x
    have n2 := fun x => frozenAlloc zf2 hzl x
    have n3 := fun x => frozenAlloc zf3 hzl x
    go_wp2
    refine bodyPost_ret (v := .tuple #[deskV true (.slice (some ⟨g, 0, none⟩) NN cap') f (.slice au ws.length cu), .bool true]) (by simp [results, Tryz.results57, go_sem, *]) rfl ?_
    refine Or.inr ⟨by rw [HD.out]; rfl, ?_, some ⟨g, 0, none⟩, cap', ps3, by rw [hNN.out], P3.out, ?_⟩
    · clear k0 k1 k2 k3 p1 p2 m0 m1 m2 m3 n0 n1 n2 n3 x0 x1 x2 x3 xf0 xf1 xf2 xf3 z0 z1 z2 z3 zf0 zf1 zf2 zf3
      refine Below.alloc ?_ (by simp; omega) _
      iterate 4 (refine Below.setCell ?_ (show lo ≤ w.heap.size + 1 + 1 by omega) _)
      iterate 2 (refine Below.setCell ?_ (show lo ≤ w.heap.size by omega) _)
      exact B3.out
    · clear k0 k1 k2 k3 p1 p2 m0 m1 m2 m3 n0 n1 n2 n3 x0 x1 x2 x3 xf0 xf1 xf2 xf3 z0 z1 z2 z3 zf0 zf1 zf2 zf3
      rw [hNN.out]
      have e1 := O3.out.setB (j := 1) X3.out (by decide) (by decide) (by decide) (.slice (some ⟨g, 0, none⟩) NN cap')
      have e2 := e1.setB (j := 2) (X3.out.set_ 1 _) (by decide) (by decide) (by decide) (.int .i64 f)
      have Y2 := (Z3.out.other (a := ⟨w.heap.size, 1, none⟩) (by simp; omega) (.slice (some ⟨g, 0, none⟩) NN cap')).other (a := ⟨w.heap.size, 2, none⟩) (by simp; omega) (.int .i64 f)
      have f0 := e2.setB (j := 0) Y2 (by decide) (by decide) (by decide) (.bool true)
      have f1 := f0.setB (j := 1) (Y2.set_ 0 _) (by decide) (by decide) (by decide) (.slice (some ⟨g, 0, none⟩) NN cap')
      have f2 := f1.setB (j := 2) ((Y2.set_ 0 _).set_ 1 _) (by decide) (by decide) (by decide) (.int .i64 f)
      have f3 := f2.setB (j := 3) (((Y2.set_ 0 _).set_ 1 _).set_ 2 _) (by decide) (by decide) (by decide) (.slice au ws.length cu)
      exact DkTy.hi (f3.below (alloc_below _ _) (by simp)) (by simp) (Nat.le_refl _)

end Go.Proofs.YtgknnigjlnfplaaGreatDoor

namespace Go.Proofs.YtgknnigjlnfplaaGreatDoor
open Go.RowKit

theorem grownBy_setNew {w w' : World} {row : Option Nat} {b i : Nat} (h : w.grownBy w' row) (hb : w.heap.size ≤ b) (x : Value) : w.grownBy (w'.setCell ⟨b, i, none⟩ x) row :=
  ⟨h.os, h.tape, h.output, by simpa using h.size, fun k hk hn => by rw [Below.heap_setCell _ _ _ _ (by simp; omega)]; exact h.block k hk hn⟩
theorem grownBy_belowL {w w1 w2 : World} {row : Option Nat} (h : Below w.heap.size w w1) (k : w1.grownBy w2 row) : w.grownBy w2 row :=
  ⟨k.os.trans h.os, k.tape.trans h.tape, k.output.trans h.output, Nat.le_trans h.size k.size, fun x hx hn => by rw [k.block x (Nat.lt_of_lt_of_le hx h.size) hn]; exact h.block x hx⟩
theorem grownBy_belowR {w w1 w2 : World} {row : Option Nat} (h : w.grownBy w1 row) (k : Below w1.heap.size w1 w2) : w.grownBy w2 row :=
  ⟨k.os.trans h.os, k.tape.trans h.tape, k.output.trans h.output, Nat.le_trans h.size k.size, fun x hx hn => by rw [k.block x (Nat.lt_of_lt_of_le hx h.size)]; exact h.block x hx hn⟩
theorem row_set {w : World} {base b i : Nat} {e ty : TypeId} {size n : Nat} {v y : Value} {xs : List Value} {cs : Array Value} (h : w.ownsRow base e size v n xs) (hb : Blk w b cs ty) (ht : e ≠ ty) : (w.setCell ⟨b, i, none⟩ y).ownsRow base e size v n xs :=
  ownsRow_setCell_ne (a := ⟨b, i, none⟩) h (row_apart h hb ht) y

set_option maxRecDepth 100000 in
set_option maxHeartbeats 4000000 in
theorem l1Add_g (ao : Option Addr) (n cap : Nat) (xs : List Value) (f k t : Int) (au : Option Addr) (m cu lo : Nat) (w : World) (ho : w.ownsRow lo 81 3 (.slice ao n cap) n xs) (hlo : lo ≤ w.heap.size) (h40 : (n : Int) < 40) :
    Calls Tryz.prog 77 #[.agg #[.slice ao n cap, .int .i64 f], .agg #[.int .i64 k, .int .i64 t, .slice au m cu]] w fun e w' => ∃ g cap', e = .returned (.tuple #[.agg #[.slice (some ⟨g, 0, none⟩) (n + 1) cap', .int .i64 f], .bool true]) ∧ w'.ownsRow lo 81 3 (.slice (some ⟨g, 0, none⟩) (n + 1) cap') (n + 1) (xs ++ [.int .i64 k, .int .i64 t, .slice au m cu]) ∧ w.grownBy w' (Value.slice ao n cap).ownBlock ∧ ((Value.slice ao n cap).ownBlock = some g ∨ w.heap.size ≤ g) := by
  obtain ⟨i0, hi0, hz0, hz1, hz2⟩ := info_parts infoRec
  obtain ⟨w3, hw3⟩ : ∃ W, Hid (W = ((w.alloc (.cells #[.slice ao n cap, .int .i64 f] 33)).alloc (.cells #[.int .i64 k, .int .i64 t, .slice au m cu] 81)).alloc (.cells #[.slice none 0 0, .int .i64 0] 33)) := ⟨_, rfl⟩
  have B3 : Hid (Below w.heap.size w w3) := by show Below _ _ _; rw [hw3.out]; exact below3 _ _ _ _
  have hs3 : w3.heap.size = w.heap.size + 3 := by rw [hw3.out, size3]
  have L3 : Hid (Blk w3 w.heap.size #[.slice ao n cap, .int .i64 f] 33) := by show Blk _ _ _ _; rw [hw3.out]; exact ((Blk.new _ _ _).alloc _).alloc _
  have R3 : Hid (Blk w3 (w.heap.size + 1) #[.int .i64 k, .int .i64 t, .slice au m cu] 81) := by show Blk _ _ _ _; rw [hw3.out]; exact (Blk.new2 _ _ _ _).alloc _
  have Z3 : Hid (Blk w3 (w.heap.size + 1 + 1) #[.slice none 0 0, .int .i64 0] 33) := by show Blk _ _ _ _; rw [hw3.out]; exact Blk.new3 _ _ _ _ _
  have ROW3 : Hid (w3.ownsRow lo 81 3 (.slice ao n cap) n xs) := ownsRow_below ho B3.out (fun k hk => (ho.lt k hk).2)
  have ROW : Hid (∀ o, (w3.alloc o).ownsRow lo 81 3 (.slice ao n cap) n xs) := fun o => ROW3.out.alloc o
  have hbl : ∀ g, (Value.slice ao n cap).ownBlock = some g → g < w.heap.size := fun g hg => (ho.lt g hg).2
  have HBL := hide_it hbl
  clear ho hbl
  obtain ⟨l0, l1⟩ := L3.out.cells2
  obtain ⟨r0, r1, r2⟩ := R3.out.cells3
  go_enter Tryz.func77, Tryz.ntmps77
  go_wp2_with (at_builtin; refine wpList_append_lies _ rfl _ _ 31 rfl lo 81 i0 (.agg #[.int .i64 0, .int .i64 0, .slice none 0 0]) 3 40 Tryz.underlying31 hi0 hz0 hz1 hz2 rfl (by decide) (.slice ao n cap) n xs rfl (by first | exact ROW.out _ | (rw [← hw3.out]; exact ROW.out _)) ⟨w.heap.size + 3, 0, none⟩ 1 1 [.int .i64 k, .int .i64 t, .slice au m cu] rfl rfl ?c1 (one3 _ _ _) (by decide) ?c3 ?c4 ?c5 _ rfl ?_)
  case c1 =>
    have h := news3 (((w.alloc (.cells #[.slice ao n cap, .int .i64 f] 33)).alloc (.cells #[.int .i64 k, .int .i64 t, .slice au m cu] 81)).alloc (.cells #[.slice none 0 0, .int .i64 0] 33)) k t (.slice au m cu) 81
    rw [size3] at h
    exact h
  case c3 => unfold maxLen; omega
  case c4 => omega
  case c5 => simp; omega
  intro g cap' w5 hown5 hgrow5 hloc _
  rw [← hw3.out] at hgrow5
  have ne : ∀ b, w.heap.size ≤ b → some b ≠ (Value.slice ao n cap).ownBlock := fun b hb e => by have := HBL.out b e.symm; omega
  have L5 := hide_it ((L3.out.alloc _).grown hgrow5 (ne _ (by omega)))
  have Z5 := hide_it ((Z3.out.alloc _).grown hgrow5 (ne _ (by omega)))
  have G5 : Hid (w.grownBy w5 (Value.slice ao n cap).ownBlock) := grownBy_belowL B3.out (grownBy_belowL (alloc_below w3 _) hgrow5)
  have O5 := hide_it hown5
  have LC : Hid ((Value.slice ao n cap).ownBlock = some g ∨ w.heap.size ≤ g) := by
    rcases hloc with h | h
    · exact Or.inl h
    · exact Or.inr (by omega)
  have hz5 : w.heap.size + 3 < w5.heap.size := by have := hgrow5.size; simp at this; omega
  clear hown5 hgrow5 hloc l0 l1 r0 r1 r2 ne
  obtain ⟨l0, l1⟩ := L5.out.cells2
  obtain ⟨z0, z1⟩ := Z5.out.cells2
  have lf0 := L5.out.free 0
  have zf0 := Z5.out.free 0
  have zf1 := Z5.out.free 1
  go_wp2
  refine bodyPost_ret (v := .tuple #[.agg #[.slice (some ⟨g, 0, none⟩) (n + 1) cap', .int .i64 f], .bool true]) (by simp [results, Tryz.results77, go_sem, *]) rfl ⟨g, cap', rfl, ?_, ?_, LC.out⟩
  · have e0 := row_set (i := 0) (y := .slice (some ⟨g, 0, none⟩) (n + 1) cap') O5.out L5.out (by decide)
    have zz := Z5.out.other (a := ⟨w.heap.size, 0, none⟩) (by simp; omega) (.slice (some ⟨g, 0, none⟩) (n + 1) cap')
    have e1 := row_set (i := 0) (y := .slice (some ⟨g, 0, none⟩) (n + 1) cap') e0 zz (by decide)
    exact row_set (i := 1) (y := .int .i64 f) e1 (zz.set_ 0 _) (by decide)
  · exact grownBy_setNew (grownBy_setNew (grownBy_setNew G5.out (Nat.le_refl _) _) (by omega) _) (by omega) _

end Go.Proofs.YtgknnigjlnfplaaGreatDoor

namespace Go.Proofs.YtgknnigjlnfplaaGreatDoor
open Go.RowKit

def LwG (w w' : World) (e : Ending) (lo : Nat) (up : Bool) (v : Value) (f : Int) (u : Value) (xs : List Value) (rs : List R) (r : R) (x : Value) : Prop :=
  (dkMay up rs r = false ∧ e = .returned (.tuple #[deskV up v f u, .bool false]) ∧ Below w.heap.size w w') ∨
  (dkMay up rs r = true ∧ ∃ g c3, e = .returned (.tuple #[deskV up (.slice (some ⟨g, 0, none⟩) (rs ++ [r]).length c3) f u, .bool true]) ∧ w'.ownsRow lo 81 3 (.slice (some ⟨g, 0, none⟩) (rs ++ [r]).length c3) (rs ++ [r]).length (xs ++ [.int .i64 r.1, .int .i64 r.2.1, x]) ∧ w.grownBy w' v.ownBlock ∧ (v.ownBlock = some g ∨ w.heap.size ≤ g))

set_option maxHeartbeats 16000000 in
set_option maxRecDepth 20000 in
theorem l13Write_g (up : Bool) (v : Value) (f : Int) (u : Value) (xs : List Value) (rs : List R) (ws : List Wd) (r : R) (ax : Option Addr) (m cx lo : Nat) (w : World)
    (hv : DkIn w v u rs ws) (ho : w.ownsRow lo 81 3 v rs.length xs) (hlo : lo ≤ w.heap.size) (hl : tot rs ≤ 1048576) (hok : dkOk up rs f ws = true) (hr : rOk r = true) (hm : r.2.2.length = m) :
    Calls Tryz.prog 57 #[deskV up v f u, .agg #[.int .i64 r.1, .int .i64 r.2.1, .slice ax m cx]] w fun e w' => LwG w w' e lo up v f u xs rs r (.slice ax m cx) := by
  subst hm
  obtain ⟨hf0, hf1, -⟩ := logOk_f (dkOk_log hok)
  have hroom := T.runT_room (run_some hok)
  obtain ⟨ht1, ht6⟩ := T.rOk_trip hr
  have HI := hide_it hv
  have HO := hide_it ho
  obtain ⟨av, cv, au, cu, rfl, rfl⟩ := hv.1.shape
  have HT : Hid (∀ W, Below w.heap.size w W → Calls Tryz.prog 34 #[deskV up (.slice av rs.length cv) f (.slice au ws.length cu), .bool false] W fun e w' => TrL W w' e (T.ofO rs)) := fun W h =>
    l13Trips_any up _ _ rs f ws false W (HI.out.later h (Nat.le_refl _)) hl hf0 hf1
  have hfit := T.ofO_fit rs
  have HM : Hid (∀ (y : Value) (W : World), T.Recs W y (T.ofO rs) → Calls Tryz.prog 52 #[y, .agg #[.int .i64 r.1, .int .i64 r.2.1, .slice ax r.2.2.length cx]] W fun e w' => e = .returned (.bool (T.mayL (T.ofO rs) r)) ∧ Below W.heap.size W w') := fun y W h =>
    T.l12May_any y (T.ofO rs) r.1 r.2.1 _ r.2.2 W h hfit.tot ⟨_, _, _, rfl⟩ ht1 ht6
  have hvb : ∀ b, w.heap.size ≤ b → some b ≠ (Value.slice av rs.length cv).ownBlock := fun b hb e => by have := (HO.out.lt b e.symm).2; omega
  have HVB := hide_it hvb
  have HAD : Hid (∀ W, Below w.heap.size w W → Calls Tryz.prog 77 #[.agg #[.slice av rs.length cv, .int .i64 f], .agg #[.int .i64 r.1, .int .i64 r.2.1, .slice ax r.2.2.length cx]] W fun e w' => ∃ g cap', e = .returned (.tuple #[.agg #[.slice (some ⟨g, 0, none⟩) (rs ++ [r]).length cap', .int .i64 f], .bool true]) ∧ w'.ownsRow lo 81 3 (.slice (some ⟨g, 0, none⟩) (rs ++ [r]).length cap') (rs ++ [r]).length (xs ++ [.int .i64 r.1, .int .i64 r.2.1, .slice ax r.2.2.length cx]) ∧ W.grownBy w' (Value.slice av rs.length cv).ownBlock ∧ ((Value.slice av rs.length cv).ownBlock = some g ∨ w.heap.size ≤ g)) := fun W h => by
    have hlen : (rs ++ [r]).length = rs.length + 1 := by rw [List.length_append]; rfl
    have hadd := l1Add_g av rs.length cv xs f r.1 r.2.1 ax r.2.2.length cx lo W (ownsRow_below HO.out h (fun k hk => (HO.out.lt k hk).2)) (Nat.le_trans hlo h.size) (by omega)
    refine hadd.mono ?_
    rintro e w' ⟨g, cap', he, hm, hg, hc⟩
    rw [hlen]
    exact ⟨g, cap', he, hm, hg, by have := h.size; rcases hc with hc | hc; exact Or.inl hc; exact Or.inr (by omega)⟩
  clear ho hv hok hr hfit hf0 hf1 hvb
  obtain ⟨ts, hts⟩ : ∃ q, T.ofO rs = q := ⟨_, rfl⟩
  have HD : Hid (dkMay up rs r = (up && T.mayL ts r)) := by show _ = _; unfold dkMay; rw [hts]
  rw [hts] at HT HM
  clear hts
  obtain ⟨MM, hMM⟩ : ∃ q, T.mayL ts r = q := ⟨_, rfl⟩
  rw [hMM] at HM HD
  clear hMM
  obtain ⟨w0, hw0⟩ : ∃ W, Hid (W = ((w.alloc (.cells #[.bool up, .slice av rs.length cv, .int .i64 f, .slice au ws.length cu] 36)).alloc (.cells #[.int .i64 r.1, .int .i64 r.2.1, .slice ax r.2.2.length cx] 81)).alloc (.cells #[.bool false, .slice none 0 0, .int .i64 0, .slice none 0 0] 36)) := ⟨_, rfl⟩
  have B0 : Hid (Below w.heap.size w w0) := by show Below _ _ _; rw [hw0.out]; exact below3 _ _ _ _
  have X0 : Hid (Blk w0 w.heap.size #[.bool up, .slice av rs.length cv, .int .i64 f, .slice au ws.length cu] 36) := by show Blk _ _ _ _; rw [hw0.out]; exact ((Blk.new _ _ _).alloc _).alloc _
  have R0 : Hid (Blk w0 (w.heap.size + 1) #[.int .i64 r.1, .int .i64 r.2.1, .slice ax r.2.2.length cx] 81) := by show Blk _ _ _ _; rw [hw0.out]; exact (Blk.new2 _ _ _ _).alloc _
  have Z0 : Hid (Blk w0 (w.heap.size + 1 + 1) #[.bool false, .slice none 0 0, .int .i64 0, .slice none 0 0] 36) := by
    show Blk _ _ _ _
    rw [hw0.out]
    have h := Blk.new ((w.alloc (.cells #[.bool up, .slice av rs.length cv, .int .i64 f, .slice au ws.length cu] 36)).alloc (.cells #[.int .i64 r.1, .int .i64 r.2.1, .slice ax r.2.2.length cx] 81)) #[.bool false, .slice none 0 0, .int .i64 0, .slice none 0 0] 36
    rw [size2] at h
    exact h
  have hs0 : w0.heap.size = w.heap.size + 3 := by rw [hw0.out, size3]
  have HS0 := hide_it hs0
  clear hs0
  obtain ⟨x0, x1, x2, x3⟩ := X0.out.cells4
  obtain ⟨r0, r1, r2⟩ := R0.out.cells3
  cases up
  · go_enter Tryz.func57, Tryz.ntmps57
    go_wp2_with fail
    rw [← hw0.out]
    refine wp_region_held_drew (S := fun w' => (w'.cell? ⟨w.heap.size, 0, none⟩ = some (.bool false) ∧ w'.cell? ⟨w.heap.size, 1, none⟩ = some (.slice av rs.length cv) ∧ w'.cell? ⟨w.heap.size, 2, none⟩ = some (.int .i64 f) ∧ w'.cell? ⟨w.heap.size, 3, none⟩ = some (.slice au ws.length cu)) ∧ (w'.cell? ⟨w.heap.size + 1, 0, none⟩ = some (.int .i64 r.1) ∧ w'.cell? ⟨w.heap.size + 1, 1, none⟩ = some (.int .i64 r.2.1) ∧ w'.cell? ⟨w.heap.size + 1, 2, none⟩ = some (.slice ax r.2.2.length cx))) (by kernel_rfl) ⟨⟨x0, x1, x2, x3⟩, r0, r1, r2⟩ (fun hHeld => ?_)
    clear x0 x1 x2 x3 r0 r1 r2
    refine takeD (i := 0) (v := ?_) (some 8) rfl rfl (by kernel_rfl) (by kernel_rfl) (by kernel_rfl) (fun _ _ _ h => h) (by rfl) hHeld ?_ ?_
    rotate_left
    · intro W hSw
      try dsimp only at hSw
      go_simp
      try with_reducible rfl
    try simp only [Act.put]
    try simp only [List.setIfInBounds_toArray]
    try simp only [List.set_cons_succ]
    try simp only [List.set_cons_zero]
    refine takeD (i := 1) (v := ?_) (some 9) rfl rfl (by kernel_rfl) (by kernel_rfl) (by kernel_rfl) (fun _ _ _ h => h) (by rfl) hHeld ?_ ?_
    rotate_left
    · intro W hSw
      try dsimp only at hSw
      go_simp
      try with_reducible rfl
    try simp only [Act.put]
    try simp only [List.setIfInBounds_toArray]
    try simp only [List.set_cons_succ]
    try simp only [List.set_cons_zero]
    refine takeD (i := 2) (v := .bool true) (some 10) rfl rfl (by kernel_rfl) (by kernel_rfl) (by kernel_rfl) (fun _ _ _ h => h) (by rfl) hHeld ?_ ?_
    · intro W hSw
      try dsimp only at hSw
      first | (go_simp; done) | (go_simp; simp [*]; done) | (go_simp; simp; omega)
    try simp only [Act.put]
    try simp only [List.setIfInBounds_toArray]
    try simp only [List.set_cons_succ]
    try simp only [List.set_cons_zero]
    refine takeD (i := 3) (v := .bool true) (some 11) rfl rfl (by kernel_rfl) (by kernel_rfl) (by kernel_rfl) (fun _ _ _ h => h) (by rfl) hHeld ?_ ?_
    · intro W hSw
      try dsimp only at hSw
      first | (go_simp; done) | (go_simp; simp [*]; done) | (go_simp; simp; omega)
    try simp only [Act.put]
    try simp only [List.setIfInBounds_toArray]
    try simp only [List.set_cons_succ]
    try simp only [List.set_cons_zero]
    refine skipD (i := 4) (some 12) rfl rfl (by kernel_rfl) (by kernel_rfl) (by kernel_rfl) (fun _ _ _ h => h) (by rfl) hHeld ?_
    try simp only [Act.put]
    try simp only [List.setIfInBounds_toArray]
    try simp only [List.set_cons_succ]
    try simp only [List.set_cons_zero]
    refine skipD (i := 5) (some 13) rfl rfl (by kernel_rfl) (by kernel_rfl) (by kernel_rfl) (fun _ _ _ h => h) (by rfl) hHeld ?_
    try simp only [Act.put]
    try simp only [List.setIfInBounds_toArray]
    try simp only [List.set_cons_succ]
    try simp only [List.set_cons_zero]
    refine skipD (i := 6) (some 14) rfl rfl (by kernel_rfl) (by kernel_rfl) (by kernel_rfl) (fun _ _ _ h => h) (by rfl) hHeld ?_
    try simp only [Act.put]
    try simp only [List.setIfInBounds_toArray]
    try simp only [List.set_cons_succ]
    try simp only [List.set_cons_zero]
    refine skipD (i := 7) (some 15) rfl rfl (by kernel_rfl) (by kernel_rfl) (by kernel_rfl) (fun _ _ _ h => h) (by rfl) hHeld ?_
    try simp only [Act.put]
    try simp only [List.setIfInBounds_toArray]
    try simp only [List.set_cons_succ]
    try simp only [List.set_cons_zero]
    refine skipD (i := 8) (some 16) rfl rfl (by kernel_rfl) (by kernel_rfl) (by kernel_rfl) (fun _ _ _ h => h) (by rfl) hHeld ?_
    try simp only [Act.put]
    try simp only [List.setIfInBounds_toArray]
    try simp only [List.set_cons_succ]
    try simp only [List.set_cons_zero]
    refine takeD (i := 9) (v := .bool true) (some 17) rfl rfl (by kernel_rfl) (by kernel_rfl) (by kernel_rfl) (fun _ _ _ h => h) (by rfl) hHeld ?_ ?_
    · intro W hSw
      try dsimp only at hSw
      first | (go_simp; done) | (go_simp; simp [*]; done) | (go_simp; simp; omega)
    try simp only [Act.put]
    try simp only [List.setIfInBounds_toArray]
    try simp only [List.set_cons_succ]
    try simp only [List.set_cons_zero]
    refine wpAnyH_done (by kernel_rfl) ?_ _
    obtain ⟨z0, z1, z2, z3⟩ := Z0.out.cells4
    obtain ⟨zf0, zf1, zf2, zf3⟩ := Z0.out.free4
    obtain ⟨x0, x1, x2, x3⟩ := X0.out.cells4
    go_wp2
    refine bodyPost_ret (v := .tuple #[deskV false (.slice av rs.length cv) f (.slice au ws.length cu), .bool false]) (by simp [results, Tryz.results57, go_sem, *]) rfl ?_
    refine Or.inl ⟨by rw [HD.out]; rfl, rfl, ?_⟩
    try refine Below.drew ?_
    iterate 4 (refine Below.setCell ?_ (show w.heap.size ≤ w.heap.size + 1 + 1 by omega) _)
    first | exact B0.out | exact B0.out.drew
  go_enter Tryz.func57, Tryz.ntmps57
  go_wp2_with fail
  rw [← hw0.out]
  refine wp_region_held_drew (S := fun w' => (w'.cell? ⟨w.heap.size, 0, none⟩ = some (.bool true) ∧ w'.cell? ⟨w.heap.size, 1, none⟩ = some (.slice av rs.length cv) ∧ w'.cell? ⟨w.heap.size, 2, none⟩ = some (.int .i64 f) ∧ w'.cell? ⟨w.heap.size, 3, none⟩ = some (.slice au ws.length cu)) ∧ (w'.cell? ⟨w.heap.size + 1, 0, none⟩ = some (.int .i64 r.1) ∧ w'.cell? ⟨w.heap.size + 1, 1, none⟩ = some (.int .i64 r.2.1) ∧ w'.cell? ⟨w.heap.size + 1, 2, none⟩ = some (.slice ax r.2.2.length cx))) (by kernel_rfl) ⟨⟨x0, x1, x2, x3⟩, r0, r1, r2⟩ (fun hHeld => ?_)
  clear x0 x1 x2 x3 r0 r1 r2
  refine takeD (i := 0) (v := ?_) (some 8) rfl rfl (by kernel_rfl) (by kernel_rfl) (by kernel_rfl) (fun _ _ _ h => h) (by rfl) hHeld ?_ ?_
  rotate_left
  · intro W hSw
    try dsimp only at hSw
    go_simp
    try with_reducible rfl
  try simp only [Act.put]
  try simp only [List.setIfInBounds_toArray]
  try simp only [List.set_cons_succ]
  try simp only [List.set_cons_zero]
  refine takeD (i := 1) (v := ?_) (some 9) rfl rfl (by kernel_rfl) (by kernel_rfl) (by kernel_rfl) (fun _ _ _ h => h) (by rfl) hHeld ?_ ?_
  rotate_left
  · intro W hSw
    try dsimp only at hSw
    go_simp
    try with_reducible rfl
  try simp only [Act.put]
  try simp only [List.setIfInBounds_toArray]
  try simp only [List.set_cons_succ]
  try simp only [List.set_cons_zero]
  refine takeD (i := 2) (v := .bool false) (some 10) rfl rfl (by kernel_rfl) (by kernel_rfl) (by kernel_rfl) (fun _ _ _ h => h) (by rfl) hHeld ?_ ?_
  · intro W hSw
    try dsimp only at hSw
    first | (go_simp; done) | (go_simp; simp [*]; done) | (go_simp; simp; omega)
  try simp only [Act.put]
  try simp only [List.setIfInBounds_toArray]
  try simp only [List.set_cons_succ]
  try simp only [List.set_cons_zero]
  refine takeD (i := 3) (v := .bool false) (some 11) rfl rfl (by kernel_rfl) (by kernel_rfl) (by kernel_rfl) (fun _ _ _ h => h) (by rfl) hHeld ?_ ?_
  · intro W hSw
    try dsimp only at hSw
    first | (go_simp; done) | (go_simp; simp [*]; done) | (go_simp; simp; omega)
  try simp only [Act.put]
  try simp only [List.setIfInBounds_toArray]
  try simp only [List.set_cons_succ]
  try simp only [List.set_cons_zero]
  refine takeD (i := 4) (v := ?_) (some 12) rfl rfl (by kernel_rfl) (by kernel_rfl) (by kernel_rfl) (fun _ _ _ h => h) (by rfl) hHeld ?_ ?_
  rotate_left
  · intro W hSw
    try dsimp only at hSw
    go_simp
    try with_reducible rfl
  try simp only [Act.put]
  try simp only [List.setIfInBounds_toArray]
  try simp only [List.set_cons_succ]
  try simp only [List.set_cons_zero]
  refine takeD (i := 6) (v := ?_) (some 14) rfl rfl (by kernel_rfl) (by kernel_rfl) (by kernel_rfl) (fun _ _ _ h => h) (by rfl) hHeld ?_ ?_
  rotate_left
  · intro W hSw
    try dsimp only at hSw
    go_simp
    try with_reducible rfl
  try simp only [Act.put]
  try simp only [List.setIfInBounds_toArray]
  try simp only [List.set_cons_succ]
  try simp only [List.set_cons_zero]
  refine wpAnyH_ready (rs := [5]) (by kernel_rfl) (by simp) ?_
  refine AllReadyH.cons rfl (fun K hK => ?_) AllReadyH.nil
  go_simp
  refine (HT.out _ B0.out.drew).mono ?_
  rintro e w1 ⟨a1, c1, rfl, hm1, hb1⟩
  have L1 := hide_it ((Below.refl w0.heap.size w0).drew.trans hb1)
  have B1 := hide_it (B0.out.trans (L1.out.mono B0.out.size))
  have T1 := hide_it hm1.recs
  clear hb1 hm1
  try dsimp only
  refine hK.out _ _ ⟨(X0.out.after L1.out).cells4, (R0.out.after L1.out).cells3⟩ (fun hHeld => ?_)
  clear hK K
  refine wpAnyH_ready (rs := [7]) (by kernel_rfl) (by simp) ?_
  refine AllReadyH.cons rfl (fun K hK => ?_) AllReadyH.nil
  go_simp
  refine (HM.out _ _ T1.out).mono ?_
  rintro e w2 ⟨rfl, hb2⟩
  have L2 := hide_it (L1.out.trans (hb2.mono L1.out.size))
  have B2 := hide_it (B0.out.trans (L2.out.mono B0.out.size))
  clear hb2
  try dsimp only
  refine hK.out _ _ ⟨(X0.out.after L2.out).cells4, (R0.out.after L2.out).cells3⟩ (fun hHeld => ?_)
  clear hK K
  cases MM
  · refine takeD (i := 8) (v := .bool true) (some 16) rfl rfl (by kernel_rfl) (by kernel_rfl) (by kernel_rfl) (fun _ _ _ h => h) (by rfl) hHeld ?_ ?_
    · intro W hSw
      try dsimp only at hSw
      first | (go_simp; done) | (go_simp; simp [*]; done) | (go_simp; simp; omega)
    try simp only [Act.put]
    try simp only [List.setIfInBounds_toArray]
    try simp only [List.set_cons_succ]
    try simp only [List.set_cons_zero]
    refine takeD (i := 9) (v := .bool true) (some 17) rfl rfl (by kernel_rfl) (by kernel_rfl) (by kernel_rfl) (fun _ _ _ h => h) (by rfl) hHeld ?_ ?_
    · intro W hSw
      try dsimp only at hSw
      first | (go_simp; done) | (go_simp; simp [*]; done) | (go_simp; simp; omega)
    try simp only [Act.put]
    try simp only [List.setIfInBounds_toArray]
    try simp only [List.set_cons_succ]
    try simp only [List.set_cons_zero]
    refine wpAnyH_done (by kernel_rfl) ?_ _
    obtain ⟨z0, z1, z2, z3⟩ := (Z0.out.after L2.out).cells4
    obtain ⟨zf0, zf1, zf2, zf3⟩ := (Z0.out.after L2.out).free4
    obtain ⟨x0, x1, x2, x3⟩ := (X0.out.after L2.out).cells4
    go_wp2
    refine bodyPost_ret (v := .tuple #[deskV true (.slice av rs.length cv) f (.slice au ws.length cu), .bool false]) (by simp [results, Tryz.results57, go_sem, *]) rfl ?_
    refine Or.inl ⟨by rw [HD.out]; rfl, rfl, ?_⟩
    try refine Below.drew ?_
    iterate 4 (refine Below.setCell ?_ (show w.heap.size ≤ w.heap.size + 1 + 1 by omega) _)
    exact B2.out
  · refine takeD (i := 8) (v := .bool false) (some 16) rfl rfl (by kernel_rfl) (by kernel_rfl) (by kernel_rfl) (fun _ _ _ h => h) (by rfl) hHeld ?_ ?_
    · intro W hSw
      try dsimp only at hSw
      first | (go_simp; done) | (go_simp; simp [*]; done) | (go_simp; simp; omega)
    try simp only [Act.put]
    try simp only [List.setIfInBounds_toArray]
    try simp only [List.set_cons_succ]
    try simp only [List.set_cons_zero]
    refine takeD (i := 9) (v := .bool false) (some 17) rfl rfl (by kernel_rfl) (by kernel_rfl) (by kernel_rfl) (fun _ _ _ h => h) (by rfl) hHeld ?_ ?_
    · intro W hSw
      try dsimp only at hSw
      first | (go_simp; done) | (go_simp; simp [*]; done) | (go_simp; simp; omega)
    try simp only [Act.put]
    try simp only [List.setIfInBounds_toArray]
    try simp only [List.set_cons_succ]
    try simp only [List.set_cons_zero]
    refine wpAnyH_done (by kernel_rfl) ?_ _
    obtain ⟨x0, x1, x2, x3⟩ := (X0.out.after L2.out).cells4
    obtain ⟨r0, r1, r2⟩ := (R0.out.after L2.out).cells3
    go_wp2_with fail
    refine (HAD.out w2 B2.out).mono ?_
    rintro e w3 ⟨g, cap', rfl, ho3, hg3, hc3⟩
    have hs2 := L2.out.size
    have X3 := hide_it ((X0.out.after L2.out).grown hg3 (HVB.out _ (Nat.le_refl _)))
    have Z3 := hide_it ((Z0.out.after L2.out).grown hg3 (HVB.out _ (by omega)))
    have O3 := hide_it ho3
    have G3 := hide_it (grownBy_belowL B2.out hg3)
    have LC := hide_it hc3
    have hs3 : w2.heap.size ≤ w3.heap.size := hg3.size
    obtain ⟨NN, hNN⟩ : ∃ q, Hid ((rs ++ [r]).length = q) := ⟨_, rfl⟩
    rw [hNN.out] at O3 ⊢
    clear ho3 hg3 hc3 x0 x1 x2 x3 r0 r1 r2
    have hxl := X3.out.lt
    have hzl := Z3.out.lt
    obtain ⟨x0, x1, x2, x3⟩ := X3.out.cells4
    obtain ⟨xf0, xf1, xf2, xf3⟩ := X3.out.free4
    obtain ⟨z0, z1, z2, z3⟩ := Z3.out.cells4
    obtain ⟨zf0, zf1, zf2, zf3⟩ := Z3.out.free4
    have k0 := fun x => cellAlloc x0 x
    have k1 := fun x => cellAlloc x1 x
    have k2 := fun x => cellAlloc x2 x
    have k3 := fun x => cellAlloc x3 x
    have p1 := fun x => frozenAlloc xf1 hxl x
    have p2 := fun x => frozenAlloc xf2 hxl x
    have m0 := fun x => cellAlloc z0 x
    have m1 := fun x => cellAlloc z1 x
    have m2 := fun x => cellAlloc z2 x
    have m3 := fun x => cellAlloc z3 x
    have n0 := fun x => frozenAlloc zf0 hzl x
    have n1 := fun x => frozenAlloc zf1 hzl x
    have n2 := fun x => frozenAlloc zf2 hzl x
    have n3 := fun x => frozenAlloc zf3 hzl x
    go_wp2
    refine bodyPost_ret (v := .tuple #[deskV true (.slice (some ⟨g, 0, none⟩) NN cap') f (.slice au ws.length cu), .bool true]) (by simp [results, Tryz.results57, go_sem, *]) rfl ?_
    refine Or.inr ⟨by rw [HD.out]; rfl, g, cap', by rw [hNN.out], ?_, ?_, LC.out⟩
    · clear k0 k1 k2 k3 p1 p2 m0 m1 m2 m3 n0 n1 n2 n3 x0 x1 x2 x3 xf0 xf1 xf2 xf3 z0 z1 z2 z3 zf0 zf1 zf2 zf3
      rw [hNN.out]
      have e1 := row_set (i := 1) (y := .slice (some ⟨g, 0, none⟩) NN cap') O3.out X3.out (by decide)
      have e2 := row_set (i := 2) (y := .int .i64 f) e1 (X3.out.set_ 1 _) (by decide)
      have Y2 := (Z3.out.other (a := ⟨w.heap.size, 1, none⟩) (by simp; omega) (.slice (some ⟨g, 0, none⟩) NN cap')).other (a := ⟨w.heap.size, 2, none⟩) (by simp; omega) (.int .i64 f)
      have f0 := row_set (i := 0) (y := .bool true) e2 Y2 (by decide)
      have f1 := row_set (i := 1) (y := .slice (some ⟨g, 0, none⟩) NN cap') f0 (Y2.set_ 0 _) (by decide)
      have f2 := row_set (i := 2) (y := .int .i64 f) f1 ((Y2.set_ 0 _).set_ 1 _) (by decide)
      have f3 := row_set (i := 3) (y := .slice au ws.length cu) f2 (((Y2.set_ 0 _).set_ 1 _).set_ 2 _) (by decide)
      exact f3.alloc _
    · clear k0 k1 k2 k3 p1 p2 m0 m1 m2 m3 n0 n1 n2 n3 x0 x1 x2 x3 xf0 xf1 xf2 xf3 z0 z1 z2 z3 zf0 zf1 zf2 zf3
      refine grownBy_belowR ?_ (alloc_below _ _)
      iterate 4 (refine grownBy_setNew ?_ (show w.heap.size ≤ w.heap.size + 1 + 1 by omega) _)
      iterate 2 (refine grownBy_setNew ?_ (Nat.le_refl _) _)
      exact G3.out

end Go.Proofs.YtgknnigjlnfplaaGreatDoor
