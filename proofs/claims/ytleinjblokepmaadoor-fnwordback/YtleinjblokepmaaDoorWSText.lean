/- Contract of the specification's WordText. For every word. -/
import Derived.Test.YtleinjblokepmaaDoorWText
import Derived.Deep.RegionHeldLaw
namespace Go.Proofs.YtleinjblokepmaaDoor
open Go.RowKit

/-- What holds behind every operation may be weakened. -/
theorem wpAnyH_mono {P : Program} {md : Region.Mode} {ops : Array Oper} {Q : Exit → Act → World → Prop} {S S2 : World → Prop} (hS : ∀ w, S2 w → S w) :
    ∀ (fuel : Nat) (listed : Array Bool) (a : Act) (w : World), wpAnyH P md ops Q S2 fuel listed a w → wpAnyH P md ops Q S fuel listed a w
  | 0, _, _, _, h => h
  | fuel + 1, _, _, _, h => ⟨h.1, fun i hi => wpOp_mono (fun a' w' h' => ⟨hS _ h'.1, wpAnyH_mono hS fuel _ a' w' h'.2⟩) (h.2 i hi)⟩

/-- The names of kinds lie in this block. -/
def NamesIn (w : World) (g : Nat) : Prop := ∀ k : Int, 0 ≤ k → k ≤ 7 → w.cell? ⟨g, k.toNat, none⟩ = some (.string (Pl.wNm k))
theorem NamesIn.lt {w : World} {g : Nat} (h : NamesIn w g) : g < w.heap.size := by
  have := World.block_lt_of_cell? _ _ (h 0 (by omega) (by omega))
  simpa using this
theorem NamesIn.later {B : Nat} {w w' : World} {g : Nat} (h : NamesIn w g) (hb : Below B w w') (hB : w.heap.size ≤ B) : NamesIn w' g := fun k h0 h7 => by
  have hlt := h.lt
  rw [← h k h0 h7]
  exact hb.cell (p := ⟨g, k.toNat, none⟩) (by simp; omega)

theorem names_any (w : World) :
    Calls Tryd.prog 19 #[] w fun e w' => e = .returned (.slice (some ⟨w.heap.size, 0, none⟩) 8 8) ∧ NamesIn w' w.heap.size ∧ Below w.heap.size w w' := by
  go_enter Tryd.func19, Tryd.ntmps19
  go_wp2
  go_ret
  refine ⟨rfl, fun k h0 h7 => ?_, (Below.refl _ _).alloc (Nat.le_refl _) _⟩
  rcases Pl.ten h0 (by omega) with rfl | rfl | rfl | rfl | rfl | rfl | rfl | rfl | rfl | rfl
  all_goals first | (exfalso; omega) | (simp; rfl)

set_option maxHeartbeats 4000000 in
theorem specText_any (k h t m : Int) (w : World) :
    Calls Tryd.prog 9 #[wordV k h t m] w fun e w' => e = .returned (.string (Pl.wTxt k h t m)) ∧ Below w.heap.size w w' := by
  have Q0 := hidden (Quad.new w (.int .i64 k) (.int .i64 h) (.int .i64 t) (.int .i64 m) 24)
  obtain ⟨w0, hw0⟩ : ∃ W, Hid (W = w.alloc (.cells #[.int .i64 k, .int .i64 h, .int .i64 t, .int .i64 m] 24)) := ⟨_, rfl⟩
  have B0 : Hid (Below w.heap.size w w0) := by show Below _ _ _; rw [hw0.out]; exact (Below.refl _ _).alloc (Nat.le_refl _) _
  rw [← hw0.out] at Q0
  have HOK := hidden (specWordOk_any k h t m)
  cases e1 : Pl.wOk k h t m
  · rw [Pl.wTxt_no e1]
    rw [e1] at HOK
    go_enter Tryd.func9, Tryd.ntmps9
    go_wp2_with fail
    rw [← hw0.out]
    refine (HOK.out _).mono ?_
    rintro e w1 ⟨rfl, hb1⟩
    have B1 := hidden (B0.out.trans (hb1.mono B0.out.size))
    clear hb1
    go_wp2
    go_ret
    exact ⟨rfl, B1.out⟩
  · rw [Pl.wTxt_yes e1]
    have hp := Pl.wOk_parts e1
    rw [e1] at HOK
    have hh : 0 ≤ h ∧ h ≤ 9 := by omega
    have ht : 0 ≤ t ∧ t ≤ 9 := by omega
    have hm := Pl.wMany_parts hp.2.2.2
    have hk0 : 0 ≤ k := by omega
    have hk8 : k < 8 := by omega
    have hm9 : 0 ≤ m ∧ m ≤ 9 := by omega
    clear e1 hp
    obtain ⟨DH, hDH⟩ : ∃ x, Hid (Pl.dg h = x) := ⟨_, rfl⟩
    obtain ⟨DT, hDT⟩ : ∃ x, Hid (Pl.dg t = x) := ⟨_, rfl⟩
    obtain ⟨DM, hDM⟩ : ∃ x, Hid (Pl.dg m = x) := ⟨_, rfl⟩
    obtain ⟨NK, hNK⟩ : ∃ x, Hid (Pl.wNm k = x) := ⟨_, rfl⟩
    have HH : Hid (∀ W, Calls Tryd.prog 20 #[.int .i64 h] W fun e w' => e = .returned (.string DH) ∧ Below W.heap.size W w') := fun W => by rw [← hDH.out]; exact dec_any h hh.1 hh.2 W
    have HT : Hid (∀ W, Calls Tryd.prog 20 #[.int .i64 t] W fun e w' => e = .returned (.string DT) ∧ Below W.heap.size W w') := fun W => by rw [← hDT.out]; exact dec_any t ht.1 ht.2 W
    have HM : Hid (∀ W, Calls Tryd.prog 20 #[.int .i64 m] W fun e w' => e = .returned (.string DM) ∧ Below W.heap.size W w') := fun W => by rw [← hDM.out]; exact dec_any m hm9.1 hm9.2 W
    have HF : Hid (Pl.wFull k h t m = if k = 1 then NK ++ Pl.sp ++ DH ++ Pl.sp ++ DT ++ Pl.sp ++ DM else NK ++ Pl.sp ++ DH ++ Pl.sp ++ DT) := by show _ = _; rw [← hDH.out, ← hDT.out, ← hDM.out, ← hNK.out]; rfl
    have sH : DH.size = 1 := by rw [← hDH.out]; rfl
    have sT : DT.size = 1 := by rw [← hDT.out]; rfl
    have sM : DM.size = 1 := by rw [← hDM.out]; rfl
    have hN : Hid (∀ W g, NamesIn W g → W.cell? ⟨g, k.toNat, none⟩ = some (.string NK)) := fun W g hg => by rw [hg k hk0 (by omega), hNK.out]
    obtain ⟨sn, hsn, hsn9⟩ : ∃ n, NK.size = n ∧ n ≤ 9 := ⟨_, rfl, by rw [← hNK.out]; exact Pl.nmS9 k⟩
    have z1 : ¬ 9223372036854775807 < sn + 1 := by omega
    have z2 : ¬ 9223372036854775807 < sn + 1 + 1 := by omega
    have z3 : ¬ 9223372036854775807 < sn + 1 + 1 + 1 := by omega
    have z4 : ¬ 9223372036854775807 < sn + 1 + 1 + 1 + 1 := by omega
    have z5 : ¬ 9223372036854775807 < sn + 1 + 1 + 1 + 1 + 1 := by omega
    have z6 : ¬ 9223372036854775807 < sn + 1 + 1 + 1 + 1 + 1 + 1 := by omega
    clear hh ht hm9 hDH hDT hDM hNK
    go_enter Tryd.func9, Tryd.ntmps9
    go_wp2_with fail
    rw [← hw0.out]
    refine (HOK.out _).mono ?_
    rintro e w1 ⟨rfl, hb1⟩
    have B1 := hidden (B0.out.trans (hb1.mono B0.out.size))
    have Q1 := hidden (Q0.out.later hb1 (Nat.le_refl _))
    clear hb1
    obtain ⟨q0, q1, q2, q3⟩ := Q1.out
    go_wp2_with fail
    refine wp_region_held_drew (S := (fun w' => w'.cell? ⟨w.heap.size, 0, none⟩ = some (.int .i64 k) ∧ w'.cell? ⟨w.heap.size, 1, none⟩ = some (.int .i64 h) ∧ w'.cell? ⟨w.heap.size, 2, none⟩ = some (.int .i64 t))) (by kernel_rfl) ⟨q0, q1, q2⟩ (fun hHeld => ?_)
    refine wpAnyH_take (i := 1) (v := ?_) rfl (by kernel_rfl) (by kernel_rfl) (by kernel_rfl) (fun _ _ _ h => h) (Or.inl ⟨by rfl, ?_⟩) hHeld ?_
    rotate_left
    · intro W hSw
      try dsimp only at hSw
      go_simp
      try with_reducible rfl
    try simp only [Act.put]
    try simp only [List.setIfInBounds_toArray]
    try simp only [List.set_cons_succ]
    try simp only [List.set_cons_zero]
    refine wpAnyH_take (i := 2) (v := ?_) rfl (by kernel_rfl) (by kernel_rfl) (by kernel_rfl) (fun _ _ _ h => h) (Or.inl ⟨by rfl, ?_⟩) hHeld ?_
    rotate_left
    · intro W hSw
      try dsimp only at hSw
      go_simp
      try with_reducible rfl
    try simp only [Act.put]
    try simp only [List.setIfInBounds_toArray]
    try simp only [List.set_cons_succ]
    try simp only [List.set_cons_zero]
    refine wpAnyH_take (i := 6) (v := ?_) rfl (by kernel_rfl) (by kernel_rfl) (by kernel_rfl) (fun _ _ _ h => h) (Or.inl ⟨by rfl, ?_⟩) hHeld ?_
    rotate_left
    · intro W hSw
      try dsimp only at hSw
      go_simp
      try with_reducible rfl
    try simp only [Act.put]
    try simp only [List.setIfInBounds_toArray]
    try simp only [List.set_cons_succ]
    try simp only [List.set_cons_zero]
    refine wpAnyH_take (i := 7) (v := ?_) rfl (by kernel_rfl) (by kernel_rfl) (by kernel_rfl) (fun _ _ _ h => h) (Or.inl ⟨by rfl, ?_⟩) hHeld ?_
    rotate_left
    · intro W hSw
      try dsimp only at hSw
      go_simp
      try with_reducible rfl
    try simp only [Act.put]
    try simp only [List.setIfInBounds_toArray]
    try simp only [List.set_cons_succ]
    try simp only [List.set_cons_zero]
    refine wpAnyH_take (i := 11) (v := ?_) rfl (by kernel_rfl) (by kernel_rfl) (by kernel_rfl) (fun _ _ _ h => h) (Or.inl ⟨by rfl, ?_⟩) hHeld ?_
    rotate_left
    · intro W hSw
      try dsimp only at hSw
      go_simp
      try with_reducible rfl
    try simp only [Act.put]
    try simp only [List.setIfInBounds_toArray]
    try simp only [List.set_cons_succ]
    try simp only [List.set_cons_zero]
    refine wpAnyH_take (i := 12) (v := ?_) rfl (by kernel_rfl) (by kernel_rfl) (by kernel_rfl) (fun _ _ _ h => h) (Or.inl ⟨by rfl, ?_⟩) hHeld ?_
    rotate_left
    · intro W hSw
      try dsimp only at hSw
      go_simp
      try with_reducible rfl
    try simp only [Act.put]
    try simp only [List.setIfInBounds_toArray]
    try simp only [List.set_cons_succ]
    try simp only [List.set_cons_zero]
    refine wpAnyH_ready (rs := [0]) (by kernel_rfl) (by simp) ?_
    refine AllReadyH.cons rfl (fun K hK => ?_) AllReadyH.nil
    go_simp
    refine (names_any _).mono ?_
    rintro e w2 ⟨rfl, hn2, hb2⟩
    have N2 := hidden ((Below.refl w1.heap.size w1).drew.trans hb2)
    have R2 := hidden hn2
    have c2 : w2.cell? ⟨w1.heap.size, k.toNat, none⟩ = some (.string NK) := hN.out _ _ hn2
    obtain ⟨q20, q21, q22, q23⟩ := Q1.out.later N2.out (Nat.le_refl _)
    clear hb2 hn2
    try dsimp only
    refine hK.out _ _ ⟨q20, q21, q22⟩ (fun hHeld => ?_)
    clear hK K
    refine wpAnyH_mono (S2 := (fun w' => w'.cell? ⟨w1.heap.size, k.toNat, none⟩ = some (.string NK) ∧ w'.cell? ⟨w.heap.size, 0, none⟩ = some (.int .i64 k) ∧ w'.cell? ⟨w.heap.size, 1, none⟩ = some (.int .i64 h) ∧ w'.cell? ⟨w.heap.size, 2, none⟩ = some (.int .i64 t))) (fun _ h => h.2) _ _ _ _ ?_
    replace hHeld := And.intro c2 hHeld
    refine wpAnyH_take (i := 3) (v := ?_) rfl (by kernel_rfl) (by kernel_rfl) (by kernel_rfl) (fun _ _ _ h => h) (Or.inl ⟨by rfl, ?_⟩) hHeld ?_
    rotate_left
    · intro W hSw
      try dsimp only at hSw
      go_simp
      try with_reducible rfl
    try simp only [Act.put]
    try simp only [List.setIfInBounds_toArray]
    try simp only [List.set_cons_succ]
    try simp only [List.set_cons_zero]
    refine wpAnyH_take (i := 4) (v := ?_) rfl (by kernel_rfl) (by kernel_rfl) (by kernel_rfl) (fun _ _ _ h => h) (Or.inl ⟨by rfl, ?_⟩) hHeld ?_
    rotate_left
    · intro W hSw
      try dsimp only at hSw
      go_simp
      try with_reducible rfl
    try simp only [Act.put]
    try simp only [List.setIfInBounds_toArray]
    try simp only [List.set_cons_succ]
    try simp only [List.set_cons_zero]
    refine wpAnyH_take (i := 5) (v := ?_) rfl (by kernel_rfl) (by kernel_rfl) (by kernel_rfl) (fun _ _ _ h => h) (Or.inl ⟨by rfl, ?_⟩) hHeld ?_
    rotate_left
    · intro W hSw
      try dsimp only at hSw
      go_simp
      try with_reducible rfl
    try simp only [Act.put]
    try simp only [List.setIfInBounds_toArray]
    try simp only [List.set_cons_succ]
    try simp only [List.set_cons_zero]
    refine wpAnyH_ready (rs := [8]) (by kernel_rfl) (by simp) ?_
    refine AllReadyH.cons rfl (fun K hK => ?_) AllReadyH.nil
    go_simp
    refine (HH.out _).mono ?_
    rintro e w3 ⟨rfl, hb3⟩
    have N3 := hidden (N2.out.trans (hb3.mono N2.out.size))
    have R3 := hidden (R2.out.later hb3 (Nat.le_refl _))
    have c3 : w3.cell? ⟨w1.heap.size, k.toNat, none⟩ = some (.string NK) := hN.out _ _ R3.out
    obtain ⟨q30, q31, q32, q33⟩ := Q1.out.later N3.out (Nat.le_refl _)
    clear hb3
    try dsimp only
    refine hK.out _ _ ⟨c3, q30, q31, q32⟩ (fun hHeld => ?_)
    clear hK K
    refine wpAnyH_take (i := 9) (v := ?_) rfl (by kernel_rfl) (by kernel_rfl) (by kernel_rfl) (fun _ _ _ h => h) (Or.inl ⟨by rfl, ?_⟩) hHeld ?_
    rotate_left
    · intro W hSw
      try dsimp only at hSw
      go_simp
      try with_reducible rfl
    try simp only [Act.put]
    try simp only [List.setIfInBounds_toArray]
    try simp only [List.set_cons_succ]
    try simp only [List.set_cons_zero]
    refine wpAnyH_take (i := 10) (v := ?_) rfl (by kernel_rfl) (by kernel_rfl) (by kernel_rfl) (fun _ _ _ h => h) (Or.inl ⟨by rfl, ?_⟩) hHeld ?_
    rotate_left
    · intro W hSw
      try dsimp only at hSw
      go_simp
      try with_reducible rfl
    try simp only [Act.put]
    try simp only [List.setIfInBounds_toArray]
    try simp only [List.set_cons_succ]
    try simp only [List.set_cons_zero]
    refine wpAnyH_ready (rs := [13]) (by kernel_rfl) (by simp) ?_
    refine AllReadyH.cons rfl (fun K hK => ?_) AllReadyH.nil
    go_simp
    refine (HT.out _).mono ?_
    rintro e w4 ⟨rfl, hb4⟩
    have N4 := hidden (N3.out.trans (hb4.mono N3.out.size))
    have R4 := hidden (R3.out.later hb4 (Nat.le_refl _))
    have c4 : w4.cell? ⟨w1.heap.size, k.toNat, none⟩ = some (.string NK) := hN.out _ _ R4.out
    obtain ⟨q40, q41, q42, q43⟩ := Q1.out.later N4.out (Nat.le_refl _)
    clear hb4
    try dsimp only
    refine hK.out _ _ ⟨c4, q40, q41, q42⟩ (fun hHeld => ?_)
    clear hK K
    refine wpAnyH_take (i := 14) (v := ?_) rfl (by kernel_rfl) (by kernel_rfl) (by kernel_rfl) (fun _ _ _ h => h) (Or.inl ⟨by rfl, ?_⟩) hHeld ?_
    rotate_left
    · intro W hSw
      try dsimp only at hSw
      go_simp
      try with_reducible rfl
    try simp only [Act.put]
    try simp only [List.setIfInBounds_toArray]
    try simp only [List.set_cons_succ]
    try simp only [List.set_cons_zero]
    refine wpAnyH_take (i := 15) (v := ?_) rfl (by kernel_rfl) (by kernel_rfl) (by kernel_rfl) (fun _ _ _ h => h) (Or.inl ⟨by rfl, ?_⟩) hHeld ?_
    rotate_left
    · intro W hSw
      try dsimp only at hSw
      go_simp
      try with_reducible rfl
    try simp only [Act.put]
    try simp only [List.setIfInBounds_toArray]
    try simp only [List.set_cons_succ]
    try simp only [List.set_cons_zero]
    refine wpAnyH_done (by kernel_rfl) ?_ _
    all_goals
      have B4 := hidden (B1.out.trans (N4.out.mono B1.out.size))
      rcases hm with ⟨rfl, hm1, hm3⟩ | ⟨hk1, rfl⟩
      · obtain ⟨z0, z1, z2, z3⟩ := Q1.out.later N4.out (Nat.le_refl _)
        go_wp2_with fail
        refine (HM.out _).mono ?_
        rintro e w5 ⟨rfl, hb5⟩
        have B5 := hidden (B4.out.trans (hb5.mono B4.out.size))
        clear hb5
        go_wp2
        go_ret
        exact ⟨app_str (by rw [HF.out]; first | rfl | simp [Pl.sp, ByteArray.append_assoc]), B5.out⟩
      · go_wp2
        go_ret
        exact ⟨app_str (by rw [HF.out]; simp [Pl.sp, hk1]), B4.out⟩

end Go.Proofs.YtleinjblokepmaaDoor
