/- Contract of the specification's RecText. For every record whose numbers are at most 1048576. -/
import Derived.Test.YtfpjohbcbflnhaaDoorEText3
import Derived.Test.YtfpjohbcbflnhaaDoorSpec
namespace Go.Proofs.YtfpjohbcbflnhaaDoor
open Go.RowKit

namespace Pl
theorem rTail_snoc (b : ByteArray) (zs : List Int) (j : Nat) (h : j < zs.length) : rTail b (zs.take (j + 1)) = rTail b (zs.take j) ++ sp ++ dg (zs.getD j 0) := by
  rw [take_snoc zs j h]; unfold rTail; rw [List.foldl_append]; rfl
theorem rTail_size (b : ByteArray) (zs : List Int) : (rTail b zs).size = b.size + 2 * zs.length := by
  induction zs generalizing b with
  | nil => simp [rTail]
  | cons z t ih =>
    show (rTail (b ++ sp ++ dg z) t).size = _
    rw [ih]
    simp only [ByteArray.size_append, List.length_cons]
    have h1 : sp.size = 1 := rfl
    have h2 : (dg z).size = 1 := rfl
    omega
theorem recOk_nums {k t : Int} {zs : List Int} (h : recOk k t zs = true) : (1 ≤ k ∧ k ≤ 7) ∧ (1 ≤ t ∧ t ≤ 6) ∧ zs.length ≤ 3 ∧ ∀ j, j < zs.length → 0 ≤ zs.getD j 0 ∧ zs.getD j 0 ≤ 9 := by
  have ht : inB t 1 6 = true := by
    simp only [recOk, Bool.and_eq_true] at h; exact h.1
  by_cases k1 : k = 1
  · subst k1
    rw [recOk_1 t zs ht] at h
    simp only [holdOk, Bool.and_eq_true, beq_iff_eq] at h
    obtain ⟨z, e⟩ := List.length_eq_one_iff.1 h.1
    subst e
    have hz := inB_true h.2
    refine ⟨by omega, inB_true ht, by simp, fun j hj => ?_⟩
    obtain rfl : j = 0 := by simp at hj; omega
    simp at hz ⊢; omega
  by_cases k4 : k = 4
  · subst k4
    rw [recOk_4 t zs ht] at h
    obtain ⟨a, c, d, rfl, ha, hc, hd⟩ := manyOk_three h
    refine ⟨by omega, inB_true ht, by simp, fun j hj => ?_⟩
    match j, hj with
    | 0, _ => simp; omega
    | 1, _ => simp; omega
    | 2, _ => simp; omega
  · rw [recOk_p k t zs ht k1 k4, Bool.and_eq_true] at h
    have hk := inB_true h.1
    obtain rfl : zs = [] := List.length_eq_zero_iff.1 (by simpa using h.2)
    exact ⟨by omega, inB_true ht, by simp, fun j hj => by simp at hj⟩
end Pl

/-- The names of kinds of records lie in this block. -/
def RNamesIn (w : World) (g : Nat) : Prop := ∀ k : Int, 0 ≤ k → k ≤ 7 → w.cell? ⟨g, k.toNat, none⟩ = some (.string (Pl.rNm k))
theorem RNamesIn.lt {w : World} {g : Nat} (h : RNamesIn w g) : g < w.heap.size := by
  have := World.block_lt_of_cell? _ _ (h 0 (by omega) (by omega))
  simpa using this
theorem RNamesIn.later {B : Nat} {w w' : World} {g : Nat} (h : RNamesIn w g) (hb : Below B w w') (hB : w.heap.size ≤ B) : RNamesIn w' g := fun k h0 h7 => by
  have hlt := h.lt
  rw [← h k h0 h7]
  exact hb.cell (p := ⟨g, k.toNat, none⟩) (by simp; omega)

theorem rnames_any (w : World) :
    Calls Tryd.prog 26 #[] w fun e w' => e = .returned (.slice (some ⟨w.heap.size, 0, none⟩) 8 8) ∧ RNamesIn w' w.heap.size ∧ Below w.heap.size w w' := by
  go_enter Tryd.func26, Tryd.ntmps26
  go_wp2
  go_ret
  refine ⟨rfl, fun k h0 h7 => ?_, (Below.refl _ _).alloc (Nat.le_refl _) _⟩
  rcases Pl.ten h0 (by omega) with rfl | rfl | rfl | rfl | rfl | rfl | rfl | rfl | rfl | rfl
  all_goals first | (exfalso; omega) | (simp; rfl)

set_option maxRecDepth 100000 in
set_option maxHeartbeats 4000000 in
theorem specRecText_any (k t : Int) (v : Value) (zs : List Int) (w : World) (hv : Ints w v zs) (hl : zs.length ≤ 1048576) :
    Calls Tryd.prog 10 #[.agg #[.int .i64 k, .int .i64 t, v]] w fun e w' => e = .returned (.string (Pl.rTxt k t zs)) ∧ Below w.heap.size w w' := by
  have Q0 := hidden (RecAt.new w k t v 25)
  obtain ⟨w0, hw0⟩ : ∃ W, Hid (W = w.alloc (.cells #[.int .i64 k, .int .i64 t, v] 25)) := ⟨_, rfl⟩
  have B0 : Hid (Below w.heap.size w w0) := by show Below _ _ _; rw [hw0.out]; exact (Below.refl _ _).alloc (Nat.le_refl _) _
  rw [← hw0.out] at Q0
  have HV : Hid (∀ W, Below w.heap.size w W → Ints W v zs) := fun W h => hv.later h (Nat.le_refl _)
  have HOK := hidden (fun W (h : Below w.heap.size w W) => specOk_any k t v zs W (HV.out W h) hl)
  obtain ⟨av, cv, hvs⟩ := hv.shape
  subst hvs
  clear hv
  cases e1 : Pl.recOk k t zs
  · rw [Pl.rTxt_no e1]
    rw [e1] at HOK
    go_enter Tryd.func10, Tryd.ntmps10
    go_wp2_with fail
    rw [← hw0.out]
    refine (HOK.out _ B0.out).mono ?_
    rintro e w1 ⟨rfl, hb1⟩
    have B1 := hidden (B0.out.trans (hb1.mono B0.out.size))
    clear hb1
    go_wp2
    go_ret
    exact ⟨rfl, B1.out⟩
  · rw [Pl.rTxt_yes e1]
    obtain ⟨⟨k1, k7⟩, ⟨t1, t6⟩, hz3, hzs⟩ := Pl.recOk_nums e1
    rw [e1] at HOK
    have hk0 : 0 ≤ k := by omega
    have hk8 : k < 8 := by omega
    clear e1
    obtain ⟨DT, hDT⟩ : ∃ x, Hid (Pl.dg t = x) := ⟨_, rfl⟩
    obtain ⟨NK, hNK⟩ : ∃ x, Hid (Pl.rNm k = x) := ⟨_, rfl⟩
    have HT : Hid (∀ W, Calls Tryd.prog 27 #[.int .i64 t] W fun e w' => e = .returned (.string DT) ∧ Below W.heap.size W w') := fun W => by rw [← hDT.out]; exact dec_any t (by omega) (by omega) W
    have HF : Hid (Pl.rHead k t = NK ++ ⟨#[32]⟩ ++ DT) := by show _ = _; rw [← hDT.out, ← hNK.out]; rfl
    have sT : DT.size = 1 := by rw [← hDT.out]; rfl
    have hN : Hid (∀ W g, RNamesIn W g → W.cell? ⟨g, k.toNat, none⟩ = some (.string NK)) := fun W g hg => by rw [hg k hk0 (by omega), hNK.out]
    obtain ⟨sn, hsn, hsn9⟩ : ∃ n, NK.size = n ∧ n ≤ 9 := ⟨_, rfl, by rw [← hNK.out]; exact Pl.rnS9 k⟩
    have z1 : ¬ 9223372036854775807 < sn + 1 := by omega
    have z2 : ¬ 9223372036854775807 < sn + 1 + 1 := by omega
    clear hDT hNK
    have HZS := hidden hzs
    clear hzs
    go_enter Tryd.func10, Tryd.ntmps10
    go_wp2_with fail
    rw [← hw0.out]
    refine (HOK.out _ B0.out).mono ?_
    rintro e w1 ⟨rfl, hb1⟩
    have B1 := hidden (B0.out.trans (hb1.mono B0.out.size))
    have Q1 := hidden (Q0.out.later hb1 (Nat.le_refl _))
    clear hb1
    obtain ⟨q0, q1, q2⟩ := Q1.out
    go_wp2_with fail
    refine wp_region_held_drew (S := (fun w' => w'.cell? ⟨w.heap.size, 0, none⟩ = some (.int .i64 k) ∧ w'.cell? ⟨w.heap.size, 1, none⟩ = some (.int .i64 t))) (by kernel_rfl) ⟨q0, q1⟩ (fun hHeld => ?_)
    clear q0 q1 q2
    refine takeD (i := 1) (v := ?_) (some 9) rfl rfl (by kernel_rfl) (by kernel_rfl) (by kernel_rfl) (fun _ _ _ h => h) (by rfl) hHeld ?_ ?_
    rotate_left
    · intro W hSw
      try dsimp only at hSw
      go_simp
      try with_reducible rfl
    try simp only [Act.put]
    try simp only [List.setIfInBounds_toArray]
    try simp only [List.set_cons_succ]
    try simp only [List.set_cons_zero]
    refine takeD (i := 2) (v := ?_) (some 10) rfl rfl (by kernel_rfl) (by kernel_rfl) (by kernel_rfl) (fun _ _ _ h => h) (by rfl) hHeld ?_ ?_
    rotate_left
    · intro W hSw
      try dsimp only at hSw
      go_simp
      try with_reducible rfl
    try simp only [Act.put]
    try simp only [List.setIfInBounds_toArray]
    try simp only [List.set_cons_succ]
    try simp only [List.set_cons_zero]
    refine takeD (i := 6) (v := ?_) (some 14) rfl rfl (by kernel_rfl) (by kernel_rfl) (by kernel_rfl) (fun _ _ _ h => h) (by rfl) hHeld ?_ ?_
    rotate_left
    · intro W hSw
      try dsimp only at hSw
      go_simp
      try with_reducible rfl
    try simp only [Act.put]
    try simp only [List.setIfInBounds_toArray]
    try simp only [List.set_cons_succ]
    try simp only [List.set_cons_zero]
    refine takeD (i := 7) (v := ?_) (some 15) rfl rfl (by kernel_rfl) (by kernel_rfl) (by kernel_rfl) (fun _ _ _ h => h) (by rfl) hHeld ?_ ?_
    rotate_left
    · intro W hSw
      try dsimp only at hSw
      go_simp
      try with_reducible rfl
    try simp only [Act.put]
    try simp only [List.setIfInBounds_toArray]
    try simp only [List.set_cons_succ]
    try simp only [List.set_cons_zero]
    refine wpAnyH_ready (rs := [0]) (by kernel_rfl) (by simp) ?_
    refine AllReadyH.cons rfl (fun K hK => ?_) AllReadyH.nil
    go_simp
    refine (rnames_any _).mono ?_
    rintro e w2 ⟨rfl, hn2, hb2⟩
    have N2 := hidden ((Below.refl w1.heap.size w1).drew.trans hb2)
    have R2 := hidden hn2
    have c2 : w2.cell? ⟨w1.heap.size, k.toNat, none⟩ = some (.string NK) := hN.out _ _ hn2
    obtain ⟨q20, q21, q22⟩ := Q1.out.later N2.out (Nat.le_refl _)
    clear hb2 hn2
    try dsimp only
    refine hK.out _ _ ⟨q20, q21⟩ (fun hHeld => ?_)
    clear hK K
    refine heldMono (S2 := (fun w' => w'.cell? ⟨w1.heap.size, k.toNat, none⟩ = some (.string NK) ∧ w'.cell? ⟨w.heap.size, 0, none⟩ = some (.int .i64 k) ∧ w'.cell? ⟨w.heap.size, 1, none⟩ = some (.int .i64 t))) (fun _ h => h.2) _ _ _ _ ?_
    replace hHeld := And.intro c2 hHeld
    refine takeD (i := 3) (v := ?_) (some 11) rfl rfl (by kernel_rfl) (by kernel_rfl) (by kernel_rfl) (fun _ _ _ h => h) (by rfl) hHeld ?_ ?_
    rotate_left
    · intro W hSw
      try dsimp only at hSw
      go_simp
      try with_reducible rfl
    try simp only [Act.put]
    try simp only [List.setIfInBounds_toArray]
    try simp only [List.set_cons_succ]
    try simp only [List.set_cons_zero]
    refine takeD (i := 4) (v := ?_) (some 12) rfl rfl (by kernel_rfl) (by kernel_rfl) (by kernel_rfl) (fun _ _ _ h => h) (by rfl) hHeld ?_ ?_
    rotate_left
    · intro W hSw
      try dsimp only at hSw
      go_simp
      try with_reducible rfl
    try simp only [Act.put]
    try simp only [List.setIfInBounds_toArray]
    try simp only [List.set_cons_succ]
    try simp only [List.set_cons_zero]
    refine takeD (i := 5) (v := ?_) (some 13) rfl rfl (by kernel_rfl) (by kernel_rfl) (by kernel_rfl) (fun _ _ _ h => h) (by rfl) hHeld ?_ ?_
    rotate_left
    · intro W hSw
      try dsimp only at hSw
      go_simp
      try with_reducible rfl
    try simp only [Act.put]
    try simp only [List.setIfInBounds_toArray]
    try simp only [List.set_cons_succ]
    try simp only [List.set_cons_zero]
    refine wpAnyH_ready (rs := [8]) (by kernel_rfl) (by simp) ?_
    refine AllReadyH.cons rfl (fun K hK => ?_) AllReadyH.nil
    go_simp
    refine (HT.out _).mono ?_
    rintro e w3 ⟨rfl, hb3⟩
    have N3 := hidden (N2.out.trans (hb3.mono N2.out.size))
    have R3 := hidden (R2.out.later hb3 (Nat.le_refl _))
    have c3 : w3.cell? ⟨w1.heap.size, k.toNat, none⟩ = some (.string NK) := hN.out _ _ R3.out
    obtain ⟨q30, q31, q32⟩ := Q1.out.later N3.out (Nat.le_refl _)
    clear hb3
    try dsimp only
    refine hK.out _ _ ⟨c3, q30, q31⟩ (fun hHeld => ?_)
    clear hK K
    refine takeD (i := 9) (v := ?_) (some 17) rfl rfl (by kernel_rfl) (by kernel_rfl) (by kernel_rfl) (fun _ _ _ h => h) (by rfl) hHeld ?_ ?_
    rotate_left
    · intro W hSw
      try dsimp only at hSw
      go_simp
      try with_reducible rfl
    try simp only [Act.put]
    try simp only [List.setIfInBounds_toArray]
    try simp only [List.set_cons_succ]
    try simp only [List.set_cons_zero]
    refine takeD (i := 10) (v := ?_) (some 3) rfl rfl (by kernel_rfl) (by kernel_rfl) (by kernel_rfl) (fun _ _ _ h => h) (by rfl) hHeld ?_ ?_
    rotate_left
    · intro W hSw
      try dsimp only at hSw
      go_simp
      try with_reducible rfl
    try simp only [Act.put]
    try simp only [List.setIfInBounds_toArray]
    try simp only [List.set_cons_succ]
    try simp only [List.set_cons_zero]
    refine wpAnyH_done (by kernel_rfl) ?_ _
    clear hHeld c2 c3 q20 q21 q22
    have B3 := hidden (B1.out.trans (N3.out.mono B1.out.size))
    have Q3 := hidden (Q1.out.later N3.out (Nat.le_refl _))
    have hst : Hid ((Pl.rHead k t).size = sn + 1 + 1) := by show _ = _; rw [HF.out]; simp only [ByteArray.size_append]; rw [hsn, sT]; rfl
    clear q30 q31 q32
    go_wp2_with fail
    go_loopw [3, 4] (fun o i W => ∃ j : Nat, j ≤ zs.length ∧ i = .int .i64 j ∧ o = .string (Pl.rTail (Pl.rHead k t) (zs.take j)) ∧ Hid (Below w3.heap.size w3 W)) (fun _ i _ => zs.length - (intOf i).toNat)
    case atStart => exact ⟨0, Nat.zero_le _, rfl, by rw [List.take_zero]; show Value.string _ = .string (Pl.rHead k t); rw [HF.out], Below.refl _ _⟩
    case round =>
      obtain ⟨j, hj, rfl, rfl, HB⟩ := hrel
      obtain ⟨q0, q1, q2⟩ := Q3.out.later HB.out (Nat.le_refl _)
      have hIW := HV.out wr (B3.out.trans (HB.out.mono B3.out.size))
      by_cases hlt : j < zs.length
      · rcases hIW with ⟨h0, _⟩ | ⟨b', off', cap', hv', _, hcz⟩
        · rw [h0] at hlt; simp at hlt
        simp only [Value.slice.injEq] at hv'
        obtain ⟨rfl, -, rfl⟩ := hv'
        obtain ⟨z, hz⟩ : ∃ z, Hid (zs.getD j 0 = z) := ⟨_, rfl⟩
        have zc : wr.cell? ⟨b', off' + j, none⟩ = some (.int .i64 z) := by rw [hcz j hlt, hz.out]
        have hz9 := HZS.out j hlt
        rw [hz.out] at hz9
        obtain ⟨DZ, hDZ⟩ : ∃ x, Hid (Pl.dg z = x) := ⟨_, rfl⟩
        have HZ : Hid (∀ W, Calls Tryd.prog 27 #[.int .i64 z] W fun e w' => e = .returned (.string DZ) ∧ Below W.heap.size W w') := fun W => by rw [← hDZ.out]; exact dec_any z hz9.1 hz9.2 W
        have sZ : DZ.size = 1 := by rw [← hDZ.out]; rfl
        obtain ⟨X, hX⟩ : ∃ x, Hid (Pl.rTail (Pl.rHead k t) (zs.take j) = x) := ⟨_, rfl⟩
        have hXn : Hid (Pl.rTail (Pl.rHead k t) (zs.take (j + 1)) = X ++ ⟨#[32]⟩ ++ DZ) := by show _ = _; rw [Pl.rTail_snoc _ zs j hlt, hX.out, hz.out, hDZ.out]; rfl
        obtain ⟨xn, hxn, hx30⟩ : ∃ n, X.size = n ∧ n ≤ 30 := ⟨_, rfl, by rw [← hX.out, Pl.rTail_size, hst.out, List.length_take]; omega⟩
        have y1 : ¬ 9223372036854775807 < xn + 1 := by omega
        have y2 : ¬ 9223372036854775807 < xn + 1 + 1 := by omega
        have hji : (j : Int) < (zs.length : Int) := by omega
        rw [hX.out]
        clear hcz hz9
        go_wp2_with fail
        refine (HZ.out _).mono ?_
        rintro e w5 ⟨rfl, hb5⟩
        have N5 := hidden (HB.out.trans (hb5.mono HB.out.size))
        clear hb5 q0 q1 q2 zc
        go_wp2_with fail
        go_roundw
        case rel => exact ⟨j + 1, by omega, by go_num, by rw [hXn.out], N5⟩
        case measure => simp [intOf]; omega
      · have hje : Hid (zs.take j = zs) := by show _ = _; exact List.take_of_length_le (by omega)
        rw [hje.out]
        have B5 := hidden (B3.out.trans (HB.out.mono B3.out.size))
        have hji : ¬ (j : Int) < (zs.length : Int) := by omega
        go_wp2
        go_ret
        exact ⟨rfl, B5.out⟩

end Go.Proofs.YtfpjohbcbflnhaaDoor
