/- Contracts of the text of an entry. In a world in which the variable holds the names of the kinds. -/
import Derived.Test.YtfpjohbcbflnhaaDoorEText
namespace Go.Proofs.YtfpjohbcbflnhaaDoor
open Go.RowKit

set_option maxRecDepth 100000 in
set_option maxHeartbeats 4000000 in
theorem textH (t z : Int) (w : World) (h0 : 0 ≤ t) (h9 : t ≤ 9) (z0 : 0 ≤ z) (z9 : z ≤ 9) (hN : KindsAt w) :
    Calls Tryd.prog 25 #[holdV t z] w fun e w' => e = .returned (.string (Pl.rTail (Pl.rHead 1 t) [z])) ∧ Below w.heap.size w w' := by
  obtain ⟨DT, hDT⟩ : ∃ x, Hid (Pl.dg t = x) := ⟨_, rfl⟩
  obtain ⟨NK, hNK⟩ : ∃ x, Hid (Pl.rNm 1 = x) := ⟨_, rfl⟩
  have HT : Hid (∀ W, Calls Tryd.prog 46 #[.int .i64 t] W fun e w' => e = .returned (.string DT) ∧ w' = W) := fun W => by rw [← hDT.out]; exact itoa_any t h0 h9 W
  have HNK : Hid (∀ W, Below w.heap.size w W → W.cell? ⟨1, 1, none⟩ = some (.string NK)) := fun W hb => by
    obtain ⟨h1, h2, h3, h4, h5, h6, h7⟩ := hN.later hb (Nat.le_refl _)
    rw [← hNK.out]; assumption
  have sT : DT.size = 1 := by rw [← hDT.out]; rfl
  have sN : NK.size = 4 := by rw [← hNK.out]; decide
  obtain ⟨DZ, hDZ⟩ : ∃ x, Hid (Pl.dg z = x) := ⟨_, rfl⟩
  have HZ : Hid (∀ W, Calls Tryd.prog 46 #[.int .i64 z] W fun e w' => e = .returned (.string DZ) ∧ w' = W) := fun W => by rw [← hDZ.out]; exact itoa_any z z0 z9 W
  have sZ : DZ.size = 1 := by rw [← hDZ.out]; rfl
  have HF : Hid (Pl.rTail (Pl.rHead 1 t) [z] = NK ++ Pl.sp ++ DT ++ Pl.sp ++ DZ) := by show _ = _; rw [← hDT.out, ← hNK.out, ← hDZ.out]; rfl
  clear hN h0 h9 z0 z9 hDT hNK hDZ
  go_enter Tryd.func25, Tryd.ntmps25
  go_wp2_with fail
  refine wp_region_held_drew (S := fun w' => w'.cell? ⟨1, 1, none⟩ = some (.string NK)) (by kernel_rfl) (HNK.out _ (Below.refl w.heap.size w).drew) (fun hHeld => ?_)
  refine takeD (i := 0) (v := ?_) (some 6) rfl rfl (by kernel_rfl) (by kernel_rfl) (by kernel_rfl) (fun _ _ _ h => h) (by rfl) hHeld ?_ ?_
  rotate_left
  · intro W hSw
    try dsimp only at hSw
    go_simp
    try with_reducible rfl
  try simp only [Act.put]
  try simp only [List.setIfInBounds_toArray]
  try simp only [List.set_cons_succ]
  try simp only [List.set_cons_zero]
  refine takeD (i := 5) (v := ?_) (some 11) rfl rfl (by kernel_rfl) (by kernel_rfl) (by kernel_rfl) (fun _ _ _ h => h) (by rfl) hHeld ?_ ?_
  rotate_left
  · intro W hSw
    try dsimp only at hSw
    go_simp
    try with_reducible rfl
  try simp only [Act.put]
  try simp only [List.setIfInBounds_toArray]
  try simp only [List.set_cons_succ]
  try simp only [List.set_cons_zero]
  refine wpAnyH_ready (rs := [1]) (by kernel_rfl) (by simp) ?_
  refine AllReadyH.cons rfl (fun K hK => ?_) AllReadyH.nil
  go_simp
  refine (kindH t z _).mono ?_
  rintro e w1 ⟨rfl, hb1⟩
  have N1 := hidden ((Below.refl w.heap.size w).drew.trans hb1)
  clear hb1
  try dsimp only
  refine hK.out _ _ (HNK.out _ N1.out) (fun hHeld => ?_)
  clear hK K
  refine takeD (i := 2) (v := ?_) (some 8) rfl rfl (by kernel_rfl) (by kernel_rfl) (by kernel_rfl) (fun _ _ _ h => h) (by rfl) hHeld ?_ ?_
  rotate_left
  · intro W hSw
    try dsimp only at hSw
    go_simp
    try with_reducible rfl
  try simp only [Act.put]
  try simp only [List.setIfInBounds_toArray]
  try simp only [List.set_cons_succ]
  try simp only [List.set_cons_zero]
  refine takeD (i := 3) (v := .string NK) (some 9) rfl rfl (by kernel_rfl) (by kernel_rfl) (by kernel_rfl) (fun _ _ _ h => h) (by rfl) hHeld ?_ ?_
  · intro W hSw
    try dsimp only at hSw
    first | (go_simp; done) | (go_simp; simp [*])
  try simp only [Act.put]
  try simp only [List.setIfInBounds_toArray]
  try simp only [List.set_cons_succ]
  try simp only [List.set_cons_zero]
  refine takeD (i := 4) (v := ?_) (some 10) rfl rfl (by kernel_rfl) (by kernel_rfl) (by kernel_rfl) (fun _ _ _ h => h) (by rfl) hHeld ?_ ?_
  rotate_left
  · intro W hSw
    try dsimp only at hSw
    go_simp
    try with_reducible rfl
  try simp only [Act.put]
  try simp only [List.setIfInBounds_toArray]
  try simp only [List.set_cons_succ]
  try simp only [List.set_cons_zero]
  refine wpAnyH_ready (rs := [6]) (by kernel_rfl) (by simp) ?_
  refine AllReadyH.cons rfl (fun K hK => ?_) AllReadyH.nil
  go_simp
  refine (tripH t z _).mono ?_
  rintro e w2 ⟨rfl, hb2⟩
  have N2 := hidden (N1.out.trans (hb2.mono N1.out.size))
  clear hb2
  try dsimp only
  refine hK.out _ _ (HNK.out _ N2.out) (fun hHeld => ?_)
  clear hK K
  refine wpAnyH_ready (rs := [7]) (by kernel_rfl) (by simp) ?_
  refine AllReadyH.cons rfl (fun K hK => ?_) AllReadyH.nil
  go_simp
  refine (HT.out _).mono ?_
  rintro e w3 ⟨rfl, hw3⟩
  subst hw3
  try dsimp only
  refine hK.out _ _ (HNK.out _ N2.out) (fun hHeld => ?_)
  clear hK K
  refine takeD (i := 8) (v := ?_) (some 14) rfl rfl (by kernel_rfl) (by kernel_rfl) (by kernel_rfl) (fun _ _ _ h => h) (by rfl) hHeld ?_ ?_
  rotate_left
  · intro W hSw
    try dsimp only at hSw
    go_simp
    try with_reducible rfl
  try simp only [Act.put]
  try simp only [List.setIfInBounds_toArray]
  try simp only [List.set_cons_succ]
  try simp only [List.set_cons_zero]
  refine takeD (i := 9) (v := ?_) (some 3) rfl rfl (by kernel_rfl) (by kernel_rfl) (by kernel_rfl) (fun _ _ _ h => h) (by rfl) hHeld ?_ ?_
  rotate_left
  · intro W hSw
    try dsimp only at hSw
    go_simp
    try with_reducible rfl
  try simp only [Act.put]
  try simp only [List.setIfInBounds_toArray]
  try simp only [List.set_cons_succ]
  try simp only [List.set_cons_zero]
  refine wpAnyH_done (by kernel_rfl) ?_ _
  go_wp2_with fail
  refine (manyH t z _).mono ?_
  rintro e w4 ⟨v, rfl, ho4, hb4⟩
  have N4 := hidden (N2.out.trans (hb4.mono N2.out.size))
  obtain ⟨g, cap, hv⟩ := ownsRow_one (n := 0) ho4
  subst hv
  have z0 : w4.cell? ⟨g, 0, none⟩ = some (.int .i64 z) := by rw [ho4.cellAt 0 (by omega)]; rfl
  clear hb4 ho4
  go_wp2_with fail
  refine wp_loop_rounds 2 ?_
  rw [rounds_succ]
  go_wp2_with (go_at_call 46; refine (HZ.out _).mono ?_; rintro e w' ⟨rfl, rfl⟩)
  rw [rounds_succ]
  go_wp2
  go_ret
  exact ⟨app_str (by rw [HF.out]; first | rfl | simp [Pl.sp, ByteArray.append_assoc]), N4.out⟩

set_option maxRecDepth 100000 in
set_option maxHeartbeats 4000000 in
theorem textB (t a c d : Int) (w : World) (h0 : 0 ≤ t) (h9 : t ≤ 9) (la : 0 ≤ a ∧ a ≤ 9) (lc : 0 ≤ c ∧ c ≤ 9) (ld : 0 ≤ d ∧ d ≤ 9) (hN : KindsAt w) :
    Calls Tryd.prog 25 #[beginV t a c d] w fun e w' => e = .returned (.string (Pl.rTail (Pl.rHead 4 t) [a, c, d])) ∧ Below w.heap.size w w' := by
  obtain ⟨DT, hDT⟩ : ∃ x, Hid (Pl.dg t = x) := ⟨_, rfl⟩
  obtain ⟨NK, hNK⟩ : ∃ x, Hid (Pl.rNm 4 = x) := ⟨_, rfl⟩
  have HT : Hid (∀ W, Calls Tryd.prog 46 #[.int .i64 t] W fun e w' => e = .returned (.string DT) ∧ w' = W) := fun W => by rw [← hDT.out]; exact itoa_any t h0 h9 W
  have HNK : Hid (∀ W, Below w.heap.size w W → W.cell? ⟨1, 4, none⟩ = some (.string NK)) := fun W hb => by
    obtain ⟨h1, h2, h3, h4, h5, h6, h7⟩ := hN.later hb (Nat.le_refl _)
    rw [← hNK.out]; assumption
  have sT : DT.size = 1 := by rw [← hDT.out]; rfl
  have sN : NK.size = 5 := by rw [← hNK.out]; decide
  obtain ⟨Da, hDa⟩ : ∃ x, Hid (Pl.dg a = x) := ⟨_, rfl⟩
  have Ha : Hid (∀ W, Calls Tryd.prog 46 #[.int .i64 a] W fun e w' => e = .returned (.string Da) ∧ w' = W) := fun W => by rw [← hDa.out]; exact itoa_any a la.1 la.2 W
  have sa : Da.size = 1 := by rw [← hDa.out]; rfl
  obtain ⟨Dc, hDc⟩ : ∃ x, Hid (Pl.dg c = x) := ⟨_, rfl⟩
  have Hc : Hid (∀ W, Calls Tryd.prog 46 #[.int .i64 c] W fun e w' => e = .returned (.string Dc) ∧ w' = W) := fun W => by rw [← hDc.out]; exact itoa_any c lc.1 lc.2 W
  have sc : Dc.size = 1 := by rw [← hDc.out]; rfl
  obtain ⟨Dd, hDd⟩ : ∃ x, Hid (Pl.dg d = x) := ⟨_, rfl⟩
  have Hd : Hid (∀ W, Calls Tryd.prog 46 #[.int .i64 d] W fun e w' => e = .returned (.string Dd) ∧ w' = W) := fun W => by rw [← hDd.out]; exact itoa_any d ld.1 ld.2 W
  have sd : Dd.size = 1 := by rw [← hDd.out]; rfl
  have HF : Hid (Pl.rTail (Pl.rHead 4 t) [a, c, d] = NK ++ Pl.sp ++ DT ++ Pl.sp ++ Da ++ Pl.sp ++ Dc ++ Pl.sp ++ Dd) := by show _ = _; rw [← hDT.out, ← hNK.out, ← hDa.out, ← hDc.out, ← hDd.out]; rfl
  clear hN h0 h9 la lc ld hDT hNK hDa hDc hDd
  go_enter Tryd.func25, Tryd.ntmps25
  go_wp2_with fail
  refine wp_region_held_drew (S := fun w' => w'.cell? ⟨1, 4, none⟩ = some (.string NK)) (by kernel_rfl) (HNK.out _ (Below.refl w.heap.size w).drew) (fun hHeld => ?_)
  refine takeD (i := 0) (v := ?_) (some 6) rfl rfl (by kernel_rfl) (by kernel_rfl) (by kernel_rfl) (fun _ _ _ h => h) (by rfl) hHeld ?_ ?_
  rotate_left
  · intro W hSw
    try dsimp only at hSw
    go_simp
    try with_reducible rfl
  try simp only [Act.put]
  try simp only [List.setIfInBounds_toArray]
  try simp only [List.set_cons_succ]
  try simp only [List.set_cons_zero]
  refine takeD (i := 5) (v := ?_) (some 11) rfl rfl (by kernel_rfl) (by kernel_rfl) (by kernel_rfl) (fun _ _ _ h => h) (by rfl) hHeld ?_ ?_
  rotate_left
  · intro W hSw
    try dsimp only at hSw
    go_simp
    try with_reducible rfl
  try simp only [Act.put]
  try simp only [List.setIfInBounds_toArray]
  try simp only [List.set_cons_succ]
  try simp only [List.set_cons_zero]
  refine wpAnyH_ready (rs := [1]) (by kernel_rfl) (by simp) ?_
  refine AllReadyH.cons rfl (fun K hK => ?_) AllReadyH.nil
  go_simp
  refine (kindB t a c d _).mono ?_
  rintro e w1 ⟨rfl, hb1⟩
  have N1 := hidden ((Below.refl w.heap.size w).drew.trans hb1)
  clear hb1
  try dsimp only
  refine hK.out _ _ (HNK.out _ N1.out) (fun hHeld => ?_)
  clear hK K
  refine takeD (i := 2) (v := ?_) (some 8) rfl rfl (by kernel_rfl) (by kernel_rfl) (by kernel_rfl) (fun _ _ _ h => h) (by rfl) hHeld ?_ ?_
  rotate_left
  · intro W hSw
    try dsimp only at hSw
    go_simp
    try with_reducible rfl
  try simp only [Act.put]
  try simp only [List.setIfInBounds_toArray]
  try simp only [List.set_cons_succ]
  try simp only [List.set_cons_zero]
  refine takeD (i := 3) (v := .string NK) (some 9) rfl rfl (by kernel_rfl) (by kernel_rfl) (by kernel_rfl) (fun _ _ _ h => h) (by rfl) hHeld ?_ ?_
  · intro W hSw
    try dsimp only at hSw
    first | (go_simp; done) | (go_simp; simp [*])
  try simp only [Act.put]
  try simp only [List.setIfInBounds_toArray]
  try simp only [List.set_cons_succ]
  try simp only [List.set_cons_zero]
  refine takeD (i := 4) (v := ?_) (some 10) rfl rfl (by kernel_rfl) (by kernel_rfl) (by kernel_rfl) (fun _ _ _ h => h) (by rfl) hHeld ?_ ?_
  rotate_left
  · intro W hSw
    try dsimp only at hSw
    go_simp
    try with_reducible rfl
  try simp only [Act.put]
  try simp only [List.setIfInBounds_toArray]
  try simp only [List.set_cons_succ]
  try simp only [List.set_cons_zero]
  refine wpAnyH_ready (rs := [6]) (by kernel_rfl) (by simp) ?_
  refine AllReadyH.cons rfl (fun K hK => ?_) AllReadyH.nil
  go_simp
  refine (tripB t a c d _).mono ?_
  rintro e w2 ⟨rfl, hb2⟩
  have N2 := hidden (N1.out.trans (hb2.mono N1.out.size))
  clear hb2
  try dsimp only
  refine hK.out _ _ (HNK.out _ N2.out) (fun hHeld => ?_)
  clear hK K
  refine wpAnyH_ready (rs := [7]) (by kernel_rfl) (by simp) ?_
  refine AllReadyH.cons rfl (fun K hK => ?_) AllReadyH.nil
  go_simp
  refine (HT.out _).mono ?_
  rintro e w3 ⟨rfl, hw3⟩
  subst hw3
  try dsimp only
  refine hK.out _ _ (HNK.out _ N2.out) (fun hHeld => ?_)
  clear hK K
  refine takeD (i := 8) (v := ?_) (some 14) rfl rfl (by kernel_rfl) (by kernel_rfl) (by kernel_rfl) (fun _ _ _ h => h) (by rfl) hHeld ?_ ?_
  rotate_left
  · intro W hSw
    try dsimp only at hSw
    go_simp
    try with_reducible rfl
  try simp only [Act.put]
  try simp only [List.setIfInBounds_toArray]
  try simp only [List.set_cons_succ]
  try simp only [List.set_cons_zero]
  refine takeD (i := 9) (v := ?_) (some 3) rfl rfl (by kernel_rfl) (by kernel_rfl) (by kernel_rfl) (fun _ _ _ h => h) (by rfl) hHeld ?_ ?_
  rotate_left
  · intro W hSw
    try dsimp only at hSw
    go_simp
    try with_reducible rfl
  try simp only [Act.put]
  try simp only [List.setIfInBounds_toArray]
  try simp only [List.set_cons_succ]
  try simp only [List.set_cons_zero]
  refine wpAnyH_done (by kernel_rfl) ?_ _
  go_wp2_with fail
  refine (manyB t a c d _).mono ?_
  rintro e w4 ⟨v, rfl, ho4, hb4⟩
  have N4 := hidden (N2.out.trans (hb4.mono N2.out.size))
  obtain ⟨g, cap, hv⟩ := ownsRow_one (n := 2) ho4
  subst hv
  have z0 : w4.cell? ⟨g, 0, none⟩ = some (.int .i64 a) := by rw [ho4.cellAt 0 (by omega)]; rfl
  have z1 : w4.cell? ⟨g, 1, none⟩ = some (.int .i64 c) := by rw [ho4.cellAt 1 (by omega)]; rfl
  have z2 : w4.cell? ⟨g, 2, none⟩ = some (.int .i64 d) := by rw [ho4.cellAt 2 (by omega)]; rfl
  clear hb4 ho4
  go_wp2_with fail
  refine wp_loop_rounds 4 ?_
  rw [rounds_succ]
  go_wp2_with fail
  refine (Ha.out _).mono ?_
  rintro e w5 ⟨rfl, h5⟩
  subst h5
  go_wp2_with fail
  rw [rounds_succ]
  go_wp2_with fail
  refine (Hc.out _).mono ?_
  rintro e w5 ⟨rfl, h5⟩
  subst h5
  go_wp2_with fail
  rw [rounds_succ]
  go_wp2_with fail
  refine (Hd.out _).mono ?_
  rintro e w5 ⟨rfl, h5⟩
  subst h5
  go_wp2_with fail
  rw [rounds_succ]
  go_wp2
  go_ret
  exact ⟨app_str (by rw [HF.out]; first | rfl | simp [Pl.sp, ByteArray.append_assoc]), N4.out⟩

set_option maxRecDepth 100000 in
set_option maxHeartbeats 4000000 in
theorem textP2 (t : Int) (w : World) (h0 : 0 ≤ t) (h9 : t ≤ 9) (hN : KindsAt w) :
    Calls Tryd.prog 25 #[plainV 2 t] w fun e w' => e = .returned (.string (Pl.rTail (Pl.rHead 2 t) [])) ∧ Below w.heap.size w w' := by
  obtain ⟨DT, hDT⟩ : ∃ x, Hid (Pl.dg t = x) := ⟨_, rfl⟩
  obtain ⟨NK, hNK⟩ : ∃ x, Hid (Pl.rNm 2 = x) := ⟨_, rfl⟩
  have HT : Hid (∀ W, Calls Tryd.prog 46 #[.int .i64 t] W fun e w' => e = .returned (.string DT) ∧ w' = W) := fun W => by rw [← hDT.out]; exact itoa_any t h0 h9 W
  have HNK : Hid (∀ W, Below w.heap.size w W → W.cell? ⟨1, 2, none⟩ = some (.string NK)) := fun W hb => by
    obtain ⟨h1, h2, h3, h4, h5, h6, h7⟩ := hN.later hb (Nat.le_refl _)
    rw [← hNK.out]; assumption
  have sT : DT.size = 1 := by rw [← hDT.out]; rfl
  have sN : NK.size = 5 := by rw [← hNK.out]; decide
  have HF : Hid (Pl.rTail (Pl.rHead 2 t) [] = NK ++ Pl.sp ++ DT) := by show _ = _; rw [← hDT.out, ← hNK.out]; rfl
  clear hN h0 h9 hDT hNK
  go_enter Tryd.func25, Tryd.ntmps25
  go_wp2_with fail
  refine wp_region_held_drew (S := fun w' => w'.cell? ⟨1, 2, none⟩ = some (.string NK)) (by kernel_rfl) (HNK.out _ (Below.refl w.heap.size w).drew) (fun hHeld => ?_)
  refine takeD (i := 0) (v := ?_) (some 6) rfl rfl (by kernel_rfl) (by kernel_rfl) (by kernel_rfl) (fun _ _ _ h => h) (by rfl) hHeld ?_ ?_
  rotate_left
  · intro W hSw
    try dsimp only at hSw
    go_simp
    try with_reducible rfl
  try simp only [Act.put]
  try simp only [List.setIfInBounds_toArray]
  try simp only [List.set_cons_succ]
  try simp only [List.set_cons_zero]
  refine takeD (i := 5) (v := ?_) (some 11) rfl rfl (by kernel_rfl) (by kernel_rfl) (by kernel_rfl) (fun _ _ _ h => h) (by rfl) hHeld ?_ ?_
  rotate_left
  · intro W hSw
    try dsimp only at hSw
    go_simp
    try with_reducible rfl
  try simp only [Act.put]
  try simp only [List.setIfInBounds_toArray]
  try simp only [List.set_cons_succ]
  try simp only [List.set_cons_zero]
  refine wpAnyH_ready (rs := [1]) (by kernel_rfl) (by simp) ?_
  refine AllReadyH.cons rfl (fun K hK => ?_) AllReadyH.nil
  go_simp
  refine (kindP 2 t _).mono ?_
  rintro e w1 ⟨rfl, hb1⟩
  have N1 := hidden ((Below.refl w.heap.size w).drew.trans hb1)
  clear hb1
  try dsimp only
  refine hK.out _ _ (HNK.out _ N1.out) (fun hHeld => ?_)
  clear hK K
  refine takeD (i := 2) (v := ?_) (some 8) rfl rfl (by kernel_rfl) (by kernel_rfl) (by kernel_rfl) (fun _ _ _ h => h) (by rfl) hHeld ?_ ?_
  rotate_left
  · intro W hSw
    try dsimp only at hSw
    go_simp
    try with_reducible rfl
  try simp only [Act.put]
  try simp only [List.setIfInBounds_toArray]
  try simp only [List.set_cons_succ]
  try simp only [List.set_cons_zero]
  refine takeD (i := 3) (v := .string NK) (some 9) rfl rfl (by kernel_rfl) (by kernel_rfl) (by kernel_rfl) (fun _ _ _ h => h) (by rfl) hHeld ?_ ?_
  · intro W hSw
    try dsimp only at hSw
    first | (go_simp; done) | (go_simp; simp [*])
  try simp only [Act.put]
  try simp only [List.setIfInBounds_toArray]
  try simp only [List.set_cons_succ]
  try simp only [List.set_cons_zero]
  refine takeD (i := 4) (v := ?_) (some 10) rfl rfl (by kernel_rfl) (by kernel_rfl) (by kernel_rfl) (fun _ _ _ h => h) (by rfl) hHeld ?_ ?_
  rotate_left
  · intro W hSw
    try dsimp only at hSw
    go_simp
    try with_reducible rfl
  try simp only [Act.put]
  try simp only [List.setIfInBounds_toArray]
  try simp only [List.set_cons_succ]
  try simp only [List.set_cons_zero]
  refine wpAnyH_ready (rs := [6]) (by kernel_rfl) (by simp) ?_
  refine AllReadyH.cons rfl (fun K hK => ?_) AllReadyH.nil
  go_simp
  refine (tripP 2 t _).mono ?_
  rintro e w2 ⟨rfl, hb2⟩
  have N2 := hidden (N1.out.trans (hb2.mono N1.out.size))
  clear hb2
  try dsimp only
  refine hK.out _ _ (HNK.out _ N2.out) (fun hHeld => ?_)
  clear hK K
  refine wpAnyH_ready (rs := [7]) (by kernel_rfl) (by simp) ?_
  refine AllReadyH.cons rfl (fun K hK => ?_) AllReadyH.nil
  go_simp
  refine (HT.out _).mono ?_
  rintro e w3 ⟨rfl, hw3⟩
  subst hw3
  try dsimp only
  refine hK.out _ _ (HNK.out _ N2.out) (fun hHeld => ?_)
  clear hK K
  refine takeD (i := 8) (v := ?_) (some 14) rfl rfl (by kernel_rfl) (by kernel_rfl) (by kernel_rfl) (fun _ _ _ h => h) (by rfl) hHeld ?_ ?_
  rotate_left
  · intro W hSw
    try dsimp only at hSw
    go_simp
    try with_reducible rfl
  try simp only [Act.put]
  try simp only [List.setIfInBounds_toArray]
  try simp only [List.set_cons_succ]
  try simp only [List.set_cons_zero]
  refine takeD (i := 9) (v := ?_) (some 3) rfl rfl (by kernel_rfl) (by kernel_rfl) (by kernel_rfl) (fun _ _ _ h => h) (by rfl) hHeld ?_ ?_
  rotate_left
  · intro W hSw
    try dsimp only at hSw
    go_simp
    try with_reducible rfl
  try simp only [Act.put]
  try simp only [List.setIfInBounds_toArray]
  try simp only [List.set_cons_succ]
  try simp only [List.set_cons_zero]
  refine wpAnyH_done (by kernel_rfl) ?_ _
  go_wp2_with fail
  refine (manyP _ t _).mono ?_
  rintro e w4 ⟨rfl, hb4⟩
  have N4 := hidden (N2.out.trans (hb4.mono N2.out.size))
  clear hb4
  go_wp2_with fail
  refine wp_loop_rounds 1 ?_
  rw [rounds_succ]
  go_wp2
  go_ret
  exact ⟨app_str (by rw [HF.out]; first | rfl | simp [Pl.sp]), N4.out⟩

set_option maxRecDepth 100000 in
set_option maxHeartbeats 4000000 in
theorem textP3 (t : Int) (w : World) (h0 : 0 ≤ t) (h9 : t ≤ 9) (hN : KindsAt w) :
    Calls Tryd.prog 25 #[plainV 3 t] w fun e w' => e = .returned (.string (Pl.rTail (Pl.rHead 3 t) [])) ∧ Below w.heap.size w w' := by
  obtain ⟨DT, hDT⟩ : ∃ x, Hid (Pl.dg t = x) := ⟨_, rfl⟩
  obtain ⟨NK, hNK⟩ : ∃ x, Hid (Pl.rNm 3 = x) := ⟨_, rfl⟩
  have HT : Hid (∀ W, Calls Tryd.prog 46 #[.int .i64 t] W fun e w' => e = .returned (.string DT) ∧ w' = W) := fun W => by rw [← hDT.out]; exact itoa_any t h0 h9 W
  have HNK : Hid (∀ W, Below w.heap.size w W → W.cell? ⟨1, 3, none⟩ = some (.string NK)) := fun W hb => by
    obtain ⟨h1, h2, h3, h4, h5, h6, h7⟩ := hN.later hb (Nat.le_refl _)
    rw [← hNK.out]; assumption
  have sT : DT.size = 1 := by rw [← hDT.out]; rfl
  have sN : NK.size = 4 := by rw [← hNK.out]; decide
  have HF : Hid (Pl.rTail (Pl.rHead 3 t) [] = NK ++ Pl.sp ++ DT) := by show _ = _; rw [← hDT.out, ← hNK.out]; rfl
  clear hN h0 h9 hDT hNK
  go_enter Tryd.func25, Tryd.ntmps25
  go_wp2_with fail
  refine wp_region_held_drew (S := fun w' => w'.cell? ⟨1, 3, none⟩ = some (.string NK)) (by kernel_rfl) (HNK.out _ (Below.refl w.heap.size w).drew) (fun hHeld => ?_)
  refine takeD (i := 0) (v := ?_) (some 6) rfl rfl (by kernel_rfl) (by kernel_rfl) (by kernel_rfl) (fun _ _ _ h => h) (by rfl) hHeld ?_ ?_
  rotate_left
  · intro W hSw
    try dsimp only at hSw
    go_simp
    try with_reducible rfl
  try simp only [Act.put]
  try simp only [List.setIfInBounds_toArray]
  try simp only [List.set_cons_succ]
  try simp only [List.set_cons_zero]
  refine takeD (i := 5) (v := ?_) (some 11) rfl rfl (by kernel_rfl) (by kernel_rfl) (by kernel_rfl) (fun _ _ _ h => h) (by rfl) hHeld ?_ ?_
  rotate_left
  · intro W hSw
    try dsimp only at hSw
    go_simp
    try with_reducible rfl
  try simp only [Act.put]
  try simp only [List.setIfInBounds_toArray]
  try simp only [List.set_cons_succ]
  try simp only [List.set_cons_zero]
  refine wpAnyH_ready (rs := [1]) (by kernel_rfl) (by simp) ?_
  refine AllReadyH.cons rfl (fun K hK => ?_) AllReadyH.nil
  go_simp
  refine (kindP 3 t _).mono ?_
  rintro e w1 ⟨rfl, hb1⟩
  have N1 := hidden ((Below.refl w.heap.size w).drew.trans hb1)
  clear hb1
  try dsimp only
  refine hK.out _ _ (HNK.out _ N1.out) (fun hHeld => ?_)
  clear hK K
  refine takeD (i := 2) (v := ?_) (some 8) rfl rfl (by kernel_rfl) (by kernel_rfl) (by kernel_rfl) (fun _ _ _ h => h) (by rfl) hHeld ?_ ?_
  rotate_left
  · intro W hSw
    try dsimp only at hSw
    go_simp
    try with_reducible rfl
  try simp only [Act.put]
  try simp only [List.setIfInBounds_toArray]
  try simp only [List.set_cons_succ]
  try simp only [List.set_cons_zero]
  refine takeD (i := 3) (v := .string NK) (some 9) rfl rfl (by kernel_rfl) (by kernel_rfl) (by kernel_rfl) (fun _ _ _ h => h) (by rfl) hHeld ?_ ?_
  · intro W hSw
    try dsimp only at hSw
    first | (go_simp; done) | (go_simp; simp [*])
  try simp only [Act.put]
  try simp only [List.setIfInBounds_toArray]
  try simp only [List.set_cons_succ]
  try simp only [List.set_cons_zero]
  refine takeD (i := 4) (v := ?_) (some 10) rfl rfl (by kernel_rfl) (by kernel_rfl) (by kernel_rfl) (fun _ _ _ h => h) (by rfl) hHeld ?_ ?_
  rotate_left
  · intro W hSw
    try dsimp only at hSw
    go_simp
    try with_reducible rfl
  try simp only [Act.put]
  try simp only [List.setIfInBounds_toArray]
  try simp only [List.set_cons_succ]
  try simp only [List.set_cons_zero]
  refine wpAnyH_ready (rs := [6]) (by kernel_rfl) (by simp) ?_
  refine AllReadyH.cons rfl (fun K hK => ?_) AllReadyH.nil
  go_simp
  refine (tripP 3 t _).mono ?_
  rintro e w2 ⟨rfl, hb2⟩
  have N2 := hidden (N1.out.trans (hb2.mono N1.out.size))
  clear hb2
  try dsimp only
  refine hK.out _ _ (HNK.out _ N2.out) (fun hHeld => ?_)
  clear hK K
  refine wpAnyH_ready (rs := [7]) (by kernel_rfl) (by simp) ?_
  refine AllReadyH.cons rfl (fun K hK => ?_) AllReadyH.nil
  go_simp
  refine (HT.out _).mono ?_
  rintro e w3 ⟨rfl, hw3⟩
  subst hw3
  try dsimp only
  refine hK.out _ _ (HNK.out _ N2.out) (fun hHeld => ?_)
  clear hK K
  refine takeD (i := 8) (v := ?_) (some 14) rfl rfl (by kernel_rfl) (by kernel_rfl) (by kernel_rfl) (fun _ _ _ h => h) (by rfl) hHeld ?_ ?_
  rotate_left
  · intro W hSw
    try dsimp only at hSw
    go_simp
    try with_reducible rfl
  try simp only [Act.put]
  try simp only [List.setIfInBounds_toArray]
  try simp only [List.set_cons_succ]
  try simp only [List.set_cons_zero]
  refine takeD (i := 9) (v := ?_) (some 3) rfl rfl (by kernel_rfl) (by kernel_rfl) (by kernel_rfl) (fun _ _ _ h => h) (by rfl) hHeld ?_ ?_
  rotate_left
  · intro W hSw
    try dsimp only at hSw
    go_simp
    try with_reducible rfl
  try simp only [Act.put]
  try simp only [List.setIfInBounds_toArray]
  try simp only [List.set_cons_succ]
  try simp only [List.set_cons_zero]
  refine wpAnyH_done (by kernel_rfl) ?_ _
  go_wp2_with fail
  refine (manyP _ t _).mono ?_
  rintro e w4 ⟨rfl, hb4⟩
  have N4 := hidden (N2.out.trans (hb4.mono N2.out.size))
  clear hb4
  go_wp2_with fail
  refine wp_loop_rounds 1 ?_
  rw [rounds_succ]
  go_wp2
  go_ret
  exact ⟨app_str (by rw [HF.out]; first | rfl | simp [Pl.sp]), N4.out⟩

set_option maxRecDepth 100000 in
set_option maxHeartbeats 4000000 in
theorem textP5 (t : Int) (w : World) (h0 : 0 ≤ t) (h9 : t ≤ 9) (hN : KindsAt w) :
    Calls Tryd.prog 25 #[plainV 5 t] w fun e w' => e = .returned (.string (Pl.rTail (Pl.rHead 5 t) [])) ∧ Below w.heap.size w w' := by
  obtain ⟨DT, hDT⟩ : ∃ x, Hid (Pl.dg t = x) := ⟨_, rfl⟩
  obtain ⟨NK, hNK⟩ : ∃ x, Hid (Pl.rNm 5 = x) := ⟨_, rfl⟩
  have HT : Hid (∀ W, Calls Tryd.prog 46 #[.int .i64 t] W fun e w' => e = .returned (.string DT) ∧ w' = W) := fun W => by rw [← hDT.out]; exact itoa_any t h0 h9 W
  have HNK : Hid (∀ W, Below w.heap.size w W → W.cell? ⟨1, 5, none⟩ = some (.string NK)) := fun W hb => by
    obtain ⟨h1, h2, h3, h4, h5, h6, h7⟩ := hN.later hb (Nat.le_refl _)
    rw [← hNK.out]; assumption
  have sT : DT.size = 1 := by rw [← hDT.out]; rfl
  have sN : NK.size = 3 := by rw [← hNK.out]; decide
  have HF : Hid (Pl.rTail (Pl.rHead 5 t) [] = NK ++ Pl.sp ++ DT) := by show _ = _; rw [← hDT.out, ← hNK.out]; rfl
  clear hN h0 h9 hDT hNK
  go_enter Tryd.func25, Tryd.ntmps25
  go_wp2_with fail
  refine wp_region_held_drew (S := fun w' => w'.cell? ⟨1, 5, none⟩ = some (.string NK)) (by kernel_rfl) (HNK.out _ (Below.refl w.heap.size w).drew) (fun hHeld => ?_)
  refine takeD (i := 0) (v := ?_) (some 6) rfl rfl (by kernel_rfl) (by kernel_rfl) (by kernel_rfl) (fun _ _ _ h => h) (by rfl) hHeld ?_ ?_
  rotate_left
  · intro W hSw
    try dsimp only at hSw
    go_simp
    try with_reducible rfl
  try simp only [Act.put]
  try simp only [List.setIfInBounds_toArray]
  try simp only [List.set_cons_succ]
  try simp only [List.set_cons_zero]
  refine takeD (i := 5) (v := ?_) (some 11) rfl rfl (by kernel_rfl) (by kernel_rfl) (by kernel_rfl) (fun _ _ _ h => h) (by rfl) hHeld ?_ ?_
  rotate_left
  · intro W hSw
    try dsimp only at hSw
    go_simp
    try with_reducible rfl
  try simp only [Act.put]
  try simp only [List.setIfInBounds_toArray]
  try simp only [List.set_cons_succ]
  try simp only [List.set_cons_zero]
  refine wpAnyH_ready (rs := [1]) (by kernel_rfl) (by simp) ?_
  refine AllReadyH.cons rfl (fun K hK => ?_) AllReadyH.nil
  go_simp
  refine (kindP 5 t _).mono ?_
  rintro e w1 ⟨rfl, hb1⟩
  have N1 := hidden ((Below.refl w.heap.size w).drew.trans hb1)
  clear hb1
  try dsimp only
  refine hK.out _ _ (HNK.out _ N1.out) (fun hHeld => ?_)
  clear hK K
  refine takeD (i := 2) (v := ?_) (some 8) rfl rfl (by kernel_rfl) (by kernel_rfl) (by kernel_rfl) (fun _ _ _ h => h) (by rfl) hHeld ?_ ?_
  rotate_left
  · intro W hSw
    try dsimp only at hSw
    go_simp
    try with_reducible rfl
  try simp only [Act.put]
  try simp only [List.setIfInBounds_toArray]
  try simp only [List.set_cons_succ]
  try simp only [List.set_cons_zero]
  refine takeD (i := 3) (v := .string NK) (some 9) rfl rfl (by kernel_rfl) (by kernel_rfl) (by kernel_rfl) (fun _ _ _ h => h) (by rfl) hHeld ?_ ?_
  · intro W hSw
    try dsimp only at hSw
    first | (go_simp; done) | (go_simp; simp [*])
  try simp only [Act.put]
  try simp only [List.setIfInBounds_toArray]
  try simp only [List.set_cons_succ]
  try simp only [List.set_cons_zero]
  refine takeD (i := 4) (v := ?_) (some 10) rfl rfl (by kernel_rfl) (by kernel_rfl) (by kernel_rfl) (fun _ _ _ h => h) (by rfl) hHeld ?_ ?_
  rotate_left
  · intro W hSw
    try dsimp only at hSw
    go_simp
    try with_reducible rfl
  try simp only [Act.put]
  try simp only [List.setIfInBounds_toArray]
  try simp only [List.set_cons_succ]
  try simp only [List.set_cons_zero]
  refine wpAnyH_ready (rs := [6]) (by kernel_rfl) (by simp) ?_
  refine AllReadyH.cons rfl (fun K hK => ?_) AllReadyH.nil
  go_simp
  refine (tripP 5 t _).mono ?_
  rintro e w2 ⟨rfl, hb2⟩
  have N2 := hidden (N1.out.trans (hb2.mono N1.out.size))
  clear hb2
  try dsimp only
  refine hK.out _ _ (HNK.out _ N2.out) (fun hHeld => ?_)
  clear hK K
  refine wpAnyH_ready (rs := [7]) (by kernel_rfl) (by simp) ?_
  refine AllReadyH.cons rfl (fun K hK => ?_) AllReadyH.nil
  go_simp
  refine (HT.out _).mono ?_
  rintro e w3 ⟨rfl, hw3⟩
  subst hw3
  try dsimp only
  refine hK.out _ _ (HNK.out _ N2.out) (fun hHeld => ?_)
  clear hK K
  refine takeD (i := 8) (v := ?_) (some 14) rfl rfl (by kernel_rfl) (by kernel_rfl) (by kernel_rfl) (fun _ _ _ h => h) (by rfl) hHeld ?_ ?_
  rotate_left
  · intro W hSw
    try dsimp only at hSw
    go_simp
    try with_reducible rfl
  try simp only [Act.put]
  try simp only [List.setIfInBounds_toArray]
  try simp only [List.set_cons_succ]
  try simp only [List.set_cons_zero]
  refine takeD (i := 9) (v := ?_) (some 3) rfl rfl (by kernel_rfl) (by kernel_rfl) (by kernel_rfl) (fun _ _ _ h => h) (by rfl) hHeld ?_ ?_
  rotate_left
  · intro W hSw
    try dsimp only at hSw
    go_simp
    try with_reducible rfl
  try simp only [Act.put]
  try simp only [List.setIfInBounds_toArray]
  try simp only [List.set_cons_succ]
  try simp only [List.set_cons_zero]
  refine wpAnyH_done (by kernel_rfl) ?_ _
  go_wp2_with fail
  refine (manyP _ t _).mono ?_
  rintro e w4 ⟨rfl, hb4⟩
  have N4 := hidden (N2.out.trans (hb4.mono N2.out.size))
  clear hb4
  go_wp2_with fail
  refine wp_loop_rounds 1 ?_
  rw [rounds_succ]
  go_wp2
  go_ret
  exact ⟨app_str (by rw [HF.out]; first | rfl | simp [Pl.sp]), N4.out⟩

set_option maxRecDepth 100000 in
set_option maxHeartbeats 4000000 in
theorem textP6 (t : Int) (w : World) (h0 : 0 ≤ t) (h9 : t ≤ 9) (hN : KindsAt w) :
    Calls Tryd.prog 25 #[plainV 6 t] w fun e w' => e = .returned (.string (Pl.rTail (Pl.rHead 6 t) [])) ∧ Below w.heap.size w w' := by
  obtain ⟨DT, hDT⟩ : ∃ x, Hid (Pl.dg t = x) := ⟨_, rfl⟩
  obtain ⟨NK, hNK⟩ : ∃ x, Hid (Pl.rNm 6 = x) := ⟨_, rfl⟩
  have HT : Hid (∀ W, Calls Tryd.prog 46 #[.int .i64 t] W fun e w' => e = .returned (.string DT) ∧ w' = W) := fun W => by rw [← hDT.out]; exact itoa_any t h0 h9 W
  have HNK : Hid (∀ W, Below w.heap.size w W → W.cell? ⟨1, 6, none⟩ = some (.string NK)) := fun W hb => by
    obtain ⟨h1, h2, h3, h4, h5, h6, h7⟩ := hN.later hb (Nat.le_refl _)
    rw [← hNK.out]; assumption
  have sT : DT.size = 1 := by rw [← hDT.out]; rfl
  have sN : NK.size = 2 := by rw [← hNK.out]; decide
  have HF : Hid (Pl.rTail (Pl.rHead 6 t) [] = NK ++ Pl.sp ++ DT) := by show _ = _; rw [← hDT.out, ← hNK.out]; rfl
  clear hN h0 h9 hDT hNK
  go_enter Tryd.func25, Tryd.ntmps25
  go_wp2_with fail
  refine wp_region_held_drew (S := fun w' => w'.cell? ⟨1, 6, none⟩ = some (.string NK)) (by kernel_rfl) (HNK.out _ (Below.refl w.heap.size w).drew) (fun hHeld => ?_)
  refine takeD (i := 0) (v := ?_) (some 6) rfl rfl (by kernel_rfl) (by kernel_rfl) (by kernel_rfl) (fun _ _ _ h => h) (by rfl) hHeld ?_ ?_
  rotate_left
  · intro W hSw
    try dsimp only at hSw
    go_simp
    try with_reducible rfl
  try simp only [Act.put]
  try simp only [List.setIfInBounds_toArray]
  try simp only [List.set_cons_succ]
  try simp only [List.set_cons_zero]
  refine takeD (i := 5) (v := ?_) (some 11) rfl rfl (by kernel_rfl) (by kernel_rfl) (by kernel_rfl) (fun _ _ _ h => h) (by rfl) hHeld ?_ ?_
  rotate_left
  · intro W hSw
    try dsimp only at hSw
    go_simp
    try with_reducible rfl
  try simp only [Act.put]
  try simp only [List.setIfInBounds_toArray]
  try simp only [List.set_cons_succ]
  try simp only [List.set_cons_zero]
  refine wpAnyH_ready (rs := [1]) (by kernel_rfl) (by simp) ?_
  refine AllReadyH.cons rfl (fun K hK => ?_) AllReadyH.nil
  go_simp
  refine (kindP 6 t _).mono ?_
  rintro e w1 ⟨rfl, hb1⟩
  have N1 := hidden ((Below.refl w.heap.size w).drew.trans hb1)
  clear hb1
  try dsimp only
  refine hK.out _ _ (HNK.out _ N1.out) (fun hHeld => ?_)
  clear hK K
  refine takeD (i := 2) (v := ?_) (some 8) rfl rfl (by kernel_rfl) (by kernel_rfl) (by kernel_rfl) (fun _ _ _ h => h) (by rfl) hHeld ?_ ?_
  rotate_left
  · intro W hSw
    try dsimp only at hSw
    go_simp
    try with_reducible rfl
  try simp only [Act.put]
  try simp only [List.setIfInBounds_toArray]
  try simp only [List.set_cons_succ]
  try simp only [List.set_cons_zero]
  refine takeD (i := 3) (v := .string NK) (some 9) rfl rfl (by kernel_rfl) (by kernel_rfl) (by kernel_rfl) (fun _ _ _ h => h) (by rfl) hHeld ?_ ?_
  · intro W hSw
    try dsimp only at hSw
    first | (go_simp; done) | (go_simp; simp [*])
  try simp only [Act.put]
  try simp only [List.setIfInBounds_toArray]
  try simp only [List.set_cons_succ]
  try simp only [List.set_cons_zero]
  refine takeD (i := 4) (v := ?_) (some 10) rfl rfl (by kernel_rfl) (by kernel_rfl) (by kernel_rfl) (fun _ _ _ h => h) (by rfl) hHeld ?_ ?_
  rotate_left
  · intro W hSw
    try dsimp only at hSw
    go_simp
    try with_reducible rfl
  try simp only [Act.put]
  try simp only [List.setIfInBounds_toArray]
  try simp only [List.set_cons_succ]
  try simp only [List.set_cons_zero]
  refine wpAnyH_ready (rs := [6]) (by kernel_rfl) (by simp) ?_
  refine AllReadyH.cons rfl (fun K hK => ?_) AllReadyH.nil
  go_simp
  refine (tripP 6 t _).mono ?_
  rintro e w2 ⟨rfl, hb2⟩
  have N2 := hidden (N1.out.trans (hb2.mono N1.out.size))
  clear hb2
  try dsimp only
  refine hK.out _ _ (HNK.out _ N2.out) (fun hHeld => ?_)
  clear hK K
  refine wpAnyH_ready (rs := [7]) (by kernel_rfl) (by simp) ?_
  refine AllReadyH.cons rfl (fun K hK => ?_) AllReadyH.nil
  go_simp
  refine (HT.out _).mono ?_
  rintro e w3 ⟨rfl, hw3⟩
  subst hw3
  try dsimp only
  refine hK.out _ _ (HNK.out _ N2.out) (fun hHeld => ?_)
  clear hK K
  refine takeD (i := 8) (v := ?_) (some 14) rfl rfl (by kernel_rfl) (by kernel_rfl) (by kernel_rfl) (fun _ _ _ h => h) (by rfl) hHeld ?_ ?_
  rotate_left
  · intro W hSw
    try dsimp only at hSw
    go_simp
    try with_reducible rfl
  try simp only [Act.put]
  try simp only [List.setIfInBounds_toArray]
  try simp only [List.set_cons_succ]
  try simp only [List.set_cons_zero]
  refine takeD (i := 9) (v := ?_) (some 3) rfl rfl (by kernel_rfl) (by kernel_rfl) (by kernel_rfl) (fun _ _ _ h => h) (by rfl) hHeld ?_ ?_
  rotate_left
  · intro W hSw
    try dsimp only at hSw
    go_simp
    try with_reducible rfl
  try simp only [Act.put]
  try simp only [List.setIfInBounds_toArray]
  try simp only [List.set_cons_succ]
  try simp only [List.set_cons_zero]
  refine wpAnyH_done (by kernel_rfl) ?_ _
  go_wp2_with fail
  refine (manyP _ t _).mono ?_
  rintro e w4 ⟨rfl, hb4⟩
  have N4 := hidden (N2.out.trans (hb4.mono N2.out.size))
  clear hb4
  go_wp2_with fail
  refine wp_loop_rounds 1 ?_
  rw [rounds_succ]
  go_wp2
  go_ret
  exact ⟨app_str (by rw [HF.out]; first | rfl | simp [Pl.sp]), N4.out⟩

set_option maxRecDepth 100000 in
set_option maxHeartbeats 4000000 in
theorem textP7 (t : Int) (w : World) (h0 : 0 ≤ t) (h9 : t ≤ 9) (hN : KindsAt w) :
    Calls Tryd.prog 25 #[plainV 7 t] w fun e w' => e = .returned (.string (Pl.rTail (Pl.rHead 7 t) [])) ∧ Below w.heap.size w w' := by
  obtain ⟨DT, hDT⟩ : ∃ x, Hid (Pl.dg t = x) := ⟨_, rfl⟩
  obtain ⟨NK, hNK⟩ : ∃ x, Hid (Pl.rNm 7 = x) := ⟨_, rfl⟩
  have HT : Hid (∀ W, Calls Tryd.prog 46 #[.int .i64 t] W fun e w' => e = .returned (.string DT) ∧ w' = W) := fun W => by rw [← hDT.out]; exact itoa_any t h0 h9 W
  have HNK : Hid (∀ W, Below w.heap.size w W → W.cell? ⟨1, 7, none⟩ = some (.string NK)) := fun W hb => by
    obtain ⟨h1, h2, h3, h4, h5, h6, h7⟩ := hN.later hb (Nat.le_refl _)
    rw [← hNK.out]; assumption
  have sT : DT.size = 1 := by rw [← hDT.out]; rfl
  have sN : NK.size = 3 := by rw [← hNK.out]; decide
  have HF : Hid (Pl.rTail (Pl.rHead 7 t) [] = NK ++ Pl.sp ++ DT) := by show _ = _; rw [← hDT.out, ← hNK.out]; rfl
  clear hN h0 h9 hDT hNK
  go_enter Tryd.func25, Tryd.ntmps25
  go_wp2_with fail
  refine wp_region_held_drew (S := fun w' => w'.cell? ⟨1, 7, none⟩ = some (.string NK)) (by kernel_rfl) (HNK.out _ (Below.refl w.heap.size w).drew) (fun hHeld => ?_)
  refine takeD (i := 0) (v := ?_) (some 6) rfl rfl (by kernel_rfl) (by kernel_rfl) (by kernel_rfl) (fun _ _ _ h => h) (by rfl) hHeld ?_ ?_
  rotate_left
  · intro W hSw
    try dsimp only at hSw
    go_simp
    try with_reducible rfl
  try simp only [Act.put]
  try simp only [List.setIfInBounds_toArray]
  try simp only [List.set_cons_succ]
  try simp only [List.set_cons_zero]
  refine takeD (i := 5) (v := ?_) (some 11) rfl rfl (by kernel_rfl) (by kernel_rfl) (by kernel_rfl) (fun _ _ _ h => h) (by rfl) hHeld ?_ ?_
  rotate_left
  · intro W hSw
    try dsimp only at hSw
    go_simp
    try with_reducible rfl
  try simp only [Act.put]
  try simp only [List.setIfInBounds_toArray]
  try simp only [List.set_cons_succ]
  try simp only [List.set_cons_zero]
  refine wpAnyH_ready (rs := [1]) (by kernel_rfl) (by simp) ?_
  refine AllReadyH.cons rfl (fun K hK => ?_) AllReadyH.nil
  go_simp
  refine (kindP 7 t _).mono ?_
  rintro e w1 ⟨rfl, hb1⟩
  have N1 := hidden ((Below.refl w.heap.size w).drew.trans hb1)
  clear hb1
  try dsimp only
  refine hK.out _ _ (HNK.out _ N1.out) (fun hHeld => ?_)
  clear hK K
  refine takeD (i := 2) (v := ?_) (some 8) rfl rfl (by kernel_rfl) (by kernel_rfl) (by kernel_rfl) (fun _ _ _ h => h) (by rfl) hHeld ?_ ?_
  rotate_left
  · intro W hSw
    try dsimp only at hSw
    go_simp
    try with_reducible rfl
  try simp only [Act.put]
  try simp only [List.setIfInBounds_toArray]
  try simp only [List.set_cons_succ]
  try simp only [List.set_cons_zero]
  refine takeD (i := 3) (v := .string NK) (some 9) rfl rfl (by kernel_rfl) (by kernel_rfl) (by kernel_rfl) (fun _ _ _ h => h) (by rfl) hHeld ?_ ?_
  · intro W hSw
    try dsimp only at hSw
    first | (go_simp; done) | (go_simp; simp [*])
  try simp only [Act.put]
  try simp only [List.setIfInBounds_toArray]
  try simp only [List.set_cons_succ]
  try simp only [List.set_cons_zero]
  refine takeD (i := 4) (v := ?_) (some 10) rfl rfl (by kernel_rfl) (by kernel_rfl) (by kernel_rfl) (fun _ _ _ h => h) (by rfl) hHeld ?_ ?_
  rotate_left
  · intro W hSw
    try dsimp only at hSw
    go_simp
    try with_reducible rfl
  try simp only [Act.put]
  try simp only [List.setIfInBounds_toArray]
  try simp only [List.set_cons_succ]
  try simp only [List.set_cons_zero]
  refine wpAnyH_ready (rs := [6]) (by kernel_rfl) (by simp) ?_
  refine AllReadyH.cons rfl (fun K hK => ?_) AllReadyH.nil
  go_simp
  refine (tripP 7 t _).mono ?_
  rintro e w2 ⟨rfl, hb2⟩
  have N2 := hidden (N1.out.trans (hb2.mono N1.out.size))
  clear hb2
  try dsimp only
  refine hK.out _ _ (HNK.out _ N2.out) (fun hHeld => ?_)
  clear hK K
  refine wpAnyH_ready (rs := [7]) (by kernel_rfl) (by simp) ?_
  refine AllReadyH.cons rfl (fun K hK => ?_) AllReadyH.nil
  go_simp
  refine (HT.out _).mono ?_
  rintro e w3 ⟨rfl, hw3⟩
  subst hw3
  try dsimp only
  refine hK.out _ _ (HNK.out _ N2.out) (fun hHeld => ?_)
  clear hK K
  refine takeD (i := 8) (v := ?_) (some 14) rfl rfl (by kernel_rfl) (by kernel_rfl) (by kernel_rfl) (fun _ _ _ h => h) (by rfl) hHeld ?_ ?_
  rotate_left
  · intro W hSw
    try dsimp only at hSw
    go_simp
    try with_reducible rfl
  try simp only [Act.put]
  try simp only [List.setIfInBounds_toArray]
  try simp only [List.set_cons_succ]
  try simp only [List.set_cons_zero]
  refine takeD (i := 9) (v := ?_) (some 3) rfl rfl (by kernel_rfl) (by kernel_rfl) (by kernel_rfl) (fun _ _ _ h => h) (by rfl) hHeld ?_ ?_
  rotate_left
  · intro W hSw
    try dsimp only at hSw
    go_simp
    try with_reducible rfl
  try simp only [Act.put]
  try simp only [List.setIfInBounds_toArray]
  try simp only [List.set_cons_succ]
  try simp only [List.set_cons_zero]
  refine wpAnyH_done (by kernel_rfl) ?_ _
  go_wp2_with fail
  refine (manyP _ t _).mono ?_
  rintro e w4 ⟨rfl, hb4⟩
  have N4 := hidden (N2.out.trans (hb4.mono N2.out.size))
  clear hb4
  go_wp2_with fail
  refine wp_loop_rounds 1 ?_
  rw [rounds_succ]
  go_wp2
  go_ret
  exact ⟨app_str (by rw [HF.out]; first | rfl | simp [Pl.sp]), N4.out⟩

end Go.Proofs.YtfpjohbcbflnhaaDoor
