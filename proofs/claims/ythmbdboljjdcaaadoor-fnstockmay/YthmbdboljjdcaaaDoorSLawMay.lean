/- The law FnStockMay, walked: whatever the code, it answers true, and nothing that was there before has turned. For codes of at most 1048576 bytes, in a world in which the sentinel's variable holds a pointer to an errors.errorString. -/
import Derived.Test.YthmbdboljjdcaaaDoorSMay2
import Derived.Test.YthmbdboljjdcaaaDoorKPr
namespace Go.Proofs.YthmbdboljjdcaaaDoor
open Go.RowKit

namespace Pl
theorem sMay_1 {room : Int} {hs : List H} {t m : Int} (h : sOk room hs = true) (hr : recOk 1 t [m] = true) : sMay room hs 1 t [m] = (decide ((hAt hs t).2 = 0) && decide (m ≤ free room hs)) := by
  unfold sMay; rw [behind_ok h hr]
  show (next (hAt hs t) 1 m (free room hs)).isSome = _
  unfold next
  simp only [if_true]
  by_cases c : (hAt hs t).2 = 0 ∧ m ≤ free room hs
  · rw [if_pos c]; simp [c.1, c.2]
  · rw [if_neg c]
    by_cases c1 : (hAt hs t).2 = 0
    · have : ¬ m ≤ free room hs := fun e => c ⟨c1, e⟩
      simp [this]
    · simp [c1]
theorem sMay_2 {room : Int} {hs : List H} {t : Int} {zs : List Int} (h : sOk room hs = true) (hr : recOk 2 t zs = true) : sMay room hs 2 t zs = decide ((hAt hs t).2 = 1) := by
  unfold sMay; rw [behind_ok h hr]; unfold next
  simp only [show ¬ (2 : Int) = 1 by decide, if_false, if_true]
  by_cases c : (hAt hs t).2 = 1 <;> simp [c]
theorem sMay_3 {room : Int} {hs : List H} {t : Int} {zs : List Int} (h : sOk room hs = true) (hr : recOk 3 t zs = true) : sMay room hs 3 t zs = (decide ((hAt hs t).2 = 1) || decide ((hAt hs t).2 = 0)) := by
  unfold sMay; rw [behind_ok h hr]; unfold next
  simp only [show ¬ (3 : Int) = 1 by decide, show ¬ (3 : Int) = 2 by decide, if_false, if_true]
  by_cases c : (hAt hs t).2 = 1 <;> by_cases c0 : (hAt hs t).2 = 0 <;> simp [c, c0]
theorem sMay_x {room : Int} {hs : List H} {k t : Int} {zs : List Int} (h1 : k ≠ 1) (h2 : k ≠ 2) (h3 : k ≠ 3) : sMay room hs k t zs = false := by
  unfold sMay behind next
  simp [h1, h2, h3]
end Pl

theorem below_drew {B : Nat} {a w : World} (h : Below B a w) : Below B a w.drew := h.drew

set_option maxRecDepth 100000 in
set_option maxHeartbeats 8000000 in
theorem lawP17_small (vc : Value) (nc : Nat) (a : Addr) (w : World) (hc : CodeAt w vc nc) (hcn : nc ≤ 1048576) (ha : ErrAt w a) :
    Calls Tryd.prog 3 #[vc] w fun e w' => e = .returned (.bool true) ∧ Below w.heap.size w w' := by
  have HD := hide_it (drawMay_any vc nc w hc hcn)
  have HA : Hid (∀ W, Below w.heap.size w W → ErrAt W a) := fun W hb => ha.later hb (Nat.le_refl _)
  obtain ⟨ac, cc, rfl, _⟩ := hc
  have hci : (nc : Int) ≤ 1048576 := by omega
  clear hcn ha
  go_enter Tryd.func3, Tryd.ntmps3
  go_wp2_with fail
  refine HD.out.mono ?_
  rintro e w1 ⟨room, u, hs, k, t, uz, zs, rfl, hl, hzl, hH, hI, hb1⟩
  have B1 := hide_it hb1
  have H1 := hide_it hH
  have I1 := hide_it hI
  obtain ⟨au, cu, rfl⟩ := hH.shape
  obtain ⟨az, cz, rfl⟩ := hI.shape
  clear hb1 hH hI HD
  have hl9 : hs.length ≤ 1048576 := by omega
  have hz9 : zs.length ≤ 1048576 := by omega
  obtain ⟨w2, hw2⟩ : ∃ W, Hid (W = (w1.alloc (.cells #[.int .i64 room, .slice au hs.length cu] 25)).alloc (.cells #[.int .i64 k, .int .i64 t, .slice az zs.length cz] 28)) := ⟨_, rfl⟩
  have al2 : Hid (Below w1.heap.size w1 w2) := by show Below _ _ _; rw [hw2.out]; exact below2 _ _ _
  have B2 := hide_it (B1.out.trans (al2.out.mono B1.out.size))
  have P2 : Hid (Pr w2 w1.heap.size room (.slice au hs.length cu) k t (.slice az zs.length cz)) := by show Pr _ _ _ _ _ _ _; rw [hw2.out]; exact Pr.new _ _ _ _ _ _ _ _
  have H2 := hide_it (H1.out.later al2.out (Nat.le_refl _))
  have I2 := hide_it (I1.out.later al2.out (Nat.le_refl _))
  obtain ⟨BB, hBB⟩ : ∃ x, Hid (Pl.sMay room hs k t zs = x) := ⟨_, rfl⟩
  have SP : Hid (∀ W, Below w2.heap.size w2 W → Calls Tryd.prog 7 #[.agg #[.int .i64 room, .slice au hs.length cu], .agg #[.int .i64 k, .int .i64 t, .slice az zs.length cz]] W fun e w' => e = .returned (.bool BB) ∧ Below W.heap.size W w') := fun W hb => by
    have := specMay_any room _ hs k t _ zs W (H2.out.later hb (Nat.le_refl _)) hl9 (I2.out.later hb (Nat.le_refl _)) hz9
    rw [hBB.out] at this; exact this
  go_wp2_with fail
  rw [← hw2.out]
  refine (implMay_any room _ hs k t _ zs a w2 H2.out hl9 I2.out hz9 (HA.out _ B2.out)).mono ?_
  rintro e w3 ⟨rfl, hb3⟩
  rw [hBB.out]
  have E3 := hide_it hb3
  obtain ⟨⟨c0, c1⟩, ⟨r0, r1, r2⟩⟩ := P2.out.later E3.out (Nat.le_refl _)
  clear hb3
  go_wp2_with fail
  refine (SP.out _ E3.out).mono ?_
  rintro e w4 ⟨rfl, hb4⟩
  have E4 := hide_it (E3.out.trans (hb4.mono E3.out.size))
  clear hb4 c0 c1 r0 r1 r2
  obtain ⟨⟨c0, c1⟩, ⟨r0, r1, r2⟩⟩ := P2.out.later E4.out (Nat.le_refl _)
  go_wp2_with fail
  refine (specStockOk_any room _ hs w4 (H2.out.later E4.out (Nat.le_refl _)) hl9).mono ?_
  rintro e w5 ⟨rfl, hb5⟩
  have E5 := hide_it (E4.out.trans (hb5.mono E4.out.size))
  clear hb5 c0 c1 r0 r1 r2
  obtain ⟨⟨c0, c1⟩, ⟨r0, r1, r2⟩⟩ := P2.out.later E5.out (Nat.le_refl _)
  obtain ⟨OK, hOK⟩ : ∃ x, Hid (Pl.sOk room hs = x) := ⟨_, rfl⟩
  rw [hOK.out]
  cases OK
  · go_wp2_with fail
    refine (SP.out _ E5.out).mono ?_
    rintro e w6 ⟨rfl, hb6⟩
    have B6 := hide_it (B2.out.trans ((E5.out.trans (hb6.mono E5.out.size)).mono B2.out.size))
    clear hb6 c0 c1 r0 r1 r2
    go_wp2
    go_ret
    exact ⟨by simp, B6.out⟩
  go_wp2_with fail
  refine (specOk_any k t _ zs w5 (I2.out.later E5.out (Nat.le_refl _)) hz9).mono ?_
  rintro e w6 ⟨rfl, hb6⟩
  have E6 := hide_it (E5.out.trans (hb6.mono E5.out.size))
  clear hb6 c0 c1 r0 r1 r2
  obtain ⟨⟨c0, c1⟩, ⟨r0, r1, r2⟩⟩ := P2.out.later E6.out (Nat.le_refl _)
  obtain ⟨RO, hRO⟩ : ∃ x, Hid (Pl.recOk k t zs = x) := ⟨_, rfl⟩
  rw [hRO.out]
  cases RO
  · go_wp2_with fail
    refine (SP.out _ E6.out).mono ?_
    rintro e w7 ⟨rfl, hb7⟩
    have B7 := hide_it (B2.out.trans ((E6.out.trans (hb7.mono E6.out.size)).mono B2.out.size))
    clear hb7 c0 c1 r0 r1 r2
    go_wp2
    go_ret
    exact ⟨by simp, B7.out⟩
  obtain ⟨hall, hroom, h6, hf0⟩ := Pl.sOk_parts hOK.out
  have ht := Pl.recOk_trip hRO.out
  have hat := Pl.at_lt hRO.out
  have B6 := hide_it (B2.out.trans (E6.out.mono B2.out.size))
  have H6 := hide_it (H2.out.later E6.out (Nat.le_refl _))
  obtain ⟨gb, off, hau, hcell⟩ : ∃ b off, au = some ⟨b, off, none⟩ ∧ (w6.cell? ⟨b, off + Pl.at_ t * 2, none⟩ = some (.int .i64 (Pl.hAt hs t).1) ∧ w6.cell? ⟨b, off + Pl.at_ t * 2 + 1, none⟩ = some (.int .i64 (Pl.hAt hs t).2)) := by
    rcases H6.out with ⟨h0, _⟩ | ⟨b', off, cap', hv, _, hc⟩
    · rw [h0] at h6; simp at h6
    · simp only [Value.slice.injEq] at hv
      exact ⟨b', off, hv.1, hc _ (by omega)⟩
  subst hau
  obtain ⟨M, s, HZ⟩ : ∃ M s, Hid (Pl.hAt hs t = (M, s)) := ⟨_, _, rfl⟩
  obtain ⟨T, hT⟩ : ∃ T, Hid (Pl.at_ t = T) := ⟨_, rfl⟩
  rw [hT.out, HZ.out] at hcell
  obtain ⟨-, h2s⟩ := hcell
  obtain rfl : t = (T : Int) + 1 := by rw [← hT.out]; unfold Pl.at_; omega
  rw [hT.out] at hat
  have hT6 : (T : Int) < 6 := by omega
  have hTl : (T : Int) < (hs.length : Int) := by rw [h6]; exact hT6
  have hT0 : (0 : Int) ≤ (T : Int) := by omega
  have hf0' := hf0
  clear hall hroom h6 ht SP
  by_cases k1 : k = 1
  · subst k1
    obtain ⟨m, hzs, m1, m3⟩ := Pl.recOk_hold hRO.out
    subst hzs
    obtain ⟨F, hF⟩ : ∃ F, Hid (Pl.free room hs = F) := ⟨_, rfl⟩
    have hB := Pl.sMay_1 hOK.out hRO.out
    rw [hBB.out, HZ.out, hF.out] at hB
    have hbd := Pl.sFree_bd room hs
    rw [Pl.sFree_yes hOK.out, hF.out] at hbd
    have FS : Hid (∀ W, Holds W (.slice (some ⟨gb, off, none⟩) hs.length cu) hs → Calls Tryd.prog 10 #[.agg #[.int .i64 room, .slice (some ⟨gb, off, none⟩) hs.length cu]] W fun e w' => e = .returned (.int .i64 F) ∧ Below W.heap.size W w') := fun W hW => by
      have := implFree_any room _ hs W hW hl9
      rw [Pl.sFree_yes hOK.out, hF.out] at this; exact this
    obtain ⟨bz, oz, haz, hz0⟩ : ∃ b o, az = some ⟨b, o, none⟩ ∧ ∀ W, Below w2.heap.size w2 W → W.cell? ⟨b, o, none⟩ = some (.int .i64 m) := by
      rcases I2.out with ⟨h0, _⟩ | ⟨b', off', cap', hv, _, hcz⟩
      · cases h0
      · simp only [Value.slice.injEq] at hv
        refine ⟨b', off', hv.1, fun W hb => ?_⟩
        have h1 := hcz 0 (by simp)
        have h2 := World.block_lt_of_cell? _ _ h1
        have h3 := hb.cell (p := ⟨b', off', none⟩) (by simpa using h2)
        rw [h3]; exact h1
    subst haz
    have KP : Hid (∀ W, Below w6.heap.size w6 W → (W.cell? ⟨w1.heap.size, 0, none⟩ = some (.int .i64 room) ∧ W.cell? ⟨w1.heap.size, 1, none⟩ = some (.slice (some ⟨gb, off, none⟩) hs.length cu)) ∧ W.cell? ⟨w1.heap.size + 1, 2, none⟩ = some (.slice (some ⟨bz, oz, none⟩) 1 cz) ∧ W.cell? ⟨bz, oz, none⟩ = some (.int .i64 m)) := fun W hb => by
      have hE := E6.out.trans (hb.mono E6.out.size)
      obtain ⟨⟨a0, a1⟩, ⟨b0, b1, b2⟩⟩ := P2.out.later hE (Nat.le_refl _)
      exact ⟨⟨a0, a1⟩, b2, hz0 W hE⟩
    have z0 := hz0 _ E6.out
    clear hz0 hBB hOK hRO
    by_cases hs0 : s = 0
    · subst hs0
      by_cases hmF : m ≤ F
      · have hBt : BB = true := by rw [hB]; simp [hmF]
        subst hBt
        clear hB
        go_wp2_with fail
        refine wp_region_held_drew (S := fun w' => (w'.cell? ⟨w1.heap.size, 0, none⟩ = some (.int .i64 room) ∧ w'.cell? ⟨w1.heap.size, 1, none⟩ = some (.slice (some ⟨gb, off, none⟩) hs.length cu)) ∧ w'.cell? ⟨w1.heap.size + 1, 2, none⟩ = some (.slice (some ⟨bz, oz, none⟩) 1 cz) ∧ w'.cell? ⟨bz, oz, none⟩ = some (.int .i64 m)) (by kernel_rfl) ⟨⟨c0, c1⟩, r2, z0⟩ (fun hHeld => ?_)
        clear c0 c1 r0 r1 r2 z0 h2s
        refine takeD (i := 0) (v := ?_) (some 50) rfl rfl (by kernel_rfl) (by kernel_rfl) (by kernel_rfl) (fun _ _ _ h => h) (by rfl) hHeld ?_ ?_
        rotate_left
        · intro W hSw
          try dsimp only at hSw
          go_simp
          try with_reducible rfl
        try simp only [Act.put]
        try simp only [List.setIfInBounds_toArray]
        try simp only [List.set_cons_succ]
        try simp only [List.set_cons_zero]
        refine takeD (i := 1) (v := ?_) (some 51) rfl rfl (by kernel_rfl) (by kernel_rfl) (by kernel_rfl) (fun _ _ _ h => h) (by rfl) hHeld ?_ ?_
        rotate_left
        · intro W hSw
          try dsimp only at hSw
          go_simp
          try with_reducible rfl
        try simp only [Act.put]
        try simp only [List.setIfInBounds_toArray]
        try simp only [List.set_cons_succ]
        try simp only [List.set_cons_zero]
        refine takeD (i := 2) (v := .bool true) (some 52) rfl rfl (by kernel_rfl) (by kernel_rfl) (by kernel_rfl) (fun _ _ _ h => h) (by rfl) hHeld ?_ ?_
        · intro W hSw
          try dsimp only at hSw
          first | (go_simp; done) | (go_simp; simp [*])
        try simp only [Act.put]
        try simp only [List.setIfInBounds_toArray]
        try simp only [List.set_cons_succ]
        try simp only [List.set_cons_zero]
        refine takeD (i := 3) (v := .bool true) (some 53) rfl rfl (by kernel_rfl) (by kernel_rfl) (by kernel_rfl) (fun _ _ _ h => h) (by rfl) hHeld ?_ ?_
        · intro W hSw
          try dsimp only at hSw
          first | (go_simp; done) | (go_simp; simp [*])
        try simp only [Act.put]
        try simp only [List.setIfInBounds_toArray]
        try simp only [List.set_cons_succ]
        try simp only [List.set_cons_zero]
        refine takeD (i := 4) (v := ?_) (some 54) rfl rfl (by kernel_rfl) (by kernel_rfl) (by kernel_rfl) (fun _ _ _ h => h) (by rfl) hHeld ?_ ?_
        rotate_left
        · intro W hSw
          try dsimp only at hSw
          go_simp
          try with_reducible rfl
        try simp only [Act.put]
        try simp only [List.setIfInBounds_toArray]
        try simp only [List.set_cons_succ]
        try simp only [List.set_cons_zero]
        refine takeD (i := 5) (v := ?_) (some 55) rfl rfl (by kernel_rfl) (by kernel_rfl) (by kernel_rfl) (fun _ _ _ h => h) (by rfl) hHeld ?_ ?_
        rotate_left
        · intro W hSw
          try dsimp only at hSw
          go_simp
          try with_reducible rfl
        try simp only [Act.put]
        try simp only [List.setIfInBounds_toArray]
        try simp only [List.set_cons_succ]
        try simp only [List.set_cons_zero]
        refine takeD (i := 6) (v := ?_) (some 56) rfl rfl (by kernel_rfl) (by kernel_rfl) (by kernel_rfl) (fun _ _ _ h => h) (by rfl) hHeld ?_ ?_
        rotate_left
        · intro W hSw
          try dsimp only at hSw
          go_simp
          try with_reducible rfl
        try simp only [Act.put]
        try simp only [List.setIfInBounds_toArray]
        try simp only [List.set_cons_succ]
        try simp only [List.set_cons_zero]
        refine takeD (i := 7) (v := ?_) (some 57) rfl rfl (by kernel_rfl) (by kernel_rfl) (by kernel_rfl) (fun _ _ _ h => h) (by rfl) hHeld ?_ ?_
        rotate_left
        · intro W hSw
          try dsimp only at hSw
          go_simp
          try with_reducible rfl
        try simp only [Act.put]
        try simp only [List.setIfInBounds_toArray]
        try simp only [List.set_cons_succ]
        try simp only [List.set_cons_zero]
        refine takeD (i := 8) (v := ?_) (some 58) rfl rfl (by kernel_rfl) (by kernel_rfl) (by kernel_rfl) (fun _ _ _ h => h) (by rfl) hHeld ?_ ?_
        rotate_left
        · intro W hSw
          try dsimp only at hSw
          go_simp
          try with_reducible rfl
        try simp only [Act.put]
        try simp only [List.setIfInBounds_toArray]
        try simp only [List.set_cons_succ]
        try simp only [List.set_cons_zero]
        refine wpAnyH_ready (rs := [9]) (by kernel_rfl) (by simp) ?_
        refine AllReadyH.cons rfl (fun K hK => ?_) AllReadyH.nil
        go_simp
        refine (FS.out _ (H6.out.later (Below.refl w6.heap.size w6).drew (Nat.le_refl _))).mono ?_
        rintro e w7 ⟨rfl, hb7⟩
        have E7 := hide_it ((Below.refl w6.heap.size w6).drew.trans hb7)
        have B7 := hide_it (B6.out.trans (E7.out.mono B6.out.size))
        clear hb7
        try dsimp only
        refine hK.out _ _ (KP.out _ E7.out) (fun hHeld => ?_)
        clear hK K
        refine takeD (i := 10) (v := .bool true) (some 60) rfl rfl (by kernel_rfl) (by kernel_rfl) (by kernel_rfl) (fun _ _ _ h => h) (by rfl) hHeld ?_ ?_
        · intro W hSw
          try dsimp only at hSw
          first | (go_simp; done) | (go_simp; simp [*])
        try simp only [Act.put]
        try simp only [List.setIfInBounds_toArray]
        try simp only [List.set_cons_succ]
        try simp only [List.set_cons_zero]
        refine takeD (i := 11) (v := .bool true) (some 61) rfl rfl (by kernel_rfl) (by kernel_rfl) (by kernel_rfl) (fun _ _ _ h => h) (by rfl) hHeld ?_ ?_
        · intro W hSw
          try dsimp only at hSw
          first | (go_simp; done) | (go_simp; simp [*])
        try simp only [Act.put]
        try simp only [List.setIfInBounds_toArray]
        try simp only [List.set_cons_succ]
        try simp only [List.set_cons_zero]
        refine takeD (i := 12) (v := .bool true) (some 62) rfl rfl (by kernel_rfl) (by kernel_rfl) (by kernel_rfl) (fun _ _ _ h => h) (by rfl) hHeld ?_ ?_
        · intro W hSw
          try dsimp only at hSw
          first | (go_simp; done) | (go_simp; simp [*])
        try simp only [Act.put]
        try simp only [List.setIfInBounds_toArray]
        try simp only [List.set_cons_succ]
        try simp only [List.set_cons_zero]
        refine takeD (i := 13) (v := .bool true) (some 2) rfl rfl (by kernel_rfl) (by kernel_rfl) (by kernel_rfl) (fun _ _ _ h => h) (by rfl) hHeld ?_ ?_
        · intro W hSw
          try dsimp only at hSw
          first | (go_simp; done) | (go_simp; simp [*])
        try simp only [Act.put]
        try simp only [List.setIfInBounds_toArray]
        try simp only [List.set_cons_succ]
        try simp only [List.set_cons_zero]
        refine wpAnyH_done (by kernel_rfl) ?_ _
        go_wp2
        go_ret
        exact ⟨rfl, B7.out⟩
      · have hBt : BB = false := by rw [hB]; simp [hmF]
        subst hBt
        clear hB
        have hmF' : decide (m ≤ F) = false := by simpa using hmF
        go_wp2_with fail
        refine wp_region_held_drew (S := fun w' => (w'.cell? ⟨w1.heap.size, 0, none⟩ = some (.int .i64 room) ∧ w'.cell? ⟨w1.heap.size, 1, none⟩ = some (.slice (some ⟨gb, off, none⟩) hs.length cu)) ∧ w'.cell? ⟨w1.heap.size + 1, 2, none⟩ = some (.slice (some ⟨bz, oz, none⟩) 1 cz) ∧ w'.cell? ⟨bz, oz, none⟩ = some (.int .i64 m)) (by kernel_rfl) ⟨⟨c0, c1⟩, r2, z0⟩ (fun hHeld => ?_)
        clear c0 c1 r0 r1 r2 z0 h2s
        refine takeD (i := 0) (v := ?_) (some 50) rfl rfl (by kernel_rfl) (by kernel_rfl) (by kernel_rfl) (fun _ _ _ h => h) (by rfl) hHeld ?_ ?_
        rotate_left
        · intro W hSw
          try dsimp only at hSw
          go_simp
          try with_reducible rfl
        try simp only [Act.put]
        try simp only [List.setIfInBounds_toArray]
        try simp only [List.set_cons_succ]
        try simp only [List.set_cons_zero]
        refine takeD (i := 1) (v := ?_) (some 51) rfl rfl (by kernel_rfl) (by kernel_rfl) (by kernel_rfl) (fun _ _ _ h => h) (by rfl) hHeld ?_ ?_
        rotate_left
        · intro W hSw
          try dsimp only at hSw
          go_simp
          try with_reducible rfl
        try simp only [Act.put]
        try simp only [List.setIfInBounds_toArray]
        try simp only [List.set_cons_succ]
        try simp only [List.set_cons_zero]
        refine takeD (i := 2) (v := .bool true) (some 52) rfl rfl (by kernel_rfl) (by kernel_rfl) (by kernel_rfl) (fun _ _ _ h => h) (by rfl) hHeld ?_ ?_
        · intro W hSw
          try dsimp only at hSw
          first | (go_simp; done) | (go_simp; simp [*])
        try simp only [Act.put]
        try simp only [List.setIfInBounds_toArray]
        try simp only [List.set_cons_succ]
        try simp only [List.set_cons_zero]
        refine takeD (i := 3) (v := .bool true) (some 53) rfl rfl (by kernel_rfl) (by kernel_rfl) (by kernel_rfl) (fun _ _ _ h => h) (by rfl) hHeld ?_ ?_
        · intro W hSw
          try dsimp only at hSw
          first | (go_simp; done) | (go_simp; simp [*])
        try simp only [Act.put]
        try simp only [List.setIfInBounds_toArray]
        try simp only [List.set_cons_succ]
        try simp only [List.set_cons_zero]
        refine takeD (i := 4) (v := ?_) (some 54) rfl rfl (by kernel_rfl) (by kernel_rfl) (by kernel_rfl) (fun _ _ _ h => h) (by rfl) hHeld ?_ ?_
        rotate_left
        · intro W hSw
          try dsimp only at hSw
          go_simp
          try with_reducible rfl
        try simp only [Act.put]
        try simp only [List.setIfInBounds_toArray]
        try simp only [List.set_cons_succ]
        try simp only [List.set_cons_zero]
        refine takeD (i := 5) (v := ?_) (some 55) rfl rfl (by kernel_rfl) (by kernel_rfl) (by kernel_rfl) (fun _ _ _ h => h) (by rfl) hHeld ?_ ?_
        rotate_left
        · intro W hSw
          try dsimp only at hSw
          go_simp
          try with_reducible rfl
        try simp only [Act.put]
        try simp only [List.setIfInBounds_toArray]
        try simp only [List.set_cons_succ]
        try simp only [List.set_cons_zero]
        refine takeD (i := 6) (v := ?_) (some 56) rfl rfl (by kernel_rfl) (by kernel_rfl) (by kernel_rfl) (fun _ _ _ h => h) (by rfl) hHeld ?_ ?_
        rotate_left
        · intro W hSw
          try dsimp only at hSw
          go_simp
          try with_reducible rfl
        try simp only [Act.put]
        try simp only [List.setIfInBounds_toArray]
        try simp only [List.set_cons_succ]
        try simp only [List.set_cons_zero]
        refine takeD (i := 7) (v := ?_) (some 57) rfl rfl (by kernel_rfl) (by kernel_rfl) (by kernel_rfl) (fun _ _ _ h => h) (by rfl) hHeld ?_ ?_
        rotate_left
        · intro W hSw
          try dsimp only at hSw
          go_simp
          try with_reducible rfl
        try simp only [Act.put]
        try simp only [List.setIfInBounds_toArray]
        try simp only [List.set_cons_succ]
        try simp only [List.set_cons_zero]
        refine takeD (i := 8) (v := ?_) (some 58) rfl rfl (by kernel_rfl) (by kernel_rfl) (by kernel_rfl) (fun _ _ _ h => h) (by rfl) hHeld ?_ ?_
        rotate_left
        · intro W hSw
          try dsimp only at hSw
          go_simp
          try with_reducible rfl
        try simp only [Act.put]
        try simp only [List.setIfInBounds_toArray]
        try simp only [List.set_cons_succ]
        try simp only [List.set_cons_zero]
        refine wpAnyH_ready (rs := [9]) (by kernel_rfl) (by simp) ?_
        refine AllReadyH.cons rfl (fun K hK => ?_) AllReadyH.nil
        go_simp
        refine (FS.out _ (H6.out.later (Below.refl w6.heap.size w6).drew (Nat.le_refl _))).mono ?_
        rintro e w7 ⟨rfl, hb7⟩
        have E7 := hide_it ((Below.refl w6.heap.size w6).drew.trans hb7)
        have B7 := hide_it (B6.out.trans (E7.out.mono B6.out.size))
        clear hb7
        try dsimp only
        refine hK.out _ _ (KP.out _ E7.out) (fun hHeld => ?_)
        clear hK K
        refine takeD (i := 10) (v := .bool false) (some 60) rfl rfl (by kernel_rfl) (by kernel_rfl) (by kernel_rfl) (fun _ _ _ h => h) (by rfl) hHeld ?_ ?_
        · intro W hSw
          try dsimp only at hSw
          first | (go_simp; done) | (go_simp; simp [*])
        try simp only [Act.put]
        try simp only [List.setIfInBounds_toArray]
        try simp only [List.set_cons_succ]
        try simp only [List.set_cons_zero]
        refine takeD (i := 11) (v := .bool false) (some 61) rfl rfl (by kernel_rfl) (by kernel_rfl) (by kernel_rfl) (fun _ _ _ h => h) (by rfl) hHeld ?_ ?_
        · intro W hSw
          try dsimp only at hSw
          first | (go_simp; done) | (go_simp; simp [*])
        try simp only [Act.put]
        try simp only [List.setIfInBounds_toArray]
        try simp only [List.set_cons_succ]
        try simp only [List.set_cons_zero]
        refine takeD (i := 12) (v := .bool true) (some 62) rfl rfl (by kernel_rfl) (by kernel_rfl) (by kernel_rfl) (fun _ _ _ h => h) (by rfl) hHeld ?_ ?_
        · intro W hSw
          try dsimp only at hSw
          first | (go_simp; done) | (go_simp; simp [*])
        try simp only [Act.put]
        try simp only [List.setIfInBounds_toArray]
        try simp only [List.set_cons_succ]
        try simp only [List.set_cons_zero]
        refine takeD (i := 13) (v := .bool true) (some 2) rfl rfl (by kernel_rfl) (by kernel_rfl) (by kernel_rfl) (fun _ _ _ h => h) (by rfl) hHeld ?_ ?_
        · intro W hSw
          try dsimp only at hSw
          first | (go_simp; done) | (go_simp; simp [*])
        try simp only [Act.put]
        try simp only [List.setIfInBounds_toArray]
        try simp only [List.set_cons_succ]
        try simp only [List.set_cons_zero]
        refine wpAnyH_done (by kernel_rfl) ?_ _
        go_wp2
        go_ret
        exact ⟨rfl, B7.out⟩
    · have hBt : BB = false := by rw [hB]; simp [hs0]
      subst hBt
      clear hB
      have hs0' : (s == 0) = false := by simpa using hs0
      go_wp2_with fail
      refine wp_region_held_drew (S := fun w' => (w'.cell? ⟨w1.heap.size, 0, none⟩ = some (.int .i64 room) ∧ w'.cell? ⟨w1.heap.size, 1, none⟩ = some (.slice (some ⟨gb, off, none⟩) hs.length cu)) ∧ w'.cell? ⟨w1.heap.size + 1, 2, none⟩ = some (.slice (some ⟨bz, oz, none⟩) 1 cz) ∧ w'.cell? ⟨bz, oz, none⟩ = some (.int .i64 m)) (by kernel_rfl) ⟨⟨c0, c1⟩, r2, z0⟩ (fun hHeld => ?_)
      clear c0 c1 r0 r1 r2 z0 h2s
      refine takeD (i := 0) (v := ?_) (some 50) rfl rfl (by kernel_rfl) (by kernel_rfl) (by kernel_rfl) (fun _ _ _ h => h) (by rfl) hHeld ?_ ?_
      rotate_left
      · intro W hSw
        try dsimp only at hSw
        go_simp
        try with_reducible rfl
      try simp only [Act.put]
      try simp only [List.setIfInBounds_toArray]
      try simp only [List.set_cons_succ]
      try simp only [List.set_cons_zero]
      refine takeD (i := 1) (v := ?_) (some 51) rfl rfl (by kernel_rfl) (by kernel_rfl) (by kernel_rfl) (fun _ _ _ h => h) (by rfl) hHeld ?_ ?_
      rotate_left
      · intro W hSw
        try dsimp only at hSw
        go_simp
        try with_reducible rfl
      try simp only [Act.put]
      try simp only [List.setIfInBounds_toArray]
      try simp only [List.set_cons_succ]
      try simp only [List.set_cons_zero]
      refine takeD (i := 2) (v := .bool false) (some 52) rfl rfl (by kernel_rfl) (by kernel_rfl) (by kernel_rfl) (fun _ _ _ h => h) (by rfl) hHeld ?_ ?_
      · intro W hSw
        try dsimp only at hSw
        first | (go_simp; done) | (go_simp; simp [*])
      try simp only [Act.put]
      try simp only [List.setIfInBounds_toArray]
      try simp only [List.set_cons_succ]
      try simp only [List.set_cons_zero]
      refine takeD (i := 3) (v := .bool false) (some 53) rfl rfl (by kernel_rfl) (by kernel_rfl) (by kernel_rfl) (fun _ _ _ h => h) (by rfl) hHeld ?_ ?_
      · intro W hSw
        try dsimp only at hSw
        first | (go_simp; done) | (go_simp; simp [*])
      try simp only [Act.put]
      try simp only [List.setIfInBounds_toArray]
      try simp only [List.set_cons_succ]
      try simp only [List.set_cons_zero]
      refine skipD (i := 4) (some 54) rfl rfl (by kernel_rfl) (by kernel_rfl) (by kernel_rfl) (fun _ _ _ h => h) (by rfl) hHeld ?_
      try simp only [Act.put]
      try simp only [List.setIfInBounds_toArray]
      try simp only [List.set_cons_succ]
      try simp only [List.set_cons_zero]
      refine skipD (i := 5) (some 55) rfl rfl (by kernel_rfl) (by kernel_rfl) (by kernel_rfl) (fun _ _ _ h => h) (by rfl) hHeld ?_
      try simp only [Act.put]
      try simp only [List.setIfInBounds_toArray]
      try simp only [List.set_cons_succ]
      try simp only [List.set_cons_zero]
      refine skipD (i := 6) (some 56) rfl rfl (by kernel_rfl) (by kernel_rfl) (by kernel_rfl) (fun _ _ _ h => h) (by rfl) hHeld ?_
      try simp only [Act.put]
      try simp only [List.setIfInBounds_toArray]
      try simp only [List.set_cons_succ]
      try simp only [List.set_cons_zero]
      refine skipD (i := 7) (some 57) rfl rfl (by kernel_rfl) (by kernel_rfl) (by kernel_rfl) (fun _ _ _ h => h) (by rfl) hHeld ?_
      try simp only [Act.put]
      try simp only [List.setIfInBounds_toArray]
      try simp only [List.set_cons_succ]
      try simp only [List.set_cons_zero]
      refine skipD (i := 8) (some 58) rfl rfl (by kernel_rfl) (by kernel_rfl) (by kernel_rfl) (fun _ _ _ h => h) (by rfl) hHeld ?_
      try simp only [Act.put]
      try simp only [List.setIfInBounds_toArray]
      try simp only [List.set_cons_succ]
      try simp only [List.set_cons_zero]
      refine skipD (i := 9) (some 59) rfl rfl (by kernel_rfl) (by kernel_rfl) (by kernel_rfl) (fun _ _ _ h => h) (by rfl) hHeld ?_
      try simp only [Act.put]
      try simp only [List.setIfInBounds_toArray]
      try simp only [List.set_cons_succ]
      try simp only [List.set_cons_zero]
      refine skipD (i := 10) (some 60) rfl rfl (by kernel_rfl) (by kernel_rfl) (by kernel_rfl) (fun _ _ _ h => h) (by rfl) hHeld ?_
      try simp only [Act.put]
      try simp only [List.setIfInBounds_toArray]
      try simp only [List.set_cons_succ]
      try simp only [List.set_cons_zero]
      refine takeD (i := 11) (v := .bool false) (some 61) rfl rfl (by kernel_rfl) (by kernel_rfl) (by kernel_rfl) (fun _ _ _ h => h) (by rfl) hHeld ?_ ?_
      · intro W hSw
        try dsimp only at hSw
        first | (go_simp; done) | (go_simp; simp [*])
      try simp only [Act.put]
      try simp only [List.setIfInBounds_toArray]
      try simp only [List.set_cons_succ]
      try simp only [List.set_cons_zero]
      refine takeD (i := 12) (v := .bool true) (some 62) rfl rfl (by kernel_rfl) (by kernel_rfl) (by kernel_rfl) (fun _ _ _ h => h) (by rfl) hHeld ?_ ?_
      · intro W hSw
        try dsimp only at hSw
        first | (go_simp; done) | (go_simp; simp [*])
      try simp only [Act.put]
      try simp only [List.setIfInBounds_toArray]
      try simp only [List.set_cons_succ]
      try simp only [List.set_cons_zero]
      refine takeD (i := 13) (v := .bool true) (some 2) rfl rfl (by kernel_rfl) (by kernel_rfl) (by kernel_rfl) (fun _ _ _ h => h) (by rfl) hHeld ?_ ?_
      · intro W hSw
        try dsimp only at hSw
        first | (go_simp; done) | (go_simp; simp [*])
      try simp only [Act.put]
      try simp only [List.setIfInBounds_toArray]
      try simp only [List.set_cons_succ]
      try simp only [List.set_cons_zero]
      refine wpAnyH_done (by kernel_rfl) ?_ _
      go_wp2
      go_ret
      exact ⟨rfl, below_drew B6.out⟩
  by_cases k2 : k = 2
  · subst k2
    have hB := Pl.sMay_2 hOK.out hRO.out
    rw [hBB.out, HZ.out] at hB
    by_cases hs1 : s = 1
    · subst hs1
      have hBt : BB = true := by rw [hB]; simp
      subst hBt
      clear hB
      go_wp2
      go_ret
      exact ⟨rfl, B6.out⟩
    · have hBt : BB = false := by rw [hB]; simp [hs1]
      subst hBt
      clear hB
      go_wp2
      go_ret
      exact ⟨by simp [hs1], B6.out⟩
  by_cases k3 : k = 3
  · subst k3
    have hB := Pl.sMay_3 hOK.out hRO.out
    rw [hBB.out, HZ.out] at hB
    by_cases hs1 : s = 1
    · subst hs1
      have hBt : BB = true := by rw [hB]; simp
      subst hBt
      clear hB
      go_wp2
      go_ret
      exact ⟨rfl, B6.out⟩
    · by_cases hs0 : s = 0
      · subst hs0
        have hBt : BB = true := by rw [hB]; simp
        subst hBt
        clear hB
        go_wp2
        go_ret
        exact ⟨rfl, B6.out⟩
      · have hBt : BB = false := by rw [hB]; simp [hs1, hs0]
        subst hBt
        clear hB
        have e1 : (s == 1) = false := by simpa using hs1
        have e0 : (s == 0) = false := by simpa using hs0
        go_wp2
        go_ret
        exact ⟨by simp, B6.out⟩
  · have hBt : BB = false := by rw [← hBB.out]; exact Pl.sMay_x k1 k2 k3
    subst hBt
    have e1 : (k == 1) = false := by simpa using k1
    have e2 : (k == 2) = false := by simpa using k2
    have e3 : (k == 3) = false := by simpa using k3
    go_wp2
    go_ret
    exact ⟨rfl, B6.out⟩

end Go.Proofs.YthmbdboljjdcaaaDoor
