/- The law FnStockMore, walked: whatever the code, it answers true, and nothing that was there before has turned. For codes of at most 1048576 bytes, in a world in which the sentinel's variable holds a pointer to an errors.errorString. -/
import Derived.Test.YthmbdboljjdcaaaDoorSOf
import Derived.Test.YthmbdboljjdcaaaDoorKLawOf
import Derived.Test.YthmbdboljjdcaaaDoorKLn
import Derived.Test.YthmbdboljjdcaaaDoorHeld
namespace Go.Proofs.YthmbdboljjdcaaaDoor
open Go.RowKit

set_option maxRecDepth 100000 in
set_option maxHeartbeats 8000000 in
theorem lawP20_small (vc : Value) (nc : Nat) (a : Addr) (w : World) (hc : CodeAt w vc nc) (hcn : nc ≤ 1048576) (ha : ErrAt w a) :
    Calls Tryd.prog 4 #[vc] w fun e w' => e = .returned (.bool true) ∧ Below w.heap.size w w' := by
  have HD := hide_it (drawOf_any vc nc w hc hcn)
  have HA : Hid (∀ W, Below w.heap.size w W → ErrAt W a) := fun W hb => ha.later hb (Nat.le_refl _)
  obtain ⟨ac, cc, rfl, _⟩ := hc
  have hci : (nc : Int) ≤ 1048576 := by omega
  clear hcn ha
  go_enter Tryd.func4, Tryd.ntmps4
  go_wp2_with fail
  refine HD.out.mono ?_
  rintro e w1 ⟨room, o, rs, rfl, lr, ur, ht, hR, hb1⟩
  have B1 := hide_it hb1
  have HR : Hid (∀ W, Below w1.heap.size w1 W → Recs W o rs) := fun W hb => hR.later hb (Nat.le_refl _)
  obtain ⟨o1, c1, rfl⟩ := hR.shape
  have ht' : tot rs ≤ 1048576 := by omega
  clear hb1 hR HD
  have hl6 := sOf_len room rs
  obtain ⟨O, hO⟩ : ∃ x, Hid (Pl.sOf room rs = x) := ⟨_, rfl⟩
  have SP : Hid (∀ W, Below w1.heap.size w1 W → Calls Tryd.prog 12 #[.int .i64 room, .slice o1 rs.length c1] W fun e w' => StOut W w' e (oR room O) (oH O) O.isSome) := fun W hb => by
    have := specOf_any room _ rs W (HR.out W hb) ht'
    rw [hO.out] at this; exact this
  have IM : Hid (∀ W, Below w1.heap.size w1 W → Calls Tryd.prog 13 #[.int .i64 room, .slice o1 rs.length c1] W fun e w' => StOut W w' e (oR room O) (oH O) O.isSome) := fun W hb => by
    have := implOf_any room _ rs a W (HR.out W hb) ht' (HA.out W (B1.out.trans (hb.mono B1.out.size)))
    rw [hO.out] at this; exact this
  have IM2 : Hid (∀ W, Below w1.heap.size w1 W → Calls Tryd.prog 13 #[.int .i64 (room + 1), .slice o1 rs.length c1] W fun e w' => StOut W w' e (oR (room + 1) (Pl.sOf (room + 1) rs)) (oH (Pl.sOf (room + 1) rs)) (Pl.sOf (room + 1) rs).isSome) := fun W hb =>
    implOf_any (room + 1) _ rs a W (HR.out W hb) ht' (HA.out W (B1.out.trans (hb.mono B1.out.size)))
  rw [hO.out] at hl6
  obtain ⟨RR, hRR⟩ : ∃ x, Hid (oR room O = x) := ⟨_, rfl⟩
  obtain ⟨HS, hHS⟩ : ∃ x, Hid (oH O = x) := ⟨_, rfl⟩
  obtain ⟨BB, hBB⟩ : ∃ x, Hid (O.isSome = x) := ⟨_, rfl⟩
  rw [hRR.out, hHS.out, hBB.out] at SP IM
  rw [hHS.out] at hl6
  have hl9 : HS.length ≤ 1048576 := by omega
  go_wp2_with fail
  refine (SP.out _ (Below.refl _ _)).mono ?_
  rintro e w2 ⟨a2, c2, rfl, ho2, hb2⟩
  obtain ⟨w3, hw3⟩ : ∃ W, Hid (W = w2.alloc (.cells #[.int .i64 RR, .slice a2 HS.length c2] 25)) := ⟨_, rfl⟩
  have al3 : Hid (Below w2.heap.size w2 w3) := by show Below _ _ _; rw [hw3.out]; exact alloc_below _ _
  have N3 := hide_it (hb2.trans (al3.out.mono hb2.size))
  have D3 : Hid (Duo w3 w2.heap.size (.int .i64 RR) (.slice a2 HS.length c2)) := by show Duo _ _ _ _; rw [hw3.out]; exact Duo.new _ _ _ _
  have H3 := hide_it ((holds_of_row ho2).later al3.out (Nat.le_refl _))
  clear ho2 hb2
  go_wp2_with fail
  rw [← hw3.out]
  refine (IM.out _ N3.out).mono ?_
  rintro e w4 ⟨a4, c4, rfl, ho4, hb4⟩
  obtain ⟨w5, hw5⟩ : ∃ W, Hid (W = w4.alloc (.cells #[.int .i64 RR, .slice a4 HS.length c4] 25)) := ⟨_, rfl⟩
  have al5 : Hid (Below w4.heap.size w4 w5) := by show Below _ _ _; rw [hw5.out]; exact alloc_below _ _
  have E5 := hide_it (hb4.trans (al5.out.mono hb4.size))
  have N5 := hide_it (N3.out.trans (E5.out.mono N3.out.size))
  have D5 := hide_it (D3.out.later E5.out (Nat.le_refl _))
  have D4 := hide_it (D3.out.later hb4 (Nat.le_refl _))
  have H5 := hide_it (H3.out.later E5.out (Nat.le_refl _))
  have G5 : Hid (Duo w5 w4.heap.size (.int .i64 RR) (.slice a4 HS.length c4)) := by show Duo _ _ _ _; rw [hw5.out]; exact Duo.new _ _ _ _
  have K5 := hide_it ((holds_of_row ho4).later al5.out (Nat.le_refl _))
  clear ho4 hb4
  obtain ⟨d0, d1⟩ := D4.out
  have dl := D4.out.lt
  go_wp2_with fail
  rw [← hw5.out]
  refine (lnStock_any RR _ _ HS w5 K5.out H5.out hl9).mono ?_
  rintro e w6 ⟨rfl, hb6⟩
  have N6 := hide_it (N5.out.trans (hb6.mono N5.out.size))
  have D6 := hide_it (D5.out.later hb6 (Nat.le_refl _))
  have G6 := hide_it (G5.out.later hb6 (Nat.le_refl _))
  have H6 := hide_it (H5.out.later hb6 (Nat.le_refl _))
  have K6 := hide_it (K5.out.later hb6 (Nat.le_refl _))
  clear hb6 d0 d1 dl
  obtain ⟨d0, d1⟩ := D6.out
  obtain ⟨g0, g1⟩ := G6.out
  cases BB
  · go_wp2_with fail
    refine (lnStock_any RR _ _ HS w6 K6.out H6.out hl9).mono ?_
    rintro e w7 ⟨rfl, hb7⟩
    have B7 := hide_it (B1.out.trans ((N6.out.trans (hb7.mono N6.out.size)).mono B1.out.size))
    clear hb7
    go_wp2
    go_ret
    exact ⟨rfl, B7.out⟩
  · obtain ⟨hs, hOs⟩ : ∃ hs, O = some hs := Option.isSome_iff_exists.1 hBB.out
    subst hOs
    obtain rfl : room = RR := hRR.out
    obtain rfl : hs = HS := hHS.out
    have hm := Pl.sOf_more (show room ≤ 8 by omega) hO.out
    have hok := Pl.sOf_ok hO.out
    have hok2 := Pl.sOf_ok hm
    have IM3 : Hid (∀ W, Below w1.heap.size w1 W → Calls Tryd.prog 13 #[.int .i64 (room + 1), .slice o1 rs.length c1] W fun e w' => StOut W w' e (room + 1) hs true) := fun W hb => by
      have := IM2.out W hb
      rw [hm] at this; exact this
    obtain ⟨F, hF⟩ : ∃ F, Hid (Pl.sFree room hs = F) := ⟨_, rfl⟩
    have hbd := Pl.sFree_bd room hs
    have hF2 : Hid (Pl.sFree (room + 1) hs = F + 1) := by show _ = _; rw [← hF.out, Pl.sFree_yes hok, Pl.sFree_yes hok2, Pl.free_more]
    rw [hF.out] at hbd
    have FS : Hid (∀ W, Holds W (.slice a4 hs.length c4) hs → Calls Tryd.prog 10 #[.agg #[.int .i64 room, .slice a4 hs.length c4]] W fun e w' => e = .returned (.int .i64 F) ∧ Below W.heap.size W w') := fun W hW => by
      have := implFree_any room _ hs W hW hl9
      rw [hF.out] at this; exact this
    have hr9 : ¬ room = 9 := by omega
    have e9 : (room == 9) = false := by simpa using hr9
    clear hm hok hok2 IM2 SP IM hr9
    go_wp2_with fail
    refine (IM3.out _ N6.out).mono ?_
    rintro e w7 ⟨a7, c7, rfl, ho7, hb7⟩
    have FX : Hid (∀ W, Holds W (.slice a7 hs.length c7) hs → Calls Tryd.prog 10 #[.agg #[.int .i64 (room + 1), .slice a7 hs.length c7]] W fun e w' => e = .returned (.int .i64 (F + 1)) ∧ Below W.heap.size W w') := fun W hW => by
      have := implFree_any (room + 1) _ hs W hW hl9
      rw [hF2.out] at this; exact this
    obtain ⟨w8, hw8⟩ : ∃ W, Hid (W = w7.alloc (.cells #[.int .i64 (room + 1), .slice a7 hs.length c7] 25)) := ⟨_, rfl⟩
    have al8 : Hid (Below w7.heap.size w7 w8) := by show Below _ _ _; rw [hw8.out]; exact alloc_below _ _
    have E8 := hide_it (hb7.trans (al8.out.mono hb7.size))
    have N8 := hide_it (N6.out.trans (E8.out.mono N6.out.size))
    have G8 := hide_it (G6.out.later E8.out (Nat.le_refl _))
    have K8 := hide_it (K6.out.later E8.out (Nat.le_refl _))
    have X8 : Hid (Duo w8 w7.heap.size (.int .i64 (room + 1)) (.slice a7 hs.length c7)) := by show Duo _ _ _ _; rw [hw8.out]; exact Duo.new _ _ _ _
    have Y8 := hide_it ((holds_of_row ho7).later al8.out (Nat.le_refl _))
    have hwr : IntKind.i64.wrap (F + 1) = F + 1 := by simp [IntKind.wrap, IntKind.bits, IntKind.signed]; omega
    have hwr2 : IntKind.i64.wrap (room + 1) = room + 1 := by simp [IntKind.wrap, IntKind.bits, IntKind.signed]; omega
    clear ho7 hb7 d0 d1 g0 g1
    go_wp2_with fail
    rw [← hw8.out]
    obtain ⟨x0, x1⟩ := X8.out
    obtain ⟨g0, g1⟩ := G8.out
    refine wp_region_held_drew (S := fun w' => (w'.cell? ⟨w7.heap.size, 0, none⟩ = some (.int .i64 (room + 1)) ∧ w'.cell? ⟨w7.heap.size, 1, none⟩ = some (.slice a7 hs.length c7)) ∧ w'.cell? ⟨w4.heap.size, 0, none⟩ = some (.int .i64 room) ∧ w'.cell? ⟨w4.heap.size, 1, none⟩ = some (.slice a4 hs.length c4)) (by kernel_rfl) ⟨⟨x0, x1⟩, g0, g1⟩ (fun hHeld => ?_)
    clear x0 x1 g0 g1
    refine takeD (i := 0) (v := ?_) (some 63) rfl rfl (by kernel_rfl) (by kernel_rfl) (by kernel_rfl) (fun _ _ _ h => h) (by rfl) hHeld ?_ ?_
    rotate_left
    · intro W hSw
      try dsimp only at hSw
      go_simp
      try with_reducible rfl
    try simp only [Act.put]
    try simp only [List.setIfInBounds_toArray]
    try simp only [List.set_cons_succ]
    try simp only [List.set_cons_zero]
    refine takeD (i := 1) (v := ?_) (some 64) rfl rfl (by kernel_rfl) (by kernel_rfl) (by kernel_rfl) (fun _ _ _ h => h) (by rfl) hHeld ?_ ?_
    rotate_left
    · intro W hSw
      try dsimp only at hSw
      go_simp
      try with_reducible rfl
    try simp only [Act.put]
    try simp only [List.setIfInBounds_toArray]
    try simp only [List.set_cons_succ]
    try simp only [List.set_cons_zero]
    refine takeD (i := 2) (v := ?_) (some 65) rfl rfl (by kernel_rfl) (by kernel_rfl) (by kernel_rfl) (fun _ _ _ h => h) (by rfl) hHeld ?_ ?_
    rotate_left
    · intro W hSw
      try dsimp only at hSw
      go_simp
      try with_reducible rfl
    try simp only [Act.put]
    try simp only [List.setIfInBounds_toArray]
    try simp only [List.set_cons_succ]
    try simp only [List.set_cons_zero]
    refine takeD (i := 4) (v := ?_) (some 67) rfl rfl (by kernel_rfl) (by kernel_rfl) (by kernel_rfl) (fun _ _ _ h => h) (by rfl) hHeld ?_ ?_
    rotate_left
    · intro W hSw
      try dsimp only at hSw
      go_simp
      try with_reducible rfl
    try simp only [Act.put]
    try simp only [List.setIfInBounds_toArray]
    try simp only [List.set_cons_succ]
    try simp only [List.set_cons_zero]
    refine wpAnyH_ready (rs := [3]) (by kernel_rfl) (by simp) ?_
    refine AllReadyH.cons rfl (fun K hK => ?_) AllReadyH.nil
    go_simp
    refine (FX.out _ (Y8.out.later (Below.refl w8.heap.size w8).drew (Nat.le_refl _))).mono ?_
    rintro e w9 ⟨rfl, hb9⟩
    have E9 := hide_it ((Below.refl w8.heap.size w8).drew.trans hb9)
    clear hb9
    try dsimp only
    refine hK.out _ _ ⟨X8.out.later E9.out (Nat.le_refl _), G8.out.later E9.out (Nat.le_refl _)⟩ (fun hHeld => ?_)
    clear hK K
    refine wpAnyH_ready (rs := [5]) (by kernel_rfl) (by simp) ?_
    refine AllReadyH.cons rfl (fun K hK => ?_) AllReadyH.nil
    go_simp
    refine (FS.out _ (K8.out.later E9.out (Nat.le_refl _))).mono ?_
    rintro e w10 ⟨rfl, hb10⟩
    have E10 := hide_it (E9.out.trans (hb10.mono E9.out.size))
    clear hb10
    try dsimp only
    refine hK.out _ _ ⟨X8.out.later E10.out (Nat.le_refl _), G8.out.later E10.out (Nat.le_refl _)⟩ (fun hHeld => ?_)
    clear hK K
    refine takeD (i := 6) (v := ?_) (some 69) rfl rfl (by kernel_rfl) (by kernel_rfl) (by kernel_rfl) (fun _ _ _ h => h) (by rfl) hHeld ?_ ?_
    rotate_left
    · intro W hSw
      try dsimp only at hSw
      go_simp
      try with_reducible rfl
    try simp only [Act.put]
    try simp only [List.setIfInBounds_toArray]
    try simp only [List.set_cons_succ]
    try simp only [List.set_cons_zero]
    refine takeD (i := 7) (v := .bool true) (some 70) rfl rfl (by kernel_rfl) (by kernel_rfl) (by kernel_rfl) (fun _ _ _ h => h) (by rfl) hHeld ?_ ?_
    · intro W hSw
      try dsimp only at hSw
      first | (go_simp; done) | (go_simp; simp)
    try simp only [Act.put]
    try simp only [List.setIfInBounds_toArray]
    try simp only [List.set_cons_succ]
    try simp only [List.set_cons_zero]
    refine takeD (i := 8) (v := .bool true) (some 71) rfl rfl (by kernel_rfl) (by kernel_rfl) (by kernel_rfl) (fun _ _ _ h => h) (by rfl) hHeld ?_ ?_
    · intro W hSw
      try dsimp only at hSw
      first | (go_simp; done) | (go_simp; simp)
    try simp only [Act.put]
    try simp only [List.setIfInBounds_toArray]
    try simp only [List.set_cons_succ]
    try simp only [List.set_cons_zero]
    refine takeD (i := 9) (v := .bool true) (some 72) rfl rfl (by kernel_rfl) (by kernel_rfl) (by kernel_rfl) (fun _ _ _ h => h) (by rfl) hHeld ?_ ?_
    · intro W hSw
      try dsimp only at hSw
      first | (go_simp; done) | (go_simp; simp)
    try simp only [Act.put]
    try simp only [List.setIfInBounds_toArray]
    try simp only [List.set_cons_succ]
    try simp only [List.set_cons_zero]
    refine takeD (i := 10) (v := ?_) (some 73) rfl rfl (by kernel_rfl) (by kernel_rfl) (by kernel_rfl) (fun _ _ _ h => h) (by rfl) hHeld ?_ ?_
    rotate_left
    · intro W hSw
      try dsimp only at hSw
      go_simp
      try with_reducible rfl
    try simp only [Act.put]
    try simp only [List.setIfInBounds_toArray]
    try simp only [List.set_cons_succ]
    try simp only [List.set_cons_zero]
    refine takeD (i := 11) (v := ?_) (some 74) rfl rfl (by kernel_rfl) (by kernel_rfl) (by kernel_rfl) (fun _ _ _ h => h) (by rfl) hHeld ?_ ?_
    rotate_left
    · intro W hSw
      try dsimp only at hSw
      go_simp
      try with_reducible rfl
    try simp only [Act.put]
    try simp only [List.setIfInBounds_toArray]
    try simp only [List.set_cons_succ]
    try simp only [List.set_cons_zero]
    refine takeD (i := 12) (v := ?_) (some 75) rfl rfl (by kernel_rfl) (by kernel_rfl) (by kernel_rfl) (fun _ _ _ h => h) (by rfl) hHeld ?_ ?_
    rotate_left
    · intro W hSw
      try dsimp only at hSw
      go_simp
      try with_reducible rfl
    try simp only [Act.put]
    try simp only [List.setIfInBounds_toArray]
    try simp only [List.set_cons_succ]
    try simp only [List.set_cons_zero]
    refine takeD (i := 13) (v := ?_) (some 76) rfl rfl (by kernel_rfl) (by kernel_rfl) (by kernel_rfl) (fun _ _ _ h => h) (by rfl) hHeld ?_ ?_
    rotate_left
    · intro W hSw
      try dsimp only at hSw
      go_simp
      try with_reducible rfl
    try simp only [Act.put]
    try simp only [List.setIfInBounds_toArray]
    try simp only [List.set_cons_succ]
    try simp only [List.set_cons_zero]
    refine takeD (i := 14) (v := .bool true) (some 77) rfl rfl (by kernel_rfl) (by kernel_rfl) (by kernel_rfl) (fun _ _ _ h => h) (by rfl) hHeld ?_ ?_
    · intro W hSw
      try dsimp only at hSw
      first | (go_simp; done) | (go_simp; simp)
    try simp only [Act.put]
    try simp only [List.setIfInBounds_toArray]
    try simp only [List.set_cons_succ]
    try simp only [List.set_cons_zero]
    refine takeD (i := 15) (v := .bool true) (some 78) rfl rfl (by kernel_rfl) (by kernel_rfl) (by kernel_rfl) (fun _ _ _ h => h) (by rfl) hHeld ?_ ?_
    · intro W hSw
      try dsimp only at hSw
      first | (go_simp; done) | (go_simp; simp)
    try simp only [Act.put]
    try simp only [List.setIfInBounds_toArray]
    try simp only [List.set_cons_succ]
    try simp only [List.set_cons_zero]
    refine takeD (i := 16) (v := .bool true) (some 2) rfl rfl (by kernel_rfl) (by kernel_rfl) (by kernel_rfl) (fun _ _ _ h => h) (by rfl) hHeld ?_ ?_
    · intro W hSw
      try dsimp only at hSw
      first | (go_simp; done) | (go_simp; simp)
    try simp only [Act.put]
    try simp only [List.setIfInBounds_toArray]
    try simp only [List.set_cons_succ]
    try simp only [List.set_cons_zero]
    refine wpAnyH_done (by kernel_rfl) ?_ _
    have B10 := hide_it (B1.out.trans ((N8.out.trans (E10.out.mono N8.out.size)).mono B1.out.size))
    go_wp2
    go_ret
    exact ⟨rfl, B10.out⟩

end Go.Proofs.YthmbdboljjdcaaaDoor
