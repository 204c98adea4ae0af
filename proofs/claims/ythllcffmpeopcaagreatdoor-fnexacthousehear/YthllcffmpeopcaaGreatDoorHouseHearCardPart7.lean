/- What the last text of this claim stands on, part 7: plain facts and contracts; the last text says what is proved. -/
import Derived.Test.YthllcffmpeopcaaGreatDoorHouseHearCardPart6
import Derived.Deep.RegionHeld

namespace Go.Proofs.YthllcffmpeopcaaGreatDoor
open Go.RowKit

theorem made_split {W X : World} {v : Value} {rs : List R} (h : Made X W.heap.size v rs) : ∃ lo hi ps, Hid (ps.map (·.1) = rs) ∧ Hid (OwnRecs X lo hi v ps) ∧ Hid (hi ≤ X.heap.size) ∧ Hid (lo = W.heap.size) ∧ Hid (hi = X.heap.size) := by
  obtain ⟨ps, hp, ho⟩ := h
  exact ⟨_, _, ps, hp, ho, Nat.le_refl _, rfl, rfl⟩
theorem le_at {a b c : Nat} (h : Hid (b = c)) (hl : a ≤ c) : Hid (a ≤ b) := by show a ≤ b; rw [h.out]; exact hl
theorem lt_at {a b c : Nat} (h : Hid (b = c)) (hl : a < c) : a < b := by rw [h.out]; exact hl
theorem alc_new (W : World) (cs : Array Value) (ty : TypeId) : ∃ X b, Hid (X = W.alloc (.cells cs ty)) ∧ Hid (b = W.heap.size) ∧ Below W.heap.size W X ∧ Hid (Blk X b cs ty) :=
  ⟨_, _, rfl, rfl, alloc_below _ _, Blk.new _ _ _⟩

set_option maxHeartbeats 1000000 in
theorem eqWord_sameH (k h t m : Int) (w : World) :
    Calls Tryz.prog 14 #[wordV k h t m, wordV k h t m] w fun e w' => e = .returned (.bool true) ∧ Below w.heap.size w w' := by
  go_enter Tryz.func14, Tryz.ntmps14
  go_wp2
  go_ret
  exact ⟨rfl, ((Below.refl _ _).alloc (Nat.le_refl _) _).alloc (by simp) _⟩

set_option maxHeartbeats 1000000 in
theorem lawHHear_great (id : Int) (up : Bool) (room : Int) (v : Value) (rs : List R) (f k h t m : Int) (w : World) (hv : Recs w v rs) (hl : (rs.length : Int) ≤ 9223372036854775807) (hls : ∀ r ∈ rs, (r.2.2.length : Int) ≤ 9223372036854775807) (hg : 1048576 < (tot rs : Int)) :
    Calls Tryz.prog 3 #[houseV id up room v f, wordV k h t m] w fun e w' => e = .returned (.bool true) ∧ Below w.heap.size w w' := by
  have HS : Hid (∀ o o', Calls Tryz.prog 8 #[houseV id up room v f, .int .i64 1048576] ((w.alloc o).alloc o') fun e w' => e = .returned (.int .i64 (-1)) ∧ Below w.heap.size w w') := fun o o' => by
    have := szHouse_any id up room v rs f 1048576 ((w.alloc o).alloc o') (hv.later (below2 w o o') (Nat.le_refl _)) hl hls (by omega) (by omega)
    rw [leftOf_neg (by omega)] at this
    exact this.mono fun e w' h => ⟨h.1, a2 h.2⟩
  obtain ⟨av, cv, rfl⟩ := hv.shape
  clear hv hl hls hg
  go_enter Tryz.func3, Tryz.ntmps3
  go_wp2_with (go_at_call 8; refine (HS.out _ _).mono ?_; rintro e w1 ⟨rfl, hb⟩)
  go_ret
  exact ⟨rfl, by assumption⟩

set_option maxRecDepth 100000 in
set_option maxHeartbeats 64000000 in
theorem lawHHear_small (id : Int) (up : Bool) (room : Int) (v : Value) (rs : List R) (f k h t m : Int) (a : Addr) (w : World) (hv : Recs w v rs) (ha : ErrAt w a) (hl : tot rs ≤ 1048576) :
    Calls Tryz.prog 3 #[houseV id up room v f, wordV k h t m] w fun e w' => e = .returned (.bool true) ∧ Below w.heap.size w w' := by
  have hrl := tot_len rs
  have HS : Hid (∀ o o', Calls Tryz.prog 8 #[houseV id up room v f, .int .i64 1048576] ((w.alloc o).alloc o') fun e w' => e = .returned (.int .i64 (1048576 - tot rs)) ∧ Below ((w.alloc o).alloc o').heap.size ((w.alloc o).alloc o') w') := fun o o' => by
    have := szHouse_any id up room v rs f 1048576 ((w.alloc o).alloc o') (hv.later (below2 w o o') (Nat.le_refl _)) (by omega) (fun r hr => by have := tot_mem rs r hr; omega) (by omega) (by omega)
    rw [leftOf_pos (by omega)] at this
    exact this
  have HV : Hid (∀ W, Below w.heap.size w W → Recs W v rs) := fun W h => hv.later h (Nat.le_refl _)
  have HA : Hid (∀ W, Below w.heap.size w W → ErrAt W a) := fun W h => ha.later h (Nat.le_refl _)
  obtain ⟨av, cv, hvs⟩ := hv.shape
  have H0 : Hid (Blk ((w.alloc (.cells #[.int .i64 id, .bool up, .int .i64 room, v, .int .i64 f] 26)).alloc (.cells #[.int .i64 k, .int .i64 h, .int .i64 t, .int .i64 m] 28)) w.heap.size #[.int .i64 id, .bool up, .int .i64 room, v, .int .i64 f] 26) := (Blk.new _ _ _).alloc _
  have K0 : Hid (Blk ((w.alloc (.cells #[.int .i64 id, .bool up, .int .i64 room, v, .int .i64 f] 26)).alloc (.cells #[.int .i64 k, .int .i64 h, .int .i64 t, .int .i64 m] 28)) (w.heap.size + 1) #[.int .i64 k, .int .i64 h, .int .i64 t, .int .i64 m] 28) := Blk.new2 _ _ _ _
  clear hv ha
  subst hvs
  obtain ⟨⟨⟨ID, UP, ROOM, RS, F⟩, ⟨X1, X2, X3⟩, YB⟩, hO⟩ : ∃ o : He, Hid (hearO id up room rs f k h t m = o) := ⟨_, rfl⟩
  have hRl : tot RS ≤ 1048576 := by have := hearO_tot id up room rs f k h t m hl; rw [hO.out] at this; exact this
  have HSP : Hid (∀ (x : Value) (W : World), Recs W x rs → Calls Tryz.prog 9 #[houseV id up room x f, wordV k h t m] W fun e w' => ∃ ao cap, e = .returned (.tuple #[houseV ID UP ROOM (.slice ao RS.length cap) F, wordV X1 X2 X3 0, .bool YB]) ∧ Made w' W.heap.size (.slice ao RS.length cap) RS ∧ Below W.heap.size W w') := fun x W h1 => by
    have := specHear_any id up room x rs f k h t m W h1 hl; rw [hO.out] at this; exact this
  have HIM : Hid (∀ (x : Value) (W : World), Recs W x rs → Form x rs.length → ErrAt W a → Calls Tryz.prog 12 #[houseV id up room x f, wordV k h t m] W fun e w' => ∃ ao cap, e = .returned (.tuple #[houseV ID UP ROOM (.slice ao RS.length cap) F, wordV X1 X2 X3 0, .bool YB]) ∧ Made w' W.heap.size (.slice ao RS.length cap) RS ∧ Below W.heap.size W w') := fun x W h1 hfm h2 => by
    have := implHear_any id up room x rs f k h t m a W h1 hfm hl h2; rw [hO.out] at this; exact this
  have hKb := kAt_bd RS 1 RS.length (Nat.le_refl _) hRl (by omega) (by omega)
  have hKx := kAt_bd rs 1 rs.length (Nat.le_refl _) hl (by omega) (by omega)
  go_enter Tryz.func3, Tryz.ntmps3
  go_wp2_with fail
  refine (HS.out _ _).mono ?_
  rintro e w1 ⟨rfl, hb1⟩
  have B1 := hide_it (a2 hb1)
  have T1 := hide_it (H0.out.after hb1)
  have K1 := hide_it (K0.out.after hb1)
  have hz1 : w.heap.size + 1 < w1.heap.size := K1.out.lt
  clear hb1
  obtain ⟨c0, c1, c2, c3, c4⟩ := T1.out.cells5
  obtain ⟨y0, y1, y2, y3⟩ := K1.out.cells4
  have KK : Hid (∀ W, Below w1.heap.size w1 W → (let w' := W; (w'.cell? ⟨w.heap.size, 0, none⟩ = some (.int .i64 id) ∧ w'.cell? ⟨w.heap.size, 1, none⟩ = some (.bool up) ∧ w'.cell? ⟨w.heap.size, 2, none⟩ = some (.int .i64 room) ∧ w'.cell? ⟨w.heap.size, 3, none⟩ = some (.slice av rs.length cv) ∧ w'.cell? ⟨w.heap.size, 4, none⟩ = some (.int .i64 f)) ∧ (w'.cell? ⟨w.heap.size + 1, 0, none⟩ = some (.int .i64 k) ∧ w'.cell? ⟨w.heap.size + 1, 1, none⟩ = some (.int .i64 h) ∧ w'.cell? ⟨w.heap.size + 1, 2, none⟩ = some (.int .i64 t) ∧ w'.cell? ⟨w.heap.size + 1, 3, none⟩ = some (.int .i64 m)))) := fun W hb => ⟨(T1.out.after hb).cells5, (K1.out.after hb).cells4⟩
  go_wp2_with fail
  go_cut [6, 7, 8] (fun p q b W => ∃ bh bw a5 c5 ps lo hi, p = .pointer (some ⟨bh, 0, none⟩) ∧ q = .pointer (some ⟨bw, 0, none⟩) ∧ b = .bool YB ∧ Hid (ps.map (·.1) = RS) ∧ Hid (MetE w1 W bh bw ID UP ROOM (.slice a5 RS.length c5) F X1 X2 X3 ps lo hi))
  case first =>
    as_aux_lemma =>
      obtain ⟨wdhh5, hwdhh5⟩ : ∃ W, Hid (W = w1.drew) := ⟨_, rfl⟩
      have LW : Hid (Below w1.heap.size w1 wdhh5) := by show Below _ _ _; rw [hwdhh5.out]; exact (Below.refl _ _).drew
      refine wp_region_held_drew (S := fun w' => (w'.cell? ⟨w.heap.size, 0, none⟩ = some (.int .i64 id) ∧ w'.cell? ⟨w.heap.size, 1, none⟩ = some (.bool up) ∧ w'.cell? ⟨w.heap.size, 2, none⟩ = some (.int .i64 room) ∧ w'.cell? ⟨w.heap.size, 3, none⟩ = some (.slice av rs.length cv) ∧ w'.cell? ⟨w.heap.size, 4, none⟩ = some (.int .i64 f)) ∧ (w'.cell? ⟨w.heap.size + 1, 0, none⟩ = some (.int .i64 k) ∧ w'.cell? ⟨w.heap.size + 1, 1, none⟩ = some (.int .i64 h) ∧ w'.cell? ⟨w.heap.size + 1, 2, none⟩ = some (.int .i64 t) ∧ w'.cell? ⟨w.heap.size + 1, 3, none⟩ = some (.int .i64 m))) (by kernel_rfl) (KK.out _ (Below.refl _ _).drew) (fun hHeld => ?_)
      rw [← hwdhh5.out] at hHeld ⊢
      refine takeD (i := 0) (v := ?_) (some 25) rfl rfl (by kernel_rfl) (by kernel_rfl) (by kernel_rfl) (fun _ _ _ h => h) (by rfl) hHeld ?_ ?_
      rotate_left
      · intro W hSw
        try dsimp only at hSw
        go_simp
        try with_reducible rfl
      try simp only [Act.put]
      try simp only [List.setIfInBounds_toArray]
      try simp only [List.set_cons_succ]
      try simp only [List.set_cons_zero]
      refine takeD (i := 2) (v := ?_) (some 27) rfl rfl (by kernel_rfl) (by kernel_rfl) (by kernel_rfl) (fun _ _ _ h => h) (by rfl) hHeld ?_ ?_
      rotate_left
      · intro W hSw
        try dsimp only at hSw
        go_simp
        try with_reducible rfl
      try simp only [Act.put]
      try simp only [List.setIfInBounds_toArray]
      try simp only [List.set_cons_succ]
      try simp only [List.set_cons_zero]
      refine wpAnyH_ready (rs := [1, 9, 10]) (by kernel_rfl) (by simp) ?_
      refine AllReadyH.cons rfl (fun K hK => ?_) (AllReadyH.cons rfl (fun K hK => ?_) (AllReadyH.cons rfl (fun K hK => ?_) AllReadyH.nil))
      go_simp
      refine (toHouse_any id up room _ rs f wdhh5 (HV.out _ (B1.out.trans (LW.out.mono B1.out.size))) hl).mono ?_
      rintro e wr1 ⟨aH, cH, rfl, hm, hb⟩
      have VH := hide_it hm.recs
      have FMH := hide_it (form_made hm)
      clear hm
      replace LW : Hid (Below w1.heap.size w1 wr1) := LW.out.trans (hb.mono LW.out.size)
      clear hb
      try dsimp only
      refine hK.out _ _ (KK.out _ LW.out) (fun hHeld => ?_)
      clear hK K
      refine wpAnyH_ready (rs := [3, 9, 10]) (by kernel_rfl) (by simp) ?_
      refine AllReadyH.cons rfl (fun K hK => ?_) (AllReadyH.cons rfl (fun K hK => ?_) (AllReadyH.cons rfl (fun K hK => ?_) AllReadyH.nil))
      go_simp
      refine (toWord_any k h t m wr1).mono ?_
      rintro e wr2 ⟨rfl, hb⟩
      replace VH := hide_it (VH.out.later hb (Nat.le_refl _))
      replace LW : Hid (Below w1.heap.size w1 wr2) := LW.out.trans (hb.mono LW.out.size)
      clear hb
      try dsimp only
      refine hK.out _ _ (KK.out _ LW.out) (fun hHeld => ?_)
      clear hK K
      refine wpAnyH_ready (rs := [4, 9, 10]) (by kernel_rfl) (by simp) ?_
      refine AllReadyH.cons rfl (fun K hK => ?_) (AllReadyH.cons rfl (fun K hK => ?_) (AllReadyH.cons rfl (fun K hK => ?_) AllReadyH.nil))
      go_simp
      refine (HSP.out _ wr2 VH.out).mono ?_
      rintro e wr3 ⟨aC, cC, rfl, hm, hb⟩
      obtain ⟨lo, hi, pC, P, O, Z, hlo, hhi⟩ := made_split hm
      have LL : Hid (w1.heap.size ≤ lo) := le_at hlo LW.out.size
      clear hm hlo hhi VH
      replace LW : Hid (Below w1.heap.size w1 wr3) := LW.out.trans (hb.mono LW.out.size)
      clear hb
      try dsimp only
      refine hK.out _ _ (KK.out _ LW.out) (fun hHeld => ?_)
      clear hK K
      refine takeD (i := 5) (v := ?_) (some 24) rfl rfl (by kernel_rfl) (by kernel_rfl) (by kernel_rfl) (fun _ _ _ h => h) (by rfl) hHeld ?_ ?_
      rotate_left
      · intro W hSw
        try dsimp only at hSw
        go_simp
        try with_reducible rfl
      try simp only [Act.put]
      try simp only [List.setIfInBounds_toArray]
      try simp only [List.set_cons_succ]
      try simp only [List.set_cons_zero]
      refine takeD (i := 6) (v := ?_) (some 30) rfl rfl (by kernel_rfl) (by kernel_rfl) (by kernel_rfl) (fun _ _ _ h => h) (by rfl) hHeld ?_ ?_
      rotate_left
      · intro W hSw
        try dsimp only at hSw
        go_simp
        try with_reducible rfl
      try simp only [Act.put]
      try simp only [List.setIfInBounds_toArray]
      try simp only [List.set_cons_succ]
      try simp only [List.set_cons_zero]
      refine takeD (i := 7) (v := ?_) (some 31) rfl rfl (by kernel_rfl) (by kernel_rfl) (by kernel_rfl) (fun _ _ _ h => h) (by rfl) hHeld ?_ ?_
      rotate_left
      · intro W hSw
        try dsimp only at hSw
        go_simp
        try with_reducible rfl
      try simp only [Act.put]
      try simp only [List.setIfInBounds_toArray]
      try simp only [List.set_cons_succ]
      try simp only [List.set_cons_zero]
      refine takeD (i := 8) (v := ?_) (some 32) rfl rfl (by kernel_rfl) (by kernel_rfl) (by kernel_rfl) (fun _ _ _ h => h) (by rfl) hHeld ?_ ?_
      rotate_left
      · intro W hSw
        try dsimp only at hSw
        go_simp
        try with_reducible rfl
      try simp only [Act.put]
      try simp only [List.setIfInBounds_toArray]
      try simp only [List.set_cons_succ]
      try simp only [List.set_cons_zero]
      refine wpAnyH_ready (rs := [9, 10]) (by kernel_rfl) (by simp) ?_
      refine AllReadyH.cons rfl (fun K hK => ?_) (AllReadyH.cons rfl (fun K hK => ?_) AllReadyH.nil)
      go_simp
      obtain ⟨wr4, bh, hX, hB, hb, YH⟩ := alc_new wr3 #[.int .i64 0, .bool false, .int .i64 0, .slice none 0 0, .int .i64 0] 34
      have LBH : Hid (w1.heap.size ≤ bh) := le_at hB LW.out.size
      have AH : Hid (bh < lo ∨ hi ≤ bh) := Or.inr (le_at hB Z.out)
      replace O := hide_it (O.out.below hb Z.out)
      replace Z : Hid (hi ≤ wr4.heap.size) := Nat.le_trans Z.out hb.size
      replace LW : Hid (Below w1.heap.size w1 wr4) := LW.out.trans (hb.mono LW.out.size)
      clear hb
      rw [← hX.out]
      try dsimp only
      refine hK.out _ _ (KK.out _ LW.out) (fun hHeld => ?_)
      clear hK K
      rw [← hB.out]
      clear hX hB
      refine wpAnyH_ready (rs := [10]) (by kernel_rfl) (by simp) ?_
      refine AllReadyH.cons rfl (fun K hK => ?_) AllReadyH.nil
      go_simp
      obtain ⟨wr5, bw, hX, hB, hb, YW⟩ := alc_new wr4 #[.int .i64 0, .int .i64 0, .int .i64 0, .int .i64 0] 35
      have LBW : Hid (w1.heap.size ≤ bw) := le_at hB LW.out.size
      have AW : Hid (bw < lo ∨ hi ≤ bw) := Or.inr (le_at hB Z.out)
      replace YH := hide_it (YH.out.after hb)
      replace O := hide_it (O.out.below hb Z.out)
      replace Z : Hid (hi ≤ wr5.heap.size) := Nat.le_trans Z.out hb.size
      replace LW : Hid (Below w1.heap.size w1 wr5) := LW.out.trans (hb.mono LW.out.size)
      clear hb
      rw [← hX.out]
      try dsimp only
      refine hK.out _ _ (KK.out _ LW.out) (fun hHeld => ?_)
      clear hK K
      rw [← hB.out]
      clear hX hB
      rotate_left
      go_simp
      obtain ⟨wr4, bw, hX, hB, hb, YW⟩ := alc_new wr3 #[.int .i64 0, .int .i64 0, .int .i64 0, .int .i64 0] 35
      have LBW : Hid (w1.heap.size ≤ bw) := le_at hB LW.out.size
      have AW : Hid (bw < lo ∨ hi ≤ bw) := Or.inr (le_at hB Z.out)
      replace O := hide_it (O.out.below hb Z.out)
      replace Z : Hid (hi ≤ wr4.heap.size) := Nat.le_trans Z.out hb.size
      replace LW : Hid (Below w1.heap.size w1 wr4) := LW.out.trans (hb.mono LW.out.size)
      clear hb
      rw [← hX.out]
      try dsimp only
      refine hK.out _ _ (KK.out _ LW.out) (fun hHeld => ?_)
      clear hK K
      rw [← hB.out]
      clear hX hB
      refine wpAnyH_ready (rs := [9]) (by kernel_rfl) (by simp) ?_
      refine AllReadyH.cons rfl (fun K hK => ?_) AllReadyH.nil
      go_simp
      obtain ⟨wr5, bh, hX, hB, hb, YH⟩ := alc_new wr4 #[.int .i64 0, .bool false, .int .i64 0, .slice none 0 0, .int .i64 0] 34
      have LBH : Hid (w1.heap.size ≤ bh) := le_at hB LW.out.size
      have AH : Hid (bh < lo ∨ hi ≤ bh) := Or.inr (le_at hB Z.out)
      replace YW := hide_it (YW.out.after hb)
      replace O := hide_it (O.out.below hb Z.out)
      replace Z : Hid (hi ≤ wr5.heap.size) := Nat.le_trans Z.out hb.size
      replace LW : Hid (Below w1.heap.size w1 wr5) := LW.out.trans (hb.mono LW.out.size)
      clear hb
      rw [← hX.out]
      try dsimp only
      refine hK.out _ _ (KK.out _ LW.out) (fun hHeld => ?_)
      clear hK K
      rw [← hB.out]
      clear hX hB
      rotate_left
      go_simp
      obtain ⟨wr3, bh, hX, hB, hb, YH⟩ := alc_new wr2 #[.int .i64 0, .bool false, .int .i64 0, .slice none 0 0, .int .i64 0] 34
      have LBH : Hid (w1.heap.size ≤ bh) := le_at hB LW.out.size
      replace VH := hide_it (VH.out.later hb (Nat.le_refl _))
      replace LW : Hid (Below w1.heap.size w1 wr3) := LW.out.trans (hb.mono LW.out.size)
      clear hb
      rw [← hX.out]
      try dsimp only
      refine hK.out _ _ (KK.out _ LW.out) (fun hHeld => ?_)
      clear hK K
      rw [← hB.out]
      clear hX hB
      refine wpAnyH_ready (rs := [4, 10]) (by kernel_rfl) (by simp) ?_
      refine AllReadyH.cons rfl (fun K hK => ?_) (AllReadyH.cons rfl (fun K hK => ?_) AllReadyH.nil)
      go_simp
      refine (HSP.out _ wr3 VH.out).mono ?_
      rintro e wr4 ⟨aC, cC, rfl, hm, hb⟩
      obtain ⟨lo, hi, pC, P, O, Z, hlo, hhi⟩ := made_split hm
      have LL : Hid (w1.heap.size ≤ lo) := le_at hlo LW.out.size
      have AH : Hid (bh < lo ∨ hi ≤ bh) := Or.inl (lt_at hlo YH.out.lt)
      clear hm hlo hhi VH
      replace YH := hide_it (YH.out.after hb)
      replace LW : Hid (Below w1.heap.size w1 wr4) := LW.out.trans (hb.mono LW.out.size)
      clear hb
      try dsimp only
      refine hK.out _ _ (KK.out _ LW.out) (fun hHeld => ?_)
      clear hK K
      refine takeD (i := 5) (v := ?_) (some 24) rfl rfl (by kernel_rfl) (by kernel_rfl) (by kernel_rfl) (fun _ _ _ h => h) (by rfl) hHeld ?_ ?_
      rotate_left
      · intro W hSw
        try dsimp only at hSw
        go_simp
        try with_reducible rfl
      try simp only [Act.put]
      try simp only [List.setIfInBounds_toArray]
      try simp only [List.set_cons_succ]
      try simp only [List.set_cons_zero]
      refine takeD (i := 6) (v := ?_) (some 30) rfl rfl (by kernel_rfl) (by kernel_rfl) (by kernel_rfl) (fun _ _ _ h => h) (by rfl) hHeld ?_ ?_
      rotate_left
      · intro W hSw
        try dsimp only at hSw
        go_simp
        try with_reducible rfl
      try simp only [Act.put]
      try simp only [List.setIfInBounds_toArray]
      try simp only [List.set_cons_succ]
      try simp only [List.set_cons_zero]
      refine takeD (i := 7) (v := ?_) (some 31) rfl rfl (by kernel_rfl) (by kernel_rfl) (by kernel_rfl) (fun _ _ _ h => h) (by rfl) hHeld ?_ ?_
      rotate_left
      · intro W hSw
        try dsimp only at hSw
        go_simp
        try with_reducible rfl
      try simp only [Act.put]
      try simp only [List.setIfInBounds_toArray]
      try simp only [List.set_cons_succ]
      try simp only [List.set_cons_zero]
      refine takeD (i := 8) (v := ?_) (some 32) rfl rfl (by kernel_rfl) (by kernel_rfl) (by kernel_rfl) (fun _ _ _ h => h) (by rfl) hHeld ?_ ?_
      rotate_left
      · intro W hSw
        try dsimp only at hSw
        go_simp
        try with_reducible rfl
      try simp only [Act.put]
      try simp only [List.setIfInBounds_toArray]
      try simp only [List.set_cons_succ]
      try simp only [List.set_cons_zero]
      refine wpAnyH_ready (rs := [10]) (by kernel_rfl) (by simp) ?_
      refine AllReadyH.cons rfl (fun K hK => ?_) AllReadyH.nil
      go_simp
      obtain ⟨wr5, bw, hX, hB, hb, YW⟩ := alc_new wr4 #[.int .i64 0, .int .i64 0, .int .i64 0, .int .i64 0] 35
      have LBW : Hid (w1.heap.size ≤ bw) := le_at hB LW.out.size
      have AW : Hid (bw < lo ∨ hi ≤ bw) := Or.inr (le_at hB Z.out)
      replace YH := hide_it (YH.out.after hb)
      replace O := hide_it (O.out.below hb Z.out)
      replace Z : Hid (hi ≤ wr5.heap.size) := Nat.le_trans Z.out hb.size
      replace LW : Hid (Below w1.heap.size w1 wr5) := LW.out.trans (hb.mono LW.out.size)
      clear hb
      rw [← hX.out]
      try dsimp only
      refine hK.out _ _ (KK.out _ LW.out) (fun hHeld => ?_)
      clear hK K
      rw [← hB.out]
      clear hX hB
      rotate_left
      go_simp
      obtain ⟨wr4, bw, hX, hB, hb, YW⟩ := alc_new wr3 #[.int .i64 0, .int .i64 0, .int .i64 0, .int .i64 0] 35
      have LBW : Hid (w1.heap.size ≤ bw) := le_at hB LW.out.size
      replace YH := hide_it (YH.out.after hb)
      replace VH := hide_it (VH.out.later hb (Nat.le_refl _))
      replace LW : Hid (Below w1.heap.size w1 wr4) := LW.out.trans (hb.mono LW.out.size)
      clear hb
      rw [← hX.out]
      try dsimp only
      refine hK.out _ _ (KK.out _ LW.out) (fun hHeld => ?_)
      clear hK K
      rw [← hB.out]
      clear hX hB
      refine wpAnyH_ready (rs := [4]) (by kernel_rfl) (by simp) ?_
      refine AllReadyH.cons rfl (fun K hK => ?_) AllReadyH.nil
      go_simp
      refine (HSP.out _ wr4 VH.out).mono ?_
      rintro e wr5 ⟨aC, cC, rfl, hm, hb⟩
      obtain ⟨lo, hi, pC, P, O, Z, hlo, hhi⟩ := made_split hm
      have LL : Hid (w1.heap.size ≤ lo) := le_at hlo LW.out.size
      have AH : Hid (bh < lo ∨ hi ≤ bh) := Or.inl (lt_at hlo YH.out.lt)
      have AW : Hid (bw < lo ∨ hi ≤ bw) := Or.inl (lt_at hlo YW.out.lt)
      clear hm hlo hhi VH
      replace YH := hide_it (YH.out.after hb)
      replace YW := hide_it (YW.out.after hb)
      replace LW : Hid (Below w1.heap.size w1 wr5) := LW.out.trans (hb.mono LW.out.size)
      clear hb
      try dsimp only
      refine hK.out _ _ (KK.out _ LW.out) (fun hHeld => ?_)
      clear hK K
      refine takeD (i := 5) (v := ?_) (some 24) rfl rfl (by kernel_rfl) (by kernel_rfl) (by kernel_rfl) (fun _ _ _ h => h) (by rfl) hHeld ?_ ?_
      rotate_left
      · intro W hSw
        try dsimp only at hSw
        go_simp
        try with_reducible rfl
      try simp only [Act.put]
      try simp only [List.setIfInBounds_toArray]
      try simp only [List.set_cons_succ]
      try simp only [List.set_cons_zero]
      refine takeD (i := 6) (v := ?_) (some 30) rfl rfl (by kernel_rfl) (by kernel_rfl) (by kernel_rfl) (fun _ _ _ h => h) (by rfl) hHeld ?_ ?_
      rotate_left
      · intro W hSw
        try dsimp only at hSw
        go_simp
        try with_reducible rfl
      try simp only [Act.put]
      try simp only [List.setIfInBounds_toArray]
      try simp only [List.set_cons_succ]
      try simp only [List.set_cons_zero]
      refine takeD (i := 7) (v := ?_) (some 31) rfl rfl (by kernel_rfl) (by kernel_rfl) (by kernel_rfl) (fun _ _ _ h => h) (by rfl) hHeld ?_ ?_
      rotate_left
      · intro W hSw
        try dsimp only at hSw
        go_simp
        try with_reducible rfl
      try simp only [Act.put]
      try simp only [List.setIfInBounds_toArray]
      try simp only [List.set_cons_succ]
      try simp only [List.set_cons_zero]
      refine takeD (i := 8) (v := ?_) (some 32) rfl rfl (by kernel_rfl) (by kernel_rfl) (by kernel_rfl) (fun _ _ _ h => h) (by rfl) hHeld ?_ ?_
      rotate_left
      · intro W hSw
        try dsimp only at hSw
        go_simp
        try with_reducible rfl
      try simp only [Act.put]
      try simp only [List.setIfInBounds_toArray]
      try simp only [List.set_cons_succ]
      try simp only [List.set_cons_zero]
      rotate_left
      go_simp
      obtain ⟨wr3, bw, hX, hB, hb, YW⟩ := alc_new wr2 #[.int .i64 0, .int .i64 0, .int .i64 0, .int .i64 0] 35
      have LBW : Hid (w1.heap.size ≤ bw) := le_at hB LW.out.size
      replace VH := hide_it (VH.out.later hb (Nat.le_refl _))
      replace LW : Hid (Below w1.heap.size w1 wr3) := LW.out.trans (hb.mono LW.out.size)
      clear hb
      rw [← hX.out]
      try dsimp only
      refine hK.out _ _ (KK.out _ LW.out) (fun hHeld => ?_)
      clear hK K
      rw [← hB.out]
      clear hX hB
      refine wpAnyH_ready (rs := [4, 9]) (by kernel_rfl) (by simp) ?_
      refine AllReadyH.cons rfl (fun K hK => ?_) (AllReadyH.cons rfl (fun K hK => ?_) AllReadyH.nil)
      go_simp
      refine (HSP.out _ wr3 VH.out).mono ?_
      rintro e wr4 ⟨aC, cC, rfl, hm, hb⟩
      obtain ⟨lo, hi, pC, P, O, Z, hlo, hhi⟩ := made_split hm
      have LL : Hid (w1.heap.size ≤ lo) := le_at hlo LW.out.size
      have AW : Hid (bw < lo ∨ hi ≤ bw) := Or.inl (lt_at hlo YW.out.lt)
      clear hm hlo hhi VH
      replace YW := hide_it (YW.out.after hb)
      replace LW : Hid (Below w1.heap.size w1 wr4) := LW.out.trans (hb.mono LW.out.size)
      clear hb
      try dsimp only
      refine hK.out _ _ (KK.out _ LW.out) (fun hHeld => ?_)
      clear hK K
      refine takeD (i := 5) (v := ?_) (some 24) rfl rfl (by kernel_rfl) (by kernel_rfl) (by kernel_rfl) (fun _ _ _ h => h) (by rfl) hHeld ?_ ?_
      rotate_left
      · intro W hSw
        try dsimp only at hSw
        go_simp
        try with_reducible rfl
      try simp only [Act.put]
      try simp only [List.setIfInBounds_toArray]
      try simp only [List.set_cons_succ]
      try simp only [List.set_cons_zero]
      refine takeD (i := 6) (v := ?_) (some 30) rfl rfl (by kernel_rfl) (by kernel_rfl) (by kernel_rfl) (fun _ _ _ h => h) (by rfl) hHeld ?_ ?_
      rotate_left
      · intro W hSw
        try dsimp only at hSw
        go_simp
        try with_reducible rfl
      try simp only [Act.put]
      try simp only [List.setIfInBounds_toArray]
      try simp only [List.set_cons_succ]
      try simp only [List.set_cons_zero]
      refine takeD (i := 7) (v := ?_) (some 31) rfl rfl (by kernel_rfl) (by kernel_rfl) (by kernel_rfl) (fun _ _ _ h => h) (by rfl) hHeld ?_ ?_
      rotate_left
      · intro W hSw
        try dsimp only at hSw
        go_simp
        try with_reducible rfl
      try simp only [Act.put]
      try simp only [List.setIfInBounds_toArray]
      try simp only [List.set_cons_succ]
      try simp only [List.set_cons_zero]
      refine takeD (i := 8) (v := ?_) (some 32) rfl rfl (by kernel_rfl) (by kernel_rfl) (by kernel_rfl) (fun _ _ _ h => h) (by rfl) hHeld ?_ ?_
      rotate_left
      · intro W hSw
        try dsimp only at hSw
        go_simp
        try with_reducible rfl
      try simp only [Act.put]
      try simp only [List.setIfInBounds_toArray]
      try simp only [List.set_cons_succ]
      try simp only [List.set_cons_zero]
      refine wpAnyH_ready (rs := [9]) (by kernel_rfl) (by simp) ?_
      refine AllReadyH.cons rfl (fun K hK => ?_) AllReadyH.nil
      go_simp
      obtain ⟨wr5, bh, hX, hB, hb, YH⟩ := alc_new wr4 #[.int .i64 0, .bool false, .int .i64 0, .slice none 0 0, .int .i64 0] 34
      have LBH : Hid (w1.heap.size ≤ bh) := le_at hB LW.out.size
      have AH : Hid (bh < lo ∨ hi ≤ bh) := Or.inr (le_at hB Z.out)
      replace YW := hide_it (YW.out.after hb)
      replace O := hide_it (O.out.below hb Z.out)
      replace Z : Hid (hi ≤ wr5.heap.size) := Nat.le_trans Z.out hb.size
      replace LW : Hid (Below w1.heap.size w1 wr5) := LW.out.trans (hb.mono LW.out.size)
      clear hb
      rw [← hX.out]
      try dsimp only
      refine hK.out _ _ (KK.out _ LW.out) (fun hHeld => ?_)
      clear hK K
      rw [← hB.out]
      clear hX hB
      rotate_left
      go_simp
      obtain ⟨wr4, bh, hX, hB, hb, YH⟩ := alc_new wr3 #[.int .i64 0, .bool false, .int .i64 0, .slice none 0 0, .int .i64 0] 34
      have LBH : Hid (w1.heap.size ≤ bh) := le_at hB LW.out.size
      replace YW := hide_it (YW.out.after hb)
      replace VH := hide_it (VH.out.later hb (Nat.le_refl _))
      replace LW : Hid (Below w1.heap.size w1 wr4) := LW.out.trans (hb.mono LW.out.size)
      clear hb
      rw [← hX.out]
      try dsimp only
      refine hK.out _ _ (KK.out _ LW.out) (fun hHeld => ?_)
      clear hK K
      rw [← hB.out]
      clear hX hB
      refine wpAnyH_ready (rs := [4]) (by kernel_rfl) (by simp) ?_
      refine AllReadyH.cons rfl (fun K hK => ?_) AllReadyH.nil
      go_simp
      refine (HSP.out _ wr4 VH.out).mono ?_
      rintro e wr5 ⟨aC, cC, rfl, hm, hb⟩
      obtain ⟨lo, hi, pC, P, O, Z, hlo, hhi⟩ := made_split hm
      have LL : Hid (w1.heap.size ≤ lo) := le_at hlo LW.out.size
      have AH : Hid (bh < lo ∨ hi ≤ bh) := Or.inl (lt_at hlo YH.out.lt)
      have AW : Hid (bw < lo ∨ hi ≤ bw) := Or.inl (lt_at hlo YW.out.lt)
      clear hm hlo hhi VH
      replace YH := hide_it (YH.out.after hb)
      replace YW := hide_it (YW.out.after hb)
      replace LW : Hid (Below w1.heap.size w1 wr5) := LW.out.trans (hb.mono LW.out.size)
      clear hb
      try dsimp only
      refine hK.out _ _ (KK.out _ LW.out) (fun hHeld => ?_)
      clear hK K
      refine takeD (i := 5) (v := ?_) (some 24) rfl rfl (by kernel_rfl) (by kernel_rfl) (by kernel_rfl) (fun _ _ _ h => h) (by rfl) hHeld ?_ ?_
      rotate_left
      · intro W hSw
        try dsimp only at hSw
        go_simp
        try with_reducible rfl
      try simp only [Act.put]
      try simp only [List.setIfInBounds_toArray]
      try simp only [List.set_cons_succ]
      try simp only [List.set_cons_zero]
      refine takeD (i := 6) (v := ?_) (some 30) rfl rfl (by kernel_rfl) (by kernel_rfl) (by kernel_rfl) (fun _ _ _ h => h) (by rfl) hHeld ?_ ?_
      rotate_left
      · intro W hSw
        try dsimp only at hSw
        go_simp
        try with_reducible rfl
      try simp only [Act.put]
      try simp only [List.setIfInBounds_toArray]
      try simp only [List.set_cons_succ]
      try simp only [List.set_cons_zero]
      refine takeD (i := 7) (v := ?_) (some 31) rfl rfl (by kernel_rfl) (by kernel_rfl) (by kernel_rfl) (fun _ _ _ h => h) (by rfl) hHeld ?_ ?_
      rotate_left
      · intro W hSw
        try dsimp only at hSw
        go_simp
        try with_reducible rfl
      try simp only [Act.put]
      try simp only [List.setIfInBounds_toArray]
      try simp only [List.set_cons_succ]
      try simp only [List.set_cons_zero]
      refine takeD (i := 8) (v := ?_) (some 32) rfl rfl (by kernel_rfl) (by kernel_rfl) (by kernel_rfl) (fun _ _ _ h => h) (by rfl) hHeld ?_ ?_
      rotate_left
      · intro W hSw
        try dsimp only at hSw
        go_simp
        try with_reducible rfl
      try simp only [Act.put]
      try simp only [List.setIfInBounds_toArray]
      try simp only [List.set_cons_succ]
      try simp only [List.set_cons_zero]
      rotate_left
      go_simp
      obtain ⟨wr2, bh, hX, hB, hb, YH⟩ := alc_new wr1 #[.int .i64 0, .bool false, .int .i64 0, .slice none 0 0, .int .i64 0] 34
      have LBH : Hid (w1.heap.size ≤ bh) := le_at hB LW.out.size
      replace VH := hide_it (VH.out.later hb (Nat.le_refl _))
      replace LW : Hid (Below w1.heap.size w1 wr2) := LW.out.trans (hb.mono LW.out.size)
      clear hb
      rw [← hX.out]
      try dsimp only
      refine hK.out _ _ (KK.out _ LW.out) (fun hHeld => ?_)
      clear hK K
      rw [← hB.out]
      clear hX hB
      refine wpAnyH_ready (rs := [3, 10]) (by kernel_rfl) (by simp) ?_
      refine AllReadyH.cons rfl (fun K hK => ?_) (AllReadyH.cons rfl (fun K hK => ?_) AllReadyH.nil)
      go_simp
      refine (toWord_any k h t m wr2).mono ?_
      rintro e wr3 ⟨rfl, hb⟩
      replace YH := hide_it (YH.out.after hb)
      replace VH := hide_it (VH.out.later hb (Nat.le_refl _))
      replace LW : Hid (Below w1.heap.size w1 wr3) := LW.out.trans (hb.mono LW.out.size)
      clear hb
      try dsimp only
      refine hK.out _ _ (KK.out _ LW.out) (fun hHeld => ?_)
      clear hK K
      refine wpAnyH_ready (rs := [4, 10]) (by kernel_rfl) (by simp) ?_
      refine AllReadyH.cons rfl (fun K hK => ?_) (AllReadyH.cons rfl (fun K hK => ?_) AllReadyH.nil)
      go_simp
      refine (HSP.out _ wr3 VH.out).mono ?_
      rintro e wr4 ⟨aC, cC, rfl, hm, hb⟩
      obtain ⟨lo, hi, pC, P, O, Z, hlo, hhi⟩ := made_split hm
      have LL : Hid (w1.heap.size ≤ lo) := le_at hlo LW.out.size
      have AH : Hid (bh < lo ∨ hi ≤ bh) := Or.inl (lt_at hlo YH.out.lt)
      clear hm hlo hhi VH
      replace YH := hide_it (YH.out.after hb)
      replace LW : Hid (Below w1.heap.size w1 wr4) := LW.out.trans (hb.mono LW.out.size)
      clear hb
      try dsimp only
      refine hK.out _ _ (KK.out _ LW.out) (fun hHeld => ?_)
      clear hK K
      refine takeD (i := 5) (v := ?_) (some 24) rfl rfl (by kernel_rfl) (by kernel_rfl) (by kernel_rfl) (fun _ _ _ h => h) (by rfl) hHeld ?_ ?_
      rotate_left
      · intro W hSw
        try dsimp only at hSw
        go_simp
        try with_reducible rfl
      try simp only [Act.put]
      try simp only [List.setIfInBounds_toArray]
      try simp only [List.set_cons_succ]
      try simp only [List.set_cons_zero]
      refine takeD (i := 6) (v := ?_) (some 30) rfl rfl (by kernel_rfl) (by kernel_rfl) (by kernel_rfl) (fun _ _ _ h => h) (by rfl) hHeld ?_ ?_
      rotate_left
      · intro W hSw
        try dsimp only at hSw
        go_simp
        try with_reducible rfl
      try simp only [Act.put]
      try simp only [List.setIfInBounds_toArray]
      try simp only [List.set_cons_succ]
      try simp only [List.set_cons_zero]
      refine takeD (i := 7) (v := ?_) (some 31) rfl rfl (by kernel_rfl) (by kernel_rfl) (by kernel_rfl) (fun _ _ _ h => h) (by rfl) hHeld ?_ ?_
      rotate_left
      · intro W hSw
        try dsimp only at hSw
        go_simp
        try with_reducible rfl
      try simp only [Act.put]
      try simp only [List.setIfInBounds_toArray]
      try simp only [List.set_cons_succ]
      try simp only [List.set_cons_zero]
      refine takeD (i := 8) (v := ?_) (some 32) rfl rfl (by kernel_rfl) (by kernel_rfl) (by kernel_rfl) (fun _ _ _ h => h) (by rfl) hHeld ?_ ?_
      rotate_left
      · intro W hSw
        try dsimp only at hSw
        go_simp
        try with_reducible rfl
      try simp only [Act.put]
      try simp only [List.setIfInBounds_toArray]
      try simp only [List.set_cons_succ]
      try simp only [List.set_cons_zero]
      refine wpAnyH_ready (rs := [10]) (by kernel_rfl) (by simp) ?_
      refine AllReadyH.cons rfl (fun K hK => ?_) AllReadyH.nil
      go_simp
      obtain ⟨wr5, bw, hX, hB, hb, YW⟩ := alc_new wr4 #[.int .i64 0, .int .i64 0, .int .i64 0, .int .i64 0] 35
      have LBW : Hid (w1.heap.size ≤ bw) := le_at hB LW.out.size
      have AW : Hid (bw < lo ∨ hi ≤ bw) := Or.inr (le_at hB Z.out)
      replace YH := hide_it (YH.out.after hb)
      replace O := hide_it (O.out.below hb Z.out)
      replace Z : Hid (hi ≤ wr5.heap.size) := Nat.le_trans Z.out hb.size
      replace LW : Hid (Below w1.heap.size w1 wr5) := LW.out.trans (hb.mono LW.out.size)
      clear hb
      rw [← hX.out]
      try dsimp only
      refine hK.out _ _ (KK.out _ LW.out) (fun hHeld => ?_)
      clear hK K
      rw [← hB.out]
      clear hX hB
      rotate_left
      go_simp
      obtain ⟨wr4, bw, hX, hB, hb, YW⟩ := alc_new wr3 #[.int .i64 0, .int .i64 0, .int .i64 0, .int .i64 0] 35
      have LBW : Hid (w1.heap.size ≤ bw) := le_at hB LW.out.size
      replace YH := hide_it (YH.out.after hb)
      replace VH := hide_it (VH.out.later hb (Nat.le_refl _))
      replace LW : Hid (Below w1.heap.size w1 wr4) := LW.out.trans (hb.mono LW.out.size)
      clear hb
      rw [← hX.out]
      try dsimp only
      refine hK.out _ _ (KK.out _ LW.out) (fun hHeld => ?_)
      clear hK K
      rw [← hB.out]
      clear hX hB
      refine wpAnyH_ready (rs := [4]) (by kernel_rfl) (by simp) ?_
      refine AllReadyH.cons rfl (fun K hK => ?_) AllReadyH.nil
      go_simp
      refine (HSP.out _ wr4 VH.out).mono ?_
      rintro e wr5 ⟨aC, cC, rfl, hm, hb⟩
      obtain ⟨lo, hi, pC, P, O, Z, hlo, hhi⟩ := made_split hm
      have LL : Hid (w1.heap.size ≤ lo) := le_at hlo LW.out.size
      have AH : Hid (bh < lo ∨ hi ≤ bh) := Or.inl (lt_at hlo YH.out.lt)
      have AW : Hid (bw < lo ∨ hi ≤ bw) := Or.inl (lt_at hlo YW.out.lt)
      clear hm hlo hhi VH
      replace YH := hide_it (YH.out.after hb)
      replace YW := hide_it (YW.out.after hb)
      replace LW : Hid (Below w1.heap.size w1 wr5) := LW.out.trans (hb.mono LW.out.size)
      clear hb
      try dsimp only
      refine hK.out _ _ (KK.out _ LW.out) (fun hHeld => ?_)
      clear hK K
      refine takeD (i := 5) (v := ?_) (some 24) rfl rfl (by kernel_rfl) (by kernel_rfl) (by kernel_rfl) (fun _ _ _ h => h) (by rfl) hHeld ?_ ?_
      rotate_left
      · intro W hSw
        try dsimp only at hSw
        go_simp
        try with_reducible rfl
      try simp only [Act.put]
      try simp only [List.setIfInBounds_toArray]
      try simp only [List.set_cons_succ]
      try simp only [List.set_cons_zero]
      refine takeD (i := 6) (v := ?_) (some 30) rfl rfl (by kernel_rfl) (by kernel_rfl) (by kernel_rfl) (fun _ _ _ h => h) (by rfl) hHeld ?_ ?_
      rotate_left
      · intro W hSw
        try dsimp only at hSw
        go_simp
        try with_reducible rfl
      try simp only [Act.put]
      try simp only [List.setIfInBounds_toArray]
      try simp only [List.set_cons_succ]
      try simp only [List.set_cons_zero]
      refine takeD (i := 7) (v := ?_) (some 31) rfl rfl (by kernel_rfl) (by kernel_rfl) (by kernel_rfl) (fun _ _ _ h => h) (by rfl) hHeld ?_ ?_
      rotate_left
      · intro W hSw
        try dsimp only at hSw
        go_simp
        try with_reducible rfl
      try simp only [Act.put]
      try simp only [List.setIfInBounds_toArray]
      try simp only [List.set_cons_succ]
      try simp only [List.set_cons_zero]
      refine takeD (i := 8) (v := ?_) (some 32) rfl rfl (by kernel_rfl) (by kernel_rfl) (by kernel_rfl) (fun _ _ _ h => h) (by rfl) hHeld ?_ ?_
      rotate_left
      · intro W hSw
        try dsimp only at hSw
        go_simp
        try with_reducible rfl
      try simp only [Act.put]
      try simp only [List.setIfInBounds_toArray]
      try simp only [List.set_cons_succ]
      try simp only [List.set_cons_zero]
      rotate_left
      go_simp
      obtain ⟨wr3, bw, hX, hB, hb, YW⟩ := alc_new wr2 #[.int .i64 0, .int .i64 0, .int .i64 0, .int .i64 0] 35
      have LBW : Hid (w1.heap.size ≤ bw) := le_at hB LW.out.size
      replace YH := hide_it (YH.out.after hb)
      replace VH := hide_it (VH.out.later hb (Nat.le_refl _))
      replace LW : Hid (Below w1.heap.size w1 wr3) := LW.out.trans (hb.mono LW.out.size)
      clear hb
      rw [← hX.out]
      try dsimp only
      refine hK.out _ _ (KK.out _ LW.out) (fun hHeld => ?_)
      clear hK K
      rw [← hB.out]
      clear hX hB
      refine wpAnyH_ready (rs := [3]) (by kernel_rfl) (by simp) ?_
      refine AllReadyH.cons rfl (fun K hK => ?_) AllReadyH.nil
      go_simp
      refine (toWord_any k h t m wr3).mono ?_
      rintro e wr4 ⟨rfl, hb⟩
      replace YH := hide_it (YH.out.after hb)
      replace YW := hide_it (YW.out.after hb)
      replace VH := hide_it (VH.out.later hb (Nat.le_refl _))
      replace LW : Hid (Below w1.heap.size w1 wr4) := LW.out.trans (hb.mono LW.out.size)
      clear hb
      try dsimp only
      refine hK.out _ _ (KK.out _ LW.out) (fun hHeld => ?_)
      clear hK K
      refine wpAnyH_ready (rs := [4]) (by kernel_rfl) (by simp) ?_
      refine AllReadyH.cons rfl (fun K hK => ?_) AllReadyH.nil
      go_simp
      refine (HSP.out _ wr4 VH.out).mono ?_
      rintro e wr5 ⟨aC, cC, rfl, hm, hb⟩
      obtain ⟨lo, hi, pC, P, O, Z, hlo, hhi⟩ := made_split hm
      have LL : Hid (w1.heap.size ≤ lo) := le_at hlo LW.out.size
      have AH : Hid (bh < lo ∨ hi ≤ bh) := Or.inl (lt_at hlo YH.out.lt)
      have AW : Hid (bw < lo ∨ hi ≤ bw) := Or.inl (lt_at hlo YW.out.lt)
      clear hm hlo hhi VH
      replace YH := hide_it (YH.out.after hb)
      replace YW := hide_it (YW.out.after hb)
      replace LW : Hid (Below w1.heap.size w1 wr5) := LW.out.trans (hb.mono LW.out.size)
      clear hb
      try dsimp only
      refine hK.out _ _ (KK.out _ LW.out) (fun hHeld => ?_)
      clear hK K
      refine takeD (i := 5) (v := ?_) (some 24) rfl rfl (by kernel_rfl) (by kernel_rfl) (by kernel_rfl) (fun _ _ _ h => h) (by rfl) hHeld ?_ ?_
      rotate_left
      · intro W hSw
        try dsimp only at hSw
        go_simp
        try with_reducible rfl
      try simp only [Act.put]
      try simp only [List.setIfInBounds_toArray]
      try simp only [List.set_cons_succ]
      try simp only [List.set_cons_zero]
      refine takeD (i := 6) (v := ?_) (some 30) rfl rfl (by kernel_rfl) (by kernel_rfl) (by kernel_rfl) (fun _ _ _ h => h) (by rfl) hHeld ?_ ?_
      rotate_left
      · intro W hSw
        try dsimp only at hSw
        go_simp
        try with_reducible rfl
      try simp only [Act.put]
      try simp only [List.setIfInBounds_toArray]
      try simp only [List.set_cons_succ]
      try simp only [List.set_cons_zero]
      refine takeD (i := 7) (v := ?_) (some 31) rfl rfl (by kernel_rfl) (by kernel_rfl) (by kernel_rfl) (fun _ _ _ h => h) (by rfl) hHeld ?_ ?_
      rotate_left
      · intro W hSw
        try dsimp only at hSw
        go_simp
        try with_reducible rfl
      try simp only [Act.put]
      try simp only [List.setIfInBounds_toArray]
      try simp only [List.set_cons_succ]
      try simp only [List.set_cons_zero]
      refine takeD (i := 8) (v := ?_) (some 32) rfl rfl (by kernel_rfl) (by kernel_rfl) (by kernel_rfl) (fun _ _ _ h => h) (by rfl) hHeld ?_ ?_
      rotate_left
      · intro W hSw
        try dsimp only at hSw
        go_simp
        try with_reducible rfl
      try simp only [Act.put]
      try simp only [List.setIfInBounds_toArray]
      try simp only [List.set_cons_succ]
      try simp only [List.set_cons_zero]
      rotate_left
      go_simp
      obtain ⟨wr2, bw, hX, hB, hb, YW⟩ := alc_new wr1 #[.int .i64 0, .int .i64 0, .int .i64 0, .int .i64 0] 35
      have LBW : Hid (w1.heap.size ≤ bw) := le_at hB LW.out.size
      replace VH := hide_it (VH.out.later hb (Nat.le_refl _))
      replace LW : Hid (Below w1.heap.size w1 wr2) := LW.out.trans (hb.mono LW.out.size)
      clear hb
      rw [← hX.out]
      try dsimp only
      refine hK.out _ _ (KK.out _ LW.out) (fun hHeld => ?_)
      clear hK K
      rw [← hB.out]
      clear hX hB
      refine wpAnyH_ready (rs := [3, 9]) (by kernel_rfl) (by simp) ?_
      refine AllReadyH.cons rfl (fun K hK => ?_) (AllReadyH.cons rfl (fun K hK => ?_) AllReadyH.nil)
      go_simp
      refine (toWord_any k h t m wr2).mono ?_
      rintro e wr3 ⟨rfl, hb⟩
      replace YW := hide_it (YW.out.after hb)
      replace VH := hide_it (VH.out.later hb (Nat.le_refl _))
      replace LW : Hid (Below w1.heap.size w1 wr3) := LW.out.trans (hb.mono LW.out.size)
      clear hb
      try dsimp only
      refine hK.out _ _ (KK.out _ LW.out) (fun hHeld => ?_)
      clear hK K
      refine wpAnyH_ready (rs := [4, 9]) (by kernel_rfl) (by simp) ?_
      refine AllReadyH.cons rfl (fun K hK => ?_) (AllReadyH.cons rfl (fun K hK => ?_) AllReadyH.nil)
      go_simp
      refine (HSP.out _ wr3 VH.out).mono ?_
      rintro e wr4 ⟨aC, cC, rfl, hm, hb⟩
      obtain ⟨lo, hi, pC, P, O, Z, hlo, hhi⟩ := made_split hm
      have LL : Hid (w1.heap.size ≤ lo) := le_at hlo LW.out.size
      have AW : Hid (bw < lo ∨ hi ≤ bw) := Or.inl (lt_at hlo YW.out.lt)
      clear hm hlo hhi VH
      replace YW := hide_it (YW.out.after hb)
      replace LW : Hid (Below w1.heap.size w1 wr4) := LW.out.trans (hb.mono LW.out.size)
      clear hb
      try dsimp only
      refine hK.out _ _ (KK.out _ LW.out) (fun hHeld => ?_)
      clear hK K
      refine takeD (i := 5) (v := ?_) (some 24) rfl rfl (by kernel_rfl) (by kernel_rfl) (by kernel_rfl) (fun _ _ _ h => h) (by rfl) hHeld ?_ ?_
      rotate_left
      · intro W hSw
        try dsimp only at hSw
        go_simp
        try with_reducible rfl
      try simp only [Act.put]
      try simp only [List.setIfInBounds_toArray]
      try simp only [List.set_cons_succ]
      try simp only [List.set_cons_zero]
      refine takeD (i := 6) (v := ?_) (some 30) rfl rfl (by kernel_rfl) (by kernel_rfl) (by kernel_rfl) (fun _ _ _ h => h) (by rfl) hHeld ?_ ?_
      rotate_left
      · intro W hSw
        try dsimp only at hSw
        go_simp
        try with_reducible rfl
      try simp only [Act.put]
      try simp only [List.setIfInBounds_toArray]
      try simp only [List.set_cons_succ]
      try simp only [List.set_cons_zero]
      refine takeD (i := 7) (v := ?_) (some 31) rfl rfl (by kernel_rfl) (by kernel_rfl) (by kernel_rfl) (fun _ _ _ h => h) (by rfl) hHeld ?_ ?_
      rotate_left
      · intro W hSw
        try dsimp only at hSw
        go_simp
        try with_reducible rfl
      try simp only [Act.put]
      try simp only [List.setIfInBounds_toArray]
      try simp only [List.set_cons_succ]
      try simp only [List.set_cons_zero]
      refine takeD (i := 8) (v := ?_) (some 32) rfl rfl (by kernel_rfl) (by kernel_rfl) (by kernel_rfl) (fun _ _ _ h => h) (by rfl) hHeld ?_ ?_
      rotate_left
      · intro W hSw
        try dsimp only at hSw
        go_simp
        try with_reducible rfl
      try simp only [Act.put]
      try simp only [List.setIfInBounds_toArray]
      try simp only [List.set_cons_succ]
      try simp only [List.set_cons_zero]
      refine wpAnyH_ready (rs := [9]) (by kernel_rfl) (by simp) ?_
      refine AllReadyH.cons rfl (fun K hK => ?_) AllReadyH.nil
      go_simp
      obtain ⟨wr5, bh, hX, hB, hb, YH⟩ := alc_new wr4 #[.int .i64 0, .bool false, .int .i64 0, .slice none 0 0, .int .i64 0] 34
      have LBH : Hid (w1.heap.size ≤ bh) := le_at hB LW.out.size
      have AH : Hid (bh < lo ∨ hi ≤ bh) := Or.inr (le_at hB Z.out)
      replace YW := hide_it (YW.out.after hb)
      replace O := hide_it (O.out.below hb Z.out)
      replace Z : Hid (hi ≤ wr5.heap.size) := Nat.le_trans Z.out hb.size
      replace LW : Hid (Below w1.heap.size w1 wr5) := LW.out.trans (hb.mono LW.out.size)
      clear hb
      rw [← hX.out]
      try dsimp only
      refine hK.out _ _ (KK.out _ LW.out) (fun hHeld => ?_)
      clear hK K
      rw [← hB.out]
      clear hX hB
      rotate_left
      go_simp
      obtain ⟨wr4, bh, hX, hB, hb, YH⟩ := alc_new wr3 #[.int .i64 0, .bool false, .int .i64 0, .slice none 0 0, .int .i64 0] 34
      have LBH : Hid (w1.heap.size ≤ bh) := le_at hB LW.out.size
      replace YW := hide_it (YW.out.after hb)
      replace VH := hide_it (VH.out.later hb (Nat.le_refl _))
      replace LW : Hid (Below w1.heap.size w1 wr4) := LW.out.trans (hb.mono LW.out.size)
      clear hb
      rw [← hX.out]
      try dsimp only
      refine hK.out _ _ (KK.out _ LW.out) (fun hHeld => ?_)
      clear hK K
      rw [← hB.out]
      clear hX hB
      refine wpAnyH_ready (rs := [4]) (by kernel_rfl) (by simp) ?_
      refine AllReadyH.cons rfl (fun K hK => ?_) AllReadyH.nil
      go_simp
      refine (HSP.out _ wr4 VH.out).mono ?_
      rintro e wr5 ⟨aC, cC, rfl, hm, hb⟩
      obtain ⟨lo, hi, pC, P, O, Z, hlo, hhi⟩ := made_split hm
      have LL : Hid (w1.heap.size ≤ lo) := le_at hlo LW.out.size
      have AH : Hid (bh < lo ∨ hi ≤ bh) := Or.inl (lt_at hlo YH.out.lt)
      have AW : Hid (bw < lo ∨ hi ≤ bw) := Or.inl (lt_at hlo YW.out.lt)
      clear hm hlo hhi VH
      replace YH := hide_it (YH.out.after hb)
      replace YW := hide_it (YW.out.after hb)
      replace LW : Hid (Below w1.heap.size w1 wr5) := LW.out.trans (hb.mono LW.out.size)
      clear hb
      try dsimp only
      refine hK.out _ _ (KK.out _ LW.out) (fun hHeld => ?_)
      clear hK K
      refine takeD (i := 5) (v := ?_) (some 24) rfl rfl (by kernel_rfl) (by kernel_rfl) (by kernel_rfl) (fun _ _ _ h => h) (by rfl) hHeld ?_ ?_
      rotate_left
      · intro W hSw
        try dsimp only at hSw
        go_simp
        try with_reducible rfl
      try simp only [Act.put]
      try simp only [List.setIfInBounds_toArray]
      try simp only [List.set_cons_succ]
      try simp only [List.set_cons_zero]
      refine takeD (i := 6) (v := ?_) (some 30) rfl rfl (by kernel_rfl) (by kernel_rfl) (by kernel_rfl) (fun _ _ _ h => h) (by rfl) hHeld ?_ ?_
      rotate_left
      · intro W hSw
        try dsimp only at hSw
        go_simp
        try with_reducible rfl
      try simp only [Act.put]
      try simp only [List.setIfInBounds_toArray]
      try simp only [List.set_cons_succ]
      try simp only [List.set_cons_zero]
      refine takeD (i := 7) (v := ?_) (some 31) rfl rfl (by kernel_rfl) (by kernel_rfl) (by kernel_rfl) (fun _ _ _ h => h) (by rfl) hHeld ?_ ?_
      rotate_left
      · intro W hSw
        try dsimp only at hSw
        go_simp
        try with_reducible rfl
      try simp only [Act.put]
      try simp only [List.setIfInBounds_toArray]
      try simp only [List.set_cons_succ]
      try simp only [List.set_cons_zero]
      refine takeD (i := 8) (v := ?_) (some 32) rfl rfl (by kernel_rfl) (by kernel_rfl) (by kernel_rfl) (fun _ _ _ h => h) (by rfl) hHeld ?_ ?_
      rotate_left
      · intro W hSw
        try dsimp only at hSw
        go_simp
        try with_reducible rfl
      try simp only [Act.put]
      try simp only [List.setIfInBounds_toArray]
      try simp only [List.set_cons_succ]
      try simp only [List.set_cons_zero]
      rotate_left
      go_simp
      obtain ⟨wr3, bh, hX, hB, hb, YH⟩ := alc_new wr2 #[.int .i64 0, .bool false, .int .i64 0, .slice none 0 0, .int .i64 0] 34
      have LBH : Hid (w1.heap.size ≤ bh) := le_at hB LW.out.size
      replace YW := hide_it (YW.out.after hb)
      replace VH := hide_it (VH.out.later hb (Nat.le_refl _))
      replace LW : Hid (Below w1.heap.size w1 wr3) := LW.out.trans (hb.mono LW.out.size)
      clear hb
      rw [← hX.out]
      try dsimp only
      refine hK.out _ _ (KK.out _ LW.out) (fun hHeld => ?_)
      clear hK K
      rw [← hB.out]
      clear hX hB
      refine wpAnyH_ready (rs := [3]) (by kernel_rfl) (by simp) ?_
      refine AllReadyH.cons rfl (fun K hK => ?_) AllReadyH.nil
      go_simp
      refine (toWord_any k h t m wr3).mono ?_
      rintro e wr4 ⟨rfl, hb⟩
      replace YH := hide_it (YH.out.after hb)
      replace YW := hide_it (YW.out.after hb)
      replace VH := hide_it (VH.out.later hb (Nat.le_refl _))
      replace LW : Hid (Below w1.heap.size w1 wr4) := LW.out.trans (hb.mono LW.out.size)
      clear hb
      try dsimp only
      refine hK.out _ _ (KK.out _ LW.out) (fun hHeld => ?_)
      clear hK K
      refine wpAnyH_ready (rs := [4]) (by kernel_rfl) (by simp) ?_
      refine AllReadyH.cons rfl (fun K hK => ?_) AllReadyH.nil
      go_simp
      refine (HSP.out _ wr4 VH.out).mono ?_
      rintro e wr5 ⟨aC, cC, rfl, hm, hb⟩
      obtain ⟨lo, hi, pC, P, O, Z, hlo, hhi⟩ := made_split hm
      have LL : Hid (w1.heap.size ≤ lo) := le_at hlo LW.out.size
      have AH : Hid (bh < lo ∨ hi ≤ bh) := Or.inl (lt_at hlo YH.out.lt)
      have AW : Hid (bw < lo ∨ hi ≤ bw) := Or.inl (lt_at hlo YW.out.lt)
      clear hm hlo hhi VH
      replace YH := hide_it (YH.out.after hb)
      replace YW := hide_it (YW.out.after hb)
      replace LW : Hid (Below w1.heap.size w1 wr5) := LW.out.trans (hb.mono LW.out.size)
      clear hb
      try dsimp only
      refine hK.out _ _ (KK.out _ LW.out) (fun hHeld => ?_)
      clear hK K
      refine takeD (i := 5) (v := ?_) (some 24) rfl rfl (by kernel_rfl) (by kernel_rfl) (by kernel_rfl) (fun _ _ _ h => h) (by rfl) hHeld ?_ ?_
      rotate_left
      · intro W hSw
        try dsimp only at hSw
        go_simp
        try with_reducible rfl
      try simp only [Act.put]
      try simp only [List.setIfInBounds_toArray]
      try simp only [List.set_cons_succ]
      try simp only [List.set_cons_zero]
      refine takeD (i := 6) (v := ?_) (some 30) rfl rfl (by kernel_rfl) (by kernel_rfl) (by kernel_rfl) (fun _ _ _ h => h) (by rfl) hHeld ?_ ?_
      rotate_left
      · intro W hSw
        try dsimp only at hSw
        go_simp
        try with_reducible rfl
      try simp only [Act.put]
      try simp only [List.setIfInBounds_toArray]
      try simp only [List.set_cons_succ]
      try simp only [List.set_cons_zero]
      refine takeD (i := 7) (v := ?_) (some 31) rfl rfl (by kernel_rfl) (by kernel_rfl) (by kernel_rfl) (fun _ _ _ h => h) (by rfl) hHeld ?_ ?_
      rotate_left
      · intro W hSw
        try dsimp only at hSw
        go_simp
        try with_reducible rfl
      try simp only [Act.put]
      try simp only [List.setIfInBounds_toArray]
      try simp only [List.set_cons_succ]
      try simp only [List.set_cons_zero]
      refine takeD (i := 8) (v := ?_) (some 32) rfl rfl (by kernel_rfl) (by kernel_rfl) (by kernel_rfl) (fun _ _ _ h => h) (by rfl) hHeld ?_ ?_
      rotate_left
      · intro W hSw
        try dsimp only at hSw
        go_simp
        try with_reducible rfl
      try simp only [Act.put]
      try simp only [List.setIfInBounds_toArray]
      try simp only [List.set_cons_succ]
      try simp only [List.set_cons_zero]
      rotate_left
      go_simp
      obtain ⟨wr1, bh, hX, hB, hb, YH⟩ := alc_new wdhh5 #[.int .i64 0, .bool false, .int .i64 0, .slice none 0 0, .int .i64 0] 34
      have LBH : Hid (w1.heap.size ≤ bh) := le_at hB LW.out.size
      replace LW : Hid (Below w1.heap.size w1 wr1) := LW.out.trans (hb.mono LW.out.size)
      clear hb
      rw [← hX.out]
      try dsimp only
      refine hK.out _ _ (KK.out _ LW.out) (fun hHeld => ?_)
      clear hK K
      rw [← hB.out]
      clear hX hB
      refine wpAnyH_ready (rs := [1, 10]) (by kernel_rfl) (by simp) ?_
      refine AllReadyH.cons rfl (fun K hK => ?_) (AllReadyH.cons rfl (fun K hK => ?_) AllReadyH.nil)
      go_simp
      refine (toHouse_any id up room _ rs f wr1 (HV.out _ (B1.out.trans (LW.out.mono B1.out.size))) hl).mono ?_
      rintro e wr2 ⟨aH, cH, rfl, hm, hb⟩
      have VH := hide_it hm.recs
      have FMH := hide_it (form_made hm)
      clear hm
      replace YH := hide_it (YH.out.after hb)
      replace LW : Hid (Below w1.heap.size w1 wr2) := LW.out.trans (hb.mono LW.out.size)
      clear hb
      try dsimp only
      refine hK.out _ _ (KK.out _ LW.out) (fun hHeld => ?_)
      clear hK K
      refine wpAnyH_ready (rs := [3, 10]) (by kernel_rfl) (by simp) ?_
      refine AllReadyH.cons rfl (fun K hK => ?_) (AllReadyH.cons rfl (fun K hK => ?_) AllReadyH.nil)
      go_simp
      refine (toWord_any k h t m wr2).mono ?_
      rintro e wr3 ⟨rfl, hb⟩
      replace YH := hide_it (YH.out.after hb)
      replace VH := hide_it (VH.out.later hb (Nat.le_refl _))
      replace LW : Hid (Below w1.heap.size w1 wr3) := LW.out.trans (hb.mono LW.out.size)
      clear hb
      try dsimp only
      refine hK.out _ _ (KK.out _ LW.out) (fun hHeld => ?_)
      clear hK K
      refine wpAnyH_ready (rs := [4, 10]) (by kernel_rfl) (by simp) ?_
      refine AllReadyH.cons rfl (fun K hK => ?_) (AllReadyH.cons rfl (fun K hK => ?_) AllReadyH.nil)
      go_simp
      refine (HSP.out _ wr3 VH.out).mono ?_
      rintro e wr4 ⟨aC, cC, rfl, hm, hb⟩
      obtain ⟨lo, hi, pC, P, O, Z, hlo, hhi⟩ := made_split hm
      have LL : Hid (w1.heap.size ≤ lo) := le_at hlo LW.out.size
      have AH : Hid (bh < lo ∨ hi ≤ bh) := Or.inl (lt_at hlo YH.out.lt)
      clear hm hlo hhi VH
      replace YH := hide_it (YH.out.after hb)
      replace LW : Hid (Below w1.heap.size w1 wr4) := LW.out.trans (hb.mono LW.out.size)
      clear hb
      try dsimp only
      refine hK.out _ _ (KK.out _ LW.out) (fun hHeld => ?_)
      clear hK K
      refine takeD (i := 5) (v := ?_) (some 24) rfl rfl (by kernel_rfl) (by kernel_rfl) (by kernel_rfl) (fun _ _ _ h => h) (by rfl) hHeld ?_ ?_
      rotate_left
      · intro W hSw
        try dsimp only at hSw
        go_simp
        try with_reducible rfl
      try simp only [Act.put]
      try simp only [List.setIfInBounds_toArray]
      try simp only [List.set_cons_succ]
      try simp only [List.set_cons_zero]
      refine takeD (i := 6) (v := ?_) (some 30) rfl rfl (by kernel_rfl) (by kernel_rfl) (by kernel_rfl) (fun _ _ _ h => h) (by rfl) hHeld ?_ ?_
      rotate_left
      · intro W hSw
        try dsimp only at hSw
        go_simp
        try with_reducible rfl
      try simp only [Act.put]
      try simp only [List.setIfInBounds_toArray]
      try simp only [List.set_cons_succ]
      try simp only [List.set_cons_zero]
      refine takeD (i := 7) (v := ?_) (some 31) rfl rfl (by kernel_rfl) (by kernel_rfl) (by kernel_rfl) (fun _ _ _ h => h) (by rfl) hHeld ?_ ?_
      rotate_left
      · intro W hSw
        try dsimp only at hSw
        go_simp
        try with_reducible rfl
      try simp only [Act.put]
      try simp only [List.setIfInBounds_toArray]
      try simp only [List.set_cons_succ]
      try simp only [List.set_cons_zero]
      refine takeD (i := 8) (v := ?_) (some 32) rfl rfl (by kernel_rfl) (by kernel_rfl) (by kernel_rfl) (fun _ _ _ h => h) (by rfl) hHeld ?_ ?_
      rotate_left
      · intro W hSw
        try dsimp only at hSw
        go_simp
        try with_reducible rfl
      try simp only [Act.put]
      try simp only [List.setIfInBounds_toArray]
      try simp only [List.set_cons_succ]
      try simp only [List.set_cons_zero]
      refine wpAnyH_ready (rs := [10]) (by kernel_rfl) (by simp) ?_
      refine AllReadyH.cons rfl (fun K hK => ?_) AllReadyH.nil
      go_simp
      obtain ⟨wr5, bw, hX, hB, hb, YW⟩ := alc_new wr4 #[.int .i64 0, .int .i64 0, .int .i64 0, .int .i64 0] 35
      have LBW : Hid (w1.heap.size ≤ bw) := le_at hB LW.out.size
      have AW : Hid (bw < lo ∨ hi ≤ bw) := Or.inr (le_at hB Z.out)
      replace YH := hide_it (YH.out.after hb)
      replace O := hide_it (O.out.below hb Z.out)
      replace Z : Hid (hi ≤ wr5.heap.size) := Nat.le_trans Z.out hb.size
      replace LW : Hid (Below w1.heap.size w1 wr5) := LW.out.trans (hb.mono LW.out.size)
      clear hb
      rw [← hX.out]
      try dsimp only
      refine hK.out _ _ (KK.out _ LW.out) (fun hHeld => ?_)
      clear hK K
      rw [← hB.out]
      clear hX hB
      rotate_left
      go_simp
      obtain ⟨wr4, bw, hX, hB, hb, YW⟩ := alc_new wr3 #[.int .i64 0, .int .i64 0, .int .i64 0, .int .i64 0] 35
      have LBW : Hid (w1.heap.size ≤ bw) := le_at hB LW.out.size
      replace YH := hide_it (YH.out.after hb)
      replace VH := hide_it (VH.out.later hb (Nat.le_refl _))
      replace LW : Hid (Below w1.heap.size w1 wr4) := LW.out.trans (hb.mono LW.out.size)
      clear hb
      rw [← hX.out]
      try dsimp only
      refine hK.out _ _ (KK.out _ LW.out) (fun hHeld => ?_)
      clear hK K
      rw [← hB.out]
      clear hX hB
      refine wpAnyH_ready (rs := [4]) (by kernel_rfl) (by simp) ?_
      refine AllReadyH.cons rfl (fun K hK => ?_) AllReadyH.nil
      go_simp
      refine (HSP.out _ wr4 VH.out).mono ?_
      rintro e wr5 ⟨aC, cC, rfl, hm, hb⟩
      obtain ⟨lo, hi, pC, P, O, Z, hlo, hhi⟩ := made_split hm
      have LL : Hid (w1.heap.size ≤ lo) := le_at hlo LW.out.size
      have AH : Hid (bh < lo ∨ hi ≤ bh) := Or.inl (lt_at hlo YH.out.lt)
      have AW : Hid (bw < lo ∨ hi ≤ bw) := Or.inl (lt_at hlo YW.out.lt)
      clear hm hlo hhi VH
      replace YH := hide_it (YH.out.after hb)
      replace YW := hide_it (YW.out.after hb)
      replace LW : Hid (Below w1.heap.size w1 wr5) := LW.out.trans (hb.mono LW.out.size)
      clear hb
      try dsimp only
      refine hK.out _ _ (KK.out _ LW.out) (fun hHeld => ?_)
      clear hK K
      refine takeD (i := 5) (v := ?_) (some 24) rfl rfl (by kernel_rfl) (by kernel_rfl) (by kernel_rfl) (fun _ _ _ h => h) (by rfl) hHeld ?_ ?_
      rotate_left
      · intro W hSw
        try dsimp only at hSw
        go_simp
        try with_reducible rfl
      try simp only [Act.put]
      try simp only [List.setIfInBounds_toArray]
      try simp only [List.set_cons_succ]
      try simp only [List.set_cons_zero]
      refine takeD (i := 6) (v := ?_) (some 30) rfl rfl (by kernel_rfl) (by kernel_rfl) (by kernel_rfl) (fun _ _ _ h => h) (by rfl) hHeld ?_ ?_
      rotate_left
      · intro W hSw
        try dsimp only at hSw
        go_simp
        try with_reducible rfl
      try simp only [Act.put]
      try simp only [List.setIfInBounds_toArray]
      try simp only [List.set_cons_succ]
      try simp only [List.set_cons_zero]
      refine takeD (i := 7) (v := ?_) (some 31) rfl rfl (by kernel_rfl) (by kernel_rfl) (by kernel_rfl) (fun _ _ _ h => h) (by rfl) hHeld ?_ ?_
      rotate_left
      · intro W hSw
        try dsimp only at hSw
        go_simp
        try with_reducible rfl
      try simp only [Act.put]
      try simp only [List.setIfInBounds_toArray]
      try simp only [List.set_cons_succ]
      try simp only [List.set_cons_zero]
      refine takeD (i := 8) (v := ?_) (some 32) rfl rfl (by kernel_rfl) (by kernel_rfl) (by kernel_rfl) (fun _ _ _ h => h) (by rfl) hHeld ?_ ?_
      rotate_left
      · intro W hSw
        try dsimp only at hSw
        go_simp
        try with_reducible rfl
      try simp only [Act.put]
      try simp only [List.setIfInBounds_toArray]
      try simp only [List.set_cons_succ]
      try simp only [List.set_cons_zero]
      rotate_left
      go_simp
      obtain ⟨wr3, bw, hX, hB, hb, YW⟩ := alc_new wr2 #[.int .i64 0, .int .i64 0, .int .i64 0, .int .i64 0] 35
      have LBW : Hid (w1.heap.size ≤ bw) := le_at hB LW.out.size
      replace YH := hide_it (YH.out.after hb)
      replace VH := hide_it (VH.out.later hb (Nat.le_refl _))
      replace LW : Hid (Below w1.heap.size w1 wr3) := LW.out.trans (hb.mono LW.out.size)
      clear hb
      rw [← hX.out]
      try dsimp only
      refine hK.out _ _ (KK.out _ LW.out) (fun hHeld => ?_)
      clear hK K
      rw [← hB.out]
      clear hX hB
      refine wpAnyH_ready (rs := [3]) (by kernel_rfl) (by simp) ?_
      refine AllReadyH.cons rfl (fun K hK => ?_) AllReadyH.nil
      go_simp
      refine (toWord_any k h t m wr3).mono ?_
      rintro e wr4 ⟨rfl, hb⟩
      replace YH := hide_it (YH.out.after hb)
      replace YW := hide_it (YW.out.after hb)
      replace VH := hide_it (VH.out.later hb (Nat.le_refl _))
      replace LW : Hid (Below w1.heap.size w1 wr4) := LW.out.trans (hb.mono LW.out.size)
      clear hb
      try dsimp only
      refine hK.out _ _ (KK.out _ LW.out) (fun hHeld => ?_)
      clear hK K
      refine wpAnyH_ready (rs := [4]) (by kernel_rfl) (by simp) ?_
      refine AllReadyH.cons rfl (fun K hK => ?_) AllReadyH.nil
      go_simp
      refine (HSP.out _ wr4 VH.out).mono ?_
      rintro e wr5 ⟨aC, cC, rfl, hm, hb⟩
      obtain ⟨lo, hi, pC, P, O, Z, hlo, hhi⟩ := made_split hm
      have LL : Hid (w1.heap.size ≤ lo) := le_at hlo LW.out.size
      have AH : Hid (bh < lo ∨ hi ≤ bh) := Or.inl (lt_at hlo YH.out.lt)
      have AW : Hid (bw < lo ∨ hi ≤ bw) := Or.inl (lt_at hlo YW.out.lt)
      clear hm hlo hhi VH
      replace YH := hide_it (YH.out.after hb)
      replace YW := hide_it (YW.out.after hb)
      replace LW : Hid (Below w1.heap.size w1 wr5) := LW.out.trans (hb.mono LW.out.size)
      clear hb
      try dsimp only
      refine hK.out _ _ (KK.out _ LW.out) (fun hHeld => ?_)
      clear hK K
      refine takeD (i := 5) (v := ?_) (some 24) rfl rfl (by kernel_rfl) (by kernel_rfl) (by kernel_rfl) (fun _ _ _ h => h) (by rfl) hHeld ?_ ?_
      rotate_left
      · intro W hSw
        try dsimp only at hSw
        go_simp
        try with_reducible rfl
      try simp only [Act.put]
      try simp only [List.setIfInBounds_toArray]
      try simp only [List.set_cons_succ]
      try simp only [List.set_cons_zero]
      refine takeD (i := 6) (v := ?_) (some 30) rfl rfl (by kernel_rfl) (by kernel_rfl) (by kernel_rfl) (fun _ _ _ h => h) (by rfl) hHeld ?_ ?_
      rotate_left
      · intro W hSw
        try dsimp only at hSw
        go_simp
        try with_reducible rfl
      try simp only [Act.put]
      try simp only [List.setIfInBounds_toArray]
      try simp only [List.set_cons_succ]
      try simp only [List.set_cons_zero]
      refine takeD (i := 7) (v := ?_) (some 31) rfl rfl (by kernel_rfl) (by kernel_rfl) (by kernel_rfl) (fun _ _ _ h => h) (by rfl) hHeld ?_ ?_
      rotate_left
      · intro W hSw
        try dsimp only at hSw
        go_simp
        try with_reducible rfl
      try simp only [Act.put]
      try simp only [List.setIfInBounds_toArray]
      try simp only [List.set_cons_succ]
      try simp only [List.set_cons_zero]
      refine takeD (i := 8) (v := ?_) (some 32) rfl rfl (by kernel_rfl) (by kernel_rfl) (by kernel_rfl) (fun _ _ _ h => h) (by rfl) hHeld ?_ ?_
      rotate_left
      · intro W hSw
        try dsimp only at hSw
        go_simp
        try with_reducible rfl
      try simp only [Act.put]
      try simp only [List.setIfInBounds_toArray]
      try simp only [List.set_cons_succ]
      try simp only [List.set_cons_zero]
      rotate_left
      go_simp
      obtain ⟨wr2, bw, hX, hB, hb, YW⟩ := alc_new wr1 #[.int .i64 0, .int .i64 0, .int .i64 0, .int .i64 0] 35
      have LBW : Hid (w1.heap.size ≤ bw) := le_at hB LW.out.size
      replace YH := hide_it (YH.out.after hb)
      replace LW : Hid (Below w1.heap.size w1 wr2) := LW.out.trans (hb.mono LW.out.size)
      clear hb
      rw [← hX.out]
      try dsimp only
      refine hK.out _ _ (KK.out _ LW.out) (fun hHeld => ?_)
      clear hK K
      rw [← hB.out]
      clear hX hB
      refine wpAnyH_ready (rs := [1]) (by kernel_rfl) (by simp) ?_
      refine AllReadyH.cons rfl (fun K hK => ?_) AllReadyH.nil
      go_simp
      refine (toHouse_any id up room _ rs f wr2 (HV.out _ (B1.out.trans (LW.out.mono B1.out.size))) hl).mono ?_
      rintro e wr3 ⟨aH, cH, rfl, hm, hb⟩
      have VH := hide_it hm.recs
      have FMH := hide_it (form_made hm)
      clear hm
      replace YH := hide_it (YH.out.after hb)
      replace YW := hide_it (YW.out.after hb)
      replace LW : Hid (Below w1.heap.size w1 wr3) := LW.out.trans (hb.mono LW.out.size)
      clear hb
      try dsimp only
      refine hK.out _ _ (KK.out _ LW.out) (fun hHeld => ?_)
      clear hK K
      refine wpAnyH_ready (rs := [3]) (by kernel_rfl) (by simp) ?_
      refine AllReadyH.cons rfl (fun K hK => ?_) AllReadyH.nil
      go_simp
      refine (toWord_any k h t m wr3).mono ?_
      rintro e wr4 ⟨rfl, hb⟩
      replace YH := hide_it (YH.out.after hb)
      replace YW := hide_it (YW.out.after hb)
      replace VH := hide_it (VH.out.later hb (Nat.le_refl _))
      replace LW : Hid (Below w1.heap.size w1 wr4) := LW.out.trans (hb.mono LW.out.size)
      clear hb
      try dsimp only
      refine hK.out _ _ (KK.out _ LW.out) (fun hHeld => ?_)
      clear hK K
      refine wpAnyH_ready (rs := [4]) (by kernel_rfl) (by simp) ?_
      refine AllReadyH.cons rfl (fun K hK => ?_) AllReadyH.nil
      go_simp
      refine (HSP.out _ wr4 VH.out).mono ?_
      rintro e wr5 ⟨aC, cC, rfl, hm, hb⟩
      obtain ⟨lo, hi, pC, P, O, Z, hlo, hhi⟩ := made_split hm
      have LL : Hid (w1.heap.size ≤ lo) := le_at hlo LW.out.size
      have AH : Hid (bh < lo ∨ hi ≤ bh) := Or.inl (lt_at hlo YH.out.lt)
      have AW : Hid (bw < lo ∨ hi ≤ bw) := Or.inl (lt_at hlo YW.out.lt)
      clear hm hlo hhi VH
      replace YH := hide_it (YH.out.after hb)
      replace YW := hide_it (YW.out.after hb)
      replace LW : Hid (Below w1.heap.size w1 wr5) := LW.out.trans (hb.mono LW.out.size)
      clear hb
      try dsimp only
      refine hK.out _ _ (KK.out _ LW.out) (fun hHeld => ?_)
      clear hK K
      refine takeD (i := 5) (v := ?_) (some 24) rfl rfl (by kernel_rfl) (by kernel_rfl) (by kernel_rfl) (fun _ _ _ h => h) (by rfl) hHeld ?_ ?_
      rotate_left
      · intro W hSw
        try dsimp only at hSw
        go_simp
        try with_reducible rfl
      try simp only [Act.put]
      try simp only [List.setIfInBounds_toArray]
      try simp only [List.set_cons_succ]
      try simp only [List.set_cons_zero]
      refine takeD (i := 6) (v := ?_) (some 30) rfl rfl (by kernel_rfl) (by kernel_rfl) (by kernel_rfl) (fun _ _ _ h => h) (by rfl) hHeld ?_ ?_
      rotate_left
      · intro W hSw
        try dsimp only at hSw
        go_simp
        try with_reducible rfl
      try simp only [Act.put]
      try simp only [List.setIfInBounds_toArray]
      try simp only [List.set_cons_succ]
      try simp only [List.set_cons_zero]
      refine takeD (i := 7) (v := ?_) (some 31) rfl rfl (by kernel_rfl) (by kernel_rfl) (by kernel_rfl) (fun _ _ _ h => h) (by rfl) hHeld ?_ ?_
      rotate_left
      · intro W hSw
        try dsimp only at hSw
        go_simp
        try with_reducible rfl
      try simp only [Act.put]
      try simp only [List.setIfInBounds_toArray]
      try simp only [List.set_cons_succ]
      try simp only [List.set_cons_zero]
      refine takeD (i := 8) (v := ?_) (some 32) rfl rfl (by kernel_rfl) (by kernel_rfl) (by kernel_rfl) (fun _ _ _ h => h) (by rfl) hHeld ?_ ?_
      rotate_left
      · intro W hSw
        try dsimp only at hSw
        go_simp
        try with_reducible rfl
      try simp only [Act.put]
      try simp only [List.setIfInBounds_toArray]
      try simp only [List.set_cons_succ]
      try simp only [List.set_cons_zero]
      rotate_left
      go_simp
      obtain ⟨wr1, bw, hX, hB, hb, YW⟩ := alc_new wdhh5 #[.int .i64 0, .int .i64 0, .int .i64 0, .int .i64 0] 35
      have LBW : Hid (w1.heap.size ≤ bw) := le_at hB LW.out.size
      replace LW : Hid (Below w1.heap.size w1 wr1) := LW.out.trans (hb.mono LW.out.size)
      clear hb
      rw [← hX.out]
      try dsimp only
      refine hK.out _ _ (KK.out _ LW.out) (fun hHeld => ?_)
      clear hK K
      rw [← hB.out]
      clear hX hB
      refine wpAnyH_ready (rs := [1, 9]) (by kernel_rfl) (by simp) ?_
      refine AllReadyH.cons rfl (fun K hK => ?_) (AllReadyH.cons rfl (fun K hK => ?_) AllReadyH.nil)
      go_simp
      refine (toHouse_any id up room _ rs f wr1 (HV.out _ (B1.out.trans (LW.out.mono B1.out.size))) hl).mono ?_
      rintro e wr2 ⟨aH, cH, rfl, hm, hb⟩
      have VH := hide_it hm.recs
      have FMH := hide_it (form_made hm)
      clear hm
      replace YW := hide_it (YW.out.after hb)
      replace LW : Hid (Below w1.heap.size w1 wr2) := LW.out.trans (hb.mono LW.out.size)
      clear hb
      try dsimp only
      refine hK.out _ _ (KK.out _ LW.out) (fun hHeld => ?_)
      clear hK K
      refine wpAnyH_ready (rs := [3, 9]) (by kernel_rfl) (by simp) ?_
      refine AllReadyH.cons rfl (fun K hK => ?_) (AllReadyH.cons rfl (fun K hK => ?_) AllReadyH.nil)
      go_simp
      refine (toWord_any k h t m wr2).mono ?_
      rintro e wr3 ⟨rfl, hb⟩
      replace YW := hide_it (YW.out.after hb)
      replace VH := hide_it (VH.out.later hb (Nat.le_refl _))
      replace LW : Hid (Below w1.heap.size w1 wr3) := LW.out.trans (hb.mono LW.out.size)
      clear hb
      try dsimp only
      refine hK.out _ _ (KK.out _ LW.out) (fun hHeld => ?_)
      clear hK K
      refine wpAnyH_ready (rs := [4, 9]) (by kernel_rfl) (by simp) ?_
      refine AllReadyH.cons rfl (fun K hK => ?_) (AllReadyH.cons rfl (fun K hK => ?_) AllReadyH.nil)
      go_simp
      refine (HSP.out _ wr3 VH.out).mono ?_
      rintro e wr4 ⟨aC, cC, rfl, hm, hb⟩
      obtain ⟨lo, hi, pC, P, O, Z, hlo, hhi⟩ := made_split hm
      have LL : Hid (w1.heap.size ≤ lo) := le_at hlo LW.out.size
      have AW : Hid (bw < lo ∨ hi ≤ bw) := Or.inl (lt_at hlo YW.out.lt)
      clear hm hlo hhi VH
      replace YW := hide_it (YW.out.after hb)
      replace LW : Hid (Below w1.heap.size w1 wr4) := LW.out.trans (hb.mono LW.out.size)
      clear hb
      try dsimp only
      refine hK.out _ _ (KK.out _ LW.out) (fun hHeld => ?_)
      clear hK K
      refine takeD (i := 5) (v := ?_) (some 24) rfl rfl (by kernel_rfl) (by kernel_rfl) (by kernel_rfl) (fun _ _ _ h => h) (by rfl) hHeld ?_ ?_
      rotate_left
      · intro W hSw
        try dsimp only at hSw
        go_simp
        try with_reducible rfl
      try simp only [Act.put]
      try simp only [List.setIfInBounds_toArray]
      try simp only [List.set_cons_succ]
      try simp only [List.set_cons_zero]
      refine takeD (i := 6) (v := ?_) (some 30) rfl rfl (by kernel_rfl) (by kernel_rfl) (by kernel_rfl) (fun _ _ _ h => h) (by rfl) hHeld ?_ ?_
      rotate_left
      · intro W hSw
        try dsimp only at hSw
        go_simp
        try with_reducible rfl
      try simp only [Act.put]
      try simp only [List.setIfInBounds_toArray]
      try simp only [List.set_cons_succ]
      try simp only [List.set_cons_zero]
      refine takeD (i := 7) (v := ?_) (some 31) rfl rfl (by kernel_rfl) (by kernel_rfl) (by kernel_rfl) (fun _ _ _ h => h) (by rfl) hHeld ?_ ?_
      rotate_left
      · intro W hSw
        try dsimp only at hSw
        go_simp
        try with_reducible rfl
      try simp only [Act.put]
      try simp only [List.setIfInBounds_toArray]
      try simp only [List.set_cons_succ]
      try simp only [List.set_cons_zero]
      refine takeD (i := 8) (v := ?_) (some 32) rfl rfl (by kernel_rfl) (by kernel_rfl) (by kernel_rfl) (fun _ _ _ h => h) (by rfl) hHeld ?_ ?_
      rotate_left
      · intro W hSw
        try dsimp only at hSw
        go_simp
        try with_reducible rfl
      try simp only [Act.put]
      try simp only [List.setIfInBounds_toArray]
      try simp only [List.set_cons_succ]
      try simp only [List.set_cons_zero]
      refine wpAnyH_ready (rs := [9]) (by kernel_rfl) (by simp) ?_
      refine AllReadyH.cons rfl (fun K hK => ?_) AllReadyH.nil
      go_simp
      obtain ⟨wr5, bh, hX, hB, hb, YH⟩ := alc_new wr4 #[.int .i64 0, .bool false, .int .i64 0, .slice none 0 0, .int .i64 0] 34
      have LBH : Hid (w1.heap.size ≤ bh) := le_at hB LW.out.size
      have AH : Hid (bh < lo ∨ hi ≤ bh) := Or.inr (le_at hB Z.out)
      replace YW := hide_it (YW.out.after hb)
      replace O := hide_it (O.out.below hb Z.out)
      replace Z : Hid (hi ≤ wr5.heap.size) := Nat.le_trans Z.out hb.size
      replace LW : Hid (Below w1.heap.size w1 wr5) := LW.out.trans (hb.mono LW.out.size)
      clear hb
      rw [← hX.out]
      try dsimp only
      refine hK.out _ _ (KK.out _ LW.out) (fun hHeld => ?_)
      clear hK K
      rw [← hB.out]
      clear hX hB
      rotate_left
      go_simp
      obtain ⟨wr4, bh, hX, hB, hb, YH⟩ := alc_new wr3 #[.int .i64 0, .bool false, .int .i64 0, .slice none 0 0, .int .i64 0] 34
      have LBH : Hid (w1.heap.size ≤ bh) := le_at hB LW.out.size
      replace YW := hide_it (YW.out.after hb)
      replace VH := hide_it (VH.out.later hb (Nat.le_refl _))
      replace LW : Hid (Below w1.heap.size w1 wr4) := LW.out.trans (hb.mono LW.out.size)
      clear hb
      rw [← hX.out]
      try dsimp only
      refine hK.out _ _ (KK.out _ LW.out) (fun hHeld => ?_)
      clear hK K
      rw [← hB.out]
      clear hX hB
      refine wpAnyH_ready (rs := [4]) (by kernel_rfl) (by simp) ?_
      refine AllReadyH.cons rfl (fun K hK => ?_) AllReadyH.nil
      go_simp
      refine (HSP.out _ wr4 VH.out).mono ?_
      rintro e wr5 ⟨aC, cC, rfl, hm, hb⟩
      obtain ⟨lo, hi, pC, P, O, Z, hlo, hhi⟩ := made_split hm
      have LL : Hid (w1.heap.size ≤ lo) := le_at hlo LW.out.size
      have AH : Hid (bh < lo ∨ hi ≤ bh) := Or.inl (lt_at hlo YH.out.lt)
      have AW : Hid (bw < lo ∨ hi ≤ bw) := Or.inl (lt_at hlo YW.out.lt)
      clear hm hlo hhi VH
      replace YH := hide_it (YH.out.after hb)
      replace YW := hide_it (YW.out.after hb)
      replace LW : Hid (Below w1.heap.size w1 wr5) := LW.out.trans (hb.mono LW.out.size)
      clear hb
      try dsimp only
      refine hK.out _ _ (KK.out _ LW.out) (fun hHeld => ?_)
      clear hK K
      refine takeD (i := 5) (v := ?_) (some 24) rfl rfl (by kernel_rfl) (by kernel_rfl) (by kernel_rfl) (fun _ _ _ h => h) (by rfl) hHeld ?_ ?_
      rotate_left
      · intro W hSw
        try dsimp only at hSw
        go_simp
        try with_reducible rfl
      try simp only [Act.put]
      try simp only [List.setIfInBounds_toArray]
      try simp only [List.set_cons_succ]
      try simp only [List.set_cons_zero]
      refine takeD (i := 6) (v := ?_) (some 30) rfl rfl (by kernel_rfl) (by kernel_rfl) (by kernel_rfl) (fun _ _ _ h => h) (by rfl) hHeld ?_ ?_
      rotate_left
      · intro W hSw
        try dsimp only at hSw
        go_simp
        try with_reducible rfl
      try simp only [Act.put]
      try simp only [List.setIfInBounds_toArray]
      try simp only [List.set_cons_succ]
      try simp only [List.set_cons_zero]
      refine takeD (i := 7) (v := ?_) (some 31) rfl rfl (by kernel_rfl) (by kernel_rfl) (by kernel_rfl) (fun _ _ _ h => h) (by rfl) hHeld ?_ ?_
      rotate_left
      · intro W hSw
        try dsimp only at hSw
        go_simp
        try with_reducible rfl
      try simp only [Act.put]
      try simp only [List.setIfInBounds_toArray]
      try simp only [List.set_cons_succ]
      try simp only [List.set_cons_zero]
      refine takeD (i := 8) (v := ?_) (some 32) rfl rfl (by kernel_rfl) (by kernel_rfl) (by kernel_rfl) (fun _ _ _ h => h) (by rfl) hHeld ?_ ?_
      rotate_left
      · intro W hSw
        try dsimp only at hSw
        go_simp
        try with_reducible rfl
      try simp only [Act.put]
      try simp only [List.setIfInBounds_toArray]
      try simp only [List.set_cons_succ]
      try simp only [List.set_cons_zero]
      rotate_left
      go_simp
      obtain ⟨wr3, bh, hX, hB, hb, YH⟩ := alc_new wr2 #[.int .i64 0, .bool false, .int .i64 0, .slice none 0 0, .int .i64 0] 34
      have LBH : Hid (w1.heap.size ≤ bh) := le_at hB LW.out.size
      replace YW := hide_it (YW.out.after hb)
      replace VH := hide_it (VH.out.later hb (Nat.le_refl _))
      replace LW : Hid (Below w1.heap.size w1 wr3) := LW.out.trans (hb.mono LW.out.size)
      clear hb
      rw [← hX.out]
      try dsimp only
      refine hK.out _ _ (KK.out _ LW.out) (fun hHeld => ?_)
      clear hK K
      rw [← hB.out]
      clear hX hB
      refine wpAnyH_ready (rs := [3]) (by kernel_rfl) (by simp) ?_
      refine AllReadyH.cons rfl (fun K hK => ?_) AllReadyH.nil
      go_simp
      refine (toWord_any k h t m wr3).mono ?_
      rintro e wr4 ⟨rfl, hb⟩
      replace YH := hide_it (YH.out.after hb)
      replace YW := hide_it (YW.out.after hb)
      replace VH := hide_it (VH.out.later hb (Nat.le_refl _))
      replace LW : Hid (Below w1.heap.size w1 wr4) := LW.out.trans (hb.mono LW.out.size)
      clear hb
      try dsimp only
      refine hK.out _ _ (KK.out _ LW.out) (fun hHeld => ?_)
      clear hK K
      refine wpAnyH_ready (rs := [4]) (by kernel_rfl) (by simp) ?_
      refine AllReadyH.cons rfl (fun K hK => ?_) AllReadyH.nil
      go_simp
      refine (HSP.out _ wr4 VH.out).mono ?_
      rintro e wr5 ⟨aC, cC, rfl, hm, hb⟩
      obtain ⟨lo, hi, pC, P, O, Z, hlo, hhi⟩ := made_split hm
      have LL : Hid (w1.heap.size ≤ lo) := le_at hlo LW.out.size
      have AH : Hid (bh < lo ∨ hi ≤ bh) := Or.inl (lt_at hlo YH.out.lt)
      have AW : Hid (bw < lo ∨ hi ≤ bw) := Or.inl (lt_at hlo YW.out.lt)
      clear hm hlo hhi VH
      replace YH := hide_it (YH.out.after hb)
      replace YW := hide_it (YW.out.after hb)
      replace LW : Hid (Below w1.heap.size w1 wr5) := LW.out.trans (hb.mono LW.out.size)
      clear hb
      try dsimp only
      refine hK.out _ _ (KK.out _ LW.out) (fun hHeld => ?_)
      clear hK K
      refine takeD (i := 5) (v := ?_) (some 24) rfl rfl (by kernel_rfl) (by kernel_rfl) (by kernel_rfl) (fun _ _ _ h => h) (by rfl) hHeld ?_ ?_
      rotate_left
      · intro W hSw
        try dsimp only at hSw
        go_simp
        try with_reducible rfl
      try simp only [Act.put]
      try simp only [List.setIfInBounds_toArray]
      try simp only [List.set_cons_succ]
      try simp only [List.set_cons_zero]
      refine takeD (i := 6) (v := ?_) (some 30) rfl rfl (by kernel_rfl) (by kernel_rfl) (by kernel_rfl) (fun _ _ _ h => h) (by rfl) hHeld ?_ ?_
      rotate_left
      · intro W hSw
        try dsimp only at hSw
        go_simp
        try with_reducible rfl
      try simp only [Act.put]
      try simp only [List.setIfInBounds_toArray]
      try simp only [List.set_cons_succ]
      try simp only [List.set_cons_zero]
      refine takeD (i := 7) (v := ?_) (some 31) rfl rfl (by kernel_rfl) (by kernel_rfl) (by kernel_rfl) (fun _ _ _ h => h) (by rfl) hHeld ?_ ?_
      rotate_left
      · intro W hSw
        try dsimp only at hSw
        go_simp
        try with_reducible rfl
      try simp only [Act.put]
      try simp only [List.setIfInBounds_toArray]
      try simp only [List.set_cons_succ]
      try simp only [List.set_cons_zero]
      refine takeD (i := 8) (v := ?_) (some 32) rfl rfl (by kernel_rfl) (by kernel_rfl) (by kernel_rfl) (fun _ _ _ h => h) (by rfl) hHeld ?_ ?_
      rotate_left
      · intro W hSw
        try dsimp only at hSw
        go_simp
        try with_reducible rfl
      try simp only [Act.put]
      try simp only [List.setIfInBounds_toArray]
      try simp only [List.set_cons_succ]
      try simp only [List.set_cons_zero]
      rotate_left
      go_simp
      obtain ⟨wr2, bh, hX, hB, hb, YH⟩ := alc_new wr1 #[.int .i64 0, .bool false, .int .i64 0, .slice none 0 0, .int .i64 0] 34
      have LBH : Hid (w1.heap.size ≤ bh) := le_at hB LW.out.size
      replace YW := hide_it (YW.out.after hb)
      replace LW : Hid (Below w1.heap.size w1 wr2) := LW.out.trans (hb.mono LW.out.size)
      clear hb
      rw [← hX.out]
      try dsimp only
      refine hK.out _ _ (KK.out _ LW.out) (fun hHeld => ?_)
      clear hK K
      rw [← hB.out]
      clear hX hB
      refine wpAnyH_ready (rs := [1]) (by kernel_rfl) (by simp) ?_
      refine AllReadyH.cons rfl (fun K hK => ?_) AllReadyH.nil
      go_simp
      refine (toHouse_any id up room _ rs f wr2 (HV.out _ (B1.out.trans (LW.out.mono B1.out.size))) hl).mono ?_
      rintro e wr3 ⟨aH, cH, rfl, hm, hb⟩
      have VH := hide_it hm.recs
      have FMH := hide_it (form_made hm)
      clear hm
      replace YH := hide_it (YH.out.after hb)
      replace YW := hide_it (YW.out.after hb)
      replace LW : Hid (Below w1.heap.size w1 wr3) := LW.out.trans (hb.mono LW.out.size)
      clear hb
      try dsimp only
      refine hK.out _ _ (KK.out _ LW.out) (fun hHeld => ?_)
      clear hK K
      refine wpAnyH_ready (rs := [3]) (by kernel_rfl) (by simp) ?_
      refine AllReadyH.cons rfl (fun K hK => ?_) AllReadyH.nil
      go_simp
      refine (toWord_any k h t m wr3).mono ?_
      rintro e wr4 ⟨rfl, hb⟩
      replace YH := hide_it (YH.out.after hb)
      replace YW := hide_it (YW.out.after hb)
      replace VH := hide_it (VH.out.later hb (Nat.le_refl _))
      replace LW : Hid (Below w1.heap.size w1 wr4) := LW.out.trans (hb.mono LW.out.size)
      clear hb
      try dsimp only
      refine hK.out _ _ (KK.out _ LW.out) (fun hHeld => ?_)
      clear hK K
      refine wpAnyH_ready (rs := [4]) (by kernel_rfl) (by simp) ?_
      refine AllReadyH.cons rfl (fun K hK => ?_) AllReadyH.nil
      go_simp
      refine (HSP.out _ wr4 VH.out).mono ?_
      rintro e wr5 ⟨aC, cC, rfl, hm, hb⟩
      obtain ⟨lo, hi, pC, P, O, Z, hlo, hhi⟩ := made_split hm
      have LL : Hid (w1.heap.size ≤ lo) := le_at hlo LW.out.size
      have AH : Hid (bh < lo ∨ hi ≤ bh) := Or.inl (lt_at hlo YH.out.lt)
      have AW : Hid (bw < lo ∨ hi ≤ bw) := Or.inl (lt_at hlo YW.out.lt)
      clear hm hlo hhi VH
      replace YH := hide_it (YH.out.after hb)
      replace YW := hide_it (YW.out.after hb)
      replace LW : Hid (Below w1.heap.size w1 wr5) := LW.out.trans (hb.mono LW.out.size)
      clear hb
      try dsimp only
      refine hK.out _ _ (KK.out _ LW.out) (fun hHeld => ?_)
      clear hK K
      refine takeD (i := 5) (v := ?_) (some 24) rfl rfl (by kernel_rfl) (by kernel_rfl) (by kernel_rfl) (fun _ _ _ h => h) (by rfl) hHeld ?_ ?_
      rotate_left
      · intro W hSw
        try dsimp only at hSw
        go_simp
        try with_reducible rfl
      try simp only [Act.put]
      try simp only [List.setIfInBounds_toArray]
      try simp only [List.set_cons_succ]
      try simp only [List.set_cons_zero]
      refine takeD (i := 6) (v := ?_) (some 30) rfl rfl (by kernel_rfl) (by kernel_rfl) (by kernel_rfl) (fun _ _ _ h => h) (by rfl) hHeld ?_ ?_
      rotate_left
      · intro W hSw
        try dsimp only at hSw
        go_simp
        try with_reducible rfl
      try simp only [Act.put]
      try simp only [List.setIfInBounds_toArray]
      try simp only [List.set_cons_succ]
      try simp only [List.set_cons_zero]
      refine takeD (i := 7) (v := ?_) (some 31) rfl rfl (by kernel_rfl) (by kernel_rfl) (by kernel_rfl) (fun _ _ _ h => h) (by rfl) hHeld ?_ ?_
      rotate_left
      · intro W hSw
        try dsimp only at hSw
        go_simp
        try with_reducible rfl
      try simp only [Act.put]
      try simp only [List.setIfInBounds_toArray]
      try simp only [List.set_cons_succ]
      try simp only [List.set_cons_zero]
      refine takeD (i := 8) (v := ?_) (some 32) rfl rfl (by kernel_rfl) (by kernel_rfl) (by kernel_rfl) (fun _ _ _ h => h) (by rfl) hHeld ?_ ?_
      rotate_left
      · intro W hSw
        try dsimp only at hSw
        go_simp
        try with_reducible rfl
      try simp only [Act.put]
      try simp only [List.setIfInBounds_toArray]
      try simp only [List.set_cons_succ]
      try simp only [List.set_cons_zero]
      rotate_left
      all_goals
        have NE := ne_hw YH.out YW.out
        refine wpAnyH_ready (rs := [11]) (by kernel_rfl) (by simp) ?_
        refine AllReadyH.cons rfl (fun K hK => ?_) AllReadyH.nil
        go_simp
        obtain ⟨c0, c1, c2, c3, c4⟩ := YH.out.cells5
        have cf0 := YH.out.free 0
        have cf1 := YH.out.free 1
        have cf2 := YH.out.free 2
        have cf3 := YH.out.free 3
        have cf4 := YH.out.free 4
        go_simp
        obtain ⟨wr6, hX⟩ : ∃ W, Hid (W = (((((wr5.setCell ⟨bh, 0, none⟩ (.int .i64 ID)).setCell ⟨bh, 1, none⟩ (.bool UP)).setCell ⟨bh, 2, none⟩ (.int .i64 ROOM)).setCell ⟨bh, 3, none⟩ (.slice aC RS.length cC)).setCell ⟨bh, 4, none⟩ (.int .i64 F))) := ⟨_, rfl⟩
        replace Z : Hid (hi ≤ wr6.heap.size) := Nat.le_trans Z.out (Nat.le_of_eq (by rw [hX.out]; simp))
        have YH2 : Hid (Blk wr6 bh #[.int .i64 ID, .bool UP, .int .i64 ROOM, .slice aC RS.length cC, .int .i64 F] 34) := by show Blk _ _ _ _; rw [hX.out]; exact blk_h5 YH.out
        replace YW : Hid (Blk wr6 bw #[.int .i64 0, .int .i64 0, .int .i64 0, .int .i64 0] 35) := by show Blk _ _ _ _; rw [hX.out]; exact blk_h5o YW.out (fun e => NE e.symm)
        replace O : Hid (OwnRecs wr6 lo hi (.slice aC RS.length cC) pC) := by show OwnRecs _ _ _ _ _; rw [hX.out]; exact own_h5 O.out YH.out
        replace LW : Hid (Below w1.heap.size w1 wr6) := by show Below _ _ _; rw [hX.out]; exact bel_h5 LW.out LBH.out
        rw [← hX.out]
        clear hX c0 cf0 c1 cf1 c2 cf2 c3 cf3 c4 cf4
        try dsimp only
        refine hK.out _ _ (KK.out _ LW.out) (fun hHeld => ?_)
        clear hK K
        refine wpAnyH_ready (rs := [12]) (by kernel_rfl) (by simp) ?_
        refine AllReadyH.cons rfl (fun K hK => ?_) AllReadyH.nil
        go_simp
        obtain ⟨c0, c1, c2, c3⟩ := YW.out.cells4
        have cf0 := YW.out.free 0
        have cf1 := YW.out.free 1
        have cf2 := YW.out.free 2
        have cf3 := YW.out.free 3
        go_simp
        obtain ⟨wr7, hX⟩ : ∃ W, Hid (W = ((((wr6.setCell ⟨bw, 0, none⟩ (.int .i64 X1)).setCell ⟨bw, 1, none⟩ (.int .i64 X2)).setCell ⟨bw, 2, none⟩ (.int .i64 X3)).setCell ⟨bw, 3, none⟩ (.int .i64 0))) := ⟨_, rfl⟩
        replace Z : Hid (hi ≤ wr7.heap.size) := Nat.le_trans Z.out (Nat.le_of_eq (by rw [hX.out]; simp))
        have YW2 : Hid (Blk wr7 bw #[.int .i64 X1, .int .i64 X2, .int .i64 X3, .int .i64 0] 35) := by show Blk _ _ _ _; rw [hX.out]; exact blk_w4 YW.out
        replace YH2 : Hid (Blk wr7 bh #[.int .i64 ID, .bool UP, .int .i64 ROOM, .slice aC RS.length cC, .int .i64 F] 34) := by show Blk _ _ _ _; rw [hX.out]; exact blk_w4o YH2.out NE
        replace O : Hid (OwnRecs wr7 lo hi (.slice aC RS.length cC) pC) := by show OwnRecs _ _ _ _ _; rw [hX.out]; exact own_w4 O.out YW.out
        replace LW : Hid (Below w1.heap.size w1 wr7) := by show Below _ _ _; rw [hX.out]; exact bel_w4 LW.out LBW.out
        rw [← hX.out]
        clear hX c0 cf0 c1 cf1 c2 cf2 c3 cf3
        try dsimp only
        refine hK.out _ _ (KK.out _ LW.out) (fun hHeld => ?_)
        clear hK K
        refine takeD (i := 13) (v := ?_) (some 8) rfl rfl (by kernel_rfl) (by kernel_rfl) (by kernel_rfl) (fun _ _ _ h => h) (by rfl) hHeld ?_ ?_
        rotate_left
        · intro W hSw
          try dsimp only at hSw
          go_simp
          try with_reducible rfl
        try simp only [Act.put]
        try simp only [List.setIfInBounds_toArray]
        try simp only [List.set_cons_succ]
        try simp only [List.set_cons_zero]
        refine wpAnyH_done (by kernel_rfl) ?_ _
        go_wp2_with fail
        go_meet
        case rel => exact ⟨_, _, aC, cC, pC, _, _, rfl, rfl, rfl, P, hide_it ⟨LW.out, YH2.out, YW2.out, O.out, LBH.out, LBW.out, AH.out, AW.out, LL.out, Z.out⟩⟩
  case rest =>
    obtain ⟨bh5, bw5, a3, cap3, ps3, lo3, hi3, rfl, rfl, rfl, HP3, M3⟩ := hcut
    rename World => w4
    have B4 := hide_it (B1.out.trans (M3.out.be.mono B1.out.size))
    have T4 := hide_it (T1.out.after M3.out.be)
    have K4 := hide_it (K1.out.after M3.out.be)
    have V4 : Hid (Recs w4 (.slice a3 RS.length cap3) RS) := by
      have := M3.out.ow.recs; rw [HP3.out] at this; exact this
    have Z4 : Hid (Blk w4 bh5 #[.int .i64 ID, .bool UP, .int .i64 ROOM, .slice a3 RS.length cap3, .int .i64 F] 34) := M3.out.ho
    have Q4 : Hid (Blk w4 bw5 #[.int .i64 X1, .int .i64 X2, .int .i64 X3, .int .i64 0] 35) := M3.out.wo
    have hz4 : w.heap.size ≤ w4.heap.size := B4.out.size
    clear M3 HP3 c0 c1 c2 c3 c4 y0 y1 y2 y3 KK
    obtain ⟨c0, c1, c2, c3, c4⟩ := T4.out.cells5
    go_wp2_with fail
    refine (toHouse_any id up room _ rs f w4 (HV.out _ B4.out) hl).mono ?_
    rintro e w5 ⟨a5, cap5, rfl, hm5, hb5⟩
    have FM5 : Hid (Form (.slice a5 rs.length cap5) rs.length) := form_made hm5
    obtain ⟨ps5, hp5, ho5⟩ := hm5
    have HP5 := hide_it hp5
    have O5 := hide_it ho5
    have E5 := hide_it hb5
    clear hp5 ho5 hb5 c0 c1 c2 c3 c4
    obtain ⟨w6, hw6⟩ : ∃ W, Hid (W = w5.alloc (.cells #[.int .i64 id, .bool up, .int .i64 room, .slice a5 rs.length cap5, .int .i64 f] 34)) := ⟨_, rfl⟩
    have al6 := hide_it (show Below w5.heap.size w5 w6 by rw [hw6.out]; exact alloc_below _ _)
    have HS6 := hide_it (show w6.heap.size = w5.heap.size + 1 by rw [hw6.out]; simp)
    have E6 := hide_it (E5.out.trans (al6.out.mono E5.out.size))
    have O6 := hide_it (O5.out.below al6.out (Nat.le_refl _))
    have X6 : Hid (Blk w6 w5.heap.size #[.int .i64 id, .bool up, .int .i64 room, .slice a5 rs.length cap5, .int .i64 f] 34) := by show Blk _ _ _ _; rw [hw6.out]; exact Blk.new _ _ _
    have R6 : Hid (Recs w6 (.slice a5 rs.length cap5) rs) := by
      have := O6.out.recs; rw [HP5.out] at this; exact this
    have B6 := hide_it (B4.out.trans (E6.out.mono hz4))
    have K6 := hide_it (K4.out.after E6.out)
    have KK : Hid (∀ W, Below w6.heap.size w6 W → (let w' := W; (w'.cell? ⟨w5.heap.size, 0, none⟩ = some (.int .i64 id) ∧ w'.cell? ⟨w5.heap.size, 1, none⟩ = some (.bool up) ∧ w'.cell? ⟨w5.heap.size, 2, none⟩ = some (.int .i64 room) ∧ w'.cell? ⟨w5.heap.size, 3, none⟩ = some (.slice a5 rs.length cap5) ∧ w'.cell? ⟨w5.heap.size, 4, none⟩ = some (.int .i64 f)) ∧ (w'.cell? ⟨w.heap.size + 1, 0, none⟩ = some (.int .i64 k) ∧ w'.cell? ⟨w.heap.size + 1, 1, none⟩ = some (.int .i64 h) ∧ w'.cell? ⟨w.heap.size + 1, 2, none⟩ = some (.int .i64 t) ∧ w'.cell? ⟨w.heap.size + 1, 3, none⟩ = some (.int .i64 m)))) := fun W hb => ⟨(X6.out.after hb).cells5, (K6.out.after hb).cells4⟩
    go_wp2_with fail
    rw [← hw6.out]
    go_cut [10, 11, 12] (fun p q b W => ∃ bh bw a5 c5 ps lo hi, p = .pointer (some ⟨bh, 0, none⟩) ∧ q = .pointer (some ⟨bw, 0, none⟩) ∧ b = .bool YB ∧ Hid (ps.map (·.1) = RS) ∧ Hid (MetE w6 W bh bw ID UP ROOM (.slice a5 RS.length c5) F X1 X2 X3 ps lo hi))
    case first =>
      as_aux_lemma =>
        obtain ⟨wdhh7, hwdhh7⟩ : ∃ W, Hid (W = w6.drew) := ⟨_, rfl⟩
        have LW : Hid (Below w6.heap.size w6 wdhh7) := by show Below _ _ _; rw [hwdhh7.out]; exact (Below.refl _ _).drew
        have VH := hide_it (R6.out.later LW.out (Nat.le_refl _))
        refine wp_region_held_drew (S := fun w' => (w'.cell? ⟨w5.heap.size, 0, none⟩ = some (.int .i64 id) ∧ w'.cell? ⟨w5.heap.size, 1, none⟩ = some (.bool up) ∧ w'.cell? ⟨w5.heap.size, 2, none⟩ = some (.int .i64 room) ∧ w'.cell? ⟨w5.heap.size, 3, none⟩ = some (.slice a5 rs.length cap5) ∧ w'.cell? ⟨w5.heap.size, 4, none⟩ = some (.int .i64 f)) ∧ (w'.cell? ⟨w.heap.size + 1, 0, none⟩ = some (.int .i64 k) ∧ w'.cell? ⟨w.heap.size + 1, 1, none⟩ = some (.int .i64 h) ∧ w'.cell? ⟨w.heap.size + 1, 2, none⟩ = some (.int .i64 t) ∧ w'.cell? ⟨w.heap.size + 1, 3, none⟩ = some (.int .i64 m))) (by kernel_rfl) (KK.out _ (Below.refl _ _).drew) (fun hHeld => ?_)
        rw [← hwdhh7.out] at hHeld ⊢
        refine takeD (i := 0) (v := ?_) (some 36) rfl rfl (by kernel_rfl) (by kernel_rfl) (by kernel_rfl) (fun _ _ _ h => h) (by rfl) hHeld ?_ ?_
        rotate_left
        · intro W hSw
          try dsimp only at hSw
          go_simp
          try with_reducible rfl
        try simp only [Act.put]
        try simp only [List.setIfInBounds_toArray]
        try simp only [List.set_cons_succ]
        try simp only [List.set_cons_zero]
        refine takeD (i := 1) (v := ?_) (some 37) rfl rfl (by kernel_rfl) (by kernel_rfl) (by kernel_rfl) (fun _ _ _ h => h) (by rfl) hHeld ?_ ?_
        rotate_left
        · intro W hSw
          try dsimp only at hSw
          go_simp
          try with_reducible rfl
        try simp only [Act.put]
        try simp only [List.setIfInBounds_toArray]
        try simp only [List.set_cons_succ]
        try simp only [List.set_cons_zero]
        refine wpAnyH_ready (rs := [2, 8, 9]) (by kernel_rfl) (by simp) ?_
        refine AllReadyH.cons rfl (fun K hK => ?_) (AllReadyH.cons rfl (fun K hK => ?_) (AllReadyH.cons rfl (fun K hK => ?_) AllReadyH.nil))
        go_simp
        refine (toWord_any k h t m wdhh7).mono ?_
        rintro e wr1 ⟨rfl, hb⟩
        replace VH := hide_it (VH.out.later hb (Nat.le_refl _))
        replace LW : Hid (Below w6.heap.size w6 wr1) := LW.out.trans (hb.mono LW.out.size)
        clear hb
        try dsimp only
        refine hK.out _ _ (KK.out _ LW.out) (fun hHeld => ?_)
        clear hK K
        refine wpAnyH_ready (rs := [3, 8, 9]) (by kernel_rfl) (by simp) ?_
        refine AllReadyH.cons rfl (fun K hK => ?_) (AllReadyH.cons rfl (fun K hK => ?_) (AllReadyH.cons rfl (fun K hK => ?_) AllReadyH.nil))
        go_simp
        refine (HIM.out _ wr1 VH.out FM5.out (HA.out _ (B6.out.trans (LW.out.mono B6.out.size)))).mono ?_
        rintro e wr2 ⟨aC, cC, rfl, hm, hb⟩
        obtain ⟨lo, hi, pC, P, O, Z, hlo, hhi⟩ := made_split hm
        have LL : Hid (w6.heap.size ≤ lo) := le_at hlo LW.out.size
        clear hm hlo hhi VH
        replace LW : Hid (Below w6.heap.size w6 wr2) := LW.out.trans (hb.mono LW.out.size)
        clear hb
        try dsimp only
        refine hK.out _ _ (KK.out _ LW.out) (fun hHeld => ?_)
        clear hK K
        refine takeD (i := 4) (v := ?_) (some 35) rfl rfl (by kernel_rfl) (by kernel_rfl) (by kernel_rfl) (fun _ _ _ h => h) (by rfl) hHeld ?_ ?_
        rotate_left
        · intro W hSw
          try dsimp only at hSw
          go_simp
          try with_reducible rfl
        try simp only [Act.put]
        try simp only [List.setIfInBounds_toArray]
        try simp only [List.set_cons_succ]
        try simp only [List.set_cons_zero]
        refine takeD (i := 5) (v := ?_) (some 40) rfl rfl (by kernel_rfl) (by kernel_rfl) (by kernel_rfl) (fun _ _ _ h => h) (by rfl) hHeld ?_ ?_
        rotate_left
        · intro W hSw
          try dsimp only at hSw
          go_simp
          try with_reducible rfl
        try simp only [Act.put]
        try simp only [List.setIfInBounds_toArray]
        try simp only [List.set_cons_succ]
        try simp only [List.set_cons_zero]
        refine takeD (i := 6) (v := ?_) (some 41) rfl rfl (by kernel_rfl) (by kernel_rfl) (by kernel_rfl) (fun _ _ _ h => h) (by rfl) hHeld ?_ ?_
        rotate_left
        · intro W hSw
          try dsimp only at hSw
          go_simp
          try with_reducible rfl
        try simp only [Act.put]
        try simp only [List.setIfInBounds_toArray]
        try simp only [List.set_cons_succ]
        try simp only [List.set_cons_zero]
        refine takeD (i := 7) (v := ?_) (some 42) rfl rfl (by kernel_rfl) (by kernel_rfl) (by kernel_rfl) (fun _ _ _ h => h) (by rfl) hHeld ?_ ?_
        rotate_left
        · intro W hSw
          try dsimp only at hSw
          go_simp
          try with_reducible rfl
        try simp only [Act.put]
        try simp only [List.setIfInBounds_toArray]
        try simp only [List.set_cons_succ]
        try simp only [List.set_cons_zero]
        refine wpAnyH_ready (rs := [8, 9]) (by kernel_rfl) (by simp) ?_
        refine AllReadyH.cons rfl (fun K hK => ?_) (AllReadyH.cons rfl (fun K hK => ?_) AllReadyH.nil)
        go_simp
        obtain ⟨wr3, bh, hX, hB, hb, YH⟩ := alc_new wr2 #[.int .i64 0, .bool false, .int .i64 0, .slice none 0 0, .int .i64 0] 34
        have LBH : Hid (w6.heap.size ≤ bh) := le_at hB LW.out.size
        have AH : Hid (bh < lo ∨ hi ≤ bh) := Or.inr (le_at hB Z.out)
        replace O := hide_it (O.out.below hb Z.out)
        replace Z : Hid (hi ≤ wr3.heap.size) := Nat.le_trans Z.out hb.size
        replace LW : Hid (Below w6.heap.size w6 wr3) := LW.out.trans (hb.mono LW.out.size)
        clear hb
        rw [← hX.out]
        try dsimp only
        refine hK.out _ _ (KK.out _ LW.out) (fun hHeld => ?_)
        clear hK K
        rw [← hB.out]
        clear hX hB
        refine wpAnyH_ready (rs := [9]) (by kernel_rfl) (by simp) ?_
        refine AllReadyH.cons rfl (fun K hK => ?_) AllReadyH.nil
        go_simp
        obtain ⟨wr4, bw, hX, hB, hb, YW⟩ := alc_new wr3 #[.int .i64 0, .int .i64 0, .int .i64 0, .int .i64 0] 35
        have LBW : Hid (w6.heap.size ≤ bw) := le_at hB LW.out.size
        have AW : Hid (bw < lo ∨ hi ≤ bw) := Or.inr (le_at hB Z.out)
        replace YH := hide_it (YH.out.after hb)
        replace O := hide_it (O.out.below hb Z.out)
        replace Z : Hid (hi ≤ wr4.heap.size) := Nat.le_trans Z.out hb.size
        replace LW : Hid (Below w6.heap.size w6 wr4) := LW.out.trans (hb.mono LW.out.size)
        clear hb
        rw [← hX.out]
        try dsimp only
        refine hK.out _ _ (KK.out _ LW.out) (fun hHeld => ?_)
        clear hK K
        rw [← hB.out]
        clear hX hB
        rotate_left
        go_simp
        obtain ⟨wr3, bw, hX, hB, hb, YW⟩ := alc_new wr2 #[.int .i64 0, .int .i64 0, .int .i64 0, .int .i64 0] 35
        have LBW : Hid (w6.heap.size ≤ bw) := le_at hB LW.out.size
        have AW : Hid (bw < lo ∨ hi ≤ bw) := Or.inr (le_at hB Z.out)
        replace O := hide_it (O.out.below hb Z.out)
        replace Z : Hid (hi ≤ wr3.heap.size) := Nat.le_trans Z.out hb.size
        replace LW : Hid (Below w6.heap.size w6 wr3) := LW.out.trans (hb.mono LW.out.size)
        clear hb
        rw [← hX.out]
        try dsimp only
        refine hK.out _ _ (KK.out _ LW.out) (fun hHeld => ?_)
        clear hK K
        rw [← hB.out]
        clear hX hB
        refine wpAnyH_ready (rs := [8]) (by kernel_rfl) (by simp) ?_
        refine AllReadyH.cons rfl (fun K hK => ?_) AllReadyH.nil
        go_simp
        obtain ⟨wr4, bh, hX, hB, hb, YH⟩ := alc_new wr3 #[.int .i64 0, .bool false, .int .i64 0, .slice none 0 0, .int .i64 0] 34
        have LBH : Hid (w6.heap.size ≤ bh) := le_at hB LW.out.size
        have AH : Hid (bh < lo ∨ hi ≤ bh) := Or.inr (le_at hB Z.out)
        replace YW := hide_it (YW.out.after hb)
        replace O := hide_it (O.out.below hb Z.out)
        replace Z : Hid (hi ≤ wr4.heap.size) := Nat.le_trans Z.out hb.size
        replace LW : Hid (Below w6.heap.size w6 wr4) := LW.out.trans (hb.mono LW.out.size)
        clear hb
        rw [← hX.out]
        try dsimp only
        refine hK.out _ _ (KK.out _ LW.out) (fun hHeld => ?_)
        clear hK K
        rw [← hB.out]
        clear hX hB
        rotate_left
        go_simp
        obtain ⟨wr2, bh, hX, hB, hb, YH⟩ := alc_new wr1 #[.int .i64 0, .bool false, .int .i64 0, .slice none 0 0, .int .i64 0] 34
        have LBH : Hid (w6.heap.size ≤ bh) := le_at hB LW.out.size
        replace VH := hide_it (VH.out.later hb (Nat.le_refl _))
        replace LW : Hid (Below w6.heap.size w6 wr2) := LW.out.trans (hb.mono LW.out.size)
        clear hb
        rw [← hX.out]
        try dsimp only
        refine hK.out _ _ (KK.out _ LW.out) (fun hHeld => ?_)
        clear hK K
        rw [← hB.out]
        clear hX hB
        refine wpAnyH_ready (rs := [3, 9]) (by kernel_rfl) (by simp) ?_
        refine AllReadyH.cons rfl (fun K hK => ?_) (AllReadyH.cons rfl (fun K hK => ?_) AllReadyH.nil)
        go_simp
        refine (HIM.out _ wr2 VH.out FM5.out (HA.out _ (B6.out.trans (LW.out.mono B6.out.size)))).mono ?_
        rintro e wr3 ⟨aC, cC, rfl, hm, hb⟩
        obtain ⟨lo, hi, pC, P, O, Z, hlo, hhi⟩ := made_split hm
        have LL : Hid (w6.heap.size ≤ lo) := le_at hlo LW.out.size
        have AH : Hid (bh < lo ∨ hi ≤ bh) := Or.inl (lt_at hlo YH.out.lt)
        clear hm hlo hhi VH
        replace YH := hide_it (YH.out.after hb)
        replace LW : Hid (Below w6.heap.size w6 wr3) := LW.out.trans (hb.mono LW.out.size)
        clear hb
        try dsimp only
        refine hK.out _ _ (KK.out _ LW.out) (fun hHeld => ?_)
        clear hK K
        refine takeD (i := 4) (v := ?_) (some 35) rfl rfl (by kernel_rfl) (by kernel_rfl) (by kernel_rfl) (fun _ _ _ h => h) (by rfl) hHeld ?_ ?_
        rotate_left
        · intro W hSw
          try dsimp only at hSw
          go_simp
          try with_reducible rfl
        try simp only [Act.put]
        try simp only [List.setIfInBounds_toArray]
        try simp only [List.set_cons_succ]
        try simp only [List.set_cons_zero]
        refine takeD (i := 5) (v := ?_) (some 40) rfl rfl (by kernel_rfl) (by kernel_rfl) (by kernel_rfl) (fun _ _ _ h => h) (by rfl) hHeld ?_ ?_
        rotate_left
        · intro W hSw
          try dsimp only at hSw
          go_simp
          try with_reducible rfl
        try simp only [Act.put]
        try simp only [List.setIfInBounds_toArray]
        try simp only [List.set_cons_succ]
        try simp only [List.set_cons_zero]
        refine takeD (i := 6) (v := ?_) (some 41) rfl rfl (by kernel_rfl) (by kernel_rfl) (by kernel_rfl) (fun _ _ _ h => h) (by rfl) hHeld ?_ ?_
        rotate_left
        · intro W hSw
          try dsimp only at hSw
          go_simp
          try with_reducible rfl
        try simp only [Act.put]
        try simp only [List.setIfInBounds_toArray]
        try simp only [List.set_cons_succ]
        try simp only [List.set_cons_zero]
        refine takeD (i := 7) (v := ?_) (some 42) rfl rfl (by kernel_rfl) (by kernel_rfl) (by kernel_rfl) (fun _ _ _ h => h) (by rfl) hHeld ?_ ?_
        rotate_left
        · intro W hSw
          try dsimp only at hSw
          go_simp
          try with_reducible rfl
        try simp only [Act.put]
        try simp only [List.setIfInBounds_toArray]
        try simp only [List.set_cons_succ]
        try simp only [List.set_cons_zero]
        refine wpAnyH_ready (rs := [9]) (by kernel_rfl) (by simp) ?_
        refine AllReadyH.cons rfl (fun K hK => ?_) AllReadyH.nil
        go_simp
        obtain ⟨wr4, bw, hX, hB, hb, YW⟩ := alc_new wr3 #[.int .i64 0, .int .i64 0, .int .i64 0, .int .i64 0] 35
        have LBW : Hid (w6.heap.size ≤ bw) := le_at hB LW.out.size
        have AW : Hid (bw < lo ∨ hi ≤ bw) := Or.inr (le_at hB Z.out)
        replace YH := hide_it (YH.out.after hb)
        replace O := hide_it (O.out.below hb Z.out)
        replace Z : Hid (hi ≤ wr4.heap.size) := Nat.le_trans Z.out hb.size
        replace LW : Hid (Below w6.heap.size w6 wr4) := LW.out.trans (hb.mono LW.out.size)
        clear hb
        rw [← hX.out]
        try dsimp only
        refine hK.out _ _ (KK.out _ LW.out) (fun hHeld => ?_)
        clear hK K
        rw [← hB.out]
        clear hX hB
        rotate_left
        go_simp
        obtain ⟨wr3, bw, hX, hB, hb, YW⟩ := alc_new wr2 #[.int .i64 0, .int .i64 0, .int .i64 0, .int .i64 0] 35
        have LBW : Hid (w6.heap.size ≤ bw) := le_at hB LW.out.size
        replace YH := hide_it (YH.out.after hb)
        replace VH := hide_it (VH.out.later hb (Nat.le_refl _))
        replace LW : Hid (Below w6.heap.size w6 wr3) := LW.out.trans (hb.mono LW.out.size)
        clear hb
        rw [← hX.out]
        try dsimp only
        refine hK.out _ _ (KK.out _ LW.out) (fun hHeld => ?_)
        clear hK K
        rw [← hB.out]
        clear hX hB
        refine wpAnyH_ready (rs := [3]) (by kernel_rfl) (by simp) ?_
        refine AllReadyH.cons rfl (fun K hK => ?_) AllReadyH.nil
        go_simp
        refine (HIM.out _ wr3 VH.out FM5.out (HA.out _ (B6.out.trans (LW.out.mono B6.out.size)))).mono ?_
        rintro e wr4 ⟨aC, cC, rfl, hm, hb⟩
        obtain ⟨lo, hi, pC, P, O, Z, hlo, hhi⟩ := made_split hm
        have LL : Hid (w6.heap.size ≤ lo) := le_at hlo LW.out.size
        have AH : Hid (bh < lo ∨ hi ≤ bh) := Or.inl (lt_at hlo YH.out.lt)
        have AW : Hid (bw < lo ∨ hi ≤ bw) := Or.inl (lt_at hlo YW.out.lt)
        clear hm hlo hhi VH
        replace YH := hide_it (YH.out.after hb)
        replace YW := hide_it (YW.out.after hb)
        replace LW : Hid (Below w6.heap.size w6 wr4) := LW.out.trans (hb.mono LW.out.size)
        clear hb
        try dsimp only
        refine hK.out _ _ (KK.out _ LW.out) (fun hHeld => ?_)
        clear hK K
        refine takeD (i := 4) (v := ?_) (some 35) rfl rfl (by kernel_rfl) (by kernel_rfl) (by kernel_rfl) (fun _ _ _ h => h) (by rfl) hHeld ?_ ?_
        rotate_left
        · intro W hSw
          try dsimp only at hSw
          go_simp
          try with_reducible rfl
        try simp only [Act.put]
        try simp only [List.setIfInBounds_toArray]
        try simp only [List.set_cons_succ]
        try simp only [List.set_cons_zero]
        refine takeD (i := 5) (v := ?_) (some 40) rfl rfl (by kernel_rfl) (by kernel_rfl) (by kernel_rfl) (fun _ _ _ h => h) (by rfl) hHeld ?_ ?_
        rotate_left
        · intro W hSw
          try dsimp only at hSw
          go_simp
          try with_reducible rfl
        try simp only [Act.put]
        try simp only [List.setIfInBounds_toArray]
        try simp only [List.set_cons_succ]
        try simp only [List.set_cons_zero]
        refine takeD (i := 6) (v := ?_) (some 41) rfl rfl (by kernel_rfl) (by kernel_rfl) (by kernel_rfl) (fun _ _ _ h => h) (by rfl) hHeld ?_ ?_
        rotate_left
        · intro W hSw
          try dsimp only at hSw
          go_simp
          try with_reducible rfl
        try simp only [Act.put]
        try simp only [List.setIfInBounds_toArray]
        try simp only [List.set_cons_succ]
        try simp only [List.set_cons_zero]
        refine takeD (i := 7) (v := ?_) (some 42) rfl rfl (by kernel_rfl) (by kernel_rfl) (by kernel_rfl) (fun _ _ _ h => h) (by rfl) hHeld ?_ ?_
        rotate_left
        · intro W hSw
          try dsimp only at hSw
          go_simp
          try with_reducible rfl
        try simp only [Act.put]
        try simp only [List.setIfInBounds_toArray]
        try simp only [List.set_cons_succ]
        try simp only [List.set_cons_zero]
        rotate_left
        go_simp
        obtain ⟨wr2, bw, hX, hB, hb, YW⟩ := alc_new wr1 #[.int .i64 0, .int .i64 0, .int .i64 0, .int .i64 0] 35
        have LBW : Hid (w6.heap.size ≤ bw) := le_at hB LW.out.size
        replace VH := hide_it (VH.out.later hb (Nat.le_refl _))
        replace LW : Hid (Below w6.heap.size w6 wr2) := LW.out.trans (hb.mono LW.out.size)
        clear hb
        rw [← hX.out]
        try dsimp only
        refine hK.out _ _ (KK.out _ LW.out) (fun hHeld => ?_)
        clear hK K
        rw [← hB.out]
        clear hX hB
        refine wpAnyH_ready (rs := [3, 8]) (by kernel_rfl) (by simp) ?_
        refine AllReadyH.cons rfl (fun K hK => ?_) (AllReadyH.cons rfl (fun K hK => ?_) AllReadyH.nil)
        go_simp
        refine (HIM.out _ wr2 VH.out FM5.out (HA.out _ (B6.out.trans (LW.out.mono B6.out.size)))).mono ?_
        rintro e wr3 ⟨aC, cC, rfl, hm, hb⟩
        obtain ⟨lo, hi, pC, P, O, Z, hlo, hhi⟩ := made_split hm
        have LL : Hid (w6.heap.size ≤ lo) := le_at hlo LW.out.size
        have AW : Hid (bw < lo ∨ hi ≤ bw) := Or.inl (lt_at hlo YW.out.lt)
        clear hm hlo hhi VH
        replace YW := hide_it (YW.out.after hb)
        replace LW : Hid (Below w6.heap.size w6 wr3) := LW.out.trans (hb.mono LW.out.size)
        clear hb
        try dsimp only
        refine hK.out _ _ (KK.out _ LW.out) (fun hHeld => ?_)
        clear hK K
        refine takeD (i := 4) (v := ?_) (some 35) rfl rfl (by kernel_rfl) (by kernel_rfl) (by kernel_rfl) (fun _ _ _ h => h) (by rfl) hHeld ?_ ?_
        rotate_left
        · intro W hSw
          try dsimp only at hSw
          go_simp
          try with_reducible rfl
        try simp only [Act.put]
        try simp only [List.setIfInBounds_toArray]
        try simp only [List.set_cons_succ]
        try simp only [List.set_cons_zero]
        refine takeD (i := 5) (v := ?_) (some 40) rfl rfl (by kernel_rfl) (by kernel_rfl) (by kernel_rfl) (fun _ _ _ h => h) (by rfl) hHeld ?_ ?_
        rotate_left
        · intro W hSw
          try dsimp only at hSw
          go_simp
          try with_reducible rfl
        try simp only [Act.put]
        try simp only [List.setIfInBounds_toArray]
        try simp only [List.set_cons_succ]
        try simp only [List.set_cons_zero]
        refine takeD (i := 6) (v := ?_) (some 41) rfl rfl (by kernel_rfl) (by kernel_rfl) (by kernel_rfl) (fun _ _ _ h => h) (by rfl) hHeld ?_ ?_
        rotate_left
        · intro W hSw
          try dsimp only at hSw
          go_simp
          try with_reducible rfl
        try simp only [Act.put]
        try simp only [List.setIfInBounds_toArray]
        try simp only [List.set_cons_succ]
        try simp only [List.set_cons_zero]
        refine takeD (i := 7) (v := ?_) (some 42) rfl rfl (by kernel_rfl) (by kernel_rfl) (by kernel_rfl) (fun _ _ _ h => h) (by rfl) hHeld ?_ ?_
        rotate_left
        · intro W hSw
          try dsimp only at hSw
          go_simp
          try with_reducible rfl
        try simp only [Act.put]
        try simp only [List.setIfInBounds_toArray]
        try simp only [List.set_cons_succ]
        try simp only [List.set_cons_zero]
        refine wpAnyH_ready (rs := [8]) (by kernel_rfl) (by simp) ?_
        refine AllReadyH.cons rfl (fun K hK => ?_) AllReadyH.nil
        go_simp
        obtain ⟨wr4, bh, hX, hB, hb, YH⟩ := alc_new wr3 #[.int .i64 0, .bool false, .int .i64 0, .slice none 0 0, .int .i64 0] 34
        have LBH : Hid (w6.heap.size ≤ bh) := le_at hB LW.out.size
        have AH : Hid (bh < lo ∨ hi ≤ bh) := Or.inr (le_at hB Z.out)
        replace YW := hide_it (YW.out.after hb)
        replace O := hide_it (O.out.below hb Z.out)
        replace Z : Hid (hi ≤ wr4.heap.size) := Nat.le_trans Z.out hb.size
        replace LW : Hid (Below w6.heap.size w6 wr4) := LW.out.trans (hb.mono LW.out.size)
        clear hb
        rw [← hX.out]
        try dsimp only
        refine hK.out _ _ (KK.out _ LW.out) (fun hHeld => ?_)
        clear hK K
        rw [← hB.out]
        clear hX hB
        rotate_left
        go_simp
        obtain ⟨wr3, bh, hX, hB, hb, YH⟩ := alc_new wr2 #[.int .i64 0, .bool false, .int .i64 0, .slice none 0 0, .int .i64 0] 34
        have LBH : Hid (w6.heap.size ≤ bh) := le_at hB LW.out.size
        replace YW := hide_it (YW.out.after hb)
        replace VH := hide_it (VH.out.later hb (Nat.le_refl _))
        replace LW : Hid (Below w6.heap.size w6 wr3) := LW.out.trans (hb.mono LW.out.size)
        clear hb
        rw [← hX.out]
        try dsimp only
        refine hK.out _ _ (KK.out _ LW.out) (fun hHeld => ?_)
        clear hK K
        rw [← hB.out]
        clear hX hB
        refine wpAnyH_ready (rs := [3]) (by kernel_rfl) (by simp) ?_
        refine AllReadyH.cons rfl (fun K hK => ?_) AllReadyH.nil
        go_simp
        refine (HIM.out _ wr3 VH.out FM5.out (HA.out _ (B6.out.trans (LW.out.mono B6.out.size)))).mono ?_
        rintro e wr4 ⟨aC, cC, rfl, hm, hb⟩
        obtain ⟨lo, hi, pC, P, O, Z, hlo, hhi⟩ := made_split hm
        have LL : Hid (w6.heap.size ≤ lo) := le_at hlo LW.out.size
        have AH : Hid (bh < lo ∨ hi ≤ bh) := Or.inl (lt_at hlo YH.out.lt)
        have AW : Hid (bw < lo ∨ hi ≤ bw) := Or.inl (lt_at hlo YW.out.lt)
        clear hm hlo hhi VH
        replace YH := hide_it (YH.out.after hb)
        replace YW := hide_it (YW.out.after hb)
        replace LW : Hid (Below w6.heap.size w6 wr4) := LW.out.trans (hb.mono LW.out.size)
        clear hb
        try dsimp only
        refine hK.out _ _ (KK.out _ LW.out) (fun hHeld => ?_)
        clear hK K
        refine takeD (i := 4) (v := ?_) (some 35) rfl rfl (by kernel_rfl) (by kernel_rfl) (by kernel_rfl) (fun _ _ _ h => h) (by rfl) hHeld ?_ ?_
        rotate_left
        · intro W hSw
          try dsimp only at hSw
          go_simp
          try with_reducible rfl
        try simp only [Act.put]
        try simp only [List.setIfInBounds_toArray]
        try simp only [List.set_cons_succ]
        try simp only [List.set_cons_zero]
        refine takeD (i := 5) (v := ?_) (some 40) rfl rfl (by kernel_rfl) (by kernel_rfl) (by kernel_rfl) (fun _ _ _ h => h) (by rfl) hHeld ?_ ?_
        rotate_left
        · intro W hSw
          try dsimp only at hSw
          go_simp
          try with_reducible rfl
        try simp only [Act.put]
        try simp only [List.setIfInBounds_toArray]
        try simp only [List.set_cons_succ]
        try simp only [List.set_cons_zero]
        refine takeD (i := 6) (v := ?_) (some 41) rfl rfl (by kernel_rfl) (by kernel_rfl) (by kernel_rfl) (fun _ _ _ h => h) (by rfl) hHeld ?_ ?_
        rotate_left
        · intro W hSw
          try dsimp only at hSw
          go_simp
          try with_reducible rfl
        try simp only [Act.put]
        try simp only [List.setIfInBounds_toArray]
        try simp only [List.set_cons_succ]
        try simp only [List.set_cons_zero]
        refine takeD (i := 7) (v := ?_) (some 42) rfl rfl (by kernel_rfl) (by kernel_rfl) (by kernel_rfl) (fun _ _ _ h => h) (by rfl) hHeld ?_ ?_
        rotate_left
        · intro W hSw
          try dsimp only at hSw
          go_simp
          try with_reducible rfl
        try simp only [Act.put]
        try simp only [List.setIfInBounds_toArray]
        try simp only [List.set_cons_succ]
        try simp only [List.set_cons_zero]
        rotate_left
        go_simp
        obtain ⟨wr1, bh, hX, hB, hb, YH⟩ := alc_new wdhh7 #[.int .i64 0, .bool false, .int .i64 0, .slice none 0 0, .int .i64 0] 34
        have LBH : Hid (w6.heap.size ≤ bh) := le_at hB LW.out.size
        replace VH := hide_it (VH.out.later hb (Nat.le_refl _))
        replace LW : Hid (Below w6.heap.size w6 wr1) := LW.out.trans (hb.mono LW.out.size)
        clear hb
        rw [← hX.out]
        try dsimp only
        refine hK.out _ _ (KK.out _ LW.out) (fun hHeld => ?_)
        clear hK K
        rw [← hB.out]
        clear hX hB
        refine wpAnyH_ready (rs := [2, 9]) (by kernel_rfl) (by simp) ?_
        refine AllReadyH.cons rfl (fun K hK => ?_) (AllReadyH.cons rfl (fun K hK => ?_) AllReadyH.nil)
        go_simp
        refine (toWord_any k h t m wr1).mono ?_
        rintro e wr2 ⟨rfl, hb⟩
        replace YH := hide_it (YH.out.after hb)
        replace VH := hide_it (VH.out.later hb (Nat.le_refl _))
        replace LW : Hid (Below w6.heap.size w6 wr2) := LW.out.trans (hb.mono LW.out.size)
        clear hb
        try dsimp only
        refine hK.out _ _ (KK.out _ LW.out) (fun hHeld => ?_)
        clear hK K
        refine wpAnyH_ready (rs := [3, 9]) (by kernel_rfl) (by simp) ?_
        refine AllReadyH.cons rfl (fun K hK => ?_) (AllReadyH.cons rfl (fun K hK => ?_) AllReadyH.nil)
        go_simp
        refine (HIM.out _ wr2 VH.out FM5.out (HA.out _ (B6.out.trans (LW.out.mono B6.out.size)))).mono ?_
        rintro e wr3 ⟨aC, cC, rfl, hm, hb⟩
        obtain ⟨lo, hi, pC, P, O, Z, hlo, hhi⟩ := made_split hm
        have LL : Hid (w6.heap.size ≤ lo) := le_at hlo LW.out.size
        have AH : Hid (bh < lo ∨ hi ≤ bh) := Or.inl (lt_at hlo YH.out.lt)
        clear hm hlo hhi VH
        replace YH := hide_it (YH.out.after hb)
        replace LW : Hid (Below w6.heap.size w6 wr3) := LW.out.trans (hb.mono LW.out.size)
        clear hb
        try dsimp only
        refine hK.out _ _ (KK.out _ LW.out) (fun hHeld => ?_)
        clear hK K
        refine takeD (i := 4) (v := ?_) (some 35) rfl rfl (by kernel_rfl) (by kernel_rfl) (by kernel_rfl) (fun _ _ _ h => h) (by rfl) hHeld ?_ ?_
        rotate_left
        · intro W hSw
          try dsimp only at hSw
          go_simp
          try with_reducible rfl
        try simp only [Act.put]
        try simp only [List.setIfInBounds_toArray]
        try simp only [List.set_cons_succ]
        try simp only [List.set_cons_zero]
        refine takeD (i := 5) (v := ?_) (some 40) rfl rfl (by kernel_rfl) (by kernel_rfl) (by kernel_rfl) (fun _ _ _ h => h) (by rfl) hHeld ?_ ?_
        rotate_left
        · intro W hSw
          try dsimp only at hSw
          go_simp
          try with_reducible rfl
        try simp only [Act.put]
        try simp only [List.setIfInBounds_toArray]
        try simp only [List.set_cons_succ]
        try simp only [List.set_cons_zero]
        refine takeD (i := 6) (v := ?_) (some 41) rfl rfl (by kernel_rfl) (by kernel_rfl) (by kernel_rfl) (fun _ _ _ h => h) (by rfl) hHeld ?_ ?_
        rotate_left
        · intro W hSw
          try dsimp only at hSw
          go_simp
          try with_reducible rfl
        try simp only [Act.put]
        try simp only [List.setIfInBounds_toArray]
        try simp only [List.set_cons_succ]
        try simp only [List.set_cons_zero]
        refine takeD (i := 7) (v := ?_) (some 42) rfl rfl (by kernel_rfl) (by kernel_rfl) (by kernel_rfl) (fun _ _ _ h => h) (by rfl) hHeld ?_ ?_
        rotate_left
        · intro W hSw
          try dsimp only at hSw
          go_simp
          try with_reducible rfl
        try simp only [Act.put]
        try simp only [List.setIfInBounds_toArray]
        try simp only [List.set_cons_succ]
        try simp only [List.set_cons_zero]
        refine wpAnyH_ready (rs := [9]) (by kernel_rfl) (by simp) ?_
        refine AllReadyH.cons rfl (fun K hK => ?_) AllReadyH.nil
        go_simp
        obtain ⟨wr4, bw, hX, hB, hb, YW⟩ := alc_new wr3 #[.int .i64 0, .int .i64 0, .int .i64 0, .int .i64 0] 35
        have LBW : Hid (w6.heap.size ≤ bw) := le_at hB LW.out.size
        have AW : Hid (bw < lo ∨ hi ≤ bw) := Or.inr (le_at hB Z.out)
        replace YH := hide_it (YH.out.after hb)
        replace O := hide_it (O.out.below hb Z.out)
        replace Z : Hid (hi ≤ wr4.heap.size) := Nat.le_trans Z.out hb.size
        replace LW : Hid (Below w6.heap.size w6 wr4) := LW.out.trans (hb.mono LW.out.size)
        clear hb
        rw [← hX.out]
        try dsimp only
        refine hK.out _ _ (KK.out _ LW.out) (fun hHeld => ?_)
        clear hK K
        rw [← hB.out]
        clear hX hB
        rotate_left
        go_simp
        obtain ⟨wr3, bw, hX, hB, hb, YW⟩ := alc_new wr2 #[.int .i64 0, .int .i64 0, .int .i64 0, .int .i64 0] 35
        have LBW : Hid (w6.heap.size ≤ bw) := le_at hB LW.out.size
        replace YH := hide_it (YH.out.after hb)
        replace VH := hide_it (VH.out.later hb (Nat.le_refl _))
        replace LW : Hid (Below w6.heap.size w6 wr3) := LW.out.trans (hb.mono LW.out.size)
        clear hb
        rw [← hX.out]
        try dsimp only
        refine hK.out _ _ (KK.out _ LW.out) (fun hHeld => ?_)
        clear hK K
        rw [← hB.out]
        clear hX hB
        refine wpAnyH_ready (rs := [3]) (by kernel_rfl) (by simp) ?_
        refine AllReadyH.cons rfl (fun K hK => ?_) AllReadyH.nil
        go_simp
        refine (HIM.out _ wr3 VH.out FM5.out (HA.out _ (B6.out.trans (LW.out.mono B6.out.size)))).mono ?_
        rintro e wr4 ⟨aC, cC, rfl, hm, hb⟩
        obtain ⟨lo, hi, pC, P, O, Z, hlo, hhi⟩ := made_split hm
        have LL : Hid (w6.heap.size ≤ lo) := le_at hlo LW.out.size
        have AH : Hid (bh < lo ∨ hi ≤ bh) := Or.inl (lt_at hlo YH.out.lt)
        have AW : Hid (bw < lo ∨ hi ≤ bw) := Or.inl (lt_at hlo YW.out.lt)
        clear hm hlo hhi VH
        replace YH := hide_it (YH.out.after hb)
        replace YW := hide_it (YW.out.after hb)
        replace LW : Hid (Below w6.heap.size w6 wr4) := LW.out.trans (hb.mono LW.out.size)
        clear hb
        try dsimp only
        refine hK.out _ _ (KK.out _ LW.out) (fun hHeld => ?_)
        clear hK K
        refine takeD (i := 4) (v := ?_) (some 35) rfl rfl (by kernel_rfl) (by kernel_rfl) (by kernel_rfl) (fun _ _ _ h => h) (by rfl) hHeld ?_ ?_
        rotate_left
        · intro W hSw
          try dsimp only at hSw
          go_simp
          try with_reducible rfl
        try simp only [Act.put]
        try simp only [List.setIfInBounds_toArray]
        try simp only [List.set_cons_succ]
        try simp only [List.set_cons_zero]
        refine takeD (i := 5) (v := ?_) (some 40) rfl rfl (by kernel_rfl) (by kernel_rfl) (by kernel_rfl) (fun _ _ _ h => h) (by rfl) hHeld ?_ ?_
        rotate_left
        · intro W hSw
          try dsimp only at hSw
          go_simp
          try with_reducible rfl
        try simp only [Act.put]
        try simp only [List.setIfInBounds_toArray]
        try simp only [List.set_cons_succ]
        try simp only [List.set_cons_zero]
        refine takeD (i := 6) (v := ?_) (some 41) rfl rfl (by kernel_rfl) (by kernel_rfl) (by kernel_rfl) (fun _ _ _ h => h) (by rfl) hHeld ?_ ?_
        rotate_left
        · intro W hSw
          try dsimp only at hSw
          go_simp
          try with_reducible rfl
        try simp only [Act.put]
        try simp only [List.setIfInBounds_toArray]
        try simp only [List.set_cons_succ]
        try simp only [List.set_cons_zero]
        refine takeD (i := 7) (v := ?_) (some 42) rfl rfl (by kernel_rfl) (by kernel_rfl) (by kernel_rfl) (fun _ _ _ h => h) (by rfl) hHeld ?_ ?_
        rotate_left
        · intro W hSw
          try dsimp only at hSw
          go_simp
          try with_reducible rfl
        try simp only [Act.put]
        try simp only [List.setIfInBounds_toArray]
        try simp only [List.set_cons_succ]
        try simp only [List.set_cons_zero]
        rotate_left
        go_simp
        obtain ⟨wr2, bw, hX, hB, hb, YW⟩ := alc_new wr1 #[.int .i64 0, .int .i64 0, .int .i64 0, .int .i64 0] 35
        have LBW : Hid (w6.heap.size ≤ bw) := le_at hB LW.out.size
        replace YH := hide_it (YH.out.after hb)
        replace VH := hide_it (VH.out.later hb (Nat.le_refl _))
        replace LW : Hid (Below w6.heap.size w6 wr2) := LW.out.trans (hb.mono LW.out.size)
        clear hb
        rw [← hX.out]
        try dsimp only
        refine hK.out _ _ (KK.out _ LW.out) (fun hHeld => ?_)
        clear hK K
        rw [← hB.out]
        clear hX hB
        refine wpAnyH_ready (rs := [2]) (by kernel_rfl) (by simp) ?_
        refine AllReadyH.cons rfl (fun K hK => ?_) AllReadyH.nil
        go_simp
        refine (toWord_any k h t m wr2).mono ?_
        rintro e wr3 ⟨rfl, hb⟩
        replace YH := hide_it (YH.out.after hb)
        replace YW := hide_it (YW.out.after hb)
        replace VH := hide_it (VH.out.later hb (Nat.le_refl _))
        replace LW : Hid (Below w6.heap.size w6 wr3) := LW.out.trans (hb.mono LW.out.size)
        clear hb
        try dsimp only
        refine hK.out _ _ (KK.out _ LW.out) (fun hHeld => ?_)
        clear hK K
        refine wpAnyH_ready (rs := [3]) (by kernel_rfl) (by simp) ?_
        refine AllReadyH.cons rfl (fun K hK => ?_) AllReadyH.nil
        go_simp
        refine (HIM.out _ wr3 VH.out FM5.out (HA.out _ (B6.out.trans (LW.out.mono B6.out.size)))).mono ?_
        rintro e wr4 ⟨aC, cC, rfl, hm, hb⟩
        obtain ⟨lo, hi, pC, P, O, Z, hlo, hhi⟩ := made_split hm
        have LL : Hid (w6.heap.size ≤ lo) := le_at hlo LW.out.size
        have AH : Hid (bh < lo ∨ hi ≤ bh) := Or.inl (lt_at hlo YH.out.lt)
        have AW : Hid (bw < lo ∨ hi ≤ bw) := Or.inl (lt_at hlo YW.out.lt)
        clear hm hlo hhi VH
        replace YH := hide_it (YH.out.after hb)
        replace YW := hide_it (YW.out.after hb)
        replace LW : Hid (Below w6.heap.size w6 wr4) := LW.out.trans (hb.mono LW.out.size)
        clear hb
        try dsimp only
        refine hK.out _ _ (KK.out _ LW.out) (fun hHeld => ?_)
        clear hK K
        refine takeD (i := 4) (v := ?_) (some 35) rfl rfl (by kernel_rfl) (by kernel_rfl) (by kernel_rfl) (fun _ _ _ h => h) (by rfl) hHeld ?_ ?_
        rotate_left
        · intro W hSw
          try dsimp only at hSw
          go_simp
          try with_reducible rfl
        try simp only [Act.put]
        try simp only [List.setIfInBounds_toArray]
        try simp only [List.set_cons_succ]
        try simp only [List.set_cons_zero]
        refine takeD (i := 5) (v := ?_) (some 40) rfl rfl (by kernel_rfl) (by kernel_rfl) (by kernel_rfl) (fun _ _ _ h => h) (by rfl) hHeld ?_ ?_
        rotate_left
        · intro W hSw
          try dsimp only at hSw
          go_simp
          try with_reducible rfl
        try simp only [Act.put]
        try simp only [List.setIfInBounds_toArray]
        try simp only [List.set_cons_succ]
        try simp only [List.set_cons_zero]
        refine takeD (i := 6) (v := ?_) (some 41) rfl rfl (by kernel_rfl) (by kernel_rfl) (by kernel_rfl) (fun _ _ _ h => h) (by rfl) hHeld ?_ ?_
        rotate_left
        · intro W hSw
          try dsimp only at hSw
          go_simp
          try with_reducible rfl
        try simp only [Act.put]
        try simp only [List.setIfInBounds_toArray]
        try simp only [List.set_cons_succ]
        try simp only [List.set_cons_zero]
        refine takeD (i := 7) (v := ?_) (some 42) rfl rfl (by kernel_rfl) (by kernel_rfl) (by kernel_rfl) (fun _ _ _ h => h) (by rfl) hHeld ?_ ?_
        rotate_left
        · intro W hSw
          try dsimp only at hSw
          go_simp
          try with_reducible rfl
        try simp only [Act.put]
        try simp only [List.setIfInBounds_toArray]
        try simp only [List.set_cons_succ]
        try simp only [List.set_cons_zero]
        rotate_left
        go_simp
        obtain ⟨wr1, bw, hX, hB, hb, YW⟩ := alc_new wdhh7 #[.int .i64 0, .int .i64 0, .int .i64 0, .int .i64 0] 35
        have LBW : Hid (w6.heap.size ≤ bw) := le_at hB LW.out.size
        replace VH := hide_it (VH.out.later hb (Nat.le_refl _))
        replace LW : Hid (Below w6.heap.size w6 wr1) := LW.out.trans (hb.mono LW.out.size)
        clear hb
        rw [← hX.out]
        try dsimp only
        refine hK.out _ _ (KK.out _ LW.out) (fun hHeld => ?_)
        clear hK K
        rw [← hB.out]
        clear hX hB
        refine wpAnyH_ready (rs := [2, 8]) (by kernel_rfl) (by simp) ?_
        refine AllReadyH.cons rfl (fun K hK => ?_) (AllReadyH.cons rfl (fun K hK => ?_) AllReadyH.nil)
        go_simp
        refine (toWord_any k h t m wr1).mono ?_
        rintro e wr2 ⟨rfl, hb⟩
        replace YW := hide_it (YW.out.after hb)
        replace VH := hide_it (VH.out.later hb (Nat.le_refl _))
        replace LW : Hid (Below w6.heap.size w6 wr2) := LW.out.trans (hb.mono LW.out.size)
        clear hb
        try dsimp only
        refine hK.out _ _ (KK.out _ LW.out) (fun hHeld => ?_)
        clear hK K
        refine wpAnyH_ready (rs := [3, 8]) (by kernel_rfl) (by simp) ?_
        refine AllReadyH.cons rfl (fun K hK => ?_) (AllReadyH.cons rfl (fun K hK => ?_) AllReadyH.nil)
        go_simp
        refine (HIM.out _ wr2 VH.out FM5.out (HA.out _ (B6.out.trans (LW.out.mono B6.out.size)))).mono ?_
        rintro e wr3 ⟨aC, cC, rfl, hm, hb⟩
        obtain ⟨lo, hi, pC, P, O, Z, hlo, hhi⟩ := made_split hm
        have LL : Hid (w6.heap.size ≤ lo) := le_at hlo LW.out.size
        have AW : Hid (bw < lo ∨ hi ≤ bw) := Or.inl (lt_at hlo YW.out.lt)
        clear hm hlo hhi VH
        replace YW := hide_it (YW.out.after hb)
        replace LW : Hid (Below w6.heap.size w6 wr3) := LW.out.trans (hb.mono LW.out.size)
        clear hb
        try dsimp only
        refine hK.out _ _ (KK.out _ LW.out) (fun hHeld => ?_)
        clear hK K
        refine takeD (i := 4) (v := ?_) (some 35) rfl rfl (by kernel_rfl) (by kernel_rfl) (by kernel_rfl) (fun _ _ _ h => h) (by rfl) hHeld ?_ ?_
        rotate_left
        · intro W hSw
          try dsimp only at hSw
          go_simp
          try with_reducible rfl
        try simp only [Act.put]
        try simp only [List.setIfInBounds_toArray]
        try simp only [List.set_cons_succ]
        try simp only [List.set_cons_zero]
        refine takeD (i := 5) (v := ?_) (some 40) rfl rfl (by kernel_rfl) (by kernel_rfl) (by kernel_rfl) (fun _ _ _ h => h) (by rfl) hHeld ?_ ?_
        rotate_left
        · intro W hSw
          try dsimp only at hSw
          go_simp
          try with_reducible rfl
        try simp only [Act.put]
        try simp only [List.setIfInBounds_toArray]
        try simp only [List.set_cons_succ]
        try simp only [List.set_cons_zero]
        refine takeD (i := 6) (v := ?_) (some 41) rfl rfl (by kernel_rfl) (by kernel_rfl) (by kernel_rfl) (fun _ _ _ h => h) (by rfl) hHeld ?_ ?_
        rotate_left
        · intro W hSw
          try dsimp only at hSw
          go_simp
          try with_reducible rfl
        try simp only [Act.put]
        try simp only [List.setIfInBounds_toArray]
        try simp only [List.set_cons_succ]
        try simp only [List.set_cons_zero]
        refine takeD (i := 7) (v := ?_) (some 42) rfl rfl (by kernel_rfl) (by kernel_rfl) (by kernel_rfl) (fun _ _ _ h => h) (by rfl) hHeld ?_ ?_
        rotate_left
        · intro W hSw
          try dsimp only at hSw
          go_simp
          try with_reducible rfl
        try simp only [Act.put]
        try simp only [List.setIfInBounds_toArray]
        try simp only [List.set_cons_succ]
        try simp only [List.set_cons_zero]
        refine wpAnyH_ready (rs := [8]) (by kernel_rfl) (by simp) ?_
        refine AllReadyH.cons rfl (fun K hK => ?_) AllReadyH.nil
        go_simp
        obtain ⟨wr4, bh, hX, hB, hb, YH⟩ := alc_new wr3 #[.int .i64 0, .bool false, .int .i64 0, .slice none 0 0, .int .i64 0] 34
        have LBH : Hid (w6.heap.size ≤ bh) := le_at hB LW.out.size
        have AH : Hid (bh < lo ∨ hi ≤ bh) := Or.inr (le_at hB Z.out)
        replace YW := hide_it (YW.out.after hb)
        replace O := hide_it (O.out.below hb Z.out)
        replace Z : Hid (hi ≤ wr4.heap.size) := Nat.le_trans Z.out hb.size
        replace LW : Hid (Below w6.heap.size w6 wr4) := LW.out.trans (hb.mono LW.out.size)
        clear hb
        rw [← hX.out]
        try dsimp only
        refine hK.out _ _ (KK.out _ LW.out) (fun hHeld => ?_)
        clear hK K
        rw [← hB.out]
        clear hX hB
        rotate_left
        go_simp
        obtain ⟨wr3, bh, hX, hB, hb, YH⟩ := alc_new wr2 #[.int .i64 0, .bool false, .int .i64 0, .slice none 0 0, .int .i64 0] 34
        have LBH : Hid (w6.heap.size ≤ bh) := le_at hB LW.out.size
        replace YW := hide_it (YW.out.after hb)
        replace VH := hide_it (VH.out.later hb (Nat.le_refl _))
        replace LW : Hid (Below w6.heap.size w6 wr3) := LW.out.trans (hb.mono LW.out.size)
        clear hb
        rw [← hX.out]
        try dsimp only
        refine hK.out _ _ (KK.out _ LW.out) (fun hHeld => ?_)
        clear hK K
        rw [← hB.out]
        clear hX hB
        refine wpAnyH_ready (rs := [3]) (by kernel_rfl) (by simp) ?_
        refine AllReadyH.cons rfl (fun K hK => ?_) AllReadyH.nil
        go_simp
        refine (HIM.out _ wr3 VH.out FM5.out (HA.out _ (B6.out.trans (LW.out.mono B6.out.size)))).mono ?_
        rintro e wr4 ⟨aC, cC, rfl, hm, hb⟩
        obtain ⟨lo, hi, pC, P, O, Z, hlo, hhi⟩ := made_split hm
        have LL : Hid (w6.heap.size ≤ lo) := le_at hlo LW.out.size
        have AH : Hid (bh < lo ∨ hi ≤ bh) := Or.inl (lt_at hlo YH.out.lt)
        have AW : Hid (bw < lo ∨ hi ≤ bw) := Or.inl (lt_at hlo YW.out.lt)
        clear hm hlo hhi VH
        replace YH := hide_it (YH.out.after hb)
        replace YW := hide_it (YW.out.after hb)
        replace LW : Hid (Below w6.heap.size w6 wr4) := LW.out.trans (hb.mono LW.out.size)
        clear hb
        try dsimp only
        refine hK.out _ _ (KK.out _ LW.out) (fun hHeld => ?_)
        clear hK K
        refine takeD (i := 4) (v := ?_) (some 35) rfl rfl (by kernel_rfl) (by kernel_rfl) (by kernel_rfl) (fun _ _ _ h => h) (by rfl) hHeld ?_ ?_
        rotate_left
        · intro W hSw
          try dsimp only at hSw
          go_simp
          try with_reducible rfl
        try simp only [Act.put]
        try simp only [List.setIfInBounds_toArray]
        try simp only [List.set_cons_succ]
        try simp only [List.set_cons_zero]
        refine takeD (i := 5) (v := ?_) (some 40) rfl rfl (by kernel_rfl) (by kernel_rfl) (by kernel_rfl) (fun _ _ _ h => h) (by rfl) hHeld ?_ ?_
        rotate_left
        · intro W hSw
          try dsimp only at hSw
          go_simp
          try with_reducible rfl
        try simp only [Act.put]
        try simp only [List.setIfInBounds_toArray]
        try simp only [List.set_cons_succ]
        try simp only [List.set_cons_zero]
        refine takeD (i := 6) (v := ?_) (some 41) rfl rfl (by kernel_rfl) (by kernel_rfl) (by kernel_rfl) (fun _ _ _ h => h) (by rfl) hHeld ?_ ?_
        rotate_left
        · intro W hSw
          try dsimp only at hSw
          go_simp
          try with_reducible rfl
        try simp only [Act.put]
        try simp only [List.setIfInBounds_toArray]
        try simp only [List.set_cons_succ]
        try simp only [List.set_cons_zero]
        refine takeD (i := 7) (v := ?_) (some 42) rfl rfl (by kernel_rfl) (by kernel_rfl) (by kernel_rfl) (fun _ _ _ h => h) (by rfl) hHeld ?_ ?_
        rotate_left
        · intro W hSw
          try dsimp only at hSw
          go_simp
          try with_reducible rfl
        try simp only [Act.put]
        try simp only [List.setIfInBounds_toArray]
        try simp only [List.set_cons_succ]
        try simp only [List.set_cons_zero]
        rotate_left
        go_simp
        obtain ⟨wr2, bh, hX, hB, hb, YH⟩ := alc_new wr1 #[.int .i64 0, .bool false, .int .i64 0, .slice none 0 0, .int .i64 0] 34
        have LBH : Hid (w6.heap.size ≤ bh) := le_at hB LW.out.size
        replace YW := hide_it (YW.out.after hb)
        replace VH := hide_it (VH.out.later hb (Nat.le_refl _))
        replace LW : Hid (Below w6.heap.size w6 wr2) := LW.out.trans (hb.mono LW.out.size)
        clear hb
        rw [← hX.out]
        try dsimp only
        refine hK.out _ _ (KK.out _ LW.out) (fun hHeld => ?_)
        clear hK K
        rw [← hB.out]
        clear hX hB
        refine wpAnyH_ready (rs := [2]) (by kernel_rfl) (by simp) ?_
        refine AllReadyH.cons rfl (fun K hK => ?_) AllReadyH.nil
        go_simp
        refine (toWord_any k h t m wr2).mono ?_
        rintro e wr3 ⟨rfl, hb⟩
        replace YH := hide_it (YH.out.after hb)
        replace YW := hide_it (YW.out.after hb)
        replace VH := hide_it (VH.out.later hb (Nat.le_refl _))
        replace LW : Hid (Below w6.heap.size w6 wr3) := LW.out.trans (hb.mono LW.out.size)
        clear hb
        try dsimp only
        refine hK.out _ _ (KK.out _ LW.out) (fun hHeld => ?_)
        clear hK K
        refine wpAnyH_ready (rs := [3]) (by kernel_rfl) (by simp) ?_
        refine AllReadyH.cons rfl (fun K hK => ?_) AllReadyH.nil
        go_simp
        refine (HIM.out _ wr3 VH.out FM5.out (HA.out _ (B6.out.trans (LW.out.mono B6.out.size)))).mono ?_
        rintro e wr4 ⟨aC, cC, rfl, hm, hb⟩
        obtain ⟨lo, hi, pC, P, O, Z, hlo, hhi⟩ := made_split hm
        have LL : Hid (w6.heap.size ≤ lo) := le_at hlo LW.out.size
        have AH : Hid (bh < lo ∨ hi ≤ bh) := Or.inl (lt_at hlo YH.out.lt)
        have AW : Hid (bw < lo ∨ hi ≤ bw) := Or.inl (lt_at hlo YW.out.lt)
        clear hm hlo hhi VH
        replace YH := hide_it (YH.out.after hb)
        replace YW := hide_it (YW.out.after hb)
        replace LW : Hid (Below w6.heap.size w6 wr4) := LW.out.trans (hb.mono LW.out.size)
        clear hb
        try dsimp only
        refine hK.out _ _ (KK.out _ LW.out) (fun hHeld => ?_)
        clear hK K
        refine takeD (i := 4) (v := ?_) (some 35) rfl rfl (by kernel_rfl) (by kernel_rfl) (by kernel_rfl) (fun _ _ _ h => h) (by rfl) hHeld ?_ ?_
        rotate_left
        · intro W hSw
          try dsimp only at hSw
          go_simp
          try with_reducible rfl
        try simp only [Act.put]
        try simp only [List.setIfInBounds_toArray]
        try simp only [List.set_cons_succ]
        try simp only [List.set_cons_zero]
        refine takeD (i := 5) (v := ?_) (some 40) rfl rfl (by kernel_rfl) (by kernel_rfl) (by kernel_rfl) (fun _ _ _ h => h) (by rfl) hHeld ?_ ?_
        rotate_left
        · intro W hSw
          try dsimp only at hSw
          go_simp
          try with_reducible rfl
        try simp only [Act.put]
        try simp only [List.setIfInBounds_toArray]
        try simp only [List.set_cons_succ]
        try simp only [List.set_cons_zero]
        refine takeD (i := 6) (v := ?_) (some 41) rfl rfl (by kernel_rfl) (by kernel_rfl) (by kernel_rfl) (fun _ _ _ h => h) (by rfl) hHeld ?_ ?_
        rotate_left
        · intro W hSw
          try dsimp only at hSw
          go_simp
          try with_reducible rfl
        try simp only [Act.put]
        try simp only [List.setIfInBounds_toArray]
        try simp only [List.set_cons_succ]
        try simp only [List.set_cons_zero]
        refine takeD (i := 7) (v := ?_) (some 42) rfl rfl (by kernel_rfl) (by kernel_rfl) (by kernel_rfl) (fun _ _ _ h => h) (by rfl) hHeld ?_ ?_
        rotate_left
        · intro W hSw
          try dsimp only at hSw
          go_simp
          try with_reducible rfl
        try simp only [Act.put]
        try simp only [List.setIfInBounds_toArray]
        try simp only [List.set_cons_succ]
        try simp only [List.set_cons_zero]
        rotate_left
        all_goals
          have NE := ne_hw YH.out YW.out
          refine wpAnyH_ready (rs := [10]) (by kernel_rfl) (by simp) ?_
          refine AllReadyH.cons rfl (fun K hK => ?_) AllReadyH.nil
          go_simp
          obtain ⟨c0, c1, c2, c3, c4⟩ := YH.out.cells5
          have cf0 := YH.out.free 0
          have cf1 := YH.out.free 1
          have cf2 := YH.out.free 2
          have cf3 := YH.out.free 3
          have cf4 := YH.out.free 4
          go_simp
          obtain ⟨wr5, hX⟩ : ∃ W, Hid (W = (((((wr4.setCell ⟨bh, 0, none⟩ (.int .i64 ID)).setCell ⟨bh, 1, none⟩ (.bool UP)).setCell ⟨bh, 2, none⟩ (.int .i64 ROOM)).setCell ⟨bh, 3, none⟩ (.slice aC RS.length cC)).setCell ⟨bh, 4, none⟩ (.int .i64 F))) := ⟨_, rfl⟩
          replace Z : Hid (hi ≤ wr5.heap.size) := Nat.le_trans Z.out (Nat.le_of_eq (by rw [hX.out]; simp))
          have YH2 : Hid (Blk wr5 bh #[.int .i64 ID, .bool UP, .int .i64 ROOM, .slice aC RS.length cC, .int .i64 F] 34) := by show Blk _ _ _ _; rw [hX.out]; exact blk_h5 YH.out
          replace YW : Hid (Blk wr5 bw #[.int .i64 0, .int .i64 0, .int .i64 0, .int .i64 0] 35) := by show Blk _ _ _ _; rw [hX.out]; exact blk_h5o YW.out (fun e => NE e.symm)
          replace O : Hid (OwnRecs wr5 lo hi (.slice aC RS.length cC) pC) := by show OwnRecs _ _ _ _ _; rw [hX.out]; exact own_h5 O.out YH.out
          replace LW : Hid (Below w6.heap.size w6 wr5) := by show Below _ _ _; rw [hX.out]; exact bel_h5 LW.out LBH.out
          rw [← hX.out]
          clear hX c0 cf0 c1 cf1 c2 cf2 c3 cf3 c4 cf4
          try dsimp only
          refine hK.out _ _ (KK.out _ LW.out) (fun hHeld => ?_)
          clear hK K
          refine wpAnyH_ready (rs := [11]) (by kernel_rfl) (by simp) ?_
          refine AllReadyH.cons rfl (fun K hK => ?_) AllReadyH.nil
          go_simp
          obtain ⟨c0, c1, c2, c3⟩ := YW.out.cells4
          have cf0 := YW.out.free 0
          have cf1 := YW.out.free 1
          have cf2 := YW.out.free 2
          have cf3 := YW.out.free 3
          go_simp
          obtain ⟨wr6, hX⟩ : ∃ W, Hid (W = ((((wr5.setCell ⟨bw, 0, none⟩ (.int .i64 X1)).setCell ⟨bw, 1, none⟩ (.int .i64 X2)).setCell ⟨bw, 2, none⟩ (.int .i64 X3)).setCell ⟨bw, 3, none⟩ (.int .i64 0))) := ⟨_, rfl⟩
          replace Z : Hid (hi ≤ wr6.heap.size) := Nat.le_trans Z.out (Nat.le_of_eq (by rw [hX.out]; simp))
          have YW2 : Hid (Blk wr6 bw #[.int .i64 X1, .int .i64 X2, .int .i64 X3, .int .i64 0] 35) := by show Blk _ _ _ _; rw [hX.out]; exact blk_w4 YW.out
          replace YH2 : Hid (Blk wr6 bh #[.int .i64 ID, .bool UP, .int .i64 ROOM, .slice aC RS.length cC, .int .i64 F] 34) := by show Blk _ _ _ _; rw [hX.out]; exact blk_w4o YH2.out NE
          replace O : Hid (OwnRecs wr6 lo hi (.slice aC RS.length cC) pC) := by show OwnRecs _ _ _ _ _; rw [hX.out]; exact own_w4 O.out YW.out
          replace LW : Hid (Below w6.heap.size w6 wr6) := by show Below _ _ _; rw [hX.out]; exact bel_w4 LW.out LBW.out
          rw [← hX.out]
          clear hX c0 cf0 c1 cf1 c2 cf2 c3 cf3
          try dsimp only
          refine hK.out _ _ (KK.out _ LW.out) (fun hHeld => ?_)
          clear hK K
          refine takeD (i := 12) (v := ?_) (some 12) rfl rfl (by kernel_rfl) (by kernel_rfl) (by kernel_rfl) (fun _ _ _ h => h) (by rfl) hHeld ?_ ?_
          rotate_left
          · intro W hSw
            try dsimp only at hSw
            go_simp
            try with_reducible rfl
          try simp only [Act.put]
          try simp only [List.setIfInBounds_toArray]
          try simp only [List.set_cons_succ]
          try simp only [List.set_cons_zero]
          refine wpAnyH_done (by kernel_rfl) ?_ _
          go_wp2_with fail
          go_meet
          case rel => exact ⟨_, _, aC, cC, pC, _, _, rfl, rfl, rfl, P, hide_it ⟨LW.out, YH2.out, YW2.out, O.out, LBH.out, LBW.out, AH.out, AW.out, LL.out, Z.out⟩⟩
    case rest =>
      obtain ⟨bg, bv, a7, cap7, ps7, lo7, hi7, rfl, rfl, rfl, HP7, M7⟩ := hcut
      rename World => w8
      have E8 := hide_it (E6.out.trans (M7.out.be.mono E6.out.size))
      have HH7 := hide_it (show w6.heap.size ≤ bg ∧ w6.heap.size ≤ bv ∧ w6.heap.size ≤ lo7 ∧ hi7 ≤ w8.heap.size ∧ w6.heap.size ≤ w8.heap.size from ⟨M7.out.hh, M7.out.hw, M7.out.hl, M7.out.hz, M7.out.be.size⟩)
      have AG7 := hide_it M7.out.ah
      have AV7 := hide_it M7.out.aw
      have O8 := hide_it M7.out.ow
      have O8x := hide_it (O6.out.below M7.out.be (by have := HS6.out; omega))
      have X8 := hide_it (X6.out.after M7.out.be)
      have G8 := hide_it M7.out.ho
      have U8 := hide_it M7.out.wo
      have R8 : Hid (Recs w8 (.slice a7 RS.length cap7) RS) := by
        have := O8.out.recs; rw [HP7.out] at this; exact this
      have V8 := hide_it (V4.out.later E8.out (Nat.le_refl _))
      have Z8 := hide_it (Z4.out.after E8.out)
      have Q8 := hide_it (Q4.out.after E8.out)
      clear M7 KK
      obtain ⟨g0, g1, g2, g3, g4⟩ := G8.out.cells5
      obtain ⟨z0, z1, z2, z3, z4⟩ := Z8.out.cells5
      go_wp2_with fail
      refine (eqHouse_any ID UP ROOM _ _ RS F w8 R8.out V8.out hRl).mono ?_
      rintro e w8a ⟨rfl, hba⟩
      have Ea := hide_it hba
      clear hba g0 g1 g2 g3 g4 z0 z1 z2 z3 z4
      obtain ⟨u0, u1, u2, u3⟩ := (U8.out.after Ea.out).cells4
      obtain ⟨q0, q1, q2, q3⟩ := (Q8.out.after Ea.out).cells4
      go_wp2_with fail
      refine (eqWord_sameH X1 X2 X3 0 w8a).mono ?_
      rintro e w9 ⟨rfl, hb9⟩
      have L9 := hide_it (Ea.out.trans (hb9.mono Ea.out.size))
      clear hb9 u0 u1 u2 u3 q0 q1 q2 q3 Ea
      have HS9 := hide_it L9.out.size
      have E9 := hide_it (E8.out.trans (L9.out.mono E8.out.size))
      have O9 := hide_it (O8.out.below L9.out (by have := HH7.out; omega))
      have O9x := hide_it (O8x.out.below L9.out (by have := HH7.out; have := HS6.out; omega))
      have X9 := hide_it (X8.out.after L9.out)
      have G9 := hide_it (G8.out.after L9.out)
      have U9 := hide_it (U8.out.after L9.out)
      have T9 := hide_it (T4.out.after E9.out)
      have hz9 : w.heap.size ≤ w9.heap.size := Nat.le_trans hz4 E9.out.size
      have B9 := hide_it (B4.out.trans (E9.out.mono hz4))
      have R9x : Hid (Recs w9 (.slice a5 rs.length cap5) rs) := by
        have := O9x.out.recs; rw [HP5.out] at this; exact this
      obtain ⟨c0, c1, c2, c3, c4⟩ := T9.out.cells5
      obtain ⟨x0, x1, x2, x3, x4⟩ := X9.out.cells5
      go_wp2_with fail
      go_region_held (fun w' => (w'.cell? ⟨w5.heap.size, 0, none⟩ = some (.int .i64 id) ∧ w'.cell? ⟨w5.heap.size, 1, none⟩ = some (.bool up) ∧ w'.cell? ⟨w5.heap.size, 2, none⟩ = some (.int .i64 room) ∧ w'.cell? ⟨w5.heap.size, 3, none⟩ = some (.slice a5 rs.length cap5) ∧ w'.cell? ⟨w5.heap.size, 4, none⟩ = some (.int .i64 f)) ∧ (w'.cell? ⟨w.heap.size, 0, none⟩ = some (.int .i64 id) ∧ w'.cell? ⟨w.heap.size, 1, none⟩ = some (.bool up) ∧ w'.cell? ⟨w.heap.size, 2, none⟩ = some (.int .i64 room) ∧ w'.cell? ⟨w.heap.size, 3, none⟩ = some (.slice av rs.length cv) ∧ w'.cell? ⟨w.heap.size, 4, none⟩ = some (.int .i64 f))) (go_keep)
        (first
        | (go_at_call 10; refine (toHouse_any id up room _ rs f _ ?_ hl).mono ?_; exact (HV.out _ B9.out.drew); rintro e w10 ⟨a10, cap10, rfl, hm10, hb10⟩; have hb10' := (Below.refl w9.heap.size w9).drew.trans hb10; have L10 := hide_it hb10'; have y10 := R9x.out.later hb10' (Nat.le_refl _); have v10 := hm10.recs; obtain ⟨x100, x101, x102, x103, x104⟩ := (X9.out.after hb10').cells5; obtain ⟨c100, c101, c102, c103, c104⟩ := (T9.out.after hb10').cells5; clear hb10 hb10' hm10)
        | (go_at_call 13; refine (eqHouse_any id up room _ _ rs f _ ?_ ?_ hl).mono ?_; assumption; assumption; rintro e w11 ⟨rfl, hb11⟩; have L11 := hide_it (L10.out.trans (hb11.mono L10.out.size)); obtain ⟨x110, x111, x112, x113, x114⟩ := (X9.out.after L11.out).cells5; obtain ⟨c110, c111, c112, c113, c114⟩ := (T9.out.after L11.out).cells5; clear hb11))
      clear c0 c1 c2 c3 c4 x0 x1 x2 x3 x4
      -- x0 is marked
      have hl5 : ps5.length = rs.length := by have := congrArg List.length HP5.out; simpa using this
      have hl7 : ps7.length = RS.length := by have := congrArg List.length HP7.out; simpa using this
      have HL5 := hide_it hl5
      have HL7 := hide_it hl7
      have SZ := hide_it (show w5.heap.size + 1 = w6.heap.size ∧ w4.heap.size ≤ w5.heap.size ∧ w6.heap.size ≤ bg ∧ w6.heap.size ≤ bv ∧ w6.heap.size ≤ lo7 ∧ hi7 ≤ w8.heap.size ∧ w8.heap.size ≤ w9.heap.size from ⟨HS6.out.symm, E5.out.size, HH7.out.1, HH7.out.2.1, HH7.out.2.2.1, HH7.out.2.2.2.1, HS9.out⟩)
      clear hl5 hl7
      have E11 := hide_it (E9.out.trans (L11.out.mono E9.out.size))
      have O11x := hide_it (O9x.out.below L11.out (by have := SZ.out; have := HH7.out; omega))
      have O11 := hide_it (O9.out.below L11.out (by have := SZ.out; omega))
      have G11 := hide_it (G9.out.after L11.out)
      have U11 := hide_it (U9.out.after L11.out)
      have hmk : Calls Tryz.prog 15 #[houseV id up room (.slice a5 rs.length cap5) f, .int .i64 1] w11 fun e w' => e = .returned (.int .i64 (kAt rs 1 rs.length)) ∧ Mid w4.heap.size w5.heap.size w11 w' := by
        have h := markHouse_any id up room (.slice a5 rs.length cap5) ps5 f 1 w4.heap.size w5.heap.size w11 O11x.out (by rw [HP5.out]; exact hl) (by omega) (by omega)
        rw [HP5.out] at h
        rw [HL5.out] at h
        exact h.mono fun e w' h => ⟨h.1, h.2.2⟩
      have HMK := hide_it hmk
      clear hmk
      go_wp2_with fail
      refine HMK.out.mono ?_
      rintro e w12 ⟨rfl, hM12⟩
      have E12 := hide_it (E11.out.trans (hM12.below (Nat.le_refl _) E11.out.size))
      have O12 := hide_it (O11.out.mid hM12 (by have := SZ.out; omega))
      have G12 := hide_it (G11.out.mid hM12 (Or.inr (by have := SZ.out; omega)))
      have U12 := hide_it (U11.out.mid hM12 (Or.inr (by have := SZ.out; omega)))
      have Z12 := hide_it (Z4.out.after E12.out)
      have Q12 := hide_it (Q4.out.after E12.out)
      have V12 := hide_it (V4.out.later E12.out (Nat.le_refl _))
      have HS12 := hide_it (show w9.heap.size ≤ w12.heap.size from Nat.le_trans L11.out.size hM12.size)
      have R12 : Hid (Recs w12 (.slice a7 RS.length cap7) RS) := by
        have := O12.out.recs; rw [HP7.out] at this; exact this
      clear hM12
      obtain ⟨g0, g1, g2, g3, g4⟩ := G12.out.cells5
      obtain ⟨z0, z1, z2, z3, z4⟩ := Z12.out.cells5
      go_wp2_with fail
      refine (eqHouse_any ID UP ROOM _ _ RS F w12 R12.out V12.out hRl).mono ?_
      rintro e w12a ⟨rfl, hba⟩
      have Ea := hide_it hba
      clear hba g0 g1 g2 g3 g4 z0 z1 z2 z3 z4
      obtain ⟨u0, u1, u2, u3⟩ := (U12.out.after Ea.out).cells4
      obtain ⟨q0, q1, q2, q3⟩ := (Q12.out.after Ea.out).cells4
      go_wp2_with fail
      refine (eqWord_sameH X1 X2 X3 0 w12a).mono ?_
      rintro e w13 ⟨rfl, hb13⟩
      have L13 := hide_it (Ea.out.trans (hb13.mono Ea.out.size))
      clear hb13 u0 u1 u2 u3 q0 q1 q2 q3 Ea
      have E13 := hide_it (E12.out.trans (L13.out.mono E12.out.size))
      have O13 := hide_it (O12.out.below L13.out (by have := SZ.out; have := HS12.out; omega))
      have G13 := hide_it (G12.out.after L13.out)
      have U13 := hide_it (U12.out.after L13.out)
      -- g0 is marked, and held
      have hmk : Calls Tryz.prog 15 #[houseV ID UP ROOM (.slice a7 RS.length cap7) F, .int .i64 1] w13 fun e w' => e = .returned (.int .i64 (kAt RS 1 RS.length)) ∧ Recs w' (.slice a7 RS.length cap7) (markAll RS 1) ∧ Mid lo7 hi7 w13 w' := by
        have h := markHouse_any ID UP ROOM (.slice a7 RS.length cap7) ps7 F 1 lo7 hi7 w13 O13.out (by rw [HP7.out]; exact hRl) (by omega) (by omega)
        refine h.mono ?_
        rintro e w' ⟨h1, h2, h3⟩
        refine ⟨?_, ?_, h3⟩
        · rw [h1, HP7.out, HL7.out]
        · have := h2.recs
          rw [stg_all, HP7.out] at this
          exact this
      have HMK2 := hide_it hmk
      clear hmk
      obtain ⟨g0, g1, g2, g3, g4⟩ := G13.out.cells5
      go_wp2_with fail
      refine HMK2.out.mono ?_
      rintro e w14 ⟨rfl, hR14, hM14⟩
      have E14 := hide_it (E13.out.trans (hM14.below (show w4.heap.size ≤ lo7 by have := SZ.out; omega) E13.out.size))
      have G14 := hide_it (G13.out.mid hM14 AG7.out)
      have R14 := hide_it hR14
      clear hM14 hR14 g0 g1 g2 g3 g4
      obtain ⟨g0, g1, g2, g3, g4⟩ := G14.out.cells5
      go_wp2_with fail
      refine (heldHouse_any ID UP ROOM _ RS F 1 w14 R14.out hRl (by omega) (by omega)).mono ?_
      rintro e w15 ⟨rfl, hb15⟩
      have E15 := hide_it (E14.out.trans (hb15.mono E14.out.size))
      have N15 := hide_it hb15
      have T15 := hide_it (T4.out.after E15.out)
      have K15 := hide_it (K4.out.after E15.out)
      have B15 := hide_it (B4.out.trans (E15.out.mono hz4))
      clear hb15 g0 g1 g2 g3 g4
      -- once more
      have KK : Hid (∀ W, Below w15.heap.size w15 W → (let w' := W; (w'.cell? ⟨w.heap.size, 0, none⟩ = some (.int .i64 id) ∧ w'.cell? ⟨w.heap.size, 1, none⟩ = some (.bool up) ∧ w'.cell? ⟨w.heap.size, 2, none⟩ = some (.int .i64 room) ∧ w'.cell? ⟨w.heap.size, 3, none⟩ = some (.slice av rs.length cv) ∧ w'.cell? ⟨w.heap.size, 4, none⟩ = some (.int .i64 f)) ∧ (w'.cell? ⟨w.heap.size + 1, 0, none⟩ = some (.int .i64 k) ∧ w'.cell? ⟨w.heap.size + 1, 1, none⟩ = some (.int .i64 h) ∧ w'.cell? ⟨w.heap.size + 1, 2, none⟩ = some (.int .i64 t) ∧ w'.cell? ⟨w.heap.size + 1, 3, none⟩ = some (.int .i64 m)))) := fun W hb => ⟨(T15.out.after hb).cells5, (K15.out.after hb).cells4⟩
      go_wp2_with fail
      go_cut [16, 17, 18] (fun p q b W => ∃ bh bw a5 c5 ps lo hi, p = .pointer (some ⟨bh, 0, none⟩) ∧ q = .pointer (some ⟨bw, 0, none⟩) ∧ b = .bool YB ∧ Hid (ps.map (·.1) = RS) ∧ Hid (MetE w15 W bh bw ID UP ROOM (.slice a5 RS.length c5) F X1 X2 X3 ps lo hi))
      case first =>
        as_aux_lemma =>
          obtain ⟨wdhh24, hwdhh24⟩ : ∃ W, Hid (W = w15.drew) := ⟨_, rfl⟩
          have LW : Hid (Below w15.heap.size w15 wdhh24) := by show Below _ _ _; rw [hwdhh24.out]; exact (Below.refl _ _).drew
          refine wp_region_held_drew (S := fun w' => (w'.cell? ⟨w.heap.size, 0, none⟩ = some (.int .i64 id) ∧ w'.cell? ⟨w.heap.size, 1, none⟩ = some (.bool up) ∧ w'.cell? ⟨w.heap.size, 2, none⟩ = some (.int .i64 room) ∧ w'.cell? ⟨w.heap.size, 3, none⟩ = some (.slice av rs.length cv) ∧ w'.cell? ⟨w.heap.size, 4, none⟩ = some (.int .i64 f)) ∧ (w'.cell? ⟨w.heap.size + 1, 0, none⟩ = some (.int .i64 k) ∧ w'.cell? ⟨w.heap.size + 1, 1, none⟩ = some (.int .i64 h) ∧ w'.cell? ⟨w.heap.size + 1, 2, none⟩ = some (.int .i64 t) ∧ w'.cell? ⟨w.heap.size + 1, 3, none⟩ = some (.int .i64 m))) (by kernel_rfl) (KK.out _ (Below.refl _ _).drew) (fun hHeld => ?_)
          rw [← hwdhh24.out] at hHeld ⊢
          refine takeD (i := 0) (v := ?_) (some 97) rfl rfl (by kernel_rfl) (by kernel_rfl) (by kernel_rfl) (fun _ _ _ h => h) (by rfl) hHeld ?_ ?_
          rotate_left
          · intro W hSw
            try dsimp only at hSw
            go_simp
            try with_reducible rfl
          try simp only [Act.put]
          try simp only [List.setIfInBounds_toArray]
          try simp only [List.set_cons_succ]
          try simp only [List.set_cons_zero]
          refine takeD (i := 2) (v := ?_) (some 99) rfl rfl (by kernel_rfl) (by kernel_rfl) (by kernel_rfl) (fun _ _ _ h => h) (by rfl) hHeld ?_ ?_
          rotate_left
          · intro W hSw
            try dsimp only at hSw
            go_simp
            try with_reducible rfl
          try simp only [Act.put]
          try simp only [List.setIfInBounds_toArray]
          try simp only [List.set_cons_succ]
          try simp only [List.set_cons_zero]
          refine wpAnyH_ready (rs := [1, 9, 10]) (by kernel_rfl) (by simp) ?_
          refine AllReadyH.cons rfl (fun K hK => ?_) (AllReadyH.cons rfl (fun K hK => ?_) (AllReadyH.cons rfl (fun K hK => ?_) AllReadyH.nil))
          go_simp
          refine (toHouse_any id up room _ rs f wdhh24 (HV.out _ (B15.out.trans (LW.out.mono B15.out.size))) hl).mono ?_
          rintro e wr1 ⟨aH, cH, rfl, hm, hb⟩
          have VH := hide_it hm.recs
          have FMH := hide_it (form_made hm)
          clear hm
          replace LW : Hid (Below w15.heap.size w15 wr1) := LW.out.trans (hb.mono LW.out.size)
          clear hb
          try dsimp only
          refine hK.out _ _ (KK.out _ LW.out) (fun hHeld => ?_)
          clear hK K
          refine wpAnyH_ready (rs := [3, 9, 10]) (by kernel_rfl) (by simp) ?_
          refine AllReadyH.cons rfl (fun K hK => ?_) (AllReadyH.cons rfl (fun K hK => ?_) (AllReadyH.cons rfl (fun K hK => ?_) AllReadyH.nil))
          go_simp
          refine (toWord_any k h t m wr1).mono ?_
          rintro e wr2 ⟨rfl, hb⟩
          replace VH := hide_it (VH.out.later hb (Nat.le_refl _))
          replace LW : Hid (Below w15.heap.size w15 wr2) := LW.out.trans (hb.mono LW.out.size)
          clear hb
          try dsimp only
          refine hK.out _ _ (KK.out _ LW.out) (fun hHeld => ?_)
          clear hK K
          refine wpAnyH_ready (rs := [4, 9, 10]) (by kernel_rfl) (by simp) ?_
          refine AllReadyH.cons rfl (fun K hK => ?_) (AllReadyH.cons rfl (fun K hK => ?_) (AllReadyH.cons rfl (fun K hK => ?_) AllReadyH.nil))
          go_simp
          refine (HIM.out _ wr2 VH.out FMH.out (HA.out _ (B15.out.trans (LW.out.mono B15.out.size)))).mono ?_
          rintro e wr3 ⟨aC, cC, rfl, hm, hb⟩
          obtain ⟨lo, hi, pC, P, O, Z, hlo, hhi⟩ := made_split hm
          have LL : Hid (w15.heap.size ≤ lo) := le_at hlo LW.out.size
          clear hm hlo hhi VH
          replace LW : Hid (Below w15.heap.size w15 wr3) := LW.out.trans (hb.mono LW.out.size)
          clear hb
          try dsimp only
          refine hK.out _ _ (KK.out _ LW.out) (fun hHeld => ?_)
          clear hK K
          refine takeD (i := 5) (v := ?_) (some 96) rfl rfl (by kernel_rfl) (by kernel_rfl) (by kernel_rfl) (fun _ _ _ h => h) (by rfl) hHeld ?_ ?_
          rotate_left
          · intro W hSw
            try dsimp only at hSw
            go_simp
            try with_reducible rfl
          try simp only [Act.put]
          try simp only [List.setIfInBounds_toArray]
          try simp only [List.set_cons_succ]
          try simp only [List.set_cons_zero]
          refine takeD (i := 6) (v := ?_) (some 102) rfl rfl (by kernel_rfl) (by kernel_rfl) (by kernel_rfl) (fun _ _ _ h => h) (by rfl) hHeld ?_ ?_
          rotate_left
          · intro W hSw
            try dsimp only at hSw
            go_simp
            try with_reducible rfl
          try simp only [Act.put]
          try simp only [List.setIfInBounds_toArray]
          try simp only [List.set_cons_succ]
          try simp only [List.set_cons_zero]
          refine takeD (i := 7) (v := ?_) (some 103) rfl rfl (by kernel_rfl) (by kernel_rfl) (by kernel_rfl) (fun _ _ _ h => h) (by rfl) hHeld ?_ ?_
          rotate_left
          · intro W hSw
            try dsimp only at hSw
            go_simp
            try with_reducible rfl
          try simp only [Act.put]
          try simp only [List.setIfInBounds_toArray]
          try simp only [List.set_cons_succ]
          try simp only [List.set_cons_zero]
          refine takeD (i := 8) (v := ?_) (some 104) rfl rfl (by kernel_rfl) (by kernel_rfl) (by kernel_rfl) (fun _ _ _ h => h) (by rfl) hHeld ?_ ?_
          rotate_left
          · intro W hSw
            try dsimp only at hSw
            go_simp
            try with_reducible rfl
          try simp only [Act.put]
          try simp only [List.setIfInBounds_toArray]
          try simp only [List.set_cons_succ]
          try simp only [List.set_cons_zero]
          refine wpAnyH_ready (rs := [9, 10]) (by kernel_rfl) (by simp) ?_
          refine AllReadyH.cons rfl (fun K hK => ?_) (AllReadyH.cons rfl (fun K hK => ?_) AllReadyH.nil)
          go_simp
          obtain ⟨wr4, bh, hX, hB, hb, YH⟩ := alc_new wr3 #[.int .i64 0, .bool false, .int .i64 0, .slice none 0 0, .int .i64 0] 34
          have LBH : Hid (w15.heap.size ≤ bh) := le_at hB LW.out.size
          have AH : Hid (bh < lo ∨ hi ≤ bh) := Or.inr (le_at hB Z.out)
          replace O := hide_it (O.out.below hb Z.out)
          replace Z : Hid (hi ≤ wr4.heap.size) := Nat.le_trans Z.out hb.size
          replace LW : Hid (Below w15.heap.size w15 wr4) := LW.out.trans (hb.mono LW.out.size)
          clear hb
          rw [← hX.out]
          try dsimp only
          refine hK.out _ _ (KK.out _ LW.out) (fun hHeld => ?_)
          clear hK K
          rw [← hB.out]
          clear hX hB
          refine wpAnyH_ready (rs := [10]) (by kernel_rfl) (by simp) ?_
          refine AllReadyH.cons rfl (fun K hK => ?_) AllReadyH.nil
          go_simp
          obtain ⟨wr5, bw, hX, hB, hb, YW⟩ := alc_new wr4 #[.int .i64 0, .int .i64 0, .int .i64 0, .int .i64 0] 35
          have LBW : Hid (w15.heap.size ≤ bw) := le_at hB LW.out.size
          have AW : Hid (bw < lo ∨ hi ≤ bw) := Or.inr (le_at hB Z.out)
          replace YH := hide_it (YH.out.after hb)
          replace O := hide_it (O.out.below hb Z.out)
          replace Z : Hid (hi ≤ wr5.heap.size) := Nat.le_trans Z.out hb.size
          replace LW : Hid (Below w15.heap.size w15 wr5) := LW.out.trans (hb.mono LW.out.size)
          clear hb
          rw [← hX.out]
          try dsimp only
          refine hK.out _ _ (KK.out _ LW.out) (fun hHeld => ?_)
          clear hK K
          rw [← hB.out]
          clear hX hB
          rotate_left
          go_simp
          obtain ⟨wr4, bw, hX, hB, hb, YW⟩ := alc_new wr3 #[.int .i64 0, .int .i64 0, .int .i64 0, .int .i64 0] 35
          have LBW : Hid (w15.heap.size ≤ bw) := le_at hB LW.out.size
          have AW : Hid (bw < lo ∨ hi ≤ bw) := Or.inr (le_at hB Z.out)
          replace O := hide_it (O.out.below hb Z.out)
          replace Z : Hid (hi ≤ wr4.heap.size) := Nat.le_trans Z.out hb.size
          replace LW : Hid (Below w15.heap.size w15 wr4) := LW.out.trans (hb.mono LW.out.size)
          clear hb
          rw [← hX.out]
          try dsimp only
          refine hK.out _ _ (KK.out _ LW.out) (fun hHeld => ?_)
          clear hK K
          rw [← hB.out]
          clear hX hB
          refine wpAnyH_ready (rs := [9]) (by kernel_rfl) (by simp) ?_
          refine AllReadyH.cons rfl (fun K hK => ?_) AllReadyH.nil
          go_simp
          obtain ⟨wr5, bh, hX, hB, hb, YH⟩ := alc_new wr4 #[.int .i64 0, .bool false, .int .i64 0, .slice none 0 0, .int .i64 0] 34
          have LBH : Hid (w15.heap.size ≤ bh) := le_at hB LW.out.size
          have AH : Hid (bh < lo ∨ hi ≤ bh) := Or.inr (le_at hB Z.out)
          replace YW := hide_it (YW.out.after hb)
          replace O := hide_it (O.out.below hb Z.out)
          replace Z : Hid (hi ≤ wr5.heap.size) := Nat.le_trans Z.out hb.size
          replace LW : Hid (Below w15.heap.size w15 wr5) := LW.out.trans (hb.mono LW.out.size)
          clear hb
          rw [← hX.out]
          try dsimp only
          refine hK.out _ _ (KK.out _ LW.out) (fun hHeld => ?_)
          clear hK K
          rw [← hB.out]
          clear hX hB
          rotate_left
          go_simp
          obtain ⟨wr3, bh, hX, hB, hb, YH⟩ := alc_new wr2 #[.int .i64 0, .bool false, .int .i64 0, .slice none 0 0, .int .i64 0] 34
          have LBH : Hid (w15.heap.size ≤ bh) := le_at hB LW.out.size
          replace VH := hide_it (VH.out.later hb (Nat.le_refl _))
          replace LW : Hid (Below w15.heap.size w15 wr3) := LW.out.trans (hb.mono LW.out.size)
          clear hb
          rw [← hX.out]
          try dsimp only
          refine hK.out _ _ (KK.out _ LW.out) (fun hHeld => ?_)
          clear hK K
          rw [← hB.out]
          clear hX hB
          refine wpAnyH_ready (rs := [4, 10]) (by kernel_rfl) (by simp) ?_
          refine AllReadyH.cons rfl (fun K hK => ?_) (AllReadyH.cons rfl (fun K hK => ?_) AllReadyH.nil)
          go_simp
          refine (HIM.out _ wr3 VH.out FMH.out (HA.out _ (B15.out.trans (LW.out.mono B15.out.size)))).mono ?_
          rintro e wr4 ⟨aC, cC, rfl, hm, hb⟩
          obtain ⟨lo, hi, pC, P, O, Z, hlo, hhi⟩ := made_split hm
          have LL : Hid (w15.heap.size ≤ lo) := le_at hlo LW.out.size
          have AH : Hid (bh < lo ∨ hi ≤ bh) := Or.inl (lt_at hlo YH.out.lt)
          clear hm hlo hhi VH
          replace YH := hide_it (YH.out.after hb)
          replace LW : Hid (Below w15.heap.size w15 wr4) := LW.out.trans (hb.mono LW.out.size)
          clear hb
          try dsimp only
          refine hK.out _ _ (KK.out _ LW.out) (fun hHeld => ?_)
          clear hK K
          refine takeD (i := 5) (v := ?_) (some 96) rfl rfl (by kernel_rfl) (by kernel_rfl) (by kernel_rfl) (fun _ _ _ h => h) (by rfl) hHeld ?_ ?_
          rotate_left
          · intro W hSw
            try dsimp only at hSw
            go_simp
            try with_reducible rfl
          try simp only [Act.put]
          try simp only [List.setIfInBounds_toArray]
          try simp only [List.set_cons_succ]
          try simp only [List.set_cons_zero]
          refine takeD (i := 6) (v := ?_) (some 102) rfl rfl (by kernel_rfl) (by kernel_rfl) (by kernel_rfl) (fun _ _ _ h => h) (by rfl) hHeld ?_ ?_
          rotate_left
          · intro W hSw
            try dsimp only at hSw
            go_simp
            try with_reducible rfl
          try simp only [Act.put]
          try simp only [List.setIfInBounds_toArray]
          try simp only [List.set_cons_succ]
          try simp only [List.set_cons_zero]
          refine takeD (i := 7) (v := ?_) (some 103) rfl rfl (by kernel_rfl) (by kernel_rfl) (by kernel_rfl) (fun _ _ _ h => h) (by rfl) hHeld ?_ ?_
          rotate_left
          · intro W hSw
            try dsimp only at hSw
            go_simp
            try with_reducible rfl
          try simp only [Act.put]
          try simp only [List.setIfInBounds_toArray]
          try simp only [List.set_cons_succ]
          try simp only [List.set_cons_zero]
          refine takeD (i := 8) (v := ?_) (some 104) rfl rfl (by kernel_rfl) (by kernel_rfl) (by kernel_rfl) (fun _ _ _ h => h) (by rfl) hHeld ?_ ?_
          rotate_left
          · intro W hSw
            try dsimp only at hSw
            go_simp
            try with_reducible rfl
          try simp only [Act.put]
          try simp only [List.setIfInBounds_toArray]
          try simp only [List.set_cons_succ]
          try simp only [List.set_cons_zero]
          refine wpAnyH_ready (rs := [10]) (by kernel_rfl) (by simp) ?_
          refine AllReadyH.cons rfl (fun K hK => ?_) AllReadyH.nil
          go_simp
          obtain ⟨wr5, bw, hX, hB, hb, YW⟩ := alc_new wr4 #[.int .i64 0, .int .i64 0, .int .i64 0, .int .i64 0] 35
          have LBW : Hid (w15.heap.size ≤ bw) := le_at hB LW.out.size
          have AW : Hid (bw < lo ∨ hi ≤ bw) := Or.inr (le_at hB Z.out)
          replace YH := hide_it (YH.out.after hb)
          replace O := hide_it (O.out.below hb Z.out)
          replace Z : Hid (hi ≤ wr5.heap.size) := Nat.le_trans Z.out hb.size
          replace LW : Hid (Below w15.heap.size w15 wr5) := LW.out.trans (hb.mono LW.out.size)
          clear hb
          rw [← hX.out]
          try dsimp only
          refine hK.out _ _ (KK.out _ LW.out) (fun hHeld => ?_)
          clear hK K
          rw [← hB.out]
          clear hX hB
          rotate_left
          go_simp
          obtain ⟨wr4, bw, hX, hB, hb, YW⟩ := alc_new wr3 #[.int .i64 0, .int .i64 0, .int .i64 0, .int .i64 0] 35
          have LBW : Hid (w15.heap.size ≤ bw) := le_at hB LW.out.size
          replace YH := hide_it (YH.out.after hb)
          replace VH := hide_it (VH.out.later hb (Nat.le_refl _))
          replace LW : Hid (Below w15.heap.size w15 wr4) := LW.out.trans (hb.mono LW.out.size)
          clear hb
          rw [← hX.out]
          try dsimp only
          refine hK.out _ _ (KK.out _ LW.out) (fun hHeld => ?_)
          clear hK K
          rw [← hB.out]
          clear hX hB
          refine wpAnyH_ready (rs := [4]) (by kernel_rfl) (by simp) ?_
          refine AllReadyH.cons rfl (fun K hK => ?_) AllReadyH.nil
          go_simp
          refine (HIM.out _ wr4 VH.out FMH.out (HA.out _ (B15.out.trans (LW.out.mono B15.out.size)))).mono ?_
          rintro e wr5 ⟨aC, cC, rfl, hm, hb⟩
          obtain ⟨lo, hi, pC, P, O, Z, hlo, hhi⟩ := made_split hm
          have LL : Hid (w15.heap.size ≤ lo) := le_at hlo LW.out.size
          have AH : Hid (bh < lo ∨ hi ≤ bh) := Or.inl (lt_at hlo YH.out.lt)
          have AW : Hid (bw < lo ∨ hi ≤ bw) := Or.inl (lt_at hlo YW.out.lt)
          clear hm hlo hhi VH
          replace YH := hide_it (YH.out.after hb)
          replace YW := hide_it (YW.out.after hb)
          replace LW : Hid (Below w15.heap.size w15 wr5) := LW.out.trans (hb.mono LW.out.size)
          clear hb
          try dsimp only
          refine hK.out _ _ (KK.out _ LW.out) (fun hHeld => ?_)
          clear hK K
          refine takeD (i := 5) (v := ?_) (some 96) rfl rfl (by kernel_rfl) (by kernel_rfl) (by kernel_rfl) (fun _ _ _ h => h) (by rfl) hHeld ?_ ?_
          rotate_left
          · intro W hSw
            try dsimp only at hSw
            go_simp
            try with_reducible rfl
          try simp only [Act.put]
          try simp only [List.setIfInBounds_toArray]
          try simp only [List.set_cons_succ]
          try simp only [List.set_cons_zero]
          refine takeD (i := 6) (v := ?_) (some 102) rfl rfl (by kernel_rfl) (by kernel_rfl) (by kernel_rfl) (fun _ _ _ h => h) (by rfl) hHeld ?_ ?_
          rotate_left
          · intro W hSw
            try dsimp only at hSw
            go_simp
            try with_reducible rfl
          try simp only [Act.put]
          try simp only [List.setIfInBounds_toArray]
          try simp only [List.set_cons_succ]
          try simp only [List.set_cons_zero]
          refine takeD (i := 7) (v := ?_) (some 103) rfl rfl (by kernel_rfl) (by kernel_rfl) (by kernel_rfl) (fun _ _ _ h => h) (by rfl) hHeld ?_ ?_
          rotate_left
          · intro W hSw
            try dsimp only at hSw
            go_simp
            try with_reducible rfl
          try simp only [Act.put]
          try simp only [List.setIfInBounds_toArray]
          try simp only [List.set_cons_succ]
          try simp only [List.set_cons_zero]
          refine takeD (i := 8) (v := ?_) (some 104) rfl rfl (by kernel_rfl) (by kernel_rfl) (by kernel_rfl) (fun _ _ _ h => h) (by rfl) hHeld ?_ ?_
          rotate_left
          · intro W hSw
            try dsimp only at hSw
            go_simp
            try with_reducible rfl
          try simp only [Act.put]
          try simp only [List.setIfInBounds_toArray]
          try simp only [List.set_cons_succ]
          try simp only [List.set_cons_zero]
          rotate_left
          go_simp
          obtain ⟨wr3, bw, hX, hB, hb, YW⟩ := alc_new wr2 #[.int .i64 0, .int .i64 0, .int .i64 0, .int .i64 0] 35
          have LBW : Hid (w15.heap.size ≤ bw) := le_at hB LW.out.size
          replace VH := hide_it (VH.out.later hb (Nat.le_refl _))
          replace LW : Hid (Below w15.heap.size w15 wr3) := LW.out.trans (hb.mono LW.out.size)
          clear hb
          rw [← hX.out]
          try dsimp only
          refine hK.out _ _ (KK.out _ LW.out) (fun hHeld => ?_)
          clear hK K
          rw [← hB.out]
          clear hX hB
          refine wpAnyH_ready (rs := [4, 9]) (by kernel_rfl) (by simp) ?_
          refine AllReadyH.cons rfl (fun K hK => ?_) (AllReadyH.cons rfl (fun K hK => ?_) AllReadyH.nil)
          go_simp
          refine (HIM.out _ wr3 VH.out FMH.out (HA.out _ (B15.out.trans (LW.out.mono B15.out.size)))).mono ?_
          rintro e wr4 ⟨aC, cC, rfl, hm, hb⟩
          obtain ⟨lo, hi, pC, P, O, Z, hlo, hhi⟩ := made_split hm
          have LL : Hid (w15.heap.size ≤ lo) := le_at hlo LW.out.size
          have AW : Hid (bw < lo ∨ hi ≤ bw) := Or.inl (lt_at hlo YW.out.lt)
          clear hm hlo hhi VH
          replace YW := hide_it (YW.out.after hb)
          replace LW : Hid (Below w15.heap.size w15 wr4) := LW.out.trans (hb.mono LW.out.size)
          clear hb
          try dsimp only
          refine hK.out _ _ (KK.out _ LW.out) (fun hHeld => ?_)
          clear hK K
          refine takeD (i := 5) (v := ?_) (some 96) rfl rfl (by kernel_rfl) (by kernel_rfl) (by kernel_rfl) (fun _ _ _ h => h) (by rfl) hHeld ?_ ?_
          rotate_left
          · intro W hSw
            try dsimp only at hSw
            go_simp
            try with_reducible rfl
          try simp only [Act.put]
          try simp only [List.setIfInBounds_toArray]
          try simp only [List.set_cons_succ]
          try simp only [List.set_cons_zero]
          refine takeD (i := 6) (v := ?_) (some 102) rfl rfl (by kernel_rfl) (by kernel_rfl) (by kernel_rfl) (fun _ _ _ h => h) (by rfl) hHeld ?_ ?_
          rotate_left
          · intro W hSw
            try dsimp only at hSw
            go_simp
            try with_reducible rfl
          try simp only [Act.put]
          try simp only [List.setIfInBounds_toArray]
          try simp only [List.set_cons_succ]
          try simp only [List.set_cons_zero]
          refine takeD (i := 7) (v := ?_) (some 103) rfl rfl (by kernel_rfl) (by kernel_rfl) (by kernel_rfl) (fun _ _ _ h => h) (by rfl) hHeld ?_ ?_
          rotate_left
          · intro W hSw
            try dsimp only at hSw
            go_simp
            try with_reducible rfl
          try simp only [Act.put]
          try simp only [List.setIfInBounds_toArray]
          try simp only [List.set_cons_succ]
          try simp only [List.set_cons_zero]
          refine takeD (i := 8) (v := ?_) (some 104) rfl rfl (by kernel_rfl) (by kernel_rfl) (by kernel_rfl) (fun _ _ _ h => h) (by rfl) hHeld ?_ ?_
          rotate_left
          · intro W hSw
            try dsimp only at hSw
            go_simp
            try with_reducible rfl
          try simp only [Act.put]
          try simp only [List.setIfInBounds_toArray]
          try simp only [List.set_cons_succ]
          try simp only [List.set_cons_zero]
          refine wpAnyH_ready (rs := [9]) (by kernel_rfl) (by simp) ?_
          refine AllReadyH.cons rfl (fun K hK => ?_) AllReadyH.nil
          go_simp
          obtain ⟨wr5, bh, hX, hB, hb, YH⟩ := alc_new wr4 #[.int .i64 0, .bool false, .int .i64 0, .slice none 0 0, .int .i64 0] 34
          have LBH : Hid (w15.heap.size ≤ bh) := le_at hB LW.out.size
          have AH : Hid (bh < lo ∨ hi ≤ bh) := Or.inr (le_at hB Z.out)
          replace YW := hide_it (YW.out.after hb)
          replace O := hide_it (O.out.below hb Z.out)
          replace Z : Hid (hi ≤ wr5.heap.size) := Nat.le_trans Z.out hb.size
          replace LW : Hid (Below w15.heap.size w15 wr5) := LW.out.trans (hb.mono LW.out.size)
          clear hb
          rw [← hX.out]
          try dsimp only
          refine hK.out _ _ (KK.out _ LW.out) (fun hHeld => ?_)
          clear hK K
          rw [← hB.out]
          clear hX hB
          rotate_left
          go_simp
          obtain ⟨wr4, bh, hX, hB, hb, YH⟩ := alc_new wr3 #[.int .i64 0, .bool false, .int .i64 0, .slice none 0 0, .int .i64 0] 34
          have LBH : Hid (w15.heap.size ≤ bh) := le_at hB LW.out.size
          replace YW := hide_it (YW.out.after hb)
          replace VH := hide_it (VH.out.later hb (Nat.le_refl _))
          replace LW : Hid (Below w15.heap.size w15 wr4) := LW.out.trans (hb.mono LW.out.size)
          clear hb
          rw [← hX.out]
          try dsimp only
          refine hK.out _ _ (KK.out _ LW.out) (fun hHeld => ?_)
          clear hK K
          rw [← hB.out]
          clear hX hB
          refine wpAnyH_ready (rs := [4]) (by kernel_rfl) (by simp) ?_
          refine AllReadyH.cons rfl (fun K hK => ?_) AllReadyH.nil
          go_simp
          refine (HIM.out _ wr4 VH.out FMH.out (HA.out _ (B15.out.trans (LW.out.mono B15.out.size)))).mono ?_
          rintro e wr5 ⟨aC, cC, rfl, hm, hb⟩
          obtain ⟨lo, hi, pC, P, O, Z, hlo, hhi⟩ := made_split hm
          have LL : Hid (w15.heap.size ≤ lo) := le_at hlo LW.out.size
          have AH : Hid (bh < lo ∨ hi ≤ bh) := Or.inl (lt_at hlo YH.out.lt)
          have AW : Hid (bw < lo ∨ hi ≤ bw) := Or.inl (lt_at hlo YW.out.lt)
          clear hm hlo hhi VH
          replace YH := hide_it (YH.out.after hb)
          replace YW := hide_it (YW.out.after hb)
          replace LW : Hid (Below w15.heap.size w15 wr5) := LW.out.trans (hb.mono LW.out.size)
          clear hb
          try dsimp only
          refine hK.out _ _ (KK.out _ LW.out) (fun hHeld => ?_)
          clear hK K
          refine takeD (i := 5) (v := ?_) (some 96) rfl rfl (by kernel_rfl) (by kernel_rfl) (by kernel_rfl) (fun _ _ _ h => h) (by rfl) hHeld ?_ ?_
          rotate_left
          · intro W hSw
            try dsimp only at hSw
            go_simp
            try with_reducible rfl
          try simp only [Act.put]
          try simp only [List.setIfInBounds_toArray]
          try simp only [List.set_cons_succ]
          try simp only [List.set_cons_zero]
          refine takeD (i := 6) (v := ?_) (some 102) rfl rfl (by kernel_rfl) (by kernel_rfl) (by kernel_rfl) (fun _ _ _ h => h) (by rfl) hHeld ?_ ?_
          rotate_left
          · intro W hSw
            try dsimp only at hSw
            go_simp
            try with_reducible rfl
          try simp only [Act.put]
          try simp only [List.setIfInBounds_toArray]
          try simp only [List.set_cons_succ]
          try simp only [List.set_cons_zero]
          refine takeD (i := 7) (v := ?_) (some 103) rfl rfl (by kernel_rfl) (by kernel_rfl) (by kernel_rfl) (fun _ _ _ h => h) (by rfl) hHeld ?_ ?_
          rotate_left
          · intro W hSw
            try dsimp only at hSw
            go_simp
            try with_reducible rfl
          try simp only [Act.put]
          try simp only [List.setIfInBounds_toArray]
          try simp only [List.set_cons_succ]
          try simp only [List.set_cons_zero]
          refine takeD (i := 8) (v := ?_) (some 104) rfl rfl (by kernel_rfl) (by kernel_rfl) (by kernel_rfl) (fun _ _ _ h => h) (by rfl) hHeld ?_ ?_
          rotate_left
          · intro W hSw
            try dsimp only at hSw
            go_simp
            try with_reducible rfl
          try simp only [Act.put]
          try simp only [List.setIfInBounds_toArray]
          try simp only [List.set_cons_succ]
          try simp only [List.set_cons_zero]
          rotate_left
          go_simp
          obtain ⟨wr2, bh, hX, hB, hb, YH⟩ := alc_new wr1 #[.int .i64 0, .bool false, .int .i64 0, .slice none 0 0, .int .i64 0] 34
          have LBH : Hid (w15.heap.size ≤ bh) := le_at hB LW.out.size
          replace VH := hide_it (VH.out.later hb (Nat.le_refl _))
          replace LW : Hid (Below w15.heap.size w15 wr2) := LW.out.trans (hb.mono LW.out.size)
          clear hb
          rw [← hX.out]
          try dsimp only
          refine hK.out _ _ (KK.out _ LW.out) (fun hHeld => ?_)
          clear hK K
          rw [← hB.out]
          clear hX hB
          refine wpAnyH_ready (rs := [3, 10]) (by kernel_rfl) (by simp) ?_
          refine AllReadyH.cons rfl (fun K hK => ?_) (AllReadyH.cons rfl (fun K hK => ?_) AllReadyH.nil)
          go_simp
          refine (toWord_any k h t m wr2).mono ?_
          rintro e wr3 ⟨rfl, hb⟩
          replace YH := hide_it (YH.out.after hb)
          replace VH := hide_it (VH.out.later hb (Nat.le_refl _))
          replace LW : Hid (Below w15.heap.size w15 wr3) := LW.out.trans (hb.mono LW.out.size)
          clear hb
          try dsimp only
          refine hK.out _ _ (KK.out _ LW.out) (fun hHeld => ?_)
          clear hK K
          refine wpAnyH_ready (rs := [4, 10]) (by kernel_rfl) (by simp) ?_
          refine AllReadyH.cons rfl (fun K hK => ?_) (AllReadyH.cons rfl (fun K hK => ?_) AllReadyH.nil)
          go_simp
          refine (HIM.out _ wr3 VH.out FMH.out (HA.out _ (B15.out.trans (LW.out.mono B15.out.size)))).mono ?_
          rintro e wr4 ⟨aC, cC, rfl, hm, hb⟩
          obtain ⟨lo, hi, pC, P, O, Z, hlo, hhi⟩ := made_split hm
          have LL : Hid (w15.heap.size ≤ lo) := le_at hlo LW.out.size
          have AH : Hid (bh < lo ∨ hi ≤ bh) := Or.inl (lt_at hlo YH.out.lt)
          clear hm hlo hhi VH
          replace YH := hide_it (YH.out.after hb)
          replace LW : Hid (Below w15.heap.size w15 wr4) := LW.out.trans (hb.mono LW.out.size)
          clear hb
          try dsimp only
          refine hK.out _ _ (KK.out _ LW.out) (fun hHeld => ?_)
          clear hK K
          refine takeD (i := 5) (v := ?_) (some 96) rfl rfl (by kernel_rfl) (by kernel_rfl) (by kernel_rfl) (fun _ _ _ h => h) (by rfl) hHeld ?_ ?_
          rotate_left
          · intro W hSw
            try dsimp only at hSw
            go_simp
            try with_reducible rfl
          try simp only [Act.put]
          try simp only [List.setIfInBounds_toArray]
          try simp only [List.set_cons_succ]
          try simp only [List.set_cons_zero]
          refine takeD (i := 6) (v := ?_) (some 102) rfl rfl (by kernel_rfl) (by kernel_rfl) (by kernel_rfl) (fun _ _ _ h => h) (by rfl) hHeld ?_ ?_
          rotate_left
          · intro W hSw
            try dsimp only at hSw
            go_simp
            try with_reducible rfl
          try simp only [Act.put]
          try simp only [List.setIfInBounds_toArray]
          try simp only [List.set_cons_succ]
          try simp only [List.set_cons_zero]
          refine takeD (i := 7) (v := ?_) (some 103) rfl rfl (by kernel_rfl) (by kernel_rfl) (by kernel_rfl) (fun _ _ _ h => h) (by rfl) hHeld ?_ ?_
          rotate_left
          · intro W hSw
            try dsimp only at hSw
            go_simp
            try with_reducible rfl
          try simp only [Act.put]
          try simp only [List.setIfInBounds_toArray]
          try simp only [List.set_cons_succ]
          try simp only [List.set_cons_zero]
          refine takeD (i := 8) (v := ?_) (some 104) rfl rfl (by kernel_rfl) (by kernel_rfl) (by kernel_rfl) (fun _ _ _ h => h) (by rfl) hHeld ?_ ?_
          rotate_left
          · intro W hSw
            try dsimp only at hSw
            go_simp
            try with_reducible rfl
          try simp only [Act.put]
          try simp only [List.setIfInBounds_toArray]
          try simp only [List.set_cons_succ]
          try simp only [List.set_cons_zero]
          refine wpAnyH_ready (rs := [10]) (by kernel_rfl) (by simp) ?_
          refine AllReadyH.cons rfl (fun K hK => ?_) AllReadyH.nil
          go_simp
          obtain ⟨wr5, bw, hX, hB, hb, YW⟩ := alc_new wr4 #[.int .i64 0, .int .i64 0, .int .i64 0, .int .i64 0] 35
          have LBW : Hid (w15.heap.size ≤ bw) := le_at hB LW.out.size
          have AW : Hid (bw < lo ∨ hi ≤ bw) := Or.inr (le_at hB Z.out)
          replace YH := hide_it (YH.out.after hb)
          replace O := hide_it (O.out.below hb Z.out)
          replace Z : Hid (hi ≤ wr5.heap.size) := Nat.le_trans Z.out hb.size
          replace LW : Hid (Below w15.heap.size w15 wr5) := LW.out.trans (hb.mono LW.out.size)
          clear hb
          rw [← hX.out]
          try dsimp only
          refine hK.out _ _ (KK.out _ LW.out) (fun hHeld => ?_)
          clear hK K
          rw [← hB.out]
          clear hX hB
          rotate_left
          go_simp
          obtain ⟨wr4, bw, hX, hB, hb, YW⟩ := alc_new wr3 #[.int .i64 0, .int .i64 0, .int .i64 0, .int .i64 0] 35
          have LBW : Hid (w15.heap.size ≤ bw) := le_at hB LW.out.size
          replace YH := hide_it (YH.out.after hb)
          replace VH := hide_it (VH.out.later hb (Nat.le_refl _))
          replace LW : Hid (Below w15.heap.size w15 wr4) := LW.out.trans (hb.mono LW.out.size)
          clear hb
          rw [← hX.out]
          try dsimp only
          refine hK.out _ _ (KK.out _ LW.out) (fun hHeld => ?_)
          clear hK K
          rw [← hB.out]
          clear hX hB
          refine wpAnyH_ready (rs := [4]) (by kernel_rfl) (by simp) ?_
          refine AllReadyH.cons rfl (fun K hK => ?_) AllReadyH.nil
          go_simp
          refine (HIM.out _ wr4 VH.out FMH.out (HA.out _ (B15.out.trans (LW.out.mono B15.out.size)))).mono ?_
          rintro e wr5 ⟨aC, cC, rfl, hm, hb⟩
          obtain ⟨lo, hi, pC, P, O, Z, hlo, hhi⟩ := made_split hm
          have LL : Hid (w15.heap.size ≤ lo) := le_at hlo LW.out.size
          have AH : Hid (bh < lo ∨ hi ≤ bh) := Or.inl (lt_at hlo YH.out.lt)
          have AW : Hid (bw < lo ∨ hi ≤ bw) := Or.inl (lt_at hlo YW.out.lt)
          clear hm hlo hhi VH
          replace YH := hide_it (YH.out.after hb)
          replace YW := hide_it (YW.out.after hb)
          replace LW : Hid (Below w15.heap.size w15 wr5) := LW.out.trans (hb.mono LW.out.size)
          clear hb
          try dsimp only
          refine hK.out _ _ (KK.out _ LW.out) (fun hHeld => ?_)
          clear hK K
          refine takeD (i := 5) (v := ?_) (some 96) rfl rfl (by kernel_rfl) (by kernel_rfl) (by kernel_rfl) (fun _ _ _ h => h) (by rfl) hHeld ?_ ?_
          rotate_left
          · intro W hSw
            try dsimp only at hSw
            go_simp
            try with_reducible rfl
          try simp only [Act.put]
          try simp only [List.setIfInBounds_toArray]
          try simp only [List.set_cons_succ]
          try simp only [List.set_cons_zero]
          refine takeD (i := 6) (v := ?_) (some 102) rfl rfl (by kernel_rfl) (by kernel_rfl) (by kernel_rfl) (fun _ _ _ h => h) (by rfl) hHeld ?_ ?_
          rotate_left
          · intro W hSw
            try dsimp only at hSw
            go_simp
            try with_reducible rfl
          try simp only [Act.put]
          try simp only [List.setIfInBounds_toArray]
          try simp only [List.set_cons_succ]
          try simp only [List.set_cons_zero]
          refine takeD (i := 7) (v := ?_) (some 103) rfl rfl (by kernel_rfl) (by kernel_rfl) (by kernel_rfl) (fun _ _ _ h => h) (by rfl) hHeld ?_ ?_
          rotate_left
          · intro W hSw
            try dsimp only at hSw
            go_simp
            try with_reducible rfl
          try simp only [Act.put]
          try simp only [List.setIfInBounds_toArray]
          try simp only [List.set_cons_succ]
          try simp only [List.set_cons_zero]
          refine takeD (i := 8) (v := ?_) (some 104) rfl rfl (by kernel_rfl) (by kernel_rfl) (by kernel_rfl) (fun _ _ _ h => h) (by rfl) hHeld ?_ ?_
          rotate_left
          · intro W hSw
            try dsimp only at hSw
            go_simp
            try with_reducible rfl
          try simp only [Act.put]
          try simp only [List.setIfInBounds_toArray]
          try simp only [List.set_cons_succ]
          try simp only [List.set_cons_zero]
          rotate_left
          go_simp
          obtain ⟨wr3, bw, hX, hB, hb, YW⟩ := alc_new wr2 #[.int .i64 0, .int .i64 0, .int .i64 0, .int .i64 0] 35
          have LBW : Hid (w15.heap.size ≤ bw) := le_at hB LW.out.size
          replace YH := hide_it (YH.out.after hb)
          replace VH := hide_it (VH.out.later hb (Nat.le_refl _))
          replace LW : Hid (Below w15.heap.size w15 wr3) := LW.out.trans (hb.mono LW.out.size)
          clear hb
          rw [← hX.out]
          try dsimp only
          refine hK.out _ _ (KK.out _ LW.out) (fun hHeld => ?_)
          clear hK K
          rw [← hB.out]
          clear hX hB
          refine wpAnyH_ready (rs := [3]) (by kernel_rfl) (by simp) ?_
          refine AllReadyH.cons rfl (fun K hK => ?_) AllReadyH.nil
          go_simp
          refine (toWord_any k h t m wr3).mono ?_
          rintro e wr4 ⟨rfl, hb⟩
          replace YH := hide_it (YH.out.after hb)
          replace YW := hide_it (YW.out.after hb)
          replace VH := hide_it (VH.out.later hb (Nat.le_refl _))
          replace LW : Hid (Below w15.heap.size w15 wr4) := LW.out.trans (hb.mono LW.out.size)
          clear hb
          try dsimp only
          refine hK.out _ _ (KK.out _ LW.out) (fun hHeld => ?_)
          clear hK K
          refine wpAnyH_ready (rs := [4]) (by kernel_rfl) (by simp) ?_
          refine AllReadyH.cons rfl (fun K hK => ?_) AllReadyH.nil
          go_simp
          refine (HIM.out _ wr4 VH.out FMH.out (HA.out _ (B15.out.trans (LW.out.mono B15.out.size)))).mono ?_
          rintro e wr5 ⟨aC, cC, rfl, hm, hb⟩
          obtain ⟨lo, hi, pC, P, O, Z, hlo, hhi⟩ := made_split hm
          have LL : Hid (w15.heap.size ≤ lo) := le_at hlo LW.out.size
          have AH : Hid (bh < lo ∨ hi ≤ bh) := Or.inl (lt_at hlo YH.out.lt)
          have AW : Hid (bw < lo ∨ hi ≤ bw) := Or.inl (lt_at hlo YW.out.lt)
          clear hm hlo hhi VH
          replace YH := hide_it (YH.out.after hb)
          replace YW := hide_it (YW.out.after hb)
          replace LW : Hid (Below w15.heap.size w15 wr5) := LW.out.trans (hb.mono LW.out.size)
          clear hb
          try dsimp only
          refine hK.out _ _ (KK.out _ LW.out) (fun hHeld => ?_)
          clear hK K
          refine takeD (i := 5) (v := ?_) (some 96) rfl rfl (by kernel_rfl) (by kernel_rfl) (by kernel_rfl) (fun _ _ _ h => h) (by rfl) hHeld ?_ ?_
          rotate_left
          · intro W hSw
            try dsimp only at hSw
            go_simp
            try with_reducible rfl
          try simp only [Act.put]
          try simp only [List.setIfInBounds_toArray]
          try simp only [List.set_cons_succ]
          try simp only [List.set_cons_zero]
          refine takeD (i := 6) (v := ?_) (some 102) rfl rfl (by kernel_rfl) (by kernel_rfl) (by kernel_rfl) (fun _ _ _ h => h) (by rfl) hHeld ?_ ?_
          rotate_left
          · intro W hSw
            try dsimp only at hSw
            go_simp
            try with_reducible rfl
          try simp only [Act.put]
          try simp only [List.setIfInBounds_toArray]
          try simp only [List.set_cons_succ]
          try simp only [List.set_cons_zero]
          refine takeD (i := 7) (v := ?_) (some 103) rfl rfl (by kernel_rfl) (by kernel_rfl) (by kernel_rfl) (fun _ _ _ h => h) (by rfl) hHeld ?_ ?_
          rotate_left
          · intro W hSw
            try dsimp only at hSw
            go_simp
            try with_reducible rfl
          try simp only [Act.put]
          try simp only [List.setIfInBounds_toArray]
          try simp only [List.set_cons_succ]
          try simp only [List.set_cons_zero]
          refine takeD (i := 8) (v := ?_) (some 104) rfl rfl (by kernel_rfl) (by kernel_rfl) (by kernel_rfl) (fun _ _ _ h => h) (by rfl) hHeld ?_ ?_
          rotate_left
          · intro W hSw
            try dsimp only at hSw
            go_simp
            try with_reducible rfl
          try simp only [Act.put]
          try simp only [List.setIfInBounds_toArray]
          try simp only [List.set_cons_succ]
          try simp only [List.set_cons_zero]
          rotate_left
          go_simp
          obtain ⟨wr2, bw, hX, hB, hb, YW⟩ := alc_new wr1 #[.int .i64 0, .int .i64 0, .int .i64 0, .int .i64 0] 35
          have LBW : Hid (w15.heap.size ≤ bw) := le_at hB LW.out.size
          replace VH := hide_it (VH.out.later hb (Nat.le_refl _))
          replace LW : Hid (Below w15.heap.size w15 wr2) := LW.out.trans (hb.mono LW.out.size)
          clear hb
          rw [← hX.out]
          try dsimp only
          refine hK.out _ _ (KK.out _ LW.out) (fun hHeld => ?_)
          clear hK K
          rw [← hB.out]
          clear hX hB
          refine wpAnyH_ready (rs := [3, 9]) (by kernel_rfl) (by simp) ?_
          refine AllReadyH.cons rfl (fun K hK => ?_) (AllReadyH.cons rfl (fun K hK => ?_) AllReadyH.nil)
          go_simp
          refine (toWord_any k h t m wr2).mono ?_
          rintro e wr3 ⟨rfl, hb⟩
          replace YW := hide_it (YW.out.after hb)
          replace VH := hide_it (VH.out.later hb (Nat.le_refl _))
          replace LW : Hid (Below w15.heap.size w15 wr3) := LW.out.trans (hb.mono LW.out.size)
          clear hb
          try dsimp only
          refine hK.out _ _ (KK.out _ LW.out) (fun hHeld => ?_)
          clear hK K
          refine wpAnyH_ready (rs := [4, 9]) (by kernel_rfl) (by simp) ?_
          refine AllReadyH.cons rfl (fun K hK => ?_) (AllReadyH.cons rfl (fun K hK => ?_) AllReadyH.nil)
          go_simp
          refine (HIM.out _ wr3 VH.out FMH.out (HA.out _ (B15.out.trans (LW.out.mono B15.out.size)))).mono ?_
          rintro e wr4 ⟨aC, cC, rfl, hm, hb⟩
          obtain ⟨lo, hi, pC, P, O, Z, hlo, hhi⟩ := made_split hm
          have LL : Hid (w15.heap.size ≤ lo) := le_at hlo LW.out.size
          have AW : Hid (bw < lo ∨ hi ≤ bw) := Or.inl (lt_at hlo YW.out.lt)
          clear hm hlo hhi VH
          replace YW := hide_it (YW.out.after hb)
          replace LW : Hid (Below w15.heap.size w15 wr4) := LW.out.trans (hb.mono LW.out.size)
          clear hb
          try dsimp only
          refine hK.out _ _ (KK.out _ LW.out) (fun hHeld => ?_)
          clear hK K
          refine takeD (i := 5) (v := ?_) (some 96) rfl rfl (by kernel_rfl) (by kernel_rfl) (by kernel_rfl) (fun _ _ _ h => h) (by rfl) hHeld ?_ ?_
          rotate_left
          · intro W hSw
            try dsimp only at hSw
            go_simp
            try with_reducible rfl
          try simp only [Act.put]
          try simp only [List.setIfInBounds_toArray]
          try simp only [List.set_cons_succ]
          try simp only [List.set_cons_zero]
          refine takeD (i := 6) (v := ?_) (some 102) rfl rfl (by kernel_rfl) (by kernel_rfl) (by kernel_rfl) (fun _ _ _ h => h) (by rfl) hHeld ?_ ?_
          rotate_left
          · intro W hSw
            try dsimp only at hSw
            go_simp
            try with_reducible rfl
          try simp only [Act.put]
          try simp only [List.setIfInBounds_toArray]
          try simp only [List.set_cons_succ]
          try simp only [List.set_cons_zero]
          refine takeD (i := 7) (v := ?_) (some 103) rfl rfl (by kernel_rfl) (by kernel_rfl) (by kernel_rfl) (fun _ _ _ h => h) (by rfl) hHeld ?_ ?_
          rotate_left
          · intro W hSw
            try dsimp only at hSw
            go_simp
            try with_reducible rfl
          try simp only [Act.put]
          try simp only [List.setIfInBounds_toArray]
          try simp only [List.set_cons_succ]
          try simp only [List.set_cons_zero]
          refine takeD (i := 8) (v := ?_) (some 104) rfl rfl (by kernel_rfl) (by kernel_rfl) (by kernel_rfl) (fun _ _ _ h => h) (by rfl) hHeld ?_ ?_
          rotate_left
          · intro W hSw
            try dsimp only at hSw
            go_simp
            try with_reducible rfl
          try simp only [Act.put]
          try simp only [List.setIfInBounds_toArray]
          try simp only [List.set_cons_succ]
          try simp only [List.set_cons_zero]
          refine wpAnyH_ready (rs := [9]) (by kernel_rfl) (by simp) ?_
          refine AllReadyH.cons rfl (fun K hK => ?_) AllReadyH.nil
          go_simp
          obtain ⟨wr5, bh, hX, hB, hb, YH⟩ := alc_new wr4 #[.int .i64 0, .bool false, .int .i64 0, .slice none 0 0, .int .i64 0] 34
          have LBH : Hid (w15.heap.size ≤ bh) := le_at hB LW.out.size
          have AH : Hid (bh < lo ∨ hi ≤ bh) := Or.inr (le_at hB Z.out)
          replace YW := hide_it (YW.out.after hb)
          replace O := hide_it (O.out.below hb Z.out)
          replace Z : Hid (hi ≤ wr5.heap.size) := Nat.le_trans Z.out hb.size
          replace LW : Hid (Below w15.heap.size w15 wr5) := LW.out.trans (hb.mono LW.out.size)
          clear hb
          rw [← hX.out]
          try dsimp only
          refine hK.out _ _ (KK.out _ LW.out) (fun hHeld => ?_)
          clear hK K
          rw [← hB.out]
          clear hX hB
          rotate_left
          go_simp
          obtain ⟨wr4, bh, hX, hB, hb, YH⟩ := alc_new wr3 #[.int .i64 0, .bool false, .int .i64 0, .slice none 0 0, .int .i64 0] 34
          have LBH : Hid (w15.heap.size ≤ bh) := le_at hB LW.out.size
          replace YW := hide_it (YW.out.after hb)
          replace VH := hide_it (VH.out.later hb (Nat.le_refl _))
          replace LW : Hid (Below w15.heap.size w15 wr4) := LW.out.trans (hb.mono LW.out.size)
          clear hb
          rw [← hX.out]
          try dsimp only
          refine hK.out _ _ (KK.out _ LW.out) (fun hHeld => ?_)
          clear hK K
          rw [← hB.out]
          clear hX hB
          refine wpAnyH_ready (rs := [4]) (by kernel_rfl) (by simp) ?_
          refine AllReadyH.cons rfl (fun K hK => ?_) AllReadyH.nil
          go_simp
          refine (HIM.out _ wr4 VH.out FMH.out (HA.out _ (B15.out.trans (LW.out.mono B15.out.size)))).mono ?_
          rintro e wr5 ⟨aC, cC, rfl, hm, hb⟩
          obtain ⟨lo, hi, pC, P, O, Z, hlo, hhi⟩ := made_split hm
          have LL : Hid (w15.heap.size ≤ lo) := le_at hlo LW.out.size
          have AH : Hid (bh < lo ∨ hi ≤ bh) := Or.inl (lt_at hlo YH.out.lt)
          have AW : Hid (bw < lo ∨ hi ≤ bw) := Or.inl (lt_at hlo YW.out.lt)
          clear hm hlo hhi VH
          replace YH := hide_it (YH.out.after hb)
          replace YW := hide_it (YW.out.after hb)
          replace LW : Hid (Below w15.heap.size w15 wr5) := LW.out.trans (hb.mono LW.out.size)
          clear hb
          try dsimp only
          refine hK.out _ _ (KK.out _ LW.out) (fun hHeld => ?_)
          clear hK K
          refine takeD (i := 5) (v := ?_) (some 96) rfl rfl (by kernel_rfl) (by kernel_rfl) (by kernel_rfl) (fun _ _ _ h => h) (by rfl) hHeld ?_ ?_
          rotate_left
          · intro W hSw
            try dsimp only at hSw
            go_simp
            try with_reducible rfl
          try simp only [Act.put]
          try simp only [List.setIfInBounds_toArray]
          try simp only [List.set_cons_succ]
          try simp only [List.set_cons_zero]
          refine takeD (i := 6) (v := ?_) (some 102) rfl rfl (by kernel_rfl) (by kernel_rfl) (by kernel_rfl) (fun _ _ _ h => h) (by rfl) hHeld ?_ ?_
          rotate_left
          · intro W hSw
            try dsimp only at hSw
            go_simp
            try with_reducible rfl
          try simp only [Act.put]
          try simp only [List.setIfInBounds_toArray]
          try simp only [List.set_cons_succ]
          try simp only [List.set_cons_zero]
          refine takeD (i := 7) (v := ?_) (some 103) rfl rfl (by kernel_rfl) (by kernel_rfl) (by kernel_rfl) (fun _ _ _ h => h) (by rfl) hHeld ?_ ?_
          rotate_left
          · intro W hSw
            try dsimp only at hSw
            go_simp
            try with_reducible rfl
          try simp only [Act.put]
          try simp only [List.setIfInBounds_toArray]
          try simp only [List.set_cons_succ]
          try simp only [List.set_cons_zero]
          refine takeD (i := 8) (v := ?_) (some 104) rfl rfl (by kernel_rfl) (by kernel_rfl) (by kernel_rfl) (fun _ _ _ h => h) (by rfl) hHeld ?_ ?_
          rotate_left
          · intro W hSw
            try dsimp only at hSw
            go_simp
            try with_reducible rfl
          try simp only [Act.put]
          try simp only [List.setIfInBounds_toArray]
          try simp only [List.set_cons_succ]
          try simp only [List.set_cons_zero]
          rotate_left
          go_simp
          obtain ⟨wr3, bh, hX, hB, hb, YH⟩ := alc_new wr2 #[.int .i64 0, .bool false, .int .i64 0, .slice none 0 0, .int .i64 0] 34
          have LBH : Hid (w15.heap.size ≤ bh) := le_at hB LW.out.size
          replace YW := hide_it (YW.out.after hb)
          replace VH := hide_it (VH.out.later hb (Nat.le_refl _))
          replace LW : Hid (Below w15.heap.size w15 wr3) := LW.out.trans (hb.mono LW.out.size)
          clear hb
          rw [← hX.out]
          try dsimp only
          refine hK.out _ _ (KK.out _ LW.out) (fun hHeld => ?_)
          clear hK K
          rw [← hB.out]
          clear hX hB
          refine wpAnyH_ready (rs := [3]) (by kernel_rfl) (by simp) ?_
          refine AllReadyH.cons rfl (fun K hK => ?_) AllReadyH.nil
          go_simp
          refine (toWord_any k h t m wr3).mono ?_
          rintro e wr4 ⟨rfl, hb⟩
          replace YH := hide_it (YH.out.after hb)
          replace YW := hide_it (YW.out.after hb)
          replace VH := hide_it (VH.out.later hb (Nat.le_refl _))
          replace LW : Hid (Below w15.heap.size w15 wr4) := LW.out.trans (hb.mono LW.out.size)
          clear hb
          try dsimp only
          refine hK.out _ _ (KK.out _ LW.out) (fun hHeld => ?_)
          clear hK K
          refine wpAnyH_ready (rs := [4]) (by kernel_rfl) (by simp) ?_
          refine AllReadyH.cons rfl (fun K hK => ?_) AllReadyH.nil
          go_simp
          refine (HIM.out _ wr4 VH.out FMH.out (HA.out _ (B15.out.trans (LW.out.mono B15.out.size)))).mono ?_
          rintro e wr5 ⟨aC, cC, rfl, hm, hb⟩
          obtain ⟨lo, hi, pC, P, O, Z, hlo, hhi⟩ := made_split hm
          have LL : Hid (w15.heap.size ≤ lo) := le_at hlo LW.out.size
          have AH : Hid (bh < lo ∨ hi ≤ bh) := Or.inl (lt_at hlo YH.out.lt)
          have AW : Hid (bw < lo ∨ hi ≤ bw) := Or.inl (lt_at hlo YW.out.lt)
          clear hm hlo hhi VH
          replace YH := hide_it (YH.out.after hb)
          replace YW := hide_it (YW.out.after hb)
          replace LW : Hid (Below w15.heap.size w15 wr5) := LW.out.trans (hb.mono LW.out.size)
          clear hb
          try dsimp only
          refine hK.out _ _ (KK.out _ LW.out) (fun hHeld => ?_)
          clear hK K
          refine takeD (i := 5) (v := ?_) (some 96) rfl rfl (by kernel_rfl) (by kernel_rfl) (by kernel_rfl) (fun _ _ _ h => h) (by rfl) hHeld ?_ ?_
          rotate_left
          · intro W hSw
            try dsimp only at hSw
            go_simp
            try with_reducible rfl
          try simp only [Act.put]
          try simp only [List.setIfInBounds_toArray]
          try simp only [List.set_cons_succ]
          try simp only [List.set_cons_zero]
          refine takeD (i := 6) (v := ?_) (some 102) rfl rfl (by kernel_rfl) (by kernel_rfl) (by kernel_rfl) (fun _ _ _ h => h) (by rfl) hHeld ?_ ?_
          rotate_left
          · intro W hSw
            try dsimp only at hSw
            go_simp
            try with_reducible rfl
          try simp only [Act.put]
          try simp only [List.setIfInBounds_toArray]
          try simp only [List.set_cons_succ]
          try simp only [List.set_cons_zero]
          refine takeD (i := 7) (v := ?_) (some 103) rfl rfl (by kernel_rfl) (by kernel_rfl) (by kernel_rfl) (fun _ _ _ h => h) (by rfl) hHeld ?_ ?_
          rotate_left
          · intro W hSw
            try dsimp only at hSw
            go_simp
            try with_reducible rfl
          try simp only [Act.put]
          try simp only [List.setIfInBounds_toArray]
          try simp only [List.set_cons_succ]
          try simp only [List.set_cons_zero]
          refine takeD (i := 8) (v := ?_) (some 104) rfl rfl (by kernel_rfl) (by kernel_rfl) (by kernel_rfl) (fun _ _ _ h => h) (by rfl) hHeld ?_ ?_
          rotate_left
          · intro W hSw
            try dsimp only at hSw
            go_simp
            try with_reducible rfl
          try simp only [Act.put]
          try simp only [List.setIfInBounds_toArray]
          try simp only [List.set_cons_succ]
          try simp only [List.set_cons_zero]
          rotate_left
          go_simp
          obtain ⟨wr1, bh, hX, hB, hb, YH⟩ := alc_new wdhh24 #[.int .i64 0, .bool false, .int .i64 0, .slice none 0 0, .int .i64 0] 34
          have LBH : Hid (w15.heap.size ≤ bh) := le_at hB LW.out.size
          replace LW : Hid (Below w15.heap.size w15 wr1) := LW.out.trans (hb.mono LW.out.size)
          clear hb
          rw [← hX.out]
          try dsimp only
          refine hK.out _ _ (KK.out _ LW.out) (fun hHeld => ?_)
          clear hK K
          rw [← hB.out]
          clear hX hB
          refine wpAnyH_ready (rs := [1, 10]) (by kernel_rfl) (by simp) ?_
          refine AllReadyH.cons rfl (fun K hK => ?_) (AllReadyH.cons rfl (fun K hK => ?_) AllReadyH.nil)
          go_simp
          refine (toHouse_any id up room _ rs f wr1 (HV.out _ (B15.out.trans (LW.out.mono B15.out.size))) hl).mono ?_
          rintro e wr2 ⟨aH, cH, rfl, hm, hb⟩
          have VH := hide_it hm.recs
          have FMH := hide_it (form_made hm)
          clear hm
          replace YH := hide_it (YH.out.after hb)
          replace LW : Hid (Below w15.heap.size w15 wr2) := LW.out.trans (hb.mono LW.out.size)
          clear hb
          try dsimp only
          refine hK.out _ _ (KK.out _ LW.out) (fun hHeld => ?_)
          clear hK K
          refine wpAnyH_ready (rs := [3, 10]) (by kernel_rfl) (by simp) ?_
          refine AllReadyH.cons rfl (fun K hK => ?_) (AllReadyH.cons rfl (fun K hK => ?_) AllReadyH.nil)
          go_simp
          refine (toWord_any k h t m wr2).mono ?_
          rintro e wr3 ⟨rfl, hb⟩
          replace YH := hide_it (YH.out.after hb)
          replace VH := hide_it (VH.out.later hb (Nat.le_refl _))
          replace LW : Hid (Below w15.heap.size w15 wr3) := LW.out.trans (hb.mono LW.out.size)
          clear hb
          try dsimp only
          refine hK.out _ _ (KK.out _ LW.out) (fun hHeld => ?_)
          clear hK K
          refine wpAnyH_ready (rs := [4, 10]) (by kernel_rfl) (by simp) ?_
          refine AllReadyH.cons rfl (fun K hK => ?_) (AllReadyH.cons rfl (fun K hK => ?_) AllReadyH.nil)
          go_simp
          refine (HIM.out _ wr3 VH.out FMH.out (HA.out _ (B15.out.trans (LW.out.mono B15.out.size)))).mono ?_
          rintro e wr4 ⟨aC, cC, rfl, hm, hb⟩
          obtain ⟨lo, hi, pC, P, O, Z, hlo, hhi⟩ := made_split hm
          have LL : Hid (w15.heap.size ≤ lo) := le_at hlo LW.out.size
          have AH : Hid (bh < lo ∨ hi ≤ bh) := Or.inl (lt_at hlo YH.out.lt)
          clear hm hlo hhi VH
          replace YH := hide_it (YH.out.after hb)
          replace LW : Hid (Below w15.heap.size w15 wr4) := LW.out.trans (hb.mono LW.out.size)
          clear hb
          try dsimp only
          refine hK.out _ _ (KK.out _ LW.out) (fun hHeld => ?_)
          clear hK K
          refine takeD (i := 5) (v := ?_) (some 96) rfl rfl (by kernel_rfl) (by kernel_rfl) (by kernel_rfl) (fun _ _ _ h => h) (by rfl) hHeld ?_ ?_
          rotate_left
          · intro W hSw
            try dsimp only at hSw
            go_simp
            try with_reducible rfl
          try simp only [Act.put]
          try simp only [List.setIfInBounds_toArray]
          try simp only [List.set_cons_succ]
          try simp only [List.set_cons_zero]
          refine takeD (i := 6) (v := ?_) (some 102) rfl rfl (by kernel_rfl) (by kernel_rfl) (by kernel_rfl) (fun _ _ _ h => h) (by rfl) hHeld ?_ ?_
          rotate_left
          · intro W hSw
            try dsimp only at hSw
            go_simp
            try with_reducible rfl
          try simp only [Act.put]
          try simp only [List.setIfInBounds_toArray]
          try simp only [List.set_cons_succ]
          try simp only [List.set_cons_zero]
          refine takeD (i := 7) (v := ?_) (some 103) rfl rfl (by kernel_rfl) (by kernel_rfl) (by kernel_rfl) (fun _ _ _ h => h) (by rfl) hHeld ?_ ?_
          rotate_left
          · intro W hSw
            try dsimp only at hSw
            go_simp
            try with_reducible rfl
          try simp only [Act.put]
          try simp only [List.setIfInBounds_toArray]
          try simp only [List.set_cons_succ]
          try simp only [List.set_cons_zero]
          refine takeD (i := 8) (v := ?_) (some 104) rfl rfl (by kernel_rfl) (by kernel_rfl) (by kernel_rfl) (fun _ _ _ h => h) (by rfl) hHeld ?_ ?_
          rotate_left
          · intro W hSw
            try dsimp only at hSw
            go_simp
            try with_reducible rfl
          try simp only [Act.put]
          try simp only [List.setIfInBounds_toArray]
          try simp only [List.set_cons_succ]
          try simp only [List.set_cons_zero]
          refine wpAnyH_ready (rs := [10]) (by kernel_rfl) (by simp) ?_
          refine AllReadyH.cons rfl (fun K hK => ?_) AllReadyH.nil
          go_simp
          obtain ⟨wr5, bw, hX, hB, hb, YW⟩ := alc_new wr4 #[.int .i64 0, .int .i64 0, .int .i64 0, .int .i64 0] 35
          have LBW : Hid (w15.heap.size ≤ bw) := le_at hB LW.out.size
          have AW : Hid (bw < lo ∨ hi ≤ bw) := Or.inr (le_at hB Z.out)
          replace YH := hide_it (YH.out.after hb)
          replace O := hide_it (O.out.below hb Z.out)
          replace Z : Hid (hi ≤ wr5.heap.size) := Nat.le_trans Z.out hb.size
          replace LW : Hid (Below w15.heap.size w15 wr5) := LW.out.trans (hb.mono LW.out.size)
          clear hb
          rw [← hX.out]
          try dsimp only
          refine hK.out _ _ (KK.out _ LW.out) (fun hHeld => ?_)
          clear hK K
          rw [← hB.out]
          clear hX hB
          rotate_left
          go_simp
          obtain ⟨wr4, bw, hX, hB, hb, YW⟩ := alc_new wr3 #[.int .i64 0, .int .i64 0, .int .i64 0, .int .i64 0] 35
          have LBW : Hid (w15.heap.size ≤ bw) := le_at hB LW.out.size
          replace YH := hide_it (YH.out.after hb)
          replace VH := hide_it (VH.out.later hb (Nat.le_refl _))
          replace LW : Hid (Below w15.heap.size w15 wr4) := LW.out.trans (hb.mono LW.out.size)
          clear hb
          rw [← hX.out]
          try dsimp only
          refine hK.out _ _ (KK.out _ LW.out) (fun hHeld => ?_)
          clear hK K
          rw [← hB.out]
          clear hX hB
          refine wpAnyH_ready (rs := [4]) (by kernel_rfl) (by simp) ?_
          refine AllReadyH.cons rfl (fun K hK => ?_) AllReadyH.nil
          go_simp
          refine (HIM.out _ wr4 VH.out FMH.out (HA.out _ (B15.out.trans (LW.out.mono B15.out.size)))).mono ?_
          rintro e wr5 ⟨aC, cC, rfl, hm, hb⟩
          obtain ⟨lo, hi, pC, P, O, Z, hlo, hhi⟩ := made_split hm
          have LL : Hid (w15.heap.size ≤ lo) := le_at hlo LW.out.size
          have AH : Hid (bh < lo ∨ hi ≤ bh) := Or.inl (lt_at hlo YH.out.lt)
          have AW : Hid (bw < lo ∨ hi ≤ bw) := Or.inl (lt_at hlo YW.out.lt)
          clear hm hlo hhi VH
          replace YH := hide_it (YH.out.after hb)
          replace YW := hide_it (YW.out.after hb)
          replace LW : Hid (Below w15.heap.size w15 wr5) := LW.out.trans (hb.mono LW.out.size)
          clear hb
          try dsimp only
          refine hK.out _ _ (KK.out _ LW.out) (fun hHeld => ?_)
          clear hK K
          refine takeD (i := 5) (v := ?_) (some 96) rfl rfl (by kernel_rfl) (by kernel_rfl) (by kernel_rfl) (fun _ _ _ h => h) (by rfl) hHeld ?_ ?_
          rotate_left
          · intro W hSw
            try dsimp only at hSw
            go_simp
            try with_reducible rfl
          try simp only [Act.put]
          try simp only [List.setIfInBounds_toArray]
          try simp only [List.set_cons_succ]
          try simp only [List.set_cons_zero]
          refine takeD (i := 6) (v := ?_) (some 102) rfl rfl (by kernel_rfl) (by kernel_rfl) (by kernel_rfl) (fun _ _ _ h => h) (by rfl) hHeld ?_ ?_
          rotate_left
          · intro W hSw
            try dsimp only at hSw
            go_simp
            try with_reducible rfl
          try simp only [Act.put]
          try simp only [List.setIfInBounds_toArray]
          try simp only [List.set_cons_succ]
          try simp only [List.set_cons_zero]
          refine takeD (i := 7) (v := ?_) (some 103) rfl rfl (by kernel_rfl) (by kernel_rfl) (by kernel_rfl) (fun _ _ _ h => h) (by rfl) hHeld ?_ ?_
          rotate_left
          · intro W hSw
            try dsimp only at hSw
            go_simp
            try with_reducible rfl
          try simp only [Act.put]
          try simp only [List.setIfInBounds_toArray]
          try simp only [List.set_cons_succ]
          try simp only [List.set_cons_zero]
          refine takeD (i := 8) (v := ?_) (some 104) rfl rfl (by kernel_rfl) (by kernel_rfl) (by kernel_rfl) (fun _ _ _ h => h) (by rfl) hHeld ?_ ?_
          rotate_left
          · intro W hSw
            try dsimp only at hSw
            go_simp
            try with_reducible rfl
          try simp only [Act.put]
          try simp only [List.setIfInBounds_toArray]
          try simp only [List.set_cons_succ]
          try simp only [List.set_cons_zero]
          rotate_left
          go_simp
          obtain ⟨wr3, bw, hX, hB, hb, YW⟩ := alc_new wr2 #[.int .i64 0, .int .i64 0, .int .i64 0, .int .i64 0] 35
          have LBW : Hid (w15.heap.size ≤ bw) := le_at hB LW.out.size
          replace YH := hide_it (YH.out.after hb)
          replace VH := hide_it (VH.out.later hb (Nat.le_refl _))
          replace LW : Hid (Below w15.heap.size w15 wr3) := LW.out.trans (hb.mono LW.out.size)
          clear hb
          rw [← hX.out]
          try dsimp only
          refine hK.out _ _ (KK.out _ LW.out) (fun hHeld => ?_)
          clear hK K
          rw [← hB.out]
          clear hX hB
          refine wpAnyH_ready (rs := [3]) (by kernel_rfl) (by simp) ?_
          refine AllReadyH.cons rfl (fun K hK => ?_) AllReadyH.nil
          go_simp
          refine (toWord_any k h t m wr3).mono ?_
          rintro e wr4 ⟨rfl, hb⟩
          replace YH := hide_it (YH.out.after hb)
          replace YW := hide_it (YW.out.after hb)
          replace VH := hide_it (VH.out.later hb (Nat.le_refl _))
          replace LW : Hid (Below w15.heap.size w15 wr4) := LW.out.trans (hb.mono LW.out.size)
          clear hb
          try dsimp only
          refine hK.out _ _ (KK.out _ LW.out) (fun hHeld => ?_)
          clear hK K
          refine wpAnyH_ready (rs := [4]) (by kernel_rfl) (by simp) ?_
          refine AllReadyH.cons rfl (fun K hK => ?_) AllReadyH.nil
          go_simp
          refine (HIM.out _ wr4 VH.out FMH.out (HA.out _ (B15.out.trans (LW.out.mono B15.out.size)))).mono ?_
          rintro e wr5 ⟨aC, cC, rfl, hm, hb⟩
          obtain ⟨lo, hi, pC, P, O, Z, hlo, hhi⟩ := made_split hm
          have LL : Hid (w15.heap.size ≤ lo) := le_at hlo LW.out.size
          have AH : Hid (bh < lo ∨ hi ≤ bh) := Or.inl (lt_at hlo YH.out.lt)
          have AW : Hid (bw < lo ∨ hi ≤ bw) := Or.inl (lt_at hlo YW.out.lt)
          clear hm hlo hhi VH
          replace YH := hide_it (YH.out.after hb)
          replace YW := hide_it (YW.out.after hb)
          replace LW : Hid (Below w15.heap.size w15 wr5) := LW.out.trans (hb.mono LW.out.size)
          clear hb
          try dsimp only
          refine hK.out _ _ (KK.out _ LW.out) (fun hHeld => ?_)
          clear hK K
          refine takeD (i := 5) (v := ?_) (some 96) rfl rfl (by kernel_rfl) (by kernel_rfl) (by kernel_rfl) (fun _ _ _ h => h) (by rfl) hHeld ?_ ?_
          rotate_left
          · intro W hSw
            try dsimp only at hSw
            go_simp
            try with_reducible rfl
          try simp only [Act.put]
          try simp only [List.setIfInBounds_toArray]
          try simp only [List.set_cons_succ]
          try simp only [List.set_cons_zero]
          refine takeD (i := 6) (v := ?_) (some 102) rfl rfl (by kernel_rfl) (by kernel_rfl) (by kernel_rfl) (fun _ _ _ h => h) (by rfl) hHeld ?_ ?_
          rotate_left
          · intro W hSw
            try dsimp only at hSw
            go_simp
            try with_reducible rfl
          try simp only [Act.put]
          try simp only [List.setIfInBounds_toArray]
          try simp only [List.set_cons_succ]
          try simp only [List.set_cons_zero]
          refine takeD (i := 7) (v := ?_) (some 103) rfl rfl (by kernel_rfl) (by kernel_rfl) (by kernel_rfl) (fun _ _ _ h => h) (by rfl) hHeld ?_ ?_
          rotate_left
          · intro W hSw
            try dsimp only at hSw
            go_simp
            try with_reducible rfl
          try simp only [Act.put]
          try simp only [List.setIfInBounds_toArray]
          try simp only [List.set_cons_succ]
          try simp only [List.set_cons_zero]
          refine takeD (i := 8) (v := ?_) (some 104) rfl rfl (by kernel_rfl) (by kernel_rfl) (by kernel_rfl) (fun _ _ _ h => h) (by rfl) hHeld ?_ ?_
          rotate_left
          · intro W hSw
            try dsimp only at hSw
            go_simp
            try with_reducible rfl
          try simp only [Act.put]
          try simp only [List.setIfInBounds_toArray]
          try simp only [List.set_cons_succ]
          try simp only [List.set_cons_zero]
          rotate_left
          go_simp
          obtain ⟨wr2, bw, hX, hB, hb, YW⟩ := alc_new wr1 #[.int .i64 0, .int .i64 0, .int .i64 0, .int .i64 0] 35
          have LBW : Hid (w15.heap.size ≤ bw) := le_at hB LW.out.size
          replace YH := hide_it (YH.out.after hb)
          replace LW : Hid (Below w15.heap.size w15 wr2) := LW.out.trans (hb.mono LW.out.size)
          clear hb
          rw [← hX.out]
          try dsimp only
          refine hK.out _ _ (KK.out _ LW.out) (fun hHeld => ?_)
          clear hK K
          rw [← hB.out]
          clear hX hB
          refine wpAnyH_ready (rs := [1]) (by kernel_rfl) (by simp) ?_
          refine AllReadyH.cons rfl (fun K hK => ?_) AllReadyH.nil
          go_simp
          refine (toHouse_any id up room _ rs f wr2 (HV.out _ (B15.out.trans (LW.out.mono B15.out.size))) hl).mono ?_
          rintro e wr3 ⟨aH, cH, rfl, hm, hb⟩
          have VH := hide_it hm.recs
          have FMH := hide_it (form_made hm)
          clear hm
          replace YH := hide_it (YH.out.after hb)
          replace YW := hide_it (YW.out.after hb)
          replace LW : Hid (Below w15.heap.size w15 wr3) := LW.out.trans (hb.mono LW.out.size)
          clear hb
          try dsimp only
          refine hK.out _ _ (KK.out _ LW.out) (fun hHeld => ?_)
          clear hK K
          refine wpAnyH_ready (rs := [3]) (by kernel_rfl) (by simp) ?_
          refine AllReadyH.cons rfl (fun K hK => ?_) AllReadyH.nil
          go_simp
          refine (toWord_any k h t m wr3).mono ?_
          rintro e wr4 ⟨rfl, hb⟩
          replace YH := hide_it (YH.out.after hb)
          replace YW := hide_it (YW.out.after hb)
          replace VH := hide_it (VH.out.later hb (Nat.le_refl _))
          replace LW : Hid (Below w15.heap.size w15 wr4) := LW.out.trans (hb.mono LW.out.size)
          clear hb
          try dsimp only
          refine hK.out _ _ (KK.out _ LW.out) (fun hHeld => ?_)
          clear hK K
          refine wpAnyH_ready (rs := [4]) (by kernel_rfl) (by simp) ?_
          refine AllReadyH.cons rfl (fun K hK => ?_) AllReadyH.nil
          go_simp
          refine (HIM.out _ wr4 VH.out FMH.out (HA.out _ (B15.out.trans (LW.out.mono B15.out.size)))).mono ?_
          rintro e wr5 ⟨aC, cC, rfl, hm, hb⟩
          obtain ⟨lo, hi, pC, P, O, Z, hlo, hhi⟩ := made_split hm
          have LL : Hid (w15.heap.size ≤ lo) := le_at hlo LW.out.size
          have AH : Hid (bh < lo ∨ hi ≤ bh) := Or.inl (lt_at hlo YH.out.lt)
          have AW : Hid (bw < lo ∨ hi ≤ bw) := Or.inl (lt_at hlo YW.out.lt)
          clear hm hlo hhi VH
          replace YH := hide_it (YH.out.after hb)
          replace YW := hide_it (YW.out.after hb)
          replace LW : Hid (Below w15.heap.size w15 wr5) := LW.out.trans (hb.mono LW.out.size)
          clear hb
          try dsimp only
          refine hK.out _ _ (KK.out _ LW.out) (fun hHeld => ?_)
          clear hK K
          refine takeD (i := 5) (v := ?_) (some 96) rfl rfl (by kernel_rfl) (by kernel_rfl) (by kernel_rfl) (fun _ _ _ h => h) (by rfl) hHeld ?_ ?_
          rotate_left
          · intro W hSw
            try dsimp only at hSw
            go_simp
            try with_reducible rfl
          try simp only [Act.put]
          try simp only [List.setIfInBounds_toArray]
          try simp only [List.set_cons_succ]
          try simp only [List.set_cons_zero]
          refine takeD (i := 6) (v := ?_) (some 102) rfl rfl (by kernel_rfl) (by kernel_rfl) (by kernel_rfl) (fun _ _ _ h => h) (by rfl) hHeld ?_ ?_
          rotate_left
          · intro W hSw
            try dsimp only at hSw
            go_simp
            try with_reducible rfl
          try simp only [Act.put]
          try simp only [List.setIfInBounds_toArray]
          try simp only [List.set_cons_succ]
          try simp only [List.set_cons_zero]
          refine takeD (i := 7) (v := ?_) (some 103) rfl rfl (by kernel_rfl) (by kernel_rfl) (by kernel_rfl) (fun _ _ _ h => h) (by rfl) hHeld ?_ ?_
          rotate_left
          · intro W hSw
            try dsimp only at hSw
            go_simp
            try with_reducible rfl
          try simp only [Act.put]
          try simp only [List.setIfInBounds_toArray]
          try simp only [List.set_cons_succ]
          try simp only [List.set_cons_zero]
          refine takeD (i := 8) (v := ?_) (some 104) rfl rfl (by kernel_rfl) (by kernel_rfl) (by kernel_rfl) (fun _ _ _ h => h) (by rfl) hHeld ?_ ?_
          rotate_left
          · intro W hSw
            try dsimp only at hSw
            go_simp
            try with_reducible rfl
          try simp only [Act.put]
          try simp only [List.setIfInBounds_toArray]
          try simp only [List.set_cons_succ]
          try simp only [List.set_cons_zero]
          rotate_left
          go_simp
          obtain ⟨wr1, bw, hX, hB, hb, YW⟩ := alc_new wdhh24 #[.int .i64 0, .int .i64 0, .int .i64 0, .int .i64 0] 35
          have LBW : Hid (w15.heap.size ≤ bw) := le_at hB LW.out.size
          replace LW : Hid (Below w15.heap.size w15 wr1) := LW.out.trans (hb.mono LW.out.size)
          clear hb
          rw [← hX.out]
          try dsimp only
          refine hK.out _ _ (KK.out _ LW.out) (fun hHeld => ?_)
          clear hK K
          rw [← hB.out]
          clear hX hB
          refine wpAnyH_ready (rs := [1, 9]) (by kernel_rfl) (by simp) ?_
          refine AllReadyH.cons rfl (fun K hK => ?_) (AllReadyH.cons rfl (fun K hK => ?_) AllReadyH.nil)
          go_simp
          refine (toHouse_any id up room _ rs f wr1 (HV.out _ (B15.out.trans (LW.out.mono B15.out.size))) hl).mono ?_
          rintro e wr2 ⟨aH, cH, rfl, hm, hb⟩
          have VH := hide_it hm.recs
          have FMH := hide_it (form_made hm)
          clear hm
          replace YW := hide_it (YW.out.after hb)
          replace LW : Hid (Below w15.heap.size w15 wr2) := LW.out.trans (hb.mono LW.out.size)
          clear hb
          try dsimp only
          refine hK.out _ _ (KK.out _ LW.out) (fun hHeld => ?_)
          clear hK K
          refine wpAnyH_ready (rs := [3, 9]) (by kernel_rfl) (by simp) ?_
          refine AllReadyH.cons rfl (fun K hK => ?_) (AllReadyH.cons rfl (fun K hK => ?_) AllReadyH.nil)
          go_simp
          refine (toWord_any k h t m wr2).mono ?_
          rintro e wr3 ⟨rfl, hb⟩
          replace YW := hide_it (YW.out.after hb)
          replace VH := hide_it (VH.out.later hb (Nat.le_refl _))
          replace LW : Hid (Below w15.heap.size w15 wr3) := LW.out.trans (hb.mono LW.out.size)
          clear hb
          try dsimp only
          refine hK.out _ _ (KK.out _ LW.out) (fun hHeld => ?_)
          clear hK K
          refine wpAnyH_ready (rs := [4, 9]) (by kernel_rfl) (by simp) ?_
          refine AllReadyH.cons rfl (fun K hK => ?_) (AllReadyH.cons rfl (fun K hK => ?_) AllReadyH.nil)
          go_simp
          refine (HIM.out _ wr3 VH.out FMH.out (HA.out _ (B15.out.trans (LW.out.mono B15.out.size)))).mono ?_
          rintro e wr4 ⟨aC, cC, rfl, hm, hb⟩
          obtain ⟨lo, hi, pC, P, O, Z, hlo, hhi⟩ := made_split hm
          have LL : Hid (w15.heap.size ≤ lo) := le_at hlo LW.out.size
          have AW : Hid (bw < lo ∨ hi ≤ bw) := Or.inl (lt_at hlo YW.out.lt)
          clear hm hlo hhi VH
          replace YW := hide_it (YW.out.after hb)
          replace LW : Hid (Below w15.heap.size w15 wr4) := LW.out.trans (hb.mono LW.out.size)
          clear hb
          try dsimp only
          refine hK.out _ _ (KK.out _ LW.out) (fun hHeld => ?_)
          clear hK K
          refine takeD (i := 5) (v := ?_) (some 96) rfl rfl (by kernel_rfl) (by kernel_rfl) (by kernel_rfl) (fun _ _ _ h => h) (by rfl) hHeld ?_ ?_
          rotate_left
          · intro W hSw
            try dsimp only at hSw
            go_simp
            try with_reducible rfl
          try simp only [Act.put]
          try simp only [List.setIfInBounds_toArray]
          try simp only [List.set_cons_succ]
          try simp only [List.set_cons_zero]
          refine takeD (i := 6) (v := ?_) (some 102) rfl rfl (by kernel_rfl) (by kernel_rfl) (by kernel_rfl) (fun _ _ _ h => h) (by rfl) hHeld ?_ ?_
          rotate_left
          · intro W hSw
            try dsimp only at hSw
            go_simp
            try with_reducible rfl
          try simp only [Act.put]
          try simp only [List.setIfInBounds_toArray]
          try simp only [List.set_cons_succ]
          try simp only [List.set_cons_zero]
          refine takeD (i := 7) (v := ?_) (some 103) rfl rfl (by kernel_rfl) (by kernel_rfl) (by kernel_rfl) (fun _ _ _ h => h) (by rfl) hHeld ?_ ?_
          rotate_left
          · intro W hSw
            try dsimp only at hSw
            go_simp
            try with_reducible rfl
          try simp only [Act.put]
          try simp only [List.setIfInBounds_toArray]
          try simp only [List.set_cons_succ]
          try simp only [List.set_cons_zero]
          refine takeD (i := 8) (v := ?_) (some 104) rfl rfl (by kernel_rfl) (by kernel_rfl) (by kernel_rfl) (fun _ _ _ h => h) (by rfl) hHeld ?_ ?_
          rotate_left
          · intro W hSw
            try dsimp only at hSw
            go_simp
            try with_reducible rfl
          try simp only [Act.put]
          try simp only [List.setIfInBounds_toArray]
          try simp only [List.set_cons_succ]
          try simp only [List.set_cons_zero]
          refine wpAnyH_ready (rs := [9]) (by kernel_rfl) (by simp) ?_
          refine AllReadyH.cons rfl (fun K hK => ?_) AllReadyH.nil
          go_simp
          obtain ⟨wr5, bh, hX, hB, hb, YH⟩ := alc_new wr4 #[.int .i64 0, .bool false, .int .i64 0, .slice none 0 0, .int .i64 0] 34
          have LBH : Hid (w15.heap.size ≤ bh) := le_at hB LW.out.size
          have AH : Hid (bh < lo ∨ hi ≤ bh) := Or.inr (le_at hB Z.out)
          replace YW := hide_it (YW.out.after hb)
          replace O := hide_it (O.out.below hb Z.out)
          replace Z : Hid (hi ≤ wr5.heap.size) := Nat.le_trans Z.out hb.size
          replace LW : Hid (Below w15.heap.size w15 wr5) := LW.out.trans (hb.mono LW.out.size)
          clear hb
          rw [← hX.out]
          try dsimp only
          refine hK.out _ _ (KK.out _ LW.out) (fun hHeld => ?_)
          clear hK K
          rw [← hB.out]
          clear hX hB
          rotate_left
          go_simp
          obtain ⟨wr4, bh, hX, hB, hb, YH⟩ := alc_new wr3 #[.int .i64 0, .bool false, .int .i64 0, .slice none 0 0, .int .i64 0] 34
          have LBH : Hid (w15.heap.size ≤ bh) := le_at hB LW.out.size
          replace YW := hide_it (YW.out.after hb)
          replace VH := hide_it (VH.out.later hb (Nat.le_refl _))
          replace LW : Hid (Below w15.heap.size w15 wr4) := LW.out.trans (hb.mono LW.out.size)
          clear hb
          rw [← hX.out]
          try dsimp only
          refine hK.out _ _ (KK.out _ LW.out) (fun hHeld => ?_)
          clear hK K
          rw [← hB.out]
          clear hX hB
          refine wpAnyH_ready (rs := [4]) (by kernel_rfl) (by simp) ?_
          refine AllReadyH.cons rfl (fun K hK => ?_) AllReadyH.nil
          go_simp
          refine (HIM.out _ wr4 VH.out FMH.out (HA.out _ (B15.out.trans (LW.out.mono B15.out.size)))).mono ?_
          rintro e wr5 ⟨aC, cC, rfl, hm, hb⟩
          obtain ⟨lo, hi, pC, P, O, Z, hlo, hhi⟩ := made_split hm
          have LL : Hid (w15.heap.size ≤ lo) := le_at hlo LW.out.size
          have AH : Hid (bh < lo ∨ hi ≤ bh) := Or.inl (lt_at hlo YH.out.lt)
          have AW : Hid (bw < lo ∨ hi ≤ bw) := Or.inl (lt_at hlo YW.out.lt)
          clear hm hlo hhi VH
          replace YH := hide_it (YH.out.after hb)
          replace YW := hide_it (YW.out.after hb)
          replace LW : Hid (Below w15.heap.size w15 wr5) := LW.out.trans (hb.mono LW.out.size)
          clear hb
          try dsimp only
          refine hK.out _ _ (KK.out _ LW.out) (fun hHeld => ?_)
          clear hK K
          refine takeD (i := 5) (v := ?_) (some 96) rfl rfl (by kernel_rfl) (by kernel_rfl) (by kernel_rfl) (fun _ _ _ h => h) (by rfl) hHeld ?_ ?_
          rotate_left
          · intro W hSw
            try dsimp only at hSw
            go_simp
            try with_reducible rfl
          try simp only [Act.put]
          try simp only [List.setIfInBounds_toArray]
          try simp only [List.set_cons_succ]
          try simp only [List.set_cons_zero]
          refine takeD (i := 6) (v := ?_) (some 102) rfl rfl (by kernel_rfl) (by kernel_rfl) (by kernel_rfl) (fun _ _ _ h => h) (by rfl) hHeld ?_ ?_
          rotate_left
          · intro W hSw
            try dsimp only at hSw
            go_simp
            try with_reducible rfl
          try simp only [Act.put]
          try simp only [List.setIfInBounds_toArray]
          try simp only [List.set_cons_succ]
          try simp only [List.set_cons_zero]
          refine takeD (i := 7) (v := ?_) (some 103) rfl rfl (by kernel_rfl) (by kernel_rfl) (by kernel_rfl) (fun _ _ _ h => h) (by rfl) hHeld ?_ ?_
          rotate_left
          · intro W hSw
            try dsimp only at hSw
            go_simp
            try with_reducible rfl
          try simp only [Act.put]
          try simp only [List.setIfInBounds_toArray]
          try simp only [List.set_cons_succ]
          try simp only [List.set_cons_zero]
          refine takeD (i := 8) (v := ?_) (some 104) rfl rfl (by kernel_rfl) (by kernel_rfl) (by kernel_rfl) (fun _ _ _ h => h) (by rfl) hHeld ?_ ?_
          rotate_left
          · intro W hSw
            try dsimp only at hSw
            go_simp
            try with_reducible rfl
          try simp only [Act.put]
          try simp only [List.setIfInBounds_toArray]
          try simp only [List.set_cons_succ]
          try simp only [List.set_cons_zero]
          rotate_left
          go_simp
          obtain ⟨wr3, bh, hX, hB, hb, YH⟩ := alc_new wr2 #[.int .i64 0, .bool false, .int .i64 0, .slice none 0 0, .int .i64 0] 34
          have LBH : Hid (w15.heap.size ≤ bh) := le_at hB LW.out.size
          replace YW := hide_it (YW.out.after hb)
          replace VH := hide_it (VH.out.later hb (Nat.le_refl _))
          replace LW : Hid (Below w15.heap.size w15 wr3) := LW.out.trans (hb.mono LW.out.size)
          clear hb
          rw [← hX.out]
          try dsimp only
          refine hK.out _ _ (KK.out _ LW.out) (fun hHeld => ?_)
          clear hK K
          rw [← hB.out]
          clear hX hB
          refine wpAnyH_ready (rs := [3]) (by kernel_rfl) (by simp) ?_
          refine AllReadyH.cons rfl (fun K hK => ?_) AllReadyH.nil
          go_simp
          refine (toWord_any k h t m wr3).mono ?_
          rintro e wr4 ⟨rfl, hb⟩
          replace YH := hide_it (YH.out.after hb)
          replace YW := hide_it (YW.out.after hb)
          replace VH := hide_it (VH.out.later hb (Nat.le_refl _))
          replace LW : Hid (Below w15.heap.size w15 wr4) := LW.out.trans (hb.mono LW.out.size)
          clear hb
          try dsimp only
          refine hK.out _ _ (KK.out _ LW.out) (fun hHeld => ?_)
          clear hK K
          refine wpAnyH_ready (rs := [4]) (by kernel_rfl) (by simp) ?_
          refine AllReadyH.cons rfl (fun K hK => ?_) AllReadyH.nil
          go_simp
          refine (HIM.out _ wr4 VH.out FMH.out (HA.out _ (B15.out.trans (LW.out.mono B15.out.size)))).mono ?_
          rintro e wr5 ⟨aC, cC, rfl, hm, hb⟩
          obtain ⟨lo, hi, pC, P, O, Z, hlo, hhi⟩ := made_split hm
          have LL : Hid (w15.heap.size ≤ lo) := le_at hlo LW.out.size
          have AH : Hid (bh < lo ∨ hi ≤ bh) := Or.inl (lt_at hlo YH.out.lt)
          have AW : Hid (bw < lo ∨ hi ≤ bw) := Or.inl (lt_at hlo YW.out.lt)
          clear hm hlo hhi VH
          replace YH := hide_it (YH.out.after hb)
          replace YW := hide_it (YW.out.after hb)
          replace LW : Hid (Below w15.heap.size w15 wr5) := LW.out.trans (hb.mono LW.out.size)
          clear hb
          try dsimp only
          refine hK.out _ _ (KK.out _ LW.out) (fun hHeld => ?_)
          clear hK K
          refine takeD (i := 5) (v := ?_) (some 96) rfl rfl (by kernel_rfl) (by kernel_rfl) (by kernel_rfl) (fun _ _ _ h => h) (by rfl) hHeld ?_ ?_
          rotate_left
          · intro W hSw
            try dsimp only at hSw
            go_simp
            try with_reducible rfl
          try simp only [Act.put]
          try simp only [List.setIfInBounds_toArray]
          try simp only [List.set_cons_succ]
          try simp only [List.set_cons_zero]
          refine takeD (i := 6) (v := ?_) (some 102) rfl rfl (by kernel_rfl) (by kernel_rfl) (by kernel_rfl) (fun _ _ _ h => h) (by rfl) hHeld ?_ ?_
          rotate_left
          · intro W hSw
            try dsimp only at hSw
            go_simp
            try with_reducible rfl
          try simp only [Act.put]
          try simp only [List.setIfInBounds_toArray]
          try simp only [List.set_cons_succ]
          try simp only [List.set_cons_zero]
          refine takeD (i := 7) (v := ?_) (some 103) rfl rfl (by kernel_rfl) (by kernel_rfl) (by kernel_rfl) (fun _ _ _ h => h) (by rfl) hHeld ?_ ?_
          rotate_left
          · intro W hSw
            try dsimp only at hSw
            go_simp
            try with_reducible rfl
          try simp only [Act.put]
          try simp only [List.setIfInBounds_toArray]
          try simp only [List.set_cons_succ]
          try simp only [List.set_cons_zero]
          refine takeD (i := 8) (v := ?_) (some 104) rfl rfl (by kernel_rfl) (by kernel_rfl) (by kernel_rfl) (fun _ _ _ h => h) (by rfl) hHeld ?_ ?_
          rotate_left
          · intro W hSw
            try dsimp only at hSw
            go_simp
            try with_reducible rfl
          try simp only [Act.put]
          try simp only [List.setIfInBounds_toArray]
          try simp only [List.set_cons_succ]
          try simp only [List.set_cons_zero]
          rotate_left
          go_simp
          obtain ⟨wr2, bh, hX, hB, hb, YH⟩ := alc_new wr1 #[.int .i64 0, .bool false, .int .i64 0, .slice none 0 0, .int .i64 0] 34
          have LBH : Hid (w15.heap.size ≤ bh) := le_at hB LW.out.size
          replace YW := hide_it (YW.out.after hb)
          replace LW : Hid (Below w15.heap.size w15 wr2) := LW.out.trans (hb.mono LW.out.size)
          clear hb
          rw [← hX.out]
          try dsimp only
          refine hK.out _ _ (KK.out _ LW.out) (fun hHeld => ?_)
          clear hK K
          rw [← hB.out]
          clear hX hB
          refine wpAnyH_ready (rs := [1]) (by kernel_rfl) (by simp) ?_
          refine AllReadyH.cons rfl (fun K hK => ?_) AllReadyH.nil
          go_simp
          refine (toHouse_any id up room _ rs f wr2 (HV.out _ (B15.out.trans (LW.out.mono B15.out.size))) hl).mono ?_
          rintro e wr3 ⟨aH, cH, rfl, hm, hb⟩
          have VH := hide_it hm.recs
          have FMH := hide_it (form_made hm)
          clear hm
          replace YH := hide_it (YH.out.after hb)
          replace YW := hide_it (YW.out.after hb)
          replace LW : Hid (Below w15.heap.size w15 wr3) := LW.out.trans (hb.mono LW.out.size)
          clear hb
          try dsimp only
          refine hK.out _ _ (KK.out _ LW.out) (fun hHeld => ?_)
          clear hK K
          refine wpAnyH_ready (rs := [3]) (by kernel_rfl) (by simp) ?_
          refine AllReadyH.cons rfl (fun K hK => ?_) AllReadyH.nil
          go_simp
          refine (toWord_any k h t m wr3).mono ?_
          rintro e wr4 ⟨rfl, hb⟩
          replace YH := hide_it (YH.out.after hb)
          replace YW := hide_it (YW.out.after hb)
          replace VH := hide_it (VH.out.later hb (Nat.le_refl _))
          replace LW : Hid (Below w15.heap.size w15 wr4) := LW.out.trans (hb.mono LW.out.size)
          clear hb
          try dsimp only
          refine hK.out _ _ (KK.out _ LW.out) (fun hHeld => ?_)
          clear hK K
          refine wpAnyH_ready (rs := [4]) (by kernel_rfl) (by simp) ?_
          refine AllReadyH.cons rfl (fun K hK => ?_) AllReadyH.nil
          go_simp
          refine (HIM.out _ wr4 VH.out FMH.out (HA.out _ (B15.out.trans (LW.out.mono B15.out.size)))).mono ?_
          rintro e wr5 ⟨aC, cC, rfl, hm, hb⟩
          obtain ⟨lo, hi, pC, P, O, Z, hlo, hhi⟩ := made_split hm
          have LL : Hid (w15.heap.size ≤ lo) := le_at hlo LW.out.size
          have AH : Hid (bh < lo ∨ hi ≤ bh) := Or.inl (lt_at hlo YH.out.lt)
          have AW : Hid (bw < lo ∨ hi ≤ bw) := Or.inl (lt_at hlo YW.out.lt)
          clear hm hlo hhi VH
          replace YH := hide_it (YH.out.after hb)
          replace YW := hide_it (YW.out.after hb)
          replace LW : Hid (Below w15.heap.size w15 wr5) := LW.out.trans (hb.mono LW.out.size)
          clear hb
          try dsimp only
          refine hK.out _ _ (KK.out _ LW.out) (fun hHeld => ?_)
          clear hK K
          refine takeD (i := 5) (v := ?_) (some 96) rfl rfl (by kernel_rfl) (by kernel_rfl) (by kernel_rfl) (fun _ _ _ h => h) (by rfl) hHeld ?_ ?_
          rotate_left
          · intro W hSw
            try dsimp only at hSw
            go_simp
            try with_reducible rfl
          try simp only [Act.put]
          try simp only [List.setIfInBounds_toArray]
          try simp only [List.set_cons_succ]
          try simp only [List.set_cons_zero]
          refine takeD (i := 6) (v := ?_) (some 102) rfl rfl (by kernel_rfl) (by kernel_rfl) (by kernel_rfl) (fun _ _ _ h => h) (by rfl) hHeld ?_ ?_
          rotate_left
          · intro W hSw
            try dsimp only at hSw
            go_simp
            try with_reducible rfl
          try simp only [Act.put]
          try simp only [List.setIfInBounds_toArray]
          try simp only [List.set_cons_succ]
          try simp only [List.set_cons_zero]
          refine takeD (i := 7) (v := ?_) (some 103) rfl rfl (by kernel_rfl) (by kernel_rfl) (by kernel_rfl) (fun _ _ _ h => h) (by rfl) hHeld ?_ ?_
          rotate_left
          · intro W hSw
            try dsimp only at hSw
            go_simp
            try with_reducible rfl
          try simp only [Act.put]
          try simp only [List.setIfInBounds_toArray]
          try simp only [List.set_cons_succ]
          try simp only [List.set_cons_zero]
          refine takeD (i := 8) (v := ?_) (some 104) rfl rfl (by kernel_rfl) (by kernel_rfl) (by kernel_rfl) (fun _ _ _ h => h) (by rfl) hHeld ?_ ?_
          rotate_left
          · intro W hSw
            try dsimp only at hSw
            go_simp
            try with_reducible rfl
          try simp only [Act.put]
          try simp only [List.setIfInBounds_toArray]
          try simp only [List.set_cons_succ]
          try simp only [List.set_cons_zero]
          rotate_left
          all_goals
            have NE := ne_hw YH.out YW.out
            refine wpAnyH_ready (rs := [11]) (by kernel_rfl) (by simp) ?_
            refine AllReadyH.cons rfl (fun K hK => ?_) AllReadyH.nil
            go_simp
            obtain ⟨c0, c1, c2, c3, c4⟩ := YH.out.cells5
            have cf0 := YH.out.free 0
            have cf1 := YH.out.free 1
            have cf2 := YH.out.free 2
            have cf3 := YH.out.free 3
            have cf4 := YH.out.free 4
            go_simp
            obtain ⟨wr6, hX⟩ : ∃ W, Hid (W = (((((wr5.setCell ⟨bh, 0, none⟩ (.int .i64 ID)).setCell ⟨bh, 1, none⟩ (.bool UP)).setCell ⟨bh, 2, none⟩ (.int .i64 ROOM)).setCell ⟨bh, 3, none⟩ (.slice aC RS.length cC)).setCell ⟨bh, 4, none⟩ (.int .i64 F))) := ⟨_, rfl⟩
            replace Z : Hid (hi ≤ wr6.heap.size) := Nat.le_trans Z.out (Nat.le_of_eq (by rw [hX.out]; simp))
            have YH2 : Hid (Blk wr6 bh #[.int .i64 ID, .bool UP, .int .i64 ROOM, .slice aC RS.length cC, .int .i64 F] 34) := by show Blk _ _ _ _; rw [hX.out]; exact blk_h5 YH.out
            replace YW : Hid (Blk wr6 bw #[.int .i64 0, .int .i64 0, .int .i64 0, .int .i64 0] 35) := by show Blk _ _ _ _; rw [hX.out]; exact blk_h5o YW.out (fun e => NE e.symm)
            replace O : Hid (OwnRecs wr6 lo hi (.slice aC RS.length cC) pC) := by show OwnRecs _ _ _ _ _; rw [hX.out]; exact own_h5 O.out YH.out
            replace LW : Hid (Below w15.heap.size w15 wr6) := by show Below _ _ _; rw [hX.out]; exact bel_h5 LW.out LBH.out
            rw [← hX.out]
            clear hX c0 cf0 c1 cf1 c2 cf2 c3 cf3 c4 cf4
            try dsimp only
            refine hK.out _ _ (KK.out _ LW.out) (fun hHeld => ?_)
            clear hK K
            refine wpAnyH_ready (rs := [12]) (by kernel_rfl) (by simp) ?_
            refine AllReadyH.cons rfl (fun K hK => ?_) AllReadyH.nil
            go_simp
            obtain ⟨c0, c1, c2, c3⟩ := YW.out.cells4
            have cf0 := YW.out.free 0
            have cf1 := YW.out.free 1
            have cf2 := YW.out.free 2
            have cf3 := YW.out.free 3
            go_simp
            obtain ⟨wr7, hX⟩ : ∃ W, Hid (W = ((((wr6.setCell ⟨bw, 0, none⟩ (.int .i64 X1)).setCell ⟨bw, 1, none⟩ (.int .i64 X2)).setCell ⟨bw, 2, none⟩ (.int .i64 X3)).setCell ⟨bw, 3, none⟩ (.int .i64 0))) := ⟨_, rfl⟩
            replace Z : Hid (hi ≤ wr7.heap.size) := Nat.le_trans Z.out (Nat.le_of_eq (by rw [hX.out]; simp))
            have YW2 : Hid (Blk wr7 bw #[.int .i64 X1, .int .i64 X2, .int .i64 X3, .int .i64 0] 35) := by show Blk _ _ _ _; rw [hX.out]; exact blk_w4 YW.out
            replace YH2 : Hid (Blk wr7 bh #[.int .i64 ID, .bool UP, .int .i64 ROOM, .slice aC RS.length cC, .int .i64 F] 34) := by show Blk _ _ _ _; rw [hX.out]; exact blk_w4o YH2.out NE
            replace O : Hid (OwnRecs wr7 lo hi (.slice aC RS.length cC) pC) := by show OwnRecs _ _ _ _ _; rw [hX.out]; exact own_w4 O.out YW.out
            replace LW : Hid (Below w15.heap.size w15 wr7) := by show Below _ _ _; rw [hX.out]; exact bel_w4 LW.out LBW.out
            rw [← hX.out]
            clear hX c0 cf0 c1 cf1 c2 cf2 c3 cf3
            try dsimp only
            refine hK.out _ _ (KK.out _ LW.out) (fun hHeld => ?_)
            clear hK K
            refine takeD (i := 13) (v := ?_) (some 18) rfl rfl (by kernel_rfl) (by kernel_rfl) (by kernel_rfl) (fun _ _ _ h => h) (by rfl) hHeld ?_ ?_
            rotate_left
            · intro W hSw
              try dsimp only at hSw
              go_simp
              try with_reducible rfl
            try simp only [Act.put]
            try simp only [List.setIfInBounds_toArray]
            try simp only [List.set_cons_succ]
            try simp only [List.set_cons_zero]
            refine wpAnyH_done (by kernel_rfl) ?_ _
            go_wp2_with fail
            go_meet
            case rel => exact ⟨_, _, aC, cC, pC, _, _, rfl, rfl, rfl, P, hide_it ⟨LW.out, YH2.out, YW2.out, O.out, LBH.out, LBW.out, AH.out, AW.out, LL.out, Z.out⟩⟩
      case rest =>
        obtain ⟨bi, bj, a17, cap17, ps17, lo17, hi17, rfl, rfl, rfl, HP17, M17⟩ := hcut
        rename World => w18
        have E18 := hide_it (E15.out.trans (M17.out.be.mono E15.out.size))
        have N18 := hide_it (N15.out.trans (M17.out.be.mono N15.out.size))
        have V18 : Hid (Recs w18 (.slice a17 RS.length cap17) RS) := by
          have := M17.out.ow.recs; rw [HP17.out] at this; exact this
        have Y18 := hide_it (V4.out.later E18.out (Nat.le_refl _))
        have I18 := hide_it M17.out.ho
        have J18 := hide_it M17.out.wo
        have Z18 := hide_it (Z4.out.after E18.out)
        have Q18 := hide_it (Q4.out.after E18.out)
        clear M17 KK
        obtain ⟨g0, g1, g2, g3, g4⟩ := I18.out.cells5
        obtain ⟨z0, z1, z2, z3, z4⟩ := Z18.out.cells5
        go_wp2_with fail
        refine (eqHouse_any ID UP ROOM _ _ RS F w18 V18.out Y18.out hRl).mono ?_
        rintro e w18a ⟨rfl, hba⟩
        have Ea := hide_it hba
        clear hba g0 g1 g2 g3 g4 z0 z1 z2 z3 z4
        obtain ⟨u0, u1, u2, u3⟩ := (J18.out.after Ea.out).cells4
        obtain ⟨q0, q1, q2, q3⟩ := (Q18.out.after Ea.out).cells4
        go_wp2_with fail
        refine (eqWord_sameH X1 X2 X3 0 w18a).mono ?_
        rintro e w19 ⟨rfl, hb19⟩
        have L19 := hide_it (Ea.out.trans (hb19.mono Ea.out.size))
        clear hb19 u0 u1 u2 u3 q0 q1 q2 q3 Ea
        have E19 := hide_it (E18.out.trans (L19.out.mono E18.out.size))
        have N19 := hide_it (N18.out.trans (L19.out.mono N18.out.size))
        obtain ⟨g0, g1, g2, g3, g4⟩ := (G14.out.after N19.out).cells5
        have R19 := hide_it (R14.out.later N19.out (Nat.le_refl _))
        go_wp2_with fail
        refine (heldHouse_any ID UP ROOM _ RS F 1 w19 R19.out hRl (by omega) (by omega)).mono ?_
        rintro e w20 ⟨rfl, hb20⟩
        have B20 := hide_it (B4.out.trans ((E19.out.trans (hb20.mono E19.out.size)).mono hz4))
        clear hb20 g0 g1 g2 g3 g4
        go_wp2
        go_ret
        exact ⟨rfl, B20.out⟩

theorem lawHHear_any (id : Int) (up : Bool) (room : Int) (u : Value) (rs : List R) (f k h t m : Int) (a : Addr) (w : World) (hv : Recs w u rs) (ha : ErrAt w a) (hm : (rs.length : Int) ≤ 9223372036854775807) (hms : ∀ r ∈ rs, (r.2.2.length : Int) ≤ 9223372036854775807) :
    Calls Tryz.prog 3 #[houseV id up room u f, wordV k h t m] w fun e w' => e = .returned (.bool true) ∧ Below w.heap.size w w' := by
  by_cases hl : tot rs ≤ 1048576
  · exact lawHHear_small id up room u rs f k h t m a w hv ha hl
  · exact lawHHear_great id up room u rs f k h t m w hv hm hms (by omega)

end Go.Proofs.YthllcffmpeopcaaGreatDoor
