/- What the last text of this claim stands on, part 7: plain facts and contracts; the last text says what is proved. -/
import Derived.Test.YthllcffmpeopcaaGreatDoorHouseHearCardPart6
import Derived.Deep.RegionHeld

namespace Go.Proofs.YthllcffmpeopcaaGreatDoor
open Go.RowKit

set_option maxHeartbeats 1000000 in
theorem eqWord_sameH (k h t m : Int) (w : World) :
    Calls Tryz.prog 14 #[wordV k h t m, wordV k h t m] w fun e w' => e = .returned (.bool true) ∧ Below w.heap.size w w' := by
  go_enter Tryz.func14, Tryz.ntmps14
  go_wp2
  go_ret
  exact ⟨rfl, ((Below.refl _ _).alloc (Nat.le_refl _) _).alloc (by simp) _⟩

set_option maxHeartbeats 1000000 in
theorem lawHHear_great (id : Int) (up : Bool) (room : Int) (v : Value) (rs : List R) (f k h t m : Int) (w : World) (hv : Recs w v rs) (hl : (rs.length : Int) ≤ 9223372036854775807) (hls : ∀ r ∈ rs, (r.2.2.length : Int) ≤ 9223372036854775807) (hg : 1048576 < (tot rs : Int)) :
    Calls Tryz.prog 3 #[houseV id up room v f, wordV k h t m] w fun e w' => e = .returned (.bool true) ∧ Below w.heap.size w w' := by
  have HS : Hid (∀ o o', Calls Tryz.prog 8 #[houseV id up room v f, .int .i64 1048576] ((w.alloc o).alloc o') fun e w' => e = .returned (.int .i64 (-1)) ∧ Below w.heap.size w w') := fun o o' => by
    have := szHouse_any id up room v rs f 1048576 ((w.alloc o).alloc o') (hv.later (below2 w o o') (Nat.le_refl _)) hl hls (by omega) (by omega)
    rw [leftOf_neg (by omega)] at this
    exact this.mono fun e w' h => ⟨h.1, a2 h.2⟩
  obtain ⟨av, cv, rfl⟩ := hv.shape
  clear hv hl hls hg
  go_enter Tryz.func3, Tryz.ntmps3
  go_wp2_with (go_at_call 8; refine (HS.out _ _).mono ?_; rintro e w1 ⟨rfl, hb⟩)
  go_ret
  exact ⟨rfl, by assumption⟩

set_option maxRecDepth 100000 in
set_option maxHeartbeats 64000000 in
theorem lawHHear_small (id : Int) (up : Bool) (room : Int) (v : Value) (rs : List R) (f k h t m : Int) (a : Addr) (w : World) (hv : Recs w v rs) (ha : ErrAt w a) (hl : tot rs ≤ 1048576) :
    Calls Tryz.prog 3 #[houseV id up room v f, wordV k h t m] w fun e w' => e = .returned (.bool true) ∧ Below w.heap.size w w' := by
  have hrl := tot_len rs
  have HS : Hid (∀ o o', Calls Tryz.prog 8 #[houseV id up room v f, .int .i64 1048576] ((w.alloc o).alloc o') fun e w' => e = .returned (.int .i64 (1048576 - tot rs)) ∧ Below ((w.alloc o).alloc o').heap.size ((w.alloc o).alloc o') w') := fun o o' => by
    have := szHouse_any id up room v rs f 1048576 ((w.alloc o).alloc o') (hv.later (below2 w o o') (Nat.le_refl _)) (by omega) (fun r hr => by have := tot_mem rs r hr; omega) (by omega) (by omega)
    rw [leftOf_pos (by omega)] at this
    exact this
  have HV : Hid (∀ W, Below w.heap.size w W → Recs W v rs) := fun W h => hv.later h (Nat.le_refl _)
  have HA : Hid (∀ W, Below w.heap.size w W → ErrAt W a) := fun W h => ha.later h (Nat.le_refl _)
  obtain ⟨av, cv, hvs⟩ := hv.shape
  have H0 : Hid (Blk ((w.alloc (.cells #[.int .i64 id, .bool up, .int .i64 room, v, .int .i64 f] 26)).alloc (.cells #[.int .i64 k, .int .i64 h, .int .i64 t, .int .i64 m] 28)) w.heap.size #[.int .i64 id, .bool up, .int .i64 room, v, .int .i64 f] 26) := (Blk.new _ _ _).alloc _
  have K0 : Hid (Blk ((w.alloc (.cells #[.int .i64 id, .bool up, .int .i64 room, v, .int .i64 f] 26)).alloc (.cells #[.int .i64 k, .int .i64 h, .int .i64 t, .int .i64 m] 28)) (w.heap.size + 1) #[.int .i64 k, .int .i64 h, .int .i64 t, .int .i64 m] 28) := Blk.new2 _ _ _ _
  clear hv ha
  subst hvs
  obtain ⟨⟨⟨ID, UP, ROOM, RS, F⟩, ⟨X1, X2, X3⟩, YB⟩, hO⟩ : ∃ o : He, Hid (hearO id up room rs f k h t m = o) := ⟨_, rfl⟩
  have hRl : tot RS ≤ 1048576 := by have := hearO_tot id up room rs f k h t m hl; rw [hO.out] at this; exact this
  have HSP : Hid (∀ (x : Value) (W : World), Recs W x rs → Calls Tryz.prog 9 #[houseV id up room x f, wordV k h t m] W fun e w' => ∃ ao cap, e = .returned (.tuple #[houseV ID UP ROOM (.slice ao RS.length cap) F, wordV X1 X2 X3 0, .bool YB]) ∧ Made w' W.heap.size (.slice ao RS.length cap) RS ∧ Below W.heap.size W w') := fun x W h1 => by
    have := specHear_any id up room x rs f k h t m W h1 hl; rw [hO.out] at this; exact this
  have HIM : Hid (∀ (x : Value) (W : World), Recs W x rs → Form x rs.length → ErrAt W a → Calls Tryz.prog 12 #[houseV id up room x f, wordV k h t m] W fun e w' => ∃ ao cap, e = .returned (.tuple #[houseV ID UP ROOM (.slice ao RS.length cap) F, wordV X1 X2 X3 0, .bool YB]) ∧ Made w' W.heap.size (.slice ao RS.length cap) RS ∧ Below W.heap.size W w') := fun x W h1 hfm h2 => by
    have := implHear_any id up room x rs f k h t m a W h1 hfm hl h2; rw [hO.out] at this; exact this
  have hKb := kAt_bd RS 1 RS.length (Nat.le_refl _) hRl (by omega) (by omega)
  have hKx := kAt_bd rs 1 rs.length (Nat.le_refl _) hl (by omega) (by omega)
  go_enter Tryz.func3, Tryz.ntmps3
  go_wp2_with fail
  refine (HS.out _ _).mono ?_
  rintro e w1 ⟨rfl, hb1⟩
  have B1 := hide_it (a2 hb1)
  have T1 := hide_it (H0.out.after hb1)
  have K1 := hide_it (K0.out.after hb1)
  have hz1 : w.heap.size + 1 < w1.heap.size := K1.out.lt
  clear hb1
  obtain ⟨c0, c1, c2, c3, c4⟩ := T1.out.cells5
  obtain ⟨y0, y1, y2, y3⟩ := K1.out.cells4
  have KK : Hid (∀ W, Below w1.heap.size w1 W → (let w' := W; (w'.cell? ⟨w.heap.size, 0, none⟩ = some (.int .i64 id) ∧ w'.cell? ⟨w.heap.size, 1, none⟩ = some (.bool up) ∧ w'.cell? ⟨w.heap.size, 2, none⟩ = some (.int .i64 room) ∧ w'.cell? ⟨w.heap.size, 3, none⟩ = some (.slice av rs.length cv) ∧ w'.cell? ⟨w.heap.size, 4, none⟩ = some (.int .i64 f)) ∧ (w'.cell? ⟨w.heap.size + 1, 0, none⟩ = some (.int .i64 k) ∧ w'.cell? ⟨w.heap.size + 1, 1, none⟩ = some (.int .i64 h) ∧ w'.cell? ⟨w.heap.size + 1, 2, none⟩ = some (.int .i64 t) ∧ w'.cell? ⟨w.heap.size + 1, 3, none⟩ = some (.int .i64 m)))) := fun W hb => ⟨(T1.out.after hb).cells5, (K1.out.after hb).cells4⟩
  go_wp2_with fail
  go_cut [6, 7, 8] (fun p q b W => ∃ bh bw a5 c5 ps lo hi, p = .pointer (some ⟨bh, 0, none⟩) ∧ q = .pointer (some ⟨bw, 0, none⟩) ∧ b = .bool YB ∧ Hid (ps.map (·.1) = RS) ∧ Hid (MetE w1 W bh bw ID UP ROOM (.slice a5 RS.length c5) F X1 X2 X3 ps lo hi))
  case first =>
    obtain ⟨wdhh5, hwdhh5⟩ : ∃ W, Hid (W = w1.drew) := ⟨_, rfl⟩
    have Ldhh5 : Hid (Below w1.heap.size w1 wdhh5) := by show Below _ _ _; rw [hwdhh5.out]; exact (Below.refl _ _).drew
    refine wp_region_held_drew (S := fun w' => (w'.cell? ⟨w.heap.size, 0, none⟩ = some (.int .i64 id) ∧ w'.cell? ⟨w.heap.size, 1, none⟩ = some (.bool up) ∧ w'.cell? ⟨w.heap.size, 2, none⟩ = some (.int .i64 room) ∧ w'.cell? ⟨w.heap.size, 3, none⟩ = some (.slice av rs.length cv) ∧ w'.cell? ⟨w.heap.size, 4, none⟩ = some (.int .i64 f)) ∧ (w'.cell? ⟨w.heap.size + 1, 0, none⟩ = some (.int .i64 k) ∧ w'.cell? ⟨w.heap.size + 1, 1, none⟩ = some (.int .i64 h) ∧ w'.cell? ⟨w.heap.size + 1, 2, none⟩ = some (.int .i64 t) ∧ w'.cell? ⟨w.heap.size + 1, 3, none⟩ = some (.int .i64 m))) (by kernel_rfl) (KK.out _ (Below.refl _ _).drew) (fun hHeld => ?_)
    rw [← hwdhh5.out] at hHeld ⊢
    refine takeD (i := 0) (v := ?_) (some 25) rfl rfl (by kernel_rfl) (by kernel_rfl) (by kernel_rfl) (fun _ _ _ h => h) (by rfl) hHeld ?_ ?_
    rotate_left
    · intro W hSw
      try dsimp only at hSw
      go_simp
      try with_reducible rfl
    try simp only [Act.put]
    try simp only [List.setIfInBounds_toArray]
    try simp only [List.set_cons_succ]
    try simp only [List.set_cons_zero]
    refine takeD (i := 2) (v := ?_) (some 27) rfl rfl (by kernel_rfl) (by kernel_rfl) (by kernel_rfl) (fun _ _ _ h => h) (by rfl) hHeld ?_ ?_
    rotate_left
    · intro W hSw
      try dsimp only at hSw
      go_simp
      try with_reducible rfl
    try simp only [Act.put]
    try simp only [List.setIfInBounds_toArray]
    try simp only [List.set_cons_succ]
    try simp only [List.set_cons_zero]
    refine wpAnyH_ready (rs := [1, 9, 10]) (by kernel_rfl) (by simp) ?_
    refine AllReadyH.cons rfl (fun K hK => ?_) (AllReadyH.cons rfl (fun K hK => ?_) (AllReadyH.cons rfl (fun K hK => ?_) AllReadyH.nil))
    · go_simp
      refine (toHouse_any id up room _ rs f wdhh5 (HV.out _ (B1.out.trans (Ldhh5.out.mono B1.out.size))) hl).mono ?_
      rintro e wr1 ⟨a1, cp1, rfl, hm1, hb1⟩
      have VV1 := hide_it hm1.recs
      have FM1 := hide_it (form_made hm1)
      have L1 : Hid (Below w1.heap.size w1 wr1) := Ldhh5.out.trans (hb1.mono Ldhh5.out.size)
      clear hb1 hm1
      try dsimp only
      refine hK.out _ _ (KK.out _ L1.out) (fun hHeld => ?_)
      clear hK K
      refine wpAnyH_ready (rs := [3, 9, 10]) (by kernel_rfl) (by simp) ?_
      refine AllReadyH.cons rfl (fun K hK => ?_) (AllReadyH.cons rfl (fun K hK => ?_) (AllReadyH.cons rfl (fun K hK => ?_) AllReadyH.nil))
      · go_simp
        refine (toWord_any k h t m wr1).mono ?_
        rintro e wr2 ⟨rfl, hb2⟩
        have V2 := hide_it (VV1.out.later hb2 (Nat.le_refl _))
        have L2 : Hid (Below w1.heap.size w1 wr2) := L1.out.trans (hb2.mono L1.out.size)
        clear hb2
        try dsimp only
        refine hK.out _ _ (KK.out _ L2.out) (fun hHeld => ?_)
        clear hK K
        refine wpAnyH_ready (rs := [4, 9, 10]) (by kernel_rfl) (by simp) ?_
        refine AllReadyH.cons rfl (fun K hK => ?_) (AllReadyH.cons rfl (fun K hK => ?_) (AllReadyH.cons rfl (fun K hK => ?_) AllReadyH.nil))
        · go_simp
          refine (HSP.out _ wr2 V2.out).mono ?_
          rintro e wr3 ⟨a3, cp3, rfl, hm3, hb3⟩
          obtain ⟨ps3, hp3, ho3⟩ := hm3
          have P3 := hide_it hp3
          have OO3 := hide_it ho3
          have ZZ3 : Hid (wr3.heap.size ≤ wr3.heap.size) := Nat.le_refl _
          have LL3 : Hid (w1.heap.size ≤ wr2.heap.size) := L2.out.size
          have V3 := hide_it (V2.out.later hb3 (Nat.le_refl _))
          have L3 : Hid (Below w1.heap.size w1 wr3) := L2.out.trans (hb3.mono L2.out.size)
          clear hb3 hp3 ho3
          try dsimp only
          refine hK.out _ _ (KK.out _ L3.out) (fun hHeld => ?_)
          clear hK K
          refine takeD (i := 5) (v := ?_) (some 24) rfl rfl (by kernel_rfl) (by kernel_rfl) (by kernel_rfl) (fun _ _ _ h => h) (by rfl) hHeld ?_ ?_
          rotate_left
          · intro W hSw
            try dsimp only at hSw
            go_simp
            try with_reducible rfl
          try simp only [Act.put]
          try simp only [List.setIfInBounds_toArray]
          try simp only [List.set_cons_succ]
          try simp only [List.set_cons_zero]
          refine takeD (i := 6) (v := ?_) (some 30) rfl rfl (by kernel_rfl) (by kernel_rfl) (by kernel_rfl) (fun _ _ _ h => h) (by rfl) hHeld ?_ ?_
          rotate_left
          · intro W hSw
            try dsimp only at hSw
            go_simp
            try with_reducible rfl
          try simp only [Act.put]
          try simp only [List.setIfInBounds_toArray]
          try simp only [List.set_cons_succ]
          try simp only [List.set_cons_zero]
          refine takeD (i := 7) (v := ?_) (some 31) rfl rfl (by kernel_rfl) (by kernel_rfl) (by kernel_rfl) (fun _ _ _ h => h) (by rfl) hHeld ?_ ?_
          rotate_left
          · intro W hSw
            try dsimp only at hSw
            go_simp
            try with_reducible rfl
          try simp only [Act.put]
          try simp only [List.setIfInBounds_toArray]
          try simp only [List.set_cons_succ]
          try simp only [List.set_cons_zero]
          refine takeD (i := 8) (v := ?_) (some 32) rfl rfl (by kernel_rfl) (by kernel_rfl) (by kernel_rfl) (fun _ _ _ h => h) (by rfl) hHeld ?_ ?_
          rotate_left
          · intro W hSw
            try dsimp only at hSw
            go_simp
            try with_reducible rfl
          try simp only [Act.put]
          try simp only [List.setIfInBounds_toArray]
          try simp only [List.set_cons_succ]
          try simp only [List.set_cons_zero]
          refine wpAnyH_ready (rs := [9, 10]) (by kernel_rfl) (by simp) ?_
          refine AllReadyH.cons rfl (fun K hK => ?_) (AllReadyH.cons rfl (fun K hK => ?_) AllReadyH.nil)
          · go_simp
            obtain ⟨wr4, hwr4⟩ : ∃ W, Hid (W = wr3.alloc (.cells #[.int .i64 0, .bool false, .int .i64 0, .slice none 0 0, .int .i64 0] 34)) := ⟨_, rfl⟩
            have al4 : Below wr3.heap.size wr3 wr4 := by rw [hwr4.out]; exact alloc_below _ _
            have YHN4 : Hid (Blk wr4 wr3.heap.size #[.int .i64 0, .bool false, .int .i64 0, .slice none 0 0, .int .i64 0] 34) := by show Blk _ _ _ _; rw [hwr4.out]; exact Blk.new _ _ _
            have BYH4 : Hid (w1.heap.size ≤ wr3.heap.size) := L3.out.size
            have V4 := hide_it (V3.out.later al4 (Nat.le_refl _))
            have O4 := hide_it (OO3.out.below al4 ZZ3.out)
            have Z4 : Hid (wr3.heap.size ≤ wr4.heap.size) := Nat.le_trans ZZ3.out al4.size
            have L4 : Hid (Below w1.heap.size w1 wr4) := L3.out.trans (al4.mono L3.out.size)
            clear al4
            rw [← hwr4.out]
            try dsimp only
            refine hK.out _ _ (KK.out _ L4.out) (fun hHeld => ?_)
            clear hK K
            refine wpAnyH_ready (rs := [10]) (by kernel_rfl) (by simp) ?_
            refine AllReadyH.cons rfl (fun K hK => ?_) AllReadyH.nil
            go_simp
            obtain ⟨wr5, hwr5⟩ : ∃ W, Hid (W = wr4.alloc (.cells #[.int .i64 0, .int .i64 0, .int .i64 0, .int .i64 0] 35)) := ⟨_, rfl⟩
            have al5 : Below wr4.heap.size wr4 wr5 := by rw [hwr5.out]; exact alloc_below _ _
            have YWN5 : Hid (Blk wr5 wr4.heap.size #[.int .i64 0, .int .i64 0, .int .i64 0, .int .i64 0] 35) := by show Blk _ _ _ _; rw [hwr5.out]; exact Blk.new _ _ _
            have BYW5 : Hid (w1.heap.size ≤ wr4.heap.size) := L4.out.size
            have YH5 := hide_it (YHN4.out.after al5)
            have V5 := hide_it (V4.out.later al5 (Nat.le_refl _))
            have O5 := hide_it (O4.out.below al5 Z4.out)
            have Z5 : Hid (wr3.heap.size ≤ wr5.heap.size) := Nat.le_trans Z4.out al5.size
            have L5 : Hid (Below w1.heap.size w1 wr5) := L4.out.trans (al5.mono L4.out.size)
            clear al5
            rw [← hwr5.out]
            try dsimp only
            refine hK.out _ _ (KK.out _ L5.out) (fun hHeld => ?_)
            clear hK K
            refine wpAnyH_ready (rs := [11]) (by kernel_rfl) (by simp) ?_
            refine AllReadyH.cons rfl (fun K hK => ?_) AllReadyH.nil
            go_simp
            obtain ⟨c0, c1, c2, c3, c4⟩ := YH5.out.cells5
            have cf0 := YH5.out.free 0
            have cf1 := YH5.out.free 1
            have cf2 := YH5.out.free 2
            have cf3 := YH5.out.free 3
            have cf4 := YH5.out.free 4
            go_simp
            obtain ⟨wr6, hwr6⟩ : ∃ W, Hid (W = (((((wr5.setCell ⟨wr3.heap.size, 0, none⟩ (.int .i64 ID)).setCell ⟨wr3.heap.size, 1, none⟩ (.bool UP)).setCell ⟨wr3.heap.size, 2, none⟩ (.int .i64 ROOM)).setCell ⟨wr3.heap.size, 3, none⟩ (.slice a3 RS.length cp3)).setCell ⟨wr3.heap.size, 4, none⟩ (.int .i64 F))) := ⟨_, rfl⟩
            have NE6 := ne_hw YH5.out YWN5.out
            have Z6 : Hid (wr3.heap.size ≤ wr6.heap.size) := Nat.le_trans Z5.out (Nat.le_of_eq (by rw [hwr6.out]; simp))
            have YH6 : Hid (Blk wr6 wr3.heap.size #[.int .i64 ID, .bool UP, .int .i64 ROOM, .slice a3 RS.length cp3, .int .i64 F] 34) := by show Blk _ _ _ _; rw [hwr6.out]; exact blk_h5 YH5.out
            have YW6 : Hid (Blk wr6 wr4.heap.size #[.int .i64 0, .int .i64 0, .int .i64 0, .int .i64 0] 35) := by show Blk _ _ _ _; rw [hwr6.out]; exact blk_h5o YWN5.out (fun e => NE6 e.symm)
            have O6 : Hid (OwnRecs wr6 wr2.heap.size wr3.heap.size (.slice a3 RS.length cp3) ps3) := by show OwnRecs _ _ _ _ _; rw [hwr6.out]; exact own_h5 O5.out YH5.out
            have L6 : Hid (Below w1.heap.size w1 wr6) := by show Below _ _ _; rw [hwr6.out]; exact bel_h5 L5.out BYH4.out
            rw [← hwr6.out]
            clear c0 cf0 c1 cf1 c2 cf2 c3 cf3 c4 cf4
            try dsimp only
            refine hK.out _ _ (KK.out _ L6.out) (fun hHeld => ?_)
            clear hK K
            refine wpAnyH_ready (rs := [12]) (by kernel_rfl) (by simp) ?_
            refine AllReadyH.cons rfl (fun K hK => ?_) AllReadyH.nil
            go_simp
            obtain ⟨c0, c1, c2, c3⟩ := YW6.out.cells4
            have cf0 := YW6.out.free 0
            have cf1 := YW6.out.free 1
            have cf2 := YW6.out.free 2
            have cf3 := YW6.out.free 3
            go_simp
            obtain ⟨wr7, hwr7⟩ : ∃ W, Hid (W = ((((wr6.setCell ⟨wr4.heap.size, 0, none⟩ (.int .i64 X1)).setCell ⟨wr4.heap.size, 1, none⟩ (.int .i64 X2)).setCell ⟨wr4.heap.size, 2, none⟩ (.int .i64 X3)).setCell ⟨wr4.heap.size, 3, none⟩ (.int .i64 0))) := ⟨_, rfl⟩
            have Z7 : Hid (wr3.heap.size ≤ wr7.heap.size) := Nat.le_trans Z6.out (Nat.le_of_eq (by rw [hwr7.out]; simp))
            have NEX7 : wr3.heap.size ≠ wr4.heap.size := NE6
            have YW7 : Hid (Blk wr7 wr4.heap.size #[.int .i64 X1, .int .i64 X2, .int .i64 X3, .int .i64 0] 35) := by show Blk _ _ _ _; rw [hwr7.out]; exact blk_w4 YW6.out
            have YH7 : Hid (Blk wr7 wr3.heap.size #[.int .i64 ID, .bool UP, .int .i64 ROOM, .slice a3 RS.length cp3, .int .i64 F] 34) := by show Blk _ _ _ _; rw [hwr7.out]; exact blk_w4o YH6.out NEX7
            have O7 : Hid (OwnRecs wr7 wr2.heap.size wr3.heap.size (.slice a3 RS.length cp3) ps3) := by show OwnRecs _ _ _ _ _; rw [hwr7.out]; exact own_w4 O6.out YW6.out
            have L7 : Hid (Below w1.heap.size w1 wr7) := by show Below _ _ _; rw [hwr7.out]; exact bel_w4 L6.out BYW5.out
            rw [← hwr7.out]
            clear c0 cf0 c1 cf1 c2 cf2 c3 cf3
            try dsimp only
            refine hK.out _ _ (KK.out _ L7.out) (fun hHeld => ?_)
            clear hK K
            refine takeD (i := 13) (v := ?_) (some 8) rfl rfl (by kernel_rfl) (by kernel_rfl) (by kernel_rfl) (fun _ _ _ h => h) (by rfl) hHeld ?_ ?_
            rotate_left
            · intro W hSw
              try dsimp only at hSw
              go_simp
              try with_reducible rfl
            try simp only [Act.put]
            try simp only [List.setIfInBounds_toArray]
            try simp only [List.set_cons_succ]
            try simp only [List.set_cons_zero]
            refine wpAnyH_done (by kernel_rfl) ?_ _
            go_wp2_with fail
            go_meet
            case rel => exact ⟨_, _, a3, cp3, ps3, _, _, rfl, rfl, rfl, P3, hide_it ⟨L7.out, YH7.out, YW7.out, O7.out, BYH4.out, BYW5.out, Or.inr ZZ3.out, Or.inr Z4.out, LL3.out, Z7.out⟩⟩
          · go_simp
            obtain ⟨wr8, hwr8⟩ : ∃ W, Hid (W = wr3.alloc (.cells #[.int .i64 0, .int .i64 0, .int .i64 0, .int .i64 0] 35)) := ⟨_, rfl⟩
            have al8 : Below wr3.heap.size wr3 wr8 := by rw [hwr8.out]; exact alloc_below _ _
            have YWN8 : Hid (Blk wr8 wr3.heap.size #[.int .i64 0, .int .i64 0, .int .i64 0, .int .i64 0] 35) := by show Blk _ _ _ _; rw [hwr8.out]; exact Blk.new _ _ _
            have BYW8 : Hid (w1.heap.size ≤ wr3.heap.size) := L3.out.size
            have V8 := hide_it (V3.out.later al8 (Nat.le_refl _))
            have O8 := hide_it (OO3.out.below al8 ZZ3.out)
            have Z8 : Hid (wr3.heap.size ≤ wr8.heap.size) := Nat.le_trans ZZ3.out al8.size
            have L8 : Hid (Below w1.heap.size w1 wr8) := L3.out.trans (al8.mono L3.out.size)
            clear al8
            rw [← hwr8.out]
            try dsimp only
            refine hK.out _ _ (KK.out _ L8.out) (fun hHeld => ?_)
            clear hK K
            refine wpAnyH_ready (rs := [9]) (by kernel_rfl) (by simp) ?_
            refine AllReadyH.cons rfl (fun K hK => ?_) AllReadyH.nil
            go_simp
            obtain ⟨wr9, hwr9⟩ : ∃ W, Hid (W = wr8.alloc (.cells #[.int .i64 0, .bool false, .int .i64 0, .slice none 0 0, .int .i64 0] 34)) := ⟨_, rfl⟩
            have al9 : Below wr8.heap.size wr8 wr9 := by rw [hwr9.out]; exact alloc_below _ _
            have YHN9 : Hid (Blk wr9 wr8.heap.size #[.int .i64 0, .bool false, .int .i64 0, .slice none 0 0, .int .i64 0] 34) := by show Blk _ _ _ _; rw [hwr9.out]; exact Blk.new _ _ _
            have BYH9 : Hid (w1.heap.size ≤ wr8.heap.size) := L8.out.size
            have YW9 := hide_it (YWN8.out.after al9)
            have V9 := hide_it (V8.out.later al9 (Nat.le_refl _))
            have O9 := hide_it (O8.out.below al9 Z8.out)
            have Z9 : Hid (wr3.heap.size ≤ wr9.heap.size) := Nat.le_trans Z8.out al9.size
            have L9 : Hid (Below w1.heap.size w1 wr9) := L8.out.trans (al9.mono L8.out.size)
            clear al9
            rw [← hwr9.out]
            try dsimp only
            refine hK.out _ _ (KK.out _ L9.out) (fun hHeld => ?_)
            clear hK K
            refine wpAnyH_ready (rs := [11]) (by kernel_rfl) (by simp) ?_
            refine AllReadyH.cons rfl (fun K hK => ?_) AllReadyH.nil
            go_simp
            obtain ⟨c0, c1, c2, c3, c4⟩ := YHN9.out.cells5
            have cf0 := YHN9.out.free 0
            have cf1 := YHN9.out.free 1
            have cf2 := YHN9.out.free 2
            have cf3 := YHN9.out.free 3
            have cf4 := YHN9.out.free 4
            go_simp
            obtain ⟨wr10, hwr10⟩ : ∃ W, Hid (W = (((((wr9.setCell ⟨wr8.heap.size, 0, none⟩ (.int .i64 ID)).setCell ⟨wr8.heap.size, 1, none⟩ (.bool UP)).setCell ⟨wr8.heap.size, 2, none⟩ (.int .i64 ROOM)).setCell ⟨wr8.heap.size, 3, none⟩ (.slice a3 RS.length cp3)).setCell ⟨wr8.heap.size, 4, none⟩ (.int .i64 F))) := ⟨_, rfl⟩
            have NE10 := ne_hw YHN9.out YW9.out
            have Z10 : Hid (wr3.heap.size ≤ wr10.heap.size) := Nat.le_trans Z9.out (Nat.le_of_eq (by rw [hwr10.out]; simp))
            have YH10 : Hid (Blk wr10 wr8.heap.size #[.int .i64 ID, .bool UP, .int .i64 ROOM, .slice a3 RS.length cp3, .int .i64 F] 34) := by show Blk _ _ _ _; rw [hwr10.out]; exact blk_h5 YHN9.out
            have YW10 : Hid (Blk wr10 wr3.heap.size #[.int .i64 0, .int .i64 0, .int .i64 0, .int .i64 0] 35) := by show Blk _ _ _ _; rw [hwr10.out]; exact blk_h5o YW9.out (fun e => NE10 e.symm)
            have O10 : Hid (OwnRecs wr10 wr2.heap.size wr3.heap.size (.slice a3 RS.length cp3) ps3) := by show OwnRecs _ _ _ _ _; rw [hwr10.out]; exact own_h5 O9.out YHN9.out
            have L10 : Hid (Below w1.heap.size w1 wr10) := by show Below _ _ _; rw [hwr10.out]; exact bel_h5 L9.out BYH9.out
            rw [← hwr10.out]
            clear c0 cf0 c1 cf1 c2 cf2 c3 cf3 c4 cf4
            try dsimp only
            refine hK.out _ _ (KK.out _ L10.out) (fun hHeld => ?_)
            clear hK K
            refine wpAnyH_ready (rs := [12]) (by kernel_rfl) (by simp) ?_
            refine AllReadyH.cons rfl (fun K hK => ?_) AllReadyH.nil
            go_simp
            obtain ⟨c0, c1, c2, c3⟩ := YW10.out.cells4
            have cf0 := YW10.out.free 0
            have cf1 := YW10.out.free 1
            have cf2 := YW10.out.free 2
            have cf3 := YW10.out.free 3
            go_simp
            obtain ⟨wr11, hwr11⟩ : ∃ W, Hid (W = ((((wr10.setCell ⟨wr3.heap.size, 0, none⟩ (.int .i64 X1)).setCell ⟨wr3.heap.size, 1, none⟩ (.int .i64 X2)).setCell ⟨wr3.heap.size, 2, none⟩ (.int .i64 X3)).setCell ⟨wr3.heap.size, 3, none⟩ (.int .i64 0))) := ⟨_, rfl⟩
            have Z11 : Hid (wr3.heap.size ≤ wr11.heap.size) := Nat.le_trans Z10.out (Nat.le_of_eq (by rw [hwr11.out]; simp))
            have NEX11 : wr8.heap.size ≠ wr3.heap.size := NE10
            have YW11 : Hid (Blk wr11 wr3.heap.size #[.int .i64 X1, .int .i64 X2, .int .i64 X3, .int .i64 0] 35) := by show Blk _ _ _ _; rw [hwr11.out]; exact blk_w4 YW10.out
            have YH11 : Hid (Blk wr11 wr8.heap.size #[.int .i64 ID, .bool UP, .int .i64 ROOM, .slice a3 RS.length cp3, .int .i64 F] 34) := by show Blk _ _ _ _; rw [hwr11.out]; exact blk_w4o YH10.out NEX11
            have O11 : Hid (OwnRecs wr11 wr2.heap.size wr3.heap.size (.slice a3 RS.length cp3) ps3) := by show OwnRecs _ _ _ _ _; rw [hwr11.out]; exact own_w4 O10.out YW10.out
            have L11 : Hid (Below w1.heap.size w1 wr11) := by show Below _ _ _; rw [hwr11.out]; exact bel_w4 L10.out BYW8.out
            rw [← hwr11.out]
            clear c0 cf0 c1 cf1 c2 cf2 c3 cf3
            try dsimp only
            refine hK.out _ _ (KK.out _ L11.out) (fun hHeld => ?_)
            clear hK K
            refine takeD (i := 13) (v := ?_) (some 8) rfl rfl (by kernel_rfl) (by kernel_rfl) (by kernel_rfl) (fun _ _ _ h => h) (by rfl) hHeld ?_ ?_
            rotate_left
            · intro W hSw
              try dsimp only at hSw
              go_simp
              try with_reducible rfl
            try simp only [Act.put]
            try simp only [List.setIfInBounds_toArray]
            try simp only [List.set_cons_succ]
            try simp only [List.set_cons_zero]
            refine wpAnyH_done (by kernel_rfl) ?_ _
            go_wp2_with fail
            go_meet
            case rel => exact ⟨_, _, a3, cp3, ps3, _, _, rfl, rfl, rfl, P3, hide_it ⟨L11.out, YH11.out, YW11.out, O11.out, BYH9.out, BYW8.out, Or.inr Z8.out, Or.inr ZZ3.out, LL3.out, Z11.out⟩⟩
        · go_simp
          obtain ⟨wr12, hwr12⟩ : ∃ W, Hid (W = wr2.alloc (.cells #[.int .i64 0, .bool false, .int .i64 0, .slice none 0 0, .int .i64 0] 34)) := ⟨_, rfl⟩
          have al12 : Below wr2.heap.size wr2 wr12 := by rw [hwr12.out]; exact alloc_below _ _
          have YHN12 : Hid (Blk wr12 wr2.heap.size #[.int .i64 0, .bool false, .int .i64 0, .slice none 0 0, .int .i64 0] 34) := by show Blk _ _ _ _; rw [hwr12.out]; exact Blk.new _ _ _
          have BYH12 : Hid (w1.heap.size ≤ wr2.heap.size) := L2.out.size
          have V12 := hide_it (V2.out.later al12 (Nat.le_refl _))
          have L12 : Hid (Below w1.heap.size w1 wr12) := L2.out.trans (al12.mono L2.out.size)
          clear al12
          rw [← hwr12.out]
          try dsimp only
          refine hK.out _ _ (KK.out _ L12.out) (fun hHeld => ?_)
          clear hK K
          refine wpAnyH_ready (rs := [4, 10]) (by kernel_rfl) (by simp) ?_
          refine AllReadyH.cons rfl (fun K hK => ?_) (AllReadyH.cons rfl (fun K hK => ?_) AllReadyH.nil)
          · go_simp
            refine (HSP.out _ wr12 V12.out).mono ?_
            rintro e wr13 ⟨a13, cp13, rfl, hm13, hb13⟩
            obtain ⟨ps13, hp13, ho13⟩ := hm13
            have P13 := hide_it hp13
            have OO13 := hide_it ho13
            have ZZ13 : Hid (wr13.heap.size ≤ wr13.heap.size) := Nat.le_refl _
            have LL13 : Hid (w1.heap.size ≤ wr12.heap.size) := L12.out.size
            have AH13 : Hid (wr2.heap.size < wr12.heap.size) := YHN12.out.lt
            have YH13 := hide_it (YHN12.out.after hb13)
            have V13 := hide_it (V12.out.later hb13 (Nat.le_refl _))
            have L13 : Hid (Below w1.heap.size w1 wr13) := L12.out.trans (hb13.mono L12.out.size)
            clear hb13 hp13 ho13
            try dsimp only
            refine hK.out _ _ (KK.out _ L13.out) (fun hHeld => ?_)
            clear hK K
            refine takeD (i := 5) (v := ?_) (some 24) rfl rfl (by kernel_rfl) (by kernel_rfl) (by kernel_rfl) (fun _ _ _ h => h) (by rfl) hHeld ?_ ?_
            rotate_left
            · intro W hSw
              try dsimp only at hSw
              go_simp
              try with_reducible rfl
            try simp only [Act.put]
            try simp only [List.setIfInBounds_toArray]
            try simp only [List.set_cons_succ]
            try simp only [List.set_cons_zero]
            refine takeD (i := 6) (v := ?_) (some 30) rfl rfl (by kernel_rfl) (by kernel_rfl) (by kernel_rfl) (fun _ _ _ h => h) (by rfl) hHeld ?_ ?_
            rotate_left
            · intro W hSw
              try dsimp only at hSw
              go_simp
              try with_reducible rfl
            try simp only [Act.put]
            try simp only [List.setIfInBounds_toArray]
            try simp only [List.set_cons_succ]
            try simp only [List.set_cons_zero]
            refine takeD (i := 7) (v := ?_) (some 31) rfl rfl (by kernel_rfl) (by kernel_rfl) (by kernel_rfl) (fun _ _ _ h => h) (by rfl) hHeld ?_ ?_
            rotate_left
            · intro W hSw
              try dsimp only at hSw
              go_simp
              try with_reducible rfl
            try simp only [Act.put]
            try simp only [List.setIfInBounds_toArray]
            try simp only [List.set_cons_succ]
            try simp only [List.set_cons_zero]
            refine takeD (i := 8) (v := ?_) (some 32) rfl rfl (by kernel_rfl) (by kernel_rfl) (by kernel_rfl) (fun _ _ _ h => h) (by rfl) hHeld ?_ ?_
            rotate_left
            · intro W hSw
              try dsimp only at hSw
              go_simp
              try with_reducible rfl
            try simp only [Act.put]
            try simp only [List.setIfInBounds_toArray]
            try simp only [List.set_cons_succ]
            try simp only [List.set_cons_zero]
            refine wpAnyH_ready (rs := [10]) (by kernel_rfl) (by simp) ?_
            refine AllReadyH.cons rfl (fun K hK => ?_) AllReadyH.nil
            go_simp
            obtain ⟨wr14, hwr14⟩ : ∃ W, Hid (W = wr13.alloc (.cells #[.int .i64 0, .int .i64 0, .int .i64 0, .int .i64 0] 35)) := ⟨_, rfl⟩
            have al14 : Below wr13.heap.size wr13 wr14 := by rw [hwr14.out]; exact alloc_below _ _
            have YWN14 : Hid (Blk wr14 wr13.heap.size #[.int .i64 0, .int .i64 0, .int .i64 0, .int .i64 0] 35) := by show Blk _ _ _ _; rw [hwr14.out]; exact Blk.new _ _ _
            have BYW14 : Hid (w1.heap.size ≤ wr13.heap.size) := L13.out.size
            have YH14 := hide_it (YH13.out.after al14)
            have V14 := hide_it (V13.out.later al14 (Nat.le_refl _))
            have O14 := hide_it (OO13.out.below al14 ZZ13.out)
            have Z14 : Hid (wr13.heap.size ≤ wr14.heap.size) := Nat.le_trans ZZ13.out al14.size
            have L14 : Hid (Below w1.heap.size w1 wr14) := L13.out.trans (al14.mono L13.out.size)
            clear al14
            rw [← hwr14.out]
            try dsimp only
            refine hK.out _ _ (KK.out _ L14.out) (fun hHeld => ?_)
            clear hK K
            refine wpAnyH_ready (rs := [11]) (by kernel_rfl) (by simp) ?_
            refine AllReadyH.cons rfl (fun K hK => ?_) AllReadyH.nil
            go_simp
            obtain ⟨c0, c1, c2, c3, c4⟩ := YH14.out.cells5
            have cf0 := YH14.out.free 0
            have cf1 := YH14.out.free 1
            have cf2 := YH14.out.free 2
            have cf3 := YH14.out.free 3
            have cf4 := YH14.out.free 4
            go_simp
            obtain ⟨wr15, hwr15⟩ : ∃ W, Hid (W = (((((wr14.setCell ⟨wr2.heap.size, 0, none⟩ (.int .i64 ID)).setCell ⟨wr2.heap.size, 1, none⟩ (.bool UP)).setCell ⟨wr2.heap.size, 2, none⟩ (.int .i64 ROOM)).setCell ⟨wr2.heap.size, 3, none⟩ (.slice a13 RS.length cp13)).setCell ⟨wr2.heap.size, 4, none⟩ (.int .i64 F))) := ⟨_, rfl⟩
            have NE15 := ne_hw YH14.out YWN14.out
            have Z15 : Hid (wr13.heap.size ≤ wr15.heap.size) := Nat.le_trans Z14.out (Nat.le_of_eq (by rw [hwr15.out]; simp))
            have YH15 : Hid (Blk wr15 wr2.heap.size #[.int .i64 ID, .bool UP, .int .i64 ROOM, .slice a13 RS.length cp13, .int .i64 F] 34) := by show Blk _ _ _ _; rw [hwr15.out]; exact blk_h5 YH14.out
            have YW15 : Hid (Blk wr15 wr13.heap.size #[.int .i64 0, .int .i64 0, .int .i64 0, .int .i64 0] 35) := by show Blk _ _ _ _; rw [hwr15.out]; exact blk_h5o YWN14.out (fun e => NE15 e.symm)
            have O15 : Hid (OwnRecs wr15 wr12.heap.size wr13.heap.size (.slice a13 RS.length cp13) ps13) := by show OwnRecs _ _ _ _ _; rw [hwr15.out]; exact own_h5 O14.out YH14.out
            have L15 : Hid (Below w1.heap.size w1 wr15) := by show Below _ _ _; rw [hwr15.out]; exact bel_h5 L14.out BYH12.out
            rw [← hwr15.out]
            clear c0 cf0 c1 cf1 c2 cf2 c3 cf3 c4 cf4
            try dsimp only
            refine hK.out _ _ (KK.out _ L15.out) (fun hHeld => ?_)
            clear hK K
            refine wpAnyH_ready (rs := [12]) (by kernel_rfl) (by simp) ?_
            refine AllReadyH.cons rfl (fun K hK => ?_) AllReadyH.nil
            go_simp
            obtain ⟨c0, c1, c2, c3⟩ := YW15.out.cells4
            have cf0 := YW15.out.free 0
            have cf1 := YW15.out.free 1
            have cf2 := YW15.out.free 2
            have cf3 := YW15.out.free 3
            go_simp
            obtain ⟨wr16, hwr16⟩ : ∃ W, Hid (W = ((((wr15.setCell ⟨wr13.heap.size, 0, none⟩ (.int .i64 X1)).setCell ⟨wr13.heap.size, 1, none⟩ (.int .i64 X2)).setCell ⟨wr13.heap.size, 2, none⟩ (.int .i64 X3)).setCell ⟨wr13.heap.size, 3, none⟩ (.int .i64 0))) := ⟨_, rfl⟩
            have Z16 : Hid (wr13.heap.size ≤ wr16.heap.size) := Nat.le_trans Z15.out (Nat.le_of_eq (by rw [hwr16.out]; simp))
            have NEX16 : wr2.heap.size ≠ wr13.heap.size := NE15
            have YW16 : Hid (Blk wr16 wr13.heap.size #[.int .i64 X1, .int .i64 X2, .int .i64 X3, .int .i64 0] 35) := by show Blk _ _ _ _; rw [hwr16.out]; exact blk_w4 YW15.out
            have YH16 : Hid (Blk wr16 wr2.heap.size #[.int .i64 ID, .bool UP, .int .i64 ROOM, .slice a13 RS.length cp13, .int .i64 F] 34) := by show Blk _ _ _ _; rw [hwr16.out]; exact blk_w4o YH15.out NEX16
            have O16 : Hid (OwnRecs wr16 wr12.heap.size wr13.heap.size (.slice a13 RS.length cp13) ps13) := by show OwnRecs _ _ _ _ _; rw [hwr16.out]; exact own_w4 O15.out YW15.out
            have L16 : Hid (Below w1.heap.size w1 wr16) := by show Below _ _ _; rw [hwr16.out]; exact bel_w4 L15.out BYW14.out
            rw [← hwr16.out]
            clear c0 cf0 c1 cf1 c2 cf2 c3 cf3
            try dsimp only
            refine hK.out _ _ (KK.out _ L16.out) (fun hHeld => ?_)
            clear hK K
            refine takeD (i := 13) (v := ?_) (some 8) rfl rfl (by kernel_rfl) (by kernel_rfl) (by kernel_rfl) (fun _ _ _ h => h) (by rfl) hHeld ?_ ?_
            rotate_left
            · intro W hSw
              try dsimp only at hSw
              go_simp
              try with_reducible rfl
            try simp only [Act.put]
            try simp only [List.setIfInBounds_toArray]
            try simp only [List.set_cons_succ]
            try simp only [List.set_cons_zero]
            refine wpAnyH_done (by kernel_rfl) ?_ _
            go_wp2_with fail
            go_meet
            case rel => exact ⟨_, _, a13, cp13, ps13, _, _, rfl, rfl, rfl, P13, hide_it ⟨L16.out, YH16.out, YW16.out, O16.out, BYH12.out, BYW14.out, Or.inl AH13.out, Or.inr ZZ13.out, LL13.out, Z16.out⟩⟩
          · go_simp
            obtain ⟨wr17, hwr17⟩ : ∃ W, Hid (W = wr12.alloc (.cells #[.int .i64 0, .int .i64 0, .int .i64 0, .int .i64 0] 35)) := ⟨_, rfl⟩
            have al17 : Below wr12.heap.size wr12 wr17 := by rw [hwr17.out]; exact alloc_below _ _
            have YWN17 : Hid (Blk wr17 wr12.heap.size #[.int .i64 0, .int .i64 0, .int .i64 0, .int .i64 0] 35) := by show Blk _ _ _ _; rw [hwr17.out]; exact Blk.new _ _ _
            have BYW17 : Hid (w1.heap.size ≤ wr12.heap.size) := L12.out.size
            have YH17 := hide_it (YHN12.out.after al17)
            have V17 := hide_it (V12.out.later al17 (Nat.le_refl _))
            have L17 : Hid (Below w1.heap.size w1 wr17) := L12.out.trans (al17.mono L12.out.size)
            clear al17
            rw [← hwr17.out]
            try dsimp only
            refine hK.out _ _ (KK.out _ L17.out) (fun hHeld => ?_)
            clear hK K
            refine wpAnyH_ready (rs := [4]) (by kernel_rfl) (by simp) ?_
            refine AllReadyH.cons rfl (fun K hK => ?_) AllReadyH.nil
            go_simp
            refine (HSP.out _ wr17 V17.out).mono ?_
            rintro e wr18 ⟨a18, cp18, rfl, hm18, hb18⟩
            obtain ⟨ps18, hp18, ho18⟩ := hm18
            have P18 := hide_it hp18
            have OO18 := hide_it ho18
            have ZZ18 : Hid (wr18.heap.size ≤ wr18.heap.size) := Nat.le_refl _
            have LL18 : Hid (w1.heap.size ≤ wr17.heap.size) := L17.out.size
            have AH18 : Hid (wr2.heap.size < wr17.heap.size) := YH17.out.lt
            have AW18 : Hid (wr12.heap.size < wr17.heap.size) := YWN17.out.lt
            have YH18 := hide_it (YH17.out.after hb18)
            have YW18 := hide_it (YWN17.out.after hb18)
            have V18 := hide_it (V17.out.later hb18 (Nat.le_refl _))
            have L18 : Hid (Below w1.heap.size w1 wr18) := L17.out.trans (hb18.mono L17.out.size)
            clear hb18 hp18 ho18
            try dsimp only
            refine hK.out _ _ (KK.out _ L18.out) (fun hHeld => ?_)
            clear hK K
            refine takeD (i := 5) (v := ?_) (some 24) rfl rfl (by kernel_rfl) (by kernel_rfl) (by kernel_rfl) (fun _ _ _ h => h) (by rfl) hHeld ?_ ?_
            rotate_left
            · intro W hSw
              try dsimp only at hSw
              go_simp
              try with_reducible rfl
            try simp only [Act.put]
            try simp only [List.setIfInBounds_toArray]
            try simp only [List.set_cons_succ]
            try simp only [List.set_cons_zero]
            refine takeD (i := 6) (v := ?_) (some 30) rfl rfl (by kernel_rfl) (by kernel_rfl) (by kernel_rfl) (fun _ _ _ h => h) (by rfl) hHeld ?_ ?_
            rotate_left
            · intro W hSw
              try dsimp only at hSw
              go_simp
              try with_reducible rfl
            try simp only [Act.put]
            try simp only [List.setIfInBounds_toArray]
            try simp only [List.set_cons_succ]
            try simp only [List.set_cons_zero]
            refine takeD (i := 7) (v := ?_) (some 31) rfl rfl (by kernel_rfl) (by kernel_rfl) (by kernel_rfl) (fun _ _ _ h => h) (by rfl) hHeld ?_ ?_
            rotate_left
            · intro W hSw
              try dsimp only at hSw
              go_simp
              try with_reducible rfl
            try simp only [Act.put]
            try simp only [List.setIfInBounds_toArray]
            try simp only [List.set_cons_succ]
            try simp only [List.set_cons_zero]
            refine takeD (i := 8) (v := ?_) (some 32) rfl rfl (by kernel_rfl) (by kernel_rfl) (by kernel_rfl) (fun _ _ _ h => h) (by rfl) hHeld ?_ ?_
            rotate_left
            · intro W hSw
              try dsimp only at hSw
              go_simp
              try with_reducible rfl
            try simp only [Act.put]
            try simp only [List.setIfInBounds_toArray]
            try simp only [List.set_cons_succ]
            try simp only [List.set_cons_zero]
            refine wpAnyH_ready (rs := [11]) (by kernel_rfl) (by simp) ?_
            refine AllReadyH.cons rfl (fun K hK => ?_) AllReadyH.nil
            go_simp
            obtain ⟨c0, c1, c2, c3, c4⟩ := YH18.out.cells5
            have cf0 := YH18.out.free 0
            have cf1 := YH18.out.free 1
            have cf2 := YH18.out.free 2
            have cf3 := YH18.out.free 3
            have cf4 := YH18.out.free 4
            go_simp
            obtain ⟨wr19, hwr19⟩ : ∃ W, Hid (W = (((((wr18.setCell ⟨wr2.heap.size, 0, none⟩ (.int .i64 ID)).setCell ⟨wr2.heap.size, 1, none⟩ (.bool UP)).setCell ⟨wr2.heap.size, 2, none⟩ (.int .i64 ROOM)).setCell ⟨wr2.heap.size, 3, none⟩ (.slice a18 RS.length cp18)).setCell ⟨wr2.heap.size, 4, none⟩ (.int .i64 F))) := ⟨_, rfl⟩
            have NE19 := ne_hw YH18.out YW18.out
            have Z19 : Hid (wr18.heap.size ≤ wr19.heap.size) := Nat.le_trans ZZ18.out (Nat.le_of_eq (by rw [hwr19.out]; simp))
            have YH19 : Hid (Blk wr19 wr2.heap.size #[.int .i64 ID, .bool UP, .int .i64 ROOM, .slice a18 RS.length cp18, .int .i64 F] 34) := by show Blk _ _ _ _; rw [hwr19.out]; exact blk_h5 YH18.out
            have YW19 : Hid (Blk wr19 wr12.heap.size #[.int .i64 0, .int .i64 0, .int .i64 0, .int .i64 0] 35) := by show Blk _ _ _ _; rw [hwr19.out]; exact blk_h5o YW18.out (fun e => NE19 e.symm)
            have O19 : Hid (OwnRecs wr19 wr17.heap.size wr18.heap.size (.slice a18 RS.length cp18) ps18) := by show OwnRecs _ _ _ _ _; rw [hwr19.out]; exact own_h5 OO18.out YH18.out
            have L19 : Hid (Below w1.heap.size w1 wr19) := by show Below _ _ _; rw [hwr19.out]; exact bel_h5 L18.out BYH12.out
            rw [← hwr19.out]
            clear c0 cf0 c1 cf1 c2 cf2 c3 cf3 c4 cf4
            try dsimp only
            refine hK.out _ _ (KK.out _ L19.out) (fun hHeld => ?_)
            clear hK K
            refine wpAnyH_ready (rs := [12]) (by kernel_rfl) (by simp) ?_
            refine AllReadyH.cons rfl (fun K hK => ?_) AllReadyH.nil
            go_simp
            obtain ⟨c0, c1, c2, c3⟩ := YW19.out.cells4
            have cf0 := YW19.out.free 0
            have cf1 := YW19.out.free 1
            have cf2 := YW19.out.free 2
            have cf3 := YW19.out.free 3
            go_simp
            obtain ⟨wr20, hwr20⟩ : ∃ W, Hid (W = ((((wr19.setCell ⟨wr12.heap.size, 0, none⟩ (.int .i64 X1)).setCell ⟨wr12.heap.size, 1, none⟩ (.int .i64 X2)).setCell ⟨wr12.heap.size, 2, none⟩ (.int .i64 X3)).setCell ⟨wr12.heap.size, 3, none⟩ (.int .i64 0))) := ⟨_, rfl⟩
            have Z20 : Hid (wr18.heap.size ≤ wr20.heap.size) := Nat.le_trans Z19.out (Nat.le_of_eq (by rw [hwr20.out]; simp))
            have NEX20 : wr2.heap.size ≠ wr12.heap.size := NE19
            have YW20 : Hid (Blk wr20 wr12.heap.size #[.int .i64 X1, .int .i64 X2, .int .i64 X3, .int .i64 0] 35) := by show Blk _ _ _ _; rw [hwr20.out]; exact blk_w4 YW19.out
            have YH20 : Hid (Blk wr20 wr2.heap.size #[.int .i64 ID, .bool UP, .int .i64 ROOM, .slice a18 RS.length cp18, .int .i64 F] 34) := by show Blk _ _ _ _; rw [hwr20.out]; exact blk_w4o YH19.out NEX20
            have O20 : Hid (OwnRecs wr20 wr17.heap.size wr18.heap.size (.slice a18 RS.length cp18) ps18) := by show OwnRecs _ _ _ _ _; rw [hwr20.out]; exact own_w4 O19.out YW19.out
            have L20 : Hid (Below w1.heap.size w1 wr20) := by show Below _ _ _; rw [hwr20.out]; exact bel_w4 L19.out BYW17.out
            rw [← hwr20.out]
            clear c0 cf0 c1 cf1 c2 cf2 c3 cf3
            try dsimp only
            refine hK.out _ _ (KK.out _ L20.out) (fun hHeld => ?_)
            clear hK K
            refine takeD (i := 13) (v := ?_) (some 8) rfl rfl (by kernel_rfl) (by kernel_rfl) (by kernel_rfl) (fun _ _ _ h => h) (by rfl) hHeld ?_ ?_
            rotate_left
            · intro W hSw
              try dsimp only at hSw
              go_simp
              try with_reducible rfl
            try simp only [Act.put]
            try simp only [List.setIfInBounds_toArray]
            try simp only [List.set_cons_succ]
            try simp only [List.set_cons_zero]
            refine wpAnyH_done (by kernel_rfl) ?_ _
            go_wp2_with fail
            go_meet
            case rel => exact ⟨_, _, a18, cp18, ps18, _, _, rfl, rfl, rfl, P18, hide_it ⟨L20.out, YH20.out, YW20.out, O20.out, BYH12.out, BYW17.out, Or.inl AH18.out, Or.inl AW18.out, LL18.out, Z20.out⟩⟩
        · go_simp
          obtain ⟨wr21, hwr21⟩ : ∃ W, Hid (W = wr2.alloc (.cells #[.int .i64 0, .int .i64 0, .int .i64 0, .int .i64 0] 35)) := ⟨_, rfl⟩
          have al21 : Below wr2.heap.size wr2 wr21 := by rw [hwr21.out]; exact alloc_below _ _
          have YWN21 : Hid (Blk wr21 wr2.heap.size #[.int .i64 0, .int .i64 0, .int .i64 0, .int .i64 0] 35) := by show Blk _ _ _ _; rw [hwr21.out]; exact Blk.new _ _ _
          have BYW21 : Hid (w1.heap.size ≤ wr2.heap.size) := L2.out.size
          have V21 := hide_it (V2.out.later al21 (Nat.le_refl _))
          have L21 : Hid (Below w1.heap.size w1 wr21) := L2.out.trans (al21.mono L2.out.size)
          clear al21
          rw [← hwr21.out]
          try dsimp only
          refine hK.out _ _ (KK.out _ L21.out) (fun hHeld => ?_)
          clear hK K
          refine wpAnyH_ready (rs := [4, 9]) (by kernel_rfl) (by simp) ?_
          refine AllReadyH.cons rfl (fun K hK => ?_) (AllReadyH.cons rfl (fun K hK => ?_) AllReadyH.nil)
          · go_simp
            refine (HSP.out _ wr21 V21.out).mono ?_
            rintro e wr22 ⟨a22, cp22, rfl, hm22, hb22⟩
            obtain ⟨ps22, hp22, ho22⟩ := hm22
            have P22 := hide_it hp22
            have OO22 := hide_it ho22
            have ZZ22 : Hid (wr22.heap.size ≤ wr22.heap.size) := Nat.le_refl _
            have LL22 : Hid (w1.heap.size ≤ wr21.heap.size) := L21.out.size
            have AW22 : Hid (wr2.heap.size < wr21.heap.size) := YWN21.out.lt
            have YW22 := hide_it (YWN21.out.after hb22)
            have V22 := hide_it (V21.out.later hb22 (Nat.le_refl _))
            have L22 : Hid (Below w1.heap.size w1 wr22) := L21.out.trans (hb22.mono L21.out.size)
            clear hb22 hp22 ho22
            try dsimp only
            refine hK.out _ _ (KK.out _ L22.out) (fun hHeld => ?_)
            clear hK K
            refine takeD (i := 5) (v := ?_) (some 24) rfl rfl (by kernel_rfl) (by kernel_rfl) (by kernel_rfl) (fun _ _ _ h => h) (by rfl) hHeld ?_ ?_
            rotate_left
            · intro W hSw
              try dsimp only at hSw
              go_simp
              try with_reducible rfl
            try simp only [Act.put]
            try simp only [List.setIfInBounds_toArray]
            try simp only [List.set_cons_succ]
            try simp only [List.set_cons_zero]
            refine takeD (i := 6) (v := ?_) (some 30) rfl rfl (by kernel_rfl) (by kernel_rfl) (by kernel_rfl) (fun _ _ _ h => h) (by rfl) hHeld ?_ ?_
            rotate_left
            · intro W hSw
              try dsimp only at hSw
              go_simp
              try with_reducible rfl
            try simp only [Act.put]
            try simp only [List.setIfInBounds_toArray]
            try simp only [List.set_cons_succ]
            try simp only [List.set_cons_zero]
            refine takeD (i := 7) (v := ?_) (some 31) rfl rfl (by kernel_rfl) (by kernel_rfl) (by kernel_rfl) (fun _ _ _ h => h) (by rfl) hHeld ?_ ?_
            rotate_left
            · intro W hSw
              try dsimp only at hSw
              go_simp
              try with_reducible rfl
            try simp only [Act.put]
            try simp only [List.setIfInBounds_toArray]
            try simp only [List.set_cons_succ]
            try simp only [List.set_cons_zero]
            refine takeD (i := 8) (v := ?_) (some 32) rfl rfl (by kernel_rfl) (by kernel_rfl) (by kernel_rfl) (fun _ _ _ h => h) (by rfl) hHeld ?_ ?_
            rotate_left
            · intro W hSw
              try dsimp only at hSw
              go_simp
              try with_reducible rfl
            try simp only [Act.put]
            try simp only [List.setIfInBounds_toArray]
            try simp only [List.set_cons_succ]
            try simp only [List.set_cons_zero]
            refine wpAnyH_ready (rs := [9]) (by kernel_rfl) (by simp) ?_
            refine AllReadyH.cons rfl (fun K hK => ?_) AllReadyH.nil
            go_simp
            obtain ⟨wr23, hwr23⟩ : ∃ W, Hid (W = wr22.alloc (.cells #[.int .i64 0, .bool false, .int .i64 0, .slice none 0 0, .int .i64 0] 34)) := ⟨_, rfl⟩
            have al23 : Below wr22.heap.size wr22 wr23 := by rw [hwr23.out]; exact alloc_below _ _
            have YHN23 : Hid (Blk wr23 wr22.heap.size #[.int .i64 0, .bool false, .int .i64 0, .slice none 0 0, .int .i64 0] 34) := by show Blk _ _ _ _; rw [hwr23.out]; exact Blk.new _ _ _
            have BYH23 : Hid (w1.heap.size ≤ wr22.heap.size) := L22.out.size
            have YW23 := hide_it (YW22.out.after al23)
            have V23 := hide_it (V22.out.later al23 (Nat.le_refl _))
            have O23 := hide_it (OO22.out.below al23 ZZ22.out)
            have Z23 : Hid (wr22.heap.size ≤ wr23.heap.size) := Nat.le_trans ZZ22.out al23.size
            have L23 : Hid (Below w1.heap.size w1 wr23) := L22.out.trans (al23.mono L22.out.size)
            clear al23
            rw [← hwr23.out]
            try dsimp only
            refine hK.out _ _ (KK.out _ L23.out) (fun hHeld => ?_)
            clear hK K
            refine wpAnyH_ready (rs := [11]) (by kernel_rfl) (by simp) ?_
            refine AllReadyH.cons rfl (fun K hK => ?_) AllReadyH.nil
            go_simp
            obtain ⟨c0, c1, c2, c3, c4⟩ := YHN23.out.cells5
            have cf0 := YHN23.out.free 0
            have cf1 := YHN23.out.free 1
            have cf2 := YHN23.out.free 2
            have cf3 := YHN23.out.free 3
            have cf4 := YHN23.out.free 4
            go_simp
            obtain ⟨wr24, hwr24⟩ : ∃ W, Hid (W = (((((wr23.setCell ⟨wr22.heap.size, 0, none⟩ (.int .i64 ID)).setCell ⟨wr22.heap.size, 1, none⟩ (.bool UP)).setCell ⟨wr22.heap.size, 2, none⟩ (.int .i64 ROOM)).setCell ⟨wr22.heap.size, 3, none⟩ (.slice a22 RS.length cp22)).setCell ⟨wr22.heap.size, 4, none⟩ (.int .i64 F))) := ⟨_, rfl⟩
            have NE24 := ne_hw YHN23.out YW23.out
            have Z24 : Hid (wr22.heap.size ≤ wr24.heap.size) := Nat.le_trans Z23.out (Nat.le_of_eq (by rw [hwr24.out]; simp))
            have YH24 : Hid (Blk wr24 wr22.heap.size #[.int .i64 ID, .bool UP, .int .i64 ROOM, .slice a22 RS.length cp22, .int .i64 F] 34) := by show Blk _ _ _ _; rw [hwr24.out]; exact blk_h5 YHN23.out
            have YW24 : Hid (Blk wr24 wr2.heap.size #[.int .i64 0, .int .i64 0, .int .i64 0, .int .i64 0] 35) := by show Blk _ _ _ _; rw [hwr24.out]; exact blk_h5o YW23.out (fun e => NE24 e.symm)
            have O24 : Hid (OwnRecs wr24 wr21.heap.size wr22.heap.size (.slice a22 RS.length cp22) ps22) := by show OwnRecs _ _ _ _ _; rw [hwr24.out]; exact own_h5 O23.out YHN23.out
            have L24 : Hid (Below w1.heap.size w1 wr24) := by show Below _ _ _; rw [hwr24.out]; exact bel_h5 L23.out BYH23.out
            rw [← hwr24.out]
            clear c0 cf0 c1 cf1 c2 cf2 c3 cf3 c4 cf4
            try dsimp only
            refine hK.out _ _ (KK.out _ L24.out) (fun hHeld => ?_)
            clear hK K
            refine wpAnyH_ready (rs := [12]) (by kernel_rfl) (by simp) ?_
            refine AllReadyH.cons rfl (fun K hK => ?_) AllReadyH.nil
            go_simp
            obtain ⟨c0, c1, c2, c3⟩ := YW24.out.cells4
            have cf0 := YW24.out.free 0
            have cf1 := YW24.out.free 1
            have cf2 := YW24.out.free 2
            have cf3 := YW24.out.free 3
            go_simp
            obtain ⟨wr25, hwr25⟩ : ∃ W, Hid (W = ((((wr24.setCell ⟨wr2.heap.size, 0, none⟩ (.int .i64 X1)).setCell ⟨wr2.heap.size, 1, none⟩ (.int .i64 X2)).setCell ⟨wr2.heap.size, 2, none⟩ (.int .i64 X3)).setCell ⟨wr2.heap.size, 3, none⟩ (.int .i64 0))) := ⟨_, rfl⟩
            have Z25 : Hid (wr22.heap.size ≤ wr25.heap.size) := Nat.le_trans Z24.out (Nat.le_of_eq (by rw [hwr25.out]; simp))
            have NEX25 : wr22.heap.size ≠ wr2.heap.size := NE24
            have YW25 : Hid (Blk wr25 wr2.heap.size #[.int .i64 X1, .int .i64 X2, .int .i64 X3, .int .i64 0] 35) := by show Blk _ _ _ _; rw [hwr25.out]; exact blk_w4 YW24.out
            have YH25 : Hid (Blk wr25 wr22.heap.size #[.int .i64 ID, .bool UP, .int .i64 ROOM, .slice a22 RS.length cp22, .int .i64 F] 34) := by show Blk _ _ _ _; rw [hwr25.out]; exact blk_w4o YH24.out NEX25
            have O25 : Hid (OwnRecs wr25 wr21.heap.size wr22.heap.size (.slice a22 RS.length cp22) ps22) := by show OwnRecs _ _ _ _ _; rw [hwr25.out]; exact own_w4 O24.out YW24.out
            have L25 : Hid (Below w1.heap.size w1 wr25) := by show Below _ _ _; rw [hwr25.out]; exact bel_w4 L24.out BYW21.out
            rw [← hwr25.out]
            clear c0 cf0 c1 cf1 c2 cf2 c3 cf3
            try dsimp only
            refine hK.out _ _ (KK.out _ L25.out) (fun hHeld => ?_)
            clear hK K
            refine takeD (i := 13) (v := ?_) (some 8) rfl rfl (by kernel_rfl) (by kernel_rfl) (by kernel_rfl) (fun _ _ _ h => h) (by rfl) hHeld ?_ ?_
            rotate_left
            · intro W hSw
              try dsimp only at hSw
              go_simp
              try with_reducible rfl
            try simp only [Act.put]
            try simp only [List.setIfInBounds_toArray]
            try simp only [List.set_cons_succ]
            try simp only [List.set_cons_zero]
            refine wpAnyH_done (by kernel_rfl) ?_ _
            go_wp2_with fail
            go_meet
            case rel => exact ⟨_, _, a22, cp22, ps22, _, _, rfl, rfl, rfl, P22, hide_it ⟨L25.out, YH25.out, YW25.out, O25.out, BYH23.out, BYW21.out, Or.inr ZZ22.out, Or.inl AW22.out, LL22.out, Z25.out⟩⟩
          · go_simp
            obtain ⟨wr26, hwr26⟩ : ∃ W, Hid (W = wr21.alloc (.cells #[.int .i64 0, .bool false, .int .i64 0, .slice none 0 0, .int .i64 0] 34)) := ⟨_, rfl⟩
            have al26 : Below wr21.heap.size wr21 wr26 := by rw [hwr26.out]; exact alloc_below _ _
            have YHN26 : Hid (Blk wr26 wr21.heap.size #[.int .i64 0, .bool false, .int .i64 0, .slice none 0 0, .int .i64 0] 34) := by show Blk _ _ _ _; rw [hwr26.out]; exact Blk.new _ _ _
            have BYH26 : Hid (w1.heap.size ≤ wr21.heap.size) := L21.out.size
            have YW26 := hide_it (YWN21.out.after al26)
            have V26 := hide_it (V21.out.later al26 (Nat.le_refl _))
            have L26 : Hid (Below w1.heap.size w1 wr26) := L21.out.trans (al26.mono L21.out.size)
            clear al26
            rw [← hwr26.out]
            try dsimp only
            refine hK.out _ _ (KK.out _ L26.out) (fun hHeld => ?_)
            clear hK K
            refine wpAnyH_ready (rs := [4]) (by kernel_rfl) (by simp) ?_
            refine AllReadyH.cons rfl (fun K hK => ?_) AllReadyH.nil
            go_simp
            refine (HSP.out _ wr26 V26.out).mono ?_
            rintro e wr27 ⟨a27, cp27, rfl, hm27, hb27⟩
            obtain ⟨ps27, hp27, ho27⟩ := hm27
            have P27 := hide_it hp27
            have OO27 := hide_it ho27
            have ZZ27 : Hid (wr27.heap.size ≤ wr27.heap.size) := Nat.le_refl _
            have LL27 : Hid (w1.heap.size ≤ wr26.heap.size) := L26.out.size
            have AH27 : Hid (wr21.heap.size < wr26.heap.size) := YHN26.out.lt
            have AW27 : Hid (wr2.heap.size < wr26.heap.size) := YW26.out.lt
            have YH27 := hide_it (YHN26.out.after hb27)
            have YW27 := hide_it (YW26.out.after hb27)
            have V27 := hide_it (V26.out.later hb27 (Nat.le_refl _))
            have L27 : Hid (Below w1.heap.size w1 wr27) := L26.out.trans (hb27.mono L26.out.size)
            clear hb27 hp27 ho27
            try dsimp only
            refine hK.out _ _ (KK.out _ L27.out) (fun hHeld => ?_)
            clear hK K
            refine takeD (i := 5) (v := ?_) (some 24) rfl rfl (by kernel_rfl) (by kernel_rfl) (by kernel_rfl) (fun _ _ _ h => h) (by rfl) hHeld ?_ ?_
            rotate_left
            · intro W hSw
              try dsimp only at hSw
              go_simp
              try with_reducible rfl
            try simp only [Act.put]
            try simp only [List.setIfInBounds_toArray]
            try simp only [List.set_cons_succ]
            try simp only [List.set_cons_zero]
            refine takeD (i := 6) (v := ?_) (some 30) rfl rfl (by kernel_rfl) (by kernel_rfl) (by kernel_rfl) (fun _ _ _ h => h) (by rfl) hHeld ?_ ?_
            rotate_left
            · intro W hSw
              try dsimp only at hSw
              go_simp
              try with_reducible rfl
            try simp only [Act.put]
            try simp only [List.setIfInBounds_toArray]
            try simp only [List.set_cons_succ]
            try simp only [List.set_cons_zero]
            refine takeD (i := 7) (v := ?_) (some 31) rfl rfl (by kernel_rfl) (by kernel_rfl) (by kernel_rfl) (fun _ _ _ h => h) (by rfl) hHeld ?_ ?_
            rotate_left
            · intro W hSw
              try dsimp only at hSw
              go_simp
              try with_reducible rfl
            try simp only [Act.put]
            try simp only [List.setIfInBounds_toArray]
            try simp only [List.set_cons_succ]
            try simp only [List.set_cons_zero]
            refine takeD (i := 8) (v := ?_) (some 32) rfl rfl (by kernel_rfl) (by kernel_rfl) (by kernel_rfl) (fun _ _ _ h => h) (by rfl) hHeld ?_ ?_
            rotate_left
            · intro W hSw
              try dsimp only at hSw
              go_simp
              try with_reducible rfl
            try simp only [Act.put]
            try simp only [List.setIfInBounds_toArray]
            try simp only [List.set_cons_succ]
            try simp only [List.set_cons_zero]
            refine wpAnyH_ready (rs := [11]) (by kernel_rfl) (by simp) ?_
            refine AllReadyH.cons rfl (fun K hK => ?_) AllReadyH.nil
            go_simp
            obtain ⟨c0, c1, c2, c3, c4⟩ := YH27.out.cells5
            have cf0 := YH27.out.free 0
            have cf1 := YH27.out.free 1
            have cf2 := YH27.out.free 2
            have cf3 := YH27.out.free 3
            have cf4 := YH27.out.free 4
            go_simp
            obtain ⟨wr28, hwr28⟩ : ∃ W, Hid (W = (((((wr27.setCell ⟨wr21.heap.size, 0, none⟩ (.int .i64 ID)).setCell ⟨wr21.heap.size, 1, none⟩ (.bool UP)).setCell ⟨wr21.heap.size, 2, none⟩ (.int .i64 ROOM)).setCell ⟨wr21.heap.size, 3, none⟩ (.slice a27 RS.length cp27)).setCell ⟨wr21.heap.size, 4, none⟩ (.int .i64 F))) := ⟨_, rfl⟩
            have NE28 := ne_hw YH27.out YW27.out
            have Z28 : Hid (wr27.heap.size ≤ wr28.heap.size) := Nat.le_trans ZZ27.out (Nat.le_of_eq (by rw [hwr28.out]; simp))
            have YH28 : Hid (Blk wr28 wr21.heap.size #[.int .i64 ID, .bool UP, .int .i64 ROOM, .slice a27 RS.length cp27, .int .i64 F] 34) := by show Blk _ _ _ _; rw [hwr28.out]; exact blk_h5 YH27.out
            have YW28 : Hid (Blk wr28 wr2.heap.size #[.int .i64 0, .int .i64 0, .int .i64 0, .int .i64 0] 35) := by show Blk _ _ _ _; rw [hwr28.out]; exact blk_h5o YW27.out (fun e => NE28 e.symm)
            have O28 : Hid (OwnRecs wr28 wr26.heap.size wr27.heap.size (.slice a27 RS.length cp27) ps27) := by show OwnRecs _ _ _ _ _; rw [hwr28.out]; exact own_h5 OO27.out YH27.out
            have L28 : Hid (Below w1.heap.size w1 wr28) := by show Below _ _ _; rw [hwr28.out]; exact bel_h5 L27.out BYH26.out
            rw [← hwr28.out]
            clear c0 cf0 c1 cf1 c2 cf2 c3 cf3 c4 cf4
            try dsimp only
            refine hK.out _ _ (KK.out _ L28.out) (fun hHeld => ?_)
            clear hK K
            refine wpAnyH_ready (rs := [12]) (by kernel_rfl) (by simp) ?_
            refine AllReadyH.cons rfl (fun K hK => ?_) AllReadyH.nil
            go_simp
            obtain ⟨c0, c1, c2, c3⟩ := YW28.out.cells4
            have cf0 := YW28.out.free 0
            have cf1 := YW28.out.free 1
            have cf2 := YW28.out.free 2
            have cf3 := YW28.out.free 3
            go_simp
            obtain ⟨wr29, hwr29⟩ : ∃ W, Hid (W = ((((wr28.setCell ⟨wr2.heap.size, 0, none⟩ (.int .i64 X1)).setCell ⟨wr2.heap.size, 1, none⟩ (.int .i64 X2)).setCell ⟨wr2.heap.size, 2, none⟩ (.int .i64 X3)).setCell ⟨wr2.heap.size, 3, none⟩ (.int .i64 0))) := ⟨_, rfl⟩
            have Z29 : Hid (wr27.heap.size ≤ wr29.heap.size) := Nat.le_trans Z28.out (Nat.le_of_eq (by rw [hwr29.out]; simp))
            have NEX29 : wr21.heap.size ≠ wr2.heap.size := NE28
            have YW29 : Hid (Blk wr29 wr2.heap.size #[.int .i64 X1, .int .i64 X2, .int .i64 X3, .int .i64 0] 35) := by show Blk _ _ _ _; rw [hwr29.out]; exact blk_w4 YW28.out
            have YH29 : Hid (Blk wr29 wr21.heap.size #[.int .i64 ID, .bool UP, .int .i64 ROOM, .slice a27 RS.length cp27, .int .i64 F] 34) := by show Blk _ _ _ _; rw [hwr29.out]; exact blk_w4o YH28.out NEX29
            have O29 : Hid (OwnRecs wr29 wr26.heap.size wr27.heap.size (.slice a27 RS.length cp27) ps27) := by show OwnRecs _ _ _ _ _; rw [hwr29.out]; exact own_w4 O28.out YW28.out
            have L29 : Hid (Below w1.heap.size w1 wr29) := by show Below _ _ _; rw [hwr29.out]; exact bel_w4 L28.out BYW21.out
            rw [← hwr29.out]
            clear c0 cf0 c1 cf1 c2 cf2 c3 cf3
            try dsimp only
            refine hK.out _ _ (KK.out _ L29.out) (fun hHeld => ?_)
            clear hK K
            refine takeD (i := 13) (v := ?_) (some 8) rfl rfl (by kernel_rfl) (by kernel_rfl) (by kernel_rfl) (fun _ _ _ h => h) (by rfl) hHeld ?_ ?_
            rotate_left
            · intro W hSw
              try dsimp only at hSw
              go_simp
              try with_reducible rfl
            try simp only [Act.put]
            try simp only [List.setIfInBounds_toArray]
            try simp only [List.set_cons_succ]
            try simp only [List.set_cons_zero]
            refine wpAnyH_done (by kernel_rfl) ?_ _
            go_wp2_with fail
            go_meet
            case rel => exact ⟨_, _, a27, cp27, ps27, _, _, rfl, rfl, rfl, P27, hide_it ⟨L29.out, YH29.out, YW29.out, O29.out, BYH26.out, BYW21.out, Or.inl AH27.out, Or.inl AW27.out, LL27.out, Z29.out⟩⟩
      · go_simp
        obtain ⟨wr30, hwr30⟩ : ∃ W, Hid (W = wr1.alloc (.cells #[.int .i64 0, .bool false, .int .i64 0, .slice none 0 0, .int .i64 0] 34)) := ⟨_, rfl⟩
        have al30 : Below wr1.heap.size wr1 wr30 := by rw [hwr30.out]; exact alloc_below _ _
        have YHN30 : Hid (Blk wr30 wr1.heap.size #[.int .i64 0, .bool false, .int .i64 0, .slice none 0 0, .int .i64 0] 34) := by show Blk _ _ _ _; rw [hwr30.out]; exact Blk.new _ _ _
        have BYH30 : Hid (w1.heap.size ≤ wr1.heap.size) := L1.out.size
        have V30 := hide_it (VV1.out.later al30 (Nat.le_refl _))
        have L30 : Hid (Below w1.heap.size w1 wr30) := L1.out.trans (al30.mono L1.out.size)
        clear al30
        rw [← hwr30.out]
        try dsimp only
        refine hK.out _ _ (KK.out _ L30.out) (fun hHeld => ?_)
        clear hK K
        refine wpAnyH_ready (rs := [3, 10]) (by kernel_rfl) (by simp) ?_
        refine AllReadyH.cons rfl (fun K hK => ?_) (AllReadyH.cons rfl (fun K hK => ?_) AllReadyH.nil)
        · go_simp
          refine (toWord_any k h t m wr30).mono ?_
          rintro e wr31 ⟨rfl, hb31⟩
          have YH31 := hide_it (YHN30.out.after hb31)
          have V31 := hide_it (V30.out.later hb31 (Nat.le_refl _))
          have L31 : Hid (Below w1.heap.size w1 wr31) := L30.out.trans (hb31.mono L30.out.size)
          clear hb31
          try dsimp only
          refine hK.out _ _ (KK.out _ L31.out) (fun hHeld => ?_)
          clear hK K
          refine wpAnyH_ready (rs := [4, 10]) (by kernel_rfl) (by simp) ?_
          refine AllReadyH.cons rfl (fun K hK => ?_) (AllReadyH.cons rfl (fun K hK => ?_) AllReadyH.nil)
          · go_simp
            refine (HSP.out _ wr31 V31.out).mono ?_
            rintro e wr32 ⟨a32, cp32, rfl, hm32, hb32⟩
            obtain ⟨ps32, hp32, ho32⟩ := hm32
            have P32 := hide_it hp32
            have OO32 := hide_it ho32
            have ZZ32 : Hid (wr32.heap.size ≤ wr32.heap.size) := Nat.le_refl _
            have LL32 : Hid (w1.heap.size ≤ wr31.heap.size) := L31.out.size
            have AH32 : Hid (wr1.heap.size < wr31.heap.size) := YH31.out.lt
            have YH32 := hide_it (YH31.out.after hb32)
            have V32 := hide_it (V31.out.later hb32 (Nat.le_refl _))
            have L32 : Hid (Below w1.heap.size w1 wr32) := L31.out.trans (hb32.mono L31.out.size)
            clear hb32 hp32 ho32
            try dsimp only
            refine hK.out _ _ (KK.out _ L32.out) (fun hHeld => ?_)
            clear hK K
            refine takeD (i := 5) (v := ?_) (some 24) rfl rfl (by kernel_rfl) (by kernel_rfl) (by kernel_rfl) (fun _ _ _ h => h) (by rfl) hHeld ?_ ?_
            rotate_left
            · intro W hSw
              try dsimp only at hSw
              go_simp
              try with_reducible rfl
            try simp only [Act.put]
            try simp only [List.setIfInBounds_toArray]
            try simp only [List.set_cons_succ]
            try simp only [List.set_cons_zero]
            refine takeD (i := 6) (v := ?_) (some 30) rfl rfl (by kernel_rfl) (by kernel_rfl) (by kernel_rfl) (fun _ _ _ h => h) (by rfl) hHeld ?_ ?_
            rotate_left
            · intro W hSw
              try dsimp only at hSw
              go_simp
              try with_reducible rfl
            try simp only [Act.put]
            try simp only [List.setIfInBounds_toArray]
            try simp only [List.set_cons_succ]
            try simp only [List.set_cons_zero]
            refine takeD (i := 7) (v := ?_) (some 31) rfl rfl (by kernel_rfl) (by kernel_rfl) (by kernel_rfl) (fun _ _ _ h => h) (by rfl) hHeld ?_ ?_
            rotate_left
            · intro W hSw
              try dsimp only at hSw
              go_simp
              try with_reducible rfl
            try simp only [Act.put]
            try simp only [List.setIfInBounds_toArray]
            try simp only [List.set_cons_succ]
            try simp only [List.set_cons_zero]
            refine takeD (i := 8) (v := ?_) (some 32) rfl rfl (by kernel_rfl) (by kernel_rfl) (by kernel_rfl) (fun _ _ _ h => h) (by rfl) hHeld ?_ ?_
            rotate_left
            · intro W hSw
              try dsimp only at hSw
              go_simp
              try with_reducible rfl
            try simp only [Act.put]
            try simp only [List.setIfInBounds_toArray]
            try simp only [List.set_cons_succ]
            try simp only [List.set_cons_zero]
            refine wpAnyH_ready (rs := [10]) (by kernel_rfl) (by simp) ?_
            refine AllReadyH.cons rfl (fun K hK => ?_) AllReadyH.nil
            go_simp
            obtain ⟨wr33, hwr33⟩ : ∃ W, Hid (W = wr32.alloc (.cells #[.int .i64 0, .int .i64 0, .int .i64 0, .int .i64 0] 35)) := ⟨_, rfl⟩
            have al33 : Below wr32.heap.size wr32 wr33 := by rw [hwr33.out]; exact alloc_below _ _
            have YWN33 : Hid (Blk wr33 wr32.heap.size #[.int .i64 0, .int .i64 0, .int .i64 0, .int .i64 0] 35) := by show Blk _ _ _ _; rw [hwr33.out]; exact Blk.new _ _ _
            have BYW33 : Hid (w1.heap.size ≤ wr32.heap.size) := L32.out.size
            have YH33 := hide_it (YH32.out.after al33)
            have V33 := hide_it (V32.out.later al33 (Nat.le_refl _))
            have O33 := hide_it (OO32.out.below al33 ZZ32.out)
            have Z33 : Hid (wr32.heap.size ≤ wr33.heap.size) := Nat.le_trans ZZ32.out al33.size
            have L33 : Hid (Below w1.heap.size w1 wr33) := L32.out.trans (al33.mono L32.out.size)
            clear al33
            rw [← hwr33.out]
            try dsimp only
            refine hK.out _ _ (KK.out _ L33.out) (fun hHeld => ?_)
            clear hK K
            refine wpAnyH_ready (rs := [11]) (by kernel_rfl) (by simp) ?_
            refine AllReadyH.cons rfl (fun K hK => ?_) AllReadyH.nil
            go_simp
            obtain ⟨c0, c1, c2, c3, c4⟩ := YH33.out.cells5
            have cf0 := YH33.out.free 0
            have cf1 := YH33.out.free 1
            have cf2 := YH33.out.free 2
            have cf3 := YH33.out.free 3
            have cf4 := YH33.out.free 4
            go_simp
            obtain ⟨wr34, hwr34⟩ : ∃ W, Hid (W = (((((wr33.setCell ⟨wr1.heap.size, 0, none⟩ (.int .i64 ID)).setCell ⟨wr1.heap.size, 1, none⟩ (.bool UP)).setCell ⟨wr1.heap.size, 2, none⟩ (.int .i64 ROOM)).setCell ⟨wr1.heap.size, 3, none⟩ (.slice a32 RS.length cp32)).setCell ⟨wr1.heap.size, 4, none⟩ (.int .i64 F))) := ⟨_, rfl⟩
            have NE34 := ne_hw YH33.out YWN33.out
            have Z34 : Hid (wr32.heap.size ≤ wr34.heap.size) := Nat.le_trans Z33.out (Nat.le_of_eq (by rw [hwr34.out]; simp))
            have YH34 : Hid (Blk wr34 wr1.heap.size #[.int .i64 ID, .bool UP, .int .i64 ROOM, .slice a32 RS.length cp32, .int .i64 F] 34) := by show Blk _ _ _ _; rw [hwr34.out]; exact blk_h5 YH33.out
            have YW34 : Hid (Blk wr34 wr32.heap.size #[.int .i64 0, .int .i64 0, .int .i64 0, .int .i64 0] 35) := by show Blk _ _ _ _; rw [hwr34.out]; exact blk_h5o YWN33.out (fun e => NE34 e.symm)
            have O34 : Hid (OwnRecs wr34 wr31.heap.size wr32.heap.size (.slice a32 RS.length cp32) ps32) := by show OwnRecs _ _ _ _ _; rw [hwr34.out]; exact own_h5 O33.out YH33.out
            have L34 : Hid (Below w1.heap.size w1 wr34) := by show Below _ _ _; rw [hwr34.out]; exact bel_h5 L33.out BYH30.out
            rw [← hwr34.out]
            clear c0 cf0 c1 cf1 c2 cf2 c3 cf3 c4 cf4
            try dsimp only
            refine hK.out _ _ (KK.out _ L34.out) (fun hHeld => ?_)
            clear hK K
            refine wpAnyH_ready (rs := [12]) (by kernel_rfl) (by simp) ?_
            refine AllReadyH.cons rfl (fun K hK => ?_) AllReadyH.nil
            go_simp
            obtain ⟨c0, c1, c2, c3⟩ := YW34.out.cells4
            have cf0 := YW34.out.free 0
            have cf1 := YW34.out.free 1
            have cf2 := YW34.out.free 2
            have cf3 := YW34.out.free 3
            go_simp
            obtain ⟨wr35, hwr35⟩ : ∃ W, Hid (W = ((((wr34.setCell ⟨wr32.heap.size, 0, none⟩ (.int .i64 X1)).setCell ⟨wr32.heap.size, 1, none⟩ (.int .i64 X2)).setCell ⟨wr32.heap.size, 2, none⟩ (.int .i64 X3)).setCell ⟨wr32.heap.size, 3, none⟩ (.int .i64 0))) := ⟨_, rfl⟩
            have Z35 : Hid (wr32.heap.size ≤ wr35.heap.size) := Nat.le_trans Z34.out (Nat.le_of_eq (by rw [hwr35.out]; simp))
            have NEX35 : wr1.heap.size ≠ wr32.heap.size := NE34
            have YW35 : Hid (Blk wr35 wr32.heap.size #[.int .i64 X1, .int .i64 X2, .int .i64 X3, .int .i64 0] 35) := by show Blk _ _ _ _; rw [hwr35.out]; exact blk_w4 YW34.out
            have YH35 : Hid (Blk wr35 wr1.heap.size #[.int .i64 ID, .bool UP, .int .i64 ROOM, .slice a32 RS.length cp32, .int .i64 F] 34) := by show Blk _ _ _ _; rw [hwr35.out]; exact blk_w4o YH34.out NEX35
            have O35 : Hid (OwnRecs wr35 wr31.heap.size wr32.heap.size (.slice a32 RS.length cp32) ps32) := by show OwnRecs _ _ _ _ _; rw [hwr35.out]; exact own_w4 O34.out YW34.out
            have L35 : Hid (Below w1.heap.size w1 wr35) := by show Below _ _ _; rw [hwr35.out]; exact bel_w4 L34.out BYW33.out
            rw [← hwr35.out]
            clear c0 cf0 c1 cf1 c2 cf2 c3 cf3
            try dsimp only
            refine hK.out _ _ (KK.out _ L35.out) (fun hHeld => ?_)
            clear hK K
            refine takeD (i := 13) (v := ?_) (some 8) rfl rfl (by kernel_rfl) (by kernel_rfl) (by kernel_rfl) (fun _ _ _ h => h) (by rfl) hHeld ?_ ?_
            rotate_left
            · intro W hSw
              try dsimp only at hSw
              go_simp
              try with_reducible rfl
            try simp only [Act.put]
            try simp only [List.setIfInBounds_toArray]
            try simp only [List.set_cons_succ]
            try simp only [List.set_cons_zero]
            refine wpAnyH_done (by kernel_rfl) ?_ _
            go_wp2_with fail
            go_meet
            case rel => exact ⟨_, _, a32, cp32, ps32, _, _, rfl, rfl, rfl, P32, hide_it ⟨L35.out, YH35.out, YW35.out, O35.out, BYH30.out, BYW33.out, Or.inl AH32.out, Or.inr ZZ32.out, LL32.out, Z35.out⟩⟩
          · go_simp
            obtain ⟨wr36, hwr36⟩ : ∃ W, Hid (W = wr31.alloc (.cells #[.int .i64 0, .int .i64 0, .int .i64 0, .int .i64 0] 35)) := ⟨_, rfl⟩
            have al36 : Below wr31.heap.size wr31 wr36 := by rw [hwr36.out]; exact alloc_below _ _
            have YWN36 : Hid (Blk wr36 wr31.heap.size #[.int .i64 0, .int .i64 0, .int .i64 0, .int .i64 0] 35) := by show Blk _ _ _ _; rw [hwr36.out]; exact Blk.new _ _ _
            have BYW36 : Hid (w1.heap.size ≤ wr31.heap.size) := L31.out.size
            have YH36 := hide_it (YH31.out.after al36)
            have V36 := hide_it (V31.out.later al36 (Nat.le_refl _))
            have L36 : Hid (Below w1.heap.size w1 wr36) := L31.out.trans (al36.mono L31.out.size)
            clear al36
            rw [← hwr36.out]
            try dsimp only
            refine hK.out _ _ (KK.out _ L36.out) (fun hHeld => ?_)
            clear hK K
            refine wpAnyH_ready (rs := [4]) (by kernel_rfl) (by simp) ?_
            refine AllReadyH.cons rfl (fun K hK => ?_) AllReadyH.nil
            go_simp
            refine (HSP.out _ wr36 V36.out).mono ?_
            rintro e wr37 ⟨a37, cp37, rfl, hm37, hb37⟩
            obtain ⟨ps37, hp37, ho37⟩ := hm37
            have P37 := hide_it hp37
            have OO37 := hide_it ho37
            have ZZ37 : Hid (wr37.heap.size ≤ wr37.heap.size) := Nat.le_refl _
            have LL37 : Hid (w1.heap.size ≤ wr36.heap.size) := L36.out.size
            have AH37 : Hid (wr1.heap.size < wr36.heap.size) := YH36.out.lt
            have AW37 : Hid (wr31.heap.size < wr36.heap.size) := YWN36.out.lt
            have YH37 := hide_it (YH36.out.after hb37)
            have YW37 := hide_it (YWN36.out.after hb37)
            have V37 := hide_it (V36.out.later hb37 (Nat.le_refl _))
            have L37 : Hid (Below w1.heap.size w1 wr37) := L36.out.trans (hb37.mono L36.out.size)
            clear hb37 hp37 ho37
            try dsimp only
            refine hK.out _ _ (KK.out _ L37.out) (fun hHeld => ?_)
            clear hK K
            refine takeD (i := 5) (v := ?_) (some 24) rfl rfl (by kernel_rfl) (by kernel_rfl) (by kernel_rfl) (fun _ _ _ h => h) (by rfl) hHeld ?_ ?_
            rotate_left
            · intro W hSw
              try dsimp only at hSw
              go_simp
              try with_reducible rfl
            try simp only [Act.put]
            try simp only [List.setIfInBounds_toArray]
            try simp only [List.set_cons_succ]
            try simp only [List.set_cons_zero]
            refine takeD (i := 6) (v := ?_) (some 30) rfl rfl (by kernel_rfl) (by kernel_rfl) (by kernel_rfl) (fun _ _ _ h => h) (by rfl) hHeld ?_ ?_
            rotate_left
            · intro W hSw
              try dsimp only at hSw
              go_simp
              try with_reducible rfl
            try simp only [Act.put]
            try simp only [List.setIfInBounds_toArray]
            try simp only [List.set_cons_succ]
            try simp only [List.set_cons_zero]
            refine takeD (i := 7) (v := ?_) (some 31) rfl rfl (by kernel_rfl) (by kernel_rfl) (by kernel_rfl) (fun _ _ _ h => h) (by rfl) hHeld ?_ ?_
            rotate_left
            · intro W hSw
              try dsimp only at hSw
              go_simp
              try with_reducible rfl
            try simp only [Act.put]
            try simp only [List.setIfInBounds_toArray]
            try simp only [List.set_cons_succ]
            try simp only [List.set_cons_zero]
            refine takeD (i := 8) (v := ?_) (some 32) rfl rfl (by kernel_rfl) (by kernel_rfl) (by kernel_rfl) (fun _ _ _ h => h) (by rfl) hHeld ?_ ?_
            rotate_left
            · intro W hSw
              try dsimp only at hSw
              go_simp
              try with_reducible rfl
            try simp only [Act.put]
            try simp only [List.setIfInBounds_toArray]
            try simp only [List.set_cons_succ]
            try simp only [List.set_cons_zero]
            refine wpAnyH_ready (rs := [11]) (by kernel_rfl) (by simp) ?_
            refine AllReadyH.cons rfl (fun K hK => ?_) AllReadyH.nil
            go_simp
            obtain ⟨c0, c1, c2, c3, c4⟩ := YH37.out.cells5
            have cf0 := YH37.out.free 0
            have cf1 := YH37.out.free 1
            have cf2 := YH37.out.free 2
            have cf3 := YH37.out.free 3
            have cf4 := YH37.out.free 4
            go_simp
            obtain ⟨wr38, hwr38⟩ : ∃ W, Hid (W = (((((wr37.setCell ⟨wr1.heap.size, 0, none⟩ (.int .i64 ID)).setCell ⟨wr1.heap.size, 1, none⟩ (.bool UP)).setCell ⟨wr1.heap.size, 2, none⟩ (.int .i64 ROOM)).setCell ⟨wr1.heap.size, 3, none⟩ (.slice a37 RS.length cp37)).setCell ⟨wr1.heap.size, 4, none⟩ (.int .i64 F))) := ⟨_, rfl⟩
            have NE38 := ne_hw YH37.out YW37.out
            have Z38 : Hid (wr37.heap.size ≤ wr38.heap.size) := Nat.le_trans ZZ37.out (Nat.le_of_eq (by rw [hwr38.out]; simp))
            have YH38 : Hid (Blk wr38 wr1.heap.size #[.int .i64 ID, .bool UP, .int .i64 ROOM, .slice a37 RS.length cp37, .int .i64 F] 34) := by show Blk _ _ _ _; rw [hwr38.out]; exact blk_h5 YH37.out
            have YW38 : Hid (Blk wr38 wr31.heap.size #[.int .i64 0, .int .i64 0, .int .i64 0, .int .i64 0] 35) := by show Blk _ _ _ _; rw [hwr38.out]; exact blk_h5o YW37.out (fun e => NE38 e.symm)
            have O38 : Hid (OwnRecs wr38 wr36.heap.size wr37.heap.size (.slice a37 RS.length cp37) ps37) := by show OwnRecs _ _ _ _ _; rw [hwr38.out]; exact own_h5 OO37.out YH37.out
            have L38 : Hid (Below w1.heap.size w1 wr38) := by show Below _ _ _; rw [hwr38.out]; exact bel_h5 L37.out BYH30.out
            rw [← hwr38.out]
            clear c0 cf0 c1 cf1 c2 cf2 c3 cf3 c4 cf4
            try dsimp only
            refine hK.out _ _ (KK.out _ L38.out) (fun hHeld => ?_)
            clear hK K
            refine wpAnyH_ready (rs := [12]) (by kernel_rfl) (by simp) ?_
            refine AllReadyH.cons rfl (fun K hK => ?_) AllReadyH.nil
            go_simp
            obtain ⟨c0, c1, c2, c3⟩ := YW38.out.cells4
            have cf0 := YW38.out.free 0
            have cf1 := YW38.out.free 1
            have cf2 := YW38.out.free 2
            have cf3 := YW38.out.free 3
            go_simp
            obtain ⟨wr39, hwr39⟩ : ∃ W, Hid (W = ((((wr38.setCell ⟨wr31.heap.size, 0, none⟩ (.int .i64 X1)).setCell ⟨wr31.heap.size, 1, none⟩ (.int .i64 X2)).setCell ⟨wr31.heap.size, 2, none⟩ (.int .i64 X3)).setCell ⟨wr31.heap.size, 3, none⟩ (.int .i64 0))) := ⟨_, rfl⟩
            have Z39 : Hid (wr37.heap.size ≤ wr39.heap.size) := Nat.le_trans Z38.out (Nat.le_of_eq (by rw [hwr39.out]; simp))
            have NEX39 : wr1.heap.size ≠ wr31.heap.size := NE38
            have YW39 : Hid (Blk wr39 wr31.heap.size #[.int .i64 X1, .int .i64 X2, .int .i64 X3, .int .i64 0] 35) := by show Blk _ _ _ _; rw [hwr39.out]; exact blk_w4 YW38.out
            have YH39 : Hid (Blk wr39 wr1.heap.size #[.int .i64 ID, .bool UP, .int .i64 ROOM, .slice a37 RS.length cp37, .int .i64 F] 34) := by show Blk _ _ _ _; rw [hwr39.out]; exact blk_w4o YH38.out NEX39
            have O39 : Hid (OwnRecs wr39 wr36.heap.size wr37.heap.size (.slice a37 RS.length cp37) ps37) := by show OwnRecs _ _ _ _ _; rw [hwr39.out]; exact own_w4 O38.out YW38.out
            have L39 : Hid (Below w1.heap.size w1 wr39) := by show Below _ _ _; rw [hwr39.out]; exact bel_w4 L38.out BYW36.out
            rw [← hwr39.out]
            clear c0 cf0 c1 cf1 c2 cf2 c3 cf3
            try dsimp only
            refine hK.out _ _ (KK.out _ L39.out) (fun hHeld => ?_)
            clear hK K
            refine takeD (i := 13) (v := ?_) (some 8) rfl rfl (by kernel_rfl) (by kernel_rfl) (by kernel_rfl) (fun _ _ _ h => h) (by rfl) hHeld ?_ ?_
            rotate_left
            · intro W hSw
              try dsimp only at hSw
              go_simp
              try with_reducible rfl
            try simp only [Act.put]
            try simp only [List.setIfInBounds_toArray]
            try simp only [List.set_cons_succ]
            try simp only [List.set_cons_zero]
            refine wpAnyH_done (by kernel_rfl) ?_ _
            go_wp2_with fail
            go_meet
            case rel => exact ⟨_, _, a37, cp37, ps37, _, _, rfl, rfl, rfl, P37, hide_it ⟨L39.out, YH39.out, YW39.out, O39.out, BYH30.out, BYW36.out, Or.inl AH37.out, Or.inl AW37.out, LL37.out, Z39.out⟩⟩
        · go_simp
          obtain ⟨wr40, hwr40⟩ : ∃ W, Hid (W = wr30.alloc (.cells #[.int .i64 0, .int .i64 0, .int .i64 0, .int .i64 0] 35)) := ⟨_, rfl⟩
          have al40 : Below wr30.heap.size wr30 wr40 := by rw [hwr40.out]; exact alloc_below _ _
          have YWN40 : Hid (Blk wr40 wr30.heap.size #[.int .i64 0, .int .i64 0, .int .i64 0, .int .i64 0] 35) := by show Blk _ _ _ _; rw [hwr40.out]; exact Blk.new _ _ _
          have BYW40 : Hid (w1.heap.size ≤ wr30.heap.size) := L30.out.size
          have YH40 := hide_it (YHN30.out.after al40)
          have V40 := hide_it (V30.out.later al40 (Nat.le_refl _))
          have L40 : Hid (Below w1.heap.size w1 wr40) := L30.out.trans (al40.mono L30.out.size)
          clear al40
          rw [← hwr40.out]
          try dsimp only
          refine hK.out _ _ (KK.out _ L40.out) (fun hHeld => ?_)
          clear hK K
          refine wpAnyH_ready (rs := [3]) (by kernel_rfl) (by simp) ?_
          refine AllReadyH.cons rfl (fun K hK => ?_) AllReadyH.nil
          go_simp
          refine (toWord_any k h t m wr40).mono ?_
          rintro e wr41 ⟨rfl, hb41⟩
          have YH41 := hide_it (YH40.out.after hb41)
          have YW41 := hide_it (YWN40.out.after hb41)
          have V41 := hide_it (V40.out.later hb41 (Nat.le_refl _))
          have L41 : Hid (Below w1.heap.size w1 wr41) := L40.out.trans (hb41.mono L40.out.size)
          clear hb41
          try dsimp only
          refine hK.out _ _ (KK.out _ L41.out) (fun hHeld => ?_)
          clear hK K
          refine wpAnyH_ready (rs := [4]) (by kernel_rfl) (by simp) ?_
          refine AllReadyH.cons rfl (fun K hK => ?_) AllReadyH.nil
          go_simp
          refine (HSP.out _ wr41 V41.out).mono ?_
          rintro e wr42 ⟨a42, cp42, rfl, hm42, hb42⟩
          obtain ⟨ps42, hp42, ho42⟩ := hm42
          have P42 := hide_it hp42
          have OO42 := hide_it ho42
          have ZZ42 : Hid (wr42.heap.size ≤ wr42.heap.size) := Nat.le_refl _
          have LL42 : Hid (w1.heap.size ≤ wr41.heap.size) := L41.out.size
          have AH42 : Hid (wr1.heap.size < wr41.heap.size) := YH41.out.lt
          have AW42 : Hid (wr30.heap.size < wr41.heap.size) := YW41.out.lt
          have YH42 := hide_it (YH41.out.after hb42)
          have YW42 := hide_it (YW41.out.after hb42)
          have V42 := hide_it (V41.out.later hb42 (Nat.le_refl _))
          have L42 : Hid (Below w1.heap.size w1 wr42) := L41.out.trans (hb42.mono L41.out.size)
          clear hb42 hp42 ho42
          try dsimp only
          refine hK.out _ _ (KK.out _ L42.out) (fun hHeld => ?_)
          clear hK K
          refine takeD (i := 5) (v := ?_) (some 24) rfl rfl (by kernel_rfl) (by kernel_rfl) (by kernel_rfl) (fun _ _ _ h => h) (by rfl) hHeld ?_ ?_
          rotate_left
          · intro W hSw
            try dsimp only at hSw
            go_simp
            try with_reducible rfl
          try simp only [Act.put]
          try simp only [List.setIfInBounds_toArray]
          try simp only [List.set_cons_succ]
          try simp only [List.set_cons_zero]
          refine takeD (i := 6) (v := ?_) (some 30) rfl rfl (by kernel_rfl) (by kernel_rfl) (by kernel_rfl) (fun _ _ _ h => h) (by rfl) hHeld ?_ ?_
          rotate_left
          · intro W hSw
            try dsimp only at hSw
            go_simp
            try with_reducible rfl
          try simp only [Act.put]
          try simp only [List.setIfInBounds_toArray]
          try simp only [List.set_cons_succ]
          try simp only [List.set_cons_zero]
          refine takeD (i := 7) (v := ?_) (some 31) rfl rfl (by kernel_rfl) (by kernel_rfl) (by kernel_rfl) (fun _ _ _ h => h) (by rfl) hHeld ?_ ?_
          rotate_left
          · intro W hSw
            try dsimp only at hSw
            go_simp
            try with_reducible rfl
          try simp only [Act.put]
          try simp only [List.setIfInBounds_toArray]
          try simp only [List.set_cons_succ]
          try simp only [List.set_cons_zero]
          refine takeD (i := 8) (v := ?_) (some 32) rfl rfl (by kernel_rfl) (by kernel_rfl) (by kernel_rfl) (fun _ _ _ h => h) (by rfl) hHeld ?_ ?_
          rotate_left
          · intro W hSw
            try dsimp only at hSw
            go_simp
            try with_reducible rfl
          try simp only [Act.put]
          try simp only [List.setIfInBounds_toArray]
          try simp only [List.set_cons_succ]
          try simp only [List.set_cons_zero]
          refine wpAnyH_ready (rs := [11]) (by kernel_rfl) (by simp) ?_
          refine AllReadyH.cons rfl (fun K hK => ?_) AllReadyH.nil
          go_simp
          obtain ⟨c0, c1, c2, c3, c4⟩ := YH42.out.cells5
          have cf0 := YH42.out.free 0
          have cf1 := YH42.out.free 1
          have cf2 := YH42.out.free 2
          have cf3 := YH42.out.free 3
          have cf4 := YH42.out.free 4
          go_simp
          obtain ⟨wr43, hwr43⟩ : ∃ W, Hid (W = (((((wr42.setCell ⟨wr1.heap.size, 0, none⟩ (.int .i64 ID)).setCell ⟨wr1.heap.size, 1, none⟩ (.bool UP)).setCell ⟨wr1.heap.size, 2, none⟩ (.int .i64 ROOM)).setCell ⟨wr1.heap.size, 3, none⟩ (.slice a42 RS.length cp42)).setCell ⟨wr1.heap.size, 4, none⟩ (.int .i64 F))) := ⟨_, rfl⟩
          have NE43 := ne_hw YH42.out YW42.out
          have Z43 : Hid (wr42.heap.size ≤ wr43.heap.size) := Nat.le_trans ZZ42.out (Nat.le_of_eq (by rw [hwr43.out]; simp))
          have YH43 : Hid (Blk wr43 wr1.heap.size #[.int .i64 ID, .bool UP, .int .i64 ROOM, .slice a42 RS.length cp42, .int .i64 F] 34) := by show Blk _ _ _ _; rw [hwr43.out]; exact blk_h5 YH42.out
          have YW43 : Hid (Blk wr43 wr30.heap.size #[.int .i64 0, .int .i64 0, .int .i64 0, .int .i64 0] 35) := by show Blk _ _ _ _; rw [hwr43.out]; exact blk_h5o YW42.out (fun e => NE43 e.symm)
          have O43 : Hid (OwnRecs wr43 wr41.heap.size wr42.heap.size (.slice a42 RS.length cp42) ps42) := by show OwnRecs _ _ _ _ _; rw [hwr43.out]; exact own_h5 OO42.out YH42.out
          have L43 : Hid (Below w1.heap.size w1 wr43) := by show Below _ _ _; rw [hwr43.out]; exact bel_h5 L42.out BYH30.out
          rw [← hwr43.out]
          clear c0 cf0 c1 cf1 c2 cf2 c3 cf3 c4 cf4
          try dsimp only
          refine hK.out _ _ (KK.out _ L43.out) (fun hHeld => ?_)
          clear hK K
          refine wpAnyH_ready (rs := [12]) (by kernel_rfl) (by simp) ?_
          refine AllReadyH.cons rfl (fun K hK => ?_) AllReadyH.nil
          go_simp
          obtain ⟨c0, c1, c2, c3⟩ := YW43.out.cells4
          have cf0 := YW43.out.free 0
          have cf1 := YW43.out.free 1
          have cf2 := YW43.out.free 2
          have cf3 := YW43.out.free 3
          go_simp
          obtain ⟨wr44, hwr44⟩ : ∃ W, Hid (W = ((((wr43.setCell ⟨wr30.heap.size, 0, none⟩ (.int .i64 X1)).setCell ⟨wr30.heap.size, 1, none⟩ (.int .i64 X2)).setCell ⟨wr30.heap.size, 2, none⟩ (.int .i64 X3)).setCell ⟨wr30.heap.size, 3, none⟩ (.int .i64 0))) := ⟨_, rfl⟩
          have Z44 : Hid (wr42.heap.size ≤ wr44.heap.size) := Nat.le_trans Z43.out (Nat.le_of_eq (by rw [hwr44.out]; simp))
          have NEX44 : wr1.heap.size ≠ wr30.heap.size := NE43
          have YW44 : Hid (Blk wr44 wr30.heap.size #[.int .i64 X1, .int .i64 X2, .int .i64 X3, .int .i64 0] 35) := by show Blk _ _ _ _; rw [hwr44.out]; exact blk_w4 YW43.out
          have YH44 : Hid (Blk wr44 wr1.heap.size #[.int .i64 ID, .bool UP, .int .i64 ROOM, .slice a42 RS.length cp42, .int .i64 F] 34) := by show Blk _ _ _ _; rw [hwr44.out]; exact blk_w4o YH43.out NEX44
          have O44 : Hid (OwnRecs wr44 wr41.heap.size wr42.heap.size (.slice a42 RS.length cp42) ps42) := by show OwnRecs _ _ _ _ _; rw [hwr44.out]; exact own_w4 O43.out YW43.out
          have L44 : Hid (Below w1.heap.size w1 wr44) := by show Below _ _ _; rw [hwr44.out]; exact bel_w4 L43.out BYW40.out
          rw [← hwr44.out]
          clear c0 cf0 c1 cf1 c2 cf2 c3 cf3
          try dsimp only
          refine hK.out _ _ (KK.out _ L44.out) (fun hHeld => ?_)
          clear hK K
          refine takeD (i := 13) (v := ?_) (some 8) rfl rfl (by kernel_rfl) (by kernel_rfl) (by kernel_rfl) (fun _ _ _ h => h) (by rfl) hHeld ?_ ?_
          rotate_left
          · intro W hSw
            try dsimp only at hSw
            go_simp
            try with_reducible rfl
          try simp only [Act.put]
          try simp only [List.setIfInBounds_toArray]
          try simp only [List.set_cons_succ]
          try simp only [List.set_cons_zero]
          refine wpAnyH_done (by kernel_rfl) ?_ _
          go_wp2_with fail
          go_meet
          case rel => exact ⟨_, _, a42, cp42, ps42, _, _, rfl, rfl, rfl, P42, hide_it ⟨L44.out, YH44.out, YW44.out, O44.out, BYH30.out, BYW40.out, Or.inl AH42.out, Or.inl AW42.out, LL42.out, Z44.out⟩⟩
      · go_simp
        obtain ⟨wr45, hwr45⟩ : ∃ W, Hid (W = wr1.alloc (.cells #[.int .i64 0, .int .i64 0, .int .i64 0, .int .i64 0] 35)) := ⟨_, rfl⟩
        have al45 : Below wr1.heap.size wr1 wr45 := by rw [hwr45.out]; exact alloc_below _ _
        have YWN45 : Hid (Blk wr45 wr1.heap.size #[.int .i64 0, .int .i64 0, .int .i64 0, .int .i64 0] 35) := by show Blk _ _ _ _; rw [hwr45.out]; exact Blk.new _ _ _
        have BYW45 : Hid (w1.heap.size ≤ wr1.heap.size) := L1.out.size
        have V45 := hide_it (VV1.out.later al45 (Nat.le_refl _))
        have L45 : Hid (Below w1.heap.size w1 wr45) := L1.out.trans (al45.mono L1.out.size)
        clear al45
        rw [← hwr45.out]
        try dsimp only
        refine hK.out _ _ (KK.out _ L45.out) (fun hHeld => ?_)
        clear hK K
        refine wpAnyH_ready (rs := [3, 9]) (by kernel_rfl) (by simp) ?_
        refine AllReadyH.cons rfl (fun K hK => ?_) (AllReadyH.cons rfl (fun K hK => ?_) AllReadyH.nil)
        · go_simp
          refine (toWord_any k h t m wr45).mono ?_
          rintro e wr46 ⟨rfl, hb46⟩
          have YW46 := hide_it (YWN45.out.after hb46)
          have V46 := hide_it (V45.out.later hb46 (Nat.le_refl _))
          have L46 : Hid (Below w1.heap.size w1 wr46) := L45.out.trans (hb46.mono L45.out.size)
          clear hb46
          try dsimp only
          refine hK.out _ _ (KK.out _ L46.out) (fun hHeld => ?_)
          clear hK K
          refine wpAnyH_ready (rs := [4, 9]) (by kernel_rfl) (by simp) ?_
          refine AllReadyH.cons rfl (fun K hK => ?_) (AllReadyH.cons rfl (fun K hK => ?_) AllReadyH.nil)
          · go_simp
            refine (HSP.out _ wr46 V46.out).mono ?_
            rintro e wr47 ⟨a47, cp47, rfl, hm47, hb47⟩
            obtain ⟨ps47, hp47, ho47⟩ := hm47
            have P47 := hide_it hp47
            have OO47 := hide_it ho47
            have ZZ47 : Hid (wr47.heap.size ≤ wr47.heap.size) := Nat.le_refl _
            have LL47 : Hid (w1.heap.size ≤ wr46.heap.size) := L46.out.size
            have AW47 : Hid (wr1.heap.size < wr46.heap.size) := YW46.out.lt
            have YW47 := hide_it (YW46.out.after hb47)
            have V47 := hide_it (V46.out.later hb47 (Nat.le_refl _))
            have L47 : Hid (Below w1.heap.size w1 wr47) := L46.out.trans (hb47.mono L46.out.size)
            clear hb47 hp47 ho47
            try dsimp only
            refine hK.out _ _ (KK.out _ L47.out) (fun hHeld => ?_)
            clear hK K
            refine takeD (i := 5) (v := ?_) (some 24) rfl rfl (by kernel_rfl) (by kernel_rfl) (by kernel_rfl) (fun _ _ _ h => h) (by rfl) hHeld ?_ ?_
            rotate_left
            · intro W hSw
              try dsimp only at hSw
              go_simp
              try with_reducible rfl
            try simp only [Act.put]
            try simp only [List.setIfInBounds_toArray]
            try simp only [List.set_cons_succ]
            try simp only [List.set_cons_zero]
            refine takeD (i := 6) (v := ?_) (some 30) rfl rfl (by kernel_rfl) (by kernel_rfl) (by kernel_rfl) (fun _ _ _ h => h) (by rfl) hHeld ?_ ?_
            rotate_left
            · intro W hSw
              try dsimp only at hSw
              go_simp
              try with_reducible rfl
            try simp only [Act.put]
            try simp only [List.setIfInBounds_toArray]
            try simp only [List.set_cons_succ]
            try simp only [List.set_cons_zero]
            refine takeD (i := 7) (v := ?_) (some 31) rfl rfl (by kernel_rfl) (by kernel_rfl) (by kernel_rfl) (fun _ _ _ h => h) (by rfl) hHeld ?_ ?_
            rotate_left
            · intro W hSw
              try dsimp only at hSw
              go_simp
              try with_reducible rfl
            try simp only [Act.put]
            try simp only [List.setIfInBounds_toArray]
            try simp only [List.set_cons_succ]
            try simp only [List.set_cons_zero]
            refine takeD (i := 8) (v := ?_) (some 32) rfl rfl (by kernel_rfl) (by kernel_rfl) (by kernel_rfl) (fun _ _ _ h => h) (by rfl) hHeld ?_ ?_
            rotate_left
            · intro W hSw
              try dsimp only at hSw
              go_simp
              try with_reducible rfl
            try simp only [Act.put]
            try simp only [List.setIfInBounds_toArray]
            try simp only [List.set_cons_succ]
            try simp only [List.set_cons_zero]
            refine wpAnyH_ready (rs := [9]) (by kernel_rfl) (by simp) ?_
            refine AllReadyH.cons rfl (fun K hK => ?_) AllReadyH.nil
            go_simp
            obtain ⟨wr48, hwr48⟩ : ∃ W, Hid (W = wr47.alloc (.cells #[.int .i64 0, .bool false, .int .i64 0, .slice none 0 0, .int .i64 0] 34)) := ⟨_, rfl⟩
            have al48 : Below wr47.heap.size wr47 wr48 := by rw [hwr48.out]; exact alloc_below _ _
            have YHN48 : Hid (Blk wr48 wr47.heap.size #[.int .i64 0, .bool false, .int .i64 0, .slice none 0 0, .int .i64 0] 34) := by show Blk _ _ _ _; rw [hwr48.out]; exact Blk.new _ _ _
            have BYH48 : Hid (w1.heap.size ≤ wr47.heap.size) := L47.out.size
            have YW48 := hide_it (YW47.out.after al48)
            have V48 := hide_it (V47.out.later al48 (Nat.le_refl _))
            have O48 := hide_it (OO47.out.below al48 ZZ47.out)
            have Z48 : Hid (wr47.heap.size ≤ wr48.heap.size) := Nat.le_trans ZZ47.out al48.size
            have L48 : Hid (Below w1.heap.size w1 wr48) := L47.out.trans (al48.mono L47.out.size)
            clear al48
            rw [← hwr48.out]
            try dsimp only
            refine hK.out _ _ (KK.out _ L48.out) (fun hHeld => ?_)
            clear hK K
            refine wpAnyH_ready (rs := [11]) (by kernel_rfl) (by simp) ?_
            refine AllReadyH.cons rfl (fun K hK => ?_) AllReadyH.nil
            go_simp
            obtain ⟨c0, c1, c2, c3, c4⟩ := YHN48.out.cells5
            have cf0 := YHN48.out.free 0
            have cf1 := YHN48.out.free 1
            have cf2 := YHN48.out.free 2
            have cf3 := YHN48.out.free 3
            have cf4 := YHN48.out.free 4
            go_simp
            obtain ⟨wr49, hwr49⟩ : ∃ W, Hid (W = (((((wr48.setCell ⟨wr47.heap.size, 0, none⟩ (.int .i64 ID)).setCell ⟨wr47.heap.size, 1, none⟩ (.bool UP)).setCell ⟨wr47.heap.size, 2, none⟩ (.int .i64 ROOM)).setCell ⟨wr47.heap.size, 3, none⟩ (.slice a47 RS.length cp47)).setCell ⟨wr47.heap.size, 4, none⟩ (.int .i64 F))) := ⟨_, rfl⟩
            have NE49 := ne_hw YHN48.out YW48.out
            have Z49 : Hid (wr47.heap.size ≤ wr49.heap.size) := Nat.le_trans Z48.out (Nat.le_of_eq (by rw [hwr49.out]; simp))
            have YH49 : Hid (Blk wr49 wr47.heap.size #[.int .i64 ID, .bool UP, .int .i64 ROOM, .slice a47 RS.length cp47, .int .i64 F] 34) := by show Blk _ _ _ _; rw [hwr49.out]; exact blk_h5 YHN48.out
            have YW49 : Hid (Blk wr49 wr1.heap.size #[.int .i64 0, .int .i64 0, .int .i64 0, .int .i64 0] 35) := by show Blk _ _ _ _; rw [hwr49.out]; exact blk_h5o YW48.out (fun e => NE49 e.symm)
            have O49 : Hid (OwnRecs wr49 wr46.heap.size wr47.heap.size (.slice a47 RS.length cp47) ps47) := by show OwnRecs _ _ _ _ _; rw [hwr49.out]; exact own_h5 O48.out YHN48.out
            have L49 : Hid (Below w1.heap.size w1 wr49) := by show Below _ _ _; rw [hwr49.out]; exact bel_h5 L48.out BYH48.out
            rw [← hwr49.out]
            clear c0 cf0 c1 cf1 c2 cf2 c3 cf3 c4 cf4
            try dsimp only
            refine hK.out _ _ (KK.out _ L49.out) (fun hHeld => ?_)
            clear hK K
            refine wpAnyH_ready (rs := [12]) (by kernel_rfl) (by simp) ?_
            refine AllReadyH.cons rfl (fun K hK => ?_) AllReadyH.nil
            go_simp
            obtain ⟨c0, c1, c2, c3⟩ := YW49.out.cells4
            have cf0 := YW49.out.free 0
            have cf1 := YW49.out.free 1
            have cf2 := YW49.out.free 2
            have cf3 := YW49.out.free 3
            go_simp
            obtain ⟨wr50, hwr50⟩ : ∃ W, Hid (W = ((((wr49.setCell ⟨wr1.heap.size, 0, none⟩ (.int .i64 X1)).setCell ⟨wr1.heap.size, 1, none⟩ (.int .i64 X2)).setCell ⟨wr1.heap.size, 2, none⟩ (.int .i64 X3)).setCell ⟨wr1.heap.size, 3, none⟩ (.int .i64 0))) := ⟨_, rfl⟩
            have Z50 : Hid (wr47.heap.size ≤ wr50.heap.size) := Nat.le_trans Z49.out (Nat.le_of_eq (by rw [hwr50.out]; simp))
            have NEX50 : wr47.heap.size ≠ wr1.heap.size := NE49
            have YW50 : Hid (Blk wr50 wr1.heap.size #[.int .i64 X1, .int .i64 X2, .int .i64 X3, .int .i64 0] 35) := by show Blk _ _ _ _; rw [hwr50.out]; exact blk_w4 YW49.out
            have YH50 : Hid (Blk wr50 wr47.heap.size #[.int .i64 ID, .bool UP, .int .i64 ROOM, .slice a47 RS.length cp47, .int .i64 F] 34) := by show Blk _ _ _ _; rw [hwr50.out]; exact blk_w4o YH49.out NEX50
            have O50 : Hid (OwnRecs wr50 wr46.heap.size wr47.heap.size (.slice a47 RS.length cp47) ps47) := by show OwnRecs _ _ _ _ _; rw [hwr50.out]; exact own_w4 O49.out YW49.out
            have L50 : Hid (Below w1.heap.size w1 wr50) := by show Below _ _ _; rw [hwr50.out]; exact bel_w4 L49.out BYW45.out
            rw [← hwr50.out]
            clear c0 cf0 c1 cf1 c2 cf2 c3 cf3
            try dsimp only
            refine hK.out _ _ (KK.out _ L50.out) (fun hHeld => ?_)
            clear hK K
            refine takeD (i := 13) (v := ?_) (some 8) rfl rfl (by kernel_rfl) (by kernel_rfl) (by kernel_rfl) (fun _ _ _ h => h) (by rfl) hHeld ?_ ?_
            rotate_left
            · intro W hSw
              try dsimp only at hSw
              go_simp
              try with_reducible rfl
            try simp only [Act.put]
            try simp only [List.setIfInBounds_toArray]
            try simp only [List.set_cons_succ]
            try simp only [List.set_cons_zero]
            refine wpAnyH_done (by kernel_rfl) ?_ _
            go_wp2_with fail
            go_meet
            case rel => exact ⟨_, _, a47, cp47, ps47, _, _, rfl, rfl, rfl, P47, hide_it ⟨L50.out, YH50.out, YW50.out, O50.out, BYH48.out, BYW45.out, Or.inr ZZ47.out, Or.inl AW47.out, LL47.out, Z50.out⟩⟩
          · go_simp
            obtain ⟨wr51, hwr51⟩ : ∃ W, Hid (W = wr46.alloc (.cells #[.int .i64 0, .bool false, .int .i64 0, .slice none 0 0, .int .i64 0] 34)) := ⟨_, rfl⟩
            have al51 : Below wr46.heap.size wr46 wr51 := by rw [hwr51.out]; exact alloc_below _ _
            have YHN51 : Hid (Blk wr51 wr46.heap.size #[.int .i64 0, .bool false, .int .i64 0, .slice none 0 0, .int .i64 0] 34) := by show Blk _ _ _ _; rw [hwr51.out]; exact Blk.new _ _ _
            have BYH51 : Hid (w1.heap.size ≤ wr46.heap.size) := L46.out.size
            have YW51 := hide_it (YW46.out.after al51)
            have V51 := hide_it (V46.out.later al51 (Nat.le_refl _))
            have L51 : Hid (Below w1.heap.size w1 wr51) := L46.out.trans (al51.mono L46.out.size)
            clear al51
            rw [← hwr51.out]
            try dsimp only
            refine hK.out _ _ (KK.out _ L51.out) (fun hHeld => ?_)
            clear hK K
            refine wpAnyH_ready (rs := [4]) (by kernel_rfl) (by simp) ?_
            refine AllReadyH.cons rfl (fun K hK => ?_) AllReadyH.nil
            go_simp
            refine (HSP.out _ wr51 V51.out).mono ?_
            rintro e wr52 ⟨a52, cp52, rfl, hm52, hb52⟩
            obtain ⟨ps52, hp52, ho52⟩ := hm52
            have P52 := hide_it hp52
            have OO52 := hide_it ho52
            have ZZ52 : Hid (wr52.heap.size ≤ wr52.heap.size) := Nat.le_refl _
            have LL52 : Hid (w1.heap.size ≤ wr51.heap.size) := L51.out.size
            have AH52 : Hid (wr46.heap.size < wr51.heap.size) := YHN51.out.lt
            have AW52 : Hid (wr1.heap.size < wr51.heap.size) := YW51.out.lt
            have YH52 := hide_it (YHN51.out.after hb52)
            have YW52 := hide_it (YW51.out.after hb52)
            have V52 := hide_it (V51.out.later hb52 (Nat.le_refl _))
            have L52 : Hid (Below w1.heap.size w1 wr52) := L51.out.trans (hb52.mono L51.out.size)
            clear hb52 hp52 ho52
            try dsimp only
            refine hK.out _ _ (KK.out _ L52.out) (fun hHeld => ?_)
            clear hK K
            refine takeD (i := 5) (v := ?_) (some 24) rfl rfl (by kernel_rfl) (by kernel_rfl) (by kernel_rfl) (fun _ _ _ h => h) (by rfl) hHeld ?_ ?_
            rotate_left
            · intro W hSw
              try dsimp only at hSw
              go_simp
              try with_reducible rfl
            try simp only [Act.put]
            try simp only [List.setIfInBounds_toArray]
            try simp only [List.set_cons_succ]
            try simp only [List.set_cons_zero]
            refine takeD (i := 6) (v := ?_) (some 30) rfl rfl (by kernel_rfl) (by kernel_rfl) (by kernel_rfl) (fun _ _ _ h => h) (by rfl) hHeld ?_ ?_
            rotate_left
            · intro W hSw
              try dsimp only at hSw
              go_simp
              try with_reducible rfl
            try simp only [Act.put]
            try simp only [List.setIfInBounds_toArray]
            try simp only [List.set_cons_succ]
            try simp only [List.set_cons_zero]
            refine takeD (i := 7) (v := ?_) (some 31) rfl rfl (by kernel_rfl) (by kernel_rfl) (by kernel_rfl) (fun _ _ _ h => h) (by rfl) hHeld ?_ ?_
            rotate_left
            · intro W hSw
              try dsimp only at hSw
              go_simp
              try with_reducible rfl
            try simp only [Act.put]
            try simp only [List.setIfInBounds_toArray]
            try simp only [List.set_cons_succ]
            try simp only [List.set_cons_zero]
            refine takeD (i := 8) (v := ?_) (some 32) rfl rfl (by kernel_rfl) (by kernel_rfl) (by kernel_rfl) (fun _ _ _ h => h) (by rfl) hHeld ?_ ?_
            rotate_left
            · intro W hSw
              try dsimp only at hSw
              go_simp
              try with_reducible rfl
            try simp only [Act.put]
            try simp only [List.setIfInBounds_toArray]
            try simp only [List.set_cons_succ]
            try simp only [List.set_cons_zero]
            refine wpAnyH_ready (rs := [11]) (by kernel_rfl) (by simp) ?_
            refine AllReadyH.cons rfl (fun K hK => ?_) AllReadyH.nil
            go_simp
            obtain ⟨c0, c1, c2, c3, c4⟩ := YH52.out.cells5
            have cf0 := YH52.out.free 0
            have cf1 := YH52.out.free 1
            have cf2 := YH52.out.free 2
            have cf3 := YH52.out.free 3
            have cf4 := YH52.out.free 4
            go_simp
            obtain ⟨wr53, hwr53⟩ : ∃ W, Hid (W = (((((wr52.setCell ⟨wr46.heap.size, 0, none⟩ (.int .i64 ID)).setCell ⟨wr46.heap.size, 1, none⟩ (.bool UP)).setCell ⟨wr46.heap.size, 2, none⟩ (.int .i64 ROOM)).setCell ⟨wr46.heap.size, 3, none⟩ (.slice a52 RS.length cp52)).setCell ⟨wr46.heap.size, 4, none⟩ (.int .i64 F))) := ⟨_, rfl⟩
            have NE53 := ne_hw YH52.out YW52.out
            have Z53 : Hid (wr52.heap.size ≤ wr53.heap.size) := Nat.le_trans ZZ52.out (Nat.le_of_eq (by rw [hwr53.out]; simp))
            have YH53 : Hid (Blk wr53 wr46.heap.size #[.int .i64 ID, .bool UP, .int .i64 ROOM, .slice a52 RS.length cp52, .int .i64 F] 34) := by show Blk _ _ _ _; rw [hwr53.out]; exact blk_h5 YH52.out
            have YW53 : Hid (Blk wr53 wr1.heap.size #[.int .i64 0, .int .i64 0, .int .i64 0, .int .i64 0] 35) := by show Blk _ _ _ _; rw [hwr53.out]; exact blk_h5o YW52.out (fun e => NE53 e.symm)
            have O53 : Hid (OwnRecs wr53 wr51.heap.size wr52.heap.size (.slice a52 RS.length cp52) ps52) := by show OwnRecs _ _ _ _ _; rw [hwr53.out]; exact own_h5 OO52.out YH52.out
            have L53 : Hid (Below w1.heap.size w1 wr53) := by show Below _ _ _; rw [hwr53.out]; exact bel_h5 L52.out BYH51.out
            rw [← hwr53.out]
            clear c0 cf0 c1 cf1 c2 cf2 c3 cf3 c4 cf4
            try dsimp only
            refine hK.out _ _ (KK.out _ L53.out) (fun hHeld => ?_)
            clear hK K
            refine wpAnyH_ready (rs := [12]) (by kernel_rfl) (by simp) ?_
            refine AllReadyH.cons rfl (fun K hK => ?_) AllReadyH.nil
            go_simp
            obtain ⟨c0, c1, c2, c3⟩ := YW53.out.cells4
            have cf0 := YW53.out.free 0
            have cf1 := YW53.out.free 1
            have cf2 := YW53.out.free 2
            have cf3 := YW53.out.free 3
            go_simp
            obtain ⟨wr54, hwr54⟩ : ∃ W, Hid (W = ((((wr53.setCell ⟨wr1.heap.size, 0, none⟩ (.int .i64 X1)).setCell ⟨wr1.heap.size, 1, none⟩ (.int .i64 X2)).setCell ⟨wr1.heap.size, 2, none⟩ (.int .i64 X3)).setCell ⟨wr1.heap.size, 3, none⟩ (.int .i64 0))) := ⟨_, rfl⟩
            have Z54 : Hid (wr52.heap.size ≤ wr54.heap.size) := Nat.le_trans Z53.out (Nat.le_of_eq (by rw [hwr54.out]; simp))
            have NEX54 : wr46.heap.size ≠ wr1.heap.size := NE53
            have YW54 : Hid (Blk wr54 wr1.heap.size #[.int .i64 X1, .int .i64 X2, .int .i64 X3, .int .i64 0] 35) := by show Blk _ _ _ _; rw [hwr54.out]; exact blk_w4 YW53.out
            have YH54 : Hid (Blk wr54 wr46.heap.size #[.int .i64 ID, .bool UP, .int .i64 ROOM, .slice a52 RS.length cp52, .int .i64 F] 34) := by show Blk _ _ _ _; rw [hwr54.out]; exact blk_w4o YH53.out NEX54
            have O54 : Hid (OwnRecs wr54 wr51.heap.size wr52.heap.size (.slice a52 RS.length cp52) ps52) := by show OwnRecs _ _ _ _ _; rw [hwr54.out]; exact own_w4 O53.out YW53.out
            have L54 : Hid (Below w1.heap.size w1 wr54) := by show Below _ _ _; rw [hwr54.out]; exact bel_w4 L53.out BYW45.out
            rw [← hwr54.out]
            clear c0 cf0 c1 cf1 c2 cf2 c3 cf3
            try dsimp only
            refine hK.out _ _ (KK.out _ L54.out) (fun hHeld => ?_)
            clear hK K
            refine takeD (i := 13) (v := ?_) (some 8) rfl rfl (by kernel_rfl) (by kernel_rfl) (by kernel_rfl) (fun _ _ _ h => h) (by rfl) hHeld ?_ ?_
            rotate_left
            · intro W hSw
              try dsimp only at hSw
              go_simp
              try with_reducible rfl
            try simp only [Act.put]
            try simp only [List.setIfInBounds_toArray]
            try simp only [List.set_cons_succ]
            try simp only [List.set_cons_zero]
            refine wpAnyH_done (by kernel_rfl) ?_ _
            go_wp2_with fail
            go_meet
            case rel => exact ⟨_, _, a52, cp52, ps52, _, _, rfl, rfl, rfl, P52, hide_it ⟨L54.out, YH54.out, YW54.out, O54.out, BYH51.out, BYW45.out, Or.inl AH52.out, Or.inl AW52.out, LL52.out, Z54.out⟩⟩
        · go_simp
          obtain ⟨wr55, hwr55⟩ : ∃ W, Hid (W = wr45.alloc (.cells #[.int .i64 0, .bool false, .int .i64 0, .slice none 0 0, .int .i64 0] 34)) := ⟨_, rfl⟩
          have al55 : Below wr45.heap.size wr45 wr55 := by rw [hwr55.out]; exact alloc_below _ _
          have YHN55 : Hid (Blk wr55 wr45.heap.size #[.int .i64 0, .bool false, .int .i64 0, .slice none 0 0, .int .i64 0] 34) := by show Blk _ _ _ _; rw [hwr55.out]; exact Blk.new _ _ _
          have BYH55 : Hid (w1.heap.size ≤ wr45.heap.size) := L45.out.size
          have YW55 := hide_it (YWN45.out.after al55)
          have V55 := hide_it (V45.out.later al55 (Nat.le_refl _))
          have L55 : Hid (Below w1.heap.size w1 wr55) := L45.out.trans (al55.mono L45.out.size)
          clear al55
          rw [← hwr55.out]
          try dsimp only
          refine hK.out _ _ (KK.out _ L55.out) (fun hHeld => ?_)
          clear hK K
          refine wpAnyH_ready (rs := [3]) (by kernel_rfl) (by simp) ?_
          refine AllReadyH.cons rfl (fun K hK => ?_) AllReadyH.nil
          go_simp
          refine (toWord_any k h t m wr55).mono ?_
          rintro e wr56 ⟨rfl, hb56⟩
          have YH56 := hide_it (YHN55.out.after hb56)
          have YW56 := hide_it (YW55.out.after hb56)
          have V56 := hide_it (V55.out.later hb56 (Nat.le_refl _))
          have L56 : Hid (Below w1.heap.size w1 wr56) := L55.out.trans (hb56.mono L55.out.size)
          clear hb56
          try dsimp only
          refine hK.out _ _ (KK.out _ L56.out) (fun hHeld => ?_)
          clear hK K
          refine wpAnyH_ready (rs := [4]) (by kernel_rfl) (by simp) ?_
          refine AllReadyH.cons rfl (fun K hK => ?_) AllReadyH.nil
          go_simp
          refine (HSP.out _ wr56 V56.out).mono ?_
          rintro e wr57 ⟨a57, cp57, rfl, hm57, hb57⟩
          obtain ⟨ps57, hp57, ho57⟩ := hm57
          have P57 := hide_it hp57
          have OO57 := hide_it ho57
          have ZZ57 : Hid (wr57.heap.size ≤ wr57.heap.size) := Nat.le_refl _
          have LL57 : Hid (w1.heap.size ≤ wr56.heap.size) := L56.out.size
          have AH57 : Hid (wr45.heap.size < wr56.heap.size) := YH56.out.lt
          have AW57 : Hid (wr1.heap.size < wr56.heap.size) := YW56.out.lt
          have YH57 := hide_it (YH56.out.after hb57)
          have YW57 := hide_it (YW56.out.after hb57)
          have V57 := hide_it (V56.out.later hb57 (Nat.le_refl _))
          have L57 : Hid (Below w1.heap.size w1 wr57) := L56.out.trans (hb57.mono L56.out.size)
          clear hb57 hp57 ho57
          try dsimp only
          refine hK.out _ _ (KK.out _ L57.out) (fun hHeld => ?_)
          clear hK K
          refine takeD (i := 5) (v := ?_) (some 24) rfl rfl (by kernel_rfl) (by kernel_rfl) (by kernel_rfl) (fun _ _ _ h => h) (by rfl) hHeld ?_ ?_
          rotate_left
          · intro W hSw
            try dsimp only at hSw
            go_simp
            try with_reducible rfl
          try simp only [Act.put]
          try simp only [List.setIfInBounds_toArray]
          try simp only [List.set_cons_succ]
          try simp only [List.set_cons_zero]
          refine takeD (i := 6) (v := ?_) (some 30) rfl rfl (by kernel_rfl) (by kernel_rfl) (by kernel_rfl) (fun _ _ _ h => h) (by rfl) hHeld ?_ ?_
          rotate_left
          · intro W hSw
            try dsimp only at hSw
            go_simp
            try with_reducible rfl
          try simp only [Act.put]
          try simp only [List.setIfInBounds_toArray]
          try simp only [List.set_cons_succ]
          try simp only [List.set_cons_zero]
          refine takeD (i := 7) (v := ?_) (some 31) rfl rfl (by kernel_rfl) (by kernel_rfl) (by kernel_rfl) (fun _ _ _ h => h) (by rfl) hHeld ?_ ?_
          rotate_left
          · intro W hSw
            try dsimp only at hSw
            go_simp
            try with_reducible rfl
          try simp only [Act.put]
          try simp only [List.setIfInBounds_toArray]
          try simp only [List.set_cons_succ]
          try simp only [List.set_cons_zero]
          refine takeD (i := 8) (v := ?_) (some 32) rfl rfl (by kernel_rfl) (by kernel_rfl) (by kernel_rfl) (fun _ _ _ h => h) (by rfl) hHeld ?_ ?_
          rotate_left
          · intro W hSw
            try dsimp only at hSw
            go_simp
            try with_reducible rfl
          try simp only [Act.put]
          try simp only [List.setIfInBounds_toArray]
          try simp only [List.set_cons_succ]
          try simp only [List.set_cons_zero]
          refine wpAnyH_ready (rs := [11]) (by kernel_rfl) (by simp) ?_
          refine AllReadyH.cons rfl (fun K hK => ?_) AllReadyH.nil
          go_simp
          obtain ⟨c0, c1, c2, c3, c4⟩ := YH57.out.cells5
          have cf0 := YH57.out.free 0
          have cf1 := YH57.out.free 1
          have cf2 := YH57.out.free 2
          have cf3 := YH57.out.free 3
          have cf4 := YH57.out.free 4
          go_simp
          obtain ⟨wr58, hwr58⟩ : ∃ W, Hid (W = (((((wr57.setCell ⟨wr45.heap.size, 0, none⟩ (.int .i64 ID)).setCell ⟨wr45.heap.size, 1, none⟩ (.bool UP)).setCell ⟨wr45.heap.size, 2, none⟩ (.int .i64 ROOM)).setCell ⟨wr45.heap.size, 3, none⟩ (.slice a57 RS.length cp57)).setCell ⟨wr45.heap.size, 4, none⟩ (.int .i64 F))) := ⟨_, rfl⟩
          have NE58 := ne_hw YH57.out YW57.out
          have Z58 : Hid (wr57.heap.size ≤ wr58.heap.size) := Nat.le_trans ZZ57.out (Nat.le_of_eq (by rw [hwr58.out]; simp))
          have YH58 : Hid (Blk wr58 wr45.heap.size #[.int .i64 ID, .bool UP, .int .i64 ROOM, .slice a57 RS.length cp57, .int .i64 F] 34) := by show Blk _ _ _ _; rw [hwr58.out]; exact blk_h5 YH57.out
          have YW58 : Hid (Blk wr58 wr1.heap.size #[.int .i64 0, .int .i64 0, .int .i64 0, .int .i64 0] 35) := by show Blk _ _ _ _; rw [hwr58.out]; exact blk_h5o YW57.out (fun e => NE58 e.symm)
          have O58 : Hid (OwnRecs wr58 wr56.heap.size wr57.heap.size (.slice a57 RS.length cp57) ps57) := by show OwnRecs _ _ _ _ _; rw [hwr58.out]; exact own_h5 OO57.out YH57.out
          have L58 : Hid (Below w1.heap.size w1 wr58) := by show Below _ _ _; rw [hwr58.out]; exact bel_h5 L57.out BYH55.out
          rw [← hwr58.out]
          clear c0 cf0 c1 cf1 c2 cf2 c3 cf3 c4 cf4
          try dsimp only
          refine hK.out _ _ (KK.out _ L58.out) (fun hHeld => ?_)
          clear hK K
          refine wpAnyH_ready (rs := [12]) (by kernel_rfl) (by simp) ?_
          refine AllReadyH.cons rfl (fun K hK => ?_) AllReadyH.nil
          go_simp
          obtain ⟨c0, c1, c2, c3⟩ := YW58.out.cells4
          have cf0 := YW58.out.free 0
          have cf1 := YW58.out.free 1
          have cf2 := YW58.out.free 2
          have cf3 := YW58.out.free 3
          go_simp
          obtain ⟨wr59, hwr59⟩ : ∃ W, Hid (W = ((((wr58.setCell ⟨wr1.heap.size, 0, none⟩ (.int .i64 X1)).setCell ⟨wr1.heap.size, 1, none⟩ (.int .i64 X2)).setCell ⟨wr1.heap.size, 2, none⟩ (.int .i64 X3)).setCell ⟨wr1.heap.size, 3, none⟩ (.int .i64 0))) := ⟨_, rfl⟩
          have Z59 : Hid (wr57.heap.size ≤ wr59.heap.size) := Nat.le_trans Z58.out (Nat.le_of_eq (by rw [hwr59.out]; simp))
          have NEX59 : wr45.heap.size ≠ wr1.heap.size := NE58
          have YW59 : Hid (Blk wr59 wr1.heap.size #[.int .i64 X1, .int .i64 X2, .int .i64 X3, .int .i64 0] 35) := by show Blk _ _ _ _; rw [hwr59.out]; exact blk_w4 YW58.out
          have YH59 : Hid (Blk wr59 wr45.heap.size #[.int .i64 ID, .bool UP, .int .i64 ROOM, .slice a57 RS.length cp57, .int .i64 F] 34) := by show Blk _ _ _ _; rw [hwr59.out]; exact blk_w4o YH58.out NEX59
          have O59 : Hid (OwnRecs wr59 wr56.heap.size wr57.heap.size (.slice a57 RS.length cp57) ps57) := by show OwnRecs _ _ _ _ _; rw [hwr59.out]; exact own_w4 O58.out YW58.out
          have L59 : Hid (Below w1.heap.size w1 wr59) := by show Below _ _ _; rw [hwr59.out]; exact bel_w4 L58.out BYW45.out
          rw [← hwr59.out]
          clear c0 cf0 c1 cf1 c2 cf2 c3 cf3
          try dsimp only
          refine hK.out _ _ (KK.out _ L59.out) (fun hHeld => ?_)
          clear hK K
          refine takeD (i := 13) (v := ?_) (some 8) rfl rfl (by kernel_rfl) (by kernel_rfl) (by kernel_rfl) (fun _ _ _ h => h) (by rfl) hHeld ?_ ?_
          rotate_left
          · intro W hSw
            try dsimp only at hSw
            go_simp
            try with_reducible rfl
          try simp only [Act.put]
          try simp only [List.setIfInBounds_toArray]
          try simp only [List.set_cons_succ]
          try simp only [List.set_cons_zero]
          refine wpAnyH_done (by kernel_rfl) ?_ _
          go_wp2_with fail
          go_meet
          case rel => exact ⟨_, _, a57, cp57, ps57, _, _, rfl, rfl, rfl, P57, hide_it ⟨L59.out, YH59.out, YW59.out, O59.out, BYH55.out, BYW45.out, Or.inl AH57.out, Or.inl AW57.out, LL57.out, Z59.out⟩⟩
    · go_simp
      obtain ⟨wr60, hwr60⟩ : ∃ W, Hid (W = wdhh5.alloc (.cells #[.int .i64 0, .bool false, .int .i64 0, .slice none 0 0, .int .i64 0] 34)) := ⟨_, rfl⟩
      have al60 : Below wdhh5.heap.size wdhh5 wr60 := by rw [hwr60.out]; exact alloc_below _ _
      have YHN60 : Hid (Blk wr60 wdhh5.heap.size #[.int .i64 0, .bool false, .int .i64 0, .slice none 0 0, .int .i64 0] 34) := by show Blk _ _ _ _; rw [hwr60.out]; exact Blk.new _ _ _
      have BYH60 : Hid (w1.heap.size ≤ wdhh5.heap.size) := Ldhh5.out.size
      have L60 : Hid (Below w1.heap.size w1 wr60) := Ldhh5.out.trans (al60.mono Ldhh5.out.size)
      clear al60
      rw [← hwr60.out]
      try dsimp only
      refine hK.out _ _ (KK.out _ L60.out) (fun hHeld => ?_)
      clear hK K
      refine wpAnyH_ready (rs := [1, 10]) (by kernel_rfl) (by simp) ?_
      refine AllReadyH.cons rfl (fun K hK => ?_) (AllReadyH.cons rfl (fun K hK => ?_) AllReadyH.nil)
      · go_simp
        refine (toHouse_any id up room _ rs f wr60 (HV.out _ (B1.out.trans (L60.out.mono B1.out.size))) hl).mono ?_
        rintro e wr61 ⟨a61, cp61, rfl, hm61, hb61⟩
        have VV61 := hide_it hm61.recs
        have FM61 := hide_it (form_made hm61)
        have YH61 := hide_it (YHN60.out.after hb61)
        have L61 : Hid (Below w1.heap.size w1 wr61) := L60.out.trans (hb61.mono L60.out.size)
        clear hb61 hm61
        try dsimp only
        refine hK.out _ _ (KK.out _ L61.out) (fun hHeld => ?_)
        clear hK K
        refine wpAnyH_ready (rs := [3, 10]) (by kernel_rfl) (by simp) ?_
        refine AllReadyH.cons rfl (fun K hK => ?_) (AllReadyH.cons rfl (fun K hK => ?_) AllReadyH.nil)
        · go_simp
          refine (toWord_any k h t m wr61).mono ?_
          rintro e wr62 ⟨rfl, hb62⟩
          have YH62 := hide_it (YH61.out.after hb62)
          have V62 := hide_it (VV61.out.later hb62 (Nat.le_refl _))
          have L62 : Hid (Below w1.heap.size w1 wr62) := L61.out.trans (hb62.mono L61.out.size)
          clear hb62
          try dsimp only
          refine hK.out _ _ (KK.out _ L62.out) (fun hHeld => ?_)
          clear hK K
          refine wpAnyH_ready (rs := [4, 10]) (by kernel_rfl) (by simp) ?_
          refine AllReadyH.cons rfl (fun K hK => ?_) (AllReadyH.cons rfl (fun K hK => ?_) AllReadyH.nil)
          · go_simp
            refine (HSP.out _ wr62 V62.out).mono ?_
            rintro e wr63 ⟨a63, cp63, rfl, hm63, hb63⟩
            obtain ⟨ps63, hp63, ho63⟩ := hm63
            have P63 := hide_it hp63
            have OO63 := hide_it ho63
            have ZZ63 : Hid (wr63.heap.size ≤ wr63.heap.size) := Nat.le_refl _
            have LL63 : Hid (w1.heap.size ≤ wr62.heap.size) := L62.out.size
            have AH63 : Hid (wdhh5.heap.size < wr62.heap.size) := YH62.out.lt
            have YH63 := hide_it (YH62.out.after hb63)
            have V63 := hide_it (V62.out.later hb63 (Nat.le_refl _))
            have L63 : Hid (Below w1.heap.size w1 wr63) := L62.out.trans (hb63.mono L62.out.size)
            clear hb63 hp63 ho63
            try dsimp only
            refine hK.out _ _ (KK.out _ L63.out) (fun hHeld => ?_)
            clear hK K
            refine takeD (i := 5) (v := ?_) (some 24) rfl rfl (by kernel_rfl) (by kernel_rfl) (by kernel_rfl) (fun _ _ _ h => h) (by rfl) hHeld ?_ ?_
            rotate_left
            · intro W hSw
              try dsimp only at hSw
              go_simp
              try with_reducible rfl
            try simp only [Act.put]
            try simp only [List.setIfInBounds_toArray]
            try simp only [List.set_cons_succ]
            try simp only [List.set_cons_zero]
            refine takeD (i := 6) (v := ?_) (some 30) rfl rfl (by kernel_rfl) (by kernel_rfl) (by kernel_rfl) (fun _ _ _ h => h) (by rfl) hHeld ?_ ?_
            rotate_left
            · intro W hSw
              try dsimp only at hSw
              go_simp
              try with_reducible rfl
            try simp only [Act.put]
            try simp only [List.setIfInBounds_toArray]
            try simp only [List.set_cons_succ]
            try simp only [List.set_cons_zero]
            refine takeD (i := 7) (v := ?_) (some 31) rfl rfl (by kernel_rfl) (by kernel_rfl) (by kernel_rfl) (fun _ _ _ h => h) (by rfl) hHeld ?_ ?_
            rotate_left
            · intro W hSw
              try dsimp only at hSw
              go_simp
              try with_reducible rfl
            try simp only [Act.put]
            try simp only [List.setIfInBounds_toArray]
            try simp only [List.set_cons_succ]
            try simp only [List.set_cons_zero]
            refine takeD (i := 8) (v := ?_) (some 32) rfl rfl (by kernel_rfl) (by kernel_rfl) (by kernel_rfl) (fun _ _ _ h => h) (by rfl) hHeld ?_ ?_
            rotate_left
            · intro W hSw
              try dsimp only at hSw
              go_simp
              try with_reducible rfl
            try simp only [Act.put]
            try simp only [List.setIfInBounds_toArray]
            try simp only [List.set_cons_succ]
            try simp only [List.set_cons_zero]
            refine wpAnyH_ready (rs := [10]) (by kernel_rfl) (by simp) ?_
            refine AllReadyH.cons rfl (fun K hK => ?_) AllReadyH.nil
            go_simp
            obtain ⟨wr64, hwr64⟩ : ∃ W, Hid (W = wr63.alloc (.cells #[.int .i64 0, .int .i64 0, .int .i64 0, .int .i64 0] 35)) := ⟨_, rfl⟩
            have al64 : Below wr63.heap.size wr63 wr64 := by rw [hwr64.out]; exact alloc_below _ _
            have YWN64 : Hid (Blk wr64 wr63.heap.size #[.int .i64 0, .int .i64 0, .int .i64 0, .int .i64 0] 35) := by show Blk _ _ _ _; rw [hwr64.out]; exact Blk.new _ _ _
            have BYW64 : Hid (w1.heap.size ≤ wr63.heap.size) := L63.out.size
            have YH64 := hide_it (YH63.out.after al64)
            have V64 := hide_it (V63.out.later al64 (Nat.le_refl _))
            have O64 := hide_it (OO63.out.below al64 ZZ63.out)
            have Z64 : Hid (wr63.heap.size ≤ wr64.heap.size) := Nat.le_trans ZZ63.out al64.size
            have L64 : Hid (Below w1.heap.size w1 wr64) := L63.out.trans (al64.mono L63.out.size)
            clear al64
            rw [← hwr64.out]
            try dsimp only
            refine hK.out _ _ (KK.out _ L64.out) (fun hHeld => ?_)
            clear hK K
            refine wpAnyH_ready (rs := [11]) (by kernel_rfl) (by simp) ?_
            refine AllReadyH.cons rfl (fun K hK => ?_) AllReadyH.nil
            go_simp
            obtain ⟨c0, c1, c2, c3, c4⟩ := YH64.out.cells5
            have cf0 := YH64.out.free 0
            have cf1 := YH64.out.free 1
            have cf2 := YH64.out.free 2
            have cf3 := YH64.out.free 3
            have cf4 := YH64.out.free 4
            go_simp
            obtain ⟨wr65, hwr65⟩ : ∃ W, Hid (W = (((((wr64.setCell ⟨wdhh5.heap.size, 0, none⟩ (.int .i64 ID)).setCell ⟨wdhh5.heap.size, 1, none⟩ (.bool UP)).setCell ⟨wdhh5.heap.size, 2, none⟩ (.int .i64 ROOM)).setCell ⟨wdhh5.heap.size, 3, none⟩ (.slice a63 RS.length cp63)).setCell ⟨wdhh5.heap.size, 4, none⟩ (.int .i64 F))) := ⟨_, rfl⟩
            have NE65 := ne_hw YH64.out YWN64.out
            have Z65 : Hid (wr63.heap.size ≤ wr65.heap.size) := Nat.le_trans Z64.out (Nat.le_of_eq (by rw [hwr65.out]; simp))
            have YH65 : Hid (Blk wr65 wdhh5.heap.size #[.int .i64 ID, .bool UP, .int .i64 ROOM, .slice a63 RS.length cp63, .int .i64 F] 34) := by show Blk _ _ _ _; rw [hwr65.out]; exact blk_h5 YH64.out
            have YW65 : Hid (Blk wr65 wr63.heap.size #[.int .i64 0, .int .i64 0, .int .i64 0, .int .i64 0] 35) := by show Blk _ _ _ _; rw [hwr65.out]; exact blk_h5o YWN64.out (fun e => NE65 e.symm)
            have O65 : Hid (OwnRecs wr65 wr62.heap.size wr63.heap.size (.slice a63 RS.length cp63) ps63) := by show OwnRecs _ _ _ _ _; rw [hwr65.out]; exact own_h5 O64.out YH64.out
            have L65 : Hid (Below w1.heap.size w1 wr65) := by show Below _ _ _; rw [hwr65.out]; exact bel_h5 L64.out BYH60.out
            rw [← hwr65.out]
            clear c0 cf0 c1 cf1 c2 cf2 c3 cf3 c4 cf4
            try dsimp only
            refine hK.out _ _ (KK.out _ L65.out) (fun hHeld => ?_)
            clear hK K
            refine wpAnyH_ready (rs := [12]) (by kernel_rfl) (by simp) ?_
            refine AllReadyH.cons rfl (fun K hK => ?_) AllReadyH.nil
            go_simp
            obtain ⟨c0, c1, c2, c3⟩ := YW65.out.cells4
            have cf0 := YW65.out.free 0
            have cf1 := YW65.out.free 1
            have cf2 := YW65.out.free 2
            have cf3 := YW65.out.free 3
            go_simp
            obtain ⟨wr66, hwr66⟩ : ∃ W, Hid (W = ((((wr65.setCell ⟨wr63.heap.size, 0, none⟩ (.int .i64 X1)).setCell ⟨wr63.heap.size, 1, none⟩ (.int .i64 X2)).setCell ⟨wr63.heap.size, 2, none⟩ (.int .i64 X3)).setCell ⟨wr63.heap.size, 3, none⟩ (.int .i64 0))) := ⟨_, rfl⟩
            have Z66 : Hid (wr63.heap.size ≤ wr66.heap.size) := Nat.le_trans Z65.out (Nat.le_of_eq (by rw [hwr66.out]; simp))
            have NEX66 : wdhh5.heap.size ≠ wr63.heap.size := NE65
            have YW66 : Hid (Blk wr66 wr63.heap.size #[.int .i64 X1, .int .i64 X2, .int .i64 X3, .int .i64 0] 35) := by show Blk _ _ _ _; rw [hwr66.out]; exact blk_w4 YW65.out
            have YH66 : Hid (Blk wr66 wdhh5.heap.size #[.int .i64 ID, .bool UP, .int .i64 ROOM, .slice a63 RS.length cp63, .int .i64 F] 34) := by show Blk _ _ _ _; rw [hwr66.out]; exact blk_w4o YH65.out NEX66
            have O66 : Hid (OwnRecs wr66 wr62.heap.size wr63.heap.size (.slice a63 RS.length cp63) ps63) := by show OwnRecs _ _ _ _ _; rw [hwr66.out]; exact own_w4 O65.out YW65.out
            have L66 : Hid (Below w1.heap.size w1 wr66) := by show Below _ _ _; rw [hwr66.out]; exact bel_w4 L65.out BYW64.out
            rw [← hwr66.out]
            clear c0 cf0 c1 cf1 c2 cf2 c3 cf3
            try dsimp only
            refine hK.out _ _ (KK.out _ L66.out) (fun hHeld => ?_)
            clear hK K
            refine takeD (i := 13) (v := ?_) (some 8) rfl rfl (by kernel_rfl) (by kernel_rfl) (by kernel_rfl) (fun _ _ _ h => h) (by rfl) hHeld ?_ ?_
            rotate_left
            · intro W hSw
              try dsimp only at hSw
              go_simp
              try with_reducible rfl
            try simp only [Act.put]
            try simp only [List.setIfInBounds_toArray]
            try simp only [List.set_cons_succ]
            try simp only [List.set_cons_zero]
            refine wpAnyH_done (by kernel_rfl) ?_ _
            go_wp2_with fail
            go_meet
            case rel => exact ⟨_, _, a63, cp63, ps63, _, _, rfl, rfl, rfl, P63, hide_it ⟨L66.out, YH66.out, YW66.out, O66.out, BYH60.out, BYW64.out, Or.inl AH63.out, Or.inr ZZ63.out, LL63.out, Z66.out⟩⟩
          · go_simp
            obtain ⟨wr67, hwr67⟩ : ∃ W, Hid (W = wr62.alloc (.cells #[.int .i64 0, .int .i64 0, .int .i64 0, .int .i64 0] 35)) := ⟨_, rfl⟩
            have al67 : Below wr62.heap.size wr62 wr67 := by rw [hwr67.out]; exact alloc_below _ _
            have YWN67 : Hid (Blk wr67 wr62.heap.size #[.int .i64 0, .int .i64 0, .int .i64 0, .int .i64 0] 35) := by show Blk _ _ _ _; rw [hwr67.out]; exact Blk.new _ _ _
            have BYW67 : Hid (w1.heap.size ≤ wr62.heap.size) := L62.out.size
            have YH67 := hide_it (YH62.out.after al67)
            have V67 := hide_it (V62.out.later al67 (Nat.le_refl _))
            have L67 : Hid (Below w1.heap.size w1 wr67) := L62.out.trans (al67.mono L62.out.size)
            clear al67
            rw [← hwr67.out]
            try dsimp only
            refine hK.out _ _ (KK.out _ L67.out) (fun hHeld => ?_)
            clear hK K
            refine wpAnyH_ready (rs := [4]) (by kernel_rfl) (by simp) ?_
            refine AllReadyH.cons rfl (fun K hK => ?_) AllReadyH.nil
            go_simp
            refine (HSP.out _ wr67 V67.out).mono ?_
            rintro e wr68 ⟨a68, cp68, rfl, hm68, hb68⟩
            obtain ⟨ps68, hp68, ho68⟩ := hm68
            have P68 := hide_it hp68
            have OO68 := hide_it ho68
            have ZZ68 : Hid (wr68.heap.size ≤ wr68.heap.size) := Nat.le_refl _
            have LL68 : Hid (w1.heap.size ≤ wr67.heap.size) := L67.out.size
            have AH68 : Hid (wdhh5.heap.size < wr67.heap.size) := YH67.out.lt
            have AW68 : Hid (wr62.heap.size < wr67.heap.size) := YWN67.out.lt
            have YH68 := hide_it (YH67.out.after hb68)
            have YW68 := hide_it (YWN67.out.after hb68)
            have V68 := hide_it (V67.out.later hb68 (Nat.le_refl _))
            have L68 : Hid (Below w1.heap.size w1 wr68) := L67.out.trans (hb68.mono L67.out.size)
            clear hb68 hp68 ho68
            try dsimp only
            refine hK.out _ _ (KK.out _ L68.out) (fun hHeld => ?_)
            clear hK K
            refine takeD (i := 5) (v := ?_) (some 24) rfl rfl (by kernel_rfl) (by kernel_rfl) (by kernel_rfl) (fun _ _ _ h => h) (by rfl) hHeld ?_ ?_
            rotate_left
            · intro W hSw
              try dsimp only at hSw
              go_simp
              try with_reducible rfl
            try simp only [Act.put]
            try simp only [List.setIfInBounds_toArray]
            try simp only [List.set_cons_succ]
            try simp only [List.set_cons_zero]
            refine takeD (i := 6) (v := ?_) (some 30) rfl rfl (by kernel_rfl) (by kernel_rfl) (by kernel_rfl) (fun _ _ _ h => h) (by rfl) hHeld ?_ ?_
            rotate_left
            · intro W hSw
              try dsimp only at hSw
              go_simp
              try with_reducible rfl
            try simp only [Act.put]
            try simp only [List.setIfInBounds_toArray]
            try simp only [List.set_cons_succ]
            try simp only [List.set_cons_zero]
            refine takeD (i := 7) (v := ?_) (some 31) rfl rfl (by kernel_rfl) (by kernel_rfl) (by kernel_rfl) (fun _ _ _ h => h) (by rfl) hHeld ?_ ?_
            rotate_left
            · intro W hSw
              try dsimp only at hSw
              go_simp
              try with_reducible rfl
            try simp only [Act.put]
            try simp only [List.setIfInBounds_toArray]
            try simp only [List.set_cons_succ]
            try simp only [List.set_cons_zero]
            refine takeD (i := 8) (v := ?_) (some 32) rfl rfl (by kernel_rfl) (by kernel_rfl) (by kernel_rfl) (fun _ _ _ h => h) (by rfl) hHeld ?_ ?_
            rotate_left
            · intro W hSw
              try dsimp only at hSw
              go_simp
              try with_reducible rfl
            try simp only [Act.put]
            try simp only [List.setIfInBounds_toArray]
            try simp only [List.set_cons_succ]
            try simp only [List.set_cons_zero]
            refine wpAnyH_ready (rs := [11]) (by kernel_rfl) (by simp) ?_
            refine AllReadyH.cons rfl (fun K hK => ?_) AllReadyH.nil
            go_simp
            obtain ⟨c0, c1, c2, c3, c4⟩ := YH68.out.cells5
            have cf0 := YH68.out.free 0
            have cf1 := YH68.out.free 1
            have cf2 := YH68.out.free 2
            have cf3 := YH68.out.free 3
            have cf4 := YH68.out.free 4
            go_simp
            obtain ⟨wr69, hwr69⟩ : ∃ W, Hid (W = (((((wr68.setCell ⟨wdhh5.heap.size, 0, none⟩ (.int .i64 ID)).setCell ⟨wdhh5.heap.size, 1, none⟩ (.bool UP)).setCell ⟨wdhh5.heap.size, 2, none⟩ (.int .i64 ROOM)).setCell ⟨wdhh5.heap.size, 3, none⟩ (.slice a68 RS.length cp68)).setCell ⟨wdhh5.heap.size, 4, none⟩ (.int .i64 F))) := ⟨_, rfl⟩
            have NE69 := ne_hw YH68.out YW68.out
            have Z69 : Hid (wr68.heap.size ≤ wr69.heap.size) := Nat.le_trans ZZ68.out (Nat.le_of_eq (by rw [hwr69.out]; simp))
            have YH69 : Hid (Blk wr69 wdhh5.heap.size #[.int .i64 ID, .bool UP, .int .i64 ROOM, .slice a68 RS.length cp68, .int .i64 F] 34) := by show Blk _ _ _ _; rw [hwr69.out]; exact blk_h5 YH68.out
            have YW69 : Hid (Blk wr69 wr62.heap.size #[.int .i64 0, .int .i64 0, .int .i64 0, .int .i64 0] 35) := by show Blk _ _ _ _; rw [hwr69.out]; exact blk_h5o YW68.out (fun e => NE69 e.symm)
            have O69 : Hid (OwnRecs wr69 wr67.heap.size wr68.heap.size (.slice a68 RS.length cp68) ps68) := by show OwnRecs _ _ _ _ _; rw [hwr69.out]; exact own_h5 OO68.out YH68.out
            have L69 : Hid (Below w1.heap.size w1 wr69) := by show Below _ _ _; rw [hwr69.out]; exact bel_h5 L68.out BYH60.out
            rw [← hwr69.out]
            clear c0 cf0 c1 cf1 c2 cf2 c3 cf3 c4 cf4
            try dsimp only
            refine hK.out _ _ (KK.out _ L69.out) (fun hHeld => ?_)
            clear hK K
            refine wpAnyH_ready (rs := [12]) (by kernel_rfl) (by simp) ?_
            refine AllReadyH.cons rfl (fun K hK => ?_) AllReadyH.nil
            go_simp
            obtain ⟨c0, c1, c2, c3⟩ := YW69.out.cells4
            have cf0 := YW69.out.free 0
            have cf1 := YW69.out.free 1
            have cf2 := YW69.out.free 2
            have cf3 := YW69.out.free 3
            go_simp
            obtain ⟨wr70, hwr70⟩ : ∃ W, Hid (W = ((((wr69.setCell ⟨wr62.heap.size, 0, none⟩ (.int .i64 X1)).setCell ⟨wr62.heap.size, 1, none⟩ (.int .i64 X2)).setCell ⟨wr62.heap.size, 2, none⟩ (.int .i64 X3)).setCell ⟨wr62.heap.size, 3, none⟩ (.int .i64 0))) := ⟨_, rfl⟩
            have Z70 : Hid (wr68.heap.size ≤ wr70.heap.size) := Nat.le_trans Z69.out (Nat.le_of_eq (by rw [hwr70.out]; simp))
            have NEX70 : wdhh5.heap.size ≠ wr62.heap.size := NE69
            have YW70 : Hid (Blk wr70 wr62.heap.size #[.int .i64 X1, .int .i64 X2, .int .i64 X3, .int .i64 0] 35) := by show Blk _ _ _ _; rw [hwr70.out]; exact blk_w4 YW69.out
            have YH70 : Hid (Blk wr70 wdhh5.heap.size #[.int .i64 ID, .bool UP, .int .i64 ROOM, .slice a68 RS.length cp68, .int .i64 F] 34) := by show Blk _ _ _ _; rw [hwr70.out]; exact blk_w4o YH69.out NEX70
            have O70 : Hid (OwnRecs wr70 wr67.heap.size wr68.heap.size (.slice a68 RS.length cp68) ps68) := by show OwnRecs _ _ _ _ _; rw [hwr70.out]; exact own_w4 O69.out YW69.out
            have L70 : Hid (Below w1.heap.size w1 wr70) := by show Below _ _ _; rw [hwr70.out]; exact bel_w4 L69.out BYW67.out
            rw [← hwr70.out]
            clear c0 cf0 c1 cf1 c2 cf2 c3 cf3
            try dsimp only
            refine hK.out _ _ (KK.out _ L70.out) (fun hHeld => ?_)
            clear hK K
            refine takeD (i := 13) (v := ?_) (some 8) rfl rfl (by kernel_rfl) (by kernel_rfl) (by kernel_rfl) (fun _ _ _ h => h) (by rfl) hHeld ?_ ?_
            rotate_left
            · intro W hSw
              try dsimp only at hSw
              go_simp
              try with_reducible rfl
            try simp only [Act.put]
            try simp only [List.setIfInBounds_toArray]
            try simp only [List.set_cons_succ]
            try simp only [List.set_cons_zero]
            refine wpAnyH_done (by kernel_rfl) ?_ _
            go_wp2_with fail
            go_meet
            case rel => exact ⟨_, _, a68, cp68, ps68, _, _, rfl, rfl, rfl, P68, hide_it ⟨L70.out, YH70.out, YW70.out, O70.out, BYH60.out, BYW67.out, Or.inl AH68.out, Or.inl AW68.out, LL68.out, Z70.out⟩⟩
        · go_simp
          obtain ⟨wr71, hwr71⟩ : ∃ W, Hid (W = wr61.alloc (.cells #[.int .i64 0, .int .i64 0, .int .i64 0, .int .i64 0] 35)) := ⟨_, rfl⟩
          have al71 : Below wr61.heap.size wr61 wr71 := by rw [hwr71.out]; exact alloc_below _ _
          have YWN71 : Hid (Blk wr71 wr61.heap.size #[.int .i64 0, .int .i64 0, .int .i64 0, .int .i64 0] 35) := by show Blk _ _ _ _; rw [hwr71.out]; exact Blk.new _ _ _
          have BYW71 : Hid (w1.heap.size ≤ wr61.heap.size) := L61.out.size
          have YH71 := hide_it (YH61.out.after al71)
          have V71 := hide_it (VV61.out.later al71 (Nat.le_refl _))
          have L71 : Hid (Below w1.heap.size w1 wr71) := L61.out.trans (al71.mono L61.out.size)
          clear al71
          rw [← hwr71.out]
          try dsimp only
          refine hK.out _ _ (KK.out _ L71.out) (fun hHeld => ?_)
          clear hK K
          refine wpAnyH_ready (rs := [3]) (by kernel_rfl) (by simp) ?_
          refine AllReadyH.cons rfl (fun K hK => ?_) AllReadyH.nil
          go_simp
          refine (toWord_any k h t m wr71).mono ?_
          rintro e wr72 ⟨rfl, hb72⟩
          have YH72 := hide_it (YH71.out.after hb72)
          have YW72 := hide_it (YWN71.out.after hb72)
          have V72 := hide_it (V71.out.later hb72 (Nat.le_refl _))
          have L72 : Hid (Below w1.heap.size w1 wr72) := L71.out.trans (hb72.mono L71.out.size)
          clear hb72
          try dsimp only
          refine hK.out _ _ (KK.out _ L72.out) (fun hHeld => ?_)
          clear hK K
          refine wpAnyH_ready (rs := [4]) (by kernel_rfl) (by simp) ?_
          refine AllReadyH.cons rfl (fun K hK => ?_) AllReadyH.nil
          go_simp
          refine (HSP.out _ wr72 V72.out).mono ?_
          rintro e wr73 ⟨a73, cp73, rfl, hm73, hb73⟩
          obtain ⟨ps73, hp73, ho73⟩ := hm73
          have P73 := hide_it hp73
          have OO73 := hide_it ho73
          have ZZ73 : Hid (wr73.heap.size ≤ wr73.heap.size) := Nat.le_refl _
          have LL73 : Hid (w1.heap.size ≤ wr72.heap.size) := L72.out.size
          have AH73 : Hid (wdhh5.heap.size < wr72.heap.size) := YH72.out.lt
          have AW73 : Hid (wr61.heap.size < wr72.heap.size) := YW72.out.lt
          have YH73 := hide_it (YH72.out.after hb73)
          have YW73 := hide_it (YW72.out.after hb73)
          have V73 := hide_it (V72.out.later hb73 (Nat.le_refl _))
          have L73 : Hid (Below w1.heap.size w1 wr73) := L72.out.trans (hb73.mono L72.out.size)
          clear hb73 hp73 ho73
          try dsimp only
          refine hK.out _ _ (KK.out _ L73.out) (fun hHeld => ?_)
          clear hK K
          refine takeD (i := 5) (v := ?_) (some 24) rfl rfl (by kernel_rfl) (by kernel_rfl) (by kernel_rfl) (fun _ _ _ h => h) (by rfl) hHeld ?_ ?_
          rotate_left
          · intro W hSw
            try dsimp only at hSw
            go_simp
            try with_reducible rfl
          try simp only [Act.put]
          try simp only [List.setIfInBounds_toArray]
          try simp only [List.set_cons_succ]
          try simp only [List.set_cons_zero]
          refine takeD (i := 6) (v := ?_) (some 30) rfl rfl (by kernel_rfl) (by kernel_rfl) (by kernel_rfl) (fun _ _ _ h => h) (by rfl) hHeld ?_ ?_
          rotate_left
          · intro W hSw
            try dsimp only at hSw
            go_simp
            try with_reducible rfl
          try simp only [Act.put]
          try simp only [List.setIfInBounds_toArray]
          try simp only [List.set_cons_succ]
          try simp only [List.set_cons_zero]
          refine takeD (i := 7) (v := ?_) (some 31) rfl rfl (by kernel_rfl) (by kernel_rfl) (by kernel_rfl) (fun _ _ _ h => h) (by rfl) hHeld ?_ ?_
          rotate_left
          · intro W hSw
            try dsimp only at hSw
            go_simp
            try with_reducible rfl
          try simp only [Act.put]
          try simp only [List.setIfInBounds_toArray]
          try simp only [List.set_cons_succ]
          try simp only [List.set_cons_zero]
          refine takeD (i := 8) (v := ?_) (some 32) rfl rfl (by kernel_rfl) (by kernel_rfl) (by kernel_rfl) (fun _ _ _ h => h) (by rfl) hHeld ?_ ?_
          rotate_left
          · intro W hSw
            try dsimp only at hSw
            go_simp
            try with_reducible rfl
          try simp only [Act.put]
          try simp only [List.setIfInBounds_toArray]
          try simp only [List.set_cons_succ]
          try simp only [List.set_cons_zero]
          refine wpAnyH_ready (rs := [11]) (by kernel_rfl) (by simp) ?_
          refine AllReadyH.cons rfl (fun K hK => ?_) AllReadyH.nil
          go_simp
          obtain ⟨c0, c1, c2, c3, c4⟩ := YH73.out.cells5
          have cf0 := YH73.out.free 0
          have cf1 := YH73.out.free 1
          have cf2 := YH73.out.free 2
          have cf3 := YH73.out.free 3
          have cf4 := YH73.out.free 4
          go_simp
          obtain ⟨wr74, hwr74⟩ : ∃ W, Hid (W = (((((wr73.setCell ⟨wdhh5.heap.size, 0, none⟩ (.int .i64 ID)).setCell ⟨wdhh5.heap.size, 1, none⟩ (.bool UP)).setCell ⟨wdhh5.heap.size, 2, none⟩ (.int .i64 ROOM)).setCell ⟨wdhh5.heap.size, 3, none⟩ (.slice a73 RS.length cp73)).setCell ⟨wdhh5.heap.size, 4, none⟩ (.int .i64 F))) := ⟨_, rfl⟩
          have NE74 := ne_hw YH73.out YW73.out
          have Z74 : Hid (wr73.heap.size ≤ wr74.heap.size) := Nat.le_trans ZZ73.out (Nat.le_of_eq (by rw [hwr74.out]; simp))
          have YH74 : Hid (Blk wr74 wdhh5.heap.size #[.int .i64 ID, .bool UP, .int .i64 ROOM, .slice a73 RS.length cp73, .int .i64 F] 34) := by show Blk _ _ _ _; rw [hwr74.out]; exact blk_h5 YH73.out
          have YW74 : Hid (Blk wr74 wr61.heap.size #[.int .i64 0, .int .i64 0, .int .i64 0, .int .i64 0] 35) := by show Blk _ _ _ _; rw [hwr74.out]; exact blk_h5o YW73.out (fun e => NE74 e.symm)
          have O74 : Hid (OwnRecs wr74 wr72.heap.size wr73.heap.size (.slice a73 RS.length cp73) ps73) := by show OwnRecs _ _ _ _ _; rw [hwr74.out]; exact own_h5 OO73.out YH73.out
          have L74 : Hid (Below w1.heap.size w1 wr74) := by show Below _ _ _; rw [hwr74.out]; exact bel_h5 L73.out BYH60.out
          rw [← hwr74.out]
          clear c0 cf0 c1 cf1 c2 cf2 c3 cf3 c4 cf4
          try dsimp only
          refine hK.out _ _ (KK.out _ L74.out) (fun hHeld => ?_)
          clear hK K
          refine wpAnyH_ready (rs := [12]) (by kernel_rfl) (by simp) ?_
          refine AllReadyH.cons rfl (fun K hK => ?_) AllReadyH.nil
          go_simp
          obtain ⟨c0, c1, c2, c3⟩ := YW74.out.cells4
          have cf0 := YW74.out.free 0
          have cf1 := YW74.out.free 1
          have cf2 := YW74.out.free 2
          have cf3 := YW74.out.free 3
          go_simp
          obtain ⟨wr75, hwr75⟩ : ∃ W, Hid (W = ((((wr74.setCell ⟨wr61.heap.size, 0, none⟩ (.int .i64 X1)).setCell ⟨wr61.heap.size, 1, none⟩ (.int .i64 X2)).setCell ⟨wr61.heap.size, 2, none⟩ (.int .i64 X3)).setCell ⟨wr61.heap.size, 3, none⟩ (.int .i64 0))) := ⟨_, rfl⟩
          have Z75 : Hid (wr73.heap.size ≤ wr75.heap.size) := Nat.le_trans Z74.out (Nat.le_of_eq (by rw [hwr75.out]; simp))
          have NEX75 : wdhh5.heap.size ≠ wr61.heap.size := NE74
          have YW75 : Hid (Blk wr75 wr61.heap.size #[.int .i64 X1, .int .i64 X2, .int .i64 X3, .int .i64 0] 35) := by show Blk _ _ _ _; rw [hwr75.out]; exact blk_w4 YW74.out
          have YH75 : Hid (Blk wr75 wdhh5.heap.size #[.int .i64 ID, .bool UP, .int .i64 ROOM, .slice a73 RS.length cp73, .int .i64 F] 34) := by show Blk _ _ _ _; rw [hwr75.out]; exact blk_w4o YH74.out NEX75
          have O75 : Hid (OwnRecs wr75 wr72.heap.size wr73.heap.size (.slice a73 RS.length cp73) ps73) := by show OwnRecs _ _ _ _ _; rw [hwr75.out]; exact own_w4 O74.out YW74.out
          have L75 : Hid (Below w1.heap.size w1 wr75) := by show Below _ _ _; rw [hwr75.out]; exact bel_w4 L74.out BYW71.out
          rw [← hwr75.out]
          clear c0 cf0 c1 cf1 c2 cf2 c3 cf3
          try dsimp only
          refine hK.out _ _ (KK.out _ L75.out) (fun hHeld => ?_)
          clear hK K
          refine takeD (i := 13) (v := ?_) (some 8) rfl rfl (by kernel_rfl) (by kernel_rfl) (by kernel_rfl) (fun _ _ _ h => h) (by rfl) hHeld ?_ ?_
          rotate_left
          · intro W hSw
            try dsimp only at hSw
            go_simp
            try with_reducible rfl
          try simp only [Act.put]
          try simp only [List.setIfInBounds_toArray]
          try simp only [List.set_cons_succ]
          try simp only [List.set_cons_zero]
          refine wpAnyH_done (by kernel_rfl) ?_ _
          go_wp2_with fail
          go_meet
          case rel => exact ⟨_, _, a73, cp73, ps73, _, _, rfl, rfl, rfl, P73, hide_it ⟨L75.out, YH75.out, YW75.out, O75.out, BYH60.out, BYW71.out, Or.inl AH73.out, Or.inl AW73.out, LL73.out, Z75.out⟩⟩
      · go_simp
        obtain ⟨wr76, hwr76⟩ : ∃ W, Hid (W = wr60.alloc (.cells #[.int .i64 0, .int .i64 0, .int .i64 0, .int .i64 0] 35)) := ⟨_, rfl⟩
        have al76 : Below wr60.heap.size wr60 wr76 := by rw [hwr76.out]; exact alloc_below _ _
        have YWN76 : Hid (Blk wr76 wr60.heap.size #[.int .i64 0, .int .i64 0, .int .i64 0, .int .i64 0] 35) := by show Blk _ _ _ _; rw [hwr76.out]; exact Blk.new _ _ _
        have BYW76 : Hid (w1.heap.size ≤ wr60.heap.size) := L60.out.size
        have YH76 := hide_it (YHN60.out.after al76)
        have L76 : Hid (Below w1.heap.size w1 wr76) := L60.out.trans (al76.mono L60.out.size)
        clear al76
        rw [← hwr76.out]
        try dsimp only
        refine hK.out _ _ (KK.out _ L76.out) (fun hHeld => ?_)
        clear hK K
        refine wpAnyH_ready (rs := [1]) (by kernel_rfl) (by simp) ?_
        refine AllReadyH.cons rfl (fun K hK => ?_) AllReadyH.nil
        go_simp
        refine (toHouse_any id up room _ rs f wr76 (HV.out _ (B1.out.trans (L76.out.mono B1.out.size))) hl).mono ?_
        rintro e wr77 ⟨a77, cp77, rfl, hm77, hb77⟩
        have VV77 := hide_it hm77.recs
        have FM77 := hide_it (form_made hm77)
        have YH77 := hide_it (YH76.out.after hb77)
        have YW77 := hide_it (YWN76.out.after hb77)
        have L77 : Hid (Below w1.heap.size w1 wr77) := L76.out.trans (hb77.mono L76.out.size)
        clear hb77 hm77
        try dsimp only
        refine hK.out _ _ (KK.out _ L77.out) (fun hHeld => ?_)
        clear hK K
        refine wpAnyH_ready (rs := [3]) (by kernel_rfl) (by simp) ?_
        refine AllReadyH.cons rfl (fun K hK => ?_) AllReadyH.nil
        go_simp
        refine (toWord_any k h t m wr77).mono ?_
        rintro e wr78 ⟨rfl, hb78⟩
        have YH78 := hide_it (YH77.out.after hb78)
        have YW78 := hide_it (YW77.out.after hb78)
        have V78 := hide_it (VV77.out.later hb78 (Nat.le_refl _))
        have L78 : Hid (Below w1.heap.size w1 wr78) := L77.out.trans (hb78.mono L77.out.size)
        clear hb78
        try dsimp only
        refine hK.out _ _ (KK.out _ L78.out) (fun hHeld => ?_)
        clear hK K
        refine wpAnyH_ready (rs := [4]) (by kernel_rfl) (by simp) ?_
        refine AllReadyH.cons rfl (fun K hK => ?_) AllReadyH.nil
        go_simp
        refine (HSP.out _ wr78 V78.out).mono ?_
        rintro e wr79 ⟨a79, cp79, rfl, hm79, hb79⟩
        obtain ⟨ps79, hp79, ho79⟩ := hm79
        have P79 := hide_it hp79
        have OO79 := hide_it ho79
        have ZZ79 : Hid (wr79.heap.size ≤ wr79.heap.size) := Nat.le_refl _
        have LL79 : Hid (w1.heap.size ≤ wr78.heap.size) := L78.out.size
        have AH79 : Hid (wdhh5.heap.size < wr78.heap.size) := YH78.out.lt
        have AW79 : Hid (wr60.heap.size < wr78.heap.size) := YW78.out.lt
        have YH79 := hide_it (YH78.out.after hb79)
        have YW79 := hide_it (YW78.out.after hb79)
        have V79 := hide_it (V78.out.later hb79 (Nat.le_refl _))
        have L79 : Hid (Below w1.heap.size w1 wr79) := L78.out.trans (hb79.mono L78.out.size)
        clear hb79 hp79 ho79
        try dsimp only
        refine hK.out _ _ (KK.out _ L79.out) (fun hHeld => ?_)
        clear hK K
        refine takeD (i := 5) (v := ?_) (some 24) rfl rfl (by kernel_rfl) (by kernel_rfl) (by kernel_rfl) (fun _ _ _ h => h) (by rfl) hHeld ?_ ?_
        rotate_left
        · intro W hSw
          try dsimp only at hSw
          go_simp
          try with_reducible rfl
        try simp only [Act.put]
        try simp only [List.setIfInBounds_toArray]
        try simp only [List.set_cons_succ]
        try simp only [List.set_cons_zero]
        refine takeD (i := 6) (v := ?_) (some 30) rfl rfl (by kernel_rfl) (by kernel_rfl) (by kernel_rfl) (fun _ _ _ h => h) (by rfl) hHeld ?_ ?_
        rotate_left
        · intro W hSw
          try dsimp only at hSw
          go_simp
          try with_reducible rfl
        try simp only [Act.put]
        try simp only [List.setIfInBounds_toArray]
        try simp only [List.set_cons_succ]
        try simp only [List.set_cons_zero]
        refine takeD (i := 7) (v := ?_) (some 31) rfl rfl (by kernel_rfl) (by kernel_rfl) (by kernel_rfl) (fun _ _ _ h => h) (by rfl) hHeld ?_ ?_
        rotate_left
        · intro W hSw
          try dsimp only at hSw
          go_simp
          try with_reducible rfl
        try simp only [Act.put]
        try simp only [List.setIfInBounds_toArray]
        try simp only [List.set_cons_succ]
        try simp only [List.set_cons_zero]
        refine takeD (i := 8) (v := ?_) (some 32) rfl rfl (by kernel_rfl) (by kernel_rfl) (by kernel_rfl) (fun _ _ _ h => h) (by rfl) hHeld ?_ ?_
        rotate_left
        · intro W hSw
          try dsimp only at hSw
          go_simp
          try with_reducible rfl
        try simp only [Act.put]
        try simp only [List.setIfInBounds_toArray]
        try simp only [List.set_cons_succ]
        try simp only [List.set_cons_zero]
        refine wpAnyH_ready (rs := [11]) (by kernel_rfl) (by simp) ?_
        refine AllReadyH.cons rfl (fun K hK => ?_) AllReadyH.nil
        go_simp
        obtain ⟨c0, c1, c2, c3, c4⟩ := YH79.out.cells5
        have cf0 := YH79.out.free 0
        have cf1 := YH79.out.free 1
        have cf2 := YH79.out.free 2
        have cf3 := YH79.out.free 3
        have cf4 := YH79.out.free 4
        go_simp
        obtain ⟨wr80, hwr80⟩ : ∃ W, Hid (W = (((((wr79.setCell ⟨wdhh5.heap.size, 0, none⟩ (.int .i64 ID)).setCell ⟨wdhh5.heap.size, 1, none⟩ (.bool UP)).setCell ⟨wdhh5.heap.size, 2, none⟩ (.int .i64 ROOM)).setCell ⟨wdhh5.heap.size, 3, none⟩ (.slice a79 RS.length cp79)).setCell ⟨wdhh5.heap.size, 4, none⟩ (.int .i64 F))) := ⟨_, rfl⟩
        have NE80 := ne_hw YH79.out YW79.out
        have Z80 : Hid (wr79.heap.size ≤ wr80.heap.size) := Nat.le_trans ZZ79.out (Nat.le_of_eq (by rw [hwr80.out]; simp))
        have YH80 : Hid (Blk wr80 wdhh5.heap.size #[.int .i64 ID, .bool UP, .int .i64 ROOM, .slice a79 RS.length cp79, .int .i64 F] 34) := by show Blk _ _ _ _; rw [hwr80.out]; exact blk_h5 YH79.out
        have YW80 : Hid (Blk wr80 wr60.heap.size #[.int .i64 0, .int .i64 0, .int .i64 0, .int .i64 0] 35) := by show Blk _ _ _ _; rw [hwr80.out]; exact blk_h5o YW79.out (fun e => NE80 e.symm)
        have O80 : Hid (OwnRecs wr80 wr78.heap.size wr79.heap.size (.slice a79 RS.length cp79) ps79) := by show OwnRecs _ _ _ _ _; rw [hwr80.out]; exact own_h5 OO79.out YH79.out
        have L80 : Hid (Below w1.heap.size w1 wr80) := by show Below _ _ _; rw [hwr80.out]; exact bel_h5 L79.out BYH60.out
        rw [← hwr80.out]
        clear c0 cf0 c1 cf1 c2 cf2 c3 cf3 c4 cf4
        try dsimp only
        refine hK.out _ _ (KK.out _ L80.out) (fun hHeld => ?_)
        clear hK K
        refine wpAnyH_ready (rs := [12]) (by kernel_rfl) (by simp) ?_
        refine AllReadyH.cons rfl (fun K hK => ?_) AllReadyH.nil
        go_simp
        obtain ⟨c0, c1, c2, c3⟩ := YW80.out.cells4
        have cf0 := YW80.out.free 0
        have cf1 := YW80.out.free 1
        have cf2 := YW80.out.free 2
        have cf3 := YW80.out.free 3
        go_simp
        obtain ⟨wr81, hwr81⟩ : ∃ W, Hid (W = ((((wr80.setCell ⟨wr60.heap.size, 0, none⟩ (.int .i64 X1)).setCell ⟨wr60.heap.size, 1, none⟩ (.int .i64 X2)).setCell ⟨wr60.heap.size, 2, none⟩ (.int .i64 X3)).setCell ⟨wr60.heap.size, 3, none⟩ (.int .i64 0))) := ⟨_, rfl⟩
        have Z81 : Hid (wr79.heap.size ≤ wr81.heap.size) := Nat.le_trans Z80.out (Nat.le_of_eq (by rw [hwr81.out]; simp))
        have NEX81 : wdhh5.heap.size ≠ wr60.heap.size := NE80
        have YW81 : Hid (Blk wr81 wr60.heap.size #[.int .i64 X1, .int .i64 X2, .int .i64 X3, .int .i64 0] 35) := by show Blk _ _ _ _; rw [hwr81.out]; exact blk_w4 YW80.out
        have YH81 : Hid (Blk wr81 wdhh5.heap.size #[.int .i64 ID, .bool UP, .int .i64 ROOM, .slice a79 RS.length cp79, .int .i64 F] 34) := by show Blk _ _ _ _; rw [hwr81.out]; exact blk_w4o YH80.out NEX81
        have O81 : Hid (OwnRecs wr81 wr78.heap.size wr79.heap.size (.slice a79 RS.length cp79) ps79) := by show OwnRecs _ _ _ _ _; rw [hwr81.out]; exact own_w4 O80.out YW80.out
        have L81 : Hid (Below w1.heap.size w1 wr81) := by show Below _ _ _; rw [hwr81.out]; exact bel_w4 L80.out BYW76.out
        rw [← hwr81.out]
        clear c0 cf0 c1 cf1 c2 cf2 c3 cf3
        try dsimp only
        refine hK.out _ _ (KK.out _ L81.out) (fun hHeld => ?_)
        clear hK K
        refine takeD (i := 13) (v := ?_) (some 8) rfl rfl (by kernel_rfl) (by kernel_rfl) (by kernel_rfl) (fun _ _ _ h => h) (by rfl) hHeld ?_ ?_
        rotate_left
        · intro W hSw
          try dsimp only at hSw
          go_simp
          try with_reducible rfl
        try simp only [Act.put]
        try simp only [List.setIfInBounds_toArray]
        try simp only [List.set_cons_succ]
        try simp only [List.set_cons_zero]
        refine wpAnyH_done (by kernel_rfl) ?_ _
        go_wp2_with fail
        go_meet
        case rel => exact ⟨_, _, a79, cp79, ps79, _, _, rfl, rfl, rfl, P79, hide_it ⟨L81.out, YH81.out, YW81.out, O81.out, BYH60.out, BYW76.out, Or.inl AH79.out, Or.inl AW79.out, LL79.out, Z81.out⟩⟩
    · go_simp
      obtain ⟨wr82, hwr82⟩ : ∃ W, Hid (W = wdhh5.alloc (.cells #[.int .i64 0, .int .i64 0, .int .i64 0, .int .i64 0] 35)) := ⟨_, rfl⟩
      have al82 : Below wdhh5.heap.size wdhh5 wr82 := by rw [hwr82.out]; exact alloc_below _ _
      have YWN82 : Hid (Blk wr82 wdhh5.heap.size #[.int .i64 0, .int .i64 0, .int .i64 0, .int .i64 0] 35) := by show Blk _ _ _ _; rw [hwr82.out]; exact Blk.new _ _ _
      have BYW82 : Hid (w1.heap.size ≤ wdhh5.heap.size) := Ldhh5.out.size
      have L82 : Hid (Below w1.heap.size w1 wr82) := Ldhh5.out.trans (al82.mono Ldhh5.out.size)
      clear al82
      rw [← hwr82.out]
      try dsimp only
      refine hK.out _ _ (KK.out _ L82.out) (fun hHeld => ?_)
      clear hK K
      refine wpAnyH_ready (rs := [1, 9]) (by kernel_rfl) (by simp) ?_
      refine AllReadyH.cons rfl (fun K hK => ?_) (AllReadyH.cons rfl (fun K hK => ?_) AllReadyH.nil)
      · go_simp
        refine (toHouse_any id up room _ rs f wr82 (HV.out _ (B1.out.trans (L82.out.mono B1.out.size))) hl).mono ?_
        rintro e wr83 ⟨a83, cp83, rfl, hm83, hb83⟩
        have VV83 := hide_it hm83.recs
        have FM83 := hide_it (form_made hm83)
        have YW83 := hide_it (YWN82.out.after hb83)
        have L83 : Hid (Below w1.heap.size w1 wr83) := L82.out.trans (hb83.mono L82.out.size)
        clear hb83 hm83
        try dsimp only
        refine hK.out _ _ (KK.out _ L83.out) (fun hHeld => ?_)
        clear hK K
        refine wpAnyH_ready (rs := [3, 9]) (by kernel_rfl) (by simp) ?_
        refine AllReadyH.cons rfl (fun K hK => ?_) (AllReadyH.cons rfl (fun K hK => ?_) AllReadyH.nil)
        · go_simp
          refine (toWord_any k h t m wr83).mono ?_
          rintro e wr84 ⟨rfl, hb84⟩
          have YW84 := hide_it (YW83.out.after hb84)
          have V84 := hide_it (VV83.out.later hb84 (Nat.le_refl _))
          have L84 : Hid (Below w1.heap.size w1 wr84) := L83.out.trans (hb84.mono L83.out.size)
          clear hb84
          try dsimp only
          refine hK.out _ _ (KK.out _ L84.out) (fun hHeld => ?_)
          clear hK K
          refine wpAnyH_ready (rs := [4, 9]) (by kernel_rfl) (by simp) ?_
          refine AllReadyH.cons rfl (fun K hK => ?_) (AllReadyH.cons rfl (fun K hK => ?_) AllReadyH.nil)
          · go_simp
            refine (HSP.out _ wr84 V84.out).mono ?_
            rintro e wr85 ⟨a85, cp85, rfl, hm85, hb85⟩
            obtain ⟨ps85, hp85, ho85⟩ := hm85
            have P85 := hide_it hp85
            have OO85 := hide_it ho85
            have ZZ85 : Hid (wr85.heap.size ≤ wr85.heap.size) := Nat.le_refl _
            have LL85 : Hid (w1.heap.size ≤ wr84.heap.size) := L84.out.size
            have AW85 : Hid (wdhh5.heap.size < wr84.heap.size) := YW84.out.lt
            have YW85 := hide_it (YW84.out.after hb85)
            have V85 := hide_it (V84.out.later hb85 (Nat.le_refl _))
            have L85 : Hid (Below w1.heap.size w1 wr85) := L84.out.trans (hb85.mono L84.out.size)
            clear hb85 hp85 ho85
            try dsimp only
            refine hK.out _ _ (KK.out _ L85.out) (fun hHeld => ?_)
            clear hK K
            refine takeD (i := 5) (v := ?_) (some 24) rfl rfl (by kernel_rfl) (by kernel_rfl) (by kernel_rfl) (fun _ _ _ h => h) (by rfl) hHeld ?_ ?_
            rotate_left
            · intro W hSw
              try dsimp only at hSw
              go_simp
              try with_reducible rfl
            try simp only [Act.put]
            try simp only [List.setIfInBounds_toArray]
            try simp only [List.set_cons_succ]
            try simp only [List.set_cons_zero]
            refine takeD (i := 6) (v := ?_) (some 30) rfl rfl (by kernel_rfl) (by kernel_rfl) (by kernel_rfl) (fun _ _ _ h => h) (by rfl) hHeld ?_ ?_
            rotate_left
            · intro W hSw
              try dsimp only at hSw
              go_simp
              try with_reducible rfl
            try simp only [Act.put]
            try simp only [List.setIfInBounds_toArray]
            try simp only [List.set_cons_succ]
            try simp only [List.set_cons_zero]
            refine takeD (i := 7) (v := ?_) (some 31) rfl rfl (by kernel_rfl) (by kernel_rfl) (by kernel_rfl) (fun _ _ _ h => h) (by rfl) hHeld ?_ ?_
            rotate_left
            · intro W hSw
              try dsimp only at hSw
              go_simp
              try with_reducible rfl
            try simp only [Act.put]
            try simp only [List.setIfInBounds_toArray]
            try simp only [List.set_cons_succ]
            try simp only [List.set_cons_zero]
            refine takeD (i := 8) (v := ?_) (some 32) rfl rfl (by kernel_rfl) (by kernel_rfl) (by kernel_rfl) (fun _ _ _ h => h) (by rfl) hHeld ?_ ?_
            rotate_left
            · intro W hSw
              try dsimp only at hSw
              go_simp
              try with_reducible rfl
            try simp only [Act.put]
            try simp only [List.setIfInBounds_toArray]
            try simp only [List.set_cons_succ]
            try simp only [List.set_cons_zero]
            refine wpAnyH_ready (rs := [9]) (by kernel_rfl) (by simp) ?_
            refine AllReadyH.cons rfl (fun K hK => ?_) AllReadyH.nil
            go_simp
            obtain ⟨wr86, hwr86⟩ : ∃ W, Hid (W = wr85.alloc (.cells #[.int .i64 0, .bool false, .int .i64 0, .slice none 0 0, .int .i64 0] 34)) := ⟨_, rfl⟩
            have al86 : Below wr85.heap.size wr85 wr86 := by rw [hwr86.out]; exact alloc_below _ _
            have YHN86 : Hid (Blk wr86 wr85.heap.size #[.int .i64 0, .bool false, .int .i64 0, .slice none 0 0, .int .i64 0] 34) := by show Blk _ _ _ _; rw [hwr86.out]; exact Blk.new _ _ _
            have BYH86 : Hid (w1.heap.size ≤ wr85.heap.size) := L85.out.size
            have YW86 := hide_it (YW85.out.after al86)
            have V86 := hide_it (V85.out.later al86 (Nat.le_refl _))
            have O86 := hide_it (OO85.out.below al86 ZZ85.out)
            have Z86 : Hid (wr85.heap.size ≤ wr86.heap.size) := Nat.le_trans ZZ85.out al86.size
            have L86 : Hid (Below w1.heap.size w1 wr86) := L85.out.trans (al86.mono L85.out.size)
            clear al86
            rw [← hwr86.out]
            try dsimp only
            refine hK.out _ _ (KK.out _ L86.out) (fun hHeld => ?_)
            clear hK K
            refine wpAnyH_ready (rs := [11]) (by kernel_rfl) (by simp) ?_
            refine AllReadyH.cons rfl (fun K hK => ?_) AllReadyH.nil
            go_simp
            obtain ⟨c0, c1, c2, c3, c4⟩ := YHN86.out.cells5
            have cf0 := YHN86.out.free 0
            have cf1 := YHN86.out.free 1
            have cf2 := YHN86.out.free 2
            have cf3 := YHN86.out.free 3
            have cf4 := YHN86.out.free 4
            go_simp
            obtain ⟨wr87, hwr87⟩ : ∃ W, Hid (W = (((((wr86.setCell ⟨wr85.heap.size, 0, none⟩ (.int .i64 ID)).setCell ⟨wr85.heap.size, 1, none⟩ (.bool UP)).setCell ⟨wr85.heap.size, 2, none⟩ (.int .i64 ROOM)).setCell ⟨wr85.heap.size, 3, none⟩ (.slice a85 RS.length cp85)).setCell ⟨wr85.heap.size, 4, none⟩ (.int .i64 F))) := ⟨_, rfl⟩
            have NE87 := ne_hw YHN86.out YW86.out
            have Z87 : Hid (wr85.heap.size ≤ wr87.heap.size) := Nat.le_trans Z86.out (Nat.le_of_eq (by rw [hwr87.out]; simp))
            have YH87 : Hid (Blk wr87 wr85.heap.size #[.int .i64 ID, .bool UP, .int .i64 ROOM, .slice a85 RS.length cp85, .int .i64 F] 34) := by show Blk _ _ _ _; rw [hwr87.out]; exact blk_h5 YHN86.out
            have YW87 : Hid (Blk wr87 wdhh5.heap.size #[.int .i64 0, .int .i64 0, .int .i64 0, .int .i64 0] 35) := by show Blk _ _ _ _; rw [hwr87.out]; exact blk_h5o YW86.out (fun e => NE87 e.symm)
            have O87 : Hid (OwnRecs wr87 wr84.heap.size wr85.heap.size (.slice a85 RS.length cp85) ps85) := by show OwnRecs _ _ _ _ _; rw [hwr87.out]; exact own_h5 O86.out YHN86.out
            have L87 : Hid (Below w1.heap.size w1 wr87) := by show Below _ _ _; rw [hwr87.out]; exact bel_h5 L86.out BYH86.out
            rw [← hwr87.out]
            clear c0 cf0 c1 cf1 c2 cf2 c3 cf3 c4 cf4
            try dsimp only
            refine hK.out _ _ (KK.out _ L87.out) (fun hHeld => ?_)
            clear hK K
            refine wpAnyH_ready (rs := [12]) (by kernel_rfl) (by simp) ?_
            refine AllReadyH.cons rfl (fun K hK => ?_) AllReadyH.nil
            go_simp
            obtain ⟨c0, c1, c2, c3⟩ := YW87.out.cells4
            have cf0 := YW87.out.free 0
            have cf1 := YW87.out.free 1
            have cf2 := YW87.out.free 2
            have cf3 := YW87.out.free 3
            go_simp
            obtain ⟨wr88, hwr88⟩ : ∃ W, Hid (W = ((((wr87.setCell ⟨wdhh5.heap.size, 0, none⟩ (.int .i64 X1)).setCell ⟨wdhh5.heap.size, 1, none⟩ (.int .i64 X2)).setCell ⟨wdhh5.heap.size, 2, none⟩ (.int .i64 X3)).setCell ⟨wdhh5.heap.size, 3, none⟩ (.int .i64 0))) := ⟨_, rfl⟩
            have Z88 : Hid (wr85.heap.size ≤ wr88.heap.size) := Nat.le_trans Z87.out (Nat.le_of_eq (by rw [hwr88.out]; simp))
            have NEX88 : wr85.heap.size ≠ wdhh5.heap.size := NE87
            have YW88 : Hid (Blk wr88 wdhh5.heap.size #[.int .i64 X1, .int .i64 X2, .int .i64 X3, .int .i64 0] 35) := by show Blk _ _ _ _; rw [hwr88.out]; exact blk_w4 YW87.out
            have YH88 : Hid (Blk wr88 wr85.heap.size #[.int .i64 ID, .bool UP, .int .i64 ROOM, .slice a85 RS.length cp85, .int .i64 F] 34) := by show Blk _ _ _ _; rw [hwr88.out]; exact blk_w4o YH87.out NEX88
            have O88 : Hid (OwnRecs wr88 wr84.heap.size wr85.heap.size (.slice a85 RS.length cp85) ps85) := by show OwnRecs _ _ _ _ _; rw [hwr88.out]; exact own_w4 O87.out YW87.out
            have L88 : Hid (Below w1.heap.size w1 wr88) := by show Below _ _ _; rw [hwr88.out]; exact bel_w4 L87.out BYW82.out
            rw [← hwr88.out]
            clear c0 cf0 c1 cf1 c2 cf2 c3 cf3
            try dsimp only
            refine hK.out _ _ (KK.out _ L88.out) (fun hHeld => ?_)
            clear hK K
            refine takeD (i := 13) (v := ?_) (some 8) rfl rfl (by kernel_rfl) (by kernel_rfl) (by kernel_rfl) (fun _ _ _ h => h) (by rfl) hHeld ?_ ?_
            rotate_left
            · intro W hSw
              try dsimp only at hSw
              go_simp
              try with_reducible rfl
            try simp only [Act.put]
            try simp only [List.setIfInBounds_toArray]
            try simp only [List.set_cons_succ]
            try simp only [List.set_cons_zero]
            refine wpAnyH_done (by kernel_rfl) ?_ _
            go_wp2_with fail
            go_meet
            case rel => exact ⟨_, _, a85, cp85, ps85, _, _, rfl, rfl, rfl, P85, hide_it ⟨L88.out, YH88.out, YW88.out, O88.out, BYH86.out, BYW82.out, Or.inr ZZ85.out, Or.inl AW85.out, LL85.out, Z88.out⟩⟩
          · go_simp
            obtain ⟨wr89, hwr89⟩ : ∃ W, Hid (W = wr84.alloc (.cells #[.int .i64 0, .bool false, .int .i64 0, .slice none 0 0, .int .i64 0] 34)) := ⟨_, rfl⟩
            have al89 : Below wr84.heap.size wr84 wr89 := by rw [hwr89.out]; exact alloc_below _ _
            have YHN89 : Hid (Blk wr89 wr84.heap.size #[.int .i64 0, .bool false, .int .i64 0, .slice none 0 0, .int .i64 0] 34) := by show Blk _ _ _ _; rw [hwr89.out]; exact Blk.new _ _ _
            have BYH89 : Hid (w1.heap.size ≤ wr84.heap.size) := L84.out.size
            have YW89 := hide_it (YW84.out.after al89)
            have V89 := hide_it (V84.out.later al89 (Nat.le_refl _))
            have L89 : Hid (Below w1.heap.size w1 wr89) := L84.out.trans (al89.mono L84.out.size)
            clear al89
            rw [← hwr89.out]
            try dsimp only
            refine hK.out _ _ (KK.out _ L89.out) (fun hHeld => ?_)
            clear hK K
            refine wpAnyH_ready (rs := [4]) (by kernel_rfl) (by simp) ?_
            refine AllReadyH.cons rfl (fun K hK => ?_) AllReadyH.nil
            go_simp
            refine (HSP.out _ wr89 V89.out).mono ?_
            rintro e wr90 ⟨a90, cp90, rfl, hm90, hb90⟩
            obtain ⟨ps90, hp90, ho90⟩ := hm90
            have P90 := hide_it hp90
            have OO90 := hide_it ho90
            have ZZ90 : Hid (wr90.heap.size ≤ wr90.heap.size) := Nat.le_refl _
            have LL90 : Hid (w1.heap.size ≤ wr89.heap.size) := L89.out.size
            have AH90 : Hid (wr84.heap.size < wr89.heap.size) := YHN89.out.lt
            have AW90 : Hid (wdhh5.heap.size < wr89.heap.size) := YW89.out.lt
            have YH90 := hide_it (YHN89.out.after hb90)
            have YW90 := hide_it (YW89.out.after hb90)
            have V90 := hide_it (V89.out.later hb90 (Nat.le_refl _))
            have L90 : Hid (Below w1.heap.size w1 wr90) := L89.out.trans (hb90.mono L89.out.size)
            clear hb90 hp90 ho90
            try dsimp only
            refine hK.out _ _ (KK.out _ L90.out) (fun hHeld => ?_)
            clear hK K
            refine takeD (i := 5) (v := ?_) (some 24) rfl rfl (by kernel_rfl) (by kernel_rfl) (by kernel_rfl) (fun _ _ _ h => h) (by rfl) hHeld ?_ ?_
            rotate_left
            · intro W hSw
              try dsimp only at hSw
              go_simp
              try with_reducible rfl
            try simp only [Act.put]
            try simp only [List.setIfInBounds_toArray]
            try simp only [List.set_cons_succ]
            try simp only [List.set_cons_zero]
            refine takeD (i := 6) (v := ?_) (some 30) rfl rfl (by kernel_rfl) (by kernel_rfl) (by kernel_rfl) (fun _ _ _ h => h) (by rfl) hHeld ?_ ?_
            rotate_left
            · intro W hSw
              try dsimp only at hSw
              go_simp
              try with_reducible rfl
            try simp only [Act.put]
            try simp only [List.setIfInBounds_toArray]
            try simp only [List.set_cons_succ]
            try simp only [List.set_cons_zero]
            refine takeD (i := 7) (v := ?_) (some 31) rfl rfl (by kernel_rfl) (by kernel_rfl) (by kernel_rfl) (fun _ _ _ h => h) (by rfl) hHeld ?_ ?_
            rotate_left
            · intro W hSw
              try dsimp only at hSw
              go_simp
              try with_reducible rfl
            try simp only [Act.put]
            try simp only [List.setIfInBounds_toArray]
            try simp only [List.set_cons_succ]
            try simp only [List.set_cons_zero]
            refine takeD (i := 8) (v := ?_) (some 32) rfl rfl (by kernel_rfl) (by kernel_rfl) (by kernel_rfl) (fun _ _ _ h => h) (by rfl) hHeld ?_ ?_
            rotate_left
            · intro W hSw
              try dsimp only at hSw
              go_simp
              try with_reducible rfl
            try simp only [Act.put]
            try simp only [List.setIfInBounds_toArray]
            try simp only [List.set_cons_succ]
            try simp only [List.set_cons_zero]
            refine wpAnyH_ready (rs := [11]) (by kernel_rfl) (by simp) ?_
            refine AllReadyH.cons rfl (fun K hK => ?_) AllReadyH.nil
            go_simp
            obtain ⟨c0, c1, c2, c3, c4⟩ := YH90.out.cells5
            have cf0 := YH90.out.free 0
            have cf1 := YH90.out.free 1
            have cf2 := YH90.out.free 2
            have cf3 := YH90.out.free 3
            have cf4 := YH90.out.free 4
            go_simp
            obtain ⟨wr91, hwr91⟩ : ∃ W, Hid (W = (((((wr90.setCell ⟨wr84.heap.size, 0, none⟩ (.int .i64 ID)).setCell ⟨wr84.heap.size, 1, none⟩ (.bool UP)).setCell ⟨wr84.heap.size, 2, none⟩ (.int .i64 ROOM)).setCell ⟨wr84.heap.size, 3, none⟩ (.slice a90 RS.length cp90)).setCell ⟨wr84.heap.size, 4, none⟩ (.int .i64 F))) := ⟨_, rfl⟩
            have NE91 := ne_hw YH90.out YW90.out
            have Z91 : Hid (wr90.heap.size ≤ wr91.heap.size) := Nat.le_trans ZZ90.out (Nat.le_of_eq (by rw [hwr91.out]; simp))
            have YH91 : Hid (Blk wr91 wr84.heap.size #[.int .i64 ID, .bool UP, .int .i64 ROOM, .slice a90 RS.length cp90, .int .i64 F] 34) := by show Blk _ _ _ _; rw [hwr91.out]; exact blk_h5 YH90.out
            have YW91 : Hid (Blk wr91 wdhh5.heap.size #[.int .i64 0, .int .i64 0, .int .i64 0, .int .i64 0] 35) := by show Blk _ _ _ _; rw [hwr91.out]; exact blk_h5o YW90.out (fun e => NE91 e.symm)
            have O91 : Hid (OwnRecs wr91 wr89.heap.size wr90.heap.size (.slice a90 RS.length cp90) ps90) := by show OwnRecs _ _ _ _ _; rw [hwr91.out]; exact own_h5 OO90.out YH90.out
            have L91 : Hid (Below w1.heap.size w1 wr91) := by show Below _ _ _; rw [hwr91.out]; exact bel_h5 L90.out BYH89.out
            rw [← hwr91.out]
            clear c0 cf0 c1 cf1 c2 cf2 c3 cf3 c4 cf4
            try dsimp only
            refine hK.out _ _ (KK.out _ L91.out) (fun hHeld => ?_)
            clear hK K
            refine wpAnyH_ready (rs := [12]) (by kernel_rfl) (by simp) ?_
            refine AllReadyH.cons rfl (fun K hK => ?_) AllReadyH.nil
            go_simp
            obtain ⟨c0, c1, c2, c3⟩ := YW91.out.cells4
            have cf0 := YW91.out.free 0
            have cf1 := YW91.out.free 1
            have cf2 := YW91.out.free 2
            have cf3 := YW91.out.free 3
            go_simp
            obtain ⟨wr92, hwr92⟩ : ∃ W, Hid (W = ((((wr91.setCell ⟨wdhh5.heap.size, 0, none⟩ (.int .i64 X1)).setCell ⟨wdhh5.heap.size, 1, none⟩ (.int .i64 X2)).setCell ⟨wdhh5.heap.size, 2, none⟩ (.int .i64 X3)).setCell ⟨wdhh5.heap.size, 3, none⟩ (.int .i64 0))) := ⟨_, rfl⟩
            have Z92 : Hid (wr90.heap.size ≤ wr92.heap.size) := Nat.le_trans Z91.out (Nat.le_of_eq (by rw [hwr92.out]; simp))
            have NEX92 : wr84.heap.size ≠ wdhh5.heap.size := NE91
            have YW92 : Hid (Blk wr92 wdhh5.heap.size #[.int .i64 X1, .int .i64 X2, .int .i64 X3, .int .i64 0] 35) := by show Blk _ _ _ _; rw [hwr92.out]; exact blk_w4 YW91.out
            have YH92 : Hid (Blk wr92 wr84.heap.size #[.int .i64 ID, .bool UP, .int .i64 ROOM, .slice a90 RS.length cp90, .int .i64 F] 34) := by show Blk _ _ _ _; rw [hwr92.out]; exact blk_w4o YH91.out NEX92
            have O92 : Hid (OwnRecs wr92 wr89.heap.size wr90.heap.size (.slice a90 RS.length cp90) ps90) := by show OwnRecs _ _ _ _ _; rw [hwr92.out]; exact own_w4 O91.out YW91.out
            have L92 : Hid (Below w1.heap.size w1 wr92) := by show Below _ _ _; rw [hwr92.out]; exact bel_w4 L91.out BYW82.out
            rw [← hwr92.out]
            clear c0 cf0 c1 cf1 c2 cf2 c3 cf3
            try dsimp only
            refine hK.out _ _ (KK.out _ L92.out) (fun hHeld => ?_)
            clear hK K
            refine takeD (i := 13) (v := ?_) (some 8) rfl rfl (by kernel_rfl) (by kernel_rfl) (by kernel_rfl) (fun _ _ _ h => h) (by rfl) hHeld ?_ ?_
            rotate_left
            · intro W hSw
              try dsimp only at hSw
              go_simp
              try with_reducible rfl
            try simp only [Act.put]
            try simp only [List.setIfInBounds_toArray]
            try simp only [List.set_cons_succ]
            try simp only [List.set_cons_zero]
            refine wpAnyH_done (by kernel_rfl) ?_ _
            go_wp2_with fail
            go_meet
            case rel => exact ⟨_, _, a90, cp90, ps90, _, _, rfl, rfl, rfl, P90, hide_it ⟨L92.out, YH92.out, YW92.out, O92.out, BYH89.out, BYW82.out, Or.inl AH90.out, Or.inl AW90.out, LL90.out, Z92.out⟩⟩
        · go_simp
          obtain ⟨wr93, hwr93⟩ : ∃ W, Hid (W = wr83.alloc (.cells #[.int .i64 0, .bool false, .int .i64 0, .slice none 0 0, .int .i64 0] 34)) := ⟨_, rfl⟩
          have al93 : Below wr83.heap.size wr83 wr93 := by rw [hwr93.out]; exact alloc_below _ _
          have YHN93 : Hid (Blk wr93 wr83.heap.size #[.int .i64 0, .bool false, .int .i64 0, .slice none 0 0, .int .i64 0] 34) := by show Blk _ _ _ _; rw [hwr93.out]; exact Blk.new _ _ _
          have BYH93 : Hid (w1.heap.size ≤ wr83.heap.size) := L83.out.size
          have YW93 := hide_it (YW83.out.after al93)
          have V93 := hide_it (VV83.out.later al93 (Nat.le_refl _))
          have L93 : Hid (Below w1.heap.size w1 wr93) := L83.out.trans (al93.mono L83.out.size)
          clear al93
          rw [← hwr93.out]
          try dsimp only
          refine hK.out _ _ (KK.out _ L93.out) (fun hHeld => ?_)
          clear hK K
          refine wpAnyH_ready (rs := [3]) (by kernel_rfl) (by simp) ?_
          refine AllReadyH.cons rfl (fun K hK => ?_) AllReadyH.nil
          go_simp
          refine (toWord_any k h t m wr93).mono ?_
          rintro e wr94 ⟨rfl, hb94⟩
          have YH94 := hide_it (YHN93.out.after hb94)
          have YW94 := hide_it (YW93.out.after hb94)
          have V94 := hide_it (V93.out.later hb94 (Nat.le_refl _))
          have L94 : Hid (Below w1.heap.size w1 wr94) := L93.out.trans (hb94.mono L93.out.size)
          clear hb94
          try dsimp only
          refine hK.out _ _ (KK.out _ L94.out) (fun hHeld => ?_)
          clear hK K
          refine wpAnyH_ready (rs := [4]) (by kernel_rfl) (by simp) ?_
          refine AllReadyH.cons rfl (fun K hK => ?_) AllReadyH.nil
          go_simp
          refine (HSP.out _ wr94 V94.out).mono ?_
          rintro e wr95 ⟨a95, cp95, rfl, hm95, hb95⟩
          obtain ⟨ps95, hp95, ho95⟩ := hm95
          have P95 := hide_it hp95
          have OO95 := hide_it ho95
          have ZZ95 : Hid (wr95.heap.size ≤ wr95.heap.size) := Nat.le_refl _
          have LL95 : Hid (w1.heap.size ≤ wr94.heap.size) := L94.out.size
          have AH95 : Hid (wr83.heap.size < wr94.heap.size) := YH94.out.lt
          have AW95 : Hid (wdhh5.heap.size < wr94.heap.size) := YW94.out.lt
          have YH95 := hide_it (YH94.out.after hb95)
          have YW95 := hide_it (YW94.out.after hb95)
          have V95 := hide_it (V94.out.later hb95 (Nat.le_refl _))
          have L95 : Hid (Below w1.heap.size w1 wr95) := L94.out.trans (hb95.mono L94.out.size)
          clear hb95 hp95 ho95
          try dsimp only
          refine hK.out _ _ (KK.out _ L95.out) (fun hHeld => ?_)
          clear hK K
          refine takeD (i := 5) (v := ?_) (some 24) rfl rfl (by kernel_rfl) (by kernel_rfl) (by kernel_rfl) (fun _ _ _ h => h) (by rfl) hHeld ?_ ?_
          rotate_left
          · intro W hSw
            try dsimp only at hSw
            go_simp
            try with_reducible rfl
          try simp only [Act.put]
          try simp only [List.setIfInBounds_toArray]
          try simp only [List.set_cons_succ]
          try simp only [List.set_cons_zero]
          refine takeD (i := 6) (v := ?_) (some 30) rfl rfl (by kernel_rfl) (by kernel_rfl) (by kernel_rfl) (fun _ _ _ h => h) (by rfl) hHeld ?_ ?_
          rotate_left
          · intro W hSw
            try dsimp only at hSw
            go_simp
            try with_reducible rfl
          try simp only [Act.put]
          try simp only [List.setIfInBounds_toArray]
          try simp only [List.set_cons_succ]
          try simp only [List.set_cons_zero]
          refine takeD (i := 7) (v := ?_) (some 31) rfl rfl (by kernel_rfl) (by kernel_rfl) (by kernel_rfl) (fun _ _ _ h => h) (by rfl) hHeld ?_ ?_
          rotate_left
          · intro W hSw
            try dsimp only at hSw
            go_simp
            try with_reducible rfl
          try simp only [Act.put]
          try simp only [List.setIfInBounds_toArray]
          try simp only [List.set_cons_succ]
          try simp only [List.set_cons_zero]
          refine takeD (i := 8) (v := ?_) (some 32) rfl rfl (by kernel_rfl) (by kernel_rfl) (by kernel_rfl) (fun _ _ _ h => h) (by rfl) hHeld ?_ ?_
          rotate_left
          · intro W hSw
            try dsimp only at hSw
            go_simp
            try with_reducible rfl
          try simp only [Act.put]
          try simp only [List.setIfInBounds_toArray]
          try simp only [List.set_cons_succ]
          try simp only [List.set_cons_zero]
          refine wpAnyH_ready (rs := [11]) (by kernel_rfl) (by simp) ?_
          refine AllReadyH.cons rfl (fun K hK => ?_) AllReadyH.nil
          go_simp
          obtain ⟨c0, c1, c2, c3, c4⟩ := YH95.out.cells5
          have cf0 := YH95.out.free 0
          have cf1 := YH95.out.free 1
          have cf2 := YH95.out.free 2
          have cf3 := YH95.out.free 3
          have cf4 := YH95.out.free 4
          go_simp
          obtain ⟨wr96, hwr96⟩ : ∃ W, Hid (W = (((((wr95.setCell ⟨wr83.heap.size, 0, none⟩ (.int .i64 ID)).setCell ⟨wr83.heap.size, 1, none⟩ (.bool UP)).setCell ⟨wr83.heap.size, 2, none⟩ (.int .i64 ROOM)).setCell ⟨wr83.heap.size, 3, none⟩ (.slice a95 RS.length cp95)).setCell ⟨wr83.heap.size, 4, none⟩ (.int .i64 F))) := ⟨_, rfl⟩
          have NE96 := ne_hw YH95.out YW95.out
          have Z96 : Hid (wr95.heap.size ≤ wr96.heap.size) := Nat.le_trans ZZ95.out (Nat.le_of_eq (by rw [hwr96.out]; simp))
          have YH96 : Hid (Blk wr96 wr83.heap.size #[.int .i64 ID, .bool UP, .int .i64 ROOM, .slice a95 RS.length cp95, .int .i64 F] 34) := by show Blk _ _ _ _; rw [hwr96.out]; exact blk_h5 YH95.out
          have YW96 : Hid (Blk wr96 wdhh5.heap.size #[.int .i64 0, .int .i64 0, .int .i64 0, .int .i64 0] 35) := by show Blk _ _ _ _; rw [hwr96.out]; exact blk_h5o YW95.out (fun e => NE96 e.symm)
          have O96 : Hid (OwnRecs wr96 wr94.heap.size wr95.heap.size (.slice a95 RS.length cp95) ps95) := by show OwnRecs _ _ _ _ _; rw [hwr96.out]; exact own_h5 OO95.out YH95.out
          have L96 : Hid (Below w1.heap.size w1 wr96) := by show Below _ _ _; rw [hwr96.out]; exact bel_h5 L95.out BYH93.out
          rw [← hwr96.out]
          clear c0 cf0 c1 cf1 c2 cf2 c3 cf3 c4 cf4
          try dsimp only
          refine hK.out _ _ (KK.out _ L96.out) (fun hHeld => ?_)
          clear hK K
          refine wpAnyH_ready (rs := [12]) (by kernel_rfl) (by simp) ?_
          refine AllReadyH.cons rfl (fun K hK => ?_) AllReadyH.nil
          go_simp
          obtain ⟨c0, c1, c2, c3⟩ := YW96.out.cells4
          have cf0 := YW96.out.free 0
          have cf1 := YW96.out.free 1
          have cf2 := YW96.out.free 2
          have cf3 := YW96.out.free 3
          go_simp
          obtain ⟨wr97, hwr97⟩ : ∃ W, Hid (W = ((((wr96.setCell ⟨wdhh5.heap.size, 0, none⟩ (.int .i64 X1)).setCell ⟨wdhh5.heap.size, 1, none⟩ (.int .i64 X2)).setCell ⟨wdhh5.heap.size, 2, none⟩ (.int .i64 X3)).setCell ⟨wdhh5.heap.size, 3, none⟩ (.int .i64 0))) := ⟨_, rfl⟩
          have Z97 : Hid (wr95.heap.size ≤ wr97.heap.size) := Nat.le_trans Z96.out (Nat.le_of_eq (by rw [hwr97.out]; simp))
          have NEX97 : wr83.heap.size ≠ wdhh5.heap.size := NE96
          have YW97 : Hid (Blk wr97 wdhh5.heap.size #[.int .i64 X1, .int .i64 X2, .int .i64 X3, .int .i64 0] 35) := by show Blk _ _ _ _; rw [hwr97.out]; exact blk_w4 YW96.out
          have YH97 : Hid (Blk wr97 wr83.heap.size #[.int .i64 ID, .bool UP, .int .i64 ROOM, .slice a95 RS.length cp95, .int .i64 F] 34) := by show Blk _ _ _ _; rw [hwr97.out]; exact blk_w4o YH96.out NEX97
          have O97 : Hid (OwnRecs wr97 wr94.heap.size wr95.heap.size (.slice a95 RS.length cp95) ps95) := by show OwnRecs _ _ _ _ _; rw [hwr97.out]; exact own_w4 O96.out YW96.out
          have L97 : Hid (Below w1.heap.size w1 wr97) := by show Below _ _ _; rw [hwr97.out]; exact bel_w4 L96.out BYW82.out
          rw [← hwr97.out]
          clear c0 cf0 c1 cf1 c2 cf2 c3 cf3
          try dsimp only
          refine hK.out _ _ (KK.out _ L97.out) (fun hHeld => ?_)
          clear hK K
          refine takeD (i := 13) (v := ?_) (some 8) rfl rfl (by kernel_rfl) (by kernel_rfl) (by kernel_rfl) (fun _ _ _ h => h) (by rfl) hHeld ?_ ?_
          rotate_left
          · intro W hSw
            try dsimp only at hSw
            go_simp
            try with_reducible rfl
          try simp only [Act.put]
          try simp only [List.setIfInBounds_toArray]
          try simp only [List.set_cons_succ]
          try simp only [List.set_cons_zero]
          refine wpAnyH_done (by kernel_rfl) ?_ _
          go_wp2_with fail
          go_meet
          case rel => exact ⟨_, _, a95, cp95, ps95, _, _, rfl, rfl, rfl, P95, hide_it ⟨L97.out, YH97.out, YW97.out, O97.out, BYH93.out, BYW82.out, Or.inl AH95.out, Or.inl AW95.out, LL95.out, Z97.out⟩⟩
      · go_simp
        obtain ⟨wr98, hwr98⟩ : ∃ W, Hid (W = wr82.alloc (.cells #[.int .i64 0, .bool false, .int .i64 0, .slice none 0 0, .int .i64 0] 34)) := ⟨_, rfl⟩
        have al98 : Below wr82.heap.size wr82 wr98 := by rw [hwr98.out]; exact alloc_below _ _
        have YHN98 : Hid (Blk wr98 wr82.heap.size #[.int .i64 0, .bool false, .int .i64 0, .slice none 0 0, .int .i64 0] 34) := by show Blk _ _ _ _; rw [hwr98.out]; exact Blk.new _ _ _
        have BYH98 : Hid (w1.heap.size ≤ wr82.heap.size) := L82.out.size
        have YW98 := hide_it (YWN82.out.after al98)
        have L98 : Hid (Below w1.heap.size w1 wr98) := L82.out.trans (al98.mono L82.out.size)
        clear al98
        rw [← hwr98.out]
        try dsimp only
        refine hK.out _ _ (KK.out _ L98.out) (fun hHeld => ?_)
        clear hK K
        refine wpAnyH_ready (rs := [1]) (by kernel_rfl) (by simp) ?_
        refine AllReadyH.cons rfl (fun K hK => ?_) AllReadyH.nil
        go_simp
        refine (toHouse_any id up room _ rs f wr98 (HV.out _ (B1.out.trans (L98.out.mono B1.out.size))) hl).mono ?_
        rintro e wr99 ⟨a99, cp99, rfl, hm99, hb99⟩
        have VV99 := hide_it hm99.recs
        have FM99 := hide_it (form_made hm99)
        have YH99 := hide_it (YHN98.out.after hb99)
        have YW99 := hide_it (YW98.out.after hb99)
        have L99 : Hid (Below w1.heap.size w1 wr99) := L98.out.trans (hb99.mono L98.out.size)
        clear hb99 hm99
        try dsimp only
        refine hK.out _ _ (KK.out _ L99.out) (fun hHeld => ?_)
        clear hK K
        refine wpAnyH_ready (rs := [3]) (by kernel_rfl) (by simp) ?_
        refine AllReadyH.cons rfl (fun K hK => ?_) AllReadyH.nil
        go_simp
        refine (toWord_any k h t m wr99).mono ?_
        rintro e wr100 ⟨rfl, hb100⟩
        have YH100 := hide_it (YH99.out.after hb100)
        have YW100 := hide_it (YW99.out.after hb100)
        have V100 := hide_it (VV99.out.later hb100 (Nat.le_refl _))
        have L100 : Hid (Below w1.heap.size w1 wr100) := L99.out.trans (hb100.mono L99.out.size)
        clear hb100
        try dsimp only
        refine hK.out _ _ (KK.out _ L100.out) (fun hHeld => ?_)
        clear hK K
        refine wpAnyH_ready (rs := [4]) (by kernel_rfl) (by simp) ?_
        refine AllReadyH.cons rfl (fun K hK => ?_) AllReadyH.nil
        go_simp
        refine (HSP.out _ wr100 V100.out).mono ?_
        rintro e wr101 ⟨a101, cp101, rfl, hm101, hb101⟩
        obtain ⟨ps101, hp101, ho101⟩ := hm101
        have P101 := hide_it hp101
        have OO101 := hide_it ho101
        have ZZ101 : Hid (wr101.heap.size ≤ wr101.heap.size) := Nat.le_refl _
        have LL101 : Hid (w1.heap.size ≤ wr100.heap.size) := L100.out.size
        have AH101 : Hid (wr82.heap.size < wr100.heap.size) := YH100.out.lt
        have AW101 : Hid (wdhh5.heap.size < wr100.heap.size) := YW100.out.lt
        have YH101 := hide_it (YH100.out.after hb101)
        have YW101 := hide_it (YW100.out.after hb101)
        have V101 := hide_it (V100.out.later hb101 (Nat.le_refl _))
        have L101 : Hid (Below w1.heap.size w1 wr101) := L100.out.trans (hb101.mono L100.out.size)
        clear hb101 hp101 ho101
        try dsimp only
        refine hK.out _ _ (KK.out _ L101.out) (fun hHeld => ?_)
        clear hK K
        refine takeD (i := 5) (v := ?_) (some 24) rfl rfl (by kernel_rfl) (by kernel_rfl) (by kernel_rfl) (fun _ _ _ h => h) (by rfl) hHeld ?_ ?_
        rotate_left
        · intro W hSw
          try dsimp only at hSw
          go_simp
          try with_reducible rfl
        try simp only [Act.put]
        try simp only [List.setIfInBounds_toArray]
        try simp only [List.set_cons_succ]
        try simp only [List.set_cons_zero]
        refine takeD (i := 6) (v := ?_) (some 30) rfl rfl (by kernel_rfl) (by kernel_rfl) (by kernel_rfl) (fun _ _ _ h => h) (by rfl) hHeld ?_ ?_
        rotate_left
        · intro W hSw
          try dsimp only at hSw
          go_simp
          try with_reducible rfl
        try simp only [Act.put]
        try simp only [List.setIfInBounds_toArray]
        try simp only [List.set_cons_succ]
        try simp only [List.set_cons_zero]
        refine takeD (i := 7) (v := ?_) (some 31) rfl rfl (by kernel_rfl) (by kernel_rfl) (by kernel_rfl) (fun _ _ _ h => h) (by rfl) hHeld ?_ ?_
        rotate_left
        · intro W hSw
          try dsimp only at hSw
          go_simp
          try with_reducible rfl
        try simp only [Act.put]
        try simp only [List.setIfInBounds_toArray]
        try simp only [List.set_cons_succ]
        try simp only [List.set_cons_zero]
        refine takeD (i := 8) (v := ?_) (some 32) rfl rfl (by kernel_rfl) (by kernel_rfl) (by kernel_rfl) (fun _ _ _ h => h) (by rfl) hHeld ?_ ?_
        rotate_left
        · intro W hSw
          try dsimp only at hSw
          go_simp
          try with_reducible rfl
        try simp only [Act.put]
        try simp only [List.setIfInBounds_toArray]
        try simp only [List.set_cons_succ]
        try simp only [List.set_cons_zero]
        refine wpAnyH_ready (rs := [11]) (by kernel_rfl) (by simp) ?_
        refine AllReadyH.cons rfl (fun K hK => ?_) AllReadyH.nil
        go_simp
        obtain ⟨c0, c1, c2, c3, c4⟩ := YH101.out.cells5
        have cf0 := YH101.out.free 0
        have cf1 := YH101.out.free 1
        have cf2 := YH101.out.free 2
        have cf3 := YH101.out.free 3
        have cf4 := YH101.out.free 4
        go_simp
        obtain ⟨wr102, hwr102⟩ : ∃ W, Hid (W = (((((wr101.setCell ⟨wr82.heap.size, 0, none⟩ (.int .i64 ID)).setCell ⟨wr82.heap.size, 1, none⟩ (.bool UP)).setCell ⟨wr82.heap.size, 2, none⟩ (.int .i64 ROOM)).setCell ⟨wr82.heap.size, 3, none⟩ (.slice a101 RS.length cp101)).setCell ⟨wr82.heap.size, 4, none⟩ (.int .i64 F))) := ⟨_, rfl⟩
        have NE102 := ne_hw YH101.out YW101.out
        have Z102 : Hid (wr101.heap.size ≤ wr102.heap.size) := Nat.le_trans ZZ101.out (Nat.le_of_eq (by rw [hwr102.out]; simp))
        have YH102 : Hid (Blk wr102 wr82.heap.size #[.int .i64 ID, .bool UP, .int .i64 ROOM, .slice a101 RS.length cp101, .int .i64 F] 34) := by show Blk _ _ _ _; rw [hwr102.out]; exact blk_h5 YH101.out
        have YW102 : Hid (Blk wr102 wdhh5.heap.size #[.int .i64 0, .int .i64 0, .int .i64 0, .int .i64 0] 35) := by show Blk _ _ _ _; rw [hwr102.out]; exact blk_h5o YW101.out (fun e => NE102 e.symm)
        have O102 : Hid (OwnRecs wr102 wr100.heap.size wr101.heap.size (.slice a101 RS.length cp101) ps101) := by show OwnRecs _ _ _ _ _; rw [hwr102.out]; exact own_h5 OO101.out YH101.out
        have L102 : Hid (Below w1.heap.size w1 wr102) := by show Below _ _ _; rw [hwr102.out]; exact bel_h5 L101.out BYH98.out
        rw [← hwr102.out]
        clear c0 cf0 c1 cf1 c2 cf2 c3 cf3 c4 cf4
        try dsimp only
        refine hK.out _ _ (KK.out _ L102.out) (fun hHeld => ?_)
        clear hK K
        refine wpAnyH_ready (rs := [12]) (by kernel_rfl) (by simp) ?_
        refine AllReadyH.cons rfl (fun K hK => ?_) AllReadyH.nil
        go_simp
        obtain ⟨c0, c1, c2, c3⟩ := YW102.out.cells4
        have cf0 := YW102.out.free 0
        have cf1 := YW102.out.free 1
        have cf2 := YW102.out.free 2
        have cf3 := YW102.out.free 3
        go_simp
        obtain ⟨wr103, hwr103⟩ : ∃ W, Hid (W = ((((wr102.setCell ⟨wdhh5.heap.size, 0, none⟩ (.int .i64 X1)).setCell ⟨wdhh5.heap.size, 1, none⟩ (.int .i64 X2)).setCell ⟨wdhh5.heap.size, 2, none⟩ (.int .i64 X3)).setCell ⟨wdhh5.heap.size, 3, none⟩ (.int .i64 0))) := ⟨_, rfl⟩
        have Z103 : Hid (wr101.heap.size ≤ wr103.heap.size) := Nat.le_trans Z102.out (Nat.le_of_eq (by rw [hwr103.out]; simp))
        have NEX103 : wr82.heap.size ≠ wdhh5.heap.size := NE102
        have YW103 : Hid (Blk wr103 wdhh5.heap.size #[.int .i64 X1, .int .i64 X2, .int .i64 X3, .int .i64 0] 35) := by show Blk _ _ _ _; rw [hwr103.out]; exact blk_w4 YW102.out
        have YH103 : Hid (Blk wr103 wr82.heap.size #[.int .i64 ID, .bool UP, .int .i64 ROOM, .slice a101 RS.length cp101, .int .i64 F] 34) := by show Blk _ _ _ _; rw [hwr103.out]; exact blk_w4o YH102.out NEX103
        have O103 : Hid (OwnRecs wr103 wr100.heap.size wr101.heap.size (.slice a101 RS.length cp101) ps101) := by show OwnRecs _ _ _ _ _; rw [hwr103.out]; exact own_w4 O102.out YW102.out
        have L103 : Hid (Below w1.heap.size w1 wr103) := by show Below _ _ _; rw [hwr103.out]; exact bel_w4 L102.out BYW82.out
        rw [← hwr103.out]
        clear c0 cf0 c1 cf1 c2 cf2 c3 cf3
        try dsimp only
        refine hK.out _ _ (KK.out _ L103.out) (fun hHeld => ?_)
        clear hK K
        refine takeD (i := 13) (v := ?_) (some 8) rfl rfl (by kernel_rfl) (by kernel_rfl) (by kernel_rfl) (fun _ _ _ h => h) (by rfl) hHeld ?_ ?_
        rotate_left
        · intro W hSw
          try dsimp only at hSw
          go_simp
          try with_reducible rfl
        try simp only [Act.put]
        try simp only [List.setIfInBounds_toArray]
        try simp only [List.set_cons_succ]
        try simp only [List.set_cons_zero]
        refine wpAnyH_done (by kernel_rfl) ?_ _
        go_wp2_with fail
        go_meet
        case rel => exact ⟨_, _, a101, cp101, ps101, _, _, rfl, rfl, rfl, P101, hide_it ⟨L103.out, YH103.out, YW103.out, O103.out, BYH98.out, BYW82.out, Or.inl AH101.out, Or.inl AW101.out, LL101.out, Z103.out⟩⟩
  case rest =>
    obtain ⟨bh5, bw5, a3, cap3, ps3, lo3, hi3, rfl, rfl, rfl, HP3, M3⟩ := hcut
    rename World => w4
    have B4 := hide_it (B1.out.trans (M3.out.be.mono B1.out.size))
    have T4 := hide_it (T1.out.after M3.out.be)
    have K4 := hide_it (K1.out.after M3.out.be)
    have V4 : Hid (Recs w4 (.slice a3 RS.length cap3) RS) := by
      have := M3.out.ow.recs; rw [HP3.out] at this; exact this
    have Z4 : Hid (Blk w4 bh5 #[.int .i64 ID, .bool UP, .int .i64 ROOM, .slice a3 RS.length cap3, .int .i64 F] 34) := M3.out.ho
    have Q4 : Hid (Blk w4 bw5 #[.int .i64 X1, .int .i64 X2, .int .i64 X3, .int .i64 0] 35) := M3.out.wo
    have hz4 : w.heap.size ≤ w4.heap.size := B4.out.size
    clear M3 HP3 c0 c1 c2 c3 c4 y0 y1 y2 y3 KK
    obtain ⟨c0, c1, c2, c3, c4⟩ := T4.out.cells5
    go_wp2_with fail
    refine (toHouse_any id up room _ rs f w4 (HV.out _ B4.out) hl).mono ?_
    rintro e w5 ⟨a5, cap5, rfl, hm5, hb5⟩
    have FM5 : Hid (Form (.slice a5 rs.length cap5) rs.length) := form_made hm5
    obtain ⟨ps5, hp5, ho5⟩ := hm5
    have HP5 := hide_it hp5
    have O5 := hide_it ho5
    have E5 := hide_it hb5
    clear hp5 ho5 hb5 c0 c1 c2 c3 c4
    obtain ⟨w6, hw6⟩ : ∃ W, Hid (W = w5.alloc (.cells #[.int .i64 id, .bool up, .int .i64 room, .slice a5 rs.length cap5, .int .i64 f] 34)) := ⟨_, rfl⟩
    have al6 := hide_it (show Below w5.heap.size w5 w6 by rw [hw6.out]; exact alloc_below _ _)
    have HS6 := hide_it (show w6.heap.size = w5.heap.size + 1 by rw [hw6.out]; simp)
    have E6 := hide_it (E5.out.trans (al6.out.mono E5.out.size))
    have O6 := hide_it (O5.out.below al6.out (Nat.le_refl _))
    have X6 : Hid (Blk w6 w5.heap.size #[.int .i64 id, .bool up, .int .i64 room, .slice a5 rs.length cap5, .int .i64 f] 34) := by show Blk _ _ _ _; rw [hw6.out]; exact Blk.new _ _ _
    have R6 : Hid (Recs w6 (.slice a5 rs.length cap5) rs) := by
      have := O6.out.recs; rw [HP5.out] at this; exact this
    have B6 := hide_it (B4.out.trans (E6.out.mono hz4))
    have K6 := hide_it (K4.out.after E6.out)
    have KK : Hid (∀ W, Below w6.heap.size w6 W → (let w' := W; (w'.cell? ⟨w5.heap.size, 0, none⟩ = some (.int .i64 id) ∧ w'.cell? ⟨w5.heap.size, 1, none⟩ = some (.bool up) ∧ w'.cell? ⟨w5.heap.size, 2, none⟩ = some (.int .i64 room) ∧ w'.cell? ⟨w5.heap.size, 3, none⟩ = some (.slice a5 rs.length cap5) ∧ w'.cell? ⟨w5.heap.size, 4, none⟩ = some (.int .i64 f)) ∧ (w'.cell? ⟨w.heap.size + 1, 0, none⟩ = some (.int .i64 k) ∧ w'.cell? ⟨w.heap.size + 1, 1, none⟩ = some (.int .i64 h) ∧ w'.cell? ⟨w.heap.size + 1, 2, none⟩ = some (.int .i64 t) ∧ w'.cell? ⟨w.heap.size + 1, 3, none⟩ = some (.int .i64 m)))) := fun W hb => ⟨(X6.out.after hb).cells5, (K6.out.after hb).cells4⟩
    go_wp2_with fail
    rw [← hw6.out]
    go_cut [10, 11, 12] (fun p q b W => ∃ bh bw a5 c5 ps lo hi, p = .pointer (some ⟨bh, 0, none⟩) ∧ q = .pointer (some ⟨bw, 0, none⟩) ∧ b = .bool YB ∧ Hid (ps.map (·.1) = RS) ∧ Hid (MetE w6 W bh bw ID UP ROOM (.slice a5 RS.length c5) F X1 X2 X3 ps lo hi))
    case first =>
      obtain ⟨wdhh7, hwdhh7⟩ : ∃ W, Hid (W = w6.drew) := ⟨_, rfl⟩
      have Ldhh7 : Hid (Below w6.heap.size w6 wdhh7) := by show Below _ _ _; rw [hwdhh7.out]; exact (Below.refl _ _).drew
      have VDhh7 := hide_it (R6.out.later Ldhh7.out (Nat.le_refl _))
      refine wp_region_held_drew (S := fun w' => (w'.cell? ⟨w5.heap.size, 0, none⟩ = some (.int .i64 id) ∧ w'.cell? ⟨w5.heap.size, 1, none⟩ = some (.bool up) ∧ w'.cell? ⟨w5.heap.size, 2, none⟩ = some (.int .i64 room) ∧ w'.cell? ⟨w5.heap.size, 3, none⟩ = some (.slice a5 rs.length cap5) ∧ w'.cell? ⟨w5.heap.size, 4, none⟩ = some (.int .i64 f)) ∧ (w'.cell? ⟨w.heap.size + 1, 0, none⟩ = some (.int .i64 k) ∧ w'.cell? ⟨w.heap.size + 1, 1, none⟩ = some (.int .i64 h) ∧ w'.cell? ⟨w.heap.size + 1, 2, none⟩ = some (.int .i64 t) ∧ w'.cell? ⟨w.heap.size + 1, 3, none⟩ = some (.int .i64 m))) (by kernel_rfl) (KK.out _ (Below.refl _ _).drew) (fun hHeld => ?_)
      rw [← hwdhh7.out] at hHeld ⊢
      refine takeD (i := 0) (v := ?_) (some 36) rfl rfl (by kernel_rfl) (by kernel_rfl) (by kernel_rfl) (fun _ _ _ h => h) (by rfl) hHeld ?_ ?_
      rotate_left
      · intro W hSw
        try dsimp only at hSw
        go_simp
        try with_reducible rfl
      try simp only [Act.put]
      try simp only [List.setIfInBounds_toArray]
      try simp only [List.set_cons_succ]
      try simp only [List.set_cons_zero]
      refine takeD (i := 1) (v := ?_) (some 37) rfl rfl (by kernel_rfl) (by kernel_rfl) (by kernel_rfl) (fun _ _ _ h => h) (by rfl) hHeld ?_ ?_
      rotate_left
      · intro W hSw
        try dsimp only at hSw
        go_simp
        try with_reducible rfl
      try simp only [Act.put]
      try simp only [List.setIfInBounds_toArray]
      try simp only [List.set_cons_succ]
      try simp only [List.set_cons_zero]
      refine wpAnyH_ready (rs := [2, 8, 9]) (by kernel_rfl) (by simp) ?_
      refine AllReadyH.cons rfl (fun K hK => ?_) (AllReadyH.cons rfl (fun K hK => ?_) (AllReadyH.cons rfl (fun K hK => ?_) AllReadyH.nil))
      · go_simp
        refine (toWord_any k h t m wdhh7).mono ?_
        rintro e wr207 ⟨rfl, hb207⟩
        have V207 := hide_it (VDhh7.out.later hb207 (Nat.le_refl _))
        have L207 : Hid (Below w6.heap.size w6 wr207) := Ldhh7.out.trans (hb207.mono Ldhh7.out.size)
        clear hb207
        try dsimp only
        refine hK.out _ _ (KK.out _ L207.out) (fun hHeld => ?_)
        clear hK K
        refine wpAnyH_ready (rs := [3, 8, 9]) (by kernel_rfl) (by simp) ?_
        refine AllReadyH.cons rfl (fun K hK => ?_) (AllReadyH.cons rfl (fun K hK => ?_) (AllReadyH.cons rfl (fun K hK => ?_) AllReadyH.nil))
        · go_simp
          refine (HIM.out _ wr207 V207.out FM5.out (HA.out _ (B6.out.trans (L207.out.mono B6.out.size)))).mono ?_
          rintro e wr208 ⟨a208, cp208, rfl, hm208, hb208⟩
          obtain ⟨ps208, hp208, ho208⟩ := hm208
          have P208 := hide_it hp208
          have OO208 := hide_it ho208
          have ZZ208 : Hid (wr208.heap.size ≤ wr208.heap.size) := Nat.le_refl _
          have LL208 : Hid (w6.heap.size ≤ wr207.heap.size) := L207.out.size
          have V208 := hide_it (V207.out.later hb208 (Nat.le_refl _))
          have L208 : Hid (Below w6.heap.size w6 wr208) := L207.out.trans (hb208.mono L207.out.size)
          clear hb208 hp208 ho208
          try dsimp only
          refine hK.out _ _ (KK.out _ L208.out) (fun hHeld => ?_)
          clear hK K
          refine takeD (i := 4) (v := ?_) (some 35) rfl rfl (by kernel_rfl) (by kernel_rfl) (by kernel_rfl) (fun _ _ _ h => h) (by rfl) hHeld ?_ ?_
          rotate_left
          · intro W hSw
            try dsimp only at hSw
            go_simp
            try with_reducible rfl
          try simp only [Act.put]
          try simp only [List.setIfInBounds_toArray]
          try simp only [List.set_cons_succ]
          try simp only [List.set_cons_zero]
          refine takeD (i := 5) (v := ?_) (some 40) rfl rfl (by kernel_rfl) (by kernel_rfl) (by kernel_rfl) (fun _ _ _ h => h) (by rfl) hHeld ?_ ?_
          rotate_left
          · intro W hSw
            try dsimp only at hSw
            go_simp
            try with_reducible rfl
          try simp only [Act.put]
          try simp only [List.setIfInBounds_toArray]
          try simp only [List.set_cons_succ]
          try simp only [List.set_cons_zero]
          refine takeD (i := 6) (v := ?_) (some 41) rfl rfl (by kernel_rfl) (by kernel_rfl) (by kernel_rfl) (fun _ _ _ h => h) (by rfl) hHeld ?_ ?_
          rotate_left
          · intro W hSw
            try dsimp only at hSw
            go_simp
            try with_reducible rfl
          try simp only [Act.put]
          try simp only [List.setIfInBounds_toArray]
          try simp only [List.set_cons_succ]
          try simp only [List.set_cons_zero]
          refine takeD (i := 7) (v := ?_) (some 42) rfl rfl (by kernel_rfl) (by kernel_rfl) (by kernel_rfl) (fun _ _ _ h => h) (by rfl) hHeld ?_ ?_
          rotate_left
          · intro W hSw
            try dsimp only at hSw
            go_simp
            try with_reducible rfl
          try simp only [Act.put]
          try simp only [List.setIfInBounds_toArray]
          try simp only [List.set_cons_succ]
          try simp only [List.set_cons_zero]
          refine wpAnyH_ready (rs := [8, 9]) (by kernel_rfl) (by simp) ?_
          refine AllReadyH.cons rfl (fun K hK => ?_) (AllReadyH.cons rfl (fun K hK => ?_) AllReadyH.nil)
          · go_simp
            obtain ⟨wr209, hwr209⟩ : ∃ W, Hid (W = wr208.alloc (.cells #[.int .i64 0, .bool false, .int .i64 0, .slice none 0 0, .int .i64 0] 34)) := ⟨_, rfl⟩
            have al209 : Below wr208.heap.size wr208 wr209 := by rw [hwr209.out]; exact alloc_below _ _
            have YHN209 : Hid (Blk wr209 wr208.heap.size #[.int .i64 0, .bool false, .int .i64 0, .slice none 0 0, .int .i64 0] 34) := by show Blk _ _ _ _; rw [hwr209.out]; exact Blk.new _ _ _
            have BYH209 : Hid (w6.heap.size ≤ wr208.heap.size) := L208.out.size
            have V209 := hide_it (V208.out.later al209 (Nat.le_refl _))
            have O209 := hide_it (OO208.out.below al209 ZZ208.out)
            have Z209 : Hid (wr208.heap.size ≤ wr209.heap.size) := Nat.le_trans ZZ208.out al209.size
            have L209 : Hid (Below w6.heap.size w6 wr209) := L208.out.trans (al209.mono L208.out.size)
            clear al209
            rw [← hwr209.out]
            try dsimp only
            refine hK.out _ _ (KK.out _ L209.out) (fun hHeld => ?_)
            clear hK K
            refine wpAnyH_ready (rs := [9]) (by kernel_rfl) (by simp) ?_
            refine AllReadyH.cons rfl (fun K hK => ?_) AllReadyH.nil
            go_simp
            obtain ⟨wr210, hwr210⟩ : ∃ W, Hid (W = wr209.alloc (.cells #[.int .i64 0, .int .i64 0, .int .i64 0, .int .i64 0] 35)) := ⟨_, rfl⟩
            have al210 : Below wr209.heap.size wr209 wr210 := by rw [hwr210.out]; exact alloc_below _ _
            have YWN210 : Hid (Blk wr210 wr209.heap.size #[.int .i64 0, .int .i64 0, .int .i64 0, .int .i64 0] 35) := by show Blk _ _ _ _; rw [hwr210.out]; exact Blk.new _ _ _
            have BYW210 : Hid (w6.heap.size ≤ wr209.heap.size) := L209.out.size
            have YH210 := hide_it (YHN209.out.after al210)
            have V210 := hide_it (V209.out.later al210 (Nat.le_refl _))
            have O210 := hide_it (O209.out.below al210 Z209.out)
            have Z210 : Hid (wr208.heap.size ≤ wr210.heap.size) := Nat.le_trans Z209.out al210.size
            have L210 : Hid (Below w6.heap.size w6 wr210) := L209.out.trans (al210.mono L209.out.size)
            clear al210
            rw [← hwr210.out]
            try dsimp only
            refine hK.out _ _ (KK.out _ L210.out) (fun hHeld => ?_)
            clear hK K
            refine wpAnyH_ready (rs := [10]) (by kernel_rfl) (by simp) ?_
            refine AllReadyH.cons rfl (fun K hK => ?_) AllReadyH.nil
            go_simp
            obtain ⟨c0, c1, c2, c3, c4⟩ := YH210.out.cells5
            have cf0 := YH210.out.free 0
            have cf1 := YH210.out.free 1
            have cf2 := YH210.out.free 2
            have cf3 := YH210.out.free 3
            have cf4 := YH210.out.free 4
            go_simp
            obtain ⟨wr211, hwr211⟩ : ∃ W, Hid (W = (((((wr210.setCell ⟨wr208.heap.size, 0, none⟩ (.int .i64 ID)).setCell ⟨wr208.heap.size, 1, none⟩ (.bool UP)).setCell ⟨wr208.heap.size, 2, none⟩ (.int .i64 ROOM)).setCell ⟨wr208.heap.size, 3, none⟩ (.slice a208 RS.length cp208)).setCell ⟨wr208.heap.size, 4, none⟩ (.int .i64 F))) := ⟨_, rfl⟩
            have NE211 := ne_hw YH210.out YWN210.out
            have Z211 : Hid (wr208.heap.size ≤ wr211.heap.size) := Nat.le_trans Z210.out (Nat.le_of_eq (by rw [hwr211.out]; simp))
            have YH211 : Hid (Blk wr211 wr208.heap.size #[.int .i64 ID, .bool UP, .int .i64 ROOM, .slice a208 RS.length cp208, .int .i64 F] 34) := by show Blk _ _ _ _; rw [hwr211.out]; exact blk_h5 YH210.out
            have YW211 : Hid (Blk wr211 wr209.heap.size #[.int .i64 0, .int .i64 0, .int .i64 0, .int .i64 0] 35) := by show Blk _ _ _ _; rw [hwr211.out]; exact blk_h5o YWN210.out (fun e => NE211 e.symm)
            have O211 : Hid (OwnRecs wr211 wr207.heap.size wr208.heap.size (.slice a208 RS.length cp208) ps208) := by show OwnRecs _ _ _ _ _; rw [hwr211.out]; exact own_h5 O210.out YH210.out
            have L211 : Hid (Below w6.heap.size w6 wr211) := by show Below _ _ _; rw [hwr211.out]; exact bel_h5 L210.out BYH209.out
            rw [← hwr211.out]
            clear c0 cf0 c1 cf1 c2 cf2 c3 cf3 c4 cf4
            try dsimp only
            refine hK.out _ _ (KK.out _ L211.out) (fun hHeld => ?_)
            clear hK K
            refine wpAnyH_ready (rs := [11]) (by kernel_rfl) (by simp) ?_
            refine AllReadyH.cons rfl (fun K hK => ?_) AllReadyH.nil
            go_simp
            obtain ⟨c0, c1, c2, c3⟩ := YW211.out.cells4
            have cf0 := YW211.out.free 0
            have cf1 := YW211.out.free 1
            have cf2 := YW211.out.free 2
            have cf3 := YW211.out.free 3
            go_simp
            obtain ⟨wr212, hwr212⟩ : ∃ W, Hid (W = ((((wr211.setCell ⟨wr209.heap.size, 0, none⟩ (.int .i64 X1)).setCell ⟨wr209.heap.size, 1, none⟩ (.int .i64 X2)).setCell ⟨wr209.heap.size, 2, none⟩ (.int .i64 X3)).setCell ⟨wr209.heap.size, 3, none⟩ (.int .i64 0))) := ⟨_, rfl⟩
            have Z212 : Hid (wr208.heap.size ≤ wr212.heap.size) := Nat.le_trans Z211.out (Nat.le_of_eq (by rw [hwr212.out]; simp))
            have NEX212 : wr208.heap.size ≠ wr209.heap.size := NE211
            have YW212 : Hid (Blk wr212 wr209.heap.size #[.int .i64 X1, .int .i64 X2, .int .i64 X3, .int .i64 0] 35) := by show Blk _ _ _ _; rw [hwr212.out]; exact blk_w4 YW211.out
            have YH212 : Hid (Blk wr212 wr208.heap.size #[.int .i64 ID, .bool UP, .int .i64 ROOM, .slice a208 RS.length cp208, .int .i64 F] 34) := by show Blk _ _ _ _; rw [hwr212.out]; exact blk_w4o YH211.out NEX212
            have O212 : Hid (OwnRecs wr212 wr207.heap.size wr208.heap.size (.slice a208 RS.length cp208) ps208) := by show OwnRecs _ _ _ _ _; rw [hwr212.out]; exact own_w4 O211.out YW211.out
            have L212 : Hid (Below w6.heap.size w6 wr212) := by show Below _ _ _; rw [hwr212.out]; exact bel_w4 L211.out BYW210.out
            rw [← hwr212.out]
            clear c0 cf0 c1 cf1 c2 cf2 c3 cf3
            try dsimp only
            refine hK.out _ _ (KK.out _ L212.out) (fun hHeld => ?_)
            clear hK K
            refine takeD (i := 12) (v := ?_) (some 12) rfl rfl (by kernel_rfl) (by kernel_rfl) (by kernel_rfl) (fun _ _ _ h => h) (by rfl) hHeld ?_ ?_
            rotate_left
            · intro W hSw
              try dsimp only at hSw
              go_simp
              try with_reducible rfl
            try simp only [Act.put]
            try simp only [List.setIfInBounds_toArray]
            try simp only [List.set_cons_succ]
            try simp only [List.set_cons_zero]
            refine wpAnyH_done (by kernel_rfl) ?_ _
            go_wp2_with fail
            go_meet
            case rel => exact ⟨_, _, a208, cp208, ps208, _, _, rfl, rfl, rfl, P208, hide_it ⟨L212.out, YH212.out, YW212.out, O212.out, BYH209.out, BYW210.out, Or.inr ZZ208.out, Or.inr Z209.out, LL208.out, Z212.out⟩⟩
          · go_simp
            obtain ⟨wr213, hwr213⟩ : ∃ W, Hid (W = wr208.alloc (.cells #[.int .i64 0, .int .i64 0, .int .i64 0, .int .i64 0] 35)) := ⟨_, rfl⟩
            have al213 : Below wr208.heap.size wr208 wr213 := by rw [hwr213.out]; exact alloc_below _ _
            have YWN213 : Hid (Blk wr213 wr208.heap.size #[.int .i64 0, .int .i64 0, .int .i64 0, .int .i64 0] 35) := by show Blk _ _ _ _; rw [hwr213.out]; exact Blk.new _ _ _
            have BYW213 : Hid (w6.heap.size ≤ wr208.heap.size) := L208.out.size
            have V213 := hide_it (V208.out.later al213 (Nat.le_refl _))
            have O213 := hide_it (OO208.out.below al213 ZZ208.out)
            have Z213 : Hid (wr208.heap.size ≤ wr213.heap.size) := Nat.le_trans ZZ208.out al213.size
            have L213 : Hid (Below w6.heap.size w6 wr213) := L208.out.trans (al213.mono L208.out.size)
            clear al213
            rw [← hwr213.out]
            try dsimp only
            refine hK.out _ _ (KK.out _ L213.out) (fun hHeld => ?_)
            clear hK K
            refine wpAnyH_ready (rs := [8]) (by kernel_rfl) (by simp) ?_
            refine AllReadyH.cons rfl (fun K hK => ?_) AllReadyH.nil
            go_simp
            obtain ⟨wr214, hwr214⟩ : ∃ W, Hid (W = wr213.alloc (.cells #[.int .i64 0, .bool false, .int .i64 0, .slice none 0 0, .int .i64 0] 34)) := ⟨_, rfl⟩
            have al214 : Below wr213.heap.size wr213 wr214 := by rw [hwr214.out]; exact alloc_below _ _
            have YHN214 : Hid (Blk wr214 wr213.heap.size #[.int .i64 0, .bool false, .int .i64 0, .slice none 0 0, .int .i64 0] 34) := by show Blk _ _ _ _; rw [hwr214.out]; exact Blk.new _ _ _
            have BYH214 : Hid (w6.heap.size ≤ wr213.heap.size) := L213.out.size
            have YW214 := hide_it (YWN213.out.after al214)
            have V214 := hide_it (V213.out.later al214 (Nat.le_refl _))
            have O214 := hide_it (O213.out.below al214 Z213.out)
            have Z214 : Hid (wr208.heap.size ≤ wr214.heap.size) := Nat.le_trans Z213.out al214.size
            have L214 : Hid (Below w6.heap.size w6 wr214) := L213.out.trans (al214.mono L213.out.size)
            clear al214
            rw [← hwr214.out]
            try dsimp only
            refine hK.out _ _ (KK.out _ L214.out) (fun hHeld => ?_)
            clear hK K
            refine wpAnyH_ready (rs := [10]) (by kernel_rfl) (by simp) ?_
            refine AllReadyH.cons rfl (fun K hK => ?_) AllReadyH.nil
            go_simp
            obtain ⟨c0, c1, c2, c3, c4⟩ := YHN214.out.cells5
            have cf0 := YHN214.out.free 0
            have cf1 := YHN214.out.free 1
            have cf2 := YHN214.out.free 2
            have cf3 := YHN214.out.free 3
            have cf4 := YHN214.out.free 4
            go_simp
            obtain ⟨wr215, hwr215⟩ : ∃ W, Hid (W = (((((wr214.setCell ⟨wr213.heap.size, 0, none⟩ (.int .i64 ID)).setCell ⟨wr213.heap.size, 1, none⟩ (.bool UP)).setCell ⟨wr213.heap.size, 2, none⟩ (.int .i64 ROOM)).setCell ⟨wr213.heap.size, 3, none⟩ (.slice a208 RS.length cp208)).setCell ⟨wr213.heap.size, 4, none⟩ (.int .i64 F))) := ⟨_, rfl⟩
            have NE215 := ne_hw YHN214.out YW214.out
            have Z215 : Hid (wr208.heap.size ≤ wr215.heap.size) := Nat.le_trans Z214.out (Nat.le_of_eq (by rw [hwr215.out]; simp))
            have YH215 : Hid (Blk wr215 wr213.heap.size #[.int .i64 ID, .bool UP, .int .i64 ROOM, .slice a208 RS.length cp208, .int .i64 F] 34) := by show Blk _ _ _ _; rw [hwr215.out]; exact blk_h5 YHN214.out
            have YW215 : Hid (Blk wr215 wr208.heap.size #[.int .i64 0, .int .i64 0, .int .i64 0, .int .i64 0] 35) := by show Blk _ _ _ _; rw [hwr215.out]; exact blk_h5o YW214.out (fun e => NE215 e.symm)
            have O215 : Hid (OwnRecs wr215 wr207.heap.size wr208.heap.size (.slice a208 RS.length cp208) ps208) := by show OwnRecs _ _ _ _ _; rw [hwr215.out]; exact own_h5 O214.out YHN214.out
            have L215 : Hid (Below w6.heap.size w6 wr215) := by show Below _ _ _; rw [hwr215.out]; exact bel_h5 L214.out BYH214.out
            rw [← hwr215.out]
            clear c0 cf0 c1 cf1 c2 cf2 c3 cf3 c4 cf4
            try dsimp only
            refine hK.out _ _ (KK.out _ L215.out) (fun hHeld => ?_)
            clear hK K
            refine wpAnyH_ready (rs := [11]) (by kernel_rfl) (by simp) ?_
            refine AllReadyH.cons rfl (fun K hK => ?_) AllReadyH.nil
            go_simp
            obtain ⟨c0, c1, c2, c3⟩ := YW215.out.cells4
            have cf0 := YW215.out.free 0
            have cf1 := YW215.out.free 1
            have cf2 := YW215.out.free 2
            have cf3 := YW215.out.free 3
            go_simp
            obtain ⟨wr216, hwr216⟩ : ∃ W, Hid (W = ((((wr215.setCell ⟨wr208.heap.size, 0, none⟩ (.int .i64 X1)).setCell ⟨wr208.heap.size, 1, none⟩ (.int .i64 X2)).setCell ⟨wr208.heap.size, 2, none⟩ (.int .i64 X3)).setCell ⟨wr208.heap.size, 3, none⟩ (.int .i64 0))) := ⟨_, rfl⟩
            have Z216 : Hid (wr208.heap.size ≤ wr216.heap.size) := Nat.le_trans Z215.out (Nat.le_of_eq (by rw [hwr216.out]; simp))
            have NEX216 : wr213.heap.size ≠ wr208.heap.size := NE215
            have YW216 : Hid (Blk wr216 wr208.heap.size #[.int .i64 X1, .int .i64 X2, .int .i64 X3, .int .i64 0] 35) := by show Blk _ _ _ _; rw [hwr216.out]; exact blk_w4 YW215.out
            have YH216 : Hid (Blk wr216 wr213.heap.size #[.int .i64 ID, .bool UP, .int .i64 ROOM, .slice a208 RS.length cp208, .int .i64 F] 34) := by show Blk _ _ _ _; rw [hwr216.out]; exact blk_w4o YH215.out NEX216
            have O216 : Hid (OwnRecs wr216 wr207.heap.size wr208.heap.size (.slice a208 RS.length cp208) ps208) := by show OwnRecs _ _ _ _ _; rw [hwr216.out]; exact own_w4 O215.out YW215.out
            have L216 : Hid (Below w6.heap.size w6 wr216) := by show Below _ _ _; rw [hwr216.out]; exact bel_w4 L215.out BYW213.out
            rw [← hwr216.out]
            clear c0 cf0 c1 cf1 c2 cf2 c3 cf3
            try dsimp only
            refine hK.out _ _ (KK.out _ L216.out) (fun hHeld => ?_)
            clear hK K
            refine takeD (i := 12) (v := ?_) (some 12) rfl rfl (by kernel_rfl) (by kernel_rfl) (by kernel_rfl) (fun _ _ _ h => h) (by rfl) hHeld ?_ ?_
            rotate_left
            · intro W hSw
              try dsimp only at hSw
              go_simp
              try with_reducible rfl
            try simp only [Act.put]
            try simp only [List.setIfInBounds_toArray]
            try simp only [List.set_cons_succ]
            try simp only [List.set_cons_zero]
            refine wpAnyH_done (by kernel_rfl) ?_ _
            go_wp2_with fail
            go_meet
            case rel => exact ⟨_, _, a208, cp208, ps208, _, _, rfl, rfl, rfl, P208, hide_it ⟨L216.out, YH216.out, YW216.out, O216.out, BYH214.out, BYW213.out, Or.inr Z213.out, Or.inr ZZ208.out, LL208.out, Z216.out⟩⟩
        · go_simp
          obtain ⟨wr217, hwr217⟩ : ∃ W, Hid (W = wr207.alloc (.cells #[.int .i64 0, .bool false, .int .i64 0, .slice none 0 0, .int .i64 0] 34)) := ⟨_, rfl⟩
          have al217 : Below wr207.heap.size wr207 wr217 := by rw [hwr217.out]; exact alloc_below _ _
          have YHN217 : Hid (Blk wr217 wr207.heap.size #[.int .i64 0, .bool false, .int .i64 0, .slice none 0 0, .int .i64 0] 34) := by show Blk _ _ _ _; rw [hwr217.out]; exact Blk.new _ _ _
          have BYH217 : Hid (w6.heap.size ≤ wr207.heap.size) := L207.out.size
          have V217 := hide_it (V207.out.later al217 (Nat.le_refl _))
          have L217 : Hid (Below w6.heap.size w6 wr217) := L207.out.trans (al217.mono L207.out.size)
          clear al217
          rw [← hwr217.out]
          try dsimp only
          refine hK.out _ _ (KK.out _ L217.out) (fun hHeld => ?_)
          clear hK K
          refine wpAnyH_ready (rs := [3, 9]) (by kernel_rfl) (by simp) ?_
          refine AllReadyH.cons rfl (fun K hK => ?_) (AllReadyH.cons rfl (fun K hK => ?_) AllReadyH.nil)
          · go_simp
            refine (HIM.out _ wr217 V217.out FM5.out (HA.out _ (B6.out.trans (L217.out.mono B6.out.size)))).mono ?_
            rintro e wr218 ⟨a218, cp218, rfl, hm218, hb218⟩
            obtain ⟨ps218, hp218, ho218⟩ := hm218
            have P218 := hide_it hp218
            have OO218 := hide_it ho218
            have ZZ218 : Hid (wr218.heap.size ≤ wr218.heap.size) := Nat.le_refl _
            have LL218 : Hid (w6.heap.size ≤ wr217.heap.size) := L217.out.size
            have AH218 : Hid (wr207.heap.size < wr217.heap.size) := YHN217.out.lt
            have YH218 := hide_it (YHN217.out.after hb218)
            have V218 := hide_it (V217.out.later hb218 (Nat.le_refl _))
            have L218 : Hid (Below w6.heap.size w6 wr218) := L217.out.trans (hb218.mono L217.out.size)
            clear hb218 hp218 ho218
            try dsimp only
            refine hK.out _ _ (KK.out _ L218.out) (fun hHeld => ?_)
            clear hK K
            refine takeD (i := 4) (v := ?_) (some 35) rfl rfl (by kernel_rfl) (by kernel_rfl) (by kernel_rfl) (fun _ _ _ h => h) (by rfl) hHeld ?_ ?_
            rotate_left
            · intro W hSw
              try dsimp only at hSw
              go_simp
              try with_reducible rfl
            try simp only [Act.put]
            try simp only [List.setIfInBounds_toArray]
            try simp only [List.set_cons_succ]
            try simp only [List.set_cons_zero]
            refine takeD (i := 5) (v := ?_) (some 40) rfl rfl (by kernel_rfl) (by kernel_rfl) (by kernel_rfl) (fun _ _ _ h => h) (by rfl) hHeld ?_ ?_
            rotate_left
            · intro W hSw
              try dsimp only at hSw
              go_simp
              try with_reducible rfl
            try simp only [Act.put]
            try simp only [List.setIfInBounds_toArray]
            try simp only [List.set_cons_succ]
            try simp only [List.set_cons_zero]
            refine takeD (i := 6) (v := ?_) (some 41) rfl rfl (by kernel_rfl) (by kernel_rfl) (by kernel_rfl) (fun _ _ _ h => h) (by rfl) hHeld ?_ ?_
            rotate_left
            · intro W hSw
              try dsimp only at hSw
              go_simp
              try with_reducible rfl
            try simp only [Act.put]
            try simp only [List.setIfInBounds_toArray]
            try simp only [List.set_cons_succ]
            try simp only [List.set_cons_zero]
            refine takeD (i := 7) (v := ?_) (some 42) rfl rfl (by kernel_rfl) (by kernel_rfl) (by kernel_rfl) (fun _ _ _ h => h) (by rfl) hHeld ?_ ?_
            rotate_left
            · intro W hSw
              try dsimp only at hSw
              go_simp
              try with_reducible rfl
            try simp only [Act.put]
            try simp only [List.setIfInBounds_toArray]
            try simp only [List.set_cons_succ]
            try simp only [List.set_cons_zero]
            refine wpAnyH_ready (rs := [9]) (by kernel_rfl) (by simp) ?_
            refine AllReadyH.cons rfl (fun K hK => ?_) AllReadyH.nil
            go_simp
            obtain ⟨wr219, hwr219⟩ : ∃ W, Hid (W = wr218.alloc (.cells #[.int .i64 0, .int .i64 0, .int .i64 0, .int .i64 0] 35)) := ⟨_, rfl⟩
            have al219 : Below wr218.heap.size wr218 wr219 := by rw [hwr219.out]; exact alloc_below _ _
            have YWN219 : Hid (Blk wr219 wr218.heap.size #[.int .i64 0, .int .i64 0, .int .i64 0, .int .i64 0] 35) := by show Blk _ _ _ _; rw [hwr219.out]; exact Blk.new _ _ _
            have BYW219 : Hid (w6.heap.size ≤ wr218.heap.size) := L218.out.size
            have YH219 := hide_it (YH218.out.after al219)
            have V219 := hide_it (V218.out.later al219 (Nat.le_refl _))
            have O219 := hide_it (OO218.out.below al219 ZZ218.out)
            have Z219 : Hid (wr218.heap.size ≤ wr219.heap.size) := Nat.le_trans ZZ218.out al219.size
            have L219 : Hid (Below w6.heap.size w6 wr219) := L218.out.trans (al219.mono L218.out.size)
            clear al219
            rw [← hwr219.out]
            try dsimp only
            refine hK.out _ _ (KK.out _ L219.out) (fun hHeld => ?_)
            clear hK K
            refine wpAnyH_ready (rs := [10]) (by kernel_rfl) (by simp) ?_
            refine AllReadyH.cons rfl (fun K hK => ?_) AllReadyH.nil
            go_simp
            obtain ⟨c0, c1, c2, c3, c4⟩ := YH219.out.cells5
            have cf0 := YH219.out.free 0
            have cf1 := YH219.out.free 1
            have cf2 := YH219.out.free 2
            have cf3 := YH219.out.free 3
            have cf4 := YH219.out.free 4
            go_simp
            obtain ⟨wr220, hwr220⟩ : ∃ W, Hid (W = (((((wr219.setCell ⟨wr207.heap.size, 0, none⟩ (.int .i64 ID)).setCell ⟨wr207.heap.size, 1, none⟩ (.bool UP)).setCell ⟨wr207.heap.size, 2, none⟩ (.int .i64 ROOM)).setCell ⟨wr207.heap.size, 3, none⟩ (.slice a218 RS.length cp218)).setCell ⟨wr207.heap.size, 4, none⟩ (.int .i64 F))) := ⟨_, rfl⟩
            have NE220 := ne_hw YH219.out YWN219.out
            have Z220 : Hid (wr218.heap.size ≤ wr220.heap.size) := Nat.le_trans Z219.out (Nat.le_of_eq (by rw [hwr220.out]; simp))
            have YH220 : Hid (Blk wr220 wr207.heap.size #[.int .i64 ID, .bool UP, .int .i64 ROOM, .slice a218 RS.length cp218, .int .i64 F] 34) := by show Blk _ _ _ _; rw [hwr220.out]; exact blk_h5 YH219.out
            have YW220 : Hid (Blk wr220 wr218.heap.size #[.int .i64 0, .int .i64 0, .int .i64 0, .int .i64 0] 35) := by show Blk _ _ _ _; rw [hwr220.out]; exact blk_h5o YWN219.out (fun e => NE220 e.symm)
            have O220 : Hid (OwnRecs wr220 wr217.heap.size wr218.heap.size (.slice a218 RS.length cp218) ps218) := by show OwnRecs _ _ _ _ _; rw [hwr220.out]; exact own_h5 O219.out YH219.out
            have L220 : Hid (Below w6.heap.size w6 wr220) := by show Below _ _ _; rw [hwr220.out]; exact bel_h5 L219.out BYH217.out
            rw [← hwr220.out]
            clear c0 cf0 c1 cf1 c2 cf2 c3 cf3 c4 cf4
            try dsimp only
            refine hK.out _ _ (KK.out _ L220.out) (fun hHeld => ?_)
            clear hK K
            refine wpAnyH_ready (rs := [11]) (by kernel_rfl) (by simp) ?_
            refine AllReadyH.cons rfl (fun K hK => ?_) AllReadyH.nil
            go_simp
            obtain ⟨c0, c1, c2, c3⟩ := YW220.out.cells4
            have cf0 := YW220.out.free 0
            have cf1 := YW220.out.free 1
            have cf2 := YW220.out.free 2
            have cf3 := YW220.out.free 3
            go_simp
            obtain ⟨wr221, hwr221⟩ : ∃ W, Hid (W = ((((wr220.setCell ⟨wr218.heap.size, 0, none⟩ (.int .i64 X1)).setCell ⟨wr218.heap.size, 1, none⟩ (.int .i64 X2)).setCell ⟨wr218.heap.size, 2, none⟩ (.int .i64 X3)).setCell ⟨wr218.heap.size, 3, none⟩ (.int .i64 0))) := ⟨_, rfl⟩
            have Z221 : Hid (wr218.heap.size ≤ wr221.heap.size) := Nat.le_trans Z220.out (Nat.le_of_eq (by rw [hwr221.out]; simp))
            have NEX221 : wr207.heap.size ≠ wr218.heap.size := NE220
            have YW221 : Hid (Blk wr221 wr218.heap.size #[.int .i64 X1, .int .i64 X2, .int .i64 X3, .int .i64 0] 35) := by show Blk _ _ _ _; rw [hwr221.out]; exact blk_w4 YW220.out
            have YH221 : Hid (Blk wr221 wr207.heap.size #[.int .i64 ID, .bool UP, .int .i64 ROOM, .slice a218 RS.length cp218, .int .i64 F] 34) := by show Blk _ _ _ _; rw [hwr221.out]; exact blk_w4o YH220.out NEX221
            have O221 : Hid (OwnRecs wr221 wr217.heap.size wr218.heap.size (.slice a218 RS.length cp218) ps218) := by show OwnRecs _ _ _ _ _; rw [hwr221.out]; exact own_w4 O220.out YW220.out
            have L221 : Hid (Below w6.heap.size w6 wr221) := by show Below _ _ _; rw [hwr221.out]; exact bel_w4 L220.out BYW219.out
            rw [← hwr221.out]
            clear c0 cf0 c1 cf1 c2 cf2 c3 cf3
            try dsimp only
            refine hK.out _ _ (KK.out _ L221.out) (fun hHeld => ?_)
            clear hK K
            refine takeD (i := 12) (v := ?_) (some 12) rfl rfl (by kernel_rfl) (by kernel_rfl) (by kernel_rfl) (fun _ _ _ h => h) (by rfl) hHeld ?_ ?_
            rotate_left
            · intro W hSw
              try dsimp only at hSw
              go_simp
              try with_reducible rfl
            try simp only [Act.put]
            try simp only [List.setIfInBounds_toArray]
            try simp only [List.set_cons_succ]
            try simp only [List.set_cons_zero]
            refine wpAnyH_done (by kernel_rfl) ?_ _
            go_wp2_with fail
            go_meet
            case rel => exact ⟨_, _, a218, cp218, ps218, _, _, rfl, rfl, rfl, P218, hide_it ⟨L221.out, YH221.out, YW221.out, O221.out, BYH217.out, BYW219.out, Or.inl AH218.out, Or.inr ZZ218.out, LL218.out, Z221.out⟩⟩
          · go_simp
            obtain ⟨wr222, hwr222⟩ : ∃ W, Hid (W = wr217.alloc (.cells #[.int .i64 0, .int .i64 0, .int .i64 0, .int .i64 0] 35)) := ⟨_, rfl⟩
            have al222 : Below wr217.heap.size wr217 wr222 := by rw [hwr222.out]; exact alloc_below _ _
            have YWN222 : Hid (Blk wr222 wr217.heap.size #[.int .i64 0, .int .i64 0, .int .i64 0, .int .i64 0] 35) := by show Blk _ _ _ _; rw [hwr222.out]; exact Blk.new _ _ _
            have BYW222 : Hid (w6.heap.size ≤ wr217.heap.size) := L217.out.size
            have YH222 := hide_it (YHN217.out.after al222)
            have V222 := hide_it (V217.out.later al222 (Nat.le_refl _))
            have L222 : Hid (Below w6.heap.size w6 wr222) := L217.out.trans (al222.mono L217.out.size)
            clear al222
            rw [← hwr222.out]
            try dsimp only
            refine hK.out _ _ (KK.out _ L222.out) (fun hHeld => ?_)
            clear hK K
            refine wpAnyH_ready (rs := [3]) (by kernel_rfl) (by simp) ?_
            refine AllReadyH.cons rfl (fun K hK => ?_) AllReadyH.nil
            go_simp
            refine (HIM.out _ wr222 V222.out FM5.out (HA.out _ (B6.out.trans (L222.out.mono B6.out.size)))).mono ?_
            rintro e wr223 ⟨a223, cp223, rfl, hm223, hb223⟩
            obtain ⟨ps223, hp223, ho223⟩ := hm223
            have P223 := hide_it hp223
            have OO223 := hide_it ho223
            have ZZ223 : Hid (wr223.heap.size ≤ wr223.heap.size) := Nat.le_refl _
            have LL223 : Hid (w6.heap.size ≤ wr222.heap.size) := L222.out.size
            have AH223 : Hid (wr207.heap.size < wr222.heap.size) := YH222.out.lt
            have AW223 : Hid (wr217.heap.size < wr222.heap.size) := YWN222.out.lt
            have YH223 := hide_it (YH222.out.after hb223)
            have YW223 := hide_it (YWN222.out.after hb223)
            have V223 := hide_it (V222.out.later hb223 (Nat.le_refl _))
            have L223 : Hid (Below w6.heap.size w6 wr223) := L222.out.trans (hb223.mono L222.out.size)
            clear hb223 hp223 ho223
            try dsimp only
            refine hK.out _ _ (KK.out _ L223.out) (fun hHeld => ?_)
            clear hK K
            refine takeD (i := 4) (v := ?_) (some 35) rfl rfl (by kernel_rfl) (by kernel_rfl) (by kernel_rfl) (fun _ _ _ h => h) (by rfl) hHeld ?_ ?_
            rotate_left
            · intro W hSw
              try dsimp only at hSw
              go_simp
              try with_reducible rfl
            try simp only [Act.put]
            try simp only [List.setIfInBounds_toArray]
            try simp only [List.set_cons_succ]
            try simp only [List.set_cons_zero]
            refine takeD (i := 5) (v := ?_) (some 40) rfl rfl (by kernel_rfl) (by kernel_rfl) (by kernel_rfl) (fun _ _ _ h => h) (by rfl) hHeld ?_ ?_
            rotate_left
            · intro W hSw
              try dsimp only at hSw
              go_simp
              try with_reducible rfl
            try simp only [Act.put]
            try simp only [List.setIfInBounds_toArray]
            try simp only [List.set_cons_succ]
            try simp only [List.set_cons_zero]
            refine takeD (i := 6) (v := ?_) (some 41) rfl rfl (by kernel_rfl) (by kernel_rfl) (by kernel_rfl) (fun _ _ _ h => h) (by rfl) hHeld ?_ ?_
            rotate_left
            · intro W hSw
              try dsimp only at hSw
              go_simp
              try with_reducible rfl
            try simp only [Act.put]
            try simp only [List.setIfInBounds_toArray]
            try simp only [List.set_cons_succ]
            try simp only [List.set_cons_zero]
            refine takeD (i := 7) (v := ?_) (some 42) rfl rfl (by kernel_rfl) (by kernel_rfl) (by kernel_rfl) (fun _ _ _ h => h) (by rfl) hHeld ?_ ?_
            rotate_left
            · intro W hSw
              try dsimp only at hSw
              go_simp
              try with_reducible rfl
            try simp only [Act.put]
            try simp only [List.setIfInBounds_toArray]
            try simp only [List.set_cons_succ]
            try simp only [List.set_cons_zero]
            refine wpAnyH_ready (rs := [10]) (by kernel_rfl) (by simp) ?_
            refine AllReadyH.cons rfl (fun K hK => ?_) AllReadyH.nil
            go_simp
            obtain ⟨c0, c1, c2, c3, c4⟩ := YH223.out.cells5
            have cf0 := YH223.out.free 0
            have cf1 := YH223.out.free 1
            have cf2 := YH223.out.free 2
            have cf3 := YH223.out.free 3
            have cf4 := YH223.out.free 4
            go_simp
            obtain ⟨wr224, hwr224⟩ : ∃ W, Hid (W = (((((wr223.setCell ⟨wr207.heap.size, 0, none⟩ (.int .i64 ID)).setCell ⟨wr207.heap.size, 1, none⟩ (.bool UP)).setCell ⟨wr207.heap.size, 2, none⟩ (.int .i64 ROOM)).setCell ⟨wr207.heap.size, 3, none⟩ (.slice a223 RS.length cp223)).setCell ⟨wr207.heap.size, 4, none⟩ (.int .i64 F))) := ⟨_, rfl⟩
            have NE224 := ne_hw YH223.out YW223.out
            have Z224 : Hid (wr223.heap.size ≤ wr224.heap.size) := Nat.le_trans ZZ223.out (Nat.le_of_eq (by rw [hwr224.out]; simp))
            have YH224 : Hid (Blk wr224 wr207.heap.size #[.int .i64 ID, .bool UP, .int .i64 ROOM, .slice a223 RS.length cp223, .int .i64 F] 34) := by show Blk _ _ _ _; rw [hwr224.out]; exact blk_h5 YH223.out
            have YW224 : Hid (Blk wr224 wr217.heap.size #[.int .i64 0, .int .i64 0, .int .i64 0, .int .i64 0] 35) := by show Blk _ _ _ _; rw [hwr224.out]; exact blk_h5o YW223.out (fun e => NE224 e.symm)
            have O224 : Hid (OwnRecs wr224 wr222.heap.size wr223.heap.size (.slice a223 RS.length cp223) ps223) := by show OwnRecs _ _ _ _ _; rw [hwr224.out]; exact own_h5 OO223.out YH223.out
            have L224 : Hid (Below w6.heap.size w6 wr224) := by show Below _ _ _; rw [hwr224.out]; exact bel_h5 L223.out BYH217.out
            rw [← hwr224.out]
            clear c0 cf0 c1 cf1 c2 cf2 c3 cf3 c4 cf4
            try dsimp only
            refine hK.out _ _ (KK.out _ L224.out) (fun hHeld => ?_)
            clear hK K
            refine wpAnyH_ready (rs := [11]) (by kernel_rfl) (by simp) ?_
            refine AllReadyH.cons rfl (fun K hK => ?_) AllReadyH.nil
            go_simp
            obtain ⟨c0, c1, c2, c3⟩ := YW224.out.cells4
            have cf0 := YW224.out.free 0
            have cf1 := YW224.out.free 1
            have cf2 := YW224.out.free 2
            have cf3 := YW224.out.free 3
            go_simp
            obtain ⟨wr225, hwr225⟩ : ∃ W, Hid (W = ((((wr224.setCell ⟨wr217.heap.size, 0, none⟩ (.int .i64 X1)).setCell ⟨wr217.heap.size, 1, none⟩ (.int .i64 X2)).setCell ⟨wr217.heap.size, 2, none⟩ (.int .i64 X3)).setCell ⟨wr217.heap.size, 3, none⟩ (.int .i64 0))) := ⟨_, rfl⟩
            have Z225 : Hid (wr223.heap.size ≤ wr225.heap.size) := Nat.le_trans Z224.out (Nat.le_of_eq (by rw [hwr225.out]; simp))
            have NEX225 : wr207.heap.size ≠ wr217.heap.size := NE224
            have YW225 : Hid (Blk wr225 wr217.heap.size #[.int .i64 X1, .int .i64 X2, .int .i64 X3, .int .i64 0] 35) := by show Blk _ _ _ _; rw [hwr225.out]; exact blk_w4 YW224.out
            have YH225 : Hid (Blk wr225 wr207.heap.size #[.int .i64 ID, .bool UP, .int .i64 ROOM, .slice a223 RS.length cp223, .int .i64 F] 34) := by show Blk _ _ _ _; rw [hwr225.out]; exact blk_w4o YH224.out NEX225
            have O225 : Hid (OwnRecs wr225 wr222.heap.size wr223.heap.size (.slice a223 RS.length cp223) ps223) := by show OwnRecs _ _ _ _ _; rw [hwr225.out]; exact own_w4 O224.out YW224.out
            have L225 : Hid (Below w6.heap.size w6 wr225) := by show Below _ _ _; rw [hwr225.out]; exact bel_w4 L224.out BYW222.out
            rw [← hwr225.out]
            clear c0 cf0 c1 cf1 c2 cf2 c3 cf3
            try dsimp only
            refine hK.out _ _ (KK.out _ L225.out) (fun hHeld => ?_)
            clear hK K
            refine takeD (i := 12) (v := ?_) (some 12) rfl rfl (by kernel_rfl) (by kernel_rfl) (by kernel_rfl) (fun _ _ _ h => h) (by rfl) hHeld ?_ ?_
            rotate_left
            · intro W hSw
              try dsimp only at hSw
              go_simp
              try with_reducible rfl
            try simp only [Act.put]
            try simp only [List.setIfInBounds_toArray]
            try simp only [List.set_cons_succ]
            try simp only [List.set_cons_zero]
            refine wpAnyH_done (by kernel_rfl) ?_ _
            go_wp2_with fail
            go_meet
            case rel => exact ⟨_, _, a223, cp223, ps223, _, _, rfl, rfl, rfl, P223, hide_it ⟨L225.out, YH225.out, YW225.out, O225.out, BYH217.out, BYW222.out, Or.inl AH223.out, Or.inl AW223.out, LL223.out, Z225.out⟩⟩
        · go_simp
          obtain ⟨wr226, hwr226⟩ : ∃ W, Hid (W = wr207.alloc (.cells #[.int .i64 0, .int .i64 0, .int .i64 0, .int .i64 0] 35)) := ⟨_, rfl⟩
          have al226 : Below wr207.heap.size wr207 wr226 := by rw [hwr226.out]; exact alloc_below _ _
          have YWN226 : Hid (Blk wr226 wr207.heap.size #[.int .i64 0, .int .i64 0, .int .i64 0, .int .i64 0] 35) := by show Blk _ _ _ _; rw [hwr226.out]; exact Blk.new _ _ _
          have BYW226 : Hid (w6.heap.size ≤ wr207.heap.size) := L207.out.size
          have V226 := hide_it (V207.out.later al226 (Nat.le_refl _))
          have L226 : Hid (Below w6.heap.size w6 wr226) := L207.out.trans (al226.mono L207.out.size)
          clear al226
          rw [← hwr226.out]
          try dsimp only
          refine hK.out _ _ (KK.out _ L226.out) (fun hHeld => ?_)
          clear hK K
          refine wpAnyH_ready (rs := [3, 8]) (by kernel_rfl) (by simp) ?_
          refine AllReadyH.cons rfl (fun K hK => ?_) (AllReadyH.cons rfl (fun K hK => ?_) AllReadyH.nil)
          · go_simp
            refine (HIM.out _ wr226 V226.out FM5.out (HA.out _ (B6.out.trans (L226.out.mono B6.out.size)))).mono ?_
            rintro e wr227 ⟨a227, cp227, rfl, hm227, hb227⟩
            obtain ⟨ps227, hp227, ho227⟩ := hm227
            have P227 := hide_it hp227
            have OO227 := hide_it ho227
            have ZZ227 : Hid (wr227.heap.size ≤ wr227.heap.size) := Nat.le_refl _
            have LL227 : Hid (w6.heap.size ≤ wr226.heap.size) := L226.out.size
            have AW227 : Hid (wr207.heap.size < wr226.heap.size) := YWN226.out.lt
            have YW227 := hide_it (YWN226.out.after hb227)
            have V227 := hide_it (V226.out.later hb227 (Nat.le_refl _))
            have L227 : Hid (Below w6.heap.size w6 wr227) := L226.out.trans (hb227.mono L226.out.size)
            clear hb227 hp227 ho227
            try dsimp only
            refine hK.out _ _ (KK.out _ L227.out) (fun hHeld => ?_)
            clear hK K
            refine takeD (i := 4) (v := ?_) (some 35) rfl rfl (by kernel_rfl) (by kernel_rfl) (by kernel_rfl) (fun _ _ _ h => h) (by rfl) hHeld ?_ ?_
            rotate_left
            · intro W hSw
              try dsimp only at hSw
              go_simp
              try with_reducible rfl
            try simp only [Act.put]
            try simp only [List.setIfInBounds_toArray]
            try simp only [List.set_cons_succ]
            try simp only [List.set_cons_zero]
            refine takeD (i := 5) (v := ?_) (some 40) rfl rfl (by kernel_rfl) (by kernel_rfl) (by kernel_rfl) (fun _ _ _ h => h) (by rfl) hHeld ?_ ?_
            rotate_left
            · intro W hSw
              try dsimp only at hSw
              go_simp
              try with_reducible rfl
            try simp only [Act.put]
            try simp only [List.setIfInBounds_toArray]
            try simp only [List.set_cons_succ]
            try simp only [List.set_cons_zero]
            refine takeD (i := 6) (v := ?_) (some 41) rfl rfl (by kernel_rfl) (by kernel_rfl) (by kernel_rfl) (fun _ _ _ h => h) (by rfl) hHeld ?_ ?_
            rotate_left
            · intro W hSw
              try dsimp only at hSw
              go_simp
              try with_reducible rfl
            try simp only [Act.put]
            try simp only [List.setIfInBounds_toArray]
            try simp only [List.set_cons_succ]
            try simp only [List.set_cons_zero]
            refine takeD (i := 7) (v := ?_) (some 42) rfl rfl (by kernel_rfl) (by kernel_rfl) (by kernel_rfl) (fun _ _ _ h => h) (by rfl) hHeld ?_ ?_
            rotate_left
            · intro W hSw
              try dsimp only at hSw
              go_simp
              try with_reducible rfl
            try simp only [Act.put]
            try simp only [List.setIfInBounds_toArray]
            try simp only [List.set_cons_succ]
            try simp only [List.set_cons_zero]
            refine wpAnyH_ready (rs := [8]) (by kernel_rfl) (by simp) ?_
            refine AllReadyH.cons rfl (fun K hK => ?_) AllReadyH.nil
            go_simp
            obtain ⟨wr228, hwr228⟩ : ∃ W, Hid (W = wr227.alloc (.cells #[.int .i64 0, .bool false, .int .i64 0, .slice none 0 0, .int .i64 0] 34)) := ⟨_, rfl⟩
            have al228 : Below wr227.heap.size wr227 wr228 := by rw [hwr228.out]; exact alloc_below _ _
            have YHN228 : Hid (Blk wr228 wr227.heap.size #[.int .i64 0, .bool false, .int .i64 0, .slice none 0 0, .int .i64 0] 34) := by show Blk _ _ _ _; rw [hwr228.out]; exact Blk.new _ _ _
            have BYH228 : Hid (w6.heap.size ≤ wr227.heap.size) := L227.out.size
            have YW228 := hide_it (YW227.out.after al228)
            have V228 := hide_it (V227.out.later al228 (Nat.le_refl _))
            have O228 := hide_it (OO227.out.below al228 ZZ227.out)
            have Z228 : Hid (wr227.heap.size ≤ wr228.heap.size) := Nat.le_trans ZZ227.out al228.size
            have L228 : Hid (Below w6.heap.size w6 wr228) := L227.out.trans (al228.mono L227.out.size)
            clear al228
            rw [← hwr228.out]
            try dsimp only
            refine hK.out _ _ (KK.out _ L228.out) (fun hHeld => ?_)
            clear hK K
            refine wpAnyH_ready (rs := [10]) (by kernel_rfl) (by simp) ?_
            refine AllReadyH.cons rfl (fun K hK => ?_) AllReadyH.nil
            go_simp
            obtain ⟨c0, c1, c2, c3, c4⟩ := YHN228.out.cells5
            have cf0 := YHN228.out.free 0
            have cf1 := YHN228.out.free 1
            have cf2 := YHN228.out.free 2
            have cf3 := YHN228.out.free 3
            have cf4 := YHN228.out.free 4
            go_simp
            obtain ⟨wr229, hwr229⟩ : ∃ W, Hid (W = (((((wr228.setCell ⟨wr227.heap.size, 0, none⟩ (.int .i64 ID)).setCell ⟨wr227.heap.size, 1, none⟩ (.bool UP)).setCell ⟨wr227.heap.size, 2, none⟩ (.int .i64 ROOM)).setCell ⟨wr227.heap.size, 3, none⟩ (.slice a227 RS.length cp227)).setCell ⟨wr227.heap.size, 4, none⟩ (.int .i64 F))) := ⟨_, rfl⟩
            have NE229 := ne_hw YHN228.out YW228.out
            have Z229 : Hid (wr227.heap.size ≤ wr229.heap.size) := Nat.le_trans Z228.out (Nat.le_of_eq (by rw [hwr229.out]; simp))
            have YH229 : Hid (Blk wr229 wr227.heap.size #[.int .i64 ID, .bool UP, .int .i64 ROOM, .slice a227 RS.length cp227, .int .i64 F] 34) := by show Blk _ _ _ _; rw [hwr229.out]; exact blk_h5 YHN228.out
            have YW229 : Hid (Blk wr229 wr207.heap.size #[.int .i64 0, .int .i64 0, .int .i64 0, .int .i64 0] 35) := by show Blk _ _ _ _; rw [hwr229.out]; exact blk_h5o YW228.out (fun e => NE229 e.symm)
            have O229 : Hid (OwnRecs wr229 wr226.heap.size wr227.heap.size (.slice a227 RS.length cp227) ps227) := by show OwnRecs _ _ _ _ _; rw [hwr229.out]; exact own_h5 O228.out YHN228.out
            have L229 : Hid (Below w6.heap.size w6 wr229) := by show Below _ _ _; rw [hwr229.out]; exact bel_h5 L228.out BYH228.out
            rw [← hwr229.out]
            clear c0 cf0 c1 cf1 c2 cf2 c3 cf3 c4 cf4
            try dsimp only
            refine hK.out _ _ (KK.out _ L229.out) (fun hHeld => ?_)
            clear hK K
            refine wpAnyH_ready (rs := [11]) (by kernel_rfl) (by simp) ?_
            refine AllReadyH.cons rfl (fun K hK => ?_) AllReadyH.nil
            go_simp
            obtain ⟨c0, c1, c2, c3⟩ := YW229.out.cells4
            have cf0 := YW229.out.free 0
            have cf1 := YW229.out.free 1
            have cf2 := YW229.out.free 2
            have cf3 := YW229.out.free 3
            go_simp
            obtain ⟨wr230, hwr230⟩ : ∃ W, Hid (W = ((((wr229.setCell ⟨wr207.heap.size, 0, none⟩ (.int .i64 X1)).setCell ⟨wr207.heap.size, 1, none⟩ (.int .i64 X2)).setCell ⟨wr207.heap.size, 2, none⟩ (.int .i64 X3)).setCell ⟨wr207.heap.size, 3, none⟩ (.int .i64 0))) := ⟨_, rfl⟩
            have Z230 : Hid (wr227.heap.size ≤ wr230.heap.size) := Nat.le_trans Z229.out (Nat.le_of_eq (by rw [hwr230.out]; simp))
            have NEX230 : wr227.heap.size ≠ wr207.heap.size := NE229
            have YW230 : Hid (Blk wr230 wr207.heap.size #[.int .i64 X1, .int .i64 X2, .int .i64 X3, .int .i64 0] 35) := by show Blk _ _ _ _; rw [hwr230.out]; exact blk_w4 YW229.out
            have YH230 : Hid (Blk wr230 wr227.heap.size #[.int .i64 ID, .bool UP, .int .i64 ROOM, .slice a227 RS.length cp227, .int .i64 F] 34) := by show Blk _ _ _ _; rw [hwr230.out]; exact blk_w4o YH229.out NEX230
            have O230 : Hid (OwnRecs wr230 wr226.heap.size wr227.heap.size (.slice a227 RS.length cp227) ps227) := by show OwnRecs _ _ _ _ _; rw [hwr230.out]; exact own_w4 O229.out YW229.out
            have L230 : Hid (Below w6.heap.size w6 wr230) := by show Below _ _ _; rw [hwr230.out]; exact bel_w4 L229.out BYW226.out
            rw [← hwr230.out]
            clear c0 cf0 c1 cf1 c2 cf2 c3 cf3
            try dsimp only
            refine hK.out _ _ (KK.out _ L230.out) (fun hHeld => ?_)
            clear hK K
            refine takeD (i := 12) (v := ?_) (some 12) rfl rfl (by kernel_rfl) (by kernel_rfl) (by kernel_rfl) (fun _ _ _ h => h) (by rfl) hHeld ?_ ?_
            rotate_left
            · intro W hSw
              try dsimp only at hSw
              go_simp
              try with_reducible rfl
            try simp only [Act.put]
            try simp only [List.setIfInBounds_toArray]
            try simp only [List.set_cons_succ]
            try simp only [List.set_cons_zero]
            refine wpAnyH_done (by kernel_rfl) ?_ _
            go_wp2_with fail
            go_meet
            case rel => exact ⟨_, _, a227, cp227, ps227, _, _, rfl, rfl, rfl, P227, hide_it ⟨L230.out, YH230.out, YW230.out, O230.out, BYH228.out, BYW226.out, Or.inr ZZ227.out, Or.inl AW227.out, LL227.out, Z230.out⟩⟩
          · go_simp
            obtain ⟨wr231, hwr231⟩ : ∃ W, Hid (W = wr226.alloc (.cells #[.int .i64 0, .bool false, .int .i64 0, .slice none 0 0, .int .i64 0] 34)) := ⟨_, rfl⟩
            have al231 : Below wr226.heap.size wr226 wr231 := by rw [hwr231.out]; exact alloc_below _ _
            have YHN231 : Hid (Blk wr231 wr226.heap.size #[.int .i64 0, .bool false, .int .i64 0, .slice none 0 0, .int .i64 0] 34) := by show Blk _ _ _ _; rw [hwr231.out]; exact Blk.new _ _ _
            have BYH231 : Hid (w6.heap.size ≤ wr226.heap.size) := L226.out.size
            have YW231 := hide_it (YWN226.out.after al231)
            have V231 := hide_it (V226.out.later al231 (Nat.le_refl _))
            have L231 : Hid (Below w6.heap.size w6 wr231) := L226.out.trans (al231.mono L226.out.size)
            clear al231
            rw [← hwr231.out]
            try dsimp only
            refine hK.out _ _ (KK.out _ L231.out) (fun hHeld => ?_)
            clear hK K
            refine wpAnyH_ready (rs := [3]) (by kernel_rfl) (by simp) ?_
            refine AllReadyH.cons rfl (fun K hK => ?_) AllReadyH.nil
            go_simp
            refine (HIM.out _ wr231 V231.out FM5.out (HA.out _ (B6.out.trans (L231.out.mono B6.out.size)))).mono ?_
            rintro e wr232 ⟨a232, cp232, rfl, hm232, hb232⟩
            obtain ⟨ps232, hp232, ho232⟩ := hm232
            have P232 := hide_it hp232
            have OO232 := hide_it ho232
            have ZZ232 : Hid (wr232.heap.size ≤ wr232.heap.size) := Nat.le_refl _
            have LL232 : Hid (w6.heap.size ≤ wr231.heap.size) := L231.out.size
            have AH232 : Hid (wr226.heap.size < wr231.heap.size) := YHN231.out.lt
            have AW232 : Hid (wr207.heap.size < wr231.heap.size) := YW231.out.lt
            have YH232 := hide_it (YHN231.out.after hb232)
            have YW232 := hide_it (YW231.out.after hb232)
            have V232 := hide_it (V231.out.later hb232 (Nat.le_refl _))
            have L232 : Hid (Below w6.heap.size w6 wr232) := L231.out.trans (hb232.mono L231.out.size)
            clear hb232 hp232 ho232
            try dsimp only
            refine hK.out _ _ (KK.out _ L232.out) (fun hHeld => ?_)
            clear hK K
            refine takeD (i := 4) (v := ?_) (some 35) rfl rfl (by kernel_rfl) (by kernel_rfl) (by kernel_rfl) (fun _ _ _ h => h) (by rfl) hHeld ?_ ?_
            rotate_left
            · intro W hSw
              try dsimp only at hSw
              go_simp
              try with_reducible rfl
            try simp only [Act.put]
            try simp only [List.setIfInBounds_toArray]
            try simp only [List.set_cons_succ]
            try simp only [List.set_cons_zero]
            refine takeD (i := 5) (v := ?_) (some 40) rfl rfl (by kernel_rfl) (by kernel_rfl) (by kernel_rfl) (fun _ _ _ h => h) (by rfl) hHeld ?_ ?_
            rotate_left
            · intro W hSw
              try dsimp only at hSw
              go_simp
              try with_reducible rfl
            try simp only [Act.put]
            try simp only [List.setIfInBounds_toArray]
            try simp only [List.set_cons_succ]
            try simp only [List.set_cons_zero]
            refine takeD (i := 6) (v := ?_) (some 41) rfl rfl (by kernel_rfl) (by kernel_rfl) (by kernel_rfl) (fun _ _ _ h => h) (by rfl) hHeld ?_ ?_
            rotate_left
            · intro W hSw
              try dsimp only at hSw
              go_simp
              try with_reducible rfl
            try simp only [Act.put]
            try simp only [List.setIfInBounds_toArray]
            try simp only [List.set_cons_succ]
            try simp only [List.set_cons_zero]
            refine takeD (i := 7) (v := ?_) (some 42) rfl rfl (by kernel_rfl) (by kernel_rfl) (by kernel_rfl) (fun _ _ _ h => h) (by rfl) hHeld ?_ ?_
            rotate_left
            · intro W hSw
              try dsimp only at hSw
              go_simp
              try with_reducible rfl
            try simp only [Act.put]
            try simp only [List.setIfInBounds_toArray]
            try simp only [List.set_cons_succ]
            try simp only [List.set_cons_zero]
            refine wpAnyH_ready (rs := [10]) (by kernel_rfl) (by simp) ?_
            refine AllReadyH.cons rfl (fun K hK => ?_) AllReadyH.nil
            go_simp
            obtain ⟨c0, c1, c2, c3, c4⟩ := YH232.out.cells5
            have cf0 := YH232.out.free 0
            have cf1 := YH232.out.free 1
            have cf2 := YH232.out.free 2
            have cf3 := YH232.out.free 3
            have cf4 := YH232.out.free 4
            go_simp
            obtain ⟨wr233, hwr233⟩ : ∃ W, Hid (W = (((((wr232.setCell ⟨wr226.heap.size, 0, none⟩ (.int .i64 ID)).setCell ⟨wr226.heap.size, 1, none⟩ (.bool UP)).setCell ⟨wr226.heap.size, 2, none⟩ (.int .i64 ROOM)).setCell ⟨wr226.heap.size, 3, none⟩ (.slice a232 RS.length cp232)).setCell ⟨wr226.heap.size, 4, none⟩ (.int .i64 F))) := ⟨_, rfl⟩
            have NE233 := ne_hw YH232.out YW232.out
            have Z233 : Hid (wr232.heap.size ≤ wr233.heap.size) := Nat.le_trans ZZ232.out (Nat.le_of_eq (by rw [hwr233.out]; simp))
            have YH233 : Hid (Blk wr233 wr226.heap.size #[.int .i64 ID, .bool UP, .int .i64 ROOM, .slice a232 RS.length cp232, .int .i64 F] 34) := by show Blk _ _ _ _; rw [hwr233.out]; exact blk_h5 YH232.out
            have YW233 : Hid (Blk wr233 wr207.heap.size #[.int .i64 0, .int .i64 0, .int .i64 0, .int .i64 0] 35) := by show Blk _ _ _ _; rw [hwr233.out]; exact blk_h5o YW232.out (fun e => NE233 e.symm)
            have O233 : Hid (OwnRecs wr233 wr231.heap.size wr232.heap.size (.slice a232 RS.length cp232) ps232) := by show OwnRecs _ _ _ _ _; rw [hwr233.out]; exact own_h5 OO232.out YH232.out
            have L233 : Hid (Below w6.heap.size w6 wr233) := by show Below _ _ _; rw [hwr233.out]; exact bel_h5 L232.out BYH231.out
            rw [← hwr233.out]
            clear c0 cf0 c1 cf1 c2 cf2 c3 cf3 c4 cf4
            try dsimp only
            refine hK.out _ _ (KK.out _ L233.out) (fun hHeld => ?_)
            clear hK K
            refine wpAnyH_ready (rs := [11]) (by kernel_rfl) (by simp) ?_
            refine AllReadyH.cons rfl (fun K hK => ?_) AllReadyH.nil
            go_simp
            obtain ⟨c0, c1, c2, c3⟩ := YW233.out.cells4
            have cf0 := YW233.out.free 0
            have cf1 := YW233.out.free 1
            have cf2 := YW233.out.free 2
            have cf3 := YW233.out.free 3
            go_simp
            obtain ⟨wr234, hwr234⟩ : ∃ W, Hid (W = ((((wr233.setCell ⟨wr207.heap.size, 0, none⟩ (.int .i64 X1)).setCell ⟨wr207.heap.size, 1, none⟩ (.int .i64 X2)).setCell ⟨wr207.heap.size, 2, none⟩ (.int .i64 X3)).setCell ⟨wr207.heap.size, 3, none⟩ (.int .i64 0))) := ⟨_, rfl⟩
            have Z234 : Hid (wr232.heap.size ≤ wr234.heap.size) := Nat.le_trans Z233.out (Nat.le_of_eq (by rw [hwr234.out]; simp))
            have NEX234 : wr226.heap.size ≠ wr207.heap.size := NE233
            have YW234 : Hid (Blk wr234 wr207.heap.size #[.int .i64 X1, .int .i64 X2, .int .i64 X3, .int .i64 0] 35) := by show Blk _ _ _ _; rw [hwr234.out]; exact blk_w4 YW233.out
            have YH234 : Hid (Blk wr234 wr226.heap.size #[.int .i64 ID, .bool UP, .int .i64 ROOM, .slice a232 RS.length cp232, .int .i64 F] 34) := by show Blk _ _ _ _; rw [hwr234.out]; exact blk_w4o YH233.out NEX234
            have O234 : Hid (OwnRecs wr234 wr231.heap.size wr232.heap.size (.slice a232 RS.length cp232) ps232) := by show OwnRecs _ _ _ _ _; rw [hwr234.out]; exact own_w4 O233.out YW233.out
            have L234 : Hid (Below w6.heap.size w6 wr234) := by show Below _ _ _; rw [hwr234.out]; exact bel_w4 L233.out BYW226.out
            rw [← hwr234.out]
            clear c0 cf0 c1 cf1 c2 cf2 c3 cf3
            try dsimp only
            refine hK.out _ _ (KK.out _ L234.out) (fun hHeld => ?_)
            clear hK K
            refine takeD (i := 12) (v := ?_) (some 12) rfl rfl (by kernel_rfl) (by kernel_rfl) (by kernel_rfl) (fun _ _ _ h => h) (by rfl) hHeld ?_ ?_
            rotate_left
            · intro W hSw
              try dsimp only at hSw
              go_simp
              try with_reducible rfl
            try simp only [Act.put]
            try simp only [List.setIfInBounds_toArray]
            try simp only [List.set_cons_succ]
            try simp only [List.set_cons_zero]
            refine wpAnyH_done (by kernel_rfl) ?_ _
            go_wp2_with fail
            go_meet
            case rel => exact ⟨_, _, a232, cp232, ps232, _, _, rfl, rfl, rfl, P232, hide_it ⟨L234.out, YH234.out, YW234.out, O234.out, BYH231.out, BYW226.out, Or.inl AH232.out, Or.inl AW232.out, LL232.out, Z234.out⟩⟩
      · go_simp
        obtain ⟨wr235, hwr235⟩ : ∃ W, Hid (W = wdhh7.alloc (.cells #[.int .i64 0, .bool false, .int .i64 0, .slice none 0 0, .int .i64 0] 34)) := ⟨_, rfl⟩
        have al235 : Below wdhh7.heap.size wdhh7 wr235 := by rw [hwr235.out]; exact alloc_below _ _
        have YHN235 : Hid (Blk wr235 wdhh7.heap.size #[.int .i64 0, .bool false, .int .i64 0, .slice none 0 0, .int .i64 0] 34) := by show Blk _ _ _ _; rw [hwr235.out]; exact Blk.new _ _ _
        have BYH235 : Hid (w6.heap.size ≤ wdhh7.heap.size) := Ldhh7.out.size
        have V235 := hide_it (VDhh7.out.later al235 (Nat.le_refl _))
        have L235 : Hid (Below w6.heap.size w6 wr235) := Ldhh7.out.trans (al235.mono Ldhh7.out.size)
        clear al235
        rw [← hwr235.out]
        try dsimp only
        refine hK.out _ _ (KK.out _ L235.out) (fun hHeld => ?_)
        clear hK K
        refine wpAnyH_ready (rs := [2, 9]) (by kernel_rfl) (by simp) ?_
        refine AllReadyH.cons rfl (fun K hK => ?_) (AllReadyH.cons rfl (fun K hK => ?_) AllReadyH.nil)
        · go_simp
          refine (toWord_any k h t m wr235).mono ?_
          rintro e wr236 ⟨rfl, hb236⟩
          have YH236 := hide_it (YHN235.out.after hb236)
          have V236 := hide_it (V235.out.later hb236 (Nat.le_refl _))
          have L236 : Hid (Below w6.heap.size w6 wr236) := L235.out.trans (hb236.mono L235.out.size)
          clear hb236
          try dsimp only
          refine hK.out _ _ (KK.out _ L236.out) (fun hHeld => ?_)
          clear hK K
          refine wpAnyH_ready (rs := [3, 9]) (by kernel_rfl) (by simp) ?_
          refine AllReadyH.cons rfl (fun K hK => ?_) (AllReadyH.cons rfl (fun K hK => ?_) AllReadyH.nil)
          · go_simp
            refine (HIM.out _ wr236 V236.out FM5.out (HA.out _ (B6.out.trans (L236.out.mono B6.out.size)))).mono ?_
            rintro e wr237 ⟨a237, cp237, rfl, hm237, hb237⟩
            obtain ⟨ps237, hp237, ho237⟩ := hm237
            have P237 := hide_it hp237
            have OO237 := hide_it ho237
            have ZZ237 : Hid (wr237.heap.size ≤ wr237.heap.size) := Nat.le_refl _
            have LL237 : Hid (w6.heap.size ≤ wr236.heap.size) := L236.out.size
            have AH237 : Hid (wdhh7.heap.size < wr236.heap.size) := YH236.out.lt
            have YH237 := hide_it (YH236.out.after hb237)
            have V237 := hide_it (V236.out.later hb237 (Nat.le_refl _))
            have L237 : Hid (Below w6.heap.size w6 wr237) := L236.out.trans (hb237.mono L236.out.size)
            clear hb237 hp237 ho237
            try dsimp only
            refine hK.out _ _ (KK.out _ L237.out) (fun hHeld => ?_)
            clear hK K
            refine takeD (i := 4) (v := ?_) (some 35) rfl rfl (by kernel_rfl) (by kernel_rfl) (by kernel_rfl) (fun _ _ _ h => h) (by rfl) hHeld ?_ ?_
            rotate_left
            · intro W hSw
              try dsimp only at hSw
              go_simp
              try with_reducible rfl
            try simp only [Act.put]
            try simp only [List.setIfInBounds_toArray]
            try simp only [List.set_cons_succ]
            try simp only [List.set_cons_zero]
            refine takeD (i := 5) (v := ?_) (some 40) rfl rfl (by kernel_rfl) (by kernel_rfl) (by kernel_rfl) (fun _ _ _ h => h) (by rfl) hHeld ?_ ?_
            rotate_left
            · intro W hSw
              try dsimp only at hSw
              go_simp
              try with_reducible rfl
            try simp only [Act.put]
            try simp only [List.setIfInBounds_toArray]
            try simp only [List.set_cons_succ]
            try simp only [List.set_cons_zero]
            refine takeD (i := 6) (v := ?_) (some 41) rfl rfl (by kernel_rfl) (by kernel_rfl) (by kernel_rfl) (fun _ _ _ h => h) (by rfl) hHeld ?_ ?_
            rotate_left
            · intro W hSw
              try dsimp only at hSw
              go_simp
              try with_reducible rfl
            try simp only [Act.put]
            try simp only [List.setIfInBounds_toArray]
            try simp only [List.set_cons_succ]
            try simp only [List.set_cons_zero]
            refine takeD (i := 7) (v := ?_) (some 42) rfl rfl (by kernel_rfl) (by kernel_rfl) (by kernel_rfl) (fun _ _ _ h => h) (by rfl) hHeld ?_ ?_
            rotate_left
            · intro W hSw
              try dsimp only at hSw
              go_simp
              try with_reducible rfl
            try simp only [Act.put]
            try simp only [List.setIfInBounds_toArray]
            try simp only [List.set_cons_succ]
            try simp only [List.set_cons_zero]
            refine wpAnyH_ready (rs := [9]) (by kernel_rfl) (by simp) ?_
            refine AllReadyH.cons rfl (fun K hK => ?_) AllReadyH.nil
            go_simp
            obtain ⟨wr238, hwr238⟩ : ∃ W, Hid (W = wr237.alloc (.cells #[.int .i64 0, .int .i64 0, .int .i64 0, .int .i64 0] 35)) := ⟨_, rfl⟩
            have al238 : Below wr237.heap.size wr237 wr238 := by rw [hwr238.out]; exact alloc_below _ _
            have YWN238 : Hid (Blk wr238 wr237.heap.size #[.int .i64 0, .int .i64 0, .int .i64 0, .int .i64 0] 35) := by show Blk _ _ _ _; rw [hwr238.out]; exact Blk.new _ _ _
            have BYW238 : Hid (w6.heap.size ≤ wr237.heap.size) := L237.out.size
            have YH238 := hide_it (YH237.out.after al238)
            have V238 := hide_it (V237.out.later al238 (Nat.le_refl _))
            have O238 := hide_it (OO237.out.below al238 ZZ237.out)
            have Z238 : Hid (wr237.heap.size ≤ wr238.heap.size) := Nat.le_trans ZZ237.out al238.size
            have L238 : Hid (Below w6.heap.size w6 wr238) := L237.out.trans (al238.mono L237.out.size)
            clear al238
            rw [← hwr238.out]
            try dsimp only
            refine hK.out _ _ (KK.out _ L238.out) (fun hHeld => ?_)
            clear hK K
            refine wpAnyH_ready (rs := [10]) (by kernel_rfl) (by simp) ?_
            refine AllReadyH.cons rfl (fun K hK => ?_) AllReadyH.nil
            go_simp
            obtain ⟨c0, c1, c2, c3, c4⟩ := YH238.out.cells5
            have cf0 := YH238.out.free 0
            have cf1 := YH238.out.free 1
            have cf2 := YH238.out.free 2
            have cf3 := YH238.out.free 3
            have cf4 := YH238.out.free 4
            go_simp
            obtain ⟨wr239, hwr239⟩ : ∃ W, Hid (W = (((((wr238.setCell ⟨wdhh7.heap.size, 0, none⟩ (.int .i64 ID)).setCell ⟨wdhh7.heap.size, 1, none⟩ (.bool UP)).setCell ⟨wdhh7.heap.size, 2, none⟩ (.int .i64 ROOM)).setCell ⟨wdhh7.heap.size, 3, none⟩ (.slice a237 RS.length cp237)).setCell ⟨wdhh7.heap.size, 4, none⟩ (.int .i64 F))) := ⟨_, rfl⟩
            have NE239 := ne_hw YH238.out YWN238.out
            have Z239 : Hid (wr237.heap.size ≤ wr239.heap.size) := Nat.le_trans Z238.out (Nat.le_of_eq (by rw [hwr239.out]; simp))
            have YH239 : Hid (Blk wr239 wdhh7.heap.size #[.int .i64 ID, .bool UP, .int .i64 ROOM, .slice a237 RS.length cp237, .int .i64 F] 34) := by show Blk _ _ _ _; rw [hwr239.out]; exact blk_h5 YH238.out
            have YW239 : Hid (Blk wr239 wr237.heap.size #[.int .i64 0, .int .i64 0, .int .i64 0, .int .i64 0] 35) := by show Blk _ _ _ _; rw [hwr239.out]; exact blk_h5o YWN238.out (fun e => NE239 e.symm)
            have O239 : Hid (OwnRecs wr239 wr236.heap.size wr237.heap.size (.slice a237 RS.length cp237) ps237) := by show OwnRecs _ _ _ _ _; rw [hwr239.out]; exact own_h5 O238.out YH238.out
            have L239 : Hid (Below w6.heap.size w6 wr239) := by show Below _ _ _; rw [hwr239.out]; exact bel_h5 L238.out BYH235.out
            rw [← hwr239.out]
            clear c0 cf0 c1 cf1 c2 cf2 c3 cf3 c4 cf4
            try dsimp only
            refine hK.out _ _ (KK.out _ L239.out) (fun hHeld => ?_)
            clear hK K
            refine wpAnyH_ready (rs := [11]) (by kernel_rfl) (by simp) ?_
            refine AllReadyH.cons rfl (fun K hK => ?_) AllReadyH.nil
            go_simp
            obtain ⟨c0, c1, c2, c3⟩ := YW239.out.cells4
            have cf0 := YW239.out.free 0
            have cf1 := YW239.out.free 1
            have cf2 := YW239.out.free 2
            have cf3 := YW239.out.free 3
            go_simp
            obtain ⟨wr240, hwr240⟩ : ∃ W, Hid (W = ((((wr239.setCell ⟨wr237.heap.size, 0, none⟩ (.int .i64 X1)).setCell ⟨wr237.heap.size, 1, none⟩ (.int .i64 X2)).setCell ⟨wr237.heap.size, 2, none⟩ (.int .i64 X3)).setCell ⟨wr237.heap.size, 3, none⟩ (.int .i64 0))) := ⟨_, rfl⟩
            have Z240 : Hid (wr237.heap.size ≤ wr240.heap.size) := Nat.le_trans Z239.out (Nat.le_of_eq (by rw [hwr240.out]; simp))
            have NEX240 : wdhh7.heap.size ≠ wr237.heap.size := NE239
            have YW240 : Hid (Blk wr240 wr237.heap.size #[.int .i64 X1, .int .i64 X2, .int .i64 X3, .int .i64 0] 35) := by show Blk _ _ _ _; rw [hwr240.out]; exact blk_w4 YW239.out
            have YH240 : Hid (Blk wr240 wdhh7.heap.size #[.int .i64 ID, .bool UP, .int .i64 ROOM, .slice a237 RS.length cp237, .int .i64 F] 34) := by show Blk _ _ _ _; rw [hwr240.out]; exact blk_w4o YH239.out NEX240
            have O240 : Hid (OwnRecs wr240 wr236.heap.size wr237.heap.size (.slice a237 RS.length cp237) ps237) := by show OwnRecs _ _ _ _ _; rw [hwr240.out]; exact own_w4 O239.out YW239.out
            have L240 : Hid (Below w6.heap.size w6 wr240) := by show Below _ _ _; rw [hwr240.out]; exact bel_w4 L239.out BYW238.out
            rw [← hwr240.out]
            clear c0 cf0 c1 cf1 c2 cf2 c3 cf3
            try dsimp only
            refine hK.out _ _ (KK.out _ L240.out) (fun hHeld => ?_)
            clear hK K
            refine takeD (i := 12) (v := ?_) (some 12) rfl rfl (by kernel_rfl) (by kernel_rfl) (by kernel_rfl) (fun _ _ _ h => h) (by rfl) hHeld ?_ ?_
            rotate_left
            · intro W hSw
              try dsimp only at hSw
              go_simp
              try with_reducible rfl
            try simp only [Act.put]
            try simp only [List.setIfInBounds_toArray]
            try simp only [List.set_cons_succ]
            try simp only [List.set_cons_zero]
            refine wpAnyH_done (by kernel_rfl) ?_ _
            go_wp2_with fail
            go_meet
            case rel => exact ⟨_, _, a237, cp237, ps237, _, _, rfl, rfl, rfl, P237, hide_it ⟨L240.out, YH240.out, YW240.out, O240.out, BYH235.out, BYW238.out, Or.inl AH237.out, Or.inr ZZ237.out, LL237.out, Z240.out⟩⟩
          · go_simp
            obtain ⟨wr241, hwr241⟩ : ∃ W, Hid (W = wr236.alloc (.cells #[.int .i64 0, .int .i64 0, .int .i64 0, .int .i64 0] 35)) := ⟨_, rfl⟩
            have al241 : Below wr236.heap.size wr236 wr241 := by rw [hwr241.out]; exact alloc_below _ _
            have YWN241 : Hid (Blk wr241 wr236.heap.size #[.int .i64 0, .int .i64 0, .int .i64 0, .int .i64 0] 35) := by show Blk _ _ _ _; rw [hwr241.out]; exact Blk.new _ _ _
            have BYW241 : Hid (w6.heap.size ≤ wr236.heap.size) := L236.out.size
            have YH241 := hide_it (YH236.out.after al241)
            have V241 := hide_it (V236.out.later al241 (Nat.le_refl _))
            have L241 : Hid (Below w6.heap.size w6 wr241) := L236.out.trans (al241.mono L236.out.size)
            clear al241
            rw [← hwr241.out]
            try dsimp only
            refine hK.out _ _ (KK.out _ L241.out) (fun hHeld => ?_)
            clear hK K
            refine wpAnyH_ready (rs := [3]) (by kernel_rfl) (by simp) ?_
            refine AllReadyH.cons rfl (fun K hK => ?_) AllReadyH.nil
            go_simp
            refine (HIM.out _ wr241 V241.out FM5.out (HA.out _ (B6.out.trans (L241.out.mono B6.out.size)))).mono ?_
            rintro e wr242 ⟨a242, cp242, rfl, hm242, hb242⟩
            obtain ⟨ps242, hp242, ho242⟩ := hm242
            have P242 := hide_it hp242
            have OO242 := hide_it ho242
            have ZZ242 : Hid (wr242.heap.size ≤ wr242.heap.size) := Nat.le_refl _
            have LL242 : Hid (w6.heap.size ≤ wr241.heap.size) := L241.out.size
            have AH242 : Hid (wdhh7.heap.size < wr241.heap.size) := YH241.out.lt
            have AW242 : Hid (wr236.heap.size < wr241.heap.size) := YWN241.out.lt
            have YH242 := hide_it (YH241.out.after hb242)
            have YW242 := hide_it (YWN241.out.after hb242)
            have V242 := hide_it (V241.out.later hb242 (Nat.le_refl _))
            have L242 : Hid (Below w6.heap.size w6 wr242) := L241.out.trans (hb242.mono L241.out.size)
            clear hb242 hp242 ho242
            try dsimp only
            refine hK.out _ _ (KK.out _ L242.out) (fun hHeld => ?_)
            clear hK K
            refine takeD (i := 4) (v := ?_) (some 35) rfl rfl (by kernel_rfl) (by kernel_rfl) (by kernel_rfl) (fun _ _ _ h => h) (by rfl) hHeld ?_ ?_
            rotate_left
            · intro W hSw
              try dsimp only at hSw
              go_simp
              try with_reducible rfl
            try simp only [Act.put]
            try simp only [List.setIfInBounds_toArray]
            try simp only [List.set_cons_succ]
            try simp only [List.set_cons_zero]
            refine takeD (i := 5) (v := ?_) (some 40) rfl rfl (by kernel_rfl) (by kernel_rfl) (by kernel_rfl) (fun _ _ _ h => h) (by rfl) hHeld ?_ ?_
            rotate_left
            · intro W hSw
              try dsimp only at hSw
              go_simp
              try with_reducible rfl
            try simp only [Act.put]
            try simp only [List.setIfInBounds_toArray]
            try simp only [List.set_cons_succ]
            try simp only [List.set_cons_zero]
            refine takeD (i := 6) (v := ?_) (some 41) rfl rfl (by kernel_rfl) (by kernel_rfl) (by kernel_rfl) (fun _ _ _ h => h) (by rfl) hHeld ?_ ?_
            rotate_left
            · intro W hSw
              try dsimp only at hSw
              go_simp
              try with_reducible rfl
            try simp only [Act.put]
            try simp only [List.setIfInBounds_toArray]
            try simp only [List.set_cons_succ]
            try simp only [List.set_cons_zero]
            refine takeD (i := 7) (v := ?_) (some 42) rfl rfl (by kernel_rfl) (by kernel_rfl) (by kernel_rfl) (fun _ _ _ h => h) (by rfl) hHeld ?_ ?_
            rotate_left
            · intro W hSw
              try dsimp only at hSw
              go_simp
              try with_reducible rfl
            try simp only [Act.put]
            try simp only [List.setIfInBounds_toArray]
            try simp only [List.set_cons_succ]
            try simp only [List.set_cons_zero]
            refine wpAnyH_ready (rs := [10]) (by kernel_rfl) (by simp) ?_
            refine AllReadyH.cons rfl (fun K hK => ?_) AllReadyH.nil
            go_simp
            obtain ⟨c0, c1, c2, c3, c4⟩ := YH242.out.cells5
            have cf0 := YH242.out.free 0
            have cf1 := YH242.out.free 1
            have cf2 := YH242.out.free 2
            have cf3 := YH242.out.free 3
            have cf4 := YH242.out.free 4
            go_simp
            obtain ⟨wr243, hwr243⟩ : ∃ W, Hid (W = (((((wr242.setCell ⟨wdhh7.heap.size, 0, none⟩ (.int .i64 ID)).setCell ⟨wdhh7.heap.size, 1, none⟩ (.bool UP)).setCell ⟨wdhh7.heap.size, 2, none⟩ (.int .i64 ROOM)).setCell ⟨wdhh7.heap.size, 3, none⟩ (.slice a242 RS.length cp242)).setCell ⟨wdhh7.heap.size, 4, none⟩ (.int .i64 F))) := ⟨_, rfl⟩
            have NE243 := ne_hw YH242.out YW242.out
            have Z243 : Hid (wr242.heap.size ≤ wr243.heap.size) := Nat.le_trans ZZ242.out (Nat.le_of_eq (by rw [hwr243.out]; simp))
            have YH243 : Hid (Blk wr243 wdhh7.heap.size #[.int .i64 ID, .bool UP, .int .i64 ROOM, .slice a242 RS.length cp242, .int .i64 F] 34) := by show Blk _ _ _ _; rw [hwr243.out]; exact blk_h5 YH242.out
            have YW243 : Hid (Blk wr243 wr236.heap.size #[.int .i64 0, .int .i64 0, .int .i64 0, .int .i64 0] 35) := by show Blk _ _ _ _; rw [hwr243.out]; exact blk_h5o YW242.out (fun e => NE243 e.symm)
            have O243 : Hid (OwnRecs wr243 wr241.heap.size wr242.heap.size (.slice a242 RS.length cp242) ps242) := by show OwnRecs _ _ _ _ _; rw [hwr243.out]; exact own_h5 OO242.out YH242.out
            have L243 : Hid (Below w6.heap.size w6 wr243) := by show Below _ _ _; rw [hwr243.out]; exact bel_h5 L242.out BYH235.out
            rw [← hwr243.out]
            clear c0 cf0 c1 cf1 c2 cf2 c3 cf3 c4 cf4
            try dsimp only
            refine hK.out _ _ (KK.out _ L243.out) (fun hHeld => ?_)
            clear hK K
            refine wpAnyH_ready (rs := [11]) (by kernel_rfl) (by simp) ?_
            refine AllReadyH.cons rfl (fun K hK => ?_) AllReadyH.nil
            go_simp
            obtain ⟨c0, c1, c2, c3⟩ := YW243.out.cells4
            have cf0 := YW243.out.free 0
            have cf1 := YW243.out.free 1
            have cf2 := YW243.out.free 2
            have cf3 := YW243.out.free 3
            go_simp
            obtain ⟨wr244, hwr244⟩ : ∃ W, Hid (W = ((((wr243.setCell ⟨wr236.heap.size, 0, none⟩ (.int .i64 X1)).setCell ⟨wr236.heap.size, 1, none⟩ (.int .i64 X2)).setCell ⟨wr236.heap.size, 2, none⟩ (.int .i64 X3)).setCell ⟨wr236.heap.size, 3, none⟩ (.int .i64 0))) := ⟨_, rfl⟩
            have Z244 : Hid (wr242.heap.size ≤ wr244.heap.size) := Nat.le_trans Z243.out (Nat.le_of_eq (by rw [hwr244.out]; simp))
            have NEX244 : wdhh7.heap.size ≠ wr236.heap.size := NE243
            have YW244 : Hid (Blk wr244 wr236.heap.size #[.int .i64 X1, .int .i64 X2, .int .i64 X3, .int .i64 0] 35) := by show Blk _ _ _ _; rw [hwr244.out]; exact blk_w4 YW243.out
            have YH244 : Hid (Blk wr244 wdhh7.heap.size #[.int .i64 ID, .bool UP, .int .i64 ROOM, .slice a242 RS.length cp242, .int .i64 F] 34) := by show Blk _ _ _ _; rw [hwr244.out]; exact blk_w4o YH243.out NEX244
            have O244 : Hid (OwnRecs wr244 wr241.heap.size wr242.heap.size (.slice a242 RS.length cp242) ps242) := by show OwnRecs _ _ _ _ _; rw [hwr244.out]; exact own_w4 O243.out YW243.out
            have L244 : Hid (Below w6.heap.size w6 wr244) := by show Below _ _ _; rw [hwr244.out]; exact bel_w4 L243.out BYW241.out
            rw [← hwr244.out]
            clear c0 cf0 c1 cf1 c2 cf2 c3 cf3
            try dsimp only
            refine hK.out _ _ (KK.out _ L244.out) (fun hHeld => ?_)
            clear hK K
            refine takeD (i := 12) (v := ?_) (some 12) rfl rfl (by kernel_rfl) (by kernel_rfl) (by kernel_rfl) (fun _ _ _ h => h) (by rfl) hHeld ?_ ?_
            rotate_left
            · intro W hSw
              try dsimp only at hSw
              go_simp
              try with_reducible rfl
            try simp only [Act.put]
            try simp only [List.setIfInBounds_toArray]
            try simp only [List.set_cons_succ]
            try simp only [List.set_cons_zero]
            refine wpAnyH_done (by kernel_rfl) ?_ _
            go_wp2_with fail
            go_meet
            case rel => exact ⟨_, _, a242, cp242, ps242, _, _, rfl, rfl, rfl, P242, hide_it ⟨L244.out, YH244.out, YW244.out, O244.out, BYH235.out, BYW241.out, Or.inl AH242.out, Or.inl AW242.out, LL242.out, Z244.out⟩⟩
        · go_simp
          obtain ⟨wr245, hwr245⟩ : ∃ W, Hid (W = wr235.alloc (.cells #[.int .i64 0, .int .i64 0, .int .i64 0, .int .i64 0] 35)) := ⟨_, rfl⟩
          have al245 : Below wr235.heap.size wr235 wr245 := by rw [hwr245.out]; exact alloc_below _ _
          have YWN245 : Hid (Blk wr245 wr235.heap.size #[.int .i64 0, .int .i64 0, .int .i64 0, .int .i64 0] 35) := by show Blk _ _ _ _; rw [hwr245.out]; exact Blk.new _ _ _
          have BYW245 : Hid (w6.heap.size ≤ wr235.heap.size) := L235.out.size
          have YH245 := hide_it (YHN235.out.after al245)
          have V245 := hide_it (V235.out.later al245 (Nat.le_refl _))
          have L245 : Hid (Below w6.heap.size w6 wr245) := L235.out.trans (al245.mono L235.out.size)
          clear al245
          rw [← hwr245.out]
          try dsimp only
          refine hK.out _ _ (KK.out _ L245.out) (fun hHeld => ?_)
          clear hK K
          refine wpAnyH_ready (rs := [2]) (by kernel_rfl) (by simp) ?_
          refine AllReadyH.cons rfl (fun K hK => ?_) AllReadyH.nil
          go_simp
          refine (toWord_any k h t m wr245).mono ?_
          rintro e wr246 ⟨rfl, hb246⟩
          have YH246 := hide_it (YH245.out.after hb246)
          have YW246 := hide_it (YWN245.out.after hb246)
          have V246 := hide_it (V245.out.later hb246 (Nat.le_refl _))
          have L246 : Hid (Below w6.heap.size w6 wr246) := L245.out.trans (hb246.mono L245.out.size)
          clear hb246
          try dsimp only
          refine hK.out _ _ (KK.out _ L246.out) (fun hHeld => ?_)
          clear hK K
          refine wpAnyH_ready (rs := [3]) (by kernel_rfl) (by simp) ?_
          refine AllReadyH.cons rfl (fun K hK => ?_) AllReadyH.nil
          go_simp
          refine (HIM.out _ wr246 V246.out FM5.out (HA.out _ (B6.out.trans (L246.out.mono B6.out.size)))).mono ?_
          rintro e wr247 ⟨a247, cp247, rfl, hm247, hb247⟩
          obtain ⟨ps247, hp247, ho247⟩ := hm247
          have P247 := hide_it hp247
          have OO247 := hide_it ho247
          have ZZ247 : Hid (wr247.heap.size ≤ wr247.heap.size) := Nat.le_refl _
          have LL247 : Hid (w6.heap.size ≤ wr246.heap.size) := L246.out.size
          have AH247 : Hid (wdhh7.heap.size < wr246.heap.size) := YH246.out.lt
          have AW247 : Hid (wr235.heap.size < wr246.heap.size) := YW246.out.lt
          have YH247 := hide_it (YH246.out.after hb247)
          have YW247 := hide_it (YW246.out.after hb247)
          have V247 := hide_it (V246.out.later hb247 (Nat.le_refl _))
          have L247 : Hid (Below w6.heap.size w6 wr247) := L246.out.trans (hb247.mono L246.out.size)
          clear hb247 hp247 ho247
          try dsimp only
          refine hK.out _ _ (KK.out _ L247.out) (fun hHeld => ?_)
          clear hK K
          refine takeD (i := 4) (v := ?_) (some 35) rfl rfl (by kernel_rfl) (by kernel_rfl) (by kernel_rfl) (fun _ _ _ h => h) (by rfl) hHeld ?_ ?_
          rotate_left
          · intro W hSw
            try dsimp only at hSw
            go_simp
            try with_reducible rfl
          try simp only [Act.put]
          try simp only [List.setIfInBounds_toArray]
          try simp only [List.set_cons_succ]
          try simp only [List.set_cons_zero]
          refine takeD (i := 5) (v := ?_) (some 40) rfl rfl (by kernel_rfl) (by kernel_rfl) (by kernel_rfl) (fun _ _ _ h => h) (by rfl) hHeld ?_ ?_
          rotate_left
          · intro W hSw
            try dsimp only at hSw
            go_simp
            try with_reducible rfl
          try simp only [Act.put]
          try simp only [List.setIfInBounds_toArray]
          try simp only [List.set_cons_succ]
          try simp only [List.set_cons_zero]
          refine takeD (i := 6) (v := ?_) (some 41) rfl rfl (by kernel_rfl) (by kernel_rfl) (by kernel_rfl) (fun _ _ _ h => h) (by rfl) hHeld ?_ ?_
          rotate_left
          · intro W hSw
            try dsimp only at hSw
            go_simp
            try with_reducible rfl
          try simp only [Act.put]
          try simp only [List.setIfInBounds_toArray]
          try simp only [List.set_cons_succ]
          try simp only [List.set_cons_zero]
          refine takeD (i := 7) (v := ?_) (some 42) rfl rfl (by kernel_rfl) (by kernel_rfl) (by kernel_rfl) (fun _ _ _ h => h) (by rfl) hHeld ?_ ?_
          rotate_left
          · intro W hSw
            try dsimp only at hSw
            go_simp
            try with_reducible rfl
          try simp only [Act.put]
          try simp only [List.setIfInBounds_toArray]
          try simp only [List.set_cons_succ]
          try simp only [List.set_cons_zero]
          refine wpAnyH_ready (rs := [10]) (by kernel_rfl) (by simp) ?_
          refine AllReadyH.cons rfl (fun K hK => ?_) AllReadyH.nil
          go_simp
          obtain ⟨c0, c1, c2, c3, c4⟩ := YH247.out.cells5
          have cf0 := YH247.out.free 0
          have cf1 := YH247.out.free 1
          have cf2 := YH247.out.free 2
          have cf3 := YH247.out.free 3
          have cf4 := YH247.out.free 4
          go_simp
          obtain ⟨wr248, hwr248⟩ : ∃ W, Hid (W = (((((wr247.setCell ⟨wdhh7.heap.size, 0, none⟩ (.int .i64 ID)).setCell ⟨wdhh7.heap.size, 1, none⟩ (.bool UP)).setCell ⟨wdhh7.heap.size, 2, none⟩ (.int .i64 ROOM)).setCell ⟨wdhh7.heap.size, 3, none⟩ (.slice a247 RS.length cp247)).setCell ⟨wdhh7.heap.size, 4, none⟩ (.int .i64 F))) := ⟨_, rfl⟩
          have NE248 := ne_hw YH247.out YW247.out
          have Z248 : Hid (wr247.heap.size ≤ wr248.heap.size) := Nat.le_trans ZZ247.out (Nat.le_of_eq (by rw [hwr248.out]; simp))
          have YH248 : Hid (Blk wr248 wdhh7.heap.size #[.int .i64 ID, .bool UP, .int .i64 ROOM, .slice a247 RS.length cp247, .int .i64 F] 34) := by show Blk _ _ _ _; rw [hwr248.out]; exact blk_h5 YH247.out
          have YW248 : Hid (Blk wr248 wr235.heap.size #[.int .i64 0, .int .i64 0, .int .i64 0, .int .i64 0] 35) := by show Blk _ _ _ _; rw [hwr248.out]; exact blk_h5o YW247.out (fun e => NE248 e.symm)
          have O248 : Hid (OwnRecs wr248 wr246.heap.size wr247.heap.size (.slice a247 RS.length cp247) ps247) := by show OwnRecs _ _ _ _ _; rw [hwr248.out]; exact own_h5 OO247.out YH247.out
          have L248 : Hid (Below w6.heap.size w6 wr248) := by show Below _ _ _; rw [hwr248.out]; exact bel_h5 L247.out BYH235.out
          rw [← hwr248.out]
          clear c0 cf0 c1 cf1 c2 cf2 c3 cf3 c4 cf4
          try dsimp only
          refine hK.out _ _ (KK.out _ L248.out) (fun hHeld => ?_)
          clear hK K
          refine wpAnyH_ready (rs := [11]) (by kernel_rfl) (by simp) ?_
          refine AllReadyH.cons rfl (fun K hK => ?_) AllReadyH.nil
          go_simp
          obtain ⟨c0, c1, c2, c3⟩ := YW248.out.cells4
          have cf0 := YW248.out.free 0
          have cf1 := YW248.out.free 1
          have cf2 := YW248.out.free 2
          have cf3 := YW248.out.free 3
          go_simp
          obtain ⟨wr249, hwr249⟩ : ∃ W, Hid (W = ((((wr248.setCell ⟨wr235.heap.size, 0, none⟩ (.int .i64 X1)).setCell ⟨wr235.heap.size, 1, none⟩ (.int .i64 X2)).setCell ⟨wr235.heap.size, 2, none⟩ (.int .i64 X3)).setCell ⟨wr235.heap.size, 3, none⟩ (.int .i64 0))) := ⟨_, rfl⟩
          have Z249 : Hid (wr247.heap.size ≤ wr249.heap.size) := Nat.le_trans Z248.out (Nat.le_of_eq (by rw [hwr249.out]; simp))
          have NEX249 : wdhh7.heap.size ≠ wr235.heap.size := NE248
          have YW249 : Hid (Blk wr249 wr235.heap.size #[.int .i64 X1, .int .i64 X2, .int .i64 X3, .int .i64 0] 35) := by show Blk _ _ _ _; rw [hwr249.out]; exact blk_w4 YW248.out
          have YH249 : Hid (Blk wr249 wdhh7.heap.size #[.int .i64 ID, .bool UP, .int .i64 ROOM, .slice a247 RS.length cp247, .int .i64 F] 34) := by show Blk _ _ _ _; rw [hwr249.out]; exact blk_w4o YH248.out NEX249
          have O249 : Hid (OwnRecs wr249 wr246.heap.size wr247.heap.size (.slice a247 RS.length cp247) ps247) := by show OwnRecs _ _ _ _ _; rw [hwr249.out]; exact own_w4 O248.out YW248.out
          have L249 : Hid (Below w6.heap.size w6 wr249) := by show Below _ _ _; rw [hwr249.out]; exact bel_w4 L248.out BYW245.out
          rw [← hwr249.out]
          clear c0 cf0 c1 cf1 c2 cf2 c3 cf3
          try dsimp only
          refine hK.out _ _ (KK.out _ L249.out) (fun hHeld => ?_)
          clear hK K
          refine takeD (i := 12) (v := ?_) (some 12) rfl rfl (by kernel_rfl) (by kernel_rfl) (by kernel_rfl) (fun _ _ _ h => h) (by rfl) hHeld ?_ ?_
          rotate_left
          · intro W hSw
            try dsimp only at hSw
            go_simp
            try with_reducible rfl
          try simp only [Act.put]
          try simp only [List.setIfInBounds_toArray]
          try simp only [List.set_cons_succ]
          try simp only [List.set_cons_zero]
          refine wpAnyH_done (by kernel_rfl) ?_ _
          go_wp2_with fail
          go_meet
          case rel => exact ⟨_, _, a247, cp247, ps247, _, _, rfl, rfl, rfl, P247, hide_it ⟨L249.out, YH249.out, YW249.out, O249.out, BYH235.out, BYW245.out, Or.inl AH247.out, Or.inl AW247.out, LL247.out, Z249.out⟩⟩
      · go_simp
        obtain ⟨wr250, hwr250⟩ : ∃ W, Hid (W = wdhh7.alloc (.cells #[.int .i64 0, .int .i64 0, .int .i64 0, .int .i64 0] 35)) := ⟨_, rfl⟩
        have al250 : Below wdhh7.heap.size wdhh7 wr250 := by rw [hwr250.out]; exact alloc_below _ _
        have YWN250 : Hid (Blk wr250 wdhh7.heap.size #[.int .i64 0, .int .i64 0, .int .i64 0, .int .i64 0] 35) := by show Blk _ _ _ _; rw [hwr250.out]; exact Blk.new _ _ _
        have BYW250 : Hid (w6.heap.size ≤ wdhh7.heap.size) := Ldhh7.out.size
        have V250 := hide_it (VDhh7.out.later al250 (Nat.le_refl _))
        have L250 : Hid (Below w6.heap.size w6 wr250) := Ldhh7.out.trans (al250.mono Ldhh7.out.size)
        clear al250
        rw [← hwr250.out]
        try dsimp only
        refine hK.out _ _ (KK.out _ L250.out) (fun hHeld => ?_)
        clear hK K
        refine wpAnyH_ready (rs := [2, 8]) (by kernel_rfl) (by simp) ?_
        refine AllReadyH.cons rfl (fun K hK => ?_) (AllReadyH.cons rfl (fun K hK => ?_) AllReadyH.nil)
        · go_simp
          refine (toWord_any k h t m wr250).mono ?_
          rintro e wr251 ⟨rfl, hb251⟩
          have YW251 := hide_it (YWN250.out.after hb251)
          have V251 := hide_it (V250.out.later hb251 (Nat.le_refl _))
          have L251 : Hid (Below w6.heap.size w6 wr251) := L250.out.trans (hb251.mono L250.out.size)
          clear hb251
          try dsimp only
          refine hK.out _ _ (KK.out _ L251.out) (fun hHeld => ?_)
          clear hK K
          refine wpAnyH_ready (rs := [3, 8]) (by kernel_rfl) (by simp) ?_
          refine AllReadyH.cons rfl (fun K hK => ?_) (AllReadyH.cons rfl (fun K hK => ?_) AllReadyH.nil)
          · go_simp
            refine (HIM.out _ wr251 V251.out FM5.out (HA.out _ (B6.out.trans (L251.out.mono B6.out.size)))).mono ?_
            rintro e wr252 ⟨a252, cp252, rfl, hm252, hb252⟩
            obtain ⟨ps252, hp252, ho252⟩ := hm252
            have P252 := hide_it hp252
            have OO252 := hide_it ho252
            have ZZ252 : Hid (wr252.heap.size ≤ wr252.heap.size) := Nat.le_refl _
            have LL252 : Hid (w6.heap.size ≤ wr251.heap.size) := L251.out.size
            have AW252 : Hid (wdhh7.heap.size < wr251.heap.size) := YW251.out.lt
            have YW252 := hide_it (YW251.out.after hb252)
            have V252 := hide_it (V251.out.later hb252 (Nat.le_refl _))
            have L252 : Hid (Below w6.heap.size w6 wr252) := L251.out.trans (hb252.mono L251.out.size)
            clear hb252 hp252 ho252
            try dsimp only
            refine hK.out _ _ (KK.out _ L252.out) (fun hHeld => ?_)
            clear hK K
            refine takeD (i := 4) (v := ?_) (some 35) rfl rfl (by kernel_rfl) (by kernel_rfl) (by kernel_rfl) (fun _ _ _ h => h) (by rfl) hHeld ?_ ?_
            rotate_left
            · intro W hSw
              try dsimp only at hSw
              go_simp
              try with_reducible rfl
            try simp only [Act.put]
            try simp only [List.setIfInBounds_toArray]
            try simp only [List.set_cons_succ]
            try simp only [List.set_cons_zero]
            refine takeD (i := 5) (v := ?_) (some 40) rfl rfl (by kernel_rfl) (by kernel_rfl) (by kernel_rfl) (fun _ _ _ h => h) (by rfl) hHeld ?_ ?_
            rotate_left
            · intro W hSw
              try dsimp only at hSw
              go_simp
              try with_reducible rfl
            try simp only [Act.put]
            try simp only [List.setIfInBounds_toArray]
            try simp only [List.set_cons_succ]
            try simp only [List.set_cons_zero]
            refine takeD (i := 6) (v := ?_) (some 41) rfl rfl (by kernel_rfl) (by kernel_rfl) (by kernel_rfl) (fun _ _ _ h => h) (by rfl) hHeld ?_ ?_
            rotate_left
            · intro W hSw
              try dsimp only at hSw
              go_simp
              try with_reducible rfl
            try simp only [Act.put]
            try simp only [List.setIfInBounds_toArray]
            try simp only [List.set_cons_succ]
            try simp only [List.set_cons_zero]
            refine takeD (i := 7) (v := ?_) (some 42) rfl rfl (by kernel_rfl) (by kernel_rfl) (by kernel_rfl) (fun _ _ _ h => h) (by rfl) hHeld ?_ ?_
            rotate_left
            · intro W hSw
              try dsimp only at hSw
              go_simp
              try with_reducible rfl
            try simp only [Act.put]
            try simp only [List.setIfInBounds_toArray]
            try simp only [List.set_cons_succ]
            try simp only [List.set_cons_zero]
            refine wpAnyH_ready (rs := [8]) (by kernel_rfl) (by simp) ?_
            refine AllReadyH.cons rfl (fun K hK => ?_) AllReadyH.nil
            go_simp
            obtain ⟨wr253, hwr253⟩ : ∃ W, Hid (W = wr252.alloc (.cells #[.int .i64 0, .bool false, .int .i64 0, .slice none 0 0, .int .i64 0] 34)) := ⟨_, rfl⟩
            have al253 : Below wr252.heap.size wr252 wr253 := by rw [hwr253.out]; exact alloc_below _ _
            have YHN253 : Hid (Blk wr253 wr252.heap.size #[.int .i64 0, .bool false, .int .i64 0, .slice none 0 0, .int .i64 0] 34) := by show Blk _ _ _ _; rw [hwr253.out]; exact Blk.new _ _ _
            have BYH253 : Hid (w6.heap.size ≤ wr252.heap.size) := L252.out.size
            have YW253 := hide_it (YW252.out.after al253)
            have V253 := hide_it (V252.out.later al253 (Nat.le_refl _))
            have O253 := hide_it (OO252.out.below al253 ZZ252.out)
            have Z253 : Hid (wr252.heap.size ≤ wr253.heap.size) := Nat.le_trans ZZ252.out al253.size
            have L253 : Hid (Below w6.heap.size w6 wr253) := L252.out.trans (al253.mono L252.out.size)
            clear al253
            rw [← hwr253.out]
            try dsimp only
            refine hK.out _ _ (KK.out _ L253.out) (fun hHeld => ?_)
            clear hK K
            refine wpAnyH_ready (rs := [10]) (by kernel_rfl) (by simp) ?_
            refine AllReadyH.cons rfl (fun K hK => ?_) AllReadyH.nil
            go_simp
            obtain ⟨c0, c1, c2, c3, c4⟩ := YHN253.out.cells5
            have cf0 := YHN253.out.free 0
            have cf1 := YHN253.out.free 1
            have cf2 := YHN253.out.free 2
            have cf3 := YHN253.out.free 3
            have cf4 := YHN253.out.free 4
            go_simp
            obtain ⟨wr254, hwr254⟩ : ∃ W, Hid (W = (((((wr253.setCell ⟨wr252.heap.size, 0, none⟩ (.int .i64 ID)).setCell ⟨wr252.heap.size, 1, none⟩ (.bool UP)).setCell ⟨wr252.heap.size, 2, none⟩ (.int .i64 ROOM)).setCell ⟨wr252.heap.size, 3, none⟩ (.slice a252 RS.length cp252)).setCell ⟨wr252.heap.size, 4, none⟩ (.int .i64 F))) := ⟨_, rfl⟩
            have NE254 := ne_hw YHN253.out YW253.out
            have Z254 : Hid (wr252.heap.size ≤ wr254.heap.size) := Nat.le_trans Z253.out (Nat.le_of_eq (by rw [hwr254.out]; simp))
            have YH254 : Hid (Blk wr254 wr252.heap.size #[.int .i64 ID, .bool UP, .int .i64 ROOM, .slice a252 RS.length cp252, .int .i64 F] 34) := by show Blk _ _ _ _; rw [hwr254.out]; exact blk_h5 YHN253.out
            have YW254 : Hid (Blk wr254 wdhh7.heap.size #[.int .i64 0, .int .i64 0, .int .i64 0, .int .i64 0] 35) := by show Blk _ _ _ _; rw [hwr254.out]; exact blk_h5o YW253.out (fun e => NE254 e.symm)
            have O254 : Hid (OwnRecs wr254 wr251.heap.size wr252.heap.size (.slice a252 RS.length cp252) ps252) := by show OwnRecs _ _ _ _ _; rw [hwr254.out]; exact own_h5 O253.out YHN253.out
            have L254 : Hid (Below w6.heap.size w6 wr254) := by show Below _ _ _; rw [hwr254.out]; exact bel_h5 L253.out BYH253.out
            rw [← hwr254.out]
            clear c0 cf0 c1 cf1 c2 cf2 c3 cf3 c4 cf4
            try dsimp only
            refine hK.out _ _ (KK.out _ L254.out) (fun hHeld => ?_)
            clear hK K
            refine wpAnyH_ready (rs := [11]) (by kernel_rfl) (by simp) ?_
            refine AllReadyH.cons rfl (fun K hK => ?_) AllReadyH.nil
            go_simp
            obtain ⟨c0, c1, c2, c3⟩ := YW254.out.cells4
            have cf0 := YW254.out.free 0
            have cf1 := YW254.out.free 1
            have cf2 := YW254.out.free 2
            have cf3 := YW254.out.free 3
            go_simp
            obtain ⟨wr255, hwr255⟩ : ∃ W, Hid (W = ((((wr254.setCell ⟨wdhh7.heap.size, 0, none⟩ (.int .i64 X1)).setCell ⟨wdhh7.heap.size, 1, none⟩ (.int .i64 X2)).setCell ⟨wdhh7.heap.size, 2, none⟩ (.int .i64 X3)).setCell ⟨wdhh7.heap.size, 3, none⟩ (.int .i64 0))) := ⟨_, rfl⟩
            have Z255 : Hid (wr252.heap.size ≤ wr255.heap.size) := Nat.le_trans Z254.out (Nat.le_of_eq (by rw [hwr255.out]; simp))
            have NEX255 : wr252.heap.size ≠ wdhh7.heap.size := NE254
            have YW255 : Hid (Blk wr255 wdhh7.heap.size #[.int .i64 X1, .int .i64 X2, .int .i64 X3, .int .i64 0] 35) := by show Blk _ _ _ _; rw [hwr255.out]; exact blk_w4 YW254.out
            have YH255 : Hid (Blk wr255 wr252.heap.size #[.int .i64 ID, .bool UP, .int .i64 ROOM, .slice a252 RS.length cp252, .int .i64 F] 34) := by show Blk _ _ _ _; rw [hwr255.out]; exact blk_w4o YH254.out NEX255
            have O255 : Hid (OwnRecs wr255 wr251.heap.size wr252.heap.size (.slice a252 RS.length cp252) ps252) := by show OwnRecs _ _ _ _ _; rw [hwr255.out]; exact own_w4 O254.out YW254.out
            have L255 : Hid (Below w6.heap.size w6 wr255) := by show Below _ _ _; rw [hwr255.out]; exact bel_w4 L254.out BYW250.out
            rw [← hwr255.out]
            clear c0 cf0 c1 cf1 c2 cf2 c3 cf3
            try dsimp only
            refine hK.out _ _ (KK.out _ L255.out) (fun hHeld => ?_)
            clear hK K
            refine takeD (i := 12) (v := ?_) (some 12) rfl rfl (by kernel_rfl) (by kernel_rfl) (by kernel_rfl) (fun _ _ _ h => h) (by rfl) hHeld ?_ ?_
            rotate_left
            · intro W hSw
              try dsimp only at hSw
              go_simp
              try with_reducible rfl
            try simp only [Act.put]
            try simp only [List.setIfInBounds_toArray]
            try simp only [List.set_cons_succ]
            try simp only [List.set_cons_zero]
            refine wpAnyH_done (by kernel_rfl) ?_ _
            go_wp2_with fail
            go_meet
            case rel => exact ⟨_, _, a252, cp252, ps252, _, _, rfl, rfl, rfl, P252, hide_it ⟨L255.out, YH255.out, YW255.out, O255.out, BYH253.out, BYW250.out, Or.inr ZZ252.out, Or.inl AW252.out, LL252.out, Z255.out⟩⟩
          · go_simp
            obtain ⟨wr256, hwr256⟩ : ∃ W, Hid (W = wr251.alloc (.cells #[.int .i64 0, .bool false, .int .i64 0, .slice none 0 0, .int .i64 0] 34)) := ⟨_, rfl⟩
            have al256 : Below wr251.heap.size wr251 wr256 := by rw [hwr256.out]; exact alloc_below _ _
            have YHN256 : Hid (Blk wr256 wr251.heap.size #[.int .i64 0, .bool false, .int .i64 0, .slice none 0 0, .int .i64 0] 34) := by show Blk _ _ _ _; rw [hwr256.out]; exact Blk.new _ _ _
            have BYH256 : Hid (w6.heap.size ≤ wr251.heap.size) := L251.out.size
            have YW256 := hide_it (YW251.out.after al256)
            have V256 := hide_it (V251.out.later al256 (Nat.le_refl _))
            have L256 : Hid (Below w6.heap.size w6 wr256) := L251.out.trans (al256.mono L251.out.size)
            clear al256
            rw [← hwr256.out]
            try dsimp only
            refine hK.out _ _ (KK.out _ L256.out) (fun hHeld => ?_)
            clear hK K
            refine wpAnyH_ready (rs := [3]) (by kernel_rfl) (by simp) ?_
            refine AllReadyH.cons rfl (fun K hK => ?_) AllReadyH.nil
            go_simp
            refine (HIM.out _ wr256 V256.out FM5.out (HA.out _ (B6.out.trans (L256.out.mono B6.out.size)))).mono ?_
            rintro e wr257 ⟨a257, cp257, rfl, hm257, hb257⟩
            obtain ⟨ps257, hp257, ho257⟩ := hm257
            have P257 := hide_it hp257
            have OO257 := hide_it ho257
            have ZZ257 : Hid (wr257.heap.size ≤ wr257.heap.size) := Nat.le_refl _
            have LL257 : Hid (w6.heap.size ≤ wr256.heap.size) := L256.out.size
            have AH257 : Hid (wr251.heap.size < wr256.heap.size) := YHN256.out.lt
            have AW257 : Hid (wdhh7.heap.size < wr256.heap.size) := YW256.out.lt
            have YH257 := hide_it (YHN256.out.after hb257)
            have YW257 := hide_it (YW256.out.after hb257)
            have V257 := hide_it (V256.out.later hb257 (Nat.le_refl _))
            have L257 : Hid (Below w6.heap.size w6 wr257) := L256.out.trans (hb257.mono L256.out.size)
            clear hb257 hp257 ho257
            try dsimp only
            refine hK.out _ _ (KK.out _ L257.out) (fun hHeld => ?_)
            clear hK K
            refine takeD (i := 4) (v := ?_) (some 35) rfl rfl (by kernel_rfl) (by kernel_rfl) (by kernel_rfl) (fun _ _ _ h => h) (by rfl) hHeld ?_ ?_
            rotate_left
            · intro W hSw
              try dsimp only at hSw
              go_simp
              try with_reducible rfl
            try simp only [Act.put]
            try simp only [List.setIfInBounds_toArray]
            try simp only [List.set_cons_succ]
            try simp only [List.set_cons_zero]
            refine takeD (i := 5) (v := ?_) (some 40) rfl rfl (by kernel_rfl) (by kernel_rfl) (by kernel_rfl) (fun _ _ _ h => h) (by rfl) hHeld ?_ ?_
            rotate_left
            · intro W hSw
              try dsimp only at hSw
              go_simp
              try with_reducible rfl
            try simp only [Act.put]
            try simp only [List.setIfInBounds_toArray]
            try simp only [List.set_cons_succ]
            try simp only [List.set_cons_zero]
            refine takeD (i := 6) (v := ?_) (some 41) rfl rfl (by kernel_rfl) (by kernel_rfl) (by kernel_rfl) (fun _ _ _ h => h) (by rfl) hHeld ?_ ?_
            rotate_left
            · intro W hSw
              try dsimp only at hSw
              go_simp
              try with_reducible rfl
            try simp only [Act.put]
            try simp only [List.setIfInBounds_toArray]
            try simp only [List.set_cons_succ]
            try simp only [List.set_cons_zero]
            refine takeD (i := 7) (v := ?_) (some 42) rfl rfl (by kernel_rfl) (by kernel_rfl) (by kernel_rfl) (fun _ _ _ h => h) (by rfl) hHeld ?_ ?_
            rotate_left
            · intro W hSw
              try dsimp only at hSw
              go_simp
              try with_reducible rfl
            try simp only [Act.put]
            try simp only [List.setIfInBounds_toArray]
            try simp only [List.set_cons_succ]
            try simp only [List.set_cons_zero]
            refine wpAnyH_ready (rs := [10]) (by kernel_rfl) (by simp) ?_
            refine AllReadyH.cons rfl (fun K hK => ?_) AllReadyH.nil
            go_simp
            obtain ⟨c0, c1, c2, c3, c4⟩ := YH257.out.cells5
            have cf0 := YH257.out.free 0
            have cf1 := YH257.out.free 1
            have cf2 := YH257.out.free 2
            have cf3 := YH257.out.free 3
            have cf4 := YH257.out.free 4
            go_simp
            obtain ⟨wr258, hwr258⟩ : ∃ W, Hid (W = (((((wr257.setCell ⟨wr251.heap.size, 0, none⟩ (.int .i64 ID)).setCell ⟨wr251.heap.size, 1, none⟩ (.bool UP)).setCell ⟨wr251.heap.size, 2, none⟩ (.int .i64 ROOM)).setCell ⟨wr251.heap.size, 3, none⟩ (.slice a257 RS.length cp257)).setCell ⟨wr251.heap.size, 4, none⟩ (.int .i64 F))) := ⟨_, rfl⟩
            have NE258 := ne_hw YH257.out YW257.out
            have Z258 : Hid (wr257.heap.size ≤ wr258.heap.size) := Nat.le_trans ZZ257.out (Nat.le_of_eq (by rw [hwr258.out]; simp))
            have YH258 : Hid (Blk wr258 wr251.heap.size #[.int .i64 ID, .bool UP, .int .i64 ROOM, .slice a257 RS.length cp257, .int .i64 F] 34) := by show Blk _ _ _ _; rw [hwr258.out]; exact blk_h5 YH257.out
            have YW258 : Hid (Blk wr258 wdhh7.heap.size #[.int .i64 0, .int .i64 0, .int .i64 0, .int .i64 0] 35) := by show Blk _ _ _ _; rw [hwr258.out]; exact blk_h5o YW257.out (fun e => NE258 e.symm)
            have O258 : Hid (OwnRecs wr258 wr256.heap.size wr257.heap.size (.slice a257 RS.length cp257) ps257) := by show OwnRecs _ _ _ _ _; rw [hwr258.out]; exact own_h5 OO257.out YH257.out
            have L258 : Hid (Below w6.heap.size w6 wr258) := by show Below _ _ _; rw [hwr258.out]; exact bel_h5 L257.out BYH256.out
            rw [← hwr258.out]
            clear c0 cf0 c1 cf1 c2 cf2 c3 cf3 c4 cf4
            try dsimp only
            refine hK.out _ _ (KK.out _ L258.out) (fun hHeld => ?_)
            clear hK K
            refine wpAnyH_ready (rs := [11]) (by kernel_rfl) (by simp) ?_
            refine AllReadyH.cons rfl (fun K hK => ?_) AllReadyH.nil
            go_simp
            obtain ⟨c0, c1, c2, c3⟩ := YW258.out.cells4
            have cf0 := YW258.out.free 0
            have cf1 := YW258.out.free 1
            have cf2 := YW258.out.free 2
            have cf3 := YW258.out.free 3
            go_simp
            obtain ⟨wr259, hwr259⟩ : ∃ W, Hid (W = ((((wr258.setCell ⟨wdhh7.heap.size, 0, none⟩ (.int .i64 X1)).setCell ⟨wdhh7.heap.size, 1, none⟩ (.int .i64 X2)).setCell ⟨wdhh7.heap.size, 2, none⟩ (.int .i64 X3)).setCell ⟨wdhh7.heap.size, 3, none⟩ (.int .i64 0))) := ⟨_, rfl⟩
            have Z259 : Hid (wr257.heap.size ≤ wr259.heap.size) := Nat.le_trans Z258.out (Nat.le_of_eq (by rw [hwr259.out]; simp))
            have NEX259 : wr251.heap.size ≠ wdhh7.heap.size := NE258
            have YW259 : Hid (Blk wr259 wdhh7.heap.size #[.int .i64 X1, .int .i64 X2, .int .i64 X3, .int .i64 0] 35) := by show Blk _ _ _ _; rw [hwr259.out]; exact blk_w4 YW258.out
            have YH259 : Hid (Blk wr259 wr251.heap.size #[.int .i64 ID, .bool UP, .int .i64 ROOM, .slice a257 RS.length cp257, .int .i64 F] 34) := by show Blk _ _ _ _; rw [hwr259.out]; exact blk_w4o YH258.out NEX259
            have O259 : Hid (OwnRecs wr259 wr256.heap.size wr257.heap.size (.slice a257 RS.length cp257) ps257) := by show OwnRecs _ _ _ _ _; rw [hwr259.out]; exact own_w4 O258.out YW258.out
            have L259 : Hid (Below w6.heap.size w6 wr259) := by show Below _ _ _; rw [hwr259.out]; exact bel_w4 L258.out BYW250.out
            rw [← hwr259.out]
            clear c0 cf0 c1 cf1 c2 cf2 c3 cf3
            try dsimp only
            refine hK.out _ _ (KK.out _ L259.out) (fun hHeld => ?_)
            clear hK K
            refine takeD (i := 12) (v := ?_) (some 12) rfl rfl (by kernel_rfl) (by kernel_rfl) (by kernel_rfl) (fun _ _ _ h => h) (by rfl) hHeld ?_ ?_
            rotate_left
            · intro W hSw
              try dsimp only at hSw
              go_simp
              try with_reducible rfl
            try simp only [Act.put]
            try simp only [List.setIfInBounds_toArray]
            try simp only [List.set_cons_succ]
            try simp only [List.set_cons_zero]
            refine wpAnyH_done (by kernel_rfl) ?_ _
            go_wp2_with fail
            go_meet
            case rel => exact ⟨_, _, a257, cp257, ps257, _, _, rfl, rfl, rfl, P257, hide_it ⟨L259.out, YH259.out, YW259.out, O259.out, BYH256.out, BYW250.out, Or.inl AH257.out, Or.inl AW257.out, LL257.out, Z259.out⟩⟩
        · go_simp
          obtain ⟨wr260, hwr260⟩ : ∃ W, Hid (W = wr250.alloc (.cells #[.int .i64 0, .bool false, .int .i64 0, .slice none 0 0, .int .i64 0] 34)) := ⟨_, rfl⟩
          have al260 : Below wr250.heap.size wr250 wr260 := by rw [hwr260.out]; exact alloc_below _ _
          have YHN260 : Hid (Blk wr260 wr250.heap.size #[.int .i64 0, .bool false, .int .i64 0, .slice none 0 0, .int .i64 0] 34) := by show Blk _ _ _ _; rw [hwr260.out]; exact Blk.new _ _ _
          have BYH260 : Hid (w6.heap.size ≤ wr250.heap.size) := L250.out.size
          have YW260 := hide_it (YWN250.out.after al260)
          have V260 := hide_it (V250.out.later al260 (Nat.le_refl _))
          have L260 : Hid (Below w6.heap.size w6 wr260) := L250.out.trans (al260.mono L250.out.size)
          clear al260
          rw [← hwr260.out]
          try dsimp only
          refine hK.out _ _ (KK.out _ L260.out) (fun hHeld => ?_)
          clear hK K
          refine wpAnyH_ready (rs := [2]) (by kernel_rfl) (by simp) ?_
          refine AllReadyH.cons rfl (fun K hK => ?_) AllReadyH.nil
          go_simp
          refine (toWord_any k h t m wr260).mono ?_
          rintro e wr261 ⟨rfl, hb261⟩
          have YH261 := hide_it (YHN260.out.after hb261)
          have YW261 := hide_it (YW260.out.after hb261)
          have V261 := hide_it (V260.out.later hb261 (Nat.le_refl _))
          have L261 : Hid (Below w6.heap.size w6 wr261) := L260.out.trans (hb261.mono L260.out.size)
          clear hb261
          try dsimp only
          refine hK.out _ _ (KK.out _ L261.out) (fun hHeld => ?_)
          clear hK K
          refine wpAnyH_ready (rs := [3]) (by kernel_rfl) (by simp) ?_
          refine AllReadyH.cons rfl (fun K hK => ?_) AllReadyH.nil
          go_simp
          refine (HIM.out _ wr261 V261.out FM5.out (HA.out _ (B6.out.trans (L261.out.mono B6.out.size)))).mono ?_
          rintro e wr262 ⟨a262, cp262, rfl, hm262, hb262⟩
          obtain ⟨ps262, hp262, ho262⟩ := hm262
          have P262 := hide_it hp262
          have OO262 := hide_it ho262
          have ZZ262 : Hid (wr262.heap.size ≤ wr262.heap.size) := Nat.le_refl _
          have LL262 : Hid (w6.heap.size ≤ wr261.heap.size) := L261.out.size
          have AH262 : Hid (wr250.heap.size < wr261.heap.size) := YH261.out.lt
          have AW262 : Hid (wdhh7.heap.size < wr261.heap.size) := YW261.out.lt
          have YH262 := hide_it (YH261.out.after hb262)
          have YW262 := hide_it (YW261.out.after hb262)
          have V262 := hide_it (V261.out.later hb262 (Nat.le_refl _))
          have L262 : Hid (Below w6.heap.size w6 wr262) := L261.out.trans (hb262.mono L261.out.size)
          clear hb262 hp262 ho262
          try dsimp only
          refine hK.out _ _ (KK.out _ L262.out) (fun hHeld => ?_)
          clear hK K
          refine takeD (i := 4) (v := ?_) (some 35) rfl rfl (by kernel_rfl) (by kernel_rfl) (by kernel_rfl) (fun _ _ _ h => h) (by rfl) hHeld ?_ ?_
          rotate_left
          · intro W hSw
            try dsimp only at hSw
            go_simp
            try with_reducible rfl
          try simp only [Act.put]
          try simp only [List.setIfInBounds_toArray]
          try simp only [List.set_cons_succ]
          try simp only [List.set_cons_zero]
          refine takeD (i := 5) (v := ?_) (some 40) rfl rfl (by kernel_rfl) (by kernel_rfl) (by kernel_rfl) (fun _ _ _ h => h) (by rfl) hHeld ?_ ?_
          rotate_left
          · intro W hSw
            try dsimp only at hSw
            go_simp
            try with_reducible rfl
          try simp only [Act.put]
          try simp only [List.setIfInBounds_toArray]
          try simp only [List.set_cons_succ]
          try simp only [List.set_cons_zero]
          refine takeD (i := 6) (v := ?_) (some 41) rfl rfl (by kernel_rfl) (by kernel_rfl) (by kernel_rfl) (fun _ _ _ h => h) (by rfl) hHeld ?_ ?_
          rotate_left
          · intro W hSw
            try dsimp only at hSw
            go_simp
            try with_reducible rfl
          try simp only [Act.put]
          try simp only [List.setIfInBounds_toArray]
          try simp only [List.set_cons_succ]
          try simp only [List.set_cons_zero]
          refine takeD (i := 7) (v := ?_) (some 42) rfl rfl (by kernel_rfl) (by kernel_rfl) (by kernel_rfl) (fun _ _ _ h => h) (by rfl) hHeld ?_ ?_
          rotate_left
          · intro W hSw
            try dsimp only at hSw
            go_simp
            try with_reducible rfl
          try simp only [Act.put]
          try simp only [List.setIfInBounds_toArray]
          try simp only [List.set_cons_succ]
          try simp only [List.set_cons_zero]
          refine wpAnyH_ready (rs := [10]) (by kernel_rfl) (by simp) ?_
          refine AllReadyH.cons rfl (fun K hK => ?_) AllReadyH.nil
          go_simp
          obtain ⟨c0, c1, c2, c3, c4⟩ := YH262.out.cells5
          have cf0 := YH262.out.free 0
          have cf1 := YH262.out.free 1
          have cf2 := YH262.out.free 2
          have cf3 := YH262.out.free 3
          have cf4 := YH262.out.free 4
          go_simp
          obtain ⟨wr263, hwr263⟩ : ∃ W, Hid (W = (((((wr262.setCell ⟨wr250.heap.size, 0, none⟩ (.int .i64 ID)).setCell ⟨wr250.heap.size, 1, none⟩ (.bool UP)).setCell ⟨wr250.heap.size, 2, none⟩ (.int .i64 ROOM)).setCell ⟨wr250.heap.size, 3, none⟩ (.slice a262 RS.length cp262)).setCell ⟨wr250.heap.size, 4, none⟩ (.int .i64 F))) := ⟨_, rfl⟩
          have NE263 := ne_hw YH262.out YW262.out
          have Z263 : Hid (wr262.heap.size ≤ wr263.heap.size) := Nat.le_trans ZZ262.out (Nat.le_of_eq (by rw [hwr263.out]; simp))
          have YH263 : Hid (Blk wr263 wr250.heap.size #[.int .i64 ID, .bool UP, .int .i64 ROOM, .slice a262 RS.length cp262, .int .i64 F] 34) := by show Blk _ _ _ _; rw [hwr263.out]; exact blk_h5 YH262.out
          have YW263 : Hid (Blk wr263 wdhh7.heap.size #[.int .i64 0, .int .i64 0, .int .i64 0, .int .i64 0] 35) := by show Blk _ _ _ _; rw [hwr263.out]; exact blk_h5o YW262.out (fun e => NE263 e.symm)
          have O263 : Hid (OwnRecs wr263 wr261.heap.size wr262.heap.size (.slice a262 RS.length cp262) ps262) := by show OwnRecs _ _ _ _ _; rw [hwr263.out]; exact own_h5 OO262.out YH262.out
          have L263 : Hid (Below w6.heap.size w6 wr263) := by show Below _ _ _; rw [hwr263.out]; exact bel_h5 L262.out BYH260.out
          rw [← hwr263.out]
          clear c0 cf0 c1 cf1 c2 cf2 c3 cf3 c4 cf4
          try dsimp only
          refine hK.out _ _ (KK.out _ L263.out) (fun hHeld => ?_)
          clear hK K
          refine wpAnyH_ready (rs := [11]) (by kernel_rfl) (by simp) ?_
          refine AllReadyH.cons rfl (fun K hK => ?_) AllReadyH.nil
          go_simp
          obtain ⟨c0, c1, c2, c3⟩ := YW263.out.cells4
          have cf0 := YW263.out.free 0
          have cf1 := YW263.out.free 1
          have cf2 := YW263.out.free 2
          have cf3 := YW263.out.free 3
          go_simp
          obtain ⟨wr264, hwr264⟩ : ∃ W, Hid (W = ((((wr263.setCell ⟨wdhh7.heap.size, 0, none⟩ (.int .i64 X1)).setCell ⟨wdhh7.heap.size, 1, none⟩ (.int .i64 X2)).setCell ⟨wdhh7.heap.size, 2, none⟩ (.int .i64 X3)).setCell ⟨wdhh7.heap.size, 3, none⟩ (.int .i64 0))) := ⟨_, rfl⟩
          have Z264 : Hid (wr262.heap.size ≤ wr264.heap.size) := Nat.le_trans Z263.out (Nat.le_of_eq (by rw [hwr264.out]; simp))
          have NEX264 : wr250.heap.size ≠ wdhh7.heap.size := NE263
          have YW264 : Hid (Blk wr264 wdhh7.heap.size #[.int .i64 X1, .int .i64 X2, .int .i64 X3, .int .i64 0] 35) := by show Blk _ _ _ _; rw [hwr264.out]; exact blk_w4 YW263.out
          have YH264 : Hid (Blk wr264 wr250.heap.size #[.int .i64 ID, .bool UP, .int .i64 ROOM, .slice a262 RS.length cp262, .int .i64 F] 34) := by show Blk _ _ _ _; rw [hwr264.out]; exact blk_w4o YH263.out NEX264
          have O264 : Hid (OwnRecs wr264 wr261.heap.size wr262.heap.size (.slice a262 RS.length cp262) ps262) := by show OwnRecs _ _ _ _ _; rw [hwr264.out]; exact own_w4 O263.out YW263.out
          have L264 : Hid (Below w6.heap.size w6 wr264) := by show Below _ _ _; rw [hwr264.out]; exact bel_w4 L263.out BYW250.out
          rw [← hwr264.out]
          clear c0 cf0 c1 cf1 c2 cf2 c3 cf3
          try dsimp only
          refine hK.out _ _ (KK.out _ L264.out) (fun hHeld => ?_)
          clear hK K
          refine takeD (i := 12) (v := ?_) (some 12) rfl rfl (by kernel_rfl) (by kernel_rfl) (by kernel_rfl) (fun _ _ _ h => h) (by rfl) hHeld ?_ ?_
          rotate_left
          · intro W hSw
            try dsimp only at hSw
            go_simp
            try with_reducible rfl
          try simp only [Act.put]
          try simp only [List.setIfInBounds_toArray]
          try simp only [List.set_cons_succ]
          try simp only [List.set_cons_zero]
          refine wpAnyH_done (by kernel_rfl) ?_ _
          go_wp2_with fail
          go_meet
          case rel => exact ⟨_, _, a262, cp262, ps262, _, _, rfl, rfl, rfl, P262, hide_it ⟨L264.out, YH264.out, YW264.out, O264.out, BYH260.out, BYW250.out, Or.inl AH262.out, Or.inl AW262.out, LL262.out, Z264.out⟩⟩
    case rest =>
      obtain ⟨bg, bv, a7, cap7, ps7, lo7, hi7, rfl, rfl, rfl, HP7, M7⟩ := hcut
      rename World => w8
      have E8 := hide_it (E6.out.trans (M7.out.be.mono E6.out.size))
      have HH7 := hide_it (show w6.heap.size ≤ bg ∧ w6.heap.size ≤ bv ∧ w6.heap.size ≤ lo7 ∧ hi7 ≤ w8.heap.size ∧ w6.heap.size ≤ w8.heap.size from ⟨M7.out.hh, M7.out.hw, M7.out.hl, M7.out.hz, M7.out.be.size⟩)
      have AG7 := hide_it M7.out.ah
      have AV7 := hide_it M7.out.aw
      have O8 := hide_it M7.out.ow
      have O8x := hide_it (O6.out.below M7.out.be (by have := HS6.out; omega))
      have X8 := hide_it (X6.out.after M7.out.be)
      have G8 := hide_it M7.out.ho
      have U8 := hide_it M7.out.wo
      have R8 : Hid (Recs w8 (.slice a7 RS.length cap7) RS) := by
        have := O8.out.recs; rw [HP7.out] at this; exact this
      have V8 := hide_it (V4.out.later E8.out (Nat.le_refl _))
      have Z8 := hide_it (Z4.out.after E8.out)
      have Q8 := hide_it (Q4.out.after E8.out)
      clear M7 KK
      obtain ⟨g0, g1, g2, g3, g4⟩ := G8.out.cells5
      obtain ⟨z0, z1, z2, z3, z4⟩ := Z8.out.cells5
      go_wp2_with fail
      refine (eqHouse_any ID UP ROOM _ _ RS F w8 R8.out V8.out hRl).mono ?_
      rintro e w8a ⟨rfl, hba⟩
      have Ea := hide_it hba
      clear hba g0 g1 g2 g3 g4 z0 z1 z2 z3 z4
      obtain ⟨u0, u1, u2, u3⟩ := (U8.out.after Ea.out).cells4
      obtain ⟨q0, q1, q2, q3⟩ := (Q8.out.after Ea.out).cells4
      go_wp2_with fail
      refine (eqWord_sameH X1 X2 X3 0 w8a).mono ?_
      rintro e w9 ⟨rfl, hb9⟩
      have L9 := hide_it (Ea.out.trans (hb9.mono Ea.out.size))
      clear hb9 u0 u1 u2 u3 q0 q1 q2 q3 Ea
      have HS9 := hide_it L9.out.size
      have E9 := hide_it (E8.out.trans (L9.out.mono E8.out.size))
      have O9 := hide_it (O8.out.below L9.out (by have := HH7.out; omega))
      have O9x := hide_it (O8x.out.below L9.out (by have := HH7.out; have := HS6.out; omega))
      have X9 := hide_it (X8.out.after L9.out)
      have G9 := hide_it (G8.out.after L9.out)
      have U9 := hide_it (U8.out.after L9.out)
      have T9 := hide_it (T4.out.after E9.out)
      have hz9 : w.heap.size ≤ w9.heap.size := Nat.le_trans hz4 E9.out.size
      have B9 := hide_it (B4.out.trans (E9.out.mono hz4))
      have R9x : Hid (Recs w9 (.slice a5 rs.length cap5) rs) := by
        have := O9x.out.recs; rw [HP5.out] at this; exact this
      obtain ⟨c0, c1, c2, c3, c4⟩ := T9.out.cells5
      obtain ⟨x0, x1, x2, x3, x4⟩ := X9.out.cells5
      go_wp2_with fail
      go_region_held (fun w' => (w'.cell? ⟨w5.heap.size, 0, none⟩ = some (.int .i64 id) ∧ w'.cell? ⟨w5.heap.size, 1, none⟩ = some (.bool up) ∧ w'.cell? ⟨w5.heap.size, 2, none⟩ = some (.int .i64 room) ∧ w'.cell? ⟨w5.heap.size, 3, none⟩ = some (.slice a5 rs.length cap5) ∧ w'.cell? ⟨w5.heap.size, 4, none⟩ = some (.int .i64 f)) ∧ (w'.cell? ⟨w.heap.size, 0, none⟩ = some (.int .i64 id) ∧ w'.cell? ⟨w.heap.size, 1, none⟩ = some (.bool up) ∧ w'.cell? ⟨w.heap.size, 2, none⟩ = some (.int .i64 room) ∧ w'.cell? ⟨w.heap.size, 3, none⟩ = some (.slice av rs.length cv) ∧ w'.cell? ⟨w.heap.size, 4, none⟩ = some (.int .i64 f))) (go_keep)
        (first
        | (go_at_call 10; refine (toHouse_any id up room _ rs f _ ?_ hl).mono ?_; exact (HV.out _ B9.out.drew); rintro e w10 ⟨a10, cap10, rfl, hm10, hb10⟩; have hb10' := (Below.refl w9.heap.size w9).drew.trans hb10; have L10 := hide_it hb10'; have y10 := R9x.out.later hb10' (Nat.le_refl _); have v10 := hm10.recs; obtain ⟨x100, x101, x102, x103, x104⟩ := (X9.out.after hb10').cells5; obtain ⟨c100, c101, c102, c103, c104⟩ := (T9.out.after hb10').cells5; clear hb10 hb10' hm10)
        | (go_at_call 13; refine (eqHouse_any id up room _ _ rs f _ ?_ ?_ hl).mono ?_; assumption; assumption; rintro e w11 ⟨rfl, hb11⟩; have L11 := hide_it (L10.out.trans (hb11.mono L10.out.size)); obtain ⟨x110, x111, x112, x113, x114⟩ := (X9.out.after L11.out).cells5; obtain ⟨c110, c111, c112, c113, c114⟩ := (T9.out.after L11.out).cells5; clear hb11))
      clear c0 c1 c2 c3 c4 x0 x1 x2 x3 x4
      -- x0 is marked
      have hl5 : ps5.length = rs.length := by have := congrArg List.length HP5.out; simpa using this
      have hl7 : ps7.length = RS.length := by have := congrArg List.length HP7.out; simpa using this
      have HL5 := hide_it hl5
      have HL7 := hide_it hl7
      have SZ := hide_it (show w5.heap.size + 1 = w6.heap.size ∧ w4.heap.size ≤ w5.heap.size ∧ w6.heap.size ≤ bg ∧ w6.heap.size ≤ bv ∧ w6.heap.size ≤ lo7 ∧ hi7 ≤ w8.heap.size ∧ w8.heap.size ≤ w9.heap.size from ⟨HS6.out.symm, E5.out.size, HH7.out.1, HH7.out.2.1, HH7.out.2.2.1, HH7.out.2.2.2.1, HS9.out⟩)
      clear hl5 hl7
      have E11 := hide_it (E9.out.trans (L11.out.mono E9.out.size))
      have O11x := hide_it (O9x.out.below L11.out (by have := SZ.out; have := HH7.out; omega))
      have O11 := hide_it (O9.out.below L11.out (by have := SZ.out; omega))
      have G11 := hide_it (G9.out.after L11.out)
      have U11 := hide_it (U9.out.after L11.out)
      have hmk : Calls Tryz.prog 15 #[houseV id up room (.slice a5 rs.length cap5) f, .int .i64 1] w11 fun e w' => e = .returned (.int .i64 (kAt rs 1 rs.length)) ∧ Mid w4.heap.size w5.heap.size w11 w' := by
        have h := markHouse_any id up room (.slice a5 rs.length cap5) ps5 f 1 w4.heap.size w5.heap.size w11 O11x.out (by rw [HP5.out]; exact hl) (by omega) (by omega)
        rw [HP5.out] at h
        rw [HL5.out] at h
        exact h.mono fun e w' h => ⟨h.1, h.2.2⟩
      have HMK := hide_it hmk
      clear hmk
      go_wp2_with fail
      refine HMK.out.mono ?_
      rintro e w12 ⟨rfl, hM12⟩
      have E12 := hide_it (E11.out.trans (hM12.below (Nat.le_refl _) E11.out.size))
      have O12 := hide_it (O11.out.mid hM12 (by have := SZ.out; omega))
      have G12 := hide_it (G11.out.mid hM12 (Or.inr (by have := SZ.out; omega)))
      have U12 := hide_it (U11.out.mid hM12 (Or.inr (by have := SZ.out; omega)))
      have Z12 := hide_it (Z4.out.after E12.out)
      have Q12 := hide_it (Q4.out.after E12.out)
      have V12 := hide_it (V4.out.later E12.out (Nat.le_refl _))
      have HS12 := hide_it (show w9.heap.size ≤ w12.heap.size from Nat.le_trans L11.out.size hM12.size)
      have R12 : Hid (Recs w12 (.slice a7 RS.length cap7) RS) := by
        have := O12.out.recs; rw [HP7.out] at this; exact this
      clear hM12
      obtain ⟨g0, g1, g2, g3, g4⟩ := G12.out.cells5
      obtain ⟨z0, z1, z2, z3, z4⟩ := Z12.out.cells5
      go_wp2_with fail
      refine (eqHouse_any ID UP ROOM _ _ RS F w12 R12.out V12.out hRl).mono ?_
      rintro e w12a ⟨rfl, hba⟩
      have Ea := hide_it hba
      clear hba g0 g1 g2 g3 g4 z0 z1 z2 z3 z4
      obtain ⟨u0, u1, u2, u3⟩ := (U12.out.after Ea.out).cells4
      obtain ⟨q0, q1, q2, q3⟩ := (Q12.out.after Ea.out).cells4
      go_wp2_with fail
      refine (eqWord_sameH X1 X2 X3 0 w12a).mono ?_
      rintro e w13 ⟨rfl, hb13⟩
      have L13 := hide_it (Ea.out.trans (hb13.mono Ea.out.size))
      clear hb13 u0 u1 u2 u3 q0 q1 q2 q3 Ea
      have E13 := hide_it (E12.out.trans (L13.out.mono E12.out.size))
      have O13 := hide_it (O12.out.below L13.out (by have := SZ.out; have := HS12.out; omega))
      have G13 := hide_it (G12.out.after L13.out)
      have U13 := hide_it (U12.out.after L13.out)
      -- g0 is marked, and held
      have hmk : Calls Tryz.prog 15 #[houseV ID UP ROOM (.slice a7 RS.length cap7) F, .int .i64 1] w13 fun e w' => e = .returned (.int .i64 (kAt RS 1 RS.length)) ∧ Recs w' (.slice a7 RS.length cap7) (markAll RS 1) ∧ Mid lo7 hi7 w13 w' := by
        have h := markHouse_any ID UP ROOM (.slice a7 RS.length cap7) ps7 F 1 lo7 hi7 w13 O13.out (by rw [HP7.out]; exact hRl) (by omega) (by omega)
        refine h.mono ?_
        rintro e w' ⟨h1, h2, h3⟩
        refine ⟨?_, ?_, h3⟩
        · rw [h1, HP7.out, HL7.out]
        · have := h2.recs
          rw [stg_all, HP7.out] at this
          exact this
      have HMK2 := hide_it hmk
      clear hmk
      obtain ⟨g0, g1, g2, g3, g4⟩ := G13.out.cells5
      go_wp2_with fail
      refine HMK2.out.mono ?_
      rintro e w14 ⟨rfl, hR14, hM14⟩
      have E14 := hide_it (E13.out.trans (hM14.below (show w4.heap.size ≤ lo7 by have := SZ.out; omega) E13.out.size))
      have G14 := hide_it (G13.out.mid hM14 AG7.out)
      have R14 := hide_it hR14
      clear hM14 hR14 g0 g1 g2 g3 g4
      obtain ⟨g0, g1, g2, g3, g4⟩ := G14.out.cells5
      go_wp2_with fail
      refine (heldHouse_any ID UP ROOM _ RS F 1 w14 R14.out hRl (by omega) (by omega)).mono ?_
      rintro e w15 ⟨rfl, hb15⟩
      have E15 := hide_it (E14.out.trans (hb15.mono E14.out.size))
      have N15 := hide_it hb15
      have T15 := hide_it (T4.out.after E15.out)
      have K15 := hide_it (K4.out.after E15.out)
      have B15 := hide_it (B4.out.trans (E15.out.mono hz4))
      clear hb15 g0 g1 g2 g3 g4
      -- once more
      have KK : Hid (∀ W, Below w15.heap.size w15 W → (let w' := W; (w'.cell? ⟨w.heap.size, 0, none⟩ = some (.int .i64 id) ∧ w'.cell? ⟨w.heap.size, 1, none⟩ = some (.bool up) ∧ w'.cell? ⟨w.heap.size, 2, none⟩ = some (.int .i64 room) ∧ w'.cell? ⟨w.heap.size, 3, none⟩ = some (.slice av rs.length cv) ∧ w'.cell? ⟨w.heap.size, 4, none⟩ = some (.int .i64 f)) ∧ (w'.cell? ⟨w.heap.size + 1, 0, none⟩ = some (.int .i64 k) ∧ w'.cell? ⟨w.heap.size + 1, 1, none⟩ = some (.int .i64 h) ∧ w'.cell? ⟨w.heap.size + 1, 2, none⟩ = some (.int .i64 t) ∧ w'.cell? ⟨w.heap.size + 1, 3, none⟩ = some (.int .i64 m)))) := fun W hb => ⟨(T15.out.after hb).cells5, (K15.out.after hb).cells4⟩
      go_wp2_with fail
      go_cut [16, 17, 18] (fun p q b W => ∃ bh bw a5 c5 ps lo hi, p = .pointer (some ⟨bh, 0, none⟩) ∧ q = .pointer (some ⟨bw, 0, none⟩) ∧ b = .bool YB ∧ Hid (ps.map (·.1) = RS) ∧ Hid (MetE w15 W bh bw ID UP ROOM (.slice a5 RS.length c5) F X1 X2 X3 ps lo hi))
      case first =>
        obtain ⟨wdhh24, hwdhh24⟩ : ∃ W, Hid (W = w15.drew) := ⟨_, rfl⟩
        have Ldhh24 : Hid (Below w15.heap.size w15 wdhh24) := by show Below _ _ _; rw [hwdhh24.out]; exact (Below.refl _ _).drew
        refine wp_region_held_drew (S := fun w' => (w'.cell? ⟨w.heap.size, 0, none⟩ = some (.int .i64 id) ∧ w'.cell? ⟨w.heap.size, 1, none⟩ = some (.bool up) ∧ w'.cell? ⟨w.heap.size, 2, none⟩ = some (.int .i64 room) ∧ w'.cell? ⟨w.heap.size, 3, none⟩ = some (.slice av rs.length cv) ∧ w'.cell? ⟨w.heap.size, 4, none⟩ = some (.int .i64 f)) ∧ (w'.cell? ⟨w.heap.size + 1, 0, none⟩ = some (.int .i64 k) ∧ w'.cell? ⟨w.heap.size + 1, 1, none⟩ = some (.int .i64 h) ∧ w'.cell? ⟨w.heap.size + 1, 2, none⟩ = some (.int .i64 t) ∧ w'.cell? ⟨w.heap.size + 1, 3, none⟩ = some (.int .i64 m))) (by kernel_rfl) (KK.out _ (Below.refl _ _).drew) (fun hHeld => ?_)
        rw [← hwdhh24.out] at hHeld ⊢
        refine takeD (i := 0) (v := ?_) (some 97) rfl rfl (by kernel_rfl) (by kernel_rfl) (by kernel_rfl) (fun _ _ _ h => h) (by rfl) hHeld ?_ ?_
        rotate_left
        · intro W hSw
          try dsimp only at hSw
          go_simp
          try with_reducible rfl
        try simp only [Act.put]
        try simp only [List.setIfInBounds_toArray]
        try simp only [List.set_cons_succ]
        try simp only [List.set_cons_zero]
        refine takeD (i := 2) (v := ?_) (some 99) rfl rfl (by kernel_rfl) (by kernel_rfl) (by kernel_rfl) (fun _ _ _ h => h) (by rfl) hHeld ?_ ?_
        rotate_left
        · intro W hSw
          try dsimp only at hSw
          go_simp
          try with_reducible rfl
        try simp only [Act.put]
        try simp only [List.setIfInBounds_toArray]
        try simp only [List.set_cons_succ]
        try simp only [List.set_cons_zero]
        refine wpAnyH_ready (rs := [1, 9, 10]) (by kernel_rfl) (by simp) ?_
        refine AllReadyH.cons rfl (fun K hK => ?_) (AllReadyH.cons rfl (fun K hK => ?_) (AllReadyH.cons rfl (fun K hK => ?_) AllReadyH.nil))
        · go_simp
          refine (toHouse_any id up room _ rs f wdhh24 (HV.out _ (B15.out.trans (Ldhh24.out.mono B15.out.size))) hl).mono ?_
          rintro e wr104 ⟨a104, cp104, rfl, hm104, hb104⟩
          have VV104 := hide_it hm104.recs
          have FM104 := hide_it (form_made hm104)
          have L104 : Hid (Below w15.heap.size w15 wr104) := Ldhh24.out.trans (hb104.mono Ldhh24.out.size)
          clear hb104 hm104
          try dsimp only
          refine hK.out _ _ (KK.out _ L104.out) (fun hHeld => ?_)
          clear hK K
          refine wpAnyH_ready (rs := [3, 9, 10]) (by kernel_rfl) (by simp) ?_
          refine AllReadyH.cons rfl (fun K hK => ?_) (AllReadyH.cons rfl (fun K hK => ?_) (AllReadyH.cons rfl (fun K hK => ?_) AllReadyH.nil))
          · go_simp
            refine (toWord_any k h t m wr104).mono ?_
            rintro e wr105 ⟨rfl, hb105⟩
            have V105 := hide_it (VV104.out.later hb105 (Nat.le_refl _))
            have L105 : Hid (Below w15.heap.size w15 wr105) := L104.out.trans (hb105.mono L104.out.size)
            clear hb105
            try dsimp only
            refine hK.out _ _ (KK.out _ L105.out) (fun hHeld => ?_)
            clear hK K
            refine wpAnyH_ready (rs := [4, 9, 10]) (by kernel_rfl) (by simp) ?_
            refine AllReadyH.cons rfl (fun K hK => ?_) (AllReadyH.cons rfl (fun K hK => ?_) (AllReadyH.cons rfl (fun K hK => ?_) AllReadyH.nil))
            · go_simp
              refine (HIM.out _ wr105 V105.out FM104.out (HA.out _ (B15.out.trans (L105.out.mono B15.out.size)))).mono ?_
              rintro e wr106 ⟨a106, cp106, rfl, hm106, hb106⟩
              obtain ⟨ps106, hp106, ho106⟩ := hm106
              have P106 := hide_it hp106
              have OO106 := hide_it ho106
              have ZZ106 : Hid (wr106.heap.size ≤ wr106.heap.size) := Nat.le_refl _
              have LL106 : Hid (w15.heap.size ≤ wr105.heap.size) := L105.out.size
              have V106 := hide_it (V105.out.later hb106 (Nat.le_refl _))
              have L106 : Hid (Below w15.heap.size w15 wr106) := L105.out.trans (hb106.mono L105.out.size)
              clear hb106 hp106 ho106
              try dsimp only
              refine hK.out _ _ (KK.out _ L106.out) (fun hHeld => ?_)
              clear hK K
              refine takeD (i := 5) (v := ?_) (some 96) rfl rfl (by kernel_rfl) (by kernel_rfl) (by kernel_rfl) (fun _ _ _ h => h) (by rfl) hHeld ?_ ?_
              rotate_left
              · intro W hSw
                try dsimp only at hSw
                go_simp
                try with_reducible rfl
              try simp only [Act.put]
              try simp only [List.setIfInBounds_toArray]
              try simp only [List.set_cons_succ]
              try simp only [List.set_cons_zero]
              refine takeD (i := 6) (v := ?_) (some 102) rfl rfl (by kernel_rfl) (by kernel_rfl) (by kernel_rfl) (fun _ _ _ h => h) (by rfl) hHeld ?_ ?_
              rotate_left
              · intro W hSw
                try dsimp only at hSw
                go_simp
                try with_reducible rfl
              try simp only [Act.put]
              try simp only [List.setIfInBounds_toArray]
              try simp only [List.set_cons_succ]
              try simp only [List.set_cons_zero]
              refine takeD (i := 7) (v := ?_) (some 103) rfl rfl (by kernel_rfl) (by kernel_rfl) (by kernel_rfl) (fun _ _ _ h => h) (by rfl) hHeld ?_ ?_
              rotate_left
              · intro W hSw
                try dsimp only at hSw
                go_simp
                try with_reducible rfl
              try simp only [Act.put]
              try simp only [List.setIfInBounds_toArray]
              try simp only [List.set_cons_succ]
              try simp only [List.set_cons_zero]
              refine takeD (i := 8) (v := ?_) (some 104) rfl rfl (by kernel_rfl) (by kernel_rfl) (by kernel_rfl) (fun _ _ _ h => h) (by rfl) hHeld ?_ ?_
              rotate_left
              · intro W hSw
                try dsimp only at hSw
                go_simp
                try with_reducible rfl
              try simp only [Act.put]
              try simp only [List.setIfInBounds_toArray]
              try simp only [List.set_cons_succ]
              try simp only [List.set_cons_zero]
              refine wpAnyH_ready (rs := [9, 10]) (by kernel_rfl) (by simp) ?_
              refine AllReadyH.cons rfl (fun K hK => ?_) (AllReadyH.cons rfl (fun K hK => ?_) AllReadyH.nil)
              · go_simp
                obtain ⟨wr107, hwr107⟩ : ∃ W, Hid (W = wr106.alloc (.cells #[.int .i64 0, .bool false, .int .i64 0, .slice none 0 0, .int .i64 0] 34)) := ⟨_, rfl⟩
                have al107 : Below wr106.heap.size wr106 wr107 := by rw [hwr107.out]; exact alloc_below _ _
                have YHN107 : Hid (Blk wr107 wr106.heap.size #[.int .i64 0, .bool false, .int .i64 0, .slice none 0 0, .int .i64 0] 34) := by show Blk _ _ _ _; rw [hwr107.out]; exact Blk.new _ _ _
                have BYH107 : Hid (w15.heap.size ≤ wr106.heap.size) := L106.out.size
                have V107 := hide_it (V106.out.later al107 (Nat.le_refl _))
                have O107 := hide_it (OO106.out.below al107 ZZ106.out)
                have Z107 : Hid (wr106.heap.size ≤ wr107.heap.size) := Nat.le_trans ZZ106.out al107.size
                have L107 : Hid (Below w15.heap.size w15 wr107) := L106.out.trans (al107.mono L106.out.size)
                clear al107
                rw [← hwr107.out]
                try dsimp only
                refine hK.out _ _ (KK.out _ L107.out) (fun hHeld => ?_)
                clear hK K
                refine wpAnyH_ready (rs := [10]) (by kernel_rfl) (by simp) ?_
                refine AllReadyH.cons rfl (fun K hK => ?_) AllReadyH.nil
                go_simp
                obtain ⟨wr108, hwr108⟩ : ∃ W, Hid (W = wr107.alloc (.cells #[.int .i64 0, .int .i64 0, .int .i64 0, .int .i64 0] 35)) := ⟨_, rfl⟩
                have al108 : Below wr107.heap.size wr107 wr108 := by rw [hwr108.out]; exact alloc_below _ _
                have YWN108 : Hid (Blk wr108 wr107.heap.size #[.int .i64 0, .int .i64 0, .int .i64 0, .int .i64 0] 35) := by show Blk _ _ _ _; rw [hwr108.out]; exact Blk.new _ _ _
                have BYW108 : Hid (w15.heap.size ≤ wr107.heap.size) := L107.out.size
                have YH108 := hide_it (YHN107.out.after al108)
                have V108 := hide_it (V107.out.later al108 (Nat.le_refl _))
                have O108 := hide_it (O107.out.below al108 Z107.out)
                have Z108 : Hid (wr106.heap.size ≤ wr108.heap.size) := Nat.le_trans Z107.out al108.size
                have L108 : Hid (Below w15.heap.size w15 wr108) := L107.out.trans (al108.mono L107.out.size)
                clear al108
                rw [← hwr108.out]
                try dsimp only
                refine hK.out _ _ (KK.out _ L108.out) (fun hHeld => ?_)
                clear hK K
                refine wpAnyH_ready (rs := [11]) (by kernel_rfl) (by simp) ?_
                refine AllReadyH.cons rfl (fun K hK => ?_) AllReadyH.nil
                go_simp
                obtain ⟨c0, c1, c2, c3, c4⟩ := YH108.out.cells5
                have cf0 := YH108.out.free 0
                have cf1 := YH108.out.free 1
                have cf2 := YH108.out.free 2
                have cf3 := YH108.out.free 3
                have cf4 := YH108.out.free 4
                go_simp
                obtain ⟨wr109, hwr109⟩ : ∃ W, Hid (W = (((((wr108.setCell ⟨wr106.heap.size, 0, none⟩ (.int .i64 ID)).setCell ⟨wr106.heap.size, 1, none⟩ (.bool UP)).setCell ⟨wr106.heap.size, 2, none⟩ (.int .i64 ROOM)).setCell ⟨wr106.heap.size, 3, none⟩ (.slice a106 RS.length cp106)).setCell ⟨wr106.heap.size, 4, none⟩ (.int .i64 F))) := ⟨_, rfl⟩
                have NE109 := ne_hw YH108.out YWN108.out
                have Z109 : Hid (wr106.heap.size ≤ wr109.heap.size) := Nat.le_trans Z108.out (Nat.le_of_eq (by rw [hwr109.out]; simp))
                have YH109 : Hid (Blk wr109 wr106.heap.size #[.int .i64 ID, .bool UP, .int .i64 ROOM, .slice a106 RS.length cp106, .int .i64 F] 34) := by show Blk _ _ _ _; rw [hwr109.out]; exact blk_h5 YH108.out
                have YW109 : Hid (Blk wr109 wr107.heap.size #[.int .i64 0, .int .i64 0, .int .i64 0, .int .i64 0] 35) := by show Blk _ _ _ _; rw [hwr109.out]; exact blk_h5o YWN108.out (fun e => NE109 e.symm)
                have O109 : Hid (OwnRecs wr109 wr105.heap.size wr106.heap.size (.slice a106 RS.length cp106) ps106) := by show OwnRecs _ _ _ _ _; rw [hwr109.out]; exact own_h5 O108.out YH108.out
                have L109 : Hid (Below w15.heap.size w15 wr109) := by show Below _ _ _; rw [hwr109.out]; exact bel_h5 L108.out BYH107.out
                rw [← hwr109.out]
                clear c0 cf0 c1 cf1 c2 cf2 c3 cf3 c4 cf4
                try dsimp only
                refine hK.out _ _ (KK.out _ L109.out) (fun hHeld => ?_)
                clear hK K
                refine wpAnyH_ready (rs := [12]) (by kernel_rfl) (by simp) ?_
                refine AllReadyH.cons rfl (fun K hK => ?_) AllReadyH.nil
                go_simp
                obtain ⟨c0, c1, c2, c3⟩ := YW109.out.cells4
                have cf0 := YW109.out.free 0
                have cf1 := YW109.out.free 1
                have cf2 := YW109.out.free 2
                have cf3 := YW109.out.free 3
                go_simp
                obtain ⟨wr110, hwr110⟩ : ∃ W, Hid (W = ((((wr109.setCell ⟨wr107.heap.size, 0, none⟩ (.int .i64 X1)).setCell ⟨wr107.heap.size, 1, none⟩ (.int .i64 X2)).setCell ⟨wr107.heap.size, 2, none⟩ (.int .i64 X3)).setCell ⟨wr107.heap.size, 3, none⟩ (.int .i64 0))) := ⟨_, rfl⟩
                have Z110 : Hid (wr106.heap.size ≤ wr110.heap.size) := Nat.le_trans Z109.out (Nat.le_of_eq (by rw [hwr110.out]; simp))
                have NEX110 : wr106.heap.size ≠ wr107.heap.size := NE109
                have YW110 : Hid (Blk wr110 wr107.heap.size #[.int .i64 X1, .int .i64 X2, .int .i64 X3, .int .i64 0] 35) := by show Blk _ _ _ _; rw [hwr110.out]; exact blk_w4 YW109.out
                have YH110 : Hid (Blk wr110 wr106.heap.size #[.int .i64 ID, .bool UP, .int .i64 ROOM, .slice a106 RS.length cp106, .int .i64 F] 34) := by show Blk _ _ _ _; rw [hwr110.out]; exact blk_w4o YH109.out NEX110
                have O110 : Hid (OwnRecs wr110 wr105.heap.size wr106.heap.size (.slice a106 RS.length cp106) ps106) := by show OwnRecs _ _ _ _ _; rw [hwr110.out]; exact own_w4 O109.out YW109.out
                have L110 : Hid (Below w15.heap.size w15 wr110) := by show Below _ _ _; rw [hwr110.out]; exact bel_w4 L109.out BYW108.out
                rw [← hwr110.out]
                clear c0 cf0 c1 cf1 c2 cf2 c3 cf3
                try dsimp only
                refine hK.out _ _ (KK.out _ L110.out) (fun hHeld => ?_)
                clear hK K
                refine takeD (i := 13) (v := ?_) (some 18) rfl rfl (by kernel_rfl) (by kernel_rfl) (by kernel_rfl) (fun _ _ _ h => h) (by rfl) hHeld ?_ ?_
                rotate_left
                · intro W hSw
                  try dsimp only at hSw
                  go_simp
                  try with_reducible rfl
                try simp only [Act.put]
                try simp only [List.setIfInBounds_toArray]
                try simp only [List.set_cons_succ]
                try simp only [List.set_cons_zero]
                refine wpAnyH_done (by kernel_rfl) ?_ _
                go_wp2_with fail
                go_meet
                case rel => exact ⟨_, _, a106, cp106, ps106, _, _, rfl, rfl, rfl, P106, hide_it ⟨L110.out, YH110.out, YW110.out, O110.out, BYH107.out, BYW108.out, Or.inr ZZ106.out, Or.inr Z107.out, LL106.out, Z110.out⟩⟩
              · go_simp
                obtain ⟨wr111, hwr111⟩ : ∃ W, Hid (W = wr106.alloc (.cells #[.int .i64 0, .int .i64 0, .int .i64 0, .int .i64 0] 35)) := ⟨_, rfl⟩
                have al111 : Below wr106.heap.size wr106 wr111 := by rw [hwr111.out]; exact alloc_below _ _
                have YWN111 : Hid (Blk wr111 wr106.heap.size #[.int .i64 0, .int .i64 0, .int .i64 0, .int .i64 0] 35) := by show Blk _ _ _ _; rw [hwr111.out]; exact Blk.new _ _ _
                have BYW111 : Hid (w15.heap.size ≤ wr106.heap.size) := L106.out.size
                have V111 := hide_it (V106.out.later al111 (Nat.le_refl _))
                have O111 := hide_it (OO106.out.below al111 ZZ106.out)
                have Z111 : Hid (wr106.heap.size ≤ wr111.heap.size) := Nat.le_trans ZZ106.out al111.size
                have L111 : Hid (Below w15.heap.size w15 wr111) := L106.out.trans (al111.mono L106.out.size)
                clear al111
                rw [← hwr111.out]
                try dsimp only
                refine hK.out _ _ (KK.out _ L111.out) (fun hHeld => ?_)
                clear hK K
                refine wpAnyH_ready (rs := [9]) (by kernel_rfl) (by simp) ?_
                refine AllReadyH.cons rfl (fun K hK => ?_) AllReadyH.nil
                go_simp
                obtain ⟨wr112, hwr112⟩ : ∃ W, Hid (W = wr111.alloc (.cells #[.int .i64 0, .bool false, .int .i64 0, .slice none 0 0, .int .i64 0] 34)) := ⟨_, rfl⟩
                have al112 : Below wr111.heap.size wr111 wr112 := by rw [hwr112.out]; exact alloc_below _ _
                have YHN112 : Hid (Blk wr112 wr111.heap.size #[.int .i64 0, .bool false, .int .i64 0, .slice none 0 0, .int .i64 0] 34) := by show Blk _ _ _ _; rw [hwr112.out]; exact Blk.new _ _ _
                have BYH112 : Hid (w15.heap.size ≤ wr111.heap.size) := L111.out.size
                have YW112 := hide_it (YWN111.out.after al112)
                have V112 := hide_it (V111.out.later al112 (Nat.le_refl _))
                have O112 := hide_it (O111.out.below al112 Z111.out)
                have Z112 : Hid (wr106.heap.size ≤ wr112.heap.size) := Nat.le_trans Z111.out al112.size
                have L112 : Hid (Below w15.heap.size w15 wr112) := L111.out.trans (al112.mono L111.out.size)
                clear al112
                rw [← hwr112.out]
                try dsimp only
                refine hK.out _ _ (KK.out _ L112.out) (fun hHeld => ?_)
                clear hK K
                refine wpAnyH_ready (rs := [11]) (by kernel_rfl) (by simp) ?_
                refine AllReadyH.cons rfl (fun K hK => ?_) AllReadyH.nil
                go_simp
                obtain ⟨c0, c1, c2, c3, c4⟩ := YHN112.out.cells5
                have cf0 := YHN112.out.free 0
                have cf1 := YHN112.out.free 1
                have cf2 := YHN112.out.free 2
                have cf3 := YHN112.out.free 3
                have cf4 := YHN112.out.free 4
                go_simp
                obtain ⟨wr113, hwr113⟩ : ∃ W, Hid (W = (((((wr112.setCell ⟨wr111.heap.size, 0, none⟩ (.int .i64 ID)).setCell ⟨wr111.heap.size, 1, none⟩ (.bool UP)).setCell ⟨wr111.heap.size, 2, none⟩ (.int .i64 ROOM)).setCell ⟨wr111.heap.size, 3, none⟩ (.slice a106 RS.length cp106)).setCell ⟨wr111.heap.size, 4, none⟩ (.int .i64 F))) := ⟨_, rfl⟩
                have NE113 := ne_hw YHN112.out YW112.out
                have Z113 : Hid (wr106.heap.size ≤ wr113.heap.size) := Nat.le_trans Z112.out (Nat.le_of_eq (by rw [hwr113.out]; simp))
                have YH113 : Hid (Blk wr113 wr111.heap.size #[.int .i64 ID, .bool UP, .int .i64 ROOM, .slice a106 RS.length cp106, .int .i64 F] 34) := by show Blk _ _ _ _; rw [hwr113.out]; exact blk_h5 YHN112.out
                have YW113 : Hid (Blk wr113 wr106.heap.size #[.int .i64 0, .int .i64 0, .int .i64 0, .int .i64 0] 35) := by show Blk _ _ _ _; rw [hwr113.out]; exact blk_h5o YW112.out (fun e => NE113 e.symm)
                have O113 : Hid (OwnRecs wr113 wr105.heap.size wr106.heap.size (.slice a106 RS.length cp106) ps106) := by show OwnRecs _ _ _ _ _; rw [hwr113.out]; exact own_h5 O112.out YHN112.out
                have L113 : Hid (Below w15.heap.size w15 wr113) := by show Below _ _ _; rw [hwr113.out]; exact bel_h5 L112.out BYH112.out
                rw [← hwr113.out]
                clear c0 cf0 c1 cf1 c2 cf2 c3 cf3 c4 cf4
                try dsimp only
                refine hK.out _ _ (KK.out _ L113.out) (fun hHeld => ?_)
                clear hK K
                refine wpAnyH_ready (rs := [12]) (by kernel_rfl) (by simp) ?_
                refine AllReadyH.cons rfl (fun K hK => ?_) AllReadyH.nil
                go_simp
                obtain ⟨c0, c1, c2, c3⟩ := YW113.out.cells4
                have cf0 := YW113.out.free 0
                have cf1 := YW113.out.free 1
                have cf2 := YW113.out.free 2
                have cf3 := YW113.out.free 3
                go_simp
                obtain ⟨wr114, hwr114⟩ : ∃ W, Hid (W = ((((wr113.setCell ⟨wr106.heap.size, 0, none⟩ (.int .i64 X1)).setCell ⟨wr106.heap.size, 1, none⟩ (.int .i64 X2)).setCell ⟨wr106.heap.size, 2, none⟩ (.int .i64 X3)).setCell ⟨wr106.heap.size, 3, none⟩ (.int .i64 0))) := ⟨_, rfl⟩
                have Z114 : Hid (wr106.heap.size ≤ wr114.heap.size) := Nat.le_trans Z113.out (Nat.le_of_eq (by rw [hwr114.out]; simp))
                have NEX114 : wr111.heap.size ≠ wr106.heap.size := NE113
                have YW114 : Hid (Blk wr114 wr106.heap.size #[.int .i64 X1, .int .i64 X2, .int .i64 X3, .int .i64 0] 35) := by show Blk _ _ _ _; rw [hwr114.out]; exact blk_w4 YW113.out
                have YH114 : Hid (Blk wr114 wr111.heap.size #[.int .i64 ID, .bool UP, .int .i64 ROOM, .slice a106 RS.length cp106, .int .i64 F] 34) := by show Blk _ _ _ _; rw [hwr114.out]; exact blk_w4o YH113.out NEX114
                have O114 : Hid (OwnRecs wr114 wr105.heap.size wr106.heap.size (.slice a106 RS.length cp106) ps106) := by show OwnRecs _ _ _ _ _; rw [hwr114.out]; exact own_w4 O113.out YW113.out
                have L114 : Hid (Below w15.heap.size w15 wr114) := by show Below _ _ _; rw [hwr114.out]; exact bel_w4 L113.out BYW111.out
                rw [← hwr114.out]
                clear c0 cf0 c1 cf1 c2 cf2 c3 cf3
                try dsimp only
                refine hK.out _ _ (KK.out _ L114.out) (fun hHeld => ?_)
                clear hK K
                refine takeD (i := 13) (v := ?_) (some 18) rfl rfl (by kernel_rfl) (by kernel_rfl) (by kernel_rfl) (fun _ _ _ h => h) (by rfl) hHeld ?_ ?_
                rotate_left
                · intro W hSw
                  try dsimp only at hSw
                  go_simp
                  try with_reducible rfl
                try simp only [Act.put]
                try simp only [List.setIfInBounds_toArray]
                try simp only [List.set_cons_succ]
                try simp only [List.set_cons_zero]
                refine wpAnyH_done (by kernel_rfl) ?_ _
                go_wp2_with fail
                go_meet
                case rel => exact ⟨_, _, a106, cp106, ps106, _, _, rfl, rfl, rfl, P106, hide_it ⟨L114.out, YH114.out, YW114.out, O114.out, BYH112.out, BYW111.out, Or.inr Z111.out, Or.inr ZZ106.out, LL106.out, Z114.out⟩⟩
            · go_simp
              obtain ⟨wr115, hwr115⟩ : ∃ W, Hid (W = wr105.alloc (.cells #[.int .i64 0, .bool false, .int .i64 0, .slice none 0 0, .int .i64 0] 34)) := ⟨_, rfl⟩
              have al115 : Below wr105.heap.size wr105 wr115 := by rw [hwr115.out]; exact alloc_below _ _
              have YHN115 : Hid (Blk wr115 wr105.heap.size #[.int .i64 0, .bool false, .int .i64 0, .slice none 0 0, .int .i64 0] 34) := by show Blk _ _ _ _; rw [hwr115.out]; exact Blk.new _ _ _
              have BYH115 : Hid (w15.heap.size ≤ wr105.heap.size) := L105.out.size
              have V115 := hide_it (V105.out.later al115 (Nat.le_refl _))
              have L115 : Hid (Below w15.heap.size w15 wr115) := L105.out.trans (al115.mono L105.out.size)
              clear al115
              rw [← hwr115.out]
              try dsimp only
              refine hK.out _ _ (KK.out _ L115.out) (fun hHeld => ?_)
              clear hK K
              refine wpAnyH_ready (rs := [4, 10]) (by kernel_rfl) (by simp) ?_
              refine AllReadyH.cons rfl (fun K hK => ?_) (AllReadyH.cons rfl (fun K hK => ?_) AllReadyH.nil)
              · go_simp
                refine (HIM.out _ wr115 V115.out FM104.out (HA.out _ (B15.out.trans (L115.out.mono B15.out.size)))).mono ?_
                rintro e wr116 ⟨a116, cp116, rfl, hm116, hb116⟩
                obtain ⟨ps116, hp116, ho116⟩ := hm116
                have P116 := hide_it hp116
                have OO116 := hide_it ho116
                have ZZ116 : Hid (wr116.heap.size ≤ wr116.heap.size) := Nat.le_refl _
                have LL116 : Hid (w15.heap.size ≤ wr115.heap.size) := L115.out.size
                have AH116 : Hid (wr105.heap.size < wr115.heap.size) := YHN115.out.lt
                have YH116 := hide_it (YHN115.out.after hb116)
                have V116 := hide_it (V115.out.later hb116 (Nat.le_refl _))
                have L116 : Hid (Below w15.heap.size w15 wr116) := L115.out.trans (hb116.mono L115.out.size)
                clear hb116 hp116 ho116
                try dsimp only
                refine hK.out _ _ (KK.out _ L116.out) (fun hHeld => ?_)
                clear hK K
                refine takeD (i := 5) (v := ?_) (some 96) rfl rfl (by kernel_rfl) (by kernel_rfl) (by kernel_rfl) (fun _ _ _ h => h) (by rfl) hHeld ?_ ?_
                rotate_left
                · intro W hSw
                  try dsimp only at hSw
                  go_simp
                  try with_reducible rfl
                try simp only [Act.put]
                try simp only [List.setIfInBounds_toArray]
                try simp only [List.set_cons_succ]
                try simp only [List.set_cons_zero]
                refine takeD (i := 6) (v := ?_) (some 102) rfl rfl (by kernel_rfl) (by kernel_rfl) (by kernel_rfl) (fun _ _ _ h => h) (by rfl) hHeld ?_ ?_
                rotate_left
                · intro W hSw
                  try dsimp only at hSw
                  go_simp
                  try with_reducible rfl
                try simp only [Act.put]
                try simp only [List.setIfInBounds_toArray]
                try simp only [List.set_cons_succ]
                try simp only [List.set_cons_zero]
                refine takeD (i := 7) (v := ?_) (some 103) rfl rfl (by kernel_rfl) (by kernel_rfl) (by kernel_rfl) (fun _ _ _ h => h) (by rfl) hHeld ?_ ?_
                rotate_left
                · intro W hSw
                  try dsimp only at hSw
                  go_simp
                  try with_reducible rfl
                try simp only [Act.put]
                try simp only [List.setIfInBounds_toArray]
                try simp only [List.set_cons_succ]
                try simp only [List.set_cons_zero]
                refine takeD (i := 8) (v := ?_) (some 104) rfl rfl (by kernel_rfl) (by kernel_rfl) (by kernel_rfl) (fun _ _ _ h => h) (by rfl) hHeld ?_ ?_
                rotate_left
                · intro W hSw
                  try dsimp only at hSw
                  go_simp
                  try with_reducible rfl
                try simp only [Act.put]
                try simp only [List.setIfInBounds_toArray]
                try simp only [List.set_cons_succ]
                try simp only [List.set_cons_zero]
                refine wpAnyH_ready (rs := [10]) (by kernel_rfl) (by simp) ?_
                refine AllReadyH.cons rfl (fun K hK => ?_) AllReadyH.nil
                go_simp
                obtain ⟨wr117, hwr117⟩ : ∃ W, Hid (W = wr116.alloc (.cells #[.int .i64 0, .int .i64 0, .int .i64 0, .int .i64 0] 35)) := ⟨_, rfl⟩
                have al117 : Below wr116.heap.size wr116 wr117 := by rw [hwr117.out]; exact alloc_below _ _
                have YWN117 : Hid (Blk wr117 wr116.heap.size #[.int .i64 0, .int .i64 0, .int .i64 0, .int .i64 0] 35) := by show Blk _ _ _ _; rw [hwr117.out]; exact Blk.new _ _ _
                have BYW117 : Hid (w15.heap.size ≤ wr116.heap.size) := L116.out.size
                have YH117 := hide_it (YH116.out.after al117)
                have V117 := hide_it (V116.out.later al117 (Nat.le_refl _))
                have O117 := hide_it (OO116.out.below al117 ZZ116.out)
                have Z117 : Hid (wr116.heap.size ≤ wr117.heap.size) := Nat.le_trans ZZ116.out al117.size
                have L117 : Hid (Below w15.heap.size w15 wr117) := L116.out.trans (al117.mono L116.out.size)
                clear al117
                rw [← hwr117.out]
                try dsimp only
                refine hK.out _ _ (KK.out _ L117.out) (fun hHeld => ?_)
                clear hK K
                refine wpAnyH_ready (rs := [11]) (by kernel_rfl) (by simp) ?_
                refine AllReadyH.cons rfl (fun K hK => ?_) AllReadyH.nil
                go_simp
                obtain ⟨c0, c1, c2, c3, c4⟩ := YH117.out.cells5
                have cf0 := YH117.out.free 0
                have cf1 := YH117.out.free 1
                have cf2 := YH117.out.free 2
                have cf3 := YH117.out.free 3
                have cf4 := YH117.out.free 4
                go_simp
                obtain ⟨wr118, hwr118⟩ : ∃ W, Hid (W = (((((wr117.setCell ⟨wr105.heap.size, 0, none⟩ (.int .i64 ID)).setCell ⟨wr105.heap.size, 1, none⟩ (.bool UP)).setCell ⟨wr105.heap.size, 2, none⟩ (.int .i64 ROOM)).setCell ⟨wr105.heap.size, 3, none⟩ (.slice a116 RS.length cp116)).setCell ⟨wr105.heap.size, 4, none⟩ (.int .i64 F))) := ⟨_, rfl⟩
                have NE118 := ne_hw YH117.out YWN117.out
                have Z118 : Hid (wr116.heap.size ≤ wr118.heap.size) := Nat.le_trans Z117.out (Nat.le_of_eq (by rw [hwr118.out]; simp))
                have YH118 : Hid (Blk wr118 wr105.heap.size #[.int .i64 ID, .bool UP, .int .i64 ROOM, .slice a116 RS.length cp116, .int .i64 F] 34) := by show Blk _ _ _ _; rw [hwr118.out]; exact blk_h5 YH117.out
                have YW118 : Hid (Blk wr118 wr116.heap.size #[.int .i64 0, .int .i64 0, .int .i64 0, .int .i64 0] 35) := by show Blk _ _ _ _; rw [hwr118.out]; exact blk_h5o YWN117.out (fun e => NE118 e.symm)
                have O118 : Hid (OwnRecs wr118 wr115.heap.size wr116.heap.size (.slice a116 RS.length cp116) ps116) := by show OwnRecs _ _ _ _ _; rw [hwr118.out]; exact own_h5 O117.out YH117.out
                have L118 : Hid (Below w15.heap.size w15 wr118) := by show Below _ _ _; rw [hwr118.out]; exact bel_h5 L117.out BYH115.out
                rw [← hwr118.out]
                clear c0 cf0 c1 cf1 c2 cf2 c3 cf3 c4 cf4
                try dsimp only
                refine hK.out _ _ (KK.out _ L118.out) (fun hHeld => ?_)
                clear hK K
                refine wpAnyH_ready (rs := [12]) (by kernel_rfl) (by simp) ?_
                refine AllReadyH.cons rfl (fun K hK => ?_) AllReadyH.nil
                go_simp
                obtain ⟨c0, c1, c2, c3⟩ := YW118.out.cells4
                have cf0 := YW118.out.free 0
                have cf1 := YW118.out.free 1
                have cf2 := YW118.out.free 2
                have cf3 := YW118.out.free 3
                go_simp
                obtain ⟨wr119, hwr119⟩ : ∃ W, Hid (W = ((((wr118.setCell ⟨wr116.heap.size, 0, none⟩ (.int .i64 X1)).setCell ⟨wr116.heap.size, 1, none⟩ (.int .i64 X2)).setCell ⟨wr116.heap.size, 2, none⟩ (.int .i64 X3)).setCell ⟨wr116.heap.size, 3, none⟩ (.int .i64 0))) := ⟨_, rfl⟩
                have Z119 : Hid (wr116.heap.size ≤ wr119.heap.size) := Nat.le_trans Z118.out (Nat.le_of_eq (by rw [hwr119.out]; simp))
                have NEX119 : wr105.heap.size ≠ wr116.heap.size := NE118
                have YW119 : Hid (Blk wr119 wr116.heap.size #[.int .i64 X1, .int .i64 X2, .int .i64 X3, .int .i64 0] 35) := by show Blk _ _ _ _; rw [hwr119.out]; exact blk_w4 YW118.out
                have YH119 : Hid (Blk wr119 wr105.heap.size #[.int .i64 ID, .bool UP, .int .i64 ROOM, .slice a116 RS.length cp116, .int .i64 F] 34) := by show Blk _ _ _ _; rw [hwr119.out]; exact blk_w4o YH118.out NEX119
                have O119 : Hid (OwnRecs wr119 wr115.heap.size wr116.heap.size (.slice a116 RS.length cp116) ps116) := by show OwnRecs _ _ _ _ _; rw [hwr119.out]; exact own_w4 O118.out YW118.out
                have L119 : Hid (Below w15.heap.size w15 wr119) := by show Below _ _ _; rw [hwr119.out]; exact bel_w4 L118.out BYW117.out
                rw [← hwr119.out]
                clear c0 cf0 c1 cf1 c2 cf2 c3 cf3
                try dsimp only
                refine hK.out _ _ (KK.out _ L119.out) (fun hHeld => ?_)
                clear hK K
                refine takeD (i := 13) (v := ?_) (some 18) rfl rfl (by kernel_rfl) (by kernel_rfl) (by kernel_rfl) (fun _ _ _ h => h) (by rfl) hHeld ?_ ?_
                rotate_left
                · intro W hSw
                  try dsimp only at hSw
                  go_simp
                  try with_reducible rfl
                try simp only [Act.put]
                try simp only [List.setIfInBounds_toArray]
                try simp only [List.set_cons_succ]
                try simp only [List.set_cons_zero]
                refine wpAnyH_done (by kernel_rfl) ?_ _
                go_wp2_with fail
                go_meet
                case rel => exact ⟨_, _, a116, cp116, ps116, _, _, rfl, rfl, rfl, P116, hide_it ⟨L119.out, YH119.out, YW119.out, O119.out, BYH115.out, BYW117.out, Or.inl AH116.out, Or.inr ZZ116.out, LL116.out, Z119.out⟩⟩
              · go_simp
                obtain ⟨wr120, hwr120⟩ : ∃ W, Hid (W = wr115.alloc (.cells #[.int .i64 0, .int .i64 0, .int .i64 0, .int .i64 0] 35)) := ⟨_, rfl⟩
                have al120 : Below wr115.heap.size wr115 wr120 := by rw [hwr120.out]; exact alloc_below _ _
                have YWN120 : Hid (Blk wr120 wr115.heap.size #[.int .i64 0, .int .i64 0, .int .i64 0, .int .i64 0] 35) := by show Blk _ _ _ _; rw [hwr120.out]; exact Blk.new _ _ _
                have BYW120 : Hid (w15.heap.size ≤ wr115.heap.size) := L115.out.size
                have YH120 := hide_it (YHN115.out.after al120)
                have V120 := hide_it (V115.out.later al120 (Nat.le_refl _))
                have L120 : Hid (Below w15.heap.size w15 wr120) := L115.out.trans (al120.mono L115.out.size)
                clear al120
                rw [← hwr120.out]
                try dsimp only
                refine hK.out _ _ (KK.out _ L120.out) (fun hHeld => ?_)
                clear hK K
                refine wpAnyH_ready (rs := [4]) (by kernel_rfl) (by simp) ?_
                refine AllReadyH.cons rfl (fun K hK => ?_) AllReadyH.nil
                go_simp
                refine (HIM.out _ wr120 V120.out FM104.out (HA.out _ (B15.out.trans (L120.out.mono B15.out.size)))).mono ?_
                rintro e wr121 ⟨a121, cp121, rfl, hm121, hb121⟩
                obtain ⟨ps121, hp121, ho121⟩ := hm121
                have P121 := hide_it hp121
                have OO121 := hide_it ho121
                have ZZ121 : Hid (wr121.heap.size ≤ wr121.heap.size) := Nat.le_refl _
                have LL121 : Hid (w15.heap.size ≤ wr120.heap.size) := L120.out.size
                have AH121 : Hid (wr105.heap.size < wr120.heap.size) := YH120.out.lt
                have AW121 : Hid (wr115.heap.size < wr120.heap.size) := YWN120.out.lt
                have YH121 := hide_it (YH120.out.after hb121)
                have YW121 := hide_it (YWN120.out.after hb121)
                have V121 := hide_it (V120.out.later hb121 (Nat.le_refl _))
                have L121 : Hid (Below w15.heap.size w15 wr121) := L120.out.trans (hb121.mono L120.out.size)
                clear hb121 hp121 ho121
                try dsimp only
                refine hK.out _ _ (KK.out _ L121.out) (fun hHeld => ?_)
                clear hK K
                refine takeD (i := 5) (v := ?_) (some 96) rfl rfl (by kernel_rfl) (by kernel_rfl) (by kernel_rfl) (fun _ _ _ h => h) (by rfl) hHeld ?_ ?_
                rotate_left
                · intro W hSw
                  try dsimp only at hSw
                  go_simp
                  try with_reducible rfl
                try simp only [Act.put]
                try simp only [List.setIfInBounds_toArray]
                try simp only [List.set_cons_succ]
                try simp only [List.set_cons_zero]
                refine takeD (i := 6) (v := ?_) (some 102) rfl rfl (by kernel_rfl) (by kernel_rfl) (by kernel_rfl) (fun _ _ _ h => h) (by rfl) hHeld ?_ ?_
                rotate_left
                · intro W hSw
                  try dsimp only at hSw
                  go_simp
                  try with_reducible rfl
                try simp only [Act.put]
                try simp only [List.setIfInBounds_toArray]
                try simp only [List.set_cons_succ]
                try simp only [List.set_cons_zero]
                refine takeD (i := 7) (v := ?_) (some 103) rfl rfl (by kernel_rfl) (by kernel_rfl) (by kernel_rfl) (fun _ _ _ h => h) (by rfl) hHeld ?_ ?_
                rotate_left
                · intro W hSw
                  try dsimp only at hSw
                  go_simp
                  try with_reducible rfl
                try simp only [Act.put]
                try simp only [List.setIfInBounds_toArray]
                try simp only [List.set_cons_succ]
                try simp only [List.set_cons_zero]
                refine takeD (i := 8) (v := ?_) (some 104) rfl rfl (by kernel_rfl) (by kernel_rfl) (by kernel_rfl) (fun _ _ _ h => h) (by rfl) hHeld ?_ ?_
                rotate_left
                · intro W hSw
                  try dsimp only at hSw
                  go_simp
                  try with_reducible rfl
                try simp only [Act.put]
                try simp only [List.setIfInBounds_toArray]
                try simp only [List.set_cons_succ]
                try simp only [List.set_cons_zero]
                refine wpAnyH_ready (rs := [11]) (by kernel_rfl) (by simp) ?_
                refine AllReadyH.cons rfl (fun K hK => ?_) AllReadyH.nil
                go_simp
                obtain ⟨c0, c1, c2, c3, c4⟩ := YH121.out.cells5
                have cf0 := YH121.out.free 0
                have cf1 := YH121.out.free 1
                have cf2 := YH121.out.free 2
                have cf3 := YH121.out.free 3
                have cf4 := YH121.out.free 4
                go_simp
                obtain ⟨wr122, hwr122⟩ : ∃ W, Hid (W = (((((wr121.setCell ⟨wr105.heap.size, 0, none⟩ (.int .i64 ID)).setCell ⟨wr105.heap.size, 1, none⟩ (.bool UP)).setCell ⟨wr105.heap.size, 2, none⟩ (.int .i64 ROOM)).setCell ⟨wr105.heap.size, 3, none⟩ (.slice a121 RS.length cp121)).setCell ⟨wr105.heap.size, 4, none⟩ (.int .i64 F))) := ⟨_, rfl⟩
                have NE122 := ne_hw YH121.out YW121.out
                have Z122 : Hid (wr121.heap.size ≤ wr122.heap.size) := Nat.le_trans ZZ121.out (Nat.le_of_eq (by rw [hwr122.out]; simp))
                have YH122 : Hid (Blk wr122 wr105.heap.size #[.int .i64 ID, .bool UP, .int .i64 ROOM, .slice a121 RS.length cp121, .int .i64 F] 34) := by show Blk _ _ _ _; rw [hwr122.out]; exact blk_h5 YH121.out
                have YW122 : Hid (Blk wr122 wr115.heap.size #[.int .i64 0, .int .i64 0, .int .i64 0, .int .i64 0] 35) := by show Blk _ _ _ _; rw [hwr122.out]; exact blk_h5o YW121.out (fun e => NE122 e.symm)
                have O122 : Hid (OwnRecs wr122 wr120.heap.size wr121.heap.size (.slice a121 RS.length cp121) ps121) := by show OwnRecs _ _ _ _ _; rw [hwr122.out]; exact own_h5 OO121.out YH121.out
                have L122 : Hid (Below w15.heap.size w15 wr122) := by show Below _ _ _; rw [hwr122.out]; exact bel_h5 L121.out BYH115.out
                rw [← hwr122.out]
                clear c0 cf0 c1 cf1 c2 cf2 c3 cf3 c4 cf4
                try dsimp only
                refine hK.out _ _ (KK.out _ L122.out) (fun hHeld => ?_)
                clear hK K
                refine wpAnyH_ready (rs := [12]) (by kernel_rfl) (by simp) ?_
                refine AllReadyH.cons rfl (fun K hK => ?_) AllReadyH.nil
                go_simp
                obtain ⟨c0, c1, c2, c3⟩ := YW122.out.cells4
                have cf0 := YW122.out.free 0
                have cf1 := YW122.out.free 1
                have cf2 := YW122.out.free 2
                have cf3 := YW122.out.free 3
                go_simp
                obtain ⟨wr123, hwr123⟩ : ∃ W, Hid (W = ((((wr122.setCell ⟨wr115.heap.size, 0, none⟩ (.int .i64 X1)).setCell ⟨wr115.heap.size, 1, none⟩ (.int .i64 X2)).setCell ⟨wr115.heap.size, 2, none⟩ (.int .i64 X3)).setCell ⟨wr115.heap.size, 3, none⟩ (.int .i64 0))) := ⟨_, rfl⟩
                have Z123 : Hid (wr121.heap.size ≤ wr123.heap.size) := Nat.le_trans Z122.out (Nat.le_of_eq (by rw [hwr123.out]; simp))
                have NEX123 : wr105.heap.size ≠ wr115.heap.size := NE122
                have YW123 : Hid (Blk wr123 wr115.heap.size #[.int .i64 X1, .int .i64 X2, .int .i64 X3, .int .i64 0] 35) := by show Blk _ _ _ _; rw [hwr123.out]; exact blk_w4 YW122.out
                have YH123 : Hid (Blk wr123 wr105.heap.size #[.int .i64 ID, .bool UP, .int .i64 ROOM, .slice a121 RS.length cp121, .int .i64 F] 34) := by show Blk _ _ _ _; rw [hwr123.out]; exact blk_w4o YH122.out NEX123
                have O123 : Hid (OwnRecs wr123 wr120.heap.size wr121.heap.size (.slice a121 RS.length cp121) ps121) := by show OwnRecs _ _ _ _ _; rw [hwr123.out]; exact own_w4 O122.out YW122.out
                have L123 : Hid (Below w15.heap.size w15 wr123) := by show Below _ _ _; rw [hwr123.out]; exact bel_w4 L122.out BYW120.out
                rw [← hwr123.out]
                clear c0 cf0 c1 cf1 c2 cf2 c3 cf3
                try dsimp only
                refine hK.out _ _ (KK.out _ L123.out) (fun hHeld => ?_)
                clear hK K
                refine takeD (i := 13) (v := ?_) (some 18) rfl rfl (by kernel_rfl) (by kernel_rfl) (by kernel_rfl) (fun _ _ _ h => h) (by rfl) hHeld ?_ ?_
                rotate_left
                · intro W hSw
                  try dsimp only at hSw
                  go_simp
                  try with_reducible rfl
                try simp only [Act.put]
                try simp only [List.setIfInBounds_toArray]
                try simp only [List.set_cons_succ]
                try simp only [List.set_cons_zero]
                refine wpAnyH_done (by kernel_rfl) ?_ _
                go_wp2_with fail
                go_meet
                case rel => exact ⟨_, _, a121, cp121, ps121, _, _, rfl, rfl, rfl, P121, hide_it ⟨L123.out, YH123.out, YW123.out, O123.out, BYH115.out, BYW120.out, Or.inl AH121.out, Or.inl AW121.out, LL121.out, Z123.out⟩⟩
            · go_simp
              obtain ⟨wr124, hwr124⟩ : ∃ W, Hid (W = wr105.alloc (.cells #[.int .i64 0, .int .i64 0, .int .i64 0, .int .i64 0] 35)) := ⟨_, rfl⟩
              have al124 : Below wr105.heap.size wr105 wr124 := by rw [hwr124.out]; exact alloc_below _ _
              have YWN124 : Hid (Blk wr124 wr105.heap.size #[.int .i64 0, .int .i64 0, .int .i64 0, .int .i64 0] 35) := by show Blk _ _ _ _; rw [hwr124.out]; exact Blk.new _ _ _
              have BYW124 : Hid (w15.heap.size ≤ wr105.heap.size) := L105.out.size
              have V124 := hide_it (V105.out.later al124 (Nat.le_refl _))
              have L124 : Hid (Below w15.heap.size w15 wr124) := L105.out.trans (al124.mono L105.out.size)
              clear al124
              rw [← hwr124.out]
              try dsimp only
              refine hK.out _ _ (KK.out _ L124.out) (fun hHeld => ?_)
              clear hK K
              refine wpAnyH_ready (rs := [4, 9]) (by kernel_rfl) (by simp) ?_
              refine AllReadyH.cons rfl (fun K hK => ?_) (AllReadyH.cons rfl (fun K hK => ?_) AllReadyH.nil)
              · go_simp
                refine (HIM.out _ wr124 V124.out FM104.out (HA.out _ (B15.out.trans (L124.out.mono B15.out.size)))).mono ?_
                rintro e wr125 ⟨a125, cp125, rfl, hm125, hb125⟩
                obtain ⟨ps125, hp125, ho125⟩ := hm125
                have P125 := hide_it hp125
                have OO125 := hide_it ho125
                have ZZ125 : Hid (wr125.heap.size ≤ wr125.heap.size) := Nat.le_refl _
                have LL125 : Hid (w15.heap.size ≤ wr124.heap.size) := L124.out.size
                have AW125 : Hid (wr105.heap.size < wr124.heap.size) := YWN124.out.lt
                have YW125 := hide_it (YWN124.out.after hb125)
                have V125 := hide_it (V124.out.later hb125 (Nat.le_refl _))
                have L125 : Hid (Below w15.heap.size w15 wr125) := L124.out.trans (hb125.mono L124.out.size)
                clear hb125 hp125 ho125
                try dsimp only
                refine hK.out _ _ (KK.out _ L125.out) (fun hHeld => ?_)
                clear hK K
                refine takeD (i := 5) (v := ?_) (some 96) rfl rfl (by kernel_rfl) (by kernel_rfl) (by kernel_rfl) (fun _ _ _ h => h) (by rfl) hHeld ?_ ?_
                rotate_left
                · intro W hSw
                  try dsimp only at hSw
                  go_simp
                  try with_reducible rfl
                try simp only [Act.put]
                try simp only [List.setIfInBounds_toArray]
                try simp only [List.set_cons_succ]
                try simp only [List.set_cons_zero]
                refine takeD (i := 6) (v := ?_) (some 102) rfl rfl (by kernel_rfl) (by kernel_rfl) (by kernel_rfl) (fun _ _ _ h => h) (by rfl) hHeld ?_ ?_
                rotate_left
                · intro W hSw
                  try dsimp only at hSw
                  go_simp
                  try with_reducible rfl
                try simp only [Act.put]
                try simp only [List.setIfInBounds_toArray]
                try simp only [List.set_cons_succ]
                try simp only [List.set_cons_zero]
                refine takeD (i := 7) (v := ?_) (some 103) rfl rfl (by kernel_rfl) (by kernel_rfl) (by kernel_rfl) (fun _ _ _ h => h) (by rfl) hHeld ?_ ?_
                rotate_left
                · intro W hSw
                  try dsimp only at hSw
                  go_simp
                  try with_reducible rfl
                try simp only [Act.put]
                try simp only [List.setIfInBounds_toArray]
                try simp only [List.set_cons_succ]
                try simp only [List.set_cons_zero]
                refine takeD (i := 8) (v := ?_) (some 104) rfl rfl (by kernel_rfl) (by kernel_rfl) (by kernel_rfl) (fun _ _ _ h => h) (by rfl) hHeld ?_ ?_
                rotate_left
                · intro W hSw
                  try dsimp only at hSw
                  go_simp
                  try with_reducible rfl
                try simp only [Act.put]
                try simp only [List.setIfInBounds_toArray]
                try simp only [List.set_cons_succ]
                try simp only [List.set_cons_zero]
                refine wpAnyH_ready (rs := [9]) (by kernel_rfl) (by simp) ?_
                refine AllReadyH.cons rfl (fun K hK => ?_) AllReadyH.nil
                go_simp
                obtain ⟨wr126, hwr126⟩ : ∃ W, Hid (W = wr125.alloc (.cells #[.int .i64 0, .bool false, .int .i64 0, .slice none 0 0, .int .i64 0] 34)) := ⟨_, rfl⟩
                have al126 : Below wr125.heap.size wr125 wr126 := by rw [hwr126.out]; exact alloc_below _ _
                have YHN126 : Hid (Blk wr126 wr125.heap.size #[.int .i64 0, .bool false, .int .i64 0, .slice none 0 0, .int .i64 0] 34) := by show Blk _ _ _ _; rw [hwr126.out]; exact Blk.new _ _ _
                have BYH126 : Hid (w15.heap.size ≤ wr125.heap.size) := L125.out.size
                have YW126 := hide_it (YW125.out.after al126)
                have V126 := hide_it (V125.out.later al126 (Nat.le_refl _))
                have O126 := hide_it (OO125.out.below al126 ZZ125.out)
                have Z126 : Hid (wr125.heap.size ≤ wr126.heap.size) := Nat.le_trans ZZ125.out al126.size
                have L126 : Hid (Below w15.heap.size w15 wr126) := L125.out.trans (al126.mono L125.out.size)
                clear al126
                rw [← hwr126.out]
                try dsimp only
                refine hK.out _ _ (KK.out _ L126.out) (fun hHeld => ?_)
                clear hK K
                refine wpAnyH_ready (rs := [11]) (by kernel_rfl) (by simp) ?_
                refine AllReadyH.cons rfl (fun K hK => ?_) AllReadyH.nil
                go_simp
                obtain ⟨c0, c1, c2, c3, c4⟩ := YHN126.out.cells5
                have cf0 := YHN126.out.free 0
                have cf1 := YHN126.out.free 1
                have cf2 := YHN126.out.free 2
                have cf3 := YHN126.out.free 3
                have cf4 := YHN126.out.free 4
                go_simp
                obtain ⟨wr127, hwr127⟩ : ∃ W, Hid (W = (((((wr126.setCell ⟨wr125.heap.size, 0, none⟩ (.int .i64 ID)).setCell ⟨wr125.heap.size, 1, none⟩ (.bool UP)).setCell ⟨wr125.heap.size, 2, none⟩ (.int .i64 ROOM)).setCell ⟨wr125.heap.size, 3, none⟩ (.slice a125 RS.length cp125)).setCell ⟨wr125.heap.size, 4, none⟩ (.int .i64 F))) := ⟨_, rfl⟩
                have NE127 := ne_hw YHN126.out YW126.out
                have Z127 : Hid (wr125.heap.size ≤ wr127.heap.size) := Nat.le_trans Z126.out (Nat.le_of_eq (by rw [hwr127.out]; simp))
                have YH127 : Hid (Blk wr127 wr125.heap.size #[.int .i64 ID, .bool UP, .int .i64 ROOM, .slice a125 RS.length cp125, .int .i64 F] 34) := by show Blk _ _ _ _; rw [hwr127.out]; exact blk_h5 YHN126.out
                have YW127 : Hid (Blk wr127 wr105.heap.size #[.int .i64 0, .int .i64 0, .int .i64 0, .int .i64 0] 35) := by show Blk _ _ _ _; rw [hwr127.out]; exact blk_h5o YW126.out (fun e => NE127 e.symm)
                have O127 : Hid (OwnRecs wr127 wr124.heap.size wr125.heap.size (.slice a125 RS.length cp125) ps125) := by show OwnRecs _ _ _ _ _; rw [hwr127.out]; exact own_h5 O126.out YHN126.out
                have L127 : Hid (Below w15.heap.size w15 wr127) := by show Below _ _ _; rw [hwr127.out]; exact bel_h5 L126.out BYH126.out
                rw [← hwr127.out]
                clear c0 cf0 c1 cf1 c2 cf2 c3 cf3 c4 cf4
                try dsimp only
                refine hK.out _ _ (KK.out _ L127.out) (fun hHeld => ?_)
                clear hK K
                refine wpAnyH_ready (rs := [12]) (by kernel_rfl) (by simp) ?_
                refine AllReadyH.cons rfl (fun K hK => ?_) AllReadyH.nil
                go_simp
                obtain ⟨c0, c1, c2, c3⟩ := YW127.out.cells4
                have cf0 := YW127.out.free 0
                have cf1 := YW127.out.free 1
                have cf2 := YW127.out.free 2
                have cf3 := YW127.out.free 3
                go_simp
                obtain ⟨wr128, hwr128⟩ : ∃ W, Hid (W = ((((wr127.setCell ⟨wr105.heap.size, 0, none⟩ (.int .i64 X1)).setCell ⟨wr105.heap.size, 1, none⟩ (.int .i64 X2)).setCell ⟨wr105.heap.size, 2, none⟩ (.int .i64 X3)).setCell ⟨wr105.heap.size, 3, none⟩ (.int .i64 0))) := ⟨_, rfl⟩
                have Z128 : Hid (wr125.heap.size ≤ wr128.heap.size) := Nat.le_trans Z127.out (Nat.le_of_eq (by rw [hwr128.out]; simp))
                have NEX128 : wr125.heap.size ≠ wr105.heap.size := NE127
                have YW128 : Hid (Blk wr128 wr105.heap.size #[.int .i64 X1, .int .i64 X2, .int .i64 X3, .int .i64 0] 35) := by show Blk _ _ _ _; rw [hwr128.out]; exact blk_w4 YW127.out
                have YH128 : Hid (Blk wr128 wr125.heap.size #[.int .i64 ID, .bool UP, .int .i64 ROOM, .slice a125 RS.length cp125, .int .i64 F] 34) := by show Blk _ _ _ _; rw [hwr128.out]; exact blk_w4o YH127.out NEX128
                have O128 : Hid (OwnRecs wr128 wr124.heap.size wr125.heap.size (.slice a125 RS.length cp125) ps125) := by show OwnRecs _ _ _ _ _; rw [hwr128.out]; exact own_w4 O127.out YW127.out
                have L128 : Hid (Below w15.heap.size w15 wr128) := by show Below _ _ _; rw [hwr128.out]; exact bel_w4 L127.out BYW124.out
                rw [← hwr128.out]
                clear c0 cf0 c1 cf1 c2 cf2 c3 cf3
                try dsimp only
                refine hK.out _ _ (KK.out _ L128.out) (fun hHeld => ?_)
                clear hK K
                refine takeD (i := 13) (v := ?_) (some 18) rfl rfl (by kernel_rfl) (by kernel_rfl) (by kernel_rfl) (fun _ _ _ h => h) (by rfl) hHeld ?_ ?_
                rotate_left
                · intro W hSw
                  try dsimp only at hSw
                  go_simp
                  try with_reducible rfl
                try simp only [Act.put]
                try simp only [List.setIfInBounds_toArray]
                try simp only [List.set_cons_succ]
                try simp only [List.set_cons_zero]
                refine wpAnyH_done (by kernel_rfl) ?_ _
                go_wp2_with fail
                go_meet
                case rel => exact ⟨_, _, a125, cp125, ps125, _, _, rfl, rfl, rfl, P125, hide_it ⟨L128.out, YH128.out, YW128.out, O128.out, BYH126.out, BYW124.out, Or.inr ZZ125.out, Or.inl AW125.out, LL125.out, Z128.out⟩⟩
              · go_simp
                obtain ⟨wr129, hwr129⟩ : ∃ W, Hid (W = wr124.alloc (.cells #[.int .i64 0, .bool false, .int .i64 0, .slice none 0 0, .int .i64 0] 34)) := ⟨_, rfl⟩
                have al129 : Below wr124.heap.size wr124 wr129 := by rw [hwr129.out]; exact alloc_below _ _
                have YHN129 : Hid (Blk wr129 wr124.heap.size #[.int .i64 0, .bool false, .int .i64 0, .slice none 0 0, .int .i64 0] 34) := by show Blk _ _ _ _; rw [hwr129.out]; exact Blk.new _ _ _
                have BYH129 : Hid (w15.heap.size ≤ wr124.heap.size) := L124.out.size
                have YW129 := hide_it (YWN124.out.after al129)
                have V129 := hide_it (V124.out.later al129 (Nat.le_refl _))
                have L129 : Hid (Below w15.heap.size w15 wr129) := L124.out.trans (al129.mono L124.out.size)
                clear al129
                rw [← hwr129.out]
                try dsimp only
                refine hK.out _ _ (KK.out _ L129.out) (fun hHeld => ?_)
                clear hK K
                refine wpAnyH_ready (rs := [4]) (by kernel_rfl) (by simp) ?_
                refine AllReadyH.cons rfl (fun K hK => ?_) AllReadyH.nil
                go_simp
                refine (HIM.out _ wr129 V129.out FM104.out (HA.out _ (B15.out.trans (L129.out.mono B15.out.size)))).mono ?_
                rintro e wr130 ⟨a130, cp130, rfl, hm130, hb130⟩
                obtain ⟨ps130, hp130, ho130⟩ := hm130
                have P130 := hide_it hp130
                have OO130 := hide_it ho130
                have ZZ130 : Hid (wr130.heap.size ≤ wr130.heap.size) := Nat.le_refl _
                have LL130 : Hid (w15.heap.size ≤ wr129.heap.size) := L129.out.size
                have AH130 : Hid (wr124.heap.size < wr129.heap.size) := YHN129.out.lt
                have AW130 : Hid (wr105.heap.size < wr129.heap.size) := YW129.out.lt
                have YH130 := hide_it (YHN129.out.after hb130)
                have YW130 := hide_it (YW129.out.after hb130)
                have V130 := hide_it (V129.out.later hb130 (Nat.le_refl _))
                have L130 : Hid (Below w15.heap.size w15 wr130) := L129.out.trans (hb130.mono L129.out.size)
                clear hb130 hp130 ho130
                try dsimp only
                refine hK.out _ _ (KK.out _ L130.out) (fun hHeld => ?_)
                clear hK K
                refine takeD (i := 5) (v := ?_) (some 96) rfl rfl (by kernel_rfl) (by kernel_rfl) (by kernel_rfl) (fun _ _ _ h => h) (by rfl) hHeld ?_ ?_
                rotate_left
                · intro W hSw
                  try dsimp only at hSw
                  go_simp
                  try with_reducible rfl
                try simp only [Act.put]
                try simp only [List.setIfInBounds_toArray]
                try simp only [List.set_cons_succ]
                try simp only [List.set_cons_zero]
                refine takeD (i := 6) (v := ?_) (some 102) rfl rfl (by kernel_rfl) (by kernel_rfl) (by kernel_rfl) (fun _ _ _ h => h) (by rfl) hHeld ?_ ?_
                rotate_left
                · intro W hSw
                  try dsimp only at hSw
                  go_simp
                  try with_reducible rfl
                try simp only [Act.put]
                try simp only [List.setIfInBounds_toArray]
                try simp only [List.set_cons_succ]
                try simp only [List.set_cons_zero]
                refine takeD (i := 7) (v := ?_) (some 103) rfl rfl (by kernel_rfl) (by kernel_rfl) (by kernel_rfl) (fun _ _ _ h => h) (by rfl) hHeld ?_ ?_
                rotate_left
                · intro W hSw
                  try dsimp only at hSw
                  go_simp
                  try with_reducible rfl
                try simp only [Act.put]
                try simp only [List.setIfInBounds_toArray]
                try simp only [List.set_cons_succ]
                try simp only [List.set_cons_zero]
                refine takeD (i := 8) (v := ?_) (some 104) rfl rfl (by kernel_rfl) (by kernel_rfl) (by kernel_rfl) (fun _ _ _ h => h) (by rfl) hHeld ?_ ?_
                rotate_left
                · intro W hSw
                  try dsimp only at hSw
                  go_simp
                  try with_reducible rfl
                try simp only [Act.put]
                try simp only [List.setIfInBounds_toArray]
                try simp only [List.set_cons_succ]
                try simp only [List.set_cons_zero]
                refine wpAnyH_ready (rs := [11]) (by kernel_rfl) (by simp) ?_
                refine AllReadyH.cons rfl (fun K hK => ?_) AllReadyH.nil
                go_simp
                obtain ⟨c0, c1, c2, c3, c4⟩ := YH130.out.cells5
                have cf0 := YH130.out.free 0
                have cf1 := YH130.out.free 1
                have cf2 := YH130.out.free 2
                have cf3 := YH130.out.free 3
                have cf4 := YH130.out.free 4
                go_simp
                obtain ⟨wr131, hwr131⟩ : ∃ W, Hid (W = (((((wr130.setCell ⟨wr124.heap.size, 0, none⟩ (.int .i64 ID)).setCell ⟨wr124.heap.size, 1, none⟩ (.bool UP)).setCell ⟨wr124.heap.size, 2, none⟩ (.int .i64 ROOM)).setCell ⟨wr124.heap.size, 3, none⟩ (.slice a130 RS.length cp130)).setCell ⟨wr124.heap.size, 4, none⟩ (.int .i64 F))) := ⟨_, rfl⟩
                have NE131 := ne_hw YH130.out YW130.out
                have Z131 : Hid (wr130.heap.size ≤ wr131.heap.size) := Nat.le_trans ZZ130.out (Nat.le_of_eq (by rw [hwr131.out]; simp))
                have YH131 : Hid (Blk wr131 wr124.heap.size #[.int .i64 ID, .bool UP, .int .i64 ROOM, .slice a130 RS.length cp130, .int .i64 F] 34) := by show Blk _ _ _ _; rw [hwr131.out]; exact blk_h5 YH130.out
                have YW131 : Hid (Blk wr131 wr105.heap.size #[.int .i64 0, .int .i64 0, .int .i64 0, .int .i64 0] 35) := by show Blk _ _ _ _; rw [hwr131.out]; exact blk_h5o YW130.out (fun e => NE131 e.symm)
                have O131 : Hid (OwnRecs wr131 wr129.heap.size wr130.heap.size (.slice a130 RS.length cp130) ps130) := by show OwnRecs _ _ _ _ _; rw [hwr131.out]; exact own_h5 OO130.out YH130.out
                have L131 : Hid (Below w15.heap.size w15 wr131) := by show Below _ _ _; rw [hwr131.out]; exact bel_h5 L130.out BYH129.out
                rw [← hwr131.out]
                clear c0 cf0 c1 cf1 c2 cf2 c3 cf3 c4 cf4
                try dsimp only
                refine hK.out _ _ (KK.out _ L131.out) (fun hHeld => ?_)
                clear hK K
                refine wpAnyH_ready (rs := [12]) (by kernel_rfl) (by simp) ?_
                refine AllReadyH.cons rfl (fun K hK => ?_) AllReadyH.nil
                go_simp
                obtain ⟨c0, c1, c2, c3⟩ := YW131.out.cells4
                have cf0 := YW131.out.free 0
                have cf1 := YW131.out.free 1
                have cf2 := YW131.out.free 2
                have cf3 := YW131.out.free 3
                go_simp
                obtain ⟨wr132, hwr132⟩ : ∃ W, Hid (W = ((((wr131.setCell ⟨wr105.heap.size, 0, none⟩ (.int .i64 X1)).setCell ⟨wr105.heap.size, 1, none⟩ (.int .i64 X2)).setCell ⟨wr105.heap.size, 2, none⟩ (.int .i64 X3)).setCell ⟨wr105.heap.size, 3, none⟩ (.int .i64 0))) := ⟨_, rfl⟩
                have Z132 : Hid (wr130.heap.size ≤ wr132.heap.size) := Nat.le_trans Z131.out (Nat.le_of_eq (by rw [hwr132.out]; simp))
                have NEX132 : wr124.heap.size ≠ wr105.heap.size := NE131
                have YW132 : Hid (Blk wr132 wr105.heap.size #[.int .i64 X1, .int .i64 X2, .int .i64 X3, .int .i64 0] 35) := by show Blk _ _ _ _; rw [hwr132.out]; exact blk_w4 YW131.out
                have YH132 : Hid (Blk wr132 wr124.heap.size #[.int .i64 ID, .bool UP, .int .i64 ROOM, .slice a130 RS.length cp130, .int .i64 F] 34) := by show Blk _ _ _ _; rw [hwr132.out]; exact blk_w4o YH131.out NEX132
                have O132 : Hid (OwnRecs wr132 wr129.heap.size wr130.heap.size (.slice a130 RS.length cp130) ps130) := by show OwnRecs _ _ _ _ _; rw [hwr132.out]; exact own_w4 O131.out YW131.out
                have L132 : Hid (Below w15.heap.size w15 wr132) := by show Below _ _ _; rw [hwr132.out]; exact bel_w4 L131.out BYW124.out
                rw [← hwr132.out]
                clear c0 cf0 c1 cf1 c2 cf2 c3 cf3
                try dsimp only
                refine hK.out _ _ (KK.out _ L132.out) (fun hHeld => ?_)
                clear hK K
                refine takeD (i := 13) (v := ?_) (some 18) rfl rfl (by kernel_rfl) (by kernel_rfl) (by kernel_rfl) (fun _ _ _ h => h) (by rfl) hHeld ?_ ?_
                rotate_left
                · intro W hSw
                  try dsimp only at hSw
                  go_simp
                  try with_reducible rfl
                try simp only [Act.put]
                try simp only [List.setIfInBounds_toArray]
                try simp only [List.set_cons_succ]
                try simp only [List.set_cons_zero]
                refine wpAnyH_done (by kernel_rfl) ?_ _
                go_wp2_with fail
                go_meet
                case rel => exact ⟨_, _, a130, cp130, ps130, _, _, rfl, rfl, rfl, P130, hide_it ⟨L132.out, YH132.out, YW132.out, O132.out, BYH129.out, BYW124.out, Or.inl AH130.out, Or.inl AW130.out, LL130.out, Z132.out⟩⟩
          · go_simp
            obtain ⟨wr133, hwr133⟩ : ∃ W, Hid (W = wr104.alloc (.cells #[.int .i64 0, .bool false, .int .i64 0, .slice none 0 0, .int .i64 0] 34)) := ⟨_, rfl⟩
            have al133 : Below wr104.heap.size wr104 wr133 := by rw [hwr133.out]; exact alloc_below _ _
            have YHN133 : Hid (Blk wr133 wr104.heap.size #[.int .i64 0, .bool false, .int .i64 0, .slice none 0 0, .int .i64 0] 34) := by show Blk _ _ _ _; rw [hwr133.out]; exact Blk.new _ _ _
            have BYH133 : Hid (w15.heap.size ≤ wr104.heap.size) := L104.out.size
            have V133 := hide_it (VV104.out.later al133 (Nat.le_refl _))
            have L133 : Hid (Below w15.heap.size w15 wr133) := L104.out.trans (al133.mono L104.out.size)
            clear al133
            rw [← hwr133.out]
            try dsimp only
            refine hK.out _ _ (KK.out _ L133.out) (fun hHeld => ?_)
            clear hK K
            refine wpAnyH_ready (rs := [3, 10]) (by kernel_rfl) (by simp) ?_
            refine AllReadyH.cons rfl (fun K hK => ?_) (AllReadyH.cons rfl (fun K hK => ?_) AllReadyH.nil)
            · go_simp
              refine (toWord_any k h t m wr133).mono ?_
              rintro e wr134 ⟨rfl, hb134⟩
              have YH134 := hide_it (YHN133.out.after hb134)
              have V134 := hide_it (V133.out.later hb134 (Nat.le_refl _))
              have L134 : Hid (Below w15.heap.size w15 wr134) := L133.out.trans (hb134.mono L133.out.size)
              clear hb134
              try dsimp only
              refine hK.out _ _ (KK.out _ L134.out) (fun hHeld => ?_)
              clear hK K
              refine wpAnyH_ready (rs := [4, 10]) (by kernel_rfl) (by simp) ?_
              refine AllReadyH.cons rfl (fun K hK => ?_) (AllReadyH.cons rfl (fun K hK => ?_) AllReadyH.nil)
              · go_simp
                refine (HIM.out _ wr134 V134.out FM104.out (HA.out _ (B15.out.trans (L134.out.mono B15.out.size)))).mono ?_
                rintro e wr135 ⟨a135, cp135, rfl, hm135, hb135⟩
                obtain ⟨ps135, hp135, ho135⟩ := hm135
                have P135 := hide_it hp135
                have OO135 := hide_it ho135
                have ZZ135 : Hid (wr135.heap.size ≤ wr135.heap.size) := Nat.le_refl _
                have LL135 : Hid (w15.heap.size ≤ wr134.heap.size) := L134.out.size
                have AH135 : Hid (wr104.heap.size < wr134.heap.size) := YH134.out.lt
                have YH135 := hide_it (YH134.out.after hb135)
                have V135 := hide_it (V134.out.later hb135 (Nat.le_refl _))
                have L135 : Hid (Below w15.heap.size w15 wr135) := L134.out.trans (hb135.mono L134.out.size)
                clear hb135 hp135 ho135
                try dsimp only
                refine hK.out _ _ (KK.out _ L135.out) (fun hHeld => ?_)
                clear hK K
                refine takeD (i := 5) (v := ?_) (some 96) rfl rfl (by kernel_rfl) (by kernel_rfl) (by kernel_rfl) (fun _ _ _ h => h) (by rfl) hHeld ?_ ?_
                rotate_left
                · intro W hSw
                  try dsimp only at hSw
                  go_simp
                  try with_reducible rfl
                try simp only [Act.put]
                try simp only [List.setIfInBounds_toArray]
                try simp only [List.set_cons_succ]
                try simp only [List.set_cons_zero]
                refine takeD (i := 6) (v := ?_) (some 102) rfl rfl (by kernel_rfl) (by kernel_rfl) (by kernel_rfl) (fun _ _ _ h => h) (by rfl) hHeld ?_ ?_
                rotate_left
                · intro W hSw
                  try dsimp only at hSw
                  go_simp
                  try with_reducible rfl
                try simp only [Act.put]
                try simp only [List.setIfInBounds_toArray]
                try simp only [List.set_cons_succ]
                try simp only [List.set_cons_zero]
                refine takeD (i := 7) (v := ?_) (some 103) rfl rfl (by kernel_rfl) (by kernel_rfl) (by kernel_rfl) (fun _ _ _ h => h) (by rfl) hHeld ?_ ?_
                rotate_left
                · intro W hSw
                  try dsimp only at hSw
                  go_simp
                  try with_reducible rfl
                try simp only [Act.put]
                try simp only [List.setIfInBounds_toArray]
                try simp only [List.set_cons_succ]
                try simp only [List.set_cons_zero]
                refine takeD (i := 8) (v := ?_) (some 104) rfl rfl (by kernel_rfl) (by kernel_rfl) (by kernel_rfl) (fun _ _ _ h => h) (by rfl) hHeld ?_ ?_
                rotate_left
                · intro W hSw
                  try dsimp only at hSw
                  go_simp
                  try with_reducible rfl
                try simp only [Act.put]
                try simp only [List.setIfInBounds_toArray]
                try simp only [List.set_cons_succ]
                try simp only [List.set_cons_zero]
                refine wpAnyH_ready (rs := [10]) (by kernel_rfl) (by simp) ?_
                refine AllReadyH.cons rfl (fun K hK => ?_) AllReadyH.nil
                go_simp
                obtain ⟨wr136, hwr136⟩ : ∃ W, Hid (W = wr135.alloc (.cells #[.int .i64 0, .int .i64 0, .int .i64 0, .int .i64 0] 35)) := ⟨_, rfl⟩
                have al136 : Below wr135.heap.size wr135 wr136 := by rw [hwr136.out]; exact alloc_below _ _
                have YWN136 : Hid (Blk wr136 wr135.heap.size #[.int .i64 0, .int .i64 0, .int .i64 0, .int .i64 0] 35) := by show Blk _ _ _ _; rw [hwr136.out]; exact Blk.new _ _ _
                have BYW136 : Hid (w15.heap.size ≤ wr135.heap.size) := L135.out.size
                have YH136 := hide_it (YH135.out.after al136)
                have V136 := hide_it (V135.out.later al136 (Nat.le_refl _))
                have O136 := hide_it (OO135.out.below al136 ZZ135.out)
                have Z136 : Hid (wr135.heap.size ≤ wr136.heap.size) := Nat.le_trans ZZ135.out al136.size
                have L136 : Hid (Below w15.heap.size w15 wr136) := L135.out.trans (al136.mono L135.out.size)
                clear al136
                rw [← hwr136.out]
                try dsimp only
                refine hK.out _ _ (KK.out _ L136.out) (fun hHeld => ?_)
                clear hK K
                refine wpAnyH_ready (rs := [11]) (by kernel_rfl) (by simp) ?_
                refine AllReadyH.cons rfl (fun K hK => ?_) AllReadyH.nil
                go_simp
                obtain ⟨c0, c1, c2, c3, c4⟩ := YH136.out.cells5
                have cf0 := YH136.out.free 0
                have cf1 := YH136.out.free 1
                have cf2 := YH136.out.free 2
                have cf3 := YH136.out.free 3
                have cf4 := YH136.out.free 4
                go_simp
                obtain ⟨wr137, hwr137⟩ : ∃ W, Hid (W = (((((wr136.setCell ⟨wr104.heap.size, 0, none⟩ (.int .i64 ID)).setCell ⟨wr104.heap.size, 1, none⟩ (.bool UP)).setCell ⟨wr104.heap.size, 2, none⟩ (.int .i64 ROOM)).setCell ⟨wr104.heap.size, 3, none⟩ (.slice a135 RS.length cp135)).setCell ⟨wr104.heap.size, 4, none⟩ (.int .i64 F))) := ⟨_, rfl⟩
                have NE137 := ne_hw YH136.out YWN136.out
                have Z137 : Hid (wr135.heap.size ≤ wr137.heap.size) := Nat.le_trans Z136.out (Nat.le_of_eq (by rw [hwr137.out]; simp))
                have YH137 : Hid (Blk wr137 wr104.heap.size #[.int .i64 ID, .bool UP, .int .i64 ROOM, .slice a135 RS.length cp135, .int .i64 F] 34) := by show Blk _ _ _ _; rw [hwr137.out]; exact blk_h5 YH136.out
                have YW137 : Hid (Blk wr137 wr135.heap.size #[.int .i64 0, .int .i64 0, .int .i64 0, .int .i64 0] 35) := by show Blk _ _ _ _; rw [hwr137.out]; exact blk_h5o YWN136.out (fun e => NE137 e.symm)
                have O137 : Hid (OwnRecs wr137 wr134.heap.size wr135.heap.size (.slice a135 RS.length cp135) ps135) := by show OwnRecs _ _ _ _ _; rw [hwr137.out]; exact own_h5 O136.out YH136.out
                have L137 : Hid (Below w15.heap.size w15 wr137) := by show Below _ _ _; rw [hwr137.out]; exact bel_h5 L136.out BYH133.out
                rw [← hwr137.out]
                clear c0 cf0 c1 cf1 c2 cf2 c3 cf3 c4 cf4
                try dsimp only
                refine hK.out _ _ (KK.out _ L137.out) (fun hHeld => ?_)
                clear hK K
                refine wpAnyH_ready (rs := [12]) (by kernel_rfl) (by simp) ?_
                refine AllReadyH.cons rfl (fun K hK => ?_) AllReadyH.nil
                go_simp
                obtain ⟨c0, c1, c2, c3⟩ := YW137.out.cells4
                have cf0 := YW137.out.free 0
                have cf1 := YW137.out.free 1
                have cf2 := YW137.out.free 2
                have cf3 := YW137.out.free 3
                go_simp
                obtain ⟨wr138, hwr138⟩ : ∃ W, Hid (W = ((((wr137.setCell ⟨wr135.heap.size, 0, none⟩ (.int .i64 X1)).setCell ⟨wr135.heap.size, 1, none⟩ (.int .i64 X2)).setCell ⟨wr135.heap.size, 2, none⟩ (.int .i64 X3)).setCell ⟨wr135.heap.size, 3, none⟩ (.int .i64 0))) := ⟨_, rfl⟩
                have Z138 : Hid (wr135.heap.size ≤ wr138.heap.size) := Nat.le_trans Z137.out (Nat.le_of_eq (by rw [hwr138.out]; simp))
                have NEX138 : wr104.heap.size ≠ wr135.heap.size := NE137
                have YW138 : Hid (Blk wr138 wr135.heap.size #[.int .i64 X1, .int .i64 X2, .int .i64 X3, .int .i64 0] 35) := by show Blk _ _ _ _; rw [hwr138.out]; exact blk_w4 YW137.out
                have YH138 : Hid (Blk wr138 wr104.heap.size #[.int .i64 ID, .bool UP, .int .i64 ROOM, .slice a135 RS.length cp135, .int .i64 F] 34) := by show Blk _ _ _ _; rw [hwr138.out]; exact blk_w4o YH137.out NEX138
                have O138 : Hid (OwnRecs wr138 wr134.heap.size wr135.heap.size (.slice a135 RS.length cp135) ps135) := by show OwnRecs _ _ _ _ _; rw [hwr138.out]; exact own_w4 O137.out YW137.out
                have L138 : Hid (Below w15.heap.size w15 wr138) := by show Below _ _ _; rw [hwr138.out]; exact bel_w4 L137.out BYW136.out
                rw [← hwr138.out]
                clear c0 cf0 c1 cf1 c2 cf2 c3 cf3
                try dsimp only
                refine hK.out _ _ (KK.out _ L138.out) (fun hHeld => ?_)
                clear hK K
                refine takeD (i := 13) (v := ?_) (some 18) rfl rfl (by kernel_rfl) (by kernel_rfl) (by kernel_rfl) (fun _ _ _ h => h) (by rfl) hHeld ?_ ?_
                rotate_left
                · intro W hSw
                  try dsimp only at hSw
                  go_simp
                  try with_reducible rfl
                try simp only [Act.put]
                try simp only [List.setIfInBounds_toArray]
                try simp only [List.set_cons_succ]
                try simp only [List.set_cons_zero]
                refine wpAnyH_done (by kernel_rfl) ?_ _
                go_wp2_with fail
                go_meet
                case rel => exact ⟨_, _, a135, cp135, ps135, _, _, rfl, rfl, rfl, P135, hide_it ⟨L138.out, YH138.out, YW138.out, O138.out, BYH133.out, BYW136.out, Or.inl AH135.out, Or.inr ZZ135.out, LL135.out, Z138.out⟩⟩
              · go_simp
                obtain ⟨wr139, hwr139⟩ : ∃ W, Hid (W = wr134.alloc (.cells #[.int .i64 0, .int .i64 0, .int .i64 0, .int .i64 0] 35)) := ⟨_, rfl⟩
                have al139 : Below wr134.heap.size wr134 wr139 := by rw [hwr139.out]; exact alloc_below _ _
                have YWN139 : Hid (Blk wr139 wr134.heap.size #[.int .i64 0, .int .i64 0, .int .i64 0, .int .i64 0] 35) := by show Blk _ _ _ _; rw [hwr139.out]; exact Blk.new _ _ _
                have BYW139 : Hid (w15.heap.size ≤ wr134.heap.size) := L134.out.size
                have YH139 := hide_it (YH134.out.after al139)
                have V139 := hide_it (V134.out.later al139 (Nat.le_refl _))
                have L139 : Hid (Below w15.heap.size w15 wr139) := L134.out.trans (al139.mono L134.out.size)
                clear al139
                rw [← hwr139.out]
                try dsimp only
                refine hK.out _ _ (KK.out _ L139.out) (fun hHeld => ?_)
                clear hK K
                refine wpAnyH_ready (rs := [4]) (by kernel_rfl) (by simp) ?_
                refine AllReadyH.cons rfl (fun K hK => ?_) AllReadyH.nil
                go_simp
                refine (HIM.out _ wr139 V139.out FM104.out (HA.out _ (B15.out.trans (L139.out.mono B15.out.size)))).mono ?_
                rintro e wr140 ⟨a140, cp140, rfl, hm140, hb140⟩
                obtain ⟨ps140, hp140, ho140⟩ := hm140
                have P140 := hide_it hp140
                have OO140 := hide_it ho140
                have ZZ140 : Hid (wr140.heap.size ≤ wr140.heap.size) := Nat.le_refl _
                have LL140 : Hid (w15.heap.size ≤ wr139.heap.size) := L139.out.size
                have AH140 : Hid (wr104.heap.size < wr139.heap.size) := YH139.out.lt
                have AW140 : Hid (wr134.heap.size < wr139.heap.size) := YWN139.out.lt
                have YH140 := hide_it (YH139.out.after hb140)
                have YW140 := hide_it (YWN139.out.after hb140)
                have V140 := hide_it (V139.out.later hb140 (Nat.le_refl _))
                have L140 : Hid (Below w15.heap.size w15 wr140) := L139.out.trans (hb140.mono L139.out.size)
                clear hb140 hp140 ho140
                try dsimp only
                refine hK.out _ _ (KK.out _ L140.out) (fun hHeld => ?_)
                clear hK K
                refine takeD (i := 5) (v := ?_) (some 96) rfl rfl (by kernel_rfl) (by kernel_rfl) (by kernel_rfl) (fun _ _ _ h => h) (by rfl) hHeld ?_ ?_
                rotate_left
                · intro W hSw
                  try dsimp only at hSw
                  go_simp
                  try with_reducible rfl
                try simp only [Act.put]
                try simp only [List.setIfInBounds_toArray]
                try simp only [List.set_cons_succ]
                try simp only [List.set_cons_zero]
                refine takeD (i := 6) (v := ?_) (some 102) rfl rfl (by kernel_rfl) (by kernel_rfl) (by kernel_rfl) (fun _ _ _ h => h) (by rfl) hHeld ?_ ?_
                rotate_left
                · intro W hSw
                  try dsimp only at hSw
                  go_simp
                  try with_reducible rfl
                try simp only [Act.put]
                try simp only [List.setIfInBounds_toArray]
                try simp only [List.set_cons_succ]
                try simp only [List.set_cons_zero]
                refine takeD (i := 7) (v := ?_) (some 103) rfl rfl (by kernel_rfl) (by kernel_rfl) (by kernel_rfl) (fun _ _ _ h => h) (by rfl) hHeld ?_ ?_
                rotate_left
                · intro W hSw
                  try dsimp only at hSw
                  go_simp
                  try with_reducible rfl
                try simp only [Act.put]
                try simp only [List.setIfInBounds_toArray]
                try simp only [List.set_cons_succ]
                try simp only [List.set_cons_zero]
                refine takeD (i := 8) (v := ?_) (some 104) rfl rfl (by kernel_rfl) (by kernel_rfl) (by kernel_rfl) (fun _ _ _ h => h) (by rfl) hHeld ?_ ?_
                rotate_left
                · intro W hSw
                  try dsimp only at hSw
                  go_simp
                  try with_reducible rfl
                try simp only [Act.put]
                try simp only [List.setIfInBounds_toArray]
                try simp only [List.set_cons_succ]
                try simp only [List.set_cons_zero]
                refine wpAnyH_ready (rs := [11]) (by kernel_rfl) (by simp) ?_
                refine AllReadyH.cons rfl (fun K hK => ?_) AllReadyH.nil
                go_simp
                obtain ⟨c0, c1, c2, c3, c4⟩ := YH140.out.cells5
                have cf0 := YH140.out.free 0
                have cf1 := YH140.out.free 1
                have cf2 := YH140.out.free 2
                have cf3 := YH140.out.free 3
                have cf4 := YH140.out.free 4
                go_simp
                obtain ⟨wr141, hwr141⟩ : ∃ W, Hid (W = (((((wr140.setCell ⟨wr104.heap.size, 0, none⟩ (.int .i64 ID)).setCell ⟨wr104.heap.size, 1, none⟩ (.bool UP)).setCell ⟨wr104.heap.size, 2, none⟩ (.int .i64 ROOM)).setCell ⟨wr104.heap.size, 3, none⟩ (.slice a140 RS.length cp140)).setCell ⟨wr104.heap.size, 4, none⟩ (.int .i64 F))) := ⟨_, rfl⟩
                have NE141 := ne_hw YH140.out YW140.out
                have Z141 : Hid (wr140.heap.size ≤ wr141.heap.size) := Nat.le_trans ZZ140.out (Nat.le_of_eq (by rw [hwr141.out]; simp))
                have YH141 : Hid (Blk wr141 wr104.heap.size #[.int .i64 ID, .bool UP, .int .i64 ROOM, .slice a140 RS.length cp140, .int .i64 F] 34) := by show Blk _ _ _ _; rw [hwr141.out]; exact blk_h5 YH140.out
                have YW141 : Hid (Blk wr141 wr134.heap.size #[.int .i64 0, .int .i64 0, .int .i64 0, .int .i64 0] 35) := by show Blk _ _ _ _; rw [hwr141.out]; exact blk_h5o YW140.out (fun e => NE141 e.symm)
                have O141 : Hid (OwnRecs wr141 wr139.heap.size wr140.heap.size (.slice a140 RS.length cp140) ps140) := by show OwnRecs _ _ _ _ _; rw [hwr141.out]; exact own_h5 OO140.out YH140.out
                have L141 : Hid (Below w15.heap.size w15 wr141) := by show Below _ _ _; rw [hwr141.out]; exact bel_h5 L140.out BYH133.out
                rw [← hwr141.out]
                clear c0 cf0 c1 cf1 c2 cf2 c3 cf3 c4 cf4
                try dsimp only
                refine hK.out _ _ (KK.out _ L141.out) (fun hHeld => ?_)
                clear hK K
                refine wpAnyH_ready (rs := [12]) (by kernel_rfl) (by simp) ?_
                refine AllReadyH.cons rfl (fun K hK => ?_) AllReadyH.nil
                go_simp
                obtain ⟨c0, c1, c2, c3⟩ := YW141.out.cells4
                have cf0 := YW141.out.free 0
                have cf1 := YW141.out.free 1
                have cf2 := YW141.out.free 2
                have cf3 := YW141.out.free 3
                go_simp
                obtain ⟨wr142, hwr142⟩ : ∃ W, Hid (W = ((((wr141.setCell ⟨wr134.heap.size, 0, none⟩ (.int .i64 X1)).setCell ⟨wr134.heap.size, 1, none⟩ (.int .i64 X2)).setCell ⟨wr134.heap.size, 2, none⟩ (.int .i64 X3)).setCell ⟨wr134.heap.size, 3, none⟩ (.int .i64 0))) := ⟨_, rfl⟩
                have Z142 : Hid (wr140.heap.size ≤ wr142.heap.size) := Nat.le_trans Z141.out (Nat.le_of_eq (by rw [hwr142.out]; simp))
                have NEX142 : wr104.heap.size ≠ wr134.heap.size := NE141
                have YW142 : Hid (Blk wr142 wr134.heap.size #[.int .i64 X1, .int .i64 X2, .int .i64 X3, .int .i64 0] 35) := by show Blk _ _ _ _; rw [hwr142.out]; exact blk_w4 YW141.out
                have YH142 : Hid (Blk wr142 wr104.heap.size #[.int .i64 ID, .bool UP, .int .i64 ROOM, .slice a140 RS.length cp140, .int .i64 F] 34) := by show Blk _ _ _ _; rw [hwr142.out]; exact blk_w4o YH141.out NEX142
                have O142 : Hid (OwnRecs wr142 wr139.heap.size wr140.heap.size (.slice a140 RS.length cp140) ps140) := by show OwnRecs _ _ _ _ _; rw [hwr142.out]; exact own_w4 O141.out YW141.out
                have L142 : Hid (Below w15.heap.size w15 wr142) := by show Below _ _ _; rw [hwr142.out]; exact bel_w4 L141.out BYW139.out
                rw [← hwr142.out]
                clear c0 cf0 c1 cf1 c2 cf2 c3 cf3
                try dsimp only
                refine hK.out _ _ (KK.out _ L142.out) (fun hHeld => ?_)
                clear hK K
                refine takeD (i := 13) (v := ?_) (some 18) rfl rfl (by kernel_rfl) (by kernel_rfl) (by kernel_rfl) (fun _ _ _ h => h) (by rfl) hHeld ?_ ?_
                rotate_left
                · intro W hSw
                  try dsimp only at hSw
                  go_simp
                  try with_reducible rfl
                try simp only [Act.put]
                try simp only [List.setIfInBounds_toArray]
                try simp only [List.set_cons_succ]
                try simp only [List.set_cons_zero]
                refine wpAnyH_done (by kernel_rfl) ?_ _
                go_wp2_with fail
                go_meet
                case rel => exact ⟨_, _, a140, cp140, ps140, _, _, rfl, rfl, rfl, P140, hide_it ⟨L142.out, YH142.out, YW142.out, O142.out, BYH133.out, BYW139.out, Or.inl AH140.out, Or.inl AW140.out, LL140.out, Z142.out⟩⟩
            · go_simp
              obtain ⟨wr143, hwr143⟩ : ∃ W, Hid (W = wr133.alloc (.cells #[.int .i64 0, .int .i64 0, .int .i64 0, .int .i64 0] 35)) := ⟨_, rfl⟩
              have al143 : Below wr133.heap.size wr133 wr143 := by rw [hwr143.out]; exact alloc_below _ _
              have YWN143 : Hid (Blk wr143 wr133.heap.size #[.int .i64 0, .int .i64 0, .int .i64 0, .int .i64 0] 35) := by show Blk _ _ _ _; rw [hwr143.out]; exact Blk.new _ _ _
              have BYW143 : Hid (w15.heap.size ≤ wr133.heap.size) := L133.out.size
              have YH143 := hide_it (YHN133.out.after al143)
              have V143 := hide_it (V133.out.later al143 (Nat.le_refl _))
              have L143 : Hid (Below w15.heap.size w15 wr143) := L133.out.trans (al143.mono L133.out.size)
              clear al143
              rw [← hwr143.out]
              try dsimp only
              refine hK.out _ _ (KK.out _ L143.out) (fun hHeld => ?_)
              clear hK K
              refine wpAnyH_ready (rs := [3]) (by kernel_rfl) (by simp) ?_
              refine AllReadyH.cons rfl (fun K hK => ?_) AllReadyH.nil
              go_simp
              refine (toWord_any k h t m wr143).mono ?_
              rintro e wr144 ⟨rfl, hb144⟩
              have YH144 := hide_it (YH143.out.after hb144)
              have YW144 := hide_it (YWN143.out.after hb144)
              have V144 := hide_it (V143.out.later hb144 (Nat.le_refl _))
              have L144 : Hid (Below w15.heap.size w15 wr144) := L143.out.trans (hb144.mono L143.out.size)
              clear hb144
              try dsimp only
              refine hK.out _ _ (KK.out _ L144.out) (fun hHeld => ?_)
              clear hK K
              refine wpAnyH_ready (rs := [4]) (by kernel_rfl) (by simp) ?_
              refine AllReadyH.cons rfl (fun K hK => ?_) AllReadyH.nil
              go_simp
              refine (HIM.out _ wr144 V144.out FM104.out (HA.out _ (B15.out.trans (L144.out.mono B15.out.size)))).mono ?_
              rintro e wr145 ⟨a145, cp145, rfl, hm145, hb145⟩
              obtain ⟨ps145, hp145, ho145⟩ := hm145
              have P145 := hide_it hp145
              have OO145 := hide_it ho145
              have ZZ145 : Hid (wr145.heap.size ≤ wr145.heap.size) := Nat.le_refl _
              have LL145 : Hid (w15.heap.size ≤ wr144.heap.size) := L144.out.size
              have AH145 : Hid (wr104.heap.size < wr144.heap.size) := YH144.out.lt
              have AW145 : Hid (wr133.heap.size < wr144.heap.size) := YW144.out.lt
              have YH145 := hide_it (YH144.out.after hb145)
              have YW145 := hide_it (YW144.out.after hb145)
              have V145 := hide_it (V144.out.later hb145 (Nat.le_refl _))
              have L145 : Hid (Below w15.heap.size w15 wr145) := L144.out.trans (hb145.mono L144.out.size)
              clear hb145 hp145 ho145
              try dsimp only
              refine hK.out _ _ (KK.out _ L145.out) (fun hHeld => ?_)
              clear hK K
              refine takeD (i := 5) (v := ?_) (some 96) rfl rfl (by kernel_rfl) (by kernel_rfl) (by kernel_rfl) (fun _ _ _ h => h) (by rfl) hHeld ?_ ?_
              rotate_left
              · intro W hSw
                try dsimp only at hSw
                go_simp
                try with_reducible rfl
              try simp only [Act.put]
              try simp only [List.setIfInBounds_toArray]
              try simp only [List.set_cons_succ]
              try simp only [List.set_cons_zero]
              refine takeD (i := 6) (v := ?_) (some 102) rfl rfl (by kernel_rfl) (by kernel_rfl) (by kernel_rfl) (fun _ _ _ h => h) (by rfl) hHeld ?_ ?_
              rotate_left
              · intro W hSw
                try dsimp only at hSw
                go_simp
                try with_reducible rfl
              try simp only [Act.put]
              try simp only [List.setIfInBounds_toArray]
              try simp only [List.set_cons_succ]
              try simp only [List.set_cons_zero]
              refine takeD (i := 7) (v := ?_) (some 103) rfl rfl (by kernel_rfl) (by kernel_rfl) (by kernel_rfl) (fun _ _ _ h => h) (by rfl) hHeld ?_ ?_
              rotate_left
              · intro W hSw
                try dsimp only at hSw
                go_simp
                try with_reducible rfl
              try simp only [Act.put]
              try simp only [List.setIfInBounds_toArray]
              try simp only [List.set_cons_succ]
              try simp only [List.set_cons_zero]
              refine takeD (i := 8) (v := ?_) (some 104) rfl rfl (by kernel_rfl) (by kernel_rfl) (by kernel_rfl) (fun _ _ _ h => h) (by rfl) hHeld ?_ ?_
              rotate_left
              · intro W hSw
                try dsimp only at hSw
                go_simp
                try with_reducible rfl
              try simp only [Act.put]
              try simp only [List.setIfInBounds_toArray]
              try simp only [List.set_cons_succ]
              try simp only [List.set_cons_zero]
              refine wpAnyH_ready (rs := [11]) (by kernel_rfl) (by simp) ?_
              refine AllReadyH.cons rfl (fun K hK => ?_) AllReadyH.nil
              go_simp
              obtain ⟨c0, c1, c2, c3, c4⟩ := YH145.out.cells5
              have cf0 := YH145.out.free 0
              have cf1 := YH145.out.free 1
              have cf2 := YH145.out.free 2
              have cf3 := YH145.out.free 3
              have cf4 := YH145.out.free 4
              go_simp
              obtain ⟨wr146, hwr146⟩ : ∃ W, Hid (W = (((((wr145.setCell ⟨wr104.heap.size, 0, none⟩ (.int .i64 ID)).setCell ⟨wr104.heap.size, 1, none⟩ (.bool UP)).setCell ⟨wr104.heap.size, 2, none⟩ (.int .i64 ROOM)).setCell ⟨wr104.heap.size, 3, none⟩ (.slice a145 RS.length cp145)).setCell ⟨wr104.heap.size, 4, none⟩ (.int .i64 F))) := ⟨_, rfl⟩
              have NE146 := ne_hw YH145.out YW145.out
              have Z146 : Hid (wr145.heap.size ≤ wr146.heap.size) := Nat.le_trans ZZ145.out (Nat.le_of_eq (by rw [hwr146.out]; simp))
              have YH146 : Hid (Blk wr146 wr104.heap.size #[.int .i64 ID, .bool UP, .int .i64 ROOM, .slice a145 RS.length cp145, .int .i64 F] 34) := by show Blk _ _ _ _; rw [hwr146.out]; exact blk_h5 YH145.out
              have YW146 : Hid (Blk wr146 wr133.heap.size #[.int .i64 0, .int .i64 0, .int .i64 0, .int .i64 0] 35) := by show Blk _ _ _ _; rw [hwr146.out]; exact blk_h5o YW145.out (fun e => NE146 e.symm)
              have O146 : Hid (OwnRecs wr146 wr144.heap.size wr145.heap.size (.slice a145 RS.length cp145) ps145) := by show OwnRecs _ _ _ _ _; rw [hwr146.out]; exact own_h5 OO145.out YH145.out
              have L146 : Hid (Below w15.heap.size w15 wr146) := by show Below _ _ _; rw [hwr146.out]; exact bel_h5 L145.out BYH133.out
              rw [← hwr146.out]
              clear c0 cf0 c1 cf1 c2 cf2 c3 cf3 c4 cf4
              try dsimp only
              refine hK.out _ _ (KK.out _ L146.out) (fun hHeld => ?_)
              clear hK K
              refine wpAnyH_ready (rs := [12]) (by kernel_rfl) (by simp) ?_
              refine AllReadyH.cons rfl (fun K hK => ?_) AllReadyH.nil
              go_simp
              obtain ⟨c0, c1, c2, c3⟩ := YW146.out.cells4
              have cf0 := YW146.out.free 0
              have cf1 := YW146.out.free 1
              have cf2 := YW146.out.free 2
              have cf3 := YW146.out.free 3
              go_simp
              obtain ⟨wr147, hwr147⟩ : ∃ W, Hid (W = ((((wr146.setCell ⟨wr133.heap.size, 0, none⟩ (.int .i64 X1)).setCell ⟨wr133.heap.size, 1, none⟩ (.int .i64 X2)).setCell ⟨wr133.heap.size, 2, none⟩ (.int .i64 X3)).setCell ⟨wr133.heap.size, 3, none⟩ (.int .i64 0))) := ⟨_, rfl⟩
              have Z147 : Hid (wr145.heap.size ≤ wr147.heap.size) := Nat.le_trans Z146.out (Nat.le_of_eq (by rw [hwr147.out]; simp))
              have NEX147 : wr104.heap.size ≠ wr133.heap.size := NE146
              have YW147 : Hid (Blk wr147 wr133.heap.size #[.int .i64 X1, .int .i64 X2, .int .i64 X3, .int .i64 0] 35) := by show Blk _ _ _ _; rw [hwr147.out]; exact blk_w4 YW146.out
              have YH147 : Hid (Blk wr147 wr104.heap.size #[.int .i64 ID, .bool UP, .int .i64 ROOM, .slice a145 RS.length cp145, .int .i64 F] 34) := by show Blk _ _ _ _; rw [hwr147.out]; exact blk_w4o YH146.out NEX147
              have O147 : Hid (OwnRecs wr147 wr144.heap.size wr145.heap.size (.slice a145 RS.length cp145) ps145) := by show OwnRecs _ _ _ _ _; rw [hwr147.out]; exact own_w4 O146.out YW146.out
              have L147 : Hid (Below w15.heap.size w15 wr147) := by show Below _ _ _; rw [hwr147.out]; exact bel_w4 L146.out BYW143.out
              rw [← hwr147.out]
              clear c0 cf0 c1 cf1 c2 cf2 c3 cf3
              try dsimp only
              refine hK.out _ _ (KK.out _ L147.out) (fun hHeld => ?_)
              clear hK K
              refine takeD (i := 13) (v := ?_) (some 18) rfl rfl (by kernel_rfl) (by kernel_rfl) (by kernel_rfl) (fun _ _ _ h => h) (by rfl) hHeld ?_ ?_
              rotate_left
              · intro W hSw
                try dsimp only at hSw
                go_simp
                try with_reducible rfl
              try simp only [Act.put]
              try simp only [List.setIfInBounds_toArray]
              try simp only [List.set_cons_succ]
              try simp only [List.set_cons_zero]
              refine wpAnyH_done (by kernel_rfl) ?_ _
              go_wp2_with fail
              go_meet
              case rel => exact ⟨_, _, a145, cp145, ps145, _, _, rfl, rfl, rfl, P145, hide_it ⟨L147.out, YH147.out, YW147.out, O147.out, BYH133.out, BYW143.out, Or.inl AH145.out, Or.inl AW145.out, LL145.out, Z147.out⟩⟩
          · go_simp
            obtain ⟨wr148, hwr148⟩ : ∃ W, Hid (W = wr104.alloc (.cells #[.int .i64 0, .int .i64 0, .int .i64 0, .int .i64 0] 35)) := ⟨_, rfl⟩
            have al148 : Below wr104.heap.size wr104 wr148 := by rw [hwr148.out]; exact alloc_below _ _
            have YWN148 : Hid (Blk wr148 wr104.heap.size #[.int .i64 0, .int .i64 0, .int .i64 0, .int .i64 0] 35) := by show Blk _ _ _ _; rw [hwr148.out]; exact Blk.new _ _ _
            have BYW148 : Hid (w15.heap.size ≤ wr104.heap.size) := L104.out.size
            have V148 := hide_it (VV104.out.later al148 (Nat.le_refl _))
            have L148 : Hid (Below w15.heap.size w15 wr148) := L104.out.trans (al148.mono L104.out.size)
            clear al148
            rw [← hwr148.out]
            try dsimp only
            refine hK.out _ _ (KK.out _ L148.out) (fun hHeld => ?_)
            clear hK K
            refine wpAnyH_ready (rs := [3, 9]) (by kernel_rfl) (by simp) ?_
            refine AllReadyH.cons rfl (fun K hK => ?_) (AllReadyH.cons rfl (fun K hK => ?_) AllReadyH.nil)
            · go_simp
              refine (toWord_any k h t m wr148).mono ?_
              rintro e wr149 ⟨rfl, hb149⟩
              have YW149 := hide_it (YWN148.out.after hb149)
              have V149 := hide_it (V148.out.later hb149 (Nat.le_refl _))
              have L149 : Hid (Below w15.heap.size w15 wr149) := L148.out.trans (hb149.mono L148.out.size)
              clear hb149
              try dsimp only
              refine hK.out _ _ (KK.out _ L149.out) (fun hHeld => ?_)
              clear hK K
              refine wpAnyH_ready (rs := [4, 9]) (by kernel_rfl) (by simp) ?_
              refine AllReadyH.cons rfl (fun K hK => ?_) (AllReadyH.cons rfl (fun K hK => ?_) AllReadyH.nil)
              · go_simp
                refine (HIM.out _ wr149 V149.out FM104.out (HA.out _ (B15.out.trans (L149.out.mono B15.out.size)))).mono ?_
                rintro e wr150 ⟨a150, cp150, rfl, hm150, hb150⟩
                obtain ⟨ps150, hp150, ho150⟩ := hm150
                have P150 := hide_it hp150
                have OO150 := hide_it ho150
                have ZZ150 : Hid (wr150.heap.size ≤ wr150.heap.size) := Nat.le_refl _
                have LL150 : Hid (w15.heap.size ≤ wr149.heap.size) := L149.out.size
                have AW150 : Hid (wr104.heap.size < wr149.heap.size) := YW149.out.lt
                have YW150 := hide_it (YW149.out.after hb150)
                have V150 := hide_it (V149.out.later hb150 (Nat.le_refl _))
                have L150 : Hid (Below w15.heap.size w15 wr150) := L149.out.trans (hb150.mono L149.out.size)
                clear hb150 hp150 ho150
                try dsimp only
                refine hK.out _ _ (KK.out _ L150.out) (fun hHeld => ?_)
                clear hK K
                refine takeD (i := 5) (v := ?_) (some 96) rfl rfl (by kernel_rfl) (by kernel_rfl) (by kernel_rfl) (fun _ _ _ h => h) (by rfl) hHeld ?_ ?_
                rotate_left
                · intro W hSw
                  try dsimp only at hSw
                  go_simp
                  try with_reducible rfl
                try simp only [Act.put]
                try simp only [List.setIfInBounds_toArray]
                try simp only [List.set_cons_succ]
                try simp only [List.set_cons_zero]
                refine takeD (i := 6) (v := ?_) (some 102) rfl rfl (by kernel_rfl) (by kernel_rfl) (by kernel_rfl) (fun _ _ _ h => h) (by rfl) hHeld ?_ ?_
                rotate_left
                · intro W hSw
                  try dsimp only at hSw
                  go_simp
                  try with_reducible rfl
                try simp only [Act.put]
                try simp only [List.setIfInBounds_toArray]
                try simp only [List.set_cons_succ]
                try simp only [List.set_cons_zero]
                refine takeD (i := 7) (v := ?_) (some 103) rfl rfl (by kernel_rfl) (by kernel_rfl) (by kernel_rfl) (fun _ _ _ h => h) (by rfl) hHeld ?_ ?_
                rotate_left
                · intro W hSw
                  try dsimp only at hSw
                  go_simp
                  try with_reducible rfl
                try simp only [Act.put]
                try simp only [List.setIfInBounds_toArray]
                try simp only [List.set_cons_succ]
                try simp only [List.set_cons_zero]
                refine takeD (i := 8) (v := ?_) (some 104) rfl rfl (by kernel_rfl) (by kernel_rfl) (by kernel_rfl) (fun _ _ _ h => h) (by rfl) hHeld ?_ ?_
                rotate_left
                · intro W hSw
                  try dsimp only at hSw
                  go_simp
                  try with_reducible rfl
                try simp only [Act.put]
                try simp only [List.setIfInBounds_toArray]
                try simp only [List.set_cons_succ]
                try simp only [List.set_cons_zero]
                refine wpAnyH_ready (rs := [9]) (by kernel_rfl) (by simp) ?_
                refine AllReadyH.cons rfl (fun K hK => ?_) AllReadyH.nil
                go_simp
                obtain ⟨wr151, hwr151⟩ : ∃ W, Hid (W = wr150.alloc (.cells #[.int .i64 0, .bool false, .int .i64 0, .slice none 0 0, .int .i64 0] 34)) := ⟨_, rfl⟩
                have al151 : Below wr150.heap.size wr150 wr151 := by rw [hwr151.out]; exact alloc_below _ _
                have YHN151 : Hid (Blk wr151 wr150.heap.size #[.int .i64 0, .bool false, .int .i64 0, .slice none 0 0, .int .i64 0] 34) := by show Blk _ _ _ _; rw [hwr151.out]; exact Blk.new _ _ _
                have BYH151 : Hid (w15.heap.size ≤ wr150.heap.size) := L150.out.size
                have YW151 := hide_it (YW150.out.after al151)
                have V151 := hide_it (V150.out.later al151 (Nat.le_refl _))
                have O151 := hide_it (OO150.out.below al151 ZZ150.out)
                have Z151 : Hid (wr150.heap.size ≤ wr151.heap.size) := Nat.le_trans ZZ150.out al151.size
                have L151 : Hid (Below w15.heap.size w15 wr151) := L150.out.trans (al151.mono L150.out.size)
                clear al151
                rw [← hwr151.out]
                try dsimp only
                refine hK.out _ _ (KK.out _ L151.out) (fun hHeld => ?_)
                clear hK K
                refine wpAnyH_ready (rs := [11]) (by kernel_rfl) (by simp) ?_
                refine AllReadyH.cons rfl (fun K hK => ?_) AllReadyH.nil
                go_simp
                obtain ⟨c0, c1, c2, c3, c4⟩ := YHN151.out.cells5
                have cf0 := YHN151.out.free 0
                have cf1 := YHN151.out.free 1
                have cf2 := YHN151.out.free 2
                have cf3 := YHN151.out.free 3
                have cf4 := YHN151.out.free 4
                go_simp
                obtain ⟨wr152, hwr152⟩ : ∃ W, Hid (W = (((((wr151.setCell ⟨wr150.heap.size, 0, none⟩ (.int .i64 ID)).setCell ⟨wr150.heap.size, 1, none⟩ (.bool UP)).setCell ⟨wr150.heap.size, 2, none⟩ (.int .i64 ROOM)).setCell ⟨wr150.heap.size, 3, none⟩ (.slice a150 RS.length cp150)).setCell ⟨wr150.heap.size, 4, none⟩ (.int .i64 F))) := ⟨_, rfl⟩
                have NE152 := ne_hw YHN151.out YW151.out
                have Z152 : Hid (wr150.heap.size ≤ wr152.heap.size) := Nat.le_trans Z151.out (Nat.le_of_eq (by rw [hwr152.out]; simp))
                have YH152 : Hid (Blk wr152 wr150.heap.size #[.int .i64 ID, .bool UP, .int .i64 ROOM, .slice a150 RS.length cp150, .int .i64 F] 34) := by show Blk _ _ _ _; rw [hwr152.out]; exact blk_h5 YHN151.out
                have YW152 : Hid (Blk wr152 wr104.heap.size #[.int .i64 0, .int .i64 0, .int .i64 0, .int .i64 0] 35) := by show Blk _ _ _ _; rw [hwr152.out]; exact blk_h5o YW151.out (fun e => NE152 e.symm)
                have O152 : Hid (OwnRecs wr152 wr149.heap.size wr150.heap.size (.slice a150 RS.length cp150) ps150) := by show OwnRecs _ _ _ _ _; rw [hwr152.out]; exact own_h5 O151.out YHN151.out
                have L152 : Hid (Below w15.heap.size w15 wr152) := by show Below _ _ _; rw [hwr152.out]; exact bel_h5 L151.out BYH151.out
                rw [← hwr152.out]
                clear c0 cf0 c1 cf1 c2 cf2 c3 cf3 c4 cf4
                try dsimp only
                refine hK.out _ _ (KK.out _ L152.out) (fun hHeld => ?_)
                clear hK K
                refine wpAnyH_ready (rs := [12]) (by kernel_rfl) (by simp) ?_
                refine AllReadyH.cons rfl (fun K hK => ?_) AllReadyH.nil
                go_simp
                obtain ⟨c0, c1, c2, c3⟩ := YW152.out.cells4
                have cf0 := YW152.out.free 0
                have cf1 := YW152.out.free 1
                have cf2 := YW152.out.free 2
                have cf3 := YW152.out.free 3
                go_simp
                obtain ⟨wr153, hwr153⟩ : ∃ W, Hid (W = ((((wr152.setCell ⟨wr104.heap.size, 0, none⟩ (.int .i64 X1)).setCell ⟨wr104.heap.size, 1, none⟩ (.int .i64 X2)).setCell ⟨wr104.heap.size, 2, none⟩ (.int .i64 X3)).setCell ⟨wr104.heap.size, 3, none⟩ (.int .i64 0))) := ⟨_, rfl⟩
                have Z153 : Hid (wr150.heap.size ≤ wr153.heap.size) := Nat.le_trans Z152.out (Nat.le_of_eq (by rw [hwr153.out]; simp))
                have NEX153 : wr150.heap.size ≠ wr104.heap.size := NE152
                have YW153 : Hid (Blk wr153 wr104.heap.size #[.int .i64 X1, .int .i64 X2, .int .i64 X3, .int .i64 0] 35) := by show Blk _ _ _ _; rw [hwr153.out]; exact blk_w4 YW152.out
                have YH153 : Hid (Blk wr153 wr150.heap.size #[.int .i64 ID, .bool UP, .int .i64 ROOM, .slice a150 RS.length cp150, .int .i64 F] 34) := by show Blk _ _ _ _; rw [hwr153.out]; exact blk_w4o YH152.out NEX153
                have O153 : Hid (OwnRecs wr153 wr149.heap.size wr150.heap.size (.slice a150 RS.length cp150) ps150) := by show OwnRecs _ _ _ _ _; rw [hwr153.out]; exact own_w4 O152.out YW152.out
                have L153 : Hid (Below w15.heap.size w15 wr153) := by show Below _ _ _; rw [hwr153.out]; exact bel_w4 L152.out BYW148.out
                rw [← hwr153.out]
                clear c0 cf0 c1 cf1 c2 cf2 c3 cf3
                try dsimp only
                refine hK.out _ _ (KK.out _ L153.out) (fun hHeld => ?_)
                clear hK K
                refine takeD (i := 13) (v := ?_) (some 18) rfl rfl (by kernel_rfl) (by kernel_rfl) (by kernel_rfl) (fun _ _ _ h => h) (by rfl) hHeld ?_ ?_
                rotate_left
                · intro W hSw
                  try dsimp only at hSw
                  go_simp
                  try with_reducible rfl
                try simp only [Act.put]
                try simp only [List.setIfInBounds_toArray]
                try simp only [List.set_cons_succ]
                try simp only [List.set_cons_zero]
                refine wpAnyH_done (by kernel_rfl) ?_ _
                go_wp2_with fail
                go_meet
                case rel => exact ⟨_, _, a150, cp150, ps150, _, _, rfl, rfl, rfl, P150, hide_it ⟨L153.out, YH153.out, YW153.out, O153.out, BYH151.out, BYW148.out, Or.inr ZZ150.out, Or.inl AW150.out, LL150.out, Z153.out⟩⟩
              · go_simp
                obtain ⟨wr154, hwr154⟩ : ∃ W, Hid (W = wr149.alloc (.cells #[.int .i64 0, .bool false, .int .i64 0, .slice none 0 0, .int .i64 0] 34)) := ⟨_, rfl⟩
                have al154 : Below wr149.heap.size wr149 wr154 := by rw [hwr154.out]; exact alloc_below _ _
                have YHN154 : Hid (Blk wr154 wr149.heap.size #[.int .i64 0, .bool false, .int .i64 0, .slice none 0 0, .int .i64 0] 34) := by show Blk _ _ _ _; rw [hwr154.out]; exact Blk.new _ _ _
                have BYH154 : Hid (w15.heap.size ≤ wr149.heap.size) := L149.out.size
                have YW154 := hide_it (YW149.out.after al154)
                have V154 := hide_it (V149.out.later al154 (Nat.le_refl _))
                have L154 : Hid (Below w15.heap.size w15 wr154) := L149.out.trans (al154.mono L149.out.size)
                clear al154
                rw [← hwr154.out]
                try dsimp only
                refine hK.out _ _ (KK.out _ L154.out) (fun hHeld => ?_)
                clear hK K
                refine wpAnyH_ready (rs := [4]) (by kernel_rfl) (by simp) ?_
                refine AllReadyH.cons rfl (fun K hK => ?_) AllReadyH.nil
                go_simp
                refine (HIM.out _ wr154 V154.out FM104.out (HA.out _ (B15.out.trans (L154.out.mono B15.out.size)))).mono ?_
                rintro e wr155 ⟨a155, cp155, rfl, hm155, hb155⟩
                obtain ⟨ps155, hp155, ho155⟩ := hm155
                have P155 := hide_it hp155
                have OO155 := hide_it ho155
                have ZZ155 : Hid (wr155.heap.size ≤ wr155.heap.size) := Nat.le_refl _
                have LL155 : Hid (w15.heap.size ≤ wr154.heap.size) := L154.out.size
                have AH155 : Hid (wr149.heap.size < wr154.heap.size) := YHN154.out.lt
                have AW155 : Hid (wr104.heap.size < wr154.heap.size) := YW154.out.lt
                have YH155 := hide_it (YHN154.out.after hb155)
                have YW155 := hide_it (YW154.out.after hb155)
                have V155 := hide_it (V154.out.later hb155 (Nat.le_refl _))
                have L155 : Hid (Below w15.heap.size w15 wr155) := L154.out.trans (hb155.mono L154.out.size)
                clear hb155 hp155 ho155
                try dsimp only
                refine hK.out _ _ (KK.out _ L155.out) (fun hHeld => ?_)
                clear hK K
                refine takeD (i := 5) (v := ?_) (some 96) rfl rfl (by kernel_rfl) (by kernel_rfl) (by kernel_rfl) (fun _ _ _ h => h) (by rfl) hHeld ?_ ?_
                rotate_left
                · intro W hSw
                  try dsimp only at hSw
                  go_simp
                  try with_reducible rfl
                try simp only [Act.put]
                try simp only [List.setIfInBounds_toArray]
                try simp only [List.set_cons_succ]
                try simp only [List.set_cons_zero]
                refine takeD (i := 6) (v := ?_) (some 102) rfl rfl (by kernel_rfl) (by kernel_rfl) (by kernel_rfl) (fun _ _ _ h => h) (by rfl) hHeld ?_ ?_
                rotate_left
                · intro W hSw
                  try dsimp only at hSw
                  go_simp
                  try with_reducible rfl
                try simp only [Act.put]
                try simp only [List.setIfInBounds_toArray]
                try simp only [List.set_cons_succ]
                try simp only [List.set_cons_zero]
                refine takeD (i := 7) (v := ?_) (some 103) rfl rfl (by kernel_rfl) (by kernel_rfl) (by kernel_rfl) (fun _ _ _ h => h) (by rfl) hHeld ?_ ?_
                rotate_left
                · intro W hSw
                  try dsimp only at hSw
                  go_simp
                  try with_reducible rfl
                try simp only [Act.put]
                try simp only [List.setIfInBounds_toArray]
                try simp only [List.set_cons_succ]
                try simp only [List.set_cons_zero]
                refine takeD (i := 8) (v := ?_) (some 104) rfl rfl (by kernel_rfl) (by kernel_rfl) (by kernel_rfl) (fun _ _ _ h => h) (by rfl) hHeld ?_ ?_
                rotate_left
                · intro W hSw
                  try dsimp only at hSw
                  go_simp
                  try with_reducible rfl
                try simp only [Act.put]
                try simp only [List.setIfInBounds_toArray]
                try simp only [List.set_cons_succ]
                try simp only [List.set_cons_zero]
                refine wpAnyH_ready (rs := [11]) (by kernel_rfl) (by simp) ?_
                refine AllReadyH.cons rfl (fun K hK => ?_) AllReadyH.nil
                go_simp
                obtain ⟨c0, c1, c2, c3, c4⟩ := YH155.out.cells5
                have cf0 := YH155.out.free 0
                have cf1 := YH155.out.free 1
                have cf2 := YH155.out.free 2
                have cf3 := YH155.out.free 3
                have cf4 := YH155.out.free 4
                go_simp
                obtain ⟨wr156, hwr156⟩ : ∃ W, Hid (W = (((((wr155.setCell ⟨wr149.heap.size, 0, none⟩ (.int .i64 ID)).setCell ⟨wr149.heap.size, 1, none⟩ (.bool UP)).setCell ⟨wr149.heap.size, 2, none⟩ (.int .i64 ROOM)).setCell ⟨wr149.heap.size, 3, none⟩ (.slice a155 RS.length cp155)).setCell ⟨wr149.heap.size, 4, none⟩ (.int .i64 F))) := ⟨_, rfl⟩
                have NE156 := ne_hw YH155.out YW155.out
                have Z156 : Hid (wr155.heap.size ≤ wr156.heap.size) := Nat.le_trans ZZ155.out (Nat.le_of_eq (by rw [hwr156.out]; simp))
                have YH156 : Hid (Blk wr156 wr149.heap.size #[.int .i64 ID, .bool UP, .int .i64 ROOM, .slice a155 RS.length cp155, .int .i64 F] 34) := by show Blk _ _ _ _; rw [hwr156.out]; exact blk_h5 YH155.out
                have YW156 : Hid (Blk wr156 wr104.heap.size #[.int .i64 0, .int .i64 0, .int .i64 0, .int .i64 0] 35) := by show Blk _ _ _ _; rw [hwr156.out]; exact blk_h5o YW155.out (fun e => NE156 e.symm)
                have O156 : Hid (OwnRecs wr156 wr154.heap.size wr155.heap.size (.slice a155 RS.length cp155) ps155) := by show OwnRecs _ _ _ _ _; rw [hwr156.out]; exact own_h5 OO155.out YH155.out
                have L156 : Hid (Below w15.heap.size w15 wr156) := by show Below _ _ _; rw [hwr156.out]; exact bel_h5 L155.out BYH154.out
                rw [← hwr156.out]
                clear c0 cf0 c1 cf1 c2 cf2 c3 cf3 c4 cf4
                try dsimp only
                refine hK.out _ _ (KK.out _ L156.out) (fun hHeld => ?_)
                clear hK K
                refine wpAnyH_ready (rs := [12]) (by kernel_rfl) (by simp) ?_
                refine AllReadyH.cons rfl (fun K hK => ?_) AllReadyH.nil
                go_simp
                obtain ⟨c0, c1, c2, c3⟩ := YW156.out.cells4
                have cf0 := YW156.out.free 0
                have cf1 := YW156.out.free 1
                have cf2 := YW156.out.free 2
                have cf3 := YW156.out.free 3
                go_simp
                obtain ⟨wr157, hwr157⟩ : ∃ W, Hid (W = ((((wr156.setCell ⟨wr104.heap.size, 0, none⟩ (.int .i64 X1)).setCell ⟨wr104.heap.size, 1, none⟩ (.int .i64 X2)).setCell ⟨wr104.heap.size, 2, none⟩ (.int .i64 X3)).setCell ⟨wr104.heap.size, 3, none⟩ (.int .i64 0))) := ⟨_, rfl⟩
                have Z157 : Hid (wr155.heap.size ≤ wr157.heap.size) := Nat.le_trans Z156.out (Nat.le_of_eq (by rw [hwr157.out]; simp))
                have NEX157 : wr149.heap.size ≠ wr104.heap.size := NE156
                have YW157 : Hid (Blk wr157 wr104.heap.size #[.int .i64 X1, .int .i64 X2, .int .i64 X3, .int .i64 0] 35) := by show Blk _ _ _ _; rw [hwr157.out]; exact blk_w4 YW156.out
                have YH157 : Hid (Blk wr157 wr149.heap.size #[.int .i64 ID, .bool UP, .int .i64 ROOM, .slice a155 RS.length cp155, .int .i64 F] 34) := by show Blk _ _ _ _; rw [hwr157.out]; exact blk_w4o YH156.out NEX157
                have O157 : Hid (OwnRecs wr157 wr154.heap.size wr155.heap.size (.slice a155 RS.length cp155) ps155) := by show OwnRecs _ _ _ _ _; rw [hwr157.out]; exact own_w4 O156.out YW156.out
                have L157 : Hid (Below w15.heap.size w15 wr157) := by show Below _ _ _; rw [hwr157.out]; exact bel_w4 L156.out BYW148.out
                rw [← hwr157.out]
                clear c0 cf0 c1 cf1 c2 cf2 c3 cf3
                try dsimp only
                refine hK.out _ _ (KK.out _ L157.out) (fun hHeld => ?_)
                clear hK K
                refine takeD (i := 13) (v := ?_) (some 18) rfl rfl (by kernel_rfl) (by kernel_rfl) (by kernel_rfl) (fun _ _ _ h => h) (by rfl) hHeld ?_ ?_
                rotate_left
                · intro W hSw
                  try dsimp only at hSw
                  go_simp
                  try with_reducible rfl
                try simp only [Act.put]
                try simp only [List.setIfInBounds_toArray]
                try simp only [List.set_cons_succ]
                try simp only [List.set_cons_zero]
                refine wpAnyH_done (by kernel_rfl) ?_ _
                go_wp2_with fail
                go_meet
                case rel => exact ⟨_, _, a155, cp155, ps155, _, _, rfl, rfl, rfl, P155, hide_it ⟨L157.out, YH157.out, YW157.out, O157.out, BYH154.out, BYW148.out, Or.inl AH155.out, Or.inl AW155.out, LL155.out, Z157.out⟩⟩
            · go_simp
              obtain ⟨wr158, hwr158⟩ : ∃ W, Hid (W = wr148.alloc (.cells #[.int .i64 0, .bool false, .int .i64 0, .slice none 0 0, .int .i64 0] 34)) := ⟨_, rfl⟩
              have al158 : Below wr148.heap.size wr148 wr158 := by rw [hwr158.out]; exact alloc_below _ _
              have YHN158 : Hid (Blk wr158 wr148.heap.size #[.int .i64 0, .bool false, .int .i64 0, .slice none 0 0, .int .i64 0] 34) := by show Blk _ _ _ _; rw [hwr158.out]; exact Blk.new _ _ _
              have BYH158 : Hid (w15.heap.size ≤ wr148.heap.size) := L148.out.size
              have YW158 := hide_it (YWN148.out.after al158)
              have V158 := hide_it (V148.out.later al158 (Nat.le_refl _))
              have L158 : Hid (Below w15.heap.size w15 wr158) := L148.out.trans (al158.mono L148.out.size)
              clear al158
              rw [← hwr158.out]
              try dsimp only
              refine hK.out _ _ (KK.out _ L158.out) (fun hHeld => ?_)
              clear hK K
              refine wpAnyH_ready (rs := [3]) (by kernel_rfl) (by simp) ?_
              refine AllReadyH.cons rfl (fun K hK => ?_) AllReadyH.nil
              go_simp
              refine (toWord_any k h t m wr158).mono ?_
              rintro e wr159 ⟨rfl, hb159⟩
              have YH159 := hide_it (YHN158.out.after hb159)
              have YW159 := hide_it (YW158.out.after hb159)
              have V159 := hide_it (V158.out.later hb159 (Nat.le_refl _))
              have L159 : Hid (Below w15.heap.size w15 wr159) := L158.out.trans (hb159.mono L158.out.size)
              clear hb159
              try dsimp only
              refine hK.out _ _ (KK.out _ L159.out) (fun hHeld => ?_)
              clear hK K
              refine wpAnyH_ready (rs := [4]) (by kernel_rfl) (by simp) ?_
              refine AllReadyH.cons rfl (fun K hK => ?_) AllReadyH.nil
              go_simp
              refine (HIM.out _ wr159 V159.out FM104.out (HA.out _ (B15.out.trans (L159.out.mono B15.out.size)))).mono ?_
              rintro e wr160 ⟨a160, cp160, rfl, hm160, hb160⟩
              obtain ⟨ps160, hp160, ho160⟩ := hm160
              have P160 := hide_it hp160
              have OO160 := hide_it ho160
              have ZZ160 : Hid (wr160.heap.size ≤ wr160.heap.size) := Nat.le_refl _
              have LL160 : Hid (w15.heap.size ≤ wr159.heap.size) := L159.out.size
              have AH160 : Hid (wr148.heap.size < wr159.heap.size) := YH159.out.lt
              have AW160 : Hid (wr104.heap.size < wr159.heap.size) := YW159.out.lt
              have YH160 := hide_it (YH159.out.after hb160)
              have YW160 := hide_it (YW159.out.after hb160)
              have V160 := hide_it (V159.out.later hb160 (Nat.le_refl _))
              have L160 : Hid (Below w15.heap.size w15 wr160) := L159.out.trans (hb160.mono L159.out.size)
              clear hb160 hp160 ho160
              try dsimp only
              refine hK.out _ _ (KK.out _ L160.out) (fun hHeld => ?_)
              clear hK K
              refine takeD (i := 5) (v := ?_) (some 96) rfl rfl (by kernel_rfl) (by kernel_rfl) (by kernel_rfl) (fun _ _ _ h => h) (by rfl) hHeld ?_ ?_
              rotate_left
              · intro W hSw
                try dsimp only at hSw
                go_simp
                try with_reducible rfl
              try simp only [Act.put]
              try simp only [List.setIfInBounds_toArray]
              try simp only [List.set_cons_succ]
              try simp only [List.set_cons_zero]
              refine takeD (i := 6) (v := ?_) (some 102) rfl rfl (by kernel_rfl) (by kernel_rfl) (by kernel_rfl) (fun _ _ _ h => h) (by rfl) hHeld ?_ ?_
              rotate_left
              · intro W hSw
                try dsimp only at hSw
                go_simp
                try with_reducible rfl
              try simp only [Act.put]
              try simp only [List.setIfInBounds_toArray]
              try simp only [List.set_cons_succ]
              try simp only [List.set_cons_zero]
              refine takeD (i := 7) (v := ?_) (some 103) rfl rfl (by kernel_rfl) (by kernel_rfl) (by kernel_rfl) (fun _ _ _ h => h) (by rfl) hHeld ?_ ?_
              rotate_left
              · intro W hSw
                try dsimp only at hSw
                go_simp
                try with_reducible rfl
              try simp only [Act.put]
              try simp only [List.setIfInBounds_toArray]
              try simp only [List.set_cons_succ]
              try simp only [List.set_cons_zero]
              refine takeD (i := 8) (v := ?_) (some 104) rfl rfl (by kernel_rfl) (by kernel_rfl) (by kernel_rfl) (fun _ _ _ h => h) (by rfl) hHeld ?_ ?_
              rotate_left
              · intro W hSw
                try dsimp only at hSw
                go_simp
                try with_reducible rfl
              try simp only [Act.put]
              try simp only [List.setIfInBounds_toArray]
              try simp only [List.set_cons_succ]
              try simp only [List.set_cons_zero]
              refine wpAnyH_ready (rs := [11]) (by kernel_rfl) (by simp) ?_
              refine AllReadyH.cons rfl (fun K hK => ?_) AllReadyH.nil
              go_simp
              obtain ⟨c0, c1, c2, c3, c4⟩ := YH160.out.cells5
              have cf0 := YH160.out.free 0
              have cf1 := YH160.out.free 1
              have cf2 := YH160.out.free 2
              have cf3 := YH160.out.free 3
              have cf4 := YH160.out.free 4
              go_simp
              obtain ⟨wr161, hwr161⟩ : ∃ W, Hid (W = (((((wr160.setCell ⟨wr148.heap.size, 0, none⟩ (.int .i64 ID)).setCell ⟨wr148.heap.size, 1, none⟩ (.bool UP)).setCell ⟨wr148.heap.size, 2, none⟩ (.int .i64 ROOM)).setCell ⟨wr148.heap.size, 3, none⟩ (.slice a160 RS.length cp160)).setCell ⟨wr148.heap.size, 4, none⟩ (.int .i64 F))) := ⟨_, rfl⟩
              have NE161 := ne_hw YH160.out YW160.out
              have Z161 : Hid (wr160.heap.size ≤ wr161.heap.size) := Nat.le_trans ZZ160.out (Nat.le_of_eq (by rw [hwr161.out]; simp))
              have YH161 : Hid (Blk wr161 wr148.heap.size #[.int .i64 ID, .bool UP, .int .i64 ROOM, .slice a160 RS.length cp160, .int .i64 F] 34) := by show Blk _ _ _ _; rw [hwr161.out]; exact blk_h5 YH160.out
              have YW161 : Hid (Blk wr161 wr104.heap.size #[.int .i64 0, .int .i64 0, .int .i64 0, .int .i64 0] 35) := by show Blk _ _ _ _; rw [hwr161.out]; exact blk_h5o YW160.out (fun e => NE161 e.symm)
              have O161 : Hid (OwnRecs wr161 wr159.heap.size wr160.heap.size (.slice a160 RS.length cp160) ps160) := by show OwnRecs _ _ _ _ _; rw [hwr161.out]; exact own_h5 OO160.out YH160.out
              have L161 : Hid (Below w15.heap.size w15 wr161) := by show Below _ _ _; rw [hwr161.out]; exact bel_h5 L160.out BYH158.out
              rw [← hwr161.out]
              clear c0 cf0 c1 cf1 c2 cf2 c3 cf3 c4 cf4
              try dsimp only
              refine hK.out _ _ (KK.out _ L161.out) (fun hHeld => ?_)
              clear hK K
              refine wpAnyH_ready (rs := [12]) (by kernel_rfl) (by simp) ?_
              refine AllReadyH.cons rfl (fun K hK => ?_) AllReadyH.nil
              go_simp
              obtain ⟨c0, c1, c2, c3⟩ := YW161.out.cells4
              have cf0 := YW161.out.free 0
              have cf1 := YW161.out.free 1
              have cf2 := YW161.out.free 2
              have cf3 := YW161.out.free 3
              go_simp
              obtain ⟨wr162, hwr162⟩ : ∃ W, Hid (W = ((((wr161.setCell ⟨wr104.heap.size, 0, none⟩ (.int .i64 X1)).setCell ⟨wr104.heap.size, 1, none⟩ (.int .i64 X2)).setCell ⟨wr104.heap.size, 2, none⟩ (.int .i64 X3)).setCell ⟨wr104.heap.size, 3, none⟩ (.int .i64 0))) := ⟨_, rfl⟩
              have Z162 : Hid (wr160.heap.size ≤ wr162.heap.size) := Nat.le_trans Z161.out (Nat.le_of_eq (by rw [hwr162.out]; simp))
              have NEX162 : wr148.heap.size ≠ wr104.heap.size := NE161
              have YW162 : Hid (Blk wr162 wr104.heap.size #[.int .i64 X1, .int .i64 X2, .int .i64 X3, .int .i64 0] 35) := by show Blk _ _ _ _; rw [hwr162.out]; exact blk_w4 YW161.out
              have YH162 : Hid (Blk wr162 wr148.heap.size #[.int .i64 ID, .bool UP, .int .i64 ROOM, .slice a160 RS.length cp160, .int .i64 F] 34) := by show Blk _ _ _ _; rw [hwr162.out]; exact blk_w4o YH161.out NEX162
              have O162 : Hid (OwnRecs wr162 wr159.heap.size wr160.heap.size (.slice a160 RS.length cp160) ps160) := by show OwnRecs _ _ _ _ _; rw [hwr162.out]; exact own_w4 O161.out YW161.out
              have L162 : Hid (Below w15.heap.size w15 wr162) := by show Below _ _ _; rw [hwr162.out]; exact bel_w4 L161.out BYW148.out
              rw [← hwr162.out]
              clear c0 cf0 c1 cf1 c2 cf2 c3 cf3
              try dsimp only
              refine hK.out _ _ (KK.out _ L162.out) (fun hHeld => ?_)
              clear hK K
              refine takeD (i := 13) (v := ?_) (some 18) rfl rfl (by kernel_rfl) (by kernel_rfl) (by kernel_rfl) (fun _ _ _ h => h) (by rfl) hHeld ?_ ?_
              rotate_left
              · intro W hSw
                try dsimp only at hSw
                go_simp
                try with_reducible rfl
              try simp only [Act.put]
              try simp only [List.setIfInBounds_toArray]
              try simp only [List.set_cons_succ]
              try simp only [List.set_cons_zero]
              refine wpAnyH_done (by kernel_rfl) ?_ _
              go_wp2_with fail
              go_meet
              case rel => exact ⟨_, _, a160, cp160, ps160, _, _, rfl, rfl, rfl, P160, hide_it ⟨L162.out, YH162.out, YW162.out, O162.out, BYH158.out, BYW148.out, Or.inl AH160.out, Or.inl AW160.out, LL160.out, Z162.out⟩⟩
        · go_simp
          obtain ⟨wr163, hwr163⟩ : ∃ W, Hid (W = wdhh24.alloc (.cells #[.int .i64 0, .bool false, .int .i64 0, .slice none 0 0, .int .i64 0] 34)) := ⟨_, rfl⟩
          have al163 : Below wdhh24.heap.size wdhh24 wr163 := by rw [hwr163.out]; exact alloc_below _ _
          have YHN163 : Hid (Blk wr163 wdhh24.heap.size #[.int .i64 0, .bool false, .int .i64 0, .slice none 0 0, .int .i64 0] 34) := by show Blk _ _ _ _; rw [hwr163.out]; exact Blk.new _ _ _
          have BYH163 : Hid (w15.heap.size ≤ wdhh24.heap.size) := Ldhh24.out.size
          have L163 : Hid (Below w15.heap.size w15 wr163) := Ldhh24.out.trans (al163.mono Ldhh24.out.size)
          clear al163
          rw [← hwr163.out]
          try dsimp only
          refine hK.out _ _ (KK.out _ L163.out) (fun hHeld => ?_)
          clear hK K
          refine wpAnyH_ready (rs := [1, 10]) (by kernel_rfl) (by simp) ?_
          refine AllReadyH.cons rfl (fun K hK => ?_) (AllReadyH.cons rfl (fun K hK => ?_) AllReadyH.nil)
          · go_simp
            refine (toHouse_any id up room _ rs f wr163 (HV.out _ (B15.out.trans (L163.out.mono B15.out.size))) hl).mono ?_
            rintro e wr164 ⟨a164, cp164, rfl, hm164, hb164⟩
            have VV164 := hide_it hm164.recs
            have FM164 := hide_it (form_made hm164)
            have YH164 := hide_it (YHN163.out.after hb164)
            have L164 : Hid (Below w15.heap.size w15 wr164) := L163.out.trans (hb164.mono L163.out.size)
            clear hb164 hm164
            try dsimp only
            refine hK.out _ _ (KK.out _ L164.out) (fun hHeld => ?_)
            clear hK K
            refine wpAnyH_ready (rs := [3, 10]) (by kernel_rfl) (by simp) ?_
            refine AllReadyH.cons rfl (fun K hK => ?_) (AllReadyH.cons rfl (fun K hK => ?_) AllReadyH.nil)
            · go_simp
              refine (toWord_any k h t m wr164).mono ?_
              rintro e wr165 ⟨rfl, hb165⟩
              have YH165 := hide_it (YH164.out.after hb165)
              have V165 := hide_it (VV164.out.later hb165 (Nat.le_refl _))
              have L165 : Hid (Below w15.heap.size w15 wr165) := L164.out.trans (hb165.mono L164.out.size)
              clear hb165
              try dsimp only
              refine hK.out _ _ (KK.out _ L165.out) (fun hHeld => ?_)
              clear hK K
              refine wpAnyH_ready (rs := [4, 10]) (by kernel_rfl) (by simp) ?_
              refine AllReadyH.cons rfl (fun K hK => ?_) (AllReadyH.cons rfl (fun K hK => ?_) AllReadyH.nil)
              · go_simp
                refine (HIM.out _ wr165 V165.out FM164.out (HA.out _ (B15.out.trans (L165.out.mono B15.out.size)))).mono ?_
                rintro e wr166 ⟨a166, cp166, rfl, hm166, hb166⟩
                obtain ⟨ps166, hp166, ho166⟩ := hm166
                have P166 := hide_it hp166
                have OO166 := hide_it ho166
                have ZZ166 : Hid (wr166.heap.size ≤ wr166.heap.size) := Nat.le_refl _
                have LL166 : Hid (w15.heap.size ≤ wr165.heap.size) := L165.out.size
                have AH166 : Hid (wdhh24.heap.size < wr165.heap.size) := YH165.out.lt
                have YH166 := hide_it (YH165.out.after hb166)
                have V166 := hide_it (V165.out.later hb166 (Nat.le_refl _))
                have L166 : Hid (Below w15.heap.size w15 wr166) := L165.out.trans (hb166.mono L165.out.size)
                clear hb166 hp166 ho166
                try dsimp only
                refine hK.out _ _ (KK.out _ L166.out) (fun hHeld => ?_)
                clear hK K
                refine takeD (i := 5) (v := ?_) (some 96) rfl rfl (by kernel_rfl) (by kernel_rfl) (by kernel_rfl) (fun _ _ _ h => h) (by rfl) hHeld ?_ ?_
                rotate_left
                · intro W hSw
                  try dsimp only at hSw
                  go_simp
                  try with_reducible rfl
                try simp only [Act.put]
                try simp only [List.setIfInBounds_toArray]
                try simp only [List.set_cons_succ]
                try simp only [List.set_cons_zero]
                refine takeD (i := 6) (v := ?_) (some 102) rfl rfl (by kernel_rfl) (by kernel_rfl) (by kernel_rfl) (fun _ _ _ h => h) (by rfl) hHeld ?_ ?_
                rotate_left
                · intro W hSw
                  try dsimp only at hSw
                  go_simp
                  try with_reducible rfl
                try simp only [Act.put]
                try simp only [List.setIfInBounds_toArray]
                try simp only [List.set_cons_succ]
                try simp only [List.set_cons_zero]
                refine takeD (i := 7) (v := ?_) (some 103) rfl rfl (by kernel_rfl) (by kernel_rfl) (by kernel_rfl) (fun _ _ _ h => h) (by rfl) hHeld ?_ ?_
                rotate_left
                · intro W hSw
                  try dsimp only at hSw
                  go_simp
                  try with_reducible rfl
                try simp only [Act.put]
                try simp only [List.setIfInBounds_toArray]
                try simp only [List.set_cons_succ]
                try simp only [List.set_cons_zero]
                refine takeD (i := 8) (v := ?_) (some 104) rfl rfl (by kernel_rfl) (by kernel_rfl) (by kernel_rfl) (fun _ _ _ h => h) (by rfl) hHeld ?_ ?_
                rotate_left
                · intro W hSw
                  try dsimp only at hSw
                  go_simp
                  try with_reducible rfl
                try simp only [Act.put]
                try simp only [List.setIfInBounds_toArray]
                try simp only [List.set_cons_succ]
                try simp only [List.set_cons_zero]
                refine wpAnyH_ready (rs := [10]) (by kernel_rfl) (by simp) ?_
                refine AllReadyH.cons rfl (fun K hK => ?_) AllReadyH.nil
                go_simp
                obtain ⟨wr167, hwr167⟩ : ∃ W, Hid (W = wr166.alloc (.cells #[.int .i64 0, .int .i64 0, .int .i64 0, .int .i64 0] 35)) := ⟨_, rfl⟩
                have al167 : Below wr166.heap.size wr166 wr167 := by rw [hwr167.out]; exact alloc_below _ _
                have YWN167 : Hid (Blk wr167 wr166.heap.size #[.int .i64 0, .int .i64 0, .int .i64 0, .int .i64 0] 35) := by show Blk _ _ _ _; rw [hwr167.out]; exact Blk.new _ _ _
                have BYW167 : Hid (w15.heap.size ≤ wr166.heap.size) := L166.out.size
                have YH167 := hide_it (YH166.out.after al167)
                have V167 := hide_it (V166.out.later al167 (Nat.le_refl _))
                have O167 := hide_it (OO166.out.below al167 ZZ166.out)
                have Z167 : Hid (wr166.heap.size ≤ wr167.heap.size) := Nat.le_trans ZZ166.out al167.size
                have L167 : Hid (Below w15.heap.size w15 wr167) := L166.out.trans (al167.mono L166.out.size)
                clear al167
                rw [← hwr167.out]
                try dsimp only
                refine hK.out _ _ (KK.out _ L167.out) (fun hHeld => ?_)
                clear hK K
                refine wpAnyH_ready (rs := [11]) (by kernel_rfl) (by simp) ?_
                refine AllReadyH.cons rfl (fun K hK => ?_) AllReadyH.nil
                go_simp
                obtain ⟨c0, c1, c2, c3, c4⟩ := YH167.out.cells5
                have cf0 := YH167.out.free 0
                have cf1 := YH167.out.free 1
                have cf2 := YH167.out.free 2
                have cf3 := YH167.out.free 3
                have cf4 := YH167.out.free 4
                go_simp
                obtain ⟨wr168, hwr168⟩ : ∃ W, Hid (W = (((((wr167.setCell ⟨wdhh24.heap.size, 0, none⟩ (.int .i64 ID)).setCell ⟨wdhh24.heap.size, 1, none⟩ (.bool UP)).setCell ⟨wdhh24.heap.size, 2, none⟩ (.int .i64 ROOM)).setCell ⟨wdhh24.heap.size, 3, none⟩ (.slice a166 RS.length cp166)).setCell ⟨wdhh24.heap.size, 4, none⟩ (.int .i64 F))) := ⟨_, rfl⟩
                have NE168 := ne_hw YH167.out YWN167.out
                have Z168 : Hid (wr166.heap.size ≤ wr168.heap.size) := Nat.le_trans Z167.out (Nat.le_of_eq (by rw [hwr168.out]; simp))
                have YH168 : Hid (Blk wr168 wdhh24.heap.size #[.int .i64 ID, .bool UP, .int .i64 ROOM, .slice a166 RS.length cp166, .int .i64 F] 34) := by show Blk _ _ _ _; rw [hwr168.out]; exact blk_h5 YH167.out
                have YW168 : Hid (Blk wr168 wr166.heap.size #[.int .i64 0, .int .i64 0, .int .i64 0, .int .i64 0] 35) := by show Blk _ _ _ _; rw [hwr168.out]; exact blk_h5o YWN167.out (fun e => NE168 e.symm)
                have O168 : Hid (OwnRecs wr168 wr165.heap.size wr166.heap.size (.slice a166 RS.length cp166) ps166) := by show OwnRecs _ _ _ _ _; rw [hwr168.out]; exact own_h5 O167.out YH167.out
                have L168 : Hid (Below w15.heap.size w15 wr168) := by show Below _ _ _; rw [hwr168.out]; exact bel_h5 L167.out BYH163.out
                rw [← hwr168.out]
                clear c0 cf0 c1 cf1 c2 cf2 c3 cf3 c4 cf4
                try dsimp only
                refine hK.out _ _ (KK.out _ L168.out) (fun hHeld => ?_)
                clear hK K
                refine wpAnyH_ready (rs := [12]) (by kernel_rfl) (by simp) ?_
                refine AllReadyH.cons rfl (fun K hK => ?_) AllReadyH.nil
                go_simp
                obtain ⟨c0, c1, c2, c3⟩ := YW168.out.cells4
                have cf0 := YW168.out.free 0
                have cf1 := YW168.out.free 1
                have cf2 := YW168.out.free 2
                have cf3 := YW168.out.free 3
                go_simp
                obtain ⟨wr169, hwr169⟩ : ∃ W, Hid (W = ((((wr168.setCell ⟨wr166.heap.size, 0, none⟩ (.int .i64 X1)).setCell ⟨wr166.heap.size, 1, none⟩ (.int .i64 X2)).setCell ⟨wr166.heap.size, 2, none⟩ (.int .i64 X3)).setCell ⟨wr166.heap.size, 3, none⟩ (.int .i64 0))) := ⟨_, rfl⟩
                have Z169 : Hid (wr166.heap.size ≤ wr169.heap.size) := Nat.le_trans Z168.out (Nat.le_of_eq (by rw [hwr169.out]; simp))
                have NEX169 : wdhh24.heap.size ≠ wr166.heap.size := NE168
                have YW169 : Hid (Blk wr169 wr166.heap.size #[.int .i64 X1, .int .i64 X2, .int .i64 X3, .int .i64 0] 35) := by show Blk _ _ _ _; rw [hwr169.out]; exact blk_w4 YW168.out
                have YH169 : Hid (Blk wr169 wdhh24.heap.size #[.int .i64 ID, .bool UP, .int .i64 ROOM, .slice a166 RS.length cp166, .int .i64 F] 34) := by show Blk _ _ _ _; rw [hwr169.out]; exact blk_w4o YH168.out NEX169
                have O169 : Hid (OwnRecs wr169 wr165.heap.size wr166.heap.size (.slice a166 RS.length cp166) ps166) := by show OwnRecs _ _ _ _ _; rw [hwr169.out]; exact own_w4 O168.out YW168.out
                have L169 : Hid (Below w15.heap.size w15 wr169) := by show Below _ _ _; rw [hwr169.out]; exact bel_w4 L168.out BYW167.out
                rw [← hwr169.out]
                clear c0 cf0 c1 cf1 c2 cf2 c3 cf3
                try dsimp only
                refine hK.out _ _ (KK.out _ L169.out) (fun hHeld => ?_)
                clear hK K
                refine takeD (i := 13) (v := ?_) (some 18) rfl rfl (by kernel_rfl) (by kernel_rfl) (by kernel_rfl) (fun _ _ _ h => h) (by rfl) hHeld ?_ ?_
                rotate_left
                · intro W hSw
                  try dsimp only at hSw
                  go_simp
                  try with_reducible rfl
                try simp only [Act.put]
                try simp only [List.setIfInBounds_toArray]
                try simp only [List.set_cons_succ]
                try simp only [List.set_cons_zero]
                refine wpAnyH_done (by kernel_rfl) ?_ _
                go_wp2_with fail
                go_meet
                case rel => exact ⟨_, _, a166, cp166, ps166, _, _, rfl, rfl, rfl, P166, hide_it ⟨L169.out, YH169.out, YW169.out, O169.out, BYH163.out, BYW167.out, Or.inl AH166.out, Or.inr ZZ166.out, LL166.out, Z169.out⟩⟩
              · go_simp
                obtain ⟨wr170, hwr170⟩ : ∃ W, Hid (W = wr165.alloc (.cells #[.int .i64 0, .int .i64 0, .int .i64 0, .int .i64 0] 35)) := ⟨_, rfl⟩
                have al170 : Below wr165.heap.size wr165 wr170 := by rw [hwr170.out]; exact alloc_below _ _
                have YWN170 : Hid (Blk wr170 wr165.heap.size #[.int .i64 0, .int .i64 0, .int .i64 0, .int .i64 0] 35) := by show Blk _ _ _ _; rw [hwr170.out]; exact Blk.new _ _ _
                have BYW170 : Hid (w15.heap.size ≤ wr165.heap.size) := L165.out.size
                have YH170 := hide_it (YH165.out.after al170)
                have V170 := hide_it (V165.out.later al170 (Nat.le_refl _))
                have L170 : Hid (Below w15.heap.size w15 wr170) := L165.out.trans (al170.mono L165.out.size)
                clear al170
                rw [← hwr170.out]
                try dsimp only
                refine hK.out _ _ (KK.out _ L170.out) (fun hHeld => ?_)
                clear hK K
                refine wpAnyH_ready (rs := [4]) (by kernel_rfl) (by simp) ?_
                refine AllReadyH.cons rfl (fun K hK => ?_) AllReadyH.nil
                go_simp
                refine (HIM.out _ wr170 V170.out FM164.out (HA.out _ (B15.out.trans (L170.out.mono B15.out.size)))).mono ?_
                rintro e wr171 ⟨a171, cp171, rfl, hm171, hb171⟩
                obtain ⟨ps171, hp171, ho171⟩ := hm171
                have P171 := hide_it hp171
                have OO171 := hide_it ho171
                have ZZ171 : Hid (wr171.heap.size ≤ wr171.heap.size) := Nat.le_refl _
                have LL171 : Hid (w15.heap.size ≤ wr170.heap.size) := L170.out.size
                have AH171 : Hid (wdhh24.heap.size < wr170.heap.size) := YH170.out.lt
                have AW171 : Hid (wr165.heap.size < wr170.heap.size) := YWN170.out.lt
                have YH171 := hide_it (YH170.out.after hb171)
                have YW171 := hide_it (YWN170.out.after hb171)
                have V171 := hide_it (V170.out.later hb171 (Nat.le_refl _))
                have L171 : Hid (Below w15.heap.size w15 wr171) := L170.out.trans (hb171.mono L170.out.size)
                clear hb171 hp171 ho171
                try dsimp only
                refine hK.out _ _ (KK.out _ L171.out) (fun hHeld => ?_)
                clear hK K
                refine takeD (i := 5) (v := ?_) (some 96) rfl rfl (by kernel_rfl) (by kernel_rfl) (by kernel_rfl) (fun _ _ _ h => h) (by rfl) hHeld ?_ ?_
                rotate_left
                · intro W hSw
                  try dsimp only at hSw
                  go_simp
                  try with_reducible rfl
                try simp only [Act.put]
                try simp only [List.setIfInBounds_toArray]
                try simp only [List.set_cons_succ]
                try simp only [List.set_cons_zero]
                refine takeD (i := 6) (v := ?_) (some 102) rfl rfl (by kernel_rfl) (by kernel_rfl) (by kernel_rfl) (fun _ _ _ h => h) (by rfl) hHeld ?_ ?_
                rotate_left
                · intro W hSw
                  try dsimp only at hSw
                  go_simp
                  try with_reducible rfl
                try simp only [Act.put]
                try simp only [List.setIfInBounds_toArray]
                try simp only [List.set_cons_succ]
                try simp only [List.set_cons_zero]
                refine takeD (i := 7) (v := ?_) (some 103) rfl rfl (by kernel_rfl) (by kernel_rfl) (by kernel_rfl) (fun _ _ _ h => h) (by rfl) hHeld ?_ ?_
                rotate_left
                · intro W hSw
                  try dsimp only at hSw
                  go_simp
                  try with_reducible rfl
                try simp only [Act.put]
                try simp only [List.setIfInBounds_toArray]
                try simp only [List.set_cons_succ]
                try simp only [List.set_cons_zero]
                refine takeD (i := 8) (v := ?_) (some 104) rfl rfl (by kernel_rfl) (by kernel_rfl) (by kernel_rfl) (fun _ _ _ h => h) (by rfl) hHeld ?_ ?_
                rotate_left
                · intro W hSw
                  try dsimp only at hSw
                  go_simp
                  try with_reducible rfl
                try simp only [Act.put]
                try simp only [List.setIfInBounds_toArray]
                try simp only [List.set_cons_succ]
                try simp only [List.set_cons_zero]
                refine wpAnyH_ready (rs := [11]) (by kernel_rfl) (by simp) ?_
                refine AllReadyH.cons rfl (fun K hK => ?_) AllReadyH.nil
                go_simp
                obtain ⟨c0, c1, c2, c3, c4⟩ := YH171.out.cells5
                have cf0 := YH171.out.free 0
                have cf1 := YH171.out.free 1
                have cf2 := YH171.out.free 2
                have cf3 := YH171.out.free 3
                have cf4 := YH171.out.free 4
                go_simp
                obtain ⟨wr172, hwr172⟩ : ∃ W, Hid (W = (((((wr171.setCell ⟨wdhh24.heap.size, 0, none⟩ (.int .i64 ID)).setCell ⟨wdhh24.heap.size, 1, none⟩ (.bool UP)).setCell ⟨wdhh24.heap.size, 2, none⟩ (.int .i64 ROOM)).setCell ⟨wdhh24.heap.size, 3, none⟩ (.slice a171 RS.length cp171)).setCell ⟨wdhh24.heap.size, 4, none⟩ (.int .i64 F))) := ⟨_, rfl⟩
                have NE172 := ne_hw YH171.out YW171.out
                have Z172 : Hid (wr171.heap.size ≤ wr172.heap.size) := Nat.le_trans ZZ171.out (Nat.le_of_eq (by rw [hwr172.out]; simp))
                have YH172 : Hid (Blk wr172 wdhh24.heap.size #[.int .i64 ID, .bool UP, .int .i64 ROOM, .slice a171 RS.length cp171, .int .i64 F] 34) := by show Blk _ _ _ _; rw [hwr172.out]; exact blk_h5 YH171.out
                have YW172 : Hid (Blk wr172 wr165.heap.size #[.int .i64 0, .int .i64 0, .int .i64 0, .int .i64 0] 35) := by show Blk _ _ _ _; rw [hwr172.out]; exact blk_h5o YW171.out (fun e => NE172 e.symm)
                have O172 : Hid (OwnRecs wr172 wr170.heap.size wr171.heap.size (.slice a171 RS.length cp171) ps171) := by show OwnRecs _ _ _ _ _; rw [hwr172.out]; exact own_h5 OO171.out YH171.out
                have L172 : Hid (Below w15.heap.size w15 wr172) := by show Below _ _ _; rw [hwr172.out]; exact bel_h5 L171.out BYH163.out
                rw [← hwr172.out]
                clear c0 cf0 c1 cf1 c2 cf2 c3 cf3 c4 cf4
                try dsimp only
                refine hK.out _ _ (KK.out _ L172.out) (fun hHeld => ?_)
                clear hK K
                refine wpAnyH_ready (rs := [12]) (by kernel_rfl) (by simp) ?_
                refine AllReadyH.cons rfl (fun K hK => ?_) AllReadyH.nil
                go_simp
                obtain ⟨c0, c1, c2, c3⟩ := YW172.out.cells4
                have cf0 := YW172.out.free 0
                have cf1 := YW172.out.free 1
                have cf2 := YW172.out.free 2
                have cf3 := YW172.out.free 3
                go_simp
                obtain ⟨wr173, hwr173⟩ : ∃ W, Hid (W = ((((wr172.setCell ⟨wr165.heap.size, 0, none⟩ (.int .i64 X1)).setCell ⟨wr165.heap.size, 1, none⟩ (.int .i64 X2)).setCell ⟨wr165.heap.size, 2, none⟩ (.int .i64 X3)).setCell ⟨wr165.heap.size, 3, none⟩ (.int .i64 0))) := ⟨_, rfl⟩
                have Z173 : Hid (wr171.heap.size ≤ wr173.heap.size) := Nat.le_trans Z172.out (Nat.le_of_eq (by rw [hwr173.out]; simp))
                have NEX173 : wdhh24.heap.size ≠ wr165.heap.size := NE172
                have YW173 : Hid (Blk wr173 wr165.heap.size #[.int .i64 X1, .int .i64 X2, .int .i64 X3, .int .i64 0] 35) := by show Blk _ _ _ _; rw [hwr173.out]; exact blk_w4 YW172.out
                have YH173 : Hid (Blk wr173 wdhh24.heap.size #[.int .i64 ID, .bool UP, .int .i64 ROOM, .slice a171 RS.length cp171, .int .i64 F] 34) := by show Blk _ _ _ _; rw [hwr173.out]; exact blk_w4o YH172.out NEX173
                have O173 : Hid (OwnRecs wr173 wr170.heap.size wr171.heap.size (.slice a171 RS.length cp171) ps171) := by show OwnRecs _ _ _ _ _; rw [hwr173.out]; exact own_w4 O172.out YW172.out
                have L173 : Hid (Below w15.heap.size w15 wr173) := by show Below _ _ _; rw [hwr173.out]; exact bel_w4 L172.out BYW170.out
                rw [← hwr173.out]
                clear c0 cf0 c1 cf1 c2 cf2 c3 cf3
                try dsimp only
                refine hK.out _ _ (KK.out _ L173.out) (fun hHeld => ?_)
                clear hK K
                refine takeD (i := 13) (v := ?_) (some 18) rfl rfl (by kernel_rfl) (by kernel_rfl) (by kernel_rfl) (fun _ _ _ h => h) (by rfl) hHeld ?_ ?_
                rotate_left
                · intro W hSw
                  try dsimp only at hSw
                  go_simp
                  try with_reducible rfl
                try simp only [Act.put]
                try simp only [List.setIfInBounds_toArray]
                try simp only [List.set_cons_succ]
                try simp only [List.set_cons_zero]
                refine wpAnyH_done (by kernel_rfl) ?_ _
                go_wp2_with fail
                go_meet
                case rel => exact ⟨_, _, a171, cp171, ps171, _, _, rfl, rfl, rfl, P171, hide_it ⟨L173.out, YH173.out, YW173.out, O173.out, BYH163.out, BYW170.out, Or.inl AH171.out, Or.inl AW171.out, LL171.out, Z173.out⟩⟩
            · go_simp
              obtain ⟨wr174, hwr174⟩ : ∃ W, Hid (W = wr164.alloc (.cells #[.int .i64 0, .int .i64 0, .int .i64 0, .int .i64 0] 35)) := ⟨_, rfl⟩
              have al174 : Below wr164.heap.size wr164 wr174 := by rw [hwr174.out]; exact alloc_below _ _
              have YWN174 : Hid (Blk wr174 wr164.heap.size #[.int .i64 0, .int .i64 0, .int .i64 0, .int .i64 0] 35) := by show Blk _ _ _ _; rw [hwr174.out]; exact Blk.new _ _ _
              have BYW174 : Hid (w15.heap.size ≤ wr164.heap.size) := L164.out.size
              have YH174 := hide_it (YH164.out.after al174)
              have V174 := hide_it (VV164.out.later al174 (Nat.le_refl _))
              have L174 : Hid (Below w15.heap.size w15 wr174) := L164.out.trans (al174.mono L164.out.size)
              clear al174
              rw [← hwr174.out]
              try dsimp only
              refine hK.out _ _ (KK.out _ L174.out) (fun hHeld => ?_)
              clear hK K
              refine wpAnyH_ready (rs := [3]) (by kernel_rfl) (by simp) ?_
              refine AllReadyH.cons rfl (fun K hK => ?_) AllReadyH.nil
              go_simp
              refine (toWord_any k h t m wr174).mono ?_
              rintro e wr175 ⟨rfl, hb175⟩
              have YH175 := hide_it (YH174.out.after hb175)
              have YW175 := hide_it (YWN174.out.after hb175)
              have V175 := hide_it (V174.out.later hb175 (Nat.le_refl _))
              have L175 : Hid (Below w15.heap.size w15 wr175) := L174.out.trans (hb175.mono L174.out.size)
              clear hb175
              try dsimp only
              refine hK.out _ _ (KK.out _ L175.out) (fun hHeld => ?_)
              clear hK K
              refine wpAnyH_ready (rs := [4]) (by kernel_rfl) (by simp) ?_
              refine AllReadyH.cons rfl (fun K hK => ?_) AllReadyH.nil
              go_simp
              refine (HIM.out _ wr175 V175.out FM164.out (HA.out _ (B15.out.trans (L175.out.mono B15.out.size)))).mono ?_
              rintro e wr176 ⟨a176, cp176, rfl, hm176, hb176⟩
              obtain ⟨ps176, hp176, ho176⟩ := hm176
              have P176 := hide_it hp176
              have OO176 := hide_it ho176
              have ZZ176 : Hid (wr176.heap.size ≤ wr176.heap.size) := Nat.le_refl _
              have LL176 : Hid (w15.heap.size ≤ wr175.heap.size) := L175.out.size
              have AH176 : Hid (wdhh24.heap.size < wr175.heap.size) := YH175.out.lt
              have AW176 : Hid (wr164.heap.size < wr175.heap.size) := YW175.out.lt
              have YH176 := hide_it (YH175.out.after hb176)
              have YW176 := hide_it (YW175.out.after hb176)
              have V176 := hide_it (V175.out.later hb176 (Nat.le_refl _))
              have L176 : Hid (Below w15.heap.size w15 wr176) := L175.out.trans (hb176.mono L175.out.size)
              clear hb176 hp176 ho176
              try dsimp only
              refine hK.out _ _ (KK.out _ L176.out) (fun hHeld => ?_)
              clear hK K
              refine takeD (i := 5) (v := ?_) (some 96) rfl rfl (by kernel_rfl) (by kernel_rfl) (by kernel_rfl) (fun _ _ _ h => h) (by rfl) hHeld ?_ ?_
              rotate_left
              · intro W hSw
                try dsimp only at hSw
                go_simp
                try with_reducible rfl
              try simp only [Act.put]
              try simp only [List.setIfInBounds_toArray]
              try simp only [List.set_cons_succ]
              try simp only [List.set_cons_zero]
              refine takeD (i := 6) (v := ?_) (some 102) rfl rfl (by kernel_rfl) (by kernel_rfl) (by kernel_rfl) (fun _ _ _ h => h) (by rfl) hHeld ?_ ?_
              rotate_left
              · intro W hSw
                try dsimp only at hSw
                go_simp
                try with_reducible rfl
              try simp only [Act.put]
              try simp only [List.setIfInBounds_toArray]
              try simp only [List.set_cons_succ]
              try simp only [List.set_cons_zero]
              refine takeD (i := 7) (v := ?_) (some 103) rfl rfl (by kernel_rfl) (by kernel_rfl) (by kernel_rfl) (fun _ _ _ h => h) (by rfl) hHeld ?_ ?_
              rotate_left
              · intro W hSw
                try dsimp only at hSw
                go_simp
                try with_reducible rfl
              try simp only [Act.put]
              try simp only [List.setIfInBounds_toArray]
              try simp only [List.set_cons_succ]
              try simp only [List.set_cons_zero]
              refine takeD (i := 8) (v := ?_) (some 104) rfl rfl (by kernel_rfl) (by kernel_rfl) (by kernel_rfl) (fun _ _ _ h => h) (by rfl) hHeld ?_ ?_
              rotate_left
              · intro W hSw
                try dsimp only at hSw
                go_simp
                try with_reducible rfl
              try simp only [Act.put]
              try simp only [List.setIfInBounds_toArray]
              try simp only [List.set_cons_succ]
              try simp only [List.set_cons_zero]
              refine wpAnyH_ready (rs := [11]) (by kernel_rfl) (by simp) ?_
              refine AllReadyH.cons rfl (fun K hK => ?_) AllReadyH.nil
              go_simp
              obtain ⟨c0, c1, c2, c3, c4⟩ := YH176.out.cells5
              have cf0 := YH176.out.free 0
              have cf1 := YH176.out.free 1
              have cf2 := YH176.out.free 2
              have cf3 := YH176.out.free 3
              have cf4 := YH176.out.free 4
              go_simp
              obtain ⟨wr177, hwr177⟩ : ∃ W, Hid (W = (((((wr176.setCell ⟨wdhh24.heap.size, 0, none⟩ (.int .i64 ID)).setCell ⟨wdhh24.heap.size, 1, none⟩ (.bool UP)).setCell ⟨wdhh24.heap.size, 2, none⟩ (.int .i64 ROOM)).setCell ⟨wdhh24.heap.size, 3, none⟩ (.slice a176 RS.length cp176)).setCell ⟨wdhh24.heap.size, 4, none⟩ (.int .i64 F))) := ⟨_, rfl⟩
              have NE177 := ne_hw YH176.out YW176.out
              have Z177 : Hid (wr176.heap.size ≤ wr177.heap.size) := Nat.le_trans ZZ176.out (Nat.le_of_eq (by rw [hwr177.out]; simp))
              have YH177 : Hid (Blk wr177 wdhh24.heap.size #[.int .i64 ID, .bool UP, .int .i64 ROOM, .slice a176 RS.length cp176, .int .i64 F] 34) := by show Blk _ _ _ _; rw [hwr177.out]; exact blk_h5 YH176.out
              have YW177 : Hid (Blk wr177 wr164.heap.size #[.int .i64 0, .int .i64 0, .int .i64 0, .int .i64 0] 35) := by show Blk _ _ _ _; rw [hwr177.out]; exact blk_h5o YW176.out (fun e => NE177 e.symm)
              have O177 : Hid (OwnRecs wr177 wr175.heap.size wr176.heap.size (.slice a176 RS.length cp176) ps176) := by show OwnRecs _ _ _ _ _; rw [hwr177.out]; exact own_h5 OO176.out YH176.out
              have L177 : Hid (Below w15.heap.size w15 wr177) := by show Below _ _ _; rw [hwr177.out]; exact bel_h5 L176.out BYH163.out
              rw [← hwr177.out]
              clear c0 cf0 c1 cf1 c2 cf2 c3 cf3 c4 cf4
              try dsimp only
              refine hK.out _ _ (KK.out _ L177.out) (fun hHeld => ?_)
              clear hK K
              refine wpAnyH_ready (rs := [12]) (by kernel_rfl) (by simp) ?_
              refine AllReadyH.cons rfl (fun K hK => ?_) AllReadyH.nil
              go_simp
              obtain ⟨c0, c1, c2, c3⟩ := YW177.out.cells4
              have cf0 := YW177.out.free 0
              have cf1 := YW177.out.free 1
              have cf2 := YW177.out.free 2
              have cf3 := YW177.out.free 3
              go_simp
              obtain ⟨wr178, hwr178⟩ : ∃ W, Hid (W = ((((wr177.setCell ⟨wr164.heap.size, 0, none⟩ (.int .i64 X1)).setCell ⟨wr164.heap.size, 1, none⟩ (.int .i64 X2)).setCell ⟨wr164.heap.size, 2, none⟩ (.int .i64 X3)).setCell ⟨wr164.heap.size, 3, none⟩ (.int .i64 0))) := ⟨_, rfl⟩
              have Z178 : Hid (wr176.heap.size ≤ wr178.heap.size) := Nat.le_trans Z177.out (Nat.le_of_eq (by rw [hwr178.out]; simp))
              have NEX178 : wdhh24.heap.size ≠ wr164.heap.size := NE177
              have YW178 : Hid (Blk wr178 wr164.heap.size #[.int .i64 X1, .int .i64 X2, .int .i64 X3, .int .i64 0] 35) := by show Blk _ _ _ _; rw [hwr178.out]; exact blk_w4 YW177.out
              have YH178 : Hid (Blk wr178 wdhh24.heap.size #[.int .i64 ID, .bool UP, .int .i64 ROOM, .slice a176 RS.length cp176, .int .i64 F] 34) := by show Blk _ _ _ _; rw [hwr178.out]; exact blk_w4o YH177.out NEX178
              have O178 : Hid (OwnRecs wr178 wr175.heap.size wr176.heap.size (.slice a176 RS.length cp176) ps176) := by show OwnRecs _ _ _ _ _; rw [hwr178.out]; exact own_w4 O177.out YW177.out
              have L178 : Hid (Below w15.heap.size w15 wr178) := by show Below _ _ _; rw [hwr178.out]; exact bel_w4 L177.out BYW174.out
              rw [← hwr178.out]
              clear c0 cf0 c1 cf1 c2 cf2 c3 cf3
              try dsimp only
              refine hK.out _ _ (KK.out _ L178.out) (fun hHeld => ?_)
              clear hK K
              refine takeD (i := 13) (v := ?_) (some 18) rfl rfl (by kernel_rfl) (by kernel_rfl) (by kernel_rfl) (fun _ _ _ h => h) (by rfl) hHeld ?_ ?_
              rotate_left
              · intro W hSw
                try dsimp only at hSw
                go_simp
                try with_reducible rfl
              try simp only [Act.put]
              try simp only [List.setIfInBounds_toArray]
              try simp only [List.set_cons_succ]
              try simp only [List.set_cons_zero]
              refine wpAnyH_done (by kernel_rfl) ?_ _
              go_wp2_with fail
              go_meet
              case rel => exact ⟨_, _, a176, cp176, ps176, _, _, rfl, rfl, rfl, P176, hide_it ⟨L178.out, YH178.out, YW178.out, O178.out, BYH163.out, BYW174.out, Or.inl AH176.out, Or.inl AW176.out, LL176.out, Z178.out⟩⟩
          · go_simp
            obtain ⟨wr179, hwr179⟩ : ∃ W, Hid (W = wr163.alloc (.cells #[.int .i64 0, .int .i64 0, .int .i64 0, .int .i64 0] 35)) := ⟨_, rfl⟩
            have al179 : Below wr163.heap.size wr163 wr179 := by rw [hwr179.out]; exact alloc_below _ _
            have YWN179 : Hid (Blk wr179 wr163.heap.size #[.int .i64 0, .int .i64 0, .int .i64 0, .int .i64 0] 35) := by show Blk _ _ _ _; rw [hwr179.out]; exact Blk.new _ _ _
            have BYW179 : Hid (w15.heap.size ≤ wr163.heap.size) := L163.out.size
            have YH179 := hide_it (YHN163.out.after al179)
            have L179 : Hid (Below w15.heap.size w15 wr179) := L163.out.trans (al179.mono L163.out.size)
            clear al179
            rw [← hwr179.out]
            try dsimp only
            refine hK.out _ _ (KK.out _ L179.out) (fun hHeld => ?_)
            clear hK K
            refine wpAnyH_ready (rs := [1]) (by kernel_rfl) (by simp) ?_
            refine AllReadyH.cons rfl (fun K hK => ?_) AllReadyH.nil
            go_simp
            refine (toHouse_any id up room _ rs f wr179 (HV.out _ (B15.out.trans (L179.out.mono B15.out.size))) hl).mono ?_
            rintro e wr180 ⟨a180, cp180, rfl, hm180, hb180⟩
            have VV180 := hide_it hm180.recs
            have FM180 := hide_it (form_made hm180)
            have YH180 := hide_it (YH179.out.after hb180)
            have YW180 := hide_it (YWN179.out.after hb180)
            have L180 : Hid (Below w15.heap.size w15 wr180) := L179.out.trans (hb180.mono L179.out.size)
            clear hb180 hm180
            try dsimp only
            refine hK.out _ _ (KK.out _ L180.out) (fun hHeld => ?_)
            clear hK K
            refine wpAnyH_ready (rs := [3]) (by kernel_rfl) (by simp) ?_
            refine AllReadyH.cons rfl (fun K hK => ?_) AllReadyH.nil
            go_simp
            refine (toWord_any k h t m wr180).mono ?_
            rintro e wr181 ⟨rfl, hb181⟩
            have YH181 := hide_it (YH180.out.after hb181)
            have YW181 := hide_it (YW180.out.after hb181)
            have V181 := hide_it (VV180.out.later hb181 (Nat.le_refl _))
            have L181 : Hid (Below w15.heap.size w15 wr181) := L180.out.trans (hb181.mono L180.out.size)
            clear hb181
            try dsimp only
            refine hK.out _ _ (KK.out _ L181.out) (fun hHeld => ?_)
            clear hK K
            refine wpAnyH_ready (rs := [4]) (by kernel_rfl) (by simp) ?_
            refine AllReadyH.cons rfl (fun K hK => ?_) AllReadyH.nil
            go_simp
            refine (HIM.out _ wr181 V181.out FM180.out (HA.out _ (B15.out.trans (L181.out.mono B15.out.size)))).mono ?_
            rintro e wr182 ⟨a182, cp182, rfl, hm182, hb182⟩
            obtain ⟨ps182, hp182, ho182⟩ := hm182
            have P182 := hide_it hp182
            have OO182 := hide_it ho182
            have ZZ182 : Hid (wr182.heap.size ≤ wr182.heap.size) := Nat.le_refl _
            have LL182 : Hid (w15.heap.size ≤ wr181.heap.size) := L181.out.size
            have AH182 : Hid (wdhh24.heap.size < wr181.heap.size) := YH181.out.lt
            have AW182 : Hid (wr163.heap.size < wr181.heap.size) := YW181.out.lt
            have YH182 := hide_it (YH181.out.after hb182)
            have YW182 := hide_it (YW181.out.after hb182)
            have V182 := hide_it (V181.out.later hb182 (Nat.le_refl _))
            have L182 : Hid (Below w15.heap.size w15 wr182) := L181.out.trans (hb182.mono L181.out.size)
            clear hb182 hp182 ho182
            try dsimp only
            refine hK.out _ _ (KK.out _ L182.out) (fun hHeld => ?_)
            clear hK K
            refine takeD (i := 5) (v := ?_) (some 96) rfl rfl (by kernel_rfl) (by kernel_rfl) (by kernel_rfl) (fun _ _ _ h => h) (by rfl) hHeld ?_ ?_
            rotate_left
            · intro W hSw
              try dsimp only at hSw
              go_simp
              try with_reducible rfl
            try simp only [Act.put]
            try simp only [List.setIfInBounds_toArray]
            try simp only [List.set_cons_succ]
            try simp only [List.set_cons_zero]
            refine takeD (i := 6) (v := ?_) (some 102) rfl rfl (by kernel_rfl) (by kernel_rfl) (by kernel_rfl) (fun _ _ _ h => h) (by rfl) hHeld ?_ ?_
            rotate_left
            · intro W hSw
              try dsimp only at hSw
              go_simp
              try with_reducible rfl
            try simp only [Act.put]
            try simp only [List.setIfInBounds_toArray]
            try simp only [List.set_cons_succ]
            try simp only [List.set_cons_zero]
            refine takeD (i := 7) (v := ?_) (some 103) rfl rfl (by kernel_rfl) (by kernel_rfl) (by kernel_rfl) (fun _ _ _ h => h) (by rfl) hHeld ?_ ?_
            rotate_left
            · intro W hSw
              try dsimp only at hSw
              go_simp
              try with_reducible rfl
            try simp only [Act.put]
            try simp only [List.setIfInBounds_toArray]
            try simp only [List.set_cons_succ]
            try simp only [List.set_cons_zero]
            refine takeD (i := 8) (v := ?_) (some 104) rfl rfl (by kernel_rfl) (by kernel_rfl) (by kernel_rfl) (fun _ _ _ h => h) (by rfl) hHeld ?_ ?_
            rotate_left
            · intro W hSw
              try dsimp only at hSw
              go_simp
              try with_reducible rfl
            try simp only [Act.put]
            try simp only [List.setIfInBounds_toArray]
            try simp only [List.set_cons_succ]
            try simp only [List.set_cons_zero]
            refine wpAnyH_ready (rs := [11]) (by kernel_rfl) (by simp) ?_
            refine AllReadyH.cons rfl (fun K hK => ?_) AllReadyH.nil
            go_simp
            obtain ⟨c0, c1, c2, c3, c4⟩ := YH182.out.cells5
            have cf0 := YH182.out.free 0
            have cf1 := YH182.out.free 1
            have cf2 := YH182.out.free 2
            have cf3 := YH182.out.free 3
            have cf4 := YH182.out.free 4
            go_simp
            obtain ⟨wr183, hwr183⟩ : ∃ W, Hid (W = (((((wr182.setCell ⟨wdhh24.heap.size, 0, none⟩ (.int .i64 ID)).setCell ⟨wdhh24.heap.size, 1, none⟩ (.bool UP)).setCell ⟨wdhh24.heap.size, 2, none⟩ (.int .i64 ROOM)).setCell ⟨wdhh24.heap.size, 3, none⟩ (.slice a182 RS.length cp182)).setCell ⟨wdhh24.heap.size, 4, none⟩ (.int .i64 F))) := ⟨_, rfl⟩
            have NE183 := ne_hw YH182.out YW182.out
            have Z183 : Hid (wr182.heap.size ≤ wr183.heap.size) := Nat.le_trans ZZ182.out (Nat.le_of_eq (by rw [hwr183.out]; simp))
            have YH183 : Hid (Blk wr183 wdhh24.heap.size #[.int .i64 ID, .bool UP, .int .i64 ROOM, .slice a182 RS.length cp182, .int .i64 F] 34) := by show Blk _ _ _ _; rw [hwr183.out]; exact blk_h5 YH182.out
            have YW183 : Hid (Blk wr183 wr163.heap.size #[.int .i64 0, .int .i64 0, .int .i64 0, .int .i64 0] 35) := by show Blk _ _ _ _; rw [hwr183.out]; exact blk_h5o YW182.out (fun e => NE183 e.symm)
            have O183 : Hid (OwnRecs wr183 wr181.heap.size wr182.heap.size (.slice a182 RS.length cp182) ps182) := by show OwnRecs _ _ _ _ _; rw [hwr183.out]; exact own_h5 OO182.out YH182.out
            have L183 : Hid (Below w15.heap.size w15 wr183) := by show Below _ _ _; rw [hwr183.out]; exact bel_h5 L182.out BYH163.out
            rw [← hwr183.out]
            clear c0 cf0 c1 cf1 c2 cf2 c3 cf3 c4 cf4
            try dsimp only
            refine hK.out _ _ (KK.out _ L183.out) (fun hHeld => ?_)
            clear hK K
            refine wpAnyH_ready (rs := [12]) (by kernel_rfl) (by simp) ?_
            refine AllReadyH.cons rfl (fun K hK => ?_) AllReadyH.nil
            go_simp
            obtain ⟨c0, c1, c2, c3⟩ := YW183.out.cells4
            have cf0 := YW183.out.free 0
            have cf1 := YW183.out.free 1
            have cf2 := YW183.out.free 2
            have cf3 := YW183.out.free 3
            go_simp
            obtain ⟨wr184, hwr184⟩ : ∃ W, Hid (W = ((((wr183.setCell ⟨wr163.heap.size, 0, none⟩ (.int .i64 X1)).setCell ⟨wr163.heap.size, 1, none⟩ (.int .i64 X2)).setCell ⟨wr163.heap.size, 2, none⟩ (.int .i64 X3)).setCell ⟨wr163.heap.size, 3, none⟩ (.int .i64 0))) := ⟨_, rfl⟩
            have Z184 : Hid (wr182.heap.size ≤ wr184.heap.size) := Nat.le_trans Z183.out (Nat.le_of_eq (by rw [hwr184.out]; simp))
            have NEX184 : wdhh24.heap.size ≠ wr163.heap.size := NE183
            have YW184 : Hid (Blk wr184 wr163.heap.size #[.int .i64 X1, .int .i64 X2, .int .i64 X3, .int .i64 0] 35) := by show Blk _ _ _ _; rw [hwr184.out]; exact blk_w4 YW183.out
            have YH184 : Hid (Blk wr184 wdhh24.heap.size #[.int .i64 ID, .bool UP, .int .i64 ROOM, .slice a182 RS.length cp182, .int .i64 F] 34) := by show Blk _ _ _ _; rw [hwr184.out]; exact blk_w4o YH183.out NEX184
            have O184 : Hid (OwnRecs wr184 wr181.heap.size wr182.heap.size (.slice a182 RS.length cp182) ps182) := by show OwnRecs _ _ _ _ _; rw [hwr184.out]; exact own_w4 O183.out YW183.out
            have L184 : Hid (Below w15.heap.size w15 wr184) := by show Below _ _ _; rw [hwr184.out]; exact bel_w4 L183.out BYW179.out
            rw [← hwr184.out]
            clear c0 cf0 c1 cf1 c2 cf2 c3 cf3
            try dsimp only
            refine hK.out _ _ (KK.out _ L184.out) (fun hHeld => ?_)
            clear hK K
            refine takeD (i := 13) (v := ?_) (some 18) rfl rfl (by kernel_rfl) (by kernel_rfl) (by kernel_rfl) (fun _ _ _ h => h) (by rfl) hHeld ?_ ?_
            rotate_left
            · intro W hSw
              try dsimp only at hSw
              go_simp
              try with_reducible rfl
            try simp only [Act.put]
            try simp only [List.setIfInBounds_toArray]
            try simp only [List.set_cons_succ]
            try simp only [List.set_cons_zero]
            refine wpAnyH_done (by kernel_rfl) ?_ _
            go_wp2_with fail
            go_meet
            case rel => exact ⟨_, _, a182, cp182, ps182, _, _, rfl, rfl, rfl, P182, hide_it ⟨L184.out, YH184.out, YW184.out, O184.out, BYH163.out, BYW179.out, Or.inl AH182.out, Or.inl AW182.out, LL182.out, Z184.out⟩⟩
        · go_simp
          obtain ⟨wr185, hwr185⟩ : ∃ W, Hid (W = wdhh24.alloc (.cells #[.int .i64 0, .int .i64 0, .int .i64 0, .int .i64 0] 35)) := ⟨_, rfl⟩
          have al185 : Below wdhh24.heap.size wdhh24 wr185 := by rw [hwr185.out]; exact alloc_below _ _
          have YWN185 : Hid (Blk wr185 wdhh24.heap.size #[.int .i64 0, .int .i64 0, .int .i64 0, .int .i64 0] 35) := by show Blk _ _ _ _; rw [hwr185.out]; exact Blk.new _ _ _
          have BYW185 : Hid (w15.heap.size ≤ wdhh24.heap.size) := Ldhh24.out.size
          have L185 : Hid (Below w15.heap.size w15 wr185) := Ldhh24.out.trans (al185.mono Ldhh24.out.size)
          clear al185
          rw [← hwr185.out]
          try dsimp only
          refine hK.out _ _ (KK.out _ L185.out) (fun hHeld => ?_)
          clear hK K
          refine wpAnyH_ready (rs := [1, 9]) (by kernel_rfl) (by simp) ?_
          refine AllReadyH.cons rfl (fun K hK => ?_) (AllReadyH.cons rfl (fun K hK => ?_) AllReadyH.nil)
          · go_simp
            refine (toHouse_any id up room _ rs f wr185 (HV.out _ (B15.out.trans (L185.out.mono B15.out.size))) hl).mono ?_
            rintro e wr186 ⟨a186, cp186, rfl, hm186, hb186⟩
            have VV186 := hide_it hm186.recs
            have FM186 := hide_it (form_made hm186)
            have YW186 := hide_it (YWN185.out.after hb186)
            have L186 : Hid (Below w15.heap.size w15 wr186) := L185.out.trans (hb186.mono L185.out.size)
            clear hb186 hm186
            try dsimp only
            refine hK.out _ _ (KK.out _ L186.out) (fun hHeld => ?_)
            clear hK K
            refine wpAnyH_ready (rs := [3, 9]) (by kernel_rfl) (by simp) ?_
            refine AllReadyH.cons rfl (fun K hK => ?_) (AllReadyH.cons rfl (fun K hK => ?_) AllReadyH.nil)
            · go_simp
              refine (toWord_any k h t m wr186).mono ?_
              rintro e wr187 ⟨rfl, hb187⟩
              have YW187 := hide_it (YW186.out.after hb187)
              have V187 := hide_it (VV186.out.later hb187 (Nat.le_refl _))
              have L187 : Hid (Below w15.heap.size w15 wr187) := L186.out.trans (hb187.mono L186.out.size)
              clear hb187
              try dsimp only
              refine hK.out _ _ (KK.out _ L187.out) (fun hHeld => ?_)
              clear hK K
              refine wpAnyH_ready (rs := [4, 9]) (by kernel_rfl) (by simp) ?_
              refine AllReadyH.cons rfl (fun K hK => ?_) (AllReadyH.cons rfl (fun K hK => ?_) AllReadyH.nil)
              · go_simp
                refine (HIM.out _ wr187 V187.out FM186.out (HA.out _ (B15.out.trans (L187.out.mono B15.out.size)))).mono ?_
                rintro e wr188 ⟨a188, cp188, rfl, hm188, hb188⟩
                obtain ⟨ps188, hp188, ho188⟩ := hm188
                have P188 := hide_it hp188
                have OO188 := hide_it ho188
                have ZZ188 : Hid (wr188.heap.size ≤ wr188.heap.size) := Nat.le_refl _
                have LL188 : Hid (w15.heap.size ≤ wr187.heap.size) := L187.out.size
                have AW188 : Hid (wdhh24.heap.size < wr187.heap.size) := YW187.out.lt
                have YW188 := hide_it (YW187.out.after hb188)
                have V188 := hide_it (V187.out.later hb188 (Nat.le_refl _))
                have L188 : Hid (Below w15.heap.size w15 wr188) := L187.out.trans (hb188.mono L187.out.size)
                clear hb188 hp188 ho188
                try dsimp only
                refine hK.out _ _ (KK.out _ L188.out) (fun hHeld => ?_)
                clear hK K
                refine takeD (i := 5) (v := ?_) (some 96) rfl rfl (by kernel_rfl) (by kernel_rfl) (by kernel_rfl) (fun _ _ _ h => h) (by rfl) hHeld ?_ ?_
                rotate_left
                · intro W hSw
                  try dsimp only at hSw
                  go_simp
                  try with_reducible rfl
                try simp only [Act.put]
                try simp only [List.setIfInBounds_toArray]
                try simp only [List.set_cons_succ]
                try simp only [List.set_cons_zero]
                refine takeD (i := 6) (v := ?_) (some 102) rfl rfl (by kernel_rfl) (by kernel_rfl) (by kernel_rfl) (fun _ _ _ h => h) (by rfl) hHeld ?_ ?_
                rotate_left
                · intro W hSw
                  try dsimp only at hSw
                  go_simp
                  try with_reducible rfl
                try simp only [Act.put]
                try simp only [List.setIfInBounds_toArray]
                try simp only [List.set_cons_succ]
                try simp only [List.set_cons_zero]
                refine takeD (i := 7) (v := ?_) (some 103) rfl rfl (by kernel_rfl) (by kernel_rfl) (by kernel_rfl) (fun _ _ _ h => h) (by rfl) hHeld ?_ ?_
                rotate_left
                · intro W hSw
                  try dsimp only at hSw
                  go_simp
                  try with_reducible rfl
                try simp only [Act.put]
                try simp only [List.setIfInBounds_toArray]
                try simp only [List.set_cons_succ]
                try simp only [List.set_cons_zero]
                refine takeD (i := 8) (v := ?_) (some 104) rfl rfl (by kernel_rfl) (by kernel_rfl) (by kernel_rfl) (fun _ _ _ h => h) (by rfl) hHeld ?_ ?_
                rotate_left
                · intro W hSw
                  try dsimp only at hSw
                  go_simp
                  try with_reducible rfl
                try simp only [Act.put]
                try simp only [List.setIfInBounds_toArray]
                try simp only [List.set_cons_succ]
                try simp only [List.set_cons_zero]
                refine wpAnyH_ready (rs := [9]) (by kernel_rfl) (by simp) ?_
                refine AllReadyH.cons rfl (fun K hK => ?_) AllReadyH.nil
                go_simp
                obtain ⟨wr189, hwr189⟩ : ∃ W, Hid (W = wr188.alloc (.cells #[.int .i64 0, .bool false, .int .i64 0, .slice none 0 0, .int .i64 0] 34)) := ⟨_, rfl⟩
                have al189 : Below wr188.heap.size wr188 wr189 := by rw [hwr189.out]; exact alloc_below _ _
                have YHN189 : Hid (Blk wr189 wr188.heap.size #[.int .i64 0, .bool false, .int .i64 0, .slice none 0 0, .int .i64 0] 34) := by show Blk _ _ _ _; rw [hwr189.out]; exact Blk.new _ _ _
                have BYH189 : Hid (w15.heap.size ≤ wr188.heap.size) := L188.out.size
                have YW189 := hide_it (YW188.out.after al189)
                have V189 := hide_it (V188.out.later al189 (Nat.le_refl _))
                have O189 := hide_it (OO188.out.below al189 ZZ188.out)
                have Z189 : Hid (wr188.heap.size ≤ wr189.heap.size) := Nat.le_trans ZZ188.out al189.size
                have L189 : Hid (Below w15.heap.size w15 wr189) := L188.out.trans (al189.mono L188.out.size)
                clear al189
                rw [← hwr189.out]
                try dsimp only
                refine hK.out _ _ (KK.out _ L189.out) (fun hHeld => ?_)
                clear hK K
                refine wpAnyH_ready (rs := [11]) (by kernel_rfl) (by simp) ?_
                refine AllReadyH.cons rfl (fun K hK => ?_) AllReadyH.nil
                go_simp
                obtain ⟨c0, c1, c2, c3, c4⟩ := YHN189.out.cells5
                have cf0 := YHN189.out.free 0
                have cf1 := YHN189.out.free 1
                have cf2 := YHN189.out.free 2
                have cf3 := YHN189.out.free 3
                have cf4 := YHN189.out.free 4
                go_simp
                obtain ⟨wr190, hwr190⟩ : ∃ W, Hid (W = (((((wr189.setCell ⟨wr188.heap.size, 0, none⟩ (.int .i64 ID)).setCell ⟨wr188.heap.size, 1, none⟩ (.bool UP)).setCell ⟨wr188.heap.size, 2, none⟩ (.int .i64 ROOM)).setCell ⟨wr188.heap.size, 3, none⟩ (.slice a188 RS.length cp188)).setCell ⟨wr188.heap.size, 4, none⟩ (.int .i64 F))) := ⟨_, rfl⟩
                have NE190 := ne_hw YHN189.out YW189.out
                have Z190 : Hid (wr188.heap.size ≤ wr190.heap.size) := Nat.le_trans Z189.out (Nat.le_of_eq (by rw [hwr190.out]; simp))
                have YH190 : Hid (Blk wr190 wr188.heap.size #[.int .i64 ID, .bool UP, .int .i64 ROOM, .slice a188 RS.length cp188, .int .i64 F] 34) := by show Blk _ _ _ _; rw [hwr190.out]; exact blk_h5 YHN189.out
                have YW190 : Hid (Blk wr190 wdhh24.heap.size #[.int .i64 0, .int .i64 0, .int .i64 0, .int .i64 0] 35) := by show Blk _ _ _ _; rw [hwr190.out]; exact blk_h5o YW189.out (fun e => NE190 e.symm)
                have O190 : Hid (OwnRecs wr190 wr187.heap.size wr188.heap.size (.slice a188 RS.length cp188) ps188) := by show OwnRecs _ _ _ _ _; rw [hwr190.out]; exact own_h5 O189.out YHN189.out
                have L190 : Hid (Below w15.heap.size w15 wr190) := by show Below _ _ _; rw [hwr190.out]; exact bel_h5 L189.out BYH189.out
                rw [← hwr190.out]
                clear c0 cf0 c1 cf1 c2 cf2 c3 cf3 c4 cf4
                try dsimp only
                refine hK.out _ _ (KK.out _ L190.out) (fun hHeld => ?_)
                clear hK K
                refine wpAnyH_ready (rs := [12]) (by kernel_rfl) (by simp) ?_
                refine AllReadyH.cons rfl (fun K hK => ?_) AllReadyH.nil
                go_simp
                obtain ⟨c0, c1, c2, c3⟩ := YW190.out.cells4
                have cf0 := YW190.out.free 0
                have cf1 := YW190.out.free 1
                have cf2 := YW190.out.free 2
                have cf3 := YW190.out.free 3
                go_simp
                obtain ⟨wr191, hwr191⟩ : ∃ W, Hid (W = ((((wr190.setCell ⟨wdhh24.heap.size, 0, none⟩ (.int .i64 X1)).setCell ⟨wdhh24.heap.size, 1, none⟩ (.int .i64 X2)).setCell ⟨wdhh24.heap.size, 2, none⟩ (.int .i64 X3)).setCell ⟨wdhh24.heap.size, 3, none⟩ (.int .i64 0))) := ⟨_, rfl⟩
                have Z191 : Hid (wr188.heap.size ≤ wr191.heap.size) := Nat.le_trans Z190.out (Nat.le_of_eq (by rw [hwr191.out]; simp))
                have NEX191 : wr188.heap.size ≠ wdhh24.heap.size := NE190
                have YW191 : Hid (Blk wr191 wdhh24.heap.size #[.int .i64 X1, .int .i64 X2, .int .i64 X3, .int .i64 0] 35) := by show Blk _ _ _ _; rw [hwr191.out]; exact blk_w4 YW190.out
                have YH191 : Hid (Blk wr191 wr188.heap.size #[.int .i64 ID, .bool UP, .int .i64 ROOM, .slice a188 RS.length cp188, .int .i64 F] 34) := by show Blk _ _ _ _; rw [hwr191.out]; exact blk_w4o YH190.out NEX191
                have O191 : Hid (OwnRecs wr191 wr187.heap.size wr188.heap.size (.slice a188 RS.length cp188) ps188) := by show OwnRecs _ _ _ _ _; rw [hwr191.out]; exact own_w4 O190.out YW190.out
                have L191 : Hid (Below w15.heap.size w15 wr191) := by show Below _ _ _; rw [hwr191.out]; exact bel_w4 L190.out BYW185.out
                rw [← hwr191.out]
                clear c0 cf0 c1 cf1 c2 cf2 c3 cf3
                try dsimp only
                refine hK.out _ _ (KK.out _ L191.out) (fun hHeld => ?_)
                clear hK K
                refine takeD (i := 13) (v := ?_) (some 18) rfl rfl (by kernel_rfl) (by kernel_rfl) (by kernel_rfl) (fun _ _ _ h => h) (by rfl) hHeld ?_ ?_
                rotate_left
                · intro W hSw
                  try dsimp only at hSw
                  go_simp
                  try with_reducible rfl
                try simp only [Act.put]
                try simp only [List.setIfInBounds_toArray]
                try simp only [List.set_cons_succ]
                try simp only [List.set_cons_zero]
                refine wpAnyH_done (by kernel_rfl) ?_ _
                go_wp2_with fail
                go_meet
                case rel => exact ⟨_, _, a188, cp188, ps188, _, _, rfl, rfl, rfl, P188, hide_it ⟨L191.out, YH191.out, YW191.out, O191.out, BYH189.out, BYW185.out, Or.inr ZZ188.out, Or.inl AW188.out, LL188.out, Z191.out⟩⟩
              · go_simp
                obtain ⟨wr192, hwr192⟩ : ∃ W, Hid (W = wr187.alloc (.cells #[.int .i64 0, .bool false, .int .i64 0, .slice none 0 0, .int .i64 0] 34)) := ⟨_, rfl⟩
                have al192 : Below wr187.heap.size wr187 wr192 := by rw [hwr192.out]; exact alloc_below _ _
                have YHN192 : Hid (Blk wr192 wr187.heap.size #[.int .i64 0, .bool false, .int .i64 0, .slice none 0 0, .int .i64 0] 34) := by show Blk _ _ _ _; rw [hwr192.out]; exact Blk.new _ _ _
                have BYH192 : Hid (w15.heap.size ≤ wr187.heap.size) := L187.out.size
                have YW192 := hide_it (YW187.out.after al192)
                have V192 := hide_it (V187.out.later al192 (Nat.le_refl _))
                have L192 : Hid (Below w15.heap.size w15 wr192) := L187.out.trans (al192.mono L187.out.size)
                clear al192
                rw [← hwr192.out]
                try dsimp only
                refine hK.out _ _ (KK.out _ L192.out) (fun hHeld => ?_)
                clear hK K
                refine wpAnyH_ready (rs := [4]) (by kernel_rfl) (by simp) ?_
                refine AllReadyH.cons rfl (fun K hK => ?_) AllReadyH.nil
                go_simp
                refine (HIM.out _ wr192 V192.out FM186.out (HA.out _ (B15.out.trans (L192.out.mono B15.out.size)))).mono ?_
                rintro e wr193 ⟨a193, cp193, rfl, hm193, hb193⟩
                obtain ⟨ps193, hp193, ho193⟩ := hm193
                have P193 := hide_it hp193
                have OO193 := hide_it ho193
                have ZZ193 : Hid (wr193.heap.size ≤ wr193.heap.size) := Nat.le_refl _
                have LL193 : Hid (w15.heap.size ≤ wr192.heap.size) := L192.out.size
                have AH193 : Hid (wr187.heap.size < wr192.heap.size) := YHN192.out.lt
                have AW193 : Hid (wdhh24.heap.size < wr192.heap.size) := YW192.out.lt
                have YH193 := hide_it (YHN192.out.after hb193)
                have YW193 := hide_it (YW192.out.after hb193)
                have V193 := hide_it (V192.out.later hb193 (Nat.le_refl _))
                have L193 : Hid (Below w15.heap.size w15 wr193) := L192.out.trans (hb193.mono L192.out.size)
                clear hb193 hp193 ho193
                try dsimp only
                refine hK.out _ _ (KK.out _ L193.out) (fun hHeld => ?_)
                clear hK K
                refine takeD (i := 5) (v := ?_) (some 96) rfl rfl (by kernel_rfl) (by kernel_rfl) (by kernel_rfl) (fun _ _ _ h => h) (by rfl) hHeld ?_ ?_
                rotate_left
                · intro W hSw
                  try dsimp only at hSw
                  go_simp
                  try with_reducible rfl
                try simp only [Act.put]
                try simp only [List.setIfInBounds_toArray]
                try simp only [List.set_cons_succ]
                try simp only [List.set_cons_zero]
                refine takeD (i := 6) (v := ?_) (some 102) rfl rfl (by kernel_rfl) (by kernel_rfl) (by kernel_rfl) (fun _ _ _ h => h) (by rfl) hHeld ?_ ?_
                rotate_left
                · intro W hSw
                  try dsimp only at hSw
                  go_simp
                  try with_reducible rfl
                try simp only [Act.put]
                try simp only [List.setIfInBounds_toArray]
                try simp only [List.set_cons_succ]
                try simp only [List.set_cons_zero]
                refine takeD (i := 7) (v := ?_) (some 103) rfl rfl (by kernel_rfl) (by kernel_rfl) (by kernel_rfl) (fun _ _ _ h => h) (by rfl) hHeld ?_ ?_
                rotate_left
                · intro W hSw
                  try dsimp only at hSw
                  go_simp
                  try with_reducible rfl
                try simp only [Act.put]
                try simp only [List.setIfInBounds_toArray]
                try simp only [List.set_cons_succ]
                try simp only [List.set_cons_zero]
                refine takeD (i := 8) (v := ?_) (some 104) rfl rfl (by kernel_rfl) (by kernel_rfl) (by kernel_rfl) (fun _ _ _ h => h) (by rfl) hHeld ?_ ?_
                rotate_left
                · intro W hSw
                  try dsimp only at hSw
                  go_simp
                  try with_reducible rfl
                try simp only [Act.put]
                try simp only [List.setIfInBounds_toArray]
                try simp only [List.set_cons_succ]
                try simp only [List.set_cons_zero]
                refine wpAnyH_ready (rs := [11]) (by kernel_rfl) (by simp) ?_
                refine AllReadyH.cons rfl (fun K hK => ?_) AllReadyH.nil
                go_simp
                obtain ⟨c0, c1, c2, c3, c4⟩ := YH193.out.cells5
                have cf0 := YH193.out.free 0
                have cf1 := YH193.out.free 1
                have cf2 := YH193.out.free 2
                have cf3 := YH193.out.free 3
                have cf4 := YH193.out.free 4
                go_simp
                obtain ⟨wr194, hwr194⟩ : ∃ W, Hid (W = (((((wr193.setCell ⟨wr187.heap.size, 0, none⟩ (.int .i64 ID)).setCell ⟨wr187.heap.size, 1, none⟩ (.bool UP)).setCell ⟨wr187.heap.size, 2, none⟩ (.int .i64 ROOM)).setCell ⟨wr187.heap.size, 3, none⟩ (.slice a193 RS.length cp193)).setCell ⟨wr187.heap.size, 4, none⟩ (.int .i64 F))) := ⟨_, rfl⟩
                have NE194 := ne_hw YH193.out YW193.out
                have Z194 : Hid (wr193.heap.size ≤ wr194.heap.size) := Nat.le_trans ZZ193.out (Nat.le_of_eq (by rw [hwr194.out]; simp))
                have YH194 : Hid (Blk wr194 wr187.heap.size #[.int .i64 ID, .bool UP, .int .i64 ROOM, .slice a193 RS.length cp193, .int .i64 F] 34) := by show Blk _ _ _ _; rw [hwr194.out]; exact blk_h5 YH193.out
                have YW194 : Hid (Blk wr194 wdhh24.heap.size #[.int .i64 0, .int .i64 0, .int .i64 0, .int .i64 0] 35) := by show Blk _ _ _ _; rw [hwr194.out]; exact blk_h5o YW193.out (fun e => NE194 e.symm)
                have O194 : Hid (OwnRecs wr194 wr192.heap.size wr193.heap.size (.slice a193 RS.length cp193) ps193) := by show OwnRecs _ _ _ _ _; rw [hwr194.out]; exact own_h5 OO193.out YH193.out
                have L194 : Hid (Below w15.heap.size w15 wr194) := by show Below _ _ _; rw [hwr194.out]; exact bel_h5 L193.out BYH192.out
                rw [← hwr194.out]
                clear c0 cf0 c1 cf1 c2 cf2 c3 cf3 c4 cf4
                try dsimp only
                refine hK.out _ _ (KK.out _ L194.out) (fun hHeld => ?_)
                clear hK K
                refine wpAnyH_ready (rs := [12]) (by kernel_rfl) (by simp) ?_
                refine AllReadyH.cons rfl (fun K hK => ?_) AllReadyH.nil
                go_simp
                obtain ⟨c0, c1, c2, c3⟩ := YW194.out.cells4
                have cf0 := YW194.out.free 0
                have cf1 := YW194.out.free 1
                have cf2 := YW194.out.free 2
                have cf3 := YW194.out.free 3
                go_simp
                obtain ⟨wr195, hwr195⟩ : ∃ W, Hid (W = ((((wr194.setCell ⟨wdhh24.heap.size, 0, none⟩ (.int .i64 X1)).setCell ⟨wdhh24.heap.size, 1, none⟩ (.int .i64 X2)).setCell ⟨wdhh24.heap.size, 2, none⟩ (.int .i64 X3)).setCell ⟨wdhh24.heap.size, 3, none⟩ (.int .i64 0))) := ⟨_, rfl⟩
                have Z195 : Hid (wr193.heap.size ≤ wr195.heap.size) := Nat.le_trans Z194.out (Nat.le_of_eq (by rw [hwr195.out]; simp))
                have NEX195 : wr187.heap.size ≠ wdhh24.heap.size := NE194
                have YW195 : Hid (Blk wr195 wdhh24.heap.size #[.int .i64 X1, .int .i64 X2, .int .i64 X3, .int .i64 0] 35) := by show Blk _ _ _ _; rw [hwr195.out]; exact blk_w4 YW194.out
                have YH195 : Hid (Blk wr195 wr187.heap.size #[.int .i64 ID, .bool UP, .int .i64 ROOM, .slice a193 RS.length cp193, .int .i64 F] 34) := by show Blk _ _ _ _; rw [hwr195.out]; exact blk_w4o YH194.out NEX195
                have O195 : Hid (OwnRecs wr195 wr192.heap.size wr193.heap.size (.slice a193 RS.length cp193) ps193) := by show OwnRecs _ _ _ _ _; rw [hwr195.out]; exact own_w4 O194.out YW194.out
                have L195 : Hid (Below w15.heap.size w15 wr195) := by show Below _ _ _; rw [hwr195.out]; exact bel_w4 L194.out BYW185.out
                rw [← hwr195.out]
                clear c0 cf0 c1 cf1 c2 cf2 c3 cf3
                try dsimp only
                refine hK.out _ _ (KK.out _ L195.out) (fun hHeld => ?_)
                clear hK K
                refine takeD (i := 13) (v := ?_) (some 18) rfl rfl (by kernel_rfl) (by kernel_rfl) (by kernel_rfl) (fun _ _ _ h => h) (by rfl) hHeld ?_ ?_
                rotate_left
                · intro W hSw
                  try dsimp only at hSw
                  go_simp
                  try with_reducible rfl
                try simp only [Act.put]
                try simp only [List.setIfInBounds_toArray]
                try simp only [List.set_cons_succ]
                try simp only [List.set_cons_zero]
                refine wpAnyH_done (by kernel_rfl) ?_ _
                go_wp2_with fail
                go_meet
                case rel => exact ⟨_, _, a193, cp193, ps193, _, _, rfl, rfl, rfl, P193, hide_it ⟨L195.out, YH195.out, YW195.out, O195.out, BYH192.out, BYW185.out, Or.inl AH193.out, Or.inl AW193.out, LL193.out, Z195.out⟩⟩
            · go_simp
              obtain ⟨wr196, hwr196⟩ : ∃ W, Hid (W = wr186.alloc (.cells #[.int .i64 0, .bool false, .int .i64 0, .slice none 0 0, .int .i64 0] 34)) := ⟨_, rfl⟩
              have al196 : Below wr186.heap.size wr186 wr196 := by rw [hwr196.out]; exact alloc_below _ _
              have YHN196 : Hid (Blk wr196 wr186.heap.size #[.int .i64 0, .bool false, .int .i64 0, .slice none 0 0, .int .i64 0] 34) := by show Blk _ _ _ _; rw [hwr196.out]; exact Blk.new _ _ _
              have BYH196 : Hid (w15.heap.size ≤ wr186.heap.size) := L186.out.size
              have YW196 := hide_it (YW186.out.after al196)
              have V196 := hide_it (VV186.out.later al196 (Nat.le_refl _))
              have L196 : Hid (Below w15.heap.size w15 wr196) := L186.out.trans (al196.mono L186.out.size)
              clear al196
              rw [← hwr196.out]
              try dsimp only
              refine hK.out _ _ (KK.out _ L196.out) (fun hHeld => ?_)
              clear hK K
              refine wpAnyH_ready (rs := [3]) (by kernel_rfl) (by simp) ?_
              refine AllReadyH.cons rfl (fun K hK => ?_) AllReadyH.nil
              go_simp
              refine (toWord_any k h t m wr196).mono ?_
              rintro e wr197 ⟨rfl, hb197⟩
              have YH197 := hide_it (YHN196.out.after hb197)
              have YW197 := hide_it (YW196.out.after hb197)
              have V197 := hide_it (V196.out.later hb197 (Nat.le_refl _))
              have L197 : Hid (Below w15.heap.size w15 wr197) := L196.out.trans (hb197.mono L196.out.size)
              clear hb197
              try dsimp only
              refine hK.out _ _ (KK.out _ L197.out) (fun hHeld => ?_)
              clear hK K
              refine wpAnyH_ready (rs := [4]) (by kernel_rfl) (by simp) ?_
              refine AllReadyH.cons rfl (fun K hK => ?_) AllReadyH.nil
              go_simp
              refine (HIM.out _ wr197 V197.out FM186.out (HA.out _ (B15.out.trans (L197.out.mono B15.out.size)))).mono ?_
              rintro e wr198 ⟨a198, cp198, rfl, hm198, hb198⟩
              obtain ⟨ps198, hp198, ho198⟩ := hm198
              have P198 := hide_it hp198
              have OO198 := hide_it ho198
              have ZZ198 : Hid (wr198.heap.size ≤ wr198.heap.size) := Nat.le_refl _
              have LL198 : Hid (w15.heap.size ≤ wr197.heap.size) := L197.out.size
              have AH198 : Hid (wr186.heap.size < wr197.heap.size) := YH197.out.lt
              have AW198 : Hid (wdhh24.heap.size < wr197.heap.size) := YW197.out.lt
              have YH198 := hide_it (YH197.out.after hb198)
              have YW198 := hide_it (YW197.out.after hb198)
              have V198 := hide_it (V197.out.later hb198 (Nat.le_refl _))
              have L198 : Hid (Below w15.heap.size w15 wr198) := L197.out.trans (hb198.mono L197.out.size)
              clear hb198 hp198 ho198
              try dsimp only
              refine hK.out _ _ (KK.out _ L198.out) (fun hHeld => ?_)
              clear hK K
              refine takeD (i := 5) (v := ?_) (some 96) rfl rfl (by kernel_rfl) (by kernel_rfl) (by kernel_rfl) (fun _ _ _ h => h) (by rfl) hHeld ?_ ?_
              rotate_left
              · intro W hSw
                try dsimp only at hSw
                go_simp
                try with_reducible rfl
              try simp only [Act.put]
              try simp only [List.setIfInBounds_toArray]
              try simp only [List.set_cons_succ]
              try simp only [List.set_cons_zero]
              refine takeD (i := 6) (v := ?_) (some 102) rfl rfl (by kernel_rfl) (by kernel_rfl) (by kernel_rfl) (fun _ _ _ h => h) (by rfl) hHeld ?_ ?_
              rotate_left
              · intro W hSw
                try dsimp only at hSw
                go_simp
                try with_reducible rfl
              try simp only [Act.put]
              try simp only [List.setIfInBounds_toArray]
              try simp only [List.set_cons_succ]
              try simp only [List.set_cons_zero]
              refine takeD (i := 7) (v := ?_) (some 103) rfl rfl (by kernel_rfl) (by kernel_rfl) (by kernel_rfl) (fun _ _ _ h => h) (by rfl) hHeld ?_ ?_
              rotate_left
              · intro W hSw
                try dsimp only at hSw
                go_simp
                try with_reducible rfl
              try simp only [Act.put]
              try simp only [List.setIfInBounds_toArray]
              try simp only [List.set_cons_succ]
              try simp only [List.set_cons_zero]
              refine takeD (i := 8) (v := ?_) (some 104) rfl rfl (by kernel_rfl) (by kernel_rfl) (by kernel_rfl) (fun _ _ _ h => h) (by rfl) hHeld ?_ ?_
              rotate_left
              · intro W hSw
                try dsimp only at hSw
                go_simp
                try with_reducible rfl
              try simp only [Act.put]
              try simp only [List.setIfInBounds_toArray]
              try simp only [List.set_cons_succ]
              try simp only [List.set_cons_zero]
              refine wpAnyH_ready (rs := [11]) (by kernel_rfl) (by simp) ?_
              refine AllReadyH.cons rfl (fun K hK => ?_) AllReadyH.nil
              go_simp
              obtain ⟨c0, c1, c2, c3, c4⟩ := YH198.out.cells5
              have cf0 := YH198.out.free 0
              have cf1 := YH198.out.free 1
              have cf2 := YH198.out.free 2
              have cf3 := YH198.out.free 3
              have cf4 := YH198.out.free 4
              go_simp
              obtain ⟨wr199, hwr199⟩ : ∃ W, Hid (W = (((((wr198.setCell ⟨wr186.heap.size, 0, none⟩ (.int .i64 ID)).setCell ⟨wr186.heap.size, 1, none⟩ (.bool UP)).setCell ⟨wr186.heap.size, 2, none⟩ (.int .i64 ROOM)).setCell ⟨wr186.heap.size, 3, none⟩ (.slice a198 RS.length cp198)).setCell ⟨wr186.heap.size, 4, none⟩ (.int .i64 F))) := ⟨_, rfl⟩
              have NE199 := ne_hw YH198.out YW198.out
              have Z199 : Hid (wr198.heap.size ≤ wr199.heap.size) := Nat.le_trans ZZ198.out (Nat.le_of_eq (by rw [hwr199.out]; simp))
              have YH199 : Hid (Blk wr199 wr186.heap.size #[.int .i64 ID, .bool UP, .int .i64 ROOM, .slice a198 RS.length cp198, .int .i64 F] 34) := by show Blk _ _ _ _; rw [hwr199.out]; exact blk_h5 YH198.out
              have YW199 : Hid (Blk wr199 wdhh24.heap.size #[.int .i64 0, .int .i64 0, .int .i64 0, .int .i64 0] 35) := by show Blk _ _ _ _; rw [hwr199.out]; exact blk_h5o YW198.out (fun e => NE199 e.symm)
              have O199 : Hid (OwnRecs wr199 wr197.heap.size wr198.heap.size (.slice a198 RS.length cp198) ps198) := by show OwnRecs _ _ _ _ _; rw [hwr199.out]; exact own_h5 OO198.out YH198.out
              have L199 : Hid (Below w15.heap.size w15 wr199) := by show Below _ _ _; rw [hwr199.out]; exact bel_h5 L198.out BYH196.out
              rw [← hwr199.out]
              clear c0 cf0 c1 cf1 c2 cf2 c3 cf3 c4 cf4
              try dsimp only
              refine hK.out _ _ (KK.out _ L199.out) (fun hHeld => ?_)
              clear hK K
              refine wpAnyH_ready (rs := [12]) (by kernel_rfl) (by simp) ?_
              refine AllReadyH.cons rfl (fun K hK => ?_) AllReadyH.nil
              go_simp
              obtain ⟨c0, c1, c2, c3⟩ := YW199.out.cells4
              have cf0 := YW199.out.free 0
              have cf1 := YW199.out.free 1
              have cf2 := YW199.out.free 2
              have cf3 := YW199.out.free 3
              go_simp
              obtain ⟨wr200, hwr200⟩ : ∃ W, Hid (W = ((((wr199.setCell ⟨wdhh24.heap.size, 0, none⟩ (.int .i64 X1)).setCell ⟨wdhh24.heap.size, 1, none⟩ (.int .i64 X2)).setCell ⟨wdhh24.heap.size, 2, none⟩ (.int .i64 X3)).setCell ⟨wdhh24.heap.size, 3, none⟩ (.int .i64 0))) := ⟨_, rfl⟩
              have Z200 : Hid (wr198.heap.size ≤ wr200.heap.size) := Nat.le_trans Z199.out (Nat.le_of_eq (by rw [hwr200.out]; simp))
              have NEX200 : wr186.heap.size ≠ wdhh24.heap.size := NE199
              have YW200 : Hid (Blk wr200 wdhh24.heap.size #[.int .i64 X1, .int .i64 X2, .int .i64 X3, .int .i64 0] 35) := by show Blk _ _ _ _; rw [hwr200.out]; exact blk_w4 YW199.out
              have YH200 : Hid (Blk wr200 wr186.heap.size #[.int .i64 ID, .bool UP, .int .i64 ROOM, .slice a198 RS.length cp198, .int .i64 F] 34) := by show Blk _ _ _ _; rw [hwr200.out]; exact blk_w4o YH199.out NEX200
              have O200 : Hid (OwnRecs wr200 wr197.heap.size wr198.heap.size (.slice a198 RS.length cp198) ps198) := by show OwnRecs _ _ _ _ _; rw [hwr200.out]; exact own_w4 O199.out YW199.out
              have L200 : Hid (Below w15.heap.size w15 wr200) := by show Below _ _ _; rw [hwr200.out]; exact bel_w4 L199.out BYW185.out
              rw [← hwr200.out]
              clear c0 cf0 c1 cf1 c2 cf2 c3 cf3
              try dsimp only
              refine hK.out _ _ (KK.out _ L200.out) (fun hHeld => ?_)
              clear hK K
              refine takeD (i := 13) (v := ?_) (some 18) rfl rfl (by kernel_rfl) (by kernel_rfl) (by kernel_rfl) (fun _ _ _ h => h) (by rfl) hHeld ?_ ?_
              rotate_left
              · intro W hSw
                try dsimp only at hSw
                go_simp
                try with_reducible rfl
              try simp only [Act.put]
              try simp only [List.setIfInBounds_toArray]
              try simp only [List.set_cons_succ]
              try simp only [List.set_cons_zero]
              refine wpAnyH_done (by kernel_rfl) ?_ _
              go_wp2_with fail
              go_meet
              case rel => exact ⟨_, _, a198, cp198, ps198, _, _, rfl, rfl, rfl, P198, hide_it ⟨L200.out, YH200.out, YW200.out, O200.out, BYH196.out, BYW185.out, Or.inl AH198.out, Or.inl AW198.out, LL198.out, Z200.out⟩⟩
          · go_simp
            obtain ⟨wr201, hwr201⟩ : ∃ W, Hid (W = wr185.alloc (.cells #[.int .i64 0, .bool false, .int .i64 0, .slice none 0 0, .int .i64 0] 34)) := ⟨_, rfl⟩
            have al201 : Below wr185.heap.size wr185 wr201 := by rw [hwr201.out]; exact alloc_below _ _
            have YHN201 : Hid (Blk wr201 wr185.heap.size #[.int .i64 0, .bool false, .int .i64 0, .slice none 0 0, .int .i64 0] 34) := by show Blk _ _ _ _; rw [hwr201.out]; exact Blk.new _ _ _
            have BYH201 : Hid (w15.heap.size ≤ wr185.heap.size) := L185.out.size
            have YW201 := hide_it (YWN185.out.after al201)
            have L201 : Hid (Below w15.heap.size w15 wr201) := L185.out.trans (al201.mono L185.out.size)
            clear al201
            rw [← hwr201.out]
            try dsimp only
            refine hK.out _ _ (KK.out _ L201.out) (fun hHeld => ?_)
            clear hK K
            refine wpAnyH_ready (rs := [1]) (by kernel_rfl) (by simp) ?_
            refine AllReadyH.cons rfl (fun K hK => ?_) AllReadyH.nil
            go_simp
            refine (toHouse_any id up room _ rs f wr201 (HV.out _ (B15.out.trans (L201.out.mono B15.out.size))) hl).mono ?_
            rintro e wr202 ⟨a202, cp202, rfl, hm202, hb202⟩
            have VV202 := hide_it hm202.recs
            have FM202 := hide_it (form_made hm202)
            have YH202 := hide_it (YHN201.out.after hb202)
            have YW202 := hide_it (YW201.out.after hb202)
            have L202 : Hid (Below w15.heap.size w15 wr202) := L201.out.trans (hb202.mono L201.out.size)
            clear hb202 hm202
            try dsimp only
            refine hK.out _ _ (KK.out _ L202.out) (fun hHeld => ?_)
            clear hK K
            refine wpAnyH_ready (rs := [3]) (by kernel_rfl) (by simp) ?_
            refine AllReadyH.cons rfl (fun K hK => ?_) AllReadyH.nil
            go_simp
            refine (toWord_any k h t m wr202).mono ?_
            rintro e wr203 ⟨rfl, hb203⟩
            have YH203 := hide_it (YH202.out.after hb203)
            have YW203 := hide_it (YW202.out.after hb203)
            have V203 := hide_it (VV202.out.later hb203 (Nat.le_refl _))
            have L203 : Hid (Below w15.heap.size w15 wr203) := L202.out.trans (hb203.mono L202.out.size)
            clear hb203
            try dsimp only
            refine hK.out _ _ (KK.out _ L203.out) (fun hHeld => ?_)
            clear hK K
            refine wpAnyH_ready (rs := [4]) (by kernel_rfl) (by simp) ?_
            refine AllReadyH.cons rfl (fun K hK => ?_) AllReadyH.nil
            go_simp
            refine (HIM.out _ wr203 V203.out FM202.out (HA.out _ (B15.out.trans (L203.out.mono B15.out.size)))).mono ?_
            rintro e wr204 ⟨a204, cp204, rfl, hm204, hb204⟩
            obtain ⟨ps204, hp204, ho204⟩ := hm204
            have P204 := hide_it hp204
            have OO204 := hide_it ho204
            have ZZ204 : Hid (wr204.heap.size ≤ wr204.heap.size) := Nat.le_refl _
            have LL204 : Hid (w15.heap.size ≤ wr203.heap.size) := L203.out.size
            have AH204 : Hid (wr185.heap.size < wr203.heap.size) := YH203.out.lt
            have AW204 : Hid (wdhh24.heap.size < wr203.heap.size) := YW203.out.lt
            have YH204 := hide_it (YH203.out.after hb204)
            have YW204 := hide_it (YW203.out.after hb204)
            have V204 := hide_it (V203.out.later hb204 (Nat.le_refl _))
            have L204 : Hid (Below w15.heap.size w15 wr204) := L203.out.trans (hb204.mono L203.out.size)
            clear hb204 hp204 ho204
            try dsimp only
            refine hK.out _ _ (KK.out _ L204.out) (fun hHeld => ?_)
            clear hK K
            refine takeD (i := 5) (v := ?_) (some 96) rfl rfl (by kernel_rfl) (by kernel_rfl) (by kernel_rfl) (fun _ _ _ h => h) (by rfl) hHeld ?_ ?_
            rotate_left
            · intro W hSw
              try dsimp only at hSw
              go_simp
              try with_reducible rfl
            try simp only [Act.put]
            try simp only [List.setIfInBounds_toArray]
            try simp only [List.set_cons_succ]
            try simp only [List.set_cons_zero]
            refine takeD (i := 6) (v := ?_) (some 102) rfl rfl (by kernel_rfl) (by kernel_rfl) (by kernel_rfl) (fun _ _ _ h => h) (by rfl) hHeld ?_ ?_
            rotate_left
            · intro W hSw
              try dsimp only at hSw
              go_simp
              try with_reducible rfl
            try simp only [Act.put]
            try simp only [List.setIfInBounds_toArray]
            try simp only [List.set_cons_succ]
            try simp only [List.set_cons_zero]
            refine takeD (i := 7) (v := ?_) (some 103) rfl rfl (by kernel_rfl) (by kernel_rfl) (by kernel_rfl) (fun _ _ _ h => h) (by rfl) hHeld ?_ ?_
            rotate_left
            · intro W hSw
              try dsimp only at hSw
              go_simp
              try with_reducible rfl
            try simp only [Act.put]
            try simp only [List.setIfInBounds_toArray]
            try simp only [List.set_cons_succ]
            try simp only [List.set_cons_zero]
            refine takeD (i := 8) (v := ?_) (some 104) rfl rfl (by kernel_rfl) (by kernel_rfl) (by kernel_rfl) (fun _ _ _ h => h) (by rfl) hHeld ?_ ?_
            rotate_left
            · intro W hSw
              try dsimp only at hSw
              go_simp
              try with_reducible rfl
            try simp only [Act.put]
            try simp only [List.setIfInBounds_toArray]
            try simp only [List.set_cons_succ]
            try simp only [List.set_cons_zero]
            refine wpAnyH_ready (rs := [11]) (by kernel_rfl) (by simp) ?_
            refine AllReadyH.cons rfl (fun K hK => ?_) AllReadyH.nil
            go_simp
            obtain ⟨c0, c1, c2, c3, c4⟩ := YH204.out.cells5
            have cf0 := YH204.out.free 0
            have cf1 := YH204.out.free 1
            have cf2 := YH204.out.free 2
            have cf3 := YH204.out.free 3
            have cf4 := YH204.out.free 4
            go_simp
            obtain ⟨wr205, hwr205⟩ : ∃ W, Hid (W = (((((wr204.setCell ⟨wr185.heap.size, 0, none⟩ (.int .i64 ID)).setCell ⟨wr185.heap.size, 1, none⟩ (.bool UP)).setCell ⟨wr185.heap.size, 2, none⟩ (.int .i64 ROOM)).setCell ⟨wr185.heap.size, 3, none⟩ (.slice a204 RS.length cp204)).setCell ⟨wr185.heap.size, 4, none⟩ (.int .i64 F))) := ⟨_, rfl⟩
            have NE205 := ne_hw YH204.out YW204.out
            have Z205 : Hid (wr204.heap.size ≤ wr205.heap.size) := Nat.le_trans ZZ204.out (Nat.le_of_eq (by rw [hwr205.out]; simp))
            have YH205 : Hid (Blk wr205 wr185.heap.size #[.int .i64 ID, .bool UP, .int .i64 ROOM, .slice a204 RS.length cp204, .int .i64 F] 34) := by show Blk _ _ _ _; rw [hwr205.out]; exact blk_h5 YH204.out
            have YW205 : Hid (Blk wr205 wdhh24.heap.size #[.int .i64 0, .int .i64 0, .int .i64 0, .int .i64 0] 35) := by show Blk _ _ _ _; rw [hwr205.out]; exact blk_h5o YW204.out (fun e => NE205 e.symm)
            have O205 : Hid (OwnRecs wr205 wr203.heap.size wr204.heap.size (.slice a204 RS.length cp204) ps204) := by show OwnRecs _ _ _ _ _; rw [hwr205.out]; exact own_h5 OO204.out YH204.out
            have L205 : Hid (Below w15.heap.size w15 wr205) := by show Below _ _ _; rw [hwr205.out]; exact bel_h5 L204.out BYH201.out
            rw [← hwr205.out]
            clear c0 cf0 c1 cf1 c2 cf2 c3 cf3 c4 cf4
            try dsimp only
            refine hK.out _ _ (KK.out _ L205.out) (fun hHeld => ?_)
            clear hK K
            refine wpAnyH_ready (rs := [12]) (by kernel_rfl) (by simp) ?_
            refine AllReadyH.cons rfl (fun K hK => ?_) AllReadyH.nil
            go_simp
            obtain ⟨c0, c1, c2, c3⟩ := YW205.out.cells4
            have cf0 := YW205.out.free 0
            have cf1 := YW205.out.free 1
            have cf2 := YW205.out.free 2
            have cf3 := YW205.out.free 3
            go_simp
            obtain ⟨wr206, hwr206⟩ : ∃ W, Hid (W = ((((wr205.setCell ⟨wdhh24.heap.size, 0, none⟩ (.int .i64 X1)).setCell ⟨wdhh24.heap.size, 1, none⟩ (.int .i64 X2)).setCell ⟨wdhh24.heap.size, 2, none⟩ (.int .i64 X3)).setCell ⟨wdhh24.heap.size, 3, none⟩ (.int .i64 0))) := ⟨_, rfl⟩
            have Z206 : Hid (wr204.heap.size ≤ wr206.heap.size) := Nat.le_trans Z205.out (Nat.le_of_eq (by rw [hwr206.out]; simp))
            have NEX206 : wr185.heap.size ≠ wdhh24.heap.size := NE205
            have YW206 : Hid (Blk wr206 wdhh24.heap.size #[.int .i64 X1, .int .i64 X2, .int .i64 X3, .int .i64 0] 35) := by show Blk _ _ _ _; rw [hwr206.out]; exact blk_w4 YW205.out
            have YH206 : Hid (Blk wr206 wr185.heap.size #[.int .i64 ID, .bool UP, .int .i64 ROOM, .slice a204 RS.length cp204, .int .i64 F] 34) := by show Blk _ _ _ _; rw [hwr206.out]; exact blk_w4o YH205.out NEX206
            have O206 : Hid (OwnRecs wr206 wr203.heap.size wr204.heap.size (.slice a204 RS.length cp204) ps204) := by show OwnRecs _ _ _ _ _; rw [hwr206.out]; exact own_w4 O205.out YW205.out
            have L206 : Hid (Below w15.heap.size w15 wr206) := by show Below _ _ _; rw [hwr206.out]; exact bel_w4 L205.out BYW185.out
            rw [← hwr206.out]
            clear c0 cf0 c1 cf1 c2 cf2 c3 cf3
            try dsimp only
            refine hK.out _ _ (KK.out _ L206.out) (fun hHeld => ?_)
            clear hK K
            refine takeD (i := 13) (v := ?_) (some 18) rfl rfl (by kernel_rfl) (by kernel_rfl) (by kernel_rfl) (fun _ _ _ h => h) (by rfl) hHeld ?_ ?_
            rotate_left
            · intro W hSw
              try dsimp only at hSw
              go_simp
              try with_reducible rfl
            try simp only [Act.put]
            try simp only [List.setIfInBounds_toArray]
            try simp only [List.set_cons_succ]
            try simp only [List.set_cons_zero]
            refine wpAnyH_done (by kernel_rfl) ?_ _
            go_wp2_with fail
            go_meet
            case rel => exact ⟨_, _, a204, cp204, ps204, _, _, rfl, rfl, rfl, P204, hide_it ⟨L206.out, YH206.out, YW206.out, O206.out, BYH201.out, BYW185.out, Or.inl AH204.out, Or.inl AW204.out, LL204.out, Z206.out⟩⟩
      case rest =>
        obtain ⟨bi, bj, a17, cap17, ps17, lo17, hi17, rfl, rfl, rfl, HP17, M17⟩ := hcut
        rename World => w18
        have E18 := hide_it (E15.out.trans (M17.out.be.mono E15.out.size))
        have N18 := hide_it (N15.out.trans (M17.out.be.mono N15.out.size))
        have V18 : Hid (Recs w18 (.slice a17 RS.length cap17) RS) := by
          have := M17.out.ow.recs; rw [HP17.out] at this; exact this
        have Y18 := hide_it (V4.out.later E18.out (Nat.le_refl _))
        have I18 := hide_it M17.out.ho
        have J18 := hide_it M17.out.wo
        have Z18 := hide_it (Z4.out.after E18.out)
        have Q18 := hide_it (Q4.out.after E18.out)
        clear M17 KK
        obtain ⟨g0, g1, g2, g3, g4⟩ := I18.out.cells5
        obtain ⟨z0, z1, z2, z3, z4⟩ := Z18.out.cells5
        go_wp2_with fail
        refine (eqHouse_any ID UP ROOM _ _ RS F w18 V18.out Y18.out hRl).mono ?_
        rintro e w18a ⟨rfl, hba⟩
        have Ea := hide_it hba
        clear hba g0 g1 g2 g3 g4 z0 z1 z2 z3 z4
        obtain ⟨u0, u1, u2, u3⟩ := (J18.out.after Ea.out).cells4
        obtain ⟨q0, q1, q2, q3⟩ := (Q18.out.after Ea.out).cells4
        go_wp2_with fail
        refine (eqWord_sameH X1 X2 X3 0 w18a).mono ?_
        rintro e w19 ⟨rfl, hb19⟩
        have L19 := hide_it (Ea.out.trans (hb19.mono Ea.out.size))
        clear hb19 u0 u1 u2 u3 q0 q1 q2 q3 Ea
        have E19 := hide_it (E18.out.trans (L19.out.mono E18.out.size))
        have N19 := hide_it (N18.out.trans (L19.out.mono N18.out.size))
        obtain ⟨g0, g1, g2, g3, g4⟩ := (G14.out.after N19.out).cells5
        have R19 := hide_it (R14.out.later N19.out (Nat.le_refl _))
        go_wp2_with fail
        refine (heldHouse_any ID UP ROOM _ RS F 1 w19 R19.out hRl (by omega) (by omega)).mono ?_
        rintro e w20 ⟨rfl, hb20⟩
        have B20 := hide_it (B4.out.trans ((E19.out.trans (hb20.mono E19.out.size)).mono hz4))
        clear hb20 g0 g1 g2 g3 g4
        go_wp2
        go_ret
        exact ⟨rfl, B20.out⟩

theorem lawHHear_any (id : Int) (up : Bool) (room : Int) (u : Value) (rs : List R) (f k h t m : Int) (a : Addr) (w : World) (hv : Recs w u rs) (ha : ErrAt w a) (hm : (rs.length : Int) ≤ 9223372036854775807) (hms : ∀ r ∈ rs, (r.2.2.length : Int) ≤ 9223372036854775807) :
    Calls Tryz.prog 3 #[houseV id up room u f, wordV k h t m] w fun e w' => e = .returned (.bool true) ∧ Below w.heap.size w w' := by
  by_cases hl : tot rs ≤ 1048576
  · exact lawHHear_small id up room u rs f k h t m a w hv ha hl
  · exact lawHHear_great id up room u rs f k h t m w hv hm hms (by omega)

end Go.Proofs.YthllcffmpeopcaaGreatDoor
