/- The law FnExactHouseStock, walked: at every house, whatever counts, it answers true, and nothing that was there before has turned. In a world in which the sentinel's variable holds a pointer to an errors.errorString. -/
import Derived.Test.YtclcehfaoeoipaaDoorHStock3
import Derived.Test.YtclcehfaoeoipaaDoorKMark
import Derived.Test.YtclcehfaoeoipaaDoorKRun
import Derived.Test.YtclcehfaoeoipaaDoorHLawBase
import Derived.Deep.RegionHeld
namespace Go.Proofs.YtclcehfaoeoipaaDoor
open Go.RowKit

theorem hsO_len (id room : Int) (rs : List R) (f : Int) (forced : Bool) : (oH (hsO id room rs f forced)).length ≤ 6 := by
  unfold hsO
  split
  · exact Pl.oH_len _
  · simp [oH]

set_option maxHeartbeats 1000000 in
theorem lawHStock_great (id : Int) (up : Bool) (room : Int) (v : Value) (rs : List R) (f : Int) (forced : Bool) (w : World) (hv : Recs w v rs) (hl : (rs.length : Int) ≤ 9223372036854775807) (hls : ∀ r ∈ rs, (r.2.2.length : Int) ≤ 9223372036854775807) (hg : 1048576 < (tot rs : Int)) :
    Calls Tryd.prog 4 #[houseV id up room v f, .bool forced] w fun e w' => e = .returned (.bool true) ∧ Below w.heap.size w w' := by
  have HS : Hid (∀ o, Calls Tryd.prog 7 #[houseV id up room v f, .int .i64 1048576] (w.alloc o) fun e w' => e = .returned (.int .i64 (-1)) ∧ Below (w.alloc o).heap.size (w.alloc o) w') := fun o => by
    have := szHouse_any id up room v rs f 1048576 (w.alloc o) (hv.later (alloc_below w o) (Nat.le_refl _)) hl hls (by omega) (by omega)
    rw [leftOf_neg (by omega)] at this
    exact this
  obtain ⟨av, cv, rfl⟩ := hv.shape
  clear hv hl hls hg
  go_enter Tryd.func4, Tryd.ntmps4
  go_wp2_with (go_at_call 7; refine (HS.out _).mono ?_; rintro e w1 ⟨rfl, hb⟩)
  go_ret
  exact ⟨rfl, below_after (by assumption)⟩

set_option maxHeartbeats 8000000 in
theorem lawHStock_small (id : Int) (up : Bool) (room : Int) (v : Value) (rs : List R) (f : Int) (forced : Bool) (a : Addr) (w : World) (hv : Recs w v rs) (ha : ErrAt w a) (hl : tot rs ≤ 1048576) :
    Calls Tryd.prog 4 #[houseV id up room v f, .bool forced] w fun e w' => e = .returned (.bool true) ∧ Below w.heap.size w w' := by
  have hrl := tot_len rs
  have HS : Hid (∀ o, Calls Tryd.prog 7 #[houseV id up room v f, .int .i64 1048576] (w.alloc o) fun e w' => e = .returned (.int .i64 (1048576 - tot rs)) ∧ Below (w.alloc o).heap.size (w.alloc o) w') := fun o => by
    have := szHouse_any id up room v rs f 1048576 (w.alloc o) (hv.later (alloc_below w o) (Nat.le_refl _)) (by omega) (fun r hr => by have := tot_mem rs r hr; omega) (by omega) (by omega)
    rw [leftOf_pos (by omega)] at this
    exact this
  have HV : Hid (∀ W, Below w.heap.size w W → Recs W v rs) := fun W h => hv.later h (Nat.le_refl _)
  have HA : Hid (∀ W, Below w.heap.size w W → ErrAt W a) := fun W h => ha.later h (Nat.le_refl _)
  obtain ⟨av, cv, hvs⟩ := hv.shape
  have H0 : Hid (Blk (w.alloc (.cells #[.int .i64 id, .bool up, .int .i64 room, v, .int .i64 f] 26)) w.heap.size #[.int .i64 id, .bool up, .int .i64 room, v, .int .i64 f] 26) := Blk.new _ _ _
  clear hv ha
  subst hvs
  -- what comes out
  obtain ⟨RR, hRR⟩ : ∃ x, Hid (oR room (hsO id room rs f forced) = x) := ⟨_, rfl⟩
  obtain ⟨HH, hHH⟩ : ∃ x, Hid (oH (hsO id room rs f forced) = x) := ⟨_, rfl⟩
  have hHl : HH.length ≤ 6 := by rw [← hHH.out]; exact hsO_len id room rs f forced
  have hHl9 : HH.length ≤ 1048576 := by omega
  have HSP : Hid (∀ (x : Value) (W : World), Recs W x rs → Form x rs.length → Calls Tryd.prog 12 #[houseV id up room x f, .bool forced] W fun e w' => SkOut W w' e RR HH) := fun x W h hfm => by
    have := specHStock_any id up room x rs f forced W h hfm hl; rw [hRR.out, hHH.out] at this; exact this
  have HIM : Hid (∀ (x : Value) (W : World), Recs W x rs → Form x rs.length → ErrAt W a → Calls Tryd.prog 13 #[houseV id up room x f, .bool forced] W fun e w' => SkOut W w' e RR HH) := fun x W h hfm h2 => by
    have := implHStock_any id up room x rs f forced a W h hfm hl h2; rw [hRR.out, hHH.out] at this; exact this
  have hKx := kAt_bd rs 1 rs.length (Nat.le_refl _) hl (by omega) (by omega)
  go_enter Tryd.func4, Tryd.ntmps4
  -- how great it is
  go_wp2_with fail
  refine (HS.out _).mono ?_
  rintro e w1 ⟨rfl, hb1⟩
  have B1 := hide_it (below_after hb1)
  have T1 := hide_it (H0.out.after hb1)
  have hz1 : w.heap.size ≤ w1.heap.size := B1.out.size
  clear hb1
  obtain ⟨c0, c1, c2, c3, c4⟩ := T1.out.cells5
  -- w0
  go_wp2_with fail
  refine (toHouse_any id up room _ rs f w1 (HV.out _ B1.out) hl).mono ?_
  rintro e w2 ⟨a2, cap2, rfl, hm2, hb2⟩
  have B2 := hide_it (B1.out.trans (hb2.mono hz1))
  have T2 := hide_it (T1.out.after hb2)
  have V2 := hide_it hm2.recs
  have FM2 : Hid (Form (.slice a2 rs.length cap2) rs.length) := form_made hm2
  have hz2 : w.heap.size ≤ w2.heap.size := B2.out.size
  clear hb2 hm2 c0 c1 c2 c3 c4
  go_wp2_with fail
  refine (HSP.out _ w2 V2.out FM2.out).mono ?_
  rintro e w3 ⟨a3, cap3, rfl, ho3, hb3⟩
  have B3 := hide_it (B2.out.trans (hb3.mono hz2))
  have T3 := hide_it (T2.out.after hb3)
  have V3 := hide_it (holds_of_row ho3)
  have hz3 : w.heap.size ≤ w3.heap.size := B3.out.size
  clear hb3 ho3
  -- x0
  obtain ⟨c0, c1, c2, c3, c4⟩ := T3.out.cells5
  have k0 := fun x => cellAlloc c0 x
  have k1 := fun x => cellAlloc c1 x
  have k2 := fun x => cellAlloc c2 x
  have k3 := fun x => cellAlloc c3 x
  have k4 := fun x => cellAlloc c4 x
  have hws3 : w.heap.size < w3.heap.size := T3.out.lt
  obtain ⟨w4, hw4⟩ : ∃ W, Hid (W = w3.alloc (.cells #[.int .i64 RR, .slice a3 HH.length cap3] 39)) := ⟨_, rfl⟩
  go_wp2_with fail
  rw [← hw4.out]
  have al4 := hide_it (show Below w3.heap.size w3 w4 by rw [hw4.out]; exact alloc_below _ _)
  have hs4 : w4.heap.size = w3.heap.size + 1 := by rw [hw4.out]; simp
  have HS4 := hide_it hs4
  have B4 := hide_it (B3.out.trans (al4.out.mono hz3))
  have T4 := hide_it (T3.out.after al4.out)
  have V4 := hide_it (V3.out.later al4.out (Nat.le_refl _))
  have Z4 : Hid (Blk w4 w3.heap.size #[.int .i64 RR, .slice a3 HH.length cap3] 39) := by show Blk _ _ _ _; rw [hw4.out]; exact Blk.new _ _ _
  clear hs4 k0 k1 k2 k3 k4 c0 c1 c2 c3 c4
  refine (toHouse_any id up room _ rs f w4 (HV.out _ B4.out) hl).mono ?_
  rintro e w5 ⟨a5, cap5, rfl, hm5, hb5⟩
  have FM5 : Hid (Form (.slice a5 rs.length cap5) rs.length) := form_made hm5
  obtain ⟨ps5, hp5, ho5⟩ := hm5
  have HP5 := hide_it hp5
  have O5 := hide_it ho5
  have E5 := hide_it hb5
  clear hp5 ho5 hb5
  -- g0
  obtain ⟨w6, hw6⟩ : ∃ W, Hid (W = w5.alloc (.cells #[.int .i64 id, .bool up, .int .i64 room, .slice a5 rs.length cap5, .int .i64 f] 33)) := ⟨_, rfl⟩
  go_wp2_with fail
  rw [← hw6.out]
  have al6 := hide_it (show Below w5.heap.size w5 w6 by rw [hw6.out]; exact alloc_below _ _)
  have HS6 := hide_it (show w6.heap.size = w5.heap.size + 1 by rw [hw6.out]; simp)
  have E6 := hide_it (E5.out.trans (al6.out.mono E5.out.size))
  have O6 := hide_it (O5.out.below al6.out (Nat.le_refl _))
  have X6 : Hid (Blk w6 w5.heap.size #[.int .i64 id, .bool up, .int .i64 room, .slice a5 rs.length cap5, .int .i64 f] 33) := by show Blk _ _ _ _; rw [hw6.out]; exact Blk.new _ _ _
  have R6 : Hid (Recs w6 (.slice a5 rs.length cap5) rs) := by
    have := O6.out.recs; rw [HP5.out] at this; exact this
  have hz4 : w.heap.size ≤ w4.heap.size := B4.out.size
  have B6 := hide_it (B4.out.trans (E6.out.mono hz4))
  refine (HIM.out _ w6 R6.out FM5.out (HA.out _ B6.out)).mono ?_
  rintro e w7 ⟨a7, cap7, rfl, ho7, hb7⟩
  have O7 := hide_it ho7
  have X7 := hide_it (X6.out.after hb7)
  have O7x := hide_it (O6.out.below hb7 (by have := HS6.out; omega))
  have E7 := hide_it (E6.out.trans (hb7.mono E6.out.size))
  have HS7 := hide_it hb7.size
  clear ho7 hb7
  obtain ⟨w8, hw8⟩ : ∃ W, Hid (W = w7.alloc (.cells #[.int .i64 RR, .slice a7 HH.length cap7] 39)) := ⟨_, rfl⟩
  have Z7 := hide_it (Z4.out.after E7.out)
  obtain ⟨z0, z1⟩ := Z7.out.cells2
  have k0 := fun x => cellAlloc z0 x
  have k1 := fun x => cellAlloc z1 x
  have hlt37 : w3.heap.size < w7.heap.size := Z7.out.lt
  go_wp2_with fail
  rw [← hw8.out]
  have al8 := hide_it (show Below w7.heap.size w7 w8 by rw [hw8.out]; exact alloc_below _ _)
  have HS8 := hide_it (show w8.heap.size = w7.heap.size + 1 by rw [hw8.out]; simp)
  have E8 := hide_it (E7.out.trans (al8.out.mono E7.out.size))
  have O8 := hide_it (ownsRow_below O7.out al8.out (fun j hj => (O7.out.lt j hj).2))
  have O8x := hide_it (O7x.out.below al8.out (by have := HS6.out; have := HS7.out; omega))
  have X8 := hide_it (X7.out.after al8.out)
  have G8 : Hid (Blk w8 w7.heap.size #[.int .i64 RR, .slice a7 HH.length cap7] 39) := by show Blk _ _ _ _; rw [hw8.out]; exact Blk.new _ _ _
  have R8 := hide_it (holds_of_row O8.out)
  have V8 := hide_it (V4.out.later E8.out (Nat.le_refl _))
  clear k0 k1 z0 z1
  refine (eqStock_any RR _ _ HH w8 R8.out V8.out hHl9).mono ?_
  rintro e w9 ⟨rfl, hb9⟩
  have E9 := hide_it (E8.out.trans (hb9.mono E8.out.size))
  have O9 := hide_it (ownsRow_below O8.out hb9 (fun j hj => (O8.out.lt j hj).2))
  have O9x := hide_it (O8x.out.below hb9 (by have := HS6.out; have := HS7.out; have := HS8.out; omega))
  have X9 := hide_it (X8.out.after hb9)
  have G9 := hide_it (G8.out.after hb9)
  have T9 := hide_it (T4.out.after E9.out)
  have HS9 := hide_it hb9.size
  have hz9 : w.heap.size ≤ w9.heap.size := Nat.le_trans hz4 E9.out.size
  have B9 := hide_it (B4.out.trans (E9.out.mono hz4))
  have R9x : Hid (Recs w9 (.slice a5 rs.length cap5) rs) := by
    have := O9x.out.recs; rw [HP5.out] at this; exact this
  clear hb9
  obtain ⟨c0, c1, c2, c3, c4⟩ := T9.out.cells5
  obtain ⟨x0, x1, x2, x3, x4⟩ := X9.out.cells5
  go_wp2_with fail
  go_region_held (fun w' => (w'.cell? ⟨w5.heap.size, 0, none⟩ = some (.int .i64 id) ∧ w'.cell? ⟨w5.heap.size, 1, none⟩ = some (.bool up) ∧ w'.cell? ⟨w5.heap.size, 2, none⟩ = some (.int .i64 room) ∧ w'.cell? ⟨w5.heap.size, 3, none⟩ = some (.slice a5 rs.length cap5) ∧ w'.cell? ⟨w5.heap.size, 4, none⟩ = some (.int .i64 f)) ∧ (w'.cell? ⟨w.heap.size, 0, none⟩ = some (.int .i64 id) ∧ w'.cell? ⟨w.heap.size, 1, none⟩ = some (.bool up) ∧ w'.cell? ⟨w.heap.size, 2, none⟩ = some (.int .i64 room) ∧ w'.cell? ⟨w.heap.size, 3, none⟩ = some (.slice av rs.length cv) ∧ w'.cell? ⟨w.heap.size, 4, none⟩ = some (.int .i64 f))) (go_keep)
    (first
    | (go_at_call 9; refine (toHouse_any id up room _ rs f _ ?_ hl).mono ?_; exact (HV.out _ B9.out.drew); rintro e w10 ⟨a10, cap10, rfl, hm10, hb10⟩; have hb10' := (Below.refl w9.heap.size w9).drew.trans hb10; have L10 := hide_it hb10'; have y10 := R9x.out.later hb10' (Nat.le_refl _); have v10 := hm10.recs; obtain ⟨x100, x101, x102, x103, x104⟩ := (X9.out.after hb10').cells5; obtain ⟨c100, c101, c102, c103, c104⟩ := (T9.out.after hb10').cells5; clear hb10 hb10' hm10)
    | (go_at_call 11; refine (eqHouse_any id up room _ _ rs f _ ?_ ?_ hl).mono ?_; assumption; assumption; rintro e w11 ⟨rfl, hb11⟩; have L11 := hide_it (L10.out.trans (hb11.mono L10.out.size)); obtain ⟨x110, x111, x112, x113, x114⟩ := (X9.out.after L11.out).cells5; obtain ⟨c110, c111, c112, c113, c114⟩ := (T9.out.after L11.out).cells5; clear hb11))
  clear c0 c1 c2 c3 c4 x0 x1 x2 x3 x4
  -- x0 is marked
  have hl5 : ps5.length = rs.length := by have := congrArg List.length HP5.out; simpa using this
  have HL5 := hide_it hl5
  have h56 : w5.heap.size + 1 = w6.heap.size := HS6.out.symm
  have h67 : w6.heap.size ≤ w7.heap.size := HS7.out
  have h78 : w7.heap.size + 1 = w8.heap.size := HS8.out.symm
  have h89 : w8.heap.size ≤ w9.heap.size := HS9.out
  have h45 : w4.heap.size ≤ w5.heap.size := E5.out.size
  have SZ := hide_it (show w5.heap.size < w6.heap.size ∧ w6.heap.size ≤ w7.heap.size ∧ w7.heap.size < w8.heap.size ∧ w8.heap.size ≤ w9.heap.size ∧ w4.heap.size ≤ w5.heap.size by omega)
  clear hl5 h56 h67 h78 h89 h45
  have E11 := hide_it (E9.out.trans (L11.out.mono E9.out.size))
  have O11x := hide_it (O9x.out.below L11.out (by have := SZ.out; omega))
  have O11 := hide_it (ownsRow_below O9.out L11.out (fun j hj => (O9.out.lt j hj).2))
  have G11 := hide_it (G9.out.after L11.out)
  have hmk : Calls Tryd.prog 15 #[houseV id up room (.slice a5 rs.length cap5) f, .int .i64 1] w11 fun e w' => e = .returned (.int .i64 (kAt rs 1 rs.length)) ∧ Mid w4.heap.size w5.heap.size w11 w' := by
    have h := markHouse_any id up room (.slice a5 rs.length cap5) ps5 f 1 w4.heap.size w5.heap.size w11 O11x.out (by rw [HP5.out]; exact hl) (by omega) (by omega)
    rw [HP5.out] at h
    rw [HL5.out] at h
    exact h.mono fun e w' h => ⟨h.1, h.2.2⟩
  have HMK := hide_it hmk
  clear hmk
  go_wp2_with fail
  refine HMK.out.mono ?_
  rintro e w12 ⟨rfl, hM12⟩
  have E12 := hide_it (E11.out.trans (hM12.below (Nat.le_refl _) E11.out.size))
  have O12 := hide_it (ownsRow_mid O11.out hM12 (fun j hj => Or.inr (by have := SZ.out; have := (O7.out.lt j hj).1; omega)))
  have G12 := hide_it (G11.out.mid hM12 (Or.inr (by have := SZ.out; omega)))
  have Z12 := hide_it (Z4.out.after E12.out)
  have V12 := hide_it (V4.out.later E12.out (Nat.le_refl _))
  have HS12 := hide_it (show w9.heap.size ≤ w12.heap.size from Nat.le_trans L11.out.size hM12.size)
  have R12 := hide_it (holds_of_row O12.out)
  clear hM12
  obtain ⟨g0, g1⟩ := G12.out.cells2
  obtain ⟨z0, z1⟩ := Z12.out.cells2
  go_wp2_with fail
  refine (eqStock_any RR _ _ HH w12 R12.out V12.out hHl9).mono ?_
  rintro e w13 ⟨rfl, hb13⟩
  have E13 := hide_it (E12.out.trans (hb13.mono E12.out.size))
  have O13 := hide_it (ownsRow_below O12.out hb13 (fun j hj => (O12.out.lt j hj).2))
  have G13 := hide_it (G12.out.after hb13)
  have HS13 := hide_it hb13.size
  clear hb13 g0 g1 z0 z1
  -- g0 is marked, and held
  have LT7 := hide_it (fun j hj => O7.out.lt j hj)
  have hmk := markStock_any RR (.slice a7 HH.length cap7) HH 1 w6.heap.size HH.length w13 O13.out hHl9 (by omega) (by omega)
  have HMK2 := hide_it hmk
  clear hmk
  obtain ⟨g0, g1⟩ := G13.out.cells2
  go_wp2_with fail
  refine HMK2.out.mono ?_
  rintro e w14 ⟨rfl, ho14, hm14⟩
  have hM14 := hm14 w6.heap.size w7.heap.size LT7.out
  have hR14 : Holds w14 (.slice a7 HH.length cap7) (markH HH.length 1) := holds_of_row (base := w6.heap.size) (by rw [markH_length]; exact ho14)
  clear ho14 hm14
  have E14 := hide_it (E13.out.trans (hM14.below (show w4.heap.size ≤ w6.heap.size by have := SZ.out; omega) E13.out.size))
  have G14 := hide_it (G13.out.mid hM14 (Or.inr (Nat.le_refl _)))
  have R14 := hide_it hR14
  clear hM14 hR14 g0 g1
  obtain ⟨g0, g1⟩ := G14.out.cells2
  go_wp2_with fail
  refine (heldStock_any RR _ HH.length 1 w14 R14.out hHl9 (by omega) (by omega)).mono ?_
  rintro e w15 ⟨rfl, hb15⟩
  have E15 := hide_it (E14.out.trans (hb15.mono E14.out.size))
  have N15 := hide_it hb15
  have T15 := hide_it (T4.out.after E15.out)
  have B15 := hide_it (B4.out.trans (E15.out.mono hz4))
  clear hb15 g0 g1
  obtain ⟨c0, c1, c2, c3, c4⟩ := T15.out.cells5
  go_wp2_with fail
  -- once more
  refine (toHouse_any id up room _ rs f w15 (HV.out _ B15.out) hl).mono ?_
  rintro e w16 ⟨a16, cap16, rfl, hm16, hb16⟩
  have FM16 : Hid (Form (.slice a16 rs.length cap16) rs.length) := form_made hm16
  have V16 := hide_it hm16.recs
  have E16 := hide_it (E15.out.trans (hb16.mono E15.out.size))
  have N16 := hide_it (N15.out.trans (hb16.mono N15.out.size))
  have B16 := hide_it (B15.out.trans (hb16.mono B15.out.size))
  clear hm16 hb16 c0 c1 c2 c3 c4
  go_wp2_with fail
  refine (HIM.out _ w16 V16.out FM16.out (HA.out _ B16.out)).mono ?_
  rintro e w17 ⟨a17, cap17, rfl, ho17, hb17⟩
  have V17 := hide_it (holds_of_row ho17)
  have E17 := hide_it (E16.out.trans (hb17.mono E16.out.size))
  have N17 := hide_it (N16.out.trans (hb17.mono N16.out.size))
  clear ho17 hb17
  obtain ⟨w18, hw18⟩ : ∃ W, Hid (W = w17.alloc (.cells #[.int .i64 RR, .slice a17 HH.length cap17] 39)) := ⟨_, rfl⟩
  obtain ⟨z0, z1⟩ := (Z4.out.after E17.out).cells2
  have k0 := fun x => cellAlloc z0 x
  have k1 := fun x => cellAlloc z1 x
  have hlt317 : w3.heap.size < w17.heap.size := World.block_lt_of_cell? _ _ z0
  go_wp2_with fail
  rw [← hw18.out]
  have al18 := hide_it (show Below w17.heap.size w17 w18 by rw [hw18.out]; exact alloc_below _ _)
  have E18 := hide_it (E17.out.trans (al18.out.mono E17.out.size))
  have N18 := hide_it (N17.out.trans (al18.out.mono N17.out.size))
  have V18 := hide_it (V17.out.later al18.out (Nat.le_refl _))
  have Y18 := hide_it (V4.out.later E18.out (Nat.le_refl _))
  clear k0 k1 z0 z1
  refine (eqStock_any RR _ _ HH w18 V18.out Y18.out hHl9).mono ?_
  rintro e w19 ⟨rfl, hb19⟩
  have E19 := hide_it (E18.out.trans (hb19.mono E18.out.size))
  have N19 := hide_it (N18.out.trans (hb19.mono N18.out.size))
  clear hb19
  obtain ⟨g0, g1⟩ := (G14.out.after N19.out).cells2
  have R19 := hide_it (R14.out.later N19.out (Nat.le_refl _))
  go_wp2_with fail
  refine (heldStock_any RR _ HH.length 1 w19 R19.out hHl9 (by omega) (by omega)).mono ?_
  rintro e w20 ⟨rfl, hb20⟩
  have B20 := hide_it (B4.out.trans ((E19.out.trans (hb20.mono E19.out.size)).mono hz4))
  clear hb20 g0 g1
  go_wp2
  go_ret
  exact ⟨rfl, B20.out⟩

theorem lawHStock_any (id : Int) (up : Bool) (room : Int) (u : Value) (rs : List R) (f : Int) (forced : Bool) (a : Addr) (w : World) (hv : Recs w u rs) (ha : ErrAt w a) (hm : (rs.length : Int) ≤ 9223372036854775807) (hms : ∀ r ∈ rs, (r.2.2.length : Int) ≤ 9223372036854775807) :
    Calls Tryd.prog 4 #[houseV id up room u f, .bool forced] w fun e w' => e = .returned (.bool true) ∧ Below w.heap.size w w' := by
  by_cases hl : tot rs ≤ 1048576
  · exact lawHStock_small id up room u rs f forced a w hv ha hl
  · exact lawHStock_great id up room u rs f forced w hv hm hms (by omega)

end Go.Proofs.YtclcehfaoeoipaaDoor
