/- FnHearOther answers true whatever the code, and it reads afterwards as it read before: promise 36 at every drawn house and word. The card: the sentinel's variable starts as the program's text lays it. -/
import Derived.Test.YtcogplmopdckhaaGreatDoorBase8

namespace Go.Proofs.YtcogplmopdckhaaGreatDoor
open Go.RowKit

theorem hear_not {id room : Int} {up : Bool} {rs : List R} {f k h t m : Int} (hok : hoOk id room rs f = true) (hb : Pl.hearB id up k h t m = false) : hearO id up room rs f k h t m = ((id, up, room, rs, f), (0, 0, 0), false) := by
  obtain ⟨hs, hf, eA, eF, _⟩ := hear_ready hok
  rw [hearO_ok hok eA eF, hearO'_not hb]
theorem hearB_down (id k h t m : Int) : Pl.hearB id false k h t m = false := by simp [Pl.hearB]
theorem hearB_house {id h : Int} (up : Bool) (k t m : Int) (hne : h ≠ id) : Pl.hearB id up k h t m = false := by simp [Pl.hearB, hne]
theorem hearB_kind {k : Int} (id : Int) (up : Bool) (h t m : Int) (hk : ¬ k ≤ 3) : Pl.hearB id up k h t m = false := by simp [Pl.hearB, hk]

set_option maxRecDepth 100000 in
set_option maxHeartbeats 16000000 in
theorem lawP36_small (vc : Value) (nc : Nat) (a : Addr) (w : World) (hc : CodeAt w vc nc) (hcn : nc ≤ 1048576) (ha : ErrAt w a) :
    Calls Tryz.prog 7 #[vc] w fun e w' => e = .returned (.bool true) ∧ Below w.heap.size w w' := by
  have HD := hide_it (drawHouseHear_any vc nc w hc hcn)
  have HA : Hid (∀ W, Below w.heap.size w W → ErrAt W a) := fun W hb => ha.later hb (Nat.le_refl _)
  obtain ⟨ac, cc, rfl, _⟩ := hc
  have hci : (nc : Int) ≤ 1048576 := by omega
  clear hcn ha
  go_enter Tryz.func7, Tryz.ntmps7
  go_wp2_with fail
  refine HD.out.mono ?_
  rintro e w1 ⟨id, up, room, o, f, rs, k, h, t, m, rfl, hl9, hR, hfm, hb1⟩
  have hl : tot rs ≤ 1048576 := by omega
  have B1 := hide_it hb1
  have R1 := hide_it hR
  have FM := hide_it hfm
  obtain ⟨ao, co, rfl⟩ := hR.shape
  clear hb1 hR HD hfm
  obtain ⟨⟨⟨ID, UP, ROOM, RS, F⟩, ⟨X1, X2, X3⟩, YB⟩, HO⟩ : ∃ o : He, Hid (hearO id up room rs f k h t m = o) := ⟨_, rfl⟩
  have hRl : tot RS ≤ 1048576 := by have := hearO_tot id up room rs f k h t m hl; rw [HO.out] at this; exact this
  obtain ⟨w2, hw2⟩ : ∃ W, Hid (W = (w1.alloc (.cells #[.int .i64 id, .bool up, .int .i64 room, .slice ao rs.length co, .int .i64 f] 34)).alloc (.cells #[.int .i64 k, .int .i64 h, .int .i64 t, .int .i64 m] 35)) := ⟨_, rfl⟩
  have al2 : Below w1.heap.size w1 w2 := by rw [hw2.out]; exact below2 _ _ _
  have B2 := hide_it (B1.out.trans (al2.mono B1.out.size))
  have R2 := hide_it (R1.out.later al2 (Nat.le_refl _))
  have L2 : Hid (Blk w2 w1.heap.size #[.int .i64 id, .bool up, .int .i64 room, .slice ao rs.length co, .int .i64 f] 34) := by show Blk _ _ _ _; rw [hw2.out]; exact (Blk.new _ _ _).alloc _
  have W2 : Hid (Blk w2 (w1.heap.size + 1) #[.int .i64 k, .int .i64 h, .int .i64 t, .int .i64 m] 35) := by show Blk _ _ _ _; rw [hw2.out]; exact Blk.new2 _ _ _ _
  have SP : Hid (∀ W, Below w2.heap.size w2 W → Calls Tryz.prog 10 #[houseV id up room (.slice ao rs.length co) f, wordV k h t m] W fun e w' => HeOut W w' e ((ID, UP, ROOM, RS, F), (X1, X2, X3), YB)) := fun W hb => by
    have := specHear_any id up room _ rs f k h t m W (R2.out.later hb (Nat.le_refl _)) hl; rw [HO.out] at this; exact this
  have IM : Hid (∀ W, Below w2.heap.size w2 W → Calls Tryz.prog 13 #[houseV id up room (.slice ao rs.length co) f, wordV k h t m] W fun e w' => HeOut W w' e ((ID, UP, ROOM, RS, F), (X1, X2, X3), YB)) := fun W hb => by
    have := implHear_any id up room _ rs f k h t m a W (R2.out.later hb (Nat.le_refl _)) FM.out hl (HA.out _ (B2.out.trans (hb.mono B2.out.size))); rw [HO.out] at this; exact this
  clear al2
  go_wp2_with fail
  rw [← hw2.out]
  refine (SP.out w2 (Below.refl _ _)).mono ?_
  rintro e w3 ⟨a3, c3, rfl, hm3, hb3⟩
  obtain ⟨w4, hw4⟩ : ∃ W, Hid (W = (w3.alloc (.cells #[.int .i64 ID, .bool UP, .int .i64 ROOM, .slice a3 RS.length c3, .int .i64 F] 34)).alloc (.cells #[.int .i64 X1, .int .i64 X2, .int .i64 X3, .int .i64 0] 35)) := ⟨_, rfl⟩
  have al4 : Below w3.heap.size w3 w4 := by rw [hw4.out]; exact below2 _ _ _
  have E3 := hide_it hb3
  have E4 := hide_it (hb3.trans (al4.mono hb3.size))
  have V4 := hide_it (hm3.recs.later al4 (Nat.le_refl _))
  have Z4 : Hid (Blk w4 w3.heap.size #[.int .i64 ID, .bool UP, .int .i64 ROOM, .slice a3 RS.length c3, .int .i64 F] 34) := by show Blk _ _ _ _; rw [hw4.out]; exact (Blk.new _ _ _).alloc _
  have A4 : Hid (Blk w4 (w3.heap.size + 1) #[.int .i64 X1, .int .i64 X2, .int .i64 X3, .int .i64 0] 35) := by show Blk _ _ _ _; rw [hw4.out]; exact Blk.new2 _ _ _ _
  obtain ⟨l0, l1, l2, l3, l4⟩ := (L2.out.after E3.out).cells5
  obtain ⟨v0, v1, v2, v3⟩ := (W2.out.after E3.out).cells4'
  have k0 := fun o p => cellAlloc (cellAlloc l0 o) p
  have k1 := fun o p => cellAlloc (cellAlloc l1 o) p
  have k2 := fun o p => cellAlloc (cellAlloc l2 o) p
  have k3 := fun o p => cellAlloc (cellAlloc l3 o) p
  have k4 := fun o p => cellAlloc (cellAlloc l4 o) p
  have k5 := fun o p => cellAlloc (cellAlloc v0 o) p
  have k6 := fun o p => cellAlloc (cellAlloc v1 o) p
  have k7 := fun o p => cellAlloc (cellAlloc v2 o) p
  have k8 := fun o p => cellAlloc (cellAlloc v3 o) p
  have hll := (L2.out.after E3.out).lt
  have hlv := (W2.out.after E3.out).lt
  clear hm3 hb3 al4
  go_wp2_with fail
  rw [← hw4.out]
  refine (IM.out w4 E4.out).mono ?_
  rintro e w5 ⟨a5, c5, rfl, hm5, hb5⟩
  obtain ⟨w6, hw6⟩ : ∃ W, Hid (W = (w5.alloc (.cells #[.int .i64 ID, .bool UP, .int .i64 ROOM, .slice a5 RS.length c5, .int .i64 F] 34)).alloc (.cells #[.int .i64 X1, .int .i64 X2, .int .i64 X3, .int .i64 0] 35)) := ⟨_, rfl⟩
  have al6 : Below w5.heap.size w5 w6 := by rw [hw6.out]; exact below2 _ _ _
  have e6 : Below w4.heap.size w4 w6 := hb5.trans (al6.mono hb5.size)
  have E6 := hide_it (E4.out.trans (e6.mono E4.out.size))
  have B6 := hide_it (B2.out.trans (E6.out.mono B2.out.size))
  have U6 := hide_it (hm5.recs.later al6 (Nat.le_refl _))
  have V6 := hide_it (V4.out.later e6 (Nat.le_refl _))
  have UF : Hid (Form (.slice a5 RS.length c5) RS.length) := form_made (rs := RS) hm5
  have X6 : Hid (Blk w6 w5.heap.size #[.int .i64 ID, .bool UP, .int .i64 ROOM, .slice a5 RS.length c5, .int .i64 F] 34) := by show Blk _ _ _ _; rw [hw6.out]; exact (Blk.new _ _ _).alloc _
  have D6 : Hid (Blk w6 (w5.heap.size + 1) #[.int .i64 X1, .int .i64 X2, .int .i64 X3, .int .i64 0] 35) := by show Blk _ _ _ _; rw [hw6.out]; exact Blk.new2 _ _ _ _
  have Z6 := hide_it (Z4.out.after e6)
  have A6 := hide_it (A4.out.after e6)
  have L6 := hide_it (L2.out.after E6.out)
  have W6 := hide_it (W2.out.after E6.out)
  clear k0 k1 k2 k3 k4 k5 k6 k7 k8 l0 l1 l2 l3 l4 v0 v1 v2 v3 hll hlv
  obtain ⟨l0, l1, l2, l3, l4⟩ := (Z4.out.after hb5).cells5
  obtain ⟨v0, v1, v2, v3⟩ := (A4.out.after hb5).cells4'
  have k0 := fun o p => cellAlloc (cellAlloc l0 o) p
  have k1 := fun o p => cellAlloc (cellAlloc l1 o) p
  have k2 := fun o p => cellAlloc (cellAlloc l2 o) p
  have k3 := fun o p => cellAlloc (cellAlloc l3 o) p
  have k4 := fun o p => cellAlloc (cellAlloc l4 o) p
  have k5 := fun o p => cellAlloc (cellAlloc v0 o) p
  have k6 := fun o p => cellAlloc (cellAlloc v1 o) p
  have k7 := fun o p => cellAlloc (cellAlloc v2 o) p
  have k8 := fun o p => cellAlloc (cellAlloc v3 o) p
  have hll := (Z4.out.after hb5).lt
  have hlv := (A4.out.after hb5).lt
  clear hm5 hb5 al6 e6
  have KK : Hid (∀ W, Below w6.heap.size w6 W → (W.cell? ⟨w5.heap.size, 0, none⟩ = some (.int .i64 ID) ∧ W.cell? ⟨w5.heap.size, 1, none⟩ = some (.bool UP) ∧ W.cell? ⟨w5.heap.size, 2, none⟩ = some (.int .i64 ROOM) ∧ W.cell? ⟨w5.heap.size, 3, none⟩ = some (.slice a5 RS.length c5) ∧ W.cell? ⟨w5.heap.size, 4, none⟩ = some (.int .i64 F)) ∧ (W.cell? ⟨w3.heap.size, 0, none⟩ = some (.int .i64 ID) ∧ W.cell? ⟨w3.heap.size, 1, none⟩ = some (.bool UP) ∧ W.cell? ⟨w3.heap.size, 2, none⟩ = some (.int .i64 ROOM) ∧ W.cell? ⟨w3.heap.size, 3, none⟩ = some (.slice a3 RS.length c3) ∧ W.cell? ⟨w3.heap.size, 4, none⟩ = some (.int .i64 F)) ∧ (W.cell? ⟨w5.heap.size + 1, 0, none⟩ = some (.int .i64 X1) ∧ W.cell? ⟨w5.heap.size + 1, 1, none⟩ = some (.int .i64 X2) ∧ W.cell? ⟨w5.heap.size + 1, 2, none⟩ = some (.int .i64 X3) ∧ W.cell? ⟨w5.heap.size + 1, 3, none⟩ = some (.int .i64 0)) ∧ (W.cell? ⟨w3.heap.size + 1, 0, none⟩ = some (.int .i64 X1) ∧ W.cell? ⟨w3.heap.size + 1, 1, none⟩ = some (.int .i64 X2) ∧ W.cell? ⟨w3.heap.size + 1, 2, none⟩ = some (.int .i64 X3) ∧ W.cell? ⟨w3.heap.size + 1, 3, none⟩ = some (.int .i64 0)) ∧ (W.cell? ⟨w1.heap.size, 0, none⟩ = some (.int .i64 id) ∧ W.cell? ⟨w1.heap.size, 1, none⟩ = some (.bool up) ∧ W.cell? ⟨w1.heap.size, 2, none⟩ = some (.int .i64 room) ∧ W.cell? ⟨w1.heap.size, 3, none⟩ = some (.slice ao rs.length co) ∧ W.cell? ⟨w1.heap.size, 4, none⟩ = some (.int .i64 f)) ∧ (W.cell? ⟨w1.heap.size + 1, 0, none⟩ = some (.int .i64 k) ∧ W.cell? ⟨w1.heap.size + 1, 1, none⟩ = some (.int .i64 h) ∧ W.cell? ⟨w1.heap.size + 1, 2, none⟩ = some (.int .i64 t) ∧ W.cell? ⟨w1.heap.size + 1, 3, none⟩ = some (.int .i64 m))) := fun W hb =>
    ⟨(X6.out.after hb).cells5, (Z6.out.after hb).cells5, (D6.out.after hb).cells4', (A6.out.after hb).cells4', (L6.out.after hb).cells5, (W6.out.after hb).cells4'⟩
  have hbb : (YB != YB) = false := by simp
  have hbb2 : (YB == YB) = true := by simp
  go_wp2_with fail
  rw [← hw6.out]
  clear k0 k1 k2 k3 k4 k5 k6 k7 k8 l0 l1 l2 l3 l4 v0 v1 v2 v3 hll hlv
  refine (lnHouse_any ID UP ROOM _ _ RS F w6 U6.out V6.out hRl).mono ?_
  rintro e w7 ⟨rfl, hb7⟩
  have E7 : Hid (Below w6.heap.size w6 w7) := hb7
  clear hb7
  obtain ⟨⟨x0, x1, x2, x3, x4⟩, ⟨z0, z1, z2, z3, z4⟩, ⟨d0, d1, d2, d3⟩, ⟨b0, b1, b2, b3⟩, ⟨l0, l1, l2, l3, l4⟩, ⟨v0, v1, v2, v3⟩⟩ := KK.out _ E7.out
  obtain ⟨BB, hBB⟩ : ∃ b, Hid (hoOk id room rs f = b) := ⟨_, rfl⟩
  have HOK : Hid (∀ W, Below w6.heap.size w6 W → Calls Tryz.prog 23 #[houseV id up room (.slice ao rs.length co) f] W fun e w' => e = .returned (.bool BB) ∧ Below W.heap.size W w') := fun W hb => by
    have := specHouseOk_any id up room _ rs f W (R2.out.later (E6.out.trans (hb.mono E6.out.size)) (Nat.le_refl _)) hl; rw [hBB.out] at this; exact this
  go_wp2_with fail
  refine (HOK.out _ E7.out).mono ?_
  rintro e w8 ⟨rfl, hb8⟩
  have E8 := hide_it (E7.out.trans (hb8.mono E7.out.size))
  clear hb8
  clear x0 x1 x2 x3 x4 z0 z1 z2 z3 z4 d0 d1 d2 d3 b0 b1 b2 b3 l0 l1 l2 l3 l4 v0 v1 v2 v3
  obtain ⟨⟨x0, x1, x2, x3, x4⟩, ⟨z0, z1, z2, z3, z4⟩, ⟨d0, d1, d2, d3⟩, ⟨b0, b1, b2, b3⟩, ⟨l0, l1, l2, l3, l4⟩, ⟨v0, v1, v2, v3⟩⟩ := KK.out _ E8.out
  cases BB
  · go_wp2_with fail
    refine (lnHouse_any ID UP ROOM _ _ RS F w8 (U6.out.later E8.out (Nat.le_refl _)) (V6.out.later E8.out (Nat.le_refl _)) hRl).mono ?_
    rintro e w9 ⟨rfl, hb9⟩
    have E9 := hide_it (E8.out.trans (hb9.mono E8.out.size))
    have B9 := hide_it (B6.out.trans (E9.out.mono B6.out.size))
    clear hb9
    clear x0 x1 x2 x3 x4 z0 z1 z2 z3 z4 d0 d1 d2 d3 b0 b1 b2 b3 l0 l1 l2 l3 l4 v0 v1 v2 v3
    obtain ⟨⟨x0, x1, x2, x3, x4⟩, ⟨z0, z1, z2, z3, z4⟩, ⟨d0, d1, d2, d3⟩, ⟨b0, b1, b2, b3⟩, ⟨l0, l1, l2, l3, l4⟩, ⟨v0, v1, v2, v3⟩⟩ := KK.out _ E9.out
    go_wp2
    go_ret
    exact ⟨by simp, B9.out⟩
  have hid := Pl.inB_true (hoOk_parts hBB.out).1
  obtain ⟨OM, hOM⟩ : ∃ x, Int.tmod id 3 = x := ⟨_, rfl⟩
  have hOe : Int.tmod id 3 = id % 3 := Int.tmod_eq_emod_of_nonneg (by omega)
  have hO0 : 0 ≤ OM := by omega
  have hO3 : OM < 3 := by omega
  have hOne : OM + 1 ≠ id := by omega
  clear hOe
  have HN : Hid (∀ (up' : Bool) (k' h' t' m' : Int) (W : World), Below w6.heap.size w6 W → Pl.hearB id up' k' h' t' m' = false → Calls Tryz.prog 13 #[houseV id up' room (.slice ao rs.length co) f, wordV k' h' t' m'] W fun e w' => HeOut W w' e ((id, up', room, rs, f), (0, 0, 0), false)) := fun up' k' h' t' m' W hb hne => by
    have := implHear_any id up' room _ rs f k' h' t' m' a W (R2.out.later (E6.out.trans (hb.mono E6.out.size)) (Nat.le_refl _)) FM.out hl (HA.out _ (B6.out.trans (hb.mono B6.out.size))); rw [hear_not hBB.out hne] at this; exact this
  have HB2 := hide_it (hearB_house (h := OM + 1) up k t m hOne)
  have HRR : Hid (∀ W, Below w6.heap.size w6 W → Recs W (.slice ao rs.length co) rs) := fun W hb => R2.out.later (E6.out.trans (hb.mono E6.out.size)) (Nat.le_refl _)
  have p0 := fun o => cellAlloc l0 o
  have p1 := fun o => cellAlloc l1 o
  have p2 := fun o => cellAlloc l2 o
  have p3 := fun o => cellAlloc l3 o
  have p4 := fun o => cellAlloc l4 o
  have p5 := fun o => cellAlloc v0 o
  have p6 := fun o => cellAlloc v1 o
  have p7 := fun o => cellAlloc v2 o
  have p8 := fun o => cellAlloc v3 o
  have k0 := fun o p => cellAlloc (cellAlloc l0 o) p
  have k1 := fun o p => cellAlloc (cellAlloc l1 o) p
  have k2 := fun o p => cellAlloc (cellAlloc l2 o) p
  have k3 := fun o p => cellAlloc (cellAlloc l3 o) p
  have k4 := fun o p => cellAlloc (cellAlloc l4 o) p
  have k5 := fun o p => cellAlloc (cellAlloc v0 o) p
  have k6 := fun o p => cellAlloc (cellAlloc v1 o) p
  have k7 := fun o p => cellAlloc (cellAlloc v2 o) p
  have k8 := fun o p => cellAlloc (cellAlloc v3 o) p
  have hll : w1.heap.size < w8.heap.size := World.block_lt_of_cell? _ _ l0
  have hlv : w1.heap.size + 1 < w8.heap.size := World.block_lt_of_cell? _ _ v0
  obtain ⟨w10, hw10⟩ : ∃ W, Hid (W = (w8.alloc (.cells #[.int .i64 id, .bool false, .int .i64 room, .slice ao rs.length co, .int .i64 f] 34)).alloc (.cells #[.int .i64 k, .int .i64 (OM + 1), .int .i64 t, .int .i64 m] 35)) := ⟨_, rfl⟩
  have al10 : Below w8.heap.size w8 w10 := by rw [hw10.out]; exact below2 _ _ _
  have E10 := hide_it (E8.out.trans (al10.mono E8.out.size))
  have G10 : Hid (Blk w10 w8.heap.size #[.int .i64 id, .bool false, .int .i64 room, .slice ao rs.length co, .int .i64 f] 34) := by show Blk _ _ _ _; rw [hw10.out]; exact (Blk.new _ _ _).alloc _
  have O10 : Hid (Blk w10 (w8.heap.size + 1) #[.int .i64 k, .int .i64 (OM + 1), .int .i64 t, .int .i64 m] 35) := by show Blk _ _ _ _; rw [hw10.out]; exact Blk.new2 _ _ _ _
  clear al10
  go_wp2_with fail
  rw [← hw10.out]
  refine (HN.out false k h t m w10 E10.out (hearB_down _ _ _ _ _)).mono ?_
  rintro e w11 ⟨a11, c11, rfl, hm11, hb11⟩
  have E11 := hide_it (E10.out.trans (hb11.mono E10.out.size))
  obtain ⟨w12, hw12⟩ : ∃ W, Hid (W = (w11.alloc (.cells #[.int .i64 id, .bool false, .int .i64 room, .slice a11 rs.length c11, .int .i64 f] 34)).alloc (.cells #[.int .i64 0, .int .i64 0, .int .i64 0, .int .i64 0] 35)) := ⟨_, rfl⟩
  have al12 : Below w11.heap.size w11 w12 := by rw [hw12.out]; exact below2 _ _ _
  have Y12 : Hid (Blk w12 w11.heap.size #[.int .i64 id, .bool false, .int .i64 room, .slice a11 rs.length c11, .int .i64 f] 34) := by show Blk _ _ _ _; rw [hw12.out]; exact (Blk.new _ _ _).alloc _
  have D12 := hide_it (hb11.trans (al12.mono hb11.size))
  have E12 := hide_it (E11.out.trans (al12.mono E11.out.size))
  have M11 : Hid (Recs w12 (.slice a11 rs.length c11) rs) := hm11.recs.later al12 (Nat.le_refl _)
  have HB11 := hide_it hb11
  clear hm11 hb11 al12
  try clear p0
  try clear p1
  try clear p2
  try clear p3
  try clear p4
  try clear p5
  try clear p6
  try clear p7
  try clear p8
  try clear k0
  try clear k1
  try clear k2
  try clear k3
  try clear k4
  try clear k5
  try clear k6
  try clear k7
  try clear k8
  try clear l0
  try clear l1
  try clear l2
  try clear l3
  try clear l4
  try clear v0
  try clear v1
  try clear v2
  try clear v3
  try clear hll
  try clear hlv
  obtain ⟨l0, l1, l2, l3, l4⟩ := (L6.out.after E11.out).cells5
  have k0 := fun o p => cellAlloc (cellAlloc l0 o) p
  have k1 := fun o p => cellAlloc (cellAlloc l1 o) p
  have k2 := fun o p => cellAlloc (cellAlloc l2 o) p
  have k3 := fun o p => cellAlloc (cellAlloc l3 o) p
  have k4 := fun o p => cellAlloc (cellAlloc l4 o) p
  have hll := (L6.out.after E11.out).lt
  obtain ⟨v0, v1, v2, v3⟩ := (O10.out.after HB11.out).cells4'
  have k5 := fun o p => cellAlloc (cellAlloc v0 o) p
  have k6 := fun o p => cellAlloc (cellAlloc v1 o) p
  have k7 := fun o p => cellAlloc (cellAlloc v2 o) p
  have k8 := fun o p => cellAlloc (cellAlloc v3 o) p
  have hlv := (O10.out.after HB11.out).lt
  go_wp2_with fail
  rw [← hw12.out]
  refine (HN.out up k (OM + 1) t m w12 E12.out HB2.out).mono ?_
  rintro e w13 ⟨a13, c13, rfl, hm13, hb13⟩
  have E13 := hide_it (E12.out.trans (hb13.mono E12.out.size))
  obtain ⟨w14, hw14⟩ : ∃ W, Hid (W = (w13.alloc (.cells #[.int .i64 id, .bool up, .int .i64 room, .slice a13 rs.length c13, .int .i64 f] 34)).alloc (.cells #[.int .i64 0, .int .i64 0, .int .i64 0, .int .i64 0] 35)) := ⟨_, rfl⟩
  have al14 : Below w13.heap.size w13 w14 := by rw [hw14.out]; exact below2 _ _ _
  have Y14 : Hid (Blk w14 w13.heap.size #[.int .i64 id, .bool up, .int .i64 room, .slice a13 rs.length c13, .int .i64 f] 34) := by show Blk _ _ _ _; rw [hw14.out]; exact (Blk.new _ _ _).alloc _
  have D14 := hide_it (hb13.trans (al14.mono hb13.size))
  have E14 := hide_it (E13.out.trans (al14.mono E13.out.size))
  have M13 : Hid (Recs w14 (.slice a13 rs.length c13) rs) := hm13.recs.later al14 (Nat.le_refl _)
  have HB13 := hide_it hb13
  clear hm13 hb13 al14
  try clear p0
  try clear p1
  try clear p2
  try clear p3
  try clear p4
  try clear p5
  try clear p6
  try clear p7
  try clear p8
  try clear k0
  try clear k1
  try clear k2
  try clear k3
  try clear k4
  try clear k5
  try clear k6
  try clear k7
  try clear k8
  try clear l0
  try clear l1
  try clear l2
  try clear l3
  try clear l4
  try clear v0
  try clear v1
  try clear v2
  try clear v3
  try clear hll
  try clear hlv
  obtain ⟨l0, l1, l2, l3, l4⟩ := (L6.out.after E13.out).cells5
  have k0 := fun o p => cellAlloc (cellAlloc l0 o) p
  have k1 := fun o p => cellAlloc (cellAlloc l1 o) p
  have k2 := fun o p => cellAlloc (cellAlloc l2 o) p
  have k3 := fun o p => cellAlloc (cellAlloc l3 o) p
  have k4 := fun o p => cellAlloc (cellAlloc l4 o) p
  have hll := (L6.out.after E13.out).lt
  go_wp2_with fail
  rw [← hw14.out]
  refine (HN.out up 4 id 1 0 w14 E14.out (hearB_kind _ _ _ _ _ (by decide))).mono ?_
  rintro e w15 ⟨a15, c15, rfl, hm15, hb15⟩
  have E15 := hide_it (E14.out.trans (hb15.mono E14.out.size))
  obtain ⟨w16, hw16⟩ : ∃ W, Hid (W = (w15.alloc (.cells #[.int .i64 id, .bool up, .int .i64 room, .slice a15 rs.length c15, .int .i64 f] 34)).alloc (.cells #[.int .i64 0, .int .i64 0, .int .i64 0, .int .i64 0] 35)) := ⟨_, rfl⟩
  have al16 : Below w15.heap.size w15 w16 := by rw [hw16.out]; exact below2 _ _ _
  have Y16 : Hid (Blk w16 w15.heap.size #[.int .i64 id, .bool up, .int .i64 room, .slice a15 rs.length c15, .int .i64 f] 34) := by show Blk _ _ _ _; rw [hw16.out]; exact (Blk.new _ _ _).alloc _
  have D16 := hide_it (hb15.trans (al16.mono hb15.size))
  have E16 := hide_it (E15.out.trans (al16.mono E15.out.size))
  have M15 : Hid (Recs w16 (.slice a15 rs.length c15) rs) := hm15.recs.later al16 (Nat.le_refl _)
  have HB15 := hide_it hb15
  clear hm15 hb15 al16
  try clear p0
  try clear p1
  try clear p2
  try clear p3
  try clear p4
  try clear p5
  try clear p6
  try clear p7
  try clear p8
  try clear k0
  try clear k1
  try clear k2
  try clear k3
  try clear k4
  try clear k5
  try clear k6
  try clear k7
  try clear k8
  try clear l0
  try clear l1
  try clear l2
  try clear l3
  try clear l4
  try clear v0
  try clear v1
  try clear v2
  try clear v3
  try clear hll
  try clear hlv
  have Y16' := hide_it (Y12.out.after (D14.out.trans (D16.out.mono D14.out.size)))
  have G16 := hide_it (G10.out.after (D12.out.trans ((D14.out.trans (D16.out.mono D14.out.size)).mono D12.out.size)))
  have N12 := hide_it (M11.out.later (D14.out.trans (D16.out.mono D14.out.size)) (Nat.le_refl _))
  have Z16 := hide_it (Y14.out.after D16.out)
  have N14 := hide_it (M13.out.later D16.out (Nat.le_refl _))
  have L16 := hide_it ((L6.out.after E16.out))
  obtain ⟨y0, y1, y2, y3, y4⟩ := (Y12.out.after (D14.out.trans (HB15.out.mono D14.out.size))).cells5
  obtain ⟨g0, g1, g2, g3, g4⟩ := (G10.out.after (D12.out.trans ((D14.out.trans (HB15.out.mono D14.out.size)).mono D12.out.size))).cells5
  have m0 := fun o p => cellAlloc (cellAlloc y0 o) p
  have m1 := fun o p => cellAlloc (cellAlloc y1 o) p
  have m2 := fun o p => cellAlloc (cellAlloc y2 o) p
  have m3 := fun o p => cellAlloc (cellAlloc y3 o) p
  have m4 := fun o p => cellAlloc (cellAlloc y4 o) p
  have n0 := fun o p => cellAlloc (cellAlloc g0 o) p
  have n1 := fun o p => cellAlloc (cellAlloc g1 o) p
  have n2 := fun o p => cellAlloc (cellAlloc g2 o) p
  have n3 := fun o p => cellAlloc (cellAlloc g3 o) p
  have n4 := fun o p => cellAlloc (cellAlloc g4 o) p
  have hly : w11.heap.size < w15.heap.size := World.block_lt_of_cell? _ _ y0
  have hlg : w8.heap.size < w15.heap.size := World.block_lt_of_cell? _ _ g0
  go_wp2_with fail
  rw [← hw16.out]
  clear m0 m1 m2 m3 m4 n0 n1 n2 n3 n4
  refine (lnHouse_any id false room _ _ rs f w16 N12.out (HRR.out _ E16.out) hl).mono ?_
  rintro e w17 ⟨rfl, hb17⟩
  have D17 : Hid (Below w16.heap.size w16 w17) := hb17
  clear hb17 y0 y1 y2 y3 y4 g0 g1 g2 g3 g4
  obtain ⟨y0, y1, y2, y3, y4⟩ := (Z16.out.after D17.out).cells5
  obtain ⟨l0, l1, l2, l3, l4⟩ := (L16.out.after D17.out).cells5
  go_wp2_with fail
  refine (lnHouse_any id up room _ _ rs f w17 (N14.out.later D17.out (Nat.le_refl _)) (HRR.out _ (E16.out.trans (D17.out.mono E16.out.size))) hl).mono ?_
  rintro e w18 ⟨rfl, hb18⟩
  have D18 := hide_it (D17.out.trans (hb18.mono D17.out.size))
  clear hb18 y0 y1 y2 y3 y4 l0 l1 l2 l3 l4
  obtain ⟨y0, y1, y2, y3, y4⟩ := (Y16.out.after D18.out).cells5
  obtain ⟨l0, l1, l2, l3, l4⟩ := (L16.out.after D18.out).cells5
  go_wp2_with fail
  refine (lnHouse_any id up room _ _ rs f w18 (M15.out.later D18.out (Nat.le_refl _)) (HRR.out _ (E16.out.trans (D18.out.mono E16.out.size))) hl).mono ?_
  rintro e w19 ⟨rfl, hb19⟩
  have B19 := hide_it (B6.out.trans ((E16.out.trans ((D18.out.trans (hb19.mono D18.out.size)).mono E16.out.size)).mono B6.out.size))
  clear hb19
  go_wp2
  go_ret
  exact ⟨rfl, B19.out⟩

end Go.Proofs.YtcogplmopdckhaaGreatDoor

namespace Go.Proofs.YtcogplmopdckhaaGreatDoor
open Go.ChangeShapes Go.WideShapes Go.ChangeAt Go.WideMaps Go.WideElems Go.RowKit Go.Joins

set_option maxHeartbeats 1000000 in
theorem lawP36_great (ac : Option Addr) (nc cc : Nat) (w : World) (h : 1048576 < (nc : Int)) :
    Calls Tryz.prog 7 #[.slice ac nc cc] w fun e w' => e = .returned (.bool true) ∧ Below w.heap.size w w' := by
  go_enter Tryz.func7, Tryz.ntmps7
  go_wp2
  go_ret
  exact ⟨rfl, Below.refl _ _⟩

theorem lawP36_any (vc : Value) (nc : Nat) (a : Addr) (w : World) (hc : CodeAt w vc nc) (ha : ErrAt w a) :
    Calls Tryz.prog 7 #[vc] w fun e w' => e = .returned (.bool true) ∧ Below w.heap.size w w' := by
  by_cases h1 : nc ≤ 1048576
  · exact lawP36_small vc nc a w hc h1 ha
  · obtain ⟨ac, cc, rfl, _⟩ := hc
    exact lawP36_great ac nc cc w (by omega)

set_option maxRecDepth 100000 in
theorem p36_lifted (os : Os) (started : os.Started) (H : Type) (enc : TypeId × Value → H) :
    ReturnsInHanded {} Tryz.checked os 7 .any (fun w args => (Rows.fnHearOtherSpec.pre enc Tryz.prog Tryz.f7 [] false w args ∧ laidMetH Tryz.prog laidErr w) ∧ sizedMet enc Tryz.prog Tryz.f7 (OpenSpec.ofChange Rows.fnHearOtherSpec) false w args)
      (Rows.fnHearOtherSpec.post enc Tryz.prog Tryz.f7 false true false false) := by
  refine returnsInHanded_of_change_and (C := Tryz.checked) (X := fun w _ => laidMetH Tryz.prog laidErr w) (fun _ _ _ hh h => h.of_heap hh) own started (by kernel_rfl) Tryz.func7
    (ChangeSpec.witness_shaped (enc := enc) (C := Tryz.checked) (os := os) (X := fun w _ => laidMetH Tryz.prog laidErr w) false (World.doorLaid Tryz.prog 28 os) #[.slice none 0 0] 8 rfl (World.shaped_of_RefB (by kernel_rfl) (by kernel_rfl)) (by kernel_rfl) (by kernel_rfl) (by kernel_rfl) (door_met os _)) ?_
  intro W base args ds gs before hval0 hW _ _ hL _
  have hval : ∀ (j : Nat) t v, Tryz.f7.params[j]? = some t → args[j]? = some v → Value.okWide Tryz.prog W .any base t v := hval0
  have hW' := hW
  obtain ⟨p, q, hA0, hV0, rfl, hfz, hnd⟩ := hW
  have hA : DataW.TrodAll enc Tryz.prog W 0 (fun _ => true) true Tryz.f7.params.toList args.toList ds p := hA0
  have hV : DataW.TrodVars enc Tryz.prog W (fun _ => true) ["loop.example/concierge/impl.errNoRec"] gs q := hV0
  rw [Tryz.params7] at hA hval
  obtain ⟨v0, d0, rfl, rfl, h0⟩ := trodAll_one hA
  obtain ⟨a, hErr, hvar⟩ := of_laid hL
  have vr : ∀ {X : World}, X.var? Tryz.prog "loop.example/concierge/impl.errNoRec" = some #[.iface 161 (.pointer (some a))] → ∀ sp : Nat → Bool,
      DataW.TrodVars enc Tryz.prog X sp ["loop.example/concierge/impl.errNoRec"] [tok enc (.iface 161 (.pointer (some a)))] [.cell 0 0] :=
    fun x0 sp => vars_read1 enc gErr gErrType Tryz.underlying124 x0 trivial sp
  obtain ⟨rfl, rfl⟩ := hV.unique (vr hvar _)
  clear hA0 hV0 hval0
  obtain ⟨nc, hC, _⟩ := open_code (hval 0 44 v0 rfl rfl) h0
  refine (lawP36_any v0 nc a W hC hErr).mono fun e W' ⟨he, hb⟩ => ?_
  subst he
  have hlt : ∀ x ∈ p, x.block < W.heap.size := fun x hx => hW'.lt x (by simp [hx])
  refine ⟨_, rfl, _, _, _, [], p, [.cell 0 0], hW', ?_, ?_, ?_, hb.frame _, fun h => by cases h⟩
  · exact trodAll_mk1 (shut_bool Tryz.underlying4 true)
  · exact trodAll_mk1 (Below.trod laidOut (by kernel_rfl) (of_decide_eq_true (by kernel_rfl)) h0 hb hlt)
  · exact vr (var?_below hb gErr (World.block_lt_of_cell? _ _ hErr) hvar) _

theorem p36_said : Rows.FnHearOtherSaid :=
  OpenClaim.holds_of_wide 7 Tryz.f7 rfl rfl rfl rfl rfl rfl rfl ⟨rfl, rfl, rfl, rfl, rfl⟩ rfl rfl rfl rfl rfl (by kernel_rfl) Tryz.func7 (by kernel_rfl)
    (of_decide_eq_true (by kernel_rfl)) (by unfold Func.isWrapper; first | (rw [if_pos (by decide +kernel)]; kernel_rfl) | (rw [if_neg (by decide +kernel)]; exact ⟨rfl, rfl⟩))
    (fun os started H enc _ => p36_lifted os started H enc)

theorem p36_plain (f : FuncId) (fn : Func) (hf : Tryz.pinned.checked.prog.funcNamed "loop.example/concierge/laws.FnHearOther" = some f) (hfn : Tryz.pinned.checked.prog.funcs[f]? = some fn) :
    true = Tryz.pinned.checked.prog.looks [] ∧ ∀ (j : Nat) t, fn.params[j]? = some t → Tryz.pinned.checked.prog.wantsStandIn t = false := by
  obtain rfl : f = 7 := Option.some.inj ((show Tryz.prog.funcNamed "loop.example/concierge/laws.FnHearOther" = some 7 by kernel_rfl).symm.trans hf) |>.symm
  obtain rfl : fn = Tryz.f7 := (Option.some.inj (Tryz.func7.symm.trans hfn)).symm
  refine ⟨by kernel_rfl, fun j t ht => ?_⟩
  rw [Tryz.params7] at ht
  obtain rfl : t = 44 := by simpa using Array.mem_of_getElem? ht
  exact (show Tryz.prog.wantsStandIn 44 = false by kernel_rfl)

theorem p36_card : Rows.FnHearOtherCardSaid :=
  Claim7.holds_tied_plain_at .later [] _ _ _ _ p36_said (fun _ h => by cases h) (by kernel_rfl) (fun _ h => by cases h) fnHearOther_row_tie rfl ⟨rfl, rfl⟩ (by kernel_rfl) rfl p36_plain (by kernel_rfl)
#print axioms p36_card

end Go.Proofs.YtcogplmopdckhaaGreatDoor
