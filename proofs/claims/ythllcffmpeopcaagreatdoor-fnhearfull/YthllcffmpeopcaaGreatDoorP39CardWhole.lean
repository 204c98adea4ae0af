/- FnHearFull answers true whatever the code, and it reads afterwards as it read before: promise 39 at every drawn house and word. The card: the sentinel's variable starts as the program's text lays it. -/
import Derived.Test.YthllcffmpeopcaaGreatDoorBase8

namespace Go.Proofs.YthllcffmpeopcaaGreatDoor
open Go.RowKit

theorem holds_cells6 {W : World} {au : Option Addr} {n cu : Nat} {hs : List Pl.H} (h : Holds W (.slice au n cu) hs) (h6 : hs.length = 6) :
    ∃ b off, au = some ⟨b, off, none⟩ ∧ ∀ q, q < 6 → W.cell? ⟨b, off + q * 2, none⟩ = some (.int .i64 (hs.getD q (0, 0)).1) ∧ W.cell? ⟨b, off + q * 2 + 1, none⟩ = some (.int .i64 (hs.getD q (0, 0)).2) := by
  rcases h with ⟨h0, _⟩ | ⟨b', off, cap', hv, _, hc⟩
  · rw [h0] at h6; simp at h6
  · simp only [Value.slice.injEq] at hv
    exact ⟨b', off, hv.1, fun q hq => hc q (by omega)⟩

set_option maxRecDepth 100000 in
set_option maxHeartbeats 16000000 in
theorem lawP39_small (vc : Value) (nc : Nat) (a : Addr) (w : World) (hc : CodeAt w vc nc) (hcn : nc ≤ 1048576) (ha : ErrAt w a) :
    Calls Tryz.prog 4 #[vc] w fun e w' => e = .returned (.bool true) ∧ Below w.heap.size w w' := by
  have HD := hide_it (drawHouseHear_any vc nc w hc hcn)
  have HA : Hid (∀ W, Below w.heap.size w W → ErrAt W a) := fun W hb => ha.later hb (Nat.le_refl _)
  obtain ⟨ac, cc, rfl, _⟩ := hc
  have hci : (nc : Int) ≤ 1048576 := by omega
  clear hcn ha
  go_enter Tryz.func4, Tryz.ntmps4
  go_wp2_with fail
  refine HD.out.mono ?_
  rintro e w1 ⟨id, up, room, o, f, rs, k, h, t, m, rfl, hl9, hR, hfm, hb1⟩
  have hl : tot rs ≤ 1048576 := by omega
  have B1 := hide_it hb1
  have R1 := hide_it hR
  have FM := hide_it hfm
  obtain ⟨ao, co, rfl⟩ := hR.shape
  clear hb1 hR HD hfm
  obtain ⟨⟨⟨ID, UP, ROOM, RS, F⟩, ⟨X1, X2, X3⟩, YB⟩, HO⟩ : ∃ o : He, Hid (hearO id up room rs f k h t m = o) := ⟨_, rfl⟩
  have hRl : tot RS ≤ 1048576 := by have := hearO_tot id up room rs f k h t m hl; rw [HO.out] at this; exact this
  obtain ⟨w2, hw2⟩ : ∃ W, Hid (W = (w1.alloc (.cells #[.int .i64 id, .bool up, .int .i64 room, .slice ao rs.length co, .int .i64 f] 34)).alloc (.cells #[.int .i64 k, .int .i64 h, .int .i64 t, .int .i64 m] 35)) := ⟨_, rfl⟩
  have al2 : Below w1.heap.size w1 w2 := by rw [hw2.out]; exact below2 _ _ _
  have B2 := hide_it (B1.out.trans (al2.mono B1.out.size))
  have R2 := hide_it (R1.out.later al2 (Nat.le_refl _))
  have L2 : Hid (Blk w2 w1.heap.size #[.int .i64 id, .bool up, .int .i64 room, .slice ao rs.length co, .int .i64 f] 34) := by show Blk _ _ _ _; rw [hw2.out]; exact (Blk.new _ _ _).alloc _
  have W2 : Hid (Blk w2 (w1.heap.size + 1) #[.int .i64 k, .int .i64 h, .int .i64 t, .int .i64 m] 35) := by show Blk _ _ _ _; rw [hw2.out]; exact Blk.new2 _ _ _ _
  have SP : Hid (∀ W, Below w2.heap.size w2 W → Calls Tryz.prog 9 #[houseV id up room (.slice ao rs.length co) f, wordV k h t m] W fun e w' => HeOut W w' e ((ID, UP, ROOM, RS, F), (X1, X2, X3), YB)) := fun W hb => by
    have := specHear_any id up room _ rs f k h t m W (R2.out.later hb (Nat.le_refl _)) hl; rw [HO.out] at this; exact this
  have IM : Hid (∀ W, Below w2.heap.size w2 W → Calls Tryz.prog 12 #[houseV id up room (.slice ao rs.length co) f, wordV k h t m] W fun e w' => HeOut W w' e ((ID, UP, ROOM, RS, F), (X1, X2, X3), YB)) := fun W hb => by
    have := implHear_any id up room _ rs f k h t m a W (R2.out.later hb (Nat.le_refl _)) FM.out hl (HA.out _ (B2.out.trans (hb.mono B2.out.size))); rw [HO.out] at this; exact this
  clear al2
  go_wp2_with fail
  rw [← hw2.out]
  refine (SP.out w2 (Below.refl _ _)).mono ?_
  rintro e w3 ⟨a3, c3, rfl, hm3, hb3⟩
  obtain ⟨w4, hw4⟩ : ∃ W, Hid (W = (w3.alloc (.cells #[.int .i64 ID, .bool UP, .int .i64 ROOM, .slice a3 RS.length c3, .int .i64 F] 34)).alloc (.cells #[.int .i64 X1, .int .i64 X2, .int .i64 X3, .int .i64 0] 35)) := ⟨_, rfl⟩
  have al4 : Below w3.heap.size w3 w4 := by rw [hw4.out]; exact below2 _ _ _
  have E3 := hide_it hb3
  have E4 := hide_it (hb3.trans (al4.mono hb3.size))
  have V4 := hide_it (hm3.recs.later al4 (Nat.le_refl _))
  have Z4 : Hid (Blk w4 w3.heap.size #[.int .i64 ID, .bool UP, .int .i64 ROOM, .slice a3 RS.length c3, .int .i64 F] 34) := by show Blk _ _ _ _; rw [hw4.out]; exact (Blk.new _ _ _).alloc _
  have A4 : Hid (Blk w4 (w3.heap.size + 1) #[.int .i64 X1, .int .i64 X2, .int .i64 X3, .int .i64 0] 35) := by show Blk _ _ _ _; rw [hw4.out]; exact Blk.new2 _ _ _ _
  obtain ⟨l0, l1, l2, l3, l4⟩ := (L2.out.after E3.out).cells5
  obtain ⟨v0, v1, v2, v3⟩ := (W2.out.after E3.out).cells4'
  have k0 := fun o p => cellAlloc (cellAlloc l0 o) p
  have k1 := fun o p => cellAlloc (cellAlloc l1 o) p
  have k2 := fun o p => cellAlloc (cellAlloc l2 o) p
  have k3 := fun o p => cellAlloc (cellAlloc l3 o) p
  have k4 := fun o p => cellAlloc (cellAlloc l4 o) p
  have k5 := fun o p => cellAlloc (cellAlloc v0 o) p
  have k6 := fun o p => cellAlloc (cellAlloc v1 o) p
  have k7 := fun o p => cellAlloc (cellAlloc v2 o) p
  have k8 := fun o p => cellAlloc (cellAlloc v3 o) p
  have hll := (L2.out.after E3.out).lt
  have hlv := (W2.out.after E3.out).lt
  clear hm3 hb3 al4
  go_wp2_with fail
  rw [← hw4.out]
  refine (IM.out w4 E4.out).mono ?_
  rintro e w5 ⟨a5, c5, rfl, hm5, hb5⟩
  obtain ⟨w6, hw6⟩ : ∃ W, Hid (W = (w5.alloc (.cells #[.int .i64 ID, .bool UP, .int .i64 ROOM, .slice a5 RS.length c5, .int .i64 F] 34)).alloc (.cells #[.int .i64 X1, .int .i64 X2, .int .i64 X3, .int .i64 0] 35)) := ⟨_, rfl⟩
  have al6 : Below w5.heap.size w5 w6 := by rw [hw6.out]; exact below2 _ _ _
  have e6 : Below w4.heap.size w4 w6 := hb5.trans (al6.mono hb5.size)
  have E6 := hide_it (E4.out.trans (e6.mono E4.out.size))
  have B6 := hide_it (B2.out.trans (E6.out.mono B2.out.size))
  have U6 := hide_it (hm5.recs.later al6 (Nat.le_refl _))
  have V6 := hide_it (V4.out.later e6 (Nat.le_refl _))
  have UF : Hid (Form (.slice a5 RS.length c5) RS.length) := form_made (rs := RS) hm5
  have X6 : Hid (Blk w6 w5.heap.size #[.int .i64 ID, .bool UP, .int .i64 ROOM, .slice a5 RS.length c5, .int .i64 F] 34) := by show Blk _ _ _ _; rw [hw6.out]; exact (Blk.new _ _ _).alloc _
  have D6 : Hid (Blk w6 (w5.heap.size + 1) #[.int .i64 X1, .int .i64 X2, .int .i64 X3, .int .i64 0] 35) := by show Blk _ _ _ _; rw [hw6.out]; exact Blk.new2 _ _ _ _
  have Z6 := hide_it (Z4.out.after e6)
  have A6 := hide_it (A4.out.after e6)
  have L6 := hide_it (L2.out.after E6.out)
  have W6 := hide_it (W2.out.after E6.out)
  clear k0 k1 k2 k3 k4 k5 k6 k7 k8 l0 l1 l2 l3 l4 v0 v1 v2 v3 hll hlv
  obtain ⟨l0, l1, l2, l3, l4⟩ := (Z4.out.after hb5).cells5
  obtain ⟨v0, v1, v2, v3⟩ := (A4.out.after hb5).cells4'
  have k0 := fun o p => cellAlloc (cellAlloc l0 o) p
  have k1 := fun o p => cellAlloc (cellAlloc l1 o) p
  have k2 := fun o p => cellAlloc (cellAlloc l2 o) p
  have k3 := fun o p => cellAlloc (cellAlloc l3 o) p
  have k4 := fun o p => cellAlloc (cellAlloc l4 o) p
  have k5 := fun o p => cellAlloc (cellAlloc v0 o) p
  have k6 := fun o p => cellAlloc (cellAlloc v1 o) p
  have k7 := fun o p => cellAlloc (cellAlloc v2 o) p
  have k8 := fun o p => cellAlloc (cellAlloc v3 o) p
  have hll := (Z4.out.after hb5).lt
  have hlv := (A4.out.after hb5).lt
  clear hm5 hb5 al6 e6
  have KK : Hid (∀ W, Below w6.heap.size w6 W → (W.cell? ⟨w5.heap.size, 0, none⟩ = some (.int .i64 ID) ∧ W.cell? ⟨w5.heap.size, 1, none⟩ = some (.bool UP) ∧ W.cell? ⟨w5.heap.size, 2, none⟩ = some (.int .i64 ROOM) ∧ W.cell? ⟨w5.heap.size, 3, none⟩ = some (.slice a5 RS.length c5) ∧ W.cell? ⟨w5.heap.size, 4, none⟩ = some (.int .i64 F)) ∧ (W.cell? ⟨w3.heap.size, 0, none⟩ = some (.int .i64 ID) ∧ W.cell? ⟨w3.heap.size, 1, none⟩ = some (.bool UP) ∧ W.cell? ⟨w3.heap.size, 2, none⟩ = some (.int .i64 ROOM) ∧ W.cell? ⟨w3.heap.size, 3, none⟩ = some (.slice a3 RS.length c3) ∧ W.cell? ⟨w3.heap.size, 4, none⟩ = some (.int .i64 F)) ∧ (W.cell? ⟨w5.heap.size + 1, 0, none⟩ = some (.int .i64 X1) ∧ W.cell? ⟨w5.heap.size + 1, 1, none⟩ = some (.int .i64 X2) ∧ W.cell? ⟨w5.heap.size + 1, 2, none⟩ = some (.int .i64 X3) ∧ W.cell? ⟨w5.heap.size + 1, 3, none⟩ = some (.int .i64 0)) ∧ (W.cell? ⟨w3.heap.size + 1, 0, none⟩ = some (.int .i64 X1) ∧ W.cell? ⟨w3.heap.size + 1, 1, none⟩ = some (.int .i64 X2) ∧ W.cell? ⟨w3.heap.size + 1, 2, none⟩ = some (.int .i64 X3) ∧ W.cell? ⟨w3.heap.size + 1, 3, none⟩ = some (.int .i64 0)) ∧ (W.cell? ⟨w1.heap.size, 0, none⟩ = some (.int .i64 id) ∧ W.cell? ⟨w1.heap.size, 1, none⟩ = some (.bool up) ∧ W.cell? ⟨w1.heap.size, 2, none⟩ = some (.int .i64 room) ∧ W.cell? ⟨w1.heap.size, 3, none⟩ = some (.slice ao rs.length co) ∧ W.cell? ⟨w1.heap.size, 4, none⟩ = some (.int .i64 f)) ∧ (W.cell? ⟨w1.heap.size + 1, 0, none⟩ = some (.int .i64 k) ∧ W.cell? ⟨w1.heap.size + 1, 1, none⟩ = some (.int .i64 h) ∧ W.cell? ⟨w1.heap.size + 1, 2, none⟩ = some (.int .i64 t) ∧ W.cell? ⟨w1.heap.size + 1, 3, none⟩ = some (.int .i64 m))) := fun W hb =>
    ⟨(X6.out.after hb).cells5, (Z6.out.after hb).cells5, (D6.out.after hb).cells4', (A6.out.after hb).cells4', (L6.out.after hb).cells5, (W6.out.after hb).cells4'⟩
  have hbb : (YB != YB) = false := by simp
  have hbb2 : (YB == YB) = true := by simp
  go_wp2_with fail
  rw [← hw6.out]
  clear k0 k1 k2 k3 k4 k5 k6 k7 k8 l0 l1 l2 l3 l4 v0 v1 v2 v3 hll hlv
  refine (lnHouse_any ID UP ROOM _ _ RS F w6 U6.out V6.out hRl).mono ?_
  rintro e w7 ⟨rfl, hb7⟩
  have E7 : Hid (Below w6.heap.size w6 w7) := hb7
  clear hb7
  obtain ⟨⟨x0, x1, x2, x3, x4⟩, ⟨z0, z1, z2, z3, z4⟩, ⟨d0, d1, d2, d3⟩, ⟨b0, b1, b2, b3⟩, ⟨l0, l1, l2, l3, l4⟩, ⟨v0, v1, v2, v3⟩⟩ := KK.out _ E7.out
  obtain ⟨BB, hBB⟩ : ∃ b, Hid (hoOk id room rs f = b) := ⟨_, rfl⟩
  have HOK : Hid (∀ W, Below w6.heap.size w6 W → Calls Tryz.prog 19 #[houseV id up room (.slice ao rs.length co) f] W fun e w' => e = .returned (.bool BB) ∧ Below W.heap.size W w') := fun W hb => by
    have := specHouseOk_any id up room _ rs f W (R2.out.later (E6.out.trans (hb.mono E6.out.size)) (Nat.le_refl _)) hl; rw [hBB.out] at this; exact this
  go_wp2_with fail
  refine (HOK.out _ E7.out).mono ?_
  rintro e w8 ⟨rfl, hb8⟩
  have E8 := hide_it (E7.out.trans (hb8.mono E7.out.size))
  clear hb8
  clear x0 x1 x2 x3 x4 z0 z1 z2 z3 z4 d0 d1 d2 d3 b0 b1 b2 b3 l0 l1 l2 l3 l4 v0 v1 v2 v3
  obtain ⟨⟨x0, x1, x2, x3, x4⟩, ⟨z0, z1, z2, z3, z4⟩, ⟨d0, d1, d2, d3⟩, ⟨b0, b1, b2, b3⟩, ⟨l0, l1, l2, l3, l4⟩, ⟨v0, v1, v2, v3⟩⟩ := KK.out _ E8.out
  cases BB
  · go_wp2_with fail
    refine (lnHouse_any ID UP ROOM _ _ RS F w8 (U6.out.later E8.out (Nat.le_refl _)) (V6.out.later E8.out (Nat.le_refl _)) hRl).mono ?_
    rintro e w9 ⟨rfl, hb9⟩
    have E9 := hide_it (E8.out.trans (hb9.mono E8.out.size))
    have B9 := hide_it (B6.out.trans (E9.out.mono B6.out.size))
    clear hb9
    clear x0 x1 x2 x3 x4 z0 z1 z2 z3 z4 d0 d1 d2 d3 b0 b1 b2 b3 l0 l1 l2 l3 l4 v0 v1 v2 v3
    obtain ⟨⟨x0, x1, x2, x3, x4⟩, ⟨z0, z1, z2, z3, z4⟩, ⟨d0, d1, d2, d3⟩, ⟨b0, b1, b2, b3⟩, ⟨l0, l1, l2, l3, l4⟩, ⟨v0, v1, v2, v3⟩⟩ := KK.out _ E9.out
    go_wp2
    go_ret
    exact ⟨by simp, B9.out⟩
  cases up
  · go_wp2_with fail
    refine (lnHouse_any ID UP ROOM _ _ RS F w8 (U6.out.later E8.out (Nat.le_refl _)) (V6.out.later E8.out (Nat.le_refl _)) hRl).mono ?_
    rintro e w9 ⟨rfl, hb9⟩
    have E9 := hide_it (E8.out.trans (hb9.mono E8.out.size))
    have B9 := hide_it (B6.out.trans (E9.out.mono B6.out.size))
    clear hb9
    clear x0 x1 x2 x3 x4 z0 z1 z2 z3 z4 d0 d1 d2 d3 b0 b1 b2 b3 l0 l1 l2 l3 l4 v0 v1 v2 v3
    obtain ⟨⟨x0, x1, x2, x3, x4⟩, ⟨z0, z1, z2, z3, z4⟩, ⟨d0, d1, d2, d3⟩, ⟨b0, b1, b2, b3⟩, ⟨l0, l1, l2, l3, l4⟩, ⟨v0, v1, v2, v3⟩⟩ := KK.out _ E9.out
    go_wp2
    go_ret
    exact ⟨by simp, B9.out⟩
  by_cases ht1 : t < 1
  · go_wp2_with fail
    refine (lnHouse_any ID UP ROOM _ _ RS F w8 (U6.out.later E8.out (Nat.le_refl _)) (V6.out.later E8.out (Nat.le_refl _)) hRl).mono ?_
    rintro e w9 ⟨rfl, hb9⟩
    have E9 := hide_it (E8.out.trans (hb9.mono E8.out.size))
    have B9 := hide_it (B6.out.trans (E9.out.mono B6.out.size))
    clear hb9
    clear x0 x1 x2 x3 x4 z0 z1 z2 z3 z4 d0 d1 d2 d3 b0 b1 b2 b3 l0 l1 l2 l3 l4 v0 v1 v2 v3
    obtain ⟨⟨x0, x1, x2, x3, x4⟩, ⟨z0, z1, z2, z3, z4⟩, ⟨d0, d1, d2, d3⟩, ⟨b0, b1, b2, b3⟩, ⟨l0, l1, l2, l3, l4⟩, ⟨v0, v1, v2, v3⟩⟩ := KK.out _ E9.out
    go_wp2
    go_ret
    exact ⟨by simp, B9.out⟩
  by_cases ht6 : 6 < t
  · go_wp2_with fail
    refine (lnHouse_any ID UP ROOM _ _ RS F w8 (U6.out.later E8.out (Nat.le_refl _)) (V6.out.later E8.out (Nat.le_refl _)) hRl).mono ?_
    rintro e w9 ⟨rfl, hb9⟩
    have E9 := hide_it (E8.out.trans (hb9.mono E8.out.size))
    have B9 := hide_it (B6.out.trans (E9.out.mono B6.out.size))
    clear hb9
    clear x0 x1 x2 x3 x4 z0 z1 z2 z3 z4 d0 d1 d2 d3 b0 b1 b2 b3 l0 l1 l2 l3 l4 v0 v1 v2 v3
    obtain ⟨⟨x0, x1, x2, x3, x4⟩, ⟨z0, z1, z2, z3, z4⟩, ⟨d0, d1, d2, d3⟩, ⟨b0, b1, b2, b3⟩, ⟨l0, l1, l2, l3, l4⟩, ⟨v0, v1, v2, v3⟩⟩ := KK.out _ E9.out
    go_wp2
    go_ret
    exact ⟨by simp, B9.out⟩
  have htt : 1 ≤ t ∧ t ≤ 6 := by omega
  obtain ⟨hs, q1⟩ : ∃ hs, hsO id room rs f false = some hs := by
    obtain ⟨hs, hf, eA, _⟩ := hear_ready hBB.out
    exact ⟨hs, hsO_all hBB.out eA⟩
  have q6 : hs.length = 6 := by
    obtain ⟨hs2, hf, eA, _⟩ := hear_ready hBB.out
    have := hsO_all hBB.out eA
    rw [this] at q1
    simp only [Option.some.injEq] at q1
    subst q1
    exact (Pl.sOf_ok eA).2
  have HFU := hide_it (fun many => hear_full (many := many) hBB.out q1 htt)
  obtain ⟨FR, hFR⟩ : ∃ x, Pl.sFree room hs = x := ⟨_, rfl⟩
  rw [hFR] at HFU
  have hFb := Pl.sFree_bd room hs
  rw [hFR] at hFb
  have S0 : Hid (∀ W, Below w6.heap.size w6 W → Calls Tryz.prog 20 #[houseV id true room (.slice ao rs.length co) f, .bool false] W fun e w' => SkOut W w' e room hs) := fun W hb => by
    have := implHStock_any id true room _ rs f false a W (R2.out.later (E6.out.trans (hb.mono E6.out.size)) (Nat.le_refl _)) FM.out hl (HA.out _ (B6.out.trans (hb.mono B6.out.size))); rw [q1] at this; exact this
  have FRE : Hid (∀ (ax : Option Addr) (cx : Nat) (W : World), Holds W (.slice ax hs.length cx) hs → Calls Tryz.prog 21 #[.agg #[.int .i64 room, .slice ax hs.length cx]] W fun e w' => e = .returned (.int .i64 FR) ∧ Below W.heap.size W w') := fun ax cx W hh => by
    have := implFree_any room _ hs W hh (by omega); rw [hFR] at this; exact this
  have Q6 := hide_it q6
  obtain ⟨ST, hST⟩ : ∃ x, Hid ((Pl.hAt hs t).2 = x) := ⟨_, rfl⟩
  clear q1 q6 hFR SP IM HO
  clear x0 x1 x2 x3 x4 z0 z1 z2 z3 z4 d0 d1 d2 d3 b0 b1 b2 b3 l0 l1 l2 l3 l4 v0 v1 v2 v3
  have LX := hide_it (L6.out.after E8.out)
  have WX := hide_it (W6.out.after E8.out)
  obtain ⟨LX_0, LX_1, LX_2, LX_3, LX_4⟩ := LX.out.cells5
  obtain ⟨WX_0, WX_1, WX_2, WX_3⟩ := WX.out.cells4'
  go_wp2_with fail
  refine (S0.out _ E8.out).mono ?_
  rintro e w9 ⟨a9, c9, rfl, ho9, hb⟩
  clear LX_0 LX_1 LX_2 LX_3 LX_4 WX_0 WX_1 WX_2 WX_3
  replace LX := hide_it (LX.out.after hb)
  replace WX := hide_it (WX.out.after hb)
  replace E8 := hide_it (E8.out.trans (hb.mono E8.out.size))
  have H9 := hide_it (holds_of_row ho9)
  clear ho9
  clear hb
  obtain ⟨w10, hw10⟩ : ∃ W, Hid (W = w9.alloc (.cells #[.int .i64 room, .slice a9 hs.length c9] 50)) := ⟨_, rfl⟩
  have alw10 : Below w9.heap.size w9 w10 := by rw [hw10.out]; exact alloc_below _ _
  replace LX := hide_it (LX.out.after alw10)
  replace WX := hide_it (WX.out.after alw10)
  replace E8 := hide_it (E8.out.trans (alw10.mono E8.out.size))
  replace H9 := hide_it (H9.out.later alw10 (Nat.le_refl _))
  have SS : Hid (Blk w10 (w9.heap.size) #[.int .i64 room, .slice a9 hs.length c9] 50) := by show Blk _ _ _ _; rw [hw10.out]; exact Blk.new _ _ _
  clear alw10
  go_wp2_with fail
  rw [← hw10.out]
  refine (FRE.out _ _ _ H9.out).mono ?_
  rintro e w11 ⟨rfl, hb⟩
  replace LX := hide_it (LX.out.after hb)
  replace WX := hide_it (WX.out.after hb)
  replace E8 := hide_it (E8.out.trans (hb.mono E8.out.size))
  replace H9 := hide_it (H9.out.later hb (Nat.le_refl _))
  replace SS := hide_it (SS.out.after hb)
  clear hb
  have hwF : IntKind.i64.wrap (FR + 1) = FR + 1 := by simp [IntKind.wrap, IntKind.bits, IntKind.signed]; omega
  by_cases hm3 : 3 < FR + 1
  · have B12 := hide_it (B6.out.trans (E8.out.mono B6.out.size))
    go_wp2
    go_ret
    exact ⟨rfl, B12.out⟩
  obtain ⟨X1', X2', X3', YB', e1, e2, e3⟩ := HFU.out (FR + 1) rfl (by omega)
  have IM2 : Hid (∀ W, Below w6.heap.size w6 W → Calls Tryz.prog 12 #[houseV id true room (.slice ao rs.length co) f, wordV 1 id t (FR + 1)] W fun e w' => HeOut W w' e ((id, true, room, rs, f), (X1', X2', X3'), YB')) := fun W hb => by
    have := implHear_any id true room _ rs f 1 id t (FR + 1) a W (R2.out.later (E6.out.trans (hb.mono E6.out.size)) (Nat.le_refl _)) FM.out hl (HA.out _ (B6.out.trans (hb.mono B6.out.size))); rw [e1] at this; exact this
  have E2 := hide_it e2
  have E3 := hide_it e3
  clear e1 e2 e3
  obtain ⟨LX_0, LX_1, LX_2, LX_3, LX_4⟩ := LX.out.cells5
  obtain ⟨WX_0, WX_1, WX_2, WX_3⟩ := WX.out.cells4'
  go_wp2_with fail
  refine (IM2.out _ E8.out).mono ?_
  rintro e w12 ⟨a12, c12, rfl, hm12, hb⟩
  clear LX_0 LX_1 LX_2 LX_3 LX_4 WX_0 WX_1 WX_2 WX_3
  replace LX := hide_it (LX.out.after hb)
  replace WX := hide_it (WX.out.after hb)
  replace E8 := hide_it (E8.out.trans (hb.mono E8.out.size))
  replace H9 := hide_it (H9.out.later hb (Nat.le_refl _))
  replace SS := hide_it (SS.out.after hb)
  have M12 := hide_it hm12.recs
  clear hm12
  clear hb
  obtain ⟨b9, off9, hab9, HC9⟩ := holds_cells6 H9.out Q6.out
  subst hab9
  obtain ⟨N, hN⟩ : ∃ N, Hid (Pl.at_ t = N) := ⟨_, rfl⟩
  obtain rfl : t = (N : Int) + 1 := by rw [← hN.out]; unfold Pl.at_; omega
  have hN6 : N < 6 := by omega
  have hNi : (N : Int) < (hs.length : Int) := by rw [Q6.out]; omega
  have hN0 : (0 : Int) ≤ (N : Int) := by omega
  have hwr : IntKind.i64.wrap ((N : Int) + 1 - 1) = (N : Int) := by simp [IntKind.wrap, IntKind.bits, IntKind.signed]; omega
  have hc9 := (HC9 N hN6).2
  have e9 : (hs.getD N (0, 0)).2 = ST := by rw [← hST.out]; unfold Pl.hAt; rw [hN.out]
  rw [e9] at hc9
  have HS9 := hide_it hc9
  clear HC9 hc9 e9
  obtain ⟨SS_0, SS_1⟩ := SS.out.cells2
  have SS_0b := fun o p => cellAlloc (cellAlloc SS_0 o) p
  have SS_1b := fun o p => cellAlloc (cellAlloc SS_1 o) p
  have SS_lt := SS.out.lt
  obtain ⟨WX_0, WX_1, WX_2, WX_3⟩ := WX.out.cells4'
  have WX_0b := fun o p => cellAlloc (cellAlloc WX_0 o) p
  have WX_1b := fun o p => cellAlloc (cellAlloc WX_1 o) p
  have WX_2b := fun o p => cellAlloc (cellAlloc WX_2 o) p
  have WX_3b := fun o p => cellAlloc (cellAlloc WX_3 o) p
  have WX_lt := WX.out.lt
  obtain ⟨LX_0, LX_1, LX_2, LX_3, LX_4⟩ := LX.out.cells5
  have LX_0b := fun o p => cellAlloc (cellAlloc LX_0 o) p
  have LX_1b := fun o p => cellAlloc (cellAlloc LX_1 o) p
  have LX_2b := fun o p => cellAlloc (cellAlloc LX_2 o) p
  have LX_3b := fun o p => cellAlloc (cellAlloc LX_3 o) p
  have LX_4b := fun o p => cellAlloc (cellAlloc LX_4 o) p
  have LX_lt := LX.out.lt
  have hs9 := HS9.out
  have hs9b := fun o p => cellAlloc (cellAlloc hs9 o) p
  have hs9l := World.block_lt_of_cell? _ _ hs9
  obtain ⟨w13, hw13⟩ : ∃ W, Hid (W = (w12.alloc (.cells #[.int .i64 id, .bool true, .int .i64 room, .slice a12 rs.length c12, .int .i64 f] 34)).alloc (.cells #[.int .i64 X1', .int .i64 X2', .int .i64 X3', .int .i64 0] 35)) := ⟨_, rfl⟩
  have alw13 : Below w12.heap.size w12 w13 := by rw [hw13.out]; exact below2 _ _ _
  replace LX := hide_it (LX.out.after alw13)
  replace WX := hide_it (WX.out.after alw13)
  replace E8 := hide_it (E8.out.trans (alw13.mono E8.out.size))
  replace H9 := hide_it (H9.out.later alw13 (Nat.le_refl _))
  replace SS := hide_it (SS.out.after alw13)
  replace M12 := hide_it (M12.out.later alw13 (Nat.le_refl _))
  replace HS9 := hide_it ((alw13.cell (p := ⟨b9, off9 + N * 2 + 1, none⟩) (World.block_lt_of_cell? _ _ HS9.out)).trans HS9.out)
  have YY : Hid (Blk w13 (w12.heap.size) #[.int .i64 id, .bool true, .int .i64 room, .slice a12 rs.length c12, .int .i64 f] 34) := by show Blk _ _ _ _; rw [hw13.out]; exact (Blk.new _ _ _).alloc _
  have AA : Hid (Blk w13 (w12.heap.size + 1) #[.int .i64 X1', .int .i64 X2', .int .i64 X3', .int .i64 0] 35) := by show Blk _ _ _ _; rw [hw13.out]; exact Blk.new2 _ _ _ _
  clear alw13
  by_cases hst0 : ST = 0
  · subst hst0
    obtain ⟨g1, g2, g3, g4⟩ := E2.out hST.out
    subst X1' X2' X3' YB'
    have hxx : ((id : Int) == id) = true := by simp
    go_wp2_with fail
    rw [← hw13.out]
    refine (lnHouse_any id true room _ _ rs f w13 M12.out (R2.out.later (E6.out.trans (E8.out.mono E6.out.size)) (Nat.le_refl _)) hl).mono ?_
    rintro e w14 ⟨rfl, hb14⟩
    have B14 := hide_it (B6.out.trans ((E8.out.trans (hb14.mono E8.out.size)).mono B6.out.size))
    obtain ⟨aa0, aa1, aa2, aa3⟩ := (AA.out.after hb14).cells4'
    clear hb14
    go_wp2
    go_ret
    exact ⟨rfl, B14.out⟩
  · have hstn : (ST == 0) = false := by simpa using hst0
    go_wp2_with fail
    rw [← hw13.out]
    refine (lnHouse_any id true room _ _ rs f w13 M12.out (R2.out.later (E6.out.trans (E8.out.mono E6.out.size)) (Nat.le_refl _)) hl).mono ?_
    rintro e w14 ⟨rfl, hb14⟩
    have B14 := hide_it (B6.out.trans ((E8.out.trans (hb14.mono E8.out.size)).mono B6.out.size))
    obtain ⟨aa0, aa1, aa2, aa3⟩ := (AA.out.after hb14).cells4'
    clear hb14
    by_cases hs3 : ST = 3
    · subst hs3
      cases YB'
      · go_wp2
        go_ret
        exact ⟨rfl, B14.out⟩
      · rcases E3.out rfl with h5 | h4
        · subst X1'
          go_wp2
          go_ret
          exact ⟨rfl, B14.out⟩
        · subst X1'
          go_wp2
          go_ret
          exact ⟨rfl, B14.out⟩
    · have hs3n : (ST == 3) = false := by simpa using hs3
      go_wp2
      go_ret
      exact ⟨rfl, B14.out⟩

end Go.Proofs.YthllcffmpeopcaaGreatDoor

namespace Go.Proofs.YthllcffmpeopcaaGreatDoor
open Go.ChangeShapes Go.WideShapes Go.ChangeAt Go.WideMaps Go.WideElems Go.RowKit Go.Joins

set_option maxHeartbeats 1000000 in
theorem lawP39_great (ac : Option Addr) (nc cc : Nat) (w : World) (h : 1048576 < (nc : Int)) :
    Calls Tryz.prog 4 #[.slice ac nc cc] w fun e w' => e = .returned (.bool true) ∧ Below w.heap.size w w' := by
  go_enter Tryz.func4, Tryz.ntmps4
  go_wp2
  go_ret
  exact ⟨rfl, Below.refl _ _⟩

theorem lawP39_any (vc : Value) (nc : Nat) (a : Addr) (w : World) (hc : CodeAt w vc nc) (ha : ErrAt w a) :
    Calls Tryz.prog 4 #[vc] w fun e w' => e = .returned (.bool true) ∧ Below w.heap.size w w' := by
  by_cases h1 : nc ≤ 1048576
  · exact lawP39_small vc nc a w hc h1 ha
  · obtain ⟨ac, cc, rfl, _⟩ := hc
    exact lawP39_great ac nc cc w (by omega)

set_option maxRecDepth 100000 in
theorem p39_lifted (os : Os) (started : os.Started) (H : Type) (enc : TypeId × Value → H) :
    ReturnsInHanded {} Tryz.checked os 4 .any (fun w args => (Rows.fnHearFullSpec.pre enc Tryz.prog Tryz.f4 [] false w args ∧ laidMetH Tryz.prog laidErr w) ∧ sizedMet enc Tryz.prog Tryz.f4 (OpenSpec.ofChange Rows.fnHearFullSpec) false w args)
      (Rows.fnHearFullSpec.post enc Tryz.prog Tryz.f4 false true false false) := by
  refine returnsInHanded_of_change_and (C := Tryz.checked) (X := fun w _ => laidMetH Tryz.prog laidErr w) (fun _ _ _ hh h => h.of_heap hh) own started (by kernel_rfl) Tryz.func4
    (ChangeSpec.witness_shaped (enc := enc) (C := Tryz.checked) (os := os) (X := fun w _ => laidMetH Tryz.prog laidErr w) false (World.doorLaid Tryz.prog 28 os) #[.slice none 0 0] 8 rfl (World.shaped_of_RefB (by kernel_rfl) (by kernel_rfl)) (by kernel_rfl) (by kernel_rfl) (by kernel_rfl) (door_met os _)) ?_
  intro W base args ds gs before hval0 hW _ _ hL _
  have hval : ∀ (j : Nat) t v, Tryz.f4.params[j]? = some t → args[j]? = some v → Value.okWide Tryz.prog W .any base t v := hval0
  have hW' := hW
  obtain ⟨p, q, hA0, hV0, rfl, hfz, hnd⟩ := hW
  have hA : DataW.TrodAll enc Tryz.prog W 0 (fun _ => true) true Tryz.f4.params.toList args.toList ds p := hA0
  have hV : DataW.TrodVars enc Tryz.prog W (fun _ => true) ["loop.example/concierge/impl.errNoRec"] gs q := hV0
  rw [Tryz.params4] at hA hval
  obtain ⟨v0, d0, rfl, rfl, h0⟩ := trodAll_one hA
  obtain ⟨a, hErr, hvar⟩ := of_laid hL
  have vr : ∀ {X : World}, X.var? Tryz.prog "loop.example/concierge/impl.errNoRec" = some #[.iface 161 (.pointer (some a))] → ∀ sp : Nat → Bool,
      DataW.TrodVars enc Tryz.prog X sp ["loop.example/concierge/impl.errNoRec"] [tok enc (.iface 161 (.pointer (some a)))] [.cell 0 0] :=
    fun x0 sp => vars_read1 enc gErr gErrType Tryz.underlying126 x0 trivial sp
  obtain ⟨rfl, rfl⟩ := hV.unique (vr hvar _)
  clear hA0 hV0 hval0
  obtain ⟨nc, hC, _⟩ := open_code (hval 0 44 v0 rfl rfl) h0
  refine (lawP39_any v0 nc a W hC hErr).mono fun e W' ⟨he, hb⟩ => ?_
  subst he
  have hlt : ∀ x ∈ p, x.block < W.heap.size := fun x hx => hW'.lt x (by simp [hx])
  refine ⟨_, rfl, _, _, _, [], p, [.cell 0 0], hW', ?_, ?_, ?_, hb.frame _, fun h => by cases h⟩
  · exact trodAll_mk1 (shut_bool Tryz.underlying4 true)
  · exact trodAll_mk1 (Below.trod laidOut (by kernel_rfl) (of_decide_eq_true (by kernel_rfl)) h0 hb hlt)
  · exact vr (var?_below hb gErr (World.block_lt_of_cell? _ _ hErr) hvar) _

theorem p39_said : Rows.FnHearFullSaid :=
  OpenClaim.holds_of_wide 4 Tryz.f4 rfl rfl rfl rfl rfl rfl rfl ⟨rfl, rfl, rfl, rfl, rfl⟩ rfl rfl rfl rfl rfl (by kernel_rfl) Tryz.func4 (by kernel_rfl)
    (of_decide_eq_true (by kernel_rfl)) (by unfold Func.isWrapper; first | (rw [if_pos (by decide +kernel)]; kernel_rfl) | (rw [if_neg (by decide +kernel)]; exact ⟨rfl, rfl⟩))
    (fun os started H enc _ => p39_lifted os started H enc)

theorem p39_plain (f : FuncId) (fn : Func) (hf : Tryz.pinned.checked.prog.funcNamed "loop.example/concierge/laws.FnHearFull" = some f) (hfn : Tryz.pinned.checked.prog.funcs[f]? = some fn) :
    true = Tryz.pinned.checked.prog.looks [] ∧ ∀ (j : Nat) t, fn.params[j]? = some t → Tryz.pinned.checked.prog.wantsStandIn t = false := by
  obtain rfl : f = 4 := Option.some.inj ((show Tryz.prog.funcNamed "loop.example/concierge/laws.FnHearFull" = some 4 by kernel_rfl).symm.trans hf) |>.symm
  obtain rfl : fn = Tryz.f4 := (Option.some.inj (Tryz.func4.symm.trans hfn)).symm
  refine ⟨by kernel_rfl, fun j t ht => ?_⟩
  rw [Tryz.params4] at ht
  obtain rfl : t = 44 := by simpa using Array.mem_of_getElem? ht
  exact (show Tryz.prog.wantsStandIn 44 = false by kernel_rfl)

theorem p39_card : Rows.FnHearFullCardSaid :=
  Claim7.holds_tied_plain_at .later [] _ _ _ _ p39_said (fun _ h => by cases h) (by kernel_rfl) (fun _ h => by cases h) fnHearFull_row_tie rfl ⟨rfl, rfl⟩ (by kernel_rfl) rfl p39_plain (by kernel_rfl)
#print axioms p39_card

end Go.Proofs.YthllcffmpeopcaaGreatDoor
