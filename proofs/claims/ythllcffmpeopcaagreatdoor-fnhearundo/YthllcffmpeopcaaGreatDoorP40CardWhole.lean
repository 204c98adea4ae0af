/- FnHearUndo answers true whatever the codes, and they read afterwards as they read before: promise 40 at every drawn house and word. The card: the sentinel's variable starts as the program's text lays it. -/
import Derived.Test.YthllcffmpeopcaaGreatDoorBase8

namespace Go.Proofs.YthllcffmpeopcaaGreatDoor
open Go.RowKit

theorem holds_cells6 {W : World} {au : Option Addr} {n cu : Nat} {hs : List Pl.H} (h : Holds W (.slice au n cu) hs) (h6 : hs.length = 6) :
    ∃ b off, au = some ⟨b, off, none⟩ ∧ ∀ q, q < 6 → W.cell? ⟨b, off + q * 2, none⟩ = some (.int .i64 (hs.getD q (0, 0)).1) ∧ W.cell? ⟨b, off + q * 2 + 1, none⟩ = some (.int .i64 (hs.getD q (0, 0)).2) := by
  rcases h with ⟨h0, _⟩ | ⟨b', off, cap', hv, _, hc⟩
  · rw [h0] at h6; simp at h6
  · simp only [Value.slice.injEq] at hv
    exact ⟨b', off, hv.1, fun q hq => hc q (by omega)⟩

set_option maxRecDepth 100000 in
set_option maxHeartbeats 16000000 in
theorem lawP40_small (vc : Value) (nc : Nat) (am : Option Addr) (nm cm : Nat) (a : Addr) (w : World) (hc : CodeAt w vc nc) (hcn : nc ≤ 1048576) (hmn : nm ≤ 1048576) (ha : ErrAt w a) :
    Calls Tryz.prog 5 #[vc, .slice am nm cm] w fun e w' => e = .returned (.bool true) ∧ Below w.heap.size w w' := by
  have HD := hide_it (drawHouseHear_any vc nc w hc hcn)
  have HA : Hid (∀ W, Below w.heap.size w W → ErrAt W a) := fun W hb => ha.later hb (Nat.le_refl _)
  obtain ⟨ac, cc, rfl, _⟩ := hc
  have hci : (nc : Int) ≤ 1048576 := by omega
  have hmi : (nm : Int) ≤ 1048576 := by omega
  clear hcn ha
  go_enter Tryz.func5, Tryz.ntmps5
  go_wp2_with fail
  refine HD.out.mono ?_
  rintro e w1 ⟨id, up, room, o, f, rs, k, h, t, m, rfl, hl9, hR, hfm, hb1⟩
  have hl : tot rs ≤ 1048576 := by omega
  have B1 := hide_it hb1
  have R1 := hide_it hR
  have FM := hide_it hfm
  obtain ⟨ao, co, rfl⟩ := hR.shape
  clear hb1 hR HD hfm
  obtain ⟨⟨⟨ID, UP, ROOM, RS, F⟩, ⟨X1, X2, X3⟩, YB⟩, HO⟩ : ∃ o : He, Hid (hearO id up room rs f k h t m = o) := ⟨_, rfl⟩
  have hRl : tot RS ≤ 1048576 := by have := hearO_tot id up room rs f k h t m hl; rw [HO.out] at this; exact this
  obtain ⟨w2, hw2⟩ : ∃ W, Hid (W = (w1.alloc (.cells #[.int .i64 id, .bool up, .int .i64 room, .slice ao rs.length co, .int .i64 f] 34)).alloc (.cells #[.int .i64 k, .int .i64 h, .int .i64 t, .int .i64 m] 35)) := ⟨_, rfl⟩
  have al2 : Below w1.heap.size w1 w2 := by rw [hw2.out]; exact below2 _ _ _
  have B2 := hide_it (B1.out.trans (al2.mono B1.out.size))
  have R2 := hide_it (R1.out.later al2 (Nat.le_refl _))
  have L2 : Hid (Blk w2 w1.heap.size #[.int .i64 id, .bool up, .int .i64 room, .slice ao rs.length co, .int .i64 f] 34) := by show Blk _ _ _ _; rw [hw2.out]; exact (Blk.new _ _ _).alloc _
  have W2 : Hid (Blk w2 (w1.heap.size + 1) #[.int .i64 k, .int .i64 h, .int .i64 t, .int .i64 m] 35) := by show Blk _ _ _ _; rw [hw2.out]; exact Blk.new2 _ _ _ _
  have SP : Hid (∀ W, Below w2.heap.size w2 W → Calls Tryz.prog 9 #[houseV id up room (.slice ao rs.length co) f, wordV k h t m] W fun e w' => HeOut W w' e ((ID, UP, ROOM, RS, F), (X1, X2, X3), YB)) := fun W hb => by
    have := specHear_any id up room _ rs f k h t m W (R2.out.later hb (Nat.le_refl _)) hl; rw [HO.out] at this; exact this
  have IM : Hid (∀ W, Below w2.heap.size w2 W → Calls Tryz.prog 12 #[houseV id up room (.slice ao rs.length co) f, wordV k h t m] W fun e w' => HeOut W w' e ((ID, UP, ROOM, RS, F), (X1, X2, X3), YB)) := fun W hb => by
    have := implHear_any id up room _ rs f k h t m a W (R2.out.later hb (Nat.le_refl _)) FM.out hl (HA.out _ (B2.out.trans (hb.mono B2.out.size))); rw [HO.out] at this; exact this
  clear al2
  go_wp2_with fail
  rw [← hw2.out]
  refine (SP.out w2 (Below.refl _ _)).mono ?_
  rintro e w3 ⟨a3, c3, rfl, hm3, hb3⟩
  obtain ⟨w4, hw4⟩ : ∃ W, Hid (W = (w3.alloc (.cells #[.int .i64 ID, .bool UP, .int .i64 ROOM, .slice a3 RS.length c3, .int .i64 F] 34)).alloc (.cells #[.int .i64 X1, .int .i64 X2, .int .i64 X3, .int .i64 0] 35)) := ⟨_, rfl⟩
  have al4 : Below w3.heap.size w3 w4 := by rw [hw4.out]; exact below2 _ _ _
  have E3 := hide_it hb3
  have E4 := hide_it (hb3.trans (al4.mono hb3.size))
  have V4 := hide_it (hm3.recs.later al4 (Nat.le_refl _))
  have Z4 : Hid (Blk w4 w3.heap.size #[.int .i64 ID, .bool UP, .int .i64 ROOM, .slice a3 RS.length c3, .int .i64 F] 34) := by show Blk _ _ _ _; rw [hw4.out]; exact (Blk.new _ _ _).alloc _
  have A4 : Hid (Blk w4 (w3.heap.size + 1) #[.int .i64 X1, .int .i64 X2, .int .i64 X3, .int .i64 0] 35) := by show Blk _ _ _ _; rw [hw4.out]; exact Blk.new2 _ _ _ _
  obtain ⟨l0, l1, l2, l3, l4⟩ := (L2.out.after E3.out).cells5
  obtain ⟨v0, v1, v2, v3⟩ := (W2.out.after E3.out).cells4'
  have k0 := fun o p => cellAlloc (cellAlloc l0 o) p
  have k1 := fun o p => cellAlloc (cellAlloc l1 o) p
  have k2 := fun o p => cellAlloc (cellAlloc l2 o) p
  have k3 := fun o p => cellAlloc (cellAlloc l3 o) p
  have k4 := fun o p => cellAlloc (cellAlloc l4 o) p
  have k5 := fun o p => cellAlloc (cellAlloc v0 o) p
  have k6 := fun o p => cellAlloc (cellAlloc v1 o) p
  have k7 := fun o p => cellAlloc (cellAlloc v2 o) p
  have k8 := fun o p => cellAlloc (cellAlloc v3 o) p
  have hll := (L2.out.after E3.out).lt
  have hlv := (W2.out.after E3.out).lt
  clear hm3 hb3 al4
  go_wp2_with fail
  rw [← hw4.out]
  refine (IM.out w4 E4.out).mono ?_
  rintro e w5 ⟨a5, c5, rfl, hm5, hb5⟩
  obtain ⟨w6, hw6⟩ : ∃ W, Hid (W = (w5.alloc (.cells #[.int .i64 ID, .bool UP, .int .i64 ROOM, .slice a5 RS.length c5, .int .i64 F] 34)).alloc (.cells #[.int .i64 X1, .int .i64 X2, .int .i64 X3, .int .i64 0] 35)) := ⟨_, rfl⟩
  have al6 : Below w5.heap.size w5 w6 := by rw [hw6.out]; exact below2 _ _ _
  have e6 : Below w4.heap.size w4 w6 := hb5.trans (al6.mono hb5.size)
  have E6 := hide_it (E4.out.trans (e6.mono E4.out.size))
  have B6 := hide_it (B2.out.trans (E6.out.mono B2.out.size))
  have U6 := hide_it (hm5.recs.later al6 (Nat.le_refl _))
  have V6 := hide_it (V4.out.later e6 (Nat.le_refl _))
  have UF : Hid (Form (.slice a5 RS.length c5) RS.length) := form_made (rs := RS) hm5
  have X6 : Hid (Blk w6 w5.heap.size #[.int .i64 ID, .bool UP, .int .i64 ROOM, .slice a5 RS.length c5, .int .i64 F] 34) := by show Blk _ _ _ _; rw [hw6.out]; exact (Blk.new _ _ _).alloc _
  have D6 : Hid (Blk w6 (w5.heap.size + 1) #[.int .i64 X1, .int .i64 X2, .int .i64 X3, .int .i64 0] 35) := by show Blk _ _ _ _; rw [hw6.out]; exact Blk.new2 _ _ _ _
  have Z6 := hide_it (Z4.out.after e6)
  have A6 := hide_it (A4.out.after e6)
  have L6 := hide_it (L2.out.after E6.out)
  have W6 := hide_it (W2.out.after E6.out)
  clear k0 k1 k2 k3 k4 k5 k6 k7 k8 l0 l1 l2 l3 l4 v0 v1 v2 v3 hll hlv
  obtain ⟨l0, l1, l2, l3, l4⟩ := (Z4.out.after hb5).cells5
  obtain ⟨v0, v1, v2, v3⟩ := (A4.out.after hb5).cells4'
  have k0 := fun o p => cellAlloc (cellAlloc l0 o) p
  have k1 := fun o p => cellAlloc (cellAlloc l1 o) p
  have k2 := fun o p => cellAlloc (cellAlloc l2 o) p
  have k3 := fun o p => cellAlloc (cellAlloc l3 o) p
  have k4 := fun o p => cellAlloc (cellAlloc l4 o) p
  have k5 := fun o p => cellAlloc (cellAlloc v0 o) p
  have k6 := fun o p => cellAlloc (cellAlloc v1 o) p
  have k7 := fun o p => cellAlloc (cellAlloc v2 o) p
  have k8 := fun o p => cellAlloc (cellAlloc v3 o) p
  have hll := (Z4.out.after hb5).lt
  have hlv := (A4.out.after hb5).lt
  clear hm5 hb5 al6 e6
  have KK : Hid (∀ W, Below w6.heap.size w6 W → (W.cell? ⟨w5.heap.size, 0, none⟩ = some (.int .i64 ID) ∧ W.cell? ⟨w5.heap.size, 1, none⟩ = some (.bool UP) ∧ W.cell? ⟨w5.heap.size, 2, none⟩ = some (.int .i64 ROOM) ∧ W.cell? ⟨w5.heap.size, 3, none⟩ = some (.slice a5 RS.length c5) ∧ W.cell? ⟨w5.heap.size, 4, none⟩ = some (.int .i64 F)) ∧ (W.cell? ⟨w3.heap.size, 0, none⟩ = some (.int .i64 ID) ∧ W.cell? ⟨w3.heap.size, 1, none⟩ = some (.bool UP) ∧ W.cell? ⟨w3.heap.size, 2, none⟩ = some (.int .i64 ROOM) ∧ W.cell? ⟨w3.heap.size, 3, none⟩ = some (.slice a3 RS.length c3) ∧ W.cell? ⟨w3.heap.size, 4, none⟩ = some (.int .i64 F)) ∧ (W.cell? ⟨w5.heap.size + 1, 0, none⟩ = some (.int .i64 X1) ∧ W.cell? ⟨w5.heap.size + 1, 1, none⟩ = some (.int .i64 X2) ∧ W.cell? ⟨w5.heap.size + 1, 2, none⟩ = some (.int .i64 X3) ∧ W.cell? ⟨w5.heap.size + 1, 3, none⟩ = some (.int .i64 0)) ∧ (W.cell? ⟨w3.heap.size + 1, 0, none⟩ = some (.int .i64 X1) ∧ W.cell? ⟨w3.heap.size + 1, 1, none⟩ = some (.int .i64 X2) ∧ W.cell? ⟨w3.heap.size + 1, 2, none⟩ = some (.int .i64 X3) ∧ W.cell? ⟨w3.heap.size + 1, 3, none⟩ = some (.int .i64 0)) ∧ (W.cell? ⟨w1.heap.size, 0, none⟩ = some (.int .i64 id) ∧ W.cell? ⟨w1.heap.size, 1, none⟩ = some (.bool up) ∧ W.cell? ⟨w1.heap.size, 2, none⟩ = some (.int .i64 room) ∧ W.cell? ⟨w1.heap.size, 3, none⟩ = some (.slice ao rs.length co) ∧ W.cell? ⟨w1.heap.size, 4, none⟩ = some (.int .i64 f)) ∧ (W.cell? ⟨w1.heap.size + 1, 0, none⟩ = some (.int .i64 k) ∧ W.cell? ⟨w1.heap.size + 1, 1, none⟩ = some (.int .i64 h) ∧ W.cell? ⟨w1.heap.size + 1, 2, none⟩ = some (.int .i64 t) ∧ W.cell? ⟨w1.heap.size + 1, 3, none⟩ = some (.int .i64 m))) := fun W hb =>
    ⟨(X6.out.after hb).cells5, (Z6.out.after hb).cells5, (D6.out.after hb).cells4', (A6.out.after hb).cells4', (L6.out.after hb).cells5, (W6.out.after hb).cells4'⟩
  have hbb : (YB != YB) = false := by simp
  have hbb2 : (YB == YB) = true := by simp
  go_wp2_with fail
  rw [← hw6.out]
  clear k0 k1 k2 k3 k4 k5 k6 k7 k8 l0 l1 l2 l3 l4 v0 v1 v2 v3 hll hlv
  refine (lnHouse_any ID UP ROOM _ _ RS F w6 U6.out V6.out hRl).mono ?_
  rintro e w7 ⟨rfl, hb7⟩
  have E7 : Hid (Below w6.heap.size w6 w7) := hb7
  clear hb7
  obtain ⟨⟨x0, x1, x2, x3, x4⟩, ⟨z0, z1, z2, z3, z4⟩, ⟨d0, d1, d2, d3⟩, ⟨b0, b1, b2, b3⟩, ⟨l0, l1, l2, l3, l4⟩, ⟨v0, v1, v2, v3⟩⟩ := KK.out _ E7.out
  obtain ⟨BB, hBB⟩ : ∃ b, Hid (hoOk id room rs f = b) := ⟨_, rfl⟩
  have HOK : Hid (∀ W, Below w6.heap.size w6 W → Calls Tryz.prog 19 #[houseV id up room (.slice ao rs.length co) f] W fun e w' => e = .returned (.bool BB) ∧ Below W.heap.size W w') := fun W hb => by
    have := specHouseOk_any id up room _ rs f W (R2.out.later (E6.out.trans (hb.mono E6.out.size)) (Nat.le_refl _)) hl; rw [hBB.out] at this; exact this
  go_wp2_with fail
  refine (HOK.out _ E7.out).mono ?_
  rintro e w8 ⟨rfl, hb8⟩
  have E8 := hide_it (E7.out.trans (hb8.mono E7.out.size))
  clear hb8
  clear x0 x1 x2 x3 x4 z0 z1 z2 z3 z4 d0 d1 d2 d3 b0 b1 b2 b3 l0 l1 l2 l3 l4 v0 v1 v2 v3
  obtain ⟨⟨x0, x1, x2, x3, x4⟩, ⟨z0, z1, z2, z3, z4⟩, ⟨d0, d1, d2, d3⟩, ⟨b0, b1, b2, b3⟩, ⟨l0, l1, l2, l3, l4⟩, ⟨v0, v1, v2, v3⟩⟩ := KK.out _ E8.out
  cases BB
  · go_wp2_with fail
    refine (lnHouse_any ID UP ROOM _ _ RS F w8 (U6.out.later E8.out (Nat.le_refl _)) (V6.out.later E8.out (Nat.le_refl _)) hRl).mono ?_
    rintro e w9 ⟨rfl, hb9⟩
    have E9 := hide_it (E8.out.trans (hb9.mono E8.out.size))
    have B9 := hide_it (B6.out.trans (E9.out.mono B6.out.size))
    clear hb9
    clear x0 x1 x2 x3 x4 z0 z1 z2 z3 z4 d0 d1 d2 d3 b0 b1 b2 b3 l0 l1 l2 l3 l4 v0 v1 v2 v3
    obtain ⟨⟨x0, x1, x2, x3, x4⟩, ⟨z0, z1, z2, z3, z4⟩, ⟨d0, d1, d2, d3⟩, ⟨b0, b1, b2, b3⟩, ⟨l0, l1, l2, l3, l4⟩, ⟨v0, v1, v2, v3⟩⟩ := KK.out _ E9.out
    go_wp2
    go_ret
    exact ⟨by simp, B9.out⟩
  cases up
  · go_wp2_with fail
    refine (lnHouse_any ID UP ROOM _ _ RS F w8 (U6.out.later E8.out (Nat.le_refl _)) (V6.out.later E8.out (Nat.le_refl _)) hRl).mono ?_
    rintro e w9 ⟨rfl, hb9⟩
    have E9 := hide_it (E8.out.trans (hb9.mono E8.out.size))
    have B9 := hide_it (B6.out.trans (E9.out.mono B6.out.size))
    clear hb9
    clear x0 x1 x2 x3 x4 z0 z1 z2 z3 z4 d0 d1 d2 d3 b0 b1 b2 b3 l0 l1 l2 l3 l4 v0 v1 v2 v3
    obtain ⟨⟨x0, x1, x2, x3, x4⟩, ⟨z0, z1, z2, z3, z4⟩, ⟨d0, d1, d2, d3⟩, ⟨b0, b1, b2, b3⟩, ⟨l0, l1, l2, l3, l4⟩, ⟨v0, v1, v2, v3⟩⟩ := KK.out _ E9.out
    go_wp2
    go_ret
    exact ⟨by simp, B9.out⟩
  obtain ⟨TM, hTM⟩ : ∃ x : Int, ((nm : Int) % 6) = x := ⟨_, rfl⟩
  have hTM0 : 0 ≤ TM ∧ TM < 6 := by omega
  obtain ⟨hTa, hTb⟩ := hTM0
  obtain ⟨hs, hs', RS', X1', X2', X3', YB', q1, q2, q3, q4, q5, q6, q7, q8, q9⟩ := hear_undo (t := 1 + TM) hBB.out ⟨by omega, by omega⟩
  have hl' : tot RS' ≤ 1048576 := by have := tot_ok (hoOk_parts q4).2.1; omega
  have hRn : (RS'.length : Int) ≤ 1048576 := by have := tot_len RS'; omega
  have IMU : Hid (∀ W, Below w6.heap.size w6 W → Calls Tryz.prog 12 #[houseV id true room (.slice ao rs.length co) f, wordV 3 id (1 + TM) 0] W fun e w' => HeOut W w' e ((id, true, room, RS', f), (X1', X2', X3'), YB')) := fun W hb => by
    have := implHear_any id true room _ rs f 3 id (1 + TM) 0 a W (R2.out.later (E6.out.trans (hb.mono E6.out.size)) (Nat.le_refl _)) FM.out hl (HA.out _ (B6.out.trans (hb.mono B6.out.size))); rw [q1] at this; exact this
  have FOR : Hid (∀ (v : Value) (W : World), Below w6.heap.size w6 W → Recs W v RS' → Calls Tryz.prog 22 #[houseV id true room v f] W fun e w' => HoOut W w' e id true room RS' (RS'.length : Int)) := fun v W hb hv => by
    have := implHForce_any id true room v RS' f a W hv hl' (HA.out _ (B6.out.trans (hb.mono B6.out.size)))
    have e0 : hoForce id true room RS' f = (id, true, room, RS', (RS'.length : Int)) := by unfold hoForce; rw [if_pos q4]; rfl
    rw [e0] at this; exact this
  have STF : Hid (∀ (v : Value) (W : World), Below w6.heap.size w6 W → Recs W v RS' → Form v RS'.length → Calls Tryz.prog 20 #[houseV id true room v (RS'.length : Int), .bool true] W fun e w' => SkOut W w' e room hs') := fun v W hb hv hfm => by
    have := implHStock_any id true room v RS' (RS'.length : Int) true a W hv hfm hl' (HA.out _ (B6.out.trans (hb.mono B6.out.size))); rw [q6] at this; exact this
  have STH : Hid (∀ W, Below w6.heap.size w6 W → Calls Tryz.prog 20 #[houseV id true room (.slice ao rs.length co) f, .bool false] W fun e w' => SkOut W w' e room hs) := fun W hb => by
    have := implHStock_any id true room _ rs f false a W (R2.out.later (E6.out.trans (hb.mono E6.out.size)) (Nat.le_refl _)) FM.out hl (HA.out _ (B6.out.trans (hb.mono B6.out.size))); rw [q2] at this; exact this
  have IMG : Hid (∀ (v : Value) (k m : Int) (W : World), Below w6.heap.size w6 W → Recs W v RS' → Form v RS'.length → Calls Tryz.prog 12 #[houseV id true room v (RS'.length : Int), wordV k id (1 + TM) m] W fun e w' => HeOut W w' e (hearO id true room RS' (RS'.length : Int) k id (1 + TM) m)) := fun v k m W hb hv hfm =>
    implHear_any id true room v RS' (RS'.length : Int) k id (1 + TM) m a W hv hfm hl' (HA.out _ (B6.out.trans (hb.mono B6.out.size)))
  have Q3 := hide_it q3
  have Q7 := hide_it q7
  obtain ⟨ST, hST⟩ : ∃ x, Hid ((Pl.hAt hs (1 + TM)).2 = x) := ⟨_, rfl⟩
  obtain ⟨SF, hSF⟩ : ∃ x, Hid ((Pl.hAt hs' (1 + TM)).2 = x) := ⟨_, rfl⟩
  have Q8 : Hid (ST = 2 → SF = 2) := fun h => by have := q8 (by rw [hST.out]; exact h); rw [hSF.out] at this; exact this
  have Q9 : Hid (ST ≠ 2 → SF = 3 ∧ hearO id true room RS' (RS'.length : Int) 1 id (1 + TM) 1 = ((id, true, room, RS', (RS'.length : Int)), (5, id, 1 + TM), true) ∧ hearO id true room RS' (RS'.length : Int) 2 id (1 + TM) 0 = ((id, true, room, RS', (RS'.length : Int)), (0, 0, 0), false)) := fun h => by
    obtain ⟨g1, g2, g3⟩ := q9 (by rw [hST.out]; exact h)
    rw [hSF.out] at g1; exact ⟨g1, g2, g3⟩
  clear q1 q2 q3 q4 q5 q6 q7 q8 q9 SP IM HO
  clear x0 x1 x2 x3 x4 z0 z1 z2 z3 z4 d0 d1 d2 d3 b0 b1 b2 b3 l0 l1 l2 l3 l4 v0 v1 v2 v3
  have LX := hide_it (L6.out.after E8.out)
  obtain ⟨LX_0, LX_1, LX_2, LX_3, LX_4⟩ := LX.out.cells5
  go_wp2_with fail
  refine (IMU.out _ E8.out).mono ?_
  rintro e w9 ⟨a9, c9, rfl, hm9, hb⟩
  clear LX_0 LX_1 LX_2 LX_3 LX_4
  replace LX := hide_it (LX.out.after hb)
  replace E8 := hide_it (E8.out.trans (hb.mono E8.out.size))
  have M9 := hide_it hm9.recs
  have hLY := LX.out.lt
  have h69 := E8.out.size
  clear hm9
  clear hb
  obtain ⟨w10, hw10⟩ : ∃ W, Hid (W = (w9.alloc (.cells #[.int .i64 id, .bool true, .int .i64 room, .slice a9 RS'.length c9, .int .i64 f] 34)).alloc (.cells #[.int .i64 X1', .int .i64 X2', .int .i64 X3', .int .i64 0] 35)) := ⟨_, rfl⟩
  have alw10 : Below w9.heap.size w9 w10 := by rw [hw10.out]; exact below2 _ _ _
  replace LX := hide_it (LX.out.after alw10)
  replace E8 := hide_it (E8.out.trans (alw10.mono E8.out.size))
  replace M9 := hide_it (M9.out.later alw10 (Nat.le_refl _))
  have YY : Hid (Blk w10 (w9.heap.size) #[.int .i64 id, .bool true, .int .i64 room, .slice a9 RS'.length c9, .int .i64 f] 34) := by show Blk _ _ _ _; rw [hw10.out]; exact (Blk.new _ _ _).alloc _
  have BW : Hid (Blk w10 (w9.heap.size + 1) #[.int .i64 X1', .int .i64 X2', .int .i64 X3', .int .i64 0] 35) := by show Blk _ _ _ _; rw [hw10.out]; exact Blk.new2 _ _ _ _
  clear alw10
  go_wp2_with fail
  rw [← hw10.out]
  refine (FOR.out _ _ E8.out M9.out).mono ?_
  rintro e w11 ⟨a11, c11, rfl, hm11, hb⟩
  replace LX := hide_it (LX.out.after hb)
  replace E8 := hide_it (E8.out.trans (hb.mono E8.out.size))
  replace M9 := hide_it (M9.out.later hb (Nat.le_refl _))
  replace YY := hide_it (YY.out.after hb)
  replace BW := hide_it (BW.out.after hb)
  have M11 := hide_it hm11.recs
  have F11 : Hid (Form (.slice a11 RS'.length c11) RS'.length) := form_made hm11
  have O11 := hide_it hm11
  clear hm11
  clear hb
  obtain ⟨YY_0, YY_1, YY_2, YY_3, YY_4⟩ := YY.out.cells5
  obtain ⟨LX_0, LX_1, LX_2, LX_3, LX_4⟩ := LX.out.cells5
  obtain ⟨yf0, yf1, yf2, yf3, yf4⟩ := YY.out.free5
  go_wp2_with fail
  clear YY_0 YY_1 YY_2 YY_3 YY_4 LX_0 LX_1 LX_2 LX_3 LX_4
  clear M9
  clear M11
  clear BW
  obtain ⟨w12, hw12⟩ : ∃ W, Hid (W = ((((w11.setCell ⟨w9.heap.size, 0, none⟩ (.int .i64 id)).setCell ⟨w9.heap.size, 1, none⟩ (.bool true)).setCell ⟨w9.heap.size, 2, none⟩ (.int .i64 room)).setCell ⟨w9.heap.size, 3, none⟩ (.slice a11 RS'.length c11)).setCell ⟨w9.heap.size, 4, none⟩ (.int .i64 (RS'.length : Int))) := ⟨_, rfl⟩
  rw [← hw12.out]
  have E12 : Hid (Below w6.heap.size w6 w12) := by
    show Below _ _ _
    rw [hw12.out]
    iterate 5 (refine Below.setCell ?_ (by first | exact h69 | omega) _)
    exact E8.out
  have Y12 : Hid (Blk w12 w9.heap.size #[.int .i64 id, .bool true, .int .i64 room, .slice a11 RS'.length c11, .int .i64 (RS'.length : Int)] 34) := by show Blk _ _ _ _; rw [hw12.out]; exact ((((YY.out.set_ 0 _).set_ 1 _).set_ 2 _).set_ 3 _).set_ 4 _
  have L12 : Hid (Blk w12 w1.heap.size #[.int .i64 id, .bool true, .int .i64 room, .slice ao rs.length co, .int .i64 f] 34) := by
    show Blk _ _ _ _
    rw [hw12.out]
    iterate 5 (refine Blk.other ?_ (by simp; omega) _)
    exact LX.out
  have M12 : Hid (Recs w12 (.slice a11 RS'.length c11) RS') := by
    show Recs _ _ _
    rw [hw12.out]
    have e0 := O11.out.setHouse (j := 0) YY.out (.int .i64 id)
    have e1 := e0.setHouse (j := 1) (YY.out.set_ 0 _) (.bool true)
    have e2 := e1.setHouse (j := 2) ((YY.out.set_ 0 _).set_ 1 _) (.int .i64 room)
    have e3 := e2.setHouse (j := 3) (((YY.out.set_ 0 _).set_ 1 _).set_ 2 _) (.slice a11 RS'.length c11)
    have e4 := e3.setHouse (j := 4) ((((YY.out.set_ 0 _).set_ 1 _).set_ 2 _).set_ 3 _) (.int .i64 (RS'.length : Int))
    exact e4.recs
  clear hw12 yf0 yf1 yf2 yf3 yf4 O11
  clear YY
  clear LX
  clear E8
  refine (STF.out _ _ E12.out M12.out F11.out).mono ?_
  rintro e w13 ⟨a13, c13, rfl, ho13, hb⟩
  replace E12 := hide_it (E12.out.trans (hb.mono E12.out.size))
  replace Y12 := hide_it (Y12.out.after hb)
  replace L12 := hide_it (L12.out.after hb)
  replace M12 := hide_it (M12.out.later hb (Nat.le_refl _))
  have H13 := hide_it (holds_of_row ho13)
  clear ho13
  clear hb
  obtain ⟨b13, off13, hab13, HC13⟩ := holds_cells6 H13.out Q7.out
  subst hab13
  obtain ⟨N, hN⟩ : ∃ N, Hid (Pl.at_ (1 + TM) = N) := ⟨_, rfl⟩
  obtain rfl : TM = (N : Int) := by rw [← hN.out]; unfold Pl.at_; omega
  have hN6 : N < 6 := by omega
  have hNi : (N : Int) < (hs'.length : Int) := by rw [Q7.out]; omega
  have hNj : (N : Int) < (hs.length : Int) := by rw [Q3.out]; omega
  have hN0 : (0 : Int) ≤ (N : Int) := by omega
  have hwr : IntKind.i64.wrap (1 + (N : Int) - 1) = (N : Int) := by simp [IntKind.wrap, IntKind.bits, IntKind.signed]; omega
  have hc13 := (HC13 N hN6).2
  have e13 : (hs'.getD N (0, 0)).2 = SF := by rw [← hSF.out]; unfold Pl.hAt; rw [hN.out]
  rw [e13] at hc13
  clear HC13 e13
  have fs13 : ∀ W : World, Sem.run Tryz.prog (Instr.field 50 (.agg #[.int .i64 room, .slice (some ⟨b13, off13, none⟩) hs'.length c13]) 1) W = .ok (.slice (some ⟨b13, off13, none⟩) hs'.length c13) W := fun W => by kernel_rfl
  obtain ⟨L12_0, L12_1, L12_2, L12_3, L12_4⟩ := L12.out.cells5
  obtain ⟨Y12_0, Y12_1, Y12_2, Y12_3, Y12_4⟩ := Y12.out.cells5
  go_wp2_with fail
  clear L12_0 L12_1 L12_2 L12_3 L12_4 Y12_0 Y12_1 Y12_2 Y12_3 Y12_4
  refine (STH.out _ E12.out).mono ?_
  rintro e w14 ⟨a14, c14, rfl, ho14, hb⟩
  replace E12 := hide_it (E12.out.trans (hb.mono E12.out.size))
  replace Y12 := hide_it (Y12.out.after hb)
  replace L12 := hide_it (L12.out.after hb)
  replace M12 := hide_it (M12.out.later hb (Nat.le_refl _))
  replace H13 := hide_it (H13.out.later hb (Nat.le_refl _))
  have H14 := hide_it (holds_of_row ho14)
  clear ho14
  clear hb
  obtain ⟨b14, off14, hab14, HC14⟩ := holds_cells6 H14.out Q3.out
  subst hab14
  have hc14 := (HC14 N hN6).2
  have e14 : (hs.getD N (0, 0)).2 = ST := by rw [← hST.out]; unfold Pl.hAt; rw [hN.out]
  rw [e14] at hc14
  clear HC14 e14
  have fs14 : ∀ W : World, Sem.run Tryz.prog (Instr.field 50 (.agg #[.int .i64 room, .slice (some ⟨b14, off14, none⟩) hs.length c14]) 1) W = .ok (.slice (some ⟨b14, off14, none⟩) hs.length c14) W := fun W => by kernel_rfl
  by_cases hs2 : ST = 2
  · have hf2 := Q8.out hs2
    subst ST SF
    have B14 := hide_it (B6.out.trans (E12.out.mono B6.out.size))
    go_wp2
    go_ret
    exact ⟨rfl, B14.out⟩
  obtain ⟨g1, g2, g3⟩ := Q9.out hs2
  subst SF
  have hs2n : (ST == 2) = false := by simpa using hs2
  have IMZ : Hid (∀ W, Below w6.heap.size w6 W → Recs W (.slice a11 RS'.length c11) RS' → Calls Tryz.prog 12 #[houseV id true room (.slice a11 RS'.length c11) (RS'.length : Int), wordV 1 id (1 + (N : Int)) 1] W fun e w' => HeOut W w' e ((id, true, room, RS', (RS'.length : Int)), (5, id, 1 + (N : Int)), true)) := fun W hb hv => by
    have := IMG.out _ 1 1 W hb hv F11.out; rw [g2] at this; exact this
  have IMU2 : Hid (∀ W, Below w6.heap.size w6 W → Recs W (.slice a11 RS'.length c11) RS' → Calls Tryz.prog 12 #[houseV id true room (.slice a11 RS'.length c11) (RS'.length : Int), wordV 2 id (1 + (N : Int)) 0] W fun e w' => HeOut W w' e ((id, true, room, RS', (RS'.length : Int)), (0, 0, 0), false)) := fun W hb hv => by
    have := IMG.out _ 2 0 W hb hv F11.out; rw [g3] at this; exact this
  clear g2 g3
  obtain ⟨L12_0, L12_1, L12_2, L12_3, L12_4⟩ := L12.out.cells5
  obtain ⟨Y12_0, Y12_1, Y12_2, Y12_3, Y12_4⟩ := Y12.out.cells5
  go_wp2_with fail
  refine (IMZ.out _ E12.out M12.out).mono ?_
  rintro e w15 ⟨a15, c15, rfl, hm15, hb⟩
  clear L12_0 L12_1 L12_2 L12_3 L12_4 Y12_0 Y12_1 Y12_2 Y12_3 Y12_4
  replace E12 := hide_it (E12.out.trans (hb.mono E12.out.size))
  replace Y12 := hide_it (Y12.out.after hb)
  replace L12 := hide_it (L12.out.after hb)
  replace M12 := hide_it (M12.out.later hb (Nat.le_refl _))
  replace H13 := hide_it (H13.out.later hb (Nat.le_refl _))
  have M15 := hide_it hm15.recs
  clear hm15 hc14
  clear hb
  obtain ⟨L12_0, L12_1, L12_2, L12_3, L12_4⟩ := L12.out.cells5
  have L12_0b := fun o p => cellAlloc (cellAlloc L12_0 o) p
  have L12_1b := fun o p => cellAlloc (cellAlloc L12_1 o) p
  have L12_2b := fun o p => cellAlloc (cellAlloc L12_2 o) p
  have L12_3b := fun o p => cellAlloc (cellAlloc L12_3 o) p
  have L12_4b := fun o p => cellAlloc (cellAlloc L12_4 o) p
  have L12_lt := L12.out.lt
  obtain ⟨Y12_0, Y12_1, Y12_2, Y12_3, Y12_4⟩ := Y12.out.cells5
  have Y12_0b := fun o p => cellAlloc (cellAlloc Y12_0 o) p
  have Y12_1b := fun o p => cellAlloc (cellAlloc Y12_1 o) p
  have Y12_2b := fun o p => cellAlloc (cellAlloc Y12_2 o) p
  have Y12_3b := fun o p => cellAlloc (cellAlloc Y12_3 o) p
  have Y12_4b := fun o p => cellAlloc (cellAlloc Y12_4 o) p
  have Y12_lt := Y12.out.lt
  obtain ⟨w16, hw16⟩ : ∃ W, Hid (W = (w15.alloc (.cells #[.int .i64 id, .bool true, .int .i64 room, .slice a15 RS'.length c15, .int .i64 (RS'.length : Int)] 34)).alloc (.cells #[.int .i64 5, .int .i64 id, .int .i64 (1 + (N : Int)), .int .i64 0] 35)) := ⟨_, rfl⟩
  have alw16 : Below w15.heap.size w15 w16 := by rw [hw16.out]; exact below2 _ _ _
  replace E12 := hide_it (E12.out.trans (alw16.mono E12.out.size))
  replace Y12 := hide_it (Y12.out.after alw16)
  replace L12 := hide_it (L12.out.after alw16)
  replace M12 := hide_it (M12.out.later alw16 (Nat.le_refl _))
  replace H13 := hide_it (H13.out.later alw16 (Nat.le_refl _))
  replace M15 := hide_it (M15.out.later alw16 (Nat.le_refl _))
  have ZZ : Hid (Blk w16 (w15.heap.size) #[.int .i64 id, .bool true, .int .i64 room, .slice a15 RS'.length c15, .int .i64 (RS'.length : Int)] 34) := by show Blk _ _ _ _; rw [hw16.out]; exact (Blk.new _ _ _).alloc _
  have ZB : Hid (Blk w16 (w15.heap.size + 1) #[.int .i64 5, .int .i64 id, .int .i64 (1 + (N : Int)), .int .i64 0] 35) := by show Blk _ _ _ _; rw [hw16.out]; exact Blk.new2 _ _ _ _
  clear alw16
  go_wp2_with fail
  rw [← hw16.out]
  refine (IMU2.out _ E12.out M12.out).mono ?_
  rintro e w17 ⟨a17, c17, rfl, hm17, hb⟩
  clear L12_0 L12_1 L12_2 L12_3 L12_4 L12_0b L12_1b L12_2b L12_3b L12_4b L12_lt Y12_0 Y12_1 Y12_2 Y12_3 Y12_4 Y12_0b Y12_1b Y12_2b Y12_3b Y12_4b Y12_lt
  replace E12 := hide_it (E12.out.trans (hb.mono E12.out.size))
  replace Y12 := hide_it (Y12.out.after hb)
  replace L12 := hide_it (L12.out.after hb)
  replace M12 := hide_it (M12.out.later hb (Nat.le_refl _))
  replace H13 := hide_it (H13.out.later hb (Nat.le_refl _))
  replace M15 := hide_it (M15.out.later hb (Nat.le_refl _))
  replace ZZ := hide_it (ZZ.out.after hb)
  replace ZB := hide_it (ZB.out.after hb)
  have M17 := hide_it hm17.recs
  clear hm17
  clear hb
  obtain ⟨ZZ_0, ZZ_1, ZZ_2, ZZ_3, ZZ_4⟩ := ZZ.out.cells5
  have ZZ_0b := fun o p => cellAlloc (cellAlloc ZZ_0 o) p
  have ZZ_1b := fun o p => cellAlloc (cellAlloc ZZ_1 o) p
  have ZZ_2b := fun o p => cellAlloc (cellAlloc ZZ_2 o) p
  have ZZ_3b := fun o p => cellAlloc (cellAlloc ZZ_3 o) p
  have ZZ_4b := fun o p => cellAlloc (cellAlloc ZZ_4 o) p
  have ZZ_lt := ZZ.out.lt
  obtain ⟨Y12_0, Y12_1, Y12_2, Y12_3, Y12_4⟩ := Y12.out.cells5
  have Y12_0b := fun o p => cellAlloc (cellAlloc Y12_0 o) p
  have Y12_1b := fun o p => cellAlloc (cellAlloc Y12_1 o) p
  have Y12_2b := fun o p => cellAlloc (cellAlloc Y12_2 o) p
  have Y12_3b := fun o p => cellAlloc (cellAlloc Y12_3 o) p
  have Y12_4b := fun o p => cellAlloc (cellAlloc Y12_4 o) p
  have Y12_lt := Y12.out.lt
  obtain ⟨ZB_0, ZB_1, ZB_2, ZB_3⟩ := ZB.out.cells4'
  have ZB_0b := fun o p => cellAlloc (cellAlloc ZB_0 o) p
  have ZB_1b := fun o p => cellAlloc (cellAlloc ZB_1 o) p
  have ZB_2b := fun o p => cellAlloc (cellAlloc ZB_2 o) p
  have ZB_3b := fun o p => cellAlloc (cellAlloc ZB_3 o) p
  have ZB_lt := ZB.out.lt
  obtain ⟨w18, hw18⟩ : ∃ W, Hid (W = (w17.alloc (.cells #[.int .i64 id, .bool true, .int .i64 room, .slice a17 RS'.length c17, .int .i64 (RS'.length : Int)] 34)).alloc (.cells #[.int .i64 0, .int .i64 0, .int .i64 0, .int .i64 0] 35)) := ⟨_, rfl⟩
  have alw18 : Below w17.heap.size w17 w18 := by rw [hw18.out]; exact below2 _ _ _
  replace E12 := hide_it (E12.out.trans (alw18.mono E12.out.size))
  replace Y12 := hide_it (Y12.out.after alw18)
  replace L12 := hide_it (L12.out.after alw18)
  replace M12 := hide_it (M12.out.later alw18 (Nat.le_refl _))
  replace H13 := hide_it (H13.out.later alw18 (Nat.le_refl _))
  replace M15 := hide_it (M15.out.later alw18 (Nat.le_refl _))
  replace ZZ := hide_it (ZZ.out.after alw18)
  replace ZB := hide_it (ZB.out.after alw18)
  replace M17 := hide_it (M17.out.later alw18 (Nat.le_refl _))
  have UU : Hid (Blk w18 (w17.heap.size) #[.int .i64 id, .bool true, .int .i64 room, .slice a17 RS'.length c17, .int .i64 (RS'.length : Int)] 34) := by show Blk _ _ _ _; rw [hw18.out]; exact (Blk.new _ _ _).alloc _
  have UB : Hid (Blk w18 (w17.heap.size + 1) #[.int .i64 0, .int .i64 0, .int .i64 0, .int .i64 0] 35) := by show Blk _ _ _ _; rw [hw18.out]; exact Blk.new2 _ _ _ _
  clear alw18
  go_wp2_with fail
  rw [← hw18.out]
  refine (lnHouse_any id true room _ _ RS' (RS'.length : Int) w18 M15.out M12.out hl').mono ?_
  rintro e w19 ⟨rfl, hb⟩
  clear ZZ_0 ZZ_1 ZZ_2 ZZ_3 ZZ_4 ZZ_0b ZZ_1b ZZ_2b ZZ_3b ZZ_4b ZZ_lt Y12_0 Y12_1 Y12_2 Y12_3 Y12_4 Y12_0b Y12_1b Y12_2b Y12_3b Y12_4b Y12_lt ZB_0 ZB_1 ZB_2 ZB_3 ZB_0b ZB_1b ZB_2b ZB_3b ZB_lt
  replace E12 := hide_it (E12.out.trans (hb.mono E12.out.size))
  replace Y12 := hide_it (Y12.out.after hb)
  replace L12 := hide_it (L12.out.after hb)
  replace M12 := hide_it (M12.out.later hb (Nat.le_refl _))
  replace H13 := hide_it (H13.out.later hb (Nat.le_refl _))
  replace M15 := hide_it (M15.out.later hb (Nat.le_refl _))
  replace ZZ := hide_it (ZZ.out.after hb)
  replace ZB := hide_it (ZB.out.after hb)
  replace M17 := hide_it (M17.out.later hb (Nat.le_refl _))
  replace UU := hide_it (UU.out.after hb)
  replace UB := hide_it (UB.out.after hb)
  clear hb
  obtain ⟨UU_0, UU_1, UU_2, UU_3, UU_4⟩ := UU.out.cells5
  obtain ⟨Y12_0, Y12_1, Y12_2, Y12_3, Y12_4⟩ := Y12.out.cells5
  go_wp2_with fail
  refine (lnHouse_any id true room _ _ RS' (RS'.length : Int) w19 M17.out M12.out hl').mono ?_
  rintro e w20 ⟨rfl, hb⟩
  clear UU_0 UU_1 UU_2 UU_3 UU_4 Y12_0 Y12_1 Y12_2 Y12_3 Y12_4
  replace E12 := hide_it (E12.out.trans (hb.mono E12.out.size))
  replace Y12 := hide_it (Y12.out.after hb)
  replace L12 := hide_it (L12.out.after hb)
  replace M12 := hide_it (M12.out.later hb (Nat.le_refl _))
  replace H13 := hide_it (H13.out.later hb (Nat.le_refl _))
  replace M15 := hide_it (M15.out.later hb (Nat.le_refl _))
  replace ZZ := hide_it (ZZ.out.after hb)
  replace ZB := hide_it (ZB.out.after hb)
  replace M17 := hide_it (M17.out.later hb (Nat.le_refl _))
  replace UU := hide_it (UU.out.after hb)
  replace UB := hide_it (UB.out.after hb)
  clear hb
  obtain ⟨ZB_0, ZB_1, ZB_2, ZB_3⟩ := ZB.out.cells4'
  have B20 := hide_it (B6.out.trans (E12.out.mono B6.out.size))
  go_wp2
  go_ret
  exact ⟨rfl, B20.out⟩

end Go.Proofs.YthllcffmpeopcaaGreatDoor

namespace Go.Proofs.YthllcffmpeopcaaGreatDoor
open Go.ChangeShapes Go.WideShapes Go.ChangeAt Go.WideMaps Go.WideElems Go.RowKit Go.Joins

set_option maxRecDepth 100000 in
set_option maxHeartbeats 2000000 in
theorem lawP40_great1 (ac : Option Addr) (nc cc : Nat) (am : Option Addr) (nm cm : Nat) (w : World) (h : 1048576 < (nc : Int)) :
    Calls Tryz.prog 5 #[.slice ac nc cc, .slice am nm cm] w fun e w' => e = .returned (.bool true) ∧ Below w.heap.size w w' := by
  go_enter Tryz.func5, Tryz.ntmps5
  go_wp2
  go_ret
  exact ⟨rfl, Below.refl _ _⟩

set_option maxRecDepth 100000 in
set_option maxHeartbeats 2000000 in
theorem lawP40_great2 (ac : Option Addr) (nc cc : Nat) (am : Option Addr) (nm cm : Nat) (w : World) (hc : (nc : Int) ≤ 1048576) (h : 1048576 < (nm : Int)) :
    Calls Tryz.prog 5 #[.slice ac nc cc, .slice am nm cm] w fun e w' => e = .returned (.bool true) ∧ Below w.heap.size w w' := by
  go_enter Tryz.func5, Tryz.ntmps5
  go_wp2
  go_ret
  exact ⟨rfl, Below.refl _ _⟩

theorem lawP40_any (vc vm : Value) (nc nm : Nat) (a : Addr) (w : World) (hc : CodeAt w vc nc) (hm : CodeAt w vm nm) (ha : ErrAt w a) :
    Calls Tryz.prog 5 #[vc, vm] w fun e w' => e = .returned (.bool true) ∧ Below w.heap.size w w' := by
  obtain ⟨am, cm, rfl, _⟩ := hm
  by_cases h1 : nc ≤ 1048576
  · by_cases h2 : nm ≤ 1048576
    · exact lawP40_small vc nc am nm cm a w hc h1 h2 ha
    · obtain ⟨ac, cc, rfl, _⟩ := hc
      exact lawP40_great2 ac nc cc am nm cm w (by omega) (by omega)
  · obtain ⟨ac, cc, rfl, _⟩ := hc
    exact lawP40_great1 ac nc cc am nm cm w (by omega)

set_option maxRecDepth 100000 in
theorem p40_lifted (os : Os) (started : os.Started) (H : Type) (enc : TypeId × Value → H) :
    ReturnsInHanded {} Tryz.checked os 5 .any (fun w args => (Rows.fnHearUndoSpec.pre enc Tryz.prog Tryz.f5 [] false w args ∧ laidMetH Tryz.prog laidErr w) ∧ sizedMet enc Tryz.prog Tryz.f5 (OpenSpec.ofChange Rows.fnHearUndoSpec) false w args)
      (Rows.fnHearUndoSpec.post enc Tryz.prog Tryz.f5 false true false false) := by
  refine returnsInHanded_of_change_and (C := Tryz.checked) (X := fun w _ => laidMetH Tryz.prog laidErr w) (fun _ _ _ hh h => h.of_heap hh) own started (by kernel_rfl) Tryz.func5
    (ChangeSpec.witness_shaped (enc := enc) (C := Tryz.checked) (os := os) (X := fun w _ => laidMetH Tryz.prog laidErr w) false (World.doorLaid Tryz.prog 28 os) #[.slice none 0 0, .slice none 0 0] 8 rfl (World.shaped_of_RefB (by kernel_rfl) (by kernel_rfl)) (by kernel_rfl) (by kernel_rfl) (by kernel_rfl) (door_met os _)) ?_
  intro W base args ds gs before hval0 hW _ _ hL _
  have hval : ∀ (j : Nat) t v, Tryz.f5.params[j]? = some t → args[j]? = some v → Value.okWide Tryz.prog W .any base t v := hval0
  have hW' := hW
  obtain ⟨p, q, hA0, hV0, rfl, hfz, hnd⟩ := hW
  have hA : DataW.TrodAll enc Tryz.prog W 0 (fun _ => true) true Tryz.f5.params.toList args.toList ds p := hA0
  have hV : DataW.TrodVars enc Tryz.prog W (fun _ => true) ["loop.example/concierge/impl.errNoRec"] gs q := hV0
  rw [Tryz.params5] at hA hval
  obtain ⟨v0, v1, d0, d1, p0, p1, rfl, rfl, rfl, h0, h1⟩ := trodAll_two hA
  obtain ⟨a, hErr, hvar⟩ := of_laid hL
  have vr : ∀ {X : World}, X.var? Tryz.prog "loop.example/concierge/impl.errNoRec" = some #[.iface 161 (.pointer (some a))] → ∀ sp : Nat → Bool,
      DataW.TrodVars enc Tryz.prog X sp ["loop.example/concierge/impl.errNoRec"] [tok enc (.iface 161 (.pointer (some a)))] [.cell 0 0] :=
    fun x0 sp => vars_read1 enc gErr gErrType Tryz.underlying126 x0 trivial sp
  obtain ⟨rfl, rfl⟩ := hV.unique (vr hvar _)
  clear hA0 hV0 hval0
  obtain ⟨nc, hC, _⟩ := open_code (hval 0 44 v0 rfl rfl) h0
  obtain ⟨nm, hM, _⟩ := open_code (hval 1 44 v1 rfl rfl) h1
  refine (lawP40_any v0 v1 nc nm a W hC hM hErr).mono fun e W' ⟨he, hb⟩ => ?_
  subst he
  have hlt : ∀ x ∈ p0, x.block < W.heap.size := fun x hx => hW'.lt x (by simp [hx])
  have hlt1 : ∀ x ∈ p1, x.block < W.heap.size := fun x hx => hW'.lt x (by simp [hx])
  refine ⟨_, rfl, _, _, _, [], p0 ++ p1, [.cell 0 0], hW', ?_, ?_, ?_, hb.frame _, fun h => by cases h⟩
  · exact trodAll_mk1 (shut_bool Tryz.underlying4 true)
  · exact trodAll_mk2 (Below.trod laidOut (by kernel_rfl) (of_decide_eq_true (by kernel_rfl)) h0 hb hlt) (Below.trod laidOut (by kernel_rfl) (of_decide_eq_true (by kernel_rfl)) h1 hb hlt1)
  · exact vr (var?_below hb gErr (World.block_lt_of_cell? _ _ hErr) hvar) _

theorem p40_said : Rows.FnHearUndoSaid :=
  OpenClaim.holds_of_wide 5 Tryz.f5 rfl rfl rfl rfl rfl rfl rfl ⟨rfl, rfl, rfl, rfl, rfl⟩ rfl rfl rfl rfl rfl (by kernel_rfl) Tryz.func5 (by kernel_rfl)
    (of_decide_eq_true (by kernel_rfl)) (by unfold Func.isWrapper; first | (rw [if_pos (by decide +kernel)]; kernel_rfl) | (rw [if_neg (by decide +kernel)]; exact ⟨rfl, rfl⟩))
    (fun os started H enc _ => p40_lifted os started H enc)

theorem p40_plain (f : FuncId) (fn : Func) (hf : Tryz.pinned.checked.prog.funcNamed "loop.example/concierge/laws.FnHearUndo" = some f) (hfn : Tryz.pinned.checked.prog.funcs[f]? = some fn) :
    true = Tryz.pinned.checked.prog.looks [] ∧ ∀ (j : Nat) t, fn.params[j]? = some t → Tryz.pinned.checked.prog.wantsStandIn t = false := by
  obtain rfl : f = 5 := Option.some.inj ((show Tryz.prog.funcNamed "loop.example/concierge/laws.FnHearUndo" = some 5 by kernel_rfl).symm.trans hf) |>.symm
  obtain rfl : fn = Tryz.f5 := (Option.some.inj (Tryz.func5.symm.trans hfn)).symm
  refine ⟨by kernel_rfl, fun j t ht => ?_⟩
  rw [Tryz.params5] at ht
  obtain rfl : t = 44 := by simpa using Array.mem_of_getElem? ht
  exact (show Tryz.prog.wantsStandIn 44 = false by kernel_rfl)

theorem p40_card : Rows.FnHearUndoCardSaid :=
  Claim7.holds_tied_plain_at .later [] _ _ _ _ p40_said (fun _ h => by cases h) (by kernel_rfl) (fun _ h => by cases h) fnHearUndo_row_tie rfl ⟨rfl, rfl⟩ (by kernel_rfl) rfl p40_plain (by kernel_rfl)
#print axioms p40_card

end Go.Proofs.YthllcffmpeopcaaGreatDoor
