/- FnHearAgain answers true whatever the code, and it reads afterwards as it read before: promise 34 at every drawn house and word. The card: the sentinel's variable starts as the program's text lays it. -/
import Derived.Test.YtcogplmopdckhaaGreatDoorBase8

namespace Go.Proofs.YtcogplmopdckhaaGreatDoor
open Go.RowKit

theorem hoOk_forced' {id room : Int} {rs : List R} {f : Int} (h : hoOk id room rs f = true) : hoOk id room rs rs.length = true := by
  obtain ⟨h1, h2, h3⟩ := hoOk_parts h
  have h4 : logOk rs rs.length = true := by
    have h40 := (logOk_f h2).2.2
    simp only [logOk, Bool.and_eq_true] at h2 ⊢
    exact ⟨h2.1, h2.2.1, Pl.inB_mk (by omega) (by omega)⟩
  rw [hoOk_of h1 h4]; exact h3
/-- Told again, and forced, it is answered. -/
theorem hear_again {id room : Int} {up : Bool} {rs : List R} {f k h t m : Int} {ID ROOM F : Int} {UP : Bool} {RS : List R} {x : Int × Int × Int} {y : Bool} (e : hearO id up room rs f k h t m = ((ID, UP, ROOM, RS, F), x, y)) (hlen : ¬ RS.length ≤ rs.length) :
    ID = id ∧ UP = true ∧ ROOM = room ∧ hoForce ID UP ROOM RS F = (ID, UP, ROOM, RS, (RS.length : Int)) ∧ ∃ X, hearO ID UP ROOM RS (RS.length : Int) k h t m = ((ID, UP, ROOM, RS, (RS.length : Int)), (X, ID, t), true) ∧ ((k = 1 ∧ X = 4) ∨ (k = 2 ∧ X = 6) ∨ (k = 3 ∧ X = 7)) := by
  cases hok : hoOk id room rs f
  · rw [hearO_no hok] at e
    simp only [Prod.mk.injEq, hoZ] at e
    obtain ⟨⟨-, -, -, e4, -⟩, -⟩ := e
    subst e4
    simp at hlen
  rcases hear_house (up := up) (k := k) (h := h) (t := t) (m := m) hok with h1 | ⟨hs, hs', h1, hb, eA, d, e2, ok2⟩
  · rw [e] at h1
    simp only [Prod.mk.injEq] at h1
    obtain ⟨-, -, -, e4, -⟩ := h1
    subst e4
    exact absurd (Nat.le_refl _) hlen
  · rw [e] at h1
    simp only [Prod.mk.injEq] at h1
    obtain ⟨⟨rfl, rfl, rfl, rfl, rfl⟩, -, -⟩ := h1
    obtain ⟨rfl, rfl, hk, ht, hrec⟩ := Pl.hearB_parts hb
    have ok3 := hoOk_forced' ok2
    obtain ⟨X, hX, hXk⟩ : ∃ X, Pl.hearA k (Pl.hAt hs' t).2 (Pl.hAt hs' t).2 = some X ∧ ((k = 1 ∧ X = 4) ∨ (k = 2 ∧ X = 6) ∨ (k = 3 ∧ X = 7)) := by
      obtain ⟨x, hn, hx, _⟩ := Pl.did d
      rw [hx]
      rcases Pl.next_kinds' hn with ⟨rfl, _, _, rfl⟩ | ⟨rfl, _, rfl⟩ | ⟨rfl, _, rfl⟩
      · exact ⟨4, by simp [Pl.hearA, Pl.ansK], Or.inl ⟨rfl, rfl⟩⟩
      · exact ⟨6, by simp [Pl.hearA, Pl.ansK], Or.inr (Or.inl ⟨rfl, rfl⟩)⟩
      · exact ⟨7, by simp [Pl.hearA, Pl.ansK], Or.inr (Or.inr ⟨rfl, rfl⟩)⟩
    refine ⟨rfl, rfl, rfl, by unfold hoForce; rw [if_pos ok2]; simp, X, ?_, hXk⟩
    have htake : ∀ l : List R, l.take ((l.length : Int)).toNat = l := fun l => List.take_of_length_le (by simp)
    rw [hearO_ok ok3 e2 (by rw [htake]; exact e2)]
    exact hearO'_some hb (Pl.may_not d) hX

set_option maxRecDepth 100000 in
set_option maxHeartbeats 16000000 in
theorem lawP34_small (vc : Value) (nc : Nat) (a : Addr) (w : World) (hc : CodeAt w vc nc) (hcn : nc ≤ 1048576) (ha : ErrAt w a) :
    Calls Tryz.prog 5 #[vc] w fun e w' => e = .returned (.bool true) ∧ Below w.heap.size w w' := by
  have HD := hide_it (drawHouseHear_any vc nc w hc hcn)
  have HA : Hid (∀ W, Below w.heap.size w W → ErrAt W a) := fun W hb => ha.later hb (Nat.le_refl _)
  obtain ⟨ac, cc, rfl, _⟩ := hc
  have hci : (nc : Int) ≤ 1048576 := by omega
  clear hcn ha
  go_enter Tryz.func5, Tryz.ntmps5
  go_wp2_with fail
  refine HD.out.mono ?_
  rintro e w1 ⟨id, up, room, o, f, rs, k, h, t, m, rfl, hl9, hR, hfm, hb1⟩
  have hl : tot rs ≤ 1048576 := by omega
  have B1 := hide_it hb1
  have R1 := hide_it hR
  have FM := hide_it hfm
  obtain ⟨ao, co, rfl⟩ := hR.shape
  clear hb1 hR HD hfm
  obtain ⟨⟨⟨ID, UP, ROOM, RS, F⟩, ⟨X1, X2, X3⟩, YB⟩, HO⟩ : ∃ o : He, Hid (hearO id up room rs f k h t m = o) := ⟨_, rfl⟩
  have hRl : tot RS ≤ 1048576 := by have := hearO_tot id up room rs f k h t m hl; rw [HO.out] at this; exact this
  obtain ⟨w2, hw2⟩ : ∃ W, Hid (W = (w1.alloc (.cells #[.int .i64 id, .bool up, .int .i64 room, .slice ao rs.length co, .int .i64 f] 34)).alloc (.cells #[.int .i64 k, .int .i64 h, .int .i64 t, .int .i64 m] 35)) := ⟨_, rfl⟩
  have al2 : Below w1.heap.size w1 w2 := by rw [hw2.out]; exact below2 _ _ _
  have B2 := hide_it (B1.out.trans (al2.mono B1.out.size))
  have R2 := hide_it (R1.out.later al2 (Nat.le_refl _))
  have L2 : Hid (Blk w2 w1.heap.size #[.int .i64 id, .bool up, .int .i64 room, .slice ao rs.length co, .int .i64 f] 34) := by show Blk _ _ _ _; rw [hw2.out]; exact (Blk.new _ _ _).alloc _
  have W2 : Hid (Blk w2 (w1.heap.size + 1) #[.int .i64 k, .int .i64 h, .int .i64 t, .int .i64 m] 35) := by show Blk _ _ _ _; rw [hw2.out]; exact Blk.new2 _ _ _ _
  have SP : Hid (∀ W, Below w2.heap.size w2 W → Calls Tryz.prog 10 #[houseV id up room (.slice ao rs.length co) f, wordV k h t m] W fun e w' => HeOut W w' e ((ID, UP, ROOM, RS, F), (X1, X2, X3), YB)) := fun W hb => by
    have := specHear_any id up room _ rs f k h t m W (R2.out.later hb (Nat.le_refl _)) hl; rw [HO.out] at this; exact this
  have IM : Hid (∀ W, Below w2.heap.size w2 W → Calls Tryz.prog 13 #[houseV id up room (.slice ao rs.length co) f, wordV k h t m] W fun e w' => HeOut W w' e ((ID, UP, ROOM, RS, F), (X1, X2, X3), YB)) := fun W hb => by
    have := implHear_any id up room _ rs f k h t m a W (R2.out.later hb (Nat.le_refl _)) FM.out hl (HA.out _ (B2.out.trans (hb.mono B2.out.size))); rw [HO.out] at this; exact this
  clear al2
  go_wp2_with fail
  rw [← hw2.out]
  refine (SP.out w2 (Below.refl _ _)).mono ?_
  rintro e w3 ⟨a3, c3, rfl, hm3, hb3⟩
  obtain ⟨w4, hw4⟩ : ∃ W, Hid (W = (w3.alloc (.cells #[.int .i64 ID, .bool UP, .int .i64 ROOM, .slice a3 RS.length c3, .int .i64 F] 34)).alloc (.cells #[.int .i64 X1, .int .i64 X2, .int .i64 X3, .int .i64 0] 35)) := ⟨_, rfl⟩
  have al4 : Below w3.heap.size w3 w4 := by rw [hw4.out]; exact below2 _ _ _
  have E3 := hide_it hb3
  have E4 := hide_it (hb3.trans (al4.mono hb3.size))
  have V4 := hide_it (hm3.recs.later al4 (Nat.le_refl _))
  have Z4 : Hid (Blk w4 w3.heap.size #[.int .i64 ID, .bool UP, .int .i64 ROOM, .slice a3 RS.length c3, .int .i64 F] 34) := by show Blk _ _ _ _; rw [hw4.out]; exact (Blk.new _ _ _).alloc _
  have A4 : Hid (Blk w4 (w3.heap.size + 1) #[.int .i64 X1, .int .i64 X2, .int .i64 X3, .int .i64 0] 35) := by show Blk _ _ _ _; rw [hw4.out]; exact Blk.new2 _ _ _ _
  obtain ⟨l0, l1, l2, l3, l4⟩ := (L2.out.after E3.out).cells5
  obtain ⟨v0, v1, v2, v3⟩ := (W2.out.after E3.out).cells4'
  have k0 := fun o p => cellAlloc (cellAlloc l0 o) p
  have k1 := fun o p => cellAlloc (cellAlloc l1 o) p
  have k2 := fun o p => cellAlloc (cellAlloc l2 o) p
  have k3 := fun o p => cellAlloc (cellAlloc l3 o) p
  have k4 := fun o p => cellAlloc (cellAlloc l4 o) p
  have k5 := fun o p => cellAlloc (cellAlloc v0 o) p
  have k6 := fun o p => cellAlloc (cellAlloc v1 o) p
  have k7 := fun o p => cellAlloc (cellAlloc v2 o) p
  have k8 := fun o p => cellAlloc (cellAlloc v3 o) p
  have hll := (L2.out.after E3.out).lt
  have hlv := (W2.out.after E3.out).lt
  clear hm3 hb3 al4
  go_wp2_with fail
  rw [← hw4.out]
  refine (IM.out w4 E4.out).mono ?_
  rintro e w5 ⟨a5, c5, rfl, hm5, hb5⟩
  obtain ⟨w6, hw6⟩ : ∃ W, Hid (W = (w5.alloc (.cells #[.int .i64 ID, .bool UP, .int .i64 ROOM, .slice a5 RS.length c5, .int .i64 F] 34)).alloc (.cells #[.int .i64 X1, .int .i64 X2, .int .i64 X3, .int .i64 0] 35)) := ⟨_, rfl⟩
  have al6 : Below w5.heap.size w5 w6 := by rw [hw6.out]; exact below2 _ _ _
  have e6 : Below w4.heap.size w4 w6 := hb5.trans (al6.mono hb5.size)
  have E6 := hide_it (E4.out.trans (e6.mono E4.out.size))
  have B6 := hide_it (B2.out.trans (E6.out.mono B2.out.size))
  have U6 := hide_it (hm5.recs.later al6 (Nat.le_refl _))
  have V6 := hide_it (V4.out.later e6 (Nat.le_refl _))
  have UF : Hid (Form (.slice a5 RS.length c5) RS.length) := form_made (rs := RS) hm5
  have X6 : Hid (Blk w6 w5.heap.size #[.int .i64 ID, .bool UP, .int .i64 ROOM, .slice a5 RS.length c5, .int .i64 F] 34) := by show Blk _ _ _ _; rw [hw6.out]; exact (Blk.new _ _ _).alloc _
  have D6 : Hid (Blk w6 (w5.heap.size + 1) #[.int .i64 X1, .int .i64 X2, .int .i64 X3, .int .i64 0] 35) := by show Blk _ _ _ _; rw [hw6.out]; exact Blk.new2 _ _ _ _
  have Z6 := hide_it (Z4.out.after e6)
  have A6 := hide_it (A4.out.after e6)
  have L6 := hide_it (L2.out.after E6.out)
  have W6 := hide_it (W2.out.after E6.out)
  clear k0 k1 k2 k3 k4 k5 k6 k7 k8 l0 l1 l2 l3 l4 v0 v1 v2 v3 hll hlv
  obtain ⟨l0, l1, l2, l3, l4⟩ := (Z4.out.after hb5).cells5
  obtain ⟨v0, v1, v2, v3⟩ := (A4.out.after hb5).cells4'
  have k0 := fun o p => cellAlloc (cellAlloc l0 o) p
  have k1 := fun o p => cellAlloc (cellAlloc l1 o) p
  have k2 := fun o p => cellAlloc (cellAlloc l2 o) p
  have k3 := fun o p => cellAlloc (cellAlloc l3 o) p
  have k4 := fun o p => cellAlloc (cellAlloc l4 o) p
  have k5 := fun o p => cellAlloc (cellAlloc v0 o) p
  have k6 := fun o p => cellAlloc (cellAlloc v1 o) p
  have k7 := fun o p => cellAlloc (cellAlloc v2 o) p
  have k8 := fun o p => cellAlloc (cellAlloc v3 o) p
  have hll := (Z4.out.after hb5).lt
  have hlv := (A4.out.after hb5).lt
  clear hm5 hb5 al6 e6
  have KK : Hid (∀ W, Below w6.heap.size w6 W → (W.cell? ⟨w5.heap.size, 0, none⟩ = some (.int .i64 ID) ∧ W.cell? ⟨w5.heap.size, 1, none⟩ = some (.bool UP) ∧ W.cell? ⟨w5.heap.size, 2, none⟩ = some (.int .i64 ROOM) ∧ W.cell? ⟨w5.heap.size, 3, none⟩ = some (.slice a5 RS.length c5) ∧ W.cell? ⟨w5.heap.size, 4, none⟩ = some (.int .i64 F)) ∧ (W.cell? ⟨w3.heap.size, 0, none⟩ = some (.int .i64 ID) ∧ W.cell? ⟨w3.heap.size, 1, none⟩ = some (.bool UP) ∧ W.cell? ⟨w3.heap.size, 2, none⟩ = some (.int .i64 ROOM) ∧ W.cell? ⟨w3.heap.size, 3, none⟩ = some (.slice a3 RS.length c3) ∧ W.cell? ⟨w3.heap.size, 4, none⟩ = some (.int .i64 F)) ∧ (W.cell? ⟨w5.heap.size + 1, 0, none⟩ = some (.int .i64 X1) ∧ W.cell? ⟨w5.heap.size + 1, 1, none⟩ = some (.int .i64 X2) ∧ W.cell? ⟨w5.heap.size + 1, 2, none⟩ = some (.int .i64 X3) ∧ W.cell? ⟨w5.heap.size + 1, 3, none⟩ = some (.int .i64 0)) ∧ (W.cell? ⟨w3.heap.size + 1, 0, none⟩ = some (.int .i64 X1) ∧ W.cell? ⟨w3.heap.size + 1, 1, none⟩ = some (.int .i64 X2) ∧ W.cell? ⟨w3.heap.size + 1, 2, none⟩ = some (.int .i64 X3) ∧ W.cell? ⟨w3.heap.size + 1, 3, none⟩ = some (.int .i64 0)) ∧ (W.cell? ⟨w1.heap.size, 0, none⟩ = some (.int .i64 id) ∧ W.cell? ⟨w1.heap.size, 1, none⟩ = some (.bool up) ∧ W.cell? ⟨w1.heap.size, 2, none⟩ = some (.int .i64 room) ∧ W.cell? ⟨w1.heap.size, 3, none⟩ = some (.slice ao rs.length co) ∧ W.cell? ⟨w1.heap.size, 4, none⟩ = some (.int .i64 f)) ∧ (W.cell? ⟨w1.heap.size + 1, 0, none⟩ = some (.int .i64 k) ∧ W.cell? ⟨w1.heap.size + 1, 1, none⟩ = some (.int .i64 h) ∧ W.cell? ⟨w1.heap.size + 1, 2, none⟩ = some (.int .i64 t) ∧ W.cell? ⟨w1.heap.size + 1, 3, none⟩ = some (.int .i64 m))) := fun W hb =>
    ⟨(X6.out.after hb).cells5, (Z6.out.after hb).cells5, (D6.out.after hb).cells4', (A6.out.after hb).cells4', (L6.out.after hb).cells5, (W6.out.after hb).cells4'⟩
  have hbb : (YB != YB) = false := by simp
  have hbb2 : (YB == YB) = true := by simp
  go_wp2_with fail
  rw [← hw6.out]
  clear k0 k1 k2 k3 k4 k5 k6 k7 k8 l0 l1 l2 l3 l4 v0 v1 v2 v3 hll hlv
  refine (lnHouse_any ID UP ROOM _ _ RS F w6 U6.out V6.out hRl).mono ?_
  rintro e w7 ⟨rfl, hb7⟩
  have E7 : Hid (Below w6.heap.size w6 w7) := hb7
  clear hb7
  obtain ⟨⟨x0, x1, x2, x3, x4⟩, ⟨z0, z1, z2, z3, z4⟩, ⟨d0, d1, d2, d3⟩, ⟨b0, b1, b2, b3⟩, ⟨l0, l1, l2, l3, l4⟩, ⟨v0, v1, v2, v3⟩⟩ := KK.out _ E7.out
  by_cases hlen : RS.length ≤ rs.length
  · have hle : (RS.length : Int) ≤ (rs.length : Int) := by omega
    go_wp2_with fail
    refine (lnHouse_any ID UP ROOM _ _ RS F w7 (U6.out.later E7.out (Nat.le_refl _)) (V6.out.later E7.out (Nat.le_refl _)) hRl).mono ?_
    rintro e w8 ⟨rfl, hb8⟩
    have E8 := hide_it (E7.out.trans (hb8.mono E7.out.size))
    have B8 := hide_it (B6.out.trans (E8.out.mono B6.out.size))
    clear hb8
    clear x0 x1 x2 x3 x4 z0 z1 z2 z3 z4 d0 d1 d2 d3 b0 b1 b2 b3 l0 l1 l2 l3 l4 v0 v1 v2 v3
    obtain ⟨⟨x0, x1, x2, x3, x4⟩, ⟨z0, z1, z2, z3, z4⟩, ⟨d0, d1, d2, d3⟩, ⟨b0, b1, b2, b3⟩, ⟨l0, l1, l2, l3, l4⟩, ⟨v0, v1, v2, v3⟩⟩ := KK.out _ E8.out
    go_wp2
    go_ret
    exact ⟨by simp, B8.out⟩
  have hle : ¬ (RS.length : Int) ≤ (rs.length : Int) := by omega
  obtain ⟨e1, e2, e3, hfo, X, hHA, hk⟩ := hear_again HO.out hlen
  subst e1 e2 e3
  have FRC : Hid (∀ W, Below w6.heap.size w6 W → Calls Tryz.prog 22 #[houseV ID true ROOM (.slice a5 RS.length c5) F] W fun e w' => HoO W w' e (ID, true, ROOM, RS, (RS.length : Int))) := fun W hb => by
    have := implHForce_any ID true ROOM _ RS F a W (U6.out.later hb (Nat.le_refl _)) hRl (HA.out _ (B6.out.trans (hb.mono B6.out.size))); rw [hfo] at this; exact this
  have HEA : Hid (∀ (ax : Option Addr) (cx : Nat) (W : World), Below w6.heap.size w6 W → Recs W (.slice ax RS.length cx) RS → Form (.slice ax RS.length cx) RS.length → Calls Tryz.prog 13 #[houseV ID true ROOM (.slice ax RS.length cx) (RS.length : Int), wordV k h t m] W fun e w' => HeOut W w' e ((ID, true, ROOM, RS, (RS.length : Int)), (X, ID, t), true)) := fun ax cx W hb hr hfm => by
    have := implHear_any ID true ROOM _ RS (RS.length : Int) k h t m a W hr hfm hRl (HA.out _ (B6.out.trans (hb.mono B6.out.size))); rw [hHA] at this; exact this
  clear hfo hHA
  go_wp2_with fail
  refine (FRC.out w7 E7.out).mono ?_
  rintro e w8 ⟨a8, c8, rfl, hm8, hb8⟩
  obtain ⟨w9, hw9⟩ : ∃ W, Hid (W = w8.alloc (.cells #[.int .i64 ID, .bool true, .int .i64 ROOM, .slice a8 RS.length c8, .int .i64 RS.length] 34)) := ⟨_, rfl⟩
  have al9 : Below w8.heap.size w8 w9 := by rw [hw9.out]; exact alloc_below _ _
  have E8 := hide_it (E7.out.trans (hb8.mono E7.out.size))
  have E9 := hide_it (E8.out.trans (al9.mono E8.out.size))
  have Y9 : Hid (Blk w9 w8.heap.size #[.int .i64 ID, .bool true, .int .i64 ROOM, .slice a8 RS.length c8, .int .i64 RS.length] 34) := by show Blk _ _ _ _; rw [hw9.out]; exact Blk.new _ _ _
  have M9 : Hid (Recs w9 (.slice a8 RS.length c8) RS) := hm8.recs.later al9 (Nat.le_refl _)
  have F9 : Hid (Form (.slice a8 RS.length c8) RS.length) := form_made (rs := RS) hm8
  clear hm8 hb8 al9
  clear x0 x1 x2 x3 x4 z0 z1 z2 z3 z4 d0 d1 d2 d3 b0 b1 b2 b3 l0 l1 l2 l3 l4 v0 v1 v2 v3
  obtain ⟨-, -, -, -, ⟨l0, l1, l2, l3, l4⟩, ⟨v0, v1, v2, v3⟩⟩ := KK.out _ E8.out
  have k5 := fun o => cellAlloc v0 o
  have k6 := fun o => cellAlloc v1 o
  have k7 := fun o => cellAlloc v2 o
  have k8 := fun o => cellAlloc v3 o
  have hlv : w1.heap.size + 1 < w8.heap.size := World.block_lt_of_cell? _ _ v0
  go_wp2_with fail
  rw [← hw9.out]
  refine (HEA.out a8 c8 w9 E9.out M9.out F9.out).mono ?_
  rintro e w10 ⟨a10, c10, rfl, hm10, hb10⟩
  obtain ⟨w11, hw11⟩ : ∃ W, Hid (W = (w10.alloc (.cells #[.int .i64 ID, .bool true, .int .i64 ROOM, .slice a10 RS.length c10, .int .i64 RS.length] 34)).alloc (.cells #[.int .i64 X, .int .i64 ID, .int .i64 t, .int .i64 0] 35)) := ⟨_, rfl⟩
  have al11 : Below w10.heap.size w10 w11 := by rw [hw11.out]; exact below2 _ _ _
  have D11 := hide_it (hb10.trans (al11.mono hb10.size))
  have E11 := hide_it (E9.out.trans (D11.out.mono E9.out.size))
  have Z11 : Hid (Blk w11 w10.heap.size #[.int .i64 ID, .bool true, .int .i64 ROOM, .slice a10 RS.length c10, .int .i64 RS.length] 34) := by show Blk _ _ _ _; rw [hw11.out]; exact (Blk.new _ _ _).alloc _
  have Q11 : Hid (Blk w11 (w10.heap.size + 1) #[.int .i64 X, .int .i64 ID, .int .i64 t, .int .i64 0] 35) := by show Blk _ _ _ _; rw [hw11.out]; exact Blk.new2 _ _ _ _
  have M11 : Hid (Recs w11 (.slice a10 RS.length c10) RS) := hm10.recs.later al11 (Nat.le_refl _)
  have N11 := hide_it (M9.out.later D11.out (Nat.le_refl _))
  have Y11 := hide_it (Y9.out.after D11.out)
  have E10 := hide_it (E9.out.trans (hb10.mono E9.out.size))
  clear hm10 hb10 al11 k5 k6 k7 k8 hlv l0 l1 l2 l3 l4 v0 v1 v2 v3
  obtain ⟨-, -, -, -, ⟨l0, l1, l2, l3, l4⟩, ⟨v0, v1, v2, v3⟩⟩ := KK.out _ E10.out
  have k5 := fun o p => cellAlloc (cellAlloc v0 o) p
  have hlv : w1.heap.size + 1 < w10.heap.size := World.block_lt_of_cell? _ _ v0
  have k53 := fun o p q => cellAlloc (cellAlloc (cellAlloc v0 o) p) q
  have k54 := fun o p q => cellAlloc (cellAlloc (cellAlloc l0 o) p) q
  have k55 := fun o p q => cellAlloc (cellAlloc (cellAlloc v2 o) p) q
  obtain ⟨w12, hw12⟩ : ∃ W, Hid (W = w11.alloc (.cells #[.int .i64 0, .int .i64 4, .int .i64 6, .int .i64 7] 3)) := ⟨_, rfl⟩
  have al12 : Below w11.heap.size w11 w12 := by rw [hw12.out]; exact alloc_below _ _
  have M12 := hide_it (M11.out.later al12 (Nat.le_refl _))
  have N12 := hide_it (N11.out.later al12 (Nat.le_refl _))
  have B12 := hide_it (B6.out.trans ((E11.out.trans (al12.mono E11.out.size)).mono B6.out.size))
  clear al12
  obtain ⟨z0, z1, z2, z3, z4⟩ := Z11.out.cells5
  obtain ⟨y0, y1, y2, y3, y4⟩ := Y11.out.cells5
  obtain ⟨q0, q1, q2, q3⟩ := Q11.out.cells4
  rw [hw11.out] at z0 z1 z2 z3 z4 y0 y1 y2 y3 y4 q0 q1 q2 q3
  have z0' := fun q => cellAlloc z0 q
  have z1' := fun q => cellAlloc z1 q
  have z2' := fun q => cellAlloc z2 q
  have z3' := fun q => cellAlloc z3 q
  have z4' := fun q => cellAlloc z4 q
  have y0' := fun q => cellAlloc y0 q
  have y1' := fun q => cellAlloc y1 q
  have y2' := fun q => cellAlloc y2 q
  have y3' := fun q => cellAlloc y3 q
  have y4' := fun q => cellAlloc y4 q
  have q0' := fun q => cellAlloc q0 q
  have q1' := fun q => cellAlloc q1 q
  have q2' := fun q => cellAlloc q2 q
  have q3' := fun q => cellAlloc q3 q
  rcases hk with ⟨rfl, rfl⟩ | ⟨rfl, rfl⟩ | ⟨rfl, rfl⟩
  · go_wp2_with fail
    rw [← hw11.out, ← hw12.out]
    refine (lnHouse_any ID true ROOM _ _ RS (RS.length : Int) w12 M12.out N12.out hRl).mono ?_
    rintro e w13 ⟨rfl, hb13⟩
    have B13 := hide_it (B12.out.trans (hb13.mono B12.out.size))
    clear hb13
    go_wp2
    go_ret
    exact ⟨by simp, B13.out⟩
  · go_wp2_with fail
    rw [← hw11.out, ← hw12.out]
    refine (lnHouse_any ID true ROOM _ _ RS (RS.length : Int) w12 M12.out N12.out hRl).mono ?_
    rintro e w13 ⟨rfl, hb13⟩
    have B13 := hide_it (B12.out.trans (hb13.mono B12.out.size))
    clear hb13
    go_wp2
    go_ret
    exact ⟨by simp, B13.out⟩
  · go_wp2_with fail
    rw [← hw11.out, ← hw12.out]
    refine (lnHouse_any ID true ROOM _ _ RS (RS.length : Int) w12 M12.out N12.out hRl).mono ?_
    rintro e w13 ⟨rfl, hb13⟩
    have B13 := hide_it (B12.out.trans (hb13.mono B12.out.size))
    clear hb13
    go_wp2
    go_ret
    exact ⟨by simp, B13.out⟩

end Go.Proofs.YtcogplmopdckhaaGreatDoor

namespace Go.Proofs.YtcogplmopdckhaaGreatDoor
open Go.ChangeShapes Go.WideShapes Go.ChangeAt Go.WideMaps Go.WideElems Go.RowKit Go.Joins

set_option maxHeartbeats 1000000 in
theorem lawP34_great (ac : Option Addr) (nc cc : Nat) (w : World) (h : 1048576 < (nc : Int)) :
    Calls Tryz.prog 5 #[.slice ac nc cc] w fun e w' => e = .returned (.bool true) ∧ Below w.heap.size w w' := by
  go_enter Tryz.func5, Tryz.ntmps5
  go_wp2
  go_ret
  exact ⟨rfl, Below.refl _ _⟩

theorem lawP34_any (vc : Value) (nc : Nat) (a : Addr) (w : World) (hc : CodeAt w vc nc) (ha : ErrAt w a) :
    Calls Tryz.prog 5 #[vc] w fun e w' => e = .returned (.bool true) ∧ Below w.heap.size w w' := by
  by_cases h1 : nc ≤ 1048576
  · exact lawP34_small vc nc a w hc h1 ha
  · obtain ⟨ac, cc, rfl, _⟩ := hc
    exact lawP34_great ac nc cc w (by omega)

set_option maxRecDepth 100000 in
theorem p34_lifted (os : Os) (started : os.Started) (H : Type) (enc : TypeId × Value → H) :
    ReturnsInHanded {} Tryz.checked os 5 .any (fun w args => (Rows.fnHearAgainSpec.pre enc Tryz.prog Tryz.f5 [] false w args ∧ laidMetH Tryz.prog laidErr w) ∧ sizedMet enc Tryz.prog Tryz.f5 (OpenSpec.ofChange Rows.fnHearAgainSpec) false w args)
      (Rows.fnHearAgainSpec.post enc Tryz.prog Tryz.f5 false true false false) := by
  refine returnsInHanded_of_change_and (C := Tryz.checked) (X := fun w _ => laidMetH Tryz.prog laidErr w) (fun _ _ _ hh h => h.of_heap hh) own started (by kernel_rfl) Tryz.func5
    (ChangeSpec.witness_shaped (enc := enc) (C := Tryz.checked) (os := os) (X := fun w _ => laidMetH Tryz.prog laidErr w) false (World.doorLaid Tryz.prog 28 os) #[.slice none 0 0] 8 rfl (World.shaped_of_RefB (by kernel_rfl) (by kernel_rfl)) (by kernel_rfl) (by kernel_rfl) (by kernel_rfl) (door_met os _)) ?_
  intro W base args ds gs before hval0 hW _ _ hL _
  have hval : ∀ (j : Nat) t v, Tryz.f5.params[j]? = some t → args[j]? = some v → Value.okWide Tryz.prog W .any base t v := hval0
  have hW' := hW
  obtain ⟨p, q, hA0, hV0, rfl, hfz, hnd⟩ := hW
  have hA : DataW.TrodAll enc Tryz.prog W 0 (fun _ => true) true Tryz.f5.params.toList args.toList ds p := hA0
  have hV : DataW.TrodVars enc Tryz.prog W (fun _ => true) ["loop.example/concierge/impl.errNoRec"] gs q := hV0
  rw [Tryz.params5] at hA hval
  obtain ⟨v0, d0, rfl, rfl, h0⟩ := trodAll_one hA
  obtain ⟨a, hErr, hvar⟩ := of_laid hL
  have vr : ∀ {X : World}, X.var? Tryz.prog "loop.example/concierge/impl.errNoRec" = some #[.iface 161 (.pointer (some a))] → ∀ sp : Nat → Bool,
      DataW.TrodVars enc Tryz.prog X sp ["loop.example/concierge/impl.errNoRec"] [tok enc (.iface 161 (.pointer (some a)))] [.cell 0 0] :=
    fun x0 sp => vars_read1 enc gErr gErrType Tryz.underlying124 x0 trivial sp
  obtain ⟨rfl, rfl⟩ := hV.unique (vr hvar _)
  clear hA0 hV0 hval0
  obtain ⟨nc, hC, _⟩ := open_code (hval 0 44 v0 rfl rfl) h0
  refine (lawP34_any v0 nc a W hC hErr).mono fun e W' ⟨he, hb⟩ => ?_
  subst he
  have hlt : ∀ x ∈ p, x.block < W.heap.size := fun x hx => hW'.lt x (by simp [hx])
  refine ⟨_, rfl, _, _, _, [], p, [.cell 0 0], hW', ?_, ?_, ?_, hb.frame _, fun h => by cases h⟩
  · exact trodAll_mk1 (shut_bool Tryz.underlying4 true)
  · exact trodAll_mk1 (Below.trod laidOut (by kernel_rfl) (of_decide_eq_true (by kernel_rfl)) h0 hb hlt)
  · exact vr (var?_below hb gErr (World.block_lt_of_cell? _ _ hErr) hvar) _

theorem p34_said : Rows.FnHearAgainSaid :=
  OpenClaim.holds_of_wide 5 Tryz.f5 rfl rfl rfl rfl rfl rfl rfl ⟨rfl, rfl, rfl, rfl, rfl⟩ rfl rfl rfl rfl rfl (by kernel_rfl) Tryz.func5 (by kernel_rfl)
    (of_decide_eq_true (by kernel_rfl)) (by unfold Func.isWrapper; first | (rw [if_pos (by decide +kernel)]; kernel_rfl) | (rw [if_neg (by decide +kernel)]; exact ⟨rfl, rfl⟩))
    (fun os started H enc _ => p34_lifted os started H enc)

theorem p34_plain (f : FuncId) (fn : Func) (hf : Tryz.pinned.checked.prog.funcNamed "loop.example/concierge/laws.FnHearAgain" = some f) (hfn : Tryz.pinned.checked.prog.funcs[f]? = some fn) :
    true = Tryz.pinned.checked.prog.looks [] ∧ ∀ (j : Nat) t, fn.params[j]? = some t → Tryz.pinned.checked.prog.wantsStandIn t = false := by
  obtain rfl : f = 5 := Option.some.inj ((show Tryz.prog.funcNamed "loop.example/concierge/laws.FnHearAgain" = some 5 by kernel_rfl).symm.trans hf) |>.symm
  obtain rfl : fn = Tryz.f5 := (Option.some.inj (Tryz.func5.symm.trans hfn)).symm
  refine ⟨by kernel_rfl, fun j t ht => ?_⟩
  rw [Tryz.params5] at ht
  obtain rfl : t = 44 := by simpa using Array.mem_of_getElem? ht
  exact (show Tryz.prog.wantsStandIn 44 = false by kernel_rfl)

theorem p34_card : Rows.FnHearAgainCardSaid :=
  Claim7.holds_tied_plain_at .later [] _ _ _ _ p34_said (fun _ h => by cases h) (by kernel_rfl) (fun _ h => by cases h) fnHearAgain_row_tie rfl ⟨rfl, rfl⟩ (by kernel_rfl) rfl p34_plain (by kernel_rfl)
#print axioms p34_card

end Go.Proofs.YtcogplmopdckhaaGreatDoor
