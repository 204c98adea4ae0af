/- FnHearSure answers true whatever the code, and it reads afterwards as it read before: promise 33 at every drawn house and word. The card: the sentinel's variable starts as the program's text lays it. -/
import Derived.Test.YtcogplmopdckhaaGreatDoorBase8

namespace Go.Proofs.YtcogplmopdckhaaGreatDoor
open Go.RowKit

/-- What is told is so by what was forced. -/
theorem hear_sure {id room : Int} {up : Bool} {rs : List R} {f k h t m : Int} {ID ROOM F X1 X2 X3 : Int} {UP : Bool} {RS : List R} (e : hearO id up room rs f k h t m = ((ID, UP, ROOM, RS, F), (X1, X2, X3), true)) :
    ID = id ∧ UP = up ∧ ROOM = room ∧ RS = rs ∧ F = f ∧ hoOk id room rs f = true ∧ (1 ≤ t ∧ t ≤ 6) ∧ X2 = id ∧ X3 = t ∧ ∃ hf, Pl.sOf room (rs.take f.toNat) = some hf ∧ hf.length = 6 ∧ ((X1 = 4 ∧ ((Pl.hAt hf t).2 = 1 ∨ (Pl.hAt hf t).2 = 2)) ∨ (X1 = 6 ∧ (Pl.hAt hf t).2 = 2) ∨ (X1 = 7 ∧ (Pl.hAt hf t).2 = 3) ∨ (X1 = 5 ∧ k = 1)) := by
  cases hok : hoOk id room rs f
  · rw [hearO_no hok] at e; simp at e
  obtain ⟨hs, hf, eA, eF, h12, lf0, lf1, hlog⟩ := hear_ready hok
  rw [hearO_ok hok eA eF] at e
  cases hb : Pl.hearB id up k h t m
  · rw [hearO'_not hb] at e; simp at e
  cases hm : Pl.sMay room hs k t (Pl.zsW k m)
  · cases ha : Pl.hearA k (Pl.hAt hs t).2 (Pl.hAt hf t).2 with
    | none => rw [hearO'_none hb hm ha] at e; simp at e
    | some x =>
      rw [hearO'_some hb hm ha] at e
      simp only [Prod.mk.injEq, and_true] at e
      obtain ⟨⟨e1, e2, e3, e4, e5⟩, e6, e7, e8⟩ := e
      obtain ⟨_, _, hk, ht, _⟩ := Pl.hearB_parts hb
      refine ⟨e1.symm, e2.symm, e3.symm, e4.symm, e5.symm, rfl, ht, e7.symm, e8.symm, hf, eF, (Pl.sOf_ok eF).2, ?_⟩
      subst e6
      unfold Pl.hearA at ha
      by_cases c : k = 1 ∧ (Pl.hAt hs t).2 = 0
      · rw [if_pos c] at ha
        simp only [Option.some.injEq] at ha
        exact Or.inr (Or.inr (Or.inr ⟨ha.symm, c.1⟩))
      · rw [if_neg c] at ha
        unfold Pl.ansK at ha
        rcases hk with rfl | rfl | rfl
        · simp only [if_true] at ha
          by_cases c1 : (Pl.hAt hf t).2 = 1 ∨ (Pl.hAt hf t).2 = 2
          · rw [if_pos c1] at ha
            simp only [Option.some.injEq] at ha
            exact Or.inl ⟨ha.symm, c1⟩
          · rw [if_neg c1] at ha
            by_cases c3 : (Pl.hAt hf t).2 = 3
            · rw [if_pos c3] at ha
              simp only [Option.some.injEq] at ha
              exact Or.inr (Or.inr (Or.inr ⟨ha.symm, rfl⟩))
            · rw [if_neg c3] at ha; cases ha
        · simp only [show ¬ (2 : Int) = 1 by decide, if_false, if_true] at ha
          by_cases c2 : (Pl.hAt hf t).2 = 2
          · rw [if_pos c2] at ha
            simp only [Option.some.injEq] at ha
            exact Or.inr (Or.inl ⟨ha.symm, c2⟩)
          · rw [if_neg c2] at ha; cases ha
        · simp only [show ¬ (3 : Int) = 1 by decide, show ¬ (3 : Int) = 2 by decide, if_false] at ha
          by_cases c3 : (Pl.hAt hf t).2 = 3
          · rw [if_pos c3] at ha
            simp only [Option.some.injEq] at ha
            exact Or.inr (Or.inr (Or.inl ⟨ha.symm, c3⟩))
          · rw [if_neg c3] at ha; cases ha
  · rw [hearO'_may hb hm] at e; simp at e

theorem at_lt6' {t : Int} (ht : 1 ≤ t ∧ t ≤ 6) : Pl.at_ t < 6 := by unfold Pl.at_; omega
/-- What lies at a trip's place. -/
theorem hold_at {W : World} {au : Option Addr} {n cu : Nat} {hs : List Pl.H} {t : Int} (h : Holds W (.slice au n cu) hs) (h6 : hs.length = 6) (ht : 1 ≤ t ∧ t ≤ 6) :
    ∃ b off, au = some ⟨b, off, none⟩ ∧ (W.cell? ⟨b, off + Pl.at_ t * 2, none⟩ = some (.int .i64 (Pl.hAt hs t).1) ∧ W.cell? ⟨b, off + Pl.at_ t * 2 + 1, none⟩ = some (.int .i64 (Pl.hAt hs t).2)) := by
  rcases h with ⟨h0, _⟩ | ⟨b', off, cap', hv, _, hc⟩
  · rw [h0] at h6; simp at h6
  · simp only [Value.slice.injEq] at hv
    exact ⟨b', off, hv.1, hc _ (by rw [h6]; exact at_lt6' ht)⟩
theorem fall0 {id room : Int} {rs : List R} {f : Int} (hok : hoOk id room rs f = true) :
    hoFall id room rs f 0 = (id, false, room, rs.take f.toNat, (f.toNat : Int)) ∧ hoOk id room (rs.take f.toNat) (f.toNat : Int) = true ∧ hsO id room (rs.take f.toNat) (f.toNat : Int) false = Pl.sOf room (rs.take f.toNat) := by
  obtain ⟨hs, hf, eA, eF, h12, lf0, lf1, hlog⟩ := hear_ready hok
  obtain ⟨h1, _, _⟩ := hoOk_parts hok
  have hl : (rs.take f.toNat).length = f.toNat := by rw [List.length_take]; omega
  have hlog2 : logOk (rs.take f.toNat) (f.toNat : Int) = true := by
    have h40 := logOk_f hlog
    simp only [logOk, Bool.and_eq_true] at hlog ⊢
    refine ⟨?_, ?_, ?_⟩
    · rw [List.all_eq_true] at hlog ⊢
      exact fun x hx => hlog.1 x (List.mem_of_mem_take hx)
    · rw [hl]
      have := hlog.2.1
      simp at this ⊢
      omega
    · rw [hl]
      exact Pl.inB_mk (by omega) (by omega)
  have ok2 : hoOk id room (rs.take f.toNat) (f.toNat : Int) = true := by rw [hoOk_of h1 hlog2, eF]; rfl
  have hfn : fallN rs.length f 0 = f.toNat := by unfold fallN; simp
  refine ⟨by unfold hoFall; rw [if_pos hok, hfn], ok2, ?_⟩
  unfold hsO
  rw [if_pos ok2]
  rfl

set_option maxRecDepth 100000 in
set_option maxHeartbeats 16000000 in
theorem lawP33_small (vc : Value) (nc : Nat) (a : Addr) (w : World) (hc : CodeAt w vc nc) (hcn : nc ≤ 1048576) (ha : ErrAt w a) :
    Calls Tryz.prog 4 #[vc] w fun e w' => e = .returned (.bool true) ∧ Below w.heap.size w w' := by
  have HD := hide_it (drawHouseHear_any vc nc w hc hcn)
  have HA : Hid (∀ W, Below w.heap.size w W → ErrAt W a) := fun W hb => ha.later hb (Nat.le_refl _)
  obtain ⟨ac, cc, rfl, _⟩ := hc
  have hci : (nc : Int) ≤ 1048576 := by omega
  clear hcn ha
  go_enter Tryz.func4, Tryz.ntmps4
  go_wp2_with fail
  refine HD.out.mono ?_
  rintro e w1 ⟨id, up, room, o, f, rs, k, h, t, m, rfl, hl9, hR, hfm, hb1⟩
  have hl : tot rs ≤ 1048576 := by omega
  have B1 := hide_it hb1
  have R1 := hide_it hR
  have FM := hide_it hfm
  obtain ⟨ao, co, rfl⟩ := hR.shape
  clear hb1 hR HD hfm
  obtain ⟨⟨⟨ID, UP, ROOM, RS, F⟩, ⟨X1, X2, X3⟩, YB⟩, HO⟩ : ∃ o : He, Hid (hearO id up room rs f k h t m = o) := ⟨_, rfl⟩
  have hRl : tot RS ≤ 1048576 := by have := hearO_tot id up room rs f k h t m hl; rw [HO.out] at this; exact this
  obtain ⟨w2, hw2⟩ : ∃ W, Hid (W = (w1.alloc (.cells #[.int .i64 id, .bool up, .int .i64 room, .slice ao rs.length co, .int .i64 f] 34)).alloc (.cells #[.int .i64 k, .int .i64 h, .int .i64 t, .int .i64 m] 35)) := ⟨_, rfl⟩
  have al2 : Below w1.heap.size w1 w2 := by rw [hw2.out]; exact below2 _ _ _
  have B2 := hide_it (B1.out.trans (al2.mono B1.out.size))
  have R2 := hide_it (R1.out.later al2 (Nat.le_refl _))
  have L2 : Hid (Blk w2 w1.heap.size #[.int .i64 id, .bool up, .int .i64 room, .slice ao rs.length co, .int .i64 f] 34) := by show Blk _ _ _ _; rw [hw2.out]; exact (Blk.new _ _ _).alloc _
  have W2 : Hid (Blk w2 (w1.heap.size + 1) #[.int .i64 k, .int .i64 h, .int .i64 t, .int .i64 m] 35) := by show Blk _ _ _ _; rw [hw2.out]; exact Blk.new2 _ _ _ _
  have SP : Hid (∀ W, Below w2.heap.size w2 W → Calls Tryz.prog 10 #[houseV id up room (.slice ao rs.length co) f, wordV k h t m] W fun e w' => HeOut W w' e ((ID, UP, ROOM, RS, F), (X1, X2, X3), YB)) := fun W hb => by
    have := specHear_any id up room _ rs f k h t m W (R2.out.later hb (Nat.le_refl _)) hl; rw [HO.out] at this; exact this
  have IM : Hid (∀ W, Below w2.heap.size w2 W → Calls Tryz.prog 13 #[houseV id up room (.slice ao rs.length co) f, wordV k h t m] W fun e w' => HeOut W w' e ((ID, UP, ROOM, RS, F), (X1, X2, X3), YB)) := fun W hb => by
    have := implHear_any id up room _ rs f k h t m a W (R2.out.later hb (Nat.le_refl _)) FM.out hl (HA.out _ (B2.out.trans (hb.mono B2.out.size))); rw [HO.out] at this; exact this
  clear al2
  go_wp2_with fail
  rw [← hw2.out]
  refine (SP.out w2 (Below.refl _ _)).mono ?_
  rintro e w3 ⟨a3, c3, rfl, hm3, hb3⟩
  obtain ⟨w4, hw4⟩ : ∃ W, Hid (W = (w3.alloc (.cells #[.int .i64 ID, .bool UP, .int .i64 ROOM, .slice a3 RS.length c3, .int .i64 F] 34)).alloc (.cells #[.int .i64 X1, .int .i64 X2, .int .i64 X3, .int .i64 0] 35)) := ⟨_, rfl⟩
  have al4 : Below w3.heap.size w3 w4 := by rw [hw4.out]; exact below2 _ _ _
  have E3 := hide_it hb3
  have E4 := hide_it (hb3.trans (al4.mono hb3.size))
  have V4 := hide_it (hm3.recs.later al4 (Nat.le_refl _))
  have Z4 : Hid (Blk w4 w3.heap.size #[.int .i64 ID, .bool UP, .int .i64 ROOM, .slice a3 RS.length c3, .int .i64 F] 34) := by show Blk _ _ _ _; rw [hw4.out]; exact (Blk.new _ _ _).alloc _
  have A4 : Hid (Blk w4 (w3.heap.size + 1) #[.int .i64 X1, .int .i64 X2, .int .i64 X3, .int .i64 0] 35) := by show Blk _ _ _ _; rw [hw4.out]; exact Blk.new2 _ _ _ _
  obtain ⟨l0, l1, l2, l3, l4⟩ := (L2.out.after E3.out).cells5
  obtain ⟨v0, v1, v2, v3⟩ := (W2.out.after E3.out).cells4'
  have k0 := fun o p => cellAlloc (cellAlloc l0 o) p
  have k1 := fun o p => cellAlloc (cellAlloc l1 o) p
  have k2 := fun o p => cellAlloc (cellAlloc l2 o) p
  have k3 := fun o p => cellAlloc (cellAlloc l3 o) p
  have k4 := fun o p => cellAlloc (cellAlloc l4 o) p
  have k5 := fun o p => cellAlloc (cellAlloc v0 o) p
  have k6 := fun o p => cellAlloc (cellAlloc v1 o) p
  have k7 := fun o p => cellAlloc (cellAlloc v2 o) p
  have k8 := fun o p => cellAlloc (cellAlloc v3 o) p
  have hll := (L2.out.after E3.out).lt
  have hlv := (W2.out.after E3.out).lt
  clear hm3 hb3 al4
  go_wp2_with fail
  rw [← hw4.out]
  refine (IM.out w4 E4.out).mono ?_
  rintro e w5 ⟨a5, c5, rfl, hm5, hb5⟩
  obtain ⟨w6, hw6⟩ : ∃ W, Hid (W = (w5.alloc (.cells #[.int .i64 ID, .bool UP, .int .i64 ROOM, .slice a5 RS.length c5, .int .i64 F] 34)).alloc (.cells #[.int .i64 X1, .int .i64 X2, .int .i64 X3, .int .i64 0] 35)) := ⟨_, rfl⟩
  have al6 : Below w5.heap.size w5 w6 := by rw [hw6.out]; exact below2 _ _ _
  have e6 : Below w4.heap.size w4 w6 := hb5.trans (al6.mono hb5.size)
  have E6 := hide_it (E4.out.trans (e6.mono E4.out.size))
  have B6 := hide_it (B2.out.trans (E6.out.mono B2.out.size))
  have U6 := hide_it (hm5.recs.later al6 (Nat.le_refl _))
  have V6 := hide_it (V4.out.later e6 (Nat.le_refl _))
  have UF : Hid (Form (.slice a5 RS.length c5) RS.length) := form_made (rs := RS) hm5
  have X6 : Hid (Blk w6 w5.heap.size #[.int .i64 ID, .bool UP, .int .i64 ROOM, .slice a5 RS.length c5, .int .i64 F] 34) := by show Blk _ _ _ _; rw [hw6.out]; exact (Blk.new _ _ _).alloc _
  have D6 : Hid (Blk w6 (w5.heap.size + 1) #[.int .i64 X1, .int .i64 X2, .int .i64 X3, .int .i64 0] 35) := by show Blk _ _ _ _; rw [hw6.out]; exact Blk.new2 _ _ _ _
  have Z6 := hide_it (Z4.out.after e6)
  have A6 := hide_it (A4.out.after e6)
  have L6 := hide_it (L2.out.after E6.out)
  have W6 := hide_it (W2.out.after E6.out)
  clear k0 k1 k2 k3 k4 k5 k6 k7 k8 l0 l1 l2 l3 l4 v0 v1 v2 v3 hll hlv
  obtain ⟨l0, l1, l2, l3, l4⟩ := (Z4.out.after hb5).cells5
  obtain ⟨v0, v1, v2, v3⟩ := (A4.out.after hb5).cells4'
  have k0 := fun o p => cellAlloc (cellAlloc l0 o) p
  have k1 := fun o p => cellAlloc (cellAlloc l1 o) p
  have k2 := fun o p => cellAlloc (cellAlloc l2 o) p
  have k3 := fun o p => cellAlloc (cellAlloc l3 o) p
  have k4 := fun o p => cellAlloc (cellAlloc l4 o) p
  have k5 := fun o p => cellAlloc (cellAlloc v0 o) p
  have k6 := fun o p => cellAlloc (cellAlloc v1 o) p
  have k7 := fun o p => cellAlloc (cellAlloc v2 o) p
  have k8 := fun o p => cellAlloc (cellAlloc v3 o) p
  have hll := (Z4.out.after hb5).lt
  have hlv := (A4.out.after hb5).lt
  clear hm5 hb5 al6 e6
  have KK : Hid (∀ W, Below w6.heap.size w6 W → (W.cell? ⟨w5.heap.size, 0, none⟩ = some (.int .i64 ID) ∧ W.cell? ⟨w5.heap.size, 1, none⟩ = some (.bool UP) ∧ W.cell? ⟨w5.heap.size, 2, none⟩ = some (.int .i64 ROOM) ∧ W.cell? ⟨w5.heap.size, 3, none⟩ = some (.slice a5 RS.length c5) ∧ W.cell? ⟨w5.heap.size, 4, none⟩ = some (.int .i64 F)) ∧ (W.cell? ⟨w3.heap.size, 0, none⟩ = some (.int .i64 ID) ∧ W.cell? ⟨w3.heap.size, 1, none⟩ = some (.bool UP) ∧ W.cell? ⟨w3.heap.size, 2, none⟩ = some (.int .i64 ROOM) ∧ W.cell? ⟨w3.heap.size, 3, none⟩ = some (.slice a3 RS.length c3) ∧ W.cell? ⟨w3.heap.size, 4, none⟩ = some (.int .i64 F)) ∧ (W.cell? ⟨w5.heap.size + 1, 0, none⟩ = some (.int .i64 X1) ∧ W.cell? ⟨w5.heap.size + 1, 1, none⟩ = some (.int .i64 X2) ∧ W.cell? ⟨w5.heap.size + 1, 2, none⟩ = some (.int .i64 X3) ∧ W.cell? ⟨w5.heap.size + 1, 3, none⟩ = some (.int .i64 0)) ∧ (W.cell? ⟨w3.heap.size + 1, 0, none⟩ = some (.int .i64 X1) ∧ W.cell? ⟨w3.heap.size + 1, 1, none⟩ = some (.int .i64 X2) ∧ W.cell? ⟨w3.heap.size + 1, 2, none⟩ = some (.int .i64 X3) ∧ W.cell? ⟨w3.heap.size + 1, 3, none⟩ = some (.int .i64 0)) ∧ (W.cell? ⟨w1.heap.size, 0, none⟩ = some (.int .i64 id) ∧ W.cell? ⟨w1.heap.size, 1, none⟩ = some (.bool up) ∧ W.cell? ⟨w1.heap.size, 2, none⟩ = some (.int .i64 room) ∧ W.cell? ⟨w1.heap.size, 3, none⟩ = some (.slice ao rs.length co) ∧ W.cell? ⟨w1.heap.size, 4, none⟩ = some (.int .i64 f)) ∧ (W.cell? ⟨w1.heap.size + 1, 0, none⟩ = some (.int .i64 k) ∧ W.cell? ⟨w1.heap.size + 1, 1, none⟩ = some (.int .i64 h) ∧ W.cell? ⟨w1.heap.size + 1, 2, none⟩ = some (.int .i64 t) ∧ W.cell? ⟨w1.heap.size + 1, 3, none⟩ = some (.int .i64 m))) := fun W hb =>
    ⟨(X6.out.after hb).cells5, (Z6.out.after hb).cells5, (D6.out.after hb).cells4', (A6.out.after hb).cells4', (L6.out.after hb).cells5, (W6.out.after hb).cells4'⟩
  have hbb : (YB != YB) = false := by simp
  have hbb2 : (YB == YB) = true := by simp
  go_wp2_with fail
  rw [← hw6.out]
  clear k0 k1 k2 k3 k4 k5 k6 k7 k8 l0 l1 l2 l3 l4 v0 v1 v2 v3 hll hlv
  refine (lnHouse_any ID UP ROOM _ _ RS F w6 U6.out V6.out hRl).mono ?_
  rintro e w7 ⟨rfl, hb7⟩
  have E7 : Hid (Below w6.heap.size w6 w7) := hb7
  clear hb7
  obtain ⟨⟨x0, x1, x2, x3, x4⟩, ⟨z0, z1, z2, z3, z4⟩, ⟨d0, d1, d2, d3⟩, ⟨b0, b1, b2, b3⟩, ⟨l0, l1, l2, l3, l4⟩, ⟨v0, v1, v2, v3⟩⟩ := KK.out _ E7.out
  cases YB
  · go_wp2_with fail
    refine (lnHouse_any ID UP ROOM _ _ RS F w7 (U6.out.later E7.out (Nat.le_refl _)) (V6.out.later E7.out (Nat.le_refl _)) hRl).mono ?_
    rintro e w8 ⟨rfl, hb8⟩
    have E8 := hide_it (E7.out.trans (hb8.mono E7.out.size))
    have B8 := hide_it (B6.out.trans (E8.out.mono B6.out.size))
    clear hb8
    clear x0 x1 x2 x3 x4 z0 z1 z2 z3 z4 d0 d1 d2 d3 b0 b1 b2 b3 l0 l1 l2 l3 l4 v0 v1 v2 v3
    obtain ⟨⟨x0, x1, x2, x3, x4⟩, ⟨z0, z1, z2, z3, z4⟩, ⟨d0, d1, d2, d3⟩, ⟨b0, b1, b2, b3⟩, ⟨l0, l1, l2, l3, l4⟩, ⟨v0, v1, v2, v3⟩⟩ := KK.out _ E8.out
    go_wp2
    go_ret
    exact ⟨by simp, B8.out⟩
  obtain ⟨e1, e2, e3, e4, e5, hok, ht, e7, e8, hf, eF, h6, hans⟩ := hear_sure HO.out
  subst e1 e2 e3 e4 e5
  obtain ⟨fa1, fa2, fa3⟩ := fall0 hok
  have htk : tot (RS.take F.toNat) ≤ 1048576 := Nat.le_trans (pre_take RS _ (by have := (logOk_f (hoOk_parts hok).2.1); omega)) hRl
  obtain ⟨RT, hRT⟩ : ∃ q, RS.take F.toNat = q := ⟨_, rfl⟩
  obtain ⟨FN, hFN⟩ : ∃ q, ((F.toNat : Nat) : Int) = q := ⟨_, rfl⟩
  rw [hRT] at fa1 fa2 fa3 htk eF
  rw [hFN] at fa1 fa2 fa3
  clear hRT hFN
  have FAL : Hid (∀ W, Below w6.heap.size w6 W → Calls Tryz.prog 21 #[houseV ID UP ROOM (.slice a5 RS.length c5) F, .int .i64 0] W fun e w' => HoO W w' e (ID, false, ROOM, RT, FN)) := fun W hb => by
    have := implHFall_any ID UP ROOM _ RS F 0 a W (U6.out.later hb (Nat.le_refl _)) hRl UF.out (HA.out _ (B6.out.trans (hb.mono B6.out.size))); rw [fa1] at this; exact this
  have STK : Hid (∀ (ax : Option Addr) (cx : Nat) (W : World), Below w6.heap.size w6 W → Recs W (.slice ax RT.length cx) RT → Form (.slice ax RT.length cx) RT.length → Calls Tryz.prog 20 #[houseV ID false ROOM (.slice ax RT.length cx) FN, .bool false] W fun e w' => SkOut W w' e ROOM hf) := fun ax cx W hb hr hfm => by
    have := implHStock_any ID false ROOM _ RT FN false a W hr hfm htk (HA.out _ (B6.out.trans (hb.mono B6.out.size)))
    rw [fa3, eF] at this; exact this
  obtain ⟨N, hN⟩ : ∃ N, Hid (Pl.at_ t = N) := ⟨_, rfl⟩
  obtain rfl : t = (N : Int) + 1 := by rw [← hN.out]; unfold Pl.at_; omega
  have hN6 : N < 6 := by omega
  have hNi : (N : Int) < 6 := by omega
  have hN0 : (0 : Int) ≤ (N : Int) := by omega
  have H6 := hide_it h6
  have hNl : (N : Int) < (hf.length : Int) := by omega
  obtain ⟨M1, S1, hMS⟩ : ∃ m s, Hid (Pl.hAt hf ((N : Int) + 1) = (m, s)) := ⟨_, _, rfl⟩
  rw [hMS.out] at hans
  have hwr : IntKind.i64.wrap ((N : Int) + 1 - 1) = (N : Int) := by simp [IntKind.wrap, IntKind.bits, IntKind.signed]; omega
  have hwi : IntKind.i64.wrap (N : Int) = (N : Int) := by simp [IntKind.wrap, IntKind.bits, IntKind.signed]; omega
  clear fa1 fa2 fa3 eF hok ht h6
  have KP : Hid (∀ W, Below w6.heap.size w6 W → (W.cell? ⟨w5.heap.size, 0, none⟩ = some (.int .i64 ID) ∧ W.cell? ⟨w5.heap.size, 1, none⟩ = some (.bool UP) ∧ W.cell? ⟨w5.heap.size, 2, none⟩ = some (.int .i64 ROOM) ∧ W.cell? ⟨w5.heap.size, 3, none⟩ = some (.slice a5 RS.length c5) ∧ W.cell? ⟨w5.heap.size, 4, none⟩ = some (.int .i64 F)) ∧ W.cell? ⟨w1.heap.size + 1, 2, none⟩ = some (.int .i64 ((N : Int) + 1))) := fun W hb => by
    obtain ⟨h1, -, -, -, -, -, -, h2, -⟩ := KK.out W hb
    exact ⟨h1, h2⟩
  have hfs := field_stock
  go_wp2_with fail
  refine wp_region_held_drew (S := fun w' => (w'.cell? ⟨w5.heap.size, 0, none⟩ = some (.int .i64 ID) ∧ w'.cell? ⟨w5.heap.size, 1, none⟩ = some (.bool UP) ∧ w'.cell? ⟨w5.heap.size, 2, none⟩ = some (.int .i64 ROOM) ∧ w'.cell? ⟨w5.heap.size, 3, none⟩ = some (.slice a5 RS.length c5) ∧ w'.cell? ⟨w5.heap.size, 4, none⟩ = some (.int .i64 F)) ∧ w'.cell? ⟨w1.heap.size + 1, 2, none⟩ = some (.int .i64 ((N : Int) + 1))) (by kernel_rfl) (KP.out w7 E7.out) (fun hHeld => ?_)
  refine takeD (i := 0) (v := ?_) (some 65) rfl rfl (by kernel_rfl) (by kernel_rfl) (by kernel_rfl) (fun _ _ _ h => h) (by rfl) hHeld ?_ ?_
  rotate_left
  · intro W hSw
    try dsimp only at hSw
    go_simp
    try with_reducible rfl
  try simp only [Act.put]
  try simp only [List.setIfInBounds_toArray]
  try simp only [List.set_cons_succ]
  try simp only [List.set_cons_zero]
  refine takeD (i := 4) (v := ?_) (some 69) rfl rfl (by kernel_rfl) (by kernel_rfl) (by kernel_rfl) (fun _ _ _ h => h) (by rfl) hHeld ?_ ?_
  rotate_left
  · intro W hSw
    try dsimp only at hSw
    go_simp
    try with_reducible rfl
  try simp only [Act.put]
  try simp only [List.setIfInBounds_toArray]
  try simp only [List.set_cons_succ]
  try simp only [List.set_cons_zero]
  refine takeD (i := 5) (v := ?_) (some 70) rfl rfl (by kernel_rfl) (by kernel_rfl) (by kernel_rfl) (fun _ _ _ h => h) (by rfl) hHeld ?_ ?_
  rotate_left
  · intro W hSw
    try dsimp only at hSw
    go_simp
    try with_reducible rfl
  try simp only [Act.put]
  try simp only [List.setIfInBounds_toArray]
  try simp only [List.set_cons_succ]
  try simp only [List.set_cons_zero]
  refine takeD (i := 6) (v := ?_) (some 71) rfl rfl (by kernel_rfl) (by kernel_rfl) (by kernel_rfl) (fun _ _ _ h => h) (by rfl) hHeld ?_ ?_
  rotate_left
  · intro W hSw
    try dsimp only at hSw
    go_simp
    try with_reducible rfl
  try simp only [Act.put]
  try simp only [List.setIfInBounds_toArray]
  try simp only [List.set_cons_succ]
  try simp only [List.set_cons_zero]
  refine wpAnyH_ready (rs := [1]) (by kernel_rfl) (by simp) ?_
  refine AllReadyH.cons rfl (fun K hK => ?_) AllReadyH.nil
  go_simp
  refine (FAL.out _ E7.out.drew).mono ?_
  rintro e w8 ⟨a8, c8, rfl, hm8, hb8⟩
  have E8 := hide_it (E7.out.drew.trans (hb8.mono E7.out.drew.size))
  have R8 := hide_it hm8.recs
  have F8 : Hid (Form (.slice a8 RT.length c8) RT.length) := form_made (rs := RT) hm8
  clear hm8 hb8
  try dsimp only
  refine hK.out _ _ (KP.out _ E8.out) (fun hHeld => ?_)
  clear hK K
  refine wpAnyH_ready (rs := [2]) (by kernel_rfl) (by simp) ?_
  refine AllReadyH.cons rfl (fun K hK => ?_) AllReadyH.nil
  go_simp
  refine (STK.out a8 c8 _ E8.out R8.out F8.out).mono ?_
  rintro e w9 ⟨a9, c9, rfl, ho9, hb9⟩
  have E9 := hide_it (E8.out.trans (hb9.mono E8.out.size))
  have V9 := hide_it (holds_of_row ho9)
  obtain ⟨gb, off, hab, hc0, hc1⟩ := hold_at V9.out H6.out (show 1 ≤ (N : Int) + 1 ∧ (N : Int) + 1 ≤ 6 by omega)
  subst hab
  rw [hN.out, hMS.out] at hc0 hc1
  have hc1 : w9.cell? ⟨gb, off + N * 2 + 1, none⟩ = some (.int .i64 S1) := hc1
  clear ho9 hb9
  try dsimp only
  refine hK.out _ _ (KP.out _ E9.out) (fun hHeld => ?_)
  clear hK K
  refine heldMono (S2 := fun w' => ((w'.cell? ⟨w5.heap.size, 0, none⟩ = some (.int .i64 ID) ∧ w'.cell? ⟨w5.heap.size, 1, none⟩ = some (.bool UP) ∧ w'.cell? ⟨w5.heap.size, 2, none⟩ = some (.int .i64 ROOM) ∧ w'.cell? ⟨w5.heap.size, 3, none⟩ = some (.slice a5 RS.length c5) ∧ w'.cell? ⟨w5.heap.size, 4, none⟩ = some (.int .i64 F)) ∧ w'.cell? ⟨w1.heap.size + 1, 2, none⟩ = some (.int .i64 ((N : Int) + 1))) ∧ w'.cell? ⟨gb, off + N * 2 + 1, none⟩ = some (.int .i64 S1)) (fun _ h => h.1) _ _ _ _ ?_
  have hHeld := And.intro hHeld hc1
  refine takeD (i := 3) (v := ?_) (some 68) rfl rfl (by kernel_rfl) (by kernel_rfl) (by kernel_rfl) (fun _ _ _ h => h) (by rfl) hHeld ?_ ?_
  rotate_left
  · intro W hSw
    try dsimp only at hSw
    go_simp
    try with_reducible rfl
  try simp only [Act.put]
  try simp only [List.setIfInBounds_toArray]
  try simp only [List.set_cons_succ]
  try simp only [List.set_cons_zero]
  refine takeD (i := 7) (v := ?_) (some 72) rfl rfl (by kernel_rfl) (by kernel_rfl) (by kernel_rfl) (fun _ _ _ h => h) (by rfl) hHeld ?_ ?_
  rotate_left
  · intro W hSw
    try dsimp only at hSw
    go_simp
    try with_reducible rfl
  try simp only [Act.put]
  try simp only [List.setIfInBounds_toArray]
  try simp only [List.set_cons_succ]
  try simp only [List.set_cons_zero]
  refine takeD (i := 8) (v := ?_) (some 73) rfl rfl (by kernel_rfl) (by kernel_rfl) (by kernel_rfl) (fun _ _ _ h => h) (by rfl) hHeld ?_ ?_
  rotate_left
  · intro W hSw
    try dsimp only at hSw
    go_simp
    try with_reducible rfl
  try simp only [Act.put]
  try simp only [List.setIfInBounds_toArray]
  try simp only [List.set_cons_succ]
  try simp only [List.set_cons_zero]
  refine takeD (i := 9) (v := ?_) (some 74) rfl rfl (by kernel_rfl) (by kernel_rfl) (by kernel_rfl) (fun _ _ _ h => h) (by rfl) hHeld ?_ ?_
  rotate_left
  · intro W hSw
    try dsimp only at hSw
    go_simp
    try with_reducible rfl
  try simp only [Act.put]
  try simp only [List.setIfInBounds_toArray]
  try simp only [List.set_cons_succ]
  try simp only [List.set_cons_zero]
  refine takeD (i := 10) (v := ?_) (some 11) rfl rfl (by kernel_rfl) (by kernel_rfl) (by kernel_rfl) (fun _ _ _ h => h) (by rfl) hHeld ?_ ?_
  rotate_left
  · intro W hSw
    try dsimp only at hSw
    go_simp
    try with_reducible rfl
  try simp only [Act.put]
  try simp only [List.setIfInBounds_toArray]
  try simp only [List.set_cons_succ]
  try simp only [List.set_cons_zero]
  refine wpAnyH_done (by kernel_rfl) ?_ _
  have B9 := hide_it (B6.out.trans (E9.out.mono B6.out.size))
  clear x0 x1 x2 x3 x4 z0 z1 z2 z3 z4 d0 d1 d2 d3 b0 b1 b2 b3 l0 l1 l2 l3 l4 v0 v1 v2 v3
  obtain ⟨⟨x0, x1, x2, x3, x4⟩, ⟨z0, z1, z2, z3, z4⟩, ⟨d0, d1, d2, d3⟩, ⟨b0, b1, b2, b3⟩, ⟨l0, l1, l2, l3, l4⟩, ⟨v0, v1, v2, v3⟩⟩ := KK.out _ E9.out
  rcases hans with ⟨rfl, h12 | h12⟩ | ⟨rfl, h12⟩ | ⟨rfl, h12⟩ | ⟨rfl, rfl⟩
  · subst h12
    go_wp2
    go_ret
    exact ⟨rfl, B9.out⟩
  · subst h12
    go_wp2
    go_ret
    exact ⟨rfl, B9.out⟩
  · subst h12
    go_wp2
    go_ret
    exact ⟨rfl, B9.out⟩
  · subst h12
    go_wp2
    go_ret
    exact ⟨rfl, B9.out⟩
  · go_wp2
    go_ret
    exact ⟨rfl, B9.out⟩

end Go.Proofs.YtcogplmopdckhaaGreatDoor

namespace Go.Proofs.YtcogplmopdckhaaGreatDoor
open Go.ChangeShapes Go.WideShapes Go.ChangeAt Go.WideMaps Go.WideElems Go.RowKit Go.Joins

set_option maxHeartbeats 1000000 in
theorem lawP33_great (ac : Option Addr) (nc cc : Nat) (w : World) (h : 1048576 < (nc : Int)) :
    Calls Tryz.prog 4 #[.slice ac nc cc] w fun e w' => e = .returned (.bool true) ∧ Below w.heap.size w w' := by
  go_enter Tryz.func4, Tryz.ntmps4
  go_wp2
  go_ret
  exact ⟨rfl, Below.refl _ _⟩

theorem lawP33_any (vc : Value) (nc : Nat) (a : Addr) (w : World) (hc : CodeAt w vc nc) (ha : ErrAt w a) :
    Calls Tryz.prog 4 #[vc] w fun e w' => e = .returned (.bool true) ∧ Below w.heap.size w w' := by
  by_cases h1 : nc ≤ 1048576
  · exact lawP33_small vc nc a w hc h1 ha
  · obtain ⟨ac, cc, rfl, _⟩ := hc
    exact lawP33_great ac nc cc w (by omega)

set_option maxRecDepth 100000 in
theorem p33_lifted (os : Os) (started : os.Started) (H : Type) (enc : TypeId × Value → H) :
    ReturnsInHanded {} Tryz.checked os 4 .any (fun w args => (Rows.fnHearSureSpec.pre enc Tryz.prog Tryz.f4 [] false w args ∧ laidMetH Tryz.prog laidErr w) ∧ sizedMet enc Tryz.prog Tryz.f4 (OpenSpec.ofChange Rows.fnHearSureSpec) false w args)
      (Rows.fnHearSureSpec.post enc Tryz.prog Tryz.f4 false true false false) := by
  refine returnsInHanded_of_change_and (C := Tryz.checked) (X := fun w _ => laidMetH Tryz.prog laidErr w) (fun _ _ _ hh h => h.of_heap hh) own started (by kernel_rfl) Tryz.func4
    (ChangeSpec.witness_shaped (enc := enc) (C := Tryz.checked) (os := os) (X := fun w _ => laidMetH Tryz.prog laidErr w) false (World.doorLaid Tryz.prog 28 os) #[.slice none 0 0] 8 rfl (World.shaped_of_RefB (by kernel_rfl) (by kernel_rfl)) (by kernel_rfl) (by kernel_rfl) (by kernel_rfl) (door_met os _)) ?_
  intro W base args ds gs before hval0 hW _ _ hL _
  have hval : ∀ (j : Nat) t v, Tryz.f4.params[j]? = some t → args[j]? = some v → Value.okWide Tryz.prog W .any base t v := hval0
  have hW' := hW
  obtain ⟨p, q, hA0, hV0, rfl, hfz, hnd⟩ := hW
  have hA : DataW.TrodAll enc Tryz.prog W 0 (fun _ => true) true Tryz.f4.params.toList args.toList ds p := hA0
  have hV : DataW.TrodVars enc Tryz.prog W (fun _ => true) ["loop.example/concierge/impl.errNoRec"] gs q := hV0
  rw [Tryz.params4] at hA hval
  obtain ⟨v0, d0, rfl, rfl, h0⟩ := trodAll_one hA
  obtain ⟨a, hErr, hvar⟩ := of_laid hL
  have vr : ∀ {X : World}, X.var? Tryz.prog "loop.example/concierge/impl.errNoRec" = some #[.iface 161 (.pointer (some a))] → ∀ sp : Nat → Bool,
      DataW.TrodVars enc Tryz.prog X sp ["loop.example/concierge/impl.errNoRec"] [tok enc (.iface 161 (.pointer (some a)))] [.cell 0 0] :=
    fun x0 sp => vars_read1 enc gErr gErrType Tryz.underlying124 x0 trivial sp
  obtain ⟨rfl, rfl⟩ := hV.unique (vr hvar _)
  clear hA0 hV0 hval0
  obtain ⟨nc, hC, _⟩ := open_code (hval 0 44 v0 rfl rfl) h0
  refine (lawP33_any v0 nc a W hC hErr).mono fun e W' ⟨he, hb⟩ => ?_
  subst he
  have hlt : ∀ x ∈ p, x.block < W.heap.size := fun x hx => hW'.lt x (by simp [hx])
  refine ⟨_, rfl, _, _, _, [], p, [.cell 0 0], hW', ?_, ?_, ?_, hb.frame _, fun h => by cases h⟩
  · exact trodAll_mk1 (shut_bool Tryz.underlying4 true)
  · exact trodAll_mk1 (Below.trod laidOut (by kernel_rfl) (of_decide_eq_true (by kernel_rfl)) h0 hb hlt)
  · exact vr (var?_below hb gErr (World.block_lt_of_cell? _ _ hErr) hvar) _

theorem p33_said : Rows.FnHearSureSaid :=
  OpenClaim.holds_of_wide 4 Tryz.f4 rfl rfl rfl rfl rfl rfl rfl ⟨rfl, rfl, rfl, rfl, rfl⟩ rfl rfl rfl rfl rfl (by kernel_rfl) Tryz.func4 (by kernel_rfl)
    (of_decide_eq_true (by kernel_rfl)) (by unfold Func.isWrapper; first | (rw [if_pos (by decide +kernel)]; kernel_rfl) | (rw [if_neg (by decide +kernel)]; exact ⟨rfl, rfl⟩))
    (fun os started H enc _ => p33_lifted os started H enc)

theorem p33_plain (f : FuncId) (fn : Func) (hf : Tryz.pinned.checked.prog.funcNamed "loop.example/concierge/laws.FnHearSure" = some f) (hfn : Tryz.pinned.checked.prog.funcs[f]? = some fn) :
    true = Tryz.pinned.checked.prog.looks [] ∧ ∀ (j : Nat) t, fn.params[j]? = some t → Tryz.pinned.checked.prog.wantsStandIn t = false := by
  obtain rfl : f = 4 := Option.some.inj ((show Tryz.prog.funcNamed "loop.example/concierge/laws.FnHearSure" = some 4 by kernel_rfl).symm.trans hf) |>.symm
  obtain rfl : fn = Tryz.f4 := (Option.some.inj (Tryz.func4.symm.trans hfn)).symm
  refine ⟨by kernel_rfl, fun j t ht => ?_⟩
  rw [Tryz.params4] at ht
  obtain rfl : t = 44 := by simpa using Array.mem_of_getElem? ht
  exact (show Tryz.prog.wantsStandIn 44 = false by kernel_rfl)

theorem p33_card : Rows.FnHearSureCardSaid :=
  Claim7.holds_tied_plain_at .later [] _ _ _ _ p33_said (fun _ h => by cases h) (by kernel_rfl) (fun _ h => by cases h) fnHearSure_row_tie rfl ⟨rfl, rfl⟩ (by kernel_rfl) rfl p33_plain (by kernel_rfl)
#print axioms p33_card

end Go.Proofs.YtcogplmopdckhaaGreatDoor
