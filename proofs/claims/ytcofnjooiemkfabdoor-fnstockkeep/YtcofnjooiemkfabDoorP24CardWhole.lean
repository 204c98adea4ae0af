/- FnStockKeep answers true whatever the code, and it reads afterwards as it read before: promise 24 at every drawn stock and record. The card: the sentinel's variable starts as the program's text lays it. -/
import Derived.Test.YtcofnjooiemkfabDoorBase4

namespace Go.Proofs.YtcofnjooiemkfabDoor
open Go.RowKit
namespace Pl
theorem recOk_h1 {t : Int} (ht : 1 ≤ t ∧ t ≤ 6) : recOk 1 t [1] = true := by
  rw [recOk_1 t [1] (inB_mk ht.1 ht.2)]; rfl
theorem recOk_u {t : Int} (ht : 1 ≤ t ∧ t ≤ 6) : recOk 3 t [] = true := by
  rw [recOk_p 3 t [] (inB_mk ht.1 ht.2) (by decide) (by decide)]; rfl
theorem recOk_c {t : Int} (ht : 1 ≤ t ∧ t ≤ 6) : recOk 2 t [] = true := by
  rw [recOk_p 2 t [] (inB_mk ht.1 ht.2) (by decide) (by decide)]; rfl
theorem sDo_ok {room : Int} {hs : List H} {k t : Int} {zs : List Int} {x : H} (h : sOk room hs = true) (h2 : recOk k t zs = true) (hn : next (hAt hs t) k (zs.headD 0) (free room hs) = some x) : sDo room hs k t zs = some (hs.set (at_ t) x) := by
  unfold sDo; rw [behind_ok h h2, hn]; rfl
theorem sDo_no {room : Int} {hs : List H} {k t : Int} {zs : List Int} (hn : next (hAt hs t) k (zs.headD 0) (free room hs) = none) : sDo room hs k t zs = none := by
  unfold sDo behind
  split
  · rw [hn]; rfl
  · rfl
theorem at_lt6 {t : Int} (ht : 1 ≤ t ∧ t ≤ 6) : at_ t < 6 := by unfold at_; omega
/-- A hold of one, and then an undo. -/
theorem undone {room : Int} {hs : List H} {t : Int} (ok : sOk room hs = true) (ht : 1 ≤ t ∧ t ≤ 6) :
    (sDo room hs 1 t [1] = none ∧ ((hAt hs t).2 ≠ 0 ∨ sFree room hs = 0)) ∨
    (∃ h2 h3, sDo room hs 1 t [1] = some h2 ∧ sDo room h2 3 t [] = some h3 ∧ sDo room h3 1 t [1] = none ∧ sFree room h3 = sFree room hs ∧ hAt h3 t = (1, 3) ∧ h2.length = 6 ∧ h3.length = 6) := by
  have h6 := (sOk_parts ok).2.2.1
  have hat : at_ t < hs.length := by rw [h6]; exact at_lt6 ht
  have hf := (sFree_of ok)
  by_cases c : (hAt hs t).2 = 0 ∧ (1 : Int) ≤ free room hs
  · have hn : next (hAt hs t) 1 (([1] : List Int).headD 0) (free room hs) = some (1, 1) := by simp [next, c.1, c.2]
    have d2 := sDo_ok ok (recOk_h1 ht) hn
    have ok2 := sDo_keeps d2
    have e2 : hAt (hs.set (at_ t) (1, 1)) t = (1, 1) := hAt_set hat
    have hn2 : next (hAt (hs.set (at_ t) (1, 1)) t) 3 (([] : List Int).headD 0) (free room (hs.set (at_ t) (1, 1))) = some (1, 3) := by rw [e2]; simp [next]
    have d3 := sDo_ok ok2 (recOk_u ht) hn2
    have ok3 := sDo_keeps d3
    have hl2 : at_ t < (hs.set (at_ t) (1, 1)).length := by rw [List.length_set]; exact hat
    have e3 : hAt ((hs.set (at_ t) (1, 1)).set (at_ t) (1, 3)) t = (1, 3) := hAt_set hl2
    have hh : (hAt hs t).1 = 0 := by
      have hm := (List.all_eq_true.1 (sOk_parts ok).1) _ (hAt_mem hs t hat)
      have e : hAt hs t = ((hAt hs t).1, 0) := by rw [← c.1]
      rw [e, hOk_0] at hm
      exact of_decide_eq_true hm
    have f3 : free room ((hs.set (at_ t) (1, 1)).set (at_ t) (1, 3)) = free room hs := by
      rw [free_set _ _ _ _ hl2, free_set _ _ _ _ hat]
      have g1 : (hs.set (at_ t) (1, 1)).getD (at_ t) (0, 0) = (1, 1) := e2
      have g0 : hHad (hs.getD (at_ t) (0, 0)) = 0 := hHad_x (hAt hs t).1 (hAt hs t).2 (by omega) (by omega)
      rw [g1, g0, hHad_1, hHad_x _ _ (by decide) (by decide)]
      omega
    refine Or.inr ⟨_, _, d2, d3, sDo_no (by rw [e3]; simp [next]), ?_, e3, by simp [h6], by simp [h6]⟩
    rw [sFree_yes ok3, hf.1, f3]
  · refine Or.inl ⟨sDo_no (by simp only [next, if_true]; rw [if_neg (by simpa using c)]), ?_⟩
    by_cases c0 : (hAt hs t).2 = 0
    · right
      have : ¬ (1 : Int) ≤ free room hs := fun e => c ⟨c0, e⟩
      omega
    · exact Or.inl c0
end Pl

/-- What lies at a trip's place. -/
theorem hold_at {W : World} {au : Option Addr} {n cu : Nat} {hs : List Pl.H} {t : Int} (h : Holds W (.slice au n cu) hs) (h6 : hs.length = 6) (ht : 1 ≤ t ∧ t ≤ 6) :
    ∃ b off, au = some ⟨b, off, none⟩ ∧ (W.cell? ⟨b, off + Pl.at_ t * 2, none⟩ = some (.int .i64 (Pl.hAt hs t).1) ∧ W.cell? ⟨b, off + Pl.at_ t * 2 + 1, none⟩ = some (.int .i64 (Pl.hAt hs t).2)) := by
  rcases h with ⟨h0, _⟩ | ⟨b', off, cap', hv, _, hc⟩
  · rw [h0] at h6; simp at h6
  · simp only [Value.slice.injEq] at hv
    exact ⟨b', off, hv.1, hc _ (by rw [h6]; exact Pl.at_lt6 ht)⟩
theorem lit1 (w : World) (z : Int) : Ints (w.alloc (.cells #[.int .i64 z] 3)) (.slice (some ⟨w.heap.size, 0, none⟩) 1 1) [z] := by
  refine Or.inr ⟨_, 0, 1, rfl, by simp, fun j hj => ?_⟩
  obtain rfl : j = 0 := by simpa using hj
  simp
namespace Pl
theorem may_no {room : Int} {hs : List H} {k t : Int} {zs : List Int} (h : next (hAt hs t) k (zs.headD 0) (free room hs) = none) : sMay room hs k t zs = false := by
  unfold sMay behind
  split
  · rw [h]; rfl
  · rfl
/-- What is closed is had for good. -/
theorem kept {room : Int} {hs hs' : List H} {t : Int} {zs : List Int} (h : sDo room hs 1 t zs = some hs') :
    ∃ h2 m, zs = [m] ∧ sDo room hs' 2 t [] = some h2 ∧ sMay room h2 3 t [] = false ∧ sMay room h2 2 t [] = false ∧ sFree room h2 = sFree room hs' ∧ hAt h2 t = (m, 2) ∧ h2.length = 6 ∧ 1 ≤ t ∧ t ≤ 6 := by
  obtain ⟨x, hn, hset, ok0, rok, ok1⟩ := sDo_some h
  obtain ⟨m, rfl, m1, m3⟩ := recOk_hold rok
  have ht := recOk_trip rok
  have h6 := (sOk_parts ok0).2.2.1
  have hi : at_ t < hs.length := by rw [h6]; exact at_lt6 ht
  have hi' : at_ t < hs'.length := by rw [(sOk_parts ok1).2.2.1]; exact at_lt6 ht
  have e : hAt hs' t = x := by rw [hset]; exact hAt_set hi
  rcases next_kinds hn with ⟨-, h0, hm, rfl⟩ | ⟨e, _⟩ | ⟨e, _⟩
  · simp only [List.headD_cons] at e hm
    have hn2 : next (hAt hs' t) 2 (([] : List Int).headD 0) (free room hs') = some (m, 2) := by rw [e]; simp [next]
    have d2 := sDo_ok ok1 (recOk_c ht) hn2
    have ok2 := sDo_keeps d2
    have e2 : hAt (hs'.set (at_ t) (m, 2)) t = (m, 2) := hAt_set hi'
    refine ⟨_, m, rfl, d2, may_no (by rw [e2]; simp [next]), may_no (by rw [e2]; simp [next]), ?_, e2, by simp [(sOk_parts ok1).2.2.1], ht.1, ht.2⟩
    rw [sFree_yes ok2, sFree_yes ok1, free_set _ _ _ _ hi']
    have g : hs'.getD (at_ t) (0, 0) = (m, 1) := e
    rw [g, hHad_1, hHad_2]; omega
  · exact absurd e (by decide)
  · exact absurd e (by decide)
end Pl

set_option maxRecDepth 100000 in
set_option maxHeartbeats 8000000 in
theorem lawP24_small (vc : Value) (nc : Nat) (a : Addr) (w : World) (hc : CodeAt w vc nc) (hcn : nc ≤ 1048576) (ha : ErrAt w a) :
    Calls Tryd.prog 3 #[vc] w fun e w' => e = .returned (.bool true) ∧ Below w.heap.size w w' := by
  have HD := hide_it (drawDo_any vc nc w hc hcn)
  have HA : Hid (∀ W, Below w.heap.size w W → ErrAt W a) := fun W hb => ha.later hb (Nat.le_refl _)
  obtain ⟨ac, cc, rfl, _⟩ := hc
  have hci : (nc : Int) ≤ 1048576 := by omega
  clear hcn ha
  go_enter Tryd.func3, Tryd.ntmps3
  go_wp2_with fail
  refine HD.out.mono ?_
  rintro e w1 ⟨room, u, hs, k, t, uz, zs, rfl, hl, hzl, hH, hI, hb1⟩
  have B1 := hide_it hb1
  have H1 := hide_it hH
  have I1 := hide_it hI
  obtain ⟨au, cu, rfl⟩ := hH.shape
  obtain ⟨az, cz, rfl⟩ := hI.shape
  clear hb1 hH hI HD
  have hl9 : hs.length ≤ 1048576 := by omega
  have hz9 : zs.length ≤ 1048576 := by omega
  obtain ⟨w2, hw2⟩ : ∃ W, Hid (W = (w1.alloc (.cells #[.int .i64 room, .slice au hs.length cu] 25)).alloc (.cells #[.int .i64 k, .int .i64 t, .slice az zs.length cz] 28)) := ⟨_, rfl⟩
  have al2 : Hid (Below w1.heap.size w1 w2) := by show Below _ _ _; rw [hw2.out]; exact below2 _ _ _
  have B2 := hide_it (B1.out.trans (al2.out.mono B1.out.size))
  have P2 : Hid (Pr w2 w1.heap.size room (.slice au hs.length cu) k t (.slice az zs.length cz)) := by show Pr _ _ _ _ _ _ _; rw [hw2.out]; exact Pr.new _ _ _ _ _ _ _ _
  have H2 := hide_it (H1.out.later al2.out (Nat.le_refl _))
  have I2 := hide_it (I1.out.later al2.out (Nat.le_refl _))
  obtain ⟨OO, hOO⟩ : ∃ x, Hid (Pl.sDo room hs k t zs = x) := ⟨_, rfl⟩
  obtain ⟨RR, hRR⟩ : ∃ x, oR room OO = x := ⟨_, rfl⟩
  obtain ⟨HS, hHS⟩ : ∃ x, oH OO = x := ⟨_, rfl⟩
  obtain ⟨BB, hBB⟩ : ∃ x, OO.isSome = x := ⟨_, rfl⟩
  have SP : Hid (∀ W, Below w2.heap.size w2 W → Calls Tryd.prog 5 #[.agg #[.int .i64 room, .slice au hs.length cu], .agg #[.int .i64 k, .int .i64 t, .slice az zs.length cz]] W fun e w' => StOut W w' e RR HS BB) := fun W hb => by
    have := specDo_any room _ hs k t _ zs W (H2.out.later hb (Nat.le_refl _)) hl9 (I2.out.later hb (Nat.le_refl _)) hz9
    rw [hOO.out, hRR, hHS, hBB] at this; exact this
  have IM : Hid (∀ W, Below w2.heap.size w2 W → Calls Tryd.prog 6 #[.agg #[.int .i64 room, .slice au hs.length cu], .agg #[.int .i64 k, .int .i64 t, .slice az zs.length cz]] W fun e w' => StOut W w' e RR HS BB) := fun W hb => by
    have := implDo_any room _ hs k t _ zs a W (H2.out.later hb (Nat.le_refl _)) hl9 (I2.out.later hb (Nat.le_refl _)) hz9 (HA.out _ (B2.out.trans (hb.mono B2.out.size)))
    rw [hOO.out, hRR, hHS, hBB] at this; exact this
  have hL9 : HS.length ≤ 1048576 := by
    rw [← hHS]
    cases hq : OO with
    | none => simp [oH]
    | some x => have h1 := hOO.out; rw [hq] at h1; have h2 := Pl.sDo_len h1; show x.length ≤ 1048576; omega
  have FIN : Hid (BB = true → RR = room ∧ Pl.sDo room hs k t zs = some HS) := fun h => by
    cases hq : OO with
    | none => rw [hq] at hBB; rw [← hBB] at h; cases h
    | some x =>
      rw [hq] at hRR hHS
      exact ⟨hRR.symm, by rw [hOO.out, hq]; exact congrArg some hHS⟩
  clear hOO hRR hHS hBB
  go_wp2_with fail
  rw [← hw2.out]
  refine (SP.out w2 (Below.refl _ _)).mono ?_
  rintro e w3 ⟨a3, c3, rfl, ho3, hb3⟩
  obtain ⟨w4, hw4⟩ : ∃ W, Hid (W = w3.alloc (.cells #[.int .i64 RR, .slice a3 HS.length c3] 25)) := ⟨_, rfl⟩
  have al4 : Below w3.heap.size w3 w4 := by rw [hw4.out]; exact alloc_below _ _
  have E4 := hide_it (hb3.trans (al4.mono hb3.size))
  have Z4 : Hid (Duo w4 w3.heap.size (.int .i64 RR) (.slice a3 HS.length c3)) := by show Duo _ _ _ _; rw [hw4.out]; exact Duo.new w3 _ _ _
  have V4 := hide_it ((holds_of_row ho3).later al4 (Nat.le_refl _))
  obtain ⟨⟨c0, c1⟩, ⟨r0, r1, r2⟩⟩ := P2.out.later hb3 (Nat.le_refl _)
  have k0 := fun o => cellAlloc c0 o
  have k1 := fun o => cellAlloc c1 o
  have k2 := fun o => cellAlloc r0 o
  have k3 := fun o => cellAlloc r1 o
  have k4 := fun o => cellAlloc r2 o
  have hl1 : w1.heap.size < w3.heap.size := World.block_lt_of_cell? _ _ c0
  have hl2 : w1.heap.size + 1 < w3.heap.size := World.block_lt_of_cell? _ _ r0
  clear ho3 hb3 al4
  go_wp2_with fail
  rw [← hw4.out]
  refine (IM.out w4 E4.out).mono ?_
  rintro e w5 ⟨a5, c5, rfl, ho5, hb5⟩
  obtain ⟨w6, hw6⟩ : ∃ W, Hid (W = w5.alloc (.cells #[.int .i64 RR, .slice a5 HS.length c5] 25)) := ⟨_, rfl⟩
  have al6 : Below w5.heap.size w5 w6 := by rw [hw6.out]; exact alloc_below _ _
  have e6 : Below w4.heap.size w4 w6 := hb5.trans (al6.mono hb5.size)
  have E6 := hide_it (E4.out.trans (e6.mono E4.out.size))
  have X6 : Hid (Duo w6 w5.heap.size (.int .i64 RR) (.slice a5 HS.length c5)) := by show Duo _ _ _ _; rw [hw6.out]; exact Duo.new w5 _ _ _
  have Z5 := hide_it (Z4.out.later hb5 (Nat.le_refl _))
  have Z6 := hide_it (Z4.out.later e6 (Nat.le_refl _))
  have V6 := hide_it (V4.out.later e6 (Nat.le_refl _))
  have U6 := hide_it ((holds_of_row ho5).later al6 (Nat.le_refl _))
  clear k0 k1 k2 k3 k4 c0 c1 r0 r1 r2
  obtain ⟨z0, z1⟩ := Z5.out
  have z0o := fun o => cellAlloc z0 o
  have z1o := fun o => cellAlloc z1 o
  have hzl3 := Z5.out.lt
  clear ho5 hb5 al6 e6
  cases BB
  · go_wp2_with fail
    rw [← hw6.out]
    refine (lnStock_any RR _ _ HS w6 U6.out V6.out hL9).mono ?_
    rintro e w7 ⟨rfl, hb7⟩
    have E7 := hide_it (E6.out.trans (hb7.mono E6.out.size))
    have U7 := hide_it (U6.out.later hb7 (Nat.le_refl _))
    have V7 := hide_it (V6.out.later hb7 (Nat.le_refl _))
    obtain ⟨p0, p1⟩ := Z6.out.later hb7 (Nat.le_refl _)
    obtain ⟨q0, q1⟩ := X6.out.later hb7 (Nat.le_refl _)
    clear hb7 z0 z1 z0o z1o
    go_wp2_with fail
    refine (lnStock_any RR _ _ HS w7 U7.out V7.out hL9).mono ?_
    rintro e w8 ⟨rfl, hb8⟩
    have B8 := hide_it (B2.out.trans ((E7.out.trans (hb8.mono E7.out.size)).mono B2.out.size))
    clear hb8
    go_wp2
    go_ret
    exact ⟨rfl, B8.out⟩
  obtain ⟨e1, hDO⟩ := FIN.out rfl
  subst e1
  clear FIN SP IM
  have HDO := hide_it hDO
  clear hDO
  go_wp2_with fail
  rw [← hw6.out]
  refine (lnStock_any RR _ _ HS w6 U6.out V6.out hL9).mono ?_
  rintro e w7 ⟨rfl, hb7⟩
  have E7 := hide_it (E6.out.trans (hb7.mono E6.out.size))
  have U7 := hide_it (U6.out.later hb7 (Nat.le_refl _))
  have X7 := hide_it (X6.out.later hb7 (Nat.le_refl _))
  have V7 := hide_it (V6.out.later hb7 (Nat.le_refl _))
  have Z7 := hide_it (Z6.out.later hb7 (Nat.le_refl _))
  have hX := X7.out.lt
  clear hb7 z0 z1 z0o z1o hzl3
  obtain ⟨⟨c0, c1⟩, ⟨r0, r1, r2⟩⟩ := P2.out.later E7.out (Nat.le_refl _)
  obtain ⟨z0, z1⟩ := Z7.out
  obtain ⟨x0, x1⟩ := X7.out
  by_cases hk : k = 1
  · have hke : (k == 1) = true := by simpa using hk
    subst hk
    obtain ⟨G2, m, hzs, d2, ma, mb, ff, e2, l2, t1, t6⟩ := Pl.kept HDO.out
    subst hzs
    obtain ⟨N, hN⟩ : ∃ N, Hid (Pl.at_ t = N) := ⟨_, rfl⟩
    obtain rfl : t = (N : Int) + 1 := by rw [← hN.out]; unfold Pl.at_; omega
    have hN6 : N < 6 := by omega
    have hNi : (N : Int) < 6 := by omega
    have L6 := hide_it l2
    have FF := hide_it ff
    have E2 := hide_it e2
    have MA := hide_it ma
    have MB := hide_it mb
    have hl2 : G2.length ≤ 1048576 := by omega
    have BX : Hid (∀ W, Below w7.heap.size w7 W → Below w.heap.size w W) := fun W hb => B2.out.trans ((E7.out.trans (hb.mono E7.out.size)).mono B2.out.size)
    have CD : Hid (Calls Tryd.prog 6 #[.agg #[.int .i64 RR, .slice a5 HS.length c5], .agg #[.int .i64 2, .int .i64 ((N : Int) + 1), .slice none 0 0]] w7 fun e w' => StOut w7 w' e RR G2 true) := by
      have := implDo_any RR _ HS 2 ((N : Int) + 1) _ [] a w7 U7.out hL9 (Or.inl ⟨rfl, none, 0, rfl, fun _ => rfl⟩) (by simp) (HA.out _ (BX.out _ (Below.refl _ _)))
      rw [d2] at this; exact this
    clear l2 ff e2 ma mb d2 t1 t6
    go_wp2_with fail
    refine CD.out.mono ?_
    rintro e w9 ⟨a9, c9, rfl, ho9, hb9⟩
    have V9 : Hid (Holds w9 (.slice a9 G2.length c9) G2) := hide_it (holds_of_row ho9)
    have N9 := hide_it hb9
    obtain ⟨w10, hw10⟩ : ∃ W, Hid (W = w9.alloc (.cells #[.int .i64 RR, .slice a9 G2.length c9] 25)) := ⟨_, rfl⟩
    have al10 : Below w9.heap.size w9 w10 := by rw [hw10.out]; exact alloc_below _ _
    have N10 := hide_it (N9.out.trans (al10.mono N9.out.size))
    have Y10 : Hid (Duo w10 w9.heap.size (.int .i64 RR) (.slice a9 G2.length c9)) := by show Duo _ _ _ _; rw [hw10.out]; exact Duo.new w9 _ _ _
    have V10 := hide_it (V9.out.later al10 (Nat.le_refl _))
    have M3 : Hid (∀ W, Below w10.heap.size w10 W → Calls Tryd.prog 8 #[.agg #[.int .i64 RR, .slice a9 G2.length c9], .agg #[.int .i64 3, .int .i64 ((N : Int) + 1), .slice none 0 0]] W fun e w' => e = .returned (.bool false) ∧ Below W.heap.size W w') := fun W hb => by
      have := implMay_any RR _ G2 3 ((N : Int) + 1) _ [] a W (V10.out.later hb (Nat.le_refl _)) hl2 (Or.inl ⟨rfl, none, 0, rfl, fun _ => rfl⟩) (by simp) (HA.out _ (BX.out _ (N10.out.trans (hb.mono N10.out.size))))
      rw [MA.out] at this; exact this
    have M2 : Hid (∀ W, Below w10.heap.size w10 W → Calls Tryd.prog 8 #[.agg #[.int .i64 RR, .slice a9 G2.length c9], .agg #[.int .i64 2, .int .i64 ((N : Int) + 1), .slice none 0 0]] W fun e w' => e = .returned (.bool false) ∧ Below W.heap.size W w') := fun W hb => by
      have := implMay_any RR _ G2 2 ((N : Int) + 1) _ [] a W (V10.out.later hb (Nat.le_refl _)) hl2 (Or.inl ⟨rfl, none, 0, rfl, fun _ => rfl⟩) (by simp) (HA.out _ (BX.out _ (N10.out.trans (hb.mono N10.out.size))))
      rw [MB.out] at this; exact this
    have KR : Hid (∀ W, Below w7.heap.size w7 W → (W.cell? ⟨w1.heap.size + 1, 0, none⟩ = some (.int .i64 1) ∧ W.cell? ⟨w1.heap.size + 1, 1, none⟩ = some (.int .i64 ((N : Int) + 1)) ∧ W.cell? ⟨w1.heap.size + 1, 2, none⟩ = some (.slice az 1 cz))) := fun W hb => (P2.out.later (E7.out.trans (hb.mono E7.out.size)) (Nat.le_refl _)).2
    clear ho9 hb9 al10 c0 c1 r0 r1 r2 z0 z1 x0 x1
    obtain ⟨r0, r1, r2⟩ := KR.out _ N9.out
    have k0 := fun o => cellAlloc r0 o
    have k1 := fun o => cellAlloc r1 o
    have hlr : w1.heap.size + 1 < w9.heap.size := World.block_lt_of_cell? _ _ r0
    go_wp2_with fail
    rw [← hw10.out]
    refine (M3.out _ (Below.refl _ _)).mono ?_
    rintro e w11 ⟨rfl, hb11⟩
    have L11 := hide_it hb11
    clear hb11 k0 k1 r0 r1 r2
    obtain ⟨y0, y1⟩ := Y10.out.later L11.out (Nat.le_refl _)
    obtain ⟨r0, r1, r2⟩ := KR.out _ (N10.out.trans (L11.out.mono N10.out.size))
    go_wp2_with fail
    refine (M2.out _ L11.out).mono ?_
    rintro e w12 ⟨rfl, hb12⟩
    have L12 := hide_it (L11.out.trans (hb12.mono L11.out.size))
    clear hb12 y0 y1 r0 r1 r2
    have N12 := hide_it (N10.out.trans (L12.out.mono N10.out.size))
    obtain ⟨bb, off, hab, hc0, hc1⟩ := hold_at (t := (N : Int) + 1) (V10.out.later L12.out (Nat.le_refl _)) L6.out (by omega)
    subst hab
    rw [hN.out, E2.out] at hc0
    have hc0 : w12.cell? ⟨bb, off + N * 2, none⟩ = some (.int .i64 m) := hc0
    obtain ⟨bz, oz, haz, hz0⟩ : ∃ b o, az = some ⟨b, o, none⟩ ∧ w12.cell? ⟨b, o, none⟩ = some (.int .i64 m) := by
      rcases I2.out.later (E7.out.trans (N12.out.mono E7.out.size)) (Nat.le_refl _) with ⟨h0, _⟩ | ⟨b, o, c, hv, _, hc⟩
      · cases h0
      · simp only [Value.slice.injEq] at hv
        exact ⟨b, o, hv.1, by simpa using hc 0 (by simp)⟩
    subst haz
    have KP : Hid (∀ W, Below w12.heap.size w12 W → (W.cell? ⟨w9.heap.size, 0, none⟩ = some (.int .i64 RR) ∧ W.cell? ⟨w9.heap.size, 1, none⟩ = some (.slice (some ⟨bb, off, none⟩) G2.length c9)) ∧ (W.cell? ⟨w5.heap.size, 0, none⟩ = some (.int .i64 RR) ∧ W.cell? ⟨w5.heap.size, 1, none⟩ = some (.slice a5 HS.length c5)) ∧ (W.cell? ⟨w1.heap.size + 1, 1, none⟩ = some (.int .i64 ((N : Int) + 1)) ∧ W.cell? ⟨w1.heap.size + 1, 2, none⟩ = some (.slice (some ⟨bz, oz, none⟩) 1 cz)) ∧ W.cell? ⟨bb, off + N * 2, none⟩ = some (.int .i64 m) ∧ W.cell? ⟨bz, oz, none⟩ = some (.int .i64 m)) := fun W hb =>
      ⟨Y10.out.later (L12.out.trans (hb.mono L12.out.size)) (Nat.le_refl _), X7.out.later (N12.out.trans (hb.mono N12.out.size)) (Nat.le_refl _), (KR.out _ (N12.out.trans (hb.mono N12.out.size))).2, by rw [hb.cell (World.block_lt_of_cell? _ _ hc0)]; exact hc0, by rw [hb.cell (World.block_lt_of_cell? _ _ hz0)]; exact hz0⟩
    have FY : Hid (∀ W, Below w12.heap.size w12 W → Calls Tryd.prog 9 #[.agg #[.int .i64 RR, .slice (some ⟨bb, off, none⟩) G2.length c9]] W fun e w' => e = .returned (.int .i64 (Pl.sFree RR HS)) ∧ Below W.heap.size W w') := fun W hb => by
      have := implFree_any RR _ G2 W (V10.out.later (L12.out.trans (hb.mono L12.out.size)) (Nat.le_refl _)) hl2
      rw [FF.out] at this; exact this
    have FX : Hid (∀ W, Below w12.heap.size w12 W → Calls Tryd.prog 9 #[.agg #[.int .i64 RR, .slice a5 HS.length c5]] W fun e w' => e = .returned (.int .i64 (Pl.sFree RR HS)) ∧ Below W.heap.size W w') := fun W hb => implFree_any RR _ HS W (U7.out.later (N12.out.trans (hb.mono N12.out.size)) (Nat.le_refl _)) hL9
    have B12 := hide_it (BX.out _ N12.out)
    have hwr : IntKind.i64.wrap (N : Int) = (N : Int) := by simp [IntKind.wrap, IntKind.bits, IntKind.signed]; omega
    have hwq : IntKind.i64.wrap ((N : Int) + 1 - 1) = (N : Int) := by simp [IntKind.wrap, IntKind.bits, IntKind.signed]; omega
    have hN0 : (0 : Int) ≤ (N : Int) := by omega
    have hNl : (N : Int) < (G2.length : Int) := by rw [L6.out]; exact hNi
    go_wp2_with fail
    refine wp_region_held_drew (S := fun w' => (w'.cell? ⟨w9.heap.size, 0, none⟩ = some (.int .i64 RR) ∧ w'.cell? ⟨w9.heap.size, 1, none⟩ = some (.slice (some ⟨bb, off, none⟩) G2.length c9)) ∧ (w'.cell? ⟨w5.heap.size, 0, none⟩ = some (.int .i64 RR) ∧ w'.cell? ⟨w5.heap.size, 1, none⟩ = some (.slice a5 HS.length c5)) ∧ (w'.cell? ⟨w1.heap.size + 1, 1, none⟩ = some (.int .i64 ((N : Int) + 1)) ∧ w'.cell? ⟨w1.heap.size + 1, 2, none⟩ = some (.slice (some ⟨bz, oz, none⟩) 1 cz)) ∧ w'.cell? ⟨bb, off + N * 2, none⟩ = some (.int .i64 m) ∧ w'.cell? ⟨bz, oz, none⟩ = some (.int .i64 m)) (by kernel_rfl) (KP.out w12 (Below.refl _ _)) (fun hHeld => ?_)
    refine takeD (i := 0) (v := .bool true) (some 77) rfl rfl (by kernel_rfl) (by kernel_rfl) (by kernel_rfl) (fun _ _ _ h => h) (by rfl) hHeld ?_ ?_
    · intro W hSw
      try dsimp only at hSw
      first | (go_simp; done) | (go_simp; simp; done) | (go_simp; omega) | (go_simp; simp [*])
    try simp only [Act.put]
    try simp only [List.setIfInBounds_toArray]
    try simp only [List.set_cons_succ]
    try simp only [List.set_cons_zero]
    refine takeD (i := 1) (v := .bool true) (some 78) rfl rfl (by kernel_rfl) (by kernel_rfl) (by kernel_rfl) (fun _ _ _ h => h) (by rfl) hHeld ?_ ?_
    · intro W hSw
      try dsimp only at hSw
      first | (go_simp; done) | (go_simp; simp; done) | (go_simp; omega) | (go_simp; simp [*])
    try simp only [Act.put]
    try simp only [List.setIfInBounds_toArray]
    try simp only [List.set_cons_succ]
    try simp only [List.set_cons_zero]
    refine takeD (i := 2) (v := .bool false) (some 79) rfl rfl (by kernel_rfl) (by kernel_rfl) (by kernel_rfl) (fun _ _ _ h => h) (by rfl) hHeld ?_ ?_
    · intro W hSw
      try dsimp only at hSw
      first | (go_simp; done) | (go_simp; simp; done) | (go_simp; omega) | (go_simp; simp [*])
    try simp only [Act.put]
    try simp only [List.setIfInBounds_toArray]
    try simp only [List.set_cons_succ]
    try simp only [List.set_cons_zero]
    refine takeD (i := 3) (v := .bool true) (some 80) rfl rfl (by kernel_rfl) (by kernel_rfl) (by kernel_rfl) (fun _ _ _ h => h) (by rfl) hHeld ?_ ?_
    · intro W hSw
      try dsimp only at hSw
      first | (go_simp; done) | (go_simp; simp; done) | (go_simp; omega) | (go_simp; simp [*])
    try simp only [Act.put]
    try simp only [List.setIfInBounds_toArray]
    try simp only [List.set_cons_succ]
    try simp only [List.set_cons_zero]
    refine takeD (i := 4) (v := .bool true) (some 81) rfl rfl (by kernel_rfl) (by kernel_rfl) (by kernel_rfl) (fun _ _ _ h => h) (by rfl) hHeld ?_ ?_
    · intro W hSw
      try dsimp only at hSw
      first | (go_simp; done) | (go_simp; simp; done) | (go_simp; omega) | (go_simp; simp [*])
    try simp only [Act.put]
    try simp only [List.setIfInBounds_toArray]
    try simp only [List.set_cons_succ]
    try simp only [List.set_cons_zero]
    refine takeD (i := 5) (v := .bool true) (some 82) rfl rfl (by kernel_rfl) (by kernel_rfl) (by kernel_rfl) (fun _ _ _ h => h) (by rfl) hHeld ?_ ?_
    · intro W hSw
      try dsimp only at hSw
      first | (go_simp; done) | (go_simp; simp; done) | (go_simp; omega) | (go_simp; simp [*])
    try simp only [Act.put]
    try simp only [List.setIfInBounds_toArray]
    try simp only [List.set_cons_succ]
    try simp only [List.set_cons_zero]
    refine takeD (i := 6) (v := .bool false) (some 83) rfl rfl (by kernel_rfl) (by kernel_rfl) (by kernel_rfl) (fun _ _ _ h => h) (by rfl) hHeld ?_ ?_
    · intro W hSw
      try dsimp only at hSw
      first | (go_simp; done) | (go_simp; simp; done) | (go_simp; omega) | (go_simp; simp [*])
    try simp only [Act.put]
    try simp only [List.setIfInBounds_toArray]
    try simp only [List.set_cons_succ]
    try simp only [List.set_cons_zero]
    refine takeD (i := 7) (v := .bool true) (some 84) rfl rfl (by kernel_rfl) (by kernel_rfl) (by kernel_rfl) (fun _ _ _ h => h) (by rfl) hHeld ?_ ?_
    · intro W hSw
      try dsimp only at hSw
      first | (go_simp; done) | (go_simp; simp; done) | (go_simp; omega) | (go_simp; simp [*])
    try simp only [Act.put]
    try simp only [List.setIfInBounds_toArray]
    try simp only [List.set_cons_succ]
    try simp only [List.set_cons_zero]
    refine takeD (i := 8) (v := .bool true) (some 85) rfl rfl (by kernel_rfl) (by kernel_rfl) (by kernel_rfl) (fun _ _ _ h => h) (by rfl) hHeld ?_ ?_
    · intro W hSw
      try dsimp only at hSw
      first | (go_simp; done) | (go_simp; simp; done) | (go_simp; omega) | (go_simp; simp [*])
    try simp only [Act.put]
    try simp only [List.setIfInBounds_toArray]
    try simp only [List.set_cons_succ]
    try simp only [List.set_cons_zero]
    refine takeD (i := 9) (v := .bool true) (some 86) rfl rfl (by kernel_rfl) (by kernel_rfl) (by kernel_rfl) (fun _ _ _ h => h) (by rfl) hHeld ?_ ?_
    · intro W hSw
      try dsimp only at hSw
      first | (go_simp; done) | (go_simp; simp; done) | (go_simp; omega) | (go_simp; simp [*])
    try simp only [Act.put]
    try simp only [List.setIfInBounds_toArray]
    try simp only [List.set_cons_succ]
    try simp only [List.set_cons_zero]
    refine takeD (i := 10) (v := ?_) (some 87) rfl rfl (by kernel_rfl) (by kernel_rfl) (by kernel_rfl) (fun _ _ _ h => h) (by rfl) hHeld ?_ ?_
    rotate_left
    · intro W hSw
      try dsimp only at hSw
      go_simp
      try with_reducible rfl
    try simp only [Act.put]
    try simp only [List.setIfInBounds_toArray]
    try simp only [List.set_cons_succ]
    try simp only [List.set_cons_zero]
    refine takeD (i := 12) (v := ?_) (some 89) rfl rfl (by kernel_rfl) (by kernel_rfl) (by kernel_rfl) (fun _ _ _ h => h) (by rfl) hHeld ?_ ?_
    rotate_left
    · intro W hSw
      try dsimp only at hSw
      go_simp
      try with_reducible rfl
    try simp only [Act.put]
    try simp only [List.setIfInBounds_toArray]
    try simp only [List.set_cons_succ]
    try simp only [List.set_cons_zero]
    refine wpAnyH_ready (rs := [11]) (by kernel_rfl) (by simp) ?_
    refine AllReadyH.cons rfl (fun K hK => ?_) AllReadyH.nil
    go_simp
    refine (FY.out _ (Below.refl _ _).drew).mono ?_
    rintro e w13 ⟨rfl, hb13⟩
    have L13 := hide_it ((Below.refl w12.heap.size w12).drew.trans hb13)
    clear hb13
    try dsimp only
    refine hK.out _ _ (KP.out _ L13.out) (fun hHeld => ?_)
    clear hK K
    refine wpAnyH_ready (rs := [13]) (by kernel_rfl) (by simp) ?_
    refine AllReadyH.cons rfl (fun K hK => ?_) AllReadyH.nil
    go_simp
    refine (FX.out _ L13.out).mono ?_
    rintro e w14 ⟨rfl, hb14⟩
    have L14 := hide_it (L13.out.trans (hb14.mono L13.out.size))
    clear hb14
    try dsimp only
    refine hK.out _ _ (KP.out _ L14.out) (fun hHeld => ?_)
    clear hK K
    refine takeD (i := 14) (v := .bool true) (some 91) rfl rfl (by kernel_rfl) (by kernel_rfl) (by kernel_rfl) (fun _ _ _ h => h) (by rfl) hHeld ?_ ?_
    · intro W hSw
      try dsimp only at hSw
      first | (go_simp; done) | (go_simp; simp; done) | (go_simp; omega) | (go_simp; simp [*])
    try simp only [Act.put]
    try simp only [List.setIfInBounds_toArray]
    try simp only [List.set_cons_succ]
    try simp only [List.set_cons_zero]
    refine takeD (i := 15) (v := .bool true) (some 92) rfl rfl (by kernel_rfl) (by kernel_rfl) (by kernel_rfl) (fun _ _ _ h => h) (by rfl) hHeld ?_ ?_
    · intro W hSw
      try dsimp only at hSw
      first | (go_simp; done) | (go_simp; simp; done) | (go_simp; omega) | (go_simp; simp [*])
    try simp only [Act.put]
    try simp only [List.setIfInBounds_toArray]
    try simp only [List.set_cons_succ]
    try simp only [List.set_cons_zero]
    refine takeD (i := 16) (v := .bool true) (some 93) rfl rfl (by kernel_rfl) (by kernel_rfl) (by kernel_rfl) (fun _ _ _ h => h) (by rfl) hHeld ?_ ?_
    · intro W hSw
      try dsimp only at hSw
      first | (go_simp; done) | (go_simp; simp; done) | (go_simp; omega) | (go_simp; simp [*])
    try simp only [Act.put]
    try simp only [List.setIfInBounds_toArray]
    try simp only [List.set_cons_succ]
    try simp only [List.set_cons_zero]
    refine takeD (i := 17) (v := ?_) (some 94) rfl rfl (by kernel_rfl) (by kernel_rfl) (by kernel_rfl) (fun _ _ _ h => h) (by rfl) hHeld ?_ ?_
    rotate_left
    · intro W hSw
      try dsimp only at hSw
      go_simp
      try with_reducible rfl
    try simp only [Act.put]
    try simp only [List.setIfInBounds_toArray]
    try simp only [List.set_cons_succ]
    try simp only [List.set_cons_zero]
    refine takeD (i := 18) (v := ?_) (some 95) rfl rfl (by kernel_rfl) (by kernel_rfl) (by kernel_rfl) (fun _ _ _ h => h) (by rfl) hHeld ?_ ?_
    rotate_left
    · intro W hSw
      try dsimp only at hSw
      go_simp
      try with_reducible rfl
    try simp only [Act.put]
    try simp only [List.setIfInBounds_toArray]
    try simp only [List.set_cons_succ]
    try simp only [List.set_cons_zero]
    refine takeD (i := 19) (v := ?_) (some 96) rfl rfl (by kernel_rfl) (by kernel_rfl) (by kernel_rfl) (fun _ _ _ h => h) (by rfl) hHeld ?_ ?_
    rotate_left
    · intro W hSw
      try dsimp only at hSw
      go_simp
      try with_reducible rfl
    try simp only [Act.put]
    try simp only [List.setIfInBounds_toArray]
    try simp only [List.set_cons_succ]
    try simp only [List.set_cons_zero]
    refine takeD (i := 20) (v := ?_) (some 97) rfl rfl (by kernel_rfl) (by kernel_rfl) (by kernel_rfl) (fun _ _ _ h => h) (by rfl) hHeld ?_ ?_
    rotate_left
    · intro W hSw
      try dsimp only at hSw
      go_simp
      try with_reducible rfl
    try simp only [Act.put]
    try simp only [List.setIfInBounds_toArray]
    try simp only [List.set_cons_succ]
    try simp only [List.set_cons_zero]
    refine takeD (i := 21) (v := ?_) (some 98) rfl rfl (by kernel_rfl) (by kernel_rfl) (by kernel_rfl) (fun _ _ _ h => h) (by rfl) hHeld ?_ ?_
    rotate_left
    · intro W hSw
      try dsimp only at hSw
      go_simp
      try with_reducible rfl
    try simp only [Act.put]
    try simp only [List.setIfInBounds_toArray]
    try simp only [List.set_cons_succ]
    try simp only [List.set_cons_zero]
    refine takeD (i := 22) (v := ?_) (some 99) rfl rfl (by kernel_rfl) (by kernel_rfl) (by kernel_rfl) (fun _ _ _ h => h) (by rfl) hHeld ?_ ?_
    rotate_left
    · intro W hSw
      try dsimp only at hSw
      go_simp
      try with_reducible rfl
    try simp only [Act.put]
    try simp only [List.setIfInBounds_toArray]
    try simp only [List.set_cons_succ]
    try simp only [List.set_cons_zero]
    refine takeD (i := 23) (v := ?_) (some 100) rfl rfl (by kernel_rfl) (by kernel_rfl) (by kernel_rfl) (fun _ _ _ h => h) (by rfl) hHeld ?_ ?_
    rotate_left
    · intro W hSw
      try dsimp only at hSw
      go_simp
      try with_reducible rfl
    try simp only [Act.put]
    try simp only [List.setIfInBounds_toArray]
    try simp only [List.set_cons_succ]
    try simp only [List.set_cons_zero]
    refine takeD (i := 24) (v := ?_) (some 101) rfl rfl (by kernel_rfl) (by kernel_rfl) (by kernel_rfl) (fun _ _ _ h => h) (by rfl) hHeld ?_ ?_
    rotate_left
    · intro W hSw
      try dsimp only at hSw
      go_simp
      try with_reducible rfl
    try simp only [Act.put]
    try simp only [List.setIfInBounds_toArray]
    try simp only [List.set_cons_succ]
    try simp only [List.set_cons_zero]
    refine takeD (i := 25) (v := ?_) (some 102) rfl rfl (by kernel_rfl) (by kernel_rfl) (by kernel_rfl) (fun _ _ _ h => h) (by rfl) hHeld ?_ ?_
    rotate_left
    · intro W hSw
      try dsimp only at hSw
      go_simp
      try with_reducible rfl
    try simp only [Act.put]
    try simp only [List.setIfInBounds_toArray]
    try simp only [List.set_cons_succ]
    try simp only [List.set_cons_zero]
    refine takeD (i := 26) (v := ?_) (some 103) rfl rfl (by kernel_rfl) (by kernel_rfl) (by kernel_rfl) (fun _ _ _ h => h) (by rfl) hHeld ?_ ?_
    rotate_left
    · intro W hSw
      try dsimp only at hSw
      go_simp
      try with_reducible rfl
    try simp only [Act.put]
    try simp only [List.setIfInBounds_toArray]
    try simp only [List.set_cons_succ]
    try simp only [List.set_cons_zero]
    refine takeD (i := 27) (v := ?_) (some 104) rfl rfl (by kernel_rfl) (by kernel_rfl) (by kernel_rfl) (fun _ _ _ h => h) (by rfl) hHeld ?_ ?_
    rotate_left
    · intro W hSw
      try dsimp only at hSw
      go_simp
      try with_reducible rfl
    try simp only [Act.put]
    try simp only [List.setIfInBounds_toArray]
    try simp only [List.set_cons_succ]
    try simp only [List.set_cons_zero]
    refine takeD (i := 28) (v := ?_) (some 105) rfl rfl (by kernel_rfl) (by kernel_rfl) (by kernel_rfl) (fun _ _ _ h => h) (by rfl) hHeld ?_ ?_
    rotate_left
    · intro W hSw
      try dsimp only at hSw
      go_simp
      try with_reducible rfl
    try simp only [Act.put]
    try simp only [List.setIfInBounds_toArray]
    try simp only [List.set_cons_succ]
    try simp only [List.set_cons_zero]
    refine takeD (i := 29) (v := .bool true) (some 106) rfl rfl (by kernel_rfl) (by kernel_rfl) (by kernel_rfl) (fun _ _ _ h => h) (by rfl) hHeld ?_ ?_
    · intro W hSw
      try dsimp only at hSw
      first | (go_simp; done) | (go_simp; simp; done) | (go_simp; omega) | (go_simp; simp [*])
    try simp only [Act.put]
    try simp only [List.setIfInBounds_toArray]
    try simp only [List.set_cons_succ]
    try simp only [List.set_cons_zero]
    refine takeD (i := 30) (v := .bool true) (some 107) rfl rfl (by kernel_rfl) (by kernel_rfl) (by kernel_rfl) (fun _ _ _ h => h) (by rfl) hHeld ?_ ?_
    · intro W hSw
      try dsimp only at hSw
      first | (go_simp; done) | (go_simp; simp; done) | (go_simp; omega) | (go_simp; simp [*])
    try simp only [Act.put]
    try simp only [List.setIfInBounds_toArray]
    try simp only [List.set_cons_succ]
    try simp only [List.set_cons_zero]
    refine takeD (i := 31) (v := ?_) (some 2) rfl rfl (by kernel_rfl) (by kernel_rfl) (by kernel_rfl) (fun _ _ _ h => h) (by rfl) hHeld ?_ ?_
    rotate_left
    · intro W hSw
      try dsimp only at hSw
      go_simp
      try with_reducible rfl
    try simp only [Act.put]
    try simp only [List.setIfInBounds_toArray]
    try simp only [List.set_cons_succ]
    try simp only [List.set_cons_zero]
    refine wpAnyH_done (by kernel_rfl) ?_ _
    go_wp2
    go_ret
    exact ⟨rfl, B12.out.trans (L14.out.mono B12.out.size)⟩
  · have hke : (k == 1) = false := by simpa using hk
    go_wp2_with fail
    refine (lnStock_any RR _ _ HS w7 U7.out V7.out hL9).mono ?_
    rintro e w8 ⟨rfl, hb8⟩
    have B8 := hide_it (B2.out.trans ((E7.out.trans (hb8.mono E7.out.size)).mono B2.out.size))
    clear hb8
    go_wp2
    go_ret
    exact ⟨rfl, B8.out⟩

end Go.Proofs.YtcofnjooiemkfabDoor

namespace Go.Proofs.YtcofnjooiemkfabDoor
open Go.ChangeShapes Go.WideShapes Go.ChangeAt Go.WideMaps Go.WideElems Go.RowKit Go.Joins

set_option maxHeartbeats 1000000 in
theorem lawP24_great (ac : Option Addr) (nc cc : Nat) (w : World) (h : 1048576 < (nc : Int)) :
    Calls Tryd.prog 3 #[.slice ac nc cc] w fun e w' => e = .returned (.bool true) ∧ Below w.heap.size w w' := by
  go_enter Tryd.func3, Tryd.ntmps3
  go_wp2
  go_ret
  exact ⟨rfl, Below.refl _ _⟩

theorem lawP24_any (vc : Value) (nc : Nat) (a : Addr) (w : World) (hc : CodeAt w vc nc) (ha : ErrAt w a) :
    Calls Tryd.prog 3 #[vc] w fun e w' => e = .returned (.bool true) ∧ Below w.heap.size w w' := by
  by_cases h1 : nc ≤ 1048576
  · exact lawP24_small vc nc a w hc h1 ha
  · obtain ⟨ac, cc, rfl, _⟩ := hc
    exact lawP24_great ac nc cc w (by omega)

set_option maxRecDepth 100000 in
theorem p24_lifted (os : Os) (started : os.Started) (H : Type) (enc : TypeId × Value → H) :
    ReturnsInHanded {} Tryd.checked os 3 .any (fun w args => (Rows.fnStockKeepSpec.pre enc Tryd.prog Tryd.f3 [] false w args ∧ laidMetH Tryd.prog laidErr w) ∧ sizedMet enc Tryd.prog Tryd.f3 (OpenSpec.ofChange Rows.fnStockKeepSpec) false w args)
      (Rows.fnStockKeepSpec.post enc Tryd.prog Tryd.f3 false true false false) := by
  refine returnsInHanded_of_change_and (C := Tryd.checked) (X := fun w _ => laidMetH Tryd.prog laidErr w) (fun _ _ _ hh h => h.of_heap hh) own started (by kernel_rfl) Tryd.func3
    (ChangeSpec.witness_shaped (enc := enc) (C := Tryd.checked) (os := os) (X := fun w _ => laidMetH Tryd.prog laidErr w) false (World.doorLaid Tryd.prog 28 os) #[.slice none 0 0] 8 rfl (World.shaped_of_RefB (by kernel_rfl) (by kernel_rfl)) (by kernel_rfl) (by kernel_rfl) (by kernel_rfl) (door_met os _)) ?_
  intro W base args ds gs before hval0 hW _ _ hL _
  have hval : ∀ (j : Nat) t v, Tryd.f3.params[j]? = some t → args[j]? = some v → Value.okWide Tryd.prog W .any base t v := hval0
  have hW' := hW
  obtain ⟨p, q, hA0, hV0, rfl, hfz, hnd⟩ := hW
  have hA : DataW.TrodAll enc Tryd.prog W 0 (fun _ => true) true Tryd.f3.params.toList args.toList ds p := hA0
  have hV : DataW.TrodVars enc Tryd.prog W (fun _ => true) ["loop.example/concierge/impl.errNoRec"] gs q := hV0
  rw [Tryd.params3] at hA hval
  obtain ⟨v0, d0, rfl, rfl, h0⟩ := trodAll_one hA
  obtain ⟨a, hErr, hvar⟩ := of_laid hL
  have vr : ∀ {X : World}, X.var? Tryd.prog "loop.example/concierge/impl.errNoRec" = some #[.iface 99 (.pointer (some a))] → ∀ sp : Nat → Bool,
      DataW.TrodVars enc Tryd.prog X sp ["loop.example/concierge/impl.errNoRec"] [tok enc (.iface 99 (.pointer (some a)))] [.cell 0 0] :=
    fun x0 sp => vars_read1 enc gErr gErrType Tryd.underlying69 x0 trivial sp
  obtain ⟨rfl, rfl⟩ := hV.unique (vr hvar _)
  clear hA0 hV0 hval0
  obtain ⟨nc, hC, _⟩ := open_code (hval 0 22 v0 rfl rfl) h0
  refine (lawP24_any v0 nc a W hC hErr).mono fun e W' ⟨he, hb⟩ => ?_
  subst he
  have hlt : ∀ x ∈ p, x.block < W.heap.size := fun x hx => hW'.lt x (by simp [hx])
  refine ⟨_, rfl, _, _, _, [], p, [.cell 0 0], hW', ?_, ?_, ?_, hb.frame _, fun h => by cases h⟩
  · exact trodAll_mk1 (shut_bool Tryd.underlying4 true)
  · exact trodAll_mk1 (Below.trod laidOut (by kernel_rfl) (of_decide_eq_true (by kernel_rfl)) h0 hb hlt)
  · exact vr (var?_below hb gErr (World.block_lt_of_cell? _ _ hErr) hvar) _

theorem p24_said : Rows.FnStockKeepSaid :=
  OpenClaim.holds_of_wide 3 Tryd.f3 rfl rfl rfl rfl rfl rfl rfl ⟨rfl, rfl, rfl, rfl, rfl⟩ rfl rfl rfl rfl rfl (by kernel_rfl) Tryd.func3 (by kernel_rfl)
    (of_decide_eq_true (by kernel_rfl)) (by unfold Func.isWrapper; first | (rw [if_pos (by decide +kernel)]; kernel_rfl) | (rw [if_neg (by decide +kernel)]; exact ⟨rfl, rfl⟩))
    (fun os started H enc _ => p24_lifted os started H enc)

theorem p24_plain (f : FuncId) (fn : Func) (hf : Tryd.pinned.checked.prog.funcNamed "loop.example/concierge/laws.FnStockKeep" = some f) (hfn : Tryd.pinned.checked.prog.funcs[f]? = some fn) :
    true = Tryd.pinned.checked.prog.looks [] ∧ ∀ (j : Nat) t, fn.params[j]? = some t → Tryd.pinned.checked.prog.wantsStandIn t = false := by
  obtain rfl : f = 3 := Option.some.inj ((show Tryd.prog.funcNamed "loop.example/concierge/laws.FnStockKeep" = some 3 by kernel_rfl).symm.trans hf) |>.symm
  obtain rfl : fn = Tryd.f3 := (Option.some.inj (Tryd.func3.symm.trans hfn)).symm
  refine ⟨by kernel_rfl, fun j t ht => ?_⟩
  rw [Tryd.params3] at ht
  obtain rfl : t = 22 := by simpa using Array.mem_of_getElem? ht
  exact (show Tryd.prog.wantsStandIn 22 = false by kernel_rfl)

theorem p24_card : Rows.FnStockKeepCardSaid :=
  Claim7.holds_tied_plain_at .later [] _ _ _ _ p24_said (fun _ h => by cases h) (by kernel_rfl) (fun _ h => by cases h) fnStockKeep_row_tie rfl ⟨rfl, rfl⟩ (by kernel_rfl) rfl p24_plain (by kernel_rfl)
#print axioms p24_card

end Go.Proofs.YtcofnjooiemkfabDoor
