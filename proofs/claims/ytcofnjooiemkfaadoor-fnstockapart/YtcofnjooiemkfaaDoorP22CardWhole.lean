/- FnStockApart answers true whatever the codes, and they read afterwards as they read before: promise 22 at every drawn stock and record. The card: the sentinel's variable starts as the program's text lays it. -/
import Derived.Test.YtcofnjooiemkfaaDoorBase5

namespace Go.Proofs.YtcofnjooiemkfaaDoor
open Go.RowKit
namespace Pl
theorem recOk_h1 {t : Int} (ht : 1 ≤ t ∧ t ≤ 6) : recOk 1 t [1] = true := by
  rw [recOk_1 t [1] (inB_mk ht.1 ht.2)]; rfl
theorem recOk_u {t : Int} (ht : 1 ≤ t ∧ t ≤ 6) : recOk 3 t [] = true := by
  rw [recOk_p 3 t [] (inB_mk ht.1 ht.2) (by decide) (by decide)]; rfl
theorem recOk_c {t : Int} (ht : 1 ≤ t ∧ t ≤ 6) : recOk 2 t [] = true := by
  rw [recOk_p 2 t [] (inB_mk ht.1 ht.2) (by decide) (by decide)]; rfl
theorem sDo_ok {room : Int} {hs : List H} {k t : Int} {zs : List Int} {x : H} (h : sOk room hs = true) (h2 : recOk k t zs = true) (hn : next (hAt hs t) k (zs.headD 0) (free room hs) = some x) : sDo room hs k t zs = some (hs.set (at_ t) x) := by
  unfold sDo; rw [behind_ok h h2, hn]; rfl
theorem sDo_no {room : Int} {hs : List H} {k t : Int} {zs : List Int} (hn : next (hAt hs t) k (zs.headD 0) (free room hs) = none) : sDo room hs k t zs = none := by
  unfold sDo behind
  split
  · rw [hn]; rfl
  · rfl
theorem at_lt6 {t : Int} (ht : 1 ≤ t ∧ t ≤ 6) : at_ t < 6 := by unfold at_; omega
/-- A hold of one, and then an undo. -/
theorem undone {room : Int} {hs : List H} {t : Int} (ok : sOk room hs = true) (ht : 1 ≤ t ∧ t ≤ 6) :
    (sDo room hs 1 t [1] = none ∧ ((hAt hs t).2 ≠ 0 ∨ sFree room hs = 0)) ∨
    (∃ h2 h3, sDo room hs 1 t [1] = some h2 ∧ sDo room h2 3 t [] = some h3 ∧ sDo room h3 1 t [1] = none ∧ sFree room h3 = sFree room hs ∧ hAt h3 t = (1, 3) ∧ h2.length = 6 ∧ h3.length = 6) := by
  have h6 := (sOk_parts ok).2.2.1
  have hat : at_ t < hs.length := by rw [h6]; exact at_lt6 ht
  have hf := (sFree_of ok)
  by_cases c : (hAt hs t).2 = 0 ∧ (1 : Int) ≤ free room hs
  · have hn : next (hAt hs t) 1 (([1] : List Int).headD 0) (free room hs) = some (1, 1) := by simp [next, c.1, c.2]
    have d2 := sDo_ok ok (recOk_h1 ht) hn
    have ok2 := sDo_keeps d2
    have e2 : hAt (hs.set (at_ t) (1, 1)) t = (1, 1) := hAt_set hat
    have hn2 : next (hAt (hs.set (at_ t) (1, 1)) t) 3 (([] : List Int).headD 0) (free room (hs.set (at_ t) (1, 1))) = some (1, 3) := by rw [e2]; simp [next]
    have d3 := sDo_ok ok2 (recOk_u ht) hn2
    have ok3 := sDo_keeps d3
    have hl2 : at_ t < (hs.set (at_ t) (1, 1)).length := by rw [List.length_set]; exact hat
    have e3 : hAt ((hs.set (at_ t) (1, 1)).set (at_ t) (1, 3)) t = (1, 3) := hAt_set hl2
    have hh : (hAt hs t).1 = 0 := by
      have hm := (List.all_eq_true.1 (sOk_parts ok).1) _ (hAt_mem hs t hat)
      have e : hAt hs t = ((hAt hs t).1, 0) := by rw [← c.1]
      rw [e, hOk_0] at hm
      exact of_decide_eq_true hm
    have f3 : free room ((hs.set (at_ t) (1, 1)).set (at_ t) (1, 3)) = free room hs := by
      rw [free_set _ _ _ _ hl2, free_set _ _ _ _ hat]
      have g1 : (hs.set (at_ t) (1, 1)).getD (at_ t) (0, 0) = (1, 1) := e2
      have g0 : hHad (hs.getD (at_ t) (0, 0)) = 0 := hHad_x (hAt hs t).1 (hAt hs t).2 (by omega) (by omega)
      rw [g1, g0, hHad_1, hHad_x _ _ (by decide) (by decide)]
      omega
    refine Or.inr ⟨_, _, d2, d3, sDo_no (by rw [e3]; simp [next]), ?_, e3, by simp [h6], by simp [h6]⟩
    rw [sFree_yes ok3, hf.1, f3]
  · refine Or.inl ⟨sDo_no (by simp only [next, if_true]; rw [if_neg (by simpa using c)]), ?_⟩
    by_cases c0 : (hAt hs t).2 = 0
    · right
      have : ¬ (1 : Int) ≤ free room hs := fun e => c ⟨c0, e⟩
      omega
    · exact Or.inl c0
end Pl

/-- What lies at a trip's place. -/
theorem hold_at {W : World} {au : Option Addr} {n cu : Nat} {hs : List Pl.H} {t : Int} (h : Holds W (.slice au n cu) hs) (h6 : hs.length = 6) (ht : 1 ≤ t ∧ t ≤ 6) :
    ∃ b off, au = some ⟨b, off, none⟩ ∧ (W.cell? ⟨b, off + Pl.at_ t * 2, none⟩ = some (.int .i64 (Pl.hAt hs t).1) ∧ W.cell? ⟨b, off + Pl.at_ t * 2 + 1, none⟩ = some (.int .i64 (Pl.hAt hs t).2)) := by
  rcases h with ⟨h0, _⟩ | ⟨b', off, cap', hv, _, hc⟩
  · rw [h0] at h6; simp at h6
  · simp only [Value.slice.injEq] at hv
    exact ⟨b', off, hv.1, hc _ (by rw [h6]; exact Pl.at_lt6 ht)⟩
theorem lit1 (w : World) (z : Int) : Ints (w.alloc (.cells #[.int .i64 z] 3)) (.slice (some ⟨w.heap.size, 0, none⟩) 1 1) [z] := by
  refine Or.inr ⟨_, 0, 1, rfl, by simp, fun j hj => ?_⟩
  obtain rfl : j = 0 := by simpa using hj
  simp
namespace Pl
theorem next_free {h x : H} {k m f1 f2 : Int} {x2 : H} (h1 : next h k m f1 = some x) (h2 : next h k m f2 = some x2) : x = x2 := by
  rcases next_kinds h1 with ⟨rfl, _, _, rfl⟩ | ⟨rfl, _, rfl⟩ | ⟨rfl, _, rfl⟩ <;> rcases next_kinds h2 with ⟨e, _, _, rfl⟩ | ⟨e, _, rfl⟩ | ⟨e, _, rfl⟩ <;> first | rfl | (exact absurd e (by decide))
theorem next_ok {h x : H} {k m f1 f2 : Int} (h1 : next h k m f1 = some x) (hf : k = 1 → m ≤ f2) : next h k m f2 = some x := by
  rcases next_kinds h1 with ⟨rfl, a, _, rfl⟩ | ⟨rfl, a, rfl⟩ | ⟨rfl, a, rfl⟩
  · simp [next, a, hf rfl]
  · simp [next, a]
  · simp only [next, if_true, show ¬ (3 : Int) = 1 by decide, show ¬ (3 : Int) = 2 by decide, if_false]; rw [if_pos a]
/-- Two trips do not mind which is first. -/
theorem apart {room : Int} {hs x a y : List H} {k t k2 t2 : Int} {zs zs2 : List Int} (h1 : sDo room hs k t zs = some x) (h2 : sDo room x k2 t2 zs2 = some a) (h3 : sDo room hs k2 t2 zs2 = some y) (hne : t2 ≠ t) : sDo room y k t zs = some a := by
  obtain ⟨p, n1, e1, ok, r1, okx⟩ := sDo_some h1
  obtain ⟨q, n2, e2, -, r2, oka⟩ := sDo_some h2
  obtain ⟨q', n3, e3, -, -, oky⟩ := sDo_some h3
  have ht := recOk_trip r1
  have ht2 := recOk_trip r2
  have hat : at_ t ≠ at_ t2 := by unfold at_; omega
  have h6 := (sOk_parts ok).2.2.1
  have hi : at_ t < hs.length := by rw [h6]; exact at_lt6 ht
  have hj : at_ t2 < hs.length := by rw [h6]; exact at_lt6 ht2
  have ex : hAt x t2 = hAt hs t2 := by rw [e1]; exact hAt_set_ne hat
  rw [ex] at n2
  obtain rfl : q = q' := next_free n2 n3
  have ey : hAt y t = hAt hs t := by rw [e3]; exact hAt_set_ne (Ne.symm hat)
  have fy : free room y = free room hs + hHad (hAt hs t2) - hHad q := by rw [e3]; exact free_set room hs _ q hj
  have fx : free room x = free room hs + hHad (hAt hs t) - hHad p := by rw [e1]; exact free_set room hs _ p hi
  have b2 := hHad_bd _ ((List.all_eq_true.1 (sOk_parts ok).1) _ (hAt_mem hs t2 hj))
  have e5 : ∀ h : H, h.2 = 0 → hHad h = 0 := fun h e => hHad_x h.1 h.2 (by omega) (by omega)
  have e3' : ∀ m : Int, hHad (m, 3) = 0 := fun m => hHad_x m 3 (by decide) (by decide)
  have n4 : next (hAt y t) k (zs.headD 0) (free room y) = some p := by
    rw [ey]
    refine next_ok n1 fun hk => ?_
    subst hk
    rcases next_kinds n1 with ⟨-, s1, m1, rfl⟩ | ⟨e, _⟩ | ⟨e, _⟩
    · rw [e5 _ s1, hHad_1] at fx
      rcases next_kinds n2 with ⟨-, s2, m2, rfl⟩ | ⟨-, s2, rfl⟩ | ⟨-, s2, rfl⟩
      · rw [e5 _ s2, hHad_1] at fy; omega
      · have : hHad (hAt hs t2) = (hAt hs t2).1 := by
          have e : hAt hs t2 = ((hAt hs t2).1, 1) := by rw [← s2]
          rw [e, hHad_1]
        rw [hHad_2] at fy; omega
      · rw [e3'] at fy; omega
    · exact absurd e (by decide)
    · exact absurd e (by decide)
  have := sDo_ok oky r1 n4
  rw [this, e3, e2, e1, List.set_comm _ _ hat]
end Pl

set_option maxRecDepth 100000 in
set_option maxHeartbeats 8000000 in
theorem lawP22_small (vc : Value) (nc : Nat) (am : Option Addr) (nm cm : Nat) (a : Addr) (w : World) (hc : CodeAt w vc nc) (hcn : nc ≤ 1048576) (hmn : nm ≤ 1048576) (ha : ErrAt w a) :
    Calls Tryd.prog 8 #[vc, .slice am nm cm] w fun e w' => e = .returned (.bool true) ∧ Below w.heap.size w w' := by
  have HD := hide_it (drawDo_any vc nc w hc hcn)
  have HA : Hid (∀ W, Below w.heap.size w W → ErrAt W a) := fun W hb => ha.later hb (Nat.le_refl _)
  obtain ⟨ac, cc, rfl, _⟩ := hc
  have hci : (nc : Int) ≤ 1048576 := by omega
  have hmi : (nm : Int) ≤ 1048576 := by omega
  clear hcn ha
  go_enter Tryd.func8, Tryd.ntmps8
  go_wp2_with fail
  refine HD.out.mono ?_
  rintro e w1 ⟨room, u, hs, k, t, uz, zs, rfl, hl, hzl, hH, hI, hb1⟩
  have B1 := hide_it hb1
  have H1 := hide_it hH
  have I1 := hide_it hI
  obtain ⟨au, cu, rfl⟩ := hH.shape
  obtain ⟨az, cz, rfl⟩ := hI.shape
  clear hb1 hH hI HD
  have hl9 : hs.length ≤ 1048576 := by omega
  have hz9 : zs.length ≤ 1048576 := by omega
  obtain ⟨w2, hw2⟩ : ∃ W, Hid (W = (w1.alloc (.cells #[.int .i64 room, .slice au hs.length cu] 25)).alloc (.cells #[.int .i64 k, .int .i64 t, .slice az zs.length cz] 28)) := ⟨_, rfl⟩
  have al2 : Hid (Below w1.heap.size w1 w2) := by show Below _ _ _; rw [hw2.out]; exact below2 _ _ _
  have B2 := hide_it (B1.out.trans (al2.out.mono B1.out.size))
  have P2 : Hid (Pr w2 w1.heap.size room (.slice au hs.length cu) k t (.slice az zs.length cz)) := by show Pr _ _ _ _ _ _ _; rw [hw2.out]; exact Pr.new _ _ _ _ _ _ _ _
  have H2 := hide_it (H1.out.later al2.out (Nat.le_refl _))
  have I2 := hide_it (I1.out.later al2.out (Nat.le_refl _))
  obtain ⟨OO, hOO⟩ : ∃ x, Hid (Pl.sDo room hs k t zs = x) := ⟨_, rfl⟩
  obtain ⟨RR, hRR⟩ : ∃ x, oR room OO = x := ⟨_, rfl⟩
  obtain ⟨HS, hHS⟩ : ∃ x, oH OO = x := ⟨_, rfl⟩
  obtain ⟨BB, hBB⟩ : ∃ x, OO.isSome = x := ⟨_, rfl⟩
  have SP : Hid (∀ W, Below w2.heap.size w2 W → Calls Tryd.prog 10 #[.agg #[.int .i64 room, .slice au hs.length cu], .agg #[.int .i64 k, .int .i64 t, .slice az zs.length cz]] W fun e w' => StOut W w' e RR HS BB) := fun W hb => by
    have := specDo_any room _ hs k t _ zs W (H2.out.later hb (Nat.le_refl _)) hl9 (I2.out.later hb (Nat.le_refl _)) hz9
    rw [hOO.out, hRR, hHS, hBB] at this; exact this
  have IM : Hid (∀ W, Below w2.heap.size w2 W → Calls Tryd.prog 11 #[.agg #[.int .i64 room, .slice au hs.length cu], .agg #[.int .i64 k, .int .i64 t, .slice az zs.length cz]] W fun e w' => StOut W w' e RR HS BB) := fun W hb => by
    have := implDo_any room _ hs k t _ zs a W (H2.out.later hb (Nat.le_refl _)) hl9 (I2.out.later hb (Nat.le_refl _)) hz9 (HA.out _ (B2.out.trans (hb.mono B2.out.size)))
    rw [hOO.out, hRR, hHS, hBB] at this; exact this
  have hL9 : HS.length ≤ 1048576 := by
    rw [← hHS]
    cases hq : OO with
    | none => simp [oH]
    | some x => have h1 := hOO.out; rw [hq] at h1; have h2 := Pl.sDo_len h1; show x.length ≤ 1048576; omega
  have FIN : Hid (BB = true → RR = room ∧ Pl.sDo room hs k t zs = some HS) := fun h => by
    cases hq : OO with
    | none => rw [hq] at hBB; rw [← hBB] at h; cases h
    | some x =>
      rw [hq] at hRR hHS
      exact ⟨hRR.symm, by rw [hOO.out, hq]; exact congrArg some hHS⟩
  clear hOO hRR hHS hBB
  go_wp2_with fail
  rw [← hw2.out]
  refine (SP.out w2 (Below.refl _ _)).mono ?_
  rintro e w3 ⟨a3, c3, rfl, ho3, hb3⟩
  obtain ⟨w4, hw4⟩ : ∃ W, Hid (W = w3.alloc (.cells #[.int .i64 RR, .slice a3 HS.length c3] 25)) := ⟨_, rfl⟩
  have al4 : Below w3.heap.size w3 w4 := by rw [hw4.out]; exact alloc_below _ _
  have E4 := hide_it (hb3.trans (al4.mono hb3.size))
  have Z4 : Hid (Duo w4 w3.heap.size (.int .i64 RR) (.slice a3 HS.length c3)) := by show Duo _ _ _ _; rw [hw4.out]; exact Duo.new w3 _ _ _
  have V4 := hide_it ((holds_of_row ho3).later al4 (Nat.le_refl _))
  obtain ⟨⟨c0, c1⟩, ⟨r0, r1, r2⟩⟩ := P2.out.later hb3 (Nat.le_refl _)
  have k0 := fun o => cellAlloc c0 o
  have k1 := fun o => cellAlloc c1 o
  have k2 := fun o => cellAlloc r0 o
  have k3 := fun o => cellAlloc r1 o
  have k4 := fun o => cellAlloc r2 o
  have hl1 : w1.heap.size < w3.heap.size := World.block_lt_of_cell? _ _ c0
  have hl2 : w1.heap.size + 1 < w3.heap.size := World.block_lt_of_cell? _ _ r0
  clear ho3 hb3 al4
  go_wp2_with fail
  rw [← hw4.out]
  refine (IM.out w4 E4.out).mono ?_
  rintro e w5 ⟨a5, c5, rfl, ho5, hb5⟩
  obtain ⟨w6, hw6⟩ : ∃ W, Hid (W = w5.alloc (.cells #[.int .i64 RR, .slice a5 HS.length c5] 25)) := ⟨_, rfl⟩
  have al6 : Below w5.heap.size w5 w6 := by rw [hw6.out]; exact alloc_below _ _
  have e6 : Below w4.heap.size w4 w6 := hb5.trans (al6.mono hb5.size)
  have E6 := hide_it (E4.out.trans (e6.mono E4.out.size))
  have X6 : Hid (Duo w6 w5.heap.size (.int .i64 RR) (.slice a5 HS.length c5)) := by show Duo _ _ _ _; rw [hw6.out]; exact Duo.new w5 _ _ _
  have Z5 := hide_it (Z4.out.later hb5 (Nat.le_refl _))
  have Z6 := hide_it (Z4.out.later e6 (Nat.le_refl _))
  have V6 := hide_it (V4.out.later e6 (Nat.le_refl _))
  have U6 := hide_it ((holds_of_row ho5).later al6 (Nat.le_refl _))
  clear k0 k1 k2 k3 k4 c0 c1 r0 r1 r2
  obtain ⟨z0, z1⟩ := Z5.out
  have z0o := fun o => cellAlloc z0 o
  have z1o := fun o => cellAlloc z1 o
  have hzl3 := Z5.out.lt
  clear ho5 hb5 al6 e6
  cases BB
  · go_wp2_with fail
    rw [← hw6.out]
    refine (lnStock_any RR _ _ HS w6 U6.out V6.out hL9).mono ?_
    rintro e w7 ⟨rfl, hb7⟩
    have E7 := hide_it (E6.out.trans (hb7.mono E6.out.size))
    have U7 := hide_it (U6.out.later hb7 (Nat.le_refl _))
    have V7 := hide_it (V6.out.later hb7 (Nat.le_refl _))
    obtain ⟨p0, p1⟩ := Z6.out.later hb7 (Nat.le_refl _)
    obtain ⟨q0, q1⟩ := X6.out.later hb7 (Nat.le_refl _)
    clear hb7 z0 z1 z0o z1o
    go_wp2_with fail
    refine (lnStock_any RR _ _ HS w7 U7.out V7.out hL9).mono ?_
    rintro e w8 ⟨rfl, hb8⟩
    have B8 := hide_it (B2.out.trans ((E7.out.trans (hb8.mono E7.out.size)).mono B2.out.size))
    clear hb8
    go_wp2
    go_ret
    exact ⟨rfl, B8.out⟩
  obtain ⟨e1, hDO⟩ := FIN.out rfl
  subst e1
  clear FIN SP IM
  have HDO := hide_it hDO
  clear hDO
  go_wp2_with fail
  rw [← hw6.out]
  refine (lnStock_any RR _ _ HS w6 U6.out V6.out hL9).mono ?_
  rintro e w7 ⟨rfl, hb7⟩
  have E7 := hide_it (E6.out.trans (hb7.mono E6.out.size))
  have U7 := hide_it (U6.out.later hb7 (Nat.le_refl _))
  have X7 := hide_it (X6.out.later hb7 (Nat.le_refl _))
  have hX := X7.out.lt
  clear hb7 z0 z1 z0o z1o hzl3 V6 Z6 Z5 Z4 V4
  obtain ⟨N, hN⟩ : ∃ N : Nat, nm % 6 = N := ⟨_, rfl⟩
  have hN6 : N < 6 := by omega
  have hMt : Int.tmod (nm : Int) 6 = (N : Int) := by rw [Int.tmod_eq_emod_of_nonneg (by omega)]; omega
  clear hN
  obtain ⟨T, hT⟩ : ∃ T : Int, 1 + (N : Int) = T := ⟨_, rfl⟩
  have ht : 1 ≤ T ∧ T ≤ 6 := by omega
  have hat : Pl.at_ T = N := by unfold Pl.at_; omega
  have hT1 : T - 1 = (N : Int) := by omega
  have hNi : (N : Int) < 6 := by omega
  have HT1 := hide_it hT1
  have HAT := hide_it hat
  clear hT1 hat
  have DO : Hid (∀ (H : List Pl.H) (v : Value) (kk tt : Int) (u : Value) (z : List Int) (W : World) (oo : Option (List Pl.H)), Below w7.heap.size w7 W → H.length ≤ 1048576 → Holds W v H → Ints W u z → z.length ≤ 4 → Pl.sDo RR H kk tt z = oo → Calls Tryd.prog 11 #[.agg #[.int .i64 RR, v], .agg #[.int .i64 kk, .int .i64 tt, u]] W fun e w' => StOut W w' e (oR RR oo) (oH oo) oo.isSome) := fun H v kk tt u z W oo hb hH hv hu hz he => by
    have := implDo_any RR v H kk tt u z a W hv hH hu (by omega) (HA.out _ (B2.out.trans ((E7.out.trans (hb.mono E7.out.size)).mono B2.out.size)))
    rw [he] at this; exact this
  obtain ⟨Dn, hD⟩ : ∃ D : Nat, nm / 6 = D := ⟨_, rfl⟩
  have hDt : Int.tdiv (nm : Int) 6 = (Dn : Int) := by rw [← hD]; exact (Int.ofNat_tdiv _ _).symm
  obtain ⟨Qn, hQ⟩ : ∃ Q : Nat, Dn % 3 = Q := ⟨_, rfl⟩
  have hQt : Int.tmod (Dn : Int) 3 = (Qn : Int) := by rw [← hQ]; exact (Int.ofNat_tmod _ _).symm
  have hQ3 : (Qn : Int) < 3 := by omega
  have hDw : wrap64 (Dn : Int) = (Dn : Int) := by have : Dn ≤ 1048576 := by omega
                                                  unfold wrap64; omega
  clear hD hQ
  obtain ⟨x0, x1⟩ := X7.out
  have hlx : w5.heap.size < w7.heap.size := World.block_lt_of_cell? _ _ x0
  obtain rfl | rfl | rfl : Qn = 0 ∨ Qn = 1 ∨ Qn = 2 := by omega
  · have hQt : Int.tmod (Dn : Int) 3 = 0 := hQt
    obtain ⟨w8, hw8⟩ : ∃ W, Hid (W = ((w7.alloc (.cells #[.int .i64 1, .int .i64 2, .int .i64 3] 3)).alloc (.cells #[.int .i64 1, .int .i64 T, .slice (some ⟨w7.heap.size + 1 + 1, 0, none⟩) 1 1] 28)).alloc (.cells #[.int .i64 1] 3)) := ⟨_, rfl⟩
    have al8 : Below w7.heap.size w7 w8 := by rw [hw8.out]; exact ((below2 _ _ _).trans ((alloc_below _ _).mono (by simp; omega)))
    have L8 := hide_it al8
    have O8 : Hid (RecAt w8 (w7.heap.size + 1) 1 T (.slice (some ⟨w7.heap.size + 1 + 1, 0, none⟩) 1 1)) := by
      show RecAt _ _ _ _ _
      have := RecAt.new (w7.alloc (.cells #[.int .i64 1, .int .i64 2, .int .i64 3] 3)) 1 T (.slice (some ⟨w7.heap.size + 1 + 1, 0, none⟩) 1 1) 28
      rw [World.size_alloc] at this
      rw [hw8.out]; exact this.later (alloc_below _ _) (Nat.le_refl _)
    have J8 : Hid (Ints w8 (.slice (some ⟨w7.heap.size + 1 + 1, 0, none⟩) 1 1) [1]) := by
      show Ints _ _ _
      rw [hw8.out]
      have := lit1 ((w7.alloc (.cells #[.int .i64 1, .int .i64 2, .int .i64 3] 3)).alloc (.cells #[.int .i64 1, .int .i64 T, .slice (some ⟨w7.heap.size + 1 + 1, 0, none⟩) 1 1] 28)) 1
      rw [World.size_alloc, World.size_alloc] at this
      exact this
    have U8 := hide_it (U7.out.later al8 (Nat.le_refl _))
    have q0 := fun o0 o1 o2 => (cellAlloc (cellAlloc (cellAlloc x0 o0) o1) o2)
    have q1 := fun o0 o1 o2 => (cellAlloc (cellAlloc (cellAlloc x1 o0) o1) o2)
    clear al8
    obtain ⟨OA, hOA⟩ : ∃ x, Hid (Pl.sDo RR HS 1 T [1] = x) := ⟨_, rfl⟩
    obtain ⟨OY, hOY⟩ : ∃ x, Hid (Pl.sDo RR hs 1 T [1] = x) := ⟨_, rfl⟩
    have CA := DO.out HS (.slice a5 HS.length c5) 1 T (.slice (some ⟨w7.heap.size + 1 + 1, 0, none⟩) 1 1) [1] w8 OA L8.out hL9 U8.out J8.out (by simp) hOA.out
    have CY : ∀ W, Below w8.heap.size w8 W → Calls Tryd.prog 11 #[.agg #[.int .i64 RR, .slice au hs.length cu], .agg #[.int .i64 1, .int .i64 T, .slice (some ⟨w7.heap.size + 1 + 1, 0, none⟩) 1 1]] W fun e w' => StOut W w' e (oR RR OY) (oH OY) OY.isSome := fun W hb =>
      DO.out hs (.slice au hs.length cu) 1 T (.slice (some ⟨w7.heap.size + 1 + 1, 0, none⟩) 1 1) [1] W OY (L8.out.trans (hb.mono L8.out.size)) hl9 (H2.out.later (E7.out.trans ((L8.out.trans (hb.mono L8.out.size)).mono E7.out.size)) (Nat.le_refl _)) (J8.out.later hb (Nat.le_refl _)) (by simp) hOY.out
    obtain ⟨RA, hRA⟩ : ∃ x, oR RR OA = x := ⟨_, rfl⟩
    obtain ⟨GA, hGA⟩ : ∃ x, oH OA = x := ⟨_, rfl⟩
    obtain ⟨BA, hBA⟩ : ∃ x, OA.isSome = x := ⟨_, rfl⟩
    obtain ⟨RY, hRY⟩ : ∃ x, oR RR OY = x := ⟨_, rfl⟩
    obtain ⟨GY, hGY⟩ : ∃ x, oH OY = x := ⟨_, rfl⟩
    obtain ⟨BY, hBY⟩ : ∃ x, OY.isSome = x := ⟨_, rfl⟩
    have FA : Hid (BA = true → RA = RR ∧ Pl.sDo RR HS 1 T [1] = some GA) := fun h => by
      cases hq : OA with
      | none => rw [hq] at hBA; rw [← hBA] at h; cases h
      | some x =>
        rw [hq] at hRA hGA
        exact ⟨hRA.symm, by rw [hOA.out, hq]; exact congrArg some hGA⟩
    have FY : Hid (BY = true → RY = RR ∧ Pl.sDo RR hs 1 T [1] = some GY) := fun h => by
      cases hq : OY with
      | none => rw [hq] at hBY; rw [← hBY] at h; cases h
      | some x =>
        rw [hq] at hRY hGY
        exact ⟨hRY.symm, by rw [hOY.out, hq]; exact congrArg some hGY⟩
    rw [hRA, hGA, hBA] at CA
    rw [hRY, hGY, hBY] at CY
    have CA := hide_it CA
    have CY := hide_it CY
    clear hRA hGA hBA hRY hGY hBY hOA hOY J8
    go_wp2_with fail
    rw [← hw8.out]
    refine CA.out.mono ?_
    rintro e w9 ⟨a9, c9, rfl, ho9, hb9⟩
    have V9 : Hid (Holds w9 (.slice a9 GA.length c9) GA) := hide_it (holds_of_row ho9)
    have S9 := hide_it (E7.out.trans (((L8.out.trans (hb9.mono L8.out.size))).mono E7.out.size))
    have N9 := hide_it hb9
    obtain ⟨⟨c0, c1⟩, -⟩ := P2.out.later S9.out (Nat.le_refl _)
    obtain ⟨r0, r1, r2⟩ := O8.out.later hb9 (Nat.le_refl _)
    have k0 := fun o => cellAlloc c0 o
    have k1 := fun o => cellAlloc c1 o
    have k2 := fun o => cellAlloc r0 o
    have k3 := fun o => cellAlloc r1 o
    have k4 := fun o => cellAlloc r2 o
    have hl1 : w1.heap.size < w9.heap.size := World.block_lt_of_cell? _ _ c0
    have hl2 : w7.heap.size + 1 < w9.heap.size := World.block_lt_of_cell? _ _ r0
    obtain ⟨w10, hw10⟩ : ∃ W, Hid (W = w9.alloc (.cells #[.int .i64 RA, .slice a9 GA.length c9] 25)) := ⟨_, rfl⟩
    have al10 : Below w9.heap.size w9 w10 := by rw [hw10.out]; exact alloc_below _ _
    have A10 : Hid (Duo w10 w9.heap.size (.int .i64 RA) (.slice a9 GA.length c9)) := by show Duo _ _ _ _; rw [hw10.out]; exact Duo.new w9 _ _ _
    have V10 := hide_it (V9.out.later al10 (Nat.le_refl _))
    have N10 := hide_it (N9.out.trans (al10.mono N9.out.size))
    clear ho9 hb9 al10 q0 q1 x0 x1
    go_wp2_with fail
    rw [← hw10.out]
    refine (CY.out w10 N10.out).mono ?_
    rintro e w11 ⟨a11, c11, rfl, ho11, hb11⟩
    have Y11 : Hid (Holds w11 (.slice a11 GY.length c11) GY) := hide_it (holds_of_row ho11)
    have V11 := hide_it (V10.out.later hb11 (Nat.le_refl _))
    have A11 := hide_it (A10.out.later hb11 (Nat.le_refl _))
    have N11 := hide_it (N10.out.trans (hb11.mono N10.out.size))
    clear ho11 hb11 k0 k1 k2 k3 k4 c0 c1 r0 r1 r2 hl1 hl2
    obtain ⟨w12, hw12⟩ : ∃ W, Hid (W = w11.alloc (.cells #[.int .i64 RY, .slice a11 GY.length c11] 25)) := ⟨_, rfl⟩
    have al12 : Below w11.heap.size w11 w12 := by rw [hw12.out]; exact alloc_below _ _
    have N12 := hide_it (N11.out.trans (al12.mono N11.out.size))
    have Y12 : Hid (Duo w12 w11.heap.size (.int .i64 RY) (.slice a11 GY.length c11)) := by show Duo _ _ _ _; rw [hw12.out]; exact Duo.new w11 _ _ _
    have V12 := hide_it (V11.out.later al12 (Nat.le_refl _))
    have A12 := hide_it (A11.out.later al12 (Nat.le_refl _))
    have D12 := hide_it (Y11.out.later al12 (Nat.le_refl _))
    have S11 := hide_it (E7.out.trans ((L8.out.trans (N11.out.mono L8.out.size)).mono E7.out.size))
    have S12 := hide_it (S11.out.trans (al12.mono S11.out.size))
    have B12 := hide_it (B2.out.trans (S12.out.mono B2.out.size))
    clear al12
    obtain ⟨⟨c0, c1⟩, ⟨r0, r1, r2⟩⟩ := P2.out.later S11.out (Nat.le_refl _)
    have k0 := fun o => cellAlloc c0 o
    have k1 := fun o => cellAlloc c1 o
    have k2 := fun o => cellAlloc r0 o
    have k3 := fun o => cellAlloc r1 o
    have k4 := fun o => cellAlloc r2 o
    have hl1 : w1.heap.size < w11.heap.size := World.block_lt_of_cell? _ _ c0
    have hl2 : w1.heap.size + 1 < w11.heap.size := World.block_lt_of_cell? _ _ r0
    by_cases hTt : T = t
    · have hTe : (T == t) = true := by simpa using hTt
      go_wp2
      go_ret
      exact ⟨rfl, by rw [← hw12.out]; exact B12.out⟩
    have hTe : (T == t) = false := by simpa using hTt
    cases BA
    · go_wp2
      go_ret
      exact ⟨rfl, by rw [← hw12.out]; exact B12.out⟩
    cases BY
    · go_wp2
      go_ret
      exact ⟨rfl, by rw [← hw12.out]; exact B12.out⟩
    obtain ⟨e1, dA⟩ := FA.out rfl
    obtain ⟨e2, dY⟩ := FY.out rfl
    subst e1 e2
    have dB := hide_it (Pl.apart HDO.out dA dY hTt)
    have hGA : GA.length ≤ 1048576 := by have := Pl.sDo_len dA; omega
    have hGY : GY.length ≤ 1048576 := by have := Pl.sDo_len dY; omega
    clear dA dY CA CY FA FY
    go_wp2_with fail
    rw [← hw12.out]
    refine (DO.out GY _ k t _ zs w12 (some GA) (L8.out.trans (N12.out.mono L8.out.size)) hGY D12.out (I2.out.later S12.out (Nat.le_refl _)) hzl dB.out).mono ?_
    rintro e w13 ⟨a13, c13, rfl, ho13, hb13⟩
    have orr : oR RY (some GA) = RY := rfl
    have lll : (oH (some GA)).length = GA.length := rfl
    have iss : (some GA).isSome = true := rfl
    rw [lll] at ho13 ⊢
    rw [orr, iss]
    clear orr lll iss k0 k1 k2 k3 k4 c0 c1 r0 r1 r2 hl1 hl2
    have T13 : Hid (Holds w13 (.slice a13 GA.length c13) GA) := hide_it (holds_of_row ho13)
    obtain ⟨x0, x1⟩ := A12.out.later hb13 (Nat.le_refl _)
    have k0 := fun o => cellAlloc x0 o
    have k1 := fun o => cellAlloc x1 o
    have hl1 : w9.heap.size < w13.heap.size := World.block_lt_of_cell? _ _ x0
    obtain ⟨w14, hw14⟩ : ∃ W, Hid (W = w13.alloc (.cells #[.int .i64 RY, .slice a13 GA.length c13] 25)) := ⟨_, rfl⟩
    have al14 : Below w13.heap.size w13 w14 := by rw [hw14.out]; exact alloc_below _ _
    have N14 := hide_it (hb13.trans (al14.mono hb13.size))
    have T14 := hide_it (T13.out.later al14 (Nat.le_refl _))
    have V14 := hide_it (V12.out.later N14.out (Nat.le_refl _))
    clear ho13 hb13 al14
    go_wp2_with fail
    rw [← hw14.out]
    refine (lnStock_any RY _ _ GA w14 V14.out T14.out hGA).mono ?_
    rintro e w15 ⟨rfl, hb15⟩
    have B15 := hide_it (B12.out.trans ((N14.out.trans (hb15.mono N14.out.size)).mono B12.out.size))
    clear hb15
    go_wp2
    go_ret
    exact ⟨rfl, B15.out⟩
  · have hQt : Int.tmod (Dn : Int) 3 = 1 := hQt
    obtain ⟨w8, hw8⟩ : ∃ W, Hid (W = (w7.alloc (.cells #[.int .i64 1, .int .i64 2, .int .i64 3] 3)).alloc (.cells #[.int .i64 2, .int .i64 T, .slice none 0 0] 28)) := ⟨_, rfl⟩
    have al8 : Below w7.heap.size w7 w8 := by rw [hw8.out]; exact (below2 _ _ _)
    have L8 := hide_it al8
    have O8 : Hid (RecAt w8 (w7.heap.size + 1) 2 T (.slice none 0 0)) := by
      show RecAt _ _ _ _ _
      have := RecAt.new (w7.alloc (.cells #[.int .i64 1, .int .i64 2, .int .i64 3] 3)) 2 T (.slice none 0 0) 28
      rw [World.size_alloc] at this
      rw [hw8.out]; exact this
    have J8 : Hid (Ints w8 (.slice none 0 0) ([] : List Int)) := hide_it (Or.inl ⟨rfl, none, 0, rfl, fun _ => rfl⟩)
    have U8 := hide_it (U7.out.later al8 (Nat.le_refl _))
    have q0 := fun o0 o1 => (cellAlloc (cellAlloc x0 o0) o1)
    have q1 := fun o0 o1 => (cellAlloc (cellAlloc x1 o0) o1)
    clear al8
    obtain ⟨OA, hOA⟩ : ∃ x, Hid (Pl.sDo RR HS 2 T ([] : List Int) = x) := ⟨_, rfl⟩
    obtain ⟨OY, hOY⟩ : ∃ x, Hid (Pl.sDo RR hs 2 T ([] : List Int) = x) := ⟨_, rfl⟩
    have CA := DO.out HS (.slice a5 HS.length c5) 2 T (.slice none 0 0) ([] : List Int) w8 OA L8.out hL9 U8.out J8.out (by simp) hOA.out
    have CY : ∀ W, Below w8.heap.size w8 W → Calls Tryd.prog 11 #[.agg #[.int .i64 RR, .slice au hs.length cu], .agg #[.int .i64 2, .int .i64 T, .slice none 0 0]] W fun e w' => StOut W w' e (oR RR OY) (oH OY) OY.isSome := fun W hb =>
      DO.out hs (.slice au hs.length cu) 2 T (.slice none 0 0) ([] : List Int) W OY (L8.out.trans (hb.mono L8.out.size)) hl9 (H2.out.later (E7.out.trans ((L8.out.trans (hb.mono L8.out.size)).mono E7.out.size)) (Nat.le_refl _)) (J8.out.later hb (Nat.le_refl _)) (by simp) hOY.out
    obtain ⟨RA, hRA⟩ : ∃ x, oR RR OA = x := ⟨_, rfl⟩
    obtain ⟨GA, hGA⟩ : ∃ x, oH OA = x := ⟨_, rfl⟩
    obtain ⟨BA, hBA⟩ : ∃ x, OA.isSome = x := ⟨_, rfl⟩
    obtain ⟨RY, hRY⟩ : ∃ x, oR RR OY = x := ⟨_, rfl⟩
    obtain ⟨GY, hGY⟩ : ∃ x, oH OY = x := ⟨_, rfl⟩
    obtain ⟨BY, hBY⟩ : ∃ x, OY.isSome = x := ⟨_, rfl⟩
    have FA : Hid (BA = true → RA = RR ∧ Pl.sDo RR HS 2 T ([] : List Int) = some GA) := fun h => by
      cases hq : OA with
      | none => rw [hq] at hBA; rw [← hBA] at h; cases h
      | some x =>
        rw [hq] at hRA hGA
        exact ⟨hRA.symm, by rw [hOA.out, hq]; exact congrArg some hGA⟩
    have FY : Hid (BY = true → RY = RR ∧ Pl.sDo RR hs 2 T ([] : List Int) = some GY) := fun h => by
      cases hq : OY with
      | none => rw [hq] at hBY; rw [← hBY] at h; cases h
      | some x =>
        rw [hq] at hRY hGY
        exact ⟨hRY.symm, by rw [hOY.out, hq]; exact congrArg some hGY⟩
    rw [hRA, hGA, hBA] at CA
    rw [hRY, hGY, hBY] at CY
    have CA := hide_it CA
    have CY := hide_it CY
    clear hRA hGA hBA hRY hGY hBY hOA hOY J8
    go_wp2_with fail
    rw [← hw8.out]
    refine CA.out.mono ?_
    rintro e w9 ⟨a9, c9, rfl, ho9, hb9⟩
    have V9 : Hid (Holds w9 (.slice a9 GA.length c9) GA) := hide_it (holds_of_row ho9)
    have S9 := hide_it (E7.out.trans (((L8.out.trans (hb9.mono L8.out.size))).mono E7.out.size))
    have N9 := hide_it hb9
    obtain ⟨⟨c0, c1⟩, -⟩ := P2.out.later S9.out (Nat.le_refl _)
    obtain ⟨r0, r1, r2⟩ := O8.out.later hb9 (Nat.le_refl _)
    have k0 := fun o => cellAlloc c0 o
    have k1 := fun o => cellAlloc c1 o
    have k2 := fun o => cellAlloc r0 o
    have k3 := fun o => cellAlloc r1 o
    have k4 := fun o => cellAlloc r2 o
    have hl1 : w1.heap.size < w9.heap.size := World.block_lt_of_cell? _ _ c0
    have hl2 : w7.heap.size + 1 < w9.heap.size := World.block_lt_of_cell? _ _ r0
    obtain ⟨w10, hw10⟩ : ∃ W, Hid (W = w9.alloc (.cells #[.int .i64 RA, .slice a9 GA.length c9] 25)) := ⟨_, rfl⟩
    have al10 : Below w9.heap.size w9 w10 := by rw [hw10.out]; exact alloc_below _ _
    have A10 : Hid (Duo w10 w9.heap.size (.int .i64 RA) (.slice a9 GA.length c9)) := by show Duo _ _ _ _; rw [hw10.out]; exact Duo.new w9 _ _ _
    have V10 := hide_it (V9.out.later al10 (Nat.le_refl _))
    have N10 := hide_it (N9.out.trans (al10.mono N9.out.size))
    clear ho9 hb9 al10 q0 q1 x0 x1
    go_wp2_with fail
    rw [← hw10.out]
    refine (CY.out w10 N10.out).mono ?_
    rintro e w11 ⟨a11, c11, rfl, ho11, hb11⟩
    have Y11 : Hid (Holds w11 (.slice a11 GY.length c11) GY) := hide_it (holds_of_row ho11)
    have V11 := hide_it (V10.out.later hb11 (Nat.le_refl _))
    have A11 := hide_it (A10.out.later hb11 (Nat.le_refl _))
    have N11 := hide_it (N10.out.trans (hb11.mono N10.out.size))
    clear ho11 hb11 k0 k1 k2 k3 k4 c0 c1 r0 r1 r2 hl1 hl2
    obtain ⟨w12, hw12⟩ : ∃ W, Hid (W = w11.alloc (.cells #[.int .i64 RY, .slice a11 GY.length c11] 25)) := ⟨_, rfl⟩
    have al12 : Below w11.heap.size w11 w12 := by rw [hw12.out]; exact alloc_below _ _
    have N12 := hide_it (N11.out.trans (al12.mono N11.out.size))
    have Y12 : Hid (Duo w12 w11.heap.size (.int .i64 RY) (.slice a11 GY.length c11)) := by show Duo _ _ _ _; rw [hw12.out]; exact Duo.new w11 _ _ _
    have V12 := hide_it (V11.out.later al12 (Nat.le_refl _))
    have A12 := hide_it (A11.out.later al12 (Nat.le_refl _))
    have D12 := hide_it (Y11.out.later al12 (Nat.le_refl _))
    have S11 := hide_it (E7.out.trans ((L8.out.trans (N11.out.mono L8.out.size)).mono E7.out.size))
    have S12 := hide_it (S11.out.trans (al12.mono S11.out.size))
    have B12 := hide_it (B2.out.trans (S12.out.mono B2.out.size))
    clear al12
    obtain ⟨⟨c0, c1⟩, ⟨r0, r1, r2⟩⟩ := P2.out.later S11.out (Nat.le_refl _)
    have k0 := fun o => cellAlloc c0 o
    have k1 := fun o => cellAlloc c1 o
    have k2 := fun o => cellAlloc r0 o
    have k3 := fun o => cellAlloc r1 o
    have k4 := fun o => cellAlloc r2 o
    have hl1 : w1.heap.size < w11.heap.size := World.block_lt_of_cell? _ _ c0
    have hl2 : w1.heap.size + 1 < w11.heap.size := World.block_lt_of_cell? _ _ r0
    by_cases hTt : T = t
    · have hTe : (T == t) = true := by simpa using hTt
      go_wp2
      go_ret
      exact ⟨rfl, by rw [← hw12.out]; exact B12.out⟩
    have hTe : (T == t) = false := by simpa using hTt
    cases BA
    · go_wp2
      go_ret
      exact ⟨rfl, by rw [← hw12.out]; exact B12.out⟩
    cases BY
    · go_wp2
      go_ret
      exact ⟨rfl, by rw [← hw12.out]; exact B12.out⟩
    obtain ⟨e1, dA⟩ := FA.out rfl
    obtain ⟨e2, dY⟩ := FY.out rfl
    subst e1 e2
    have dB := hide_it (Pl.apart HDO.out dA dY hTt)
    have hGA : GA.length ≤ 1048576 := by have := Pl.sDo_len dA; omega
    have hGY : GY.length ≤ 1048576 := by have := Pl.sDo_len dY; omega
    clear dA dY CA CY FA FY
    go_wp2_with fail
    rw [← hw12.out]
    refine (DO.out GY _ k t _ zs w12 (some GA) (L8.out.trans (N12.out.mono L8.out.size)) hGY D12.out (I2.out.later S12.out (Nat.le_refl _)) hzl dB.out).mono ?_
    rintro e w13 ⟨a13, c13, rfl, ho13, hb13⟩
    have orr : oR RY (some GA) = RY := rfl
    have lll : (oH (some GA)).length = GA.length := rfl
    have iss : (some GA).isSome = true := rfl
    rw [lll] at ho13 ⊢
    rw [orr, iss]
    clear orr lll iss k0 k1 k2 k3 k4 c0 c1 r0 r1 r2 hl1 hl2
    have T13 : Hid (Holds w13 (.slice a13 GA.length c13) GA) := hide_it (holds_of_row ho13)
    obtain ⟨x0, x1⟩ := A12.out.later hb13 (Nat.le_refl _)
    have k0 := fun o => cellAlloc x0 o
    have k1 := fun o => cellAlloc x1 o
    have hl1 : w9.heap.size < w13.heap.size := World.block_lt_of_cell? _ _ x0
    obtain ⟨w14, hw14⟩ : ∃ W, Hid (W = w13.alloc (.cells #[.int .i64 RY, .slice a13 GA.length c13] 25)) := ⟨_, rfl⟩
    have al14 : Below w13.heap.size w13 w14 := by rw [hw14.out]; exact alloc_below _ _
    have N14 := hide_it (hb13.trans (al14.mono hb13.size))
    have T14 := hide_it (T13.out.later al14 (Nat.le_refl _))
    have V14 := hide_it (V12.out.later N14.out (Nat.le_refl _))
    clear ho13 hb13 al14
    go_wp2_with fail
    rw [← hw14.out]
    refine (lnStock_any RY _ _ GA w14 V14.out T14.out hGA).mono ?_
    rintro e w15 ⟨rfl, hb15⟩
    have B15 := hide_it (B12.out.trans ((N14.out.trans (hb15.mono N14.out.size)).mono B12.out.size))
    clear hb15
    go_wp2
    go_ret
    exact ⟨rfl, B15.out⟩
  · have hQt : Int.tmod (Dn : Int) 3 = 2 := hQt
    obtain ⟨w8, hw8⟩ : ∃ W, Hid (W = (w7.alloc (.cells #[.int .i64 1, .int .i64 2, .int .i64 3] 3)).alloc (.cells #[.int .i64 3, .int .i64 T, .slice none 0 0] 28)) := ⟨_, rfl⟩
    have al8 : Below w7.heap.size w7 w8 := by rw [hw8.out]; exact (below2 _ _ _)
    have L8 := hide_it al8
    have O8 : Hid (RecAt w8 (w7.heap.size + 1) 3 T (.slice none 0 0)) := by
      show RecAt _ _ _ _ _
      have := RecAt.new (w7.alloc (.cells #[.int .i64 1, .int .i64 2, .int .i64 3] 3)) 3 T (.slice none 0 0) 28
      rw [World.size_alloc] at this
      rw [hw8.out]; exact this
    have J8 : Hid (Ints w8 (.slice none 0 0) ([] : List Int)) := hide_it (Or.inl ⟨rfl, none, 0, rfl, fun _ => rfl⟩)
    have U8 := hide_it (U7.out.later al8 (Nat.le_refl _))
    have q0 := fun o0 o1 => (cellAlloc (cellAlloc x0 o0) o1)
    have q1 := fun o0 o1 => (cellAlloc (cellAlloc x1 o0) o1)
    clear al8
    obtain ⟨OA, hOA⟩ : ∃ x, Hid (Pl.sDo RR HS 3 T ([] : List Int) = x) := ⟨_, rfl⟩
    obtain ⟨OY, hOY⟩ : ∃ x, Hid (Pl.sDo RR hs 3 T ([] : List Int) = x) := ⟨_, rfl⟩
    have CA := DO.out HS (.slice a5 HS.length c5) 3 T (.slice none 0 0) ([] : List Int) w8 OA L8.out hL9 U8.out J8.out (by simp) hOA.out
    have CY : ∀ W, Below w8.heap.size w8 W → Calls Tryd.prog 11 #[.agg #[.int .i64 RR, .slice au hs.length cu], .agg #[.int .i64 3, .int .i64 T, .slice none 0 0]] W fun e w' => StOut W w' e (oR RR OY) (oH OY) OY.isSome := fun W hb =>
      DO.out hs (.slice au hs.length cu) 3 T (.slice none 0 0) ([] : List Int) W OY (L8.out.trans (hb.mono L8.out.size)) hl9 (H2.out.later (E7.out.trans ((L8.out.trans (hb.mono L8.out.size)).mono E7.out.size)) (Nat.le_refl _)) (J8.out.later hb (Nat.le_refl _)) (by simp) hOY.out
    obtain ⟨RA, hRA⟩ : ∃ x, oR RR OA = x := ⟨_, rfl⟩
    obtain ⟨GA, hGA⟩ : ∃ x, oH OA = x := ⟨_, rfl⟩
    obtain ⟨BA, hBA⟩ : ∃ x, OA.isSome = x := ⟨_, rfl⟩
    obtain ⟨RY, hRY⟩ : ∃ x, oR RR OY = x := ⟨_, rfl⟩
    obtain ⟨GY, hGY⟩ : ∃ x, oH OY = x := ⟨_, rfl⟩
    obtain ⟨BY, hBY⟩ : ∃ x, OY.isSome = x := ⟨_, rfl⟩
    have FA : Hid (BA = true → RA = RR ∧ Pl.sDo RR HS 3 T ([] : List Int) = some GA) := fun h => by
      cases hq : OA with
      | none => rw [hq] at hBA; rw [← hBA] at h; cases h
      | some x =>
        rw [hq] at hRA hGA
        exact ⟨hRA.symm, by rw [hOA.out, hq]; exact congrArg some hGA⟩
    have FY : Hid (BY = true → RY = RR ∧ Pl.sDo RR hs 3 T ([] : List Int) = some GY) := fun h => by
      cases hq : OY with
      | none => rw [hq] at hBY; rw [← hBY] at h; cases h
      | some x =>
        rw [hq] at hRY hGY
        exact ⟨hRY.symm, by rw [hOY.out, hq]; exact congrArg some hGY⟩
    rw [hRA, hGA, hBA] at CA
    rw [hRY, hGY, hBY] at CY
    have CA := hide_it CA
    have CY := hide_it CY
    clear hRA hGA hBA hRY hGY hBY hOA hOY J8
    go_wp2_with fail
    rw [← hw8.out]
    refine CA.out.mono ?_
    rintro e w9 ⟨a9, c9, rfl, ho9, hb9⟩
    have V9 : Hid (Holds w9 (.slice a9 GA.length c9) GA) := hide_it (holds_of_row ho9)
    have S9 := hide_it (E7.out.trans (((L8.out.trans (hb9.mono L8.out.size))).mono E7.out.size))
    have N9 := hide_it hb9
    obtain ⟨⟨c0, c1⟩, -⟩ := P2.out.later S9.out (Nat.le_refl _)
    obtain ⟨r0, r1, r2⟩ := O8.out.later hb9 (Nat.le_refl _)
    have k0 := fun o => cellAlloc c0 o
    have k1 := fun o => cellAlloc c1 o
    have k2 := fun o => cellAlloc r0 o
    have k3 := fun o => cellAlloc r1 o
    have k4 := fun o => cellAlloc r2 o
    have hl1 : w1.heap.size < w9.heap.size := World.block_lt_of_cell? _ _ c0
    have hl2 : w7.heap.size + 1 < w9.heap.size := World.block_lt_of_cell? _ _ r0
    obtain ⟨w10, hw10⟩ : ∃ W, Hid (W = w9.alloc (.cells #[.int .i64 RA, .slice a9 GA.length c9] 25)) := ⟨_, rfl⟩
    have al10 : Below w9.heap.size w9 w10 := by rw [hw10.out]; exact alloc_below _ _
    have A10 : Hid (Duo w10 w9.heap.size (.int .i64 RA) (.slice a9 GA.length c9)) := by show Duo _ _ _ _; rw [hw10.out]; exact Duo.new w9 _ _ _
    have V10 := hide_it (V9.out.later al10 (Nat.le_refl _))
    have N10 := hide_it (N9.out.trans (al10.mono N9.out.size))
    clear ho9 hb9 al10 q0 q1 x0 x1
    go_wp2_with fail
    rw [← hw10.out]
    refine (CY.out w10 N10.out).mono ?_
    rintro e w11 ⟨a11, c11, rfl, ho11, hb11⟩
    have Y11 : Hid (Holds w11 (.slice a11 GY.length c11) GY) := hide_it (holds_of_row ho11)
    have V11 := hide_it (V10.out.later hb11 (Nat.le_refl _))
    have A11 := hide_it (A10.out.later hb11 (Nat.le_refl _))
    have N11 := hide_it (N10.out.trans (hb11.mono N10.out.size))
    clear ho11 hb11 k0 k1 k2 k3 k4 c0 c1 r0 r1 r2 hl1 hl2
    obtain ⟨w12, hw12⟩ : ∃ W, Hid (W = w11.alloc (.cells #[.int .i64 RY, .slice a11 GY.length c11] 25)) := ⟨_, rfl⟩
    have al12 : Below w11.heap.size w11 w12 := by rw [hw12.out]; exact alloc_below _ _
    have N12 := hide_it (N11.out.trans (al12.mono N11.out.size))
    have Y12 : Hid (Duo w12 w11.heap.size (.int .i64 RY) (.slice a11 GY.length c11)) := by show Duo _ _ _ _; rw [hw12.out]; exact Duo.new w11 _ _ _
    have V12 := hide_it (V11.out.later al12 (Nat.le_refl _))
    have A12 := hide_it (A11.out.later al12 (Nat.le_refl _))
    have D12 := hide_it (Y11.out.later al12 (Nat.le_refl _))
    have S11 := hide_it (E7.out.trans ((L8.out.trans (N11.out.mono L8.out.size)).mono E7.out.size))
    have S12 := hide_it (S11.out.trans (al12.mono S11.out.size))
    have B12 := hide_it (B2.out.trans (S12.out.mono B2.out.size))
    clear al12
    obtain ⟨⟨c0, c1⟩, ⟨r0, r1, r2⟩⟩ := P2.out.later S11.out (Nat.le_refl _)
    have k0 := fun o => cellAlloc c0 o
    have k1 := fun o => cellAlloc c1 o
    have k2 := fun o => cellAlloc r0 o
    have k3 := fun o => cellAlloc r1 o
    have k4 := fun o => cellAlloc r2 o
    have hl1 : w1.heap.size < w11.heap.size := World.block_lt_of_cell? _ _ c0
    have hl2 : w1.heap.size + 1 < w11.heap.size := World.block_lt_of_cell? _ _ r0
    by_cases hTt : T = t
    · have hTe : (T == t) = true := by simpa using hTt
      go_wp2
      go_ret
      exact ⟨rfl, by rw [← hw12.out]; exact B12.out⟩
    have hTe : (T == t) = false := by simpa using hTt
    cases BA
    · go_wp2
      go_ret
      exact ⟨rfl, by rw [← hw12.out]; exact B12.out⟩
    cases BY
    · go_wp2
      go_ret
      exact ⟨rfl, by rw [← hw12.out]; exact B12.out⟩
    obtain ⟨e1, dA⟩ := FA.out rfl
    obtain ⟨e2, dY⟩ := FY.out rfl
    subst e1 e2
    have dB := hide_it (Pl.apart HDO.out dA dY hTt)
    have hGA : GA.length ≤ 1048576 := by have := Pl.sDo_len dA; omega
    have hGY : GY.length ≤ 1048576 := by have := Pl.sDo_len dY; omega
    clear dA dY CA CY FA FY
    go_wp2_with fail
    rw [← hw12.out]
    refine (DO.out GY _ k t _ zs w12 (some GA) (L8.out.trans (N12.out.mono L8.out.size)) hGY D12.out (I2.out.later S12.out (Nat.le_refl _)) hzl dB.out).mono ?_
    rintro e w13 ⟨a13, c13, rfl, ho13, hb13⟩
    have orr : oR RY (some GA) = RY := rfl
    have lll : (oH (some GA)).length = GA.length := rfl
    have iss : (some GA).isSome = true := rfl
    rw [lll] at ho13 ⊢
    rw [orr, iss]
    clear orr lll iss k0 k1 k2 k3 k4 c0 c1 r0 r1 r2 hl1 hl2
    have T13 : Hid (Holds w13 (.slice a13 GA.length c13) GA) := hide_it (holds_of_row ho13)
    obtain ⟨x0, x1⟩ := A12.out.later hb13 (Nat.le_refl _)
    have k0 := fun o => cellAlloc x0 o
    have k1 := fun o => cellAlloc x1 o
    have hl1 : w9.heap.size < w13.heap.size := World.block_lt_of_cell? _ _ x0
    obtain ⟨w14, hw14⟩ : ∃ W, Hid (W = w13.alloc (.cells #[.int .i64 RY, .slice a13 GA.length c13] 25)) := ⟨_, rfl⟩
    have al14 : Below w13.heap.size w13 w14 := by rw [hw14.out]; exact alloc_below _ _
    have N14 := hide_it (hb13.trans (al14.mono hb13.size))
    have T14 := hide_it (T13.out.later al14 (Nat.le_refl _))
    have V14 := hide_it (V12.out.later N14.out (Nat.le_refl _))
    clear ho13 hb13 al14
    go_wp2_with fail
    rw [← hw14.out]
    refine (lnStock_any RY _ _ GA w14 V14.out T14.out hGA).mono ?_
    rintro e w15 ⟨rfl, hb15⟩
    have B15 := hide_it (B12.out.trans ((N14.out.trans (hb15.mono N14.out.size)).mono B12.out.size))
    clear hb15
    go_wp2
    go_ret
    exact ⟨rfl, B15.out⟩

end Go.Proofs.YtcofnjooiemkfaaDoor

namespace Go.Proofs.YtcofnjooiemkfaaDoor
open Go.ChangeShapes Go.WideShapes Go.ChangeAt Go.WideMaps Go.WideElems Go.RowKit Go.Joins

set_option maxHeartbeats 1000000 in
theorem lawP22_great1 (ac : Option Addr) (nc cc : Nat) (am : Option Addr) (nm cm : Nat) (w : World) (h : 1048576 < (nc : Int)) :
    Calls Tryd.prog 8 #[.slice ac nc cc, .slice am nm cm] w fun e w' => e = .returned (.bool true) ∧ Below w.heap.size w w' := by
  go_enter Tryd.func8, Tryd.ntmps8
  go_wp2
  go_ret
  exact ⟨rfl, Below.refl _ _⟩

set_option maxHeartbeats 1000000 in
theorem lawP22_great2 (ac : Option Addr) (nc cc : Nat) (am : Option Addr) (nm cm : Nat) (w : World) (hc : (nc : Int) ≤ 1048576) (h : 1048576 < (nm : Int)) :
    Calls Tryd.prog 8 #[.slice ac nc cc, .slice am nm cm] w fun e w' => e = .returned (.bool true) ∧ Below w.heap.size w w' := by
  go_enter Tryd.func8, Tryd.ntmps8
  go_wp2
  go_ret
  exact ⟨rfl, Below.refl _ _⟩

theorem lawP22_any (vc vm : Value) (nc nm : Nat) (a : Addr) (w : World) (hc : CodeAt w vc nc) (hm : CodeAt w vm nm) (ha : ErrAt w a) :
    Calls Tryd.prog 8 #[vc, vm] w fun e w' => e = .returned (.bool true) ∧ Below w.heap.size w w' := by
  obtain ⟨am, cm, rfl, _⟩ := hm
  by_cases h1 : nc ≤ 1048576
  · by_cases h2 : nm ≤ 1048576
    · exact lawP22_small vc nc am nm cm a w hc h1 h2 ha
    · obtain ⟨ac, cc, rfl, _⟩ := hc
      exact lawP22_great2 ac nc cc am nm cm w (by omega) (by omega)
  · obtain ⟨ac, cc, rfl, _⟩ := hc
    exact lawP22_great1 ac nc cc am nm cm w (by omega)

set_option maxRecDepth 100000 in
theorem p22_lifted (os : Os) (started : os.Started) (H : Type) (enc : TypeId × Value → H) :
    ReturnsInHanded {} Tryd.checked os 8 .any (fun w args => (Rows.fnStockApartSpec.pre enc Tryd.prog Tryd.f8 [] false w args ∧ laidMetH Tryd.prog laidErr w) ∧ sizedMet enc Tryd.prog Tryd.f8 (OpenSpec.ofChange Rows.fnStockApartSpec) false w args)
      (Rows.fnStockApartSpec.post enc Tryd.prog Tryd.f8 false true false false) := by
  refine returnsInHanded_of_change_and (C := Tryd.checked) (X := fun w _ => laidMetH Tryd.prog laidErr w) (fun _ _ _ hh h => h.of_heap hh) own started (by kernel_rfl) Tryd.func8
    (ChangeSpec.witness_shaped (enc := enc) (C := Tryd.checked) (os := os) (X := fun w _ => laidMetH Tryd.prog laidErr w) false (World.doorLaid Tryd.prog 28 os) #[.slice none 0 0, .slice none 0 0] 8 rfl (World.shaped_of_RefB (by kernel_rfl) (by kernel_rfl)) (by kernel_rfl) (by kernel_rfl) (by kernel_rfl) (door_met os _)) ?_
  intro W base args ds gs before hval0 hW _ _ hL _
  have hval : ∀ (j : Nat) t v, Tryd.f8.params[j]? = some t → args[j]? = some v → Value.okWide Tryd.prog W .any base t v := hval0
  have hW' := hW
  obtain ⟨p, q, hA0, hV0, rfl, hfz, hnd⟩ := hW
  have hA : DataW.TrodAll enc Tryd.prog W 0 (fun _ => true) true Tryd.f8.params.toList args.toList ds p := hA0
  have hV : DataW.TrodVars enc Tryd.prog W (fun _ => true) ["loop.example/concierge/impl.errNoRec"] gs q := hV0
  rw [Tryd.params8] at hA hval
  obtain ⟨v0, v1, d0, d1, p0, p1, rfl, rfl, rfl, h0, h1⟩ := trodAll_two hA
  obtain ⟨a, hErr, hvar⟩ := of_laid hL
  have vr : ∀ {X : World}, X.var? Tryd.prog "loop.example/concierge/impl.errNoRec" = some #[.iface 101 (.pointer (some a))] → ∀ sp : Nat → Bool,
      DataW.TrodVars enc Tryd.prog X sp ["loop.example/concierge/impl.errNoRec"] [tok enc (.iface 101 (.pointer (some a)))] [.cell 0 0] :=
    fun x0 sp => vars_read1 enc gErr gErrType Tryd.underlying72 x0 trivial sp
  obtain ⟨rfl, rfl⟩ := hV.unique (vr hvar _)
  clear hA0 hV0 hval0
  obtain ⟨nc, hC, _⟩ := open_code (hval 0 22 v0 rfl rfl) h0
  obtain ⟨nm, hM, _⟩ := open_code (hval 1 22 v1 rfl rfl) h1
  refine (lawP22_any v0 v1 nc nm a W hC hM hErr).mono fun e W' ⟨he, hb⟩ => ?_
  subst he
  have hlt : ∀ x ∈ p0, x.block < W.heap.size := fun x hx => hW'.lt x (by simp [hx])
  have hlt1 : ∀ x ∈ p1, x.block < W.heap.size := fun x hx => hW'.lt x (by simp [hx])
  refine ⟨_, rfl, _, _, _, [], p0 ++ p1, [.cell 0 0], hW', ?_, ?_, ?_, hb.frame _, fun h => by cases h⟩
  · exact trodAll_mk1 (shut_bool Tryd.underlying4 true)
  · exact trodAll_mk2 (Below.trod laidOut (by kernel_rfl) (of_decide_eq_true (by kernel_rfl)) h0 hb hlt) (Below.trod laidOut (by kernel_rfl) (of_decide_eq_true (by kernel_rfl)) h1 hb hlt1)
  · exact vr (var?_below hb gErr (World.block_lt_of_cell? _ _ hErr) hvar) _

theorem p22_said : Rows.FnStockApartSaid :=
  OpenClaim.holds_of_wide 8 Tryd.f8 rfl rfl rfl rfl rfl rfl rfl ⟨rfl, rfl, rfl, rfl, rfl⟩ rfl rfl rfl rfl rfl (by kernel_rfl) Tryd.func8 (by kernel_rfl)
    (of_decide_eq_true (by kernel_rfl)) (by unfold Func.isWrapper; first | (rw [if_pos (by decide +kernel)]; kernel_rfl) | (rw [if_neg (by decide +kernel)]; exact ⟨rfl, rfl⟩))
    (fun os started H enc _ => p22_lifted os started H enc)

theorem p22_plain (f : FuncId) (fn : Func) (hf : Tryd.pinned.checked.prog.funcNamed "loop.example/concierge/laws.FnStockApart" = some f) (hfn : Tryd.pinned.checked.prog.funcs[f]? = some fn) :
    true = Tryd.pinned.checked.prog.looks [] ∧ ∀ (j : Nat) t, fn.params[j]? = some t → Tryd.pinned.checked.prog.wantsStandIn t = false := by
  obtain rfl : f = 8 := Option.some.inj ((show Tryd.prog.funcNamed "loop.example/concierge/laws.FnStockApart" = some 8 by kernel_rfl).symm.trans hf) |>.symm
  obtain rfl : fn = Tryd.f8 := (Option.some.inj (Tryd.func8.symm.trans hfn)).symm
  refine ⟨by kernel_rfl, fun j t ht => ?_⟩
  rw [Tryd.params8] at ht
  obtain rfl : t = 22 := by simpa using Array.mem_of_getElem? ht
  exact (show Tryd.prog.wantsStandIn 22 = false by kernel_rfl)

theorem p22_card : Rows.FnStockApartCardSaid :=
  Claim7.holds_tied_plain_at .later [] _ _ _ _ p22_said (fun _ h => by cases h) (by kernel_rfl) (fun _ h => by cases h) fnStockApart_row_tie rfl ⟨rfl, rfl⟩ (by kernel_rfl) rfl p22_plain (by kernel_rfl)
#print axioms p22_card

end Go.Proofs.YtcofnjooiemkfaaDoor
