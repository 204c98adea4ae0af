/- FnStockUndo answers true whatever the codes, and they read afterwards as they read before: promise 21 at every drawn stock and record. The card: the sentinel's variable starts as the program's text lays it. -/
import Derived.Test.YtcofnjooiemkfaaDoorBase5

namespace Go.Proofs.YtcofnjooiemkfaaDoor
open Go.RowKit
namespace Pl
theorem recOk_h1 {t : Int} (ht : 1 ≤ t ∧ t ≤ 6) : recOk 1 t [1] = true := by
  rw [recOk_1 t [1] (inB_mk ht.1 ht.2)]; rfl
theorem recOk_u {t : Int} (ht : 1 ≤ t ∧ t ≤ 6) : recOk 3 t [] = true := by
  rw [recOk_p 3 t [] (inB_mk ht.1 ht.2) (by decide) (by decide)]; rfl
theorem recOk_c {t : Int} (ht : 1 ≤ t ∧ t ≤ 6) : recOk 2 t [] = true := by
  rw [recOk_p 2 t [] (inB_mk ht.1 ht.2) (by decide) (by decide)]; rfl
theorem sDo_ok {room : Int} {hs : List H} {k t : Int} {zs : List Int} {x : H} (h : sOk room hs = true) (h2 : recOk k t zs = true) (hn : next (hAt hs t) k (zs.headD 0) (free room hs) = some x) : sDo room hs k t zs = some (hs.set (at_ t) x) := by
  unfold sDo; rw [behind_ok h h2, hn]; rfl
theorem sDo_no {room : Int} {hs : List H} {k t : Int} {zs : List Int} (hn : next (hAt hs t) k (zs.headD 0) (free room hs) = none) : sDo room hs k t zs = none := by
  unfold sDo behind
  split
  · rw [hn]; rfl
  · rfl
theorem at_lt6 {t : Int} (ht : 1 ≤ t ∧ t ≤ 6) : at_ t < 6 := by unfold at_; omega
/-- A hold of one, and then an undo. -/
theorem undone {room : Int} {hs : List H} {t : Int} (ok : sOk room hs = true) (ht : 1 ≤ t ∧ t ≤ 6) :
    (sDo room hs 1 t [1] = none ∧ ((hAt hs t).2 ≠ 0 ∨ sFree room hs = 0)) ∨
    (∃ h2 h3, sDo room hs 1 t [1] = some h2 ∧ sDo room h2 3 t [] = some h3 ∧ sDo room h3 1 t [1] = none ∧ sFree room h3 = sFree room hs ∧ hAt h3 t = (1, 3) ∧ h2.length = 6 ∧ h3.length = 6) := by
  have h6 := (sOk_parts ok).2.2.1
  have hat : at_ t < hs.length := by rw [h6]; exact at_lt6 ht
  have hf := (sFree_of ok)
  by_cases c : (hAt hs t).2 = 0 ∧ (1 : Int) ≤ free room hs
  · have hn : next (hAt hs t) 1 (([1] : List Int).headD 0) (free room hs) = some (1, 1) := by simp [next, c.1, c.2]
    have d2 := sDo_ok ok (recOk_h1 ht) hn
    have ok2 := sDo_keeps d2
    have e2 : hAt (hs.set (at_ t) (1, 1)) t = (1, 1) := hAt_set hat
    have hn2 : next (hAt (hs.set (at_ t) (1, 1)) t) 3 (([] : List Int).headD 0) (free room (hs.set (at_ t) (1, 1))) = some (1, 3) := by rw [e2]; simp [next]
    have d3 := sDo_ok ok2 (recOk_u ht) hn2
    have ok3 := sDo_keeps d3
    have hl2 : at_ t < (hs.set (at_ t) (1, 1)).length := by rw [List.length_set]; exact hat
    have e3 : hAt ((hs.set (at_ t) (1, 1)).set (at_ t) (1, 3)) t = (1, 3) := hAt_set hl2
    have hh : (hAt hs t).1 = 0 := by
      have hm := (List.all_eq_true.1 (sOk_parts ok).1) _ (hAt_mem hs t hat)
      have e : hAt hs t = ((hAt hs t).1, 0) := by rw [← c.1]
      rw [e, hOk_0] at hm
      exact of_decide_eq_true hm
    have f3 : free room ((hs.set (at_ t) (1, 1)).set (at_ t) (1, 3)) = free room hs := by
      rw [free_set _ _ _ _ hl2, free_set _ _ _ _ hat]
      have g1 : (hs.set (at_ t) (1, 1)).getD (at_ t) (0, 0) = (1, 1) := e2
      have g0 : hHad (hs.getD (at_ t) (0, 0)) = 0 := hHad_x (hAt hs t).1 (hAt hs t).2 (by omega) (by omega)
      rw [g1, g0, hHad_1, hHad_x _ _ (by decide) (by decide)]
      omega
    refine Or.inr ⟨_, _, d2, d3, sDo_no (by rw [e3]; simp [next]), ?_, e3, by simp [h6], by simp [h6]⟩
    rw [sFree_yes ok3, hf.1, f3]
  · refine Or.inl ⟨sDo_no (by simp only [next, if_true]; rw [if_neg (by simpa using c)]), ?_⟩
    by_cases c0 : (hAt hs t).2 = 0
    · right
      have : ¬ (1 : Int) ≤ free room hs := fun e => c ⟨c0, e⟩
      omega
    · exact Or.inl c0
end Pl

/-- What lies at a trip's place. -/
theorem hold_at {W : World} {au : Option Addr} {n cu : Nat} {hs : List Pl.H} {t : Int} (h : Holds W (.slice au n cu) hs) (h6 : hs.length = 6) (ht : 1 ≤ t ∧ t ≤ 6) :
    ∃ b off, au = some ⟨b, off, none⟩ ∧ (W.cell? ⟨b, off + Pl.at_ t * 2, none⟩ = some (.int .i64 (Pl.hAt hs t).1) ∧ W.cell? ⟨b, off + Pl.at_ t * 2 + 1, none⟩ = some (.int .i64 (Pl.hAt hs t).2)) := by
  rcases h with ⟨h0, _⟩ | ⟨b', off, cap', hv, _, hc⟩
  · rw [h0] at h6; simp at h6
  · simp only [Value.slice.injEq] at hv
    exact ⟨b', off, hv.1, hc _ (by rw [h6]; exact Pl.at_lt6 ht)⟩
theorem lit1 (w : World) (z : Int) : Ints (w.alloc (.cells #[.int .i64 z] 3)) (.slice (some ⟨w.heap.size, 0, none⟩) 1 1) [z] := by
  refine Or.inr ⟨_, 0, 1, rfl, by simp, fun j hj => ?_⟩
  obtain rfl : j = 0 := by simpa using hj
  simp

set_option maxRecDepth 100000 in
set_option maxHeartbeats 8000000 in
theorem lawP21_small (vc : Value) (nc : Nat) (am : Option Addr) (nm cm : Nat) (a : Addr) (w : World) (hc : CodeAt w vc nc) (hcn : nc ≤ 1048576) (hmn : nm ≤ 1048576) (ha : ErrAt w a) :
    Calls Tryd.prog 7 #[vc, .slice am nm cm] w fun e w' => e = .returned (.bool true) ∧ Below w.heap.size w w' := by
  have HD := hide_it (drawDo_any vc nc w hc hcn)
  have HA : Hid (∀ W, Below w.heap.size w W → ErrAt W a) := fun W hb => ha.later hb (Nat.le_refl _)
  obtain ⟨ac, cc, rfl, _⟩ := hc
  have hci : (nc : Int) ≤ 1048576 := by omega
  have hmi : (nm : Int) ≤ 1048576 := by omega
  clear hcn ha
  go_enter Tryd.func7, Tryd.ntmps7
  go_wp2_with fail
  refine HD.out.mono ?_
  rintro e w1 ⟨room, u, hs, k, t, uz, zs, rfl, hl, hzl, hH, hI, hb1⟩
  have B1 := hide_it hb1
  have H1 := hide_it hH
  have I1 := hide_it hI
  obtain ⟨au, cu, rfl⟩ := hH.shape
  obtain ⟨az, cz, rfl⟩ := hI.shape
  clear hb1 hH hI HD
  have hl9 : hs.length ≤ 1048576 := by omega
  have hz9 : zs.length ≤ 1048576 := by omega
  obtain ⟨w2, hw2⟩ : ∃ W, Hid (W = (w1.alloc (.cells #[.int .i64 room, .slice au hs.length cu] 25)).alloc (.cells #[.int .i64 k, .int .i64 t, .slice az zs.length cz] 28)) := ⟨_, rfl⟩
  have al2 : Hid (Below w1.heap.size w1 w2) := by show Below _ _ _; rw [hw2.out]; exact below2 _ _ _
  have B2 := hide_it (B1.out.trans (al2.out.mono B1.out.size))
  have P2 : Hid (Pr w2 w1.heap.size room (.slice au hs.length cu) k t (.slice az zs.length cz)) := by show Pr _ _ _ _ _ _ _; rw [hw2.out]; exact Pr.new _ _ _ _ _ _ _ _
  have H2 := hide_it (H1.out.later al2.out (Nat.le_refl _))
  have I2 := hide_it (I1.out.later al2.out (Nat.le_refl _))
  obtain ⟨OO, hOO⟩ : ∃ x, Hid (Pl.sDo room hs k t zs = x) := ⟨_, rfl⟩
  obtain ⟨RR, hRR⟩ : ∃ x, oR room OO = x := ⟨_, rfl⟩
  obtain ⟨HS, hHS⟩ : ∃ x, oH OO = x := ⟨_, rfl⟩
  obtain ⟨BB, hBB⟩ : ∃ x, OO.isSome = x := ⟨_, rfl⟩
  have SP : Hid (∀ W, Below w2.heap.size w2 W → Calls Tryd.prog 10 #[.agg #[.int .i64 room, .slice au hs.length cu], .agg #[.int .i64 k, .int .i64 t, .slice az zs.length cz]] W fun e w' => StOut W w' e RR HS BB) := fun W hb => by
    have := specDo_any room _ hs k t _ zs W (H2.out.later hb (Nat.le_refl _)) hl9 (I2.out.later hb (Nat.le_refl _)) hz9
    rw [hOO.out, hRR, hHS, hBB] at this; exact this
  have IM : Hid (∀ W, Below w2.heap.size w2 W → Calls Tryd.prog 11 #[.agg #[.int .i64 room, .slice au hs.length cu], .agg #[.int .i64 k, .int .i64 t, .slice az zs.length cz]] W fun e w' => StOut W w' e RR HS BB) := fun W hb => by
    have := implDo_any room _ hs k t _ zs a W (H2.out.later hb (Nat.le_refl _)) hl9 (I2.out.later hb (Nat.le_refl _)) hz9 (HA.out _ (B2.out.trans (hb.mono B2.out.size)))
    rw [hOO.out, hRR, hHS, hBB] at this; exact this
  have hL9 : HS.length ≤ 1048576 := by
    rw [← hHS]
    cases hq : OO with
    | none => simp [oH]
    | some x => have h1 := hOO.out; rw [hq] at h1; have h2 := Pl.sDo_len h1; show x.length ≤ 1048576; omega
  have FIN : Hid (BB = true → RR = room ∧ Pl.sDo room hs k t zs = some HS) := fun h => by
    cases hq : OO with
    | none => rw [hq] at hBB; rw [← hBB] at h; cases h
    | some x =>
      rw [hq] at hRR hHS
      exact ⟨hRR.symm, by rw [hOO.out, hq]; exact congrArg some hHS⟩
  clear hOO hRR hHS hBB
  go_wp2_with fail
  rw [← hw2.out]
  refine (SP.out w2 (Below.refl _ _)).mono ?_
  rintro e w3 ⟨a3, c3, rfl, ho3, hb3⟩
  obtain ⟨w4, hw4⟩ : ∃ W, Hid (W = w3.alloc (.cells #[.int .i64 RR, .slice a3 HS.length c3] 25)) := ⟨_, rfl⟩
  have al4 : Below w3.heap.size w3 w4 := by rw [hw4.out]; exact alloc_below _ _
  have E4 := hide_it (hb3.trans (al4.mono hb3.size))
  have Z4 : Hid (Duo w4 w3.heap.size (.int .i64 RR) (.slice a3 HS.length c3)) := by show Duo _ _ _ _; rw [hw4.out]; exact Duo.new w3 _ _ _
  have V4 := hide_it ((holds_of_row ho3).later al4 (Nat.le_refl _))
  obtain ⟨⟨c0, c1⟩, ⟨r0, r1, r2⟩⟩ := P2.out.later hb3 (Nat.le_refl _)
  have k0 := fun o => cellAlloc c0 o
  have k1 := fun o => cellAlloc c1 o
  have k2 := fun o => cellAlloc r0 o
  have k3 := fun o => cellAlloc r1 o
  have k4 := fun o => cellAlloc r2 o
  have hl1 : w1.heap.size < w3.heap.size := World.block_lt_of_cell? _ _ c0
  have hl2 : w1.heap.size + 1 < w3.heap.size := World.block_lt_of_cell? _ _ r0
  clear ho3 hb3 al4
  go_wp2_with fail
  rw [← hw4.out]
  refine (IM.out w4 E4.out).mono ?_
  rintro e w5 ⟨a5, c5, rfl, ho5, hb5⟩
  obtain ⟨w6, hw6⟩ : ∃ W, Hid (W = w5.alloc (.cells #[.int .i64 RR, .slice a5 HS.length c5] 25)) := ⟨_, rfl⟩
  have al6 : Below w5.heap.size w5 w6 := by rw [hw6.out]; exact alloc_below _ _
  have e6 : Below w4.heap.size w4 w6 := hb5.trans (al6.mono hb5.size)
  have E6 := hide_it (E4.out.trans (e6.mono E4.out.size))
  have X6 : Hid (Duo w6 w5.heap.size (.int .i64 RR) (.slice a5 HS.length c5)) := by show Duo _ _ _ _; rw [hw6.out]; exact Duo.new w5 _ _ _
  have Z5 := hide_it (Z4.out.later hb5 (Nat.le_refl _))
  have Z6 := hide_it (Z4.out.later e6 (Nat.le_refl _))
  have V6 := hide_it (V4.out.later e6 (Nat.le_refl _))
  have U6 := hide_it ((holds_of_row ho5).later al6 (Nat.le_refl _))
  clear k0 k1 k2 k3 k4 c0 c1 r0 r1 r2
  obtain ⟨z0, z1⟩ := Z5.out
  have z0o := fun o => cellAlloc z0 o
  have z1o := fun o => cellAlloc z1 o
  have hzl3 := Z5.out.lt
  clear ho5 hb5 al6 e6
  cases BB
  · go_wp2_with fail
    rw [← hw6.out]
    refine (lnStock_any RR _ _ HS w6 U6.out V6.out hL9).mono ?_
    rintro e w7 ⟨rfl, hb7⟩
    have E7 := hide_it (E6.out.trans (hb7.mono E6.out.size))
    have U7 := hide_it (U6.out.later hb7 (Nat.le_refl _))
    have V7 := hide_it (V6.out.later hb7 (Nat.le_refl _))
    obtain ⟨p0, p1⟩ := Z6.out.later hb7 (Nat.le_refl _)
    obtain ⟨q0, q1⟩ := X6.out.later hb7 (Nat.le_refl _)
    clear hb7 z0 z1 z0o z1o
    go_wp2_with fail
    refine (lnStock_any RR _ _ HS w7 U7.out V7.out hL9).mono ?_
    rintro e w8 ⟨rfl, hb8⟩
    have B8 := hide_it (B2.out.trans ((E7.out.trans (hb8.mono E7.out.size)).mono B2.out.size))
    clear hb8
    go_wp2
    go_ret
    exact ⟨rfl, B8.out⟩
  obtain ⟨e1, hDO⟩ := FIN.out rfl
  subst e1
  clear FIN SP IM
  have HDO := hide_it hDO
  clear hDO
  go_wp2_with fail
  rw [← hw6.out]
  refine (lnStock_any RR _ _ HS w6 U6.out V6.out hL9).mono ?_
  rintro e w7 ⟨rfl, hb7⟩
  have E7 := hide_it (E6.out.trans (hb7.mono E6.out.size))
  have U7 := hide_it (U6.out.later hb7 (Nat.le_refl _))
  have X7 := hide_it (X6.out.later hb7 (Nat.le_refl _))
  have hX := X7.out.lt
  clear hb7 z0 z1 z0o z1o hzl3 V6 Z6 Z5 Z4 V4
  obtain ⟨N, hN⟩ : ∃ N : Nat, nm % 6 = N := ⟨_, rfl⟩
  have hN6 : N < 6 := by omega
  have hMt : Int.tmod (nm : Int) 6 = (N : Int) := by rw [Int.tmod_eq_emod_of_nonneg (by omega)]; omega
  clear hN
  obtain ⟨T, hT⟩ : ∃ T : Int, 1 + (N : Int) = T := ⟨_, rfl⟩
  have ht : 1 ≤ T ∧ T ≤ 6 := by omega
  have hat : Pl.at_ T = N := by unfold Pl.at_; omega
  have hT1 : T - 1 = (N : Int) := by omega
  have hNi : (N : Int) < 6 := by omega
  have HT1 := hide_it hT1
  have HAT := hide_it hat
  clear hT1 hat
  have DO : Hid (∀ (H : List Pl.H) (v : Value) (kk : Int) (u : Value) (z : List Int) (W : World) (oo : Option (List Pl.H)), Below w7.heap.size w7 W → H.length ≤ 1048576 → Holds W v H → Ints W u z → z.length ≤ 4 → Pl.sDo RR H kk T z = oo → Calls Tryd.prog 11 #[.agg #[.int .i64 RR, v], .agg #[.int .i64 kk, .int .i64 T, u]] W fun e w' => StOut W w' e (oR RR oo) (oH oo) oo.isSome) := fun H v kk u z W oo hb hH hv hu hz he => by
    have := implDo_any RR v H kk T u z a W hv hH hu (by omega) (HA.out _ (B2.out.trans ((E7.out.trans (hb.mono E7.out.size)).mono B2.out.size)))
    rw [he] at this; exact this
  obtain ⟨-, -, -, -, -, ok1⟩ := Pl.sDo_some HDO.out
  have UN := hide_it (Pl.undone ok1 ht)
  have h6 := hide_it (Pl.sOk_parts ok1).2.2.1
  have FX : Hid (∀ W, Below w7.heap.size w7 W → Calls Tryd.prog 14 #[.agg #[.int .i64 RR, .slice a5 HS.length c5]] W fun e w' => e = .returned (.int .i64 (Pl.sFree RR HS)) ∧ Below W.heap.size W w') := fun W hb => implFree_any RR _ HS W (U7.out.later hb (Nat.le_refl _)) hL9
  clear ok1
  obtain ⟨x0, x1⟩ := X7.out
  have q0 := fun o => cellAlloc x0 o
  have q1 := fun o => cellAlloc x1 o
  go_wp2_with fail
  have al8 : Below w7.heap.size w7 (w7.alloc (.cells #[.int .i64 1] 3)) := alloc_below _ _
  have J8 := hide_it (lit1 w7 1)
  rcases UN.out with ⟨hno, hwhy⟩ | ⟨G2, G3, d2, d3, d4, ff, e3, l2, l3⟩
  · refine (DO.out HS _ 1 _ [1] _ none al8 hL9 (U7.out.later al8 (Nat.le_refl _)) J8.out (by simp) hno).mono ?_
    rintro e w9 ⟨a9, c9, rfl, ho9, hb9⟩
    have e9 : Below w7.heap.size w7 w9 := al8.trans (hb9.mono al8.size)
    have L9 := hide_it e9
    obtain ⟨x0, x1⟩ := X7.out.later e9 (Nat.le_refl _)
    obtain ⟨b, off, hab, hc0, hc1⟩ := hold_at (U7.out.later L9.out (Nat.le_refl _)) h6.out ht
    subst hab
    rw [HAT.out] at hc0 hc1
    obtain ⟨m1, s1, hms⟩ : ∃ m s, Hid (Pl.hAt HS T = (m, s)) := ⟨_, _, rfl⟩
    rw [hms.out] at hc0 hc1 hwhy
    clear e9 ho9 hb9 al8 J8 DO UN q0 q1
    have k0 := fun o => cellAlloc x0 o
    have k1 := fun o => cellAlloc x1 o
    have k2 := fun o => cellAlloc hc0 o
    have k3 := fun o => cellAlloc hc1 o
    have hx9 : w5.heap.size < w9.heap.size := World.block_lt_of_cell? _ _ x0
    have hx8 : b < w9.heap.size := World.block_lt_of_cell? _ _ hc0
    have f0 : ∀ o, Calls Tryd.prog 14 #[.agg #[.int .i64 RR, .slice (some ⟨b, off, none⟩) HS.length c5]] (w9.alloc o) fun e w' => e = .returned (.int .i64 (Pl.sFree RR HS)) ∧ Below (w9.alloc o).heap.size (w9.alloc o) w' := fun o => FX.out _ (L9.out.trans ((alloc_below w9 o).mono L9.out.size))
    have F0 := hide_it f0
    clear f0
    have hT1 := HT1.out
    have hNl : (N : Int) < (HS.length : Int) := by rw [h6.out]; exact hNi
    by_cases hs0 : s1 = 0
    · subst hs0
      have hf : Pl.sFree RR HS = 0 := by
        rcases hwhy with h | h
        · exact absurd rfl h
        · exact h
      clear hwhy
      go_wp2_with fail
      refine (F0.out _).mono ?_
      rintro e w11 ⟨rfl, hb11⟩
      rw [hf]
      have B11 := hide_it (B2.out.trans ((E7.out.trans ((L9.out.trans ((below_after hb11).mono L9.out.size)).mono E7.out.size)).mono B2.out.size))
      clear hb11
      go_wp2
      go_ret
      exact ⟨rfl, B11.out⟩
    · have e0 : (s1 == 0) = false := by simpa using hs0
      clear hwhy
      go_wp2
      go_ret
      exact ⟨rfl, B2.out.trans ((E7.out.trans ((L9.out.trans ((alloc_below w9 _).mono L9.out.size)).mono E7.out.size)).mono B2.out.size)⟩
  · refine (DO.out HS _ 1 _ [1] _ (some G2) al8 hL9 (U7.out.later al8 (Nat.le_refl _)) J8.out (by simp) d2).mono ?_
    rintro e w9 ⟨a9, c9, rfl, ho9, hb9⟩
    have e9 : Below w7.heap.size w7 w9 := al8.trans (hb9.mono al8.size)
    have l2' : (oH (some G2)).length = G2.length := rfl
    have hl2 : G2.length ≤ 1048576 := by omega
    have hl3 : G3.length ≤ 1048576 := by omega
    have L6 := hide_it l3
    rw [l2'] at ho9 ⊢
    have V9 : Hid (Holds w9 (.slice a9 G2.length c9) G2) := hide_it (holds_of_row ho9)
    obtain ⟨w10, hw10⟩ : ∃ W, Hid (W = w9.alloc (.cells #[.int .i64 RR, .slice a9 G2.length c9] 25)) := ⟨_, rfl⟩
    have al10 : Below w9.heap.size w9 w10 := by rw [hw10.out]; exact alloc_below _ _
    have L10 := hide_it (e9.trans (al10.mono e9.size))
    have Y10 : Hid (Duo w10 w9.heap.size (.int .i64 RR) (.slice a9 G2.length c9)) := by show Duo _ _ _ _; rw [hw10.out]; exact Duo.new w9 _ _ _
    have V10 := hide_it (V9.out.later al10 (Nat.le_refl _))
    have orr : oR RR (some G2) = RR := rfl
    have orr3 : oR RR (some G3) = RR := rfl
    have l3' : (oH (some G3)).length = G3.length := rfl
    have iss : (some G2).isSome = true := rfl
    have iss3 : (some G3).isSome = true := rfl
    rw [orr, iss]
    clear ho9 hb9 e9 al8 J8 UN q0 q1 l2 l3 V9 al10 l2' orr iss
    obtain ⟨y0, y1⟩ := Y10.out
    go_wp2_with fail
    rw [← hw10.out]
    refine (DO.out G2 _ 3 _ [] w10 (some G3) L10.out hl2 V10.out (Or.inl ⟨rfl, none, 0, rfl, fun _ => rfl⟩) (by simp) d3).mono ?_
    rintro e w11 ⟨a11, c11, rfl, ho11, hb11⟩
    rw [orr3, iss3, l3'] at *
    have L11 := hide_it (L10.out.trans (hb11.mono L10.out.size))
    have V11 := hide_it (holds_of_row ho11)
    clear ho11 hb11 y0 y1
    obtain ⟨w12, hw12⟩ : ∃ W, Hid (W = (w11.alloc (.cells #[.int .i64 RR, .slice a11 G3.length c11] 25)).alloc (.cells #[.int .i64 1] 3)) := ⟨_, rfl⟩
    have al12 : Below w11.heap.size w11 w12 := by rw [hw12.out]; exact below2 _ _ _
    have L12 := hide_it (L11.out.trans (al12.mono L11.out.size))
    have Z12 : Hid (Duo w12 w11.heap.size (.int .i64 RR) (.slice a11 G3.length c11)) := by show Duo _ _ _ _; rw [hw12.out]; exact (Duo.new w11 _ _ _).later (alloc_below _ _) (Nat.le_refl _)
    have V12 := hide_it (V11.out.later al12 (Nat.le_refl _))
    have J12 : Hid (Ints w12 (.slice (some ⟨w11.heap.size + 1, 0, none⟩) 1 1) [1]) := by
      show Ints _ _ _
      have := lit1 (w11.alloc (.cells #[.int .i64 RR, .slice a11 G3.length c11] 25)) 1
      rw [World.size_alloc] at this
      rw [hw12.out]; exact this
    clear al12
    go_wp2_with fail
    rw [← hw12.out]
    refine (DO.out G3 _ 1 _ [1] w12 none L12.out hl3 V12.out J12.out (by simp) d4).mono ?_
    rintro e w13 ⟨a13, c13, rfl, -, hb13⟩
    have L13 := hide_it (L12.out.trans (hb13.mono L12.out.size))
    have Z13 := hide_it (Z12.out.later hb13 (Nat.le_refl _))
    have V13 := hide_it (V12.out.later hb13 (Nat.le_refl _))
    have B13 := hide_it (B2.out.trans ((E7.out.trans (L13.out.mono E7.out.size)).mono B2.out.size))
    obtain ⟨b, off, hab, hc0, hc1⟩ := hold_at V13.out L6.out ht
    subst hab
    rw [HAT.out, e3] at hc0 hc1
    have hc1 : w13.cell? ⟨b, off + N * 2 + 1, none⟩ = some (.int .i64 3) := hc1
    have iss4 : (none : Option (List Pl.H)).isSome = false := rfl
    rw [iss4] at *
    have FZ : Hid (∀ W, Below w13.heap.size w13 W → Calls Tryd.prog 14 #[.agg #[.int .i64 RR, .slice (some ⟨b, off, none⟩) G3.length c11]] W fun e w' => e = .returned (.int .i64 (Pl.sFree RR HS)) ∧ Below W.heap.size W w') := fun W hb => by
      have := implFree_any RR _ G3 W (V13.out.later hb (Nat.le_refl _)) hl3
      rw [ff] at this; exact this
    have KZ : Hid (∀ W, Below w13.heap.size w13 W → (W.cell? ⟨w11.heap.size, 0, none⟩ = some (.int .i64 RR) ∧ W.cell? ⟨w11.heap.size, 1, none⟩ = some (.slice (some ⟨b, off, none⟩) G3.length c11)) ∧ (W.cell? ⟨w5.heap.size, 0, none⟩ = some (.int .i64 RR) ∧ W.cell? ⟨w5.heap.size, 1, none⟩ = some (.slice a5 HS.length c5)) ∧ W.cell? ⟨b, off + N * 2 + 1, none⟩ = some (.int .i64 3)) := fun W hb =>
      ⟨Z13.out.later hb (Nat.le_refl _), X7.out.later (L13.out.trans (hb.mono L13.out.size)) (Nat.le_refl _), by rw [hb.cell (World.block_lt_of_cell? _ _ hc1)]; exact hc1⟩
    have HNG : Hid ((N : Int) < (G3.length : Int)) := by show (N : Int) < _; rw [L6.out]; exact hNi
    clear hb13 hc0 hc1
    obtain ⟨wn, hwn⟩ : ∃ W, Hid (W = w13.alloc (.cells #[.int .i64 (oR RR none), .slice a13 (oH none).length c13] 25)) := ⟨_, rfl⟩
    have NN : Hid (Below w13.heap.size w13 wn) := by show Below _ _ _; rw [hwn.out]; exact alloc_below _ _
    go_wp2_with fail
    rw [← hwn.out]
    have hT1 := HT1.out
    have hwr : IntKind.i64.wrap (N : Int) = (N : Int) := by simp [IntKind.wrap, IntKind.bits, IntKind.signed]; omega
    have hN0 : (0 : Int) ≤ (N : Int) := by omega
    have hNl := HNG.out
    refine wp_region_held_drew (S := fun w' => (w'.cell? ⟨w11.heap.size, 0, none⟩ = some (.int .i64 RR) ∧ w'.cell? ⟨w11.heap.size, 1, none⟩ = some (.slice (some ⟨b, off, none⟩) G3.length c11)) ∧ (w'.cell? ⟨w5.heap.size, 0, none⟩ = some (.int .i64 RR) ∧ w'.cell? ⟨w5.heap.size, 1, none⟩ = some (.slice a5 HS.length c5)) ∧ w'.cell? ⟨b, off + N * 2 + 1, none⟩ = some (.int .i64 3)) (by kernel_rfl) (KZ.out wn NN.out) (fun hHeld => ?_)
    refine takeD (i := 0) (v := .bool true) (some 106) rfl rfl (by kernel_rfl) (by kernel_rfl) (by kernel_rfl) (fun _ _ _ h => h) (by rfl) hHeld ?_ ?_
    · intro W hSw
      try dsimp only at hSw
      first | (go_simp; done) | (go_simp; simp)
    try simp only [Act.put]
    try simp only [List.setIfInBounds_toArray]
    try simp only [List.set_cons_succ]
    try simp only [List.set_cons_zero]
    refine takeD (i := 1) (v := .bool true) (some 107) rfl rfl (by kernel_rfl) (by kernel_rfl) (by kernel_rfl) (fun _ _ _ h => h) (by rfl) hHeld ?_ ?_
    · intro W hSw
      try dsimp only at hSw
      first | (go_simp; done) | (go_simp; simp)
    try simp only [Act.put]
    try simp only [List.setIfInBounds_toArray]
    try simp only [List.set_cons_succ]
    try simp only [List.set_cons_zero]
    refine takeD (i := 2) (v := .bool false) (some 108) rfl rfl (by kernel_rfl) (by kernel_rfl) (by kernel_rfl) (fun _ _ _ h => h) (by rfl) hHeld ?_ ?_
    · intro W hSw
      try dsimp only at hSw
      first | (go_simp; done) | (go_simp; simp)
    try simp only [Act.put]
    try simp only [List.setIfInBounds_toArray]
    try simp only [List.set_cons_succ]
    try simp only [List.set_cons_zero]
    refine takeD (i := 3) (v := .bool true) (some 109) rfl rfl (by kernel_rfl) (by kernel_rfl) (by kernel_rfl) (fun _ _ _ h => h) (by rfl) hHeld ?_ ?_
    · intro W hSw
      try dsimp only at hSw
      first | (go_simp; done) | (go_simp; simp)
    try simp only [Act.put]
    try simp only [List.setIfInBounds_toArray]
    try simp only [List.set_cons_succ]
    try simp only [List.set_cons_zero]
    refine takeD (i := 4) (v := .bool true) (some 110) rfl rfl (by kernel_rfl) (by kernel_rfl) (by kernel_rfl) (fun _ _ _ h => h) (by rfl) hHeld ?_ ?_
    · intro W hSw
      try dsimp only at hSw
      first | (go_simp; done) | (go_simp; simp)
    try simp only [Act.put]
    try simp only [List.setIfInBounds_toArray]
    try simp only [List.set_cons_succ]
    try simp only [List.set_cons_zero]
    refine takeD (i := 5) (v := .bool true) (some 111) rfl rfl (by kernel_rfl) (by kernel_rfl) (by kernel_rfl) (fun _ _ _ h => h) (by rfl) hHeld ?_ ?_
    · intro W hSw
      try dsimp only at hSw
      first | (go_simp; done) | (go_simp; simp)
    try simp only [Act.put]
    try simp only [List.setIfInBounds_toArray]
    try simp only [List.set_cons_succ]
    try simp only [List.set_cons_zero]
    refine takeD (i := 6) (v := ?_) (some 112) rfl rfl (by kernel_rfl) (by kernel_rfl) (by kernel_rfl) (fun _ _ _ h => h) (by rfl) hHeld ?_ ?_
    rotate_left
    · intro W hSw
      try dsimp only at hSw
      go_simp
      try with_reducible rfl
    try simp only [Act.put]
    try simp only [List.setIfInBounds_toArray]
    try simp only [List.set_cons_succ]
    try simp only [List.set_cons_zero]
    refine takeD (i := 8) (v := ?_) (some 114) rfl rfl (by kernel_rfl) (by kernel_rfl) (by kernel_rfl) (fun _ _ _ h => h) (by rfl) hHeld ?_ ?_
    rotate_left
    · intro W hSw
      try dsimp only at hSw
      go_simp
      try with_reducible rfl
    try simp only [Act.put]
    try simp only [List.setIfInBounds_toArray]
    try simp only [List.set_cons_succ]
    try simp only [List.set_cons_zero]
    refine wpAnyH_ready (rs := [7]) (by kernel_rfl) (by simp) ?_
    refine AllReadyH.cons rfl (fun K hK => ?_) AllReadyH.nil
    go_simp
    refine (FZ.out _ NN.out.drew).mono ?_
    rintro e w14 ⟨rfl, hb14⟩
    have N14 := hide_it (NN.out.drew.trans (hb14.mono NN.out.drew.size))
    clear hb14
    try dsimp only
    refine hK.out _ _ (KZ.out _ N14.out) (fun hHeld => ?_)
    clear hK K
    refine wpAnyH_ready (rs := [9]) (by kernel_rfl) (by simp) ?_
    refine AllReadyH.cons rfl (fun K hK => ?_) AllReadyH.nil
    go_simp
    refine (FX.out _ (L13.out.trans (N14.out.mono L13.out.size))).mono ?_
    rintro e w15 ⟨rfl, hb15⟩
    have N15 := hide_it (N14.out.trans (hb15.mono N14.out.size))
    clear hb15
    try dsimp only
    refine hK.out _ _ (KZ.out _ N15.out) (fun hHeld => ?_)
    clear hK K
    refine takeD (i := 10) (v := .bool true) (some 116) rfl rfl (by kernel_rfl) (by kernel_rfl) (by kernel_rfl) (fun _ _ _ h => h) (by rfl) hHeld ?_ ?_
    · intro W hSw
      try dsimp only at hSw
      first | (go_simp; done) | (go_simp; simp)
    try simp only [Act.put]
    try simp only [List.setIfInBounds_toArray]
    try simp only [List.set_cons_succ]
    try simp only [List.set_cons_zero]
    refine takeD (i := 11) (v := .bool true) (some 117) rfl rfl (by kernel_rfl) (by kernel_rfl) (by kernel_rfl) (fun _ _ _ h => h) (by rfl) hHeld ?_ ?_
    · intro W hSw
      try dsimp only at hSw
      first | (go_simp; done) | (go_simp; simp)
    try simp only [Act.put]
    try simp only [List.setIfInBounds_toArray]
    try simp only [List.set_cons_succ]
    try simp only [List.set_cons_zero]
    refine takeD (i := 12) (v := .bool true) (some 118) rfl rfl (by kernel_rfl) (by kernel_rfl) (by kernel_rfl) (fun _ _ _ h => h) (by rfl) hHeld ?_ ?_
    · intro W hSw
      try dsimp only at hSw
      first | (go_simp; done) | (go_simp; simp)
    try simp only [Act.put]
    try simp only [List.setIfInBounds_toArray]
    try simp only [List.set_cons_succ]
    try simp only [List.set_cons_zero]
    refine takeD (i := 13) (v := ?_) (some 119) rfl rfl (by kernel_rfl) (by kernel_rfl) (by kernel_rfl) (fun _ _ _ h => h) (by rfl) hHeld ?_ ?_
    rotate_left
    · intro W hSw
      try dsimp only at hSw
      go_simp
      try with_reducible rfl
    try simp only [Act.put]
    try simp only [List.setIfInBounds_toArray]
    try simp only [List.set_cons_succ]
    try simp only [List.set_cons_zero]
    refine takeD (i := 14) (v := ?_) (some 120) rfl rfl (by kernel_rfl) (by kernel_rfl) (by kernel_rfl) (fun _ _ _ h => h) (by rfl) hHeld ?_ ?_
    rotate_left
    · intro W hSw
      try dsimp only at hSw
      go_simp
      try with_reducible rfl
    try simp only [Act.put]
    try simp only [List.setIfInBounds_toArray]
    try simp only [List.set_cons_succ]
    try simp only [List.set_cons_zero]
    refine takeD (i := 15) (v := ?_) (some 121) rfl rfl (by kernel_rfl) (by kernel_rfl) (by kernel_rfl) (fun _ _ _ h => h) (by rfl) hHeld ?_ ?_
    rotate_left
    · intro W hSw
      try dsimp only at hSw
      go_simp
      try with_reducible rfl
    try simp only [Act.put]
    try simp only [List.setIfInBounds_toArray]
    try simp only [List.set_cons_succ]
    try simp only [List.set_cons_zero]
    refine takeD (i := 16) (v := ?_) (some 122) rfl rfl (by kernel_rfl) (by kernel_rfl) (by kernel_rfl) (fun _ _ _ h => h) (by rfl) hHeld ?_ ?_
    rotate_left
    · intro W hSw
      try dsimp only at hSw
      go_simp
      try with_reducible rfl
    try simp only [Act.put]
    try simp only [List.setIfInBounds_toArray]
    try simp only [List.set_cons_succ]
    try simp only [List.set_cons_zero]
    refine takeD (i := 17) (v := ?_) (some 123) rfl rfl (by kernel_rfl) (by kernel_rfl) (by kernel_rfl) (fun _ _ _ h => h) (by rfl) hHeld ?_ ?_
    rotate_left
    · intro W hSw
      try dsimp only at hSw
      go_simp
      try with_reducible rfl
    try simp only [Act.put]
    try simp only [List.setIfInBounds_toArray]
    try simp only [List.set_cons_succ]
    try simp only [List.set_cons_zero]
    refine takeD (i := 18) (v := ?_) (some 124) rfl rfl (by kernel_rfl) (by kernel_rfl) (by kernel_rfl) (fun _ _ _ h => h) (by rfl) hHeld ?_ ?_
    rotate_left
    · intro W hSw
      try dsimp only at hSw
      go_simp
      try with_reducible rfl
    try simp only [Act.put]
    try simp only [List.setIfInBounds_toArray]
    try simp only [List.set_cons_succ]
    try simp only [List.set_cons_zero]
    refine takeD (i := 19) (v := ?_) (some 125) rfl rfl (by kernel_rfl) (by kernel_rfl) (by kernel_rfl) (fun _ _ _ h => h) (by rfl) hHeld ?_ ?_
    rotate_left
    · intro W hSw
      try dsimp only at hSw
      go_simp
      try with_reducible rfl
    try simp only [Act.put]
    try simp only [List.setIfInBounds_toArray]
    try simp only [List.set_cons_succ]
    try simp only [List.set_cons_zero]
    refine takeD (i := 20) (v := .bool true) (some 126) rfl rfl (by kernel_rfl) (by kernel_rfl) (by kernel_rfl) (fun _ _ _ h => h) (by rfl) hHeld ?_ ?_
    · intro W hSw
      try dsimp only at hSw
      first | (go_simp; done) | (go_simp; simp)
    try simp only [Act.put]
    try simp only [List.setIfInBounds_toArray]
    try simp only [List.set_cons_succ]
    try simp only [List.set_cons_zero]
    refine takeD (i := 21) (v := .bool true) (some 127) rfl rfl (by kernel_rfl) (by kernel_rfl) (by kernel_rfl) (fun _ _ _ h => h) (by rfl) hHeld ?_ ?_
    · intro W hSw
      try dsimp only at hSw
      first | (go_simp; done) | (go_simp; simp)
    try simp only [Act.put]
    try simp only [List.setIfInBounds_toArray]
    try simp only [List.set_cons_succ]
    try simp only [List.set_cons_zero]
    refine takeD (i := 22) (v := ?_) (some 4) rfl rfl (by kernel_rfl) (by kernel_rfl) (by kernel_rfl) (fun _ _ _ h => h) (by rfl) hHeld ?_ ?_
    rotate_left
    · intro W hSw
      try dsimp only at hSw
      go_simp
      try with_reducible rfl
    try simp only [Act.put]
    try simp only [List.setIfInBounds_toArray]
    try simp only [List.set_cons_succ]
    try simp only [List.set_cons_zero]
    refine wpAnyH_done (by kernel_rfl) ?_ _
    go_wp2
    go_ret
    exact ⟨rfl, B13.out.trans (N15.out.mono B13.out.size)⟩

end Go.Proofs.YtcofnjooiemkfaaDoor

namespace Go.Proofs.YtcofnjooiemkfaaDoor
open Go.ChangeShapes Go.WideShapes Go.ChangeAt Go.WideMaps Go.WideElems Go.RowKit Go.Joins

set_option maxHeartbeats 1000000 in
theorem lawP21_great1 (ac : Option Addr) (nc cc : Nat) (am : Option Addr) (nm cm : Nat) (w : World) (h : 1048576 < (nc : Int)) :
    Calls Tryd.prog 7 #[.slice ac nc cc, .slice am nm cm] w fun e w' => e = .returned (.bool true) ∧ Below w.heap.size w w' := by
  go_enter Tryd.func7, Tryd.ntmps7
  go_wp2
  go_ret
  exact ⟨rfl, Below.refl _ _⟩

set_option maxHeartbeats 1000000 in
theorem lawP21_great2 (ac : Option Addr) (nc cc : Nat) (am : Option Addr) (nm cm : Nat) (w : World) (hc : (nc : Int) ≤ 1048576) (h : 1048576 < (nm : Int)) :
    Calls Tryd.prog 7 #[.slice ac nc cc, .slice am nm cm] w fun e w' => e = .returned (.bool true) ∧ Below w.heap.size w w' := by
  go_enter Tryd.func7, Tryd.ntmps7
  go_wp2
  go_ret
  exact ⟨rfl, Below.refl _ _⟩

theorem lawP21_any (vc vm : Value) (nc nm : Nat) (a : Addr) (w : World) (hc : CodeAt w vc nc) (hm : CodeAt w vm nm) (ha : ErrAt w a) :
    Calls Tryd.prog 7 #[vc, vm] w fun e w' => e = .returned (.bool true) ∧ Below w.heap.size w w' := by
  obtain ⟨am, cm, rfl, _⟩ := hm
  by_cases h1 : nc ≤ 1048576
  · by_cases h2 : nm ≤ 1048576
    · exact lawP21_small vc nc am nm cm a w hc h1 h2 ha
    · obtain ⟨ac, cc, rfl, _⟩ := hc
      exact lawP21_great2 ac nc cc am nm cm w (by omega) (by omega)
  · obtain ⟨ac, cc, rfl, _⟩ := hc
    exact lawP21_great1 ac nc cc am nm cm w (by omega)

set_option maxRecDepth 100000 in
theorem p21_lifted (os : Os) (started : os.Started) (H : Type) (enc : TypeId × Value → H) :
    ReturnsInHanded {} Tryd.checked os 7 .any (fun w args => (Rows.fnStockUndoSpec.pre enc Tryd.prog Tryd.f7 [] false w args ∧ laidMetH Tryd.prog laidErr w) ∧ sizedMet enc Tryd.prog Tryd.f7 (OpenSpec.ofChange Rows.fnStockUndoSpec) false w args)
      (Rows.fnStockUndoSpec.post enc Tryd.prog Tryd.f7 false true false false) := by
  refine returnsInHanded_of_change_and (C := Tryd.checked) (X := fun w _ => laidMetH Tryd.prog laidErr w) (fun _ _ _ hh h => h.of_heap hh) own started (by kernel_rfl) Tryd.func7
    (ChangeSpec.witness_shaped (enc := enc) (C := Tryd.checked) (os := os) (X := fun w _ => laidMetH Tryd.prog laidErr w) false (World.doorLaid Tryd.prog 28 os) #[.slice none 0 0, .slice none 0 0] 8 rfl (World.shaped_of_RefB (by kernel_rfl) (by kernel_rfl)) (by kernel_rfl) (by kernel_rfl) (by kernel_rfl) (door_met os _)) ?_
  intro W base args ds gs before hval0 hW _ _ hL _
  have hval : ∀ (j : Nat) t v, Tryd.f7.params[j]? = some t → args[j]? = some v → Value.okWide Tryd.prog W .any base t v := hval0
  have hW' := hW
  obtain ⟨p, q, hA0, hV0, rfl, hfz, hnd⟩ := hW
  have hA : DataW.TrodAll enc Tryd.prog W 0 (fun _ => true) true Tryd.f7.params.toList args.toList ds p := hA0
  have hV : DataW.TrodVars enc Tryd.prog W (fun _ => true) ["loop.example/concierge/impl.errNoRec"] gs q := hV0
  rw [Tryd.params7] at hA hval
  obtain ⟨v0, v1, d0, d1, p0, p1, rfl, rfl, rfl, h0, h1⟩ := trodAll_two hA
  obtain ⟨a, hErr, hvar⟩ := of_laid hL
  have vr : ∀ {X : World}, X.var? Tryd.prog "loop.example/concierge/impl.errNoRec" = some #[.iface 101 (.pointer (some a))] → ∀ sp : Nat → Bool,
      DataW.TrodVars enc Tryd.prog X sp ["loop.example/concierge/impl.errNoRec"] [tok enc (.iface 101 (.pointer (some a)))] [.cell 0 0] :=
    fun x0 sp => vars_read1 enc gErr gErrType Tryd.underlying72 x0 trivial sp
  obtain ⟨rfl, rfl⟩ := hV.unique (vr hvar _)
  clear hA0 hV0 hval0
  obtain ⟨nc, hC, _⟩ := open_code (hval 0 22 v0 rfl rfl) h0
  obtain ⟨nm, hM, _⟩ := open_code (hval 1 22 v1 rfl rfl) h1
  refine (lawP21_any v0 v1 nc nm a W hC hM hErr).mono fun e W' ⟨he, hb⟩ => ?_
  subst he
  have hlt : ∀ x ∈ p0, x.block < W.heap.size := fun x hx => hW'.lt x (by simp [hx])
  have hlt1 : ∀ x ∈ p1, x.block < W.heap.size := fun x hx => hW'.lt x (by simp [hx])
  refine ⟨_, rfl, _, _, _, [], p0 ++ p1, [.cell 0 0], hW', ?_, ?_, ?_, hb.frame _, fun h => by cases h⟩
  · exact trodAll_mk1 (shut_bool Tryd.underlying4 true)
  · exact trodAll_mk2 (Below.trod laidOut (by kernel_rfl) (of_decide_eq_true (by kernel_rfl)) h0 hb hlt) (Below.trod laidOut (by kernel_rfl) (of_decide_eq_true (by kernel_rfl)) h1 hb hlt1)
  · exact vr (var?_below hb gErr (World.block_lt_of_cell? _ _ hErr) hvar) _

theorem p21_said : Rows.FnStockUndoSaid :=
  OpenClaim.holds_of_wide 7 Tryd.f7 rfl rfl rfl rfl rfl rfl rfl ⟨rfl, rfl, rfl, rfl, rfl⟩ rfl rfl rfl rfl rfl (by kernel_rfl) Tryd.func7 (by kernel_rfl)
    (of_decide_eq_true (by kernel_rfl)) (by unfold Func.isWrapper; first | (rw [if_pos (by decide +kernel)]; kernel_rfl) | (rw [if_neg (by decide +kernel)]; exact ⟨rfl, rfl⟩))
    (fun os started H enc _ => p21_lifted os started H enc)

theorem p21_plain (f : FuncId) (fn : Func) (hf : Tryd.pinned.checked.prog.funcNamed "loop.example/concierge/laws.FnStockUndo" = some f) (hfn : Tryd.pinned.checked.prog.funcs[f]? = some fn) :
    true = Tryd.pinned.checked.prog.looks [] ∧ ∀ (j : Nat) t, fn.params[j]? = some t → Tryd.pinned.checked.prog.wantsStandIn t = false := by
  obtain rfl : f = 7 := Option.some.inj ((show Tryd.prog.funcNamed "loop.example/concierge/laws.FnStockUndo" = some 7 by kernel_rfl).symm.trans hf) |>.symm
  obtain rfl : fn = Tryd.f7 := (Option.some.inj (Tryd.func7.symm.trans hfn)).symm
  refine ⟨by kernel_rfl, fun j t ht => ?_⟩
  rw [Tryd.params7] at ht
  obtain rfl : t = 22 := by simpa using Array.mem_of_getElem? ht
  exact (show Tryd.prog.wantsStandIn 22 = false by kernel_rfl)

theorem p21_card : Rows.FnStockUndoCardSaid :=
  Claim7.holds_tied_plain_at .later [] _ _ _ _ p21_said (fun _ h => by cases h) (by kernel_rfl) (fun _ h => by cases h) fnStockUndo_row_tie rfl ⟨rfl, rfl⟩ (by kernel_rfl) rfl p21_plain (by kernel_rfl)
#print axioms p21_card

end Go.Proofs.YtcofnjooiemkfaaDoor
