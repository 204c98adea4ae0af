/- FnStockStep answers true whatever the code, and it reads afterwards as it read before: promise 16 at every drawn stock and record. The card: the sentinel's variable starts as the program's text lays it. -/
import Derived.Test.YtcofnjooiemkfaaDoorBase5

namespace Go.Proofs.YtcofnjooiemkfaaDoor
open Go.RowKit
namespace Pl
theorem recOk_h1 {t : Int} (ht : 1 ≤ t ∧ t ≤ 6) : recOk 1 t [1] = true := by
  rw [recOk_1 t [1] (inB_mk ht.1 ht.2)]; rfl
theorem recOk_u {t : Int} (ht : 1 ≤ t ∧ t ≤ 6) : recOk 3 t [] = true := by
  rw [recOk_p 3 t [] (inB_mk ht.1 ht.2) (by decide) (by decide)]; rfl
theorem recOk_c {t : Int} (ht : 1 ≤ t ∧ t ≤ 6) : recOk 2 t [] = true := by
  rw [recOk_p 2 t [] (inB_mk ht.1 ht.2) (by decide) (by decide)]; rfl
theorem sDo_ok {room : Int} {hs : List H} {k t : Int} {zs : List Int} {x : H} (h : sOk room hs = true) (h2 : recOk k t zs = true) (hn : next (hAt hs t) k (zs.headD 0) (free room hs) = some x) : sDo room hs k t zs = some (hs.set (at_ t) x) := by
  unfold sDo; rw [behind_ok h h2, hn]; rfl
theorem sDo_no {room : Int} {hs : List H} {k t : Int} {zs : List Int} (hn : next (hAt hs t) k (zs.headD 0) (free room hs) = none) : sDo room hs k t zs = none := by
  unfold sDo behind
  split
  · rw [hn]; rfl
  · rfl
theorem at_lt6 {t : Int} (ht : 1 ≤ t ∧ t ≤ 6) : at_ t < 6 := by unfold at_; omega
/-- A hold of one, and then an undo. -/
theorem undone {room : Int} {hs : List H} {t : Int} (ok : sOk room hs = true) (ht : 1 ≤ t ∧ t ≤ 6) :
    (sDo room hs 1 t [1] = none ∧ ((hAt hs t).2 ≠ 0 ∨ sFree room hs = 0)) ∨
    (∃ h2 h3, sDo room hs 1 t [1] = some h2 ∧ sDo room h2 3 t [] = some h3 ∧ sDo room h3 1 t [1] = none ∧ sFree room h3 = sFree room hs ∧ hAt h3 t = (1, 3) ∧ h2.length = 6 ∧ h3.length = 6) := by
  have h6 := (sOk_parts ok).2.2.1
  have hat : at_ t < hs.length := by rw [h6]; exact at_lt6 ht
  have hf := (sFree_of ok)
  by_cases c : (hAt hs t).2 = 0 ∧ (1 : Int) ≤ free room hs
  · have hn : next (hAt hs t) 1 (([1] : List Int).headD 0) (free room hs) = some (1, 1) := by simp [next, c.1, c.2]
    have d2 := sDo_ok ok (recOk_h1 ht) hn
    have ok2 := sDo_keeps d2
    have e2 : hAt (hs.set (at_ t) (1, 1)) t = (1, 1) := hAt_set hat
    have hn2 : next (hAt (hs.set (at_ t) (1, 1)) t) 3 (([] : List Int).headD 0) (free room (hs.set (at_ t) (1, 1))) = some (1, 3) := by rw [e2]; simp [next]
    have d3 := sDo_ok ok2 (recOk_u ht) hn2
    have ok3 := sDo_keeps d3
    have hl2 : at_ t < (hs.set (at_ t) (1, 1)).length := by rw [List.length_set]; exact hat
    have e3 : hAt ((hs.set (at_ t) (1, 1)).set (at_ t) (1, 3)) t = (1, 3) := hAt_set hl2
    have hh : (hAt hs t).1 = 0 := by
      have hm := (List.all_eq_true.1 (sOk_parts ok).1) _ (hAt_mem hs t hat)
      have e : hAt hs t = ((hAt hs t).1, 0) := by rw [← c.1]
      rw [e, hOk_0] at hm
      exact of_decide_eq_true hm
    have f3 : free room ((hs.set (at_ t) (1, 1)).set (at_ t) (1, 3)) = free room hs := by
      rw [free_set _ _ _ _ hl2, free_set _ _ _ _ hat]
      have g1 : (hs.set (at_ t) (1, 1)).getD (at_ t) (0, 0) = (1, 1) := e2
      have g0 : hHad (hs.getD (at_ t) (0, 0)) = 0 := hHad_x (hAt hs t).1 (hAt hs t).2 (by omega) (by omega)
      rw [g1, g0, hHad_1, hHad_x _ _ (by decide) (by decide)]
      omega
    refine Or.inr ⟨_, _, d2, d3, sDo_no (by rw [e3]; simp [next]), ?_, e3, by simp [h6], by simp [h6]⟩
    rw [sFree_yes ok3, hf.1, f3]
  · refine Or.inl ⟨sDo_no (by simp only [next, if_true]; rw [if_neg (by simpa using c)]), ?_⟩
    by_cases c0 : (hAt hs t).2 = 0
    · right
      have : ¬ (1 : Int) ≤ free room hs := fun e => c ⟨c0, e⟩
      omega
    · exact Or.inl c0
end Pl

/-- What lies at a trip's place. -/
theorem hold_at {W : World} {au : Option Addr} {n cu : Nat} {hs : List Pl.H} {t : Int} (h : Holds W (.slice au n cu) hs) (h6 : hs.length = 6) (ht : 1 ≤ t ∧ t ≤ 6) :
    ∃ b off, au = some ⟨b, off, none⟩ ∧ (W.cell? ⟨b, off + Pl.at_ t * 2, none⟩ = some (.int .i64 (Pl.hAt hs t).1) ∧ W.cell? ⟨b, off + Pl.at_ t * 2 + 1, none⟩ = some (.int .i64 (Pl.hAt hs t).2)) := by
  rcases h with ⟨h0, _⟩ | ⟨b', off, cap', hv, _, hc⟩
  · rw [h0] at h6; simp at h6
  · simp only [Value.slice.injEq] at hv
    exact ⟨b', off, hv.1, hc _ (by rw [h6]; exact Pl.at_lt6 ht)⟩
theorem lit1 (w : World) (z : Int) : Ints (w.alloc (.cells #[.int .i64 z] 3)) (.slice (some ⟨w.heap.size, 0, none⟩) 1 1) [z] := by
  refine Or.inr ⟨_, 0, 1, rfl, by simp, fun j hj => ?_⟩
  obtain rfl : j = 0 := by simpa using hj
  simp
namespace Pl
theorem getD_set_ne {hs : List H} {i j : Nat} {x : H} (h : i ≠ j) : (hs.set i x).getD j (0, 0) = hs.getD j (0, 0) := by
  simp [List.getD_eq_getElem?_getD, List.getElem?_set_ne h]
/-- A record changes what its trip has, and nothing else. -/
theorem step {room : Int} {hs hs' : List H} {k t : Int} {zs : List Int} (h : sDo room hs k t zs = some hs') :
    (∀ i, i ≠ at_ t → hs'.getD i (0, 0) = hs.getD i (0, 0)) ∧
    ((k = 1 ∧ ∃ m, zs = [m] ∧ 1 ≤ m ∧ m ≤ 3 ∧ hAt hs' t = (m, 1) ∧ sFree room hs' - sFree room hs = -m) ∨ (k = 2 ∧ hAt hs' t = ((hAt hs t).1, 2) ∧ sFree room hs' - sFree room hs = 0) ∨ (k = 3 ∧ hAt hs' t = ((hAt hs t).1, 3) ∧ sFree room hs' - sFree room hs = (hAt hs t).1)) := by
  obtain ⟨x, hn, hset, ok0, rok, ok1⟩ := sDo_some h
  have ht := recOk_trip rok
  have h6 := (sOk_parts ok0).2.2.1
  have hi : at_ t < hs.length := by rw [h6]; exact at_lt6 ht
  have e : hAt hs' t = x := by rw [hset]; exact hAt_set hi
  have hok := (List.all_eq_true.1 (sOk_parts ok0).1) _ (hAt_mem hs t hi)
  have fr : free room hs' = free room hs + hHad (hAt hs t) - hHad x := by rw [hset]; exact free_set room hs _ x hi
  refine ⟨fun i hne => by rw [hset]; exact getD_set_ne (Ne.symm hne), ?_⟩
  rw [sFree_yes ok0, sFree_yes ok1, e]
  have e0 : ∀ g : H, g.2 = 0 → hHad g = 0 := fun g e => hHad_x g.1 g.2 (by omega) (by omega)
  have e1 : ∀ g : H, g.2 = 1 → hHad g = g.1 := fun g e => by
    have : g = (g.1, 1) := by rw [← e]
    rw [this, hHad_1]
  have e3 : ∀ m : Int, hHad (m, 3) = 0 := fun m => hHad_x m 3 (by decide) (by decide)
  rcases next_kinds hn with ⟨rfl, h0, hm, rfl⟩ | ⟨rfl, h1, rfl⟩ | ⟨rfl, h1, rfl⟩
  · obtain ⟨z, rfl, z1, z3⟩ := recOk_hold rok
    simp only [List.headD_cons] at fr
    rw [e0 _ h0, hHad_1] at fr
    exact Or.inl ⟨rfl, z, rfl, z1, z3, rfl, by omega⟩
  · rw [e1 _ h1, hHad_2] at fr
    exact Or.inr (Or.inl ⟨rfl, rfl, by omega⟩)
  · rw [e3] at fr
    refine Or.inr (Or.inr ⟨rfl, rfl, ?_⟩)
    rcases h1 with h1 | h1
    · rw [e1 _ h1] at fr; omega
    · rw [e0 _ h1] at fr
      have e : hAt hs t = ((hAt hs t).1, 0) := by rw [← h1]
      rw [e, hOk_0] at hok
      have := of_decide_eq_true hok
      omega
end Pl

/-- All that lies there. -/
theorem holds_cells {W : World} {au : Option Addr} {n cu : Nat} {hs : List Pl.H} (h : Holds W (.slice au n cu) hs) (h6 : hs.length = 6) :
    ∃ b off, au = some ⟨b, off, none⟩ ∧ ∀ k, k < 6 → (W.cell? ⟨b, off + k * 2, none⟩ = some (.int .i64 (hs.getD k (0, 0)).1) ∧ W.cell? ⟨b, off + k * 2 + 1, none⟩ = some (.int .i64 (hs.getD k (0, 0)).2)) := by
  rcases h with ⟨h0, _⟩ | ⟨b', off, cap', hv, _, hc⟩
  · rw [h0] at h6; simp at h6
  · simp only [Value.slice.injEq] at hv
    exact ⟨b', off, hv.1, fun k hk => hc k (by omega)⟩

set_option maxRecDepth 100000 in
set_option maxHeartbeats 8000000 in
theorem lawP16_small (vc : Value) (nc : Nat) (a : Addr) (w : World) (hc : CodeAt w vc nc) (hcn : nc ≤ 1048576) (ha : ErrAt w a) :
    Calls Tryd.prog 4 #[vc] w fun e w' => e = .returned (.bool true) ∧ Below w.heap.size w w' := by
  have HD := hide_it (drawDo_any vc nc w hc hcn)
  have HA : Hid (∀ W, Below w.heap.size w W → ErrAt W a) := fun W hb => ha.later hb (Nat.le_refl _)
  obtain ⟨ac, cc, rfl, _⟩ := hc
  have hci : (nc : Int) ≤ 1048576 := by omega
  clear hcn ha
  go_enter Tryd.func4, Tryd.ntmps4
  go_wp2_with fail
  refine HD.out.mono ?_
  rintro e w1 ⟨room, u, hs, k, t, uz, zs, rfl, hl, hzl, hH, hI, hb1⟩
  have B1 := hide_it hb1
  have H1 := hide_it hH
  have I1 := hide_it hI
  obtain ⟨au, cu, rfl⟩ := hH.shape
  obtain ⟨az, cz, rfl⟩ := hI.shape
  clear hb1 hH hI HD
  have hl9 : hs.length ≤ 1048576 := by omega
  have hz9 : zs.length ≤ 1048576 := by omega
  obtain ⟨w2, hw2⟩ : ∃ W, Hid (W = (w1.alloc (.cells #[.int .i64 room, .slice au hs.length cu] 25)).alloc (.cells #[.int .i64 k, .int .i64 t, .slice az zs.length cz] 28)) := ⟨_, rfl⟩
  have al2 : Hid (Below w1.heap.size w1 w2) := by show Below _ _ _; rw [hw2.out]; exact below2 _ _ _
  have B2 := hide_it (B1.out.trans (al2.out.mono B1.out.size))
  have P2 : Hid (Pr w2 w1.heap.size room (.slice au hs.length cu) k t (.slice az zs.length cz)) := by show Pr _ _ _ _ _ _ _; rw [hw2.out]; exact Pr.new _ _ _ _ _ _ _ _
  have H2 := hide_it (H1.out.later al2.out (Nat.le_refl _))
  have I2 := hide_it (I1.out.later al2.out (Nat.le_refl _))
  obtain ⟨OO, hOO⟩ : ∃ x, Hid (Pl.sDo room hs k t zs = x) := ⟨_, rfl⟩
  obtain ⟨RR, hRR⟩ : ∃ x, oR room OO = x := ⟨_, rfl⟩
  obtain ⟨HS, hHS⟩ : ∃ x, oH OO = x := ⟨_, rfl⟩
  obtain ⟨BB, hBB⟩ : ∃ x, OO.isSome = x := ⟨_, rfl⟩
  have SP : Hid (∀ W, Below w2.heap.size w2 W → Calls Tryd.prog 10 #[.agg #[.int .i64 room, .slice au hs.length cu], .agg #[.int .i64 k, .int .i64 t, .slice az zs.length cz]] W fun e w' => StOut W w' e RR HS BB) := fun W hb => by
    have := specDo_any room _ hs k t _ zs W (H2.out.later hb (Nat.le_refl _)) hl9 (I2.out.later hb (Nat.le_refl _)) hz9
    rw [hOO.out, hRR, hHS, hBB] at this; exact this
  have IM : Hid (∀ W, Below w2.heap.size w2 W → Calls Tryd.prog 11 #[.agg #[.int .i64 room, .slice au hs.length cu], .agg #[.int .i64 k, .int .i64 t, .slice az zs.length cz]] W fun e w' => StOut W w' e RR HS BB) := fun W hb => by
    have := implDo_any room _ hs k t _ zs a W (H2.out.later hb (Nat.le_refl _)) hl9 (I2.out.later hb (Nat.le_refl _)) hz9 (HA.out _ (B2.out.trans (hb.mono B2.out.size)))
    rw [hOO.out, hRR, hHS, hBB] at this; exact this
  have hL9 : HS.length ≤ 1048576 := by
    rw [← hHS]
    cases hq : OO with
    | none => simp [oH]
    | some x => have h1 := hOO.out; rw [hq] at h1; have h2 := Pl.sDo_len h1; show x.length ≤ 1048576; omega
  have FIN : Hid (BB = true → RR = room ∧ Pl.sDo room hs k t zs = some HS) := fun h => by
    cases hq : OO with
    | none => rw [hq] at hBB; rw [← hBB] at h; cases h
    | some x =>
      rw [hq] at hRR hHS
      exact ⟨hRR.symm, by rw [hOO.out, hq]; exact congrArg some hHS⟩
  clear hOO hRR hHS hBB
  go_wp2_with fail
  rw [← hw2.out]
  refine (SP.out w2 (Below.refl _ _)).mono ?_
  rintro e w3 ⟨a3, c3, rfl, ho3, hb3⟩
  obtain ⟨w4, hw4⟩ : ∃ W, Hid (W = w3.alloc (.cells #[.int .i64 RR, .slice a3 HS.length c3] 25)) := ⟨_, rfl⟩
  have al4 : Below w3.heap.size w3 w4 := by rw [hw4.out]; exact alloc_below _ _
  have E4 := hide_it (hb3.trans (al4.mono hb3.size))
  have Z4 : Hid (Duo w4 w3.heap.size (.int .i64 RR) (.slice a3 HS.length c3)) := by show Duo _ _ _ _; rw [hw4.out]; exact Duo.new w3 _ _ _
  have V4 := hide_it ((holds_of_row ho3).later al4 (Nat.le_refl _))
  obtain ⟨⟨c0, c1⟩, ⟨r0, r1, r2⟩⟩ := P2.out.later hb3 (Nat.le_refl _)
  have k0 := fun o => cellAlloc c0 o
  have k1 := fun o => cellAlloc c1 o
  have k2 := fun o => cellAlloc r0 o
  have k3 := fun o => cellAlloc r1 o
  have k4 := fun o => cellAlloc r2 o
  have hl1 : w1.heap.size < w3.heap.size := World.block_lt_of_cell? _ _ c0
  have hl2 : w1.heap.size + 1 < w3.heap.size := World.block_lt_of_cell? _ _ r0
  clear ho3 hb3 al4
  go_wp2_with fail
  rw [← hw4.out]
  refine (IM.out w4 E4.out).mono ?_
  rintro e w5 ⟨a5, c5, rfl, ho5, hb5⟩
  obtain ⟨w6, hw6⟩ : ∃ W, Hid (W = w5.alloc (.cells #[.int .i64 RR, .slice a5 HS.length c5] 25)) := ⟨_, rfl⟩
  have al6 : Below w5.heap.size w5 w6 := by rw [hw6.out]; exact alloc_below _ _
  have e6 : Below w4.heap.size w4 w6 := hb5.trans (al6.mono hb5.size)
  have E6 := hide_it (E4.out.trans (e6.mono E4.out.size))
  have X6 : Hid (Duo w6 w5.heap.size (.int .i64 RR) (.slice a5 HS.length c5)) := by show Duo _ _ _ _; rw [hw6.out]; exact Duo.new w5 _ _ _
  have Z5 := hide_it (Z4.out.later hb5 (Nat.le_refl _))
  have Z6 := hide_it (Z4.out.later e6 (Nat.le_refl _))
  have V6 := hide_it (V4.out.later e6 (Nat.le_refl _))
  have U6 := hide_it ((holds_of_row ho5).later al6 (Nat.le_refl _))
  clear k0 k1 k2 k3 k4 c0 c1 r0 r1 r2
  obtain ⟨z0, z1⟩ := Z5.out
  have z0o := fun o => cellAlloc z0 o
  have z1o := fun o => cellAlloc z1 o
  have hzl3 := Z5.out.lt
  clear ho5 hb5 al6 e6
  cases BB
  · go_wp2_with fail
    rw [← hw6.out]
    refine (lnStock_any RR _ _ HS w6 U6.out V6.out hL9).mono ?_
    rintro e w7 ⟨rfl, hb7⟩
    have E7 := hide_it (E6.out.trans (hb7.mono E6.out.size))
    have U7 := hide_it (U6.out.later hb7 (Nat.le_refl _))
    have V7 := hide_it (V6.out.later hb7 (Nat.le_refl _))
    obtain ⟨p0, p1⟩ := Z6.out.later hb7 (Nat.le_refl _)
    obtain ⟨q0, q1⟩ := X6.out.later hb7 (Nat.le_refl _)
    clear hb7 z0 z1 z0o z1o
    go_wp2_with fail
    refine (lnStock_any RR _ _ HS w7 U7.out V7.out hL9).mono ?_
    rintro e w8 ⟨rfl, hb8⟩
    have B8 := hide_it (B2.out.trans ((E7.out.trans (hb8.mono E7.out.size)).mono B2.out.size))
    clear hb8
    go_wp2
    go_ret
    exact ⟨rfl, B8.out⟩
  obtain ⟨e1, hDO⟩ := FIN.out rfl
  subst e1
  clear FIN SP IM
  have HDO := hide_it hDO
  clear hDO
  go_wp2_with fail
  rw [← hw6.out]
  refine (lnStock_any RR _ _ HS w6 U6.out V6.out hL9).mono ?_
  rintro e w7 ⟨rfl, hb7⟩
  have E7 := hide_it (E6.out.trans (hb7.mono E6.out.size))
  have U7 := hide_it (U6.out.later hb7 (Nat.le_refl _))
  have X7 := hide_it (X6.out.later hb7 (Nat.le_refl _))
  have hX := X7.out.lt
  clear hb7 z0 z1 z0o z1o hzl3 V6 Z6 Z5 Z4 V4
  obtain ⟨x, hn, hset, ok0, rok, ok1⟩ := Pl.sDo_some HDO.out
  obtain ⟨sne, sk⟩ := Pl.step HDO.out
  have ht := Pl.recOk_trip rok
  have SNE := hide_it sne
  have SK := hide_it sk
  have h6 := hide_it (Pl.sOk_parts ok0).2.2.1
  have H6 := hide_it (Pl.sOk_parts ok1).2.2.1
  clear hn hset ok0 rok ok1 sne sk
  obtain ⟨b5, off5, hab5, HC5⟩ := holds_cells U7.out H6.out
  obtain ⟨bu, offu, habu, HCu⟩ := holds_cells (H2.out.later E7.out (Nat.le_refl _)) h6.out
  subst hab5 habu
  have HC5 := hide_it HC5
  have HCu := hide_it HCu
  have hb5 : b5 < w7.heap.size := World.block_lt_of_cell? _ _ (HC5.out 0 (by omega)).1
  have hbu : bu < w7.heap.size := World.block_lt_of_cell? _ _ (HCu.out 0 (by omega)).1
  obtain ⟨N, hN⟩ : ∃ N, Hid (Pl.at_ t = N) := ⟨_, rfl⟩
  obtain rfl : t = (N : Int) + 1 := by rw [← hN.out]; unfold Pl.at_; omega
  have hN6 : N < 6 := by omega
  have hNi : (N : Int) < 6 := by omega
  clear ht
  have KK : Hid (∀ W, Below w7.heap.size w7 W → (W.cell? ⟨w5.heap.size, 0, none⟩ = some (.int .i64 RR) ∧ W.cell? ⟨w5.heap.size, 1, none⟩ = some (.slice (some ⟨b5, off5, none⟩) HS.length c5)) ∧ (W.cell? ⟨w1.heap.size, 0, none⟩ = some (.int .i64 RR) ∧ W.cell? ⟨w1.heap.size, 1, none⟩ = some (.slice (some ⟨bu, offu, none⟩) hs.length cu)) ∧ (W.cell? ⟨w1.heap.size + 1, 0, none⟩ = some (.int .i64 k) ∧ W.cell? ⟨w1.heap.size + 1, 1, none⟩ = some (.int .i64 ((N : Int) + 1)) ∧ W.cell? ⟨w1.heap.size + 1, 2, none⟩ = some (.slice az zs.length cz))) := fun W hb =>
    ⟨X7.out.later hb (Nat.le_refl _), (P2.out.later E7.out (Nat.le_refl _)).1.later hb (Nat.le_refl _), (P2.out.later E7.out (Nat.le_refl _)).2.later hb (Nat.le_refl _)⟩
  go_wp2
  go_loopw [9] (fun i wr => ∃ k : Nat, k ≤ 6 ∧ i = .int .i64 k ∧ Hid (Below w7.heap.size w7 wr)) (fun i _ => 6 - (intOf i).toNat)
  case atStart => exact ⟨0, Nat.zero_le _, rfl, Below.refl _ _⟩
  case round =>
    obtain ⟨q, hq, rfl, HB⟩ := hrel
    obtain ⟨⟨x0, x1⟩, ⟨c0, c1⟩, r0, r1, r2⟩ := KK.out _ HB.out
    by_cases hlt : q < 6
    · have hl1 : (q : Int) < (hs.length : Int) := by rw [h6.out]; omega
      have hl2 : (q : Int) < (HS.length : Int) := by rw [H6.out]; omega
      obtain ⟨m1, s1, HZ1⟩ : ∃ m s, Hid (HS.getD q (0, 0) = (m, s)) := ⟨_, _, rfl⟩
      obtain ⟨m2, s2, HZ2⟩ : ∃ m s, Hid (hs.getD q (0, 0) = (m, s)) := ⟨_, _, rfl⟩
      have e0 : wr.cell? ⟨b5, off5 + q * 2, none⟩ = some (.int .i64 m1) := by rw [HB.out.cell (p := ⟨b5, off5 + q * 2, none⟩) hb5, (HC5.out q hlt).1, HZ1.out]
      have e1 : wr.cell? ⟨b5, off5 + q * 2 + 1, none⟩ = some (.int .i64 s1) := by rw [HB.out.cell (p := ⟨b5, off5 + q * 2 + 1, none⟩) hb5, (HC5.out q hlt).2, HZ1.out]
      have f0 : wr.cell? ⟨bu, offu + q * 2, none⟩ = some (.int .i64 m2) := by rw [HB.out.cell (p := ⟨bu, offu + q * 2, none⟩) hbu, (HCu.out q hlt).1, HZ2.out]
      have f1 : wr.cell? ⟨bu, offu + q * 2 + 1, none⟩ = some (.int .i64 s2) := by rw [HB.out.cell (p := ⟨bu, offu + q * 2 + 1, none⟩) hbu, (HCu.out q hlt).2, HZ2.out]
      by_cases hqN : q = N
      · subst hqN
        go_wp2
        go_quiet (fail)
        go_wp2
        go_roundw
        case rel => exact ⟨q + 1, by omega, by go_num, below_drewN HB.out _⟩
        case measure => simp [intOf]; omega
      · have hne : ((q : Int) == (N : Int)) = false := by
          have : (q : Int) ≠ (N : Int) := by omega
          simpa using this
        have hs := SNE.out q (by rw [hN.out]; exact hqN)
        rw [HZ1.out, HZ2.out] at hs
        simp only [Prod.mk.injEq] at hs
        obtain ⟨g1, g2⟩ := hs
        subst g1 g2
        have hwr : IntKind.i64.wrap ((N : Int) + 1 - 1) = (N : Int) := by simp [IntKind.wrap, IntKind.bits, IntKind.signed]; omega
        have hwi : IntKind.i64.wrap (N : Int) = (N : Int) := by simp [IntKind.wrap, IntKind.bits, IntKind.signed]; omega
        have hq0 : (0 : Int) ≤ (q : Int) := by omega
        go_wp2
        refine wp_region_held_drew (S := fun w' => w'.cell? ⟨w1.heap.size + 1, 1, none⟩ = some (.int .i64 ((N : Int) + 1)) ∧ w'.cell? ⟨w5.heap.size, 1, none⟩ = some (.slice (some ⟨b5, off5, none⟩) HS.length c5) ∧ w'.cell? ⟨w1.heap.size, 1, none⟩ = some (.slice (some ⟨bu, offu, none⟩) hs.length cu) ∧ w'.cell? ⟨b5, off5 + q * 2, none⟩ = some (.int .i64 m1) ∧ w'.cell? ⟨b5, off5 + q * 2 + 1, none⟩ = some (.int .i64 s1) ∧ w'.cell? ⟨bu, offu + q * 2, none⟩ = some (.int .i64 m1) ∧ w'.cell? ⟨bu, offu + q * 2 + 1, none⟩ = some (.int .i64 s1)) (by kernel_rfl) ⟨r1, x1, c1, e0, e1, f0, f1⟩ (fun hHeld => ?_)
        refine takeD (i := 0) (v := ?_) (some 61) rfl rfl (by kernel_rfl) (by kernel_rfl) (by kernel_rfl) (fun _ _ _ h => h) (by rfl) hHeld ?_ ?_
        rotate_left
        · intro W hSw
          try dsimp only at hSw
          go_simp
          try with_reducible rfl
        try simp only [Act.put]
        try simp only [List.setIfInBounds_toArray]
        try simp only [List.set_cons_succ]
        try simp only [List.set_cons_zero]
        refine takeD (i := 1) (v := ?_) (some 62) rfl rfl (by kernel_rfl) (by kernel_rfl) (by kernel_rfl) (fun _ _ _ h => h) (by rfl) hHeld ?_ ?_
        rotate_left
        · intro W hSw
          try dsimp only at hSw
          go_simp
          try with_reducible rfl
        try simp only [Act.put]
        try simp only [List.setIfInBounds_toArray]
        try simp only [List.set_cons_succ]
        try simp only [List.set_cons_zero]
        refine takeD (i := 2) (v := ?_) (some 63) rfl rfl (by kernel_rfl) (by kernel_rfl) (by kernel_rfl) (fun _ _ _ h => h) (by rfl) hHeld ?_ ?_
        rotate_left
        · intro W hSw
          try dsimp only at hSw
          go_simp
          try with_reducible rfl
        try simp only [Act.put]
        try simp only [List.setIfInBounds_toArray]
        try simp only [List.set_cons_succ]
        try simp only [List.set_cons_zero]
        refine takeD (i := 3) (v := ?_) (some 64) rfl rfl (by kernel_rfl) (by kernel_rfl) (by kernel_rfl) (fun _ _ _ h => h) (by rfl) hHeld ?_ ?_
        rotate_left
        · intro W hSw
          try dsimp only at hSw
          go_simp
          try with_reducible rfl
        try simp only [Act.put]
        try simp only [List.setIfInBounds_toArray]
        try simp only [List.set_cons_succ]
        try simp only [List.set_cons_zero]
        refine takeD (i := 4) (v := .bool true) (some 65) rfl rfl (by kernel_rfl) (by kernel_rfl) (by kernel_rfl) (fun _ _ _ h => h) (by rfl) hHeld ?_ ?_
        · intro W hSw
          try dsimp only at hSw
          first | (go_simp; done) | (go_simp; simp; done) | (go_simp; omega) | (go_simp; simp [*])
        try simp only [Act.put]
        try simp only [List.setIfInBounds_toArray]
        try simp only [List.set_cons_succ]
        try simp only [List.set_cons_zero]
        refine takeD (i := 5) (v := .bool true) (some 66) rfl rfl (by kernel_rfl) (by kernel_rfl) (by kernel_rfl) (fun _ _ _ h => h) (by rfl) hHeld ?_ ?_
        · intro W hSw
          try dsimp only at hSw
          first | (go_simp; done) | (go_simp; simp; done) | (go_simp; omega) | (go_simp; simp [*])
        try simp only [Act.put]
        try simp only [List.setIfInBounds_toArray]
        try simp only [List.set_cons_succ]
        try simp only [List.set_cons_zero]
        refine takeD (i := 6) (v := ?_) (some 67) rfl rfl (by kernel_rfl) (by kernel_rfl) (by kernel_rfl) (fun _ _ _ h => h) (by rfl) hHeld ?_ ?_
        rotate_left
        · intro W hSw
          try dsimp only at hSw
          go_simp
          try with_reducible rfl
        try simp only [Act.put]
        try simp only [List.setIfInBounds_toArray]
        try simp only [List.set_cons_succ]
        try simp only [List.set_cons_zero]
        refine takeD (i := 7) (v := ?_) (some 68) rfl rfl (by kernel_rfl) (by kernel_rfl) (by kernel_rfl) (fun _ _ _ h => h) (by rfl) hHeld ?_ ?_
        rotate_left
        · intro W hSw
          try dsimp only at hSw
          go_simp
          try with_reducible rfl
        try simp only [Act.put]
        try simp only [List.setIfInBounds_toArray]
        try simp only [List.set_cons_succ]
        try simp only [List.set_cons_zero]
        refine takeD (i := 8) (v := ?_) (some 69) rfl rfl (by kernel_rfl) (by kernel_rfl) (by kernel_rfl) (fun _ _ _ h => h) (by rfl) hHeld ?_ ?_
        rotate_left
        · intro W hSw
          try dsimp only at hSw
          go_simp
          try with_reducible rfl
        try simp only [Act.put]
        try simp only [List.setIfInBounds_toArray]
        try simp only [List.set_cons_succ]
        try simp only [List.set_cons_zero]
        refine takeD (i := 9) (v := ?_) (some 70) rfl rfl (by kernel_rfl) (by kernel_rfl) (by kernel_rfl) (fun _ _ _ h => h) (by rfl) hHeld ?_ ?_
        rotate_left
        · intro W hSw
          try dsimp only at hSw
          go_simp
          try with_reducible rfl
        try simp only [Act.put]
        try simp only [List.setIfInBounds_toArray]
        try simp only [List.set_cons_succ]
        try simp only [List.set_cons_zero]
        refine takeD (i := 10) (v := ?_) (some 71) rfl rfl (by kernel_rfl) (by kernel_rfl) (by kernel_rfl) (fun _ _ _ h => h) (by rfl) hHeld ?_ ?_
        rotate_left
        · intro W hSw
          try dsimp only at hSw
          go_simp
          try with_reducible rfl
        try simp only [Act.put]
        try simp only [List.setIfInBounds_toArray]
        try simp only [List.set_cons_succ]
        try simp only [List.set_cons_zero]
        refine takeD (i := 11) (v := ?_) (some 72) rfl rfl (by kernel_rfl) (by kernel_rfl) (by kernel_rfl) (fun _ _ _ h => h) (by rfl) hHeld ?_ ?_
        rotate_left
        · intro W hSw
          try dsimp only at hSw
          go_simp
          try with_reducible rfl
        try simp only [Act.put]
        try simp only [List.setIfInBounds_toArray]
        try simp only [List.set_cons_succ]
        try simp only [List.set_cons_zero]
        refine takeD (i := 12) (v := ?_) (some 73) rfl rfl (by kernel_rfl) (by kernel_rfl) (by kernel_rfl) (fun _ _ _ h => h) (by rfl) hHeld ?_ ?_
        rotate_left
        · intro W hSw
          try dsimp only at hSw
          go_simp
          try with_reducible rfl
        try simp only [Act.put]
        try simp only [List.setIfInBounds_toArray]
        try simp only [List.set_cons_succ]
        try simp only [List.set_cons_zero]
        refine takeD (i := 13) (v := ?_) (some 74) rfl rfl (by kernel_rfl) (by kernel_rfl) (by kernel_rfl) (fun _ _ _ h => h) (by rfl) hHeld ?_ ?_
        rotate_left
        · intro W hSw
          try dsimp only at hSw
          go_simp
          try with_reducible rfl
        try simp only [Act.put]
        try simp only [List.setIfInBounds_toArray]
        try simp only [List.set_cons_succ]
        try simp only [List.set_cons_zero]
        refine takeD (i := 14) (v := ?_) (some 75) rfl rfl (by kernel_rfl) (by kernel_rfl) (by kernel_rfl) (fun _ _ _ h => h) (by rfl) hHeld ?_ ?_
        rotate_left
        · intro W hSw
          try dsimp only at hSw
          go_simp
          try with_reducible rfl
        try simp only [Act.put]
        try simp only [List.setIfInBounds_toArray]
        try simp only [List.set_cons_succ]
        try simp only [List.set_cons_zero]
        refine takeD (i := 15) (v := ?_) (some 76) rfl rfl (by kernel_rfl) (by kernel_rfl) (by kernel_rfl) (fun _ _ _ h => h) (by rfl) hHeld ?_ ?_
        rotate_left
        · intro W hSw
          try dsimp only at hSw
          go_simp
          try with_reducible rfl
        try simp only [Act.put]
        try simp only [List.setIfInBounds_toArray]
        try simp only [List.set_cons_succ]
        try simp only [List.set_cons_zero]
        refine takeD (i := 16) (v := .bool false) (some 77) rfl rfl (by kernel_rfl) (by kernel_rfl) (by kernel_rfl) (fun _ _ _ h => h) (by rfl) hHeld ?_ ?_
        · intro W hSw
          try dsimp only at hSw
          first | (go_simp; done) | (go_simp; simp; done) | (go_simp; omega) | (go_simp; simp [*])
        try simp only [Act.put]
        try simp only [List.setIfInBounds_toArray]
        try simp only [List.set_cons_succ]
        try simp only [List.set_cons_zero]
        refine takeD (i := 17) (v := .bool false) (some 78) rfl rfl (by kernel_rfl) (by kernel_rfl) (by kernel_rfl) (fun _ _ _ h => h) (by rfl) hHeld ?_ ?_
        · intro W hSw
          try dsimp only at hSw
          first | (go_simp; done) | (go_simp; simp; done) | (go_simp; omega) | (go_simp; simp [*])
        try simp only [Act.put]
        try simp only [List.setIfInBounds_toArray]
        try simp only [List.set_cons_succ]
        try simp only [List.set_cons_zero]
        refine wpAnyH_done (by kernel_rfl) ?_ _
        go_wp2
        go_roundw
        case rel => exact ⟨q + 1, by omega, by go_num, HB.out.drew⟩
        case measure => simp [intOf]; omega
    · have hl1 : ¬ (q : Int) < (hs.length : Int) := by rw [h6.out]; omega
      have hl3 : (N : Int) < (hs.length : Int) := by rw [h6.out]; omega
      have hl4 : (N : Int) < (HS.length : Int) := by rw [H6.out]; omega
      have d0 : wr.cell? ⟨b5, off5 + N * 2, none⟩ = some (.int .i64 (Pl.hAt HS ((N : Int) + 1)).1) := by rw [HB.out.cell (p := ⟨b5, off5 + N * 2, none⟩) hb5, (HC5.out N hN6).1]; show _ = some (Value.int .i64 (HS.getD (Pl.at_ ((N : Int) + 1)) (0, 0)).1); rw [hN.out]
      have d1 : wr.cell? ⟨b5, off5 + N * 2 + 1, none⟩ = some (.int .i64 (Pl.hAt HS ((N : Int) + 1)).2) := by rw [HB.out.cell (p := ⟨b5, off5 + N * 2 + 1, none⟩) hb5, (HC5.out N hN6).2]; show _ = some (Value.int .i64 (HS.getD (Pl.at_ ((N : Int) + 1)) (0, 0)).2); rw [hN.out]
      have f0 : wr.cell? ⟨bu, offu + N * 2, none⟩ = some (.int .i64 (Pl.hAt hs ((N : Int) + 1)).1) := by rw [HB.out.cell (p := ⟨bu, offu + N * 2, none⟩) hbu, (HCu.out N hN6).1]; show _ = some (Value.int .i64 (hs.getD (Pl.at_ ((N : Int) + 1)) (0, 0)).1); rw [hN.out]
      have f1 : wr.cell? ⟨bu, offu + N * 2 + 1, none⟩ = some (.int .i64 (Pl.hAt hs ((N : Int) + 1)).2) := by rw [HB.out.cell (p := ⟨bu, offu + N * 2 + 1, none⟩) hbu, (HCu.out N hN6).2]; show _ = some (Value.int .i64 (hs.getD (Pl.at_ ((N : Int) + 1)) (0, 0)).2); rw [hN.out]
      obtain ⟨M1, S1, hZ1⟩ : ∃ m s, Hid (Pl.hAt HS ((N : Int) + 1) = (m, s)) := ⟨_, _, rfl⟩
      obtain ⟨M2, S2, hZ2⟩ : ∃ m s, Hid (Pl.hAt hs ((N : Int) + 1) = (m, s)) := ⟨_, _, rfl⟩
      rw [hZ1.out] at d0 d1
      rw [hZ2.out] at f0 f1
      have d0 : wr.cell? ⟨b5, off5 + N * 2, none⟩ = some (.int .i64 M1) := d0
      have d1 : wr.cell? ⟨b5, off5 + N * 2 + 1, none⟩ = some (.int .i64 S1) := d1
      have f0 : wr.cell? ⟨bu, offu + N * 2, none⟩ = some (.int .i64 M2) := f0
      have f1 : wr.cell? ⟨bu, offu + N * 2 + 1, none⟩ = some (.int .i64 S2) := f1
      have hlt5 : b5 < wr.heap.size := World.block_lt_of_cell? _ _ d0
      have hltu : bu < wr.heap.size := World.block_lt_of_cell? _ _ f0
      have hltx : w5.heap.size < wr.heap.size := World.block_lt_of_cell? _ _ x0
      have hltc : w1.heap.size < wr.heap.size := World.block_lt_of_cell? _ _ c0
      have hltr : w1.heap.size + 1 < wr.heap.size := World.block_lt_of_cell? _ _ r0
      have k0 := fun o => cellAlloc x0 o
      have k1 := fun o => cellAlloc x1 o
      have k2 := fun o => cellAlloc r1 o
      have k3 := fun o => cellAlloc d0 o
      have k4 := fun o => cellAlloc d1 o
      obtain ⟨wB, hwB⟩ : ∃ W, Hid (W = (wr.alloc (.cells #[.int .i64 M2, .int .i64 S2] 38)).alloc (.cells #[.int .i64 M1, .int .i64 S1] 38)) := ⟨_, rfl⟩
      have NB : Hid (Below w7.heap.size w7 wB) := by show Below _ _ _; rw [hwB.out]; exact HB.out.trans ((below2 _ _ _).mono HB.out.size)
      have WB : Hid (Duo wB wr.heap.size (.int .i64 M2) (.int .i64 S2)) := by show Duo _ _ _ _; rw [hwB.out]; exact (Duo.new wr _ _ _).later (alloc_below _ _) (Nat.le_refl _)
      have IB : Hid (Duo wB (wr.heap.size + 1) (.int .i64 M1) (.int .i64 S1)) := by
        show Duo _ _ _ _
        have := Duo.new (wr.alloc (.cells #[.int .i64 M2, .int .i64 S2] 38)) (.int .i64 M1) (.int .i64 S1) 38
        rw [World.size_alloc] at this
        rw [hwB.out]; exact this
      have SB := hide_it (E7.out.trans (NB.out.mono E7.out.size))
      have BB2 := hide_it (B2.out.trans (SB.out.mono B2.out.size))
      obtain ⟨FA, hFA⟩ : ∃ q, Hid (Pl.sFree RR HS = q) := ⟨_, rfl⟩
      obtain ⟨FB, hFB⟩ : ∃ q, Hid (Pl.sFree RR hs = q) := ⟨_, rfl⟩
      have fa := Pl.sFree_bd RR HS
      have fb := Pl.sFree_bd RR hs
      have sk := SK.out
      rw [hFA.out, hFB.out, hZ1.out, hZ2.out] at sk
      rw [hFA.out] at fa
      rw [hFB.out] at fb
      have CX : Hid (∀ W, Below wB.heap.size wB W → Calls Tryd.prog 14 #[.agg #[.int .i64 RR, .slice (some ⟨b5, off5, none⟩) HS.length c5]] W fun e w' => e = .returned (.int .i64 FA) ∧ Below W.heap.size W w') := fun W hb => by
        have := implFree_any RR _ HS W (U7.out.later (NB.out.trans (hb.mono NB.out.size)) (Nat.le_refl _)) hL9
        rw [hFA.out] at this; exact this
      have CS : Hid (∀ W, Below wB.heap.size wB W → Calls Tryd.prog 14 #[.agg #[.int .i64 RR, .slice (some ⟨bu, offu, none⟩) hs.length cu]] W fun e w' => e = .returned (.int .i64 FB) ∧ Below W.heap.size W w') := fun W hb => by
        have := implFree_any RR _ hs W (H2.out.later (SB.out.trans (hb.mono SB.out.size)) (Nat.le_refl _)) hl9
        rw [hFB.out] at this; exact this
      have KB : Hid (∀ W, Below wB.heap.size wB W → (W.cell? ⟨w5.heap.size, 0, none⟩ = some (.int .i64 RR) ∧ W.cell? ⟨w5.heap.size, 1, none⟩ = some (.slice (some ⟨b5, off5, none⟩) HS.length c5)) ∧ (W.cell? ⟨w1.heap.size, 0, none⟩ = some (.int .i64 RR) ∧ W.cell? ⟨w1.heap.size, 1, none⟩ = some (.slice (some ⟨bu, offu, none⟩) hs.length cu))) := fun W hb => by
        obtain ⟨h1, h2, _⟩ := KK.out W (NB.out.trans (hb.mono NB.out.size))
        exact ⟨h1, h2⟩
      have hwrap : IntKind.i64.wrap (FA - FB) = FA - FB := by simp [IntKind.wrap, IntKind.bits, IntKind.signed]; omega
      go_wp2_with fail
      rw [← hwB.out]
      clear k0 k1 k2 k3 k4 d0 d1 f0 f1 x0 x1 c0 c1 r0 r1 r2
      refine wp_region_held_drew (S := fun w' => (w'.cell? ⟨w5.heap.size, 0, none⟩ = some (.int .i64 RR) ∧ w'.cell? ⟨w5.heap.size, 1, none⟩ = some (.slice (some ⟨b5, off5, none⟩) HS.length c5)) ∧ (w'.cell? ⟨w1.heap.size, 0, none⟩ = some (.int .i64 RR) ∧ w'.cell? ⟨w1.heap.size, 1, none⟩ = some (.slice (some ⟨bu, offu, none⟩) hs.length cu))) (by kernel_rfl) (KB.out wB (Below.refl _ _)) (fun hHeld => ?_)
      refine takeD (i := 0) (v := ?_) (some 93) rfl rfl (by kernel_rfl) (by kernel_rfl) (by kernel_rfl) (fun _ _ _ h => h) (by rfl) hHeld ?_ ?_
      rotate_left
      · intro W hSw
        try dsimp only at hSw
        go_simp
        try with_reducible rfl
      try simp only [Act.put]
      try simp only [List.setIfInBounds_toArray]
      try simp only [List.set_cons_succ]
      try simp only [List.set_cons_zero]
      refine takeD (i := 2) (v := ?_) (some 95) rfl rfl (by kernel_rfl) (by kernel_rfl) (by kernel_rfl) (fun _ _ _ h => h) (by rfl) hHeld ?_ ?_
      rotate_left
      · intro W hSw
        try dsimp only at hSw
        go_simp
        try with_reducible rfl
      try simp only [Act.put]
      try simp only [List.setIfInBounds_toArray]
      try simp only [List.set_cons_succ]
      try simp only [List.set_cons_zero]
      refine wpAnyH_ready (rs := [1]) (by kernel_rfl) (by simp) ?_
      refine AllReadyH.cons rfl (fun K hK => ?_) AllReadyH.nil
      go_simp
      refine (CX.out _ (Below.refl _ _).drew).mono ?_
      rintro e w9 ⟨rfl, hb9⟩
      have N9 := hide_it ((Below.refl wB.heap.size wB).drew.trans hb9)
      clear hb9
      try dsimp only
      refine hK.out _ _ (KB.out _ N9.out) (fun hHeld => ?_)
      clear hK K
      refine wpAnyH_ready (rs := [3]) (by kernel_rfl) (by simp) ?_
      refine AllReadyH.cons rfl (fun K hK => ?_) AllReadyH.nil
      go_simp
      refine (CS.out _ N9.out).mono ?_
      rintro e w10 ⟨rfl, hb10⟩
      have N10 := hide_it (N9.out.trans (hb10.mono N9.out.size))
      clear hb10
      try dsimp only
      refine hK.out _ _ (KB.out _ N10.out) (fun hHeld => ?_)
      clear hK K
      refine takeD (i := 4) (v := ?_) (some 97) rfl rfl (by kernel_rfl) (by kernel_rfl) (by kernel_rfl) (fun _ _ _ h => h) (by rfl) hHeld ?_ ?_
      rotate_left
      · intro W hSw
        try dsimp only at hSw
        go_simp
        try with_reducible rfl
      try simp only [Act.put]
      try simp only [List.setIfInBounds_toArray]
      try simp only [List.set_cons_succ]
      try simp only [List.set_cons_zero]
      refine takeD (i := 5) (v := ?_) (some 12) rfl rfl (by kernel_rfl) (by kernel_rfl) (by kernel_rfl) (fun _ _ _ h => h) (by rfl) hHeld ?_ ?_
      rotate_left
      · intro W hSw
        try dsimp only at hSw
        go_simp
        try with_reducible rfl
      try simp only [Act.put]
      try simp only [List.setIfInBounds_toArray]
      try simp only [List.set_cons_succ]
      try simp only [List.set_cons_zero]
      refine wpAnyH_done (by kernel_rfl) ?_ _
      have B10 := hide_it (BB2.out.trans (N10.out.mono BB2.out.size))
      obtain ⟨-, -, r0, r1, r2⟩ := KK.out _ (NB.out.trans (N10.out.mono NB.out.size))
      obtain ⟨v0, v1⟩ := WB.out.later N10.out (Nat.le_refl _)
      obtain ⟨i0, i1⟩ := IB.out.later N10.out (Nat.le_refl _)
      obtain ⟨FD, hFD⟩ : ∃ d, FA - FB = d := ⟨_, rfl⟩
      rw [hFD] at sk hwrap ⊢
      clear fa fb hFD
      rcases sk with ⟨rfl, m, rfl, m1, m3, e5, e6⟩ | ⟨rfl, e5, e6⟩ | ⟨rfl, e5, e6⟩
      · simp only [Prod.mk.injEq] at e5
        obtain ⟨rfl, rfl⟩ := e5
        subst e6
        obtain ⟨bz, oz, haz, hz0⟩ : ∃ b o, az = some ⟨b, o, none⟩ ∧ w10.cell? ⟨b, o, none⟩ = some (.int .i64 M1) := by
          rcases I2.out.later (SB.out.trans (N10.out.mono SB.out.size)) (Nat.le_refl _) with ⟨h0, _⟩ | ⟨b, o, c, hv, _, hc⟩
          · cases h0
          · simp only [Value.slice.injEq] at hv
            exact ⟨b, o, hv.1, by simpa using hc 0 (by simp)⟩
        subst haz
        have r2 : w10.cell? ⟨w1.heap.size + 1, 2, none⟩ = some (.slice (some ⟨bz, oz, none⟩) 1 cz) := r2
        have hneg : IntKind.i64.wrap (-M1) = -M1 := by simp [IntKind.wrap, IntKind.bits, IntKind.signed]; omega
        go_wp2
        refine wp_region_held_drew (S := fun w' => (w'.cell? ⟨wr.heap.size + 1, 0, none⟩ = some (.int .i64 M1) ∧ w'.cell? ⟨wr.heap.size + 1, 1, none⟩ = some (.int .i64 1)) ∧ w'.cell? ⟨w1.heap.size + 1, 2, none⟩ = some (.slice (some ⟨bz, oz, none⟩) 1 cz) ∧ w'.cell? ⟨bz, oz, none⟩ = some (.int .i64 M1)) (by kernel_rfl) ⟨⟨i0, i1⟩, r2, hz0⟩ (fun hHeld => ?_)
        refine takeD (i := 0) (v := ?_) (some 102) rfl rfl (by kernel_rfl) (by kernel_rfl) (by kernel_rfl) (fun _ _ _ h => h) (by rfl) hHeld ?_ ?_
        rotate_left
        · intro W hSw
          try dsimp only at hSw
          go_simp
          try with_reducible rfl
        try simp only [Act.put]
        try simp only [List.setIfInBounds_toArray]
        try simp only [List.set_cons_succ]
        try simp only [List.set_cons_zero]
        refine takeD (i := 1) (v := ?_) (some 103) rfl rfl (by kernel_rfl) (by kernel_rfl) (by kernel_rfl) (fun _ _ _ h => h) (by rfl) hHeld ?_ ?_
        rotate_left
        · intro W hSw
          try dsimp only at hSw
          go_simp
          try with_reducible rfl
        try simp only [Act.put]
        try simp only [List.setIfInBounds_toArray]
        try simp only [List.set_cons_succ]
        try simp only [List.set_cons_zero]
        refine takeD (i := 2) (v := ?_) (some 104) rfl rfl (by kernel_rfl) (by kernel_rfl) (by kernel_rfl) (fun _ _ _ h => h) (by rfl) hHeld ?_ ?_
        rotate_left
        · intro W hSw
          try dsimp only at hSw
          go_simp
          try with_reducible rfl
        try simp only [Act.put]
        try simp only [List.setIfInBounds_toArray]
        try simp only [List.set_cons_succ]
        try simp only [List.set_cons_zero]
        refine takeD (i := 3) (v := ?_) (some 105) rfl rfl (by kernel_rfl) (by kernel_rfl) (by kernel_rfl) (fun _ _ _ h => h) (by rfl) hHeld ?_ ?_
        rotate_left
        · intro W hSw
          try dsimp only at hSw
          go_simp
          try with_reducible rfl
        try simp only [Act.put]
        try simp only [List.setIfInBounds_toArray]
        try simp only [List.set_cons_succ]
        try simp only [List.set_cons_zero]
        refine takeD (i := 4) (v := ?_) (some 106) rfl rfl (by kernel_rfl) (by kernel_rfl) (by kernel_rfl) (fun _ _ _ h => h) (by rfl) hHeld ?_ ?_
        rotate_left
        · intro W hSw
          try dsimp only at hSw
          go_simp
          try with_reducible rfl
        try simp only [Act.put]
        try simp only [List.setIfInBounds_toArray]
        try simp only [List.set_cons_succ]
        try simp only [List.set_cons_zero]
        refine takeD (i := 5) (v := ?_) (some 107) rfl rfl (by kernel_rfl) (by kernel_rfl) (by kernel_rfl) (fun _ _ _ h => h) (by rfl) hHeld ?_ ?_
        rotate_left
        · intro W hSw
          try dsimp only at hSw
          go_simp
          try with_reducible rfl
        try simp only [Act.put]
        try simp only [List.setIfInBounds_toArray]
        try simp only [List.set_cons_succ]
        try simp only [List.set_cons_zero]
        refine takeD (i := 6) (v := .bool true) (some 108) rfl rfl (by kernel_rfl) (by kernel_rfl) (by kernel_rfl) (fun _ _ _ h => h) (by rfl) hHeld ?_ ?_
        · intro W hSw
          try dsimp only at hSw
          first | (go_simp; done) | (go_simp; simp; done) | (go_simp; omega) | (go_simp; simp [*])
        try simp only [Act.put]
        try simp only [List.setIfInBounds_toArray]
        try simp only [List.set_cons_succ]
        try simp only [List.set_cons_zero]
        refine takeD (i := 7) (v := .bool true) (some 109) rfl rfl (by kernel_rfl) (by kernel_rfl) (by kernel_rfl) (fun _ _ _ h => h) (by rfl) hHeld ?_ ?_
        · intro W hSw
          try dsimp only at hSw
          first | (go_simp; done) | (go_simp; simp; done) | (go_simp; omega) | (go_simp; simp [*])
        try simp only [Act.put]
        try simp only [List.setIfInBounds_toArray]
        try simp only [List.set_cons_succ]
        try simp only [List.set_cons_zero]
        refine takeD (i := 8) (v := ?_) (some 110) rfl rfl (by kernel_rfl) (by kernel_rfl) (by kernel_rfl) (fun _ _ _ h => h) (by rfl) hHeld ?_ ?_
        rotate_left
        · intro W hSw
          try dsimp only at hSw
          go_simp
          try with_reducible rfl
        try simp only [Act.put]
        try simp only [List.setIfInBounds_toArray]
        try simp only [List.set_cons_succ]
        try simp only [List.set_cons_zero]
        refine takeD (i := 9) (v := ?_) (some 111) rfl rfl (by kernel_rfl) (by kernel_rfl) (by kernel_rfl) (fun _ _ _ h => h) (by rfl) hHeld ?_ ?_
        rotate_left
        · intro W hSw
          try dsimp only at hSw
          go_simp
          try with_reducible rfl
        try simp only [Act.put]
        try simp only [List.setIfInBounds_toArray]
        try simp only [List.set_cons_succ]
        try simp only [List.set_cons_zero]
        refine takeD (i := 10) (v := ?_) (some 112) rfl rfl (by kernel_rfl) (by kernel_rfl) (by kernel_rfl) (fun _ _ _ h => h) (by rfl) hHeld ?_ ?_
        rotate_left
        · intro W hSw
          try dsimp only at hSw
          go_simp
          try with_reducible rfl
        try simp only [Act.put]
        try simp only [List.setIfInBounds_toArray]
        try simp only [List.set_cons_succ]
        try simp only [List.set_cons_zero]
        refine takeD (i := 11) (v := ?_) (some 113) rfl rfl (by kernel_rfl) (by kernel_rfl) (by kernel_rfl) (fun _ _ _ h => h) (by rfl) hHeld ?_ ?_
        rotate_left
        · intro W hSw
          try dsimp only at hSw
          go_simp
          try with_reducible rfl
        try simp only [Act.put]
        try simp only [List.setIfInBounds_toArray]
        try simp only [List.set_cons_succ]
        try simp only [List.set_cons_zero]
        refine takeD (i := 12) (v := ?_) (some 114) rfl rfl (by kernel_rfl) (by kernel_rfl) (by kernel_rfl) (fun _ _ _ h => h) (by rfl) hHeld ?_ ?_
        rotate_left
        · intro W hSw
          try dsimp only at hSw
          go_simp
          try with_reducible rfl
        try simp only [Act.put]
        try simp only [List.setIfInBounds_toArray]
        try simp only [List.set_cons_succ]
        try simp only [List.set_cons_zero]
        refine takeD (i := 13) (v := ?_) (some 115) rfl rfl (by kernel_rfl) (by kernel_rfl) (by kernel_rfl) (fun _ _ _ h => h) (by rfl) hHeld ?_ ?_
        rotate_left
        · intro W hSw
          try dsimp only at hSw
          go_simp
          try with_reducible rfl
        try simp only [Act.put]
        try simp only [List.setIfInBounds_toArray]
        try simp only [List.set_cons_succ]
        try simp only [List.set_cons_zero]
        refine takeD (i := 14) (v := .bool true) (some 116) rfl rfl (by kernel_rfl) (by kernel_rfl) (by kernel_rfl) (fun _ _ _ h => h) (by rfl) hHeld ?_ ?_
        · intro W hSw
          try dsimp only at hSw
          first | (go_simp; done) | (go_simp; simp; done) | (go_simp; omega) | (go_simp; simp [*])
        try simp only [Act.put]
        try simp only [List.setIfInBounds_toArray]
        try simp only [List.set_cons_succ]
        try simp only [List.set_cons_zero]
        refine takeD (i := 15) (v := .bool true) (some 117) rfl rfl (by kernel_rfl) (by kernel_rfl) (by kernel_rfl) (fun _ _ _ h => h) (by rfl) hHeld ?_ ?_
        · intro W hSw
          try dsimp only at hSw
          first | (go_simp; done) | (go_simp; simp; done) | (go_simp; omega) | (go_simp; simp [*])
        try simp only [Act.put]
        try simp only [List.setIfInBounds_toArray]
        try simp only [List.set_cons_succ]
        try simp only [List.set_cons_zero]
        refine takeD (i := 16) (v := ?_) (some 2) rfl rfl (by kernel_rfl) (by kernel_rfl) (by kernel_rfl) (fun _ _ _ h => h) (by rfl) hHeld ?_ ?_
        rotate_left
        · intro W hSw
          try dsimp only at hSw
          go_simp
          try with_reducible rfl
        try simp only [Act.put]
        try simp only [List.setIfInBounds_toArray]
        try simp only [List.set_cons_succ]
        try simp only [List.set_cons_zero]
        refine wpAnyH_done (by kernel_rfl) ?_ _
        go_wp2
        go_ret
        exact ⟨rfl, B10.out.drew⟩
      · simp only [Prod.mk.injEq] at e5
        obtain ⟨rfl, rfl⟩ := e5
        subst e6
        go_wp2
        go_ret
        exact ⟨by simp, B10.out⟩
      · simp only [Prod.mk.injEq] at e5
        obtain ⟨rfl, rfl⟩ := e5
        subst e6
        go_wp2
        go_ret
        exact ⟨by simp, B10.out⟩

end Go.Proofs.YtcofnjooiemkfaaDoor

namespace Go.Proofs.YtcofnjooiemkfaaDoor
open Go.ChangeShapes Go.WideShapes Go.ChangeAt Go.WideMaps Go.WideElems Go.RowKit Go.Joins

set_option maxHeartbeats 1000000 in
theorem lawP16_great (ac : Option Addr) (nc cc : Nat) (w : World) (h : 1048576 < (nc : Int)) :
    Calls Tryd.prog 4 #[.slice ac nc cc] w fun e w' => e = .returned (.bool true) ∧ Below w.heap.size w w' := by
  go_enter Tryd.func4, Tryd.ntmps4
  go_wp2
  go_ret
  exact ⟨rfl, Below.refl _ _⟩

theorem lawP16_any (vc : Value) (nc : Nat) (a : Addr) (w : World) (hc : CodeAt w vc nc) (ha : ErrAt w a) :
    Calls Tryd.prog 4 #[vc] w fun e w' => e = .returned (.bool true) ∧ Below w.heap.size w w' := by
  by_cases h1 : nc ≤ 1048576
  · exact lawP16_small vc nc a w hc h1 ha
  · obtain ⟨ac, cc, rfl, _⟩ := hc
    exact lawP16_great ac nc cc w (by omega)

set_option maxRecDepth 100000 in
theorem p16_lifted (os : Os) (started : os.Started) (H : Type) (enc : TypeId × Value → H) :
    ReturnsInHanded {} Tryd.checked os 4 .any (fun w args => (Rows.fnStockStepSpec.pre enc Tryd.prog Tryd.f4 [] false w args ∧ laidMetH Tryd.prog laidErr w) ∧ sizedMet enc Tryd.prog Tryd.f4 (OpenSpec.ofChange Rows.fnStockStepSpec) false w args)
      (Rows.fnStockStepSpec.post enc Tryd.prog Tryd.f4 false true false false) := by
  refine returnsInHanded_of_change_and (C := Tryd.checked) (X := fun w _ => laidMetH Tryd.prog laidErr w) (fun _ _ _ hh h => h.of_heap hh) own started (by kernel_rfl) Tryd.func4
    (ChangeSpec.witness_shaped (enc := enc) (C := Tryd.checked) (os := os) (X := fun w _ => laidMetH Tryd.prog laidErr w) false (World.doorLaid Tryd.prog 28 os) #[.slice none 0 0] 8 rfl (World.shaped_of_RefB (by kernel_rfl) (by kernel_rfl)) (by kernel_rfl) (by kernel_rfl) (by kernel_rfl) (door_met os _)) ?_
  intro W base args ds gs before hval0 hW _ _ hL _
  have hval : ∀ (j : Nat) t v, Tryd.f4.params[j]? = some t → args[j]? = some v → Value.okWide Tryd.prog W .any base t v := hval0
  have hW' := hW
  obtain ⟨p, q, hA0, hV0, rfl, hfz, hnd⟩ := hW
  have hA : DataW.TrodAll enc Tryd.prog W 0 (fun _ => true) true Tryd.f4.params.toList args.toList ds p := hA0
  have hV : DataW.TrodVars enc Tryd.prog W (fun _ => true) ["loop.example/concierge/impl.errNoRec"] gs q := hV0
  rw [Tryd.params4] at hA hval
  obtain ⟨v0, d0, rfl, rfl, h0⟩ := trodAll_one hA
  obtain ⟨a, hErr, hvar⟩ := of_laid hL
  have vr : ∀ {X : World}, X.var? Tryd.prog "loop.example/concierge/impl.errNoRec" = some #[.iface 101 (.pointer (some a))] → ∀ sp : Nat → Bool,
      DataW.TrodVars enc Tryd.prog X sp ["loop.example/concierge/impl.errNoRec"] [tok enc (.iface 101 (.pointer (some a)))] [.cell 0 0] :=
    fun x0 sp => vars_read1 enc gErr gErrType Tryd.underlying72 x0 trivial sp
  obtain ⟨rfl, rfl⟩ := hV.unique (vr hvar _)
  clear hA0 hV0 hval0
  obtain ⟨nc, hC, _⟩ := open_code (hval 0 22 v0 rfl rfl) h0
  refine (lawP16_any v0 nc a W hC hErr).mono fun e W' ⟨he, hb⟩ => ?_
  subst he
  have hlt : ∀ x ∈ p, x.block < W.heap.size := fun x hx => hW'.lt x (by simp [hx])
  refine ⟨_, rfl, _, _, _, [], p, [.cell 0 0], hW', ?_, ?_, ?_, hb.frame _, fun h => by cases h⟩
  · exact trodAll_mk1 (shut_bool Tryd.underlying4 true)
  · exact trodAll_mk1 (Below.trod laidOut (by kernel_rfl) (of_decide_eq_true (by kernel_rfl)) h0 hb hlt)
  · exact vr (var?_below hb gErr (World.block_lt_of_cell? _ _ hErr) hvar) _

theorem p16_said : Rows.FnStockStepSaid :=
  OpenClaim.holds_of_wide 4 Tryd.f4 rfl rfl rfl rfl rfl rfl rfl ⟨rfl, rfl, rfl, rfl, rfl⟩ rfl rfl rfl rfl rfl (by kernel_rfl) Tryd.func4 (by kernel_rfl)
    (of_decide_eq_true (by kernel_rfl)) (by unfold Func.isWrapper; first | (rw [if_pos (by decide +kernel)]; kernel_rfl) | (rw [if_neg (by decide +kernel)]; exact ⟨rfl, rfl⟩))
    (fun os started H enc _ => p16_lifted os started H enc)

theorem p16_plain (f : FuncId) (fn : Func) (hf : Tryd.pinned.checked.prog.funcNamed "loop.example/concierge/laws.FnStockStep" = some f) (hfn : Tryd.pinned.checked.prog.funcs[f]? = some fn) :
    true = Tryd.pinned.checked.prog.looks [] ∧ ∀ (j : Nat) t, fn.params[j]? = some t → Tryd.pinned.checked.prog.wantsStandIn t = false := by
  obtain rfl : f = 4 := Option.some.inj ((show Tryd.prog.funcNamed "loop.example/concierge/laws.FnStockStep" = some 4 by kernel_rfl).symm.trans hf) |>.symm
  obtain rfl : fn = Tryd.f4 := (Option.some.inj (Tryd.func4.symm.trans hfn)).symm
  refine ⟨by kernel_rfl, fun j t ht => ?_⟩
  rw [Tryd.params4] at ht
  obtain rfl : t = 22 := by simpa using Array.mem_of_getElem? ht
  exact (show Tryd.prog.wantsStandIn 22 = false by kernel_rfl)

theorem p16_card : Rows.FnStockStepCardSaid :=
  Claim7.holds_tied_plain_at .later [] _ _ _ _ p16_said (fun _ h => by cases h) (by kernel_rfl) (fun _ h => by cases h) fnStockStep_row_tie rfl ⟨rfl, rfl⟩ (by kernel_rfl) rfl p16_plain (by kernel_rfl)
#print axioms p16_card

end Go.Proofs.YtcofnjooiemkfaaDoor
