/- FnStockTwice answers true whatever the code, and it reads afterwards as it read before: promise 18 at every drawn stock and record. The card: the sentinel's variable starts as the program's text lays it. -/
import Derived.Test.YtcofnjooiemkfaaDoorBase5

namespace Go.Proofs.YtcofnjooiemkfaaDoor
open Go.RowKit
namespace Pl
theorem recOk_2 {t : Int} (ht : 1 ≤ t ∧ t ≤ 6) : recOk 2 t [] = true := by
  rw [recOk_p 2 t [] (inB_mk ht.1 ht.2) (by decide) (by decide)]; rfl
theorem recOk_3 {t : Int} (ht : 1 ≤ t ∧ t ≤ 6) : recOk 3 t [] = true := by
  rw [recOk_p 3 t [] (inB_mk ht.1 ht.2) (by decide) (by decide)]; rfl
theorem may_no {room : Int} {hs : List H} {k t : Int} {zs : List Int} (h : next (hAt hs t) k (zs.headD 0) (free room hs) = none) : sMay room hs k t zs = false := by
  unfold sMay behind
  split
  · rw [h]; rfl
  · rfl
/-- What came does not come again; behind it no hold may come; a close just behind a hold. -/
theorem twice {room : Int} {hs hs' : List H} {k t : Int} {zs : List Int} (h : sDo room hs k t zs = some hs') :
    sMay room hs' k t zs = false ∧ sMay room hs' 1 t [1] = false ∧ sMay room hs' 2 t [] = decide (k = 1) := by
  obtain ⟨x, hn, hset, ok0, rok, ok1⟩ := sDo_some h
  have hat : at_ t < hs.length := by rw [(sOk_parts ok0).2.2.1]; exact at_lt rok
  have e : hAt hs' t = x := by rw [hset]; exact hAt_set hat
  have ht := recOk_trip rok
  have hc := behind_ok ok1 (recOk_2 ht)
  rcases next_kinds hn with ⟨rfl, h0, hm, rfl⟩ | ⟨rfl, h1, rfl⟩ | ⟨rfl, h1, rfl⟩
  · refine ⟨may_no (by rw [e]; simp [next]), may_no (by rw [e]; simp [next]), ?_⟩
    unfold sMay; rw [hc, e]; simp [next]
  · refine ⟨may_no (by rw [e]; simp [next]), may_no (by rw [e]; simp [next]), ?_⟩
    unfold sMay; rw [hc, e]; simp [next]
  · refine ⟨may_no (by rw [e]; simp [next]), may_no (by rw [e]; simp [next]), ?_⟩
    unfold sMay; rw [hc, e]; simp [next]
end Pl

set_option maxRecDepth 100000 in
set_option maxHeartbeats 8000000 in
theorem lawP18_small (vc : Value) (nc : Nat) (a : Addr) (w : World) (hc : CodeAt w vc nc) (hcn : nc ≤ 1048576) (ha : ErrAt w a) :
    Calls Tryd.prog 5 #[vc] w fun e w' => e = .returned (.bool true) ∧ Below w.heap.size w w' := by
  have HD := hide_it (drawDo_any vc nc w hc hcn)
  have HA : Hid (∀ W, Below w.heap.size w W → ErrAt W a) := fun W hb => ha.later hb (Nat.le_refl _)
  obtain ⟨ac, cc, rfl, _⟩ := hc
  have hci : (nc : Int) ≤ 1048576 := by omega
  clear hcn ha
  go_enter Tryd.func5, Tryd.ntmps5
  go_wp2_with fail
  refine HD.out.mono ?_
  rintro e w1 ⟨room, u, hs, k, t, uz, zs, rfl, hl, hzl, hH, hI, hb1⟩
  have B1 := hide_it hb1
  have H1 := hide_it hH
  have I1 := hide_it hI
  obtain ⟨au, cu, rfl⟩ := hH.shape
  obtain ⟨az, cz, rfl⟩ := hI.shape
  clear hb1 hH hI HD
  have hl9 : hs.length ≤ 1048576 := by omega
  have hz9 : zs.length ≤ 1048576 := by omega
  obtain ⟨w2, hw2⟩ : ∃ W, Hid (W = (w1.alloc (.cells #[.int .i64 room, .slice au hs.length cu] 25)).alloc (.cells #[.int .i64 k, .int .i64 t, .slice az zs.length cz] 28)) := ⟨_, rfl⟩
  have al2 : Hid (Below w1.heap.size w1 w2) := by show Below _ _ _; rw [hw2.out]; exact below2 _ _ _
  have B2 := hide_it (B1.out.trans (al2.out.mono B1.out.size))
  have P2 : Hid (Pr w2 w1.heap.size room (.slice au hs.length cu) k t (.slice az zs.length cz)) := by show Pr _ _ _ _ _ _ _; rw [hw2.out]; exact Pr.new _ _ _ _ _ _ _ _
  have H2 := hide_it (H1.out.later al2.out (Nat.le_refl _))
  have I2 := hide_it (I1.out.later al2.out (Nat.le_refl _))
  obtain ⟨OO, hOO⟩ : ∃ x, Hid (Pl.sDo room hs k t zs = x) := ⟨_, rfl⟩
  obtain ⟨RR, hRR⟩ : ∃ x, oR room OO = x := ⟨_, rfl⟩
  obtain ⟨HS, hHS⟩ : ∃ x, oH OO = x := ⟨_, rfl⟩
  obtain ⟨BB, hBB⟩ : ∃ x, OO.isSome = x := ⟨_, rfl⟩
  have SP : Hid (∀ W, Below w2.heap.size w2 W → Calls Tryd.prog 10 #[.agg #[.int .i64 room, .slice au hs.length cu], .agg #[.int .i64 k, .int .i64 t, .slice az zs.length cz]] W fun e w' => StOut W w' e RR HS BB) := fun W hb => by
    have := specDo_any room _ hs k t _ zs W (H2.out.later hb (Nat.le_refl _)) hl9 (I2.out.later hb (Nat.le_refl _)) hz9
    rw [hOO.out, hRR, hHS, hBB] at this; exact this
  have IM : Hid (∀ W, Below w2.heap.size w2 W → Calls Tryd.prog 11 #[.agg #[.int .i64 room, .slice au hs.length cu], .agg #[.int .i64 k, .int .i64 t, .slice az zs.length cz]] W fun e w' => StOut W w' e RR HS BB) := fun W hb => by
    have := implDo_any room _ hs k t _ zs a W (H2.out.later hb (Nat.le_refl _)) hl9 (I2.out.later hb (Nat.le_refl _)) hz9 (HA.out _ (B2.out.trans (hb.mono B2.out.size)))
    rw [hOO.out, hRR, hHS, hBB] at this; exact this
  have hL9 : HS.length ≤ 1048576 := by
    rw [← hHS]
    cases hq : OO with
    | none => simp [oH]
    | some x => have h1 := hOO.out; rw [hq] at h1; have h2 := Pl.sDo_len h1; show x.length ≤ 1048576; omega
  have FIN : Hid (BB = true → RR = room ∧ Pl.sDo room hs k t zs = some HS) := fun h => by
    cases hq : OO with
    | none => rw [hq] at hBB; rw [← hBB] at h; cases h
    | some x =>
      rw [hq] at hRR hHS
      exact ⟨hRR.symm, by rw [hOO.out, hq]; exact congrArg some hHS⟩
  clear hOO hRR hHS hBB
  go_wp2_with fail
  rw [← hw2.out]
  refine (SP.out w2 (Below.refl _ _)).mono ?_
  rintro e w3 ⟨a3, c3, rfl, ho3, hb3⟩
  obtain ⟨w4, hw4⟩ : ∃ W, Hid (W = w3.alloc (.cells #[.int .i64 RR, .slice a3 HS.length c3] 25)) := ⟨_, rfl⟩
  have al4 : Below w3.heap.size w3 w4 := by rw [hw4.out]; exact alloc_below _ _
  have E4 := hide_it (hb3.trans (al4.mono hb3.size))
  have Z4 : Hid (Duo w4 w3.heap.size (.int .i64 RR) (.slice a3 HS.length c3)) := by show Duo _ _ _ _; rw [hw4.out]; exact Duo.new w3 _ _ _
  have V4 := hide_it ((holds_of_row ho3).later al4 (Nat.le_refl _))
  obtain ⟨⟨c0, c1⟩, ⟨r0, r1, r2⟩⟩ := P2.out.later hb3 (Nat.le_refl _)
  have k0 := fun o => cellAlloc c0 o
  have k1 := fun o => cellAlloc c1 o
  have k2 := fun o => cellAlloc r0 o
  have k3 := fun o => cellAlloc r1 o
  have k4 := fun o => cellAlloc r2 o
  have hl1 : w1.heap.size < w3.heap.size := World.block_lt_of_cell? _ _ c0
  have hl2 : w1.heap.size + 1 < w3.heap.size := World.block_lt_of_cell? _ _ r0
  clear ho3 hb3 al4
  go_wp2_with fail
  rw [← hw4.out]
  refine (IM.out w4 E4.out).mono ?_
  rintro e w5 ⟨a5, c5, rfl, ho5, hb5⟩
  obtain ⟨w6, hw6⟩ : ∃ W, Hid (W = w5.alloc (.cells #[.int .i64 RR, .slice a5 HS.length c5] 25)) := ⟨_, rfl⟩
  have al6 : Below w5.heap.size w5 w6 := by rw [hw6.out]; exact alloc_below _ _
  have e6 : Below w4.heap.size w4 w6 := hb5.trans (al6.mono hb5.size)
  have E6 := hide_it (E4.out.trans (e6.mono E4.out.size))
  have X6 : Hid (Duo w6 w5.heap.size (.int .i64 RR) (.slice a5 HS.length c5)) := by show Duo _ _ _ _; rw [hw6.out]; exact Duo.new w5 _ _ _
  have Z5 := hide_it (Z4.out.later hb5 (Nat.le_refl _))
  have Z6 := hide_it (Z4.out.later e6 (Nat.le_refl _))
  have V6 := hide_it (V4.out.later e6 (Nat.le_refl _))
  have U6 := hide_it ((holds_of_row ho5).later al6 (Nat.le_refl _))
  clear k0 k1 k2 k3 k4 c0 c1 r0 r1 r2
  obtain ⟨z0, z1⟩ := Z5.out
  have z0o := fun o => cellAlloc z0 o
  have z1o := fun o => cellAlloc z1 o
  have hzl3 := Z5.out.lt
  clear ho5 hb5 al6 e6
  cases BB
  · go_wp2_with fail
    rw [← hw6.out]
    refine (lnStock_any RR _ _ HS w6 U6.out V6.out hL9).mono ?_
    rintro e w7 ⟨rfl, hb7⟩
    have E7 := hide_it (E6.out.trans (hb7.mono E6.out.size))
    have U7 := hide_it (U6.out.later hb7 (Nat.le_refl _))
    have V7 := hide_it (V6.out.later hb7 (Nat.le_refl _))
    obtain ⟨p0, p1⟩ := Z6.out.later hb7 (Nat.le_refl _)
    obtain ⟨q0, q1⟩ := X6.out.later hb7 (Nat.le_refl _)
    clear hb7 z0 z1 z0o z1o
    go_wp2_with fail
    refine (lnStock_any RR _ _ HS w7 U7.out V7.out hL9).mono ?_
    rintro e w8 ⟨rfl, hb8⟩
    have B8 := hide_it (B2.out.trans ((E7.out.trans (hb8.mono E7.out.size)).mono B2.out.size))
    clear hb8
    go_wp2
    go_ret
    exact ⟨rfl, B8.out⟩
  obtain ⟨e1, hDO⟩ := FIN.out rfl
  subst e1
  clear FIN SP IM
  have HDO := hide_it hDO
  clear hDO
  go_wp2_with fail
  rw [← hw6.out]
  refine (lnStock_any RR _ _ HS w6 U6.out V6.out hL9).mono ?_
  rintro e w7 ⟨rfl, hb7⟩
  have E7 := hide_it (E6.out.trans (hb7.mono E6.out.size))
  have U7 := hide_it (U6.out.later hb7 (Nat.le_refl _))
  have X7 := hide_it (X6.out.later hb7 (Nat.le_refl _))
  have hX := X7.out.lt
  clear hb7 z0 z1 z0o z1o hzl3 V6 Z6 Z5 Z4 V4
  obtain ⟨T1, T2, T3⟩ := Pl.twice HDO.out
  have T1 := hide_it T1
  have T2 := hide_it T2
  have T3 := hide_it T3
  obtain ⟨⟨c0, c1⟩, ⟨r0, r1, r2⟩⟩ := P2.out.later E7.out (Nat.le_refl _)
  obtain ⟨x0, x1⟩ := X7.out
  have hl1 : w1.heap.size < w7.heap.size := World.block_lt_of_cell? _ _ c0
  have hl2 : w1.heap.size + 1 < w7.heap.size := World.block_lt_of_cell? _ _ r0
  obtain ⟨w8, hw8⟩ : ∃ W, Hid (W = ((w7.alloc (.cells #[.int .i64 1] 3)).alloc (.cells #[.int .i64 1, .int .i64 t, .slice (some ⟨w7.heap.size, 0, none⟩) 1 1] 28)).alloc (.cells #[.int .i64 2, .int .i64 t, .slice none 0 0] 28)) := ⟨_, rfl⟩
  have al8 : Hid (Below w7.heap.size w7 w8) := by show Below _ _ _; rw [hw8.out]; exact (below2 _ _ _).trans ((alloc_below _ _).mono (by simp; omega))
  have R8 : Hid (RecAt w8 (w7.heap.size + 1) 1 t (.slice (some ⟨w7.heap.size, 0, none⟩) 1 1)) := by
    show RecAt _ _ _ _ _
    rw [hw8.out]
    have := RecAt.new (w7.alloc (.cells #[.int .i64 1] 3)) 1 t (.slice (some ⟨w7.heap.size, 0, none⟩) 1 1) 28
    rw [World.size_alloc] at this
    exact this.later (alloc_below _ _) (Nat.le_refl _)
  have S8 : Hid (RecAt w8 (w7.heap.size + 2) 2 t (.slice none 0 0)) := by
    show RecAt _ _ _ _ _
    rw [hw8.out]
    have := RecAt.new ((w7.alloc (.cells #[.int .i64 1] 3)).alloc (.cells #[.int .i64 1, .int .i64 t, .slice (some ⟨w7.heap.size, 0, none⟩) 1 1] 28)) 2 t (.slice none 0 0) 28
    rw [World.size_alloc, World.size_alloc] at this
    exact this
  have J8 : Hid (Ints w8 (.slice (some ⟨w7.heap.size, 0, none⟩) 1 1) [1]) := by
    show Ints _ _ _
    rw [hw8.out]
    refine Or.inr ⟨_, 0, 1, rfl, by simp, fun j hj => ?_⟩
    obtain rfl : j = 0 := by simpa using hj
    exact cellAlloc (cellAlloc (by simp) _) _
  have q0 : ∀ o1 o2 o3, (((w7.alloc o1).alloc o2).alloc o3).cell? ⟨w1.heap.size + 1, 0, none⟩ = some (.int .i64 k) := fun o1 o2 o3 => cellAlloc (cellAlloc (cellAlloc r0 o1) o2) o3
  have q1 : ∀ o1 o2 o3, (((w7.alloc o1).alloc o2).alloc o3).cell? ⟨w1.heap.size + 1, 1, none⟩ = some (.int .i64 t) := fun o1 o2 o3 => cellAlloc (cellAlloc (cellAlloc r1 o1) o2) o3
  have q1b : ∀ o1 o2, ((w7.alloc o1).alloc o2).cell? ⟨w1.heap.size + 1, 1, none⟩ = some (.int .i64 t) := fun o1 o2 => cellAlloc (cellAlloc r1 o1) o2
  have q2 : ∀ o1 o2 o3, (((w7.alloc o1).alloc o2).alloc o3).cell? ⟨w1.heap.size + 1, 2, none⟩ = some (.slice az zs.length cz) := fun o1 o2 o3 => cellAlloc (cellAlloc (cellAlloc r2 o1) o2) o3
  have q3 : ∀ o1 o2 o3, (((w7.alloc o1).alloc o2).alloc o3).cell? ⟨w5.heap.size, 0, none⟩ = some (.int .i64 RR) := fun o1 o2 o3 => cellAlloc (cellAlloc (cellAlloc x0 o1) o2) o3
  have q4 : ∀ o1 o2 o3, (((w7.alloc o1).alloc o2).alloc o3).cell? ⟨w5.heap.size, 1, none⟩ = some (.slice a5 HS.length c5) := fun o1 o2 o3 => cellAlloc (cellAlloc (cellAlloc x1 o1) o2) o3
  have E8 := hide_it (E7.out.trans (al8.out.mono E7.out.size))
  have U8 := hide_it (U7.out.later al8.out (Nat.le_refl _))
  have X8 := hide_it (X7.out.later al8.out (Nat.le_refl _))
  have K8 : Hid (∀ W, Below w8.heap.size w8 W → (((W.cell? ⟨w5.heap.size, 0, none⟩ = some (.int .i64 RR) ∧ W.cell? ⟨w5.heap.size, 1, none⟩ = some (.slice a5 HS.length c5)) ∧ (W.cell? ⟨w1.heap.size + 1, 0, none⟩ = some (.int .i64 k) ∧ W.cell? ⟨w1.heap.size + 1, 1, none⟩ = some (.int .i64 t) ∧ W.cell? ⟨w1.heap.size + 1, 2, none⟩ = some (.slice az zs.length cz))) ∧ (W.cell? ⟨w7.heap.size + 1, 0, none⟩ = some (.int .i64 1) ∧ W.cell? ⟨w7.heap.size + 1, 1, none⟩ = some (.int .i64 t) ∧ W.cell? ⟨w7.heap.size + 1, 2, none⟩ = some (.slice (some ⟨w7.heap.size, 0, none⟩) 1 1)) ∧ (W.cell? ⟨w7.heap.size + 2, 0, none⟩ = some (.int .i64 2) ∧ W.cell? ⟨w7.heap.size + 2, 1, none⟩ = some (.int .i64 t) ∧ W.cell? ⟨w7.heap.size + 2, 2, none⟩ = some (.slice none 0 0)))) := fun W hb =>
    ⟨⟨X8.out.later hb (Nat.le_refl _), (P2.out.later E8.out (Nat.le_refl _)).2.later hb (Nat.le_refl _)⟩, R8.out.later hb (Nat.le_refl _), S8.out.later hb (Nat.le_refl _)⟩
  have M1 : Hid (∀ W, Below w8.heap.size w8 W → Calls Tryd.prog 15 #[.agg #[.int .i64 RR, .slice a5 HS.length c5], .agg #[.int .i64 k, .int .i64 t, .slice az zs.length cz]] W fun e w' => e = .returned (.bool false) ∧ Below W.heap.size W w') := fun W hb => by
    have := implMay_any RR _ HS k t _ zs a W (U8.out.later hb (Nat.le_refl _)) hL9 (I2.out.later (E8.out.trans (hb.mono E8.out.size)) (Nat.le_refl _)) hz9 (HA.out _ (B2.out.trans ((E8.out.trans (hb.mono E8.out.size)).mono B2.out.size)))
    rw [T1.out] at this; exact this
  have M2 : Hid (∀ W, Below w8.heap.size w8 W → Calls Tryd.prog 15 #[.agg #[.int .i64 RR, .slice a5 HS.length c5], .agg #[.int .i64 1, .int .i64 t, .slice (some ⟨w7.heap.size, 0, none⟩) 1 1]] W fun e w' => e = .returned (.bool false) ∧ Below W.heap.size W w') := fun W hb => by
    have := implMay_any RR _ HS 1 t _ [1] a W (U8.out.later hb (Nat.le_refl _)) hL9 (J8.out.later hb (Nat.le_refl _)) (by simp) (HA.out _ (B2.out.trans ((E8.out.trans (hb.mono E8.out.size)).mono B2.out.size)))
    rw [T2.out] at this; exact this
  obtain ⟨D1, hD1⟩ : ∃ q, Hid (decide (k = 1) = q) := ⟨_, rfl⟩
  have M3 : Hid (∀ W, Below w8.heap.size w8 W → Calls Tryd.prog 15 #[.agg #[.int .i64 RR, .slice a5 HS.length c5], .agg #[.int .i64 2, .int .i64 t, .slice none 0 0]] W fun e w' => e = .returned (.bool D1) ∧ Below W.heap.size W w') := fun W hb => by
    have := implMay_any RR _ HS 2 t _ [] a W (U8.out.later hb (Nat.le_refl _)) hL9 (Or.inl ⟨rfl, none, 0, rfl, fun _ => rfl⟩) (by simp) (HA.out _ (B2.out.trans ((E8.out.trans (hb.mono E8.out.size)).mono B2.out.size)))
    rw [T3.out, hD1.out] at this; exact this
  have B8 := hide_it (B2.out.trans (E8.out.mono B2.out.size))
  go_wp2_with fail
  rw [← hw8.out]
  have hk1 : (k == 1) = D1 := by rw [← hD1.out]; rfl
  have hdd : (D1 == D1) = true := by simp
  refine wp_region_held_drew (S := fun w' => ((w'.cell? ⟨w5.heap.size, 0, none⟩ = some (.int .i64 RR) ∧ w'.cell? ⟨w5.heap.size, 1, none⟩ = some (.slice a5 HS.length c5)) ∧ (w'.cell? ⟨w1.heap.size + 1, 0, none⟩ = some (.int .i64 k) ∧ w'.cell? ⟨w1.heap.size + 1, 1, none⟩ = some (.int .i64 t) ∧ w'.cell? ⟨w1.heap.size + 1, 2, none⟩ = some (.slice az zs.length cz))) ∧ (w'.cell? ⟨w7.heap.size + 1, 0, none⟩ = some (.int .i64 1) ∧ w'.cell? ⟨w7.heap.size + 1, 1, none⟩ = some (.int .i64 t) ∧ w'.cell? ⟨w7.heap.size + 1, 2, none⟩ = some (.slice (some ⟨w7.heap.size, 0, none⟩) 1 1)) ∧ (w'.cell? ⟨w7.heap.size + 2, 0, none⟩ = some (.int .i64 2) ∧ w'.cell? ⟨w7.heap.size + 2, 1, none⟩ = some (.int .i64 t) ∧ w'.cell? ⟨w7.heap.size + 2, 2, none⟩ = some (.slice none 0 0))) (by kernel_rfl) (K8.out w8 (Below.refl _ _)) (fun hHeld => ?_)
  refine takeD (i := 0) (v := ?_) (some 59) rfl rfl (by kernel_rfl) (by kernel_rfl) (by kernel_rfl) (fun _ _ _ h => h) (by rfl) hHeld ?_ ?_
  rotate_left
  · intro W hSw
    try dsimp only at hSw
    go_simp
    try with_reducible rfl
  try simp only [Act.put]
  try simp only [List.setIfInBounds_toArray]
  try simp only [List.set_cons_succ]
  try simp only [List.set_cons_zero]
  refine takeD (i := 1) (v := ?_) (some 60) rfl rfl (by kernel_rfl) (by kernel_rfl) (by kernel_rfl) (fun _ _ _ h => h) (by rfl) hHeld ?_ ?_
  rotate_left
  · intro W hSw
    try dsimp only at hSw
    go_simp
    try with_reducible rfl
  try simp only [Act.put]
  try simp only [List.setIfInBounds_toArray]
  try simp only [List.set_cons_succ]
  try simp only [List.set_cons_zero]
  refine wpAnyH_ready (rs := [2]) (by kernel_rfl) (by simp) ?_
  refine AllReadyH.cons rfl (fun K hK => ?_) AllReadyH.nil
  go_simp
  refine (M1.out _ (Below.refl _ _).drew).mono ?_
  rintro e w9 ⟨rfl, hb9⟩
  have L9 := hide_it ((Below.refl w8.heap.size w8).drew.trans hb9)
  clear hb9
  try dsimp only
  refine hK.out _ _ (K8.out _ L9.out) (fun hHeld => ?_)
  clear hK K
  refine takeD (i := 3) (v := ?_) (some 62) rfl rfl (by kernel_rfl) (by kernel_rfl) (by kernel_rfl) (fun _ _ _ h => h) (by rfl) hHeld ?_ ?_
  rotate_left
  · intro W hSw
    try dsimp only at hSw
    go_simp
    try with_reducible rfl
  try simp only [Act.put]
  try simp only [List.setIfInBounds_toArray]
  try simp only [List.set_cons_succ]
  try simp only [List.set_cons_zero]
  refine takeD (i := 4) (v := .bool true) (some 63) rfl rfl (by kernel_rfl) (by kernel_rfl) (by kernel_rfl) (fun _ _ _ h => h) (by rfl) hHeld ?_ ?_
  · intro W hSw
    try dsimp only at hSw
    first | (go_simp; done) | (go_simp; simp)
  try simp only [Act.put]
  try simp only [List.setIfInBounds_toArray]
  try simp only [List.set_cons_succ]
  try simp only [List.set_cons_zero]
  refine takeD (i := 5) (v := ?_) (some 64) rfl rfl (by kernel_rfl) (by kernel_rfl) (by kernel_rfl) (fun _ _ _ h => h) (by rfl) hHeld ?_ ?_
  rotate_left
  · intro W hSw
    try dsimp only at hSw
    go_simp
    try with_reducible rfl
  try simp only [Act.put]
  try simp only [List.setIfInBounds_toArray]
  try simp only [List.set_cons_succ]
  try simp only [List.set_cons_zero]
  refine takeD (i := 6) (v := ?_) (some 65) rfl rfl (by kernel_rfl) (by kernel_rfl) (by kernel_rfl) (fun _ _ _ h => h) (by rfl) hHeld ?_ ?_
  rotate_left
  · intro W hSw
    try dsimp only at hSw
    go_simp
    try with_reducible rfl
  try simp only [Act.put]
  try simp only [List.setIfInBounds_toArray]
  try simp only [List.set_cons_succ]
  try simp only [List.set_cons_zero]
  refine wpAnyH_ready (rs := [7]) (by kernel_rfl) (by simp) ?_
  refine AllReadyH.cons rfl (fun K hK => ?_) AllReadyH.nil
  go_simp
  refine (M2.out _ L9.out).mono ?_
  rintro e w10 ⟨rfl, hb10⟩
  have L10 := hide_it (L9.out.trans (hb10.mono L9.out.size))
  clear hb10
  try dsimp only
  refine hK.out _ _ (K8.out _ L10.out) (fun hHeld => ?_)
  clear hK K
  refine takeD (i := 8) (v := ?_) (some 67) rfl rfl (by kernel_rfl) (by kernel_rfl) (by kernel_rfl) (fun _ _ _ h => h) (by rfl) hHeld ?_ ?_
  rotate_left
  · intro W hSw
    try dsimp only at hSw
    go_simp
    try with_reducible rfl
  try simp only [Act.put]
  try simp only [List.setIfInBounds_toArray]
  try simp only [List.set_cons_succ]
  try simp only [List.set_cons_zero]
  refine takeD (i := 9) (v := ?_) (some 68) rfl rfl (by kernel_rfl) (by kernel_rfl) (by kernel_rfl) (fun _ _ _ h => h) (by rfl) hHeld ?_ ?_
  rotate_left
  · intro W hSw
    try dsimp only at hSw
    go_simp
    try with_reducible rfl
  try simp only [Act.put]
  try simp only [List.setIfInBounds_toArray]
  try simp only [List.set_cons_succ]
  try simp only [List.set_cons_zero]
  refine takeD (i := 10) (v := .bool true) (some 69) rfl rfl (by kernel_rfl) (by kernel_rfl) (by kernel_rfl) (fun _ _ _ h => h) (by rfl) hHeld ?_ ?_
  · intro W hSw
    try dsimp only at hSw
    first | (go_simp; done) | (go_simp; simp)
  try simp only [Act.put]
  try simp only [List.setIfInBounds_toArray]
  try simp only [List.set_cons_succ]
  try simp only [List.set_cons_zero]
  refine takeD (i := 11) (v := ?_) (some 70) rfl rfl (by kernel_rfl) (by kernel_rfl) (by kernel_rfl) (fun _ _ _ h => h) (by rfl) hHeld ?_ ?_
  rotate_left
  · intro W hSw
    try dsimp only at hSw
    go_simp
    try with_reducible rfl
  try simp only [Act.put]
  try simp only [List.setIfInBounds_toArray]
  try simp only [List.set_cons_succ]
  try simp only [List.set_cons_zero]
  refine takeD (i := 12) (v := ?_) (some 71) rfl rfl (by kernel_rfl) (by kernel_rfl) (by kernel_rfl) (fun _ _ _ h => h) (by rfl) hHeld ?_ ?_
  rotate_left
  · intro W hSw
    try dsimp only at hSw
    go_simp
    try with_reducible rfl
  try simp only [Act.put]
  try simp only [List.setIfInBounds_toArray]
  try simp only [List.set_cons_succ]
  try simp only [List.set_cons_zero]
  refine takeD (i := 14) (v := ?_) (some 73) rfl rfl (by kernel_rfl) (by kernel_rfl) (by kernel_rfl) (fun _ _ _ h => h) (by rfl) hHeld ?_ ?_
  rotate_left
  · intro W hSw
    try dsimp only at hSw
    go_simp
    try with_reducible rfl
  try simp only [Act.put]
  try simp only [List.setIfInBounds_toArray]
  try simp only [List.set_cons_succ]
  try simp only [List.set_cons_zero]
  refine takeD (i := 15) (v := ?_) (some 74) rfl rfl (by kernel_rfl) (by kernel_rfl) (by kernel_rfl) (fun _ _ _ h => h) (by rfl) hHeld ?_ ?_
  rotate_left
  · intro W hSw
    try dsimp only at hSw
    go_simp
    try with_reducible rfl
  try simp only [Act.put]
  try simp only [List.setIfInBounds_toArray]
  try simp only [List.set_cons_succ]
  try simp only [List.set_cons_zero]
  refine takeD (i := 16) (v := ?_) (some 75) rfl rfl (by kernel_rfl) (by kernel_rfl) (by kernel_rfl) (fun _ _ _ h => h) (by rfl) hHeld ?_ ?_
  rotate_left
  · intro W hSw
    try dsimp only at hSw
    go_simp
    try with_reducible rfl
  try simp only [Act.put]
  try simp only [List.setIfInBounds_toArray]
  try simp only [List.set_cons_succ]
  try simp only [List.set_cons_zero]
  refine wpAnyH_ready (rs := [13]) (by kernel_rfl) (by simp) ?_
  refine AllReadyH.cons rfl (fun K hK => ?_) AllReadyH.nil
  go_simp
  refine (M3.out _ L10.out).mono ?_
  rintro e w11 ⟨rfl, hb11⟩
  have L11 := hide_it (L10.out.trans (hb11.mono L10.out.size))
  clear hb11
  try dsimp only
  refine hK.out _ _ (K8.out _ L11.out) (fun hHeld => ?_)
  clear hK K
  refine takeD (i := 17) (v := .bool true) (some 76) rfl rfl (by kernel_rfl) (by kernel_rfl) (by kernel_rfl) (fun _ _ _ h => h) (by rfl) hHeld ?_ ?_
  · intro W hSw
    try dsimp only at hSw
    first | (go_simp; done) | (go_simp; simp)
  try simp only [Act.put]
  try simp only [List.setIfInBounds_toArray]
  try simp only [List.set_cons_succ]
  try simp only [List.set_cons_zero]
  refine takeD (i := 18) (v := .bool true) (some 77) rfl rfl (by kernel_rfl) (by kernel_rfl) (by kernel_rfl) (fun _ _ _ h => h) (by rfl) hHeld ?_ ?_
  · intro W hSw
    try dsimp only at hSw
    first | (go_simp; done) | (go_simp; simp)
  try simp only [Act.put]
  try simp only [List.setIfInBounds_toArray]
  try simp only [List.set_cons_succ]
  try simp only [List.set_cons_zero]
  refine takeD (i := 19) (v := ?_) (some 2) rfl rfl (by kernel_rfl) (by kernel_rfl) (by kernel_rfl) (fun _ _ _ h => h) (by rfl) hHeld ?_ ?_
  rotate_left
  · intro W hSw
    try dsimp only at hSw
    go_simp
    try with_reducible rfl
  try simp only [Act.put]
  try simp only [List.setIfInBounds_toArray]
  try simp only [List.set_cons_succ]
  try simp only [List.set_cons_zero]
  refine wpAnyH_done (by kernel_rfl) ?_ _
  go_wp2
  go_ret
  exact ⟨rfl, B8.out.trans (L11.out.mono B8.out.size)⟩

end Go.Proofs.YtcofnjooiemkfaaDoor

namespace Go.Proofs.YtcofnjooiemkfaaDoor
open Go.ChangeShapes Go.WideShapes Go.ChangeAt Go.WideMaps Go.WideElems Go.RowKit Go.Joins

set_option maxHeartbeats 1000000 in
theorem lawP18_great (ac : Option Addr) (nc cc : Nat) (w : World) (h : 1048576 < (nc : Int)) :
    Calls Tryd.prog 5 #[.slice ac nc cc] w fun e w' => e = .returned (.bool true) ∧ Below w.heap.size w w' := by
  go_enter Tryd.func5, Tryd.ntmps5
  go_wp2
  go_ret
  exact ⟨rfl, Below.refl _ _⟩

theorem lawP18_any (vc : Value) (nc : Nat) (a : Addr) (w : World) (hc : CodeAt w vc nc) (ha : ErrAt w a) :
    Calls Tryd.prog 5 #[vc] w fun e w' => e = .returned (.bool true) ∧ Below w.heap.size w w' := by
  by_cases h1 : nc ≤ 1048576
  · exact lawP18_small vc nc a w hc h1 ha
  · obtain ⟨ac, cc, rfl, _⟩ := hc
    exact lawP18_great ac nc cc w (by omega)

set_option maxRecDepth 100000 in
theorem p18_lifted (os : Os) (started : os.Started) (H : Type) (enc : TypeId × Value → H) :
    ReturnsInHanded {} Tryd.checked os 5 .any (fun w args => (Rows.fnStockTwiceSpec.pre enc Tryd.prog Tryd.f5 [] false w args ∧ laidMetH Tryd.prog laidErr w) ∧ sizedMet enc Tryd.prog Tryd.f5 (OpenSpec.ofChange Rows.fnStockTwiceSpec) false w args)
      (Rows.fnStockTwiceSpec.post enc Tryd.prog Tryd.f5 false true false false) := by
  refine returnsInHanded_of_change_and (C := Tryd.checked) (X := fun w _ => laidMetH Tryd.prog laidErr w) (fun _ _ _ hh h => h.of_heap hh) own started (by kernel_rfl) Tryd.func5
    (ChangeSpec.witness_shaped (enc := enc) (C := Tryd.checked) (os := os) (X := fun w _ => laidMetH Tryd.prog laidErr w) false (World.doorLaid Tryd.prog 28 os) #[.slice none 0 0] 8 rfl (World.shaped_of_RefB (by kernel_rfl) (by kernel_rfl)) (by kernel_rfl) (by kernel_rfl) (by kernel_rfl) (door_met os _)) ?_
  intro W base args ds gs before hval0 hW _ _ hL _
  have hval : ∀ (j : Nat) t v, Tryd.f5.params[j]? = some t → args[j]? = some v → Value.okWide Tryd.prog W .any base t v := hval0
  have hW' := hW
  obtain ⟨p, q, hA0, hV0, rfl, hfz, hnd⟩ := hW
  have hA : DataW.TrodAll enc Tryd.prog W 0 (fun _ => true) true Tryd.f5.params.toList args.toList ds p := hA0
  have hV : DataW.TrodVars enc Tryd.prog W (fun _ => true) ["loop.example/concierge/impl.errNoRec"] gs q := hV0
  rw [Tryd.params5] at hA hval
  obtain ⟨v0, d0, rfl, rfl, h0⟩ := trodAll_one hA
  obtain ⟨a, hErr, hvar⟩ := of_laid hL
  have vr : ∀ {X : World}, X.var? Tryd.prog "loop.example/concierge/impl.errNoRec" = some #[.iface 101 (.pointer (some a))] → ∀ sp : Nat → Bool,
      DataW.TrodVars enc Tryd.prog X sp ["loop.example/concierge/impl.errNoRec"] [tok enc (.iface 101 (.pointer (some a)))] [.cell 0 0] :=
    fun x0 sp => vars_read1 enc gErr gErrType Tryd.underlying72 x0 trivial sp
  obtain ⟨rfl, rfl⟩ := hV.unique (vr hvar _)
  clear hA0 hV0 hval0
  obtain ⟨nc, hC, _⟩ := open_code (hval 0 22 v0 rfl rfl) h0
  refine (lawP18_any v0 nc a W hC hErr).mono fun e W' ⟨he, hb⟩ => ?_
  subst he
  have hlt : ∀ x ∈ p, x.block < W.heap.size := fun x hx => hW'.lt x (by simp [hx])
  refine ⟨_, rfl, _, _, _, [], p, [.cell 0 0], hW', ?_, ?_, ?_, hb.frame _, fun h => by cases h⟩
  · exact trodAll_mk1 (shut_bool Tryd.underlying4 true)
  · exact trodAll_mk1 (Below.trod laidOut (by kernel_rfl) (of_decide_eq_true (by kernel_rfl)) h0 hb hlt)
  · exact vr (var?_below hb gErr (World.block_lt_of_cell? _ _ hErr) hvar) _

theorem p18_said : Rows.FnStockTwiceSaid :=
  OpenClaim.holds_of_wide 5 Tryd.f5 rfl rfl rfl rfl rfl rfl rfl ⟨rfl, rfl, rfl, rfl, rfl⟩ rfl rfl rfl rfl rfl (by kernel_rfl) Tryd.func5 (by kernel_rfl)
    (of_decide_eq_true (by kernel_rfl)) (by unfold Func.isWrapper; first | (rw [if_pos (by decide +kernel)]; kernel_rfl) | (rw [if_neg (by decide +kernel)]; exact ⟨rfl, rfl⟩))
    (fun os started H enc _ => p18_lifted os started H enc)

theorem p18_plain (f : FuncId) (fn : Func) (hf : Tryd.pinned.checked.prog.funcNamed "loop.example/concierge/laws.FnStockTwice" = some f) (hfn : Tryd.pinned.checked.prog.funcs[f]? = some fn) :
    true = Tryd.pinned.checked.prog.looks [] ∧ ∀ (j : Nat) t, fn.params[j]? = some t → Tryd.pinned.checked.prog.wantsStandIn t = false := by
  obtain rfl : f = 5 := Option.some.inj ((show Tryd.prog.funcNamed "loop.example/concierge/laws.FnStockTwice" = some 5 by kernel_rfl).symm.trans hf) |>.symm
  obtain rfl : fn = Tryd.f5 := (Option.some.inj (Tryd.func5.symm.trans hfn)).symm
  refine ⟨by kernel_rfl, fun j t ht => ?_⟩
  rw [Tryd.params5] at ht
  obtain rfl : t = 22 := by simpa using Array.mem_of_getElem? ht
  exact (show Tryd.prog.wantsStandIn 22 = false by kernel_rfl)

theorem p18_card : Rows.FnStockTwiceCardSaid :=
  Claim7.holds_tied_plain_at .later [] _ _ _ _ p18_said (fun _ h => by cases h) (by kernel_rfl) (fun _ h => by cases h) fnStockTwice_row_tie rfl ⟨rfl, rfl⟩ (by kernel_rfl) rfl p18_plain (by kernel_rfl)
#print axioms p18_card

end Go.Proofs.YtcofnjooiemkfaaDoor
