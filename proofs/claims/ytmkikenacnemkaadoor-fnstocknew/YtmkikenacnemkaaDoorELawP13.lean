/- A stock begins with all free (promise 13): the law FnStockNew walked. For codes of at most 1048576 bytes, in a world in which the sentinel's variable holds a pointer to an errors.errorString. -/
import Derived.Test.YtmkikenacnemkaaDoorELawNew
import Derived.Test.YtmkikenacnemkaaDoorBlk
namespace Go.Proofs.YtmkikenacnemkaaDoor
open Go.RowKit

theorem new_no {room : Int} (h : Pl.inB room 0 9 = false) : newO room = none := by unfold newO; rw [h]; rfl
theorem new_yes {room : Int} (h : Pl.inB room 0 9 = true) : newO room = some Pl.noHolds := by unfold newO; rw [if_pos h]
theorem room_ten {room : Int} (h : Pl.inB room 0 9 = true) : room = 0 ∨ room = 1 ∨ room = 2 ∨ room = 3 ∨ room = 4 ∨ room = 5 ∨ room = 6 ∨ room = 7 ∨ room = 8 ∨ room = 9 := by
  have := Pl.inB_true h; omega
theorem new_ok {room : Int} (h : Pl.inB room 0 9 = true) : Pl.sOk room Pl.noHolds = true := by
  rcases room_ten h with rfl | rfl | rfl | rfl | rfl | rfl | rfl | rfl | rfl | rfl <;> rfl
theorem new_free {room : Int} (h : Pl.inB room 0 9 = true) : Pl.sFree room Pl.noHolds = room := by
  rcases room_ten h with rfl | rfl | rfl | rfl | rfl | rfl | rfl | rfl | rfl | rfl <;> rfl
theorem of_nil {room : Int} (h : Pl.inB room 0 9 = true) : Pl.sOf room [] = some Pl.noHolds := by
  rcases room_ten h with rfl | rfl | rfl | rfl | rfl | rfl | rfl | rfl | rfl | rfl <;> rfl

set_option maxHeartbeats 4000000 in
theorem lawP13_small (v : Value) (n : Nat) (a : Addr) (w : World) (hv : CodeAt w v n) (hn : n ≤ 1048576) (ha : ErrAt w a) :
    Calls Tryd.prog 3 #[v] w fun e w' => e = .returned (.bool true) ∧ Below w.heap.size w w' := by
  have HO := hide_it (drawNew_any v n w hv hn)
  have HAe : Hid (∀ W, Below w.heap.size w W → ErrAt W a) := fun W h => ha.later h (Nat.le_refl _)
  obtain ⟨ao, cap, rfl, _⟩ := hv
  clear ha
  have hni : ¬ (1048576 : Int) < (n : Int) := by omega
  go_enter Tryd.func3, Tryd.ntmps3
  go_wp2_with fail
  refine HO.out.mono ?_
  rintro e w1 ⟨room, rfl, hr0, hr1, hb1⟩
  have B1 := hide_it hb1
  clear hb1
  have HSP0 := specNew_any room
  have HIM0 := implNew_any room
  have hl6 : (oH (newO room)).length ≤ 1048576 := by
    cases h : Pl.inB room 0 9
    · rw [new_no h]; simp [oH]
    · rw [new_yes h]; simp [oH, Pl.noHolds]
  obtain ⟨RR, hRR⟩ : ∃ x, oR room (newO room) = x := ⟨_, rfl⟩
  obtain ⟨HS, hHS⟩ : ∃ x, oH (newO room) = x := ⟨_, rfl⟩
  obtain ⟨BB, hBB⟩ : ∃ x, (newO room).isSome = x := ⟨_, rfl⟩
  rw [hRR, hHS, hBB] at HSP0 HIM0
  rw [hHS] at hl6
  have HSP := hide_it HSP0
  have HIM := hide_it HIM0
  have FIN : Hid (BB = true → RR = room ∧ HS = Pl.noHolds ∧ Pl.inB room 0 9 = true) := fun h => by
    cases hi : Pl.inB room 0 9
    · rw [← hBB, new_no hi] at h; cases h
    · rw [← hRR, ← hHS, new_yes hi]; exact ⟨rfl, rfl, rfl⟩
  clear HSP0 HIM0 hRR hHS hBB
  go_wp2_with fail
  refine (HSP.out w1).mono ?_
  rintro e w2 ⟨a2, c2, rfl, ho2, hb2⟩
  obtain ⟨w3, hw3⟩ : ∃ W, Hid (W = w2.alloc (.cells #[.int .i64 RR, .slice a2 HS.length c2] 26)) := ⟨_, rfl⟩
  have al3 : Below w2.heap.size w2 w3 := by rw [hw3.out]; exact alloc_below _ _
  have Z3 : Hid (Blk w3 w2.heap.size #[.int .i64 RR, .slice a2 HS.length c2] 26) := by show Blk _ _ _ _; rw [hw3.out]; exact Blk.new w2 _ _
  have B3 := hide_it (B1.out.trans ((hb2.trans (al3.mono hb2.size)).mono B1.out.size))
  have V3 := hide_it ((holds_of_row ho2).later al3 (Nat.le_refl _))
  clear ho2 hb2 al3
  go_wp2_with fail
  rw [← hw3.out]
  refine (HIM.out w3).mono ?_
  rintro e w4 ⟨a4, c4, rfl, ho4, hb4⟩
  obtain ⟨w5, hw5⟩ : ∃ W, Hid (W = w4.alloc (.cells #[.int .i64 RR, .slice a4 HS.length c4] 26)) := ⟨_, rfl⟩
  have al5 : Below w4.heap.size w4 w5 := by rw [hw5.out]; exact alloc_below _ _
  have e5 : Below w3.heap.size w3 w5 := hb4.trans (al5.mono hb4.size)
  have Y5 : Hid (Blk w5 w4.heap.size #[.int .i64 RR, .slice a4 HS.length c4] 26) := by show Blk _ _ _ _; rw [hw5.out]; exact Blk.new w4 _ _
  have Z4 := hide_it (Z3.out.after hb4)
  have Z5 := hide_it (Z3.out.after e5)
  have B5 := hide_it (B3.out.trans (e5.mono B3.out.size))
  have V5 := hide_it (V3.out.later e5 (Nat.le_refl _))
  have U5 := hide_it ((holds_of_row ho4).later al5 (Nat.le_refl _))
  obtain ⟨z0, z1⟩ := Z4.out.cells2
  have z0o := fun o => cellAlloc z0 o
  have z1o := fun o => cellAlloc z1 o
  have hzl := Z4.out.lt
  clear ho4 hb4 al5 e5
  cases BB
  · go_wp2_with fail
    rw [← hw5.out]
    refine (lnStock_any RR _ _ HS w5 U5.out V5.out hl6).mono ?_
    rintro e w6 ⟨rfl, hb6⟩
    have B6 := hide_it (B5.out.trans (hb6.mono B5.out.size))
    have U6 := hide_it (U5.out.later hb6 (Nat.le_refl _))
    have V6 := hide_it (V5.out.later hb6 (Nat.le_refl _))
    obtain ⟨p0, p1⟩ := (Z5.out.after hb6).cells2
    obtain ⟨q0, q1⟩ := (Y5.out.after hb6).cells2
    clear hb6 z0 z1 z0o z1o
    go_wp2_with fail
    refine (lnStock_any RR _ _ HS w6 U6.out V6.out hl6).mono ?_
    rintro e w7 ⟨rfl, hb7⟩
    have B7 := hide_it (B6.out.trans (hb7.mono B6.out.size))
    clear hb7
    go_wp2
    go_ret
    exact ⟨rfl, B7.out⟩
  obtain ⟨e1, e2, hin⟩ := FIN.out rfl
  subst e1 e2
  have HOF : Hid (∀ W, Below w.heap.size w W → Calls Tryd.prog 8 #[.int .i64 RR, .slice none 0 0] W fun e w' => StOut W w' e RR Pl.noHolds true) := fun W h => by
    have := implOf_any RR (.slice none 0 0) [] a W (Or.inl ⟨rfl, none, 0, rfl⟩) (by simp [tot, pre]) (HAe.out W h)
    rw [of_nil hin] at this
    exact this
  have HOK : Hid (∀ (x : Value) (W : World), Holds W x Pl.noHolds → Calls Tryd.prog 9 #[.agg #[.int .i64 RR, x]] W fun e w' => e = .returned (.bool true) ∧ Below W.heap.size W w') := fun x W h => by
    have := implStockOk_any RR x Pl.noHolds W h hl6
    rw [new_ok hin] at this; exact this
  have HFR : Hid (∀ (x : Value) (W : World), Holds W x Pl.noHolds → Calls Tryd.prog 10 #[.agg #[.int .i64 RR, x]] W fun e w' => e = .returned (.int .i64 RR) ∧ Below W.heap.size W w') := fun x W h => by
    have := implFree_any RR x Pl.noHolds W h hl6
    rw [new_free hin] at this; exact this
  have h6 : Pl.noHolds.length = 6 := rfl
  have hw5 : Hid (w5 = w4.alloc (.cells #[.int .i64 RR, .slice a4 6 c4] 26)) := hw5
  have Y5 : Hid (Blk w5 w4.heap.size #[.int .i64 RR, .slice a4 6 c4] 26) := Y5
  have U5 : Hid (Holds w5 (.slice a4 6 c4) Pl.noHolds) := U5
  have V5 : Hid (Holds w5 (.slice a2 6 c2) Pl.noHolds) := V5
  have z1 : w4.cell? ⟨w2.heap.size, 1, none⟩ = some (.slice a2 6 c2) := z1
  go_wp2_with fail
  rw [← hw5.out]
  refine (lnStock_any RR _ _ Pl.noHolds w5 U5.out V5.out hl6).mono ?_
  rintro e w6 ⟨rfl, hb6⟩
  have B6 := hide_it (B5.out.trans (hb6.mono B5.out.size))
  have U6 := hide_it (U5.out.later hb6 (Nat.le_refl _))
  have Y6 := hide_it (Y5.out.after hb6)
  clear hb6 z0 z1 z0o z1o
  go_wp2_with fail
  refine (HOF.out w6 B6.out).mono ?_
  rintro e w7 ⟨a7, c7, rfl, ho7, hb7⟩
  obtain ⟨w8, hw8⟩ : ∃ W, Hid (W = w7.alloc (.cells #[.int .i64 RR, .slice a7 6 c7] 26)) := ⟨_, rfl⟩
  have al8 : Below w7.heap.size w7 w8 := by rw [hw8.out]; exact alloc_below _ _
  have e8 : Below w6.heap.size w6 w8 := hb7.trans (al8.mono hb7.size)
  have X8 : Hid (Blk w8 w7.heap.size #[.int .i64 RR, .slice a7 6 c7] 26) := by show Blk _ _ _ _; rw [hw8.out]; exact Blk.new w7 _ _
  have Y7 := hide_it (Y6.out.after hb7)
  have Y8 := hide_it (Y6.out.after e8)
  have B8 := hide_it (B6.out.trans (e8.mono B6.out.size))
  have U8 := hide_it (U6.out.later e8 (Nat.le_refl _))
  have T8 : Hid (Holds w8 (.slice a7 6 c7) Pl.noHolds) := hide_it ((holds_of_row ho7).later al8 (Nat.le_refl _))
  obtain ⟨y0, y1⟩ := Y7.out.cells2
  have y0o := fun o => cellAlloc y0 o
  have y1o := fun o => cellAlloc y1 o
  have hyl := Y7.out.lt
  clear ho7 hb7 al8 e8
  go_wp2_with fail
  rw [← hw8.out]
  refine (HOK.out _ w8 U8.out).mono ?_
  rintro e w9 ⟨rfl, hb9⟩
  have B9 := hide_it (B8.out.trans (hb9.mono B8.out.size))
  have U9 := hide_it (U8.out.later hb9 (Nat.le_refl _))
  have T9 := hide_it (T8.out.later hb9 (Nat.le_refl _))
  have X9 := hide_it (X8.out.after hb9)
  have Y9 := hide_it (Y8.out.after hb9)
  obtain ⟨p0, p1⟩ := Y9.out.cells2
  clear hb9 y0 y1 y0o y1o
  go_wp2_with fail
  refine (HFR.out _ w9 U9.out).mono ?_
  rintro e w10 ⟨rfl, hb10⟩
  have B10 := hide_it (B9.out.trans (hb10.mono B9.out.size))
  have U10 := hide_it (U9.out.later hb10 (Nat.le_refl _))
  have T10 := hide_it (T9.out.later hb10 (Nat.le_refl _))
  obtain ⟨q0, q1⟩ := (Y9.out.after hb10).cells2
  obtain ⟨r0, r1⟩ := (X9.out.after hb10).cells2
  clear hb10 p0 p1
  go_wp2_with fail
  refine (lnStock_any RR _ _ Pl.noHolds w10 T10.out U10.out hl6).mono ?_
  rintro e w11 ⟨rfl, hb11⟩
  have B11 := hide_it (B10.out.trans (hb11.mono B10.out.size))
  clear hb11
  go_wp2
  go_ret
  exact ⟨rfl, B11.out⟩

end Go.Proofs.YtmkikenacnemkaaDoor
