/- The law FnExactStockOf, walked: at every number and list of records it answers true, and nothing that was there before has turned. In a world in which the sentinel's variable holds a pointer to an errors.errorString. -/
import Derived.Test.YtpnhcmjdjekleaaDoorKSOf2
import Derived.Test.YtpnhcmjdjekleaaDoorToLog
import Derived.Test.YtpnhcmjdjekleaaDoorMarkRecs
namespace Go.Proofs.YtpnhcmjdjekleaaDoor
open Go.RowKit

set_option maxHeartbeats 1000000 in
theorem specOf_any (room : Int) (v : Value) (rs : List R) (w : World) (hv : Recs w v rs) (hl : tot rs ≤ 1048576) :
    Calls Tryd.prog 20 #[.int .i64 room, v] w fun e w' => StOut w w' e (oR room (Pl.sOf room rs)) (oH (Pl.sOf room rs)) (Pl.sOf room rs).isSome := by
  obtain ⟨RR, hRR⟩ : ∃ x, oR room (Pl.sOf room rs) = x := ⟨_, rfl⟩
  obtain ⟨HS, hHS⟩ : ∃ x, oH (Pl.sOf room rs) = x := ⟨_, rfl⟩
  obtain ⟨BB, hBB⟩ : ∃ x, (Pl.sOf room rs).isSome = x := ⟨_, rfl⟩
  have HL : Hid (∀ o, Calls Tryd.prog 40 #[.int .i64 room, v] (w.alloc o) fun e w' => StOut (w.alloc o) w' e RR HS BB) := fun o => by
    rw [← hRR, ← hHS, ← hBB]
    exact l2Of_any room v rs (w.alloc o) (hv.later (al_below w o) (Nat.le_refl _)) hl
  rw [hRR, hHS, hBB]
  obtain ⟨av, cv, rfl⟩ := hv.shape
  clear hv hRR hHS hBB
  go_enter Tryd.func20, Tryd.ntmps20
  go_wp2_with fail
  refine (HL.out _).mono ?_
  rintro e w1 ⟨a1, c1, rfl, ho1, hb1⟩
  have Z1 := hide_it ((SB.new w (.int .i64 0) (.slice none 0 0)).later hb1 (by simp))
  have B1 := hide_it ((al_below w _).trans (hb1.mono (by simp)))
  rw [World.size_alloc] at ho1
  have O1 := hide_it ho1
  have hz1 := Z1.out.lt
  obtain ⟨z0, z1, z2, z3⟩ := Z1.out.cells
  clear ho1 hb1
  go_wp2
  refine bodyPost_ret (v := .tuple #[.agg #[.int .i64 RR, .slice a1 HS.length c1], .bool BB]) (by simp [results, Tryd.results20, go_sem, z0, z1]) rfl ⟨a1, c1, rfl, ?_, ?_⟩
  · exact ownsRow_base (ownsRow_setCell_below (ownsRow_setCell_below O1.out (by simp) _) (by simp) _) (by omega)
  · exact (B1.out.setCell (by simp) _).setCell (by simp) _

theorem sOf_len (room : Int) (rs : List R) : (oH (Pl.sOf room rs)).length ≤ 6 := by
  unfold Pl.sOf
  split
  · have h : ∀ (rs : List R) (hs : List Pl.H), hs.length = 6 → (oH (Pl.sRun room rs hs)).length ≤ 6 := by
      intro rs
      induction rs with
      | nil => intro hs h; simp [Pl.sRun, oH]; omega
      | cons r t ih =>
        intro hs h
        cases hd : Pl.sDo room hs r.1 r.2.1 r.2.2 with
        | none => rw [sRun_no room r t hs hd]; simp [oH]
        | some h' => rw [sRun_yes room r t hs h' hd]; exact ih h' (by rw [Pl.sDo_len hd]; exact h)
    exact h rs _ rfl
  · simp [oH]

set_option maxHeartbeats 1000000 in
theorem lawOf_great (room : Int) (v : Value) (rs : List R) (w : World) (hv : Recs w v rs) (hl : (rs.length : Int) ≤ 9223372036854775807) (hls : ∀ r ∈ rs, (r.2.2.length : Int) ≤ 9223372036854775807) (hg : 1048576 < (tot rs : Int)) :
    Calls Tryd.prog 5 #[.int .i64 room, v] w fun e w' => e = .returned (.bool true) ∧ Below w.heap.size w w' := by
  have HS : Hid (Calls Tryd.prog 19 #[v, .int .i64 1048576] w fun e w' => e = .returned (.int .i64 (-1)) ∧ Below w.heap.size w w') := by
    have := szRecs_any v rs 1048576 w hv hl hls (by omega) (by omega)
    rw [leftOf_neg (by omega)] at this
    exact this
  obtain ⟨av, cv, rfl⟩ := hv.shape
  clear hv hl hls hg
  go_enter Tryd.func5, Tryd.ntmps5
  go_wp2_with fail
  refine HS.out.mono ?_
  rintro e w1 ⟨rfl, hb⟩
  have HB := hide_it hb
  clear hb
  go_wp2
  go_ret
  exact ⟨rfl, HB.out⟩

theorem duo_mid {lo hi : Nat} {w w' : World} {b : Nat} {x y : Value} (h : Duo w b x y) (hm : Mid lo hi w w') (hb : b < lo ∨ hi ≤ b) : Duo w' b x y := by
  have hlt := h.lt
  have e := hm.block b hlt hb
  exact ⟨by rw [← h.1]; exact World.cell?_of_block (a := ⟨b, 0, none⟩) e, by rw [← h.2]; exact World.cell?_of_block (a := ⟨b, 1, none⟩) e⟩

set_option maxRecDepth 100000 in
set_option maxHeartbeats 8000000 in
theorem lawOf_small (room : Int) (v : Value) (rs : List R) (a : Addr) (w : World) (hv : Recs w v rs) (ha : ErrAt w a) (hl : tot rs ≤ 1048576) :
    Calls Tryd.prog 5 #[.int .i64 room, v] w fun e w' => e = .returned (.bool true) ∧ Below w.heap.size w w' := by
  have hrl := tot_len rs
  have HSZ : Hid (Calls Tryd.prog 19 #[v, .int .i64 1048576] w fun e w' => e = .returned (.int .i64 (1048576 - tot rs)) ∧ Below w.heap.size w w') := by
    have := szRecs_any v rs 1048576 w hv (by omega) (fun r hr => by have := tot_mem rs r hr; omega) (by omega) (by omega)
    rw [leftOf_pos (by omega)] at this
    exact this
  have HV : Hid (∀ W, Below w.heap.size w W → Recs W v rs) := fun W h => hv.later h (Nat.le_refl _)
  have HA : Hid (∀ W, Below w.heap.size w W → ErrAt W a) := fun W h => ha.later h (Nat.le_refl _)
  have hRl0 := sOf_len room rs
  obtain ⟨RR, hRR⟩ : ∃ x, oR room (Pl.sOf room rs) = x := ⟨_, rfl⟩
  obtain ⟨HS, hHS⟩ : ∃ x, oH (Pl.sOf room rs) = x := ⟨_, rfl⟩
  obtain ⟨BB, hBB⟩ : ∃ x, (Pl.sOf room rs).isSome = x := ⟨_, rfl⟩
  rw [hHS] at hRl0
  have hRl : HS.length ≤ 1048576 := by omega
  have HSP : Hid (∀ (x : Value) (W : World), Recs W x rs → Calls Tryd.prog 20 #[.int .i64 room, x] W fun e w' => StOut W w' e RR HS BB) := fun x W h1 => by rw [← hRR, ← hHS, ← hBB]; exact specOf_any room x rs W h1 hl
  have HIM : Hid (∀ (x : Value) (W : World), Recs W x rs → ErrAt W a → Calls Tryd.prog 22 #[.int .i64 room, x] W fun e w' => StOut W w' e RR HS BB) := fun x W h1 h3 => by rw [← hRR, ← hHS, ← hBB]; exact implOf_any room x rs a W h1 hl h3
  have hKx := kAt_bd rs 1 rs.length (Nat.le_refl _) hl (by omega) (by omega)
  obtain ⟨av, cv, rfl⟩ := hv.shape
  clear hv ha hRR hHS hBB hRl0
  go_enter Tryd.func5, Tryd.ntmps5
  go_wp2_with fail
  refine HSZ.out.mono ?_
  rintro e w1 ⟨rfl, hb1⟩
  have B1 := hide_it hb1
  clear hb1
  -- w0
  go_wp2_with fail
  refine (toRecs_any _ rs w1 (HV.out _ B1.out) hl).mono ?_
  rintro e w2 ⟨rfl, hm2, hb2⟩
  have B2 := hide_it (B1.out.trans (hb2.mono B1.out.size))
  have V2 := hide_it hm2.recs
  clear hb2 hm2
  go_wp2_with fail
  refine (HSP.out _ w2 V2.out).mono ?_
  rintro e w3 ⟨a3, c3, rfl, ho3, hb3⟩
  have B3 := hide_it (B2.out.trans (hb3.mono B2.out.size))
  obtain ⟨w4, hw4⟩ : ∃ W, Hid (W = w3.alloc (.cells #[.int .i64 RR, .slice a3 HS.length c3] 33)) := ⟨_, rfl⟩
  have al4 := hide_it (show Below w3.heap.size w3 w4 by rw [hw4.out]; exact al_below _ _)
  have B4 := hide_it (B3.out.trans (al4.out.mono B3.out.size))
  have V4 := hide_it (holds_of_row (ownsRow_below ho3 al4.out (fun j hj => (ho3.lt j hj).2)))
  have Z4 : Hid (Duo w4 w3.heap.size (.int .i64 RR) (.slice a3 HS.length c3)) := by show Duo _ _ _ _; rw [hw4.out]; exact Duo.new w3 _ _ _
  clear ho3 hb3
  -- x1
  go_wp2_with fail
  rw [← hw4.out]
  refine (toRecs_any _ rs w4 (HV.out _ B4.out) hl).mono ?_
  rintro e w5 ⟨rfl, hm5, hb5⟩
  obtain ⟨g5, hg5⟩ : ∃ g, Hid (g = w4.heap.size) := ⟨_, rfl⟩
  rw [← hg5.out] at hm5 ⊢
  obtain ⟨ps5, hp5, ho5⟩ := hm5
  have HP5 := hide_it hp5
  have O5 := hide_it ho5
  have E5 := hide_it hb5
  have B5 := hide_it (B4.out.trans (hb5.mono B4.out.size))
  have R5 : Hid (Recs w5 (.slice (some ⟨g5, 0, none⟩) rs.length rs.length) rs) := by
    have := O5.out.recs; rw [HP5.out] at this; exact this
  clear hp5 ho5 hb5
  -- g0
  go_wp2_with fail
  refine (HIM.out _ w5 R5.out (HA.out _ B5.out)).mono ?_
  rintro e w6 ⟨a6, c6, rfl, ho6, hb6⟩
  have LT6 := hide_it (fun j hj => ho6.lt j hj)
  have E6 := hide_it (E5.out.trans (hb6.mono E5.out.size))
  have O6x := hide_it (O5.out.below hb6 (Nat.le_refl _))
  obtain ⟨w7, hw7⟩ : ∃ W, Hid (W = w6.alloc (.cells #[.int .i64 RR, .slice a6 HS.length c6] 33)) := ⟨_, rfl⟩
  have al7 := hide_it (show Below w6.heap.size w6 w7 by rw [hw7.out]; exact al_below _ _)
  have SZ := hide_it (show w4.heap.size ≤ w5.heap.size ∧ w5.heap.size ≤ w6.heap.size ∧ w7.heap.size = w6.heap.size + 1 from ⟨E5.out.size, hb6.size, by rw [hw7.out]; simp⟩)
  have E7 := hide_it (E6.out.trans (al7.out.mono E6.out.size))
  have O7 := hide_it (ownsRow_below ho6 al7.out (fun j hj => (ho6.lt j hj).2))
  have O7x := hide_it (O6x.out.below al7.out (by have := SZ.out; omega))
  have G7 : Hid (Duo w7 w6.heap.size (.int .i64 RR) (.slice a6 HS.length c6)) := by show Duo _ _ _ _; rw [hw7.out]; exact Duo.new w6 _ _ _
  have V7 := hide_it (V4.out.later E7.out (Nat.le_refl _))
  have Z6 := Z4.out.later E6.out (Nat.le_refl _)
  have hz6 := Z6.lt
  obtain ⟨z0, z1⟩ := Z6
  clear ho6 hb6
  go_wp2_with fail
  rw [← hw7.out]
  refine (eqStock_any RR _ _ HS w7 (holds_of_row O7.out) V7.out hRl).mono ?_
  rintro e w8 ⟨rfl, hb8⟩
  have E8 := hide_it (E7.out.trans (hb8.mono E7.out.size))
  have O8 := hide_it (ownsRow_below O7.out hb8 (fun j hj => (O7.out.lt j hj).2))
  have O8x := hide_it (O7x.out.below hb8 (by have := SZ.out; omega))
  have G8 := hide_it (G7.out.later hb8 (Nat.le_refl _))
  have B8 := hide_it (B4.out.trans (E8.out.mono B4.out.size))
  have HS8 := hide_it hb8.size
  have R8x : Hid (Recs w8 (.slice (some ⟨g5, 0, none⟩) rs.length rs.length) rs) := by
    have := O8x.out.recs; rw [HP5.out] at this; exact this
  clear hb8 z0 z1 hz6
  go_wp2_with fail
  refine (toRecs_any _ rs w8 (HV.out _ B8.out) hl).mono ?_
  rintro e w9 ⟨rfl, hm9, hb9⟩
  have V9 := hide_it hm9.recs
  have R9x := hide_it (R8x.out.later hb9 (Nat.le_refl _))
  have N9 := hide_it hb9
  clear hm9 hb9
  go_wp2_with fail
  refine (eqRecs_any _ _ rs w9 R9x.out V9.out hl).mono ?_
  rintro e w10 ⟨rfl, hb10⟩
  have N10 := hide_it (N9.out.trans (hb10.mono N9.out.size))
  have E10 := hide_it (E8.out.trans (N10.out.mono E8.out.size))
  have O10 := hide_it (ownsRow_below O8.out N10.out (fun j hj => (O8.out.lt j hj).2))
  have O10x := hide_it (O8x.out.below N10.out (by have := SZ.out; have := HS8.out; omega))
  have G10 := hide_it (G8.out.later N10.out (Nat.le_refl _))
  clear hb10
  -- x1 is marked
  have HL5 : Hid (ps5.length = rs.length) := by have := congrArg List.length HP5.out; show _ = _; simpa using this
  have HMK : Hid (Calls Tryd.prog 24 #[.slice (some ⟨g5, 0, none⟩) rs.length rs.length, .int .i64 1] w10 fun e w' => e = .returned (.int .i64 (kAt rs 1 rs.length)) ∧ Mid g5 w5.heap.size w10 w') := by
    have h := markRecs_any (.slice (some ⟨g5, 0, none⟩) rs.length rs.length) ps5 1 g5 w5.heap.size w10 O10x.out (by rw [HP5.out]; exact hl) (by omega) (by omega)
    rw [HP5.out, HL5.out] at h
    refine h.mono ?_
    rintro e w' ⟨h1, -, h3⟩
    exact ⟨h1, h3⟩
  go_wp2_with fail
  refine HMK.out.mono ?_
  rintro e w11 ⟨rfl, hM11⟩
  have E11 := hide_it (E10.out.trans (hM11.below (show w4.heap.size ≤ g5 by rw [hg5.out]; exact Nat.le_refl _) E10.out.size))
  have O11 := hide_it (ownsRow_mid O10.out hM11 (fun j hj => Or.inr (by have := (LT6.out j hj).1; omega)))
  have G11 := hide_it (duo_mid G10.out hM11 (Or.inr (by have := SZ.out; omega)))
  have V11 := hide_it (V4.out.later E11.out (Nat.le_refl _))
  have Z11 := Z4.out.later E11.out (Nat.le_refl _)
  obtain ⟨z0, z1⟩ := Z11
  clear hM11
  obtain ⟨g0, g1⟩ := G11.out
  go_wp2_with fail
  refine (eqStock_any RR _ _ HS w11 (holds_of_row O11.out) V11.out hRl).mono ?_
  rintro e w12 ⟨rfl, hb12⟩
  have E12 := hide_it (E11.out.trans (hb12.mono E11.out.size))
  have O12 := hide_it (ownsRow_below O11.out hb12 (fun j hj => (O11.out.lt j hj).2))
  have G12 := hide_it (G11.out.later hb12 (Nat.le_refl _))
  clear hb12 z0 z1 g0 g1
  have HMK2 : Hid (Calls Tryd.prog 16 #[.agg #[.int .i64 RR, .slice a6 HS.length c6], .int .i64 1] w12 fun e w' => e = .returned (.int .i64 (1 + 2 * HS.length)) ∧ Holds w' (.slice a6 HS.length c6) (markH HS.length 1) ∧ Mid w5.heap.size w6.heap.size w12 w') := by
    refine (markStock_any RR _ HS 1 _ HS.length w12 O12.out hRl (by omega) (by omega)).mono ?_
    rintro e w' ⟨h1, h2, h3⟩
    refine ⟨h1, holds_of_row (base := w5.heap.size) ?_, h3 _ _ (fun i hi => LT6.out i hi)⟩
    rw [markH_length]; exact h2
  obtain ⟨g0, g1⟩ := G12.out
  go_wp2_with fail
  refine HMK2.out.mono ?_
  rintro e w13 ⟨rfl, hR13, hM13⟩
  have E13 := hide_it (E12.out.trans (hM13.below (show w4.heap.size ≤ w5.heap.size by have := SZ.out; omega) E12.out.size))
  have G13 := hide_it (duo_mid G12.out hM13 (Or.inr (Nat.le_refl _)))
  have R13 := hide_it hR13
  clear hM13 hR13 g0 g1
  obtain ⟨g0, g1⟩ := G13.out
  go_wp2_with fail
  refine (heldStock_any RR _ HS.length 1 w13 R13.out hRl (by omega) (by omega)).mono ?_
  rintro e w14 ⟨rfl, hb14⟩
  have E14 := hide_it (E13.out.trans (hb14.mono E13.out.size))
  have N14 := hide_it hb14
  have B14 := hide_it (B4.out.trans (E14.out.mono B4.out.size))
  clear hb14 g0 g1
  -- once more
  go_wp2_with fail
  refine (toRecs_any _ rs w14 (HV.out _ B14.out) hl).mono ?_
  rintro e w15 ⟨rfl, hm15, hb15⟩
  have V15 := hide_it hm15.recs
  have N15 := hide_it (N14.out.trans (hb15.mono N14.out.size))
  have B15 := hide_it (B14.out.trans (hb15.mono B14.out.size))
  clear hm15 hb15
  go_wp2_with fail
  refine (HIM.out _ w15 V15.out (HA.out _ B15.out)).mono ?_
  rintro e w16 ⟨a16, c16, rfl, ho16, hb16⟩
  have N16 := hide_it (N15.out.trans (hb16.mono N15.out.size))
  obtain ⟨w17, hw17⟩ : ∃ W, Hid (W = w16.alloc (.cells #[.int .i64 RR, .slice a16 HS.length c16] 33)) := ⟨_, rfl⟩
  have al17 := hide_it (show Below w16.heap.size w16 w17 by rw [hw17.out]; exact al_below _ _)
  have N17 := hide_it (N16.out.trans (al17.out.mono N16.out.size))
  have E16 := hide_it (E13.out.trans (N16.out.mono E13.out.size))
  have E17 := hide_it (E13.out.trans (N17.out.mono E13.out.size))
  have V17h := hide_it (holds_of_row (ownsRow_below ho16 al17.out (fun j hj => (ho16.lt j hj).2)))
  have V17 := hide_it (V4.out.later E17.out (Nat.le_refl _))
  have Z16 := Z4.out.later E16.out (Nat.le_refl _)
  have hz16 := Z16.lt
  obtain ⟨z0, z1⟩ := Z16
  clear ho16 hb16
  go_wp2_with fail
  rw [← hw17.out]
  refine (eqStock_any RR _ _ HS w17 V17h.out V17.out hRl).mono ?_
  rintro e w18 ⟨rfl, hb18⟩
  have N18 := hide_it (N17.out.trans (hb18.mono N17.out.size))
  have E18 := hide_it (E13.out.trans (N18.out.mono E13.out.size))
  clear hb18 z0 z1 hz16
  obtain ⟨g0, g1⟩ := G13.out.later N18.out (Nat.le_refl _)
  have R18 := hide_it (R13.out.later N18.out (Nat.le_refl _))
  go_wp2_with fail
  refine (heldStock_any RR _ HS.length 1 w18 R18.out hRl (by omega) (by omega)).mono ?_
  rintro e w19 ⟨rfl, hb19⟩
  have B19 := hide_it (B4.out.trans ((E18.out.trans (hb19.mono E18.out.size)).mono B4.out.size))
  clear hb19 g0 g1
  go_wp2
  go_ret
  exact ⟨rfl, B19.out⟩

end Go.Proofs.YtpnhcmjdjekleaaDoor
