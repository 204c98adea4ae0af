/- The law FnRecOne, walked: whatever the codes, it answers true, and nothing that was there before has turned. For codes of at most 1048576 bytes, in a world in which the variables hold the refusal and the names of the kinds. -/
import Derived.Test.YtbciimgibjlimaaDoorEDraw
namespace Go.Proofs.YtbciimgibjlimaaDoor
open Go.RowKit

theorem Fresh.form {W : World} {lo : Nat} {u : Value} {zs : List Int} {cap : Nat} (h : Fresh W lo u zs cap) : ∃ g off, u = .slice (some ⟨g, off, none⟩) zs.length cap := by
  obtain ⟨g, off, _, h, _⟩ := h
  exact ⟨g, off, h⟩

set_option maxHeartbeats 8000000 in
theorem lawRecOne_small (vc vm : Value) (nc nm : Nat) (a : Addr) (w : World) (hc : CodeAt w vc nc) (hcn : nc ≤ 1048576) (hm : CodeAt w vm nm) (hmn : nm ≤ 1048576) (ha : ErrAt w a) (hN : KindsAt w) :
    Calls Tryd.prog 4 #[vc, vm] w fun e w' => e = .returned (.bool true) ∧ Below w.heap.size w w' := by
  have HD := hidden (drawRecText_any vc nc w hc hcn)
  have HM := hidden (fun W hb => drawRecText_any vm nm W (hm.later (B := w.heap.size) hb (Nat.le_refl _)) hmn)
  have HN := hidden (fun W (hb : Below w.heap.size w W) => hN.later hb (Nat.le_refl _))
  have HA := hidden (fun W (hb : Below w.heap.size w W) => ha.later hb (Nat.le_refl _))
  obtain ⟨ac, cc, rfl, _⟩ := hc
  obtain ⟨am, cm, rfl, _⟩ := hm
  have hci : (nc : Int) ≤ 1048576 := by omega
  have hmi : (nm : Int) ≤ 1048576 := by omega
  clear hcn hmn hN ha
  go_enter Tryd.func4, Tryd.ntmps4
  go_wp2_with fail
  refine HD.out.mono ?_
  rintro e w1 ⟨k, t, u, zs, cap, rfl, hz, hf, hb1⟩
  have B1 := hidden hb1
  have I1 := hidden hf.ints
  obtain ⟨g, off, hu⟩ := hf.form
  clear hb1 hf
  obtain ⟨w2, hw2⟩ : ∃ W, Hid (W = w1.alloc (.cells #[.int .i64 k, .int .i64 t, u] 27)) := ⟨_, rfl⟩
  have B2 : Hid (Below w.heap.size w w2) := by show Below _ _ _; rw [hw2.out]; exact B1.out.alloc (B1.out.size) _
  have Q2 : Hid (RecAt w2 w1.heap.size k t u) := by show RecAt _ _ _ _ _; rw [hw2.out]; exact RecAt.new _ _ _ _ _
  have I2 : Hid (Ints w2 u zs) := by show Ints _ _ _; rw [hw2.out]; exact I1.out.later (alloc_below _ _) (Nat.le_refl _)
  subst hu
  go_wp2_with fail
  rw [← hw2.out]
  refine (HM.out _ B2.out).mono ?_
  rintro e w3 ⟨k', t', u', ys, cap', rfl, hy, hf, hb3⟩
  have B3 := hidden (B2.out.trans (hb3.mono B2.out.size))
  have Q3 := hidden (Q2.out.later hb3 (Nat.le_refl _))
  have I3 := hidden (I2.out.later hb3 (Nat.le_refl _))
  have J3 := hidden hf.ints
  obtain ⟨g', off', hu'⟩ := hf.form
  clear hb3 hf
  obtain ⟨w4, hw4⟩ : ∃ W, Hid (W = w3.alloc (.cells #[.int .i64 k', .int .i64 t', u'] 27)) := ⟨_, rfl⟩
  have B4 : Hid (Below w.heap.size w w4) := by show Below _ _ _; rw [hw4.out]; exact B3.out.alloc (B3.out.size) _
  have Q4 : Hid (RecAt w4 w1.heap.size k t (.slice (some ⟨g, off, none⟩) zs.length cap)) := by show RecAt _ _ _ _ _; rw [hw4.out]; exact Q3.out.later (alloc_below _ _) (Nat.le_refl _)
  have P4 : Hid (RecAt w4 w3.heap.size k' t' u') := by show RecAt _ _ _ _ _; rw [hw4.out]; exact RecAt.new _ _ _ _ _
  have I4 : Hid (Ints w4 (.slice (some ⟨g, off, none⟩) zs.length cap) zs) := by show Ints _ _ _; rw [hw4.out]; exact I3.out.later (alloc_below _ _) (Nat.le_refl _)
  have J4 : Hid (Ints w4 u' ys) := by show Ints _ _ _; rw [hw4.out]; exact J3.out.later (alloc_below _ _) (Nat.le_refl _)
  subst hu'
  have hz2 : zs.length ≤ 1048576 := by omega
  have hy2 : ys.length ≤ 1048576 := by omega
  obtain ⟨S, hS⟩ : ∃ x, Hid (Pl.rTxt k t zs = x) := ⟨_, rfl⟩
  obtain ⟨T, hT⟩ : ∃ x, Hid (Pl.rTxt k' t' ys = x) := ⟨_, rfl⟩
  have HSP := hidden (fun W (h : Below w4.heap.size w4 W) => specRecText_any k t _ zs W (I4.out.later h (Nat.le_refl _)) hz2)
  have HIM := hidden (fun W (h : Below w4.heap.size w4 W) => implRecText_any k t _ zs a W (I4.out.later h (Nat.le_refl _)) hz2)
  have HSP' := hidden (fun W (h : Below w4.heap.size w4 W) => specRecText_any k' t' _ ys W (J4.out.later h (Nat.le_refl _)) hy2)
  have HIM' := hidden (fun W (h : Below w4.heap.size w4 W) => implRecText_any k' t' _ ys a W (J4.out.later h (Nat.le_refl _)) hy2)
  simp only [hS.out] at HSP HIM
  simp only [hT.out] at HSP' HIM'
  have D4 : Hid (Below w4.heap.size w4 w4) := Below.refl _ _
  obtain ⟨q0, q1, q2⟩ := Q3.out
  have lq : w1.heap.size < w3.heap.size := by simpa using World.block_lt_of_cell? _ _ q0
  go_wp2_with fail
  rw [← hw4.out]
  refine (HIM.out _ D4.out (HA.out _ B4.out) (HN.out _ B4.out)).mono ?_
  rintro e w5 ⟨rfl, hb5⟩
  have B5 := hidden (B4.out.trans (hb5.mono B4.out.size))
  have D5 := hidden (D4.out.trans (hb5.mono D4.out.size))
  have Q5 := hidden (Q4.out.later hb5 (Nat.le_refl _))
  have P5 := hidden (P4.out.later hb5 (Nat.le_refl _))
  clear hb5 q0 q1 q2
  obtain ⟨p0, p1, p2⟩ := P5.out
  go_wp2_with fail
  refine (HIM'.out _ D5.out (HA.out _ B5.out) (HN.out _ B5.out)).mono ?_
  rintro e w6 ⟨rfl, hb6⟩
  have B6 := hidden (B5.out.trans (hb6.mono B5.out.size))
  have D6 := hidden (D5.out.trans (hb6.mono D5.out.size))
  have Q6 := hidden (Q5.out.later hb6 (Nat.le_refl _))
  have P6 := hidden (P5.out.later hb6 (Nat.le_refl _))
  clear hb6 p0 p1 p2
  obtain ⟨q0, q1, q2⟩ := Q6.out
  go_wp2_with fail
  refine (HSP.out _ D6.out).mono ?_
  rintro e w7 ⟨rfl, hb7⟩
  have B7 := hidden (B6.out.trans (hb7.mono B6.out.size))
  have D7 := hidden (D6.out.trans (hb7.mono D6.out.size))
  have Q7 := hidden (Q6.out.later hb7 (Nat.le_refl _))
  have P7 := hidden (P6.out.later hb7 (Nat.le_refl _))
  clear hb7 q0 q1 q2
  obtain ⟨p0, p1, p2⟩ := P7.out
  go_wp2_with fail
  refine (HSP'.out _ D7.out).mono ?_
  rintro e w8 ⟨rfl, hb8⟩
  have B8 := hidden (B7.out.trans (hb8.mono B7.out.size))
  have D8 := hidden (D7.out.trans (hb8.mono D7.out.size))
  have Q8 := hidden (Q7.out.later hb8 (Nat.le_refl _))
  have P8 := hidden (P7.out.later hb8 (Nat.le_refl _))
  clear hb8 p0 p1 p2
  obtain ⟨q0, q1, q2⟩ := Q8.out
  obtain ⟨p0, p1, p2⟩ := P8.out
  have em : (⟨#[]⟩ : ByteArray).toList.isEmpty = true := by rw [ByteArray.toList_eq]; rfl
  rcases Bool.eq_false_or_eq_true S.toList.isEmpty with e1 | e1
  · clear em
    go_wp2_with fail
    refine (HSP.out _ D8.out).mono ?_
    rintro e w9 ⟨rfl, hb9⟩
    have B9 := hidden (B8.out.trans (hb9.mono B8.out.size))
    have D9 := hidden (D8.out.trans (hb9.mono D8.out.size))
    have Q9 := hidden (Q8.out.later hb9 (Nat.le_refl _))
    have P9 := hidden (P8.out.later hb9 (Nat.le_refl _))
    clear hb9 p0 p1 p2 q0 q1 q2
    obtain ⟨p0, p1, p2⟩ := P9.out
    go_wp2_with fail
    refine (HSP'.out _ D9.out).mono ?_
    rintro e w10 ⟨rfl, hb10⟩
    have B10 := hidden (B9.out.trans (hb10.mono B9.out.size))
    have D10 := hidden (D9.out.trans (hb10.mono D9.out.size))
    have Q10 := hidden (Q9.out.later hb10 (Nat.le_refl _))
    have P10 := hidden (P9.out.later hb10 (Nat.le_refl _))
    clear hb10 p0 p1 p2
    go_wp2
    go_ret
    exact ⟨rfl, B10.out⟩
  rcases Bool.eq_false_or_eq_true T.toList.isEmpty with e3 | e3
  · clear em
    go_wp2_with fail
    refine (HSP.out _ D8.out).mono ?_
    rintro e w9 ⟨rfl, hb9⟩
    have B9 := hidden (B8.out.trans (hb9.mono B8.out.size))
    have D9 := hidden (D8.out.trans (hb9.mono D8.out.size))
    have Q9 := hidden (Q8.out.later hb9 (Nat.le_refl _))
    have P9 := hidden (P8.out.later hb9 (Nat.le_refl _))
    clear hb9 p0 p1 p2 q0 q1 q2
    obtain ⟨p0, p1, p2⟩ := P9.out
    go_wp2_with fail
    refine (HSP'.out _ D9.out).mono ?_
    rintro e w10 ⟨rfl, hb10⟩
    have B10 := hidden (B9.out.trans (hb10.mono B9.out.size))
    have D10 := hidden (D9.out.trans (hb10.mono D9.out.size))
    have Q10 := hidden (Q9.out.later hb10 (Nat.le_refl _))
    have P10 := hidden (P9.out.later hb10 (Nat.le_refl _))
    clear hb10 p0 p1 p2
    go_wp2
    go_ret
    exact ⟨rfl, B10.out⟩
  have o1 : Hid (Pl.recOk k t zs = true) := by
    show _ = _
    cases e : Pl.recOk k t zs
    · rw [← hS.out, Pl.rTxt_no e, em] at e1; exact absurd e1 (by decide)
    · rfl
  have o2 : Hid (Pl.recOk k' t' ys = true) := by
    show _ = _
    cases e : Pl.recOk k' t' ys
    · rw [← hT.out, Pl.rTxt_no e, em] at e3; exact absurd e3 (by decide)
    · rfl
  clear em
  have I8 := hidden (I4.out.later D8.out (Nat.le_refl _))
  have J8 := hidden (J4.out.later D8.out (Nat.le_refl _))
  by_cases hST : S = T
  · have hab := Pl.rTxt_inj o1.out o2.out (by rw [hS.out, hT.out]; exact hST)
    have HL : Hid (Calls Tryd.prog 11 #[.agg #[.int .i64 k, .int .i64 t, .slice (some ⟨g, off, none⟩) zs.length cap], .agg #[.int .i64 k', .int .i64 t', .slice (some ⟨g', off', none⟩) ys.length cap']] w8 fun e w' => e = .returned (.bool true) ∧ Below w8.heap.size w8 w') := by
      obtain ⟨h1, h2, h3⟩ := hab
      have j := J8.out
      rw [← h3] at j ⊢
      rw [← h1, ← h2]
      exact lnRec_any k t _ _ zs w8 I8.out j hz2
    clear o1 o2 HSP HIM HSP' HIM' hS hT hab
    subst hST
    go_wp2_with fail
    refine HL.out.mono ?_
    rintro e w9 ⟨rfl, hb9⟩
    have B9 := hidden (B8.out.trans (hb9.mono B8.out.size))
    clear hb9
    go_wp2
    go_ret
    exact ⟨rfl, B9.out⟩
  · have hab : ¬ (k = k' ∧ t = t' ∧ zs = ys) := by
      rintro ⟨h1, h2, h3⟩
      refine hST (hS.out.symm.trans (Eq.trans ?_ hT.out))
      rw [h1, h2, h3]
    have HL := hidden (lnRec_no k t k' t' _ _ zs ys w8 I8.out J8.out hz2 hy2 hab)
    have e5 : (S.toList == T.toList) = false := by
      rw [beq_eq_false_iff_ne]
      intro h
      rw [ByteArray.toList_eq, ByteArray.toList_eq] at h
      exact hST (WideShapes.bytes_inj h)
    clear o1 o2 HSP HIM HSP' HIM' hS hT hST hab
    go_wp2_with fail
    refine HL.out.mono ?_
    rintro e w9 ⟨rfl, hb9⟩
    have B9 := hidden (B8.out.trans (hb9.mono B8.out.size))
    clear hb9
    go_wp2
    go_ret
    exact ⟨rfl, B9.out⟩

end Go.Proofs.YtbciimgibjlimaaDoor
