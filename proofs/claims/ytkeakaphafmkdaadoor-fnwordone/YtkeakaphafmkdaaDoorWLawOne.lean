/- The law FnWordOne, walked: whatever the codes, it answers true, and nothing that was there before has turned. For codes of at most 1048576 bytes, in a world in which the variable holds the names of the kinds. -/
import Derived.Test.YtkeakaphafmkdaaDoorWSText
import Derived.Test.YtkeakaphafmkdaaDoorWInj
import Derived.Test.YtkeakaphafmkdaaDoorWDraw
namespace Go.Proofs.YtkeakaphafmkdaaDoor
open Go.RowKit

set_option maxHeartbeats 8000000 in
theorem lawOne_small (vc vm : Value) (nc nm : Nat) (w : World) (hc : CodeAt w vc nc) (hcn : nc ≤ 1048576) (hm : CodeAt w vm nm) (hmn : nm ≤ 1048576) (hN : NamesAt w) :
    Calls Tryd.prog 4 #[vc, vm] w fun e w' => e = .returned (.bool true) ∧ Below w.heap.size w w' := by
  have HD := hidden (drawWordText_any vc nc w hc hcn)
  have HM := hidden (fun W hb => drawWordText_any vm nm W (hm.later (B := w.heap.size) hb (Nat.le_refl _)) hmn)
  have HN := hidden (fun W (hb : Below w.heap.size w W) => hN.later hb (Nat.le_refl _))
  obtain ⟨ac, cc, rfl, _⟩ := hc
  obtain ⟨am, cm, rfl, _⟩ := hm
  have hci : (nc : Int) ≤ 1048576 := by omega
  have hmi : (nm : Int) ≤ 1048576 := by omega
  clear hcn hmn hN
  go_enter Tryd.func4, Tryd.ntmps4
  go_wp2_with fail
  refine HD.out.mono ?_
  rintro e w1 ⟨k, h, t, m, rfl, hS, hb1⟩
  have B1 := hidden hb1
  clear hb1
  obtain ⟨w2, hw2⟩ : ∃ W, Hid (W = w1.alloc (.cells #[.int .i64 k, .int .i64 h, .int .i64 t, .int .i64 m] 25)) := ⟨_, rfl⟩
  have B2 : Hid (Below w.heap.size w w2) := by show Below _ _ _; rw [hw2.out]; exact B1.out.alloc (B1.out.size) _
  have Q2 : Hid (Quad w2 w1.heap.size (.int .i64 k) (.int .i64 h) (.int .i64 t) (.int .i64 m)) := by show Quad _ _ _ _ _ _; rw [hw2.out]; exact Quad.new _ _ _ _ _ _
  go_wp2_with fail
  rw [← hw2.out]
  refine (HM.out _ B2.out).mono ?_
  rintro e w3 ⟨k', h', t', m', rfl, hS', hb3⟩
  have B3 := hidden (B2.out.trans (hb3.mono B2.out.size))
  have Q3 := hidden (Q2.out.later hb3 (Nat.le_refl _))
  clear hb3 hS hS'
  obtain ⟨w4, hw4⟩ : ∃ W, Hid (W = w3.alloc (.cells #[.int .i64 k', .int .i64 h', .int .i64 t', .int .i64 m'] 25)) := ⟨_, rfl⟩
  have B4 : Hid (Below w.heap.size w w4) := by show Below _ _ _; rw [hw4.out]; exact B3.out.alloc (B3.out.size) _
  have Q4 : Hid (Quad w4 w1.heap.size (.int .i64 k) (.int .i64 h) (.int .i64 t) (.int .i64 m)) := by show Quad _ _ _ _ _ _; rw [hw4.out]; exact Q3.out.later (alloc_below _ _) (Nat.le_refl _)
  have P4 : Hid (Quad w4 w3.heap.size (.int .i64 k') (.int .i64 h') (.int .i64 t') (.int .i64 m')) := by show Quad _ _ _ _ _ _; rw [hw4.out]; exact Quad.new _ _ _ _ _ _
  obtain ⟨S, hS⟩ : ∃ x, Hid (Pl.wTxt k h t m = x) := ⟨_, rfl⟩
  obtain ⟨T, hT⟩ : ∃ x, Hid (Pl.wTxt k' h' t' m' = x) := ⟨_, rfl⟩
  have HSP := hidden (specText_any k h t m)
  have HIM := hidden (implText_any k h t m)
  have HSP' := hidden (specText_any k' h' t' m')
  have HIM' := hidden (implText_any k' h' t' m')
  rw [hS.out] at HSP HIM
  rw [hT.out] at HSP' HIM'
  obtain ⟨q0, q1, q2, q3⟩ := Q3.out
  have lq := Q3.out.lt
  go_wp2_with fail
  rw [← hw4.out]
  refine (HIM.out _ (HN.out _ B4.out)).mono ?_
  rintro e w5 ⟨rfl, hb5⟩
  have B5 := hidden (B4.out.trans (hb5.mono B4.out.size))
  have Q5 := hidden (Q4.out.later hb5 (Nat.le_refl _))
  have P5 := hidden (P4.out.later hb5 (Nat.le_refl _))
  clear hb5 q0 q1 q2 q3
  obtain ⟨p0, p1, p2, p3⟩ := P5.out
  go_wp2_with fail
  refine (HIM'.out _ (HN.out _ B5.out)).mono ?_
  rintro e w6 ⟨rfl, hb6⟩
  have B6 := hidden (B5.out.trans (hb6.mono B5.out.size))
  have Q6 := hidden (Q5.out.later hb6 (Nat.le_refl _))
  have P6 := hidden (P5.out.later hb6 (Nat.le_refl _))
  clear hb6 p0 p1 p2 p3
  obtain ⟨q0, q1, q2, q3⟩ := Q6.out
  go_wp2_with fail
  refine (HSP.out _).mono ?_
  rintro e w7 ⟨rfl, hb7⟩
  have B7 := hidden (B6.out.trans (hb7.mono B6.out.size))
  have Q7 := hidden (Q6.out.later hb7 (Nat.le_refl _))
  have P7 := hidden (P6.out.later hb7 (Nat.le_refl _))
  clear hb7 q0 q1 q2 q3
  obtain ⟨p0, p1, p2, p3⟩ := P7.out
  go_wp2_with fail
  refine (HSP'.out _).mono ?_
  rintro e w8 ⟨rfl, hb8⟩
  have B8 := hidden (B7.out.trans (hb8.mono B7.out.size))
  have Q8 := hidden (Q7.out.later hb8 (Nat.le_refl _))
  have P8 := hidden (P7.out.later hb8 (Nat.le_refl _))
  clear hb8 p0 p1 p2 p3
  obtain ⟨q0, q1, q2, q3⟩ := Q8.out
  obtain ⟨p0, p1, p2, p3⟩ := P8.out
  have em : (⟨#[]⟩ : ByteArray).toList.isEmpty = true := by rw [ByteArray.toList_eq]; rfl
  rcases Bool.eq_false_or_eq_true S.toList.isEmpty with e1 | e1
  · clear em
    go_wp2_with fail
    refine (HSP.out _).mono ?_
    rintro e w9 ⟨rfl, hb9⟩
    have B9 := hidden (B8.out.trans (hb9.mono B8.out.size))
    have P9 := hidden (P8.out.later hb9 (Nat.le_refl _))
    clear hb9 p0 p1 p2 p3 q0 q1 q2 q3
    obtain ⟨p0, p1, p2, p3⟩ := P9.out
    go_wp2_with fail
    refine (HSP'.out _).mono ?_
    rintro e w10 ⟨rfl, hb10⟩
    have B10 := hidden (B9.out.trans (hb10.mono B9.out.size))
    clear hb10 p0 p1 p2 p3
    go_wp2
    go_ret
    exact ⟨rfl, B10.out⟩
  rcases Bool.eq_false_or_eq_true T.toList.isEmpty with e3 | e3
  · clear em
    go_wp2_with fail
    refine (HSP.out _).mono ?_
    rintro e w9 ⟨rfl, hb9⟩
    have B9 := hidden (B8.out.trans (hb9.mono B8.out.size))
    have P9 := hidden (P8.out.later hb9 (Nat.le_refl _))
    clear hb9 p0 p1 p2 p3 q0 q1 q2 q3
    obtain ⟨p0, p1, p2, p3⟩ := P9.out
    go_wp2_with fail
    refine (HSP'.out _).mono ?_
    rintro e w10 ⟨rfl, hb10⟩
    have B10 := hidden (B9.out.trans (hb10.mono B9.out.size))
    clear hb10 p0 p1 p2 p3
    go_wp2
    go_ret
    exact ⟨rfl, B10.out⟩
  have o1 : Hid (Pl.wOk k h t m = true) := by
    show _ = _
    cases e : Pl.wOk k h t m
    · rw [← hS.out, Pl.wTxt_no e, em] at e1; exact absurd e1 (by decide)
    · rfl
  have o2 : Hid (Pl.wOk k' h' t' m' = true) := by
    show _ = _
    cases e : Pl.wOk k' h' t' m'
    · rw [← hT.out, Pl.wTxt_no e, em] at e3; exact absurd e3 (by decide)
    · rfl
  clear em
  by_cases hST : S = T
  · have hab := Pl.wTxt_inj o1.out o2.out (by rw [hS.out, hT.out]; exact hST)
    clear o1 o2 HSP HIM HSP' HIM' hS hT
    obtain ⟨rfl, rfl, rfl, rfl⟩ := hab
    subst hST
    go_wp2
    go_ret
    exact ⟨rfl, B8.out⟩
  · have hab : Hid (¬ (k = k' ∧ h = h' ∧ t = t' ∧ m = m')) := by
      rintro ⟨rfl, rfl, rfl, rfl⟩
      exact hST (hS.out.symm.trans hT.out)
    have e5 : (S.toList == T.toList) = false := by
      rw [beq_eq_false_iff_ne]
      intro h
      rw [ByteArray.toList_eq, ByteArray.toList_eq] at h
      exact hST (WideShapes.bytes_inj h)
    clear o1 o2 HSP HIM HSP' HIM' hS hT hST
    go_wp2
    all_goals first
      | (exfalso; exact hab.out ⟨rfl, rfl, rfl, rfl⟩)
      | (exfalso; refine hab.out ?_; clear hab q0 q1 q2 q3 p0 p1 p2 p3 e1 e3 e5; simp_all; done)
      | (exfalso; refine hab.out ?_; clear hab q0 q1 q2 q3 p0 p1 p2 p3 e1 e3 e5; omega)
      | (go_ret; exact ⟨by simp [*], B8.out⟩)

end Go.Proofs.YtkeakaphafmkdaaDoor
