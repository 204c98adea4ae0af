/- The law FnWordCut, walked: whatever the code, it answers true, and nothing that was there before has turned. For codes of at most 1048576 bytes, in a world in which the variable holds the names of the kinds, and strconv's two sentinels some errors. -/
import Derived.Test.YtleinjblokepmaaDoorWRBack
namespace Go.Proofs.YtleinjblokepmaaDoor
open Go.RowKit

namespace Pl
theorem ends_all : ∀ k : Fin 7, ∀ h : Fin 3, ∀ t : Fin 6, ∀ m : Fin 3, ((wFull (k.val + 1) (h.val + 1) (t.val + 1) (if k.val = 0 then m.val + 1 else 0)).data.toList.getLast? ≠ some 32) ∧ (wFull (k.val + 1) (h.val + 1) (t.val + 1) (if k.val = 0 then m.val + 1 else 0)).data.toList.head? ≠ some 32 := by
  decide +kernel
/-- No word's text begins, or ends, with a blank. -/
theorem ends_not {k h t m : Int} (e : wOk k h t m = true) : (wTxt k h t m).data.toList.getLast? ≠ some 32 ∧ (wTxt k h t m).data.toList.head? ≠ some 32 := by
  rw [wTxt_yes e]
  exact all_words (p := fun k h t m => (wFull k h t m).data.toList.getLast? ≠ some 32 ∧ (wFull k h t m).data.toList.head? ≠ some 32) (fun k h t m => by have := ends_all k h t m; split at this <;> simp_all) e
theorem RdW.behind {s : ByteArray} {k h t m : Int} {b : Bool} (x : RdW (s ++ ⟨#[32]⟩) k h t m b) : b = false := by
  rcases x with ⟨_, x1, x2⟩ | ⟨h, _⟩
  · exfalso
    have := (ends_not x1).1
    rw [x2] at this
    simp at this
  · exact h
theorem RdW.ahead {s : ByteArray} {k h t m : Int} {b : Bool} (x : RdW (⟨#[32]⟩ ++ s) k h t m b) : b = false := by
  rcases x with ⟨_, x1, x2⟩ | ⟨h, _⟩
  · exfalso
    have := (ends_not x1).2
    rw [x2] at this
    simp at this
  · exact h
end Pl

set_option maxHeartbeats 4000000 in
theorem lawCut_small (vc : Value) (nc : Nat) (w : World) (hc : CodeAt w vc nc) (hcn : nc ≤ 1048576) (hN : Names8 w) (hE : ErrV w) :
    Calls Tryd.prog 5 #[vc] w fun e w' => e = .returned (.bool true) ∧ Below w.heap.size w w' := by
  have HD := hidden (drawWordText_any vc nc w hc hcn)
  have HN := hidden (fun W (hb : Below w.heap.size w W) => (hN.later hb (Nat.le_refl _)).at_)
  have HR : Hid (∀ s W, Below w.heap.size w W → Calls Tryd.prog 10 #[.string s] W fun e w' => RdO s e ∧ Below W.heap.size W w') := fun s W hb => implRead_any s W (hN.later hb (Nat.le_refl _)) (hE.later hb (Nat.le_refl _))
  obtain ⟨ac, cc, rfl, _⟩ := hc
  have hci : (nc : Int) ≤ 1048576 := by omega
  clear hcn hN hE
  go_enter Tryd.func5, Tryd.ntmps5
  go_wp2_with fail
  refine HD.out.mono ?_
  rintro e w1 ⟨k, h, t, m, rfl, -, hb1⟩
  have B1 := hidden hb1
  clear hb1
  obtain ⟨w2, hw2⟩ : ∃ W, Hid (W = w1.alloc (.cells #[.int .i64 k, .int .i64 h, .int .i64 t, .int .i64 m] 24)) := ⟨_, rfl⟩
  have B2 : Hid (Below w.heap.size w w2) := by show Below _ _ _; rw [hw2.out]; exact B1.out.alloc (B1.out.size) _
  have Q2 : Hid (Quad w2 w1.heap.size (.int .i64 k) (.int .i64 h) (.int .i64 t) (.int .i64 m)) := by show Quad _ _ _ _ _ _; rw [hw2.out]; exact Quad.new _ _ _ _ _ _
  obtain ⟨T, hT⟩ : ∃ x, Hid (Pl.wTxt k h t m = x) := ⟨_, rfl⟩
  have HSP := hidden (specText_any k h t m)
  have HIM := hidden (implText_any k h t m)
  rw [hT.out] at HSP HIM
  go_wp2_with fail
  rw [← hw2.out]
  refine (HIM.out _ (HN.out _ B2.out)).mono ?_
  rintro e w3 ⟨rfl, hb3⟩
  have B3 := hidden (B2.out.trans (hb3.mono B2.out.size))
  have Q3 := hidden (Q2.out.later hb3 (Nat.le_refl _))
  clear hb3
  obtain ⟨q0, q1, q2, q3⟩ := Q3.out
  go_wp2_with fail
  refine (HSP.out _).mono ?_
  rintro e w4 ⟨rfl, hb4⟩
  have B4 := hidden (B3.out.trans (hb4.mono B3.out.size))
  have Q4 := hidden (Q3.out.later hb4 (Nat.le_refl _))
  clear hb4 q0 q1 q2 q3
  obtain ⟨q0, q1, q2, q3⟩ := Q4.out
  cases e1 : Pl.wOk k h t m
  · obtain rfl : T = ⟨#[]⟩ := by rw [← hT.out, Pl.wTxt_no e1]
    have em := emptyS
    clear e1
    go_wp2_with fail
    refine (HSP.out _).mono ?_
    rintro e w5 ⟨rfl, hb5⟩
    have B5 := hidden (B4.out.trans (hb5.mono B4.out.size))
    clear hb5 q0 q1 q2 q3
    go_wp2
    go_ret
    exact ⟨rfl, B5.out⟩
  · have hne : T ≠ ⟨#[]⟩ := by rw [← hT.out]; exact Pl.wTxt_empty e1
    have em := full_ne hne
    have hsz : 8 ≤ T.size ∧ T.size ≤ 10 := by rw [← hT.out]; exact Pl.wTxt_size e1
    have E1 := hidden e1
    clear hne e1
    obtain ⟨n, hn⟩ : ∃ n : Nat, T.size = n + 1 := ⟨T.size - 1, by omega⟩
    have hw1 : IntKind.i64.wrap ((n : Int) + 1 - 1) = (n : Int) := by simp [IntKind.wrap, IntKind.bits, IntKind.signed]; omega
    have hn10 : n ≤ 9 := by omega
    go_wp2_with fail
    refine (HR.out _ _ B4.out).mono ?_
    rintro e w5 ⟨⟨k1, h1, t1, m1, b1, rfl, hr1⟩, hb5⟩
    have B5 := hidden (B4.out.trans (hb5.mono B4.out.size))
    have Q5 := hidden (Q4.out.later hb5 (Nat.le_refl _))
    have R1 := hidden hr1
    clear hb5 hr1 q0 q1 q2 q3
    have hab : Hid (b1 = true → ¬ (k1 = k ∧ h1 = h ∧ t1 = t ∧ m1 = m)) := fun hb he => by
      obtain ⟨rfl, rfl, rfl, rfl⟩ := he
      rcases R1.out with ⟨_, _, x2⟩ | ⟨x, _⟩
      · have h2 := congrArg ByteArray.size (hT.out.symm.trans x2)
        simp at h2
        omega
      · rw [hb] at x; cases x
    clear R1 hT E1
    obtain ⟨w6, hw6⟩ : ∃ W, Hid (W = w5.alloc (.cells #[.int .i64 k1, .int .i64 h1, .int .i64 t1, .int .i64 m1] 24)) := ⟨_, rfl⟩
    have B6 : Hid (Below w.heap.size w w6) := by show Below _ _ _; rw [hw6.out]; exact B5.out.alloc (B5.out.size) _
    have Q6 : Hid (Quad w6 w1.heap.size (.int .i64 k) (.int .i64 h) (.int .i64 t) (.int .i64 m)) := by show Quad _ _ _ _ _ _; rw [hw6.out]; exact Q5.out.later (alloc_below _ _) (Nat.le_refl _)
    have P6 : Hid (Quad w6 w5.heap.size (.int .i64 k1) (.int .i64 h1) (.int .i64 t1) (.int .i64 m1)) := by show Quad _ _ _ _ _ _; rw [hw6.out]; exact Quad.new _ _ _ _ _ _
    have hz1 : ¬ 9223372036854775807 < n + 1 + 1 := by omega
    have hz2 : ¬ 9223372036854775807 < 1 + (n + 1) := by omega
    go_wp2_with fail
    rw [← hw6.out]
    refine (HR.out _ _ B6.out).mono ?_
    rintro e w7 ⟨⟨k2, h2, t2, m2, b2, rfl, hr2⟩, hb7⟩
    obtain rfl : b2 = false := hr2.behind
    have B7 := hidden (B6.out.trans (hb7.mono B6.out.size))
    have Q7 := hidden (Q6.out.later hb7 (Nat.le_refl _))
    have P7 := hidden (P6.out.later hb7 (Nat.le_refl _))
    clear hb7 hr2
    obtain ⟨w8, hw8⟩ : ∃ W, Hid (W = w7.alloc (.cells #[.int .i64 k2, .int .i64 h2, .int .i64 t2, .int .i64 m2] 24)) := ⟨_, rfl⟩
    have B8 : Hid (Below w.heap.size w w8) := by show Below _ _ _; rw [hw8.out]; exact B7.out.alloc (B7.out.size) _
    have Q8 : Hid (Quad w8 w1.heap.size (.int .i64 k) (.int .i64 h) (.int .i64 t) (.int .i64 m)) := by show Quad _ _ _ _ _ _; rw [hw8.out]; exact Q7.out.later (alloc_below _ _) (Nat.le_refl _)
    have P8 : Hid (Quad w8 w5.heap.size (.int .i64 k1) (.int .i64 h1) (.int .i64 t1) (.int .i64 m1)) := by show Quad _ _ _ _ _ _; rw [hw8.out]; exact P7.out.later (alloc_below _ _) (Nat.le_refl _)
    go_wp2_with fail
    rw [← hw8.out]
    refine (HR.out _ _ B8.out).mono ?_
    rintro e w9 ⟨⟨k3, h3, t3, m3, b3, rfl, hr3⟩, hb9⟩
    obtain rfl : b3 = false := hr3.ahead
    have B9 := hidden (B8.out.trans (hb9.mono B8.out.size))
    have Q9 := hidden (Q8.out.later hb9 (Nat.le_refl _))
    have P9 := hidden (P8.out.later hb9 (Nat.le_refl _))
    clear hb9 hr3
    obtain ⟨w10, hw10⟩ : ∃ W, Hid (W = w9.alloc (.cells #[.int .i64 k3, .int .i64 h3, .int .i64 t3, .int .i64 m3] 24)) := ⟨_, rfl⟩
    have B10 : Hid (Below w.heap.size w w10) := by show Below _ _ _; rw [hw10.out]; exact B9.out.alloc (B9.out.size) _
    obtain ⟨q0, q1, q2, q3⟩ := Q9.out
    obtain ⟨p0, p1, p2, p3⟩ := P9.out
    have q0b := fun o => cellA2 q0 o
    have q1b := fun o => cellA2 q1 o
    have q2b := fun o => cellA2 q2 o
    have q3b := fun o => cellA2 q3 o
    have p0b := fun o => cellA2 p0 o
    have p1b := fun o => cellA2 p1 o
    have p2b := fun o => cellA2 p2 o
    have p3b := fun o => cellA2 p3 o
    cases b1
    · clear hab
      go_wp2
      go_ret
      exact ⟨rfl, by rw [← hw10.out]; exact B10.out⟩
    · have hab2 := hidden (hab.out rfl)
      clear hab
      go_wp2
      all_goals first
        | (exfalso; exact hab2.out ⟨rfl, rfl, rfl, rfl⟩)
        | (exfalso; refine hab2.out ?_; clear hab2 q0 q1 q2 q3 p0 p1 p2 p3; omega)
        | (go_ret; exact ⟨by simp [*], by rw [← hw10.out]; exact B10.out⟩)

end Go.Proofs.YtleinjblokepmaaDoor
