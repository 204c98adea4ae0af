/- The law FnExactWordText, walked: at every word it answers true, and nothing that was there before has turned. In a world in which the variable holds the names of the kinds. -/
import Derived.Test.YtkeakaphafmkdaaDoorWSText
namespace Go.Proofs.YtkeakaphafmkdaaDoor
open Go.RowKit

set_option maxHeartbeats 2000000 in
theorem lawText_any (k h t m : Int) (w : World) (hN : NamesAt w) :
    Calls Tryd.prog 3 #[wordV k h t m] w fun e w' => e = .returned (.bool true) ∧ Below w.heap.size w w' := by
  have Q0 := hidden (Quad.new w (.int .i64 k) (.int .i64 h) (.int .i64 t) (.int .i64 m) 23)
  obtain ⟨w0, hw0⟩ : ∃ W, Hid (W = w.alloc (.cells #[.int .i64 k, .int .i64 h, .int .i64 t, .int .i64 m] 23)) := ⟨_, rfl⟩
  have B0 : Hid (Below w.heap.size w w0) := by show Below _ _ _; rw [hw0.out]; exact (Below.refl _ _).alloc (Nat.le_refl _) _
  rw [← hw0.out] at Q0
  have HN := hidden hN
  clear hN
  obtain ⟨S, hS⟩ : ∃ x, Hid (Pl.wTxt k h t m = x) := ⟨_, rfl⟩
  have HSP := hidden (specText_any k h t m)
  have HIM := hidden (implText_any k h t m)
  rw [hS.out] at HSP HIM
  clear hS
  go_enter Tryd.func3, Tryd.ntmps3
  go_wp2_with fail
  rw [← hw0.out]
  refine (toWord_any k h t m _).mono ?_
  rintro e w1 ⟨rfl, hb1⟩
  have B1 := hidden (B0.out.trans (hb1.mono B0.out.size))
  have Q1 := hidden (Q0.out.later hb1 (Nat.le_refl _))
  clear hb1
  go_wp2_with fail
  refine (HSP.out _).mono ?_
  rintro e w2 ⟨rfl, hb2⟩
  have B2 := hidden (B1.out.trans (hb2.mono B1.out.size))
  obtain ⟨q20, q21, q22, q23⟩ := Q1.out.later hb2 (Nat.le_refl _)
  clear hb2
  go_wp2_with fail
  refine (toWord_any k h t m _).mono ?_
  rintro e w3 ⟨rfl, hb3⟩
  have B3 := hidden (B2.out.trans (hb3.mono B2.out.size))
  clear hb3 q20 q21 q22 q23
  go_wp2_with fail
  refine (HIM.out _ (HN.out.later B3.out (Nat.le_refl _))).mono ?_
  rintro e w4 ⟨rfl, hb4⟩
  have B4 := hidden (B3.out.trans (hb4.mono B3.out.size))
  clear hb4
  go_wp2
  go_ret
  exact ⟨rfl, B4.out⟩

end Go.Proofs.YtkeakaphafmkdaaDoor
