/- FnExactWordOk answers true at every word, and the word reads afterwards as it read before: at every argument WordOk answers as its model. No conditions. -/
import Derived.Test.YtkeakaphafmkdaaWOpen
namespace Go.Proofs.Ytkeakaphafmkdaa
open Go.ChangeShapes Go.WideShapes Go.ChangeAt Go.WideMaps Go.WideElems Go.RowKit Go.Joins

theorem own : ownKnob Try.prog.godebug = none := by kernel_rfl
theorem laidOut : laidOutB Try.prog = true := by kernel_rfl

set_option maxHeartbeats 1000000 in
theorem lawWordOk_any (k h t m : Int) (w : World) :
    Calls Try.prog 3 #[wordV k h t m] w fun e w' => e = .returned (.bool true) ∧ Below w.heap.size w w' := by
  have Q0 := hidden (Quad.new w (.int .i64 k) (.int .i64 h) (.int .i64 t) (.int .i64 m) 23)
  obtain ⟨w0, hw0⟩ : ∃ W, Hid (W = w.alloc (.cells #[.int .i64 k, .int .i64 h, .int .i64 t, .int .i64 m] 23)) := ⟨_, rfl⟩
  have B0 : Hid (Below w.heap.size w w0) := by show Below _ _ _; rw [hw0.out]; exact (Below.refl _ _).alloc (Nat.le_refl _) _
  rw [← hw0.out] at Q0
  go_enter Try.func3, Try.ntmps3
  go_wp2_with fail
  rw [← hw0.out]
  refine (toWord_any k h t m _).mono ?_
  rintro e w1 ⟨rfl, hb1⟩
  have B1 := hidden (B0.out.trans (hb1.mono B0.out.size))
  have Q1 := hidden (Q0.out.later hb1 (Nat.le_refl _))
  clear hb1
  go_wp2_with fail
  refine (specWordOk_any k h t m _).mono ?_
  rintro e w2 ⟨rfl, hb2⟩
  have B2 := hidden (B1.out.trans (hb2.mono B1.out.size))
  obtain ⟨q20, q21, q22, q23⟩ := Q1.out.later hb2 (Nat.le_refl _)
  clear hb2
  go_wp2_with fail
  refine (toWord_any k h t m _).mono ?_
  rintro e w3 ⟨rfl, hb3⟩
  have B3 := hidden (B2.out.trans (hb3.mono B2.out.size))
  clear hb3 q20 q21 q22 q23
  go_wp2_with fail
  refine (implWordOk_any k h t m _).mono ?_
  rintro e w4 ⟨rfl, hb4⟩
  have B4 := hidden (B3.out.trans (hb4.mono B3.out.size))
  clear hb4
  obtain ⟨bb, hbb⟩ : ∃ x, Pl.wOk k h t m = x := ⟨_, rfl⟩
  rw [hbb]
  clear hbb
  cases bb
  all_goals
    go_wp2
    go_ret
    exact ⟨rfl, B4.out⟩

set_option maxRecDepth 100000 in
theorem wordOk_lifted (os : Os) (started : os.Started) (H : Type) (enc : TypeId × Value → H) :
    ReturnsInHanded {} Try.checked os 3 .any (Rows.fnExactWordOkSpec.pre6 enc Try.prog Try.f3 Rows.fnExactWordOkRow.domain false) (Rows.fnExactWordOkSpec.post enc Try.prog Try.f3 false true false false) := by
  refine returnsInHanded_of_change (C := Try.checked) own started (by kernel_rfl) Try.func3
    (ChangeSpec.witness6 (enc := enc) (C := Try.checked) false ⟨#[], #[wordV 0 0 0 0], []⟩ 8 (by kernel_rfl) (by kernel_rfl) (by kernel_rfl) (by kernel_rfl)) ?_
  intro W base args ds gs before hval0 hW hcnd _
  have hval : ∀ (j : Nat) t v, Try.f3.params[j]? = some t → args[j]? = some v → Value.okWide Try.prog W .any base t v := hval0
  have hW' := hW
  obtain ⟨p, q, hA0, hV, rfl, hfz, hnd⟩ := hW
  have hA : DataW.TrodAll enc Try.prog W 0 (fun _ => true) true Try.f3.params.toList args.toList ds p := hA0
  rw [Try.params3] at hA hval
  obtain ⟨v0, d0, rfl, rfl, h0⟩ := trodAll_one hA
  obtain ⟨rfl, rfl⟩ := trodVars_none hV
  clear hA0 hval0
  obtain ⟨k, h, t, m, rfl⟩ := open_word (hval 0 23 v0 rfl rfl) h0
  refine (lawWordOk_any k h t m W).mono fun e W' ⟨he, hb⟩ => ?_
  subst he
  have hlt : ∀ x ∈ p, x.block < W.heap.size := fun x hx => hW'.lt x (by simp [hx])
  refine ⟨_, rfl, _, _, _, [], p, [], hW', ?_, ?_, ?_, hb.frame _, fun h => by cases h⟩
  · exact trodAll_mk1 (shut_bool Try.underlying4 true)
  · exact trodAll_mk1 (Below.trod laidOut (by kernel_rfl) (of_decide_eq_true (by kernel_rfl)) h0 hb hlt)
  · exact rfl

theorem wordOk_said : Rows.FnExactWordOkSaid :=
  OpenClaim.holds_of_wide 3 Try.f3 rfl rfl rfl rfl rfl rfl rfl ⟨rfl, rfl, rfl, rfl, rfl⟩ rfl rfl rfl rfl rfl (by kernel_rfl) Try.func3 (by kernel_rfl)
    (of_decide_eq_true (by kernel_rfl)) (by unfold Func.isWrapper; first | (rw [if_pos (by decide +kernel)]; kernel_rfl) | (rw [if_neg (by decide +kernel)]; exact ⟨rfl, rfl⟩))
    (fun os started H enc _ => wordOk_lifted os started H enc)
#print axioms wordOk_said

end Go.Proofs.Ytkeakaphafmkdaa
