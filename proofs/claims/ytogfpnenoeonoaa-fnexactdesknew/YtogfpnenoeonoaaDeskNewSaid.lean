/- FnExactDeskNew answers true: DeskNew answers as its model, and its answer owns its memory. No conditions. -/
import Derived.Test.YtogfpnenoeonoaaRows
import Derived.Test.YtogfpnenoeonoaaDkTo
import Derived.ProofKit
import Derived.Lib.SmallJoins
namespace Go.Proofs.Ytogfpnenoeonoaa
open Go.ChangeShapes Go.WideShapes Go.ChangeAt Go.WideMaps Go.WideElems Go.RowKit Go.Joins

theorem own : ownKnob Try.prog.godebug = none := by kernel_rfl
theorem laidOut : laidOutB Try.prog = true := by kernel_rfl

theorem dkNil (w : World) (a b : Option Addr) : DkAt w (.slice a 0 0) (.slice b 0 0) [] [] :=
  ⟨Or.inl ⟨rfl, a, 0, rfl⟩, Or.inl ⟨rfl, b, 0, rfl, fun _ => rfl⟩⟩
theorem dkOwnNil (w : World) : DkOwn w w.heap.size w.heap.size (.slice none 0 0) (.slice none 0 0) [] [] := by
  obtain ⟨ps, hp, ho⟩ := Made.none w w.heap.size
  have : ps = [] := by simpa using hp
  subst this
  exact ⟨Nat.le_refl _, w.heap.size, w.heap.size, Nat.le_refl _, Nat.le_refl _, ho, World.ownsRow_nil _ _ _ _, fun g hg => by simp [Value.ownBlock] at hg⟩

theorem implDNew_any (w : World) : Calls Try.prog 5 #[] w fun e w' => e = .returned (deskV true (.slice none 0 0) 0 (.slice none 0 0)) ∧ Below w.heap.size w w' := by
  go_enter Try.func5, Try.ntmps5
  go_wp2
  refine bodyPost_ret (v := deskV true (.slice none 0 0) 0 (.slice none 0 0)) (by simp [results, Try.results5, go_sem]) rfl ⟨rfl, ?_⟩
  first | exact alloc_below _ _ | (repeat (refine Below.setCell ?_ (by simp) _)); exact alloc_below _ _

theorem specDNew_any (w : World) : Calls Try.prog 4 #[] w fun e w' => ∃ g h, e = .returned (deskV true (.slice (some g) 0 0) 0 (.slice (some h) 0 0)) ∧ Below w.heap.size w w' := by
  go_enter Try.func4, Try.ntmps4
  go_wp2
  refine bodyPost_ret (v := deskV true (.slice (some ⟨w.heap.size + 1, 0, none⟩) 0 0) 0 (.slice (some ⟨w.heap.size + 1 + 1, 0, none⟩) 0 0)) (by simp [results, Try.results4, go_sem]) rfl ⟨_, _, rfl, ?_⟩
  first | exact below3 w _ _ _ | ((repeat (refine Below.setCell ?_ (by simp) _)); exact below3 w _ _ _)

set_option maxHeartbeats 4000000 in
theorem lawDNew_any (w : World) : Calls Try.prog 3 #[] w fun e w' => e = .returned (.bool true) ∧ Below w.heap.size w w' := by
  have EQ : Hid (∀ (a b c d : Option Addr) (W : World), Calls Try.prog 6 #[deskV true (.slice a 0 0) 0 (.slice b 0 0), deskV true (.slice c 0 0) 0 (.slice d 0 0)] W fun e w' => e = .returned (.bool true) ∧ Below W.heap.size W w') := fun a b c d W =>
    eqDesk_any true _ _ _ _ [] 0 [] W (dkNil W a b) (dkNil W c d) (by simp [tot, pre]) (by simp)
  have MK : Hid (∀ W, Calls Try.prog 7 #[deskV true (.slice none 0 0) 0 (.slice none 0 0), .int .i64 1] W fun e w' => e = .returned (.int .i64 1) ∧ Below W.heap.size W w') := fun W => by
    refine (markDesk_any true _ _ [] 0 [] 1 _ _ W (dkOwnNil W) (by simp [tot, pre]) (by simp) (by omega) (by omega)).mono fun e w' h => ⟨?_, h.2.2.below (Nat.le_refl _) (Nat.le_refl _)⟩
    rw [h.1]; simp [kDk, kAt, pre]
  have HD : Hid (∀ W, Calls Try.prog 8 #[deskV true (.slice none 0 0) 0 (.slice none 0 0), .int .i64 1] W fun e w' => e = .returned (.int .i64 1) ∧ Below W.heap.size W w') := fun W => by
    refine (heldDesk_any true _ _ [] 0 0 1 W (by simpa [markAll, markW] using dkNil W none none) (by simp [tot, pre]) (by omega) (by omega) (by omega)).mono fun e w' h => ⟨?_, h.2⟩
    rw [h.1]; simp [kDk, kAt, pre]
  go_enter Try.func3, Try.ntmps3
  go_wp2_with fail
  refine (specDNew_any w).mono ?_
  rintro e w1 ⟨g, h, rfl, hb1⟩
  have B1 := hide_it hb1
  clear hb1
  obtain ⟨w2, hw2⟩ : ∃ W, Hid (W = w1.alloc (.cells #[.bool true, .slice (some g) 0 0, .int .i64 0, .slice (some h) 0 0] 27)) := ⟨_, rfl⟩
  have al2 := hide_it (show Below w1.heap.size w1 w2 by rw [hw2.out]; exact alloc_below _ _)
  have B2 := hide_it (B1.out.trans (al2.out.mono B1.out.size))
  have Z2 : Hid (Blk w2 w1.heap.size #[.bool true, .slice (some g) 0 0, .int .i64 0, .slice (some h) 0 0] 27) := by show Blk _ _ _ _; rw [hw2.out]; exact Blk.new _ _ _
  go_wp2_with fail
  rw [← hw2.out]
  refine (implDNew_any w2).mono ?_
  rintro e w3 ⟨rfl, hb3⟩
  have B3 := hide_it (B2.out.trans (hb3.mono B2.out.size))
  have Z3 := hide_it (Z2.out.after hb3)
  clear hb3
  obtain ⟨w4, hw4⟩ : ∃ W, Hid (W = w3.alloc (.cells #[.bool true, .slice none 0 0, .int .i64 0, .slice none 0 0] 27)) := ⟨_, rfl⟩
  have al4 := hide_it (show Below w3.heap.size w3 w4 by rw [hw4.out]; exact alloc_below _ _)
  have B4 := hide_it (B3.out.trans (al4.out.mono B3.out.size))
  have G4 : Hid (Blk w4 w3.heap.size #[.bool true, .slice none 0 0, .int .i64 0, .slice none 0 0] 27) := by show Blk _ _ _ _; rw [hw4.out]; exact Blk.new _ _ _
  have Z4 := hide_it (Z3.out.after al4.out)
  have hlt : w1.heap.size < w3.heap.size := Z3.out.lt
  obtain ⟨z0, z1, z2, z3⟩ := Z3.out.cells4
  have k0 := fun x => cellAlloc z0 x
  have k1 := fun x => cellAlloc z1 x
  have k2 := fun x => cellAlloc z2 x
  have k3 := fun x => cellAlloc z3 x
  go_wp2_with fail
  rw [← hw4.out]
  refine (EQ.out _ _ _ _ _).mono ?_
  rintro e w5 ⟨rfl, hb5⟩
  have B5 := hide_it (B4.out.trans (hb5.mono B4.out.size))
  have G5 := hide_it (G4.out.after hb5)
  have Z5 := hide_it (Z4.out.after hb5)
  clear hb5 k0 k1 k2 k3 z0 z1 z2 z3
  obtain ⟨g0, g1, g2, g3⟩ := G5.out.cells4
  go_wp2_with fail
  refine (MK.out _).mono ?_
  rintro e w6 ⟨rfl, hb6⟩
  have B6 := hide_it (B5.out.trans (hb6.mono B5.out.size))
  have G6 := hide_it (G5.out.after hb6)
  have Z6 := hide_it (Z5.out.after hb6)
  clear hb6 g0 g1 g2 g3
  obtain ⟨g0, g1, g2, g3⟩ := G6.out.cells4
  go_wp2_with fail
  refine (HD.out _).mono ?_
  rintro e w7 ⟨rfl, hb7⟩
  have B7 := hide_it (B6.out.trans (hb7.mono B6.out.size))
  have G7 := hide_it (G6.out.after hb7)
  have Z7 := hide_it (Z6.out.after hb7)
  clear hb7 g0 g1 g2 g3
  go_wp2_with fail
  refine (implDNew_any w7).mono ?_
  rintro e w8 ⟨rfl, hb8⟩
  have B8 := hide_it (B7.out.trans (hb8.mono B7.out.size))
  have G8 := hide_it (G7.out.after hb8)
  have Z8 := hide_it (Z7.out.after hb8)
  clear hb8
  obtain ⟨w9, hw9⟩ : ∃ W, Hid (W = w8.alloc (.cells #[.bool true, .slice none 0 0, .int .i64 0, .slice none 0 0] 27)) := ⟨_, rfl⟩
  have al9 := hide_it (show Below w8.heap.size w8 w9 by rw [hw9.out]; exact alloc_below _ _)
  have B9 := hide_it (B8.out.trans (al9.out.mono B8.out.size))
  have G9 := hide_it (G8.out.after al9.out)
  have hlt8 : w1.heap.size < w8.heap.size := Z8.out.lt
  obtain ⟨z0, z1, z2, z3⟩ := Z8.out.cells4
  have k0 := fun x => cellAlloc z0 x
  have k1 := fun x => cellAlloc z1 x
  have k2 := fun x => cellAlloc z2 x
  have k3 := fun x => cellAlloc z3 x
  go_wp2_with fail
  rw [← hw9.out]
  refine (EQ.out _ _ _ _ _).mono ?_
  rintro e w10 ⟨rfl, hb10⟩
  have B10 := hide_it (B9.out.trans (hb10.mono B9.out.size))
  have G10 := hide_it (G9.out.after hb10)
  clear hb10 k0 k1 k2 k3 z0 z1 z2 z3
  obtain ⟨g0, g1, g2, g3⟩ := G10.out.cells4
  go_wp2_with fail
  refine (HD.out _).mono ?_
  rintro e w11 ⟨rfl, hb11⟩
  have B11 := hide_it (B10.out.trans (hb11.mono B10.out.size))
  clear hb11 g0 g1 g2 g3
  go_wp2
  go_ret
  exact ⟨rfl, B11.out⟩

set_option maxRecDepth 100000 in
theorem deskNew_lifted (os : Os) (started : os.Started) (H : Type) (enc : TypeId × Value → H) :
    ReturnsInHanded {} Try.checked os 3 .any (Rows.fnExactDeskNewSpec.pre6 enc Try.prog Try.f3 Rows.fnExactDeskNewRow.domain false) (Rows.fnExactDeskNewSpec.post enc Try.prog Try.f3 false true false false) := by
  refine returnsInHanded_of_change (C := Try.checked) own started (by kernel_rfl) Try.func3
    (ChangeSpec.witness6 (enc := enc) (C := Try.checked) false ⟨#[], #[], []⟩ 8 (by kernel_rfl) (by kernel_rfl) (by kernel_rfl) (by kernel_rfl)) ?_
  intro W base args ds gs before hval0 hW hcnd _
  have hW' := hW
  obtain ⟨p, q, hA0, hV, rfl, hfz, hnd⟩ := hW
  have hA : DataW.TrodAll enc Try.prog W 0 (fun _ => true) true Try.f3.params.toList args.toList ds p := hA0
  rw [Try.params3] at hA
  obtain ⟨rfl, rfl, rfl⟩ := trodAll_none hA
  obtain ⟨rfl, rfl⟩ := trodVars_none hV
  clear hA0 hval0
  refine (lawDNew_any W).mono fun e W' ⟨he, hb⟩ => ?_
  subst he
  refine ⟨_, rfl, _, _, _, [], [], [], hW', ?_, ?_, ?_, hb.frame _, fun h => by cases h⟩
  · exact trodAll_mk1 (shut_bool Try.underlying4 true)
  · exact trodAll_mk0
  · exact rfl

theorem deskNew_said : Rows.FnExactDeskNewSaid :=
  OpenClaim.holds_of_wide 3 Try.f3 rfl rfl rfl rfl rfl rfl rfl ⟨rfl, rfl, rfl, rfl, rfl⟩ rfl rfl rfl rfl rfl (by kernel_rfl) Try.func3 (by kernel_rfl)
    (of_decide_eq_true (by kernel_rfl)) (by unfold Func.isWrapper; first | (rw [if_pos (by decide +kernel)]; kernel_rfl) | (rw [if_neg (by decide +kernel)]; exact ⟨rfl, rfl⟩))
    (fun os started H enc _ => deskNew_lifted os started H enc)
#print axioms deskNew_said

end Go.Proofs.Ytogfpnenoeonoaa
