/- FnExactHouseNew answers true at every two numbers: at every argument HouseNew answers as its model, and its answer owns its memory. No conditions. -/
import Derived.Test.YtclcehfaoeoipaaHNew
namespace Go.Proofs.Ytclcehfaoeoipaa
open Go.ChangeShapes Go.WideShapes Go.ChangeAt Go.WideMaps Go.WideElems Go.RowKit Go.Joins

theorem made_own {w : World} {lo : Nat} {v : Value} (h : Made w lo v []) : OwnRecs w lo w.heap.size v [] := by
  obtain ⟨ps, hp, ho⟩ := h
  have : ps = [] := by simpa using hp
  subst this
  exact ho

set_option maxHeartbeats 4000000 in
theorem lawHNew_any (id room : Int) (w : World) :
    Calls Try.prog 3 #[.int .i64 id, .int .i64 room] w fun e w' => e = .returned (.bool true) ∧ Below w.heap.size w w' := by
  obtain ⟨ID, hID⟩ : ∃ x, Hid (hnX id room id = x) := ⟨_, rfl⟩
  obtain ⟨ROOM, hRO⟩ : ∃ x, Hid (hnX id room room = x) := ⟨_, rfl⟩
  obtain ⟨BB, hBB⟩ : ∃ x, Hid (hnB id room = x) := ⟨_, rfl⟩
  have HSP : Hid (∀ W, Calls Try.prog 4 #[.int .i64 id, .int .i64 room] W fun e w' => HnOut W w' e ID ROOM BB) := fun W => by
    have := specHNew_any id room W; rw [hID.out, hRO.out, hBB.out] at this; exact this
  have HIM : Hid (∀ W, Calls Try.prog 5 #[.int .i64 id, .int .i64 room] W fun e w' => HnOut W w' e ID ROOM BB) := fun W => by
    have := implHNew_any id room W; rw [hID.out, hRO.out, hBB.out] at this; exact this
  have EQ : Hid (∀ (v1 v2 : Value) (W : World), Recs W v1 [] → Recs W v2 [] → Calls Try.prog 6 #[houseV ID BB ROOM v1 0, houseV ID BB ROOM v2 0] W fun e w' => e = .returned (.bool true) ∧ Below W.heap.size W w') := fun v1 v2 W h1 h2 =>
    eqHouse_any ID BB ROOM v1 v2 [] 0 W h1 h2 (by simp [tot, pre])
  have MK : Hid (∀ (v : Value) (lo hi : Nat) (W : World), OwnRecs W lo hi v [] → Calls Try.prog 7 #[houseV ID BB ROOM v 0, .int .i64 1] W fun e w' => e = .returned (.int .i64 1) ∧ Mid lo hi W w') := fun v lo hi W h => by
    refine (markHouse_any ID BB ROOM v [] 0 1 lo hi W h (by simp [tot, pre]) (by omega) (by omega)).mono fun e w' h => ⟨?_, h.2.2⟩
    rw [h.1]; simp [kAt, pre]
  have HD : Hid (∀ (v : Value) (W : World), Recs W v [] → Calls Try.prog 8 #[houseV ID BB ROOM v 0, .int .i64 1] W fun e w' => e = .returned (.int .i64 1) ∧ Below W.heap.size W w') := fun v W h => by
    refine (heldHouse_any ID BB ROOM v [] 0 1 W (by simpa [markAll] using h) (by simp [tot, pre]) (by omega) (by omega)).mono fun e w' h => ⟨?_, h.2⟩
    rw [h.1]; simp [kAt, pre]
  clear hID hRO hBB
  go_enter Try.func3, Try.ntmps3
  go_wp2_with fail
  refine (HSP.out _).mono ?_
  rintro e w1 ⟨a1, c1, rfl, hm1, hb1⟩
  have B1 := hide_it hb1
  have V1 := hide_it hm1.recs
  clear hm1 hb1
  obtain ⟨w2, hw2⟩ : ∃ W, Hid (W = w1.alloc (.cells #[.int .i64 ID, .bool BB, .int .i64 ROOM, .slice a1 0 c1, .int .i64 0] 26)) := ⟨_, rfl⟩
  have al2 := hide_it (show Below w1.heap.size w1 w2 by rw [hw2.out]; exact alloc_below _ _)
  have B2 := hide_it (B1.out.trans (al2.out.mono B1.out.size))
  have V2 := hide_it (V1.out.later al2.out (Nat.le_refl _))
  have Z2 : Hid (Blk w2 w1.heap.size #[.int .i64 ID, .bool BB, .int .i64 ROOM, .slice a1 0 c1, .int .i64 0] 26) := by show Blk _ _ _ _; rw [hw2.out]; exact Blk.new _ _ _
  go_wp2_with fail
  rw [← hw2.out]
  refine (HIM.out _).mono ?_
  rintro e w3 ⟨a3, c3, rfl, hm3, hb3⟩
  have B3 := hide_it (B2.out.trans (hb3.mono B2.out.size))
  have V3 := hide_it hm3.recs
  have O3 := hide_it (made_own hm3)
  have Z3 := hide_it (Z2.out.after hb3)
  have VV3 := hide_it (V2.out.later hb3 (Nat.le_refl _))
  clear hm3 hb3
  obtain ⟨w4, hw4⟩ : ∃ W, Hid (W = w3.alloc (.cells #[.int .i64 ID, .bool BB, .int .i64 ROOM, .slice a3 0 c3, .int .i64 0] 26)) := ⟨_, rfl⟩
  have al4 := hide_it (show Below w3.heap.size w3 w4 by rw [hw4.out]; exact alloc_below _ _)
  have hs4 := hide_it (show w4.heap.size = w3.heap.size + 1 by rw [hw4.out]; simp)
  have B4 := hide_it (B3.out.trans (al4.out.mono B3.out.size))
  have V4 := hide_it (V3.out.later al4.out (Nat.le_refl _))
  have VV4 := hide_it (VV3.out.later al4.out (Nat.le_refl _))
  have O4 := hide_it (O3.out.below al4.out (Nat.le_refl _))
  have G4 : Hid (Blk w4 w3.heap.size #[.int .i64 ID, .bool BB, .int .i64 ROOM, .slice a3 0 c3, .int .i64 0] 26) := by show Blk _ _ _ _; rw [hw4.out]; exact Blk.new _ _ _
  have Z4 := hide_it (Z3.out.after al4.out)
  have hlt : w1.heap.size < w3.heap.size := Z3.out.lt
  obtain ⟨z0, z1, z2, z3, z4⟩ := Z3.out.cells5
  have k0 := fun x => cellAlloc z0 x
  have k1 := fun x => cellAlloc z1 x
  have k2 := fun x => cellAlloc z2 x
  have k3 := fun x => cellAlloc z3 x
  have k4 := fun x => cellAlloc z4 x
  go_wp2_with fail
  rw [← hw4.out]
  refine (EQ.out _ _ _ V4.out VV4.out).mono ?_
  rintro e w5 ⟨rfl, hb5⟩
  have B5 := hide_it (B4.out.trans (hb5.mono B4.out.size))
  have E5 := hide_it hb5
  have O5 := hide_it (O4.out.below hb5 (by have := hs4.out; omega))
  have G5 := hide_it (G4.out.after hb5)
  clear hb5 k0 k1 k2 k3 k4 z0 z1 z2 z3 z4
  obtain ⟨g0, g1, g2, g3, g4⟩ := G5.out.cells5
  have hbb : (BB != BB) = false := by simp
  have hbb2 : (BB == BB) = true := by simp
  go_wp2_with fail
  refine (MK.out _ _ _ _ O5.out).mono ?_
  rintro e w6 ⟨rfl, hM6⟩
  have hz2 : w2.heap.size = w1.heap.size + 1 := by rw [hw2.out]; simp
  have hz26 : w2.heap.size ≤ w5.heap.size := by
    have h1 := E5.out.size
    have h2 := hs4.out
    omega
  have B6 := hide_it (B5.out.trans ((hM6.below (Nat.le_refl _) hz26).mono B2.out.size))
  have G6 := hide_it (G5.out.mid hM6 (Or.inr (Nat.le_refl _)))
  have VV6 : Hid (Recs w6 (.slice a1 0 c1) []) := Or.inl ⟨rfl, a1, c1, rfl⟩
  have V6 : Hid (Recs w6 (.slice a3 0 c3) []) := Or.inl ⟨rfl, a3, c3, rfl⟩
  have Z6 := hide_it ((Z4.out.after E5.out).mid hM6 (Or.inl (by omega)))
  clear hM6 g0 g1 g2 g3 g4 hz2 hz26
  obtain ⟨g0, g1, g2, g3, g4⟩ := G6.out.cells5
  go_wp2_with fail
  refine (HD.out _ _ V6.out).mono ?_
  rintro e w7 ⟨rfl, hb7⟩
  have B7 := hide_it (B6.out.trans (hb7.mono B6.out.size))
  have G7 := hide_it (G6.out.after hb7)
  have Z7 := hide_it (Z6.out.after hb7)
  clear hb7 g0 g1 g2 g3 g4
  go_wp2_with fail
  refine (HIM.out _).mono ?_
  rintro e w8 ⟨a8, c8, rfl, hm8, hb8⟩
  have B8 := hide_it (B7.out.trans (hb8.mono B7.out.size))
  have G8 := hide_it (G7.out.after hb8)
  have Z8 := hide_it (Z7.out.after hb8)
  clear hm8 hb8
  obtain ⟨w9, hw9⟩ : ∃ W, Hid (W = w8.alloc (.cells #[.int .i64 ID, .bool BB, .int .i64 ROOM, .slice a8 0 c8, .int .i64 0] 26)) := ⟨_, rfl⟩
  have al9 := hide_it (show Below w8.heap.size w8 w9 by rw [hw9.out]; exact alloc_below _ _)
  have B9 := hide_it (B8.out.trans (al9.out.mono B8.out.size))
  have G9 := hide_it (G8.out.after al9.out)
  obtain ⟨z0, z1, z2, z3, z4⟩ := Z8.out.cells5
  have k0 := fun x => cellAlloc z0 x
  have k1 := fun x => cellAlloc z1 x
  have k2 := fun x => cellAlloc z2 x
  have k3 := fun x => cellAlloc z3 x
  have k4 := fun x => cellAlloc z4 x
  have hlt8 : w1.heap.size < w8.heap.size := Z8.out.lt
  go_wp2_with fail
  rw [← hw9.out]
  refine (EQ.out _ _ _ (Or.inl ⟨rfl, _, _, rfl⟩) (Or.inl ⟨rfl, _, _, rfl⟩)).mono ?_
  rintro e w10 ⟨rfl, hb10⟩
  have B10 := hide_it (B9.out.trans (hb10.mono B9.out.size))
  have G10 := hide_it (G9.out.after hb10)
  clear hb10 k0 k1 k2 k3 k4 z0 z1 z2 z3 z4
  obtain ⟨g0, g1, g2, g3, g4⟩ := G10.out.cells5
  go_wp2_with fail
  refine (HD.out _ _ (Or.inl ⟨rfl, _, _, rfl⟩)).mono ?_
  rintro e w11 ⟨rfl, hb11⟩
  have B11 := hide_it (B10.out.trans (hb11.mono B10.out.size))
  clear hb11 g0 g1 g2 g3 g4
  go_wp2
  go_ret
  exact ⟨rfl, B11.out⟩

set_option maxRecDepth 100000 in
theorem houseNew_lifted (os : Os) (started : os.Started) (H : Type) (enc : TypeId × Value → H) :
    ReturnsInHanded {} Try.checked os 3 .any (Rows.fnExactHouseNewSpec.pre6 enc Try.prog Try.f3 Rows.fnExactHouseNewRow.domain false) (Rows.fnExactHouseNewSpec.post enc Try.prog Try.f3 false true false false) := by
  refine returnsInHanded_of_change (C := Try.checked) own started (by kernel_rfl) Try.func3
    (ChangeSpec.witness6 (enc := enc) (C := Try.checked) false ⟨#[], #[.int .i64 0, .int .i64 0], []⟩ 8 (by kernel_rfl) (by kernel_rfl) (by kernel_rfl) (by kernel_rfl)) ?_
  intro W base args ds gs before hval0 hW hcnd _
  have hval : ∀ (j : Nat) t v, Try.f3.params[j]? = some t → args[j]? = some v → Value.okWide Try.prog W .any base t v := hval0
  have hW' := hW
  obtain ⟨p, q, hA0, hV, rfl, hfz, hnd⟩ := hW
  have hA : DataW.TrodAll enc Try.prog W 0 (fun _ => true) true Try.f3.params.toList args.toList ds p := hA0
  rw [Try.params3] at hA hval
  obtain ⟨v0, v1, d0, d1, p0, p1, rfl, rfl, rfl, h0, h1⟩ := trodAll_two hA
  obtain ⟨rfl, rfl⟩ := trodVars_none hV
  clear hA0 hval0
  obtain ⟨a, rfl, rfl, rfl, wa⟩ := open_int Try.underlying3 (hval 0 3 v0 rfl rfl) h0
  obtain ⟨b, rfl, rfl, rfl, wb⟩ := open_int Try.underlying3 (hval 1 3 v1 rfl rfl) h1
  refine (lawHNew_any a b W).mono fun e W' ⟨he, hb⟩ => ?_
  subst he
  refine ⟨_, rfl, _, _, _, [], [] ++ [], [], hW', ?_, ?_, ?_, hb.frame _, fun h => by cases h⟩
  · exact trodAll_mk1 (shut_bool Try.underlying4 true)
  · exact trodAll_mk2 (shut_int Try.underlying3 wa) (shut_int Try.underlying3 wb)
  · exact rfl

theorem houseNew_said : Rows.FnExactHouseNewSaid :=
  OpenClaim.holds_of_wide 3 Try.f3 rfl rfl rfl rfl rfl rfl rfl ⟨rfl, rfl, rfl, rfl, rfl⟩ rfl rfl rfl rfl rfl (by kernel_rfl) Try.func3 (by kernel_rfl)
    (of_decide_eq_true (by kernel_rfl)) (by unfold Func.isWrapper; first | (rw [if_pos (by decide +kernel)]; kernel_rfl) | (rw [if_neg (by decide +kernel)]; exact ⟨rfl, rfl⟩))
    (fun os started H enc _ => houseNew_lifted os started H enc)
#print axioms houseNew_said

end Go.Proofs.Ytclcehfaoeoipaa
