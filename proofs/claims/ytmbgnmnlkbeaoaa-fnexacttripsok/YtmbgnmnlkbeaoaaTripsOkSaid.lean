/- FnExactTripsOk answers true at every list of trips, and the list reads afterwards as it read before: at every argument TripsOk answers as its model. No conditions. -/
import Derived.Test.YtmbgnmnlkbeaoaaTOpen
import Derived.Test.YtmbgnmnlkbeaoaaTOk
namespace Go.Proofs.Ytmbgnmnlkbeaoaa
open Go.ChangeShapes Go.WideShapes Go.ChangeAt Go.WideMaps Go.WideElems Go.RowKit Go.Joins

theorem own : ownKnob Try.prog.godebug = none := by kernel_rfl
theorem laidOut : laidOutB Try.prog = true := by kernel_rfl

set_option maxHeartbeats 1000000 in
theorem lawTOk_any (v : Value) (rs : List T.R) (w : World) (hv : T.Recs w v rs) (hm : (rs.length : Int) ≤ 9223372036854775807) (hms : ∀ r ∈ rs, (r.1.length : Int) ≤ 9223372036854775807) :
    Calls Try.prog 3 #[v] w fun e w' => e = .returned (.bool true) ∧ Below w.heap.size w w' := by
  have HZ := T.szRecs_any v rs 1048576 w hv hm hms (by omega) (by omega)
  have HV : Hid (∀ W, Below w.heap.size w W → T.Recs W v rs) := fun W h => hv.later h (Nat.le_refl _)
  obtain ⟨ao, cap, rfl⟩ := hv.shape
  clear hv
  by_cases hl : ¬ T.tot rs ≤ 1048576
  · have HE : leftOf 1048576 (T.tot rs) = -1 := leftOf_neg (by omega)
    rw [HE] at HZ
    have HZ' := hide_it HZ
    clear HE HZ
    go_enter Try.func3, Try.ntmps3
    go_wp2_with fail
    refine HZ'.out.mono ?_
    rintro e w1 ⟨rfl, hb1⟩
    go_wp2
    go_ret
    exact ⟨rfl, hb1⟩
  have hl' : T.tot rs ≤ 1048576 := by omega
  have HE : leftOf 1048576 (T.tot rs) = 1048576 - T.tot rs := leftOf_pos (by omega)
  have hz0 : ¬ (1048576 : Int) - T.tot rs < 0 := by omega
  rw [HE] at HZ
  have HZ' := hide_it HZ
  clear HE HZ hl
  go_enter Try.func3, Try.ntmps3
  go_wp2_with fail
  refine HZ'.out.mono ?_
  rintro e w1 ⟨rfl, hb1⟩
  have B1 := hide_it hb1
  clear hb1
  go_wp2_with fail
  refine (T.toTrips_any _ rs w1 (HV.out _ B1.out) hl').mono ?_
  rintro e w2 ⟨rfl, hm2, hb2⟩
  have B2 := hide_it (B1.out.trans (hb2.mono B1.out.size))
  have M2 := hide_it hm2.recs
  clear hb2 hm2
  go_wp2_with fail
  refine (T.specTripsOk_any _ rs w2 M2.out hl').mono ?_
  rintro e w3 ⟨rfl, hb3⟩
  have B3 := hide_it (B2.out.trans (hb3.mono B2.out.size))
  clear hb3
  go_wp2_with fail
  refine (T.toTrips_any _ rs w3 (HV.out _ B3.out) hl').mono ?_
  rintro e w4 ⟨rfl, hm4, hb4⟩
  have B4 := hide_it (B3.out.trans (hb4.mono B3.out.size))
  have M4 := hide_it hm4.recs
  clear hb4 hm4
  go_wp2_with fail
  refine (T.implTripsOk_any _ rs w4 M4.out hl').mono ?_
  rintro e w5 ⟨rfl, hb5⟩
  have B5 := hide_it (B4.out.trans (hb5.mono B4.out.size))
  have M5 := hide_it (M4.out.later hb5 (Nat.le_refl _))
  clear hb5
  obtain ⟨bb, hbb⟩ : ∃ x, T.tripsOk rs = x := ⟨_, rfl⟩
  rw [hbb]
  clear hbb
  cases bb
  all_goals
    go_wp2_with fail
    refine (T.toTrips_any _ rs w5 (HV.out _ B5.out) hl').mono ?_
    rintro e w6 ⟨rfl, hm6, hb6⟩
    have B6 := hide_it (B5.out.trans (hb6.mono B5.out.size))
    have M6 := hide_it hm6.recs
    have M6x := hide_it (M5.out.later hb6 (Nat.le_refl _))
    clear hb6 hm6
    go_wp2_with fail
    refine (T.eqTrips_any _ _ rs w6 M6x.out M6.out hl').mono ?_
    rintro e w7 ⟨rfl, hb7⟩
    have B7 := hide_it (B6.out.trans (hb7.mono B6.out.size))
    clear hb7
    go_wp2
    go_ret
    exact ⟨rfl, B7.out⟩

set_option maxRecDepth 100000 in
theorem tripsOk_lifted (os : Os) (started : os.Started) (H : Type) (enc : TypeId × Value → H) :
    ReturnsInHanded {} Try.checked os 3 .any (Rows.fnExactTripsOkSpec.pre6 enc Try.prog Try.f3 Rows.fnExactTripsOkRow.domain false) (Rows.fnExactTripsOkSpec.post enc Try.prog Try.f3 false true false false) := by
  refine returnsInHanded_of_change (C := Try.checked) own started (by kernel_rfl) Try.func3
    (ChangeSpec.witness6 (enc := enc) (C := Try.checked) false ⟨#[], #[.slice none 0 0], []⟩ 8 (by kernel_rfl) (by kernel_rfl) (by kernel_rfl) (by kernel_rfl)) ?_
  intro W base args ds gs before hval0 hW hcnd _
  have hval : ∀ (j : Nat) t v, Try.f3.params[j]? = some t → args[j]? = some v → Value.okWide Try.prog W .any base t v := hval0
  have hW' := hW
  obtain ⟨p, q, hA0, hV, rfl, hfz, hnd⟩ := hW
  have hA : DataW.TrodAll enc Try.prog W 0 (fun _ => true) true Try.f3.params.toList args.toList ds p := hA0
  rw [Try.params3] at hA hval
  obtain ⟨v0, d0, rfl, rfl, h0⟩ := trodAll_one hA
  obtain ⟨rfl, rfl⟩ := trodVars_none hV
  clear hA0 hval0
  obtain ⟨ao, n, cap, rfl⟩ := okWide_slice Try.underlying22 (hval 0 22 v0 rfl rfl)
  obtain ⟨rs, hR, hlen, hlens⟩ : ∃ rs : List T.R, T.Recs W (.slice ao n cap) rs ∧ (rs.length : Int) ≤ 9223372036854775807 ∧ ∀ r ∈ rs, (r.1.length : Int) ≤ 9223372036854775807 := by
    obtain ⟨fuel, hf⟩ := h0
    exact T.trips_of_trod hf
  refine (lawTOk_any _ rs W hR hlen hlens).mono fun e W' ⟨he, hb⟩ => ?_
  subst he
  have hlt : ∀ x ∈ p, x.block < W.heap.size := fun x hx => hW'.lt x (by simp [hx])
  refine ⟨_, rfl, _, _, _, [], p, [], hW', ?_, ?_, ?_, hb.frame _, fun h => by cases h⟩
  · exact trodAll_mk1 (shut_bool Try.underlying4 true)
  · exact trodAll_mk1 (Below.trod laidOut (by kernel_rfl) (of_decide_eq_true (by kernel_rfl)) h0 hb hlt)
  · exact rfl

theorem tripsOk_said : Rows.FnExactTripsOkSaid :=
  OpenClaim.holds_of_wide 3 Try.f3 rfl rfl rfl rfl rfl rfl rfl ⟨rfl, rfl, rfl, rfl, rfl⟩ rfl rfl rfl rfl rfl (by kernel_rfl) Try.func3 (by kernel_rfl)
    (of_decide_eq_true (by kernel_rfl)) (by unfold Func.isWrapper; first | (rw [if_pos (by decide +kernel)]; kernel_rfl) | (rw [if_neg (by decide +kernel)]; exact ⟨rfl, rfl⟩))
    (fun os started H enc _ => tripsOk_lifted os started H enc)
#print axioms tripsOk_said

end Go.Proofs.Ytmbgnmnlkbeaoaa
