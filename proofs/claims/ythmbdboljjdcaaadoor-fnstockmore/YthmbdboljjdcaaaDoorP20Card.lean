/- FnStockMore answers true whatever the code, and it reads afterwards as it read before: promise 20 at every drawn room and records. The card: the sentinel's variable starts as the program's text lays it. -/
import Derived.Test.YthmbdboljjdcaaaDoorFrame
import Derived.Test.YthmbdboljjdcaaaDoorSIn
import Derived.Test.YthmbdboljjdcaaaDoorSLawMore
namespace Go.Proofs.YthmbdboljjdcaaaDoor
open Go.ChangeShapes Go.WideShapes Go.ChangeAt Go.WideMaps Go.WideElems Go.RowKit Go.Joins

set_option maxHeartbeats 1000000 in
theorem lawP20_great (ac : Option Addr) (nc cc : Nat) (w : World) (h : 1048576 < (nc : Int)) :
    Calls Tryd.prog 4 #[.slice ac nc cc] w fun e w' => e = .returned (.bool true) ∧ Below w.heap.size w w' := by
  go_enter Tryd.func4, Tryd.ntmps4
  go_wp2
  go_ret
  exact ⟨rfl, Below.refl _ _⟩

theorem lawP20_any (vc : Value) (nc : Nat) (a : Addr) (w : World) (hc : CodeAt w vc nc) (ha : ErrAt w a) :
    Calls Tryd.prog 4 #[vc] w fun e w' => e = .returned (.bool true) ∧ Below w.heap.size w w' := by
  by_cases h1 : nc ≤ 1048576
  · exact lawP20_small vc nc a w hc h1 ha
  · obtain ⟨ac, cc, rfl, _⟩ := hc
    exact lawP20_great ac nc cc w (by omega)

set_option maxRecDepth 100000 in
theorem p20_lifted (os : Os) (started : os.Started) (H : Type) (enc : TypeId × Value → H) :
    ReturnsInHanded {} Tryd.checked os 4 .any (fun w args => (Rows.fnStockMoreSpec.pre enc Tryd.prog Tryd.f4 [] false w args ∧ laidMetH Tryd.prog laidErr w) ∧ sizedMet enc Tryd.prog Tryd.f4 (OpenSpec.ofChange Rows.fnStockMoreSpec) false w args)
      (Rows.fnStockMoreSpec.post enc Tryd.prog Tryd.f4 false true false false) := by
  refine returnsInHanded_of_change_and (C := Tryd.checked) (X := fun w _ => laidMetH Tryd.prog laidErr w) (fun _ _ _ hh h => h.of_heap hh) own started (by kernel_rfl) Tryd.func4
    (ChangeSpec.witness_shaped (enc := enc) (C := Tryd.checked) (os := os) (X := fun w _ => laidMetH Tryd.prog laidErr w) false (World.doorLaid Tryd.prog 28 os) #[.slice none 0 0] 8 rfl (World.shaped_of_RefB (by kernel_rfl) (by kernel_rfl)) (by kernel_rfl) (by kernel_rfl) (by kernel_rfl) (door_met os _)) ?_
  intro W base args ds gs before hval0 hW _ _ hL _
  have hval : ∀ (j : Nat) t v, Tryd.f4.params[j]? = some t → args[j]? = some v → Value.okWide Tryd.prog W .any base t v := hval0
  have hW' := hW
  obtain ⟨p, q, hA0, hV0, rfl, hfz, hnd⟩ := hW
  have hA : DataW.TrodAll enc Tryd.prog W 0 (fun _ => true) true Tryd.f4.params.toList args.toList ds p := hA0
  have hV : DataW.TrodVars enc Tryd.prog W (fun _ => true) ["loop.example/concierge/impl.errNoRec"] gs q := hV0
  rw [Tryd.params4] at hA hval
  obtain ⟨v0, d0, rfl, rfl, h0⟩ := trodAll_one hA
  obtain ⟨a, hErr, hvar⟩ := of_laid hL
  have vr : ∀ {X : World}, X.var? Tryd.prog "loop.example/concierge/impl.errNoRec" = some #[.iface 100 (.pointer (some a))] → ∀ sp : Nat → Bool,
      DataW.TrodVars enc Tryd.prog X sp ["loop.example/concierge/impl.errNoRec"] [tok enc (.iface 100 (.pointer (some a)))] [.cell 0 0] :=
    fun x0 sp => vars_read1 enc gErr gErrType Tryd.underlying70 x0 trivial sp
  obtain ⟨rfl, rfl⟩ := hV.unique (vr hvar _)
  clear hA0 hV0 hval0
  obtain ⟨nc, hC, _⟩ := open_code (hval 0 22 v0 rfl rfl) h0
  refine (lawP20_any v0 nc a W hC hErr).mono fun e W' ⟨he, hb⟩ => ?_
  subst he
  have hlt : ∀ x ∈ p, x.block < W.heap.size := fun x hx => hW'.lt x (by simp [hx])
  refine ⟨_, rfl, _, _, _, [], p, [.cell 0 0], hW', ?_, ?_, ?_, hb.frame _, fun h => by cases h⟩
  · exact trodAll_mk1 (shut_bool Tryd.underlying4 true)
  · exact trodAll_mk1 (Below.trod laidOut (by kernel_rfl) (of_decide_eq_true (by kernel_rfl)) h0 hb hlt)
  · exact vr (var?_below hb gErr (World.block_lt_of_cell? _ _ hErr) hvar) _

theorem p20_said : Rows.FnStockMoreSaid :=
  OpenClaim.holds_of_wide 4 Tryd.f4 rfl rfl rfl rfl rfl rfl rfl ⟨rfl, rfl, rfl, rfl, rfl⟩ rfl rfl rfl rfl rfl (by kernel_rfl) Tryd.func4 (by kernel_rfl)
    (of_decide_eq_true (by kernel_rfl)) (by unfold Func.isWrapper; first | (rw [if_pos (by decide +kernel)]; kernel_rfl) | (rw [if_neg (by decide +kernel)]; exact ⟨rfl, rfl⟩))
    (fun os started H enc _ => p20_lifted os started H enc)

theorem p20_plain (f : FuncId) (fn : Func) (hf : Tryd.pinned.checked.prog.funcNamed "loop.example/concierge/laws.FnStockMore" = some f) (hfn : Tryd.pinned.checked.prog.funcs[f]? = some fn) :
    true = Tryd.pinned.checked.prog.looks [] ∧ ∀ (j : Nat) t, fn.params[j]? = some t → Tryd.pinned.checked.prog.wantsStandIn t = false := by
  obtain rfl : f = 4 := Option.some.inj ((show Tryd.prog.funcNamed "loop.example/concierge/laws.FnStockMore" = some 4 by kernel_rfl).symm.trans hf) |>.symm
  obtain rfl : fn = Tryd.f4 := (Option.some.inj (Tryd.func4.symm.trans hfn)).symm
  refine ⟨by kernel_rfl, fun j t ht => ?_⟩
  rw [Tryd.params4] at ht
  obtain rfl : t = 22 := by simpa using Array.mem_of_getElem? ht
  exact (show Tryd.prog.wantsStandIn 22 = false by kernel_rfl)

theorem p20_card : Rows.FnStockMoreCardSaid :=
  Claim7.holds_tied_plain_at .later [] _ _ _ _ p20_said (fun _ h => by cases h) (by kernel_rfl) (fun _ h => by cases h) fnStockMore_row_tie rfl ⟨rfl, rfl⟩ (by kernel_rfl) rfl p20_plain (by kernel_rfl)
#print axioms p20_card

end Go.Proofs.YthmbdboljjdcaaaDoor
