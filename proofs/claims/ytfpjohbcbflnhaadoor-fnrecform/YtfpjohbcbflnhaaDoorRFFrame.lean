/- What every law over the sentinel's variable shares: closed facts of the program, what the listed variable gives, and the world of the witness. No conditions. -/
import Derived.Test.YtfpjohbcbflnhaaDoorCards
import Derived.Test.YtfpjohbcbflnhaaDoorTie
import Derived.Test.YtfpjohbcbflnhaaDoorRRForm
import Derived.Test.YtfpjohbcbflnhaaDoorRFIn
import Derived.ProofKit
import Derived.LaidMore
import Derived.Lay
import Derived.LaidSub
import Derived.OpenVars
import Derived.OpenShut
import Derived.Stop.Joined
import Derived.Stop.LaidErr
import Derived.Lib.SmallJoins
import Derived.Lib.LaidU8
namespace Go.Proofs.YtfpjohbcbflnhaaDoor
open Go.ChangeShapes Go.WideShapes Go.ChangeAt Go.WideMaps Go.WideElems Go.RowKit

theorem own : ownKnob Tryd.prog.godebug = none := by kernel_rfl
theorem laidOut : laidOutB Tryd.prog = true := by kernel_rfl
theorem gErr : Tryd.prog.globalNamed "loop.example/concierge/impl.errNoRec" = some 0 := by kernel_rfl
theorem gErrType : (Tryd.prog.globals[0]?).map (·.type) = some 42 := by kernel_rfl
theorem cellsErrS : Tryd.prog.cellsOf 139 = 1 := by kernel_rfl
theorem cellsString : Tryd.prog.cellsOf 9 = 1 := by kernel_rfl
theorem cellsInt : Tryd.prog.cellsOf 3 = 1 := by kernel_rfl
theorem star : "*" ++ "errors.errorString" = "*errors.errorString" := by decide
theorem rowErr (u : TypeId) (h : Tryd.prog.typeName? 3 u = some "*errors.errorString") : u = 137 :=
  typeName_ptr_named (nm := "errors.errorString") (by rw [star]; kernel_rfl) (by kernel_rfl) (by decide) u (by rw [star]; exact h)

/-- What the list gives: the sentinel's variable holds a pointer to an errors.errorString. -/
theorem of_laidE {W : World} {l : List (String × DataW Unit)} (hp : (l.all fun x => x.2.handleName?.isNone) = true) (hf : (l.filter fun x => x.1 == "loop.example/concierge/impl.errNoRec") = [("loop.example/concierge/impl.errNoRec", Rows.laid_loop_example_concierge_impl_errNoRec)]) (h : laidMetH Tryd.prog l W) : ∃ a, ErrAt W a := by
  rw [MakeChecks.laidMetH_plain _ _ _ hp] at h
  have h2 := laidMet.filter (fun x => x.1 == "loop.example/concierge/impl.errNoRec") h
  rw [hf] at h2
  obtain ⟨a, s, hv, hc, _, _⟩ := laid_sentinel (r := []) h2 gErr gErrType Tryd.underlying42 rowErr Tryd.underlying137 Tryd.underlying139 rfl rfl Tryd.underlying9 cellsErrS cellsString
  refine ⟨a, ?_⟩
  unfold ErrAt
  simpa using World.var?_cell gErr hv 0

end Go.Proofs.YtfpjohbcbflnhaaDoor
