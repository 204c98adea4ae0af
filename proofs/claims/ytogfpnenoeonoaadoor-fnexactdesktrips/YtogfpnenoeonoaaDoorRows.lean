/-
  NARROWER THAN 'FOR EVERY INPUT', by the rows' own cells (each row's printed sentence says how): FnExactDeskOk: ifaces, laid · FnExactDeskTrips: ifaces, laid · FnExactDeskForce: ifaces, laid · FnExactDeskFall: ifaces, laid · FnExactDeskRise: ifaces, laid.
  DERIVED. THE GIVEN ROWS OF THIS SEAT. 5 by the template 'for every input the law returns true; each argument reads behind the call as it read before'; 0 by the template 'total and deterministic' (their statements: YtogfpnenoeonoaaDoorTotals.lean).
  GIVEN WITH THE SEED: the statements are not yours to turn. If you find one false, say at which input.
  Laid BY PROGRAM, IN A SANDBOX (cutbox-rows.mjs): the forced cells as the released guide's own fill.sh prints them over the translation c0654ccb6f1e022c… (all of the seat's roots in one cut). By AI agents, Wed Nov 11 2026. No macro, syntax, notation, axiom, sorry.
-/
import Derived.Test.YtogfpnenoeonoaaDoorChecked
import GoSem.Claim
import GoSem.ClaimJoined
import GoSem.ClaimMapViews
import Derived.JoinedTies
import Derived.KernelRfl
namespace Go.Proofs.YtogfpnenoeonoaaDoor
/- THE CELL 'sum', in the pinned program and in every row, IS THE sha256 OF THE DUMP (.gsa) THAT YtogfpnenoeonoaaDoorProg.lean LOADS. Nothing in Lean hashes anything: it is a label: what it is worth is what the hold of that sum in a sandbox is worth. -/
noncomputable def Tryd.pinned : Pinned := { name := "ytogfpnenoeonoaadoor", sum := "c0654ccb6f1e022c218ccbb9b7ffb1de946f298006c1d96188cee48f21b3af30", checked := Tryd.checked }
namespace Rows
def none {H : Type} : Left H := { results := [], args := [] }

/- WHAT THE LISTED PACKAGE-LEVEL VARIABLES READ AS WHEN THE CALL BEGINS. Each datum BY PROGRAM (the guide's laid-datum.mjs) off the statement by which the dump's own 'gosem.cut.vars' lays the variable. In a bare row this is a premise. The card (YtogfpnenoeonoaaDoorCards.lean) ties it to the program's text. -/
def laid_loop_example_concierge_impl_errNoRec {H : Type} : DataW H := .iface "*errors.errorString" (.ptr (.agg [.lit (.string [110, 111, 32, 114, 101, 99, 111, 114, 100])]))

/-- 'laws.FnExactDeskOk': WHATEVER THE INPUT: true; the input reads as it did. -/
def fnExactDeskOkSpec : ChangeSpec := { name := "fnExactDeskOk", vars := ["loop.example/concierge/impl.errNoRec"], fn := fun _ => fun
  | [d, g1] => { results := [.lit (.bool true)], args := [d], vars := [g1] }
  | _ => none }
def fnExactDeskOkRow : OpenClaim := { program := "ytogfpnenoeonoaadoor", sum := "c0654ccb6f1e022c218ccbb9b7ffb1de946f298006c1d96188cee48f21b3af30", func := "loop.example/concierge/laws.FnExactDeskOk", spec := "fnExactDeskOk", inPlace := ["internal/reflectlite.TypeOf"], unfollowed := true, recurses := true, named := ["loop.example/concierge/impl.errNoRec"], ifaces := true, plainKeys := false, apart := false, laid := [("loop.example/concierge/impl.errNoRec", laid_loop_example_concierge_impl_errNoRec)] }
def FnExactDeskOkSaid : Prop := fnExactDeskOkRow.holds Tryd.pinned (OpenSpec.ofChange fnExactDeskOkSpec)

/-- ITS FALSE NEIGHBOUR: 'it returns false'. Refute it at one input. -/
def fnExactDeskOkWrong : ChangeSpec := { name := "fnExactDeskOk", vars := ["loop.example/concierge/impl.errNoRec"], fn := fun _ => fun
  | [d, g1] => { results := [.lit (.bool false)], args := [d], vars := [g1] }
  | _ => none }
def FnExactDeskOkWrongFalsely : Prop := fnExactDeskOkRow.holds Tryd.pinned (OpenSpec.ofChange fnExactDeskOkWrong)

/-- 'laws.FnExactDeskTrips': WHATEVER THE INPUT: true; the input reads as it did. -/
def fnExactDeskTripsSpec : ChangeSpec := { name := "fnExactDeskTrips", vars := ["loop.example/concierge/impl.errNoRec"], fn := fun _ => fun
  | [d1, d2, g1] => { results := [.lit (.bool true)], args := [d1, d2], vars := [g1] }
  | _ => none }
def fnExactDeskTripsRow : OpenClaim := { program := "ytogfpnenoeonoaadoor", sum := "c0654ccb6f1e022c218ccbb9b7ffb1de946f298006c1d96188cee48f21b3af30", func := "loop.example/concierge/laws.FnExactDeskTrips", spec := "fnExactDeskTrips", inPlace := ["internal/reflectlite.TypeOf"], unfollowed := true, recurses := true, named := ["loop.example/concierge/impl.errNoRec"], ifaces := true, plainKeys := false, apart := false, laid := [("loop.example/concierge/impl.errNoRec", laid_loop_example_concierge_impl_errNoRec)] }
def FnExactDeskTripsSaid : Prop := fnExactDeskTripsRow.holds Tryd.pinned (OpenSpec.ofChange fnExactDeskTripsSpec)

/-- ITS FALSE NEIGHBOUR: 'it returns false'. Refute it at one input. -/
def fnExactDeskTripsWrong : ChangeSpec := { name := "fnExactDeskTrips", vars := ["loop.example/concierge/impl.errNoRec"], fn := fun _ => fun
  | [d1, d2, g1] => { results := [.lit (.bool false)], args := [d1, d2], vars := [g1] }
  | _ => none }
def FnExactDeskTripsWrongFalsely : Prop := fnExactDeskTripsRow.holds Tryd.pinned (OpenSpec.ofChange fnExactDeskTripsWrong)

/-- 'laws.FnExactDeskForce': WHATEVER THE INPUT: true; the input reads as it did. -/
def fnExactDeskForceSpec : ChangeSpec := { name := "fnExactDeskForce", vars := ["loop.example/concierge/impl.errNoRec"], fn := fun _ => fun
  | [d, g1] => { results := [.lit (.bool true)], args := [d], vars := [g1] }
  | _ => none }
def fnExactDeskForceRow : OpenClaim := { program := "ytogfpnenoeonoaadoor", sum := "c0654ccb6f1e022c218ccbb9b7ffb1de946f298006c1d96188cee48f21b3af30", func := "loop.example/concierge/laws.FnExactDeskForce", spec := "fnExactDeskForce", inPlace := ["internal/reflectlite.TypeOf"], unfollowed := true, recurses := true, named := ["loop.example/concierge/impl.errNoRec"], ifaces := true, plainKeys := false, apart := false, laid := [("loop.example/concierge/impl.errNoRec", laid_loop_example_concierge_impl_errNoRec)] }
def FnExactDeskForceSaid : Prop := fnExactDeskForceRow.holds Tryd.pinned (OpenSpec.ofChange fnExactDeskForceSpec)

/-- ITS FALSE NEIGHBOUR: 'it returns false'. Refute it at one input. -/
def fnExactDeskForceWrong : ChangeSpec := { name := "fnExactDeskForce", vars := ["loop.example/concierge/impl.errNoRec"], fn := fun _ => fun
  | [d, g1] => { results := [.lit (.bool false)], args := [d], vars := [g1] }
  | _ => none }
def FnExactDeskForceWrongFalsely : Prop := fnExactDeskForceRow.holds Tryd.pinned (OpenSpec.ofChange fnExactDeskForceWrong)

/-- 'laws.FnExactDeskFall': WHATEVER THE INPUT: true; the input reads as it did. -/
def fnExactDeskFallSpec : ChangeSpec := { name := "fnExactDeskFall", vars := ["loop.example/concierge/impl.errNoRec"], fn := fun _ => fun
  | [d1, d2, g1] => { results := [.lit (.bool true)], args := [d1, d2], vars := [g1] }
  | _ => none }
def fnExactDeskFallRow : OpenClaim := { program := "ytogfpnenoeonoaadoor", sum := "c0654ccb6f1e022c218ccbb9b7ffb1de946f298006c1d96188cee48f21b3af30", func := "loop.example/concierge/laws.FnExactDeskFall", spec := "fnExactDeskFall", inPlace := ["internal/reflectlite.TypeOf"], unfollowed := true, recurses := true, named := ["loop.example/concierge/impl.errNoRec"], ifaces := true, plainKeys := false, apart := false, laid := [("loop.example/concierge/impl.errNoRec", laid_loop_example_concierge_impl_errNoRec)] }
def FnExactDeskFallSaid : Prop := fnExactDeskFallRow.holds Tryd.pinned (OpenSpec.ofChange fnExactDeskFallSpec)

/-- ITS FALSE NEIGHBOUR: 'it returns false'. Refute it at one input. -/
def fnExactDeskFallWrong : ChangeSpec := { name := "fnExactDeskFall", vars := ["loop.example/concierge/impl.errNoRec"], fn := fun _ => fun
  | [d1, d2, g1] => { results := [.lit (.bool false)], args := [d1, d2], vars := [g1] }
  | _ => none }
def FnExactDeskFallWrongFalsely : Prop := fnExactDeskFallRow.holds Tryd.pinned (OpenSpec.ofChange fnExactDeskFallWrong)

/-- 'laws.FnExactDeskRise': WHATEVER THE INPUT: true; the input reads as it did. -/
def fnExactDeskRiseSpec : ChangeSpec := { name := "fnExactDeskRise", vars := ["loop.example/concierge/impl.errNoRec"], fn := fun _ => fun
  | [d, g1] => { results := [.lit (.bool true)], args := [d], vars := [g1] }
  | _ => none }
def fnExactDeskRiseRow : OpenClaim := { program := "ytogfpnenoeonoaadoor", sum := "c0654ccb6f1e022c218ccbb9b7ffb1de946f298006c1d96188cee48f21b3af30", func := "loop.example/concierge/laws.FnExactDeskRise", spec := "fnExactDeskRise", inPlace := ["internal/reflectlite.TypeOf"], unfollowed := true, recurses := true, named := ["loop.example/concierge/impl.errNoRec"], ifaces := true, plainKeys := false, apart := false, laid := [("loop.example/concierge/impl.errNoRec", laid_loop_example_concierge_impl_errNoRec)] }
def FnExactDeskRiseSaid : Prop := fnExactDeskRiseRow.holds Tryd.pinned (OpenSpec.ofChange fnExactDeskRiseSpec)

/-- ITS FALSE NEIGHBOUR: 'it returns false'. Refute it at one input. -/
def fnExactDeskRiseWrong : ChangeSpec := { name := "fnExactDeskRise", vars := ["loop.example/concierge/impl.errNoRec"], fn := fun _ => fun
  | [d, g1] => { results := [.lit (.bool false)], args := [d], vars := [g1] }
  | _ => none }
def FnExactDeskRiseWrongFalsely : Prop := fnExactDeskRiseRow.holds Tryd.pinned (OpenSpec.ofChange fnExactDeskRiseWrong)

/- THE SECOND FORM. 'bulk': how many values and letters a reading holds, each counted each time it is reached (what is shared counts as often as it is met; a slice's spare places count too). A statement '..UptoSaid' is the law's where the arguments, and the package variables that the reading takes, are together of bulk at most 1048576: NARROWER than '..Said'. Prove '..Said' where nothing that the law and all that it calls make is longer than what came in: it says more and counts as full. Else prove '..UptoSaid'. A law counts once. -/
mutual
def uptoBulk {H : Type} : DataW H → Nat
  | .lit (.string bytes) => bytes.length + 1
  | .lit _ => 1
  | .nil => 1
  | .ptr d => uptoBulk d + 1
  | .slice elems spare => uptoBulkAll elems + uptoBulkAll spare + 1
  | .agg parts => uptoBulkAll parts + 1
  | .iface _ d => uptoBulk d + 1
  | .map entries => uptoBulkEntries entries + 1
  | .held _ => 1
def uptoBulkAll {H : Type} : List (DataW H) → Nat
  | [] => 0
  | d :: r => uptoBulk d + uptoBulkAll r
def uptoBulkEntries {H : Type} : List (Lit × DataW H) → Nat
  | [] => 0
  | x :: r => uptoBulkEntry x + uptoBulkEntries r
def uptoBulkEntry {H : Type} : Lit × DataW H → Nat
  | (.string bytes, d) => bytes.length + uptoBulk d + 1
  | (_, d) => uptoBulk d + 1
 end
def uptoSmall : (H : Type) → List (DataW H) → Bool := fun _ ds => decide (uptoBulkAll ds ≤ 1048576)
def OpenSpec.upto (s : _root_.Go.ChangeSpec) : _root_.Go.OpenSpec := { _root_.Go.OpenSpec.ofChange s with cond := some uptoSmall }

/-- 'laws.FnExactDeskOk', WHERE WHAT IT READS IS OF BULK AT MOST 1048576: true; the input reads as it did. -/
def fnExactDeskOkUptoRow : OpenClaim := { program := "ytogfpnenoeonoaadoor", sum := "c0654ccb6f1e022c218ccbb9b7ffb1de946f298006c1d96188cee48f21b3af30", func := "loop.example/concierge/laws.FnExactDeskOk", spec := "fnExactDeskOk", inPlace := ["internal/reflectlite.TypeOf"], unfollowed := true, recurses := true, named := ["loop.example/concierge/impl.errNoRec"], ifaces := true, plainKeys := false, apart := false, laid := [("loop.example/concierge/impl.errNoRec", laid_loop_example_concierge_impl_errNoRec)], narrowed := true }
def FnExactDeskOkUptoSaid : Prop := fnExactDeskOkUptoRow.holds Tryd.pinned (OpenSpec.upto fnExactDeskOkSpec)

/-- 'laws.FnExactDeskTrips', WHERE WHAT IT READS IS OF BULK AT MOST 1048576: true; the input reads as it did. -/
def fnExactDeskTripsUptoRow : OpenClaim := { program := "ytogfpnenoeonoaadoor", sum := "c0654ccb6f1e022c218ccbb9b7ffb1de946f298006c1d96188cee48f21b3af30", func := "loop.example/concierge/laws.FnExactDeskTrips", spec := "fnExactDeskTrips", inPlace := ["internal/reflectlite.TypeOf"], unfollowed := true, recurses := true, named := ["loop.example/concierge/impl.errNoRec"], ifaces := true, plainKeys := false, apart := false, laid := [("loop.example/concierge/impl.errNoRec", laid_loop_example_concierge_impl_errNoRec)], narrowed := true }
def FnExactDeskTripsUptoSaid : Prop := fnExactDeskTripsUptoRow.holds Tryd.pinned (OpenSpec.upto fnExactDeskTripsSpec)

/-- 'laws.FnExactDeskForce', WHERE WHAT IT READS IS OF BULK AT MOST 1048576: true; the input reads as it did. -/
def fnExactDeskForceUptoRow : OpenClaim := { program := "ytogfpnenoeonoaadoor", sum := "c0654ccb6f1e022c218ccbb9b7ffb1de946f298006c1d96188cee48f21b3af30", func := "loop.example/concierge/laws.FnExactDeskForce", spec := "fnExactDeskForce", inPlace := ["internal/reflectlite.TypeOf"], unfollowed := true, recurses := true, named := ["loop.example/concierge/impl.errNoRec"], ifaces := true, plainKeys := false, apart := false, laid := [("loop.example/concierge/impl.errNoRec", laid_loop_example_concierge_impl_errNoRec)], narrowed := true }
def FnExactDeskForceUptoSaid : Prop := fnExactDeskForceUptoRow.holds Tryd.pinned (OpenSpec.upto fnExactDeskForceSpec)

/-- 'laws.FnExactDeskFall', WHERE WHAT IT READS IS OF BULK AT MOST 1048576: true; the input reads as it did. -/
def fnExactDeskFallUptoRow : OpenClaim := { program := "ytogfpnenoeonoaadoor", sum := "c0654ccb6f1e022c218ccbb9b7ffb1de946f298006c1d96188cee48f21b3af30", func := "loop.example/concierge/laws.FnExactDeskFall", spec := "fnExactDeskFall", inPlace := ["internal/reflectlite.TypeOf"], unfollowed := true, recurses := true, named := ["loop.example/concierge/impl.errNoRec"], ifaces := true, plainKeys := false, apart := false, laid := [("loop.example/concierge/impl.errNoRec", laid_loop_example_concierge_impl_errNoRec)], narrowed := true }
def FnExactDeskFallUptoSaid : Prop := fnExactDeskFallUptoRow.holds Tryd.pinned (OpenSpec.upto fnExactDeskFallSpec)

/-- 'laws.FnExactDeskRise', WHERE WHAT IT READS IS OF BULK AT MOST 1048576: true; the input reads as it did. -/
def fnExactDeskRiseUptoRow : OpenClaim := { program := "ytogfpnenoeonoaadoor", sum := "c0654ccb6f1e022c218ccbb9b7ffb1de946f298006c1d96188cee48f21b3af30", func := "loop.example/concierge/laws.FnExactDeskRise", spec := "fnExactDeskRise", inPlace := ["internal/reflectlite.TypeOf"], unfollowed := true, recurses := true, named := ["loop.example/concierge/impl.errNoRec"], ifaces := true, plainKeys := false, apart := false, laid := [("loop.example/concierge/impl.errNoRec", laid_loop_example_concierge_impl_errNoRec)], narrowed := true }
def FnExactDeskRiseUptoSaid : Prop := fnExactDeskRiseUptoRow.holds Tryd.pinned (OpenSpec.upto fnExactDeskRiseSpec)

end Rows
end Go.Proofs.YtogfpnenoeonoaaDoor
