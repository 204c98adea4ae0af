/-
  NARROWER THAN 'FOR EVERY INPUT', by the rows' own cells (each row's printed sentence says how): FnLogAdd: ifaces, laid · FnLogForce: ifaces, laid · FnLogFall: ifaces, laid · FnLogMore: ifaces, laid · FnLogLess: ifaces, laid · FnLogAddFall: ifaces, laid.
  DERIVED. THE GIVEN ROWS OF THIS SEAT. 6 by the template 'for every input the law returns true; each argument reads behind the call as it read before'; 0 by the template 'total and deterministic' (their statements: YtgbikmcpcolcpaaDoorTotals.lean).
  GIVEN WITH THE SEED: the statements are not yours to turn. If you find one false, say at which input.
  Laid BY PROGRAM, IN A SANDBOX (cutbox-rows.mjs): the forced cells as the released guide's own fill.sh prints them over the translation c6211d4ede64feb3… (all of the seat's roots in one cut). By AI agents, Wed Nov 11 2026. No macro, syntax, notation, axiom, sorry.
-/
import Derived.Test.YtgbikmcpcolcpaaDoorChecked
import GoSem.Claim
import GoSem.ClaimJoined
import GoSem.ClaimMapViews
import Derived.JoinedTies
import Derived.KernelRfl
namespace Go.Proofs.YtgbikmcpcolcpaaDoor
/- THE CELL 'sum', in the pinned program and in every row, IS THE sha256 OF THE DUMP (.gsa) THAT YtgbikmcpcolcpaaDoorProg.lean LOADS. Nothing in Lean hashes anything: it is a label: what it is worth is what the hold of that sum in a sandbox is worth. -/
noncomputable def Tryd.pinned : Pinned := { name := "ytgbikmcpcolcpaadoor", sum := "c6211d4ede64feb3f7677a65ac1fe49a9718b3a9c67efa6476dba7ce4b473cb0", checked := Tryd.checked }
namespace Rows
def none {H : Type} : Left H := { results := [], args := [] }

/- WHAT THE LISTED PACKAGE-LEVEL VARIABLES READ AS WHEN THE CALL BEGINS. Each datum BY PROGRAM (the guide's laid-datum.mjs) off the statement by which the dump's own 'gosem.cut.vars' lays the variable. In a bare row this is a premise. The card (YtgbikmcpcolcpaaDoorCards.lean) ties it to the program's text. -/
def laid_loop_example_concierge_impl_errNoRec {H : Type} : DataW H := .iface "*errors.errorString" (.ptr (.agg [.lit (.string [110, 111, 32, 114, 101, 99, 111, 114, 100])]))

/-- 'laws.FnLogAdd': WHATEVER THE INPUT: true; the input reads as it did. -/
def fnLogAddSpec : ChangeSpec := { name := "fnLogAdd", vars := ["loop.example/concierge/impl.errNoRec"], fn := fun _ => fun
  | [d, g1] => { results := [.lit (.bool true)], args := [d], vars := [g1] }
  | _ => none }
def fnLogAddRow : OpenClaim := { program := "ytgbikmcpcolcpaadoor", sum := "c6211d4ede64feb3f7677a65ac1fe49a9718b3a9c67efa6476dba7ce4b473cb0", func := "loop.example/concierge/laws.FnLogAdd", spec := "fnLogAdd", inPlace := ["internal/reflectlite.TypeOf"], unfollowed := true, recurses := true, named := ["loop.example/concierge/impl.errNoRec"], ifaces := true, apart := false, laid := [("loop.example/concierge/impl.errNoRec", laid_loop_example_concierge_impl_errNoRec)] }
def FnLogAddSaid : Prop := fnLogAddRow.holds Tryd.pinned (OpenSpec.ofChange fnLogAddSpec)

/-- ITS FALSE NEIGHBOUR: 'it returns false'. Refute it at one input. -/
def fnLogAddWrong : ChangeSpec := { name := "fnLogAdd", vars := ["loop.example/concierge/impl.errNoRec"], fn := fun _ => fun
  | [d, g1] => { results := [.lit (.bool false)], args := [d], vars := [g1] }
  | _ => none }
def FnLogAddWrongFalsely : Prop := fnLogAddRow.holds Tryd.pinned (OpenSpec.ofChange fnLogAddWrong)

/-- 'laws.FnLogForce': WHATEVER THE INPUT: true; the input reads as it did. -/
def fnLogForceSpec : ChangeSpec := { name := "fnLogForce", vars := ["loop.example/concierge/impl.errNoRec"], fn := fun _ => fun
  | [d1, d2, g1] => { results := [.lit (.bool true)], args := [d1, d2], vars := [g1] }
  | _ => none }
def fnLogForceRow : OpenClaim := { program := "ytgbikmcpcolcpaadoor", sum := "c6211d4ede64feb3f7677a65ac1fe49a9718b3a9c67efa6476dba7ce4b473cb0", func := "loop.example/concierge/laws.FnLogForce", spec := "fnLogForce", inPlace := ["internal/reflectlite.TypeOf"], unfollowed := true, recurses := true, named := ["loop.example/concierge/impl.errNoRec"], ifaces := true, apart := false, laid := [("loop.example/concierge/impl.errNoRec", laid_loop_example_concierge_impl_errNoRec)] }
def FnLogForceSaid : Prop := fnLogForceRow.holds Tryd.pinned (OpenSpec.ofChange fnLogForceSpec)

/-- ITS FALSE NEIGHBOUR: 'it returns false'. Refute it at one input. -/
def fnLogForceWrong : ChangeSpec := { name := "fnLogForce", vars := ["loop.example/concierge/impl.errNoRec"], fn := fun _ => fun
  | [d1, d2, g1] => { results := [.lit (.bool false)], args := [d1, d2], vars := [g1] }
  | _ => none }
def FnLogForceWrongFalsely : Prop := fnLogForceRow.holds Tryd.pinned (OpenSpec.ofChange fnLogForceWrong)

/-- 'laws.FnLogFall': WHATEVER THE INPUT: true; the input reads as it did. -/
def fnLogFallSpec : ChangeSpec := { name := "fnLogFall", vars := ["loop.example/concierge/impl.errNoRec"], fn := fun _ => fun
  | [d, g1] => { results := [.lit (.bool true)], args := [d], vars := [g1] }
  | _ => none }
def fnLogFallRow : OpenClaim := { program := "ytgbikmcpcolcpaadoor", sum := "c6211d4ede64feb3f7677a65ac1fe49a9718b3a9c67efa6476dba7ce4b473cb0", func := "loop.example/concierge/laws.FnLogFall", spec := "fnLogFall", inPlace := ["internal/reflectlite.TypeOf"], unfollowed := true, recurses := true, named := ["loop.example/concierge/impl.errNoRec"], ifaces := true, apart := false, laid := [("loop.example/concierge/impl.errNoRec", laid_loop_example_concierge_impl_errNoRec)] }
def FnLogFallSaid : Prop := fnLogFallRow.holds Tryd.pinned (OpenSpec.ofChange fnLogFallSpec)

/-- ITS FALSE NEIGHBOUR: 'it returns false'. Refute it at one input. -/
def fnLogFallWrong : ChangeSpec := { name := "fnLogFall", vars := ["loop.example/concierge/impl.errNoRec"], fn := fun _ => fun
  | [d, g1] => { results := [.lit (.bool false)], args := [d], vars := [g1] }
  | _ => none }
def FnLogFallWrongFalsely : Prop := fnLogFallRow.holds Tryd.pinned (OpenSpec.ofChange fnLogFallWrong)

/-- 'laws.FnLogMore': WHATEVER THE INPUT: true; the input reads as it did. -/
def fnLogMoreSpec : ChangeSpec := { name := "fnLogMore", vars := ["loop.example/concierge/impl.errNoRec"], fn := fun _ => fun
  | [d1, d2, g1] => { results := [.lit (.bool true)], args := [d1, d2], vars := [g1] }
  | _ => none }
def fnLogMoreRow : OpenClaim := { program := "ytgbikmcpcolcpaadoor", sum := "c6211d4ede64feb3f7677a65ac1fe49a9718b3a9c67efa6476dba7ce4b473cb0", func := "loop.example/concierge/laws.FnLogMore", spec := "fnLogMore", inPlace := ["internal/reflectlite.TypeOf"], unfollowed := true, recurses := true, named := ["loop.example/concierge/impl.errNoRec"], ifaces := true, apart := false, laid := [("loop.example/concierge/impl.errNoRec", laid_loop_example_concierge_impl_errNoRec)] }
def FnLogMoreSaid : Prop := fnLogMoreRow.holds Tryd.pinned (OpenSpec.ofChange fnLogMoreSpec)

/-- ITS FALSE NEIGHBOUR: 'it returns false'. Refute it at one input. -/
def fnLogMoreWrong : ChangeSpec := { name := "fnLogMore", vars := ["loop.example/concierge/impl.errNoRec"], fn := fun _ => fun
  | [d1, d2, g1] => { results := [.lit (.bool false)], args := [d1, d2], vars := [g1] }
  | _ => none }
def FnLogMoreWrongFalsely : Prop := fnLogMoreRow.holds Tryd.pinned (OpenSpec.ofChange fnLogMoreWrong)

/-- 'laws.FnLogLess': WHATEVER THE INPUT: true; the input reads as it did. -/
def fnLogLessSpec : ChangeSpec := { name := "fnLogLess", vars := ["loop.example/concierge/impl.errNoRec"], fn := fun _ => fun
  | [d1, d2, g1] => { results := [.lit (.bool true)], args := [d1, d2], vars := [g1] }
  | _ => none }
def fnLogLessRow : OpenClaim := { program := "ytgbikmcpcolcpaadoor", sum := "c6211d4ede64feb3f7677a65ac1fe49a9718b3a9c67efa6476dba7ce4b473cb0", func := "loop.example/concierge/laws.FnLogLess", spec := "fnLogLess", inPlace := ["internal/reflectlite.TypeOf"], unfollowed := true, recurses := true, named := ["loop.example/concierge/impl.errNoRec"], ifaces := true, apart := false, laid := [("loop.example/concierge/impl.errNoRec", laid_loop_example_concierge_impl_errNoRec)] }
def FnLogLessSaid : Prop := fnLogLessRow.holds Tryd.pinned (OpenSpec.ofChange fnLogLessSpec)

/-- ITS FALSE NEIGHBOUR: 'it returns false'. Refute it at one input. -/
def fnLogLessWrong : ChangeSpec := { name := "fnLogLess", vars := ["loop.example/concierge/impl.errNoRec"], fn := fun _ => fun
  | [d1, d2, g1] => { results := [.lit (.bool false)], args := [d1, d2], vars := [g1] }
  | _ => none }
def FnLogLessWrongFalsely : Prop := fnLogLessRow.holds Tryd.pinned (OpenSpec.ofChange fnLogLessWrong)

/-- 'laws.FnLogAddFall': WHATEVER THE INPUT: true; the input reads as it did. -/
def fnLogAddFallSpec : ChangeSpec := { name := "fnLogAddFall", vars := ["loop.example/concierge/impl.errNoRec"], fn := fun _ => fun
  | [d, g1] => { results := [.lit (.bool true)], args := [d], vars := [g1] }
  | _ => none }
def fnLogAddFallRow : OpenClaim := { program := "ytgbikmcpcolcpaadoor", sum := "c6211d4ede64feb3f7677a65ac1fe49a9718b3a9c67efa6476dba7ce4b473cb0", func := "loop.example/concierge/laws.FnLogAddFall", spec := "fnLogAddFall", inPlace := ["internal/reflectlite.TypeOf"], unfollowed := true, recurses := true, named := ["loop.example/concierge/impl.errNoRec"], ifaces := true, apart := false, laid := [("loop.example/concierge/impl.errNoRec", laid_loop_example_concierge_impl_errNoRec)] }
def FnLogAddFallSaid : Prop := fnLogAddFallRow.holds Tryd.pinned (OpenSpec.ofChange fnLogAddFallSpec)

/-- ITS FALSE NEIGHBOUR: 'it returns false'. Refute it at one input. -/
def fnLogAddFallWrong : ChangeSpec := { name := "fnLogAddFall", vars := ["loop.example/concierge/impl.errNoRec"], fn := fun _ => fun
  | [d, g1] => { results := [.lit (.bool false)], args := [d], vars := [g1] }
  | _ => none }
def FnLogAddFallWrongFalsely : Prop := fnLogAddFallRow.holds Tryd.pinned (OpenSpec.ofChange fnLogAddFallWrong)

/- THE SECOND FORM. 'bulk': how many values and letters a reading holds, each counted each time it is reached (what is shared counts as often as it is met; a slice's spare places count too). A statement '..UptoSaid' is the law's where the arguments, and the package variables that the reading takes, are together of bulk at most 1048576: NARROWER than '..Said'. Prove '..Said' where nothing that the law and all that it calls make is longer than what came in: it says more and counts as full. Else prove '..UptoSaid'. A law counts once. -/
mutual
def uptoBulk {H : Type} : DataW H → Nat
  | .lit (.string bytes) => bytes.length + 1
  | .lit _ => 1
  | .nil => 1
  | .ptr d => uptoBulk d + 1
  | .slice elems spare => uptoBulkAll elems + uptoBulkAll spare + 1
  | .agg parts => uptoBulkAll parts + 1
  | .iface _ d => uptoBulk d + 1
  | .map entries => uptoBulkEntries entries + 1
  | .held _ => 1
def uptoBulkAll {H : Type} : List (DataW H) → Nat
  | [] => 0
  | d :: r => uptoBulk d + uptoBulkAll r
def uptoBulkEntries {H : Type} : List (Lit × DataW H) → Nat
  | [] => 0
  | x :: r => uptoBulkEntry x + uptoBulkEntries r
def uptoBulkEntry {H : Type} : Lit × DataW H → Nat
  | (.string bytes, d) => bytes.length + uptoBulk d + 1
  | (_, d) => uptoBulk d + 1
 end
def uptoSmall : (H : Type) → List (DataW H) → Bool := fun _ ds => decide (uptoBulkAll ds ≤ 1048576)
def OpenSpec.upto (s : _root_.Go.ChangeSpec) : _root_.Go.OpenSpec := { _root_.Go.OpenSpec.ofChange s with cond := some uptoSmall }

/-- 'laws.FnLogAdd', WHERE WHAT IT READS IS OF BULK AT MOST 1048576: true; the input reads as it did. -/
def fnLogAddUptoRow : OpenClaim := { program := "ytgbikmcpcolcpaadoor", sum := "c6211d4ede64feb3f7677a65ac1fe49a9718b3a9c67efa6476dba7ce4b473cb0", func := "loop.example/concierge/laws.FnLogAdd", spec := "fnLogAdd", inPlace := ["internal/reflectlite.TypeOf"], unfollowed := true, recurses := true, named := ["loop.example/concierge/impl.errNoRec"], ifaces := true, apart := false, laid := [("loop.example/concierge/impl.errNoRec", laid_loop_example_concierge_impl_errNoRec)], narrowed := true }
def FnLogAddUptoSaid : Prop := fnLogAddUptoRow.holds Tryd.pinned (OpenSpec.upto fnLogAddSpec)

/-- 'laws.FnLogForce', WHERE WHAT IT READS IS OF BULK AT MOST 1048576: true; the input reads as it did. -/
def fnLogForceUptoRow : OpenClaim := { program := "ytgbikmcpcolcpaadoor", sum := "c6211d4ede64feb3f7677a65ac1fe49a9718b3a9c67efa6476dba7ce4b473cb0", func := "loop.example/concierge/laws.FnLogForce", spec := "fnLogForce", inPlace := ["internal/reflectlite.TypeOf"], unfollowed := true, recurses := true, named := ["loop.example/concierge/impl.errNoRec"], ifaces := true, apart := false, laid := [("loop.example/concierge/impl.errNoRec", laid_loop_example_concierge_impl_errNoRec)], narrowed := true }
def FnLogForceUptoSaid : Prop := fnLogForceUptoRow.holds Tryd.pinned (OpenSpec.upto fnLogForceSpec)

/-- 'laws.FnLogFall', WHERE WHAT IT READS IS OF BULK AT MOST 1048576: true; the input reads as it did. -/
def fnLogFallUptoRow : OpenClaim := { program := "ytgbikmcpcolcpaadoor", sum := "c6211d4ede64feb3f7677a65ac1fe49a9718b3a9c67efa6476dba7ce4b473cb0", func := "loop.example/concierge/laws.FnLogFall", spec := "fnLogFall", inPlace := ["internal/reflectlite.TypeOf"], unfollowed := true, recurses := true, named := ["loop.example/concierge/impl.errNoRec"], ifaces := true, apart := false, laid := [("loop.example/concierge/impl.errNoRec", laid_loop_example_concierge_impl_errNoRec)], narrowed := true }
def FnLogFallUptoSaid : Prop := fnLogFallUptoRow.holds Tryd.pinned (OpenSpec.upto fnLogFallSpec)

/-- 'laws.FnLogMore', WHERE WHAT IT READS IS OF BULK AT MOST 1048576: true; the input reads as it did. -/
def fnLogMoreUptoRow : OpenClaim := { program := "ytgbikmcpcolcpaadoor", sum := "c6211d4ede64feb3f7677a65ac1fe49a9718b3a9c67efa6476dba7ce4b473cb0", func := "loop.example/concierge/laws.FnLogMore", spec := "fnLogMore", inPlace := ["internal/reflectlite.TypeOf"], unfollowed := true, recurses := true, named := ["loop.example/concierge/impl.errNoRec"], ifaces := true, apart := false, laid := [("loop.example/concierge/impl.errNoRec", laid_loop_example_concierge_impl_errNoRec)], narrowed := true }
def FnLogMoreUptoSaid : Prop := fnLogMoreUptoRow.holds Tryd.pinned (OpenSpec.upto fnLogMoreSpec)

/-- 'laws.FnLogLess', WHERE WHAT IT READS IS OF BULK AT MOST 1048576: true; the input reads as it did. -/
def fnLogLessUptoRow : OpenClaim := { program := "ytgbikmcpcolcpaadoor", sum := "c6211d4ede64feb3f7677a65ac1fe49a9718b3a9c67efa6476dba7ce4b473cb0", func := "loop.example/concierge/laws.FnLogLess", spec := "fnLogLess", inPlace := ["internal/reflectlite.TypeOf"], unfollowed := true, recurses := true, named := ["loop.example/concierge/impl.errNoRec"], ifaces := true, apart := false, laid := [("loop.example/concierge/impl.errNoRec", laid_loop_example_concierge_impl_errNoRec)], narrowed := true }
def FnLogLessUptoSaid : Prop := fnLogLessUptoRow.holds Tryd.pinned (OpenSpec.upto fnLogLessSpec)

/-- 'laws.FnLogAddFall', WHERE WHAT IT READS IS OF BULK AT MOST 1048576: true; the input reads as it did. -/
def fnLogAddFallUptoRow : OpenClaim := { program := "ytgbikmcpcolcpaadoor", sum := "c6211d4ede64feb3f7677a65ac1fe49a9718b3a9c67efa6476dba7ce4b473cb0", func := "loop.example/concierge/laws.FnLogAddFall", spec := "fnLogAddFall", inPlace := ["internal/reflectlite.TypeOf"], unfollowed := true, recurses := true, named := ["loop.example/concierge/impl.errNoRec"], ifaces := true, apart := false, laid := [("loop.example/concierge/impl.errNoRec", laid_loop_example_concierge_impl_errNoRec)], narrowed := true }
def FnLogAddFallUptoSaid : Prop := fnLogAddFallUptoRow.holds Tryd.pinned (OpenSpec.upto fnLogAddFallSpec)

end Rows
end Go.Proofs.YtgbikmcpcolcpaaDoor
