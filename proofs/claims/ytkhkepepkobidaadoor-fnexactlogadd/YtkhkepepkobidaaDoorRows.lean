/-
  NARROWER THAN 'FOR EVERY INPUT', by the rows' own cells (each row's printed sentence says how): FnExactRecOk: ifaces, laid · FnExactLogOk: ifaces, laid · FnExactLogAdd: ifaces, laid · FnExactLogForce: ifaces, laid · FnExactLogFall: ifaces, laid.
  DERIVED. THE GIVEN ROWS OF THIS SEAT. 5 by the template 'for every input the law returns true; each argument reads behind the call as it read before'; 0 by the template 'total and deterministic' (their statements: YtkhkepepkobidaaDoorTotals.lean).
  GIVEN WITH THE SEED: the statements are not yours to turn. If you find one false, say at which input.
  Laid BY PROGRAM, IN A SANDBOX (cutbox-rows.mjs): the forced cells as the released guide's own fill.sh prints them over the translation f22c500b8ce2cbd7… (all of the seat's roots in one cut). By AI agents, Wed Nov 11 2026. No macro, syntax, notation, axiom, sorry.
-/
import Derived.Test.YtkhkepepkobidaaDoorChecked
import GoSem.Claim
import GoSem.ClaimJoined
import GoSem.ClaimMapViews
import Derived.JoinedTies
import Derived.KernelRfl
namespace Go.Proofs.YtkhkepepkobidaaDoor
/- THE CELL 'sum', in the pinned program and in every row, IS THE sha256 OF THE DUMP (.gsa) THAT YtkhkepepkobidaaDoorProg.lean LOADS. Nothing in Lean hashes anything: it is a label: what it is worth is what the hold of that sum in a sandbox is worth. -/
noncomputable def Tryd.pinned : Pinned := { name := "ytkhkepepkobidaadoor", sum := "f22c500b8ce2cbd757bc1ff1f649d3a66616da953c0b2bb76e516493f5629e29", checked := Tryd.checked }
namespace Rows
def none {H : Type} : Left H := { results := [], args := [] }

/- WHAT THE LISTED PACKAGE-LEVEL VARIABLES READ AS WHEN THE CALL BEGINS. Each datum BY PROGRAM (the guide's laid-datum.mjs) off the statement by which the dump's own 'gosem.cut.vars' lays the variable. In a bare row this is a premise. The card (YtkhkepepkobidaaDoorCards.lean) ties it to the program's text. -/
def laid_loop_example_concierge_impl_errNoRec {H : Type} : DataW H := .iface "*errors.errorString" (.ptr (.agg [.lit (.string [110, 111, 32, 114, 101, 99, 111, 114, 100])]))

/-- 'laws.FnExactRecOk': WHATEVER THE INPUT: true; the input reads as it did. -/
def fnExactRecOkSpec : ChangeSpec := { name := "fnExactRecOk", vars := ["loop.example/concierge/impl.errNoRec"], fn := fun _ => fun
  | [d, g1] => { results := [.lit (.bool true)], args := [d], vars := [g1] }
  | _ => none }
def fnExactRecOkRow : OpenClaim := { program := "ytkhkepepkobidaadoor", sum := "f22c500b8ce2cbd757bc1ff1f649d3a66616da953c0b2bb76e516493f5629e29", func := "loop.example/concierge/laws.FnExactRecOk", spec := "fnExactRecOk", inPlace := ["internal/reflectlite.TypeOf"], unfollowed := true, recurses := true, named := ["loop.example/concierge/impl.errNoRec"], ifaces := true, apart := false, laid := [("loop.example/concierge/impl.errNoRec", laid_loop_example_concierge_impl_errNoRec)] }
def FnExactRecOkSaid : Prop := fnExactRecOkRow.holds Tryd.pinned (OpenSpec.ofChange fnExactRecOkSpec)

/-- ITS FALSE NEIGHBOUR: 'it returns false'. Refute it at one input. -/
def fnExactRecOkWrong : ChangeSpec := { name := "fnExactRecOk", vars := ["loop.example/concierge/impl.errNoRec"], fn := fun _ => fun
  | [d, g1] => { results := [.lit (.bool false)], args := [d], vars := [g1] }
  | _ => none }
def FnExactRecOkWrongFalsely : Prop := fnExactRecOkRow.holds Tryd.pinned (OpenSpec.ofChange fnExactRecOkWrong)

/-- 'laws.FnExactLogOk': WHATEVER THE INPUT: true; the input reads as it did. -/
def fnExactLogOkSpec : ChangeSpec := { name := "fnExactLogOk", vars := ["loop.example/concierge/impl.errNoRec"], fn := fun _ => fun
  | [d, g1] => { results := [.lit (.bool true)], args := [d], vars := [g1] }
  | _ => none }
def fnExactLogOkRow : OpenClaim := { program := "ytkhkepepkobidaadoor", sum := "f22c500b8ce2cbd757bc1ff1f649d3a66616da953c0b2bb76e516493f5629e29", func := "loop.example/concierge/laws.FnExactLogOk", spec := "fnExactLogOk", inPlace := ["internal/reflectlite.TypeOf"], unfollowed := true, recurses := true, named := ["loop.example/concierge/impl.errNoRec"], ifaces := true, apart := false, laid := [("loop.example/concierge/impl.errNoRec", laid_loop_example_concierge_impl_errNoRec)] }
def FnExactLogOkSaid : Prop := fnExactLogOkRow.holds Tryd.pinned (OpenSpec.ofChange fnExactLogOkSpec)

/-- ITS FALSE NEIGHBOUR: 'it returns false'. Refute it at one input. -/
def fnExactLogOkWrong : ChangeSpec := { name := "fnExactLogOk", vars := ["loop.example/concierge/impl.errNoRec"], fn := fun _ => fun
  | [d, g1] => { results := [.lit (.bool false)], args := [d], vars := [g1] }
  | _ => none }
def FnExactLogOkWrongFalsely : Prop := fnExactLogOkRow.holds Tryd.pinned (OpenSpec.ofChange fnExactLogOkWrong)

/-- 'laws.FnExactLogAdd': WHATEVER THE INPUT: true; the input reads as it did. -/
def fnExactLogAddSpec : ChangeSpec := { name := "fnExactLogAdd", vars := ["loop.example/concierge/impl.errNoRec"], fn := fun _ => fun
  | [d1, d2, g1] => { results := [.lit (.bool true)], args := [d1, d2], vars := [g1] }
  | _ => none }
def fnExactLogAddRow : OpenClaim := { program := "ytkhkepepkobidaadoor", sum := "f22c500b8ce2cbd757bc1ff1f649d3a66616da953c0b2bb76e516493f5629e29", func := "loop.example/concierge/laws.FnExactLogAdd", spec := "fnExactLogAdd", inPlace := ["internal/reflectlite.TypeOf"], unfollowed := true, recurses := true, named := ["loop.example/concierge/impl.errNoRec"], ifaces := true, apart := false, laid := [("loop.example/concierge/impl.errNoRec", laid_loop_example_concierge_impl_errNoRec)] }
def FnExactLogAddSaid : Prop := fnExactLogAddRow.holds Tryd.pinned (OpenSpec.ofChange fnExactLogAddSpec)

/-- ITS FALSE NEIGHBOUR: 'it returns false'. Refute it at one input. -/
def fnExactLogAddWrong : ChangeSpec := { name := "fnExactLogAdd", vars := ["loop.example/concierge/impl.errNoRec"], fn := fun _ => fun
  | [d1, d2, g1] => { results := [.lit (.bool false)], args := [d1, d2], vars := [g1] }
  | _ => none }
def FnExactLogAddWrongFalsely : Prop := fnExactLogAddRow.holds Tryd.pinned (OpenSpec.ofChange fnExactLogAddWrong)

/-- 'laws.FnExactLogForce': WHATEVER THE INPUT: true; the input reads as it did. -/
def fnExactLogForceSpec : ChangeSpec := { name := "fnExactLogForce", vars := ["loop.example/concierge/impl.errNoRec"], fn := fun _ => fun
  | [d, g1] => { results := [.lit (.bool true)], args := [d], vars := [g1] }
  | _ => none }
def fnExactLogForceRow : OpenClaim := { program := "ytkhkepepkobidaadoor", sum := "f22c500b8ce2cbd757bc1ff1f649d3a66616da953c0b2bb76e516493f5629e29", func := "loop.example/concierge/laws.FnExactLogForce", spec := "fnExactLogForce", inPlace := ["internal/reflectlite.TypeOf"], unfollowed := true, recurses := true, named := ["loop.example/concierge/impl.errNoRec"], ifaces := true, apart := false, laid := [("loop.example/concierge/impl.errNoRec", laid_loop_example_concierge_impl_errNoRec)] }
def FnExactLogForceSaid : Prop := fnExactLogForceRow.holds Tryd.pinned (OpenSpec.ofChange fnExactLogForceSpec)

/-- ITS FALSE NEIGHBOUR: 'it returns false'. Refute it at one input. -/
def fnExactLogForceWrong : ChangeSpec := { name := "fnExactLogForce", vars := ["loop.example/concierge/impl.errNoRec"], fn := fun _ => fun
  | [d, g1] => { results := [.lit (.bool false)], args := [d], vars := [g1] }
  | _ => none }
def FnExactLogForceWrongFalsely : Prop := fnExactLogForceRow.holds Tryd.pinned (OpenSpec.ofChange fnExactLogForceWrong)

/-- 'laws.FnExactLogFall': WHATEVER THE INPUT: true; the input reads as it did. -/
def fnExactLogFallSpec : ChangeSpec := { name := "fnExactLogFall", vars := ["loop.example/concierge/impl.errNoRec"], fn := fun _ => fun
  | [d1, d2, g1] => { results := [.lit (.bool true)], args := [d1, d2], vars := [g1] }
  | _ => none }
def fnExactLogFallRow : OpenClaim := { program := "ytkhkepepkobidaadoor", sum := "f22c500b8ce2cbd757bc1ff1f649d3a66616da953c0b2bb76e516493f5629e29", func := "loop.example/concierge/laws.FnExactLogFall", spec := "fnExactLogFall", inPlace := ["internal/reflectlite.TypeOf"], unfollowed := true, recurses := true, named := ["loop.example/concierge/impl.errNoRec"], ifaces := true, apart := false, laid := [("loop.example/concierge/impl.errNoRec", laid_loop_example_concierge_impl_errNoRec)] }
def FnExactLogFallSaid : Prop := fnExactLogFallRow.holds Tryd.pinned (OpenSpec.ofChange fnExactLogFallSpec)

/-- ITS FALSE NEIGHBOUR: 'it returns false'. Refute it at one input. -/
def fnExactLogFallWrong : ChangeSpec := { name := "fnExactLogFall", vars := ["loop.example/concierge/impl.errNoRec"], fn := fun _ => fun
  | [d1, d2, g1] => { results := [.lit (.bool false)], args := [d1, d2], vars := [g1] }
  | _ => none }
def FnExactLogFallWrongFalsely : Prop := fnExactLogFallRow.holds Tryd.pinned (OpenSpec.ofChange fnExactLogFallWrong)

/- THE SECOND FORM. 'bulk': how many values and letters a reading holds, each counted each time it is reached (what is shared counts as often as it is met; a slice's spare places count too). A statement '..UptoSaid' is the law's where the arguments, and the package variables that the reading takes, are together of bulk at most 1048576: NARROWER than '..Said'. Prove '..Said' where nothing that the law and all that it calls make is longer than what came in: it says more and counts as full. Else prove '..UptoSaid'. A law counts once. -/
mutual
def uptoBulk {H : Type} : DataW H → Nat
  | .lit (.string bytes) => bytes.length + 1
  | .lit _ => 1
  | .nil => 1
  | .ptr d => uptoBulk d + 1
  | .slice elems spare => uptoBulkAll elems + uptoBulkAll spare + 1
  | .agg parts => uptoBulkAll parts + 1
  | .iface _ d => uptoBulk d + 1
  | .map entries => uptoBulkEntries entries + 1
  | .held _ => 1
def uptoBulkAll {H : Type} : List (DataW H) → Nat
  | [] => 0
  | d :: r => uptoBulk d + uptoBulkAll r
def uptoBulkEntries {H : Type} : List (Lit × DataW H) → Nat
  | [] => 0
  | x :: r => uptoBulkEntry x + uptoBulkEntries r
def uptoBulkEntry {H : Type} : Lit × DataW H → Nat
  | (.string bytes, d) => bytes.length + uptoBulk d + 1
  | (_, d) => uptoBulk d + 1
 end
def uptoSmall : (H : Type) → List (DataW H) → Bool := fun _ ds => decide (uptoBulkAll ds ≤ 1048576)
def OpenSpec.upto (s : _root_.Go.ChangeSpec) : _root_.Go.OpenSpec := { _root_.Go.OpenSpec.ofChange s with cond := some uptoSmall }

/-- 'laws.FnExactRecOk', WHERE WHAT IT READS IS OF BULK AT MOST 1048576: true; the input reads as it did. -/
def fnExactRecOkUptoRow : OpenClaim := { program := "ytkhkepepkobidaadoor", sum := "f22c500b8ce2cbd757bc1ff1f649d3a66616da953c0b2bb76e516493f5629e29", func := "loop.example/concierge/laws.FnExactRecOk", spec := "fnExactRecOk", inPlace := ["internal/reflectlite.TypeOf"], unfollowed := true, recurses := true, named := ["loop.example/concierge/impl.errNoRec"], ifaces := true, apart := false, laid := [("loop.example/concierge/impl.errNoRec", laid_loop_example_concierge_impl_errNoRec)], narrowed := true }
def FnExactRecOkUptoSaid : Prop := fnExactRecOkUptoRow.holds Tryd.pinned (OpenSpec.upto fnExactRecOkSpec)

/-- 'laws.FnExactLogOk', WHERE WHAT IT READS IS OF BULK AT MOST 1048576: true; the input reads as it did. -/
def fnExactLogOkUptoRow : OpenClaim := { program := "ytkhkepepkobidaadoor", sum := "f22c500b8ce2cbd757bc1ff1f649d3a66616da953c0b2bb76e516493f5629e29", func := "loop.example/concierge/laws.FnExactLogOk", spec := "fnExactLogOk", inPlace := ["internal/reflectlite.TypeOf"], unfollowed := true, recurses := true, named := ["loop.example/concierge/impl.errNoRec"], ifaces := true, apart := false, laid := [("loop.example/concierge/impl.errNoRec", laid_loop_example_concierge_impl_errNoRec)], narrowed := true }
def FnExactLogOkUptoSaid : Prop := fnExactLogOkUptoRow.holds Tryd.pinned (OpenSpec.upto fnExactLogOkSpec)

/-- 'laws.FnExactLogAdd', WHERE WHAT IT READS IS OF BULK AT MOST 1048576: true; the input reads as it did. -/
def fnExactLogAddUptoRow : OpenClaim := { program := "ytkhkepepkobidaadoor", sum := "f22c500b8ce2cbd757bc1ff1f649d3a66616da953c0b2bb76e516493f5629e29", func := "loop.example/concierge/laws.FnExactLogAdd", spec := "fnExactLogAdd", inPlace := ["internal/reflectlite.TypeOf"], unfollowed := true, recurses := true, named := ["loop.example/concierge/impl.errNoRec"], ifaces := true, apart := false, laid := [("loop.example/concierge/impl.errNoRec", laid_loop_example_concierge_impl_errNoRec)], narrowed := true }
def FnExactLogAddUptoSaid : Prop := fnExactLogAddUptoRow.holds Tryd.pinned (OpenSpec.upto fnExactLogAddSpec)

/-- 'laws.FnExactLogForce', WHERE WHAT IT READS IS OF BULK AT MOST 1048576: true; the input reads as it did. -/
def fnExactLogForceUptoRow : OpenClaim := { program := "ytkhkepepkobidaadoor", sum := "f22c500b8ce2cbd757bc1ff1f649d3a66616da953c0b2bb76e516493f5629e29", func := "loop.example/concierge/laws.FnExactLogForce", spec := "fnExactLogForce", inPlace := ["internal/reflectlite.TypeOf"], unfollowed := true, recurses := true, named := ["loop.example/concierge/impl.errNoRec"], ifaces := true, apart := false, laid := [("loop.example/concierge/impl.errNoRec", laid_loop_example_concierge_impl_errNoRec)], narrowed := true }
def FnExactLogForceUptoSaid : Prop := fnExactLogForceUptoRow.holds Tryd.pinned (OpenSpec.upto fnExactLogForceSpec)

/-- 'laws.FnExactLogFall', WHERE WHAT IT READS IS OF BULK AT MOST 1048576: true; the input reads as it did. -/
def fnExactLogFallUptoRow : OpenClaim := { program := "ytkhkepepkobidaadoor", sum := "f22c500b8ce2cbd757bc1ff1f649d3a66616da953c0b2bb76e516493f5629e29", func := "loop.example/concierge/laws.FnExactLogFall", spec := "fnExactLogFall", inPlace := ["internal/reflectlite.TypeOf"], unfollowed := true, recurses := true, named := ["loop.example/concierge/impl.errNoRec"], ifaces := true, apart := false, laid := [("loop.example/concierge/impl.errNoRec", laid_loop_example_concierge_impl_errNoRec)], narrowed := true }
def FnExactLogFallUptoSaid : Prop := fnExactLogFallUptoRow.holds Tryd.pinned (OpenSpec.upto fnExactLogFallSpec)

end Rows
end Go.Proofs.YtkhkepepkobidaaDoor
