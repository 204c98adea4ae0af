/-
  NARROWER THAN 'FOR EVERY INPUT', by the rows' own cells (each row's printed sentence says how): FnExactHouseHear: ifaces, laid · FnHearSure: ifaces, laid · FnHearAgain: ifaces, laid · FnHearTwice: ifaces, laid · FnHearOther: ifaces, laid · FnHearFull: ifaces, laid.
  DERIVED. THE GIVEN ROWS OF THIS SEAT. 6 by the template 'for every input the law returns true; each argument reads behind the call as it read before'; 0 by the template 'total and deterministic' (their statements: YtcogplmopdckhaaGreatDoorTotals.lean).
  GIVEN WITH THE SEED: the statements are not yours to turn. If you find one false, say at which input.
  Laid BY PROGRAM, IN A SANDBOX (cutbox-rows.mjs): the forced cells as the released guide's own fill.sh prints them over the translation 0c4ae0813dbeb70e… (all of the seat's roots in one cut). By AI agents, Wed Nov 11 2026. No macro, syntax, notation, axiom, sorry.
-/
import Derived.Test.YtcogplmopdckhaaGreatDoorChecked
import GoSem.Claim
import GoSem.ClaimJoined
import GoSem.ClaimMapViews
import Derived.JoinedTies
import Derived.KernelRfl
namespace Go.Proofs.YtcogplmopdckhaaGreatDoor
/- THE CELL 'sum', in the pinned program and in every row, IS THE sha256 OF THE DUMP (.gsa) THAT YtcogplmopdckhaaGreatDoorProg.lean LOADS. Nothing in Lean hashes anything: it is a label: what it is worth is what the hold of that sum in a sandbox is worth. -/
noncomputable def Tryz.pinned : Pinned := { name := "ytcogplmopdckhaagreatdoor", sum := "0c4ae0813dbeb70ea57a9e6440afa2875abc4be9a7075dc92efdab9da7e1323d", checked := Tryz.checked }
namespace Rows
def none {H : Type} : Left H := { results := [], args := [] }

/- WHAT THE LISTED PACKAGE-LEVEL VARIABLES READ AS WHEN THE CALL BEGINS. Each datum BY PROGRAM (the guide's laid-datum.mjs) off the statement by which the dump's own 'gosem.cut.vars' lays the variable. In a bare row this is a premise. The card (YtcogplmopdckhaaGreatDoorCards.lean) ties it to the program's text. -/
def laid_loop_example_concierge_impl_errNoRec {H : Type} : DataW H := .iface "*errors.errorString" (.ptr (.agg [.lit (.string [110, 111, 32, 114, 101, 99, 111, 114, 100])]))

/-- 'laws.FnExactHouseHear': WHATEVER THE INPUT: true; the input reads as it did. -/
def fnExactHouseHearSpec : ChangeSpec := { name := "fnExactHouseHear", vars := ["loop.example/concierge/impl.errNoRec"], fn := fun _ => fun
  | [d1, d2, g1] => { results := [.lit (.bool true)], args := [d1, d2], vars := [g1] }
  | _ => none }
def fnExactHouseHearRow : OpenClaim := { program := "ytcogplmopdckhaagreatdoor", sum := "0c4ae0813dbeb70ea57a9e6440afa2875abc4be9a7075dc92efdab9da7e1323d", func := "loop.example/concierge/laws.FnExactHouseHear", spec := "fnExactHouseHear", inPlace := ["internal/reflectlite.TypeOf"], unfollowed := true, recurses := true, named := ["loop.example/concierge/impl.errNoRec"], ifaces := true, apart := false, laid := [("loop.example/concierge/impl.errNoRec", laid_loop_example_concierge_impl_errNoRec)] }
def FnExactHouseHearSaid : Prop := fnExactHouseHearRow.holds Tryz.pinned (OpenSpec.ofChange fnExactHouseHearSpec)

/-- ITS FALSE NEIGHBOUR: 'it returns false'. Refute it at one input. -/
def fnExactHouseHearWrong : ChangeSpec := { name := "fnExactHouseHear", vars := ["loop.example/concierge/impl.errNoRec"], fn := fun _ => fun
  | [d1, d2, g1] => { results := [.lit (.bool false)], args := [d1, d2], vars := [g1] }
  | _ => none }
def FnExactHouseHearWrongFalsely : Prop := fnExactHouseHearRow.holds Tryz.pinned (OpenSpec.ofChange fnExactHouseHearWrong)

/-- 'laws.FnHearSure': WHATEVER THE INPUT: true; the input reads as it did. -/
def fnHearSureSpec : ChangeSpec := { name := "fnHearSure", vars := ["loop.example/concierge/impl.errNoRec"], fn := fun _ => fun
  | [d, g1] => { results := [.lit (.bool true)], args := [d], vars := [g1] }
  | _ => none }
def fnHearSureRow : OpenClaim := { program := "ytcogplmopdckhaagreatdoor", sum := "0c4ae0813dbeb70ea57a9e6440afa2875abc4be9a7075dc92efdab9da7e1323d", func := "loop.example/concierge/laws.FnHearSure", spec := "fnHearSure", inPlace := ["internal/reflectlite.TypeOf"], unfollowed := true, recurses := true, named := ["loop.example/concierge/impl.errNoRec"], ifaces := true, apart := false, laid := [("loop.example/concierge/impl.errNoRec", laid_loop_example_concierge_impl_errNoRec)] }
def FnHearSureSaid : Prop := fnHearSureRow.holds Tryz.pinned (OpenSpec.ofChange fnHearSureSpec)

/-- ITS FALSE NEIGHBOUR: 'it returns false'. Refute it at one input. -/
def fnHearSureWrong : ChangeSpec := { name := "fnHearSure", vars := ["loop.example/concierge/impl.errNoRec"], fn := fun _ => fun
  | [d, g1] => { results := [.lit (.bool false)], args := [d], vars := [g1] }
  | _ => none }
def FnHearSureWrongFalsely : Prop := fnHearSureRow.holds Tryz.pinned (OpenSpec.ofChange fnHearSureWrong)

/-- 'laws.FnHearAgain': WHATEVER THE INPUT: true; the input reads as it did. -/
def fnHearAgainSpec : ChangeSpec := { name := "fnHearAgain", vars := ["loop.example/concierge/impl.errNoRec"], fn := fun _ => fun
  | [d, g1] => { results := [.lit (.bool true)], args := [d], vars := [g1] }
  | _ => none }
def fnHearAgainRow : OpenClaim := { program := "ytcogplmopdckhaagreatdoor", sum := "0c4ae0813dbeb70ea57a9e6440afa2875abc4be9a7075dc92efdab9da7e1323d", func := "loop.example/concierge/laws.FnHearAgain", spec := "fnHearAgain", inPlace := ["internal/reflectlite.TypeOf"], unfollowed := true, recurses := true, named := ["loop.example/concierge/impl.errNoRec"], ifaces := true, apart := false, laid := [("loop.example/concierge/impl.errNoRec", laid_loop_example_concierge_impl_errNoRec)] }
def FnHearAgainSaid : Prop := fnHearAgainRow.holds Tryz.pinned (OpenSpec.ofChange fnHearAgainSpec)

/-- ITS FALSE NEIGHBOUR: 'it returns false'. Refute it at one input. -/
def fnHearAgainWrong : ChangeSpec := { name := "fnHearAgain", vars := ["loop.example/concierge/impl.errNoRec"], fn := fun _ => fun
  | [d, g1] => { results := [.lit (.bool false)], args := [d], vars := [g1] }
  | _ => none }
def FnHearAgainWrongFalsely : Prop := fnHearAgainRow.holds Tryz.pinned (OpenSpec.ofChange fnHearAgainWrong)

/-- 'laws.FnHearTwice': WHATEVER THE INPUT: true; the input reads as it did. -/
def fnHearTwiceSpec : ChangeSpec := { name := "fnHearTwice", vars := ["loop.example/concierge/impl.errNoRec"], fn := fun _ => fun
  | [d, g1] => { results := [.lit (.bool true)], args := [d], vars := [g1] }
  | _ => none }
def fnHearTwiceRow : OpenClaim := { program := "ytcogplmopdckhaagreatdoor", sum := "0c4ae0813dbeb70ea57a9e6440afa2875abc4be9a7075dc92efdab9da7e1323d", func := "loop.example/concierge/laws.FnHearTwice", spec := "fnHearTwice", inPlace := ["internal/reflectlite.TypeOf"], unfollowed := true, recurses := true, named := ["loop.example/concierge/impl.errNoRec"], ifaces := true, apart := false, laid := [("loop.example/concierge/impl.errNoRec", laid_loop_example_concierge_impl_errNoRec)] }
def FnHearTwiceSaid : Prop := fnHearTwiceRow.holds Tryz.pinned (OpenSpec.ofChange fnHearTwiceSpec)

/-- ITS FALSE NEIGHBOUR: 'it returns false'. Refute it at one input. -/
def fnHearTwiceWrong : ChangeSpec := { name := "fnHearTwice", vars := ["loop.example/concierge/impl.errNoRec"], fn := fun _ => fun
  | [d, g1] => { results := [.lit (.bool false)], args := [d], vars := [g1] }
  | _ => none }
def FnHearTwiceWrongFalsely : Prop := fnHearTwiceRow.holds Tryz.pinned (OpenSpec.ofChange fnHearTwiceWrong)

/-- 'laws.FnHearOther': WHATEVER THE INPUT: true; the input reads as it did. -/
def fnHearOtherSpec : ChangeSpec := { name := "fnHearOther", vars := ["loop.example/concierge/impl.errNoRec"], fn := fun _ => fun
  | [d, g1] => { results := [.lit (.bool true)], args := [d], vars := [g1] }
  | _ => none }
def fnHearOtherRow : OpenClaim := { program := "ytcogplmopdckhaagreatdoor", sum := "0c4ae0813dbeb70ea57a9e6440afa2875abc4be9a7075dc92efdab9da7e1323d", func := "loop.example/concierge/laws.FnHearOther", spec := "fnHearOther", inPlace := ["internal/reflectlite.TypeOf"], unfollowed := true, recurses := true, named := ["loop.example/concierge/impl.errNoRec"], ifaces := true, apart := false, laid := [("loop.example/concierge/impl.errNoRec", laid_loop_example_concierge_impl_errNoRec)] }
def FnHearOtherSaid : Prop := fnHearOtherRow.holds Tryz.pinned (OpenSpec.ofChange fnHearOtherSpec)

/-- ITS FALSE NEIGHBOUR: 'it returns false'. Refute it at one input. -/
def fnHearOtherWrong : ChangeSpec := { name := "fnHearOther", vars := ["loop.example/concierge/impl.errNoRec"], fn := fun _ => fun
  | [d, g1] => { results := [.lit (.bool false)], args := [d], vars := [g1] }
  | _ => none }
def FnHearOtherWrongFalsely : Prop := fnHearOtherRow.holds Tryz.pinned (OpenSpec.ofChange fnHearOtherWrong)

/-- 'laws.FnHearFull': WHATEVER THE INPUT: true; the input reads as it did. -/
def fnHearFullSpec : ChangeSpec := { name := "fnHearFull", vars := ["loop.example/concierge/impl.errNoRec"], fn := fun _ => fun
  | [d, g1] => { results := [.lit (.bool true)], args := [d], vars := [g1] }
  | _ => none }
def fnHearFullRow : OpenClaim := { program := "ytcogplmopdckhaagreatdoor", sum := "0c4ae0813dbeb70ea57a9e6440afa2875abc4be9a7075dc92efdab9da7e1323d", func := "loop.example/concierge/laws.FnHearFull", spec := "fnHearFull", inPlace := ["internal/reflectlite.TypeOf"], unfollowed := true, recurses := true, named := ["loop.example/concierge/impl.errNoRec"], ifaces := true, apart := false, laid := [("loop.example/concierge/impl.errNoRec", laid_loop_example_concierge_impl_errNoRec)] }
def FnHearFullSaid : Prop := fnHearFullRow.holds Tryz.pinned (OpenSpec.ofChange fnHearFullSpec)

/-- ITS FALSE NEIGHBOUR: 'it returns false'. Refute it at one input. -/
def fnHearFullWrong : ChangeSpec := { name := "fnHearFull", vars := ["loop.example/concierge/impl.errNoRec"], fn := fun _ => fun
  | [d, g1] => { results := [.lit (.bool false)], args := [d], vars := [g1] }
  | _ => none }
def FnHearFullWrongFalsely : Prop := fnHearFullRow.holds Tryz.pinned (OpenSpec.ofChange fnHearFullWrong)

/- THE SECOND FORM. 'bulk': how many values and letters a reading holds, each counted each time it is reached (what is shared counts as often as it is met; a slice's spare places count too). A statement '..UptoSaid' is the law's where the arguments, and the package variables that the reading takes, are together of bulk at most 1048576: NARROWER than '..Said'. Prove '..Said' where nothing that the law and all that it calls make is longer than what came in: it says more and counts as full. Else prove '..UptoSaid'. A law counts once. -/
mutual
def uptoBulk {H : Type} : DataW H → Nat
  | .lit (.string bytes) => bytes.length + 1
  | .lit _ => 1
  | .nil => 1
  | .ptr d => uptoBulk d + 1
  | .slice elems spare => uptoBulkAll elems + uptoBulkAll spare + 1
  | .agg parts => uptoBulkAll parts + 1
  | .iface _ d => uptoBulk d + 1
  | .map entries => uptoBulkEntries entries + 1
  | .held _ => 1
def uptoBulkAll {H : Type} : List (DataW H) → Nat
  | [] => 0
  | d :: r => uptoBulk d + uptoBulkAll r
def uptoBulkEntries {H : Type} : List (Lit × DataW H) → Nat
  | [] => 0
  | x :: r => uptoBulkEntry x + uptoBulkEntries r
def uptoBulkEntry {H : Type} : Lit × DataW H → Nat
  | (.string bytes, d) => bytes.length + uptoBulk d + 1
  | (_, d) => uptoBulk d + 1
 end
def uptoSmall : (H : Type) → List (DataW H) → Bool := fun _ ds => decide (uptoBulkAll ds ≤ 1048576)
def OpenSpec.upto (s : _root_.Go.ChangeSpec) : _root_.Go.OpenSpec := { _root_.Go.OpenSpec.ofChange s with cond := some uptoSmall }

/-- 'laws.FnExactHouseHear', WHERE WHAT IT READS IS OF BULK AT MOST 1048576: true; the input reads as it did. -/
def fnExactHouseHearUptoRow : OpenClaim := { program := "ytcogplmopdckhaagreatdoor", sum := "0c4ae0813dbeb70ea57a9e6440afa2875abc4be9a7075dc92efdab9da7e1323d", func := "loop.example/concierge/laws.FnExactHouseHear", spec := "fnExactHouseHear", inPlace := ["internal/reflectlite.TypeOf"], unfollowed := true, recurses := true, named := ["loop.example/concierge/impl.errNoRec"], ifaces := true, apart := false, laid := [("loop.example/concierge/impl.errNoRec", laid_loop_example_concierge_impl_errNoRec)], narrowed := true }
def FnExactHouseHearUptoSaid : Prop := fnExactHouseHearUptoRow.holds Tryz.pinned (OpenSpec.upto fnExactHouseHearSpec)

/-- 'laws.FnHearSure', WHERE WHAT IT READS IS OF BULK AT MOST 1048576: true; the input reads as it did. -/
def fnHearSureUptoRow : OpenClaim := { program := "ytcogplmopdckhaagreatdoor", sum := "0c4ae0813dbeb70ea57a9e6440afa2875abc4be9a7075dc92efdab9da7e1323d", func := "loop.example/concierge/laws.FnHearSure", spec := "fnHearSure", inPlace := ["internal/reflectlite.TypeOf"], unfollowed := true, recurses := true, named := ["loop.example/concierge/impl.errNoRec"], ifaces := true, apart := false, laid := [("loop.example/concierge/impl.errNoRec", laid_loop_example_concierge_impl_errNoRec)], narrowed := true }
def FnHearSureUptoSaid : Prop := fnHearSureUptoRow.holds Tryz.pinned (OpenSpec.upto fnHearSureSpec)

/-- 'laws.FnHearAgain', WHERE WHAT IT READS IS OF BULK AT MOST 1048576: true; the input reads as it did. -/
def fnHearAgainUptoRow : OpenClaim := { program := "ytcogplmopdckhaagreatdoor", sum := "0c4ae0813dbeb70ea57a9e6440afa2875abc4be9a7075dc92efdab9da7e1323d", func := "loop.example/concierge/laws.FnHearAgain", spec := "fnHearAgain", inPlace := ["internal/reflectlite.TypeOf"], unfollowed := true, recurses := true, named := ["loop.example/concierge/impl.errNoRec"], ifaces := true, apart := false, laid := [("loop.example/concierge/impl.errNoRec", laid_loop_example_concierge_impl_errNoRec)], narrowed := true }
def FnHearAgainUptoSaid : Prop := fnHearAgainUptoRow.holds Tryz.pinned (OpenSpec.upto fnHearAgainSpec)

/-- 'laws.FnHearTwice', WHERE WHAT IT READS IS OF BULK AT MOST 1048576: true; the input reads as it did. -/
def fnHearTwiceUptoRow : OpenClaim := { program := "ytcogplmopdckhaagreatdoor", sum := "0c4ae0813dbeb70ea57a9e6440afa2875abc4be9a7075dc92efdab9da7e1323d", func := "loop.example/concierge/laws.FnHearTwice", spec := "fnHearTwice", inPlace := ["internal/reflectlite.TypeOf"], unfollowed := true, recurses := true, named := ["loop.example/concierge/impl.errNoRec"], ifaces := true, apart := false, laid := [("loop.example/concierge/impl.errNoRec", laid_loop_example_concierge_impl_errNoRec)], narrowed := true }
def FnHearTwiceUptoSaid : Prop := fnHearTwiceUptoRow.holds Tryz.pinned (OpenSpec.upto fnHearTwiceSpec)

/-- 'laws.FnHearOther', WHERE WHAT IT READS IS OF BULK AT MOST 1048576: true; the input reads as it did. -/
def fnHearOtherUptoRow : OpenClaim := { program := "ytcogplmopdckhaagreatdoor", sum := "0c4ae0813dbeb70ea57a9e6440afa2875abc4be9a7075dc92efdab9da7e1323d", func := "loop.example/concierge/laws.FnHearOther", spec := "fnHearOther", inPlace := ["internal/reflectlite.TypeOf"], unfollowed := true, recurses := true, named := ["loop.example/concierge/impl.errNoRec"], ifaces := true, apart := false, laid := [("loop.example/concierge/impl.errNoRec", laid_loop_example_concierge_impl_errNoRec)], narrowed := true }
def FnHearOtherUptoSaid : Prop := fnHearOtherUptoRow.holds Tryz.pinned (OpenSpec.upto fnHearOtherSpec)

/-- 'laws.FnHearFull', WHERE WHAT IT READS IS OF BULK AT MOST 1048576: true; the input reads as it did. -/
def fnHearFullUptoRow : OpenClaim := { program := "ytcogplmopdckhaagreatdoor", sum := "0c4ae0813dbeb70ea57a9e6440afa2875abc4be9a7075dc92efdab9da7e1323d", func := "loop.example/concierge/laws.FnHearFull", spec := "fnHearFull", inPlace := ["internal/reflectlite.TypeOf"], unfollowed := true, recurses := true, named := ["loop.example/concierge/impl.errNoRec"], ifaces := true, apart := false, laid := [("loop.example/concierge/impl.errNoRec", laid_loop_example_concierge_impl_errNoRec)], narrowed := true }
def FnHearFullUptoSaid : Prop := fnHearFullUptoRow.holds Tryz.pinned (OpenSpec.upto fnHearFullSpec)

end Rows
end Go.Proofs.YtcogplmopdckhaaGreatDoor
