/-
  NARROWER THAN 'FOR EVERY INPUT', by the rows' own cells (each row's printed sentence says how): FnStockNever: ifaces, laid · FnStockStep: ifaces, laid · FnStockTwice: ifaces, laid · FnStockOf: ifaces, laid · FnStockUndo: ifaces, laid · FnStockApart: ifaces, laid.
  DERIVED. THE GIVEN ROWS OF THIS SEAT. 6 by the template 'for every input the law returns true; each argument reads behind the call as it read before'; 0 by the template 'total and deterministic' (their statements: YtcofnjooiemkfaaDoorTotals.lean).
  GIVEN WITH THE SEED: the statements are not yours to turn. If you find one false, say at which input.
  Laid BY PROGRAM, IN A SANDBOX (cutbox-rows.mjs): the forced cells as the released guide's own fill.sh prints them over the translation 54052a8afa36138a… (all of the seat's roots in one cut). By AI agents, Wed Nov 11 2026. No macro, syntax, notation, axiom, sorry.
-/
import Derived.Test.YtcofnjooiemkfaaDoorChecked
import GoSem.Claim
import GoSem.ClaimJoined
import GoSem.ClaimMapViews
import Derived.JoinedTies
import Derived.KernelRfl
namespace Go.Proofs.YtcofnjooiemkfaaDoor
/- THE CELL 'sum', in the pinned program and in every row, IS THE sha256 OF THE DUMP (.gsa) THAT YtcofnjooiemkfaaDoorProg.lean LOADS. Nothing in Lean hashes anything: it is a label: what it is worth is what the hold of that sum in a sandbox is worth. -/
noncomputable def Tryd.pinned : Pinned := { name := "ytcofnjooiemkfaadoor", sum := "54052a8afa36138abba36fd3040e1d6902935311e5b9d659727848ac9b294ebd", checked := Tryd.checked }
namespace Rows
def none {H : Type} : Left H := { results := [], args := [] }

/- WHAT THE LISTED PACKAGE-LEVEL VARIABLES READ AS WHEN THE CALL BEGINS. Each datum BY PROGRAM (the guide's laid-datum.mjs) off the statement by which the dump's own 'gosem.cut.vars' lays the variable. In a bare row this is a premise. The card (YtcofnjooiemkfaaDoorCards.lean) ties it to the program's text. -/
def laid_loop_example_concierge_impl_errNoRec {H : Type} : DataW H := .iface "*errors.errorString" (.ptr (.agg [.lit (.string [110, 111, 32, 114, 101, 99, 111, 114, 100])]))

/-- 'laws.FnStockNever': WHATEVER THE INPUT: true; the input reads as it did. -/
def fnStockNeverSpec : ChangeSpec := { name := "fnStockNever", vars := ["loop.example/concierge/impl.errNoRec"], fn := fun _ => fun
  | [d, g1] => { results := [.lit (.bool true)], args := [d], vars := [g1] }
  | _ => none }
def fnStockNeverRow : OpenClaim := { program := "ytcofnjooiemkfaadoor", sum := "54052a8afa36138abba36fd3040e1d6902935311e5b9d659727848ac9b294ebd", func := "loop.example/concierge/laws.FnStockNever", spec := "fnStockNever", inPlace := ["internal/reflectlite.TypeOf"], unfollowed := true, recurses := true, named := ["loop.example/concierge/impl.errNoRec"], ifaces := true, apart := false, laid := [("loop.example/concierge/impl.errNoRec", laid_loop_example_concierge_impl_errNoRec)] }
def FnStockNeverSaid : Prop := fnStockNeverRow.holds Tryd.pinned (OpenSpec.ofChange fnStockNeverSpec)

/-- ITS FALSE NEIGHBOUR: 'it returns false'. Refute it at one input. -/
def fnStockNeverWrong : ChangeSpec := { name := "fnStockNever", vars := ["loop.example/concierge/impl.errNoRec"], fn := fun _ => fun
  | [d, g1] => { results := [.lit (.bool false)], args := [d], vars := [g1] }
  | _ => none }
def FnStockNeverWrongFalsely : Prop := fnStockNeverRow.holds Tryd.pinned (OpenSpec.ofChange fnStockNeverWrong)

/-- 'laws.FnStockStep': WHATEVER THE INPUT: true; the input reads as it did. -/
def fnStockStepSpec : ChangeSpec := { name := "fnStockStep", vars := ["loop.example/concierge/impl.errNoRec"], fn := fun _ => fun
  | [d, g1] => { results := [.lit (.bool true)], args := [d], vars := [g1] }
  | _ => none }
def fnStockStepRow : OpenClaim := { program := "ytcofnjooiemkfaadoor", sum := "54052a8afa36138abba36fd3040e1d6902935311e5b9d659727848ac9b294ebd", func := "loop.example/concierge/laws.FnStockStep", spec := "fnStockStep", inPlace := ["internal/reflectlite.TypeOf"], unfollowed := true, recurses := true, named := ["loop.example/concierge/impl.errNoRec"], ifaces := true, apart := false, laid := [("loop.example/concierge/impl.errNoRec", laid_loop_example_concierge_impl_errNoRec)] }
def FnStockStepSaid : Prop := fnStockStepRow.holds Tryd.pinned (OpenSpec.ofChange fnStockStepSpec)

/-- ITS FALSE NEIGHBOUR: 'it returns false'. Refute it at one input. -/
def fnStockStepWrong : ChangeSpec := { name := "fnStockStep", vars := ["loop.example/concierge/impl.errNoRec"], fn := fun _ => fun
  | [d, g1] => { results := [.lit (.bool false)], args := [d], vars := [g1] }
  | _ => none }
def FnStockStepWrongFalsely : Prop := fnStockStepRow.holds Tryd.pinned (OpenSpec.ofChange fnStockStepWrong)

/-- 'laws.FnStockTwice': WHATEVER THE INPUT: true; the input reads as it did. -/
def fnStockTwiceSpec : ChangeSpec := { name := "fnStockTwice", vars := ["loop.example/concierge/impl.errNoRec"], fn := fun _ => fun
  | [d, g1] => { results := [.lit (.bool true)], args := [d], vars := [g1] }
  | _ => none }
def fnStockTwiceRow : OpenClaim := { program := "ytcofnjooiemkfaadoor", sum := "54052a8afa36138abba36fd3040e1d6902935311e5b9d659727848ac9b294ebd", func := "loop.example/concierge/laws.FnStockTwice", spec := "fnStockTwice", inPlace := ["internal/reflectlite.TypeOf"], unfollowed := true, recurses := true, named := ["loop.example/concierge/impl.errNoRec"], ifaces := true, apart := false, laid := [("loop.example/concierge/impl.errNoRec", laid_loop_example_concierge_impl_errNoRec)] }
def FnStockTwiceSaid : Prop := fnStockTwiceRow.holds Tryd.pinned (OpenSpec.ofChange fnStockTwiceSpec)

/-- ITS FALSE NEIGHBOUR: 'it returns false'. Refute it at one input. -/
def fnStockTwiceWrong : ChangeSpec := { name := "fnStockTwice", vars := ["loop.example/concierge/impl.errNoRec"], fn := fun _ => fun
  | [d, g1] => { results := [.lit (.bool false)], args := [d], vars := [g1] }
  | _ => none }
def FnStockTwiceWrongFalsely : Prop := fnStockTwiceRow.holds Tryd.pinned (OpenSpec.ofChange fnStockTwiceWrong)

/-- 'laws.FnStockOf': WHATEVER THE INPUT: true; the input reads as it did. -/
def fnStockOfSpec : ChangeSpec := { name := "fnStockOf", vars := ["loop.example/concierge/impl.errNoRec"], fn := fun _ => fun
  | [d1, d2, g1] => { results := [.lit (.bool true)], args := [d1, d2], vars := [g1] }
  | _ => none }
def fnStockOfRow : OpenClaim := { program := "ytcofnjooiemkfaadoor", sum := "54052a8afa36138abba36fd3040e1d6902935311e5b9d659727848ac9b294ebd", func := "loop.example/concierge/laws.FnStockOf", spec := "fnStockOf", inPlace := ["internal/reflectlite.TypeOf"], unfollowed := true, recurses := true, named := ["loop.example/concierge/impl.errNoRec"], ifaces := true, apart := false, laid := [("loop.example/concierge/impl.errNoRec", laid_loop_example_concierge_impl_errNoRec)] }
def FnStockOfSaid : Prop := fnStockOfRow.holds Tryd.pinned (OpenSpec.ofChange fnStockOfSpec)

/-- ITS FALSE NEIGHBOUR: 'it returns false'. Refute it at one input. -/
def fnStockOfWrong : ChangeSpec := { name := "fnStockOf", vars := ["loop.example/concierge/impl.errNoRec"], fn := fun _ => fun
  | [d1, d2, g1] => { results := [.lit (.bool false)], args := [d1, d2], vars := [g1] }
  | _ => none }
def FnStockOfWrongFalsely : Prop := fnStockOfRow.holds Tryd.pinned (OpenSpec.ofChange fnStockOfWrong)

/-- 'laws.FnStockUndo': WHATEVER THE INPUT: true; the input reads as it did. -/
def fnStockUndoSpec : ChangeSpec := { name := "fnStockUndo", vars := ["loop.example/concierge/impl.errNoRec"], fn := fun _ => fun
  | [d1, d2, g1] => { results := [.lit (.bool true)], args := [d1, d2], vars := [g1] }
  | _ => none }
def fnStockUndoRow : OpenClaim := { program := "ytcofnjooiemkfaadoor", sum := "54052a8afa36138abba36fd3040e1d6902935311e5b9d659727848ac9b294ebd", func := "loop.example/concierge/laws.FnStockUndo", spec := "fnStockUndo", inPlace := ["internal/reflectlite.TypeOf"], unfollowed := true, recurses := true, named := ["loop.example/concierge/impl.errNoRec"], ifaces := true, apart := false, laid := [("loop.example/concierge/impl.errNoRec", laid_loop_example_concierge_impl_errNoRec)] }
def FnStockUndoSaid : Prop := fnStockUndoRow.holds Tryd.pinned (OpenSpec.ofChange fnStockUndoSpec)

/-- ITS FALSE NEIGHBOUR: 'it returns false'. Refute it at one input. -/
def fnStockUndoWrong : ChangeSpec := { name := "fnStockUndo", vars := ["loop.example/concierge/impl.errNoRec"], fn := fun _ => fun
  | [d1, d2, g1] => { results := [.lit (.bool false)], args := [d1, d2], vars := [g1] }
  | _ => none }
def FnStockUndoWrongFalsely : Prop := fnStockUndoRow.holds Tryd.pinned (OpenSpec.ofChange fnStockUndoWrong)

/-- 'laws.FnStockApart': WHATEVER THE INPUT: true; the input reads as it did. -/
def fnStockApartSpec : ChangeSpec := { name := "fnStockApart", vars := ["loop.example/concierge/impl.errNoRec"], fn := fun _ => fun
  | [d1, d2, g1] => { results := [.lit (.bool true)], args := [d1, d2], vars := [g1] }
  | _ => none }
def fnStockApartRow : OpenClaim := { program := "ytcofnjooiemkfaadoor", sum := "54052a8afa36138abba36fd3040e1d6902935311e5b9d659727848ac9b294ebd", func := "loop.example/concierge/laws.FnStockApart", spec := "fnStockApart", inPlace := ["internal/reflectlite.TypeOf"], unfollowed := true, recurses := true, named := ["loop.example/concierge/impl.errNoRec"], ifaces := true, apart := false, laid := [("loop.example/concierge/impl.errNoRec", laid_loop_example_concierge_impl_errNoRec)] }
def FnStockApartSaid : Prop := fnStockApartRow.holds Tryd.pinned (OpenSpec.ofChange fnStockApartSpec)

/-- ITS FALSE NEIGHBOUR: 'it returns false'. Refute it at one input. -/
def fnStockApartWrong : ChangeSpec := { name := "fnStockApart", vars := ["loop.example/concierge/impl.errNoRec"], fn := fun _ => fun
  | [d1, d2, g1] => { results := [.lit (.bool false)], args := [d1, d2], vars := [g1] }
  | _ => none }
def FnStockApartWrongFalsely : Prop := fnStockApartRow.holds Tryd.pinned (OpenSpec.ofChange fnStockApartWrong)

/- THE SECOND FORM. 'bulk': how many values and letters a reading holds, each counted each time it is reached (what is shared counts as often as it is met; a slice's spare places count too). A statement '..UptoSaid' is the law's where the arguments, and the package variables that the reading takes, are together of bulk at most 1048576: NARROWER than '..Said'. Prove '..Said' where nothing that the law and all that it calls make is longer than what came in: it says more and counts as full. Else prove '..UptoSaid'. A law counts once. -/
mutual
def uptoBulk {H : Type} : DataW H → Nat
  | .lit (.string bytes) => bytes.length + 1
  | .lit _ => 1
  | .nil => 1
  | .ptr d => uptoBulk d + 1
  | .slice elems spare => uptoBulkAll elems + uptoBulkAll spare + 1
  | .agg parts => uptoBulkAll parts + 1
  | .iface _ d => uptoBulk d + 1
  | .map entries => uptoBulkEntries entries + 1
  | .held _ => 1
def uptoBulkAll {H : Type} : List (DataW H) → Nat
  | [] => 0
  | d :: r => uptoBulk d + uptoBulkAll r
def uptoBulkEntries {H : Type} : List (Lit × DataW H) → Nat
  | [] => 0
  | x :: r => uptoBulkEntry x + uptoBulkEntries r
def uptoBulkEntry {H : Type} : Lit × DataW H → Nat
  | (.string bytes, d) => bytes.length + uptoBulk d + 1
  | (_, d) => uptoBulk d + 1
 end
def uptoSmall : (H : Type) → List (DataW H) → Bool := fun _ ds => decide (uptoBulkAll ds ≤ 1048576)
def OpenSpec.upto (s : _root_.Go.ChangeSpec) : _root_.Go.OpenSpec := { _root_.Go.OpenSpec.ofChange s with cond := some uptoSmall }

/-- 'laws.FnStockNever', WHERE WHAT IT READS IS OF BULK AT MOST 1048576: true; the input reads as it did. -/
def fnStockNeverUptoRow : OpenClaim := { program := "ytcofnjooiemkfaadoor", sum := "54052a8afa36138abba36fd3040e1d6902935311e5b9d659727848ac9b294ebd", func := "loop.example/concierge/laws.FnStockNever", spec := "fnStockNever", inPlace := ["internal/reflectlite.TypeOf"], unfollowed := true, recurses := true, named := ["loop.example/concierge/impl.errNoRec"], ifaces := true, apart := false, laid := [("loop.example/concierge/impl.errNoRec", laid_loop_example_concierge_impl_errNoRec)], narrowed := true }
def FnStockNeverUptoSaid : Prop := fnStockNeverUptoRow.holds Tryd.pinned (OpenSpec.upto fnStockNeverSpec)

/-- 'laws.FnStockStep', WHERE WHAT IT READS IS OF BULK AT MOST 1048576: true; the input reads as it did. -/
def fnStockStepUptoRow : OpenClaim := { program := "ytcofnjooiemkfaadoor", sum := "54052a8afa36138abba36fd3040e1d6902935311e5b9d659727848ac9b294ebd", func := "loop.example/concierge/laws.FnStockStep", spec := "fnStockStep", inPlace := ["internal/reflectlite.TypeOf"], unfollowed := true, recurses := true, named := ["loop.example/concierge/impl.errNoRec"], ifaces := true, apart := false, laid := [("loop.example/concierge/impl.errNoRec", laid_loop_example_concierge_impl_errNoRec)], narrowed := true }
def FnStockStepUptoSaid : Prop := fnStockStepUptoRow.holds Tryd.pinned (OpenSpec.upto fnStockStepSpec)

/-- 'laws.FnStockTwice', WHERE WHAT IT READS IS OF BULK AT MOST 1048576: true; the input reads as it did. -/
def fnStockTwiceUptoRow : OpenClaim := { program := "ytcofnjooiemkfaadoor", sum := "54052a8afa36138abba36fd3040e1d6902935311e5b9d659727848ac9b294ebd", func := "loop.example/concierge/laws.FnStockTwice", spec := "fnStockTwice", inPlace := ["internal/reflectlite.TypeOf"], unfollowed := true, recurses := true, named := ["loop.example/concierge/impl.errNoRec"], ifaces := true, apart := false, laid := [("loop.example/concierge/impl.errNoRec", laid_loop_example_concierge_impl_errNoRec)], narrowed := true }
def FnStockTwiceUptoSaid : Prop := fnStockTwiceUptoRow.holds Tryd.pinned (OpenSpec.upto fnStockTwiceSpec)

/-- 'laws.FnStockOf', WHERE WHAT IT READS IS OF BULK AT MOST 1048576: true; the input reads as it did. -/
def fnStockOfUptoRow : OpenClaim := { program := "ytcofnjooiemkfaadoor", sum := "54052a8afa36138abba36fd3040e1d6902935311e5b9d659727848ac9b294ebd", func := "loop.example/concierge/laws.FnStockOf", spec := "fnStockOf", inPlace := ["internal/reflectlite.TypeOf"], unfollowed := true, recurses := true, named := ["loop.example/concierge/impl.errNoRec"], ifaces := true, apart := false, laid := [("loop.example/concierge/impl.errNoRec", laid_loop_example_concierge_impl_errNoRec)], narrowed := true }
def FnStockOfUptoSaid : Prop := fnStockOfUptoRow.holds Tryd.pinned (OpenSpec.upto fnStockOfSpec)

/-- 'laws.FnStockUndo', WHERE WHAT IT READS IS OF BULK AT MOST 1048576: true; the input reads as it did. -/
def fnStockUndoUptoRow : OpenClaim := { program := "ytcofnjooiemkfaadoor", sum := "54052a8afa36138abba36fd3040e1d6902935311e5b9d659727848ac9b294ebd", func := "loop.example/concierge/laws.FnStockUndo", spec := "fnStockUndo", inPlace := ["internal/reflectlite.TypeOf"], unfollowed := true, recurses := true, named := ["loop.example/concierge/impl.errNoRec"], ifaces := true, apart := false, laid := [("loop.example/concierge/impl.errNoRec", laid_loop_example_concierge_impl_errNoRec)], narrowed := true }
def FnStockUndoUptoSaid : Prop := fnStockUndoUptoRow.holds Tryd.pinned (OpenSpec.upto fnStockUndoSpec)

/-- 'laws.FnStockApart', WHERE WHAT IT READS IS OF BULK AT MOST 1048576: true; the input reads as it did. -/
def fnStockApartUptoRow : OpenClaim := { program := "ytcofnjooiemkfaadoor", sum := "54052a8afa36138abba36fd3040e1d6902935311e5b9d659727848ac9b294ebd", func := "loop.example/concierge/laws.FnStockApart", spec := "fnStockApart", inPlace := ["internal/reflectlite.TypeOf"], unfollowed := true, recurses := true, named := ["loop.example/concierge/impl.errNoRec"], ifaces := true, apart := false, laid := [("loop.example/concierge/impl.errNoRec", laid_loop_example_concierge_impl_errNoRec)], narrowed := true }
def FnStockApartUptoSaid : Prop := fnStockApartUptoRow.holds Tryd.pinned (OpenSpec.upto fnStockApartSpec)

end Rows
end Go.Proofs.YtcofnjooiemkfaaDoor
