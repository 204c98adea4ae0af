/-
  NARROWER THAN 'FOR EVERY INPUT', by the rows' own cells (each row's printed sentence says how): FnExactHouseHear: ifaces, laid · FnHearFull: ifaces, laid · FnHearUndo: ifaces, laid · FnHearApart: ifaces, laid · FnHearNever: ifaces, laid.
  DERIVED. THE GIVEN ROWS OF THIS SEAT. 5 by the template 'for every input the law returns true; each argument reads behind the call as it read before'; 0 by the template 'total and deterministic' (their statements: YthllcffmpeopcaaGreatDoorTotals.lean).
  GIVEN WITH THE SEED: the statements are not yours to turn. If you find one false, say at which input.
  Laid BY PROGRAM, IN A SANDBOX (cutbox-rows.mjs): the forced cells as the released guide's own fill.sh prints them over the translation ed0c593457874820… (all of the seat's roots in one cut). By AI agents, Wed Nov 11 2026. No macro, syntax, notation, axiom, sorry.
-/
import Derived.Test.YthllcffmpeopcaaGreatDoorChecked
import GoSem.Claim
import GoSem.ClaimJoined
import GoSem.ClaimMapViews
import Derived.JoinedTies
import Derived.KernelRfl
namespace Go.Proofs.YthllcffmpeopcaaGreatDoor
/- THE CELL 'sum', in the pinned program and in every row, IS THE sha256 OF THE DUMP (.gsa) THAT YthllcffmpeopcaaGreatDoorProg.lean LOADS. Nothing in Lean hashes anything: it is a label: what it is worth is what the hold of that sum in a sandbox is worth. -/
noncomputable def Tryz.pinned : Pinned := { name := "ythllcffmpeopcaagreatdoor", sum := "ed0c5934578748202fff25346543470321abc985ed3a4e5c83d3c8061d23c54b", checked := Tryz.checked }
namespace Rows
def none {H : Type} : Left H := { results := [], args := [] }

/- WHAT THE LISTED PACKAGE-LEVEL VARIABLES READ AS WHEN THE CALL BEGINS. Each datum BY PROGRAM (the guide's laid-datum.mjs) off the statement by which the dump's own 'gosem.cut.vars' lays the variable. In a bare row this is a premise. The card (YthllcffmpeopcaaGreatDoorCards.lean) ties it to the program's text. -/
def laid_loop_example_concierge_impl_errNoRec {H : Type} : DataW H := .iface "*errors.errorString" (.ptr (.agg [.lit (.string [110, 111, 32, 114, 101, 99, 111, 114, 100])]))

/-- 'laws.FnExactHouseHear': WHATEVER THE INPUT: true; the input reads as it did. -/
def fnExactHouseHearSpec : ChangeSpec := { name := "fnExactHouseHear", vars := ["loop.example/concierge/impl.errNoRec"], fn := fun _ => fun
  | [d1, d2, g1] => { results := [.lit (.bool true)], args := [d1, d2], vars := [g1] }
  | _ => none }
def fnExactHouseHearRow : OpenClaim := { program := "ythllcffmpeopcaagreatdoor", sum := "ed0c5934578748202fff25346543470321abc985ed3a4e5c83d3c8061d23c54b", func := "loop.example/concierge/laws.FnExactHouseHear", spec := "fnExactHouseHear", inPlace := ["internal/reflectlite.TypeOf"], unfollowed := true, recurses := true, named := ["loop.example/concierge/impl.errNoRec"], ifaces := true, apart := false, laid := [("loop.example/concierge/impl.errNoRec", laid_loop_example_concierge_impl_errNoRec)] }
def FnExactHouseHearSaid : Prop := fnExactHouseHearRow.holds Tryz.pinned (OpenSpec.ofChange fnExactHouseHearSpec)

/-- ITS FALSE NEIGHBOUR: 'it returns false'. Refute it at one input. -/
def fnExactHouseHearWrong : ChangeSpec := { name := "fnExactHouseHear", vars := ["loop.example/concierge/impl.errNoRec"], fn := fun _ => fun
  | [d1, d2, g1] => { results := [.lit (.bool false)], args := [d1, d2], vars := [g1] }
  | _ => none }
def FnExactHouseHearWrongFalsely : Prop := fnExactHouseHearRow.holds Tryz.pinned (OpenSpec.ofChange fnExactHouseHearWrong)

/-- 'laws.FnHearFull': WHATEVER THE INPUT: true; the input reads as it did. -/
def fnHearFullSpec : ChangeSpec := { name := "fnHearFull", vars := ["loop.example/concierge/impl.errNoRec"], fn := fun _ => fun
  | [d, g1] => { results := [.lit (.bool true)], args := [d], vars := [g1] }
  | _ => none }
def fnHearFullRow : OpenClaim := { program := "ythllcffmpeopcaagreatdoor", sum := "ed0c5934578748202fff25346543470321abc985ed3a4e5c83d3c8061d23c54b", func := "loop.example/concierge/laws.FnHearFull", spec := "fnHearFull", inPlace := ["internal/reflectlite.TypeOf"], unfollowed := true, recurses := true, named := ["loop.example/concierge/impl.errNoRec"], ifaces := true, apart := false, laid := [("loop.example/concierge/impl.errNoRec", laid_loop_example_concierge_impl_errNoRec)] }
def FnHearFullSaid : Prop := fnHearFullRow.holds Tryz.pinned (OpenSpec.ofChange fnHearFullSpec)

/-- ITS FALSE NEIGHBOUR: 'it returns false'. Refute it at one input. -/
def fnHearFullWrong : ChangeSpec := { name := "fnHearFull", vars := ["loop.example/concierge/impl.errNoRec"], fn := fun _ => fun
  | [d, g1] => { results := [.lit (.bool false)], args := [d], vars := [g1] }
  | _ => none }
def FnHearFullWrongFalsely : Prop := fnHearFullRow.holds Tryz.pinned (OpenSpec.ofChange fnHearFullWrong)

/-- 'laws.FnHearUndo': WHATEVER THE INPUT: true; the input reads as it did. -/
def fnHearUndoSpec : ChangeSpec := { name := "fnHearUndo", vars := ["loop.example/concierge/impl.errNoRec"], fn := fun _ => fun
  | [d1, d2, g1] => { results := [.lit (.bool true)], args := [d1, d2], vars := [g1] }
  | _ => none }
def fnHearUndoRow : OpenClaim := { program := "ythllcffmpeopcaagreatdoor", sum := "ed0c5934578748202fff25346543470321abc985ed3a4e5c83d3c8061d23c54b", func := "loop.example/concierge/laws.FnHearUndo", spec := "fnHearUndo", inPlace := ["internal/reflectlite.TypeOf"], unfollowed := true, recurses := true, named := ["loop.example/concierge/impl.errNoRec"], ifaces := true, apart := false, laid := [("loop.example/concierge/impl.errNoRec", laid_loop_example_concierge_impl_errNoRec)] }
def FnHearUndoSaid : Prop := fnHearUndoRow.holds Tryz.pinned (OpenSpec.ofChange fnHearUndoSpec)

/-- ITS FALSE NEIGHBOUR: 'it returns false'. Refute it at one input. -/
def fnHearUndoWrong : ChangeSpec := { name := "fnHearUndo", vars := ["loop.example/concierge/impl.errNoRec"], fn := fun _ => fun
  | [d1, d2, g1] => { results := [.lit (.bool false)], args := [d1, d2], vars := [g1] }
  | _ => none }
def FnHearUndoWrongFalsely : Prop := fnHearUndoRow.holds Tryz.pinned (OpenSpec.ofChange fnHearUndoWrong)

/-- 'laws.FnHearApart': WHATEVER THE INPUT: true; the input reads as it did. -/
def fnHearApartSpec : ChangeSpec := { name := "fnHearApart", vars := ["loop.example/concierge/impl.errNoRec"], fn := fun _ => fun
  | [d, g1] => { results := [.lit (.bool true)], args := [d], vars := [g1] }
  | _ => none }
def fnHearApartRow : OpenClaim := { program := "ythllcffmpeopcaagreatdoor", sum := "ed0c5934578748202fff25346543470321abc985ed3a4e5c83d3c8061d23c54b", func := "loop.example/concierge/laws.FnHearApart", spec := "fnHearApart", inPlace := ["internal/reflectlite.TypeOf"], unfollowed := true, recurses := true, named := ["loop.example/concierge/impl.errNoRec"], ifaces := true, apart := false, laid := [("loop.example/concierge/impl.errNoRec", laid_loop_example_concierge_impl_errNoRec)] }
def FnHearApartSaid : Prop := fnHearApartRow.holds Tryz.pinned (OpenSpec.ofChange fnHearApartSpec)

/-- ITS FALSE NEIGHBOUR: 'it returns false'. Refute it at one input. -/
def fnHearApartWrong : ChangeSpec := { name := "fnHearApart", vars := ["loop.example/concierge/impl.errNoRec"], fn := fun _ => fun
  | [d, g1] => { results := [.lit (.bool false)], args := [d], vars := [g1] }
  | _ => none }
def FnHearApartWrongFalsely : Prop := fnHearApartRow.holds Tryz.pinned (OpenSpec.ofChange fnHearApartWrong)

/-- 'laws.FnHearNever': WHATEVER THE INPUT: true; the input reads as it did. -/
def fnHearNeverSpec : ChangeSpec := { name := "fnHearNever", vars := ["loop.example/concierge/impl.errNoRec"], fn := fun _ => fun
  | [d, g1] => { results := [.lit (.bool true)], args := [d], vars := [g1] }
  | _ => none }
def fnHearNeverRow : OpenClaim := { program := "ythllcffmpeopcaagreatdoor", sum := "ed0c5934578748202fff25346543470321abc985ed3a4e5c83d3c8061d23c54b", func := "loop.example/concierge/laws.FnHearNever", spec := "fnHearNever", inPlace := ["internal/reflectlite.TypeOf"], unfollowed := true, recurses := true, named := ["loop.example/concierge/impl.errNoRec"], ifaces := true, apart := false, laid := [("loop.example/concierge/impl.errNoRec", laid_loop_example_concierge_impl_errNoRec)] }
def FnHearNeverSaid : Prop := fnHearNeverRow.holds Tryz.pinned (OpenSpec.ofChange fnHearNeverSpec)

/-- ITS FALSE NEIGHBOUR: 'it returns false'. Refute it at one input. -/
def fnHearNeverWrong : ChangeSpec := { name := "fnHearNever", vars := ["loop.example/concierge/impl.errNoRec"], fn := fun _ => fun
  | [d, g1] => { results := [.lit (.bool false)], args := [d], vars := [g1] }
  | _ => none }
def FnHearNeverWrongFalsely : Prop := fnHearNeverRow.holds Tryz.pinned (OpenSpec.ofChange fnHearNeverWrong)

/- THE SECOND FORM. 'bulk': how many values and letters a reading holds, each counted each time it is reached (what is shared counts as often as it is met; a slice's spare places count too). A statement '..UptoSaid' is the law's where the arguments, and the package variables that the reading takes, are together of bulk at most 1048576: NARROWER than '..Said'. Prove '..Said' where nothing that the law and all that it calls make is longer than what came in: it says more and counts as full. Else prove '..UptoSaid'. A law counts once. -/
mutual
def uptoBulk {H : Type} : DataW H → Nat
  | .lit (.string bytes) => bytes.length + 1
  | .lit _ => 1
  | .nil => 1
  | .ptr d => uptoBulk d + 1
  | .slice elems spare => uptoBulkAll elems + uptoBulkAll spare + 1
  | .agg parts => uptoBulkAll parts + 1
  | .iface _ d => uptoBulk d + 1
  | .map entries => uptoBulkEntries entries + 1
  | .held _ => 1
def uptoBulkAll {H : Type} : List (DataW H) → Nat
  | [] => 0
  | d :: r => uptoBulk d + uptoBulkAll r
def uptoBulkEntries {H : Type} : List (Lit × DataW H) → Nat
  | [] => 0
  | x :: r => uptoBulkEntry x + uptoBulkEntries r
def uptoBulkEntry {H : Type} : Lit × DataW H → Nat
  | (.string bytes, d) => bytes.length + uptoBulk d + 1
  | (_, d) => uptoBulk d + 1
 end
def uptoSmall : (H : Type) → List (DataW H) → Bool := fun _ ds => decide (uptoBulkAll ds ≤ 1048576)
def OpenSpec.upto (s : _root_.Go.ChangeSpec) : _root_.Go.OpenSpec := { _root_.Go.OpenSpec.ofChange s with cond := some uptoSmall }

/-- 'laws.FnExactHouseHear', WHERE WHAT IT READS IS OF BULK AT MOST 1048576: true; the input reads as it did. -/
def fnExactHouseHearUptoRow : OpenClaim := { program := "ythllcffmpeopcaagreatdoor", sum := "ed0c5934578748202fff25346543470321abc985ed3a4e5c83d3c8061d23c54b", func := "loop.example/concierge/laws.FnExactHouseHear", spec := "fnExactHouseHear", inPlace := ["internal/reflectlite.TypeOf"], unfollowed := true, recurses := true, named := ["loop.example/concierge/impl.errNoRec"], ifaces := true, apart := false, laid := [("loop.example/concierge/impl.errNoRec", laid_loop_example_concierge_impl_errNoRec)], narrowed := true }
def FnExactHouseHearUptoSaid : Prop := fnExactHouseHearUptoRow.holds Tryz.pinned (OpenSpec.upto fnExactHouseHearSpec)

/-- 'laws.FnHearFull', WHERE WHAT IT READS IS OF BULK AT MOST 1048576: true; the input reads as it did. -/
def fnHearFullUptoRow : OpenClaim := { program := "ythllcffmpeopcaagreatdoor", sum := "ed0c5934578748202fff25346543470321abc985ed3a4e5c83d3c8061d23c54b", func := "loop.example/concierge/laws.FnHearFull", spec := "fnHearFull", inPlace := ["internal/reflectlite.TypeOf"], unfollowed := true, recurses := true, named := ["loop.example/concierge/impl.errNoRec"], ifaces := true, apart := false, laid := [("loop.example/concierge/impl.errNoRec", laid_loop_example_concierge_impl_errNoRec)], narrowed := true }
def FnHearFullUptoSaid : Prop := fnHearFullUptoRow.holds Tryz.pinned (OpenSpec.upto fnHearFullSpec)

/-- 'laws.FnHearUndo', WHERE WHAT IT READS IS OF BULK AT MOST 1048576: true; the input reads as it did. -/
def fnHearUndoUptoRow : OpenClaim := { program := "ythllcffmpeopcaagreatdoor", sum := "ed0c5934578748202fff25346543470321abc985ed3a4e5c83d3c8061d23c54b", func := "loop.example/concierge/laws.FnHearUndo", spec := "fnHearUndo", inPlace := ["internal/reflectlite.TypeOf"], unfollowed := true, recurses := true, named := ["loop.example/concierge/impl.errNoRec"], ifaces := true, apart := false, laid := [("loop.example/concierge/impl.errNoRec", laid_loop_example_concierge_impl_errNoRec)], narrowed := true }
def FnHearUndoUptoSaid : Prop := fnHearUndoUptoRow.holds Tryz.pinned (OpenSpec.upto fnHearUndoSpec)

/-- 'laws.FnHearApart', WHERE WHAT IT READS IS OF BULK AT MOST 1048576: true; the input reads as it did. -/
def fnHearApartUptoRow : OpenClaim := { program := "ythllcffmpeopcaagreatdoor", sum := "ed0c5934578748202fff25346543470321abc985ed3a4e5c83d3c8061d23c54b", func := "loop.example/concierge/laws.FnHearApart", spec := "fnHearApart", inPlace := ["internal/reflectlite.TypeOf"], unfollowed := true, recurses := true, named := ["loop.example/concierge/impl.errNoRec"], ifaces := true, apart := false, laid := [("loop.example/concierge/impl.errNoRec", laid_loop_example_concierge_impl_errNoRec)], narrowed := true }
def FnHearApartUptoSaid : Prop := fnHearApartUptoRow.holds Tryz.pinned (OpenSpec.upto fnHearApartSpec)

/-- 'laws.FnHearNever', WHERE WHAT IT READS IS OF BULK AT MOST 1048576: true; the input reads as it did. -/
def fnHearNeverUptoRow : OpenClaim := { program := "ythllcffmpeopcaagreatdoor", sum := "ed0c5934578748202fff25346543470321abc985ed3a4e5c83d3c8061d23c54b", func := "loop.example/concierge/laws.FnHearNever", spec := "fnHearNever", inPlace := ["internal/reflectlite.TypeOf"], unfollowed := true, recurses := true, named := ["loop.example/concierge/impl.errNoRec"], ifaces := true, apart := false, laid := [("loop.example/concierge/impl.errNoRec", laid_loop_example_concierge_impl_errNoRec)], narrowed := true }
def FnHearNeverUptoSaid : Prop := fnHearNeverUptoRow.holds Tryz.pinned (OpenSpec.upto fnHearNeverSpec)

end Rows
end Go.Proofs.YthllcffmpeopcaaGreatDoor
