/-
  NARROWER THAN 'FOR EVERY INPUT', by the rows' own cells (each row's printed sentence says how): FnExactWorldOk: ifaces, laid · FnExactWorldHolds: ifaces, laid · FnExactWorldDo: ifaces, laid · FnExactWorldPlay: ifaces, laid.
  DERIVED. THE GIVEN ROWS OF THIS SEAT. 4 by the template 'for every input the law returns true; each argument reads behind the call as it read before'; 0 by the template 'total and deterministic' (their statements: YtkkkdgpbmmjieaaGreatDoorTotals.lean).
  GIVEN WITH THE SEED: the statements are not yours to turn. If you find one false, say at which input.
  Laid BY PROGRAM, IN A SANDBOX (cutbox-rows.mjs): the forced cells as the released guide's own fill.sh prints them over the translation 3c7495d92d6b93ba… (all of the seat's roots in one cut). By AI agents, Wed Nov 11 2026. No macro, syntax, notation, axiom, sorry.
-/
import Derived.Test.YtkkkdgpbmmjieaaGreatDoorChecked
import GoSem.Claim
import GoSem.ClaimJoined
import GoSem.ClaimMapViews
import Derived.JoinedTies
import Derived.KernelRfl
namespace Go.Proofs.YtkkkdgpbmmjieaaGreatDoor
/- THE CELL 'sum', in the pinned program and in every row, IS THE sha256 OF THE DUMP (.gsa) THAT YtkkkdgpbmmjieaaGreatDoorProg.lean LOADS. Nothing in Lean hashes anything: it is a label: what it is worth is what the hold of that sum in a sandbox is worth. -/
noncomputable def Tryz.pinned : Pinned := { name := "ytkkkdgpbmmjieaagreatdoor", sum := "3c7495d92d6b93bac7a8b7f49f66a0ca2956eef1f4393ede1215bcbdf2a12e20", checked := Tryz.checked }
namespace Rows
def none {H : Type} : Left H := { results := [], args := [] }

/- WHAT THE LISTED PACKAGE-LEVEL VARIABLES READ AS WHEN THE CALL BEGINS. Each datum BY PROGRAM (the guide's laid-datum.mjs) off the statement by which the dump's own 'gosem.cut.vars' lays the variable. In a bare row this is a premise. The card (YtkkkdgpbmmjieaaGreatDoorCards.lean) ties it to the program's text. -/
def laid_loop_example_concierge_impl_errNoRec {H : Type} : DataW H := .iface "*errors.errorString" (.ptr (.agg [.lit (.string [110, 111, 32, 114, 101, 99, 111, 114, 100])]))

/-- 'laws.FnExactWorldOk': WHATEVER THE INPUT: true; the input reads as it did. -/
def fnExactWorldOkSpec : ChangeSpec := { name := "fnExactWorldOk", vars := ["loop.example/concierge/impl.errNoRec"], fn := fun _ => fun
  | [d, g1] => { results := [.lit (.bool true)], args := [d], vars := [g1] }
  | _ => none }
def fnExactWorldOkRow : OpenClaim := { program := "ytkkkdgpbmmjieaagreatdoor", sum := "3c7495d92d6b93bac7a8b7f49f66a0ca2956eef1f4393ede1215bcbdf2a12e20", func := "loop.example/concierge/laws.FnExactWorldOk", spec := "fnExactWorldOk", inPlace := ["internal/reflectlite.TypeOf"], unfollowed := true, recurses := true, named := ["loop.example/concierge/impl.errNoRec"], ifaces := true, plainKeys := false, apart := false, laid := [("loop.example/concierge/impl.errNoRec", laid_loop_example_concierge_impl_errNoRec)] }
def FnExactWorldOkSaid : Prop := fnExactWorldOkRow.holds Tryz.pinned (OpenSpec.ofChange fnExactWorldOkSpec)

/-- ITS FALSE NEIGHBOUR: 'it returns false'. Refute it at one input. -/
def fnExactWorldOkWrong : ChangeSpec := { name := "fnExactWorldOk", vars := ["loop.example/concierge/impl.errNoRec"], fn := fun _ => fun
  | [d, g1] => { results := [.lit (.bool false)], args := [d], vars := [g1] }
  | _ => none }
def FnExactWorldOkWrongFalsely : Prop := fnExactWorldOkRow.holds Tryz.pinned (OpenSpec.ofChange fnExactWorldOkWrong)

/-- 'laws.FnExactWorldHolds': WHATEVER THE INPUT: true; the input reads as it did. -/
def fnExactWorldHoldsSpec : ChangeSpec := { name := "fnExactWorldHolds", vars := ["loop.example/concierge/impl.errNoRec"], fn := fun _ => fun
  | [d1, d2, g1] => { results := [.lit (.bool true)], args := [d1, d2], vars := [g1] }
  | _ => none }
def fnExactWorldHoldsRow : OpenClaim := { program := "ytkkkdgpbmmjieaagreatdoor", sum := "3c7495d92d6b93bac7a8b7f49f66a0ca2956eef1f4393ede1215bcbdf2a12e20", func := "loop.example/concierge/laws.FnExactWorldHolds", spec := "fnExactWorldHolds", inPlace := ["internal/reflectlite.TypeOf"], unfollowed := true, recurses := true, named := ["loop.example/concierge/impl.errNoRec"], ifaces := true, plainKeys := false, apart := false, laid := [("loop.example/concierge/impl.errNoRec", laid_loop_example_concierge_impl_errNoRec)] }
def FnExactWorldHoldsSaid : Prop := fnExactWorldHoldsRow.holds Tryz.pinned (OpenSpec.ofChange fnExactWorldHoldsSpec)

/-- ITS FALSE NEIGHBOUR: 'it returns false'. Refute it at one input. -/
def fnExactWorldHoldsWrong : ChangeSpec := { name := "fnExactWorldHolds", vars := ["loop.example/concierge/impl.errNoRec"], fn := fun _ => fun
  | [d1, d2, g1] => { results := [.lit (.bool false)], args := [d1, d2], vars := [g1] }
  | _ => none }
def FnExactWorldHoldsWrongFalsely : Prop := fnExactWorldHoldsRow.holds Tryz.pinned (OpenSpec.ofChange fnExactWorldHoldsWrong)

/-- 'laws.FnExactWorldDo': WHATEVER THE INPUT: true; the input reads as it did. -/
def fnExactWorldDoSpec : ChangeSpec := { name := "fnExactWorldDo", vars := ["loop.example/concierge/impl.errNoRec"], fn := fun _ => fun
  | [d1, d2, g1] => { results := [.lit (.bool true)], args := [d1, d2], vars := [g1] }
  | _ => none }
def fnExactWorldDoRow : OpenClaim := { program := "ytkkkdgpbmmjieaagreatdoor", sum := "3c7495d92d6b93bac7a8b7f49f66a0ca2956eef1f4393ede1215bcbdf2a12e20", func := "loop.example/concierge/laws.FnExactWorldDo", spec := "fnExactWorldDo", inPlace := ["internal/reflectlite.TypeOf"], unfollowed := true, recurses := true, named := ["loop.example/concierge/impl.errNoRec"], ifaces := true, plainKeys := false, apart := false, laid := [("loop.example/concierge/impl.errNoRec", laid_loop_example_concierge_impl_errNoRec)] }
def FnExactWorldDoSaid : Prop := fnExactWorldDoRow.holds Tryz.pinned (OpenSpec.ofChange fnExactWorldDoSpec)

/-- ITS FALSE NEIGHBOUR: 'it returns false'. Refute it at one input. -/
def fnExactWorldDoWrong : ChangeSpec := { name := "fnExactWorldDo", vars := ["loop.example/concierge/impl.errNoRec"], fn := fun _ => fun
  | [d1, d2, g1] => { results := [.lit (.bool false)], args := [d1, d2], vars := [g1] }
  | _ => none }
def FnExactWorldDoWrongFalsely : Prop := fnExactWorldDoRow.holds Tryz.pinned (OpenSpec.ofChange fnExactWorldDoWrong)

/-- 'laws.FnExactWorldPlay': WHATEVER THE INPUT: true; the input reads as it did. -/
def fnExactWorldPlaySpec : ChangeSpec := { name := "fnExactWorldPlay", vars := ["loop.example/concierge/impl.errNoRec"], fn := fun _ => fun
  | [d1, d2, g1] => { results := [.lit (.bool true)], args := [d1, d2], vars := [g1] }
  | _ => none }
def fnExactWorldPlayRow : OpenClaim := { program := "ytkkkdgpbmmjieaagreatdoor", sum := "3c7495d92d6b93bac7a8b7f49f66a0ca2956eef1f4393ede1215bcbdf2a12e20", func := "loop.example/concierge/laws.FnExactWorldPlay", spec := "fnExactWorldPlay", inPlace := ["internal/reflectlite.TypeOf"], unfollowed := true, recurses := true, named := ["loop.example/concierge/impl.errNoRec"], ifaces := true, plainKeys := false, apart := false, laid := [("loop.example/concierge/impl.errNoRec", laid_loop_example_concierge_impl_errNoRec)] }
def FnExactWorldPlaySaid : Prop := fnExactWorldPlayRow.holds Tryz.pinned (OpenSpec.ofChange fnExactWorldPlaySpec)

/-- ITS FALSE NEIGHBOUR: 'it returns false'. Refute it at one input. -/
def fnExactWorldPlayWrong : ChangeSpec := { name := "fnExactWorldPlay", vars := ["loop.example/concierge/impl.errNoRec"], fn := fun _ => fun
  | [d1, d2, g1] => { results := [.lit (.bool false)], args := [d1, d2], vars := [g1] }
  | _ => none }
def FnExactWorldPlayWrongFalsely : Prop := fnExactWorldPlayRow.holds Tryz.pinned (OpenSpec.ofChange fnExactWorldPlayWrong)

/- THE SECOND FORM. 'bulk': how many values and letters a reading holds, each counted each time it is reached (what is shared counts as often as it is met; a slice's spare places count too). A statement '..UptoSaid' is the law's where the arguments, and the package variables that the reading takes, are together of bulk at most 1048576: NARROWER than '..Said'. Prove '..Said' where nothing that the law and all that it calls make is longer than what came in: it says more and counts as full. Else prove '..UptoSaid'. A law counts once. -/
mutual
def uptoBulk {H : Type} : DataW H → Nat
  | .lit (.string bytes) => bytes.length + 1
  | .lit _ => 1
  | .nil => 1
  | .ptr d => uptoBulk d + 1
  | .slice elems spare => uptoBulkAll elems + uptoBulkAll spare + 1
  | .agg parts => uptoBulkAll parts + 1
  | .iface _ d => uptoBulk d + 1
  | .map entries => uptoBulkEntries entries + 1
  | .held _ => 1
def uptoBulkAll {H : Type} : List (DataW H) → Nat
  | [] => 0
  | d :: r => uptoBulk d + uptoBulkAll r
def uptoBulkEntries {H : Type} : List (Lit × DataW H) → Nat
  | [] => 0
  | x :: r => uptoBulkEntry x + uptoBulkEntries r
def uptoBulkEntry {H : Type} : Lit × DataW H → Nat
  | (.string bytes, d) => bytes.length + uptoBulk d + 1
  | (_, d) => uptoBulk d + 1
 end
def uptoSmall : (H : Type) → List (DataW H) → Bool := fun _ ds => decide (uptoBulkAll ds ≤ 1048576)
def OpenSpec.upto (s : _root_.Go.ChangeSpec) : _root_.Go.OpenSpec := { _root_.Go.OpenSpec.ofChange s with cond := some uptoSmall }

/-- 'laws.FnExactWorldOk', WHERE WHAT IT READS IS OF BULK AT MOST 1048576: true; the input reads as it did. -/
def fnExactWorldOkUptoRow : OpenClaim := { program := "ytkkkdgpbmmjieaagreatdoor", sum := "3c7495d92d6b93bac7a8b7f49f66a0ca2956eef1f4393ede1215bcbdf2a12e20", func := "loop.example/concierge/laws.FnExactWorldOk", spec := "fnExactWorldOk", inPlace := ["internal/reflectlite.TypeOf"], unfollowed := true, recurses := true, named := ["loop.example/concierge/impl.errNoRec"], ifaces := true, plainKeys := false, apart := false, laid := [("loop.example/concierge/impl.errNoRec", laid_loop_example_concierge_impl_errNoRec)], narrowed := true }
def FnExactWorldOkUptoSaid : Prop := fnExactWorldOkUptoRow.holds Tryz.pinned (OpenSpec.upto fnExactWorldOkSpec)

/-- 'laws.FnExactWorldHolds', WHERE WHAT IT READS IS OF BULK AT MOST 1048576: true; the input reads as it did. -/
def fnExactWorldHoldsUptoRow : OpenClaim := { program := "ytkkkdgpbmmjieaagreatdoor", sum := "3c7495d92d6b93bac7a8b7f49f66a0ca2956eef1f4393ede1215bcbdf2a12e20", func := "loop.example/concierge/laws.FnExactWorldHolds", spec := "fnExactWorldHolds", inPlace := ["internal/reflectlite.TypeOf"], unfollowed := true, recurses := true, named := ["loop.example/concierge/impl.errNoRec"], ifaces := true, plainKeys := false, apart := false, laid := [("loop.example/concierge/impl.errNoRec", laid_loop_example_concierge_impl_errNoRec)], narrowed := true }
def FnExactWorldHoldsUptoSaid : Prop := fnExactWorldHoldsUptoRow.holds Tryz.pinned (OpenSpec.upto fnExactWorldHoldsSpec)

/-- 'laws.FnExactWorldDo', WHERE WHAT IT READS IS OF BULK AT MOST 1048576: true; the input reads as it did. -/
def fnExactWorldDoUptoRow : OpenClaim := { program := "ytkkkdgpbmmjieaagreatdoor", sum := "3c7495d92d6b93bac7a8b7f49f66a0ca2956eef1f4393ede1215bcbdf2a12e20", func := "loop.example/concierge/laws.FnExactWorldDo", spec := "fnExactWorldDo", inPlace := ["internal/reflectlite.TypeOf"], unfollowed := true, recurses := true, named := ["loop.example/concierge/impl.errNoRec"], ifaces := true, plainKeys := false, apart := false, laid := [("loop.example/concierge/impl.errNoRec", laid_loop_example_concierge_impl_errNoRec)], narrowed := true }
def FnExactWorldDoUptoSaid : Prop := fnExactWorldDoUptoRow.holds Tryz.pinned (OpenSpec.upto fnExactWorldDoSpec)

/-- 'laws.FnExactWorldPlay', WHERE WHAT IT READS IS OF BULK AT MOST 1048576: true; the input reads as it did. -/
def fnExactWorldPlayUptoRow : OpenClaim := { program := "ytkkkdgpbmmjieaagreatdoor", sum := "3c7495d92d6b93bac7a8b7f49f66a0ca2956eef1f4393ede1215bcbdf2a12e20", func := "loop.example/concierge/laws.FnExactWorldPlay", spec := "fnExactWorldPlay", inPlace := ["internal/reflectlite.TypeOf"], unfollowed := true, recurses := true, named := ["loop.example/concierge/impl.errNoRec"], ifaces := true, plainKeys := false, apart := false, laid := [("loop.example/concierge/impl.errNoRec", laid_loop_example_concierge_impl_errNoRec)], narrowed := true }
def FnExactWorldPlayUptoSaid : Prop := fnExactWorldPlayUptoRow.holds Tryz.pinned (OpenSpec.upto fnExactWorldPlaySpec)

end Rows
end Go.Proofs.YtkkkdgpbmmjieaaGreatDoor
