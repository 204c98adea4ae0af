/-
  NARROWER THAN 'FOR EVERY INPUT', by the rows' own cells (each row's printed sentence says how): FnRecForm: ifaces, laid · FnLogAdd: ifaces, laid · FnLogLess: ifaces, laid · FnRecKinds: ifaces, laid.
  DERIVED. THE GIVEN ROWS OF THIS SEAT. 4 by the template 'for every input the law returns true; each argument reads behind the call as it read before'; 0 by the template 'total and deterministic' (their statements: YtaogachhmdmoaaaDoorTotals.lean).
  GIVEN WITH THE SEED: the statements are not yours to turn. If you find one false, say at which input.
  Laid BY PROGRAM, IN A SANDBOX (cutbox-rows.mjs): the forced cells as the released guide's own fill.sh prints them over the translation 01ed88ce4897e3d7… (all of the seat's roots in one cut). By AI agents, Wed Nov 11 2026. No macro, syntax, notation, axiom, sorry.
-/
import Derived.Test.YtaogachhmdmoaaaDoorChecked
import GoSem.Claim
import GoSem.ClaimJoined
import GoSem.ClaimMapViews
import Derived.JoinedTies
import Derived.KernelRfl
namespace Go.Proofs.YtaogachhmdmoaaaDoor
/- THE CELL 'sum', in the pinned program and in every row, IS THE sha256 OF THE DUMP (.gsa) THAT YtaogachhmdmoaaaDoorProg.lean LOADS. Nothing in Lean hashes anything: it is a label: what it is worth is what the hold of that sum in a sandbox is worth. -/
noncomputable def Tryd.pinned : Pinned := { name := "ytaogachhmdmoaaadoor", sum := "01ed88ce4897e3d7ee4d5181c00702a53bcd3669055c223efb6bd07628d22c5d", checked := Tryd.checked }
namespace Rows
def none {H : Type} : Left H := { results := [], args := [] }

/- WHAT THE LISTED PACKAGE-LEVEL VARIABLES READ AS WHEN THE CALL BEGINS. Each datum BY PROGRAM (the guide's laid-datum.mjs) off the statement by which the dump's own 'gosem.cut.vars' lays the variable. In a bare row this is a premise. The card (YtaogachhmdmoaaaDoorCards.lean) ties it to the program's text. -/
def laid_loop_example_concierge_impl_errNoRec {H : Type} : DataW H := .iface "*errors.errorString" (.ptr (.agg [.lit (.string [110, 111, 32, 114, 101, 99, 111, 114, 100])]))

/-- 'laws.FnRecForm': WHATEVER THE INPUT: true; the input reads as it did. -/
def fnRecFormSpec : ChangeSpec := { name := "fnRecForm", vars := ["loop.example/concierge/impl.errNoRec"], fn := fun _ => fun
  | [d, g1] => { results := [.lit (.bool true)], args := [d], vars := [g1] }
  | _ => none }
def fnRecFormRow : OpenClaim := { program := "ytaogachhmdmoaaadoor", sum := "01ed88ce4897e3d7ee4d5181c00702a53bcd3669055c223efb6bd07628d22c5d", func := "loop.example/concierge/laws.FnRecForm", spec := "fnRecForm", inPlace := ["internal/reflectlite.TypeOf"], unfollowed := true, recurses := true, named := ["loop.example/concierge/impl.errNoRec"], ifaces := true, apart := false, laid := [("loop.example/concierge/impl.errNoRec", laid_loop_example_concierge_impl_errNoRec)] }
def FnRecFormSaid : Prop := fnRecFormRow.holds Tryd.pinned (OpenSpec.ofChange fnRecFormSpec)

/-- ITS FALSE NEIGHBOUR: 'it returns false'. Refute it at one input. -/
def fnRecFormWrong : ChangeSpec := { name := "fnRecForm", vars := ["loop.example/concierge/impl.errNoRec"], fn := fun _ => fun
  | [d, g1] => { results := [.lit (.bool false)], args := [d], vars := [g1] }
  | _ => none }
def FnRecFormWrongFalsely : Prop := fnRecFormRow.holds Tryd.pinned (OpenSpec.ofChange fnRecFormWrong)

/-- 'laws.FnLogAdd': WHATEVER THE INPUT: true; the input reads as it did. -/
def fnLogAddSpec : ChangeSpec := { name := "fnLogAdd", vars := ["loop.example/concierge/impl.errNoRec"], fn := fun _ => fun
  | [d, g1] => { results := [.lit (.bool true)], args := [d], vars := [g1] }
  | _ => none }
def fnLogAddRow : OpenClaim := { program := "ytaogachhmdmoaaadoor", sum := "01ed88ce4897e3d7ee4d5181c00702a53bcd3669055c223efb6bd07628d22c5d", func := "loop.example/concierge/laws.FnLogAdd", spec := "fnLogAdd", inPlace := ["internal/reflectlite.TypeOf"], unfollowed := true, recurses := true, named := ["loop.example/concierge/impl.errNoRec"], ifaces := true, apart := false, laid := [("loop.example/concierge/impl.errNoRec", laid_loop_example_concierge_impl_errNoRec)] }
def FnLogAddSaid : Prop := fnLogAddRow.holds Tryd.pinned (OpenSpec.ofChange fnLogAddSpec)

/-- ITS FALSE NEIGHBOUR: 'it returns false'. Refute it at one input. -/
def fnLogAddWrong : ChangeSpec := { name := "fnLogAdd", vars := ["loop.example/concierge/impl.errNoRec"], fn := fun _ => fun
  | [d, g1] => { results := [.lit (.bool false)], args := [d], vars := [g1] }
  | _ => none }
def FnLogAddWrongFalsely : Prop := fnLogAddRow.holds Tryd.pinned (OpenSpec.ofChange fnLogAddWrong)

/-- 'laws.FnLogLess': WHATEVER THE INPUT: true; the input reads as it did. -/
def fnLogLessSpec : ChangeSpec := { name := "fnLogLess", vars := ["loop.example/concierge/impl.errNoRec"], fn := fun _ => fun
  | [d1, d2, g1] => { results := [.lit (.bool true)], args := [d1, d2], vars := [g1] }
  | _ => none }
def fnLogLessRow : OpenClaim := { program := "ytaogachhmdmoaaadoor", sum := "01ed88ce4897e3d7ee4d5181c00702a53bcd3669055c223efb6bd07628d22c5d", func := "loop.example/concierge/laws.FnLogLess", spec := "fnLogLess", inPlace := ["internal/reflectlite.TypeOf"], unfollowed := true, recurses := true, named := ["loop.example/concierge/impl.errNoRec"], ifaces := true, apart := false, laid := [("loop.example/concierge/impl.errNoRec", laid_loop_example_concierge_impl_errNoRec)] }
def FnLogLessSaid : Prop := fnLogLessRow.holds Tryd.pinned (OpenSpec.ofChange fnLogLessSpec)

/-- ITS FALSE NEIGHBOUR: 'it returns false'. Refute it at one input. -/
def fnLogLessWrong : ChangeSpec := { name := "fnLogLess", vars := ["loop.example/concierge/impl.errNoRec"], fn := fun _ => fun
  | [d1, d2, g1] => { results := [.lit (.bool false)], args := [d1, d2], vars := [g1] }
  | _ => none }
def FnLogLessWrongFalsely : Prop := fnLogLessRow.holds Tryd.pinned (OpenSpec.ofChange fnLogLessWrong)

/-- 'laws.FnRecKinds': WHATEVER THE INPUT: true; the input reads as it did. -/
def fnRecKindsSpec : ChangeSpec := { name := "fnRecKinds", vars := ["loop.example/concierge/impl.errNoRec"], fn := fun _ => fun
  | [d1, d2, g1] => { results := [.lit (.bool true)], args := [d1, d2], vars := [g1] }
  | _ => none }
def fnRecKindsRow : OpenClaim := { program := "ytaogachhmdmoaaadoor", sum := "01ed88ce4897e3d7ee4d5181c00702a53bcd3669055c223efb6bd07628d22c5d", func := "loop.example/concierge/laws.FnRecKinds", spec := "fnRecKinds", inPlace := ["internal/reflectlite.TypeOf"], unfollowed := true, recurses := true, named := ["loop.example/concierge/impl.errNoRec"], ifaces := true, apart := false, laid := [("loop.example/concierge/impl.errNoRec", laid_loop_example_concierge_impl_errNoRec)] }
def FnRecKindsSaid : Prop := fnRecKindsRow.holds Tryd.pinned (OpenSpec.ofChange fnRecKindsSpec)

/-- ITS FALSE NEIGHBOUR: 'it returns false'. Refute it at one input. -/
def fnRecKindsWrong : ChangeSpec := { name := "fnRecKinds", vars := ["loop.example/concierge/impl.errNoRec"], fn := fun _ => fun
  | [d1, d2, g1] => { results := [.lit (.bool false)], args := [d1, d2], vars := [g1] }
  | _ => none }
def FnRecKindsWrongFalsely : Prop := fnRecKindsRow.holds Tryd.pinned (OpenSpec.ofChange fnRecKindsWrong)

/- THE SECOND FORM. 'bulk': how many values and letters a reading holds, each counted each time it is reached (what is shared counts as often as it is met; a slice's spare places count too). A statement '..UptoSaid' is the law's where the arguments, and the package variables that the reading takes, are together of bulk at most 1048576: NARROWER than '..Said'. Prove '..Said' where nothing that the law and all that it calls make is longer than what came in: it says more and counts as full. Else prove '..UptoSaid'. A law counts once. -/
mutual
def uptoBulk {H : Type} : DataW H → Nat
  | .lit (.string bytes) => bytes.length + 1
  | .lit _ => 1
  | .nil => 1
  | .ptr d => uptoBulk d + 1
  | .slice elems spare => uptoBulkAll elems + uptoBulkAll spare + 1
  | .agg parts => uptoBulkAll parts + 1
  | .iface _ d => uptoBulk d + 1
  | .map entries => uptoBulkEntries entries + 1
  | .held _ => 1
def uptoBulkAll {H : Type} : List (DataW H) → Nat
  | [] => 0
  | d :: r => uptoBulk d + uptoBulkAll r
def uptoBulkEntries {H : Type} : List (Lit × DataW H) → Nat
  | [] => 0
  | x :: r => uptoBulkEntry x + uptoBulkEntries r
def uptoBulkEntry {H : Type} : Lit × DataW H → Nat
  | (.string bytes, d) => bytes.length + uptoBulk d + 1
  | (_, d) => uptoBulk d + 1
 end
def uptoSmall : (H : Type) → List (DataW H) → Bool := fun _ ds => decide (uptoBulkAll ds ≤ 1048576)
def OpenSpec.upto (s : _root_.Go.ChangeSpec) : _root_.Go.OpenSpec := { _root_.Go.OpenSpec.ofChange s with cond := some uptoSmall }

/-- 'laws.FnRecForm', WHERE WHAT IT READS IS OF BULK AT MOST 1048576: true; the input reads as it did. -/
def fnRecFormUptoRow : OpenClaim := { program := "ytaogachhmdmoaaadoor", sum := "01ed88ce4897e3d7ee4d5181c00702a53bcd3669055c223efb6bd07628d22c5d", func := "loop.example/concierge/laws.FnRecForm", spec := "fnRecForm", inPlace := ["internal/reflectlite.TypeOf"], unfollowed := true, recurses := true, named := ["loop.example/concierge/impl.errNoRec"], ifaces := true, apart := false, laid := [("loop.example/concierge/impl.errNoRec", laid_loop_example_concierge_impl_errNoRec)], narrowed := true }
def FnRecFormUptoSaid : Prop := fnRecFormUptoRow.holds Tryd.pinned (OpenSpec.upto fnRecFormSpec)

/-- 'laws.FnLogAdd', WHERE WHAT IT READS IS OF BULK AT MOST 1048576: true; the input reads as it did. -/
def fnLogAddUptoRow : OpenClaim := { program := "ytaogachhmdmoaaadoor", sum := "01ed88ce4897e3d7ee4d5181c00702a53bcd3669055c223efb6bd07628d22c5d", func := "loop.example/concierge/laws.FnLogAdd", spec := "fnLogAdd", inPlace := ["internal/reflectlite.TypeOf"], unfollowed := true, recurses := true, named := ["loop.example/concierge/impl.errNoRec"], ifaces := true, apart := false, laid := [("loop.example/concierge/impl.errNoRec", laid_loop_example_concierge_impl_errNoRec)], narrowed := true }
def FnLogAddUptoSaid : Prop := fnLogAddUptoRow.holds Tryd.pinned (OpenSpec.upto fnLogAddSpec)

/-- 'laws.FnLogLess', WHERE WHAT IT READS IS OF BULK AT MOST 1048576: true; the input reads as it did. -/
def fnLogLessUptoRow : OpenClaim := { program := "ytaogachhmdmoaaadoor", sum := "01ed88ce4897e3d7ee4d5181c00702a53bcd3669055c223efb6bd07628d22c5d", func := "loop.example/concierge/laws.FnLogLess", spec := "fnLogLess", inPlace := ["internal/reflectlite.TypeOf"], unfollowed := true, recurses := true, named := ["loop.example/concierge/impl.errNoRec"], ifaces := true, apart := false, laid := [("loop.example/concierge/impl.errNoRec", laid_loop_example_concierge_impl_errNoRec)], narrowed := true }
def FnLogLessUptoSaid : Prop := fnLogLessUptoRow.holds Tryd.pinned (OpenSpec.upto fnLogLessSpec)

/-- 'laws.FnRecKinds', WHERE WHAT IT READS IS OF BULK AT MOST 1048576: true; the input reads as it did. -/
def fnRecKindsUptoRow : OpenClaim := { program := "ytaogachhmdmoaaadoor", sum := "01ed88ce4897e3d7ee4d5181c00702a53bcd3669055c223efb6bd07628d22c5d", func := "loop.example/concierge/laws.FnRecKinds", spec := "fnRecKinds", inPlace := ["internal/reflectlite.TypeOf"], unfollowed := true, recurses := true, named := ["loop.example/concierge/impl.errNoRec"], ifaces := true, apart := false, laid := [("loop.example/concierge/impl.errNoRec", laid_loop_example_concierge_impl_errNoRec)], narrowed := true }
def FnRecKindsUptoSaid : Prop := fnRecKindsUptoRow.holds Tryd.pinned (OpenSpec.upto fnRecKindsSpec)

end Rows
end Go.Proofs.YtaogachhmdmoaaaDoor
