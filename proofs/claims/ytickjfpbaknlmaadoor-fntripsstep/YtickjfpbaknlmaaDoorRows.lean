/-
  NARROWER THAN 'FOR EVERY INPUT', by the rows' own cells (each row's printed sentence says how): FnTripsMay: ifaces, laid · FnTripsKept: ifaces, laid · FnTripsBegin: ifaces, laid · FnTripsStep: ifaces, laid · FnTripsOnce: ifaces, laid · FnTripsOf: ifaces, laid.
  DERIVED. THE GIVEN ROWS OF THIS SEAT. 6 by the template 'for every input the law returns true; each argument reads behind the call as it read before'; 0 by the template 'total and deterministic' (their statements: YtickjfpbaknlmaaDoorTotals.lean).
  GIVEN WITH THE SEED: the statements are not yours to turn. If you find one false, say at which input.
  Laid BY PROGRAM, IN A SANDBOX (cutbox-rows.mjs): the forced cells as the released guide's own fill.sh prints them over the translation be505aa7d01b7652… (all of the seat's roots in one cut). By AI agents, Wed Nov 11 2026. No macro, syntax, notation, axiom, sorry.
-/
import Derived.Test.YtickjfpbaknlmaaDoorChecked
import GoSem.Claim
import GoSem.ClaimJoined
import GoSem.ClaimMapViews
import Derived.JoinedTies
import Derived.KernelRfl
namespace Go.Proofs.YtickjfpbaknlmaaDoor
/- THE CELL 'sum', in the pinned program and in every row, IS THE sha256 OF THE DUMP (.gsa) THAT YtickjfpbaknlmaaDoorProg.lean LOADS. Nothing in Lean hashes anything: it is a label: what it is worth is what the hold of that sum in a sandbox is worth. -/
noncomputable def Tryd.pinned : Pinned := { name := "ytickjfpbaknlmaadoor", sum := "be505aa7d01b7652c6eb3e2bfc393ce2788611d2d063d94e10b7332691a52039", checked := Tryd.checked }
namespace Rows
def none {H : Type} : Left H := { results := [], args := [] }

/- WHAT THE LISTED PACKAGE-LEVEL VARIABLES READ AS WHEN THE CALL BEGINS. Each datum BY PROGRAM (the guide's laid-datum.mjs) off the statement by which the dump's own 'gosem.cut.vars' lays the variable. In a bare row this is a premise. The card (YtickjfpbaknlmaaDoorCards.lean) ties it to the program's text. -/
def laid_loop_example_concierge_impl_errNoRec {H : Type} : DataW H := .iface "*errors.errorString" (.ptr (.agg [.lit (.string [110, 111, 32, 114, 101, 99, 111, 114, 100])]))

/-- 'laws.FnTripsMay': WHATEVER THE INPUT: true; the input reads as it did. -/
def fnTripsMaySpec : ChangeSpec := { name := "fnTripsMay", vars := ["loop.example/concierge/impl.errNoRec"], fn := fun _ => fun
  | [d, g1] => { results := [.lit (.bool true)], args := [d], vars := [g1] }
  | _ => none }
def fnTripsMayRow : OpenClaim := { program := "ytickjfpbaknlmaadoor", sum := "be505aa7d01b7652c6eb3e2bfc393ce2788611d2d063d94e10b7332691a52039", func := "loop.example/concierge/laws.FnTripsMay", spec := "fnTripsMay", inPlace := ["internal/reflectlite.TypeOf"], unfollowed := true, recurses := true, named := ["loop.example/concierge/impl.errNoRec"], ifaces := true, apart := false, laid := [("loop.example/concierge/impl.errNoRec", laid_loop_example_concierge_impl_errNoRec)] }
def FnTripsMaySaid : Prop := fnTripsMayRow.holds Tryd.pinned (OpenSpec.ofChange fnTripsMaySpec)

/-- ITS FALSE NEIGHBOUR: 'it returns false'. Refute it at one input. -/
def fnTripsMayWrong : ChangeSpec := { name := "fnTripsMay", vars := ["loop.example/concierge/impl.errNoRec"], fn := fun _ => fun
  | [d, g1] => { results := [.lit (.bool false)], args := [d], vars := [g1] }
  | _ => none }
def FnTripsMayWrongFalsely : Prop := fnTripsMayRow.holds Tryd.pinned (OpenSpec.ofChange fnTripsMayWrong)

/-- 'laws.FnTripsKept': WHATEVER THE INPUT: true; the input reads as it did. -/
def fnTripsKeptSpec : ChangeSpec := { name := "fnTripsKept", vars := ["loop.example/concierge/impl.errNoRec"], fn := fun _ => fun
  | [d, g1] => { results := [.lit (.bool true)], args := [d], vars := [g1] }
  | _ => none }
def fnTripsKeptRow : OpenClaim := { program := "ytickjfpbaknlmaadoor", sum := "be505aa7d01b7652c6eb3e2bfc393ce2788611d2d063d94e10b7332691a52039", func := "loop.example/concierge/laws.FnTripsKept", spec := "fnTripsKept", inPlace := ["internal/reflectlite.TypeOf"], unfollowed := true, recurses := true, named := ["loop.example/concierge/impl.errNoRec"], ifaces := true, apart := false, laid := [("loop.example/concierge/impl.errNoRec", laid_loop_example_concierge_impl_errNoRec)] }
def FnTripsKeptSaid : Prop := fnTripsKeptRow.holds Tryd.pinned (OpenSpec.ofChange fnTripsKeptSpec)

/-- ITS FALSE NEIGHBOUR: 'it returns false'. Refute it at one input. -/
def fnTripsKeptWrong : ChangeSpec := { name := "fnTripsKept", vars := ["loop.example/concierge/impl.errNoRec"], fn := fun _ => fun
  | [d, g1] => { results := [.lit (.bool false)], args := [d], vars := [g1] }
  | _ => none }
def FnTripsKeptWrongFalsely : Prop := fnTripsKeptRow.holds Tryd.pinned (OpenSpec.ofChange fnTripsKeptWrong)

/-- 'laws.FnTripsBegin': WHATEVER THE INPUT: true; the input reads as it did. -/
def fnTripsBeginSpec : ChangeSpec := { name := "fnTripsBegin", vars := ["loop.example/concierge/impl.errNoRec"], fn := fun _ => fun
  | [d1, d2, g1] => { results := [.lit (.bool true)], args := [d1, d2], vars := [g1] }
  | _ => none }
def fnTripsBeginRow : OpenClaim := { program := "ytickjfpbaknlmaadoor", sum := "be505aa7d01b7652c6eb3e2bfc393ce2788611d2d063d94e10b7332691a52039", func := "loop.example/concierge/laws.FnTripsBegin", spec := "fnTripsBegin", inPlace := ["internal/reflectlite.TypeOf"], unfollowed := true, recurses := true, named := ["loop.example/concierge/impl.errNoRec"], ifaces := true, apart := false, laid := [("loop.example/concierge/impl.errNoRec", laid_loop_example_concierge_impl_errNoRec)] }
def FnTripsBeginSaid : Prop := fnTripsBeginRow.holds Tryd.pinned (OpenSpec.ofChange fnTripsBeginSpec)

/-- ITS FALSE NEIGHBOUR: 'it returns false'. Refute it at one input. -/
def fnTripsBeginWrong : ChangeSpec := { name := "fnTripsBegin", vars := ["loop.example/concierge/impl.errNoRec"], fn := fun _ => fun
  | [d1, d2, g1] => { results := [.lit (.bool false)], args := [d1, d2], vars := [g1] }
  | _ => none }
def FnTripsBeginWrongFalsely : Prop := fnTripsBeginRow.holds Tryd.pinned (OpenSpec.ofChange fnTripsBeginWrong)

/-- 'laws.FnTripsStep': WHATEVER THE INPUT: true; the input reads as it did. -/
def fnTripsStepSpec : ChangeSpec := { name := "fnTripsStep", vars := ["loop.example/concierge/impl.errNoRec"], fn := fun _ => fun
  | [d, g1] => { results := [.lit (.bool true)], args := [d], vars := [g1] }
  | _ => none }
def fnTripsStepRow : OpenClaim := { program := "ytickjfpbaknlmaadoor", sum := "be505aa7d01b7652c6eb3e2bfc393ce2788611d2d063d94e10b7332691a52039", func := "loop.example/concierge/laws.FnTripsStep", spec := "fnTripsStep", inPlace := ["internal/reflectlite.TypeOf"], unfollowed := true, recurses := true, named := ["loop.example/concierge/impl.errNoRec"], ifaces := true, apart := false, laid := [("loop.example/concierge/impl.errNoRec", laid_loop_example_concierge_impl_errNoRec)] }
def FnTripsStepSaid : Prop := fnTripsStepRow.holds Tryd.pinned (OpenSpec.ofChange fnTripsStepSpec)

/-- ITS FALSE NEIGHBOUR: 'it returns false'. Refute it at one input. -/
def fnTripsStepWrong : ChangeSpec := { name := "fnTripsStep", vars := ["loop.example/concierge/impl.errNoRec"], fn := fun _ => fun
  | [d, g1] => { results := [.lit (.bool false)], args := [d], vars := [g1] }
  | _ => none }
def FnTripsStepWrongFalsely : Prop := fnTripsStepRow.holds Tryd.pinned (OpenSpec.ofChange fnTripsStepWrong)

/-- 'laws.FnTripsOnce': WHATEVER THE INPUT: true; the input reads as it did. -/
def fnTripsOnceSpec : ChangeSpec := { name := "fnTripsOnce", vars := ["loop.example/concierge/impl.errNoRec"], fn := fun _ => fun
  | [d, g1] => { results := [.lit (.bool true)], args := [d], vars := [g1] }
  | _ => none }
def fnTripsOnceRow : OpenClaim := { program := "ytickjfpbaknlmaadoor", sum := "be505aa7d01b7652c6eb3e2bfc393ce2788611d2d063d94e10b7332691a52039", func := "loop.example/concierge/laws.FnTripsOnce", spec := "fnTripsOnce", inPlace := ["internal/reflectlite.TypeOf"], unfollowed := true, recurses := true, named := ["loop.example/concierge/impl.errNoRec"], ifaces := true, apart := false, laid := [("loop.example/concierge/impl.errNoRec", laid_loop_example_concierge_impl_errNoRec)] }
def FnTripsOnceSaid : Prop := fnTripsOnceRow.holds Tryd.pinned (OpenSpec.ofChange fnTripsOnceSpec)

/-- ITS FALSE NEIGHBOUR: 'it returns false'. Refute it at one input. -/
def fnTripsOnceWrong : ChangeSpec := { name := "fnTripsOnce", vars := ["loop.example/concierge/impl.errNoRec"], fn := fun _ => fun
  | [d, g1] => { results := [.lit (.bool false)], args := [d], vars := [g1] }
  | _ => none }
def FnTripsOnceWrongFalsely : Prop := fnTripsOnceRow.holds Tryd.pinned (OpenSpec.ofChange fnTripsOnceWrong)

/-- 'laws.FnTripsOf': WHATEVER THE INPUT: true; the input reads as it did. -/
def fnTripsOfSpec : ChangeSpec := { name := "fnTripsOf", vars := ["loop.example/concierge/impl.errNoRec"], fn := fun _ => fun
  | [d1, d2, g1] => { results := [.lit (.bool true)], args := [d1, d2], vars := [g1] }
  | _ => none }
def fnTripsOfRow : OpenClaim := { program := "ytickjfpbaknlmaadoor", sum := "be505aa7d01b7652c6eb3e2bfc393ce2788611d2d063d94e10b7332691a52039", func := "loop.example/concierge/laws.FnTripsOf", spec := "fnTripsOf", inPlace := ["internal/reflectlite.TypeOf"], unfollowed := true, recurses := true, named := ["loop.example/concierge/impl.errNoRec"], ifaces := true, apart := false, laid := [("loop.example/concierge/impl.errNoRec", laid_loop_example_concierge_impl_errNoRec)] }
def FnTripsOfSaid : Prop := fnTripsOfRow.holds Tryd.pinned (OpenSpec.ofChange fnTripsOfSpec)

/-- ITS FALSE NEIGHBOUR: 'it returns false'. Refute it at one input. -/
def fnTripsOfWrong : ChangeSpec := { name := "fnTripsOf", vars := ["loop.example/concierge/impl.errNoRec"], fn := fun _ => fun
  | [d1, d2, g1] => { results := [.lit (.bool false)], args := [d1, d2], vars := [g1] }
  | _ => none }
def FnTripsOfWrongFalsely : Prop := fnTripsOfRow.holds Tryd.pinned (OpenSpec.ofChange fnTripsOfWrong)

/- THE SECOND FORM. 'bulk': how many values and letters a reading holds, each counted each time it is reached (what is shared counts as often as it is met; a slice's spare places count too). A statement '..UptoSaid' is the law's where the arguments, and the package variables that the reading takes, are together of bulk at most 1048576: NARROWER than '..Said'. Prove '..Said' where nothing that the law and all that it calls make is longer than what came in: it says more and counts as full. Else prove '..UptoSaid'. A law counts once. -/
mutual
def uptoBulk {H : Type} : DataW H → Nat
  | .lit (.string bytes) => bytes.length + 1
  | .lit _ => 1
  | .nil => 1
  | .ptr d => uptoBulk d + 1
  | .slice elems spare => uptoBulkAll elems + uptoBulkAll spare + 1
  | .agg parts => uptoBulkAll parts + 1
  | .iface _ d => uptoBulk d + 1
  | .map entries => uptoBulkEntries entries + 1
  | .held _ => 1
def uptoBulkAll {H : Type} : List (DataW H) → Nat
  | [] => 0
  | d :: r => uptoBulk d + uptoBulkAll r
def uptoBulkEntries {H : Type} : List (Lit × DataW H) → Nat
  | [] => 0
  | x :: r => uptoBulkEntry x + uptoBulkEntries r
def uptoBulkEntry {H : Type} : Lit × DataW H → Nat
  | (.string bytes, d) => bytes.length + uptoBulk d + 1
  | (_, d) => uptoBulk d + 1
 end
def uptoSmall : (H : Type) → List (DataW H) → Bool := fun _ ds => decide (uptoBulkAll ds ≤ 1048576)
def OpenSpec.upto (s : _root_.Go.ChangeSpec) : _root_.Go.OpenSpec := { _root_.Go.OpenSpec.ofChange s with cond := some uptoSmall }

/-- 'laws.FnTripsMay', WHERE WHAT IT READS IS OF BULK AT MOST 1048576: true; the input reads as it did. -/
def fnTripsMayUptoRow : OpenClaim := { program := "ytickjfpbaknlmaadoor", sum := "be505aa7d01b7652c6eb3e2bfc393ce2788611d2d063d94e10b7332691a52039", func := "loop.example/concierge/laws.FnTripsMay", spec := "fnTripsMay", inPlace := ["internal/reflectlite.TypeOf"], unfollowed := true, recurses := true, named := ["loop.example/concierge/impl.errNoRec"], ifaces := true, apart := false, laid := [("loop.example/concierge/impl.errNoRec", laid_loop_example_concierge_impl_errNoRec)], narrowed := true }
def FnTripsMayUptoSaid : Prop := fnTripsMayUptoRow.holds Tryd.pinned (OpenSpec.upto fnTripsMaySpec)

/-- 'laws.FnTripsKept', WHERE WHAT IT READS IS OF BULK AT MOST 1048576: true; the input reads as it did. -/
def fnTripsKeptUptoRow : OpenClaim := { program := "ytickjfpbaknlmaadoor", sum := "be505aa7d01b7652c6eb3e2bfc393ce2788611d2d063d94e10b7332691a52039", func := "loop.example/concierge/laws.FnTripsKept", spec := "fnTripsKept", inPlace := ["internal/reflectlite.TypeOf"], unfollowed := true, recurses := true, named := ["loop.example/concierge/impl.errNoRec"], ifaces := true, apart := false, laid := [("loop.example/concierge/impl.errNoRec", laid_loop_example_concierge_impl_errNoRec)], narrowed := true }
def FnTripsKeptUptoSaid : Prop := fnTripsKeptUptoRow.holds Tryd.pinned (OpenSpec.upto fnTripsKeptSpec)

/-- 'laws.FnTripsBegin', WHERE WHAT IT READS IS OF BULK AT MOST 1048576: true; the input reads as it did. -/
def fnTripsBeginUptoRow : OpenClaim := { program := "ytickjfpbaknlmaadoor", sum := "be505aa7d01b7652c6eb3e2bfc393ce2788611d2d063d94e10b7332691a52039", func := "loop.example/concierge/laws.FnTripsBegin", spec := "fnTripsBegin", inPlace := ["internal/reflectlite.TypeOf"], unfollowed := true, recurses := true, named := ["loop.example/concierge/impl.errNoRec"], ifaces := true, apart := false, laid := [("loop.example/concierge/impl.errNoRec", laid_loop_example_concierge_impl_errNoRec)], narrowed := true }
def FnTripsBeginUptoSaid : Prop := fnTripsBeginUptoRow.holds Tryd.pinned (OpenSpec.upto fnTripsBeginSpec)

/-- 'laws.FnTripsStep', WHERE WHAT IT READS IS OF BULK AT MOST 1048576: true; the input reads as it did. -/
def fnTripsStepUptoRow : OpenClaim := { program := "ytickjfpbaknlmaadoor", sum := "be505aa7d01b7652c6eb3e2bfc393ce2788611d2d063d94e10b7332691a52039", func := "loop.example/concierge/laws.FnTripsStep", spec := "fnTripsStep", inPlace := ["internal/reflectlite.TypeOf"], unfollowed := true, recurses := true, named := ["loop.example/concierge/impl.errNoRec"], ifaces := true, apart := false, laid := [("loop.example/concierge/impl.errNoRec", laid_loop_example_concierge_impl_errNoRec)], narrowed := true }
def FnTripsStepUptoSaid : Prop := fnTripsStepUptoRow.holds Tryd.pinned (OpenSpec.upto fnTripsStepSpec)

/-- 'laws.FnTripsOnce', WHERE WHAT IT READS IS OF BULK AT MOST 1048576: true; the input reads as it did. -/
def fnTripsOnceUptoRow : OpenClaim := { program := "ytickjfpbaknlmaadoor", sum := "be505aa7d01b7652c6eb3e2bfc393ce2788611d2d063d94e10b7332691a52039", func := "loop.example/concierge/laws.FnTripsOnce", spec := "fnTripsOnce", inPlace := ["internal/reflectlite.TypeOf"], unfollowed := true, recurses := true, named := ["loop.example/concierge/impl.errNoRec"], ifaces := true, apart := false, laid := [("loop.example/concierge/impl.errNoRec", laid_loop_example_concierge_impl_errNoRec)], narrowed := true }
def FnTripsOnceUptoSaid : Prop := fnTripsOnceUptoRow.holds Tryd.pinned (OpenSpec.upto fnTripsOnceSpec)

/-- 'laws.FnTripsOf', WHERE WHAT IT READS IS OF BULK AT MOST 1048576: true; the input reads as it did. -/
def fnTripsOfUptoRow : OpenClaim := { program := "ytickjfpbaknlmaadoor", sum := "be505aa7d01b7652c6eb3e2bfc393ce2788611d2d063d94e10b7332691a52039", func := "loop.example/concierge/laws.FnTripsOf", spec := "fnTripsOf", inPlace := ["internal/reflectlite.TypeOf"], unfollowed := true, recurses := true, named := ["loop.example/concierge/impl.errNoRec"], ifaces := true, apart := false, laid := [("loop.example/concierge/impl.errNoRec", laid_loop_example_concierge_impl_errNoRec)], narrowed := true }
def FnTripsOfUptoSaid : Prop := fnTripsOfUptoRow.holds Tryd.pinned (OpenSpec.upto fnTripsOfSpec)

end Rows
end Go.Proofs.YtickjfpbaknlmaaDoor
