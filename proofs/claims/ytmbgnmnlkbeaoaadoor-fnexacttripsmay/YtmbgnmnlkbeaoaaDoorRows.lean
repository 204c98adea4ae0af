/-
  NARROWER THAN 'FOR EVERY INPUT', by the rows' own cells (each row's printed sentence says how): FnExactTripsMay: ifaces, laid · FnExactTripsDo: ifaces, laid · FnExactTripsOf: ifaces, laid.
  DERIVED. THE GIVEN ROWS OF THIS SEAT. 3 by the template 'for every input the law returns true; each argument reads behind the call as it read before'; 0 by the template 'total and deterministic' (their statements: YtmbgnmnlkbeaoaaDoorTotals.lean).
  GIVEN WITH THE SEED: the statements are not yours to turn. If you find one false, say at which input.
  Laid BY PROGRAM, IN A SANDBOX (cutbox-rows.mjs): the forced cells as the released guide's own fill.sh prints them over the translation 4ca1236d0dbd15dc… (all of the seat's roots in one cut). By AI agents, Wed Nov 11 2026. No macro, syntax, notation, axiom, sorry.
-/
import Derived.Test.YtmbgnmnlkbeaoaaDoorChecked
import GoSem.Claim
import GoSem.ClaimJoined
import GoSem.ClaimMapViews
import Derived.JoinedTies
import Derived.KernelRfl
namespace Go.Proofs.YtmbgnmnlkbeaoaaDoor
/- THE CELL 'sum', in the pinned program and in every row, IS THE sha256 OF THE DUMP (.gsa) THAT YtmbgnmnlkbeaoaaDoorProg.lean LOADS. Nothing in Lean hashes anything: it is a label: what it is worth is what the hold of that sum in a sandbox is worth. -/
noncomputable def Tryd.pinned : Pinned := { name := "ytmbgnmnlkbeaoaadoor", sum := "4ca1236d0dbd15dc989f3757d910522143d6997c0b45dacef5555e01a1bc72d5", checked := Tryd.checked }
namespace Rows
def none {H : Type} : Left H := { results := [], args := [] }

/- WHAT THE LISTED PACKAGE-LEVEL VARIABLES READ AS WHEN THE CALL BEGINS. Each datum BY PROGRAM (the guide's laid-datum.mjs) off the statement by which the dump's own 'gosem.cut.vars' lays the variable. In a bare row this is a premise. The card (YtmbgnmnlkbeaoaaDoorCards.lean) ties it to the program's text. -/
def laid_loop_example_concierge_impl_errNoRec {H : Type} : DataW H := .iface "*errors.errorString" (.ptr (.agg [.lit (.string [110, 111, 32, 114, 101, 99, 111, 114, 100])]))

/-- 'laws.FnExactTripsMay': WHATEVER THE INPUT: true; the input reads as it did. -/
def fnExactTripsMaySpec : ChangeSpec := { name := "fnExactTripsMay", vars := ["loop.example/concierge/impl.errNoRec"], fn := fun _ => fun
  | [d1, d2, g1] => { results := [.lit (.bool true)], args := [d1, d2], vars := [g1] }
  | _ => none }
def fnExactTripsMayRow : OpenClaim := { program := "ytmbgnmnlkbeaoaadoor", sum := "4ca1236d0dbd15dc989f3757d910522143d6997c0b45dacef5555e01a1bc72d5", func := "loop.example/concierge/laws.FnExactTripsMay", spec := "fnExactTripsMay", inPlace := ["internal/reflectlite.TypeOf"], unfollowed := true, recurses := true, named := ["loop.example/concierge/impl.errNoRec"], ifaces := true, apart := false, laid := [("loop.example/concierge/impl.errNoRec", laid_loop_example_concierge_impl_errNoRec)] }
def FnExactTripsMaySaid : Prop := fnExactTripsMayRow.holds Tryd.pinned (OpenSpec.ofChange fnExactTripsMaySpec)

/-- ITS FALSE NEIGHBOUR: 'it returns false'. Refute it at one input. -/
def fnExactTripsMayWrong : ChangeSpec := { name := "fnExactTripsMay", vars := ["loop.example/concierge/impl.errNoRec"], fn := fun _ => fun
  | [d1, d2, g1] => { results := [.lit (.bool false)], args := [d1, d2], vars := [g1] }
  | _ => none }
def FnExactTripsMayWrongFalsely : Prop := fnExactTripsMayRow.holds Tryd.pinned (OpenSpec.ofChange fnExactTripsMayWrong)

/-- 'laws.FnExactTripsDo': WHATEVER THE INPUT: true; the input reads as it did. -/
def fnExactTripsDoSpec : ChangeSpec := { name := "fnExactTripsDo", vars := ["loop.example/concierge/impl.errNoRec"], fn := fun _ => fun
  | [d1, d2, g1] => { results := [.lit (.bool true)], args := [d1, d2], vars := [g1] }
  | _ => none }
def fnExactTripsDoRow : OpenClaim := { program := "ytmbgnmnlkbeaoaadoor", sum := "4ca1236d0dbd15dc989f3757d910522143d6997c0b45dacef5555e01a1bc72d5", func := "loop.example/concierge/laws.FnExactTripsDo", spec := "fnExactTripsDo", inPlace := ["internal/reflectlite.TypeOf"], unfollowed := true, recurses := true, named := ["loop.example/concierge/impl.errNoRec"], ifaces := true, apart := false, laid := [("loop.example/concierge/impl.errNoRec", laid_loop_example_concierge_impl_errNoRec)] }
def FnExactTripsDoSaid : Prop := fnExactTripsDoRow.holds Tryd.pinned (OpenSpec.ofChange fnExactTripsDoSpec)

/-- ITS FALSE NEIGHBOUR: 'it returns false'. Refute it at one input. -/
def fnExactTripsDoWrong : ChangeSpec := { name := "fnExactTripsDo", vars := ["loop.example/concierge/impl.errNoRec"], fn := fun _ => fun
  | [d1, d2, g1] => { results := [.lit (.bool false)], args := [d1, d2], vars := [g1] }
  | _ => none }
def FnExactTripsDoWrongFalsely : Prop := fnExactTripsDoRow.holds Tryd.pinned (OpenSpec.ofChange fnExactTripsDoWrong)

/-- 'laws.FnExactTripsOf': WHATEVER THE INPUT: true; the input reads as it did. -/
def fnExactTripsOfSpec : ChangeSpec := { name := "fnExactTripsOf", vars := ["loop.example/concierge/impl.errNoRec"], fn := fun _ => fun
  | [d, g1] => { results := [.lit (.bool true)], args := [d], vars := [g1] }
  | _ => none }
def fnExactTripsOfRow : OpenClaim := { program := "ytmbgnmnlkbeaoaadoor", sum := "4ca1236d0dbd15dc989f3757d910522143d6997c0b45dacef5555e01a1bc72d5", func := "loop.example/concierge/laws.FnExactTripsOf", spec := "fnExactTripsOf", inPlace := ["internal/reflectlite.TypeOf"], unfollowed := true, recurses := true, named := ["loop.example/concierge/impl.errNoRec"], ifaces := true, apart := false, laid := [("loop.example/concierge/impl.errNoRec", laid_loop_example_concierge_impl_errNoRec)] }
def FnExactTripsOfSaid : Prop := fnExactTripsOfRow.holds Tryd.pinned (OpenSpec.ofChange fnExactTripsOfSpec)

/-- ITS FALSE NEIGHBOUR: 'it returns false'. Refute it at one input. -/
def fnExactTripsOfWrong : ChangeSpec := { name := "fnExactTripsOf", vars := ["loop.example/concierge/impl.errNoRec"], fn := fun _ => fun
  | [d, g1] => { results := [.lit (.bool false)], args := [d], vars := [g1] }
  | _ => none }
def FnExactTripsOfWrongFalsely : Prop := fnExactTripsOfRow.holds Tryd.pinned (OpenSpec.ofChange fnExactTripsOfWrong)

/- THE SECOND FORM. 'bulk': how many values and letters a reading holds, each counted each time it is reached (what is shared counts as often as it is met; a slice's spare places count too). A statement '..UptoSaid' is the law's where the arguments, and the package variables that the reading takes, are together of bulk at most 1048576: NARROWER than '..Said'. Prove '..Said' where nothing that the law and all that it calls make is longer than what came in: it says more and counts as full. Else prove '..UptoSaid'. A law counts once. -/
mutual
def uptoBulk {H : Type} : DataW H → Nat
  | .lit (.string bytes) => bytes.length + 1
  | .lit _ => 1
  | .nil => 1
  | .ptr d => uptoBulk d + 1
  | .slice elems spare => uptoBulkAll elems + uptoBulkAll spare + 1
  | .agg parts => uptoBulkAll parts + 1
  | .iface _ d => uptoBulk d + 1
  | .map entries => uptoBulkEntries entries + 1
  | .held _ => 1
def uptoBulkAll {H : Type} : List (DataW H) → Nat
  | [] => 0
  | d :: r => uptoBulk d + uptoBulkAll r
def uptoBulkEntries {H : Type} : List (Lit × DataW H) → Nat
  | [] => 0
  | x :: r => uptoBulkEntry x + uptoBulkEntries r
def uptoBulkEntry {H : Type} : Lit × DataW H → Nat
  | (.string bytes, d) => bytes.length + uptoBulk d + 1
  | (_, d) => uptoBulk d + 1
 end
def uptoSmall : (H : Type) → List (DataW H) → Bool := fun _ ds => decide (uptoBulkAll ds ≤ 1048576)
def OpenSpec.upto (s : _root_.Go.ChangeSpec) : _root_.Go.OpenSpec := { _root_.Go.OpenSpec.ofChange s with cond := some uptoSmall }

/-- 'laws.FnExactTripsMay', WHERE WHAT IT READS IS OF BULK AT MOST 1048576: true; the input reads as it did. -/
def fnExactTripsMayUptoRow : OpenClaim := { program := "ytmbgnmnlkbeaoaadoor", sum := "4ca1236d0dbd15dc989f3757d910522143d6997c0b45dacef5555e01a1bc72d5", func := "loop.example/concierge/laws.FnExactTripsMay", spec := "fnExactTripsMay", inPlace := ["internal/reflectlite.TypeOf"], unfollowed := true, recurses := true, named := ["loop.example/concierge/impl.errNoRec"], ifaces := true, apart := false, laid := [("loop.example/concierge/impl.errNoRec", laid_loop_example_concierge_impl_errNoRec)], narrowed := true }
def FnExactTripsMayUptoSaid : Prop := fnExactTripsMayUptoRow.holds Tryd.pinned (OpenSpec.upto fnExactTripsMaySpec)

/-- 'laws.FnExactTripsDo', WHERE WHAT IT READS IS OF BULK AT MOST 1048576: true; the input reads as it did. -/
def fnExactTripsDoUptoRow : OpenClaim := { program := "ytmbgnmnlkbeaoaadoor", sum := "4ca1236d0dbd15dc989f3757d910522143d6997c0b45dacef5555e01a1bc72d5", func := "loop.example/concierge/laws.FnExactTripsDo", spec := "fnExactTripsDo", inPlace := ["internal/reflectlite.TypeOf"], unfollowed := true, recurses := true, named := ["loop.example/concierge/impl.errNoRec"], ifaces := true, apart := false, laid := [("loop.example/concierge/impl.errNoRec", laid_loop_example_concierge_impl_errNoRec)], narrowed := true }
def FnExactTripsDoUptoSaid : Prop := fnExactTripsDoUptoRow.holds Tryd.pinned (OpenSpec.upto fnExactTripsDoSpec)

/-- 'laws.FnExactTripsOf', WHERE WHAT IT READS IS OF BULK AT MOST 1048576: true; the input reads as it did. -/
def fnExactTripsOfUptoRow : OpenClaim := { program := "ytmbgnmnlkbeaoaadoor", sum := "4ca1236d0dbd15dc989f3757d910522143d6997c0b45dacef5555e01a1bc72d5", func := "loop.example/concierge/laws.FnExactTripsOf", spec := "fnExactTripsOf", inPlace := ["internal/reflectlite.TypeOf"], unfollowed := true, recurses := true, named := ["loop.example/concierge/impl.errNoRec"], ifaces := true, apart := false, laid := [("loop.example/concierge/impl.errNoRec", laid_loop_example_concierge_impl_errNoRec)], narrowed := true }
def FnExactTripsOfUptoSaid : Prop := fnExactTripsOfUptoRow.holds Tryd.pinned (OpenSpec.upto fnExactTripsOfSpec)

end Rows
end Go.Proofs.YtmbgnmnlkbeaoaaDoor
