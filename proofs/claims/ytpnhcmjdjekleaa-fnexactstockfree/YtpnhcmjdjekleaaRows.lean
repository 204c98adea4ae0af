/-
  No cell of these rows narrows 'for every input' (looked for: loops, veiled, ifaces, maps, wideKeys, modest, calm, conditions, laid).
  DERIVED. THE GIVEN ROWS OF THIS SEAT. 3 by the template 'for every input the law returns true; each argument reads behind the call as it read before'; 0 by the template 'total and deterministic' (their statements: YtpnhcmjdjekleaaTotals.lean).
  GIVEN WITH THE SEED: the statements are not yours to turn. If you find one false, say at which input.
  Laid BY PROGRAM, IN A SANDBOX (cutbox-rows.mjs): the forced cells as the released guide's own fill.sh prints them over the translation 7640d57ec7671b7b… (all of the seat's roots in one cut). By AI agents, Wed Nov 11 2026. No macro, syntax, notation, axiom, sorry.
-/
import Derived.Test.YtpnhcmjdjekleaaChecked
import GoSem.Claim
import GoSem.ClaimJoined
import GoSem.ClaimMapViews
import Derived.JoinedTies
import Derived.KernelRfl
namespace Go.Proofs.Ytpnhcmjdjekleaa
/- THE CELL 'sum', in the pinned program and in every row, IS THE sha256 OF THE DUMP (.gsa) THAT YtpnhcmjdjekleaaProg.lean LOADS. Nothing in Lean hashes anything: it is a label: what it is worth is what the hold of that sum in a sandbox is worth. -/
noncomputable def Try.pinned : Pinned := { name := "ytpnhcmjdjekleaa", sum := "7640d57ec7671b7b4f1e273ee400e019339ff87504ad782b33d4a0b30896239c", checked := Try.checked }
namespace Rows
def none {H : Type} : Left H := { results := [], args := [] }

/-- 'laws.FnExactStockNew': WHATEVER THE INPUT: true; the input reads as it did. -/
def fnExactStockNewSpec : ChangeSpec := { name := "fnExactStockNew", fn := fun _ => fun
  | [d] => { results := [.lit (.bool true)], args := [d] }
  | _ => none }
def fnExactStockNewRow : OpenClaim := { program := "ytpnhcmjdjekleaa", sum := "7640d57ec7671b7b4f1e273ee400e019339ff87504ad782b33d4a0b30896239c", func := "loop.example/concierge/laws.FnExactStockNew", spec := "fnExactStockNew", apart := false }
def FnExactStockNewSaid : Prop := fnExactStockNewRow.holds Try.pinned (OpenSpec.ofChange fnExactStockNewSpec)

/-- ITS FALSE NEIGHBOUR: 'it returns false'. Refute it at one input. -/
def fnExactStockNewWrong : ChangeSpec := { name := "fnExactStockNew", fn := fun _ => fun
  | [d] => { results := [.lit (.bool false)], args := [d] }
  | _ => none }
def FnExactStockNewWrongFalsely : Prop := fnExactStockNewRow.holds Try.pinned (OpenSpec.ofChange fnExactStockNewWrong)

/-- 'laws.FnExactStockOk': WHATEVER THE INPUT: true; the input reads as it did. -/
def fnExactStockOkSpec : ChangeSpec := { name := "fnExactStockOk", fn := fun _ => fun
  | [d] => { results := [.lit (.bool true)], args := [d] }
  | _ => none }
def fnExactStockOkRow : OpenClaim := { program := "ytpnhcmjdjekleaa", sum := "7640d57ec7671b7b4f1e273ee400e019339ff87504ad782b33d4a0b30896239c", func := "loop.example/concierge/laws.FnExactStockOk", spec := "fnExactStockOk", apart := false }
def FnExactStockOkSaid : Prop := fnExactStockOkRow.holds Try.pinned (OpenSpec.ofChange fnExactStockOkSpec)

/-- ITS FALSE NEIGHBOUR: 'it returns false'. Refute it at one input. -/
def fnExactStockOkWrong : ChangeSpec := { name := "fnExactStockOk", fn := fun _ => fun
  | [d] => { results := [.lit (.bool false)], args := [d] }
  | _ => none }
def FnExactStockOkWrongFalsely : Prop := fnExactStockOkRow.holds Try.pinned (OpenSpec.ofChange fnExactStockOkWrong)

/-- 'laws.FnExactStockFree': WHATEVER THE INPUT: true; the input reads as it did. -/
def fnExactStockFreeSpec : ChangeSpec := { name := "fnExactStockFree", fn := fun _ => fun
  | [d] => { results := [.lit (.bool true)], args := [d] }
  | _ => none }
def fnExactStockFreeRow : OpenClaim := { program := "ytpnhcmjdjekleaa", sum := "7640d57ec7671b7b4f1e273ee400e019339ff87504ad782b33d4a0b30896239c", func := "loop.example/concierge/laws.FnExactStockFree", spec := "fnExactStockFree", apart := false }
def FnExactStockFreeSaid : Prop := fnExactStockFreeRow.holds Try.pinned (OpenSpec.ofChange fnExactStockFreeSpec)

/-- ITS FALSE NEIGHBOUR: 'it returns false'. Refute it at one input. -/
def fnExactStockFreeWrong : ChangeSpec := { name := "fnExactStockFree", fn := fun _ => fun
  | [d] => { results := [.lit (.bool false)], args := [d] }
  | _ => none }
def FnExactStockFreeWrongFalsely : Prop := fnExactStockFreeRow.holds Try.pinned (OpenSpec.ofChange fnExactStockFreeWrong)

/- THE SECOND FORM. 'bulk': how many values and letters a reading holds, each counted each time it is reached (what is shared counts as often as it is met; a slice's spare places count too). A statement '..UptoSaid' is the law's where the arguments, and the package variables that the reading takes, are together of bulk at most 1048576: NARROWER than '..Said'. Prove '..Said' where nothing that the law and all that it calls make is longer than what came in: it says more and counts as full. Else prove '..UptoSaid'. A law counts once. -/
mutual
def uptoBulk {H : Type} : DataW H → Nat
  | .lit (.string bytes) => bytes.length + 1
  | .lit _ => 1
  | .nil => 1
  | .ptr d => uptoBulk d + 1
  | .slice elems spare => uptoBulkAll elems + uptoBulkAll spare + 1
  | .agg parts => uptoBulkAll parts + 1
  | .iface _ d => uptoBulk d + 1
  | .map entries => uptoBulkEntries entries + 1
  | .held _ => 1
def uptoBulkAll {H : Type} : List (DataW H) → Nat
  | [] => 0
  | d :: r => uptoBulk d + uptoBulkAll r
def uptoBulkEntries {H : Type} : List (Lit × DataW H) → Nat
  | [] => 0
  | x :: r => uptoBulkEntry x + uptoBulkEntries r
def uptoBulkEntry {H : Type} : Lit × DataW H → Nat
  | (.string bytes, d) => bytes.length + uptoBulk d + 1
  | (_, d) => uptoBulk d + 1
 end
def uptoSmall : (H : Type) → List (DataW H) → Bool := fun _ ds => decide (uptoBulkAll ds ≤ 1048576)
def OpenSpec.upto (s : _root_.Go.ChangeSpec) : _root_.Go.OpenSpec := { _root_.Go.OpenSpec.ofChange s with cond := some uptoSmall }

/-- 'laws.FnExactStockNew', WHERE WHAT IT READS IS OF BULK AT MOST 1048576: true; the input reads as it did. -/
def fnExactStockNewUptoRow : OpenClaim := { program := "ytpnhcmjdjekleaa", sum := "7640d57ec7671b7b4f1e273ee400e019339ff87504ad782b33d4a0b30896239c", func := "loop.example/concierge/laws.FnExactStockNew", spec := "fnExactStockNew", apart := false, narrowed := true }
def FnExactStockNewUptoSaid : Prop := fnExactStockNewUptoRow.holds Try.pinned (OpenSpec.upto fnExactStockNewSpec)

/-- 'laws.FnExactStockOk', WHERE WHAT IT READS IS OF BULK AT MOST 1048576: true; the input reads as it did. -/
def fnExactStockOkUptoRow : OpenClaim := { program := "ytpnhcmjdjekleaa", sum := "7640d57ec7671b7b4f1e273ee400e019339ff87504ad782b33d4a0b30896239c", func := "loop.example/concierge/laws.FnExactStockOk", spec := "fnExactStockOk", apart := false, narrowed := true }
def FnExactStockOkUptoSaid : Prop := fnExactStockOkUptoRow.holds Try.pinned (OpenSpec.upto fnExactStockOkSpec)

/-- 'laws.FnExactStockFree', WHERE WHAT IT READS IS OF BULK AT MOST 1048576: true; the input reads as it did. -/
def fnExactStockFreeUptoRow : OpenClaim := { program := "ytpnhcmjdjekleaa", sum := "7640d57ec7671b7b4f1e273ee400e019339ff87504ad782b33d4a0b30896239c", func := "loop.example/concierge/laws.FnExactStockFree", spec := "fnExactStockFree", apart := false, narrowed := true }
def FnExactStockFreeUptoSaid : Prop := fnExactStockFreeUptoRow.holds Try.pinned (OpenSpec.upto fnExactStockFreeSpec)

end Rows
end Go.Proofs.Ytpnhcmjdjekleaa
