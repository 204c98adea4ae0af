/-
  DERIVED. GIVEN WITH THE SEED: THE CARDS: each row of YtbciimgibjlimaaDoorRows.lean that lists a variable, with what it lists TIED to the program's text (the seventh form; the later family's looks); each row that meets fmt, with fmt's text TOLD by the authors' own Lean function (tested against real Go, not proved from fmt's source: count such statements apart). THE CARD IS WHAT COUNTS. Prove the row's statement (the work); the ties are given (YtbciimgibjlimaaDoorTie.lean); close each card by the builder's one call (the guide's Derived/Test/ToyasCard.lean, 'card_holds'). Laid BY PROGRAM, IN A SANDBOX (cutbox-door.mjs). By AI agents, Wed Nov 11 2026. No macro, syntax, notation, axiom, sorry.
-/
import Derived.Test.YtbciimgibjlimaaDoorRows
import GoSem.ClaimSeven
namespace Go.Proofs.YtbciimgibjlimaaDoor
namespace Rows

/-- THE TIED CARD OF 'laws.FnExactRecText'. -/
def fnExactRecTextCard : Claim7 := { stood := { row := fnExactRecTextRow, standIns := [], harness := (true, "f5ce412b49d69bfa969a6e1b6aec7b1029dc55eed5d360111dd48ed6df042456"), looks := true }, kinds := [], alts := [], laidByText := true, laidKinds := [.data, .data, .data, .data, .sentinel], laidTests := true, laidLooks := .later }
def FnExactRecTextCardSaid : Prop := Claim7.holds Tryd.pinned (.plain (OpenSpec.ofChange fnExactRecTextSpec)) fnExactRecTextCard

/-- THE TIED CARD OF 'laws.FnRecOne'. -/
def fnRecOneCard : Claim7 := { stood := { row := fnRecOneRow, standIns := [], harness := (true, "f5ce412b49d69bfa969a6e1b6aec7b1029dc55eed5d360111dd48ed6df042456"), looks := true }, kinds := [], alts := [], laidByText := true, laidKinds := [.data, .data, .data, .data, .sentinel], laidTests := true, laidLooks := .later }
def FnRecOneCardSaid : Prop := Claim7.holds Tryd.pinned (.plain (OpenSpec.ofChange fnRecOneSpec)) fnRecOneCard

/-- THE SECOND FORM's CARD OF 'laws.FnExactRecText'. -/
def fnExactRecTextUptoCard : Claim7 := { stood := { row := fnExactRecTextUptoRow, standIns := [], harness := (true, "f5ce412b49d69bfa969a6e1b6aec7b1029dc55eed5d360111dd48ed6df042456"), looks := true }, kinds := [], alts := [], laidByText := true, laidKinds := [.data, .data, .data, .data, .sentinel], laidTests := true, laidLooks := .later }
def FnExactRecTextUptoCardSaid : Prop := Claim7.holds Tryd.pinned (.plain (OpenSpec.upto fnExactRecTextSpec)) fnExactRecTextUptoCard

/-- THE SECOND FORM's CARD OF 'laws.FnRecOne'. -/
def fnRecOneUptoCard : Claim7 := { stood := { row := fnRecOneUptoRow, standIns := [], harness := (true, "f5ce412b49d69bfa969a6e1b6aec7b1029dc55eed5d360111dd48ed6df042456"), looks := true }, kinds := [], alts := [], laidByText := true, laidKinds := [.data, .data, .data, .data, .sentinel], laidTests := true, laidLooks := .later }
def FnRecOneUptoCardSaid : Prop := Claim7.holds Tryd.pinned (.plain (OpenSpec.upto fnRecOneSpec)) fnRecOneUptoCard
end Rows
end Go.Proofs.YtbciimgibjlimaaDoor
