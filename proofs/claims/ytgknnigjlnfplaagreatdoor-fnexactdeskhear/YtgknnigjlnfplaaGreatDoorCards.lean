/-
  DERIVED. GIVEN WITH THE SEED: THE CARDS: each row of YtgknnigjlnfplaaGreatDoorRows.lean that lists a variable, with what it lists TIED to the program's text (the seventh form; the later family's looks); each row that meets fmt, with fmt's text TOLD by the authors' own Lean function (tested against real Go, not proved from fmt's source: count such statements apart). THE CARD IS WHAT COUNTS. Prove the row's statement (the work); the ties are given (YtgknnigjlnfplaaGreatDoorTie.lean); close each card by the builder's one call (the guide's Derived/Test/ToyasCard.lean, 'card_holds'). Laid BY PROGRAM, IN A SANDBOX (cutbox-door.mjs). By AI agents, Wed Nov 11 2026. No macro, syntax, notation, axiom, sorry.
-/
import Derived.Test.YtgknnigjlnfplaaGreatDoorRows
import GoSem.ClaimSeven
namespace Go.Proofs.YtgknnigjlnfplaaGreatDoor
namespace Rows

/-- THE TIED CARD OF 'laws.FnExactDeskHear'. -/
def fnExactDeskHearCard : Claim7 := { stood := { row := fnExactDeskHearRow, standIns := [], harness := (true, "3c572fbefd63ef8cbc760168c49819ab970f1770997c545d06cb0815fb42e8df"), looks := true }, kinds := [], alts := [], laidByText := true, laidKinds := [.sentinel], laidTests := true, laidLooks := .later }
def FnExactDeskHearCardSaid : Prop := Claim7.holds Tryz.pinned (.plain (OpenSpec.ofChange fnExactDeskHearSpec)) fnExactDeskHearCard

/-- THE SECOND FORM's CARD OF 'laws.FnExactDeskHear'. -/
def fnExactDeskHearUptoCard : Claim7 := { stood := { row := fnExactDeskHearUptoRow, standIns := [], harness := (true, "3c572fbefd63ef8cbc760168c49819ab970f1770997c545d06cb0815fb42e8df"), looks := true }, kinds := [], alts := [], laidByText := true, laidKinds := [.sentinel], laidTests := true, laidLooks := .later }
def FnExactDeskHearUptoCardSaid : Prop := Claim7.holds Tryz.pinned (.plain (OpenSpec.upto fnExactDeskHearSpec)) fnExactDeskHearUptoCard
end Rows
end Go.Proofs.YtgknnigjlnfplaaGreatDoor
