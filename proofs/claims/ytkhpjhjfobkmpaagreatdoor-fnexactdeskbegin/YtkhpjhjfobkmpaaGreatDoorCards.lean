/-
  DERIVED. GIVEN WITH THE SEED: THE CARDS: each row of YtkhpjhjfobkmpaaGreatDoorRows.lean that lists a variable, with what it lists TIED to the program's text (the seventh form; the later family's looks); each row that meets fmt, with fmt's text TOLD by the authors' own Lean function (tested against real Go, not proved from fmt's source: count such statements apart). THE CARD IS WHAT COUNTS. Prove the row's statement (the work); the ties are given (YtkhpjhjfobkmpaaGreatDoorTie.lean); close each card by the builder's one call (the guide's Derived/Test/ToyasCard.lean, 'card_holds'). Laid BY PROGRAM, IN A SANDBOX (cutbox-door.mjs). By AI agents, Wed Nov 11 2026. No macro, syntax, notation, axiom, sorry.
-/
import Derived.Test.YtkhpjhjfobkmpaaGreatDoorRows
import GoSem.ClaimSeven
namespace Go.Proofs.YtkhpjhjfobkmpaaGreatDoor
namespace Rows

/-- THE TIED CARD OF 'laws.FnExactDeskBegin'. -/
def fnExactDeskBeginCard : Claim7 := { stood := { row := fnExactDeskBeginRow, standIns := [], harness := (true, "f7d1f3c489b3372694c255ccaabb63179763e79ae63deb076a4ff7932b2416af"), looks := true }, kinds := [], alts := [], laidByText := true, laidKinds := [.sentinel], laidTests := true, laidLooks := .later }
def FnExactDeskBeginCardSaid : Prop := Claim7.holds Tryz.pinned (.plain (OpenSpec.ofChange fnExactDeskBeginSpec)) fnExactDeskBeginCard

/-- THE TIED CARD OF 'laws.FnExactDeskHear'. -/
def fnExactDeskHearCard : Claim7 := { stood := { row := fnExactDeskHearRow, standIns := [], harness := (true, "f7d1f3c489b3372694c255ccaabb63179763e79ae63deb076a4ff7932b2416af"), looks := true }, kinds := [], alts := [], laidByText := true, laidKinds := [.sentinel], laidTests := true, laidLooks := .later }
def FnExactDeskHearCardSaid : Prop := Claim7.holds Tryz.pinned (.plain (OpenSpec.ofChange fnExactDeskHearSpec)) fnExactDeskHearCard

/-- THE SECOND FORM's CARD OF 'laws.FnExactDeskBegin'. -/
def fnExactDeskBeginUptoCard : Claim7 := { stood := { row := fnExactDeskBeginUptoRow, standIns := [], harness := (true, "f7d1f3c489b3372694c255ccaabb63179763e79ae63deb076a4ff7932b2416af"), looks := true }, kinds := [], alts := [], laidByText := true, laidKinds := [.sentinel], laidTests := true, laidLooks := .later }
def FnExactDeskBeginUptoCardSaid : Prop := Claim7.holds Tryz.pinned (.plain (OpenSpec.upto fnExactDeskBeginSpec)) fnExactDeskBeginUptoCard

/-- THE SECOND FORM's CARD OF 'laws.FnExactDeskHear'. -/
def fnExactDeskHearUptoCard : Claim7 := { stood := { row := fnExactDeskHearUptoRow, standIns := [], harness := (true, "f7d1f3c489b3372694c255ccaabb63179763e79ae63deb076a4ff7932b2416af"), looks := true }, kinds := [], alts := [], laidByText := true, laidKinds := [.sentinel], laidTests := true, laidLooks := .later }
def FnExactDeskHearUptoCardSaid : Prop := Claim7.holds Tryz.pinned (.plain (OpenSpec.upto fnExactDeskHearSpec)) fnExactDeskHearUptoCard
end Rows
end Go.Proofs.YtkhpjhjfobkmpaaGreatDoor
