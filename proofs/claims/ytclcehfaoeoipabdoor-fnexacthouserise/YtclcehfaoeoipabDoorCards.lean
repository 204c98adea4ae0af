/-
  DERIVED. GIVEN WITH THE SEED: THE CARDS: each row of YtclcehfaoeoipabDoorRows.lean that lists a variable, with what it lists TIED to the program's text (the seventh form; the later family's looks); each row that meets fmt, with fmt's text TOLD by the authors' own Lean function (tested against real Go, not proved from fmt's source: count such statements apart). THE CARD IS WHAT COUNTS. Prove the row's statement (the work); the ties are given (YtclcehfaoeoipabDoorTie.lean); close each card by the builder's one call (the guide's Derived/Test/ToyasCard.lean, 'card_holds'). Laid BY PROGRAM, IN A SANDBOX (cutbox-door.mjs). By AI agents, Wed Nov 11 2026. No macro, syntax, notation, axiom, sorry.
-/
import Derived.Test.YtclcehfaoeoipabDoorRows
import GoSem.ClaimSeven
namespace Go.Proofs.YtclcehfaoeoipabDoor
namespace Rows

/-- THE TIED CARD OF 'laws.FnExactHouseRise'. -/
def fnExactHouseRiseCard : Claim7 := { stood := { row := fnExactHouseRiseRow, standIns := [], harness := (true, "537ae73019064a2f51b17441736f084eb27f54ff7c56ff61979768750e024d0d"), looks := true }, kinds := [], alts := [], laidByText := true, laidKinds := [.sentinel], laidTests := true, laidLooks := .later }
def FnExactHouseRiseCardSaid : Prop := Claim7.holds Tryd.pinned (.plain (OpenSpec.ofChange fnExactHouseRiseSpec)) fnExactHouseRiseCard

/-- THE SECOND FORM's CARD OF 'laws.FnExactHouseRise'. -/
def fnExactHouseRiseUptoCard : Claim7 := { stood := { row := fnExactHouseRiseUptoRow, standIns := [], harness := (true, "537ae73019064a2f51b17441736f084eb27f54ff7c56ff61979768750e024d0d"), looks := true }, kinds := [], alts := [], laidByText := true, laidKinds := [.sentinel], laidTests := true, laidLooks := .later }
def FnExactHouseRiseUptoCardSaid : Prop := Claim7.holds Tryd.pinned (.plain (OpenSpec.upto fnExactHouseRiseSpec)) fnExactHouseRiseUptoCard
end Rows
end Go.Proofs.YtclcehfaoeoipabDoor
