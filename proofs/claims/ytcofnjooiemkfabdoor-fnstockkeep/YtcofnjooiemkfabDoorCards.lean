/-
  DERIVED. GIVEN WITH THE SEED: THE CARDS: each row of YtcofnjooiemkfabDoorRows.lean that lists a variable, with what it lists TIED to the program's text (the seventh form; the later family's looks); each row that meets fmt, with fmt's text TOLD by the authors' own Lean function (tested against real Go, not proved from fmt's source: count such statements apart). THE CARD IS WHAT COUNTS. Prove the row's statement (the work); the ties are given (YtcofnjooiemkfabDoorTie.lean); close each card by the builder's one call (the guide's Derived/Test/ToyasCard.lean, 'card_holds'). Laid BY PROGRAM, IN A SANDBOX (cutbox-door.mjs). By AI agents, Wed Nov 11 2026. No macro, syntax, notation, axiom, sorry.
-/
import Derived.Test.YtcofnjooiemkfabDoorRows
import GoSem.ClaimSeven
namespace Go.Proofs.YtcofnjooiemkfabDoor
namespace Rows

/-- THE TIED CARD OF 'laws.FnStockKeep'. -/
def fnStockKeepCard : Claim7 := { stood := { row := fnStockKeepRow, standIns := [], harness := (true, "a06f76872cb92ddb498ff17e747253fa1573b1effdd1a2e72eecde1b220d4469"), looks := true }, kinds := [], alts := [], laidByText := true, laidKinds := [.sentinel], laidTests := true, laidLooks := .later }
def FnStockKeepCardSaid : Prop := Claim7.holds Tryd.pinned (.plain (OpenSpec.ofChange fnStockKeepSpec)) fnStockKeepCard

/-- THE SECOND FORM's CARD OF 'laws.FnStockKeep'. -/
def fnStockKeepUptoCard : Claim7 := { stood := { row := fnStockKeepUptoRow, standIns := [], harness := (true, "a06f76872cb92ddb498ff17e747253fa1573b1effdd1a2e72eecde1b220d4469"), looks := true }, kinds := [], alts := [], laidByText := true, laidKinds := [.sentinel], laidTests := true, laidLooks := .later }
def FnStockKeepUptoCardSaid : Prop := Claim7.holds Tryd.pinned (.plain (OpenSpec.upto fnStockKeepSpec)) fnStockKeepUptoCard
end Rows
end Go.Proofs.YtcofnjooiemkfabDoor
