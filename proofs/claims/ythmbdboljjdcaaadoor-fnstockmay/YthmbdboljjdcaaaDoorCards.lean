/-
  DERIVED. GIVEN WITH THE SEED: THE CARDS: each row of YthmbdboljjdcaaaDoorRows.lean that lists a variable, with what it lists TIED to the program's text (the seventh form; the later family's looks); each row that meets fmt, with fmt's text TOLD by the authors' own Lean function (tested against real Go, not proved from fmt's source: count such statements apart). THE CARD IS WHAT COUNTS. Prove the row's statement (the work); the ties are given (YthmbdboljjdcaaaDoorTie.lean); close each card by the builder's one call (the guide's Derived/Test/ToyasCard.lean, 'card_holds'). Laid BY PROGRAM, IN A SANDBOX (cutbox-door.mjs). By AI agents, Wed Nov 11 2026. No macro, syntax, notation, axiom, sorry.
-/
import Derived.Test.YthmbdboljjdcaaaDoorRows
import GoSem.ClaimSeven
namespace Go.Proofs.YthmbdboljjdcaaaDoor
namespace Rows

/-- THE TIED CARD OF 'laws.FnStockMay'. -/
def fnStockMayCard : Claim7 := { stood := { row := fnStockMayRow, standIns := [], harness := (true, "68f1fcb14fa83731379b0bf8387e7ee68acfb8f51582dac083657aaa96a9fca7"), looks := true }, kinds := [], alts := [], laidByText := true, laidKinds := [.sentinel], laidTests := true, laidLooks := .later }
def FnStockMayCardSaid : Prop := Claim7.holds Tryd.pinned (.plain (OpenSpec.ofChange fnStockMaySpec)) fnStockMayCard

/-- THE TIED CARD OF 'laws.FnStockMore'. -/
def fnStockMoreCard : Claim7 := { stood := { row := fnStockMoreRow, standIns := [], harness := (true, "68f1fcb14fa83731379b0bf8387e7ee68acfb8f51582dac083657aaa96a9fca7"), looks := true }, kinds := [], alts := [], laidByText := true, laidKinds := [.sentinel], laidTests := true, laidLooks := .later }
def FnStockMoreCardSaid : Prop := Claim7.holds Tryd.pinned (.plain (OpenSpec.ofChange fnStockMoreSpec)) fnStockMoreCard

/-- THE SECOND FORM's CARD OF 'laws.FnStockMay'. -/
def fnStockMayUptoCard : Claim7 := { stood := { row := fnStockMayUptoRow, standIns := [], harness := (true, "68f1fcb14fa83731379b0bf8387e7ee68acfb8f51582dac083657aaa96a9fca7"), looks := true }, kinds := [], alts := [], laidByText := true, laidKinds := [.sentinel], laidTests := true, laidLooks := .later }
def FnStockMayUptoCardSaid : Prop := Claim7.holds Tryd.pinned (.plain (OpenSpec.upto fnStockMaySpec)) fnStockMayUptoCard

/-- THE SECOND FORM's CARD OF 'laws.FnStockMore'. -/
def fnStockMoreUptoCard : Claim7 := { stood := { row := fnStockMoreUptoRow, standIns := [], harness := (true, "68f1fcb14fa83731379b0bf8387e7ee68acfb8f51582dac083657aaa96a9fca7"), looks := true }, kinds := [], alts := [], laidByText := true, laidKinds := [.sentinel], laidTests := true, laidLooks := .later }
def FnStockMoreUptoCardSaid : Prop := Claim7.holds Tryd.pinned (.plain (OpenSpec.upto fnStockMoreSpec)) fnStockMoreUptoCard
end Rows
end Go.Proofs.YthmbdboljjdcaaaDoor
