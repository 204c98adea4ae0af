/-
  DERIVED. GIVEN WITH THE SEED: THE CARDS: each row of YtcofnjooiemkfaaDoorRows.lean that lists a variable, with what it lists TIED to the program's text (the seventh form; the later family's looks); each row that meets fmt, with fmt's text TOLD by the authors' own Lean function (tested against real Go, not proved from fmt's source: count such statements apart). THE CARD IS WHAT COUNTS. Prove the row's statement (the work); the ties are given (YtcofnjooiemkfaaDoorTie.lean); close each card by the builder's one call (the guide's Derived/Test/ToyasCard.lean, 'card_holds'). Laid BY PROGRAM, IN A SANDBOX (cutbox-door.mjs). By AI agents, Wed Nov 11 2026. No macro, syntax, notation, axiom, sorry.
-/
import Derived.Test.YtcofnjooiemkfaaDoorRows
import GoSem.ClaimSeven
namespace Go.Proofs.YtcofnjooiemkfaaDoor
namespace Rows

/-- THE TIED CARD OF 'laws.FnStockNever'. -/
def fnStockNeverCard : Claim7 := { stood := { row := fnStockNeverRow, standIns := [], harness := (true, "18626b2c5bc6d7ab4f3ce598bff281ad0a684ab5fc23caac3995315deab03f99"), looks := true }, kinds := [], alts := [], laidByText := true, laidKinds := [.sentinel], laidTests := true, laidLooks := .later }
def FnStockNeverCardSaid : Prop := Claim7.holds Tryd.pinned (.plain (OpenSpec.ofChange fnStockNeverSpec)) fnStockNeverCard

/-- THE TIED CARD OF 'laws.FnStockStep'. -/
def fnStockStepCard : Claim7 := { stood := { row := fnStockStepRow, standIns := [], harness := (true, "18626b2c5bc6d7ab4f3ce598bff281ad0a684ab5fc23caac3995315deab03f99"), looks := true }, kinds := [], alts := [], laidByText := true, laidKinds := [.sentinel], laidTests := true, laidLooks := .later }
def FnStockStepCardSaid : Prop := Claim7.holds Tryd.pinned (.plain (OpenSpec.ofChange fnStockStepSpec)) fnStockStepCard

/-- THE TIED CARD OF 'laws.FnStockTwice'. -/
def fnStockTwiceCard : Claim7 := { stood := { row := fnStockTwiceRow, standIns := [], harness := (true, "18626b2c5bc6d7ab4f3ce598bff281ad0a684ab5fc23caac3995315deab03f99"), looks := true }, kinds := [], alts := [], laidByText := true, laidKinds := [.sentinel], laidTests := true, laidLooks := .later }
def FnStockTwiceCardSaid : Prop := Claim7.holds Tryd.pinned (.plain (OpenSpec.ofChange fnStockTwiceSpec)) fnStockTwiceCard

/-- THE TIED CARD OF 'laws.FnStockOf'. -/
def fnStockOfCard : Claim7 := { stood := { row := fnStockOfRow, standIns := [], harness := (true, "18626b2c5bc6d7ab4f3ce598bff281ad0a684ab5fc23caac3995315deab03f99"), looks := true }, kinds := [], alts := [], laidByText := true, laidKinds := [.sentinel], laidTests := true, laidLooks := .later }
def FnStockOfCardSaid : Prop := Claim7.holds Tryd.pinned (.plain (OpenSpec.ofChange fnStockOfSpec)) fnStockOfCard

/-- THE TIED CARD OF 'laws.FnStockUndo'. -/
def fnStockUndoCard : Claim7 := { stood := { row := fnStockUndoRow, standIns := [], harness := (true, "18626b2c5bc6d7ab4f3ce598bff281ad0a684ab5fc23caac3995315deab03f99"), looks := true }, kinds := [], alts := [], laidByText := true, laidKinds := [.sentinel], laidTests := true, laidLooks := .later }
def FnStockUndoCardSaid : Prop := Claim7.holds Tryd.pinned (.plain (OpenSpec.ofChange fnStockUndoSpec)) fnStockUndoCard

/-- THE TIED CARD OF 'laws.FnStockApart'. -/
def fnStockApartCard : Claim7 := { stood := { row := fnStockApartRow, standIns := [], harness := (true, "18626b2c5bc6d7ab4f3ce598bff281ad0a684ab5fc23caac3995315deab03f99"), looks := true }, kinds := [], alts := [], laidByText := true, laidKinds := [.sentinel], laidTests := true, laidLooks := .later }
def FnStockApartCardSaid : Prop := Claim7.holds Tryd.pinned (.plain (OpenSpec.ofChange fnStockApartSpec)) fnStockApartCard

/-- THE SECOND FORM's CARD OF 'laws.FnStockNever'. -/
def fnStockNeverUptoCard : Claim7 := { stood := { row := fnStockNeverUptoRow, standIns := [], harness := (true, "18626b2c5bc6d7ab4f3ce598bff281ad0a684ab5fc23caac3995315deab03f99"), looks := true }, kinds := [], alts := [], laidByText := true, laidKinds := [.sentinel], laidTests := true, laidLooks := .later }
def FnStockNeverUptoCardSaid : Prop := Claim7.holds Tryd.pinned (.plain (OpenSpec.upto fnStockNeverSpec)) fnStockNeverUptoCard

/-- THE SECOND FORM's CARD OF 'laws.FnStockStep'. -/
def fnStockStepUptoCard : Claim7 := { stood := { row := fnStockStepUptoRow, standIns := [], harness := (true, "18626b2c5bc6d7ab4f3ce598bff281ad0a684ab5fc23caac3995315deab03f99"), looks := true }, kinds := [], alts := [], laidByText := true, laidKinds := [.sentinel], laidTests := true, laidLooks := .later }
def FnStockStepUptoCardSaid : Prop := Claim7.holds Tryd.pinned (.plain (OpenSpec.upto fnStockStepSpec)) fnStockStepUptoCard

/-- THE SECOND FORM's CARD OF 'laws.FnStockTwice'. -/
def fnStockTwiceUptoCard : Claim7 := { stood := { row := fnStockTwiceUptoRow, standIns := [], harness := (true, "18626b2c5bc6d7ab4f3ce598bff281ad0a684ab5fc23caac3995315deab03f99"), looks := true }, kinds := [], alts := [], laidByText := true, laidKinds := [.sentinel], laidTests := true, laidLooks := .later }
def FnStockTwiceUptoCardSaid : Prop := Claim7.holds Tryd.pinned (.plain (OpenSpec.upto fnStockTwiceSpec)) fnStockTwiceUptoCard

/-- THE SECOND FORM's CARD OF 'laws.FnStockOf'. -/
def fnStockOfUptoCard : Claim7 := { stood := { row := fnStockOfUptoRow, standIns := [], harness := (true, "18626b2c5bc6d7ab4f3ce598bff281ad0a684ab5fc23caac3995315deab03f99"), looks := true }, kinds := [], alts := [], laidByText := true, laidKinds := [.sentinel], laidTests := true, laidLooks := .later }
def FnStockOfUptoCardSaid : Prop := Claim7.holds Tryd.pinned (.plain (OpenSpec.upto fnStockOfSpec)) fnStockOfUptoCard

/-- THE SECOND FORM's CARD OF 'laws.FnStockUndo'. -/
def fnStockUndoUptoCard : Claim7 := { stood := { row := fnStockUndoUptoRow, standIns := [], harness := (true, "18626b2c5bc6d7ab4f3ce598bff281ad0a684ab5fc23caac3995315deab03f99"), looks := true }, kinds := [], alts := [], laidByText := true, laidKinds := [.sentinel], laidTests := true, laidLooks := .later }
def FnStockUndoUptoCardSaid : Prop := Claim7.holds Tryd.pinned (.plain (OpenSpec.upto fnStockUndoSpec)) fnStockUndoUptoCard

/-- THE SECOND FORM's CARD OF 'laws.FnStockApart'. -/
def fnStockApartUptoCard : Claim7 := { stood := { row := fnStockApartUptoRow, standIns := [], harness := (true, "18626b2c5bc6d7ab4f3ce598bff281ad0a684ab5fc23caac3995315deab03f99"), looks := true }, kinds := [], alts := [], laidByText := true, laidKinds := [.sentinel], laidTests := true, laidLooks := .later }
def FnStockApartUptoCardSaid : Prop := Claim7.holds Tryd.pinned (.plain (OpenSpec.upto fnStockApartSpec)) fnStockApartUptoCard
end Rows
end Go.Proofs.YtcofnjooiemkfaaDoor
