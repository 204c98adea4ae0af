/-
  DERIVED. GIVEN WITH THE SEED: THE CARDS: each row of YthllcffmpeopcaaGreatDoorRows.lean that lists a variable, with what it lists TIED to the program's text (the seventh form; the later family's looks); each row that meets fmt, with fmt's text TOLD by the authors' own Lean function (tested against real Go, not proved from fmt's source: count such statements apart). THE CARD IS WHAT COUNTS. Prove the row's statement (the work); the ties are given (YthllcffmpeopcaaGreatDoorTie.lean); close each card by the builder's one call (the guide's Derived/Test/ToyasCard.lean, 'card_holds'). Laid BY PROGRAM, IN A SANDBOX (cutbox-door.mjs). By AI agents, Wed Nov 11 2026. No macro, syntax, notation, axiom, sorry.
-/
import Derived.Test.YthllcffmpeopcaaGreatDoorRows
import GoSem.ClaimSeven
namespace Go.Proofs.YthllcffmpeopcaaGreatDoor
namespace Rows

/-- THE TIED CARD OF 'laws.FnExactHouseHear'. -/
def fnExactHouseHearCard : Claim7 := { stood := { row := fnExactHouseHearRow, standIns := [], harness := (true, "91082506b6225d4cc6ba68b55470ee1ef28efd1efb7aa1dd0298a337c7b6dc68"), looks := true }, kinds := [], alts := [], laidByText := true, laidKinds := [.sentinel], laidTests := true, laidLooks := .later }
def FnExactHouseHearCardSaid : Prop := Claim7.holds Tryz.pinned (.plain (OpenSpec.ofChange fnExactHouseHearSpec)) fnExactHouseHearCard

/-- THE TIED CARD OF 'laws.FnHearFull'. -/
def fnHearFullCard : Claim7 := { stood := { row := fnHearFullRow, standIns := [], harness := (true, "91082506b6225d4cc6ba68b55470ee1ef28efd1efb7aa1dd0298a337c7b6dc68"), looks := true }, kinds := [], alts := [], laidByText := true, laidKinds := [.sentinel], laidTests := true, laidLooks := .later }
def FnHearFullCardSaid : Prop := Claim7.holds Tryz.pinned (.plain (OpenSpec.ofChange fnHearFullSpec)) fnHearFullCard

/-- THE TIED CARD OF 'laws.FnHearUndo'. -/
def fnHearUndoCard : Claim7 := { stood := { row := fnHearUndoRow, standIns := [], harness := (true, "91082506b6225d4cc6ba68b55470ee1ef28efd1efb7aa1dd0298a337c7b6dc68"), looks := true }, kinds := [], alts := [], laidByText := true, laidKinds := [.sentinel], laidTests := true, laidLooks := .later }
def FnHearUndoCardSaid : Prop := Claim7.holds Tryz.pinned (.plain (OpenSpec.ofChange fnHearUndoSpec)) fnHearUndoCard

/-- THE TIED CARD OF 'laws.FnHearApart'. -/
def fnHearApartCard : Claim7 := { stood := { row := fnHearApartRow, standIns := [], harness := (true, "91082506b6225d4cc6ba68b55470ee1ef28efd1efb7aa1dd0298a337c7b6dc68"), looks := true }, kinds := [], alts := [], laidByText := true, laidKinds := [.sentinel], laidTests := true, laidLooks := .later }
def FnHearApartCardSaid : Prop := Claim7.holds Tryz.pinned (.plain (OpenSpec.ofChange fnHearApartSpec)) fnHearApartCard

/-- THE TIED CARD OF 'laws.FnHearNever'. -/
def fnHearNeverCard : Claim7 := { stood := { row := fnHearNeverRow, standIns := [], harness := (true, "91082506b6225d4cc6ba68b55470ee1ef28efd1efb7aa1dd0298a337c7b6dc68"), looks := true }, kinds := [], alts := [], laidByText := true, laidKinds := [.sentinel], laidTests := true, laidLooks := .later }
def FnHearNeverCardSaid : Prop := Claim7.holds Tryz.pinned (.plain (OpenSpec.ofChange fnHearNeverSpec)) fnHearNeverCard

/-- THE SECOND FORM's CARD OF 'laws.FnExactHouseHear'. -/
def fnExactHouseHearUptoCard : Claim7 := { stood := { row := fnExactHouseHearUptoRow, standIns := [], harness := (true, "91082506b6225d4cc6ba68b55470ee1ef28efd1efb7aa1dd0298a337c7b6dc68"), looks := true }, kinds := [], alts := [], laidByText := true, laidKinds := [.sentinel], laidTests := true, laidLooks := .later }
def FnExactHouseHearUptoCardSaid : Prop := Claim7.holds Tryz.pinned (.plain (OpenSpec.upto fnExactHouseHearSpec)) fnExactHouseHearUptoCard

/-- THE SECOND FORM's CARD OF 'laws.FnHearFull'. -/
def fnHearFullUptoCard : Claim7 := { stood := { row := fnHearFullUptoRow, standIns := [], harness := (true, "91082506b6225d4cc6ba68b55470ee1ef28efd1efb7aa1dd0298a337c7b6dc68"), looks := true }, kinds := [], alts := [], laidByText := true, laidKinds := [.sentinel], laidTests := true, laidLooks := .later }
def FnHearFullUptoCardSaid : Prop := Claim7.holds Tryz.pinned (.plain (OpenSpec.upto fnHearFullSpec)) fnHearFullUptoCard

/-- THE SECOND FORM's CARD OF 'laws.FnHearUndo'. -/
def fnHearUndoUptoCard : Claim7 := { stood := { row := fnHearUndoUptoRow, standIns := [], harness := (true, "91082506b6225d4cc6ba68b55470ee1ef28efd1efb7aa1dd0298a337c7b6dc68"), looks := true }, kinds := [], alts := [], laidByText := true, laidKinds := [.sentinel], laidTests := true, laidLooks := .later }
def FnHearUndoUptoCardSaid : Prop := Claim7.holds Tryz.pinned (.plain (OpenSpec.upto fnHearUndoSpec)) fnHearUndoUptoCard

/-- THE SECOND FORM's CARD OF 'laws.FnHearApart'. -/
def fnHearApartUptoCard : Claim7 := { stood := { row := fnHearApartUptoRow, standIns := [], harness := (true, "91082506b6225d4cc6ba68b55470ee1ef28efd1efb7aa1dd0298a337c7b6dc68"), looks := true }, kinds := [], alts := [], laidByText := true, laidKinds := [.sentinel], laidTests := true, laidLooks := .later }
def FnHearApartUptoCardSaid : Prop := Claim7.holds Tryz.pinned (.plain (OpenSpec.upto fnHearApartSpec)) fnHearApartUptoCard

/-- THE SECOND FORM's CARD OF 'laws.FnHearNever'. -/
def fnHearNeverUptoCard : Claim7 := { stood := { row := fnHearNeverUptoRow, standIns := [], harness := (true, "91082506b6225d4cc6ba68b55470ee1ef28efd1efb7aa1dd0298a337c7b6dc68"), looks := true }, kinds := [], alts := [], laidByText := true, laidKinds := [.sentinel], laidTests := true, laidLooks := .later }
def FnHearNeverUptoCardSaid : Prop := Claim7.holds Tryz.pinned (.plain (OpenSpec.upto fnHearNeverSpec)) fnHearNeverUptoCard
end Rows
end Go.Proofs.YthllcffmpeopcaaGreatDoor
