/-
  DERIVED. GIVEN WITH THE SEED: THE CARDS: each row of YtcogplmopdckhaaGreatDoorRows.lean that lists a variable, with what it lists TIED to the program's text (the seventh form; the later family's looks); each row that meets fmt, with fmt's text TOLD by the authors' own Lean function (tested against real Go, not proved from fmt's source: count such statements apart). THE CARD IS WHAT COUNTS. Prove the row's statement (the work); the ties are given (YtcogplmopdckhaaGreatDoorTie.lean); close each card by the builder's one call (the guide's Derived/Test/ToyasCard.lean, 'card_holds'). Laid BY PROGRAM, IN A SANDBOX (cutbox-door.mjs). By AI agents, Wed Nov 11 2026. No macro, syntax, notation, axiom, sorry.
-/
import Derived.Test.YtcogplmopdckhaaGreatDoorRows
import GoSem.ClaimSeven
namespace Go.Proofs.YtcogplmopdckhaaGreatDoor
namespace Rows

/-- THE TIED CARD OF 'laws.FnExactHouseHear'. -/
def fnExactHouseHearCard : Claim7 := { stood := { row := fnExactHouseHearRow, standIns := [], harness := (true, "c7834ed0168bffdec2ab2801f96fc4a9e09b2acd5aab42a6015bce8b9cc7e879"), looks := true }, kinds := [], alts := [], laidByText := true, laidKinds := [.sentinel], laidTests := true, laidLooks := .later }
def FnExactHouseHearCardSaid : Prop := Claim7.holds Tryz.pinned (.plain (OpenSpec.ofChange fnExactHouseHearSpec)) fnExactHouseHearCard

/-- THE TIED CARD OF 'laws.FnHearSure'. -/
def fnHearSureCard : Claim7 := { stood := { row := fnHearSureRow, standIns := [], harness := (true, "c7834ed0168bffdec2ab2801f96fc4a9e09b2acd5aab42a6015bce8b9cc7e879"), looks := true }, kinds := [], alts := [], laidByText := true, laidKinds := [.sentinel], laidTests := true, laidLooks := .later }
def FnHearSureCardSaid : Prop := Claim7.holds Tryz.pinned (.plain (OpenSpec.ofChange fnHearSureSpec)) fnHearSureCard

/-- THE TIED CARD OF 'laws.FnHearAgain'. -/
def fnHearAgainCard : Claim7 := { stood := { row := fnHearAgainRow, standIns := [], harness := (true, "c7834ed0168bffdec2ab2801f96fc4a9e09b2acd5aab42a6015bce8b9cc7e879"), looks := true }, kinds := [], alts := [], laidByText := true, laidKinds := [.sentinel], laidTests := true, laidLooks := .later }
def FnHearAgainCardSaid : Prop := Claim7.holds Tryz.pinned (.plain (OpenSpec.ofChange fnHearAgainSpec)) fnHearAgainCard

/-- THE TIED CARD OF 'laws.FnHearTwice'. -/
def fnHearTwiceCard : Claim7 := { stood := { row := fnHearTwiceRow, standIns := [], harness := (true, "c7834ed0168bffdec2ab2801f96fc4a9e09b2acd5aab42a6015bce8b9cc7e879"), looks := true }, kinds := [], alts := [], laidByText := true, laidKinds := [.sentinel], laidTests := true, laidLooks := .later }
def FnHearTwiceCardSaid : Prop := Claim7.holds Tryz.pinned (.plain (OpenSpec.ofChange fnHearTwiceSpec)) fnHearTwiceCard

/-- THE TIED CARD OF 'laws.FnHearOther'. -/
def fnHearOtherCard : Claim7 := { stood := { row := fnHearOtherRow, standIns := [], harness := (true, "c7834ed0168bffdec2ab2801f96fc4a9e09b2acd5aab42a6015bce8b9cc7e879"), looks := true }, kinds := [], alts := [], laidByText := true, laidKinds := [.sentinel], laidTests := true, laidLooks := .later }
def FnHearOtherCardSaid : Prop := Claim7.holds Tryz.pinned (.plain (OpenSpec.ofChange fnHearOtherSpec)) fnHearOtherCard

/-- THE TIED CARD OF 'laws.FnHearFull'. -/
def fnHearFullCard : Claim7 := { stood := { row := fnHearFullRow, standIns := [], harness := (true, "c7834ed0168bffdec2ab2801f96fc4a9e09b2acd5aab42a6015bce8b9cc7e879"), looks := true }, kinds := [], alts := [], laidByText := true, laidKinds := [.sentinel], laidTests := true, laidLooks := .later }
def FnHearFullCardSaid : Prop := Claim7.holds Tryz.pinned (.plain (OpenSpec.ofChange fnHearFullSpec)) fnHearFullCard

/-- THE SECOND FORM's CARD OF 'laws.FnExactHouseHear'. -/
def fnExactHouseHearUptoCard : Claim7 := { stood := { row := fnExactHouseHearUptoRow, standIns := [], harness := (true, "c7834ed0168bffdec2ab2801f96fc4a9e09b2acd5aab42a6015bce8b9cc7e879"), looks := true }, kinds := [], alts := [], laidByText := true, laidKinds := [.sentinel], laidTests := true, laidLooks := .later }
def FnExactHouseHearUptoCardSaid : Prop := Claim7.holds Tryz.pinned (.plain (OpenSpec.upto fnExactHouseHearSpec)) fnExactHouseHearUptoCard

/-- THE SECOND FORM's CARD OF 'laws.FnHearSure'. -/
def fnHearSureUptoCard : Claim7 := { stood := { row := fnHearSureUptoRow, standIns := [], harness := (true, "c7834ed0168bffdec2ab2801f96fc4a9e09b2acd5aab42a6015bce8b9cc7e879"), looks := true }, kinds := [], alts := [], laidByText := true, laidKinds := [.sentinel], laidTests := true, laidLooks := .later }
def FnHearSureUptoCardSaid : Prop := Claim7.holds Tryz.pinned (.plain (OpenSpec.upto fnHearSureSpec)) fnHearSureUptoCard

/-- THE SECOND FORM's CARD OF 'laws.FnHearAgain'. -/
def fnHearAgainUptoCard : Claim7 := { stood := { row := fnHearAgainUptoRow, standIns := [], harness := (true, "c7834ed0168bffdec2ab2801f96fc4a9e09b2acd5aab42a6015bce8b9cc7e879"), looks := true }, kinds := [], alts := [], laidByText := true, laidKinds := [.sentinel], laidTests := true, laidLooks := .later }
def FnHearAgainUptoCardSaid : Prop := Claim7.holds Tryz.pinned (.plain (OpenSpec.upto fnHearAgainSpec)) fnHearAgainUptoCard

/-- THE SECOND FORM's CARD OF 'laws.FnHearTwice'. -/
def fnHearTwiceUptoCard : Claim7 := { stood := { row := fnHearTwiceUptoRow, standIns := [], harness := (true, "c7834ed0168bffdec2ab2801f96fc4a9e09b2acd5aab42a6015bce8b9cc7e879"), looks := true }, kinds := [], alts := [], laidByText := true, laidKinds := [.sentinel], laidTests := true, laidLooks := .later }
def FnHearTwiceUptoCardSaid : Prop := Claim7.holds Tryz.pinned (.plain (OpenSpec.upto fnHearTwiceSpec)) fnHearTwiceUptoCard

/-- THE SECOND FORM's CARD OF 'laws.FnHearOther'. -/
def fnHearOtherUptoCard : Claim7 := { stood := { row := fnHearOtherUptoRow, standIns := [], harness := (true, "c7834ed0168bffdec2ab2801f96fc4a9e09b2acd5aab42a6015bce8b9cc7e879"), looks := true }, kinds := [], alts := [], laidByText := true, laidKinds := [.sentinel], laidTests := true, laidLooks := .later }
def FnHearOtherUptoCardSaid : Prop := Claim7.holds Tryz.pinned (.plain (OpenSpec.upto fnHearOtherSpec)) fnHearOtherUptoCard

/-- THE SECOND FORM's CARD OF 'laws.FnHearFull'. -/
def fnHearFullUptoCard : Claim7 := { stood := { row := fnHearFullUptoRow, standIns := [], harness := (true, "c7834ed0168bffdec2ab2801f96fc4a9e09b2acd5aab42a6015bce8b9cc7e879"), looks := true }, kinds := [], alts := [], laidByText := true, laidKinds := [.sentinel], laidTests := true, laidLooks := .later }
def FnHearFullUptoCardSaid : Prop := Claim7.holds Tryz.pinned (.plain (OpenSpec.upto fnHearFullSpec)) fnHearFullUptoCard
end Rows
end Go.Proofs.YtcogplmopdckhaaGreatDoor
