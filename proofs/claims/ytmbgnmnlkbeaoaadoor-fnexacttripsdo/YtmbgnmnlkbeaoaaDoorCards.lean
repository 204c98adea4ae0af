/-
  DERIVED. GIVEN WITH THE SEED: THE CARDS: each row of YtmbgnmnlkbeaoaaDoorRows.lean that lists a variable, with what it lists TIED to the program's text (the seventh form; the later family's looks); each row that meets fmt, with fmt's text TOLD by the authors' own Lean function (tested against real Go, not proved from fmt's source: count such statements apart). THE CARD IS WHAT COUNTS. Prove the row's statement (the work); the ties are given (YtmbgnmnlkbeaoaaDoorTie.lean); close each card by the builder's one call (the guide's Derived/Test/ToyasCard.lean, 'card_holds'). Laid BY PROGRAM, IN A SANDBOX (cutbox-door.mjs). By AI agents, Wed Nov 11 2026. No macro, syntax, notation, axiom, sorry.
-/
import Derived.Test.YtmbgnmnlkbeaoaaDoorRows
import GoSem.ClaimSeven
namespace Go.Proofs.YtmbgnmnlkbeaoaaDoor
namespace Rows

/-- THE TIED CARD OF 'laws.FnExactTripsMay'. -/
def fnExactTripsMayCard : Claim7 := { stood := { row := fnExactTripsMayRow, standIns := [], harness := (true, "021e33e1a2ce754514a27cafbd15f5a82cb4e5e2359544abc3630cd611761d59"), looks := true }, kinds := [], alts := [], laidByText := true, laidKinds := [.sentinel], laidTests := true, laidLooks := .later }
def FnExactTripsMayCardSaid : Prop := Claim7.holds Tryd.pinned (.plain (OpenSpec.ofChange fnExactTripsMaySpec)) fnExactTripsMayCard

/-- THE TIED CARD OF 'laws.FnExactTripsDo'. -/
def fnExactTripsDoCard : Claim7 := { stood := { row := fnExactTripsDoRow, standIns := [], harness := (true, "021e33e1a2ce754514a27cafbd15f5a82cb4e5e2359544abc3630cd611761d59"), looks := true }, kinds := [], alts := [], laidByText := true, laidKinds := [.sentinel], laidTests := true, laidLooks := .later }
def FnExactTripsDoCardSaid : Prop := Claim7.holds Tryd.pinned (.plain (OpenSpec.ofChange fnExactTripsDoSpec)) fnExactTripsDoCard

/-- THE TIED CARD OF 'laws.FnExactTripsOf'. -/
def fnExactTripsOfCard : Claim7 := { stood := { row := fnExactTripsOfRow, standIns := [], harness := (true, "021e33e1a2ce754514a27cafbd15f5a82cb4e5e2359544abc3630cd611761d59"), looks := true }, kinds := [], alts := [], laidByText := true, laidKinds := [.sentinel], laidTests := true, laidLooks := .later }
def FnExactTripsOfCardSaid : Prop := Claim7.holds Tryd.pinned (.plain (OpenSpec.ofChange fnExactTripsOfSpec)) fnExactTripsOfCard

/-- THE SECOND FORM's CARD OF 'laws.FnExactTripsMay'. -/
def fnExactTripsMayUptoCard : Claim7 := { stood := { row := fnExactTripsMayUptoRow, standIns := [], harness := (true, "021e33e1a2ce754514a27cafbd15f5a82cb4e5e2359544abc3630cd611761d59"), looks := true }, kinds := [], alts := [], laidByText := true, laidKinds := [.sentinel], laidTests := true, laidLooks := .later }
def FnExactTripsMayUptoCardSaid : Prop := Claim7.holds Tryd.pinned (.plain (OpenSpec.upto fnExactTripsMaySpec)) fnExactTripsMayUptoCard

/-- THE SECOND FORM's CARD OF 'laws.FnExactTripsDo'. -/
def fnExactTripsDoUptoCard : Claim7 := { stood := { row := fnExactTripsDoUptoRow, standIns := [], harness := (true, "021e33e1a2ce754514a27cafbd15f5a82cb4e5e2359544abc3630cd611761d59"), looks := true }, kinds := [], alts := [], laidByText := true, laidKinds := [.sentinel], laidTests := true, laidLooks := .later }
def FnExactTripsDoUptoCardSaid : Prop := Claim7.holds Tryd.pinned (.plain (OpenSpec.upto fnExactTripsDoSpec)) fnExactTripsDoUptoCard

/-- THE SECOND FORM's CARD OF 'laws.FnExactTripsOf'. -/
def fnExactTripsOfUptoCard : Claim7 := { stood := { row := fnExactTripsOfUptoRow, standIns := [], harness := (true, "021e33e1a2ce754514a27cafbd15f5a82cb4e5e2359544abc3630cd611761d59"), looks := true }, kinds := [], alts := [], laidByText := true, laidKinds := [.sentinel], laidTests := true, laidLooks := .later }
def FnExactTripsOfUptoCardSaid : Prop := Claim7.holds Tryd.pinned (.plain (OpenSpec.upto fnExactTripsOfSpec)) fnExactTripsOfUptoCard
end Rows
end Go.Proofs.YtmbgnmnlkbeaoaaDoor
