/-
  DERIVED. GIVEN WITH THE SEED: THE CARDS: each row of YtogfpnenoeonoaaDoorRows.lean that lists a variable, with what it lists TIED to the program's text (the seventh form; the later family's looks); each row that meets fmt, with fmt's text TOLD by the authors' own Lean function (tested against real Go, not proved from fmt's source: count such statements apart). THE CARD IS WHAT COUNTS. Prove the row's statement (the work); the ties are given (YtogfpnenoeonoaaDoorTie.lean); close each card by the builder's one call (the guide's Derived/Test/ToyasCard.lean, 'card_holds'). Laid BY PROGRAM, IN A SANDBOX (cutbox-door.mjs). By AI agents, Wed Nov 11 2026. No macro, syntax, notation, axiom, sorry.
-/
import Derived.Test.YtogfpnenoeonoaaDoorRows
import GoSem.ClaimSeven
namespace Go.Proofs.YtogfpnenoeonoaaDoor
namespace Rows

/-- THE TIED CARD OF 'laws.FnExactDeskOk'. -/
def fnExactDeskOkCard : Claim7 := { stood := { row := fnExactDeskOkRow, standIns := [], harness := (true, "f7a8a3159fa52124f7742b72f92ec2310dc6a60234c9ef08be5281f5415285f8"), looks := true }, kinds := [], alts := [], laidByText := true, laidKinds := [.sentinel], laidTests := true, laidLooks := .later }
def FnExactDeskOkCardSaid : Prop := Claim7.holds Tryd.pinned (.plain (OpenSpec.ofChange fnExactDeskOkSpec)) fnExactDeskOkCard

/-- THE TIED CARD OF 'laws.FnExactDeskTrips'. -/
def fnExactDeskTripsCard : Claim7 := { stood := { row := fnExactDeskTripsRow, standIns := [], harness := (true, "f7a8a3159fa52124f7742b72f92ec2310dc6a60234c9ef08be5281f5415285f8"), looks := true }, kinds := [], alts := [], laidByText := true, laidKinds := [.sentinel], laidTests := true, laidLooks := .later }
def FnExactDeskTripsCardSaid : Prop := Claim7.holds Tryd.pinned (.plain (OpenSpec.ofChange fnExactDeskTripsSpec)) fnExactDeskTripsCard

/-- THE TIED CARD OF 'laws.FnExactDeskForce'. -/
def fnExactDeskForceCard : Claim7 := { stood := { row := fnExactDeskForceRow, standIns := [], harness := (true, "f7a8a3159fa52124f7742b72f92ec2310dc6a60234c9ef08be5281f5415285f8"), looks := true }, kinds := [], alts := [], laidByText := true, laidKinds := [.sentinel], laidTests := true, laidLooks := .later }
def FnExactDeskForceCardSaid : Prop := Claim7.holds Tryd.pinned (.plain (OpenSpec.ofChange fnExactDeskForceSpec)) fnExactDeskForceCard

/-- THE TIED CARD OF 'laws.FnExactDeskFall'. -/
def fnExactDeskFallCard : Claim7 := { stood := { row := fnExactDeskFallRow, standIns := [], harness := (true, "f7a8a3159fa52124f7742b72f92ec2310dc6a60234c9ef08be5281f5415285f8"), looks := true }, kinds := [], alts := [], laidByText := true, laidKinds := [.sentinel], laidTests := true, laidLooks := .later }
def FnExactDeskFallCardSaid : Prop := Claim7.holds Tryd.pinned (.plain (OpenSpec.ofChange fnExactDeskFallSpec)) fnExactDeskFallCard

/-- THE TIED CARD OF 'laws.FnExactDeskRise'. -/
def fnExactDeskRiseCard : Claim7 := { stood := { row := fnExactDeskRiseRow, standIns := [], harness := (true, "f7a8a3159fa52124f7742b72f92ec2310dc6a60234c9ef08be5281f5415285f8"), looks := true }, kinds := [], alts := [], laidByText := true, laidKinds := [.sentinel], laidTests := true, laidLooks := .later }
def FnExactDeskRiseCardSaid : Prop := Claim7.holds Tryd.pinned (.plain (OpenSpec.ofChange fnExactDeskRiseSpec)) fnExactDeskRiseCard

/-- THE SECOND FORM's CARD OF 'laws.FnExactDeskOk'. -/
def fnExactDeskOkUptoCard : Claim7 := { stood := { row := fnExactDeskOkUptoRow, standIns := [], harness := (true, "f7a8a3159fa52124f7742b72f92ec2310dc6a60234c9ef08be5281f5415285f8"), looks := true }, kinds := [], alts := [], laidByText := true, laidKinds := [.sentinel], laidTests := true, laidLooks := .later }
def FnExactDeskOkUptoCardSaid : Prop := Claim7.holds Tryd.pinned (.plain (OpenSpec.upto fnExactDeskOkSpec)) fnExactDeskOkUptoCard

/-- THE SECOND FORM's CARD OF 'laws.FnExactDeskTrips'. -/
def fnExactDeskTripsUptoCard : Claim7 := { stood := { row := fnExactDeskTripsUptoRow, standIns := [], harness := (true, "f7a8a3159fa52124f7742b72f92ec2310dc6a60234c9ef08be5281f5415285f8"), looks := true }, kinds := [], alts := [], laidByText := true, laidKinds := [.sentinel], laidTests := true, laidLooks := .later }
def FnExactDeskTripsUptoCardSaid : Prop := Claim7.holds Tryd.pinned (.plain (OpenSpec.upto fnExactDeskTripsSpec)) fnExactDeskTripsUptoCard

/-- THE SECOND FORM's CARD OF 'laws.FnExactDeskForce'. -/
def fnExactDeskForceUptoCard : Claim7 := { stood := { row := fnExactDeskForceUptoRow, standIns := [], harness := (true, "f7a8a3159fa52124f7742b72f92ec2310dc6a60234c9ef08be5281f5415285f8"), looks := true }, kinds := [], alts := [], laidByText := true, laidKinds := [.sentinel], laidTests := true, laidLooks := .later }
def FnExactDeskForceUptoCardSaid : Prop := Claim7.holds Tryd.pinned (.plain (OpenSpec.upto fnExactDeskForceSpec)) fnExactDeskForceUptoCard

/-- THE SECOND FORM's CARD OF 'laws.FnExactDeskFall'. -/
def fnExactDeskFallUptoCard : Claim7 := { stood := { row := fnExactDeskFallUptoRow, standIns := [], harness := (true, "f7a8a3159fa52124f7742b72f92ec2310dc6a60234c9ef08be5281f5415285f8"), looks := true }, kinds := [], alts := [], laidByText := true, laidKinds := [.sentinel], laidTests := true, laidLooks := .later }
def FnExactDeskFallUptoCardSaid : Prop := Claim7.holds Tryd.pinned (.plain (OpenSpec.upto fnExactDeskFallSpec)) fnExactDeskFallUptoCard

/-- THE SECOND FORM's CARD OF 'laws.FnExactDeskRise'. -/
def fnExactDeskRiseUptoCard : Claim7 := { stood := { row := fnExactDeskRiseUptoRow, standIns := [], harness := (true, "f7a8a3159fa52124f7742b72f92ec2310dc6a60234c9ef08be5281f5415285f8"), looks := true }, kinds := [], alts := [], laidByText := true, laidKinds := [.sentinel], laidTests := true, laidLooks := .later }
def FnExactDeskRiseUptoCardSaid : Prop := Claim7.holds Tryd.pinned (.plain (OpenSpec.upto fnExactDeskRiseSpec)) fnExactDeskRiseUptoCard
end Rows
end Go.Proofs.YtogfpnenoeonoaaDoor
