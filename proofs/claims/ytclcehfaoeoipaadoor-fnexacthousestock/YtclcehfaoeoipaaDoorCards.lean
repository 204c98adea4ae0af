/-
  DERIVED. GIVEN WITH THE SEED: THE CARDS: each row of YtclcehfaoeoipaaDoorRows.lean that lists a variable, with what it lists TIED to the program's text (the seventh form; the later family's looks); each row that meets fmt, with fmt's text TOLD by the authors' own Lean function (tested against real Go, not proved from fmt's source: count such statements apart). THE CARD IS WHAT COUNTS. Prove the row's statement (the work); the ties are given (YtclcehfaoeoipaaDoorTie.lean); close each card by the builder's one call (the guide's Derived/Test/ToyasCard.lean, 'card_holds'). Laid BY PROGRAM, IN A SANDBOX (cutbox-door.mjs). By AI agents, Wed Nov 11 2026. No macro, syntax, notation, axiom, sorry.
-/
import Derived.Test.YtclcehfaoeoipaaDoorRows
import GoSem.ClaimSeven
namespace Go.Proofs.YtclcehfaoeoipaaDoor
namespace Rows

/-- THE TIED CARD OF 'laws.FnExactHouseOk'. -/
def fnExactHouseOkCard : Claim7 := { stood := { row := fnExactHouseOkRow, standIns := [], harness := (true, "02066583bdb4b944f52590789740335e6315c86bf02498b2fcfd0bb0facdbb2e"), looks := true }, kinds := [], alts := [], laidByText := true, laidKinds := [.sentinel], laidTests := true, laidLooks := .later }
def FnExactHouseOkCardSaid : Prop := Claim7.holds Tryd.pinned (.plain (OpenSpec.ofChange fnExactHouseOkSpec)) fnExactHouseOkCard

/-- THE TIED CARD OF 'laws.FnExactHouseStock'. -/
def fnExactHouseStockCard : Claim7 := { stood := { row := fnExactHouseStockRow, standIns := [], harness := (true, "02066583bdb4b944f52590789740335e6315c86bf02498b2fcfd0bb0facdbb2e"), looks := true }, kinds := [], alts := [], laidByText := true, laidKinds := [.sentinel], laidTests := true, laidLooks := .later }
def FnExactHouseStockCardSaid : Prop := Claim7.holds Tryd.pinned (.plain (OpenSpec.ofChange fnExactHouseStockSpec)) fnExactHouseStockCard

/-- THE TIED CARD OF 'laws.FnExactHouseForce'. -/
def fnExactHouseForceCard : Claim7 := { stood := { row := fnExactHouseForceRow, standIns := [], harness := (true, "02066583bdb4b944f52590789740335e6315c86bf02498b2fcfd0bb0facdbb2e"), looks := true }, kinds := [], alts := [], laidByText := true, laidKinds := [.sentinel], laidTests := true, laidLooks := .later }
def FnExactHouseForceCardSaid : Prop := Claim7.holds Tryd.pinned (.plain (OpenSpec.ofChange fnExactHouseForceSpec)) fnExactHouseForceCard

/-- THE TIED CARD OF 'laws.FnExactHouseFall'. -/
def fnExactHouseFallCard : Claim7 := { stood := { row := fnExactHouseFallRow, standIns := [], harness := (true, "02066583bdb4b944f52590789740335e6315c86bf02498b2fcfd0bb0facdbb2e"), looks := true }, kinds := [], alts := [], laidByText := true, laidKinds := [.sentinel], laidTests := true, laidLooks := .later }
def FnExactHouseFallCardSaid : Prop := Claim7.holds Tryd.pinned (.plain (OpenSpec.ofChange fnExactHouseFallSpec)) fnExactHouseFallCard

/-- THE SECOND FORM's CARD OF 'laws.FnExactHouseOk'. -/
def fnExactHouseOkUptoCard : Claim7 := { stood := { row := fnExactHouseOkUptoRow, standIns := [], harness := (true, "02066583bdb4b944f52590789740335e6315c86bf02498b2fcfd0bb0facdbb2e"), looks := true }, kinds := [], alts := [], laidByText := true, laidKinds := [.sentinel], laidTests := true, laidLooks := .later }
def FnExactHouseOkUptoCardSaid : Prop := Claim7.holds Tryd.pinned (.plain (OpenSpec.upto fnExactHouseOkSpec)) fnExactHouseOkUptoCard

/-- THE SECOND FORM's CARD OF 'laws.FnExactHouseStock'. -/
def fnExactHouseStockUptoCard : Claim7 := { stood := { row := fnExactHouseStockUptoRow, standIns := [], harness := (true, "02066583bdb4b944f52590789740335e6315c86bf02498b2fcfd0bb0facdbb2e"), looks := true }, kinds := [], alts := [], laidByText := true, laidKinds := [.sentinel], laidTests := true, laidLooks := .later }
def FnExactHouseStockUptoCardSaid : Prop := Claim7.holds Tryd.pinned (.plain (OpenSpec.upto fnExactHouseStockSpec)) fnExactHouseStockUptoCard

/-- THE SECOND FORM's CARD OF 'laws.FnExactHouseForce'. -/
def fnExactHouseForceUptoCard : Claim7 := { stood := { row := fnExactHouseForceUptoRow, standIns := [], harness := (true, "02066583bdb4b944f52590789740335e6315c86bf02498b2fcfd0bb0facdbb2e"), looks := true }, kinds := [], alts := [], laidByText := true, laidKinds := [.sentinel], laidTests := true, laidLooks := .later }
def FnExactHouseForceUptoCardSaid : Prop := Claim7.holds Tryd.pinned (.plain (OpenSpec.upto fnExactHouseForceSpec)) fnExactHouseForceUptoCard

/-- THE SECOND FORM's CARD OF 'laws.FnExactHouseFall'. -/
def fnExactHouseFallUptoCard : Claim7 := { stood := { row := fnExactHouseFallUptoRow, standIns := [], harness := (true, "02066583bdb4b944f52590789740335e6315c86bf02498b2fcfd0bb0facdbb2e"), looks := true }, kinds := [], alts := [], laidByText := true, laidKinds := [.sentinel], laidTests := true, laidLooks := .later }
def FnExactHouseFallUptoCardSaid : Prop := Claim7.holds Tryd.pinned (.plain (OpenSpec.upto fnExactHouseFallSpec)) fnExactHouseFallUptoCard
end Rows
end Go.Proofs.YtclcehfaoeoipaaDoor
