/-
  DERIVED. GIVEN WITH THE SEED: THE CARDS: each row of YtgeagfglkgpoiaaDoorRows.lean that lists a variable, with what it lists TIED to the program's text (the seventh form; the later family's looks); each row that meets fmt, with fmt's text TOLD by the authors' own Lean function (tested against real Go, not proved from fmt's source: count such statements apart). THE CARD IS WHAT COUNTS. Prove the row's statement (the work); the ties are given (YtgeagfglkgpoiaaDoorTie.lean); close each card by the builder's one call (the guide's Derived/Test/ToyasCard.lean, 'card_holds'). Laid BY PROGRAM, IN A SANDBOX (cutbox-door.mjs). By AI agents, Wed Nov 11 2026. No macro, syntax, notation, axiom, sorry.
-/
import Derived.Test.YtgeagfglkgpoiaaDoorRows
import GoSem.ClaimSeven
namespace Go.Proofs.YtgeagfglkgpoiaaDoor
namespace Rows

/-- THE TIED CARD OF 'laws.FnHouseStock'. -/
def fnHouseStockCard : Claim7 := { stood := { row := fnHouseStockRow, standIns := [], harness := (true, "d3ea49c9cac62758278c04f25edf348d2449c1773a2e25fd6eef4218489fc74d"), looks := true }, kinds := [], alts := [], laidByText := true, laidKinds := [.sentinel], laidTests := true, laidLooks := .later }
def FnHouseStockCardSaid : Prop := Claim7.holds Tryd.pinned (.plain (OpenSpec.ofChange fnHouseStockSpec)) fnHouseStockCard

/-- THE TIED CARD OF 'laws.FnHouseFall'. -/
def fnHouseFallCard : Claim7 := { stood := { row := fnHouseFallRow, standIns := [], harness := (true, "d3ea49c9cac62758278c04f25edf348d2449c1773a2e25fd6eef4218489fc74d"), looks := true }, kinds := [], alts := [], laidByText := true, laidKinds := [.sentinel], laidTests := true, laidLooks := .later }
def FnHouseFallCardSaid : Prop := Claim7.holds Tryd.pinned (.plain (OpenSpec.ofChange fnHouseFallSpec)) fnHouseFallCard

/-- THE SECOND FORM's CARD OF 'laws.FnHouseStock'. -/
def fnHouseStockUptoCard : Claim7 := { stood := { row := fnHouseStockUptoRow, standIns := [], harness := (true, "d3ea49c9cac62758278c04f25edf348d2449c1773a2e25fd6eef4218489fc74d"), looks := true }, kinds := [], alts := [], laidByText := true, laidKinds := [.sentinel], laidTests := true, laidLooks := .later }
def FnHouseStockUptoCardSaid : Prop := Claim7.holds Tryd.pinned (.plain (OpenSpec.upto fnHouseStockSpec)) fnHouseStockUptoCard

/-- THE SECOND FORM's CARD OF 'laws.FnHouseFall'. -/
def fnHouseFallUptoCard : Claim7 := { stood := { row := fnHouseFallUptoRow, standIns := [], harness := (true, "d3ea49c9cac62758278c04f25edf348d2449c1773a2e25fd6eef4218489fc74d"), looks := true }, kinds := [], alts := [], laidByText := true, laidKinds := [.sentinel], laidTests := true, laidLooks := .later }
def FnHouseFallUptoCardSaid : Prop := Claim7.holds Tryd.pinned (.plain (OpenSpec.upto fnHouseFallSpec)) fnHouseFallUptoCard
end Rows
end Go.Proofs.YtgeagfglkgpoiaaDoor
