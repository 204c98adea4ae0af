/-
  DERIVED. GIVEN WITH THE SEED: THE CARDS: each row of YtkhdefcealpfaaaDoorRows.lean that lists a variable, with what it lists TIED to the program's text (the seventh form; the later family's looks); each row that meets fmt, with fmt's text TOLD by the authors' own Lean function (tested against real Go, not proved from fmt's source: count such statements apart). THE CARD IS WHAT COUNTS. Prove the row's statement (the work); the ties are given (YtkhdefcealpfaaaDoorTie.lean); close each card by the builder's one call (the guide's Derived/Test/ToyasCard.lean, 'card_holds'). Laid BY PROGRAM, IN A SANDBOX (cutbox-door.mjs). By AI agents, Wed Nov 11 2026. No macro, syntax, notation, axiom, sorry.
-/
import Derived.Test.YtkhdefcealpfaaaDoorRows
import GoSem.ClaimSeven
namespace Go.Proofs.YtkhdefcealpfaaaDoor
namespace Rows

/-- THE TIED CARD OF 'laws.FnHouseNew'. -/
def fnHouseNewCard : Claim7 := { stood := { row := fnHouseNewRow, standIns := [], harness := (true, "1d9d0da7f18a165074382e78b6d37e43cebcf9965c175c419ba3238320699f94"), looks := true }, kinds := [], alts := [], laidByText := true, laidKinds := [.sentinel], laidTests := true, laidLooks := .later }
def FnHouseNewCardSaid : Prop := Claim7.holds Tryd.pinned (.plain (OpenSpec.ofChange fnHouseNewSpec)) fnHouseNewCard

/-- THE TIED CARD OF 'laws.FnHouseStock'. -/
def fnHouseStockCard : Claim7 := { stood := { row := fnHouseStockRow, standIns := [], harness := (true, "1d9d0da7f18a165074382e78b6d37e43cebcf9965c175c419ba3238320699f94"), looks := true }, kinds := [], alts := [], laidByText := true, laidKinds := [.sentinel], laidTests := true, laidLooks := .later }
def FnHouseStockCardSaid : Prop := Claim7.holds Tryd.pinned (.plain (OpenSpec.ofChange fnHouseStockSpec)) fnHouseStockCard

/-- THE TIED CARD OF 'laws.FnHouseFall'. -/
def fnHouseFallCard : Claim7 := { stood := { row := fnHouseFallRow, standIns := [], harness := (true, "1d9d0da7f18a165074382e78b6d37e43cebcf9965c175c419ba3238320699f94"), looks := true }, kinds := [], alts := [], laidByText := true, laidKinds := [.sentinel], laidTests := true, laidLooks := .later }
def FnHouseFallCardSaid : Prop := Claim7.holds Tryd.pinned (.plain (OpenSpec.ofChange fnHouseFallSpec)) fnHouseFallCard

/-- THE TIED CARD OF 'laws.FnHouseLog'. -/
def fnHouseLogCard : Claim7 := { stood := { row := fnHouseLogRow, standIns := [], harness := (true, "1d9d0da7f18a165074382e78b6d37e43cebcf9965c175c419ba3238320699f94"), looks := true }, kinds := [], alts := [], laidByText := true, laidKinds := [.sentinel], laidTests := true, laidLooks := .later }
def FnHouseLogCardSaid : Prop := Claim7.holds Tryd.pinned (.plain (OpenSpec.ofChange fnHouseLogSpec)) fnHouseLogCard

/-- THE SECOND FORM's CARD OF 'laws.FnHouseNew'. -/
def fnHouseNewUptoCard : Claim7 := { stood := { row := fnHouseNewUptoRow, standIns := [], harness := (true, "1d9d0da7f18a165074382e78b6d37e43cebcf9965c175c419ba3238320699f94"), looks := true }, kinds := [], alts := [], laidByText := true, laidKinds := [.sentinel], laidTests := true, laidLooks := .later }
def FnHouseNewUptoCardSaid : Prop := Claim7.holds Tryd.pinned (.plain (OpenSpec.upto fnHouseNewSpec)) fnHouseNewUptoCard

/-- THE SECOND FORM's CARD OF 'laws.FnHouseStock'. -/
def fnHouseStockUptoCard : Claim7 := { stood := { row := fnHouseStockUptoRow, standIns := [], harness := (true, "1d9d0da7f18a165074382e78b6d37e43cebcf9965c175c419ba3238320699f94"), looks := true }, kinds := [], alts := [], laidByText := true, laidKinds := [.sentinel], laidTests := true, laidLooks := .later }
def FnHouseStockUptoCardSaid : Prop := Claim7.holds Tryd.pinned (.plain (OpenSpec.upto fnHouseStockSpec)) fnHouseStockUptoCard

/-- THE SECOND FORM's CARD OF 'laws.FnHouseFall'. -/
def fnHouseFallUptoCard : Claim7 := { stood := { row := fnHouseFallUptoRow, standIns := [], harness := (true, "1d9d0da7f18a165074382e78b6d37e43cebcf9965c175c419ba3238320699f94"), looks := true }, kinds := [], alts := [], laidByText := true, laidKinds := [.sentinel], laidTests := true, laidLooks := .later }
def FnHouseFallUptoCardSaid : Prop := Claim7.holds Tryd.pinned (.plain (OpenSpec.upto fnHouseFallSpec)) fnHouseFallUptoCard

/-- THE SECOND FORM's CARD OF 'laws.FnHouseLog'. -/
def fnHouseLogUptoCard : Claim7 := { stood := { row := fnHouseLogUptoRow, standIns := [], harness := (true, "1d9d0da7f18a165074382e78b6d37e43cebcf9965c175c419ba3238320699f94"), looks := true }, kinds := [], alts := [], laidByText := true, laidKinds := [.sentinel], laidTests := true, laidLooks := .later }
def FnHouseLogUptoCardSaid : Prop := Claim7.holds Tryd.pinned (.plain (OpenSpec.upto fnHouseLogSpec)) fnHouseLogUptoCard
end Rows
end Go.Proofs.YtkhdefcealpfaaaDoor
