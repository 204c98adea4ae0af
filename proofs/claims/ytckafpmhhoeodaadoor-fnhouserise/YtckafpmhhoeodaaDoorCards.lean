/-
  DERIVED. GIVEN WITH THE SEED: THE CARDS: each row of YtckafpmhhoeodaaDoorRows.lean that lists a variable, with what it lists TIED to the program's text (the seventh form; the later family's looks); each row that meets fmt, with fmt's text TOLD by the authors' own Lean function (tested against real Go, not proved from fmt's source: count such statements apart). THE CARD IS WHAT COUNTS. Prove the row's statement (the work); the ties are given (YtckafpmhhoeodaaDoorTie.lean); close each card by the builder's one call (the guide's Derived/Test/ToyasCard.lean, 'card_holds'). Laid BY PROGRAM, IN A SANDBOX (cutbox-door.mjs). By AI agents, Wed Nov 11 2026. No macro, syntax, notation, axiom, sorry.
-/
import Derived.Test.YtckafpmhhoeodaaDoorRows
import GoSem.ClaimSeven
namespace Go.Proofs.YtckafpmhhoeodaaDoor
namespace Rows

/-- THE TIED CARD OF 'laws.FnHouseForce'. -/
def fnHouseForceCard : Claim7 := { stood := { row := fnHouseForceRow, standIns := [], harness := (true, "35b584aa2fa54f136aad66c30e925fb050818541e8a1aec9e0e23e0da895607b"), looks := true }, kinds := [], alts := [], laidByText := true, laidKinds := [.sentinel], laidTests := true, laidLooks := .later }
def FnHouseForceCardSaid : Prop := Claim7.holds Tryd.pinned (.plain (OpenSpec.ofChange fnHouseForceSpec)) fnHouseForceCard

/-- THE TIED CARD OF 'laws.FnHouseRise'. -/
def fnHouseRiseCard : Claim7 := { stood := { row := fnHouseRiseRow, standIns := [], harness := (true, "35b584aa2fa54f136aad66c30e925fb050818541e8a1aec9e0e23e0da895607b"), looks := true }, kinds := [], alts := [], laidByText := true, laidKinds := [.sentinel], laidTests := true, laidLooks := .later }
def FnHouseRiseCardSaid : Prop := Claim7.holds Tryd.pinned (.plain (OpenSpec.ofChange fnHouseRiseSpec)) fnHouseRiseCard

/-- THE TIED CARD OF 'laws.FnHouseFall'. -/
def fnHouseFallCard : Claim7 := { stood := { row := fnHouseFallRow, standIns := [], harness := (true, "35b584aa2fa54f136aad66c30e925fb050818541e8a1aec9e0e23e0da895607b"), looks := true }, kinds := [], alts := [], laidByText := true, laidKinds := [.sentinel], laidTests := true, laidLooks := .later }
def FnHouseFallCardSaid : Prop := Claim7.holds Tryd.pinned (.plain (OpenSpec.ofChange fnHouseFallSpec)) fnHouseFallCard

/-- THE TIED CARD OF 'laws.FnHouseStock'. -/
def fnHouseStockCard : Claim7 := { stood := { row := fnHouseStockRow, standIns := [], harness := (true, "35b584aa2fa54f136aad66c30e925fb050818541e8a1aec9e0e23e0da895607b"), looks := true }, kinds := [], alts := [], laidByText := true, laidKinds := [.sentinel], laidTests := true, laidLooks := .later }
def FnHouseStockCardSaid : Prop := Claim7.holds Tryd.pinned (.plain (OpenSpec.ofChange fnHouseStockSpec)) fnHouseStockCard

/-- THE TIED CARD OF 'laws.FnHouseLog'. -/
def fnHouseLogCard : Claim7 := { stood := { row := fnHouseLogRow, standIns := [], harness := (true, "35b584aa2fa54f136aad66c30e925fb050818541e8a1aec9e0e23e0da895607b"), looks := true }, kinds := [], alts := [], laidByText := true, laidKinds := [.sentinel], laidTests := true, laidLooks := .later }
def FnHouseLogCardSaid : Prop := Claim7.holds Tryd.pinned (.plain (OpenSpec.ofChange fnHouseLogSpec)) fnHouseLogCard

/-- THE TIED CARD OF 'laws.FnHouseNew'. -/
def fnHouseNewCard : Claim7 := { stood := { row := fnHouseNewRow, standIns := [], harness := (true, "35b584aa2fa54f136aad66c30e925fb050818541e8a1aec9e0e23e0da895607b"), looks := true }, kinds := [], alts := [], laidByText := true, laidKinds := [.sentinel], laidTests := true, laidLooks := .later }
def FnHouseNewCardSaid : Prop := Claim7.holds Tryd.pinned (.plain (OpenSpec.ofChange fnHouseNewSpec)) fnHouseNewCard

/-- THE SECOND FORM's CARD OF 'laws.FnHouseForce'. -/
def fnHouseForceUptoCard : Claim7 := { stood := { row := fnHouseForceUptoRow, standIns := [], harness := (true, "35b584aa2fa54f136aad66c30e925fb050818541e8a1aec9e0e23e0da895607b"), looks := true }, kinds := [], alts := [], laidByText := true, laidKinds := [.sentinel], laidTests := true, laidLooks := .later }
def FnHouseForceUptoCardSaid : Prop := Claim7.holds Tryd.pinned (.plain (OpenSpec.upto fnHouseForceSpec)) fnHouseForceUptoCard

/-- THE SECOND FORM's CARD OF 'laws.FnHouseRise'. -/
def fnHouseRiseUptoCard : Claim7 := { stood := { row := fnHouseRiseUptoRow, standIns := [], harness := (true, "35b584aa2fa54f136aad66c30e925fb050818541e8a1aec9e0e23e0da895607b"), looks := true }, kinds := [], alts := [], laidByText := true, laidKinds := [.sentinel], laidTests := true, laidLooks := .later }
def FnHouseRiseUptoCardSaid : Prop := Claim7.holds Tryd.pinned (.plain (OpenSpec.upto fnHouseRiseSpec)) fnHouseRiseUptoCard

/-- THE SECOND FORM's CARD OF 'laws.FnHouseFall'. -/
def fnHouseFallUptoCard : Claim7 := { stood := { row := fnHouseFallUptoRow, standIns := [], harness := (true, "35b584aa2fa54f136aad66c30e925fb050818541e8a1aec9e0e23e0da895607b"), looks := true }, kinds := [], alts := [], laidByText := true, laidKinds := [.sentinel], laidTests := true, laidLooks := .later }
def FnHouseFallUptoCardSaid : Prop := Claim7.holds Tryd.pinned (.plain (OpenSpec.upto fnHouseFallSpec)) fnHouseFallUptoCard

/-- THE SECOND FORM's CARD OF 'laws.FnHouseStock'. -/
def fnHouseStockUptoCard : Claim7 := { stood := { row := fnHouseStockUptoRow, standIns := [], harness := (true, "35b584aa2fa54f136aad66c30e925fb050818541e8a1aec9e0e23e0da895607b"), looks := true }, kinds := [], alts := [], laidByText := true, laidKinds := [.sentinel], laidTests := true, laidLooks := .later }
def FnHouseStockUptoCardSaid : Prop := Claim7.holds Tryd.pinned (.plain (OpenSpec.upto fnHouseStockSpec)) fnHouseStockUptoCard

/-- THE SECOND FORM's CARD OF 'laws.FnHouseLog'. -/
def fnHouseLogUptoCard : Claim7 := { stood := { row := fnHouseLogUptoRow, standIns := [], harness := (true, "35b584aa2fa54f136aad66c30e925fb050818541e8a1aec9e0e23e0da895607b"), looks := true }, kinds := [], alts := [], laidByText := true, laidKinds := [.sentinel], laidTests := true, laidLooks := .later }
def FnHouseLogUptoCardSaid : Prop := Claim7.holds Tryd.pinned (.plain (OpenSpec.upto fnHouseLogSpec)) fnHouseLogUptoCard

/-- THE SECOND FORM's CARD OF 'laws.FnHouseNew'. -/
def fnHouseNewUptoCard : Claim7 := { stood := { row := fnHouseNewUptoRow, standIns := [], harness := (true, "35b584aa2fa54f136aad66c30e925fb050818541e8a1aec9e0e23e0da895607b"), looks := true }, kinds := [], alts := [], laidByText := true, laidKinds := [.sentinel], laidTests := true, laidLooks := .later }
def FnHouseNewUptoCardSaid : Prop := Claim7.holds Tryd.pinned (.plain (OpenSpec.upto fnHouseNewSpec)) fnHouseNewUptoCard
end Rows
end Go.Proofs.YtckafpmhhoeodaaDoor
