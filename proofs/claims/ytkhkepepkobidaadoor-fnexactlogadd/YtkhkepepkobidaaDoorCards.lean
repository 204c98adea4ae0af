/-
  DERIVED. GIVEN WITH THE SEED: THE CARDS: each row of YtkhkepepkobidaaDoorRows.lean that lists a variable, with what it lists TIED to the program's text (the seventh form; the later family's looks); each row that meets fmt, with fmt's text TOLD by the authors' own Lean function (tested against real Go, not proved from fmt's source: count such statements apart). THE CARD IS WHAT COUNTS. Prove the row's statement (the work); the ties are given (YtkhkepepkobidaaDoorTie.lean); close each card by the builder's one call (the guide's Derived/Test/ToyasCard.lean, 'card_holds'). Laid BY PROGRAM, IN A SANDBOX (cutbox-door.mjs). By AI agents, Wed Nov 11 2026. No macro, syntax, notation, axiom, sorry.
-/
import Derived.Test.YtkhkepepkobidaaDoorRows
import GoSem.ClaimSeven
namespace Go.Proofs.YtkhkepepkobidaaDoor
namespace Rows

/-- THE TIED CARD OF 'laws.FnExactRecOk'. -/
def fnExactRecOkCard : Claim7 := { stood := { row := fnExactRecOkRow, standIns := [], harness := (true, "a48bd0638da8ff421e359bb77832f12b5538b05b1e6bd7239e2e6ecceb1304a3"), looks := true }, kinds := [], alts := [], laidByText := true, laidKinds := [.sentinel], laidTests := true, laidLooks := .later }
def FnExactRecOkCardSaid : Prop := Claim7.holds Tryd.pinned (.plain (OpenSpec.ofChange fnExactRecOkSpec)) fnExactRecOkCard

/-- THE TIED CARD OF 'laws.FnExactLogOk'. -/
def fnExactLogOkCard : Claim7 := { stood := { row := fnExactLogOkRow, standIns := [], harness := (true, "a48bd0638da8ff421e359bb77832f12b5538b05b1e6bd7239e2e6ecceb1304a3"), looks := true }, kinds := [], alts := [], laidByText := true, laidKinds := [.sentinel], laidTests := true, laidLooks := .later }
def FnExactLogOkCardSaid : Prop := Claim7.holds Tryd.pinned (.plain (OpenSpec.ofChange fnExactLogOkSpec)) fnExactLogOkCard

/-- THE TIED CARD OF 'laws.FnExactLogAdd'. -/
def fnExactLogAddCard : Claim7 := { stood := { row := fnExactLogAddRow, standIns := [], harness := (true, "a48bd0638da8ff421e359bb77832f12b5538b05b1e6bd7239e2e6ecceb1304a3"), looks := true }, kinds := [], alts := [], laidByText := true, laidKinds := [.sentinel], laidTests := true, laidLooks := .later }
def FnExactLogAddCardSaid : Prop := Claim7.holds Tryd.pinned (.plain (OpenSpec.ofChange fnExactLogAddSpec)) fnExactLogAddCard

/-- THE TIED CARD OF 'laws.FnExactLogForce'. -/
def fnExactLogForceCard : Claim7 := { stood := { row := fnExactLogForceRow, standIns := [], harness := (true, "a48bd0638da8ff421e359bb77832f12b5538b05b1e6bd7239e2e6ecceb1304a3"), looks := true }, kinds := [], alts := [], laidByText := true, laidKinds := [.sentinel], laidTests := true, laidLooks := .later }
def FnExactLogForceCardSaid : Prop := Claim7.holds Tryd.pinned (.plain (OpenSpec.ofChange fnExactLogForceSpec)) fnExactLogForceCard

/-- THE TIED CARD OF 'laws.FnExactLogFall'. -/
def fnExactLogFallCard : Claim7 := { stood := { row := fnExactLogFallRow, standIns := [], harness := (true, "a48bd0638da8ff421e359bb77832f12b5538b05b1e6bd7239e2e6ecceb1304a3"), looks := true }, kinds := [], alts := [], laidByText := true, laidKinds := [.sentinel], laidTests := true, laidLooks := .later }
def FnExactLogFallCardSaid : Prop := Claim7.holds Tryd.pinned (.plain (OpenSpec.ofChange fnExactLogFallSpec)) fnExactLogFallCard

/-- THE SECOND FORM's CARD OF 'laws.FnExactRecOk'. -/
def fnExactRecOkUptoCard : Claim7 := { stood := { row := fnExactRecOkUptoRow, standIns := [], harness := (true, "a48bd0638da8ff421e359bb77832f12b5538b05b1e6bd7239e2e6ecceb1304a3"), looks := true }, kinds := [], alts := [], laidByText := true, laidKinds := [.sentinel], laidTests := true, laidLooks := .later }
def FnExactRecOkUptoCardSaid : Prop := Claim7.holds Tryd.pinned (.plain (OpenSpec.upto fnExactRecOkSpec)) fnExactRecOkUptoCard

/-- THE SECOND FORM's CARD OF 'laws.FnExactLogOk'. -/
def fnExactLogOkUptoCard : Claim7 := { stood := { row := fnExactLogOkUptoRow, standIns := [], harness := (true, "a48bd0638da8ff421e359bb77832f12b5538b05b1e6bd7239e2e6ecceb1304a3"), looks := true }, kinds := [], alts := [], laidByText := true, laidKinds := [.sentinel], laidTests := true, laidLooks := .later }
def FnExactLogOkUptoCardSaid : Prop := Claim7.holds Tryd.pinned (.plain (OpenSpec.upto fnExactLogOkSpec)) fnExactLogOkUptoCard

/-- THE SECOND FORM's CARD OF 'laws.FnExactLogAdd'. -/
def fnExactLogAddUptoCard : Claim7 := { stood := { row := fnExactLogAddUptoRow, standIns := [], harness := (true, "a48bd0638da8ff421e359bb77832f12b5538b05b1e6bd7239e2e6ecceb1304a3"), looks := true }, kinds := [], alts := [], laidByText := true, laidKinds := [.sentinel], laidTests := true, laidLooks := .later }
def FnExactLogAddUptoCardSaid : Prop := Claim7.holds Tryd.pinned (.plain (OpenSpec.upto fnExactLogAddSpec)) fnExactLogAddUptoCard

/-- THE SECOND FORM's CARD OF 'laws.FnExactLogForce'. -/
def fnExactLogForceUptoCard : Claim7 := { stood := { row := fnExactLogForceUptoRow, standIns := [], harness := (true, "a48bd0638da8ff421e359bb77832f12b5538b05b1e6bd7239e2e6ecceb1304a3"), looks := true }, kinds := [], alts := [], laidByText := true, laidKinds := [.sentinel], laidTests := true, laidLooks := .later }
def FnExactLogForceUptoCardSaid : Prop := Claim7.holds Tryd.pinned (.plain (OpenSpec.upto fnExactLogForceSpec)) fnExactLogForceUptoCard

/-- THE SECOND FORM's CARD OF 'laws.FnExactLogFall'. -/
def fnExactLogFallUptoCard : Claim7 := { stood := { row := fnExactLogFallUptoRow, standIns := [], harness := (true, "a48bd0638da8ff421e359bb77832f12b5538b05b1e6bd7239e2e6ecceb1304a3"), looks := true }, kinds := [], alts := [], laidByText := true, laidKinds := [.sentinel], laidTests := true, laidLooks := .later }
def FnExactLogFallUptoCardSaid : Prop := Claim7.holds Tryd.pinned (.plain (OpenSpec.upto fnExactLogFallSpec)) fnExactLogFallUptoCard
end Rows
end Go.Proofs.YtkhkepepkobidaaDoor
