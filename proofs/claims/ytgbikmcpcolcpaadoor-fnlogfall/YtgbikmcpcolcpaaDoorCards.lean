/-
  DERIVED. GIVEN WITH THE SEED: THE CARDS: each row of YtgbikmcpcolcpaaDoorRows.lean that lists a variable, with what it lists TIED to the program's text (the seventh form; the later family's looks); each row that meets fmt, with fmt's text TOLD by the authors' own Lean function (tested against real Go, not proved from fmt's source: count such statements apart). THE CARD IS WHAT COUNTS. Prove the row's statement (the work); the ties are given (YtgbikmcpcolcpaaDoorTie.lean); close each card by the builder's one call (the guide's Derived/Test/ToyasCard.lean, 'card_holds'). Laid BY PROGRAM, IN A SANDBOX (cutbox-door.mjs). By AI agents, Wed Nov 11 2026. No macro, syntax, notation, axiom, sorry.
-/
import Derived.Test.YtgbikmcpcolcpaaDoorRows
import GoSem.ClaimSeven
namespace Go.Proofs.YtgbikmcpcolcpaaDoor
namespace Rows

/-- THE TIED CARD OF 'laws.FnLogAdd'. -/
def fnLogAddCard : Claim7 := { stood := { row := fnLogAddRow, standIns := [], harness := (true, "59f04984c19968cebdb98a192c6483bea33a479626da45b0341a848a4ce3b699"), looks := true }, kinds := [], alts := [], laidByText := true, laidKinds := [.sentinel], laidTests := true, laidLooks := .later }
def FnLogAddCardSaid : Prop := Claim7.holds Tryd.pinned (.plain (OpenSpec.ofChange fnLogAddSpec)) fnLogAddCard

/-- THE TIED CARD OF 'laws.FnLogForce'. -/
def fnLogForceCard : Claim7 := { stood := { row := fnLogForceRow, standIns := [], harness := (true, "59f04984c19968cebdb98a192c6483bea33a479626da45b0341a848a4ce3b699"), looks := true }, kinds := [], alts := [], laidByText := true, laidKinds := [.sentinel], laidTests := true, laidLooks := .later }
def FnLogForceCardSaid : Prop := Claim7.holds Tryd.pinned (.plain (OpenSpec.ofChange fnLogForceSpec)) fnLogForceCard

/-- THE TIED CARD OF 'laws.FnLogFall'. -/
def fnLogFallCard : Claim7 := { stood := { row := fnLogFallRow, standIns := [], harness := (true, "59f04984c19968cebdb98a192c6483bea33a479626da45b0341a848a4ce3b699"), looks := true }, kinds := [], alts := [], laidByText := true, laidKinds := [.sentinel], laidTests := true, laidLooks := .later }
def FnLogFallCardSaid : Prop := Claim7.holds Tryd.pinned (.plain (OpenSpec.ofChange fnLogFallSpec)) fnLogFallCard

/-- THE TIED CARD OF 'laws.FnLogMore'. -/
def fnLogMoreCard : Claim7 := { stood := { row := fnLogMoreRow, standIns := [], harness := (true, "59f04984c19968cebdb98a192c6483bea33a479626da45b0341a848a4ce3b699"), looks := true }, kinds := [], alts := [], laidByText := true, laidKinds := [.sentinel], laidTests := true, laidLooks := .later }
def FnLogMoreCardSaid : Prop := Claim7.holds Tryd.pinned (.plain (OpenSpec.ofChange fnLogMoreSpec)) fnLogMoreCard

/-- THE TIED CARD OF 'laws.FnLogLess'. -/
def fnLogLessCard : Claim7 := { stood := { row := fnLogLessRow, standIns := [], harness := (true, "59f04984c19968cebdb98a192c6483bea33a479626da45b0341a848a4ce3b699"), looks := true }, kinds := [], alts := [], laidByText := true, laidKinds := [.sentinel], laidTests := true, laidLooks := .later }
def FnLogLessCardSaid : Prop := Claim7.holds Tryd.pinned (.plain (OpenSpec.ofChange fnLogLessSpec)) fnLogLessCard

/-- THE TIED CARD OF 'laws.FnLogAddFall'. -/
def fnLogAddFallCard : Claim7 := { stood := { row := fnLogAddFallRow, standIns := [], harness := (true, "59f04984c19968cebdb98a192c6483bea33a479626da45b0341a848a4ce3b699"), looks := true }, kinds := [], alts := [], laidByText := true, laidKinds := [.sentinel], laidTests := true, laidLooks := .later }
def FnLogAddFallCardSaid : Prop := Claim7.holds Tryd.pinned (.plain (OpenSpec.ofChange fnLogAddFallSpec)) fnLogAddFallCard

/-- THE SECOND FORM's CARD OF 'laws.FnLogAdd'. -/
def fnLogAddUptoCard : Claim7 := { stood := { row := fnLogAddUptoRow, standIns := [], harness := (true, "59f04984c19968cebdb98a192c6483bea33a479626da45b0341a848a4ce3b699"), looks := true }, kinds := [], alts := [], laidByText := true, laidKinds := [.sentinel], laidTests := true, laidLooks := .later }
def FnLogAddUptoCardSaid : Prop := Claim7.holds Tryd.pinned (.plain (OpenSpec.upto fnLogAddSpec)) fnLogAddUptoCard

/-- THE SECOND FORM's CARD OF 'laws.FnLogForce'. -/
def fnLogForceUptoCard : Claim7 := { stood := { row := fnLogForceUptoRow, standIns := [], harness := (true, "59f04984c19968cebdb98a192c6483bea33a479626da45b0341a848a4ce3b699"), looks := true }, kinds := [], alts := [], laidByText := true, laidKinds := [.sentinel], laidTests := true, laidLooks := .later }
def FnLogForceUptoCardSaid : Prop := Claim7.holds Tryd.pinned (.plain (OpenSpec.upto fnLogForceSpec)) fnLogForceUptoCard

/-- THE SECOND FORM's CARD OF 'laws.FnLogFall'. -/
def fnLogFallUptoCard : Claim7 := { stood := { row := fnLogFallUptoRow, standIns := [], harness := (true, "59f04984c19968cebdb98a192c6483bea33a479626da45b0341a848a4ce3b699"), looks := true }, kinds := [], alts := [], laidByText := true, laidKinds := [.sentinel], laidTests := true, laidLooks := .later }
def FnLogFallUptoCardSaid : Prop := Claim7.holds Tryd.pinned (.plain (OpenSpec.upto fnLogFallSpec)) fnLogFallUptoCard

/-- THE SECOND FORM's CARD OF 'laws.FnLogMore'. -/
def fnLogMoreUptoCard : Claim7 := { stood := { row := fnLogMoreUptoRow, standIns := [], harness := (true, "59f04984c19968cebdb98a192c6483bea33a479626da45b0341a848a4ce3b699"), looks := true }, kinds := [], alts := [], laidByText := true, laidKinds := [.sentinel], laidTests := true, laidLooks := .later }
def FnLogMoreUptoCardSaid : Prop := Claim7.holds Tryd.pinned (.plain (OpenSpec.upto fnLogMoreSpec)) fnLogMoreUptoCard

/-- THE SECOND FORM's CARD OF 'laws.FnLogLess'. -/
def fnLogLessUptoCard : Claim7 := { stood := { row := fnLogLessUptoRow, standIns := [], harness := (true, "59f04984c19968cebdb98a192c6483bea33a479626da45b0341a848a4ce3b699"), looks := true }, kinds := [], alts := [], laidByText := true, laidKinds := [.sentinel], laidTests := true, laidLooks := .later }
def FnLogLessUptoCardSaid : Prop := Claim7.holds Tryd.pinned (.plain (OpenSpec.upto fnLogLessSpec)) fnLogLessUptoCard

/-- THE SECOND FORM's CARD OF 'laws.FnLogAddFall'. -/
def fnLogAddFallUptoCard : Claim7 := { stood := { row := fnLogAddFallUptoRow, standIns := [], harness := (true, "59f04984c19968cebdb98a192c6483bea33a479626da45b0341a848a4ce3b699"), looks := true }, kinds := [], alts := [], laidByText := true, laidKinds := [.sentinel], laidTests := true, laidLooks := .later }
def FnLogAddFallUptoCardSaid : Prop := Claim7.holds Tryd.pinned (.plain (OpenSpec.upto fnLogAddFallSpec)) fnLogAddFallUptoCard
end Rows
end Go.Proofs.YtgbikmcpcolcpaaDoor
