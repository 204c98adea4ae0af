/-
  DERIVED. GIVEN WITH THE SEED: THE CARDS: each row of YtaogachhmdmoaaaDoorRows.lean that lists a variable, with what it lists TIED to the program's text (the seventh form; the later family's looks); each row that meets fmt, with fmt's text TOLD by the authors' own Lean function (tested against real Go, not proved from fmt's source: count such statements apart). THE CARD IS WHAT COUNTS. Prove the row's statement (the work); the ties are given (YtaogachhmdmoaaaDoorTie.lean); close each card by the builder's one call (the guide's Derived/Test/ToyasCard.lean, 'card_holds'). Laid BY PROGRAM, IN A SANDBOX (cutbox-door.mjs). By AI agents, Wed Nov 11 2026. No macro, syntax, notation, axiom, sorry.
-/
import Derived.Test.YtaogachhmdmoaaaDoorRows
import GoSem.ClaimSeven
namespace Go.Proofs.YtaogachhmdmoaaaDoor
namespace Rows

/-- THE TIED CARD OF 'laws.FnRecForm'. -/
def fnRecFormCard : Claim7 := { stood := { row := fnRecFormRow, standIns := [], harness := (true, "20be90432a2fd607d6bcf005227b2785431093e1e9378642fdf5c75b56c938d8"), looks := true }, kinds := [], alts := [], laidByText := true, laidKinds := [.sentinel], laidTests := true, laidLooks := .later }
def FnRecFormCardSaid : Prop := Claim7.holds Tryd.pinned (.plain (OpenSpec.ofChange fnRecFormSpec)) fnRecFormCard

/-- THE TIED CARD OF 'laws.FnLogAdd'. -/
def fnLogAddCard : Claim7 := { stood := { row := fnLogAddRow, standIns := [], harness := (true, "20be90432a2fd607d6bcf005227b2785431093e1e9378642fdf5c75b56c938d8"), looks := true }, kinds := [], alts := [], laidByText := true, laidKinds := [.sentinel], laidTests := true, laidLooks := .later }
def FnLogAddCardSaid : Prop := Claim7.holds Tryd.pinned (.plain (OpenSpec.ofChange fnLogAddSpec)) fnLogAddCard

/-- THE TIED CARD OF 'laws.FnLogLess'. -/
def fnLogLessCard : Claim7 := { stood := { row := fnLogLessRow, standIns := [], harness := (true, "20be90432a2fd607d6bcf005227b2785431093e1e9378642fdf5c75b56c938d8"), looks := true }, kinds := [], alts := [], laidByText := true, laidKinds := [.sentinel], laidTests := true, laidLooks := .later }
def FnLogLessCardSaid : Prop := Claim7.holds Tryd.pinned (.plain (OpenSpec.ofChange fnLogLessSpec)) fnLogLessCard

/-- THE TIED CARD OF 'laws.FnRecKinds'. -/
def fnRecKindsCard : Claim7 := { stood := { row := fnRecKindsRow, standIns := [], harness := (true, "20be90432a2fd607d6bcf005227b2785431093e1e9378642fdf5c75b56c938d8"), looks := true }, kinds := [], alts := [], laidByText := true, laidKinds := [.sentinel], laidTests := true, laidLooks := .later }
def FnRecKindsCardSaid : Prop := Claim7.holds Tryd.pinned (.plain (OpenSpec.ofChange fnRecKindsSpec)) fnRecKindsCard

/-- THE SECOND FORM's CARD OF 'laws.FnRecForm'. -/
def fnRecFormUptoCard : Claim7 := { stood := { row := fnRecFormUptoRow, standIns := [], harness := (true, "20be90432a2fd607d6bcf005227b2785431093e1e9378642fdf5c75b56c938d8"), looks := true }, kinds := [], alts := [], laidByText := true, laidKinds := [.sentinel], laidTests := true, laidLooks := .later }
def FnRecFormUptoCardSaid : Prop := Claim7.holds Tryd.pinned (.plain (OpenSpec.upto fnRecFormSpec)) fnRecFormUptoCard

/-- THE SECOND FORM's CARD OF 'laws.FnLogAdd'. -/
def fnLogAddUptoCard : Claim7 := { stood := { row := fnLogAddUptoRow, standIns := [], harness := (true, "20be90432a2fd607d6bcf005227b2785431093e1e9378642fdf5c75b56c938d8"), looks := true }, kinds := [], alts := [], laidByText := true, laidKinds := [.sentinel], laidTests := true, laidLooks := .later }
def FnLogAddUptoCardSaid : Prop := Claim7.holds Tryd.pinned (.plain (OpenSpec.upto fnLogAddSpec)) fnLogAddUptoCard

/-- THE SECOND FORM's CARD OF 'laws.FnLogLess'. -/
def fnLogLessUptoCard : Claim7 := { stood := { row := fnLogLessUptoRow, standIns := [], harness := (true, "20be90432a2fd607d6bcf005227b2785431093e1e9378642fdf5c75b56c938d8"), looks := true }, kinds := [], alts := [], laidByText := true, laidKinds := [.sentinel], laidTests := true, laidLooks := .later }
def FnLogLessUptoCardSaid : Prop := Claim7.holds Tryd.pinned (.plain (OpenSpec.upto fnLogLessSpec)) fnLogLessUptoCard

/-- THE SECOND FORM's CARD OF 'laws.FnRecKinds'. -/
def fnRecKindsUptoCard : Claim7 := { stood := { row := fnRecKindsUptoRow, standIns := [], harness := (true, "20be90432a2fd607d6bcf005227b2785431093e1e9378642fdf5c75b56c938d8"), looks := true }, kinds := [], alts := [], laidByText := true, laidKinds := [.sentinel], laidTests := true, laidLooks := .later }
def FnRecKindsUptoCardSaid : Prop := Claim7.holds Tryd.pinned (.plain (OpenSpec.upto fnRecKindsSpec)) fnRecKindsUptoCard
end Rows
end Go.Proofs.YtaogachhmdmoaaaDoor
