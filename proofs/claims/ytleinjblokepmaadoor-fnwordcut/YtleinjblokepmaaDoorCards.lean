/-
  DERIVED. GIVEN WITH THE SEED: THE CARDS: each row of YtleinjblokepmaaDoorRows.lean that lists a variable, with what it lists TIED to the program's text (the seventh form; the later family's looks); each row that meets fmt, with fmt's text TOLD by the authors' own Lean function (tested against real Go, not proved from fmt's source: count such statements apart). THE CARD IS WHAT COUNTS. Prove the row's statement (the work); the ties are given (YtleinjblokepmaaDoorTie.lean); close each card by the builder's one call (the guide's Derived/Test/ToyasCard.lean, 'card_holds'). Laid BY PROGRAM, IN A SANDBOX (cutbox-door.mjs). By AI agents, Wed Nov 11 2026. No macro, syntax, notation, axiom, sorry.
-/
import Derived.Test.YtleinjblokepmaaDoorRows
import GoSem.ClaimSeven
namespace Go.Proofs.YtleinjblokepmaaDoor
namespace Rows

/-- THE TIED CARD OF 'laws.FnWordBack'. -/
def fnWordBackCard : Claim7 := { stood := { row := fnWordBackRow, standIns := [], harness := (true, "02aa22059e98652cdac4715960a7ab617f1a3179940101e65adbb9ee831b2fee"), looks := true }, kinds := [], alts := [], laidByText := true, laidKinds := [.data, .data, .data, .sentinel, .sentinel, .data], laidTests := true, laidLooks := .later }
def FnWordBackCardSaid : Prop := Claim7.holds Tryd.pinned (.plain (OpenSpec.ofChange fnWordBackSpec)) fnWordBackCard

/-- THE TIED CARD OF 'laws.FnWordStrict'. -/
def fnWordStrictCard : Claim7 := { stood := { row := fnWordStrictRow, standIns := [], harness := (true, "02aa22059e98652cdac4715960a7ab617f1a3179940101e65adbb9ee831b2fee"), looks := true }, kinds := [], alts := [], laidByText := true, laidKinds := [.data, .data, .data, .sentinel, .sentinel, .data], laidTests := true, laidLooks := .later }
def FnWordStrictCardSaid : Prop := Claim7.holds Tryd.pinned (.plain (OpenSpec.ofChange fnWordStrictSpec)) fnWordStrictCard

/-- THE TIED CARD OF 'laws.FnWordCut'. -/
def fnWordCutCard : Claim7 := { stood := { row := fnWordCutRow, standIns := [], harness := (true, "02aa22059e98652cdac4715960a7ab617f1a3179940101e65adbb9ee831b2fee"), looks := true }, kinds := [], alts := [], laidByText := true, laidKinds := [.data, .data, .data, .sentinel, .sentinel, .data], laidTests := true, laidLooks := .later }
def FnWordCutCardSaid : Prop := Claim7.holds Tryd.pinned (.plain (OpenSpec.ofChange fnWordCutSpec)) fnWordCutCard

/-- THE TIED CARD OF 'laws.FnExactWordRead'. -/
def fnExactWordReadCard : Claim7 := { stood := { row := fnExactWordReadRow, standIns := [], harness := (true, "02aa22059e98652cdac4715960a7ab617f1a3179940101e65adbb9ee831b2fee"), looks := true }, kinds := [], alts := [], laidByText := true, laidKinds := [.data, .data, .data, .sentinel, .sentinel, .data], laidTests := true, laidLooks := .later }
def FnExactWordReadCardSaid : Prop := Claim7.holds Tryd.pinned (.plain (OpenSpec.ofChange fnExactWordReadSpec)) fnExactWordReadCard

/-- THE SECOND FORM's CARD OF 'laws.FnWordBack'. -/
def fnWordBackUptoCard : Claim7 := { stood := { row := fnWordBackUptoRow, standIns := [], harness := (true, "02aa22059e98652cdac4715960a7ab617f1a3179940101e65adbb9ee831b2fee"), looks := true }, kinds := [], alts := [], laidByText := true, laidKinds := [.data, .data, .data, .sentinel, .sentinel, .data], laidTests := true, laidLooks := .later }
def FnWordBackUptoCardSaid : Prop := Claim7.holds Tryd.pinned (.plain (OpenSpec.upto fnWordBackSpec)) fnWordBackUptoCard

/-- THE SECOND FORM's CARD OF 'laws.FnWordStrict'. -/
def fnWordStrictUptoCard : Claim7 := { stood := { row := fnWordStrictUptoRow, standIns := [], harness := (true, "02aa22059e98652cdac4715960a7ab617f1a3179940101e65adbb9ee831b2fee"), looks := true }, kinds := [], alts := [], laidByText := true, laidKinds := [.data, .data, .data, .sentinel, .sentinel, .data], laidTests := true, laidLooks := .later }
def FnWordStrictUptoCardSaid : Prop := Claim7.holds Tryd.pinned (.plain (OpenSpec.upto fnWordStrictSpec)) fnWordStrictUptoCard

/-- THE SECOND FORM's CARD OF 'laws.FnWordCut'. -/
def fnWordCutUptoCard : Claim7 := { stood := { row := fnWordCutUptoRow, standIns := [], harness := (true, "02aa22059e98652cdac4715960a7ab617f1a3179940101e65adbb9ee831b2fee"), looks := true }, kinds := [], alts := [], laidByText := true, laidKinds := [.data, .data, .data, .sentinel, .sentinel, .data], laidTests := true, laidLooks := .later }
def FnWordCutUptoCardSaid : Prop := Claim7.holds Tryd.pinned (.plain (OpenSpec.upto fnWordCutSpec)) fnWordCutUptoCard

/-- THE SECOND FORM's CARD OF 'laws.FnExactWordRead'. -/
def fnExactWordReadUptoCard : Claim7 := { stood := { row := fnExactWordReadUptoRow, standIns := [], harness := (true, "02aa22059e98652cdac4715960a7ab617f1a3179940101e65adbb9ee831b2fee"), looks := true }, kinds := [], alts := [], laidByText := true, laidKinds := [.data, .data, .data, .sentinel, .sentinel, .data], laidTests := true, laidLooks := .later }
def FnExactWordReadUptoCardSaid : Prop := Claim7.holds Tryd.pinned (.plain (OpenSpec.upto fnExactWordReadSpec)) fnExactWordReadUptoCard
end Rows
end Go.Proofs.YtleinjblokepmaaDoor
