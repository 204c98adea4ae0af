/-
  DERIVED. GIVEN WITH THE SEED: THE CARDS: each row of YtpnhcmjdjekleaaDoorRows.lean that lists a variable, with what it lists TIED to the program's text (the seventh form; the later family's looks); each row that meets fmt, with fmt's text TOLD by the authors' own Lean function (tested against real Go, not proved from fmt's source: count such statements apart). THE CARD IS WHAT COUNTS. Prove the row's statement (the work); the ties are given (YtpnhcmjdjekleaaDoorTie.lean); close each card by the builder's one call (the guide's Derived/Test/ToyasCard.lean, 'card_holds'). Laid BY PROGRAM, IN A SANDBOX (cutbox-door.mjs). By AI agents, Wed Nov 11 2026. No macro, syntax, notation, axiom, sorry.
-/
import Derived.Test.YtpnhcmjdjekleaaDoorRows
import GoSem.ClaimSeven
namespace Go.Proofs.YtpnhcmjdjekleaaDoor
namespace Rows

/-- THE TIED CARD OF 'laws.FnExactStockMay'. -/
def fnExactStockMayCard : Claim7 := { stood := { row := fnExactStockMayRow, standIns := [], harness := (true, "80017850ba5278065e9aa91a5db6b7a0f0f262dbc86c63913761c6394da0f33e"), looks := true }, kinds := [], alts := [], laidByText := true, laidKinds := [.sentinel], laidTests := true, laidLooks := .later }
def FnExactStockMayCardSaid : Prop := Claim7.holds Tryd.pinned (.plain (OpenSpec.ofChange fnExactStockMaySpec)) fnExactStockMayCard

/-- THE TIED CARD OF 'laws.FnExactStockDo'. -/
def fnExactStockDoCard : Claim7 := { stood := { row := fnExactStockDoRow, standIns := [], harness := (true, "80017850ba5278065e9aa91a5db6b7a0f0f262dbc86c63913761c6394da0f33e"), looks := true }, kinds := [], alts := [], laidByText := true, laidKinds := [.sentinel], laidTests := true, laidLooks := .later }
def FnExactStockDoCardSaid : Prop := Claim7.holds Tryd.pinned (.plain (OpenSpec.ofChange fnExactStockDoSpec)) fnExactStockDoCard

/-- THE TIED CARD OF 'laws.FnExactStockOf'. -/
def fnExactStockOfCard : Claim7 := { stood := { row := fnExactStockOfRow, standIns := [], harness := (true, "80017850ba5278065e9aa91a5db6b7a0f0f262dbc86c63913761c6394da0f33e"), looks := true }, kinds := [], alts := [], laidByText := true, laidKinds := [.sentinel], laidTests := true, laidLooks := .later }
def FnExactStockOfCardSaid : Prop := Claim7.holds Tryd.pinned (.plain (OpenSpec.ofChange fnExactStockOfSpec)) fnExactStockOfCard

/-- THE SECOND FORM's CARD OF 'laws.FnExactStockMay'. -/
def fnExactStockMayUptoCard : Claim7 := { stood := { row := fnExactStockMayUptoRow, standIns := [], harness := (true, "80017850ba5278065e9aa91a5db6b7a0f0f262dbc86c63913761c6394da0f33e"), looks := true }, kinds := [], alts := [], laidByText := true, laidKinds := [.sentinel], laidTests := true, laidLooks := .later }
def FnExactStockMayUptoCardSaid : Prop := Claim7.holds Tryd.pinned (.plain (OpenSpec.upto fnExactStockMaySpec)) fnExactStockMayUptoCard

/-- THE SECOND FORM's CARD OF 'laws.FnExactStockDo'. -/
def fnExactStockDoUptoCard : Claim7 := { stood := { row := fnExactStockDoUptoRow, standIns := [], harness := (true, "80017850ba5278065e9aa91a5db6b7a0f0f262dbc86c63913761c6394da0f33e"), looks := true }, kinds := [], alts := [], laidByText := true, laidKinds := [.sentinel], laidTests := true, laidLooks := .later }
def FnExactStockDoUptoCardSaid : Prop := Claim7.holds Tryd.pinned (.plain (OpenSpec.upto fnExactStockDoSpec)) fnExactStockDoUptoCard

/-- THE SECOND FORM's CARD OF 'laws.FnExactStockOf'. -/
def fnExactStockOfUptoCard : Claim7 := { stood := { row := fnExactStockOfUptoRow, standIns := [], harness := (true, "80017850ba5278065e9aa91a5db6b7a0f0f262dbc86c63913761c6394da0f33e"), looks := true }, kinds := [], alts := [], laidByText := true, laidKinds := [.sentinel], laidTests := true, laidLooks := .later }
def FnExactStockOfUptoCardSaid : Prop := Claim7.holds Tryd.pinned (.plain (OpenSpec.upto fnExactStockOfSpec)) fnExactStockOfUptoCard
end Rows
end Go.Proofs.YtpnhcmjdjekleaaDoor
