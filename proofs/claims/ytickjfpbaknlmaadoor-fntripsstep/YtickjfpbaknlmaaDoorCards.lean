/-
  DERIVED. GIVEN WITH THE SEED: THE CARDS: each row of YtickjfpbaknlmaaDoorRows.lean that lists a variable, with what it lists TIED to the program's text (the seventh form; the later family's looks); each row that meets fmt, with fmt's text TOLD by the authors' own Lean function (tested against real Go, not proved from fmt's source: count such statements apart). THE CARD IS WHAT COUNTS. Prove the row's statement (the work); the ties are given (YtickjfpbaknlmaaDoorTie.lean); close each card by the builder's one call (the guide's Derived/Test/ToyasCard.lean, 'card_holds'). Laid BY PROGRAM, IN A SANDBOX (cutbox-door.mjs). By AI agents, Wed Nov 11 2026. No macro, syntax, notation, axiom, sorry.
-/
import Derived.Test.YtickjfpbaknlmaaDoorRows
import GoSem.ClaimSeven
namespace Go.Proofs.YtickjfpbaknlmaaDoor
namespace Rows

/-- THE TIED CARD OF 'laws.FnTripsMay'. -/
def fnTripsMayCard : Claim7 := { stood := { row := fnTripsMayRow, standIns := [], harness := (true, "c58aae89fd2827126a2913c8af99cef2e437d16c850446bd45767957ee126de5"), looks := true }, kinds := [], alts := [], laidByText := true, laidKinds := [.sentinel], laidTests := true, laidLooks := .later }
def FnTripsMayCardSaid : Prop := Claim7.holds Tryd.pinned (.plain (OpenSpec.ofChange fnTripsMaySpec)) fnTripsMayCard

/-- THE TIED CARD OF 'laws.FnTripsKept'. -/
def fnTripsKeptCard : Claim7 := { stood := { row := fnTripsKeptRow, standIns := [], harness := (true, "c58aae89fd2827126a2913c8af99cef2e437d16c850446bd45767957ee126de5"), looks := true }, kinds := [], alts := [], laidByText := true, laidKinds := [.sentinel], laidTests := true, laidLooks := .later }
def FnTripsKeptCardSaid : Prop := Claim7.holds Tryd.pinned (.plain (OpenSpec.ofChange fnTripsKeptSpec)) fnTripsKeptCard

/-- THE TIED CARD OF 'laws.FnTripsBegin'. -/
def fnTripsBeginCard : Claim7 := { stood := { row := fnTripsBeginRow, standIns := [], harness := (true, "c58aae89fd2827126a2913c8af99cef2e437d16c850446bd45767957ee126de5"), looks := true }, kinds := [], alts := [], laidByText := true, laidKinds := [.sentinel], laidTests := true, laidLooks := .later }
def FnTripsBeginCardSaid : Prop := Claim7.holds Tryd.pinned (.plain (OpenSpec.ofChange fnTripsBeginSpec)) fnTripsBeginCard

/-- THE TIED CARD OF 'laws.FnTripsStep'. -/
def fnTripsStepCard : Claim7 := { stood := { row := fnTripsStepRow, standIns := [], harness := (true, "c58aae89fd2827126a2913c8af99cef2e437d16c850446bd45767957ee126de5"), looks := true }, kinds := [], alts := [], laidByText := true, laidKinds := [.sentinel], laidTests := true, laidLooks := .later }
def FnTripsStepCardSaid : Prop := Claim7.holds Tryd.pinned (.plain (OpenSpec.ofChange fnTripsStepSpec)) fnTripsStepCard

/-- THE TIED CARD OF 'laws.FnTripsOnce'. -/
def fnTripsOnceCard : Claim7 := { stood := { row := fnTripsOnceRow, standIns := [], harness := (true, "c58aae89fd2827126a2913c8af99cef2e437d16c850446bd45767957ee126de5"), looks := true }, kinds := [], alts := [], laidByText := true, laidKinds := [.sentinel], laidTests := true, laidLooks := .later }
def FnTripsOnceCardSaid : Prop := Claim7.holds Tryd.pinned (.plain (OpenSpec.ofChange fnTripsOnceSpec)) fnTripsOnceCard

/-- THE TIED CARD OF 'laws.FnTripsOf'. -/
def fnTripsOfCard : Claim7 := { stood := { row := fnTripsOfRow, standIns := [], harness := (true, "c58aae89fd2827126a2913c8af99cef2e437d16c850446bd45767957ee126de5"), looks := true }, kinds := [], alts := [], laidByText := true, laidKinds := [.sentinel], laidTests := true, laidLooks := .later }
def FnTripsOfCardSaid : Prop := Claim7.holds Tryd.pinned (.plain (OpenSpec.ofChange fnTripsOfSpec)) fnTripsOfCard

/-- THE SECOND FORM's CARD OF 'laws.FnTripsMay'. -/
def fnTripsMayUptoCard : Claim7 := { stood := { row := fnTripsMayUptoRow, standIns := [], harness := (true, "c58aae89fd2827126a2913c8af99cef2e437d16c850446bd45767957ee126de5"), looks := true }, kinds := [], alts := [], laidByText := true, laidKinds := [.sentinel], laidTests := true, laidLooks := .later }
def FnTripsMayUptoCardSaid : Prop := Claim7.holds Tryd.pinned (.plain (OpenSpec.upto fnTripsMaySpec)) fnTripsMayUptoCard

/-- THE SECOND FORM's CARD OF 'laws.FnTripsKept'. -/
def fnTripsKeptUptoCard : Claim7 := { stood := { row := fnTripsKeptUptoRow, standIns := [], harness := (true, "c58aae89fd2827126a2913c8af99cef2e437d16c850446bd45767957ee126de5"), looks := true }, kinds := [], alts := [], laidByText := true, laidKinds := [.sentinel], laidTests := true, laidLooks := .later }
def FnTripsKeptUptoCardSaid : Prop := Claim7.holds Tryd.pinned (.plain (OpenSpec.upto fnTripsKeptSpec)) fnTripsKeptUptoCard

/-- THE SECOND FORM's CARD OF 'laws.FnTripsBegin'. -/
def fnTripsBeginUptoCard : Claim7 := { stood := { row := fnTripsBeginUptoRow, standIns := [], harness := (true, "c58aae89fd2827126a2913c8af99cef2e437d16c850446bd45767957ee126de5"), looks := true }, kinds := [], alts := [], laidByText := true, laidKinds := [.sentinel], laidTests := true, laidLooks := .later }
def FnTripsBeginUptoCardSaid : Prop := Claim7.holds Tryd.pinned (.plain (OpenSpec.upto fnTripsBeginSpec)) fnTripsBeginUptoCard

/-- THE SECOND FORM's CARD OF 'laws.FnTripsStep'. -/
def fnTripsStepUptoCard : Claim7 := { stood := { row := fnTripsStepUptoRow, standIns := [], harness := (true, "c58aae89fd2827126a2913c8af99cef2e437d16c850446bd45767957ee126de5"), looks := true }, kinds := [], alts := [], laidByText := true, laidKinds := [.sentinel], laidTests := true, laidLooks := .later }
def FnTripsStepUptoCardSaid : Prop := Claim7.holds Tryd.pinned (.plain (OpenSpec.upto fnTripsStepSpec)) fnTripsStepUptoCard

/-- THE SECOND FORM's CARD OF 'laws.FnTripsOnce'. -/
def fnTripsOnceUptoCard : Claim7 := { stood := { row := fnTripsOnceUptoRow, standIns := [], harness := (true, "c58aae89fd2827126a2913c8af99cef2e437d16c850446bd45767957ee126de5"), looks := true }, kinds := [], alts := [], laidByText := true, laidKinds := [.sentinel], laidTests := true, laidLooks := .later }
def FnTripsOnceUptoCardSaid : Prop := Claim7.holds Tryd.pinned (.plain (OpenSpec.upto fnTripsOnceSpec)) fnTripsOnceUptoCard

/-- THE SECOND FORM's CARD OF 'laws.FnTripsOf'. -/
def fnTripsOfUptoCard : Claim7 := { stood := { row := fnTripsOfUptoRow, standIns := [], harness := (true, "c58aae89fd2827126a2913c8af99cef2e437d16c850446bd45767957ee126de5"), looks := true }, kinds := [], alts := [], laidByText := true, laidKinds := [.sentinel], laidTests := true, laidLooks := .later }
def FnTripsOfUptoCardSaid : Prop := Claim7.holds Tryd.pinned (.plain (OpenSpec.upto fnTripsOfSpec)) fnTripsOfUptoCard
end Rows
end Go.Proofs.YtickjfpbaknlmaaDoor
