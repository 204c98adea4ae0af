/-
  DERIVED. GIVEN WITH THE SEED: THE CARDS: each row of YtmkikenacnemkaaDoorRows.lean that lists a variable, with what it lists TIED to the program's text (the seventh form; the later family's looks); each row that meets fmt, with fmt's text TOLD by the authors' own Lean function (tested against real Go, not proved from fmt's source: count such statements apart). THE CARD IS WHAT COUNTS. Prove the row's statement (the work); the ties are given (YtmkikenacnemkaaDoorTie.lean); close each card by the builder's one call (the guide's Derived/Test/ToyasCard.lean, 'card_holds'). Laid BY PROGRAM, IN A SANDBOX (cutbox-door.mjs). By AI agents, Wed Nov 11 2026. No macro, syntax, notation, axiom, sorry.
-/
import Derived.Test.YtmkikenacnemkaaDoorRows
import GoSem.ClaimSeven
namespace Go.Proofs.YtmkikenacnemkaaDoor
namespace Rows

/-- THE TIED CARD OF 'laws.FnStockNew'. -/
def fnStockNewCard : Claim7 := { stood := { row := fnStockNewRow, standIns := [], harness := (true, "9f11962fafb3f07c4376c83f9ba3131d3daecf955a6dbefb875a5888b64677c9"), looks := true }, kinds := [], alts := [], laidByText := true, laidKinds := [.sentinel], laidTests := true, laidLooks := .later }
def FnStockNewCardSaid : Prop := Claim7.holds Tryd.pinned (.plain (OpenSpec.ofChange fnStockNewSpec)) fnStockNewCard

/-- THE SECOND FORM's CARD OF 'laws.FnStockNew'. -/
def fnStockNewUptoCard : Claim7 := { stood := { row := fnStockNewUptoRow, standIns := [], harness := (true, "9f11962fafb3f07c4376c83f9ba3131d3daecf955a6dbefb875a5888b64677c9"), looks := true }, kinds := [], alts := [], laidByText := true, laidKinds := [.sentinel], laidTests := true, laidLooks := .later }
def FnStockNewUptoCardSaid : Prop := Claim7.holds Tryd.pinned (.plain (OpenSpec.upto fnStockNewSpec)) fnStockNewUptoCard
end Rows
end Go.Proofs.YtmkikenacnemkaaDoor
