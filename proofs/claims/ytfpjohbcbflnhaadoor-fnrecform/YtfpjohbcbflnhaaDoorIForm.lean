/- The contract of the program's LogFall at whatever list a call itself has made, nil among them. For all that together has at most 1048576 records and numbers, in a world in which the sentinel's variable holds a pointer to an errors.errorString. -/
import Derived.Test.YtfpjohbcbflnhaaDoorIFall
namespace Go.Proofs.YtfpjohbcbflnhaaDoor
open Go.RowKit

/-- The slice of a list that the call itself has made, or nil. -/
def Form (v : Value) (n : Nat) : Prop := (v = .slice none 0 0 ∧ n = 0) ∨ ∃ g cap, v = .slice (some ⟨g, 0, none⟩) n cap ∧ n ≤ cap
theorem form_of_row {w : World} {base : Nat} {e : TypeId} {size : Nat} {v : Value} {n : Nat} {xs : List Value} (h : w.ownsRow base e size v n xs) : Form v n := by
  rcases h.2 with h | ⟨g, cap, cur, hv, _, _, hc, _⟩
  · exact Or.inl h
  · exact Or.inr ⟨g, cap, hv, hc⟩

end Go.Proofs.YtfpjohbcbflnhaaDoor
