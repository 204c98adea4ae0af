/- What lies in memory while a log is drawn. Plain facts of worlds; nothing is walked here. -/
import Derived.Test.YtfpjohbcbflnhaaDoorDRec
import Derived.Test.YtfpjohbcbflnhaaDoorSLog
namespace Go.Proofs.YtfpjohbcbflnhaaDoor
open Go.RowKit

/-- The numbers of a drawn record: a list of at most four, or none at all. -/
def Good (W : World) (lo : Nat) (p : R × Value) : Prop := p.1.2.2.length ≤ 4 ∧ ((∃ cap, Fresh W lo p.2 p.1.2.2 cap) ∨ (p.2 = .slice none 0 0 ∧ p.1.2.2 = []))

theorem Good.keep {W W' : World} {lo : Nat} {p : R × Value} (h : Good W lo p) (hk : ∀ (g : Nat) (cs : Array Value), W.heap[g]? = some (.cells cs 3 (0, 0)) → W'.heap[g]? = W.heap[g]?) : Good W' lo p := by
  obtain ⟨h1, h2⟩ := h
  refine ⟨h1, ?_⟩
  rcases h2 with ⟨cap, h2⟩ | h2
  · exact Or.inl ⟨cap, h2.keep hk⟩
  · exact Or.inr h2
theorem Good.ints {W : World} {lo : Nat} {p : R × Value} (h : Good W lo p) : Ints W p.2 p.1.2.2 := by
  obtain ⟨_, h2⟩ := h
  rcases h2 with ⟨cap, h2⟩ | ⟨h2, h3⟩
  · exact h2.ints
  · exact Or.inl ⟨h3, none, 0, h2, fun _ => rfl⟩

theorem recrow_block {W : World} {base n : Nat} {v : Value} {xs : List Value} (h : W.ownsRow base 25 3 v n xs) (g : Nat) (hg : v.ownBlock = some g) : base ≤ g ∧ ∃ cs, W.heap[g]? = some (.cells cs 25 (0, 0)) := by
  rcases h.2 with ⟨hv, _⟩ | ⟨g', cap, cur, hv, hb, hh, _⟩
  · rw [hv] at hg; simp [Value.ownBlock] at hg
  · rw [hv] at hg; simp [Value.ownBlock] at hg; subst hg; exact ⟨hb, cur, hh⟩

theorem ne_of_type {W : World} {g L : Nat} {cs cs' : Array Value} {t t' : TypeId} (h : W.heap[g]? = some (.cells cs t (0, 0))) (h' : W.heap[L]? = some (.cells cs' t' (0, 0))) (ht : t ≠ t') : g ≠ L := by
  intro e; subst e; rw [h] at h'; simp at h'; exact ht h'.2

end Go.Proofs.YtfpjohbcbflnhaaDoor
