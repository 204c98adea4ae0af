/- Contracts of the law's copies of lists of records and of logs. For all that together has at most 1048576 records and numbers. -/
import Derived.Test.YtmbgnmnlkbeaoaaOwn
namespace Go.Proofs.Ytmbgnmnlkbeaoaa
open Go.RowKit

def zeroP : R × Value := ((0, 0, []), .slice none 0 0)

theorem made_three (n : Nat) : (madeCells #[.int .i64 0, .int .i64 0, .slice none 0 0] (n * 3)).toList = flat (List.replicate n zeroP) := by
  apply List.ext_getElem?
  intro i
  by_cases h : i < n * 3
  · have hq : i / 3 < n := by omega
    have hget : (List.replicate n zeroP)[i / 3]? = some zeroP := by simp [hq]
    obtain ⟨f0, f1, f2⟩ := flat_get _ _ _ hget
    have hl : (madeCells #[.int .i64 0, .int .i64 0, .slice none 0 0] (n * 3)).toList[i]? = some (#[Value.int .i64 0, .int .i64 0, .slice none 0 0][i % 3]!) := by
      simp [madeCells, h]
    rw [hl]
    rcases (show i % 3 = 0 ∨ i % 3 = 1 ∨ i % 3 = 2 by omega) with h0 | h0 | h0
    · rw [show i / 3 * 3 = i by omega] at f0; rw [f0, h0]; rfl
    · rw [show i / 3 * 3 + 1 = i by omega] at f1; rw [f1, h0]; rfl
    · rw [show i / 3 * 3 + 2 = i by omega] at f2; rw [f2, h0]; rfl
  · rw [List.getElem?_eq_none (by simp [madeCells]; omega), List.getElem?_eq_none (by rw [flat_length]; simp; omega)]

theorem ownsRow_base {w : World} {base base' : Nat} {e : TypeId} {size : Nat} {v : Value} {n : Nat} {xs : List Value} (h : w.ownsRow base e size v n xs) (hb : base' ≤ base) : w.ownsRow base' e size v n xs := by
  obtain ⟨h1, h2⟩ := h
  refine ⟨h1, ?_⟩
  rcases h2 with h2 | ⟨g, cap, cur, hv, hg, r⟩
  · exact Or.inl h2
  · exact Or.inr ⟨g, cap, cur, hv, by omega, r⟩

theorem row_block {w : World} {base : Nat} {e : TypeId} {size g n cap : Nat} {xs : List Value} (h : w.ownsRow base e size (.slice (some ⟨g, 0, none⟩) n cap) n xs) : ∃ cur, w.heap[g]? = some (.cells cur e (0, 0)) := by
  rcases h.2 with ⟨h', _⟩ | ⟨g', cap', cur, h', _, hg, _⟩
  · simp at h'
  · simp only [Value.slice.injEq, Option.some.injEq, Addr.mk.injEq, and_true, true_and] at h'
    obtain ⟨rfl, rfl⟩ := h'
    exact ⟨cur, hg⟩

theorem rep_set (ps : List (R × Value)) (m : Nat) (p : R × Value) : (ps ++ List.replicate (m + 1) zeroP).set ps.length p = (ps ++ [p]) ++ List.replicate m zeroP := by
  rw [List.set_append_right _ _ (Nat.le_refl _), Nat.sub_self, List.replicate_succ]
  simp

end Go.Proofs.Ytmbgnmnlkbeaoaa
