/- The program's chain of trips as it lies in memory, and what a store makes of it. Plain facts of worlds; nothing is walked here. -/
import Derived.Test.YtilbjgidmfdnkaaTPure
namespace Go.Proofs.Ytilbjgidmfdnkaa.T
open Go.RowKit

/-- A node: where it lies, what is wanted, its state. -/
abbrev Nd := Nat × (Int × Int × Int) × Int
/-- Its trip. -/
def ndT (n : Nd) : R := ([n.2.1.1, n.2.1.2.1, n.2.1.2.2], n.2.2)
/-- Its cells. -/
def ndV (n : Nd) (nx : Value) : Array Value := #[.int .i64 n.2.1.1, .int .i64 n.2.1.2.1, .int .i64 n.2.1.2.2, .int .i64 n.2.2, nx]
abbrev ptr (b : Nat) : Value := .pointer (some ⟨b, 0, none⟩)
/-- A pointer to the node at a place; nil, if there is none. -/
def at_ (ns : List Nd) (i : Nat) : Value := match ns[i]? with
  | some n => ptr n.1
  | none => .pointer none

theorem at_some {ns : List Nd} {i : Nat} {n : Nd} (h : ns[i]? = some n) : at_ ns i = ptr n.1 := by unfold at_; rw [h]
theorem at_none {ns : List Nd} {i : Nat} (h : ns.length ≤ i) : at_ ns i = .pointer none := by unfold at_; rw [List.getElem?_eq_none h]
theorem at_shape (ns : List Nd) (i : Nat) : ∃ a, at_ ns i = .pointer a := by
  unfold at_
  split
  · exact ⟨_, rfl⟩
  · exact ⟨_, rfl⟩
theorem at_snoc_lt {ns : List Nd} {x : Nd} {i : Nat} (h : i < ns.length) : at_ (ns ++ [x]) i = at_ ns i := by unfold at_; rw [List.getElem?_append_left h]
theorem at_snoc_eq (ns : List Nd) (x : Nd) : at_ (ns ++ [x]) ns.length = ptr x.1 := at_some (by simp)
theorem at_set (ns : List Nd) (k : Nat) (m : Nd) (s : Int) (hk : ns[k]? = some m) (i : Nat) : at_ (ns.set k (m.1, m.2.1, s)) i = at_ ns i := by
  unfold at_
  rw [List.getElem?_set]
  by_cases h : k = i
  · subst h
    have hl : k < ns.length := by
      by_cases e : k < ns.length
      · exact e
      · rw [List.getElem?_eq_none (by omega)] at hk; cases hk
    rw [if_pos rfl, if_pos hl, hk]
  · rw [if_neg h]

theorem len_lt {α : Type} {xs : List α} {i : Nat} {x : α} (h : xs[i]? = some x) : i < xs.length := by
  by_cases e : i < xs.length
  · exact e
  · rw [List.getElem?_eq_none (by omega)] at h; cases h
theorem get_snoc {ns : List Nd} {x n : Nd} {i : Nat} (h : (ns ++ [x])[i]? = some n) : (i < ns.length ∧ ns[i]? = some n) ∨ (i = ns.length ∧ n = x) := by
  by_cases hi : i < ns.length
  · rw [List.getElem?_append_left hi] at h; exact Or.inl ⟨hi, h⟩
  · rw [List.getElem?_append_right (by omega)] at h
    have h0 : i - ns.length = 0 := by
      have := len_lt h
      simp at this; omega
    rw [h0] at h
    simp at h
    exact Or.inr ⟨by omega, h.symm⟩

end Go.Proofs.Ytilbjgidmfdnkaa.T
