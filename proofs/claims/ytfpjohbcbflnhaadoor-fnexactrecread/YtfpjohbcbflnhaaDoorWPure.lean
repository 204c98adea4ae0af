/- The plain mathematics of words: what a word in form is, over integers alone; nothing of the program is met here. No conditions. -/
import Derived.Test.YtfpjohbcbflnhaaDoorPure
namespace Go.Proofs.YtfpjohbcbflnhaaDoor
namespace Pl

def wMany (k m : Int) : Bool := if k = 1 then inB m 1 3 else decide (m = 0)
def wOk (k h t m : Int) : Bool := inB k 1 7 && inB h 1 3 && inB t 1 6 && wMany k m

theorem wOk_k {k h t m : Int} (e : inB k 1 7 = false) : wOk k h t m = false := by simp [wOk, e]
theorem wOk_h {k h t m : Int} (e : inB h 1 3 = false) : wOk k h t m = false := by simp [wOk, e]
theorem wOk_t {k h t m : Int} (e : inB t 1 6 = false) : wOk k h t m = false := by simp [wOk, e]
theorem wOk_m {k h t m : Int} (e1 : inB k 1 7 = true) (e2 : inB h 1 3 = true) (e3 : inB t 1 6 = true) : wOk k h t m = wMany k m := by simp [wOk, e1, e2, e3]
theorem wMany_1 (m : Int) : wMany 1 m = inB m 1 3 := by simp [wMany]
theorem wMany_0 {k : Int} (m : Int) (h : k ≠ 1) : wMany k m = decide (m = 0) := by simp [wMany, h]
theorem wOk_parts {k h t m : Int} (e : wOk k h t m = true) : (1 ≤ k ∧ k ≤ 7) ∧ (1 ≤ h ∧ h ≤ 3) ∧ (1 ≤ t ∧ t ≤ 6) ∧ wMany k m = true := by
  simp only [wOk, Bool.and_eq_true] at e
  exact ⟨inB_true e.1.1.1, inB_true e.1.1.2, inB_true e.1.2, e.2⟩
theorem wMany_parts {k m : Int} (e : wMany k m = true) : (k = 1 ∧ 1 ≤ m ∧ m ≤ 3) ∨ (k ≠ 1 ∧ m = 0) := by
  by_cases h : k = 1
  · subst h; rw [wMany_1] at e; exact .inl ⟨rfl, inB_true e⟩
  · rw [wMany_0 m h] at e; exact .inr ⟨h, by simpa using e⟩

end Pl
end Go.Proofs.YtfpjohbcbflnhaaDoor
