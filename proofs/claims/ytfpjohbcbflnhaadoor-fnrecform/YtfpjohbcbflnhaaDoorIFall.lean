/- Contracts of the program's and the specification's LogFall. For all that together has at most 1048576 records and numbers, in a world in which the sentinel's variable holds a pointer to an errors.errorString. -/
import Derived.Test.YtfpjohbcbflnhaaDoorFall
namespace Go.Proofs.YtfpjohbcbflnhaaDoor
open Go.RowKit

theorem Made.form {w : World} {lo cap : Nat} {ao : Option Addr} {rs : List R} (h : Made w lo (.slice ao rs.length cap) rs) : (ao = Option.none ∧ rs = [] ∧ cap = 0) ∨ ∃ g, ao = some ⟨g, 0, Option.none⟩ ∧ rs.length ≤ cap := by
  obtain ⟨ps, hp, h1, _, _⟩ := h
  have hpl : ps.length = rs.length := by have := congrArg List.length hp; simpa using this
  rcases h1.2 with ⟨hv, hn⟩ | ⟨g, cp, cur, hv, hg, hh, hnc, _⟩
  · simp only [Value.slice.injEq] at hv
    exact Or.inl ⟨hv.1, List.length_eq_zero_iff.1 hv.2.1, hv.2.2⟩
  · simp only [Value.slice.injEq] at hv
    exact Or.inr ⟨g, hv.1, by omega⟩

end Go.Proofs.YtfpjohbcbflnhaaDoor
