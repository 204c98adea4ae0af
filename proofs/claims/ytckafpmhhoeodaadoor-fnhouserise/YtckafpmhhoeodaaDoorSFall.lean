/- The contract of the specification's LogFall. For all that together has at most 1048576 records and numbers. -/
import Derived.Test.YtckafpmhhoeodaaDoorIFall
namespace Go.Proofs.YtckafpmhhoeodaaDoor
open Go.RowKit

/-- A fall of a log that was just copied. -/
theorem l1Fall_made {W : World} {lo cap : Nat} {ao : Option Addr} {rs : List R} {f keep : Int} (hm : Made W lo (.slice ao rs.length cap) rs) (hl : rs.length ≤ 1048576) (h0 : 0 ≤ f) (h1 : f ≤ rs.length) :
    Calls Tryd.prog 47 #[.agg #[.slice ao rs.length cap, .int .i64 f], .int .i64 keep] W fun e w' => e = .returned (.agg #[.slice ao (fallN rs.length f keep) cap, .int .i64 (fallN rs.length f keep)]) ∧ Below W.heap.size W w' := by
  rcases hm.form with ⟨rfl, rfl, rfl⟩ | ⟨g, rfl, hc⟩
  · have hf : f = 0 := by simp at h1; omega
    subst hf
    have hN : fallN 0 0 keep = 0 := by have := fallN_le (n := 0) (f := 0) (keep := keep) (by omega) (by omega); omega
    have h := l1Fall_nil keep W
    simp only [List.length_nil, hN]
    exact h
  · exact l1Fall_some g 0 rs.length cap f keep W hc hl h0 h1

end Go.Proofs.YtckafpmhhoeodaaDoor
