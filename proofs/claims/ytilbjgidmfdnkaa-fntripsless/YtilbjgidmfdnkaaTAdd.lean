/- Contracts of the chain's small functions: the state behind a record, one more trip, and the trip of a number. For chains of at most six trips. -/
import Derived.Test.YtilbjgidmfdnkaaTChain
namespace Go.Proofs.Ytilbjgidmfdnkaa.T
open Go.RowKit

/-- A node's cells while what is wanted is put into it. -/
def part (z0 z1 z2 s : Int) (k : Nat) : Array Value := #[.int .i64 (if 0 < k then z0 else 0), .int .i64 (if 1 < k then z1 else 0), .int .i64 (if 2 < k then z2 else 0), .int .i64 s, .pointer none]

theorem list3 {zs : List Int} (h : zs.length = 3) : ∃ z0 z1 z2, zs = [z0, z1, z2] := by
  match zs, h with
  | [a, b, c], _ => exact ⟨a, b, c, rfl⟩

end Go.Proofs.Ytilbjgidmfdnkaa.T
