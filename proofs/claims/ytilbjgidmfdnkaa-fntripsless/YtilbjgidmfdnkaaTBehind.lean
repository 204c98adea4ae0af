/- Contracts of the program's TripsMay and TripsDo. For all that together has at most 1048576 trips and numbers, in a world in which the sentinel's variable holds a pointer to an errors.errorString. -/
import Derived.Test.YtilbjgidmfdnkaaTList
namespace Go.Proofs.Ytilbjgidmfdnkaa.T
open Go.RowKit

/-- A chain as a value. -/
def chV (ns : List Nd) : Value := .agg #[at_ ns 0, at_ ns (ns.length - 1), .int .i64 ns.length]

theorem Fit.take {rs : List R} {r : R} {k : Nat} (h : Fit rs) (hr : rs[k]? = some r) : ∃ z0 z1 z2, r.1 = [z0, z1, z2] := list3 (h.2 r (List.mem_of_getElem? hr))

end Go.Proofs.Ytilbjgidmfdnkaa.T
