/- Contracts of the law's helpers over trips: how great one is, a copy of it, and whether two are the same. For lists of at most 1048576 numbers. -/
import Derived.Test.YtilbjgidmfdnkaaToRecs
namespace Go.Proofs.Ytilbjgidmfdnkaa.T
open Go.RowKit

end Go.Proofs.Ytilbjgidmfdnkaa.T
