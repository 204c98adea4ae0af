/- Contracts of the law's copy of a log, and of whether two lists of records, or two logs, are the same. For all that together has at most 1048576 records and numbers. -/
import Derived.Test.YtmbgnmnlkbeaoaaToRecs
import Derived.Deep.RegionWith
namespace Go.Proofs.Ytmbgnmnlkbeaoaa
open Go.RowKit

end Go.Proofs.Ytmbgnmnlkbeaoaa
