/- Contracts of the two StockMay. For stocks of at most 1048576 holds and records of at most 1048576 numbers, in a world in which the sentinel's variable holds a pointer to an errors.errorString. -/
import Derived.Test.YtmkikenacnemkaaDoorKBehind
namespace Go.Proofs.YtmkikenacnemkaaDoor
open Go.RowKit

end Go.Proofs.YtmkikenacnemkaaDoor
