/- Contracts of the program's TripsMay, TripsDo and TripsOf. For all that together has at most 1048576 trips, records and numbers, in a world in which the sentinel's variable holds a pointer to an errors.errorString. -/
import Derived.Test.YtilbjgidmfdnkaaTBehind
namespace Go.Proofs.Ytilbjgidmfdnkaa.T
open Go.RowKit

/-- Trips and a yes or no come back, the trips in memory of the call's own. -/
def TrOut (w w' : World) (e : Ending) (rs : List R) (b : Bool) : Prop :=
  ∃ ao cap, e = .returned (.tuple #[.slice ao rs.length cap, .bool b]) ∧ Made w' w.heap.size (.slice ao rs.length cap) rs ∧ Below w.heap.size w w'

def doO (rs : List R) (r : Rc) : List R := if tMay rs r = true then doL rs r else []
def ofO (qs : List Rc) : List R := (runT qs).getD []

theorem doO_fit (rs : List R) (r : Rc) : Fit (doO rs r) := by
  unfold doO
  split
  · next h =>
    unfold tMay at h
    simp only [Bool.and_eq_true] at h
    exact (fit_ok h.1).doL h.2.1 h.2.2
  · exact Fit.nil
theorem ofO_fit (qs : List Rc) : Fit (ofO qs) := by
  unfold ofO
  cases h : runT qs with
  | none => exact Fit.nil
  | some rs => exact runT_fit h

end Go.Proofs.Ytilbjgidmfdnkaa.T
