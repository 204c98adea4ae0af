/- The contract of the program's LogOk. For all that together has at most 1048576 records and numbers, in a world in which the sentinel's variable holds a pointer to an errors.errorString. -/
import Derived.Test.YtfpjohbcbflnhaaDoorLogOk
namespace Go.Proofs.YtfpjohbcbflnhaaDoor
open Go.RowKit

theorem logOk_long {rs : List R} {f : Int} (h : 40 < (rs.length : Int)) : logOk rs f = false := by
  have : decide (rs.length ≤ 40) = false := by simp; omega
  unfold logOk; rw [this]; simp
theorem logOk_in {rs : List R} {f : Int} (h : Pl.inB f 0 rs.length = false) : logOk rs f = false := by
  unfold logOk; rw [h]; simp
theorem logOk_all {rs : List R} {f : Int} (h1 : (rs.length : Int) ≤ 40) (h2 : 0 ≤ f) (h3 : f ≤ rs.length) : logOk rs f = rs.all rOk := by
  have : decide (rs.length ≤ 40) = true := by simp; omega
  unfold logOk; rw [this, Pl.inB_mk h2 h3]; simp

end Go.Proofs.YtfpjohbcbflnhaaDoor
