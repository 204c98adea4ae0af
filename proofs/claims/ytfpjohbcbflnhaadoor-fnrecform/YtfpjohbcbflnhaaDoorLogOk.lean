/- Contracts of the two functions that say whether a log is ok, the specification's and the program's. For all that together has at most 1048576 records and numbers, in a world in which the sentinel's variable holds a pointer to an errors.errorString. -/
import Derived.Test.YtfpjohbcbflnhaaDoorSpec
import Derived.Test.YtfpjohbcbflnhaaDoorToLog
namespace Go.Proofs.YtfpjohbcbflnhaaDoor
open Go.RowKit

def rOk (r : R) : Bool := Pl.recOk r.1 r.2.1 r.2.2
def logOk (rs : List R) (f : Int) : Bool := rs.all rOk && (decide (rs.length ≤ 40) && Pl.inB f 0 rs.length)

theorem all_snocR (rs : List R) (k : Nat) (r : R) (h : rs[k]? = some r) : (rs.take (k + 1)).all rOk = ((rs.take k).all rOk && rOk r) := by
  have hk : k < rs.length := by
    by_cases hk : k < rs.length
    · exact hk
    · rw [List.getElem?_eq_none (by omega)] at h; cases h
  rw [List.getElem?_eq_getElem hk] at h
  simp only [Option.some.injEq] at h
  rw [List.take_succ_eq_append_getElem hk, h]
  simp
theorem all_badR (rs : List R) (k : Nat) (r : R) (h : rs[k]? = some r) (hb : rOk r = false) : rs.all rOk = false := by
  rw [List.all_eq_false]
  exact ⟨r, List.mem_of_getElem? h, by rw [hb]; decide⟩

theorem box2 (w : World) (x y : Value) (ty : TypeId) : (w.alloc (.cells #[x, y] ty)).cell? ⟨w.heap.size, 0, none⟩ = some x ∧ (w.alloc (.cells #[x, y] ty)).cell? ⟨w.heap.size, 1, none⟩ = some y := by
  constructor <;> simp

/-- Two cells of one block, as they stay while nothing below turns. -/
def Two (w : World) (b : Nat) (x y : Value) : Prop := w.cell? ⟨b, 0, none⟩ = some x ∧ w.cell? ⟨b, 1, none⟩ = some y
theorem Two.later {B : Nat} {w w' : World} {b : Nat} {x y : Value} (h : Two w b x y) (hb : Below B w w') (hB : w.heap.size ≤ B) : Two w' b x y := by
  obtain ⟨h0, h1⟩ := h
  have hlt := World.block_lt_of_cell? _ _ h0
  simp at hlt
  exact ⟨by rw [← h0]; exact hb.cell (p := ⟨b, 0, none⟩) (by simp; omega), by rw [← h1]; exact hb.cell (p := ⟨b, 1, none⟩) (by simp; omega)⟩

end Go.Proofs.YtfpjohbcbflnhaaDoor
