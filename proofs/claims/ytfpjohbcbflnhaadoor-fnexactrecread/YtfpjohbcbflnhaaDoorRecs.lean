/- Lists of records in memory, and how great one is. For every list of records. -/
import Derived.Test.YtfpjohbcbflnhaaDoorToRec
namespace Go.Proofs.YtfpjohbcbflnhaaDoor
open Go.RowKit

theorem hide_it {p : Prop} (h : p) : Hid p := h

/-- A record as plain data: its kind, its trip, its numbers. -/
abbrev R := Int × Int × List Int

/-- A record lies at this place of a block. -/
def RecCells (w : World) (b o : Nat) (r : R) (u : Value) : Prop :=
  w.cell? ⟨b, o, none⟩ = some (.int .i64 r.1) ∧ w.cell? ⟨b, o + 1, none⟩ = some (.int .i64 r.2.1) ∧ w.cell? ⟨b, o + 2, none⟩ = some u ∧ Ints w u r.2.2

/-- The value v is a slice of just these records in the world w. -/
def Recs (w : World) (v : Value) (rs : List R) : Prop :=
  (rs = [] ∧ ∃ ao cap, v = .slice ao 0 cap) ∨
  (∃ b off cap, v = .slice (some ⟨b, off, none⟩) rs.length cap ∧ rs ≠ [] ∧ ∀ i r, rs[i]? = some r → ∃ u, RecCells w b (off + i * 3) r u)

/-- How many numbers the first k records have together; all of them, and the records. -/
def pre (rs : List R) (k : Nat) : Nat := ((rs.take k).map fun r => r.2.2.length).sum
def tot (rs : List R) : Nat := rs.length + pre rs rs.length
theorem pre_zero (rs : List R) : pre rs 0 = 0 := by simp [pre]
theorem pre_succ (rs : List R) (k : Nat) (r : R) (h : rs[k]? = some r) : pre rs (k + 1) = pre rs k + r.2.2.length := by
  have hk : k < rs.length := by
    by_cases hk : k < rs.length
    · exact hk
    · rw [List.getElem?_eq_none (by omega)] at h; cases h
  rw [List.getElem?_eq_getElem hk] at h
  simp only [Option.some.injEq] at h
  unfold pre
  rw [List.take_succ_eq_append_getElem hk, h]
  simp
theorem pre_le (rs : List R) (k : Nat) : pre rs k ≤ pre rs rs.length := by
  unfold pre
  rw [List.take_length]
  have h : (rs.map fun r : R => r.2.2.length).sum = ((rs.take k ++ rs.drop k).map fun r : R => r.2.2.length).sum := by rw [List.take_append_drop]
  rw [h, List.map_append, List.sum_append_nat]
  exact Nat.le_add_right _ _
theorem tot_len (rs : List R) : rs.length ≤ tot rs := by unfold tot; omega
theorem tot_mem (rs : List R) (r : R) (h : r ∈ rs) : r.2.2.length ≤ tot rs := by
  obtain ⟨i, hi, hr⟩ := List.mem_iff_getElem.1 h
  have h1 := pre_succ rs i r (by rw [List.getElem?_eq_getElem hi, hr])
  have h2 := pre_le rs (i + 1)
  unfold tot; omega

/-- What is left of a size behind so many; -1, if it is not enough. -/
def leftOf (left : Int) (n : Nat) : Int := if left - n < 0 then -1 else left - n
theorem leftOf_neg {left : Int} {n : Nat} (h : left - (n : Int) < 0) : leftOf left n = -1 := if_pos h
theorem leftOf_pos {left : Int} {n : Nat} (h : ¬ left - (n : Int) < 0) : leftOf left n = left - n := if_neg h

theorem RecCells.later {B : Nat} {w w' : World} {b o : Nat} {r : R} {u : Value} (h : RecCells w b o r u) (hb : Below B w w') (hB : w.heap.size ≤ B) : RecCells w' b o r u := by
  obtain ⟨h0, h1, h2, h3⟩ := h
  have hlt := World.block_lt_of_cell? _ _ h0
  simp at hlt
  exact ⟨by rw [← h0]; exact hb.cell (p := ⟨b, o, none⟩) (by simp; omega), by rw [← h1]; exact hb.cell (p := ⟨b, o + 1, none⟩) (by simp; omega), by rw [← h2]; exact hb.cell (p := ⟨b, o + 2, none⟩) (by simp; omega), h3.later hb hB⟩

theorem Recs.later {B : Nat} {w w' : World} {v : Value} {rs : List R} (h : Recs w v rs) (hb : Below B w w') (hB : w.heap.size ≤ B) : Recs w' v rs := by
  rcases h with h | ⟨b, off, cap, hv, hz, hc⟩
  · exact Or.inl h
  · refine Or.inr ⟨b, off, cap, hv, hz, fun i r hr => ?_⟩
    obtain ⟨u, hu⟩ := hc i r hr
    exact ⟨u, hu.later hb hB⟩

theorem Recs.shape {w : World} {v : Value} {rs : List R} (h : Recs w v rs) : ∃ ao cap, v = .slice ao rs.length cap := by
  rcases h with ⟨rfl, ao, cap, rfl⟩ | ⟨b, off, cap, rfl, _, _⟩
  · exact ⟨ao, cap, rfl⟩
  · exact ⟨_, cap, rfl⟩

end Go.Proofs.YtfpjohbcbflnhaaDoor
