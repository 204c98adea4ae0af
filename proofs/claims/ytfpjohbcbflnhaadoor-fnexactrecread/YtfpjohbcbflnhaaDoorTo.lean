/- Contracts of the law's own helpers: how great an argument is, a copy of it, and whether two are the same. For lists of at most 1048576 numbers. -/
import Derived.Test.YtfpjohbcbflnhaaDoorSmall
import Derived.WalkSmall
namespace Go.Proofs.YtfpjohbcbflnhaaDoor
open Go.RowKit

theorem info3 : (Tryd.prog.info? 3).map (fun i => (i.zero, i.size, i.bytes)) = some (some (.int .i64 0), 1, 8) := by kernel_rfl

/-- What a copy holds when k numbers have been copied. -/
def part (zs : List Int) (k : Nat) : List Value := (zs.take k).map (Value.int .i64) ++ List.replicate (zs.length - k) (Value.int .i64 0)
theorem part_zero (zs : List Int) : part zs 0 = List.replicate zs.length (Value.int .i64 0) := by simp [part]
theorem part_all (zs : List Int) : part zs zs.length = zs.map (Value.int .i64) := by simp [part]
theorem part_set (zs : List Int) (k : Nat) (h : k < zs.length) : (part zs k).set k (Value.int .i64 (zs.getD k 0)) = part zs (k + 1) := by
  unfold part
  rw [Pl.take_snoc zs k h, List.set_append_right _ _ (by simp; omega)]
  simp only [List.length_map, List.length_take, List.map_append, List.map_cons, List.map_nil, List.append_assoc]
  rw [show k - min k zs.length = 0 by omega, show zs.length - k = (zs.length - (k + 1)) + 1 by omega, List.replicate_succ]
  rfl

theorem made_one (z : Value) (hz : z.cells = #[z]) (n : Nat) : (madeCells z.cells (n * 1)).toList = List.replicate n z := by
  rw [hz, Nat.mul_one]; exact toList_madeCells_one z n

/-- A row of numbers that the call owns is a list of them. -/
theorem ints_of_row {w : World} {base g cap : Nat} {zs : List Int} (h : w.ownsRow base 3 1 (.slice (some ⟨g, 0, none⟩) zs.length cap) zs.length (zs.map (Value.int .i64))) :
    Ints w (.slice (some ⟨g, 0, none⟩) zs.length cap) zs := by
  by_cases hz : zs = []
  · subst hz; exact Or.inl ⟨rfl, _, _, rfl, fun h => by cases h⟩
  · refine Or.inr ⟨g, 0, cap, rfl, hz, fun k hk => ?_⟩
    have := h.cellAt k (by omega)
    rw [Nat.zero_add, this]
    simp [List.getD_eq_getElem?_getD, hk]

end Go.Proofs.YtfpjohbcbflnhaaDoor
