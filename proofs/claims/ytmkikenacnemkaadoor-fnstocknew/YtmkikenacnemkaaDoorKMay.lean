/- Contracts of what a record makes of its trip's hold: the specification's l2May, and the program's table of steps. For ok stocks and ok records. -/
import Derived.Test.YtmkikenacnemkaaDoorKMark
import Derived.Test.YtmkikenacnemkaaDoorSpec
import Derived.Deep.RegionHeld
namespace Go.Proofs.YtmkikenacnemkaaDoor
open Go.RowKit

theorem next_1 (m s z F : Int) : Pl.next (m, s) 1 z F = if s = 0 ∧ z ≤ F then some (z, 1) else none := by simp [Pl.next]
theorem next_2 (m s z F : Int) : Pl.next (m, s) 2 z F = if s = 1 then some (m, 2) else none := by simp [Pl.next]
theorem next_3 (m s z F : Int) : Pl.next (m, s) 3 z F = if s = 1 ∨ s = 0 then some (m, 3) else none := by simp [Pl.next]
theorem next_x (h : Pl.H) (k z F : Int) (h1 : k ≠ 1) (h2 : k ≠ 2) (h3 : k ≠ 3) : Pl.next h k z F = none := by simp [Pl.next, h1, h2, h3]

/-- The place of a trip. -/
theorem trip_at {k t : Int} {zs : List Int} (h : Pl.recOk k t zs = true) : ∃ i : Nat, i < 6 ∧ t = (i : Int) + 1 ∧ Pl.at_ t = i := by
  have := Pl.recOk_trip h
  exact ⟨(t - 1).toNat, by omega, by omega, rfl⟩

end Go.Proofs.YtmkikenacnemkaaDoor
