/- Contracts of the program's LogForce and of what it calls. For all that together has at most 1048576 records and numbers, in a world in which the sentinel's variable holds a pointer to an errors.errorString. -/
import Derived.Test.YtfpjohbcbflnhaaDoorMarkRecs
import Derived.Test.YtfpjohbcbflnhaaDoorILogOk
namespace Go.Proofs.YtfpjohbcbflnhaaDoor
open Go.RowKit

theorem size1 (w : World) (o : Obj) : (w.alloc o).heap.size = w.heap.size + 1 := by simp

/-- A result's block as it was laid: its two cells are there, and may be written. -/
def Zero2 (w : World) (b : Nat) : Prop := w.cell? ⟨b, 0, none⟩ = some (.slice none 0 0) ∧ w.cell? ⟨b, 1, none⟩ = some (.int .i64 0) ∧ w.frozen? ⟨b, 0, none⟩ = false ∧ w.frozen? ⟨b, 1, none⟩ = false
theorem Zero2.later {B : Nat} {w w' : World} {b : Nat} (h : Zero2 w b) (hb : Below B w w') (hB : b < B) : Zero2 w' b := by
  obtain ⟨h0, h1, h2, h3⟩ := h
  exact ⟨by rw [← h0]; exact hb.cell (p := ⟨b, 0, none⟩) hB, by rw [← h1]; exact hb.cell (p := ⟨b, 1, none⟩) hB, by rw [← h2]; exact hb.frozen (p := ⟨b, 0, none⟩) hB, by rw [← h3]; exact hb.frozen (p := ⟨b, 1, none⟩) hB⟩
theorem Zero2.new (w : World) (ty : TypeId) : Zero2 (w.alloc (.cells #[.slice none 0 0, .int .i64 0] ty)) w.heap.size := by
  refine ⟨?_, ?_, ?_, ?_⟩ <;> simp

theorem Zero2.new2 (w : World) (o : Obj) (ty : TypeId) : Zero2 ((w.alloc o).alloc (.cells #[.slice none 0 0, .int .i64 0] ty)) (w.heap.size + 1) := by
  have h := Zero2.new (w.alloc o) ty
  rw [size1] at h
  exact h

/-- A log comes back, in memory of the call's own. -/
def LogOut (w w' : World) (e : Ending) (rs : List R) (f : Int) : Prop :=
  ∃ ao cap, e = .returned (.agg #[.slice ao rs.length cap, .int .i64 f]) ∧ Made w' w.heap.size (.slice ao rs.length cap) rs ∧ Below w.heap.size w w'

theorem Made.lo {w : World} {lo lo' : Nat} {v : Value} {rs : List R} (h : Made w lo v rs) (hl : lo' ≤ lo) : Made w lo' v rs := by
  obtain ⟨ps, hp, h1, h2, h3⟩ := h
  exact ⟨ps, hp, ownsRow_base h1 hl, h2, h3.1, fun p hp => ⟨ownsRow_base (h3.2.1 p hp).1 hl, (h3.2.1 p hp).2⟩, h3.2.2⟩

theorem Made.none (w : World) (lo : Nat) : Made w lo (.slice none 0 0) [] :=
  ⟨[], rfl, World.ownsRow_nil _ _ _ _, fun k hk => by simp [Value.ownBlock] at hk, Inner.nil _ _ _ (Nat.le_refl _)⟩

/-- What a log is when all is forced. -/
def forceR (rs : List R) (f : Int) : List R := if logOk rs f then rs else []
def forceF (rs : List R) (f : Int) : Int := if logOk rs f then rs.length else 0

end Go.Proofs.YtfpjohbcbflnhaaDoor
