/- Contracts of the functions that say whether a record is ok: the specification's, and the program's by its entries and errors.Is. For every record whose numbers are at most 1048576, in a world in which the sentinel's variable holds a pointer to an errors.errorString. -/
import Derived.Test.YtfpjohbcbflnhaaDoorWanted
import Derived.Test.YtfpjohbcbflnhaaDoorIs
import Derived.WalkSmall
namespace Go.Proofs.YtfpjohbcbflnhaaDoor
open Go.RowKit

/-- What comes beside an entry: no error, or the sentinel. -/
def errV (ok : Bool) (a : Addr) : Value := if ok then .nilIface else .iface 137 (.pointer (some a))

/-- The sentinel's variable holds this pointer. -/
def ErrAt (w : World) (a : Addr) : Prop := w.cell? ⟨0, 0, none⟩ = some (.iface 137 (.pointer (some a)))

theorem ErrAt.later {B : Nat} {w w' : World} {a : Addr} (h : ErrAt w a) (hb : Below B w w') (hB : w.heap.size ≤ B) : ErrAt w' a := by
  have h2 := World.block_lt_of_cell? _ _ h
  unfold ErrAt at *
  rw [← h]
  exact hb.cell (p := ⟨0, 0, none⟩) (by simp at h2 ⊢; omega)

set_option maxHeartbeats 600000 in
theorem hold_any (t : Int) (v : Value) (zs : List Int) (a : Addr) (w : World) (hv : Ints w v zs) (ha : ErrAt w a) :
    Calls Tryd.prog 41 #[.int .i64 t, v] w fun e w' => (∃ ent, e = .returned (.tuple #[ent, errV (Pl.holdOk zs) a])) ∧ Below w.heap.size w w' := by
  unfold ErrAt at ha
  by_cases h1 : zs.length = 1
  · obtain ⟨z, rfl⟩ := List.length_eq_one_iff.1 h1
    rcases hv with ⟨h, _⟩ | ⟨b, off, cap, rfl, hz, hc⟩
    · simp at h
    have hc0 : w.cell? ⟨b, off, none⟩ = some (.int .i64 z) := hc 0 (by simp)
    clear hc hz h1
    by_cases hz1 : z < 1
    · have HE : Hid (errV (Pl.holdOk [z]) a = .iface 137 (.pointer (some a))) := by
        show _ = _; simp [Pl.holdOk, Pl.inB_lo hz1, errV]
      go_enter Tryd.func41, Tryd.ntmps41
      go_wp2
      go_quiet (fail)
      go_wp2
      go_ret2
      exact ⟨⟨_, by rw [HE.out]; rfl⟩, below_drewN (Below.refl _ _) _⟩
    by_cases hz3 : 3 < z
    · have HE : Hid (errV (Pl.holdOk [z]) a = .iface 137 (.pointer (some a))) := by
        show _ = _; simp [Pl.holdOk, Pl.inB_hi hz3, errV]
      go_enter Tryd.func41, Tryd.ntmps41
      go_wp2
      go_quiet (fail)
      go_wp2
      go_ret2
      exact ⟨⟨_, by rw [HE.out]; rfl⟩, below_drewN (Below.refl _ _) _⟩
    · have HE : Hid (errV (Pl.holdOk [z]) a = .nilIface) := by
        show _ = _; simp [Pl.holdOk, Pl.inB_mk (show 1 ≤ z by omega) (show z ≤ 3 by omega), errV]
      go_enter Tryd.func41, Tryd.ntmps41
      go_wp2
      go_ret2
      exact ⟨⟨_, by rw [HE.out]; rfl⟩, Below.refl _ _⟩
  · have HE : Hid (errV (Pl.holdOk zs) a = .iface 137 (.pointer (some a))) := by
      show _ = _; simp [Pl.holdOk, h1, errV]
    have hne : ¬ (zs.length : Int) = 1 := by omega
    obtain ⟨ao, cap, rfl⟩ := hv.shape
    clear hv h1
    go_enter Tryd.func41, Tryd.ntmps41
    go_wp2
    go_quiet (fail)
    go_wp2
    go_ret2
    exact ⟨⟨_, by rw [HE.out]; rfl⟩, below_drewN (Below.refl _ _) _⟩

set_option maxHeartbeats 600000 in
theorem plain_any (k t : Int) (v : Value) (zs : List Int) (a : Addr) (w : World) (hv : Ints w v zs) (ha : ErrAt w a) :
    Calls Tryd.prog 43 #[.int .i64 k, .int .i64 t, v] w fun e w' => (∃ ent, e = .returned (.tuple #[ent, errV (zs.length == 0) a])) ∧ Below w.heap.size w w' := by
  unfold ErrAt at ha
  obtain ⟨ao, cap, rfl⟩ := hv.shape
  clear hv
  by_cases h1 : (zs.length : Int) = 0
  · have HE : Hid (errV (zs.length == 0) a = .nilIface) := by
      have : zs.length = 0 := by omega
      show _ = _; simp [this, errV]
    go_enter Tryd.func43, Tryd.ntmps43
    go_wp2
    go_ret2
    exact ⟨⟨_, by rw [HE.out]; rfl⟩, Below.refl _ _⟩
  · have HE : Hid (errV (zs.length == 0) a = .iface 137 (.pointer (some a))) := by
      have : (zs.length == 0) = false := beq_eq_false_iff_ne.2 (by omega)
      show _ = _; rw [this]; rfl
    go_enter Tryd.func43, Tryd.ntmps43
    go_wp2
    go_quiet (fail)
    go_wp2
    go_ret2
    exact ⟨⟨_, by rw [HE.out]; rfl⟩, below_drewN (Below.refl _ _) _⟩

set_option maxHeartbeats 1000000 in
theorem begin_any (t : Int) (v : Value) (zs : List Int) (a : Addr) (w : World) (hv : Ints w v zs) (hl : zs.length ≤ 1048576) (ha : ErrAt w a) :
    Calls Tryd.prog 42 #[.int .i64 t, v] w fun e w' => (∃ ent, e = .returned (.tuple #[ent, errV (Pl.manyOk zs) a])) ∧ Below w.heap.size w w' := by
  unfold ErrAt at ha
  have hw := wanted_any v zs w hv hl
  cases hm : Pl.manyOk zs
  · have HE : Hid (errV false a = .iface 137 (.pointer (some a))) := rfl
    rw [hm] at hw
    have HW := hw
    clear hw
    obtain ⟨ao, cap, rfl⟩ := hv.shape
    clear hv hm
    go_enter Tryd.func42, Tryd.ntmps42
    go_wp2_with (go_at_call 50; refine HW.mono ?_; rintro e w' ⟨rfl, rfl⟩)
    go_quiet (fail)
    go_wp2
    go_ret2
    exact ⟨⟨_, by rw [HE.out]; rfl⟩, below_drewN (Below.refl _ _) _⟩
  · have HE : Hid (errV true a = .nilIface) := rfl
    rw [hm] at hw
    have HW := hw
    clear hw ha
    have h3 : zs.length = 3 := by
      by_cases h : zs.length = 3
      · exact h
      · rw [Pl.manyOk_len zs h] at hm; simp at hm
    obtain ⟨z0, z1, z2, rfl⟩ : ∃ z0 z1 z2, zs = [z0, z1, z2] := by
      match zs, h3 with
      | [z0, z1, z2], _ => exact ⟨z0, z1, z2, rfl⟩
    rcases hv with ⟨h, _⟩ | ⟨b, off, cap, rfl, hz, hc⟩
    · simp at h
    have hc0 : w.cell? ⟨b, off, none⟩ = some (.int .i64 z0) := hc 0 (by simp)
    have hc1 : w.cell? ⟨b, off + 1, none⟩ = some (.int .i64 z1) := hc 1 (by simp)
    have hc2 : w.cell? ⟨b, off + 2, none⟩ = some (.int .i64 z2) := hc 2 (by simp)
    have hbw : b < w.heap.size := World.block_lt_of_cell? _ _ hc0
    clear hc hz hm h3 hl
    go_enter Tryd.func42, Tryd.ntmps42
    go_wp2_with (go_at_call 50; refine HW.mono ?_; rintro e w' ⟨rfl, rfl⟩)
    refine wp_loop_rounds 4 ?_
    rw [rounds_succ]
    go_wp2
    rw [rounds_succ]
    go_wp2
    rw [rounds_succ]
    go_wp2
    rw [rounds_succ]
    go_wp2
    go_ret2
    exact ⟨⟨_, by rw [HE.out]; rfl⟩, (Below.refl _ _).alloc (Nat.le_refl _) _⟩

end Go.Proofs.YtfpjohbcbflnhaaDoor
