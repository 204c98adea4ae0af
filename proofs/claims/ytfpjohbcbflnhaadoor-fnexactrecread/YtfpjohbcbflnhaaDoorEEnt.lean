/- Contracts of the functions that make the entry of an ok record, the entry told. For every ok record. -/
import Derived.Test.YtfpjohbcbflnhaaDoorEnt
namespace Go.Proofs.YtfpjohbcbflnhaaDoor
open Go.RowKit

abbrev holdV (t z : Int) : Value := .iface 76 (.agg #[.int .i64 t, .int .i64 z])
abbrev beginV (t a c d : Int) : Value := .iface 79 (.agg #[.int .i64 t, .int .i64 a, .int .i64 c, .int .i64 d])
abbrev plainV (k t : Int) : Value := .iface 81 (.agg #[.int .i64 k, .int .i64 t])

theorem holdE (t z : Int) (v : Value) (w : World) (hv : Ints w v [z]) (h1 : 1 ≤ z) (h3 : z ≤ 3) :
    Calls Tryd.prog 41 #[.int .i64 t, v] w fun e w' => e = .returned (.tuple #[holdV t z, .nilIface]) ∧ Below w.heap.size w w' := by
  rcases hv with ⟨h, _⟩ | ⟨b, off, cap, rfl, hz, hc⟩
  · cases h
  have hc0 : w.cell? ⟨b, off, none⟩ = some (.int .i64 z) := hc 0 (by simp)
  clear hc hz
  go_enter Tryd.func41, Tryd.ntmps41
  go_wp2
  go_ret2
  exact ⟨rfl, Below.refl _ _⟩

theorem plainE (k t : Int) (v : Value) (w : World) (hv : Ints w v []) :
    Calls Tryd.prog 43 #[.int .i64 k, .int .i64 t, v] w fun e w' => e = .returned (.tuple #[plainV k t, .nilIface]) ∧ Below w.heap.size w w' := by
  obtain ⟨ao, cap, rfl⟩ := hv.shape
  clear hv
  go_enter Tryd.func43, Tryd.ntmps43
  go_wp2
  go_ret2
  exact ⟨rfl, Below.refl _ _⟩

set_option maxHeartbeats 1000000 in
theorem beginE (t z0 z1 z2 : Int) (v : Value) (w : World) (hv : Ints w v [z0, z1, z2]) (hm : Pl.manyOk [z0, z1, z2] = true) :
    Calls Tryd.prog 42 #[.int .i64 t, v] w fun e w' => e = .returned (.tuple #[beginV t z0 z1 z2, .nilIface]) ∧ Below w.heap.size w w' := by
  have HW := wanted_any v _ w hv (by simp)
  rw [hm] at HW
  rcases hv with ⟨h, _⟩ | ⟨b, off, cap, rfl, hz, hc⟩
  · simp at h
  have hc0 : w.cell? ⟨b, off, none⟩ = some (.int .i64 z0) := hc 0 (by simp)
  have hc1 : w.cell? ⟨b, off + 1, none⟩ = some (.int .i64 z1) := hc 1 (by simp)
  have hc2 : w.cell? ⟨b, off + 2, none⟩ = some (.int .i64 z2) := hc 2 (by simp)
  have hbw : b < w.heap.size := World.block_lt_of_cell? _ _ hc0
  clear hc hz hm
  go_enter Tryd.func42, Tryd.ntmps42
  go_wp2_with (go_at_call 50; refine HW.mono ?_; rintro e w' ⟨rfl, rfl⟩)
  refine wp_loop_rounds 4 ?_
  rw [rounds_succ]
  go_wp2
  rw [rounds_succ]
  go_wp2
  rw [rounds_succ]
  go_wp2
  rw [rounds_succ]
  go_wp2
  go_ret2
  exact ⟨rfl, (Below.refl _ _).alloc (Nat.le_refl _) _⟩

end Go.Proofs.YtfpjohbcbflnhaaDoor
