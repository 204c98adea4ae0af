/- Contracts of the functions that say whether a record is ok: the specification's, and the program's by its entries and errors.Is. For every record whose numbers are at most 1048576, in a world in which the sentinel's variable holds a pointer to an errors.errorString. -/
import Derived.Test.YtckafpmhhoeodaaDoorSmall
import Derived.Test.YtckafpmhhoeodaaDoorIs
import Derived.WalkSmall
namespace Go.Proofs.YtckafpmhhoeodaaDoor
open Go.RowKit

set_option maxHeartbeats 600000 in
theorem wanted_any (v : Value) (zs : List Int) (w : World) (hv : Ints w v zs) (hl : zs.length ≤ 1048576) :
    Calls Tryd.prog 90 #[v] w fun e w' => e = .returned (.bool (Pl.manyOk zs)) ∧ w' = w := by
  by_cases h3 : zs.length = 3
  · rcases hv with ⟨rfl, ao, cap, rfl, -⟩ | ⟨b, off, cap, rfl, hz, hc⟩
    · simp at h3
    · have HC : Hid (∀ k, k < zs.length → w.cell? ⟨b, off + k, none⟩ = some (.int .i64 (zs.getD k 0))) := hc
      have H3 : Hid (zs.length = 3) := h3
      clear hz hc
      rw [h3]
      clear h3 hl
      go_enter Tryd.func90, Tryd.ntmps90
      go_wp2
      go_loop [3, 11] (fun s i => ∃ k : Nat, k ≤ 3 ∧ i = .int .i64 k ∧ s = .bool (Pl.anyPos (zs.take k)) ∧ Hid ((zs.take k).all (fun z => Pl.inB z 0 3) = true)) (fun _ i => 3 - (intOf i).toNat)
      case atStart => exact ⟨0, Nat.zero_le _, rfl, rfl, rfl⟩
      case round =>
        obtain ⟨k, hk, rfl, rfl, hall⟩ := hrel
        by_cases hlt : k < 3
        · have hlz : Hid (k < zs.length) := by show _ < _; rw [H3.out]; exact hlt
          obtain ⟨z, HZ⟩ : ∃ z, Hid (z = zs.getD k 0) := ⟨_, rfl⟩
          have hck : w.cell? ⟨b, off + k, none⟩ = some (.int .i64 z) := by rw [HZ.out]; exact HC.out k hlz.out
          by_cases h0 : z < 0
          · have HB : Hid (Pl.manyOk zs = false) := Pl.manyOk_bad zs k hlz.out (by rw [← HZ.out]; exact Pl.inB_lo h0)
            go_wp2
            go_ret
            exact ⟨by rw [HB.out]; rfl, rfl⟩
          by_cases h4 : 3 < z
          · have HB : Hid (Pl.manyOk zs = false) := Pl.manyOk_bad zs k hlz.out (by rw [← HZ.out]; exact Pl.inB_hi h4)
            go_wp2
            go_ret
            exact ⟨by rw [HB.out]; rfl, rfl⟩
          have HA : Hid ((zs.take (k + 1)).all (fun z => Pl.inB z 0 3) = true) := by
            show _ = _
            rw [Pl.all_snoc _ zs k hlz.out, hall.out, ← HZ.out, Pl.inB_mk (by omega) (by omega)]; rfl
          have HS : Hid (Pl.anyPos (zs.take (k + 1)) = (Pl.anyPos (zs.take k) || decide (0 < z))) := by
            show _ = _
            rw [Pl.anyPos_snoc zs k hlz.out, ← HZ.out]
          cases hs : Pl.anyPos (zs.take k)
          · by_cases hp : 0 < z
            all_goals
              go_wp2
              go_round
              case rel => exact ⟨k + 1, by omega, by go_num, by rw [HS.out, hs]; simp; omega, HA⟩
              case measure => simp [intOf]; omega
          · go_wp2
            go_round
            case rel => exact ⟨k + 1, by omega, by go_num, by rw [HS.out, hs]; rfl, HA⟩
            case measure => simp [intOf]; omega
        · have HE : Hid (Pl.manyOk zs = Pl.anyPos (zs.take k)) := by
            show _ = _
            have hke : k = zs.length := by rw [H3.out]; omega
            have := hall.out
            rw [hke, List.take_length] at this ⊢
            exact Pl.manyOk_any zs this H3.out
          go_wp2
          go_ret
          exact ⟨by rw [HE.out]; rfl, rfl⟩
  · have hne : ¬ (zs.length : Int) = 3 := by omega
    rw [Pl.manyOk_len zs h3]
    obtain ⟨ao, cap, rfl⟩ := hv.shape
    clear hv h3
    go_enter Tryd.func90, Tryd.ntmps90
    go_wp2
    go_ret
    exact ⟨rfl, rfl⟩

/-- What comes beside an entry: no error, or the sentinel. -/
def errV (ok : Bool) (a : Addr) : Value := if ok then .nilIface else .iface 130 (.pointer (some a))

/-- The sentinel's variable holds this pointer. -/
def ErrAt (w : World) (a : Addr) : Prop := w.cell? ⟨0, 0, none⟩ = some (.iface 130 (.pointer (some a)))

theorem ErrAt.later {B : Nat} {w w' : World} {a : Addr} (h : ErrAt w a) (hb : Below B w w') (hB : w.heap.size ≤ B) : ErrAt w' a := by
  have h2 := World.block_lt_of_cell? _ _ h
  unfold ErrAt at *
  rw [← h]
  exact hb.cell (p := ⟨0, 0, none⟩) (by simp at h2 ⊢; omega)

set_option maxHeartbeats 600000 in
theorem hold_any (t : Int) (v : Value) (zs : List Int) (a : Addr) (w : World) (hv : Ints w v zs) (ha : ErrAt w a) :
    Calls Tryd.prog 80 #[.int .i64 t, v] w fun e w' => (∃ ent, e = .returned (.tuple #[ent, errV (Pl.holdOk zs) a])) ∧ Below w.heap.size w w' := by
  unfold ErrAt at ha
  by_cases h1 : zs.length = 1
  · obtain ⟨z, rfl⟩ := List.length_eq_one_iff.1 h1
    rcases hv with ⟨h, _⟩ | ⟨b, off, cap, rfl, hz, hc⟩
    · simp at h
    have hc0 : w.cell? ⟨b, off, none⟩ = some (.int .i64 z) := hc 0 (by simp)
    clear hc hz h1
    by_cases hz1 : z < 1
    · have HE : Hid (errV (Pl.holdOk [z]) a = .iface 130 (.pointer (some a))) := by
        show _ = _; simp [Pl.holdOk, Pl.inB_lo hz1, errV]
      go_enter Tryd.func80, Tryd.ntmps80
      go_wp2
      go_quiet (fail)
      go_wp2
      go_ret2
      exact ⟨⟨_, by rw [HE.out]; rfl⟩, below_drewN (Below.refl _ _) _⟩
    by_cases hz3 : 3 < z
    · have HE : Hid (errV (Pl.holdOk [z]) a = .iface 130 (.pointer (some a))) := by
        show _ = _; simp [Pl.holdOk, Pl.inB_hi hz3, errV]
      go_enter Tryd.func80, Tryd.ntmps80
      go_wp2
      go_quiet (fail)
      go_wp2
      go_ret2
      exact ⟨⟨_, by rw [HE.out]; rfl⟩, below_drewN (Below.refl _ _) _⟩
    · have HE : Hid (errV (Pl.holdOk [z]) a = .nilIface) := by
        show _ = _; simp [Pl.holdOk, Pl.inB_mk (show 1 ≤ z by omega) (show z ≤ 3 by omega), errV]
      go_enter Tryd.func80, Tryd.ntmps80
      go_wp2
      go_ret2
      exact ⟨⟨_, by rw [HE.out]; rfl⟩, Below.refl _ _⟩
  · have HE : Hid (errV (Pl.holdOk zs) a = .iface 130 (.pointer (some a))) := by
      show _ = _; simp [Pl.holdOk, h1, errV]
    have hne : ¬ (zs.length : Int) = 1 := by omega
    obtain ⟨ao, cap, rfl⟩ := hv.shape
    clear hv h1
    go_enter Tryd.func80, Tryd.ntmps80
    go_wp2
    go_quiet (fail)
    go_wp2
    go_ret2
    exact ⟨⟨_, by rw [HE.out]; rfl⟩, below_drewN (Below.refl _ _) _⟩

set_option maxHeartbeats 600000 in
theorem plain_any (k t : Int) (v : Value) (zs : List Int) (a : Addr) (w : World) (hv : Ints w v zs) (ha : ErrAt w a) :
    Calls Tryd.prog 82 #[.int .i64 k, .int .i64 t, v] w fun e w' => (∃ ent, e = .returned (.tuple #[ent, errV (zs.length == 0) a])) ∧ Below w.heap.size w w' := by
  unfold ErrAt at ha
  obtain ⟨ao, cap, rfl⟩ := hv.shape
  clear hv
  by_cases h1 : (zs.length : Int) = 0
  · have HE : Hid (errV (zs.length == 0) a = .nilIface) := by
      have : zs.length = 0 := by omega
      show _ = _; simp [this, errV]
    go_enter Tryd.func82, Tryd.ntmps82
    go_wp2
    go_ret2
    exact ⟨⟨_, by rw [HE.out]; rfl⟩, Below.refl _ _⟩
  · have HE : Hid (errV (zs.length == 0) a = .iface 130 (.pointer (some a))) := by
      have : (zs.length == 0) = false := beq_eq_false_iff_ne.2 (by omega)
      show _ = _; rw [this]; rfl
    go_enter Tryd.func82, Tryd.ntmps82
    go_wp2
    go_quiet (fail)
    go_wp2
    go_ret2
    exact ⟨⟨_, by rw [HE.out]; rfl⟩, below_drewN (Below.refl _ _) _⟩

set_option maxHeartbeats 1000000 in
theorem begin_any (t : Int) (v : Value) (zs : List Int) (a : Addr) (w : World) (hv : Ints w v zs) (hl : zs.length ≤ 1048576) (ha : ErrAt w a) :
    Calls Tryd.prog 81 #[.int .i64 t, v] w fun e w' => (∃ ent, e = .returned (.tuple #[ent, errV (Pl.manyOk zs) a])) ∧ Below w.heap.size w w' := by
  unfold ErrAt at ha
  have hw := wanted_any v zs w hv hl
  cases hm : Pl.manyOk zs
  · have HE : Hid (errV false a = .iface 130 (.pointer (some a))) := rfl
    rw [hm] at hw
    have HW := hw
    clear hw
    obtain ⟨ao, cap, rfl⟩ := hv.shape
    clear hv hm
    go_enter Tryd.func81, Tryd.ntmps81
    go_wp2_with (go_at_call 90; refine HW.mono ?_; rintro e w' ⟨rfl, rfl⟩)
    go_quiet (fail)
    go_wp2
    go_ret2
    exact ⟨⟨_, by rw [HE.out]; rfl⟩, below_drewN (Below.refl _ _) _⟩
  · have HE : Hid (errV true a = .nilIface) := rfl
    rw [hm] at hw
    have HW := hw
    clear hw ha
    have h3 : zs.length = 3 := by
      by_cases h : zs.length = 3
      · exact h
      · rw [Pl.manyOk_len zs h] at hm; simp at hm
    obtain ⟨z0, z1, z2, rfl⟩ : ∃ z0 z1 z2, zs = [z0, z1, z2] := by
      match zs, h3 with
      | [z0, z1, z2], _ => exact ⟨z0, z1, z2, rfl⟩
    rcases hv with ⟨h, _⟩ | ⟨b, off, cap, rfl, hz, hc⟩
    · simp at h
    have hc0 : w.cell? ⟨b, off, none⟩ = some (.int .i64 z0) := hc 0 (by simp)
    have hc1 : w.cell? ⟨b, off + 1, none⟩ = some (.int .i64 z1) := hc 1 (by simp)
    have hc2 : w.cell? ⟨b, off + 2, none⟩ = some (.int .i64 z2) := hc 2 (by simp)
    have hbw : b < w.heap.size := World.block_lt_of_cell? _ _ hc0
    clear hc hz hm h3 hl
    go_enter Tryd.func81, Tryd.ntmps81
    go_wp2_with (go_at_call 90; refine HW.mono ?_; rintro e w' ⟨rfl, rfl⟩)
    refine wp_loop_rounds 4 ?_
    rw [rounds_succ]
    go_wp2
    rw [rounds_succ]
    go_wp2
    rw [rounds_succ]
    go_wp2
    rw [rounds_succ]
    go_wp2
    go_ret2
    exact ⟨⟨_, by rw [HE.out]; rfl⟩, (Below.refl _ _).alloc (Nat.le_refl _) _⟩

end Go.Proofs.YtckafpmhhoeodaaDoor
