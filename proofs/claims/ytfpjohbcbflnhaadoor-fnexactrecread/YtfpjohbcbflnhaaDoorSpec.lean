/- The contract of the specification's RecOk. For every record whose numbers are at most 1048576. -/
import Derived.Test.YtfpjohbcbflnhaaDoorEnt
namespace Go.Proofs.YtfpjohbcbflnhaaDoor
open Go.RowKit

set_option maxHeartbeats 2000000 in
theorem specOk_any (k t : Int) (v : Value) (zs : List Int) (w : World) (hv : Ints w v zs) (hl : zs.length ≤ 1048576) :
    Calls Tryd.prog 20 #[.agg #[.int .i64 k, .int .i64 t, v]] w fun e w' => e = .returned (.bool (Pl.recOk k t zs)) ∧ Below w.heap.size w w' := by
  have hv1 : Hid (∀ o, Ints (w.alloc o) v zs) := fun o => hv.later (alloc_below w o) (Nat.le_refl _)
  cases hT : Pl.inB t 1 6
  · have HE : Hid (Pl.recOk k t zs = false) := Pl.recOk_t k t zs hT
    clear hv
    go_enter Tryd.func20, Tryd.ntmps20
    go_wp2_with (go_at_call 38; refine (in_any _ _ _ _).mono ?_; rintro e w1 ⟨rfl, rfl⟩)
    go_ret
    exact ⟨by rw [HE.out]; rfl, alloc_below _ _⟩
  have HT : Hid (Pl.inB t 1 6 = true) := hT
  by_cases h1 : k = 1
  · subst h1
    have HE : Hid (Pl.recOk 1 t zs = Pl.holdOk zs) := Pl.recOk_1 t zs HT.out
    by_cases hz : zs.length = 1
    · obtain ⟨z, rfl⟩ := List.length_eq_one_iff.1 hz
      rcases hv with ⟨h, _⟩ | ⟨b, off, cap, rfl, hz, hc⟩
      · simp at h
      have hc0 : w.cell? ⟨b, off, none⟩ = some (.int .i64 z) := hc 0 (by simp)
      have hbw : b < w.heap.size := World.block_lt_of_cell? _ _ hc0
      have HH : Hid (Pl.holdOk [z] = Pl.inB z 1 3) := by show _ = _; simp [Pl.holdOk]
      clear hc hz hl
      go_enter Tryd.func20, Tryd.ntmps20
      go_wp2_with (go_at_call 38; refine (in_any _ _ _ _).mono ?_; rintro e w1 ⟨rfl, rfl⟩)
      go_ret
      exact ⟨by rw [HE.out, HH.out]; rfl, alloc_below _ _⟩
    · have HH : Hid (Pl.holdOk zs = false) := by show _ = _; simp [Pl.holdOk, hz]
      have hne : ¬ (zs.length : Int) = 1 := by omega
      obtain ⟨ao, cap, rfl⟩ := hv.shape
      clear hv hz
      go_enter Tryd.func20, Tryd.ntmps20
      go_wp2_with (go_at_call 38; refine (in_any _ _ _ _).mono ?_; rintro e w1 ⟨rfl, rfl⟩)
      go_ret
      exact ⟨by rw [HE.out, HH.out]; rfl, alloc_below _ _⟩
  by_cases h4 : k = 4
  · subst h4
    have HE : Hid (Pl.recOk 4 t zs = Pl.manyOk zs) := Pl.recOk_4 t zs HT.out
    clear hv
    go_enter Tryd.func20, Tryd.ntmps20
    go_wp2_with (first
      | (go_at_call 38; refine (in_any _ _ _ _).mono ?_; rintro e w1 ⟨rfl, rfl⟩)
      | (go_at_call 39; refine (many_any _ zs _ (hv1.out _) hl).mono ?_; rintro e w1 ⟨rfl, rfl⟩))
    go_ret
    exact ⟨by rw [HE.out]; rfl, alloc_below _ _⟩
  have HE : Hid (Pl.recOk k t zs = (Pl.inB k 2 7 && (zs.length == 0))) := Pl.recOk_p k t zs HT.out h1 h4
  obtain ⟨ao, cap, rfl⟩ := hv.shape
  clear hv
  cases hk : Pl.inB k 2 7
  · rw [hk] at HE
    go_enter Tryd.func20, Tryd.ntmps20
    go_wp2_with (go_at_call 38; refine (in_any _ _ _ _).mono ?_; rintro e w1 ⟨rfl, rfl⟩)
    go_ret
    exact ⟨by rw [HE.out]; rfl, alloc_below _ _⟩
  · rw [hk] at HE
    have HZ : Hid ((zs.length == 0) = ((zs.length : Int) == 0)) := by
      show _ = _
      rw [Bool.eq_iff_iff]; simp
    go_enter Tryd.func20, Tryd.ntmps20
    go_wp2_with (go_at_call 38; refine (in_any _ _ _ _).mono ?_; rintro e w1 ⟨rfl, rfl⟩)
    go_ret
    exact ⟨by rw [HE.out, HZ.out]; rfl, alloc_below _ _⟩

end Go.Proofs.YtfpjohbcbflnhaaDoor
