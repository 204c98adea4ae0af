/- Contracts of what a record makes of its trip's hold: the specification's l2May, and the program's table of steps. For ok stocks and ok records. -/
import Derived.Test.YtckafpmhhoeodaaDoorKMark
import Derived.Test.YtckafpmhhoeodaaDoorSpec
import Derived.Deep.RegionHeld
namespace Go.Proofs.YtckafpmhhoeodaaDoor
open Go.RowKit

theorem next_1 (m s z F : Int) : Pl.next (m, s) 1 z F = if s = 0 ∧ z ≤ F then some (z, 1) else none := by simp [Pl.next]
theorem next_2 (m s z F : Int) : Pl.next (m, s) 2 z F = if s = 1 then some (m, 2) else none := by simp [Pl.next]
theorem next_3 (m s z F : Int) : Pl.next (m, s) 3 z F = if s = 1 ∨ s = 0 then some (m, 3) else none := by simp [Pl.next]
theorem next_x (h : Pl.H) (k z F : Int) (h1 : k ≠ 1) (h2 : k ≠ 2) (h3 : k ≠ 3) : Pl.next h k z F = none := by simp [Pl.next, h1, h2, h3]

/-- The place of a trip. -/
theorem trip_at {k t : Int} {zs : List Int} (h : Pl.recOk k t zs = true) : ∃ i : Nat, i < 6 ∧ t = (i : Int) + 1 ∧ Pl.at_ t = i := by
  have := Pl.recOk_trip h
  exact ⟨(t - 1).toNat, by omega, by omega, rfl⟩

set_option maxHeartbeats 4000000 in
theorem l2May_any (room : Int) (v : Value) (hs : List Pl.H) (k t : Int) (u : Value) (zs : List Int) (w : World) (hv : Holds w v hs) (hu : Ints w u zs) (hok : Pl.sOk room hs = true) (hrec : Pl.recOk k t zs = true) :
    Calls Tryd.prog 63 #[.agg #[.int .i64 room, v], .agg #[.int .i64 k, .int .i64 t, u]] w fun e w' => e = .returned (.bool (Pl.next (Pl.hAt hs t) k (zs.headD 0) (Pl.free room hs)).isSome) ∧ Below w.heap.size w w' := by
  obtain ⟨p1, p2, p3, p4⟩ := Pl.sOk_parts hok
  obtain ⟨i, hi, rfl, hat⟩ := trip_at hrec
  have hkb := Pl.recOk_kind hrec
  have HV : Hid (∀ W, Below w.heap.size w W → Holds W v hs) := fun W h => hv.later h (Nat.le_refl _)
  obtain ⟨F, hF⟩ : ∃ F, Pl.free room hs = F := ⟨_, rfl⟩
  have HF : Hid (∀ W, Below w.heap.size w W → Calls Tryd.prog 73 #[.agg #[.int .i64 room, v]] W fun e w' => e = .returned (.int .i64 F) ∧ Below W.heap.size W w') := fun W h => by
    have := l2Free_any room v hs W (HV.out W h) (by omega) p1 p2
    rw [hF] at this
    exact this
  rw [hF]
  obtain ⟨m, s, hms⟩ : ∃ m s, Pl.hAt hs ((i : Int) + 1) = (m, s) := ⟨_, _, rfl⟩
  rw [hms]
  rcases hv with ⟨rfl, _⟩ | ⟨b, off, cap, rfl, hz, hc⟩
  · simp at p3
  have hmsd : hs.getD i (0, 0) = (m, s) := by rw [← hat]; exact hms
  obtain ⟨c0, c1⟩ := hc i (by omega)
  rw [hmsd] at c0 c1
  have hbw : b < w.heap.size := World.block_lt_of_cell? _ _ c0
  rw [p3] at HF ⊢
  clear hc hz p1 p2 p3 p4 hok hat hms hmsd hF HV
  by_cases k1 : k = 1
  · subst k1
    obtain ⟨z, rfl, z1, z3⟩ := Pl.recOk_hold hrec
    rcases hu with ⟨h, _⟩ | ⟨b2, off2, cap2, rfl, hz2, hc2⟩
    · simp at h
    have d0 : w.cell? ⟨b2, off2, none⟩ = some (.int .i64 z) := hc2 0 (by simp)
    have hb2 : b2 < w.heap.size := World.block_lt_of_cell? _ _ d0
    rw [next_1, List.headD_cons]
    clear hc2 hz2 hrec hkb
    by_cases hs0 : s = 0
    · subst hs0
      have HR : Hid (∀ W, Below (((w.alloc (.cells #[.int .i64 room, .slice (some ⟨b, off, none⟩) 6 cap] 43)).alloc (.cells #[.int .i64 1, .int .i64 ((i : Int) + 1), .slice (some ⟨b2, off2, none⟩) 1 cap2] 73)).drew).heap.size (((w.alloc (.cells #[.int .i64 room, .slice (some ⟨b, off, none⟩) 6 cap] 43)).alloc (.cells #[.int .i64 1, .int .i64 ((i : Int) + 1), .slice (some ⟨b2, off2, none⟩) 1 cap2] 73)).drew) W →
          W.cell? ⟨w.heap.size, 0, none⟩ = some (.int .i64 room) ∧ W.cell? ⟨w.heap.size, 1, none⟩ = some (.slice (some ⟨b, off, none⟩) 6 cap) ∧ W.cell? ⟨w.heap.size + 1, 2, none⟩ = some (.slice (some ⟨b2, off2, none⟩) 1 cap2) ∧ W.cell? ⟨b2, off2, none⟩ = some (.int .i64 z)) := fun W h => by
        obtain ⟨hc, _⟩ := bcell h
        refine ⟨?_, ?_, ?_, ?_⟩
        · rw [hc _ _ (by simp; try omega)]; simp [go_sem]
        · rw [hc _ _ (by simp; try omega)]; simp [go_sem]
        · rw [hc _ _ (by simp; try omega)]; simp [go_sem]
        · rw [hc _ _ (by simp; try omega)]; exact ((below2 w _ _).drew.cell (p := ⟨b2, off2, none⟩) hb2).trans d0
      by_cases hzF : z ≤ F
      · rw [if_pos ⟨rfl, hzF⟩]
        go_enter Tryd.func63, Tryd.ntmps63
        go_wp2
        go_region_held (fun w' => w'.cell? ⟨w.heap.size, 0, none⟩ = some (.int .i64 room) ∧ w'.cell? ⟨w.heap.size, 1, none⟩ = some (.slice (some ⟨b, off, none⟩) 6 cap) ∧ w'.cell? ⟨w.heap.size + 1, 2, none⟩ = some (.slice (some ⟨b2, off2, none⟩) 1 cap2) ∧ w'.cell? ⟨b2, off2, none⟩ = some (.int .i64 z)) (go_keep)
          ((go_at_call 73; refine (HF.out _ ((below2 w _ _).drew)).mono ?_; rintro e w1 ⟨rfl, hb1⟩; have HB1 := hide_it ((below2 w _ _).drew.trans (hb1.mono (by simp; omega))); obtain ⟨y0, y1, y2, y3⟩ := HR.out _ hb1; clear hb1))
        all_goals (try go_wp2)
        all_goals (go_ret; exact ⟨rfl, HB1.out⟩)
      · rw [if_neg (by omega)]
        go_enter Tryd.func63, Tryd.ntmps63
        go_wp2
        go_region_held (fun w' => w'.cell? ⟨w.heap.size, 0, none⟩ = some (.int .i64 room) ∧ w'.cell? ⟨w.heap.size, 1, none⟩ = some (.slice (some ⟨b, off, none⟩) 6 cap) ∧ w'.cell? ⟨w.heap.size + 1, 2, none⟩ = some (.slice (some ⟨b2, off2, none⟩) 1 cap2) ∧ w'.cell? ⟨b2, off2, none⟩ = some (.int .i64 z)) (go_keep)
          ((go_at_call 73; refine (HF.out _ ((below2 w _ _).drew)).mono ?_; rintro e w1 ⟨rfl, hb1⟩; have HB1 := hide_it ((below2 w _ _).drew.trans (hb1.mono (by simp; omega))); obtain ⟨y0, y1, y2, y3⟩ := HR.out _ hb1; clear hb1))
        all_goals (try go_wp2)
        all_goals (go_ret; exact ⟨by simp; omega, HB1.out⟩)
    · rw [if_neg (by omega)]
      go_enter Tryd.func63, Tryd.ntmps63
      go_wp2
      go_quiet (fail)
      go_wp2
      go_ret
      exact ⟨rfl, below_drewN (below2 w _ _) _⟩
  obtain ⟨au, cu, rfl⟩ := hu.shape
  clear hu
  by_cases k2 : k = 2
  · subst k2
    rw [next_2]
    by_cases hs1 : s = 1
    · rw [if_pos hs1]
      go_enter Tryd.func63, Tryd.ntmps63
      go_wp2
      go_ret
      exact ⟨by simp, below2 w _ _⟩
    · rw [if_neg hs1]
      go_enter Tryd.func63, Tryd.ntmps63
      go_wp2
      go_ret
      exact ⟨by simp [hs1], below2 w _ _⟩
  by_cases k3 : k = 3
  · subst k3
    rw [next_3]
    by_cases hs1 : s = 1
    · rw [if_pos (Or.inl hs1)]
      subst hs1
      go_enter Tryd.func63, Tryd.ntmps63
      go_wp2
      go_ret
      exact ⟨rfl, below2 w _ _⟩
    by_cases hs0 : s = 0
    · rw [if_pos (Or.inr hs0)]
      subst hs0
      go_enter Tryd.func63, Tryd.ntmps63
      go_wp2
      go_ret
      exact ⟨rfl, below2 w _ _⟩
    · rw [if_neg (by omega)]
      have e1 : (s == 1) = false := by simp [hs1]
      have e2 : (s == 0) = false := by simp [hs0]
      go_enter Tryd.func63, Tryd.ntmps63
      go_wp2
      go_ret
      exact ⟨rfl, below2 w _ _⟩
  rw [next_x _ _ _ _ k1 k2 k3]
  have e1 : (k == 1) = false := by simp [k1]
  have e2 : (k == 2) = false := by simp [k2]
  have e3 : (k == 3) = false := by simp [k3]
  go_enter Tryd.func63, Tryd.ntmps63
  go_wp2
  go_ret
  exact ⟨rfl, below2 w _ _⟩

end Go.Proofs.YtckafpmhhoeodaaDoor
