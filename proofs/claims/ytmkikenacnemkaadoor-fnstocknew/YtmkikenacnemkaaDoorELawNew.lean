/- The look of the laws at stocks that are the same, the draw of a room, and the law FnStockNew, walked: whatever the code, it answers true, and nothing that was there before has turned. In a world in which the sentinel's variable holds a pointer to an errors.errorString. -/
import Derived.Test.YtmkikenacnemkaaDoorKSOf
import Derived.Test.YtmkikenacnemkaaDoorDGood
import Derived.Deep.RegionHeld
namespace Go.Proofs.YtmkikenacnemkaaDoor
open Go.RowKit

set_option maxHeartbeats 2000000 in
theorem lnStock_any (room : Int) (v1 v2 : Value) (hs : List Pl.H) (w : World) (h1 : Holds w v1 hs) (h2 : Holds w v2 hs) (hl : hs.length ≤ 1048576) :
    Calls Tryd.prog 7 #[.agg #[.int .i64 room, v1], .agg #[.int .i64 room, v2]] w fun e w' => e = .returned (.bool true) ∧ Below w.heap.size w w' := by
  rcases h1 with ⟨rfl, ao, cap, rfl, -⟩ | ⟨b, off, cap, rfl, hz, hc⟩
  · obtain ⟨ao2, cap2, rfl⟩ := h2.shape
    clear h2
    go_enter Tryd.func7, Tryd.ntmps7
    go_wp2
    refine wp_loop_rounds 1 ?_
    rw [rounds_succ]
    go_wp2
    go_ret
    exact ⟨rfl, below2 w _ _⟩
  rcases h2 with ⟨h, _⟩ | ⟨b2, off2, cap2, rfl, _, hc2⟩
  · exact absurd h hz
  have HC : Hid (∀ k, k < hs.length → w.cell? ⟨b, off + k * 2, none⟩ = some (.int .i64 (hs.getD k (0, 0)).1) ∧ w.cell? ⟨b, off + k * 2 + 1, none⟩ = some (.int .i64 (hs.getD k (0, 0)).2)) := hc
  have HC2 : Hid (∀ k, k < hs.length → w.cell? ⟨b2, off2 + k * 2, none⟩ = some (.int .i64 (hs.getD k (0, 0)).1) ∧ w.cell? ⟨b2, off2 + k * 2 + 1, none⟩ = some (.int .i64 (hs.getD k (0, 0)).2)) := hc2
  have hzl : 0 < hs.length := List.length_pos_iff.2 hz
  have hbw : b < w.heap.size := World.block_lt_of_cell? _ _ (hc 0 hzl).1
  have hbw2 : b2 < w.heap.size := World.block_lt_of_cell? _ _ (hc2 0 hzl).1
  have DA := hide_it ((Duo.new w (.int .i64 room) (.slice (some ⟨b, off, none⟩) hs.length cap) 26).later (al_below _ (.cells #[.int .i64 room, .slice (some ⟨b2, off2, none⟩) hs.length cap2] 26)) (Nat.le_refl _))
  have DB := hide_it (Duo.new (w.alloc (.cells #[.int .i64 room, .slice (some ⟨b, off, none⟩) hs.length cap] 26)) (.int .i64 room) (.slice (some ⟨b2, off2, none⟩) hs.length cap2) 26)
  rw [World.size_alloc] at DB
  clear hc hc2 hz
  go_enter Tryd.func7, Tryd.ntmps7
  go_wp2
  go_loopw [5] (fun i wr => ∃ k : Nat, k ≤ hs.length ∧ i = .int .i64 k ∧ Hid (Below (w.heap.size + 2) ((w.alloc (.cells #[.int .i64 room, .slice (some ⟨b, off, none⟩) hs.length cap] 26)).alloc (.cells #[.int .i64 room, .slice (some ⟨b2, off2, none⟩) hs.length cap2] 26)) wr)) (fun i _ => hs.length - (intOf i).toNat)
  case atStart => exact ⟨0, Nat.zero_le _, rfl, Below.refl _ _⟩
  case round =>
    obtain ⟨k, hk, rfl, HB⟩ := hrel
    obtain ⟨a0, a1⟩ := DA.out.later HB.out (by simp)
    obtain ⟨e0, e1⟩ := DB.out.later HB.out (by simp)
    by_cases hlt : k < hs.length
    · obtain ⟨m, s, HZ⟩ : ∃ m s, Hid (hs.getD k (0, 0) = (m, s)) := ⟨_, _, rfl⟩
      have HBw := (below2 w (.cells #[.int .i64 room, .slice (some ⟨b, off, none⟩) hs.length cap] 26) (.cells #[.int .i64 room, .slice (some ⟨b2, off2, none⟩) hs.length cap2] 26)).trans (HB.out.mono (by omega))
      have c0 : wr.cell? ⟨b, off + k * 2, none⟩ = some (.int .i64 m) := by rw [HBw.cell (p := ⟨b, off + k * 2, none⟩) hbw, (HC.out k hlt).1, HZ.out]
      have c1 : wr.cell? ⟨b, off + k * 2 + 1, none⟩ = some (.int .i64 s) := by rw [HBw.cell (p := ⟨b, off + k * 2 + 1, none⟩) hbw, (HC.out k hlt).2, HZ.out]
      have d0 : wr.cell? ⟨b2, off2 + k * 2, none⟩ = some (.int .i64 m) := by rw [HBw.cell (p := ⟨b2, off2 + k * 2, none⟩) hbw2, (HC2.out k hlt).1, HZ.out]
      have d1 : wr.cell? ⟨b2, off2 + k * 2 + 1, none⟩ = some (.int .i64 s) := by rw [HBw.cell (p := ⟨b2, off2 + k * 2 + 1, none⟩) hbw2, (HC2.out k hlt).2, HZ.out]
      have hli : (k : Int) < (hs.length : Int) := by omega
      clear HBw
      go_wp2
      go_quiet (fail)
      go_wp2
      go_roundw
      case rel => exact ⟨k + 1, by omega, by go_num, below_drewN HB.out _⟩
      case measure => simp [intOf]; omega
    · go_wp2
      go_ret
      exact ⟨rfl, (below2 w _ _).trans (HB.out.mono (by omega))⟩

set_option maxHeartbeats 1000000 in
theorem drawNew_any (v : Value) (n : Nat) (w : World) (hv : CodeAt w v n) (hn : n ≤ 1048576) :
    Calls Tryd.prog 4 #[v] w fun e w' => ∃ room, e = .returned (.int .i64 room) ∧ -1 ≤ room ∧ room ≤ 10 ∧ Below w.heap.size w w' := by
  have HO := hide_it (open_any v n w hv hn)
  obtain ⟨ao, cap, rfl, _⟩ := hv
  go_enter Tryd.func4, Tryd.ntmps4
  go_wp2_with fail
  refine HO.out.mono ?_
  rintro e w1 ⟨rfl, hr1, hs1, hb1⟩
  have R1 := hide_it hr1
  have B1 := hide_it hb1
  clear hr1 hb1
  go_wp2_with fail
  refine (pick_any w.heap.size 0 12 _ R1.out (by omega) (by omega) (by omega)).mono ?_
  rintro e w2 ⟨x, rfl, lx, ux, r2, m2⟩
  have B2 := hide_it (B1.out.trans (m2.below (B := w.heap.size) (Nat.le_refl _) B1.out.size))
  clear r2 m2
  go_wp2
  go_ret
  exact ⟨x - 1, rfl, by omega, by omega, B2.out⟩

end Go.Proofs.YtmkikenacnemkaaDoor
