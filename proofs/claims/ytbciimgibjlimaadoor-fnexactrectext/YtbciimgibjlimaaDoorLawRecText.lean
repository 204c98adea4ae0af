/- The law FnExactRecText, walked: at every record it answers true, and nothing that was there before has turned. In a world in which the sentinel's variable holds a pointer to an errors.errorString and the other one the names of the kinds. -/
import Derived.Test.YtbciimgibjlimaaDoorESText
import Derived.Deep.RegionWith
namespace Go.Proofs.YtbciimgibjlimaaDoor
open Go.RowKit

theorem toRec_use (k t : Int) (v : Value) (zs : List Int) (w : World) (hv : Ints w v zs) (hl : zs.length ≤ 1048576) :
    Calls Tryd.prog 7 #[.agg #[.int .i64 k, .int .i64 t, v]] w fun e w' => ∃ g, e = .returned (.agg #[.int .i64 k, .int .i64 t, .slice (some ⟨g, 0, none⟩) zs.length zs.length]) ∧ Ints w' (.slice (some ⟨g, 0, none⟩) zs.length zs.length) zs ∧ Below w.heap.size w w' := by
  refine (toRec_any k t v zs w hv hl).mono ?_
  rintro e w' ⟨rfl, hown, hb⟩
  exact ⟨_, rfl, ints_of_row hown, hb⟩

set_option maxHeartbeats 1000000 in
theorem lawRecText_great (k t : Int) (ao : Option Addr) (len cap : Nat) (w : World) (hl : (len : Int) ≤ 9223372036854775807) (hg : 1048576 < (len : Int)) :
    Calls Tryd.prog 3 #[.agg #[.int .i64 k, .int .i64 t, .slice ao len cap]] w fun e w' => e = .returned (.bool true) ∧ Below w.heap.size w w' := by
  have HS : Hid (∀ w, Calls Tryd.prog 5 #[.agg #[.int .i64 k, .int .i64 t, .slice ao len cap], .int .i64 1048576] w fun e w' => e = .returned (.int .i64 (-1)) ∧ Below w.heap.size w w') := fun w => by
    have := szRec_any k t ao len cap 1048576 w hl (by omega) (by omega)
    rw [if_pos (by omega)] at this
    exact this
  go_enter Tryd.func3, Tryd.ntmps3
  go_wp2_with (go_at_call 5; refine (HS.out _).mono ?_; rintro e w1 ⟨rfl, hb⟩)
  go_ret
  exact ⟨rfl, below_after (by assumption)⟩

set_option maxHeartbeats 2000000 in
theorem lawRecText_small (k t : Int) (v : Value) (zs : List Int) (a : Addr) (w : World) (hv : Ints w v zs) (ha : ErrAt w a) (hN : KindsAt w) (hl : zs.length ≤ 1048576) :
    Calls Tryd.prog 3 #[.agg #[.int .i64 k, .int .i64 t, v]] w fun e w' => e = .returned (.bool true) ∧ Below w.heap.size w w' := by
  obtain ⟨ao, cap, hvs⟩ := hv.shape
  have HS : Hid (∀ w, Calls Tryd.prog 5 #[.agg #[.int .i64 k, .int .i64 t, v], .int .i64 1048576] w fun e w' => e = .returned (.int .i64 (1048576 - zs.length)) ∧ Below w.heap.size w w') := fun w => by
    have := szRec_any k t ao zs.length cap 1048576 w (by omega) (by omega) (by omega)
    rw [if_neg (by omega)] at this
    rw [hvs]
    exact this
  clear hvs
  have HV : Hid (Ints w v zs) := hv
  have HA : Hid (ErrAt w a) := ha
  have HK : Hid (KindsAt w) := hN
  clear hv ha hN
  go_enter Tryd.func3, Tryd.ntmps3
  go_wp2_with fail
  refine (HS.out _).mono ?_
  rintro e w1 ⟨rfl, hb1⟩
  have B1 : Hid (Below w.heap.size w w1) := below_after hb1
  have R1 : Hid (RecAt w1 w.heap.size k t v) := (RecAt.new w k t v 24).later hb1 (Nat.le_refl _)
  clear hb1
  obtain ⟨c10, c11, c12⟩ := R1.out
  have hz1 : w.heap.size ≤ w1.heap.size := B1.out.size
  go_wp2_with fail
  have V1 : Hid (Ints w1 v zs) := HV.out.later B1.out (Nat.le_refl _)
  refine (toRec_use k t v zs w1 V1.out hl).mono ?_
  rintro e w2 ⟨g2, rfl, hv2, hb2⟩
  have B2 : Hid (Below w.heap.size w w2) := B1.out.trans (hb2.mono hz1)
  have R2 : Hid (RecAt w2 w.heap.size k t v) := R1.out.later hb2 (Nat.le_refl _)
  have V2 : Hid (Ints w2 (.slice (some ⟨g2, 0, none⟩) zs.length zs.length) zs) := hv2
  clear hb2 hv2 c10 c11 c12
  go_wp2_with fail
  refine (specRecText_any k t _ zs w2 V2.out hl).mono ?_
  rintro e w3 ⟨rfl, hb3⟩
  have hz2 : w.heap.size ≤ w2.heap.size := B2.out.size
  have B3 : Hid (Below w.heap.size w w3) := B2.out.trans (hb3.mono hz2)
  have R3 : Hid (RecAt w3 w.heap.size k t v) := R2.out.later hb3 (Nat.le_refl _)
  have V3 : Hid (Ints w3 v zs) := HV.out.later B3.out (Nat.le_refl _)
  clear hb3
  obtain ⟨c30, c31, c32⟩ := R3.out
  go_wp2_with fail
  refine (toRec_use k t v zs w3 V3.out hl).mono ?_
  rintro e w4 ⟨g4, rfl, hv4, hb4⟩
  have hz3 : w.heap.size ≤ w3.heap.size := B3.out.size
  have B4 : Hid (Below w.heap.size w w4) := B3.out.trans (hb4.mono hz3)
  have R4 : Hid (RecAt w4 w.heap.size k t v) := R3.out.later hb4 (Nat.le_refl _)
  have V4 : Hid (Ints w4 (.slice (some ⟨g4, 0, none⟩) zs.length zs.length) zs) := hv4
  have hz4 : w.heap.size ≤ w4.heap.size := B4.out.size
  clear hb4 hv4 c30 c31 c32
  go_wp2_with fail
  have HA5 : Hid (ErrAt (w4.alloc (.cells #[.int .i64 k, .int .i64 t, .slice (some ⟨g4, 0, none⟩) zs.length zs.length] 27)) a) := (HA.out.later B4.out (Nat.le_refl _)).later (alloc_below _ _) (Nat.le_refl _)
  have V5 : Hid (Ints (w4.alloc (.cells #[.int .i64 k, .int .i64 t, .slice (some ⟨g4, 0, none⟩) zs.length zs.length] 27)) (.slice (some ⟨g4, 0, none⟩) zs.length zs.length) zs) := V4.out.later (alloc_below _ _) (Nat.le_refl _)
  refine (implRecText_any k t _ zs a _ V5.out hl HA5.out ((HK.out.later B4.out (Nat.le_refl _)).later (alloc_below _ _) (Nat.le_refl _))).mono ?_
  rintro e w6 ⟨rfl, hb6⟩
  have B6 : Hid (Below w.heap.size w w6) := B4.out.trans ((below_after hb6).mono hz4)
  have R6 : Hid (RecAt w6 w.heap.size k t v) := R4.out.later (below_after hb6) (Nat.le_refl _)
  have X6 : Hid (RecAt w6 w4.heap.size k t (.slice (some ⟨g4, 0, none⟩) zs.length zs.length)) := (RecAt.new w4 k t _ 27).later hb6 (Nat.le_refl _)
  have V6 : Hid (Ints w6 v zs) := HV.out.later B6.out (Nat.le_refl _)
  have Y6 : Hid (Ints w6 (.slice (some ⟨g4, 0, none⟩) zs.length zs.length) zs) := V5.out.later hb6 (Nat.le_refl _)
  have hz6 : w.heap.size ≤ w6.heap.size := B6.out.size
  clear hb6
  obtain ⟨c60, c61, c62⟩ := R6.out
  obtain ⟨x60, x61, x62⟩ := X6.out
  go_wp2_with fail
  go_region_with (first
    | (go_at_call 7; refine (toRec_use k t v zs _ ?_ hl).mono ?_; exact V6.out.later (Below.refl _ _).drew (Nat.le_refl _); rintro e w7 ⟨g7, rfl, hv7, hb7⟩; have y7 := (Y6.out.later (Below.refl _ _).drew (Nat.le_refl _)).later hb7 (Nat.le_refl _); have B7 := B6.out.trans (((Below.refl _ _).drew.trans hb7).mono hz6); obtain ⟨x70, x71, x72⟩ := (X6.out.later (Below.refl _ _).drew (Nat.le_refl _)).later hb7 (Nat.le_refl _))
    | (go_at_call 9; refine (eqRec_any k t _ _ zs _ ?_ ?_ hl).mono ?_; assumption; assumption; rintro e w8 ⟨rfl, hb8⟩))
  all_goals (try go_wp2)
  all_goals (go_ret; exact ⟨rfl, B7.trans (hb8.mono B7.size)⟩)

end Go.Proofs.YtbciimgibjlimaaDoor
