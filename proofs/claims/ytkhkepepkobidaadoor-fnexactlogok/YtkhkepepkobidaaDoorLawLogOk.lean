/- The law FnExactLogOk, walked: at every log it answers true, and nothing that was there before has turned. In a world in which the sentinel's variable holds a pointer to an errors.errorString. -/
import Derived.Test.YtkhkepepkobidaaDoorILogOk
namespace Go.Proofs.YtkhkepepkobidaaDoor
open Go.RowKit

set_option maxHeartbeats 1000000 in
theorem lawLogOk_great (v : Value) (rs : List R) (f : Int) (w : World) (hv : Recs w v rs) (hl : (rs.length : Int) ≤ 9223372036854775807) (hls : ∀ r ∈ rs, (r.2.2.length : Int) ≤ 9223372036854775807) (hg : 1048576 < (tot rs : Int)) :
    Calls Tryd.prog 4 #[.agg #[v, .int .i64 f]] w fun e w' => e = .returned (.bool true) ∧ Below w.heap.size w w' := by
  have HS : Hid (∀ o, Calls Tryd.prog 13 #[.agg #[v, .int .i64 f], .int .i64 1048576] (w.alloc o) fun e w' => e = .returned (.int .i64 (-1)) ∧ Below (w.alloc o).heap.size (w.alloc o) w') := fun o => by
    have := szLog_any v rs f 1048576 (w.alloc o) (hv.later (alloc_below w o) (Nat.le_refl _)) hl hls (by omega) (by omega)
    rw [leftOf_neg (by omega)] at this
    exact this
  clear hv hl hls hg
  go_enter Tryd.func4, Tryd.ntmps4
  go_wp2_with (go_at_call 13; refine (HS.out _).mono ?_; rintro e w1 ⟨rfl, hb⟩)
  go_ret
  exact ⟨rfl, below_after (by assumption)⟩

set_option maxHeartbeats 2000000 in
theorem lawLogOk_small (v : Value) (rs : List R) (f : Int) (a : Addr) (w : World) (hv : Recs w v rs) (ha : ErrAt w a) (hl : tot rs ≤ 1048576) :
    Calls Tryd.prog 4 #[.agg #[v, .int .i64 f]] w fun e w' => e = .returned (.bool true) ∧ Below w.heap.size w w' := by
  have hrl := tot_len rs
  have HS : Hid (∀ o, Calls Tryd.prog 13 #[.agg #[v, .int .i64 f], .int .i64 1048576] (w.alloc o) fun e w' => e = .returned (.int .i64 (1048576 - tot rs)) ∧ Below (w.alloc o).heap.size (w.alloc o) w') := fun o => by
    have := szLog_any v rs f 1048576 (w.alloc o) (hv.later (alloc_below w o) (Nat.le_refl _)) (by omega) (fun r hr => by have := tot_mem rs r hr; omega) (by omega) (by omega)
    rw [leftOf_pos (by omega)] at this
    exact this
  have HV : Hid (∀ W, Below w.heap.size w W → Recs W v rs) := fun W h => hv.later h (Nat.le_refl _)
  have HA : Hid (∀ W, Below w.heap.size w W → ErrAt W a) := fun W h => ha.later h (Nat.le_refl _)
  obtain ⟨ao, cap, hvs⟩ := hv.shape
  have H0 : Hid (Two (w.alloc (.cells #[v, .int .i64 f] 33)) w.heap.size v (.int .i64 f)) := box2 w _ _ _
  clear hv ha
  subst hvs
  go_enter Tryd.func4, Tryd.ntmps4
  go_wp2_with fail
  refine (HS.out _).mono ?_
  rintro e w1 ⟨rfl, hb1⟩
  have B1 : Hid (Below w.heap.size w w1) := below_after hb1
  have T1 : Hid (Two w1 w.heap.size (.slice ao rs.length cap) (.int .i64 f)) := H0.out.later hb1 (Nat.le_refl _)
  have hz1 : w.heap.size ≤ w1.heap.size := B1.out.size
  clear hb1
  obtain ⟨c10, c11⟩ := T1.out
  go_wp2_with fail
  refine (toLog_any _ rs f w1 (HV.out _ B1.out) hl).mono ?_
  rintro e w2 ⟨rfl, hm2, hb2⟩
  have B2 : Hid (Below w.heap.size w w2) := B1.out.trans (hb2.mono hz1)
  have T2 : Hid (Two w2 w.heap.size (.slice ao rs.length cap) (.int .i64 f)) := T1.out.later hb2 (Nat.le_refl _)
  have V2 : Hid (Recs w2 (.slice (some ⟨w1.heap.size + 3, 0, none⟩) rs.length rs.length) rs) := hm2.recs
  have hz2 : w.heap.size ≤ w2.heap.size := B2.out.size
  clear hb2 hm2 c10 c11
  go_wp2_with fail
  refine (specLogOk_any _ rs f w2 V2.out hl).mono ?_
  rintro e w3 ⟨rfl, hb3⟩
  have B3 : Hid (Below w.heap.size w w3) := B2.out.trans (hb3.mono hz2)
  have T3 : Hid (Two w3 w.heap.size (.slice ao rs.length cap) (.int .i64 f)) := T2.out.later hb3 (Nat.le_refl _)
  have hz3 : w.heap.size ≤ w3.heap.size := B3.out.size
  clear hb3
  obtain ⟨c30, c31⟩ := T3.out
  go_wp2_with fail
  refine (toLog_any _ rs f w3 (HV.out _ B3.out) hl).mono ?_
  rintro e w4 ⟨rfl, hm4, hb4⟩
  obtain ⟨g4, hg4⟩ : ∃ g, Hid (g = w3.heap.size + 3) := ⟨_, rfl⟩
  rw [← hg4.out] at hm4 ⊢
  have B4 : Hid (Below w.heap.size w w4) := B3.out.trans (hb4.mono hz3)
  have T4 : Hid (Two w4 w.heap.size (.slice ao rs.length cap) (.int .i64 f)) := T3.out.later hb4 (Nat.le_refl _)
  have V4 : Hid (Recs w4 (.slice (some ⟨g4, 0, none⟩) rs.length rs.length) rs) := hm4.recs
  have hz4 : w.heap.size ≤ w4.heap.size := B4.out.size
  clear hb4 hm4 c30 c31
  go_wp2_with fail
  have X5 : Hid (Two (w4.alloc (.cells #[.slice (some ⟨g4, 0, none⟩) rs.length rs.length, .int .i64 f] 38)) w4.heap.size (.slice (some ⟨g4, 0, none⟩) rs.length rs.length) (.int .i64 f)) := box2 w4 _ _ _
  have V5 : Hid (Recs (w4.alloc (.cells #[.slice (some ⟨g4, 0, none⟩) rs.length rs.length, .int .i64 f] 38)) (.slice (some ⟨g4, 0, none⟩) rs.length rs.length) rs) := V4.out.later (alloc_below _ _) (Nat.le_refl _)
  refine (implLogOk_any _ rs f a _ V5.out hl ((HA.out _ B4.out).later (alloc_below _ _) (Nat.le_refl _))).mono ?_
  rintro e w6 ⟨rfl, hb6⟩
  have B6 : Hid (Below w.heap.size w w6) := B4.out.trans ((below_after hb6).mono hz4)
  have T6 : Hid (Two w6 w.heap.size (.slice ao rs.length cap) (.int .i64 f)) := T4.out.later (below_after hb6) (Nat.le_refl _)
  have X6 : Hid (Two w6 w4.heap.size (.slice (some ⟨g4, 0, none⟩) rs.length rs.length) (.int .i64 f)) := X5.out.later hb6 (Nat.le_refl _)
  have Y6 : Hid (Recs w6 (.slice (some ⟨g4, 0, none⟩) rs.length rs.length) rs) := V5.out.later hb6 (Nat.le_refl _)
  have hz6 : w.heap.size ≤ w6.heap.size := B6.out.size
  clear hb6
  obtain ⟨c60, c61⟩ := T6.out
  obtain ⟨x60, x61⟩ := X6.out
  go_wp2_with fail
  go_region_with (first
    | (go_at_call 15; refine (toLog_any _ rs f _ ?_ hl).mono ?_; exact (HV.out _ B6.out.drew); rintro e w7 ⟨rfl, hm7, hb7⟩; have y7 := (Y6.out.later (Below.refl _ _).drew (Nat.le_refl _)).later hb7 (Nat.le_refl _); have z7 := hm7.recs; have B7 := B6.out.drew.trans (hb7.mono hz6); obtain ⟨x70, x71⟩ := (X6.out.later (Below.refl _ _).drew (Nat.le_refl _)).later hb7 (Nat.le_refl _))
    | (go_at_call 17; refine (eqLog_any _ _ rs f _ ?_ ?_ hl).mono ?_; assumption; assumption; rintro e w8 ⟨rfl, hb8⟩))
  all_goals (try go_wp2)
  all_goals (go_ret; exact ⟨rfl, B7.trans (hb8.mono B7.size)⟩)

end Go.Proofs.YtkhkepepkobidaaDoor
