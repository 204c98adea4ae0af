/- The law FnExactHouseOk, walked: at every house it answers true, and nothing that was there before has turned. In a world in which the sentinel's variable holds a pointer to an errors.errorString. -/
import Derived.Test.YtclcehfaoeoipaaDoorHFn
import Derived.Test.YtclcehfaoeoipaaDoorHOk
import Derived.Deep.RegionHeld
namespace Go.Proofs.YtclcehfaoeoipaaDoor
open Go.RowKit

set_option maxHeartbeats 1000000 in
theorem lawHOk_great (id : Int) (up : Bool) (room : Int) (v : Value) (rs : List R) (f : Int) (w : World) (hv : Recs w v rs) (hl : (rs.length : Int) ≤ 9223372036854775807) (hls : ∀ r ∈ rs, (r.2.2.length : Int) ≤ 9223372036854775807) (hg : 1048576 < (tot rs : Int)) :
    Calls Tryd.prog 3 #[houseV id up room v f] w fun e w' => e = .returned (.bool true) ∧ Below w.heap.size w w' := by
  have HS : Hid (∀ o, Calls Tryd.prog 7 #[houseV id up room v f, .int .i64 1048576] (w.alloc o) fun e w' => e = .returned (.int .i64 (-1)) ∧ Below (w.alloc o).heap.size (w.alloc o) w') := fun o => by
    have := szHouse_any id up room v rs f 1048576 (w.alloc o) (hv.later (alloc_below w o) (Nat.le_refl _)) hl hls (by omega) (by omega)
    rw [leftOf_neg (by omega)] at this
    exact this
  obtain ⟨av, cv, rfl⟩ := hv.shape
  clear hv hl hls hg
  go_enter Tryd.func3, Tryd.ntmps3
  go_wp2_with (go_at_call 7; refine (HS.out _).mono ?_; rintro e w1 ⟨rfl, hb⟩)
  go_ret
  exact ⟨rfl, below_after (by assumption)⟩

set_option maxHeartbeats 4000000 in
theorem lawHOk_small (id : Int) (up : Bool) (room : Int) (v : Value) (rs : List R) (f : Int) (a : Addr) (w : World) (hv : Recs w v rs) (ha : ErrAt w a) (hl : tot rs ≤ 1048576) :
    Calls Tryd.prog 3 #[houseV id up room v f] w fun e w' => e = .returned (.bool true) ∧ Below w.heap.size w w' := by
  have hrl := tot_len rs
  have HS : Hid (∀ o, Calls Tryd.prog 7 #[houseV id up room v f, .int .i64 1048576] (w.alloc o) fun e w' => e = .returned (.int .i64 (1048576 - tot rs)) ∧ Below (w.alloc o).heap.size (w.alloc o) w') := fun o => by
    have := szHouse_any id up room v rs f 1048576 (w.alloc o) (hv.later (alloc_below w o) (Nat.le_refl _)) (by omega) (fun r hr => by have := tot_mem rs r hr; omega) (by omega) (by omega)
    rw [leftOf_pos (by omega)] at this
    exact this
  have HV : Hid (∀ W, Below w.heap.size w W → Recs W v rs) := fun W h => hv.later h (Nat.le_refl _)
  have HA : Hid (∀ W, Below w.heap.size w W → ErrAt W a) := fun W h => ha.later h (Nat.le_refl _)
  obtain ⟨av, cv, hvs⟩ := hv.shape
  have H0 : Hid (Blk (w.alloc (.cells #[.int .i64 id, .bool up, .int .i64 room, v, .int .i64 f] 26)) w.heap.size #[.int .i64 id, .bool up, .int .i64 room, v, .int .i64 f] 26) := Blk.new _ _ _
  clear hv ha
  subst hvs
  obtain ⟨BB, hBB⟩ : ∃ b, Hid (hoOk id room rs f = b) := ⟨_, rfl⟩
  have HSP : Hid (∀ (x : Value) (W : World), Recs W x rs → Calls Tryd.prog 8 #[houseV id up room x f] W fun e w' => e = .returned (.bool BB) ∧ Below W.heap.size W w') := fun x W h => by
    have := specHouseOk_any id up room x rs f W h hl; rw [hBB.out] at this; exact this
  have HIM : Hid (∀ (x : Value) (W : World), Recs W x rs → ErrAt W a → Calls Tryd.prog 10 #[houseV id up room x f] W fun e w' => e = .returned (.bool BB) ∧ Below W.heap.size W w') := fun x W h h2 => by
    have := implHouseOk_any id up room x rs f a W h hl h2; rw [hBB.out] at this; exact this
  go_enter Tryd.func3, Tryd.ntmps3
  go_wp2_with fail
  refine (HS.out _).mono ?_
  rintro e w1 ⟨rfl, hb1⟩
  have B1 := hide_it (below_after hb1)
  have T1 := hide_it (H0.out.after hb1)
  have hz1 : w.heap.size ≤ w1.heap.size := B1.out.size
  clear hb1
  obtain ⟨c0, c1, c2, c3, c4⟩ := T1.out.cells5
  go_wp2_with fail
  refine (toHouse_any id up room _ rs f w1 (HV.out _ B1.out) hl).mono ?_
  rintro e w2 ⟨a2, cap2, rfl, hm2, hb2⟩
  have B2 := hide_it (B1.out.trans (hb2.mono hz1))
  have T2 := hide_it (T1.out.after hb2)
  have V2 := hide_it hm2.recs
  have hz2 : w.heap.size ≤ w2.heap.size := B2.out.size
  clear hb2 hm2 c0 c1 c2 c3 c4
  go_wp2_with fail
  refine (HSP.out _ w2 V2.out).mono ?_
  rintro e w3 ⟨rfl, hb3⟩
  have B3 := hide_it (B2.out.trans (hb3.mono hz2))
  have T3 := hide_it (T2.out.after hb3)
  have hz3 : w.heap.size ≤ w3.heap.size := B3.out.size
  clear hb3
  obtain ⟨c0, c1, c2, c3, c4⟩ := T3.out.cells5
  go_wp2_with fail
  refine (toHouse_any id up room _ rs f w3 (HV.out _ B3.out) hl).mono ?_
  rintro e w4 ⟨a4, cap4, rfl, hm4, hb4⟩
  have B4 := hide_it (B3.out.trans (hb4.mono hz3))
  have T4 := hide_it (T3.out.after hb4)
  have V4 := hide_it hm4.recs
  have hz4 : w.heap.size ≤ w4.heap.size := B4.out.size
  clear hb4 hm4 c0 c1 c2 c3 c4
  obtain ⟨w5, hw5⟩ : ∃ W, Hid (W = w4.alloc (.cells #[.int .i64 id, .bool up, .int .i64 room, .slice a4 rs.length cap4, .int .i64 f] 33)) := ⟨_, rfl⟩
  have al5 := hide_it (show Below w4.heap.size w4 w5 by rw [hw5.out]; exact alloc_below _ _)
  have B5 := hide_it (B4.out.trans (al5.out.mono hz4))
  have T5 := hide_it (T4.out.after al5.out)
  have V5 := hide_it (V4.out.later al5.out (Nat.le_refl _))
  have X5 : Hid (Blk w5 w4.heap.size #[.int .i64 id, .bool up, .int .i64 room, .slice a4 rs.length cap4, .int .i64 f] 33) := by show Blk _ _ _ _; rw [hw5.out]; exact Blk.new _ _ _
  go_wp2_with fail
  rw [← hw5.out]
  refine (HIM.out _ w5 V5.out (HA.out _ B5.out)).mono ?_
  rintro e w9 ⟨rfl, hb9⟩
  have B9 := hide_it (B5.out.trans (hb9.mono B5.out.size))
  have T9 := hide_it (T5.out.after hb9)
  have X9 := hide_it (X5.out.after hb9)
  have R9x := hide_it (V5.out.later hb9 (Nat.le_refl _))
  clear hb9
  obtain ⟨c0, c1, c2, c3, c4⟩ := T9.out.cells5
  obtain ⟨x0, x1, x2, x3, x4⟩ := X9.out.cells5
  cases BB
  all_goals
    go_wp2_with fail
    go_region_held (fun w' => (w'.cell? ⟨w4.heap.size, 0, none⟩ = some (.int .i64 id) ∧ w'.cell? ⟨w4.heap.size, 1, none⟩ = some (.bool up) ∧ w'.cell? ⟨w4.heap.size, 2, none⟩ = some (.int .i64 room) ∧ w'.cell? ⟨w4.heap.size, 3, none⟩ = some (.slice a4 rs.length cap4) ∧ w'.cell? ⟨w4.heap.size, 4, none⟩ = some (.int .i64 f)) ∧ (w'.cell? ⟨w.heap.size, 0, none⟩ = some (.int .i64 id) ∧ w'.cell? ⟨w.heap.size, 1, none⟩ = some (.bool up) ∧ w'.cell? ⟨w.heap.size, 2, none⟩ = some (.int .i64 room) ∧ w'.cell? ⟨w.heap.size, 3, none⟩ = some (.slice av rs.length cv) ∧ w'.cell? ⟨w.heap.size, 4, none⟩ = some (.int .i64 f))) (go_keep)
      (first
      | (go_at_call 9; refine (toHouse_any id up room _ rs f _ ?_ hl).mono ?_; exact (HV.out _ B9.out.drew); rintro e w10 ⟨a10, cap10, rfl, hm10, hb10⟩; have hb10' := (Below.refl w9.heap.size w9).drew.trans hb10; have L10 := hide_it hb10'; have y10 := R9x.out.later hb10' (Nat.le_refl _); have v10 := hm10.recs; obtain ⟨x100, x101, x102, x103, x104⟩ := (X9.out.after hb10').cells5; obtain ⟨c100, c101, c102, c103, c104⟩ := (T9.out.after hb10').cells5; clear hb10 hb10' hm10)
      | (go_at_call 11; refine (eqHouse_any id up room _ _ rs f _ ?_ ?_ hl).mono ?_; assumption; assumption; rintro e w11 ⟨rfl, hb11⟩; have L11 := hide_it (L10.out.trans (hb11.mono L10.out.size)); obtain ⟨x110, x111, x112, x113, x114⟩ := (X9.out.after L11.out).cells5; obtain ⟨c110, c111, c112, c113, c114⟩ := (T9.out.after L11.out).cells5; clear hb11))
    go_wp2
    go_ret
    exact ⟨rfl, B9.out.trans (L11.out.mono B9.out.size)⟩

theorem lawHOk_any (id : Int) (up : Bool) (room : Int) (u : Value) (rs : List R) (f : Int) (a : Addr) (w : World) (hv : Recs w u rs) (ha : ErrAt w a) (hm : (rs.length : Int) ≤ 9223372036854775807) (hms : ∀ r ∈ rs, (r.2.2.length : Int) ≤ 9223372036854775807) :
    Calls Tryd.prog 3 #[houseV id up room u f] w fun e w' => e = .returned (.bool true) ∧ Below w.heap.size w w' := by
  by_cases hl : tot rs ≤ 1048576
  · exact lawHOk_small id up room u rs f a w hv ha hl
  · exact lawHOk_great id up room u rs f w hv hm hms (by omega)

end Go.Proofs.YtclcehfaoeoipaaDoor
