/- Contracts of the functions that say whether a house is ok: the specification's and the program's. For all that together has at most 1048576 records and numbers, in a world in which the sentinel's variable holds a pointer to an errors.errorString. -/
import Derived.Test.YtckafpmhhoeodaaDoorHTo
import Derived.Test.YtckafpmhhoeodaaDoorKSOf2
import Derived.Test.YtckafpmhhoeodaaDoorILogOk
import Derived.Test.YtckafpmhhoeodaaDoorSLog
namespace Go.Proofs.YtckafpmhhoeodaaDoor
open Go.RowKit

def hoOk (id room : Int) (rs : List R) (f : Int) : Bool := Pl.inB id 1 3 && logOk rs f && (Pl.sOf room rs).isSome
theorem hoOk_id {id room : Int} {rs : List R} {f : Int} (h : Pl.inB id 1 3 = false) : hoOk id room rs f = false := by simp [hoOk, h]
theorem hoOk_log {id room : Int} {rs : List R} {f : Int} (h : logOk rs f = false) : hoOk id room rs f = false := by simp [hoOk, h]
theorem hoOk_of {id room : Int} {rs : List R} {f : Int} (h1 : Pl.inB id 1 3 = true) (h2 : logOk rs f = true) : hoOk id room rs f = (Pl.sOf room rs).isSome := by simp [hoOk, h1, h2]
theorem hoOk_parts {id room : Int} {rs : List R} {f : Int} (h : hoOk id room rs f = true) : Pl.inB id 1 3 = true ∧ logOk rs f = true ∧ (Pl.sOf room rs).isSome = true := by
  simp only [hoOk, Bool.and_eq_true] at h
  exact ⟨h.1.1, h.1.2, h.2⟩

set_option maxHeartbeats 2000000 in
theorem specHouseOk_any (id : Int) (up : Bool) (room : Int) (v : Value) (rs : List R) (f : Int) (w : World) (hv : Recs w v rs) (hl : tot rs ≤ 1048576) :
    Calls Tryd.prog 13 #[houseV id up room v f] w fun e w' => e = .returned (.bool (hoOk id room rs f)) ∧ Below w.heap.size w w' := by
  have HO : Hid (∀ o, Calls Tryd.prog 40 #[.int .i64 room, v] (w.alloc o) fun e w' => StOut (w.alloc o) w' e (oR room (Pl.sOf room rs)) (oH (Pl.sOf room rs)) (Pl.sOf room rs).isSome) := fun o =>
    l2Of_any room v rs (w.alloc o) (hv.later (alloc_below w o) (Nat.le_refl _)) hl
  have HL : Hid (∀ W, Below w.heap.size w W → Calls Tryd.prog 42 #[.agg #[v, .int .i64 f]] W fun e w' => e = .returned (.bool (logOk rs f)) ∧ Below W.heap.size W w') := fun W h =>
    specLogOk_any v rs f W (hv.later h (Nat.le_refl _)) hl
  obtain ⟨av, cv, rfl⟩ := hv.shape
  clear hv
  have HE : Hid (hoOk id room rs f = (Pl.inB id 1 3 && logOk rs f && (Pl.sOf room rs).isSome)) := rfl
  rw [HE.out]
  clear HE
  obtain ⟨RR, hRR⟩ : ∃ x, oR room (Pl.sOf room rs) = x := ⟨_, rfl⟩
  obtain ⟨HS, hHS⟩ : ∃ x, oH (Pl.sOf room rs) = x := ⟨_, rfl⟩
  obtain ⟨BB, hBB⟩ : ∃ x, (Pl.sOf room rs).isSome = x := ⟨_, rfl⟩
  obtain ⟨LL, hLL⟩ : ∃ x, logOk rs f = x := ⟨_, rfl⟩
  obtain ⟨II, hII⟩ : ∃ x, Pl.inB id 1 3 = x := ⟨_, rfl⟩
  rw [hRR, hHS, hBB] at HO
  rw [hLL] at HL
  have HI : Hid (∀ W, Calls Tryd.prog 41 #[.int .i64 id, .int .i64 1, .int .i64 3] W fun e w' => e = .returned (.bool II) ∧ w' = W) := fun W => by rw [← hII]; exact in_any id 1 3 W
  rw [hBB, hLL, hII]
  clear hRR hHS hBB hLL hII
  go_enter Tryd.func13, Tryd.ntmps13
  go_wp2_with fail
  refine (HO.out _).mono ?_
  rintro e w1 ⟨a1, c1, rfl, -, hb1⟩
  have F1 := hide_it ((Five.new w id up room (.slice av rs.length cv) f 27).later hb1 (by simp))
  obtain ⟨w2, hw2⟩ : ∃ W, Hid (W = w1.alloc (.cells #[.int .i64 RR, .slice a1 HS.length c1] 43)) := ⟨_, rfl⟩
  have al2 : Hid (Below w1.heap.size w1 w2) := by show Below _ _ _; rw [hw2.out]; exact alloc_below _ _
  have E2 := hide_it (hb1.trans (al2.out.mono hb1.size))
  have B2 := hide_it ((alloc_below w _).trans (E2.out.mono (by simp)))
  have hz : w.heap.size < w2.heap.size := by have := E2.out.size; simp at this; omega
  have hz1 : w.heap.size < w1.heap.size := F1.out.lt
  obtain ⟨x0, x1, x2, x3, x4⟩ := F1.out.cells
  have k0 := fun x => cellAlloc x0 x
  have k3 := fun x => cellAlloc x3 x
  have k4 := fun x => cellAlloc x4 x
  clear hb1 x0 x1 x2 x3 x4
  go_wp2_with fail
  rw [← hw2.out]
  obtain ⟨x0, x1, x2, x3, x4⟩ := ((Five.new w id up room (.slice av rs.length cv) f 27).later E2.out (by simp)).cells
  clear k0 k3 k4
  refine (HI.out _).mono ?_
  rintro e w3 ⟨rfl, rfl⟩
  cases II
  · go_wp2
    go_ret
    exact ⟨rfl, B2.out⟩
  · go_wp2_with fail
    refine (HL.out _ B2.out).mono ?_
    rintro e w4 ⟨rfl, hb4⟩
    have B4 := hide_it (B2.out.trans (hb4.mono B2.out.size))
    clear hb4
    cases LL
    · go_wp2
      go_ret
      exact ⟨rfl, B4.out⟩
    · go_wp2
      go_ret
      exact ⟨rfl, B4.out⟩

theorem houseId_any (id : Int) (w : World) : Calls Tryd.prog 48 #[.int .i64 id] w fun e w' => e = .returned (.bool (Pl.inB id 1 3)) ∧ w' = w := by
  by_cases h1 : 1 ≤ id
  · by_cases h2 : id ≤ 3
    all_goals
      go_enter Tryd.func48, Tryd.ntmps48
      go_wp2
      go_ret
      exact ⟨by simp [Pl.inB]; omega, rfl⟩
  · go_enter Tryd.func48, Tryd.ntmps48
    go_wp2
    go_ret
    exact ⟨by simp [Pl.inB]; omega, rfl⟩

set_option maxHeartbeats 2000000 in
theorem implHouseOk_any (id : Int) (up : Bool) (room : Int) (v : Value) (rs : List R) (f : Int) (a : Addr) (w : World) (hv : Recs w v rs) (hl : tot rs ≤ 1048576) (ha : ErrAt w a) :
    Calls Tryd.prog 22 #[houseV id up room v f] w fun e w' => e = .returned (.bool (hoOk id room rs f)) ∧ Below w.heap.size w w' := by
  have HO : Hid (∀ W, Below w.heap.size w W → Calls Tryd.prog 28 #[.int .i64 room, v] W fun e w' => StOut W w' e (oR room (Pl.sOf room rs)) (oH (Pl.sOf room rs)) (Pl.sOf room rs).isSome) := fun W h =>
    implOf_any room v rs a W (hv.later h (Nat.le_refl _)) hl (ha.later h (Nat.le_refl _))
  have HL : Hid (∀ W, Below w.heap.size w W → Calls Tryd.prog 44 #[.agg #[v, .int .i64 f]] W fun e w' => e = .returned (.bool (logOk rs f)) ∧ Below W.heap.size W w') := fun W h =>
    implLogOk_any v rs f a W (hv.later h (Nat.le_refl _)) hl (ha.later h (Nat.le_refl _))
  obtain ⟨av, cv, rfl⟩ := hv.shape
  clear hv ha
  have HE : Hid (hoOk id room rs f = (Pl.inB id 1 3 && logOk rs f && (Pl.sOf room rs).isSome)) := rfl
  rw [HE.out]
  clear HE
  obtain ⟨RR, hRR⟩ : ∃ x, oR room (Pl.sOf room rs) = x := ⟨_, rfl⟩
  obtain ⟨HS, hHS⟩ : ∃ x, oH (Pl.sOf room rs) = x := ⟨_, rfl⟩
  obtain ⟨BB, hBB⟩ : ∃ x, (Pl.sOf room rs).isSome = x := ⟨_, rfl⟩
  obtain ⟨LL, hLL⟩ : ∃ x, logOk rs f = x := ⟨_, rfl⟩
  obtain ⟨II, hII⟩ : ∃ x, Pl.inB id 1 3 = x := ⟨_, rfl⟩
  rw [hRR, hHS, hBB] at HO
  rw [hLL] at HL
  have HI : Hid (∀ W, Calls Tryd.prog 48 #[.int .i64 id] W fun e w' => e = .returned (.bool II) ∧ w' = W) := fun W => by rw [← hII]; exact houseId_any id W
  rw [hBB, hLL, hII]
  clear hRR hHS hBB hLL hII
  have B0 := fun o => hide_it (alloc_below w o)
  go_enter Tryd.func22, Tryd.ntmps22
  go_wp2_with fail
  refine (HI.out _).mono ?_
  rintro e w3 ⟨rfl, rfl⟩
  cases II
  · go_wp2
    go_ret
    exact ⟨rfl, alloc_below _ _⟩
  · go_wp2_with fail
    refine (HL.out _ (alloc_below _ _)).mono ?_
    rintro e w4 ⟨rfl, hb4⟩
    obtain ⟨x0, x1, x2, x3, x4⟩ := ((Five.new w id up room (.slice av rs.length cv) f 27).later hb4 (by simp)).cells
    have B4 := hide_it ((alloc_below w _).trans (hb4.mono (by simp)))
    clear hb4
    cases LL
    · go_wp2
      go_ret
      exact ⟨rfl, B4.out⟩
    · go_wp2_with fail
      refine (HO.out _ B4.out).mono ?_
      rintro e w5 ⟨a1, c1, rfl, -, hb5⟩
      have B5 := hide_it (B4.out.trans (hb5.mono B4.out.size))
      clear hb5
      go_wp2
      go_ret
      exact ⟨rfl, B5.out.alloc B5.out.size _⟩

end Go.Proofs.YtckafpmhhoeodaaDoor
