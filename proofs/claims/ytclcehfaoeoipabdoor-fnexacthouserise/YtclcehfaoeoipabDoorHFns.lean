/- Contracts of HouseForce, HouseFall and HouseRise: the specification's, and the program's. For all that together has at most 1048576 records and numbers, in a world in which the sentinel's variable holds a pointer to an errors.errorString. -/
import Derived.Test.YtclcehfaoeoipabDoorHFn
import Derived.Test.YtclcehfaoeoipabDoorHOk
import Derived.Test.YtclcehfaoeoipabDoorIForm
import Derived.Test.YtclcehfaoeoipabDoorSFall
namespace Go.Proofs.YtclcehfaoeoipabDoor
open Go.RowKit

/-- A house as plain data: its number, whether it is up, how many it has, its records, how many of them are forced. -/
abbrev Ho := Int × Bool × Int × List R × Int
def hoZ : Ho := (0, false, 0, [], 0)
def hoForce (id : Int) (up : Bool) (room : Int) (rs : List R) (f : Int) : Ho := if hoOk id room rs f = true then (id, up, room, rs, if up = true then rs.length else f) else hoZ
def hoFall (id room : Int) (rs : List R) (f keep : Int) : Ho := if hoOk id room rs f = true then (id, false, room, rs.take (fallN rs.length f keep), fallN rs.length f keep) else hoZ
def hoRise (id room : Int) (rs : List R) (f : Int) : Ho := if hoOk id room rs f = true then (id, true, room, rs, f) else hoZ
def HoO (w w' : World) (e : Ending) (o : Ho) : Prop := HoOut w w' e o.1 o.2.1 o.2.2.1 o.2.2.2.1 o.2.2.2.2
theorem HoO.none_ {w w' : World} (h : Below w.heap.size w w') : HoO w w' (.returned (houseV 0 false 0 (.slice none 0 0) 0)) hoZ := ⟨none, 0, rfl, Made.none _ _, h⟩
theorem hoForce_tot (id : Int) (up : Bool) (room : Int) (rs : List R) (f : Int) (hl : tot rs ≤ 1048576) : tot (hoForce id up room rs f).2.2.2.1 ≤ 1048576 := by
  unfold hoForce; split
  · exact hl
  · simp [hoZ, tot, pre]
theorem hoRise_tot (id room : Int) (rs : List R) (f : Int) (hl : tot rs ≤ 1048576) : tot (hoRise id room rs f).2.2.2.1 ≤ 1048576 := by
  unfold hoRise; split
  · exact hl
  · simp [hoZ, tot, pre]
theorem hoFall_tot (id room : Int) (rs : List R) (f keep : Int) (hl : tot rs ≤ 1048576) : tot (hoFall id room rs f keep).2.2.2.1 ≤ 1048576 := by
  unfold hoFall; split
  · obtain ⟨h0, h1, _⟩ := logOk_f (hoOk_parts (by assumption)).2.1
    exact Nat.le_trans (pre_take rs _ (fallN_le h0 h1)) hl
  · simp [hoZ, tot, pre]
theorem Made.setTwo {w : World} {lo b : Nat} {v : Value} {rs : List R} (h : Made w lo v rs) (hb : b < lo) (x y : Value) (i j : Nat) : Made ((w.setCell ⟨b, i, Option.none⟩ x).setCell ⟨b, j, Option.none⟩ y) lo v rs :=
  (h.setBelow (by simpa using hb) _).setBelow (by simpa using hb) _

theorem Blk.set_ {w : World} {b : Nat} {cs : Array Value} {ty : TypeId} (h : Blk w b cs ty) (i : Nat) (x : Value) : Blk (w.setCell ⟨b, i, none⟩ x) b (cs.setIfInBounds i x) ty := by
  unfold Blk; rw [heap_setCell_same w b i _ _ x h]
/-- A store into a block that holds a house leaves records that the call made. -/
theorem Made.setHouse {w : World} {lo b j : Nat} {v : Value} {rs : List R} {cur : Array Value} (h : Made w lo v rs) (hh : Blk w b cur 32) (x : Value) : Made (w.setCell ⟨b, j, Option.none⟩ x) lo v rs := by
  obtain ⟨ps, hp, h1, h2, h3⟩ := h
  have hs : (w.setCell ⟨b, j, Option.none⟩ x).heap.size = w.heap.size := by simp
  have ap : ∀ {e : TypeId} {sz n : Nat} {y : Value} {xs : List Value}, w.ownsRow lo e sz y n xs → e ≠ 32 → ∀ g, y.ownBlock = some g → g ≠ b := fun hr he g hg => by
    rcases hr.2 with ⟨hv, _⟩ | ⟨g', cap, cur', hv, _, hc, _⟩
    · rw [hv] at hg; simp [Value.ownBlock] at hg
    · rw [hv] at hg
      simp [Value.ownBlock] at hg
      subst hg
      intro e2
      subst e2
      unfold Blk at hh
      rw [hh] at hc
      simp at hc
      exact he hc.2.symm
  refine ⟨ps, hp, ownsRow_setCell_ne h1 (ap h1 (by decide)) x, by rw [hs]; exact h2, ?_⟩
  rw [hs]
  exact ⟨by rw [hs]; exact h3.1, fun p hp => ⟨ownsRow_setCell_ne (h3.2.1 p hp).1 (ap (h3.2.1 p hp).1 (by decide)) x, (h3.2.1 p hp).2⟩, h3.2.2⟩

set_option maxHeartbeats 4000000 in
theorem specHRise_any (id : Int) (up : Bool) (room : Int) (v : Value) (rs : List R) (f : Int) (w : World) (hv : Recs w v rs) (hl : tot rs ≤ 1048576) :
    Calls Tryd.prog 5 #[houseV id up room v f] w fun e w' => HoO w w' e (hoRise id room rs f) := by
  have hrl := tot_len rs
  have HV : Hid (∀ W, Below w.heap.size w W → Recs W v rs) := fun W h => hv.later h (Nat.le_refl _)
  have HOK : Hid (∀ W, Below w.heap.size w W → Calls Tryd.prog 12 #[houseV id up room v f] W fun e w' => e = .returned (.bool (hoOk id room rs f)) ∧ Below W.heap.size W w') := fun W h =>
    specHouseOk_any id up room v rs f W (HV.out W h) hl
  obtain ⟨av, cv, rfl⟩ := hv.shape
  clear hv
  obtain ⟨w0, hw0⟩ : ∃ W, Hid (W = (w.alloc (.cells #[.int .i64 id, .bool up, .int .i64 room, .slice av rs.length cv, .int .i64 f] 32)).alloc (.cells #[.int .i64 0, .bool false, .int .i64 0, .slice none 0 0, .int .i64 0] 32)) := ⟨_, rfl⟩
  have B0 : Hid (Below w.heap.size w w0) := by show Below _ _ _; rw [hw0.out]; exact below2 _ _ _
  have X0 : Hid (Blk w0 w.heap.size #[.int .i64 id, .bool up, .int .i64 room, .slice av rs.length cv, .int .i64 f] 32) := by show Blk _ _ _ _; rw [hw0.out]; exact (Blk.new _ _ _).alloc _
  have Z0 : Hid (Blk w0 (w.heap.size + 1) #[.int .i64 0, .bool false, .int .i64 0, .slice none 0 0, .int .i64 0] 32) := by show Blk _ _ _ _; rw [hw0.out]; exact Blk.new2 _ _ _ _
  have hs0 : w0.heap.size = w.heap.size + 2 := by rw [hw0.out, size2]
  cases hok : hoOk id room rs f
  · have HR : Hid (hoRise id room rs f = hoZ) := by show _ = _; simp [hoRise, hok]
    rw [hok] at HOK
    rw [HR.out]
    clear hok
    go_enter Tryd.func5, Tryd.ntmps5
    go_wp2_with fail
    rw [← hw0.out]
    refine (HOK.out _ B0.out).mono ?_
    rintro e w1 ⟨rfl, hb⟩
    obtain ⟨z0, z1, z2, z3, z4⟩ := (Z0.out.after hb).cells5
    obtain ⟨zf0, zf1, zf2, zf3, zf4⟩ := (Z0.out.after hb).free5
    have HB := hide_it (B0.out.trans (hb.mono B0.out.size))
    clear hb
    go_wp2
    refine bodyPost_ret (v := houseV 0 false 0 (.slice none 0 0) 0) (by simp [results, Tryd.results5, go_sem, *]) rfl (HoO.none_ ?_)
    repeat (refine Below.setCell ?_ (by first | (simp; done) | (simp; omega)) _)
    exact HB.out
  · have HR : Hid (hoRise id room rs f = (id, true, room, rs, f)) := by show _ = _; simp [hoRise, hok]
    rw [hok] at HOK
    rw [HR.out]
    clear HR
    go_enter Tryd.func5, Tryd.ntmps5
    go_wp2_with fail
    rw [← hw0.out]
    refine (HOK.out _ B0.out).mono ?_
    rintro e w1 ⟨rfl, hb1⟩
    have X1 := hide_it (X0.out.after hb1)
    have Z1 := hide_it (Z0.out.after hb1)
    have B1 := hide_it (B0.out.trans (hb1.mono B0.out.size))
    have hs1 : w.heap.size + 2 ≤ w1.heap.size := by have := hb1.size; omega
    obtain ⟨x0, x1, x2, x3, x4⟩ := X1.out.cells5
    clear hb1
    go_wp2_with fail
    refine (l11Copy_any id up room _ rs f w1 (HV.out _ B1.out) hl).mono ?_
    rintro e w2 ⟨ao, cap, rfl, hm2, hb2⟩
    have Z2 := hide_it (Z1.out.after hb2)
    have B2 := hide_it (B1.out.trans (hb2.mono B1.out.size))
    have M2 := hide_it hm2
    have hs2 : w.heap.size + 2 ≤ w2.heap.size := by have := hb2.size; omega
    clear hb2 hm2 x0 x1 x2 x3 x4
    obtain ⟨z0, z1, z2, z3, z4⟩ := Z2.out.cells5
    obtain ⟨zf0, zf1, zf2, zf3, zf4⟩ := Z2.out.free5
    have k0 := fun x => cellAlloc z0 x
    have k1 := fun x => cellAlloc z1 x
    have k2 := fun x => cellAlloc z2 x
    have k3 := fun x => cellAlloc z3 x
    have k4 := fun x => cellAlloc z4 x
    have q0 := fun x => frozenAlloc zf0 (by omega) x
    have q1 := fun x => frozenAlloc zf1 (by omega) x
    have q2 := fun x => frozenAlloc zf2 (by omega) x
    have q3 := fun x => frozenAlloc zf3 (by omega) x
    have q4 := fun x => frozenAlloc zf4 (by omega) x
    go_wp2
    refine bodyPost_ret (v := houseV id true room (.slice ao rs.length cap) f) (by simp [results, Tryd.results5, go_sem, *]) rfl ?_
    refine ⟨ao, cap, rfl, ?_, ?_⟩
    · refine Made.lo ?_ (show w.heap.size ≤ w1.heap.size by omega)
      iterate 5 (refine Made.setBelow ?_ (by first | (simp; done) | (simp; omega)) _)
      exact M2.out.below (alloc_below _ _) (Nat.le_refl _)
    · iterate 5 (refine Below.setCell ?_ (by first | (simp; done) | (simp; omega)) _)
      exact B2.out.alloc (by omega) _

set_option maxHeartbeats 4000000 in
theorem implHRise_any (id : Int) (up : Bool) (room : Int) (v : Value) (rs : List R) (f : Int) (a : Addr) (w : World) (hv : Recs w v rs) (hl : tot rs ≤ 1048576) (ha : ErrAt w a) :
    Calls Tryd.prog 7 #[houseV id up room v f] w fun e w' => HoO w w' e (hoRise id room rs f) := by
  have hrl := tot_len rs
  have HV : Hid (∀ W, Below w.heap.size w W → Recs W v rs) := fun W h => hv.later h (Nat.le_refl _)
  have HA : Hid (∀ W, Below w.heap.size w W → ErrAt W a) := fun W h => ha.later h (Nat.le_refl _)
  have HOK : Hid (∀ W, Below w.heap.size w W → Calls Tryd.prog 15 #[houseV id up room v f] W fun e w' => e = .returned (.bool (hoOk id room rs f)) ∧ Below W.heap.size W w') := fun W h =>
    implHouseOk_any id up room v rs f a W (HV.out W h) hl (HA.out W h)
  obtain ⟨av, cv, rfl⟩ := hv.shape
  clear hv ha
  obtain ⟨w0, hw0⟩ : ∃ W, Hid (W = (w.alloc (.cells #[.int .i64 id, .bool up, .int .i64 room, .slice av rs.length cv, .int .i64 f] 32)).alloc (.cells #[.int .i64 0, .bool false, .int .i64 0, .slice none 0 0, .int .i64 0] 32)) := ⟨_, rfl⟩
  have B0 : Hid (Below w.heap.size w w0) := by show Below _ _ _; rw [hw0.out]; exact below2 _ _ _
  have X0 : Hid (Blk w0 w.heap.size #[.int .i64 id, .bool up, .int .i64 room, .slice av rs.length cv, .int .i64 f] 32) := by show Blk _ _ _ _; rw [hw0.out]; exact (Blk.new _ _ _).alloc _
  have Z0 : Hid (Blk w0 (w.heap.size + 1) #[.int .i64 0, .bool false, .int .i64 0, .slice none 0 0, .int .i64 0] 32) := by show Blk _ _ _ _; rw [hw0.out]; exact Blk.new2 _ _ _ _
  have hs0 : w0.heap.size = w.heap.size + 2 := by rw [hw0.out, size2]
  cases hok : hoOk id room rs f
  · have HR : Hid (hoRise id room rs f = hoZ) := by show _ = _; simp [hoRise, hok]
    rw [hok] at HOK
    rw [HR.out]
    clear hok
    go_enter Tryd.func7, Tryd.ntmps7
    go_wp2_with fail
    rw [← hw0.out]
    refine (HOK.out _ B0.out).mono ?_
    rintro e w1 ⟨rfl, hb⟩
    obtain ⟨z0, z1, z2, z3, z4⟩ := (Z0.out.after hb).cells5
    obtain ⟨zf0, zf1, zf2, zf3, zf4⟩ := (Z0.out.after hb).free5
    have HB := hide_it (B0.out.trans (hb.mono B0.out.size))
    clear hb
    go_wp2
    refine bodyPost_ret (v := houseV 0 false 0 (.slice none 0 0) 0) (by simp [results, Tryd.results7, go_sem, *]) rfl (HoO.none_ ?_)
    repeat (refine Below.setCell ?_ (by first | (simp; done) | (simp; omega)) _)
    exact HB.out
  · have HR : Hid (hoRise id room rs f = (id, true, room, rs, f)) := by show _ = _; simp [hoRise, hok]
    rw [hok] at HOK
    rw [HR.out]
    clear HR
    go_enter Tryd.func7, Tryd.ntmps7
    go_wp2_with fail
    rw [← hw0.out]
    refine (HOK.out _ B0.out).mono ?_
    rintro e w1 ⟨rfl, hb1⟩
    have X1 := hide_it (X0.out.after hb1)
    have Z1 := hide_it (Z0.out.after hb1)
    have B1 := hide_it (B0.out.trans (hb1.mono B0.out.size))
    have hs1 : w.heap.size + 2 ≤ w1.heap.size := by have := hb1.size; omega
    obtain ⟨x0, x1, x2, x3, x4⟩ := X1.out.cells5
    clear hb1
    go_wp2_with fail
    refine (keeperOf_any id up room av rs.length cv f w1).mono ?_
    rintro e w2 ⟨rfl, hb2⟩
    have Z2 := hide_it (Z1.out.after hb2)
    have B2 := hide_it (B1.out.trans (hb2.mono B1.out.size))
    have hs2 : w.heap.size + 2 ≤ w2.heap.size := by have := hb2.size; omega
    clear hb2 x0 x1 x2 x3 x4
    obtain ⟨w3, hw3⟩ : ∃ W, Hid (W = w2.alloc (.cells #[.slice av rs.length cv, .int .i64 f, .int .i64 id, .bool true, .int .i64 room] 42)) := ⟨_, rfl⟩
    have al3 : Hid (Below w2.heap.size w2 w3) := by show Below _ _ _; rw [hw3.out]; exact alloc_below _ _
    have hs3 : w3.heap.size = w2.heap.size + 1 := by rw [hw3.out]; simp
    have Z3 := hide_it (Z2.out.after al3.out)
    have B3 := hide_it (B2.out.trans (al3.out.mono B2.out.size))
    go_wp2_with fail
    rw [← hw3.out]
    refine (keeperHouse_any id true room _ rs f w3 (HV.out _ B3.out) hl).mono ?_
    rintro e w4 ⟨ao, cap, rfl, hm, hb⟩
    obtain ⟨z0, z1, z2, z3, z4⟩ := (Z3.out.after hb).cells5
    obtain ⟨zf0, zf1, zf2, zf3, zf4⟩ := (Z3.out.after hb).free5
    have HM := hide_it hm
    have HB := hide_it (B3.out.trans (hb.mono B3.out.size))
    clear hm hb
    go_wp2
    refine bodyPost_ret (v := houseV id true room (.slice ao rs.length cap) f) (by simp [results, Tryd.results7, go_sem, *]) rfl ?_
    refine ⟨ao, cap, rfl, ?_, ?_⟩
    · refine Made.lo ?_ (show w.heap.size ≤ w3.heap.size by omega)
      repeat (refine Made.setBelow ?_ (by first | (simp; done) | (simp; omega)) _)
      exact HM.out
    · repeat (refine Below.setCell ?_ (by first | (simp; done) | (simp; omega)) _)
      exact HB.out

end Go.Proofs.YtclcehfaoeoipabDoor
