/- Contracts of HouseForce, HouseFall and HouseRise: the specification's, and the program's. For all that together has at most 1048576 records and numbers, in a world in which the sentinel's variable holds a pointer to an errors.errorString. -/
import Derived.Test.YtckafpmhhoeodaaDoorHFn
import Derived.Test.YtckafpmhhoeodaaDoorHOk
import Derived.Test.YtckafpmhhoeodaaDoorIForm
import Derived.Test.YtckafpmhhoeodaaDoorSFall
namespace Go.Proofs.YtckafpmhhoeodaaDoor
open Go.RowKit

/-- A house as plain data: its number, whether it is up, how many it has, its records, how many of them are forced. -/
abbrev Ho := Int × Bool × Int × List R × Int
def hoZ : Ho := (0, false, 0, [], 0)
def hoForce (id : Int) (up : Bool) (room : Int) (rs : List R) (f : Int) : Ho := if hoOk id room rs f = true then (id, up, room, rs, if up = true then rs.length else f) else hoZ
def hoFall (id room : Int) (rs : List R) (f keep : Int) : Ho := if hoOk id room rs f = true then (id, false, room, rs.take (fallN rs.length f keep), fallN rs.length f keep) else hoZ
def hoRise (id room : Int) (rs : List R) (f : Int) : Ho := if hoOk id room rs f = true then (id, true, room, rs, f) else hoZ
def HoO (w w' : World) (e : Ending) (o : Ho) : Prop := HoOut w w' e o.1 o.2.1 o.2.2.1 o.2.2.2.1 o.2.2.2.2
theorem HoO.none_ {w w' : World} (h : Below w.heap.size w w') : HoO w w' (.returned (houseV 0 false 0 (.slice none 0 0) 0)) hoZ := ⟨none, 0, rfl, Made.none _ _, h⟩
theorem hoForce_tot (id : Int) (up : Bool) (room : Int) (rs : List R) (f : Int) (hl : tot rs ≤ 1048576) : tot (hoForce id up room rs f).2.2.2.1 ≤ 1048576 := by
  unfold hoForce; split
  · exact hl
  · simp [hoZ, tot, pre]
theorem hoRise_tot (id room : Int) (rs : List R) (f : Int) (hl : tot rs ≤ 1048576) : tot (hoRise id room rs f).2.2.2.1 ≤ 1048576 := by
  unfold hoRise; split
  · exact hl
  · simp [hoZ, tot, pre]
theorem hoFall_tot (id room : Int) (rs : List R) (f keep : Int) (hl : tot rs ≤ 1048576) : tot (hoFall id room rs f keep).2.2.2.1 ≤ 1048576 := by
  unfold hoFall; split
  · obtain ⟨h0, h1, _⟩ := logOk_f (hoOk_parts (by assumption)).2.1
    exact Nat.le_trans (pre_take rs _ (fallN_le h0 h1)) hl
  · simp [hoZ, tot, pre]
theorem Made.setTwo {w : World} {lo b : Nat} {v : Value} {rs : List R} (h : Made w lo v rs) (hb : b < lo) (x y : Value) (i j : Nat) : Made ((w.setCell ⟨b, i, Option.none⟩ x).setCell ⟨b, j, Option.none⟩ y) lo v rs :=
  (h.setBelow (by simpa using hb) _).setBelow (by simpa using hb) _

theorem Blk.set_ {w : World} {b : Nat} {cs : Array Value} {ty : TypeId} (h : Blk w b cs ty) (i : Nat) (x : Value) : Blk (w.setCell ⟨b, i, none⟩ x) b (cs.setIfInBounds i x) ty := by
  unfold Blk; rw [heap_setCell_same w b i _ _ x h]
/-- A store into a block that holds a house leaves records that the call made. -/
theorem Made.setHouse {w : World} {lo b j : Nat} {v : Value} {rs : List R} {cur : Array Value} (h : Made w lo v rs) (hh : Blk w b cur 27) (x : Value) : Made (w.setCell ⟨b, j, Option.none⟩ x) lo v rs := by
  obtain ⟨ps, hp, h1, h2, h3⟩ := h
  have hs : (w.setCell ⟨b, j, Option.none⟩ x).heap.size = w.heap.size := by simp
  have ap : ∀ {e : TypeId} {sz n : Nat} {y : Value} {xs : List Value}, w.ownsRow lo e sz y n xs → e ≠ 27 → ∀ g, y.ownBlock = some g → g ≠ b := fun hr he g hg => by
    rcases hr.2 with ⟨hv, _⟩ | ⟨g', cap, cur', hv, _, hc, _⟩
    · rw [hv] at hg; simp [Value.ownBlock] at hg
    · rw [hv] at hg
      simp [Value.ownBlock] at hg
      subst hg
      intro e2
      subst e2
      unfold Blk at hh
      rw [hh] at hc
      simp at hc
      exact he hc.2.symm
  refine ⟨ps, hp, ownsRow_setCell_ne h1 (ap h1 (by decide)) x, by rw [hs]; exact h2, ?_⟩
  rw [hs]
  exact ⟨by rw [hs]; exact h3.1, fun p hp => ⟨ownsRow_setCell_ne (h3.2.1 p hp).1 (ap (h3.2.1 p hp).1 (by decide)) x, (h3.2.1 p hp).2⟩, h3.2.2⟩

set_option maxHeartbeats 4000000 in
theorem specHForce_any (id : Int) (up : Bool) (room : Int) (v : Value) (rs : List R) (f : Int) (w : World) (hv : Recs w v rs) (hl : tot rs ≤ 1048576) :
    Calls Tryd.prog 12 #[houseV id up room v f] w fun e w' => HoO w w' e (hoForce id up room rs f) := by
  have hrl := tot_len rs
  have HV : Hid (∀ W, Below w.heap.size w W → Recs W v rs) := fun W h => hv.later h (Nat.le_refl _)
  have HOK : Hid (∀ W, Below w.heap.size w W → Calls Tryd.prog 13 #[houseV id up room v f] W fun e w' => e = .returned (.bool (hoOk id room rs f)) ∧ Below W.heap.size W w') := fun W h =>
    specHouseOk_any id up room v rs f W (HV.out W h) hl
  obtain ⟨av, cv, rfl⟩ := hv.shape
  clear hv
  obtain ⟨w0, hw0⟩ : ∃ W, Hid (W = (w.alloc (.cells #[.int .i64 id, .bool up, .int .i64 room, .slice av rs.length cv, .int .i64 f] 27)).alloc (.cells #[.int .i64 0, .bool false, .int .i64 0, .slice none 0 0, .int .i64 0] 27)) := ⟨_, rfl⟩
  have B0 : Hid (Below w.heap.size w w0) := by show Below _ _ _; rw [hw0.out]; exact below2 _ _ _
  have X0 : Hid (Blk w0 w.heap.size #[.int .i64 id, .bool up, .int .i64 room, .slice av rs.length cv, .int .i64 f] 27) := by show Blk _ _ _ _; rw [hw0.out]; exact (Blk.new _ _ _).alloc _
  have Z0 : Hid (Blk w0 (w.heap.size + 1) #[.int .i64 0, .bool false, .int .i64 0, .slice none 0 0, .int .i64 0] 27) := by show Blk _ _ _ _; rw [hw0.out]; exact Blk.new2 _ _ _ _
  have hs0 : w0.heap.size = w.heap.size + 2 := by rw [hw0.out, size2]
  cases hok : hoOk id room rs f
  · have HR : Hid (hoForce id up room rs f = hoZ) := by show _ = _; simp [hoForce, hok]
    rw [hok] at HOK
    rw [HR.out]
    clear hok
    go_enter Tryd.func12, Tryd.ntmps12
    go_wp2_with fail
    rw [← hw0.out]
    refine (HOK.out _ B0.out).mono ?_
    rintro e w1 ⟨rfl, hb⟩
    obtain ⟨z0, z1, z2, z3, z4⟩ := (Z0.out.after hb).cells5
    obtain ⟨zf0, zf1, zf2, zf3, zf4⟩ := (Z0.out.after hb).free5
    have HB := hide_it (B0.out.trans (hb.mono B0.out.size))
    clear hb
    go_wp2
    refine bodyPost_ret (v := houseV 0 false 0 (.slice none 0 0) 0) (by simp [results, Tryd.results12, go_sem, *]) rfl (HoO.none_ ?_)
    repeat (refine Below.setCell ?_ (by first | (simp; done) | (simp; omega)) _)
    exact HB.out
  · have HR : Hid (hoForce id up room rs f = (id, up, room, rs, if up = true then (rs.length : Int) else f)) := by show _ = _; simp [hoForce, hok]
    rw [hok] at HOK
    rw [HR.out]
    clear HR
    go_enter Tryd.func12, Tryd.ntmps12
    go_wp2_with fail
    rw [← hw0.out]
    refine (HOK.out _ B0.out).mono ?_
    rintro e w1 ⟨rfl, hb1⟩
    have X1 := hide_it (X0.out.after hb1)
    have Z1 := hide_it (Z0.out.after hb1)
    have B1 := hide_it (B0.out.trans (hb1.mono B0.out.size))
    have hs1 : w.heap.size + 2 ≤ w1.heap.size := by have := hb1.size; omega
    obtain ⟨x0, x1, x2, x3, x4⟩ := X1.out.cells5
    clear hb1
    go_wp2_with fail
    refine (l11Copy_any id up room _ rs f w1 (HV.out _ B1.out) hl).mono ?_
    rintro e w2 ⟨ao, cap, rfl, hm2, hb2⟩
    have Z2 := hide_it (Z1.out.after hb2)
    have B2 := hide_it (B1.out.trans (hb2.mono B1.out.size))
    have M2 := hide_it hm2
    have hs2 : w.heap.size + 2 ≤ w2.heap.size := by have := hb2.size; omega
    clear hb2 hm2 x0 x1 x2 x3 x4
    obtain ⟨z0, z1, z2, z3, z4⟩ := Z2.out.cells5
    obtain ⟨zf0, zf1, zf2, zf3, zf4⟩ := Z2.out.free5
    have k0 := fun x => cellAlloc z0 x
    have k1 := fun x => cellAlloc z1 x
    have k2 := fun x => cellAlloc z2 x
    have k3 := fun x => cellAlloc z3 x
    have k4 := fun x => cellAlloc z4 x
    have q0 := fun x => frozenAlloc zf0 (by omega) x
    have q1 := fun x => frozenAlloc zf1 (by omega) x
    have q2 := fun x => frozenAlloc zf2 (by omega) x
    have q3 := fun x => frozenAlloc zf3 (by omega) x
    have q4 := fun x => frozenAlloc zf4 (by omega) x
    cases up
    · go_wp2
      refine bodyPost_ret (v := houseV id false room (.slice ao rs.length cap) f) (by simp [results, Tryd.results12, go_sem, *]) rfl ?_
      refine ⟨ao, cap, rfl, ?_, ?_⟩
      · refine Made.lo ?_ (show w.heap.size ≤ w1.heap.size by omega)
        iterate 5 (refine Made.setBelow ?_ (by first | (simp; done) | (simp; omega)) _)
        exact M2.out.below (alloc_below _ _) (Nat.le_refl _)
      · iterate 5 (refine Below.setCell ?_ (by first | (simp; done) | (simp; omega)) _)
        exact B2.out.alloc (by omega) _
    · go_wp2
      refine bodyPost_ret (v := houseV id true room (.slice ao rs.length cap) rs.length) (by simp [results, Tryd.results12, go_sem, *]) rfl ?_
      refine ⟨ao, cap, rfl, ?_, ?_⟩
      · refine Made.lo ?_ (show w.heap.size ≤ w1.heap.size by omega)
        iterate 5 (refine Made.setBelow ?_ (by first | (simp; done) | (simp; omega)) _)
        exact M2.out.below (alloc_below _ _) (Nat.le_refl _)
      · iterate 5 (refine Below.setCell ?_ (by first | (simp; done) | (simp; omega)) _)
        exact B2.out.alloc (by omega) _

set_option maxHeartbeats 4000000 in
theorem specHRise_any (id : Int) (up : Bool) (room : Int) (v : Value) (rs : List R) (f : Int) (w : World) (hv : Recs w v rs) (hl : tot rs ≤ 1048576) :
    Calls Tryd.prog 18 #[houseV id up room v f] w fun e w' => HoO w w' e (hoRise id room rs f) := by
  have hrl := tot_len rs
  have HV : Hid (∀ W, Below w.heap.size w W → Recs W v rs) := fun W h => hv.later h (Nat.le_refl _)
  have HOK : Hid (∀ W, Below w.heap.size w W → Calls Tryd.prog 13 #[houseV id up room v f] W fun e w' => e = .returned (.bool (hoOk id room rs f)) ∧ Below W.heap.size W w') := fun W h =>
    specHouseOk_any id up room v rs f W (HV.out W h) hl
  obtain ⟨av, cv, rfl⟩ := hv.shape
  clear hv
  obtain ⟨w0, hw0⟩ : ∃ W, Hid (W = (w.alloc (.cells #[.int .i64 id, .bool up, .int .i64 room, .slice av rs.length cv, .int .i64 f] 27)).alloc (.cells #[.int .i64 0, .bool false, .int .i64 0, .slice none 0 0, .int .i64 0] 27)) := ⟨_, rfl⟩
  have B0 : Hid (Below w.heap.size w w0) := by show Below _ _ _; rw [hw0.out]; exact below2 _ _ _
  have X0 : Hid (Blk w0 w.heap.size #[.int .i64 id, .bool up, .int .i64 room, .slice av rs.length cv, .int .i64 f] 27) := by show Blk _ _ _ _; rw [hw0.out]; exact (Blk.new _ _ _).alloc _
  have Z0 : Hid (Blk w0 (w.heap.size + 1) #[.int .i64 0, .bool false, .int .i64 0, .slice none 0 0, .int .i64 0] 27) := by show Blk _ _ _ _; rw [hw0.out]; exact Blk.new2 _ _ _ _
  have hs0 : w0.heap.size = w.heap.size + 2 := by rw [hw0.out, size2]
  cases hok : hoOk id room rs f
  · have HR : Hid (hoRise id room rs f = hoZ) := by show _ = _; simp [hoRise, hok]
    rw [hok] at HOK
    rw [HR.out]
    clear hok
    go_enter Tryd.func18, Tryd.ntmps18
    go_wp2_with fail
    rw [← hw0.out]
    refine (HOK.out _ B0.out).mono ?_
    rintro e w1 ⟨rfl, hb⟩
    obtain ⟨z0, z1, z2, z3, z4⟩ := (Z0.out.after hb).cells5
    obtain ⟨zf0, zf1, zf2, zf3, zf4⟩ := (Z0.out.after hb).free5
    have HB := hide_it (B0.out.trans (hb.mono B0.out.size))
    clear hb
    go_wp2
    refine bodyPost_ret (v := houseV 0 false 0 (.slice none 0 0) 0) (by simp [results, Tryd.results18, go_sem, *]) rfl (HoO.none_ ?_)
    repeat (refine Below.setCell ?_ (by first | (simp; done) | (simp; omega)) _)
    exact HB.out
  · have HR : Hid (hoRise id room rs f = (id, true, room, rs, f)) := by show _ = _; simp [hoRise, hok]
    rw [hok] at HOK
    rw [HR.out]
    clear HR
    go_enter Tryd.func18, Tryd.ntmps18
    go_wp2_with fail
    rw [← hw0.out]
    refine (HOK.out _ B0.out).mono ?_
    rintro e w1 ⟨rfl, hb1⟩
    have X1 := hide_it (X0.out.after hb1)
    have Z1 := hide_it (Z0.out.after hb1)
    have B1 := hide_it (B0.out.trans (hb1.mono B0.out.size))
    have hs1 : w.heap.size + 2 ≤ w1.heap.size := by have := hb1.size; omega
    obtain ⟨x0, x1, x2, x3, x4⟩ := X1.out.cells5
    clear hb1
    go_wp2_with fail
    refine (l11Copy_any id up room _ rs f w1 (HV.out _ B1.out) hl).mono ?_
    rintro e w2 ⟨ao, cap, rfl, hm2, hb2⟩
    have Z2 := hide_it (Z1.out.after hb2)
    have B2 := hide_it (B1.out.trans (hb2.mono B1.out.size))
    have M2 := hide_it hm2
    have hs2 : w.heap.size + 2 ≤ w2.heap.size := by have := hb2.size; omega
    clear hb2 hm2 x0 x1 x2 x3 x4
    obtain ⟨z0, z1, z2, z3, z4⟩ := Z2.out.cells5
    obtain ⟨zf0, zf1, zf2, zf3, zf4⟩ := Z2.out.free5
    have k0 := fun x => cellAlloc z0 x
    have k1 := fun x => cellAlloc z1 x
    have k2 := fun x => cellAlloc z2 x
    have k3 := fun x => cellAlloc z3 x
    have k4 := fun x => cellAlloc z4 x
    have q0 := fun x => frozenAlloc zf0 (by omega) x
    have q1 := fun x => frozenAlloc zf1 (by omega) x
    have q2 := fun x => frozenAlloc zf2 (by omega) x
    have q3 := fun x => frozenAlloc zf3 (by omega) x
    have q4 := fun x => frozenAlloc zf4 (by omega) x
    go_wp2
    refine bodyPost_ret (v := houseV id true room (.slice ao rs.length cap) f) (by simp [results, Tryd.results18, go_sem, *]) rfl ?_
    refine ⟨ao, cap, rfl, ?_, ?_⟩
    · refine Made.lo ?_ (show w.heap.size ≤ w1.heap.size by omega)
      iterate 5 (refine Made.setBelow ?_ (by first | (simp; done) | (simp; omega)) _)
      exact M2.out.below (alloc_below _ _) (Nat.le_refl _)
    · iterate 5 (refine Below.setCell ?_ (by first | (simp; done) | (simp; omega)) _)
      exact B2.out.alloc (by omega) _

set_option maxHeartbeats 4000000 in
theorem specHFall_any (id : Int) (up : Bool) (room : Int) (v : Value) (rs : List R) (f : Int) (keep : Int) (w : World) (hv : Recs w v rs) (hl : tot rs ≤ 1048576) :
    Calls Tryd.prog 21 #[houseV id up room v f, .int .i64 keep] w fun e w' => HoO w w' e (hoFall id room rs f keep) := by
  have hrl := tot_len rs
  have HV : Hid (∀ W, Below w.heap.size w W → Recs W v rs) := fun W h => hv.later h (Nat.le_refl _)
  have HOK : Hid (∀ W, Below w.heap.size w W → Calls Tryd.prog 13 #[houseV id up room v f] W fun e w' => e = .returned (.bool (hoOk id room rs f)) ∧ Below W.heap.size W w') := fun W h =>
    specHouseOk_any id up room v rs f W (HV.out W h) hl
  obtain ⟨av, cv, rfl⟩ := hv.shape
  clear hv
  obtain ⟨w0, hw0⟩ : ∃ W, Hid (W = (w.alloc (.cells #[.int .i64 id, .bool up, .int .i64 room, .slice av rs.length cv, .int .i64 f] 27)).alloc (.cells #[.int .i64 0, .bool false, .int .i64 0, .slice none 0 0, .int .i64 0] 27)) := ⟨_, rfl⟩
  have B0 : Hid (Below w.heap.size w w0) := by show Below _ _ _; rw [hw0.out]; exact below2 _ _ _
  have X0 : Hid (Blk w0 w.heap.size #[.int .i64 id, .bool up, .int .i64 room, .slice av rs.length cv, .int .i64 f] 27) := by show Blk _ _ _ _; rw [hw0.out]; exact (Blk.new _ _ _).alloc _
  have Z0 : Hid (Blk w0 (w.heap.size + 1) #[.int .i64 0, .bool false, .int .i64 0, .slice none 0 0, .int .i64 0] 27) := by show Blk _ _ _ _; rw [hw0.out]; exact Blk.new2 _ _ _ _
  have hs0 : w0.heap.size = w.heap.size + 2 := by rw [hw0.out, size2]
  cases hok : hoOk id room rs f
  · have HR : Hid (hoFall id room rs f keep = hoZ) := by show _ = _; simp [hoFall, hok]
    rw [hok] at HOK
    rw [HR.out]
    clear hok
    go_enter Tryd.func21, Tryd.ntmps21
    go_wp2_with fail
    rw [← hw0.out]
    refine (HOK.out _ B0.out).mono ?_
    rintro e w1 ⟨rfl, hb⟩
    obtain ⟨z0, z1, z2, z3, z4⟩ := (Z0.out.after hb).cells5
    obtain ⟨zf0, zf1, zf2, zf3, zf4⟩ := (Z0.out.after hb).free5
    have HB := hide_it (B0.out.trans (hb.mono B0.out.size))
    clear hb
    go_wp2
    refine bodyPost_ret (v := houseV 0 false 0 (.slice none 0 0) 0) (by simp [results, Tryd.results21, go_sem, *]) rfl (HoO.none_ ?_)
    repeat (refine Below.setCell ?_ (by first | (simp; done) | (simp; omega)) _)
    exact HB.out
  · have HR : Hid (hoFall id room rs f keep = (id, false, room, rs.take (fallN rs.length f keep), (fallN rs.length f keep : Int))) := by show _ = _; simp [hoFall, hok]
    obtain ⟨lf0, lf1, -⟩ := logOk_f (hoOk_parts hok).2.1
    have hN := fallN_le (keep := keep) lf0 lf1
    obtain ⟨N, hNN⟩ : ∃ N, Hid (fallN rs.length f keep = N) := ⟨_, rfl⟩
    rw [hok] at HOK
    rw [HR.out]
    rw [hNN.out] at hN ⊢
    clear HR
    go_enter Tryd.func21, Tryd.ntmps21
    go_wp2_with fail
    rw [← hw0.out]
    refine (HOK.out _ B0.out).mono ?_
    rintro e w1 ⟨rfl, hb1⟩
    have X1 := hide_it (X0.out.after hb1)
    have Z1 := hide_it (Z0.out.after hb1)
    have B1 := hide_it (B0.out.trans (hb1.mono B0.out.size))
    have hs1 : w.heap.size + 2 ≤ w1.heap.size := by have := hb1.size; omega
    obtain ⟨x0, x1, x2, x3, x4⟩ := X1.out.cells5
    clear hb1
    go_wp2_with fail
    refine (l11Copy_any id up room _ rs f w1 (HV.out _ B1.out) hl).mono ?_
    rintro e w2 ⟨ao, cap, rfl, hm2, hb2⟩
    have Z2 := hide_it (Z1.out.after hb2)
    have B2 := hide_it (B1.out.trans (hb2.mono B1.out.size))
    have M2 := hide_it hm2
    have hs2 : w.heap.size + 2 ≤ w2.heap.size := by have := hb2.size; omega
    clear hb2 hm2 x0 x1 x2 x3 x4
    obtain ⟨w3, hw3⟩ : ∃ W, Hid (W = w2.alloc (.cells #[.int .i64 id, .bool false, .int .i64 room, .slice ao rs.length cap, .int .i64 f] 27)) := ⟨_, rfl⟩
    have al3 : Hid (Below w2.heap.size w2 w3) := by show Below _ _ _; rw [hw3.out]; exact alloc_below _ _
    have hs3 : w3.heap.size = w2.heap.size + 1 := by rw [hw3.out]; simp
    have Z3 := hide_it (Z2.out.after al3.out)
    have K3 : Hid (Blk w3 w2.heap.size #[.int .i64 id, .bool false, .int .i64 room, .slice ao rs.length cap, .int .i64 f] 27) := by show Blk _ _ _ _; rw [hw3.out]; exact Blk.new _ _ _
    have M3 := hide_it (M2.out.below al3.out (Nat.le_refl _))
    have B3 := hide_it (B2.out.trans (al3.out.mono B2.out.size))
    have LF : Hid (Calls Tryd.prog 47 #[.agg #[.slice ao rs.length cap, .int .i64 f], .int .i64 keep] w3 fun e w' => e = .returned (.agg #[.slice ao N cap, .int .i64 N]) ∧ Below w3.heap.size w3 w') := by
      have := l1Fall_made (keep := keep) M3.out (by omega) lf0 lf1
      rw [hNN.out] at this; exact this
    go_wp2_with fail
    rw [← hw3.out]
    refine LF.out.mono ?_
    rintro e w4 ⟨rfl, hb4⟩
    have M4 := hide_it ((M3.out.below hb4 (Nat.le_refl _)).take hN)
    have B4 := hide_it (B3.out.trans (hb4.mono B3.out.size))
    obtain ⟨z0, z1, z2, z3, z4⟩ := (Z3.out.after hb4).cells5
    obtain ⟨zf0, zf1, zf2, zf3, zf4⟩ := (Z3.out.after hb4).free5
    obtain ⟨y0, y1, y2, y3, y4⟩ := (K3.out.after hb4).cells5
    obtain ⟨yf0, yf1, yf2, yf3, yf4⟩ := (K3.out.after hb4).free5
    have hne : w.heap.size + 1 ≠ w2.heap.size := by omega
    have hne2 : w2.heap.size ≠ w.heap.size + 1 := by omega
    have KT := hide_it (K3.out.after hb4)
    have hlen : (rs.take N).length = N := by simp; omega
    clear hb4
    go_wp2
    refine bodyPost_ret (v := houseV id false room (.slice ao N cap) N) (by simp [results, Tryd.results21, go_sem, *]) rfl ?_
    refine ⟨ao, cap, by rw [hlen], ?_, ?_⟩
    · rw [hlen]
      refine Made.lo ?_ (show w.heap.size ≤ w1.heap.size by omega)
      iterate 5 (refine Made.setBelow ?_ (by first | (simp; done) | (simp; omega)) _)
      exact Made.setHouse (Made.setHouse M4.out KT.out _) (KT.out.set_ 3 _) _
    · iterate 5 (refine Below.setCell ?_ (by first | (simp; done) | (simp; omega)) _)
      iterate 2 (refine Below.setCell ?_ (by simp; omega) _)
      exact B4.out

set_option maxHeartbeats 4000000 in
theorem implHRise_any (id : Int) (up : Bool) (room : Int) (v : Value) (rs : List R) (f : Int) (a : Addr) (w : World) (hv : Recs w v rs) (hl : tot rs ≤ 1048576) (ha : ErrAt w a) :
    Calls Tryd.prog 17 #[houseV id up room v f] w fun e w' => HoO w w' e (hoRise id room rs f) := by
  have hrl := tot_len rs
  have HV : Hid (∀ W, Below w.heap.size w W → Recs W v rs) := fun W h => hv.later h (Nat.le_refl _)
  have HA : Hid (∀ W, Below w.heap.size w W → ErrAt W a) := fun W h => ha.later h (Nat.le_refl _)
  have HOK : Hid (∀ W, Below w.heap.size w W → Calls Tryd.prog 22 #[houseV id up room v f] W fun e w' => e = .returned (.bool (hoOk id room rs f)) ∧ Below W.heap.size W w') := fun W h =>
    implHouseOk_any id up room v rs f a W (HV.out W h) hl (HA.out W h)
  obtain ⟨av, cv, rfl⟩ := hv.shape
  clear hv ha
  obtain ⟨w0, hw0⟩ : ∃ W, Hid (W = (w.alloc (.cells #[.int .i64 id, .bool up, .int .i64 room, .slice av rs.length cv, .int .i64 f] 27)).alloc (.cells #[.int .i64 0, .bool false, .int .i64 0, .slice none 0 0, .int .i64 0] 27)) := ⟨_, rfl⟩
  have B0 : Hid (Below w.heap.size w w0) := by show Below _ _ _; rw [hw0.out]; exact below2 _ _ _
  have X0 : Hid (Blk w0 w.heap.size #[.int .i64 id, .bool up, .int .i64 room, .slice av rs.length cv, .int .i64 f] 27) := by show Blk _ _ _ _; rw [hw0.out]; exact (Blk.new _ _ _).alloc _
  have Z0 : Hid (Blk w0 (w.heap.size + 1) #[.int .i64 0, .bool false, .int .i64 0, .slice none 0 0, .int .i64 0] 27) := by show Blk _ _ _ _; rw [hw0.out]; exact Blk.new2 _ _ _ _
  have hs0 : w0.heap.size = w.heap.size + 2 := by rw [hw0.out, size2]
  cases hok : hoOk id room rs f
  · have HR : Hid (hoRise id room rs f = hoZ) := by show _ = _; simp [hoRise, hok]
    rw [hok] at HOK
    rw [HR.out]
    clear hok
    go_enter Tryd.func17, Tryd.ntmps17
    go_wp2_with fail
    rw [← hw0.out]
    refine (HOK.out _ B0.out).mono ?_
    rintro e w1 ⟨rfl, hb⟩
    obtain ⟨z0, z1, z2, z3, z4⟩ := (Z0.out.after hb).cells5
    obtain ⟨zf0, zf1, zf2, zf3, zf4⟩ := (Z0.out.after hb).free5
    have HB := hide_it (B0.out.trans (hb.mono B0.out.size))
    clear hb
    go_wp2
    refine bodyPost_ret (v := houseV 0 false 0 (.slice none 0 0) 0) (by simp [results, Tryd.results17, go_sem, *]) rfl (HoO.none_ ?_)
    repeat (refine Below.setCell ?_ (by first | (simp; done) | (simp; omega)) _)
    exact HB.out
  · have HR : Hid (hoRise id room rs f = (id, true, room, rs, f)) := by show _ = _; simp [hoRise, hok]
    rw [hok] at HOK
    rw [HR.out]
    clear HR
    go_enter Tryd.func17, Tryd.ntmps17
    go_wp2_with fail
    rw [← hw0.out]
    refine (HOK.out _ B0.out).mono ?_
    rintro e w1 ⟨rfl, hb1⟩
    have X1 := hide_it (X0.out.after hb1)
    have Z1 := hide_it (Z0.out.after hb1)
    have B1 := hide_it (B0.out.trans (hb1.mono B0.out.size))
    have hs1 : w.heap.size + 2 ≤ w1.heap.size := by have := hb1.size; omega
    obtain ⟨x0, x1, x2, x3, x4⟩ := X1.out.cells5
    clear hb1
    go_wp2_with fail
    refine (keeperOf_any id up room av rs.length cv f w1).mono ?_
    rintro e w2 ⟨rfl, hb2⟩
    have Z2 := hide_it (Z1.out.after hb2)
    have B2 := hide_it (B1.out.trans (hb2.mono B1.out.size))
    have hs2 : w.heap.size + 2 ≤ w2.heap.size := by have := hb2.size; omega
    clear hb2 x0 x1 x2 x3 x4
    obtain ⟨w3, hw3⟩ : ∃ W, Hid (W = w2.alloc (.cells #[.slice av rs.length cv, .int .i64 f, .int .i64 id, .bool true, .int .i64 room] 58)) := ⟨_, rfl⟩
    have al3 : Hid (Below w2.heap.size w2 w3) := by show Below _ _ _; rw [hw3.out]; exact alloc_below _ _
    have hs3 : w3.heap.size = w2.heap.size + 1 := by rw [hw3.out]; simp
    have Z3 := hide_it (Z2.out.after al3.out)
    have B3 := hide_it (B2.out.trans (al3.out.mono B2.out.size))
    go_wp2_with fail
    rw [← hw3.out]
    refine (keeperHouse_any id true room _ rs f w3 (HV.out _ B3.out) hl).mono ?_
    rintro e w4 ⟨ao, cap, rfl, hm, hb⟩
    obtain ⟨z0, z1, z2, z3, z4⟩ := (Z3.out.after hb).cells5
    obtain ⟨zf0, zf1, zf2, zf3, zf4⟩ := (Z3.out.after hb).free5
    have HM := hide_it hm
    have HB := hide_it (B3.out.trans (hb.mono B3.out.size))
    clear hm hb
    go_wp2
    refine bodyPost_ret (v := houseV id true room (.slice ao rs.length cap) f) (by simp [results, Tryd.results17, go_sem, *]) rfl ?_
    refine ⟨ao, cap, rfl, ?_, ?_⟩
    · refine Made.lo ?_ (show w.heap.size ≤ w3.heap.size by omega)
      repeat (refine Made.setBelow ?_ (by first | (simp; done) | (simp; omega)) _)
      exact HM.out
    · repeat (refine Below.setCell ?_ (by first | (simp; done) | (simp; omega)) _)
      exact HB.out

set_option maxHeartbeats 4000000 in
theorem implHForce_any (id : Int) (up : Bool) (room : Int) (v : Value) (rs : List R) (f : Int) (a : Addr) (w : World) (hv : Recs w v rs) (hl : tot rs ≤ 1048576) (ha : ErrAt w a) :
    Calls Tryd.prog 10 #[houseV id up room v f] w fun e w' => HoO w w' e (hoForce id up room rs f) := by
  have hrl := tot_len rs
  have HV : Hid (∀ W, Below w.heap.size w W → Recs W v rs) := fun W h => hv.later h (Nat.le_refl _)
  have HA : Hid (∀ W, Below w.heap.size w W → ErrAt W a) := fun W h => ha.later h (Nat.le_refl _)
  have HOK : Hid (∀ W, Below w.heap.size w W → Calls Tryd.prog 22 #[houseV id up room v f] W fun e w' => e = .returned (.bool (hoOk id room rs f)) ∧ Below W.heap.size W w') := fun W h =>
    implHouseOk_any id up room v rs f a W (HV.out W h) hl (HA.out W h)
  obtain ⟨av, cv, rfl⟩ := hv.shape
  clear hv ha
  obtain ⟨w0, hw0⟩ : ∃ W, Hid (W = (w.alloc (.cells #[.int .i64 id, .bool up, .int .i64 room, .slice av rs.length cv, .int .i64 f] 27)).alloc (.cells #[.int .i64 0, .bool false, .int .i64 0, .slice none 0 0, .int .i64 0] 27)) := ⟨_, rfl⟩
  have B0 : Hid (Below w.heap.size w w0) := by show Below _ _ _; rw [hw0.out]; exact below2 _ _ _
  have X0 : Hid (Blk w0 w.heap.size #[.int .i64 id, .bool up, .int .i64 room, .slice av rs.length cv, .int .i64 f] 27) := by show Blk _ _ _ _; rw [hw0.out]; exact (Blk.new _ _ _).alloc _
  have Z0 : Hid (Blk w0 (w.heap.size + 1) #[.int .i64 0, .bool false, .int .i64 0, .slice none 0 0, .int .i64 0] 27) := by show Blk _ _ _ _; rw [hw0.out]; exact Blk.new2 _ _ _ _
  have hs0 : w0.heap.size = w.heap.size + 2 := by rw [hw0.out, size2]
  cases hok : hoOk id room rs f
  · have HR : Hid (hoForce id up room rs f = hoZ) := by show _ = _; simp [hoForce, hok]
    rw [hok] at HOK
    rw [HR.out]
    clear hok
    go_enter Tryd.func10, Tryd.ntmps10
    go_wp2_with fail
    rw [← hw0.out]
    refine (HOK.out _ B0.out).mono ?_
    rintro e w1 ⟨rfl, hb⟩
    obtain ⟨z0, z1, z2, z3, z4⟩ := (Z0.out.after hb).cells5
    obtain ⟨zf0, zf1, zf2, zf3, zf4⟩ := (Z0.out.after hb).free5
    have HB := hide_it (B0.out.trans (hb.mono B0.out.size))
    clear hb
    go_wp2
    refine bodyPost_ret (v := houseV 0 false 0 (.slice none 0 0) 0) (by simp [results, Tryd.results10, go_sem, *]) rfl (HoO.none_ ?_)
    repeat (refine Below.setCell ?_ (by first | (simp; done) | (simp; omega)) _)
    exact HB.out
  · have HR : Hid (hoForce id up room rs f = (id, up, room, rs, if up = true then (rs.length : Int) else f)) := by show _ = _; simp [hoForce, hok]
    have hlok := (hoOk_parts hok).2.1
    have LF : Hid (∀ W, Below w.heap.size w W → Calls Tryd.prog 15 #[.agg #[.slice av rs.length cv, .int .i64 f]] W fun e w' => LogOut W w' e rs rs.length) := fun W h => by
      have := implForce_any _ rs f a W (HV.out _ h) hl (HA.out _ h)
      rw [show forceR rs f = rs by simp [forceR, hlok], show forceF rs f = rs.length by simp [forceF, hlok]] at this
      exact this
    rw [hok] at HOK
    rw [HR.out]
    clear HR
    go_enter Tryd.func10, Tryd.ntmps10
    go_wp2_with fail
    rw [← hw0.out]
    refine (HOK.out _ B0.out).mono ?_
    rintro e w1 ⟨rfl, hb1⟩
    have X1 := hide_it (X0.out.after hb1)
    have Z1 := hide_it (Z0.out.after hb1)
    have B1 := hide_it (B0.out.trans (hb1.mono B0.out.size))
    have hs1 : w.heap.size + 2 ≤ w1.heap.size := by have := hb1.size; omega
    obtain ⟨x0, x1, x2, x3, x4⟩ := X1.out.cells5
    clear hb1
    go_wp2_with fail
    refine (keeperOf_any id up room av rs.length cv f w1).mono ?_
    rintro e w2 ⟨rfl, hb2⟩
    have Z2 := hide_it (Z1.out.after hb2)
    have B2 := hide_it (B1.out.trans (hb2.mono B1.out.size))
    have hs2 : w.heap.size + 2 ≤ w2.heap.size := by have := hb2.size; omega
    clear hb2 x0 x1 x2 x3 x4
    cases up
    · obtain ⟨w3, hw3⟩ : ∃ W, Hid (W = w2.alloc (.cells #[.slice av rs.length cv, .int .i64 f, .int .i64 id, .bool false, .int .i64 room] 58)) := ⟨_, rfl⟩
      have al3 : Hid (Below w2.heap.size w2 w3) := by show Below _ _ _; rw [hw3.out]; exact alloc_below _ _
      have hs3 : w3.heap.size = w2.heap.size + 1 := by rw [hw3.out]; simp
      have Z3 := hide_it (Z2.out.after al3.out)
      have B3 := hide_it (B2.out.trans (al3.out.mono B2.out.size))
      go_wp2_with fail
      rw [← hw3.out]
      refine (keeperHouse_any id false room _ rs f w3 (HV.out _ B3.out) hl).mono ?_
      rintro e w4 ⟨ao, cap, rfl, hm, hb⟩
      obtain ⟨z0, z1, z2, z3, z4⟩ := (Z3.out.after hb).cells5
      obtain ⟨zf0, zf1, zf2, zf3, zf4⟩ := (Z3.out.after hb).free5
      have HM := hide_it hm
      have HB := hide_it (B3.out.trans (hb.mono B3.out.size))
      clear hm hb
      go_wp2
      refine bodyPost_ret (v := houseV id false room (.slice ao rs.length cap) f) (by simp [results, Tryd.results10, go_sem, *]) rfl ?_
      refine ⟨ao, cap, rfl, ?_, ?_⟩
      · refine Made.lo ?_ (show w.heap.size ≤ w3.heap.size by omega)
        repeat (refine Made.setBelow ?_ (by first | (simp; done) | (simp; omega)) _)
        exact HM.out
      · repeat (refine Below.setCell ?_ (by first | (simp; done) | (simp; omega)) _)
        exact HB.out
    · obtain ⟨w3, hw3⟩ : ∃ W, Hid (W = w2.alloc (.cells #[.slice av rs.length cv, .int .i64 f, .int .i64 id, .bool true, .int .i64 room] 58)) := ⟨_, rfl⟩
      have al3 : Hid (Below w2.heap.size w2 w3) := by show Below _ _ _; rw [hw3.out]; exact alloc_below _ _
      have hs3 : w3.heap.size = w2.heap.size + 1 := by rw [hw3.out]; simp
      have Z3 := hide_it (Z2.out.after al3.out)
      have B3 := hide_it (B2.out.trans (al3.out.mono B2.out.size))
      have K3 : Hid (Blk w3 w2.heap.size #[.slice av rs.length cv, .int .i64 f, .int .i64 id, .bool true, .int .i64 room] 58) := by show Blk _ _ _ _; rw [hw3.out]; exact Blk.new _ _ _
      go_wp2_with fail
      rw [← hw3.out]
      refine (LF.out _ B3.out).mono ?_
      rintro e w4 ⟨a4, c4, rfl, hm4, hb4⟩
      have Z4 := hide_it (Z3.out.after hb4)
      have K4 := hide_it (K3.out.after hb4)
      have B4 := hide_it (B3.out.trans (hb4.mono B3.out.size))
      have hs4 : w3.heap.size ≤ w4.heap.size := hb4.size
      have M4 := hide_it (hm4.setTwo (show w2.heap.size < w3.heap.size by omega) (.slice a4 rs.length c4) (.int .i64 rs.length) 0 1)
      obtain ⟨y0, y1, y2, y3, y4⟩ := K4.out.cells5
      obtain ⟨yf0, yf1, yf2, yf3, yf4⟩ := K4.out.free5
      clear hm4 hb4
      obtain ⟨w5, hw5⟩ : ∃ W, Hid (W = (w4.setCell ⟨w2.heap.size, 0, none⟩ (.slice a4 rs.length c4)).setCell ⟨w2.heap.size, 1, none⟩ (.int .i64 rs.length)) := ⟨_, rfl⟩
      rw [← hw5.out] at M4
      have B5 : Hid (Below w.heap.size w w5) := by show Below _ _ _; rw [hw5.out]; exact (B4.out.setCell (by simp; omega) _).setCell (by simp; omega) _
      have Z5 : Hid (Blk w5 (w.heap.size + 1) #[.int .i64 0, .bool false, .int .i64 0, .slice none 0 0, .int .i64 0] 27) := by show Blk _ _ _ _; rw [hw5.out]; exact (Z4.out.other (by simp; omega) _).other (by simp; omega) _
      have hs5 : w5.heap.size = w4.heap.size := by rw [hw5.out]; simp
      go_wp2_with fail
      rw [← hw5.out]
      refine (keeperHouse_any id true room _ rs rs.length w5 M4.out.recs hl).mono ?_
      rintro e w6 ⟨ao, cap, rfl, hm, hb⟩
      obtain ⟨z0, z1, z2, z3, z4⟩ := (Z5.out.after hb).cells5
      obtain ⟨zf0, zf1, zf2, zf3, zf4⟩ := (Z5.out.after hb).free5
      have HM := hide_it hm
      have HB := hide_it (B5.out.trans (hb.mono B5.out.size))
      clear hm hb y0 y1 y2 y3 y4 yf0 yf1 yf2 yf3 yf4
      go_wp2
      refine bodyPost_ret (v := houseV id true room (.slice ao rs.length cap) rs.length) (by simp [results, Tryd.results10, go_sem, *]) rfl ?_
      refine ⟨ao, cap, rfl, ?_, ?_⟩
      · refine Made.lo ?_ (show w.heap.size ≤ w5.heap.size by omega)
        repeat (refine Made.setBelow ?_ (by first | (simp; done) | (simp; omega)) _)
        exact HM.out
      · repeat (refine Below.setCell ?_ (by first | (simp; done) | (simp; omega)) _)
        exact HB.out

set_option maxHeartbeats 4000000 in
theorem implHFall_any (id : Int) (up : Bool) (room : Int) (v : Value) (rs : List R) (f : Int) (keep : Int) (a : Addr) (w : World) (hv : Recs w v rs) (hl : tot rs ≤ 1048576) (hfm : Form v rs.length) (ha : ErrAt w a) :
    Calls Tryd.prog 19 #[houseV id up room v f, .int .i64 keep] w fun e w' => HoO w w' e (hoFall id room rs f keep) := by
  have hrl := tot_len rs
  have HV : Hid (∀ W, Below w.heap.size w W → Recs W v rs) := fun W h => hv.later h (Nat.le_refl _)
  have HA : Hid (∀ W, Below w.heap.size w W → ErrAt W a) := fun W h => ha.later h (Nat.le_refl _)
  have HOK : Hid (∀ W, Below w.heap.size w W → Calls Tryd.prog 22 #[houseV id up room v f] W fun e w' => e = .returned (.bool (hoOk id room rs f)) ∧ Below W.heap.size W w') := fun W h =>
    implHouseOk_any id up room v rs f a W (HV.out W h) hl (HA.out W h)
  obtain ⟨av, cv, rfl⟩ := hv.shape
  clear hv ha
  obtain ⟨w0, hw0⟩ : ∃ W, Hid (W = (w.alloc (.cells #[.int .i64 id, .bool up, .int .i64 room, .slice av rs.length cv, .int .i64 f] 27)).alloc (.cells #[.int .i64 0, .bool false, .int .i64 0, .slice none 0 0, .int .i64 0] 27)) := ⟨_, rfl⟩
  have B0 : Hid (Below w.heap.size w w0) := by show Below _ _ _; rw [hw0.out]; exact below2 _ _ _
  have X0 : Hid (Blk w0 w.heap.size #[.int .i64 id, .bool up, .int .i64 room, .slice av rs.length cv, .int .i64 f] 27) := by show Blk _ _ _ _; rw [hw0.out]; exact (Blk.new _ _ _).alloc _
  have Z0 : Hid (Blk w0 (w.heap.size + 1) #[.int .i64 0, .bool false, .int .i64 0, .slice none 0 0, .int .i64 0] 27) := by show Blk _ _ _ _; rw [hw0.out]; exact Blk.new2 _ _ _ _
  have hs0 : w0.heap.size = w.heap.size + 2 := by rw [hw0.out, size2]
  cases hok : hoOk id room rs f
  · have HR : Hid (hoFall id room rs f keep = hoZ) := by show _ = _; simp [hoFall, hok]
    rw [hok] at HOK
    rw [HR.out]
    clear hok
    go_enter Tryd.func19, Tryd.ntmps19
    go_wp2_with fail
    rw [← hw0.out]
    refine (HOK.out _ B0.out).mono ?_
    rintro e w1 ⟨rfl, hb⟩
    obtain ⟨z0, z1, z2, z3, z4⟩ := (Z0.out.after hb).cells5
    obtain ⟨zf0, zf1, zf2, zf3, zf4⟩ := (Z0.out.after hb).free5
    have HB := hide_it (B0.out.trans (hb.mono B0.out.size))
    clear hb
    go_wp2
    refine bodyPost_ret (v := houseV 0 false 0 (.slice none 0 0) 0) (by simp [results, Tryd.results19, go_sem, *]) rfl (HoO.none_ ?_)
    repeat (refine Below.setCell ?_ (by first | (simp; done) | (simp; omega)) _)
    exact HB.out
  · have HR : Hid (hoFall id room rs f keep = (id, false, room, rs.take (fallN rs.length f keep), (fallN rs.length f keep : Int))) := by show _ = _; simp [hoFall, hok]
    have hlok := (hoOk_parts hok).2.1
    obtain ⟨lf0, lf1, -⟩ := logOk_f hlok
    have hN := fallN_le (keep := keep) lf0 lf1
    obtain ⟨RS, hRS⟩ : ∃ RS, Hid (RS = rs.take (fallN rs.length f keep)) := ⟨_, rfl⟩
    obtain ⟨N, hNN⟩ : ∃ N, Hid (fallN rs.length f keep = N) := ⟨_, rfl⟩
    have hRl : tot RS ≤ 1048576 := by rw [hRS.out]; exact Nat.le_trans (pre_take rs _ hN) hl
    have LF : Hid (∀ W, Below w.heap.size w W → Calls Tryd.prog 23 #[.agg #[.slice av rs.length cv, .int .i64 f], .int .i64 keep] W fun e w' => LogOut W w' e RS N) := fun W h => by
      have := implFall_form _ rs f keep a W (HV.out _ h) hfm hl (HA.out _ h)
      rw [show fallR rs f keep = RS by rw [hRS.out]; simp [fallR, hlok], show fallF rs f keep = N by rw [← hNN.out]; simp [fallF, hlok]] at this
      exact this
    have hRS2 : Hid (rs.take N = RS) := by show _ = _; rw [hRS.out, hNN.out]
    rw [hok] at HOK
    rw [HR.out]
    rw [hNN.out] at hN ⊢
    rw [hRS2.out]
    clear HR
    go_enter Tryd.func19, Tryd.ntmps19
    go_wp2_with fail
    rw [← hw0.out]
    refine (HOK.out _ B0.out).mono ?_
    rintro e w1 ⟨rfl, hb1⟩
    have X1 := hide_it (X0.out.after hb1)
    have Z1 := hide_it (Z0.out.after hb1)
    have B1 := hide_it (B0.out.trans (hb1.mono B0.out.size))
    have hs1 : w.heap.size + 2 ≤ w1.heap.size := by have := hb1.size; omega
    obtain ⟨x0, x1, x2, x3, x4⟩ := X1.out.cells5
    clear hb1
    go_wp2_with fail
    refine (keeperOf_any id up room av rs.length cv f w1).mono ?_
    rintro e w2 ⟨rfl, hb2⟩
    have Z2 := hide_it (Z1.out.after hb2)
    have B2 := hide_it (B1.out.trans (hb2.mono B1.out.size))
    have hs2 : w.heap.size + 2 ≤ w2.heap.size := by have := hb2.size; omega
    clear hb2 x0 x1 x2 x3 x4
    obtain ⟨w3, hw3⟩ : ∃ W, Hid (W = w2.alloc (.cells #[.slice av rs.length cv, .int .i64 f, .int .i64 id, .bool false, .int .i64 room] 58)) := ⟨_, rfl⟩
    have al3 : Hid (Below w2.heap.size w2 w3) := by show Below _ _ _; rw [hw3.out]; exact alloc_below _ _
    have hs3 : w3.heap.size = w2.heap.size + 1 := by rw [hw3.out]; simp
    have Z3 := hide_it (Z2.out.after al3.out)
    have B3 := hide_it (B2.out.trans (al3.out.mono B2.out.size))
    have K3 : Hid (Blk w3 w2.heap.size #[.slice av rs.length cv, .int .i64 f, .int .i64 id, .bool false, .int .i64 room] 58) := by show Blk _ _ _ _; rw [hw3.out]; exact Blk.new _ _ _
    go_wp2_with fail
    rw [← hw3.out]
    refine (LF.out _ B3.out).mono ?_
    rintro e w4 ⟨a4, c4, rfl, hm4, hb4⟩
    have Z4 := hide_it (Z3.out.after hb4)
    have K4 := hide_it (K3.out.after hb4)
    have B4 := hide_it (B3.out.trans (hb4.mono B3.out.size))
    have hs4 : w3.heap.size ≤ w4.heap.size := hb4.size
    have M4 := hide_it (hm4.setTwo (show w2.heap.size < w3.heap.size by omega) (.slice a4 RS.length c4) (.int .i64 N) 0 1)
    obtain ⟨y0, y1, y2, y3, y4⟩ := K4.out.cells5
    obtain ⟨yf0, yf1, yf2, yf3, yf4⟩ := K4.out.free5
    clear hm4 hb4
    obtain ⟨w5, hw5⟩ : ∃ W, Hid (W = (w4.setCell ⟨w2.heap.size, 0, none⟩ (.slice a4 RS.length c4)).setCell ⟨w2.heap.size, 1, none⟩ (.int .i64 N)) := ⟨_, rfl⟩
    rw [← hw5.out] at M4
    have B5 : Hid (Below w.heap.size w w5) := by show Below _ _ _; rw [hw5.out]; exact (B4.out.setCell (by simp; omega) _).setCell (by simp; omega) _
    have Z5 : Hid (Blk w5 (w.heap.size + 1) #[.int .i64 0, .bool false, .int .i64 0, .slice none 0 0, .int .i64 0] 27) := by show Blk _ _ _ _; rw [hw5.out]; exact (Z4.out.other (by simp; omega) _).other (by simp; omega) _
    have hs5 : w5.heap.size = w4.heap.size := by rw [hw5.out]; simp
    go_wp2_with fail
    rw [← hw5.out]
    refine (keeperHouse_any id false room _ RS N w5 M4.out.recs hRl).mono ?_
    rintro e w6 ⟨ao, cap, rfl, hm, hb⟩
    obtain ⟨z0, z1, z2, z3, z4⟩ := (Z5.out.after hb).cells5
    obtain ⟨zf0, zf1, zf2, zf3, zf4⟩ := (Z5.out.after hb).free5
    have HM := hide_it hm
    have HB := hide_it (B5.out.trans (hb.mono B5.out.size))
    clear hm hb y0 y1 y2 y3 y4 yf0 yf1 yf2 yf3 yf4
    go_wp2
    refine bodyPost_ret (v := houseV id false room (.slice ao RS.length cap) N) (by simp [results, Tryd.results19, go_sem, *]) rfl ?_
    refine ⟨ao, cap, rfl, ?_, ?_⟩
    · refine Made.lo ?_ (show w.heap.size ≤ w5.heap.size by omega)
      repeat (refine Made.setBelow ?_ (by first | (simp; done) | (simp; omega)) _)
      exact HM.out
    · repeat (refine Below.setCell ?_ (by first | (simp; done) | (simp; omega)) _)
      exact HB.out

end Go.Proofs.YtckafpmhhoeodaaDoor
