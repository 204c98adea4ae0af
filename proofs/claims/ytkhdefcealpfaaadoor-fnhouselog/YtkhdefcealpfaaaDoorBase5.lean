/- What the last text of this claim stands on, part 5: plain facts and contracts; the last text says what is proved. -/
import Derived.Test.YtkhdefcealpfaaaDoorBase4
import Derived.Deep.RegionLaw
import Derived.Deep.AppendLies
import Derived.Deep.RegionWith
import Derived.Deep.RegionHeld

namespace Go.Proofs.YtkhdefcealpfaaaDoor
open Go.RowKit

/-- A house as plain data: its number, whether it is up, how many it has, its records, how many of them are forced. -/
abbrev Ho := Int × Bool × Int × List R × Int
def hoZ : Ho := (0, false, 0, [], 0)
def hoForce (id : Int) (up : Bool) (room : Int) (rs : List R) (f : Int) : Ho := if hoOk id room rs f = true then (id, up, room, rs, if up = true then rs.length else f) else hoZ
def hoFall (id room : Int) (rs : List R) (f keep : Int) : Ho := if hoOk id room rs f = true then (id, false, room, rs.take (fallN rs.length f keep), fallN rs.length f keep) else hoZ
def hoRise (id room : Int) (rs : List R) (f : Int) : Ho := if hoOk id room rs f = true then (id, true, room, rs, f) else hoZ
def HoO (w w' : World) (e : Ending) (o : Ho) : Prop := HoOut w w' e o.1 o.2.1 o.2.2.1 o.2.2.2.1 o.2.2.2.2
theorem HoO.none_ {w w' : World} (h : Below w.heap.size w w') : HoO w w' (.returned (houseV 0 false 0 (.slice none 0 0) 0)) hoZ := ⟨none, 0, rfl, Made.none _ _, h⟩
theorem hoForce_tot (id : Int) (up : Bool) (room : Int) (rs : List R) (f : Int) (hl : tot rs ≤ 1048576) : tot (hoForce id up room rs f).2.2.2.1 ≤ 1048576 := by
  unfold hoForce; split
  · exact hl
  · simp [hoZ, tot, pre]
theorem hoRise_tot (id room : Int) (rs : List R) (f : Int) (hl : tot rs ≤ 1048576) : tot (hoRise id room rs f).2.2.2.1 ≤ 1048576 := by
  unfold hoRise; split
  · exact hl
  · simp [hoZ, tot, pre]
theorem hoFall_tot (id room : Int) (rs : List R) (f keep : Int) (hl : tot rs ≤ 1048576) : tot (hoFall id room rs f keep).2.2.2.1 ≤ 1048576 := by
  unfold hoFall; split
  · obtain ⟨h0, h1, _⟩ := logOk_f (hoOk_parts (by assumption)).2.1
    exact Nat.le_trans (pre_take rs _ (fallN_le h0 h1)) hl
  · simp [hoZ, tot, pre]
theorem Made.setTwo {w : World} {lo b : Nat} {v : Value} {rs : List R} (h : Made w lo v rs) (hb : b < lo) (x y : Value) (i j : Nat) : Made ((w.setCell ⟨b, i, Option.none⟩ x).setCell ⟨b, j, Option.none⟩ y) lo v rs :=
  (h.setBelow (by simpa using hb) _).setBelow (by simpa using hb) _
/-- A store into a block that holds a house leaves records that the call made. -/
theorem Made.setHouse {w : World} {lo b j : Nat} {v : Value} {rs : List R} {cur : Array Value} (h : Made w lo v rs) (hh : Blk w b cur 29) (x : Value) : Made (w.setCell ⟨b, j, Option.none⟩ x) lo v rs := by
  obtain ⟨ps, hp, h1, h2, h3⟩ := h
  have hs : (w.setCell ⟨b, j, Option.none⟩ x).heap.size = w.heap.size := by simp
  have ap : ∀ {e : TypeId} {sz n : Nat} {y : Value} {xs : List Value}, w.ownsRow lo e sz y n xs → e ≠ 29 → ∀ g, y.ownBlock = some g → g ≠ b := fun hr he g hg => by
    rcases hr.2 with ⟨hv, _⟩ | ⟨g', cap, cur', hv, _, hc, _⟩
    · rw [hv] at hg; simp [Value.ownBlock] at hg
    · rw [hv] at hg
      simp [Value.ownBlock] at hg
      subst hg
      intro e2
      subst e2
      unfold Blk at hh
      rw [hh] at hc
      simp at hc
      exact he hc.2.symm
  refine ⟨ps, hp, ownsRow_setCell_ne h1 (ap h1 (by decide)) x, by rw [hs]; exact h2, ?_⟩
  rw [hs]
  exact ⟨by rw [hs]; exact h3.1, fun p hp => ⟨ownsRow_setCell_ne (h3.2.1 p hp).1 (ap (h3.2.1 p hp).1 (by decide)) x, (h3.2.1 p hp).2⟩, h3.2.2⟩

set_option maxHeartbeats 4000000 in
theorem specHFall_any (id : Int) (up : Bool) (room : Int) (v : Value) (rs : List R) (f : Int) (keep : Int) (w : World) (hv : Recs w v rs) (hl : tot rs ≤ 1048576) :
    Calls Tryd.prog 23 #[houseV id up room v f, .int .i64 keep] w fun e w' => HoO w w' e (hoFall id room rs f keep) := by
  have hrl := tot_len rs
  have HV : Hid (∀ W, Below w.heap.size w W → Recs W v rs) := fun W h => hv.later h (Nat.le_refl _)
  have HOK : Hid (∀ W, Below w.heap.size w W → Calls Tryd.prog 17 #[houseV id up room v f] W fun e w' => e = .returned (.bool (hoOk id room rs f)) ∧ Below W.heap.size W w') := fun W h =>
    specHouseOk_any id up room v rs f W (HV.out W h) hl
  obtain ⟨av, cv, rfl⟩ := hv.shape
  clear hv
  obtain ⟨w0, hw0⟩ : ∃ W, Hid (W = (w.alloc (.cells #[.int .i64 id, .bool up, .int .i64 room, .slice av rs.length cv, .int .i64 f] 29)).alloc (.cells #[.int .i64 0, .bool false, .int .i64 0, .slice none 0 0, .int .i64 0] 29)) := ⟨_, rfl⟩
  have B0 : Hid (Below w.heap.size w w0) := by show Below _ _ _; rw [hw0.out]; exact below2 _ _ _
  have X0 : Hid (Blk w0 w.heap.size #[.int .i64 id, .bool up, .int .i64 room, .slice av rs.length cv, .int .i64 f] 29) := by show Blk _ _ _ _; rw [hw0.out]; exact (Blk.new _ _ _).alloc _
  have Z0 : Hid (Blk w0 (w.heap.size + 1) #[.int .i64 0, .bool false, .int .i64 0, .slice none 0 0, .int .i64 0] 29) := by show Blk _ _ _ _; rw [hw0.out]; exact Blk.new2 _ _ _ _
  have hs0 : w0.heap.size = w.heap.size + 2 := by rw [hw0.out, size2]
  cases hok : hoOk id room rs f
  · have HR : Hid (hoFall id room rs f keep = hoZ) := by show _ = _; simp [hoFall, hok]
    rw [hok] at HOK
    rw [HR.out]
    clear hok
    go_enter Tryd.func23, Tryd.ntmps23
    go_wp2_with fail
    rw [← hw0.out]
    refine (HOK.out _ B0.out).mono ?_
    rintro e w1 ⟨rfl, hb⟩
    obtain ⟨z0, z1, z2, z3, z4⟩ := (Z0.out.after hb).cells5
    obtain ⟨zf0, zf1, zf2, zf3, zf4⟩ := (Z0.out.after hb).free5
    have HB := hide_it (B0.out.trans (hb.mono B0.out.size))
    clear hb
    go_wp2
    refine bodyPost_ret (v := houseV 0 false 0 (.slice none 0 0) 0) (by simp [results, Tryd.results23, go_sem, *]) rfl (HoO.none_ ?_)
    repeat (refine Below.setCell ?_ (by first | (simp; done) | (simp; omega)) _)
    exact HB.out
  · have HR : Hid (hoFall id room rs f keep = (id, false, room, rs.take (fallN rs.length f keep), (fallN rs.length f keep : Int))) := by show _ = _; simp [hoFall, hok]
    obtain ⟨lf0, lf1, -⟩ := logOk_f (hoOk_parts hok).2.1
    have hN := fallN_le (keep := keep) lf0 lf1
    obtain ⟨N, hNN⟩ : ∃ N, Hid (fallN rs.length f keep = N) := ⟨_, rfl⟩
    rw [hok] at HOK
    rw [HR.out]
    rw [hNN.out] at hN ⊢
    clear HR
    go_enter Tryd.func23, Tryd.ntmps23
    go_wp2_with fail
    rw [← hw0.out]
    refine (HOK.out _ B0.out).mono ?_
    rintro e w1 ⟨rfl, hb1⟩
    have X1 := hide_it (X0.out.after hb1)
    have Z1 := hide_it (Z0.out.after hb1)
    have B1 := hide_it (B0.out.trans (hb1.mono B0.out.size))
    have hs1 : w.heap.size + 2 ≤ w1.heap.size := by have := hb1.size; omega
    obtain ⟨x0, x1, x2, x3, x4⟩ := X1.out.cells5
    clear hb1
    go_wp2_with fail
    refine (l11Copy_any id up room _ rs f w1 (HV.out _ B1.out) hl).mono ?_
    rintro e w2 ⟨ao, cap, rfl, hm2, hb2⟩
    have Z2 := hide_it (Z1.out.after hb2)
    have B2 := hide_it (B1.out.trans (hb2.mono B1.out.size))
    have M2 := hide_it hm2
    have hs2 : w.heap.size + 2 ≤ w2.heap.size := by have := hb2.size; omega
    clear hb2 hm2 x0 x1 x2 x3 x4
    obtain ⟨w3, hw3⟩ : ∃ W, Hid (W = w2.alloc (.cells #[.int .i64 id, .bool false, .int .i64 room, .slice ao rs.length cap, .int .i64 f] 29)) := ⟨_, rfl⟩
    have al3 : Hid (Below w2.heap.size w2 w3) := by show Below _ _ _; rw [hw3.out]; exact alloc_below _ _
    have hs3 : w3.heap.size = w2.heap.size + 1 := by rw [hw3.out]; simp
    have Z3 := hide_it (Z2.out.after al3.out)
    have K3 : Hid (Blk w3 w2.heap.size #[.int .i64 id, .bool false, .int .i64 room, .slice ao rs.length cap, .int .i64 f] 29) := by show Blk _ _ _ _; rw [hw3.out]; exact Blk.new _ _ _
    have M3 := hide_it (M2.out.below al3.out (Nat.le_refl _))
    have B3 := hide_it (B2.out.trans (al3.out.mono B2.out.size))
    have LF : Hid (Calls Tryd.prog 49 #[.agg #[.slice ao rs.length cap, .int .i64 f], .int .i64 keep] w3 fun e w' => e = .returned (.agg #[.slice ao N cap, .int .i64 N]) ∧ Below w3.heap.size w3 w') := by
      have := l1Fall_made (keep := keep) M3.out (by omega) lf0 lf1
      rw [hNN.out] at this; exact this
    go_wp2_with fail
    rw [← hw3.out]
    refine LF.out.mono ?_
    rintro e w4 ⟨rfl, hb4⟩
    have M4 := hide_it ((M3.out.below hb4 (Nat.le_refl _)).take hN)
    have B4 := hide_it (B3.out.trans (hb4.mono B3.out.size))
    obtain ⟨z0, z1, z2, z3, z4⟩ := (Z3.out.after hb4).cells5
    obtain ⟨zf0, zf1, zf2, zf3, zf4⟩ := (Z3.out.after hb4).free5
    obtain ⟨y0, y1, y2, y3, y4⟩ := (K3.out.after hb4).cells5
    obtain ⟨yf0, yf1, yf2, yf3, yf4⟩ := (K3.out.after hb4).free5
    have hne : w.heap.size + 1 ≠ w2.heap.size := by omega
    have hne2 : w2.heap.size ≠ w.heap.size + 1 := by omega
    have KT := hide_it (K3.out.after hb4)
    have hlen : (rs.take N).length = N := by simp; omega
    clear hb4
    go_wp2
    refine bodyPost_ret (v := houseV id false room (.slice ao N cap) N) (by simp [results, Tryd.results23, go_sem, *]) rfl ?_
    refine ⟨ao, cap, by rw [hlen], ?_, ?_⟩
    · rw [hlen]
      refine Made.lo ?_ (show w.heap.size ≤ w1.heap.size by omega)
      iterate 5 (refine Made.setBelow ?_ (by first | (simp; done) | (simp; omega)) _)
      exact Made.setHouse (Made.setHouse M4.out KT.out _) (KT.out.set_ 3 _) _
    · iterate 5 (refine Below.setCell ?_ (by first | (simp; done) | (simp; omega)) _)
      iterate 2 (refine Below.setCell ?_ (by simp; omega) _)
      exact B4.out

set_option maxHeartbeats 4000000 in
theorem implHRise_any (id : Int) (up : Bool) (room : Int) (v : Value) (rs : List R) (f : Int) (a : Addr) (w : World) (hv : Recs w v rs) (hl : tot rs ≤ 1048576) (ha : ErrAt w a) :
    Calls Tryd.prog 24 #[houseV id up room v f] w fun e w' => HoO w w' e (hoRise id room rs f) := by
  have hrl := tot_len rs
  have HV : Hid (∀ W, Below w.heap.size w W → Recs W v rs) := fun W h => hv.later h (Nat.le_refl _)
  have HA : Hid (∀ W, Below w.heap.size w W → ErrAt W a) := fun W h => ha.later h (Nat.le_refl _)
  have HOK : Hid (∀ W, Below w.heap.size w W → Calls Tryd.prog 11 #[houseV id up room v f] W fun e w' => e = .returned (.bool (hoOk id room rs f)) ∧ Below W.heap.size W w') := fun W h =>
    implHouseOk_any id up room v rs f a W (HV.out W h) hl (HA.out W h)
  obtain ⟨av, cv, rfl⟩ := hv.shape
  clear hv ha
  obtain ⟨w0, hw0⟩ : ∃ W, Hid (W = (w.alloc (.cells #[.int .i64 id, .bool up, .int .i64 room, .slice av rs.length cv, .int .i64 f] 29)).alloc (.cells #[.int .i64 0, .bool false, .int .i64 0, .slice none 0 0, .int .i64 0] 29)) := ⟨_, rfl⟩
  have B0 : Hid (Below w.heap.size w w0) := by show Below _ _ _; rw [hw0.out]; exact below2 _ _ _
  have X0 : Hid (Blk w0 w.heap.size #[.int .i64 id, .bool up, .int .i64 room, .slice av rs.length cv, .int .i64 f] 29) := by show Blk _ _ _ _; rw [hw0.out]; exact (Blk.new _ _ _).alloc _
  have Z0 : Hid (Blk w0 (w.heap.size + 1) #[.int .i64 0, .bool false, .int .i64 0, .slice none 0 0, .int .i64 0] 29) := by show Blk _ _ _ _; rw [hw0.out]; exact Blk.new2 _ _ _ _
  have hs0 : w0.heap.size = w.heap.size + 2 := by rw [hw0.out, size2]
  cases hok : hoOk id room rs f
  · have HR : Hid (hoRise id room rs f = hoZ) := by show _ = _; simp [hoRise, hok]
    rw [hok] at HOK
    rw [HR.out]
    clear hok
    go_enter Tryd.func24, Tryd.ntmps24
    go_wp2_with fail
    rw [← hw0.out]
    refine (HOK.out _ B0.out).mono ?_
    rintro e w1 ⟨rfl, hb⟩
    obtain ⟨z0, z1, z2, z3, z4⟩ := (Z0.out.after hb).cells5
    obtain ⟨zf0, zf1, zf2, zf3, zf4⟩ := (Z0.out.after hb).free5
    have HB := hide_it (B0.out.trans (hb.mono B0.out.size))
    clear hb
    go_wp2
    refine bodyPost_ret (v := houseV 0 false 0 (.slice none 0 0) 0) (by simp [results, Tryd.results24, go_sem, *]) rfl (HoO.none_ ?_)
    repeat (refine Below.setCell ?_ (by first | (simp; done) | (simp; omega)) _)
    exact HB.out
  · have HR : Hid (hoRise id room rs f = (id, true, room, rs, f)) := by show _ = _; simp [hoRise, hok]
    rw [hok] at HOK
    rw [HR.out]
    clear HR
    go_enter Tryd.func24, Tryd.ntmps24
    go_wp2_with fail
    rw [← hw0.out]
    refine (HOK.out _ B0.out).mono ?_
    rintro e w1 ⟨rfl, hb1⟩
    have X1 := hide_it (X0.out.after hb1)
    have Z1 := hide_it (Z0.out.after hb1)
    have B1 := hide_it (B0.out.trans (hb1.mono B0.out.size))
    have hs1 : w.heap.size + 2 ≤ w1.heap.size := by have := hb1.size; omega
    obtain ⟨x0, x1, x2, x3, x4⟩ := X1.out.cells5
    clear hb1
    go_wp2_with fail
    refine (keeperOf_any id up room av rs.length cv f w1).mono ?_
    rintro e w2 ⟨rfl, hb2⟩
    have Z2 := hide_it (Z1.out.after hb2)
    have B2 := hide_it (B1.out.trans (hb2.mono B1.out.size))
    have hs2 : w.heap.size + 2 ≤ w2.heap.size := by have := hb2.size; omega
    clear hb2 x0 x1 x2 x3 x4
    obtain ⟨w3, hw3⟩ : ∃ W, Hid (W = w2.alloc (.cells #[.slice av rs.length cv, .int .i64 f, .int .i64 id, .bool true, .int .i64 room] 65)) := ⟨_, rfl⟩
    have al3 : Hid (Below w2.heap.size w2 w3) := by show Below _ _ _; rw [hw3.out]; exact alloc_below _ _
    have hs3 : w3.heap.size = w2.heap.size + 1 := by rw [hw3.out]; simp
    have Z3 := hide_it (Z2.out.after al3.out)
    have B3 := hide_it (B2.out.trans (al3.out.mono B2.out.size))
    go_wp2_with fail
    rw [← hw3.out]
    refine (keeperHouse_any id true room _ rs f w3 (HV.out _ B3.out) hl).mono ?_
    rintro e w4 ⟨ao, cap, rfl, hm, hb⟩
    obtain ⟨z0, z1, z2, z3, z4⟩ := (Z3.out.after hb).cells5
    obtain ⟨zf0, zf1, zf2, zf3, zf4⟩ := (Z3.out.after hb).free5
    have HM := hide_it hm
    have HB := hide_it (B3.out.trans (hb.mono B3.out.size))
    clear hm hb
    go_wp2
    refine bodyPost_ret (v := houseV id true room (.slice ao rs.length cap) f) (by simp [results, Tryd.results24, go_sem, *]) rfl ?_
    refine ⟨ao, cap, rfl, ?_, ?_⟩
    · refine Made.lo ?_ (show w.heap.size ≤ w3.heap.size by omega)
      repeat (refine Made.setBelow ?_ (by first | (simp; done) | (simp; omega)) _)
      exact HM.out
    · repeat (refine Below.setCell ?_ (by first | (simp; done) | (simp; omega)) _)
      exact HB.out

set_option maxHeartbeats 4000000 in
theorem implHForce_any (id : Int) (up : Bool) (room : Int) (v : Value) (rs : List R) (f : Int) (a : Addr) (w : World) (hv : Recs w v rs) (hl : tot rs ≤ 1048576) (ha : ErrAt w a) :
    Calls Tryd.prog 19 #[houseV id up room v f] w fun e w' => HoO w w' e (hoForce id up room rs f) := by
  have hrl := tot_len rs
  have HV : Hid (∀ W, Below w.heap.size w W → Recs W v rs) := fun W h => hv.later h (Nat.le_refl _)
  have HA : Hid (∀ W, Below w.heap.size w W → ErrAt W a) := fun W h => ha.later h (Nat.le_refl _)
  have HOK : Hid (∀ W, Below w.heap.size w W → Calls Tryd.prog 11 #[houseV id up room v f] W fun e w' => e = .returned (.bool (hoOk id room rs f)) ∧ Below W.heap.size W w') := fun W h =>
    implHouseOk_any id up room v rs f a W (HV.out W h) hl (HA.out W h)
  obtain ⟨av, cv, rfl⟩ := hv.shape
  clear hv ha
  obtain ⟨w0, hw0⟩ : ∃ W, Hid (W = (w.alloc (.cells #[.int .i64 id, .bool up, .int .i64 room, .slice av rs.length cv, .int .i64 f] 29)).alloc (.cells #[.int .i64 0, .bool false, .int .i64 0, .slice none 0 0, .int .i64 0] 29)) := ⟨_, rfl⟩
  have B0 : Hid (Below w.heap.size w w0) := by show Below _ _ _; rw [hw0.out]; exact below2 _ _ _
  have X0 : Hid (Blk w0 w.heap.size #[.int .i64 id, .bool up, .int .i64 room, .slice av rs.length cv, .int .i64 f] 29) := by show Blk _ _ _ _; rw [hw0.out]; exact (Blk.new _ _ _).alloc _
  have Z0 : Hid (Blk w0 (w.heap.size + 1) #[.int .i64 0, .bool false, .int .i64 0, .slice none 0 0, .int .i64 0] 29) := by show Blk _ _ _ _; rw [hw0.out]; exact Blk.new2 _ _ _ _
  have hs0 : w0.heap.size = w.heap.size + 2 := by rw [hw0.out, size2]
  cases hok : hoOk id room rs f
  · have HR : Hid (hoForce id up room rs f = hoZ) := by show _ = _; simp [hoForce, hok]
    rw [hok] at HOK
    rw [HR.out]
    clear hok
    go_enter Tryd.func19, Tryd.ntmps19
    go_wp2_with fail
    rw [← hw0.out]
    refine (HOK.out _ B0.out).mono ?_
    rintro e w1 ⟨rfl, hb⟩
    obtain ⟨z0, z1, z2, z3, z4⟩ := (Z0.out.after hb).cells5
    obtain ⟨zf0, zf1, zf2, zf3, zf4⟩ := (Z0.out.after hb).free5
    have HB := hide_it (B0.out.trans (hb.mono B0.out.size))
    clear hb
    go_wp2
    refine bodyPost_ret (v := houseV 0 false 0 (.slice none 0 0) 0) (by simp [results, Tryd.results19, go_sem, *]) rfl (HoO.none_ ?_)
    repeat (refine Below.setCell ?_ (by first | (simp; done) | (simp; omega)) _)
    exact HB.out
  · have HR : Hid (hoForce id up room rs f = (id, up, room, rs, if up = true then (rs.length : Int) else f)) := by show _ = _; simp [hoForce, hok]
    have hlok := (hoOk_parts hok).2.1
    have LF : Hid (∀ W, Below w.heap.size w W → Calls Tryd.prog 46 #[.agg #[.slice av rs.length cv, .int .i64 f]] W fun e w' => LogOut W w' e rs rs.length) := fun W h => by
      have := implForce_any _ rs f a W (HV.out _ h) hl (HA.out _ h)
      rw [show forceR rs f = rs by simp [forceR, hlok], show forceF rs f = rs.length by simp [forceF, hlok]] at this
      exact this
    rw [hok] at HOK
    rw [HR.out]
    clear HR
    go_enter Tryd.func19, Tryd.ntmps19
    go_wp2_with fail
    rw [← hw0.out]
    refine (HOK.out _ B0.out).mono ?_
    rintro e w1 ⟨rfl, hb1⟩
    have X1 := hide_it (X0.out.after hb1)
    have Z1 := hide_it (Z0.out.after hb1)
    have B1 := hide_it (B0.out.trans (hb1.mono B0.out.size))
    have hs1 : w.heap.size + 2 ≤ w1.heap.size := by have := hb1.size; omega
    obtain ⟨x0, x1, x2, x3, x4⟩ := X1.out.cells5
    clear hb1
    go_wp2_with fail
    refine (keeperOf_any id up room av rs.length cv f w1).mono ?_
    rintro e w2 ⟨rfl, hb2⟩
    have Z2 := hide_it (Z1.out.after hb2)
    have B2 := hide_it (B1.out.trans (hb2.mono B1.out.size))
    have hs2 : w.heap.size + 2 ≤ w2.heap.size := by have := hb2.size; omega
    clear hb2 x0 x1 x2 x3 x4
    cases up
    · obtain ⟨w3, hw3⟩ : ∃ W, Hid (W = w2.alloc (.cells #[.slice av rs.length cv, .int .i64 f, .int .i64 id, .bool false, .int .i64 room] 65)) := ⟨_, rfl⟩
      have al3 : Hid (Below w2.heap.size w2 w3) := by show Below _ _ _; rw [hw3.out]; exact alloc_below _ _
      have hs3 : w3.heap.size = w2.heap.size + 1 := by rw [hw3.out]; simp
      have Z3 := hide_it (Z2.out.after al3.out)
      have B3 := hide_it (B2.out.trans (al3.out.mono B2.out.size))
      go_wp2_with fail
      rw [← hw3.out]
      refine (keeperHouse_any id false room _ rs f w3 (HV.out _ B3.out) hl).mono ?_
      rintro e w4 ⟨ao, cap, rfl, hm, hb⟩
      obtain ⟨z0, z1, z2, z3, z4⟩ := (Z3.out.after hb).cells5
      obtain ⟨zf0, zf1, zf2, zf3, zf4⟩ := (Z3.out.after hb).free5
      have HM := hide_it hm
      have HB := hide_it (B3.out.trans (hb.mono B3.out.size))
      clear hm hb
      go_wp2
      refine bodyPost_ret (v := houseV id false room (.slice ao rs.length cap) f) (by simp [results, Tryd.results19, go_sem, *]) rfl ?_
      refine ⟨ao, cap, rfl, ?_, ?_⟩
      · refine Made.lo ?_ (show w.heap.size ≤ w3.heap.size by omega)
        repeat (refine Made.setBelow ?_ (by first | (simp; done) | (simp; omega)) _)
        exact HM.out
      · repeat (refine Below.setCell ?_ (by first | (simp; done) | (simp; omega)) _)
        exact HB.out
    · obtain ⟨w3, hw3⟩ : ∃ W, Hid (W = w2.alloc (.cells #[.slice av rs.length cv, .int .i64 f, .int .i64 id, .bool true, .int .i64 room] 65)) := ⟨_, rfl⟩
      have al3 : Hid (Below w2.heap.size w2 w3) := by show Below _ _ _; rw [hw3.out]; exact alloc_below _ _
      have hs3 : w3.heap.size = w2.heap.size + 1 := by rw [hw3.out]; simp
      have Z3 := hide_it (Z2.out.after al3.out)
      have B3 := hide_it (B2.out.trans (al3.out.mono B2.out.size))
      have K3 : Hid (Blk w3 w2.heap.size #[.slice av rs.length cv, .int .i64 f, .int .i64 id, .bool true, .int .i64 room] 65) := by show Blk _ _ _ _; rw [hw3.out]; exact Blk.new _ _ _
      go_wp2_with fail
      rw [← hw3.out]
      refine (LF.out _ B3.out).mono ?_
      rintro e w4 ⟨a4, c4, rfl, hm4, hb4⟩
      have Z4 := hide_it (Z3.out.after hb4)
      have K4 := hide_it (K3.out.after hb4)
      have B4 := hide_it (B3.out.trans (hb4.mono B3.out.size))
      have hs4 : w3.heap.size ≤ w4.heap.size := hb4.size
      have M4 := hide_it (hm4.setTwo (show w2.heap.size < w3.heap.size by omega) (.slice a4 rs.length c4) (.int .i64 rs.length) 0 1)
      obtain ⟨y0, y1, y2, y3, y4⟩ := K4.out.cells5
      obtain ⟨yf0, yf1, yf2, yf3, yf4⟩ := K4.out.free5
      clear hm4 hb4
      obtain ⟨w5, hw5⟩ : ∃ W, Hid (W = (w4.setCell ⟨w2.heap.size, 0, none⟩ (.slice a4 rs.length c4)).setCell ⟨w2.heap.size, 1, none⟩ (.int .i64 rs.length)) := ⟨_, rfl⟩
      rw [← hw5.out] at M4
      have B5 : Hid (Below w.heap.size w w5) := by show Below _ _ _; rw [hw5.out]; exact (B4.out.setCell (by simp; omega) _).setCell (by simp; omega) _
      have Z5 : Hid (Blk w5 (w.heap.size + 1) #[.int .i64 0, .bool false, .int .i64 0, .slice none 0 0, .int .i64 0] 29) := by show Blk _ _ _ _; rw [hw5.out]; exact (Z4.out.other (by simp; omega) _).other (by simp; omega) _
      have hs5 : w5.heap.size = w4.heap.size := by rw [hw5.out]; simp
      go_wp2_with fail
      rw [← hw5.out]
      refine (keeperHouse_any id true room _ rs rs.length w5 M4.out.recs hl).mono ?_
      rintro e w6 ⟨ao, cap, rfl, hm, hb⟩
      obtain ⟨z0, z1, z2, z3, z4⟩ := (Z5.out.after hb).cells5
      obtain ⟨zf0, zf1, zf2, zf3, zf4⟩ := (Z5.out.after hb).free5
      have HM := hide_it hm
      have HB := hide_it (B5.out.trans (hb.mono B5.out.size))
      clear hm hb y0 y1 y2 y3 y4 yf0 yf1 yf2 yf3 yf4
      go_wp2
      refine bodyPost_ret (v := houseV id true room (.slice ao rs.length cap) rs.length) (by simp [results, Tryd.results19, go_sem, *]) rfl ?_
      refine ⟨ao, cap, rfl, ?_, ?_⟩
      · refine Made.lo ?_ (show w.heap.size ≤ w5.heap.size by omega)
        repeat (refine Made.setBelow ?_ (by first | (simp; done) | (simp; omega)) _)
        exact HM.out
      · repeat (refine Below.setCell ?_ (by first | (simp; done) | (simp; omega)) _)
        exact HB.out

set_option maxHeartbeats 4000000 in
theorem implHFall_any (id : Int) (up : Bool) (room : Int) (v : Value) (rs : List R) (f : Int) (keep : Int) (a : Addr) (w : World) (hv : Recs w v rs) (hl : tot rs ≤ 1048576) (hfm : Form v rs.length) (ha : ErrAt w a) :
    Calls Tryd.prog 22 #[houseV id up room v f, .int .i64 keep] w fun e w' => HoO w w' e (hoFall id room rs f keep) := by
  have hrl := tot_len rs
  have HV : Hid (∀ W, Below w.heap.size w W → Recs W v rs) := fun W h => hv.later h (Nat.le_refl _)
  have HA : Hid (∀ W, Below w.heap.size w W → ErrAt W a) := fun W h => ha.later h (Nat.le_refl _)
  have HOK : Hid (∀ W, Below w.heap.size w W → Calls Tryd.prog 11 #[houseV id up room v f] W fun e w' => e = .returned (.bool (hoOk id room rs f)) ∧ Below W.heap.size W w') := fun W h =>
    implHouseOk_any id up room v rs f a W (HV.out W h) hl (HA.out W h)
  obtain ⟨av, cv, rfl⟩ := hv.shape
  clear hv ha
  obtain ⟨w0, hw0⟩ : ∃ W, Hid (W = (w.alloc (.cells #[.int .i64 id, .bool up, .int .i64 room, .slice av rs.length cv, .int .i64 f] 29)).alloc (.cells #[.int .i64 0, .bool false, .int .i64 0, .slice none 0 0, .int .i64 0] 29)) := ⟨_, rfl⟩
  have B0 : Hid (Below w.heap.size w w0) := by show Below _ _ _; rw [hw0.out]; exact below2 _ _ _
  have X0 : Hid (Blk w0 w.heap.size #[.int .i64 id, .bool up, .int .i64 room, .slice av rs.length cv, .int .i64 f] 29) := by show Blk _ _ _ _; rw [hw0.out]; exact (Blk.new _ _ _).alloc _
  have Z0 : Hid (Blk w0 (w.heap.size + 1) #[.int .i64 0, .bool false, .int .i64 0, .slice none 0 0, .int .i64 0] 29) := by show Blk _ _ _ _; rw [hw0.out]; exact Blk.new2 _ _ _ _
  have hs0 : w0.heap.size = w.heap.size + 2 := by rw [hw0.out, size2]
  cases hok : hoOk id room rs f
  · have HR : Hid (hoFall id room rs f keep = hoZ) := by show _ = _; simp [hoFall, hok]
    rw [hok] at HOK
    rw [HR.out]
    clear hok
    go_enter Tryd.func22, Tryd.ntmps22
    go_wp2_with fail
    rw [← hw0.out]
    refine (HOK.out _ B0.out).mono ?_
    rintro e w1 ⟨rfl, hb⟩
    obtain ⟨z0, z1, z2, z3, z4⟩ := (Z0.out.after hb).cells5
    obtain ⟨zf0, zf1, zf2, zf3, zf4⟩ := (Z0.out.after hb).free5
    have HB := hide_it (B0.out.trans (hb.mono B0.out.size))
    clear hb
    go_wp2
    refine bodyPost_ret (v := houseV 0 false 0 (.slice none 0 0) 0) (by simp [results, Tryd.results22, go_sem, *]) rfl (HoO.none_ ?_)
    repeat (refine Below.setCell ?_ (by first | (simp; done) | (simp; omega)) _)
    exact HB.out
  · have HR : Hid (hoFall id room rs f keep = (id, false, room, rs.take (fallN rs.length f keep), (fallN rs.length f keep : Int))) := by show _ = _; simp [hoFall, hok]
    have hlok := (hoOk_parts hok).2.1
    obtain ⟨lf0, lf1, -⟩ := logOk_f hlok
    have hN := fallN_le (keep := keep) lf0 lf1
    obtain ⟨RS, hRS⟩ : ∃ RS, Hid (RS = rs.take (fallN rs.length f keep)) := ⟨_, rfl⟩
    obtain ⟨N, hNN⟩ : ∃ N, Hid (fallN rs.length f keep = N) := ⟨_, rfl⟩
    have hRl : tot RS ≤ 1048576 := by rw [hRS.out]; exact Nat.le_trans (pre_take rs _ hN) hl
    have LF : Hid (∀ W, Below w.heap.size w W → Calls Tryd.prog 26 #[.agg #[.slice av rs.length cv, .int .i64 f], .int .i64 keep] W fun e w' => LogOut W w' e RS N) := fun W h => by
      have := implFall_form _ rs f keep a W (HV.out _ h) hfm hl (HA.out _ h)
      rw [show fallR rs f keep = RS by rw [hRS.out]; simp [fallR, hlok], show fallF rs f keep = N by rw [← hNN.out]; simp [fallF, hlok]] at this
      exact this
    have hRS2 : Hid (rs.take N = RS) := by show _ = _; rw [hRS.out, hNN.out]
    rw [hok] at HOK
    rw [HR.out]
    rw [hNN.out] at hN ⊢
    rw [hRS2.out]
    clear HR
    go_enter Tryd.func22, Tryd.ntmps22
    go_wp2_with fail
    rw [← hw0.out]
    refine (HOK.out _ B0.out).mono ?_
    rintro e w1 ⟨rfl, hb1⟩
    have X1 := hide_it (X0.out.after hb1)
    have Z1 := hide_it (Z0.out.after hb1)
    have B1 := hide_it (B0.out.trans (hb1.mono B0.out.size))
    have hs1 : w.heap.size + 2 ≤ w1.heap.size := by have := hb1.size; omega
    obtain ⟨x0, x1, x2, x3, x4⟩ := X1.out.cells5
    clear hb1
    go_wp2_with fail
    refine (keeperOf_any id up room av rs.length cv f w1).mono ?_
    rintro e w2 ⟨rfl, hb2⟩
    have Z2 := hide_it (Z1.out.after hb2)
    have B2 := hide_it (B1.out.trans (hb2.mono B1.out.size))
    have hs2 : w.heap.size + 2 ≤ w2.heap.size := by have := hb2.size; omega
    clear hb2 x0 x1 x2 x3 x4
    obtain ⟨w3, hw3⟩ : ∃ W, Hid (W = w2.alloc (.cells #[.slice av rs.length cv, .int .i64 f, .int .i64 id, .bool false, .int .i64 room] 65)) := ⟨_, rfl⟩
    have al3 : Hid (Below w2.heap.size w2 w3) := by show Below _ _ _; rw [hw3.out]; exact alloc_below _ _
    have hs3 : w3.heap.size = w2.heap.size + 1 := by rw [hw3.out]; simp
    have Z3 := hide_it (Z2.out.after al3.out)
    have B3 := hide_it (B2.out.trans (al3.out.mono B2.out.size))
    have K3 : Hid (Blk w3 w2.heap.size #[.slice av rs.length cv, .int .i64 f, .int .i64 id, .bool false, .int .i64 room] 65) := by show Blk _ _ _ _; rw [hw3.out]; exact Blk.new _ _ _
    go_wp2_with fail
    rw [← hw3.out]
    refine (LF.out _ B3.out).mono ?_
    rintro e w4 ⟨a4, c4, rfl, hm4, hb4⟩
    have Z4 := hide_it (Z3.out.after hb4)
    have K4 := hide_it (K3.out.after hb4)
    have B4 := hide_it (B3.out.trans (hb4.mono B3.out.size))
    have hs4 : w3.heap.size ≤ w4.heap.size := hb4.size
    have M4 := hide_it (hm4.setTwo (show w2.heap.size < w3.heap.size by omega) (.slice a4 RS.length c4) (.int .i64 N) 0 1)
    obtain ⟨y0, y1, y2, y3, y4⟩ := K4.out.cells5
    obtain ⟨yf0, yf1, yf2, yf3, yf4⟩ := K4.out.free5
    clear hm4 hb4
    obtain ⟨w5, hw5⟩ : ∃ W, Hid (W = (w4.setCell ⟨w2.heap.size, 0, none⟩ (.slice a4 RS.length c4)).setCell ⟨w2.heap.size, 1, none⟩ (.int .i64 N)) := ⟨_, rfl⟩
    rw [← hw5.out] at M4
    have B5 : Hid (Below w.heap.size w w5) := by show Below _ _ _; rw [hw5.out]; exact (B4.out.setCell (by simp; omega) _).setCell (by simp; omega) _
    have Z5 : Hid (Blk w5 (w.heap.size + 1) #[.int .i64 0, .bool false, .int .i64 0, .slice none 0 0, .int .i64 0] 29) := by show Blk _ _ _ _; rw [hw5.out]; exact (Z4.out.other (by simp; omega) _).other (by simp; omega) _
    have hs5 : w5.heap.size = w4.heap.size := by rw [hw5.out]; simp
    go_wp2_with fail
    rw [← hw5.out]
    refine (keeperHouse_any id false room _ RS N w5 M4.out.recs hRl).mono ?_
    rintro e w6 ⟨ao, cap, rfl, hm, hb⟩
    obtain ⟨z0, z1, z2, z3, z4⟩ := (Z5.out.after hb).cells5
    obtain ⟨zf0, zf1, zf2, zf3, zf4⟩ := (Z5.out.after hb).free5
    have HM := hide_it hm
    have HB := hide_it (B5.out.trans (hb.mono B5.out.size))
    clear hm hb y0 y1 y2 y3 y4 yf0 yf1 yf2 yf3 yf4
    go_wp2
    refine bodyPost_ret (v := houseV id false room (.slice ao RS.length cap) N) (by simp [results, Tryd.results22, go_sem, *]) rfl ?_
    refine ⟨ao, cap, rfl, ?_, ?_⟩
    · refine Made.lo ?_ (show w.heap.size ≤ w5.heap.size by omega)
      repeat (refine Made.setBelow ?_ (by first | (simp; done) | (simp; omega)) _)
      exact HM.out
    · repeat (refine Below.setCell ?_ (by first | (simp; done) | (simp; omega)) _)
      exact HB.out

end Go.Proofs.YtkhdefcealpfaaaDoor

namespace Go.Proofs.YtkhdefcealpfaaaDoor
open Go.RowKit

/-- A store into a block of a house leaves the records, and the reader. -/
theorem RcS.setH {w W : World} {b q X i : Nat} {cs : Array Value} {o : Value} {ps : List (R × Value)} (h : RcS w W b q o ps) (hX : Blk W X cs 29) (hw : w.heap.size ≤ X) (x : Value) : RcS w (W.setCell ⟨X, i, none⟩ x) b q o ps := by
  have hl := h.low
  refine ⟨?_, ?_, h.rd.setApart (by omega) _, h.mid.setNew hw _, hl⟩
  · exact ownsRow_setCell_ne h.row (fun g hg => by obtain ⟨cs', hh⟩ := (rowB_at h.row g hg).2; exact ne_of_type hh hX (by decide)) _
  · exact fun p hp => (h.all p hp).keep fun g cs' hh => Below.heap_setCell _ _ _ _ (ne_of_type hh hX (by decide))
theorem Good.lower {W : World} {lo lo' : Nat} {p : R × Value} (h : Good W lo p) (hl : lo' ≤ lo) : Good W lo' p := by
  obtain ⟨h1, h2⟩ := h
  refine ⟨h1, ?_⟩
  rcases h2 with ⟨cap, h2⟩ | h2
  · exact Or.inl ⟨cap, h2.mono hl⟩
  · exact Or.inr h2
/-- While a house is drawn: the result's block, the house's block, its records, the reader. -/
structure HsS (w W : World) (b q S : Nat) (id : Int) (up : Bool) (room : Int) (o : Value) (f : Int) (ps : List (R × Value)) : Prop where
  rc : RcS w W b q o ps
  res : Blk W w.heap.size #[.int .i64 0, .bool false, .int .i64 0, .slice none 0 0, .int .i64 0] 29
  hos : Blk W S #[.int .i64 id, .bool up, .int .i64 room, o, .int .i64 f] 29
  lt : w.heap.size < S
section
variable {w W W' : World} {b q q' S : Nat} {id : Int} {up : Bool} {room : Int} {o : Value} {f : Int} {ps : List (R × Value)}
theorem HsS.step (h : HsS w W b q S id up room o f ps) (hb : Mid b (b + 1) W W') (hr : Rd W' b q') : HsS w W' b q' S id up room o f ps :=
  ⟨h.rc.step hb hr, h.res.mid hb (Or.inr (by have := h.rc.low; omega)), h.hos.mid hb (Or.inr (by have := h.rc.low; have := h.lt; omega)), h.lt⟩
theorem HsS.later (h : HsS w W b q S id up room o f ps) (hb : Below W.heap.size W W') : HsS w W' b q S id up room o f ps :=
  h.step (Mid.of_below hb (Nat.le_refl _)) (h.rc.rd.later hb (Nat.le_refl _))
theorem HsS.setId (h : HsS w W b q S id up room o f ps) (x : Int) : HsS w (W.setCell ⟨S, 0, none⟩ (.int .i64 x)) b q S x up room o f ps :=
  ⟨h.rc.setH h.hos (Nat.le_of_lt h.lt) _, h.res.other (by have := h.lt; simp; omega) _, h.hos.set_ 0 _, h.lt⟩
theorem HsS.setRoom (h : HsS w W b q S id up room o f ps) (x : Int) : HsS w (W.setCell ⟨S, 2, none⟩ (.int .i64 x)) b q S id up x o f ps :=
  ⟨h.rc.setH h.hos (Nat.le_of_lt h.lt) _, h.res.other (by have := h.lt; simp; omega) _, h.hos.set_ 2 _, h.lt⟩
theorem HsS.setF (h : HsS w W b q S id up room o f ps) (x : Int) : HsS w (W.setCell ⟨S, 4, none⟩ (.int .i64 x)) b q S id up room o x ps :=
  ⟨h.rc.setH h.hos (Nat.le_of_lt h.lt) _, h.res.other (by have := h.lt; simp; omega) _, h.hos.set_ 4 _, h.lt⟩
theorem HsS.cells (h : HsS w W b q S id up room o f ps) :
    (W.cell? ⟨S, 0, none⟩ = some (.int .i64 id) ∧ W.cell? ⟨S, 1, none⟩ = some (.bool up) ∧ W.cell? ⟨S, 2, none⟩ = some (.int .i64 room) ∧ W.cell? ⟨S, 3, none⟩ = some o ∧ W.cell? ⟨S, 4, none⟩ = some (.int .i64 f)) ∧
    (W.frozen? ⟨S, 0, none⟩ = false ∧ W.frozen? ⟨S, 1, none⟩ = false ∧ W.frozen? ⟨S, 2, none⟩ = false ∧ W.frozen? ⟨S, 3, none⟩ = false ∧ W.frozen? ⟨S, 4, none⟩ = false) := ⟨h.hos.cells5, h.hos.free5⟩
end
/-- One more record is put behind the others, and the house has them. -/
theorem HsS.pushed {w W w4 : World} {b q S : Nat} {id : Int} {up : Bool} {room : Int} {o o' : Value} {f : Int} {ps : List (R × Value)} {r : R} {x : Value} (h : HsS w W b q S id up room o f ps) (hg : Good W w.heap.size (r, x))
    (hown : w4.ownsRow w.heap.size 71 3 o' (ps.length + 1) (flat ps ++ [.int .i64 r.1, .int .i64 r.2.1, x])) (hgr : W.grownBy w4 o.ownBlock) :
    Hid (HsS w (w4.setCell ⟨S, 3, none⟩ o') b q S id up room o' f (ps ++ [(r, x)])) ∧ (Blk w4 S #[.int .i64 id, .bool up, .int .i64 room, o, .int .i64 f] 29 ∧ Blk w4 w.heap.size #[.int .i64 0, .bool false, .int .i64 0, .slice none 0 0, .int .i64 0] 29) := by
  have hb : ∀ {k : Nat} {cs : Array Value}, Blk W k cs 29 → Blk w4 k cs 29 := fun {k cs} hk => by
    unfold Blk at hk ⊢
    rw [hgr.block k (heap_lt hk) (fun e => by
      obtain ⟨cs', hh⟩ := (rowB_at h.rc.row k e.symm).2
      rw [hk] at hh; simp at hh)]
    exact hk
  have hH := hb h.hos
  have hR := hb h.res
  exact ⟨⟨(h.rc.push hg hown hgr).setH hH (Nat.le_of_lt h.lt) _, hR.other (by have := h.lt; simp; omega) _, hH.set_ 3 _, h.lt⟩, hH, hR⟩
/-- What comes out of the draw: a house whose records lie in memory of the draw's own. -/
def HouGot (w w' : World) (e : Ending) (b p : Nat) : Prop :=
  ∃ (id : Int) (up : Bool) (room : Int) (o : Value) (f : Int) (ps : List (R × Value)) (q : Nat), e = .returned (houseV id up room o f) ∧ ps.length ≤ 14 ∧ q ≤ p + 90 ∧ RcS w w' b q o ps
theorem HsS.done {w W : World} {b q S p : Nat} {id : Int} {up : Bool} {room : Int} {o : Value} {f : Int} {ps : List (R × Value)} (h : HsS w W b q S id up room o f ps) (hp : ps.length ≤ 14) (hq : q ≤ p + 90) (x0 x1 x2 x3 x4 : Value) :
    HouGot w (((((W.setCell ⟨w.heap.size, 0, none⟩ x0).setCell ⟨w.heap.size, 1, none⟩ x1).setCell ⟨w.heap.size, 2, none⟩ x2).setCell ⟨w.heap.size, 3, none⟩ x3).setCell ⟨w.heap.size, 4, none⟩ x4) (.returned (houseV id up room o f)) b p := by
  have e0 := h.res.set_ 0 x0
  have e1 := e0.set_ 1 x1
  have e2 := e1.set_ 2 x2
  have e3 := e2.set_ 3 x3
  exact ⟨id, up, room, o, f, ps, q, rfl, hp, hq, ((((h.rc.setH h.res (Nat.le_refl _) _).setH e0 (Nat.le_refl _) _).setH e1 (Nat.le_refl _) _).setH e2 (Nat.le_refl _) _).setH e3 (Nat.le_refl _) _⟩

set_option maxRecDepth 100000 in
set_option maxHeartbeats 8000000 in
theorem house_draw (b p : Nat) (w : World) (h : Rd w b p) (hp : p ≤ 600000) :
    Calls Tryd.prog 40 #[.pointer (some ⟨b, 0, none⟩)] w fun e w' => HouGot w w' e b p := by
  obtain ⟨i0, hi, hz0, hz1, hz2⟩ := info_parts infoRec
  have hblt := h.lt
  obtain ⟨w0, hw0⟩ : ∃ W, Hid (W = w.alloc (.cells #[.int .i64 0, .bool false, .int .i64 0, .slice none 0 0, .int .i64 0] 29)) := ⟨_, rfl⟩
  have R0 : Hid (Rd w0 b p) := by show Rd _ _ _; rw [hw0.out]; exact h.alloc _
  have M0 : Hid (Mid b (b + 1) w w0) := by show Mid _ _ _ _; rw [hw0.out]; exact (Mid.refl _ _ _).alloc _
  have E0 : Hid (Blk w0 w.heap.size #[.int .i64 0, .bool false, .int .i64 0, .slice none 0 0, .int .i64 0] 29) := by show Blk _ _ _ _; rw [hw0.out]; exact Blk.new _ _ _
  clear h
  go_enter Tryd.func40, Tryd.ntmps40
  go_wp2_with fail
  rw [← hw0.out]
  refine (recs_draw b p _ R0.out (by omega)).mono ?_
  rintro e w1 ⟨room, o, ps, hs, q, rfl, lr, ur, hps, hrow, hall, hrun, hq, r1, m1⟩
  have hzz : w.heap.size < w0.heap.size := E0.out.lt
  have C1 : Hid (RcS w w1 b q o ps) := ⟨ownsRow_base hrow (by omega), fun x hx => (hall x hx).lower (by omega), r1, M0.out.trans m1, hblt⟩
  have E1 := hide_it (E0.out.mid m1 (Or.inr (by omega)))
  obtain ⟨ao, co, hos⟩ := row_shape hrow
  subst hos
  clear hrow hall hrun r1 m1 R0 M0
  go_wp2_with fail
  refine (pick_any b q 3 _ C1.out.rd (by omega) (by omega) (by omega)).mono ?_
  rintro e w2 ⟨x1, rfl, lx1, ux1, r2, m2⟩
  have C2 := hide_it (C1.out.step m2 r2)
  have E2 := hide_it (E1.out.mid m2 (Or.inr (by omega)))
  clear r2 m2 C1 E1
  go_wp2_with fail
  refine (pick_any b (q + 1) 6 _ C2.out.rd (by omega) (by omega) (by omega)).mono ?_
  rintro e w3 ⟨x2, rfl, lx2, ux2, r3, m3⟩
  have C3 := hide_it (C2.out.step m3 r3)
  have E3 := hide_it (E2.out.mid m3 (Or.inr (by omega)))
  clear r3 m3 C2 E2
  obtain ⟨S, hS⟩ : ∃ S, Hid (S = w3.heap.size) := ⟨_, rfl⟩
  obtain ⟨w4, hw4⟩ : ∃ W, Hid (W = w3.alloc (.cells #[.int .i64 (1 + x1), .bool (decide (0 < x2)), .int .i64 room, .slice ao ps.length co, .int .i64 ps.length] 29)) := ⟨_, rfl⟩
  have H4 : Hid (HsS w w4 b (q + 2) S (1 + x1) (decide (0 < x2)) room (.slice ao ps.length co) ps.length ps) := by
    show HsS _ _ _ _ _ _ _ _ _ _ _
    rw [hw4.out, hS.out]
    exact ⟨C3.out.later (alloc_below _ _), E3.out.alloc _, Blk.new _ _ _, E3.out.lt⟩
  clear C3 E3
  go_wp2_with fail
  rw [← hS.out, ← hw4.out]
  -- behind the house as it was made
  refine (pick_any b (q + 2) 2 _ H4.out.rc.rd (by omega) (by omega) (by omega)).mono ?_
  rintro e w5 ⟨y, rfl, ly, uy, r5, m5⟩
  have H5 := hide_it (H4.out.step m5 r5)
  clear r5 m5 H4
  by_cases hy : y = 0
  · subst hy
    go_wp2_with fail
    refine (pick_any b (q + 3) (ps.length + 1) _ H5.out.rc.rd (by omega) (by omega) (by omega)).mono ?_
    rintro e w6 ⟨z6, rfl, lz6, uz6, r6, m6⟩
    have H6 := hide_it (H5.out.step m6 r6)
    clear r6 m6
    obtain ⟨⟨c0, c1, c2, c3, c4⟩, ⟨f0, f1, f2, f3, f4⟩⟩ := H6.out.cells
    obtain ⟨wF, hwF⟩ : ∃ W, Hid (W = w6.setCell ⟨S, 4, none⟩ (.int .i64 z6)) := ⟨_, rfl⟩
    have HF : Hid (HsS w wF b (q + 4) S (1 + x1) (decide (0 < x2)) room (.slice ao ps.length co) z6 ps) := by
      show HsS _ _ _ _ _ _ _ _ _ _ _
      rw [hwF.out]; exact H6.out.setF z6
    go_wp2_with fail
    rw [← hwF.out]
    clear c0 c1 c2 c3 c4 f0 f1 f2 f3 f4
    refine (pick_any b (q + 4) 20 _ HF.out.rc.rd (by omega) (by omega) (by omega)).mono ?_
    rintro e w7 ⟨y2, rfl, ly2, uy2, r7, m7⟩
    have H7 := hide_it (HF.out.step m7 r7)
    clear r7 m7
    by_cases hy0 : y2 = 0
    · subst hy0
      have H8 := hide_it (H7.out.later (alloc_below _ (.cells #[.int .i64 0, .int .i64 4] 3)))
      have N8 := hide_it (Blk.new w7 #[.int .i64 0, .int .i64 4] 3)
      have hb7 : b < w7.heap.size := H7.out.rc.rd.lt
      go_wp2_with fail
      refine (pick_any b (q + 4 + 1) 2 _ H8.out.rc.rd (by omega) (by omega) (by omega)).mono ?_
      rintro e w9 ⟨z, rfl, lz, uz, r9, m9⟩
      have H9 := hide_it (H8.out.step m9 r9)
      have N9 := hide_it (N8.out.mid m9 (Or.inr (by omega)))
      clear r9 m9 H8 N8
      obtain ⟨n0, n1⟩ := N9.out.cells2
      obtain ⟨⟨c0, c1, c2, c3, c4⟩, ⟨f0, f1, f2, f3, f4⟩⟩ := H9.out.cells
      obtain ⟨d0, d1, d2, d3, d4⟩ := H9.out.res.cells5
      obtain ⟨g0, g1, g2, g3, g4⟩ := H9.out.res.free5
      have hne : w.heap.size ≠ S := by have := H9.out.lt; omega
      have hne2 : S ≠ w.heap.size := by have := H9.out.lt; omega
      have hz2 : z = 0 ∨ z = 1 := by omega
      rcases hz2 with rfl | rfl
      · go_wp2
        refine bodyPost_ret (v := houseV 0 (decide (0 < x2)) room (.slice ao ps.length co) z6) (by simp [results, Tryd.results40, go_sem, *]) rfl ?_
        exact (H9.out.setId 0).done (by omega) (by omega) _ _ _ _ _
      · go_wp2
        refine bodyPost_ret (v := houseV 4 (decide (0 < x2)) room (.slice ao ps.length co) z6) (by simp [results, Tryd.results40, go_sem, *]) rfl ?_
        exact (H9.out.setId 4).done (by omega) (by omega) _ _ _ _ _
    by_cases hy1 : y2 = 1
    · subst hy1
      have HD7 := hide_it (H7.out.later (Below.refl _ _).drew)
      obtain ⟨⟨c0, c1, c2, c3, c4⟩, ⟨f0, f1, f2, f3, f4⟩⟩ := H7.out.cells
      go_wp2_with fail
      go_region_law (first
        | (refine step_append_lies _ rfl _ _ 25 rfl w.heap.size 71 i0 (.agg #[.int .i64 0, .int .i64 0, .slice none 0 0]) 3 40 Tryd.underlying25 hi hz0 hz1 hz2 rfl (by decide) (.slice ao ps.length co) ps.length (flat ps) rfl (by exact (ROW8.out _)) ⟨w8.heap.size, 0, none⟩ 1 1 [.int .i64 k, .int .i64 t, .slice (some ⟨g, off, none⟩) zs.length cap8] rfl rfl (by exact news3 _ _ _ _ _) (by exact one3 _ _ _) (by decide) (by unfold maxLen; omega) (by omega) (by simp; omega) _ rfl ?_; intro g9 cap9 w9 hown9 hgrow9 _ _; have P9 := HsS.pushed (r := (k, t, zs)) (H8.out.later (alloc_below _ _)) (GD8.out _) hown9 hgrow9; have PS := hide_it P9.1.out; obtain ⟨j0, j1, j2, j3, j4⟩ := P9.2.1.cells5; obtain ⟨jf0, jf1, jf2, jf3, jf4⟩ := P9.2.1.free5; obtain ⟨d0, d1, d2, d3, d4⟩ := P9.2.2.cells5; obtain ⟨g0, g1, g2, g3, g4⟩ := P9.2.2.free5; have hne : w.heap.size ≠ S := (by have := H8.out.lt; omega); have hne2 : S ≠ w.heap.size := (by have := H8.out.lt; omega); clear P9 hown9 hgrow9)
        | (go_simp; go_at_call 54; refine (rec_draw b ((q + 4) + 1) _ HD7.out.rc.rd (by omega)).mono ?_; rintro e w8 ⟨k, t, u, zs, q8, cap8, rfl, hz, hF, hqa, hqb, r8, m8⟩; have H8 := hide_it (HD7.out.step m8 r8); have F8 := hide_it (hF.mono (lo' := w.heap.size) (by have := H7.out.rc.mid.size; simp; omega)); obtain ⟨g, off, hu⟩ : ∃ g off, u = .slice (some ⟨g, off, none⟩) zs.length cap8 := (by obtain ⟨g, off, cs, h, _⟩ := hF; exact ⟨g, off, h⟩); subst hu; have GD8 : Hid (∀ x, Good (w8.alloc x) w.heap.size ((k, t, zs), .slice (some ⟨g, off, none⟩) zs.length cap8)) := (fun x => ⟨hz, Or.inl ⟨_, F8.out.later (alloc_below _ x) (Nat.le_refl _)⟩⟩); have ROW8 : Hid (∀ x, (w8.alloc x).ownsRow w.heap.size 71 3 (.slice ao ps.length co) ps.length (flat ps)) := (fun x => (H8.out.rc.later (alloc_below _ x)).row); obtain ⟨⟨l0, l1, l2, l3, l4⟩, ⟨lf0, lf1, lf2, lf3, lf4⟩⟩ := H8.out.cells; have l3o := (fun x => cellAlloc l3 x); have hs8 : w.heap.size ≤ w8.heap.size := H8.out.rc.mid.size; clear hF r8 m8))
      all_goals
        go_wp2
        refine bodyPost_ret (v := houseV (1 + x1) (decide (0 < x2)) room (.slice (some ⟨g9, 0, none⟩) (ps.length + 1) cap9) z6) (by simp [results, Tryd.results40, go_sem, *]) rfl ?_
        exact PS.out.done (by simp; omega) (by omega) _ _ _ _ _
    by_cases hy2 : y2 = 2
    · subst hy2
      go_wp2_with fail
      refine (pick_any b (q + 4 + 1) 4 _ H7.out.rc.rd (by omega) (by omega) (by omega)).mono ?_
      rintro e w9 ⟨z, rfl, lz, uz, r9, m9⟩
      have H9 := hide_it (H7.out.step m9 r9)
      clear r9 m9
      obtain ⟨⟨c0, c1, c2, c3, c4⟩, ⟨f0, f1, f2, f3, f4⟩⟩ := H9.out.cells
      obtain ⟨d0, d1, d2, d3, d4⟩ := H9.out.res.cells5
      obtain ⟨g0, g1, g2, g3, g4⟩ := H9.out.res.free5
      have hne : w.heap.size ≠ S := by have := H9.out.lt; omega
      have hne2 : S ≠ w.heap.size := by have := H9.out.lt; omega
      go_wp2
      refine bodyPost_ret (v := houseV (1 + x1) (decide (0 < x2)) z (.slice ao ps.length co) z6) (by simp [results, Tryd.results40, go_sem, *]) rfl ?_
      exact (H9.out.setRoom z).done (by omega) (by omega) _ _ _ _ _
    have e0 : (y2 == 0) = false := by simpa using hy0
    have e1 : (y2 == 1) = false := by simpa using hy1
    have e2 : (y2 == 2) = false := by simpa using hy2
    obtain ⟨⟨c0, c1, c2, c3, c4⟩, ⟨f0, f1, f2, f3, f4⟩⟩ := H7.out.cells
    obtain ⟨d0, d1, d2, d3, d4⟩ := H7.out.res.cells5
    obtain ⟨g0, g1, g2, g3, g4⟩ := H7.out.res.free5
    have hne : w.heap.size ≠ S := by have := H7.out.lt; omega
    have hne2 : S ≠ w.heap.size := by have := H7.out.lt; omega
    go_wp2
    refine bodyPost_ret (v := houseV (1 + x1) (decide (0 < x2)) room (.slice ao ps.length co) z6) (by simp [results, Tryd.results40, go_sem, *]) rfl ?_
    exact H7.out.done (by omega) (by omega) _ _ _ _ _
  · have ey : (y == 0) = false := by simpa using hy
    go_wp2_with fail
    refine (pick_any b (q + 3) 20 _ H5.out.rc.rd (by omega) (by omega) (by omega)).mono ?_
    rintro e w7 ⟨y2, rfl, ly2, uy2, r7, m7⟩
    have H7 := hide_it (H5.out.step m7 r7)
    clear r7 m7
    by_cases hy0 : y2 = 0
    · subst hy0
      have H8 := hide_it (H7.out.later (alloc_below _ (.cells #[.int .i64 0, .int .i64 4] 3)))
      have N8 := hide_it (Blk.new w7 #[.int .i64 0, .int .i64 4] 3)
      have hb7 : b < w7.heap.size := H7.out.rc.rd.lt
      go_wp2_with fail
      refine (pick_any b (q + 3 + 1) 2 _ H8.out.rc.rd (by omega) (by omega) (by omega)).mono ?_
      rintro e w9 ⟨z, rfl, lz, uz, r9, m9⟩
      have H9 := hide_it (H8.out.step m9 r9)
      have N9 := hide_it (N8.out.mid m9 (Or.inr (by omega)))
      clear r9 m9 H8 N8
      obtain ⟨n0, n1⟩ := N9.out.cells2
      obtain ⟨⟨c0, c1, c2, c3, c4⟩, ⟨f0, f1, f2, f3, f4⟩⟩ := H9.out.cells
      obtain ⟨d0, d1, d2, d3, d4⟩ := H9.out.res.cells5
      obtain ⟨g0, g1, g2, g3, g4⟩ := H9.out.res.free5
      have hne : w.heap.size ≠ S := by have := H9.out.lt; omega
      have hne2 : S ≠ w.heap.size := by have := H9.out.lt; omega
      have hz2 : z = 0 ∨ z = 1 := by omega
      rcases hz2 with rfl | rfl
      · go_wp2
        refine bodyPost_ret (v := houseV 0 (decide (0 < x2)) room (.slice ao ps.length co) ps.length) (by simp [results, Tryd.results40, go_sem, *]) rfl ?_
        exact (H9.out.setId 0).done (by omega) (by omega) _ _ _ _ _
      · go_wp2
        refine bodyPost_ret (v := houseV 4 (decide (0 < x2)) room (.slice ao ps.length co) ps.length) (by simp [results, Tryd.results40, go_sem, *]) rfl ?_
        exact (H9.out.setId 4).done (by omega) (by omega) _ _ _ _ _
    by_cases hy1 : y2 = 1
    · subst hy1
      have HD7 := hide_it (H7.out.later (Below.refl _ _).drew)
      obtain ⟨⟨c0, c1, c2, c3, c4⟩, ⟨f0, f1, f2, f3, f4⟩⟩ := H7.out.cells
      go_wp2_with fail
      go_region_law (first
        | (refine step_append_lies _ rfl _ _ 25 rfl w.heap.size 71 i0 (.agg #[.int .i64 0, .int .i64 0, .slice none 0 0]) 3 40 Tryd.underlying25 hi hz0 hz1 hz2 rfl (by decide) (.slice ao ps.length co) ps.length (flat ps) rfl (by exact (ROW8.out _)) ⟨w8.heap.size, 0, none⟩ 1 1 [.int .i64 k, .int .i64 t, .slice (some ⟨g, off, none⟩) zs.length cap8] rfl rfl (by exact news3 _ _ _ _ _) (by exact one3 _ _ _) (by decide) (by unfold maxLen; omega) (by omega) (by simp; omega) _ rfl ?_; intro g9 cap9 w9 hown9 hgrow9 _ _; have P9 := HsS.pushed (r := (k, t, zs)) (H8.out.later (alloc_below _ _)) (GD8.out _) hown9 hgrow9; have PS := hide_it P9.1.out; obtain ⟨j0, j1, j2, j3, j4⟩ := P9.2.1.cells5; obtain ⟨jf0, jf1, jf2, jf3, jf4⟩ := P9.2.1.free5; obtain ⟨d0, d1, d2, d3, d4⟩ := P9.2.2.cells5; obtain ⟨g0, g1, g2, g3, g4⟩ := P9.2.2.free5; have hne : w.heap.size ≠ S := (by have := H8.out.lt; omega); have hne2 : S ≠ w.heap.size := (by have := H8.out.lt; omega); clear P9 hown9 hgrow9)
        | (go_simp; go_at_call 54; refine (rec_draw b ((q + 3) + 1) _ HD7.out.rc.rd (by omega)).mono ?_; rintro e w8 ⟨k, t, u, zs, q8, cap8, rfl, hz, hF, hqa, hqb, r8, m8⟩; have H8 := hide_it (HD7.out.step m8 r8); have F8 := hide_it (hF.mono (lo' := w.heap.size) (by have := H7.out.rc.mid.size; simp; omega)); obtain ⟨g, off, hu⟩ : ∃ g off, u = .slice (some ⟨g, off, none⟩) zs.length cap8 := (by obtain ⟨g, off, cs, h, _⟩ := hF; exact ⟨g, off, h⟩); subst hu; have GD8 : Hid (∀ x, Good (w8.alloc x) w.heap.size ((k, t, zs), .slice (some ⟨g, off, none⟩) zs.length cap8)) := (fun x => ⟨hz, Or.inl ⟨_, F8.out.later (alloc_below _ x) (Nat.le_refl _)⟩⟩); have ROW8 : Hid (∀ x, (w8.alloc x).ownsRow w.heap.size 71 3 (.slice ao ps.length co) ps.length (flat ps)) := (fun x => (H8.out.rc.later (alloc_below _ x)).row); obtain ⟨⟨l0, l1, l2, l3, l4⟩, ⟨lf0, lf1, lf2, lf3, lf4⟩⟩ := H8.out.cells; have l3o := (fun x => cellAlloc l3 x); have hs8 : w.heap.size ≤ w8.heap.size := H8.out.rc.mid.size; clear hF r8 m8))
      all_goals
        go_wp2
        refine bodyPost_ret (v := houseV (1 + x1) (decide (0 < x2)) room (.slice (some ⟨g9, 0, none⟩) (ps.length + 1) cap9) ps.length) (by simp [results, Tryd.results40, go_sem, *]) rfl ?_
        exact PS.out.done (by simp; omega) (by omega) _ _ _ _ _
    by_cases hy2 : y2 = 2
    · subst hy2
      go_wp2_with fail
      refine (pick_any b (q + 3 + 1) 4 _ H7.out.rc.rd (by omega) (by omega) (by omega)).mono ?_
      rintro e w9 ⟨z, rfl, lz, uz, r9, m9⟩
      have H9 := hide_it (H7.out.step m9 r9)
      clear r9 m9
      obtain ⟨⟨c0, c1, c2, c3, c4⟩, ⟨f0, f1, f2, f3, f4⟩⟩ := H9.out.cells
      obtain ⟨d0, d1, d2, d3, d4⟩ := H9.out.res.cells5
      obtain ⟨g0, g1, g2, g3, g4⟩ := H9.out.res.free5
      have hne : w.heap.size ≠ S := by have := H9.out.lt; omega
      have hne2 : S ≠ w.heap.size := by have := H9.out.lt; omega
      go_wp2
      refine bodyPost_ret (v := houseV (1 + x1) (decide (0 < x2)) z (.slice ao ps.length co) ps.length) (by simp [results, Tryd.results40, go_sem, *]) rfl ?_
      exact (H9.out.setRoom z).done (by omega) (by omega) _ _ _ _ _
    have e0 : (y2 == 0) = false := by simpa using hy0
    have e1 : (y2 == 1) = false := by simpa using hy1
    have e2 : (y2 == 2) = false := by simpa using hy2
    obtain ⟨⟨c0, c1, c2, c3, c4⟩, ⟨f0, f1, f2, f3, f4⟩⟩ := H7.out.cells
    obtain ⟨d0, d1, d2, d3, d4⟩ := H7.out.res.cells5
    obtain ⟨g0, g1, g2, g3, g4⟩ := H7.out.res.free5
    have hne : w.heap.size ≠ S := by have := H7.out.lt; omega
    have hne2 : S ≠ w.heap.size := by have := H7.out.lt; omega
    go_wp2
    refine bodyPost_ret (v := houseV (1 + x1) (decide (0 < x2)) room (.slice ao ps.length co) ps.length) (by simp [results, Tryd.results40, go_sem, *]) rfl ?_
    exact H7.out.done (by omega) (by omega) _ _ _ _ _

end Go.Proofs.YtkhdefcealpfaaaDoor

namespace Go.Proofs.YtkhdefcealpfaaaDoor
open Go.RowKit

set_option maxHeartbeats 1000000 in
theorem lnInts_any (v1 v2 : Value) (zs : List Int) (w : World) (h1 : Ints w v1 zs) (h2 : Ints w v2 zs) (hl : zs.length ≤ 1048576) :
    Calls Tryd.prog 71 #[v1, v2] w fun e w' => e = .returned (.bool true) ∧ Below w.heap.size w w' := by
  rcases h1 with ⟨rfl, ao, cap, rfl, -⟩ | ⟨b, off, cap, rfl, hz, hc⟩
  · obtain ⟨ao2, cap2, rfl⟩ := h2.shape
    clear h2
    go_enter Tryd.func71, Tryd.ntmps71
    go_wp2
    refine wp_loop_rounds 1 ?_
    rw [rounds_succ]
    go_wp2
    go_ret
    exact ⟨rfl, Below.refl _ _⟩
  rcases h2 with ⟨h, _⟩ | ⟨b2, off2, cap2, rfl, _, hc2⟩
  · exact absurd h hz
  have HC : Hid (∀ k, k < zs.length → w.cell? ⟨b, off + k, none⟩ = some (.int .i64 (zs.getD k 0))) := hc
  have HC2 : Hid (∀ k, k < zs.length → w.cell? ⟨b2, off2 + k, none⟩ = some (.int .i64 (zs.getD k 0))) := hc2
  have hzl : 0 < zs.length := List.length_pos_iff.2 hz
  have hbw : b < w.heap.size := World.block_lt_of_cell? _ _ (hc 0 hzl)
  have hbw2 : b2 < w.heap.size := World.block_lt_of_cell? _ _ (hc2 0 hzl)
  clear hc hc2 hz
  go_enter Tryd.func71, Tryd.ntmps71
  go_wp2
  go_loopw [5] (fun i wr => ∃ k : Nat, k ≤ zs.length ∧ i = .int .i64 k ∧ Below w.heap.size w wr) (fun i _ => zs.length - (intOf i).toNat)
  case atStart => exact ⟨0, Nat.zero_le _, rfl, Below.refl _ _⟩
  case round =>
    obtain ⟨k, hk, rfl, hbe⟩ := hrel
    by_cases hlt : k < zs.length
    · obtain ⟨z, HZ⟩ : ∃ z, Hid (z = zs.getD k 0) := ⟨_, rfl⟩
      have hck : wr.cell? ⟨b, off + k, none⟩ = some (.int .i64 z) := by rw [HZ.out, hbe.cell (p := ⟨b, off + k, none⟩) hbw]; exact HC.out k hlt
      have hck2 : wr.cell? ⟨b2, off2 + k, none⟩ = some (.int .i64 z) := by rw [HZ.out, hbe.cell (p := ⟨b2, off2 + k, none⟩) hbw2]; exact HC2.out k hlt
      have hli : (k : Int) < (zs.length : Int) := by omega
      have HB : Hid (Below w.heap.size w wr) := hbe
      clear hbe
      go_wp2
      go_quiet (fail)
      go_wp2
      go_roundw
      case rel => exact ⟨k + 1, by omega, by go_num, below_drewN HB.out _⟩
      case measure => simp [intOf]; omega
    · go_wp2
      go_ret
      exact ⟨rfl, hbe⟩

set_option maxHeartbeats 1000000 in
theorem lnRec_any (k t : Int) (v1 v2 : Value) (zs : List Int) (w : World) (h1 : Ints w v1 zs) (h2 : Ints w v2 zs) (hl : zs.length ≤ 1048576) :
    Calls Tryd.prog 61 #[.agg #[.int .i64 k, .int .i64 t, v1], .agg #[.int .i64 k, .int .i64 t, v2]] w fun e w' => e = .returned (.bool true) ∧ Below w.heap.size w w' := by
  have H1 : Hid (∀ o1 o2, Ints ((w.alloc o1).alloc o2) v1 zs) := fun o1 o2 => h1.later (below2 w o1 o2) (Nat.le_refl _)
  have H2 : Hid (∀ o1 o2, Ints ((w.alloc o1).alloc o2) v2 zs) := fun o1 o2 => h2.later (below2 w o1 o2) (Nat.le_refl _)
  clear h1 h2
  go_enter Tryd.func61, Tryd.ntmps61
  go_wp2_with (go_at_call 71; refine (lnInts_any _ _ zs _ (H1.out _ _) (H2.out _ _) hl).mono ?_; rintro e w1 ⟨rfl, hb⟩)
  go_ret
  refine ⟨rfl, (below2 w _ _).trans (Below.mono (by assumption) ?_)⟩
  simp; omega

set_option maxHeartbeats 1000000 in
theorem lnRecs_any (v1 v2 : Value) (rs : List R) (w : World) (h1 : Recs w v1 rs) (h2 : Recs w v2 rs) (hl : tot rs ≤ 1048576) :
    Calls Tryd.prog 50 #[v1, v2] w fun e w' => e = .returned (.bool true) ∧ Below w.heap.size w w' := by
  have hlen := tot_len rs
  have HM : Hid (∀ r ∈ rs, r.2.2.length ≤ 1048576) := fun r hr => Nat.le_trans (tot_mem rs r hr) hl
  rcases h1 with ⟨rfl, ao, cap, rfl⟩ | ⟨b, off, cap, rfl, hz, hc⟩
  · obtain ⟨ao2, cap2, rfl⟩ := h2.shape
    clear h2
    go_enter Tryd.func50, Tryd.ntmps50
    go_wp2
    refine wp_loop_rounds 1 ?_
    rw [rounds_succ]
    go_wp2
    go_ret
    exact ⟨rfl, Below.refl _ _⟩
  rcases h2 with ⟨h, _⟩ | ⟨b2, off2, cap2, rfl, _, hc2⟩
  · exact absurd h hz
  have HC : Hid (∀ i r, rs[i]? = some r → ∃ u, RecCells w b (off + i * 3) r u) := hc
  have HC2 : Hid (∀ i r, rs[i]? = some r → ∃ u, RecCells w b2 (off2 + i * 3) r u) := hc2
  have hzl : 0 < rs.length := List.length_pos_iff.2 hz
  clear hc hc2 hz
  go_enter Tryd.func50, Tryd.ntmps50
  go_wp2
  go_loopw [5] (fun i wr => ∃ k : Nat, k ≤ rs.length ∧ i = .int .i64 k ∧ Below w.heap.size w wr) (fun i _ => rs.length - (intOf i).toNat)
  case atStart => exact ⟨0, Nat.zero_le _, rfl, Below.refl _ _⟩
  case round =>
    obtain ⟨k, hk, rfl, hbe⟩ := hrel
    by_cases hlt : k < rs.length
    · obtain ⟨r, hr⟩ : ∃ r, Hid (rs[k]? = some r) := ⟨rs[k], by show _ = _; simp [hlt]⟩
      have hrl : r.2.2.length ≤ 1048576 := HM.out r (List.mem_of_getElem? hr.out)
      obtain ⟨u, hu⟩ := HC.out k r hr.out
      obtain ⟨u', hu'⟩ := HC2.out k r hr.out
      obtain ⟨c0, c1, c2, hI⟩ := hu.later hbe (Nat.le_refl _)
      obtain ⟨d0, d1, d2, hJ⟩ := hu'.later hbe (Nat.le_refl _)
      have HI : Hid (Ints wr u r.2.2) := hI
      have HJ : Hid (Ints wr u' r.2.2) := hJ
      have hli : (k : Int) < (rs.length : Int) := by omega
      have HB : Hid (Below w.heap.size w wr) := hbe
      clear hbe hI hJ hu hu'
      go_wp2
      go_region_with (go_at_call 61; refine (lnRec_any _ _ _ _ r.2.2 _ ?_ ?_ hrl).mono ?_; exact HI.out.later (Below.refl _ _).drew (Nat.le_refl _); exact HJ.out.later (Below.refl _ _).drew (Nat.le_refl _); rintro e w2 ⟨rfl, hb2⟩; have HB2 := HB.out.drew.trans (hb2.mono HB.out.size); clear hb2)
      all_goals (try go_wp2)
      all_goals
        go_roundw
        case rel => exact ⟨k + 1, by omega, by go_num, HB2⟩
        case measure => simp [intOf]; omega
    · go_wp2
      go_ret
      exact ⟨rfl, hbe⟩

set_option maxHeartbeats 1000000 in
theorem lnLog_any (v1 v2 : Value) (rs : List R) (f : Int) (w : World) (h1 : Recs w v1 rs) (h2 : Recs w v2 rs) (hl : tot rs ≤ 1048576) :
    Calls Tryd.prog 25 #[.agg #[v1, .int .i64 f], .agg #[v2, .int .i64 f]] w fun e w' => e = .returned (.bool true) ∧ Below w.heap.size w w' := by
  have H1 : Hid (∀ o1 o2, Recs ((w.alloc o1).alloc o2) v1 rs) := fun o1 o2 => h1.later (below2 w o1 o2) (Nat.le_refl _)
  have H2 : Hid (∀ o1 o2, Recs ((w.alloc o1).alloc o2) v2 rs) := fun o1 o2 => h2.later (below2 w o1 o2) (Nat.le_refl _)
  obtain ⟨a1, p1, rfl⟩ := h1.shape
  obtain ⟨a2, p2, rfl⟩ := h2.shape
  clear h1 h2
  go_enter Tryd.func25, Tryd.ntmps25
  go_wp2_with fail
  refine (lnRecs_any _ _ rs _ (H1.out _ _) (H2.out _ _) hl).mono ?_
  rintro e w1 ⟨rfl, hb⟩
  obtain ⟨hc, _⟩ := bcell hb
  have HB : Hid (Below w.heap.size w w1) := (below2 w _ _).trans (hb.mono (by simp; omega))
  have hz : w.heap.size + 2 ≤ w1.heap.size := by have := hb.size; rw [size2] at this; exact this
  rw [size2] at hc
  clear hb
  go_wp2
  go_ret
  exact ⟨rfl, HB.out⟩

end Go.Proofs.YtkhdefcealpfaaaDoor

namespace Go.Proofs.YtkhdefcealpfaaaDoor
open Go.RowKit

/-- Records that a draw has made, and the block of a result below them. -/
structure RL (W : World) (base X : Nat) (o : Value) (ps : List (R × Value)) : Prop where
  row : W.ownsRow base 71 3 o ps.length (flat ps)
  all : ∀ p ∈ ps, Good W base p
  blk : ∃ cs, Blk W X cs 29
  low : X < base
theorem RL.set {W : World} {base X i : Nat} {o : Value} {ps : List (R × Value)} (h : RL W base X o ps) (x : Value) : RL (W.setCell ⟨X, i, none⟩ x) base X o ps := by
  obtain ⟨cs, hX⟩ := h.blk
  exact ⟨ownsRow_setCell_below h.row (by simpa using h.low) _, fun p hp => (h.all p hp).keep fun g cs' hh => Below.heap_setCell _ _ _ _ (ne_of_type hh hX (by decide)), ⟨_, hX.set_ i x⟩, h.low⟩

set_option maxHeartbeats 2000000 in
theorem lnHouse_any (id : Int) (up : Bool) (room : Int) (v1 v2 : Value) (rs : List R) (f : Int) (w : World) (h1 : Recs w v1 rs) (h2 : Recs w v2 rs) (hl : tot rs ≤ 1048576) :
    Calls Tryd.prog 10 #[houseV id up room v1 f, houseV id up room v2 f] w fun e w' => e = .returned (.bool true) ∧ Below w.heap.size w w' := by
  have HL : Hid (∀ o1 o2, Calls Tryd.prog 25 #[.agg #[v1, .int .i64 f], .agg #[v2, .int .i64 f]] ((w.alloc o1).alloc o2) fun e w' => e = .returned (.bool true) ∧ Below ((w.alloc o1).alloc o2).heap.size ((w.alloc o1).alloc o2) w') := fun o1 o2 =>
    lnLog_any v1 v2 rs f _ (h1.later (below2 w o1 o2) (Nat.le_refl _)) (h2.later (below2 w o1 o2) (Nat.le_refl _)) hl
  obtain ⟨a1, p1, rfl⟩ := h1.shape
  obtain ⟨a2, p2, rfl⟩ := h2.shape
  clear h1 h2
  cases up
  all_goals
    go_enter Tryd.func10, Tryd.ntmps10
    go_wp2_with fail
    refine (HL.out _ _).mono ?_
    rintro e w1 ⟨rfl, hb⟩
    have HB : Hid (Below w.heap.size w w1) := (below2 w _ _).trans (hb.mono (by simp; omega))
    clear hb
    go_wp2
    go_ret
    exact ⟨rfl, HB.out⟩

set_option maxHeartbeats 2000000 in
theorem drawHouseOk_any (v : Value) (n : Nat) (w : World) (hv : CodeAt w v n) (hn : n ≤ 1048576) :
    Calls Tryd.prog 27 #[v] w fun e w' => ∃ (id : Int) (up : Bool) (room : Int) (o : Value) (f : Int) (rs : List R), e = .returned (houseV id up room o f) ∧ tot rs ≤ 1000 ∧ Recs w' o rs ∧ Form o rs.length ∧ Below w.heap.size w w' := by
  have hv0 := hide_it (hv.later (alloc_below w (.cells #[.int .i64 0, .bool false, .int .i64 0, .slice none 0 0, .int .i64 0] 29)) (Nat.le_refl _))
  have HO := hide_it (open_any v n _ hv0.out hn)
  obtain ⟨ao, cap, rfl, _⟩ := hv
  obtain ⟨w0, hw0⟩ : ∃ W, Hid (W = w.alloc (.cells #[.int .i64 0, .bool false, .int .i64 0, .slice none 0 0, .int .i64 0] 29)) := ⟨_, rfl⟩
  have B0 : Hid (Below w.heap.size w w0) := by show Below _ _ _; rw [hw0.out]; exact alloc_below _ _
  have S0 : Hid (Blk w0 w.heap.size #[.int .i64 0, .bool false, .int .i64 0, .slice none 0 0, .int .i64 0] 29) := by show Blk _ _ _ _; rw [hw0.out]; exact Blk.new _ _ _
  have Z0 : Hid (w0.heap.size = w.heap.size + 1) := by show _ = _; rw [hw0.out]; simp
  rw [← hw0.out] at HO
  clear hv0
  go_enter Tryd.func27, Tryd.ntmps27
  go_wp2_with fail
  rw [← hw0.out]
  refine HO.out.mono ?_
  rintro e w1 ⟨rfl, hr1, hs1, hb1⟩
  have R1 := hide_it hr1
  have B1 := hide_it (B0.out.trans (hb1.mono B0.out.size))
  have S1 := hide_it (S0.out.after hb1)
  have Z1 : Hid (w1.heap.size = w.heap.size + 2) := by show _ = _; rw [hs1, Z0.out]
  clear hr1 hb1 hs1
  go_wp2_with fail
  refine (house_draw _ 0 _ R1.out (by omega)).mono ?_
  rintro e w2 ⟨id, up, room, o, f, ps, q, rfl, hps, hq, hrc⟩
  have B2 := hide_it (B1.out.trans (hrc.mid.below (B := w.heap.size) (by rw [Z0.out]; omega) B1.out.size))
  have S2 := hide_it (S1.out.mid hrc.mid (Or.inl (by rw [Z0.out]; omega)))
  have L2 : Hid (RL w2 w1.heap.size w.heap.size o ps) := ⟨hrc.row, hrc.all, ⟨_, S2.out⟩, by rw [Z1.out]; omega⟩
  have hlen : (ps.map (·.1)).length = ps.length := by simp
  obtain ⟨au, cu, rfl⟩ := row_shape hrc.row
  clear hrc
  obtain ⟨c0, c1, c2, c3, c4⟩ := S2.out.cells5
  obtain ⟨f0, f1, f2, f3, f4⟩ := S2.out.free5
  go_wp2
  refine bodyPost_ret (v := houseV id up room (.slice au ps.length cu) f) (by simp [results, Tryd.results27, go_sem, *]) rfl ?_
  have LF := ((((L2.out.set (i := 0) (.int .i64 id)).set (i := 1) (.bool up)).set (i := 2) (.int .i64 room)).set (i := 3) (.slice au ps.length cu)).set (i := 4) (.int .i64 f)
  refine ⟨id, up, room, _, f, ps.map (·.1), rfl, tot_small ps (by omega) (fun x hx => (LF.all x hx).1), recs_rows LF.row LF.all, ?_, ?_⟩
  · rw [hlen]; exact form_of_row LF.row
  · exact ((((B2.out.setCell (by simp) _).setCell (by simp) _).setCell (by simp) _).setCell (by simp) _).setCell (by simp) _

end Go.Proofs.YtkhdefcealpfaaaDoor

namespace Go.Proofs.YtkhdefcealpfaaaDoor
open Go.RowKit

/-- A stock comes back, in memory of the call's own. -/
def SkOut (W w' : World) (e : Ending) (RR : Int) (HS : List Pl.H) : Prop :=
  ∃ ao cap, e = .returned (.agg #[.int .i64 RR, .slice ao HS.length cap]) ∧ w'.ownsRow W.heap.size 61 2 (.slice ao HS.length cap) HS.length (hflat HS) ∧ Below W.heap.size W w'
theorem SkOut.none_ {W w' : World} (h : Below W.heap.size W w') : SkOut W w' (.returned (.agg #[.int .i64 0, .slice none 0 0])) 0 [] := ⟨none, 0, rfl, World.ownsRow_nil _ _ _ _, h⟩

/-- The records that count; what HouseStock answers by. -/
def cutR (rs : List R) (f : Int) (forced : Bool) : List R := if forced = true then rs.take f.toNat else rs
def hsO (id room : Int) (rs : List R) (f : Int) (forced : Bool) : Option (List Pl.H) := if hoOk id room rs f = true then Pl.sOf room (cutR rs f forced) else none
theorem cutR_tot (rs : List R) (f : Int) (forced : Bool) : tot (cutR rs f forced) ≤ tot rs := by
  unfold cutR; split
  · by_cases h : f.toNat ≤ rs.length
    · exact pre_take rs _ h
    · rw [List.take_of_length_le (by omega)]; exact Nat.le_refl _
  · exact Nat.le_refl _
theorem cutR_len {rs : List R} {f : Int} (h0 : 0 ≤ f) (h1 : f ≤ rs.length) : ((rs.take f.toNat).length : Int) = f := by simp; omega

/-- The first ones of a list that lies in memory. -/
theorem Recs.cut {w : World} {N cap : Nat} {ao : Option Addr} {rs : List R} (h : Recs w (.slice ao rs.length cap) rs) (hN : N ≤ rs.length) : Recs w (.slice ao N cap) (rs.take N) := h.take hN

theorem row_set {w : World} {base b : Nat} {v : Value} {n : Nat} {xs : List Value} {cur : Array Value} {ty : TypeId} (h : w.ownsRow base 61 2 v n xs) (hb : Blk w b cur ty) (ht : ty ≠ 61) (j : Nat) (x : Value) : (w.setCell ⟨b, j, none⟩ x).ownsRow base 61 2 v n xs := by
  refine ownsRow_setCell_ne h (fun g hg e => ?_) x
  subst e
  rcases h.2 with ⟨hv, _⟩ | ⟨g', cap, cur', hv, _, hc, _⟩
  · rw [hv] at hg; simp [Value.ownBlock] at hg
  · rw [hv] at hg
    simp [Value.ownBlock] at hg
    subst hg
    unfold Blk at hb
    rw [hb] at hc
    simp at hc
    exact ht hc.2
theorem row_low {w : World} {base lo : Nat} {v : Value} {n : Nat} {xs : List Value} (h : w.ownsRow base 61 2 v n xs) (hl : lo ≤ base) : w.ownsRow lo 61 2 v n xs := ownsRow_base h hl

set_option maxHeartbeats 2000000 in
theorem allStock_any (id : Int) (up : Bool) (room : Int) (v : Value) (rs : List R) (f : Int) (a : Addr) (w : World) (hv : Recs w v rs) (hl : tot rs ≤ 1048576) (ha : ErrAt w a) :
    Calls Tryd.prog 39 #[keeperV v f id up room] w fun e w' => SkOut w w' e (oR room (Pl.sOf room rs)) (oH (Pl.sOf room rs)) := by
  obtain ⟨RR, hRR⟩ : ∃ x, Hid (oR room (Pl.sOf room rs) = x) := ⟨_, rfl⟩
  obtain ⟨HS, hHS⟩ : ∃ x, Hid (oH (Pl.sOf room rs) = x) := ⟨_, rfl⟩
  obtain ⟨BB, hBB⟩ : ∃ x, Hid ((Pl.sOf room rs).isSome = x) := ⟨_, rfl⟩
  have HO : Hid (∀ W, Below w.heap.size w W → Calls Tryd.prog 18 #[.int .i64 room, v] W fun e w' => StOut W w' e RR HS BB) := fun W h => by
    have := implOf_any room v rs a W (hv.later h (Nat.le_refl _)) hl (ha.later h (Nat.le_refl _))
    rw [hRR.out, hHS.out, hBB.out] at this; exact this
  rw [hRR.out, hHS.out]
  obtain ⟨av, cv, rfl⟩ := hv.shape
  clear hv ha
  obtain ⟨w0, hw0⟩ : ∃ W, Hid (W = (w.alloc (.cells #[.slice av rs.length cv, .int .i64 f, .int .i64 id, .bool up, .int .i64 room] 65)).alloc (.cells #[.int .i64 0, .slice none 0 0] 37)) := ⟨_, rfl⟩
  have B0 : Hid (Below w.heap.size w w0) := by show Below _ _ _; rw [hw0.out]; exact below2 _ _ _
  have Z0 : Hid (Blk w0 (w.heap.size + 1) #[.int .i64 0, .slice none 0 0] 37) := by show Blk _ _ _ _; rw [hw0.out]; exact Blk.new2 _ _ _ _
  have hs0 : w0.heap.size = w.heap.size + 2 := by rw [hw0.out, size2]
  go_enter Tryd.func39, Tryd.ntmps39
  go_wp2_with fail
  rw [← hw0.out]
  refine (HO.out _ B0.out).mono ?_
  rintro e w1 ⟨a1, c1, rfl, ho1, hb1⟩
  have Z1 := hide_it (Z0.out.after hb1)
  have O1 := hide_it ho1
  have B1 := hide_it (B0.out.trans (hb1.mono B0.out.size))
  have hs1 : w.heap.size + 2 ≤ w1.heap.size := by have := hb1.size; omega
  obtain ⟨z0, z1⟩ := Z1.out.cells2
  obtain ⟨zf0, zf1, -, -, -⟩ := Z1.out.free5
  have k0 := fun x => cellAlloc z0 x
  have k1 := fun x => cellAlloc z1 x
  have q0 := fun x => frozenAlloc zf0 (by omega) x
  have q1 := fun x => frozenAlloc zf1 (by omega) x
  clear ho1 hb1
  go_wp2
  refine bodyPost_ret (v := .agg #[.int .i64 RR, .slice a1 HS.length c1]) (by simp [results, Tryd.results39, go_sem, *]) rfl ?_
  refine ⟨a1, c1, rfl, ?_, ?_⟩
  · refine row_low (row_set (row_set (ownsRow_below O1.out (alloc_below _ _) (fun k hk => (O1.out.lt k hk).2)) (Z1.out.alloc _) (by decide) _ _) ((Z1.out.alloc _).set_ 0 _) (by decide) _ _) (by omega)
  · exact ((B1.out.alloc (by omega) _).setCell (by simp) _).setCell (by simp) _

theorem b_drew {w0 w1 : World} (h : Below w0.drew.heap.size w0.drew w1) : Below w0.heap.size w0 w1 := (Below.refl w0.heap.size w0).drew.trans h
theorem b_alloc_drew {w0 w1 : World} {o : Obj} (h : Below (w0.alloc o).drew.heap.size (w0.alloc o).drew w1) : Below w0.heap.size w0 w1 := ((alloc_below w0 o).drew).trans (h.mono (by simp))
theorem z_alloc_drew {w0 w1 : World} {cs : Array Value} {ty : TypeId} (h : Below (w0.alloc (.cells cs ty)).drew.heap.size (w0.alloc (.cells cs ty)).drew w1) : Blk w1 w0.heap.size cs ty := by
  have h0 : Blk (w0.alloc (.cells cs ty)).drew w0.heap.size cs ty := (Blk.new w0 cs ty).after (Below.refl _ _).drew
  exact h0.after h
theorem o_alloc_drew {w0 w1 : World} {o : Obj} {e : TypeId} {sz n : Nat} {v : Value} {xs : List Value} (h : w1.ownsRow (w0.alloc o).drew.heap.size e sz v n xs) : w1.ownsRow w0.heap.size e sz v n xs := ownsRow_base h (by simp)
theorem o_drew {w0 w1 : World} {e : TypeId} {sz n : Nat} {v : Value} {xs : List Value} (h : w1.ownsRow w0.drew.heap.size e sz v n xs) : w1.ownsRow w0.heap.size e sz v n xs := ownsRow_base h (by simp)

end Go.Proofs.YtkhdefcealpfaaaDoor

namespace Go.Proofs.YtkhdefcealpfaaaDoor
open Go.RowKit

/-- What lies behind the region: the stock's block, its holds, the result's block. -/
def StkMet (w0 W : World) (B b : Nat) (RR : Int) (v : Value) (HS : List Pl.H) : Prop :=
  Below w0.heap.size w0 W ∧ Blk W b #[.int .i64 RR, v] 37 ∧ Blk W B #[.int .i64 0, .slice none 0 0] 37 ∧ W.ownsRow w0.heap.size 61 2 v HS.length (hflat HS)
theorem ks2 (w : World) (b2 : Nat) (x y : Value) {b o : Nat} (h : b ≠ b2) : ((w.setCell ⟨b2, 0, none⟩ x).setCell ⟨b2, 1, none⟩ y).cell? ⟨b, o, none⟩ = w.cell? ⟨b, o, none⟩ := by
  rw [World.cell?_of_block (w := w.setCell ⟨b2, 0, none⟩ x) (a := ⟨b, o, none⟩) (Below.heap_setCell _ _ _ _ h), World.cell?_of_block (w := w) (a := ⟨b, o, none⟩) (Below.heap_setCell _ _ _ _ h)]
theorem stkMet_new {w0 w1 : World} {B : Nat} {RR : Int} {v : Value} {HS : List Pl.H} (hb : Below w0.heap.size w0 w1) (hZ : Blk w1 B #[.int .i64 0, .slice none 0 0] 37) (ho : w1.ownsRow w0.heap.size 61 2 v HS.length (hflat HS)) :
    StkMet w0 (w1.alloc (.cells #[.int .i64 RR, v] 37)) B w1.heap.size RR v HS :=
  ⟨hb.alloc hb.size _, Blk.new _ _ _, hZ.alloc _, ownsRow_below ho (alloc_below _ _) (fun k hk => (ho.lt k hk).2)⟩
theorem stkMet_set {w0 w1 : World} {B b : Nat} {RR : Int} {v : Value} {HS : List Pl.H} (hb : Below w0.heap.size w0 w1) (hz : w0.heap.size ≤ b) (hB : B < w0.heap.size) (hY : Blk w1 b #[.int .i64 0, .slice none 0 0] 37) (hZ : Blk w1 B #[.int .i64 0, .slice none 0 0] 37) (ho : w1.ownsRow w0.heap.size 61 2 v HS.length (hflat HS)) :
    StkMet w0 ((w1.setCell ⟨b, 0, none⟩ (.int .i64 RR)).setCell ⟨b, 1, none⟩ v) B b RR v HS :=
  ⟨(hb.setCell hz _).setCell hz _, (hY.set_ 0 _).set_ 1 _, (hZ.other (by simp; omega) _).other (by simp; omega) _, row_set (row_set ho hY (by decide) _ _) (hY.set_ 0 _) (by decide) _ _⟩

set_option maxHeartbeats 4000000 in
theorem forcedStock_nil (id : Int) (up : Bool) (room : Int) (RR : Int) (HS : List Pl.H) (BB : Bool) (w : World) 
    (HO : Hid (∀ W, Below w.heap.size w W → Calls Tryd.prog 18 #[.int .i64 room, .slice none 0 0] W fun e w' => StOut W w' e RR HS BB)) :
    Calls Tryd.prog 38 #[keeperV (.slice none 0 0) 0 id up room] w fun e w' => SkOut w w' e RR HS := by
  obtain ⟨w0, hw0⟩ : ∃ W, Hid (W = (w.alloc (.cells #[.slice none 0 0, .int .i64 0, .int .i64 id, .bool up, .int .i64 room] 65)).alloc (.cells #[.int .i64 0, .slice none 0 0] 37)) := ⟨_, rfl⟩
  have B0 : Hid (Below w.heap.size w w0) := by show Below _ _ _; rw [hw0.out]; exact below2 _ _ _
  have X0 : Hid (Blk w0 w.heap.size #[.slice none 0 0, .int .i64 0, .int .i64 id, .bool up, .int .i64 room] 65) := by show Blk _ _ _ _; rw [hw0.out]; exact (Blk.new _ _ _).alloc _
  have Z0 : Hid (Blk w0 (w.heap.size + 1) #[.int .i64 0, .slice none 0 0] 37) := by show Blk _ _ _ _; rw [hw0.out]; exact Blk.new2 _ _ _ _
  have hs0 : Hid (w0.heap.size = w.heap.size + 2) := by show _ = _; rw [hw0.out, size2]
  have hs1 : w.heap.size + 1 < w0.heap.size := by have := hs0.out; omega
  obtain ⟨x0, x1, x2, x3, x4⟩ := X0.out.cells5
  go_enter Tryd.func38, Tryd.ntmps38
  go_wp2_with fail
  rw [← hw0.out]
  go_cut [3] (fun p W => ∃ b a5 cap5, p = .pointer (some ⟨b, 0, none⟩) ∧ Hid (StkMet w0 W (w.heap.size + 1) b RR (.slice a5 HS.length cap5) HS))
  case first =>
    go_region_held (fun w' => w'.cell? ⟨w.heap.size, 0, none⟩ = some (.slice none 0 0) ∧ w'.cell? ⟨w.heap.size, 1, none⟩ = some (.int .i64 0) ∧ w'.cell? ⟨w.heap.size, 4, none⟩ = some (.int .i64 room)) (first | (go_keep; done) | (refine ⟨(ks2 _ _ _ _ ?_).trans ?_, (ks2 _ _ _ _ ?_).trans ?_, (ks2 _ _ _ _ ?_).trans ?_⟩ <;> first | omega | assumption))
      ((go_at_call 18; refine (HO.out _ ?_).mono ?_; (first | (with_reducible exact B0.out.drew) | exact (B0.out.alloc B0.out.size _).drew); rintro e w1 ⟨a5, cap5, rfl, ho5, hb5⟩; have N5 : Hid (Below w0.heap.size w0 w1) := (by first | (with_reducible exact hide_it (b_drew hb5)) | (with_reducible exact hide_it (b_alloc_drew hb5))); (try (with_reducible have Y5 := hide_it (z_alloc_drew hb5))); have O5 : Hid (w1.ownsRow w0.heap.size 61 2 (.slice a5 HS.length cap5) HS.length (hflat HS)) := (by first | (with_reducible exact hide_it (o_drew ho5)) | (with_reducible exact hide_it (o_alloc_drew ho5))); have Z5 := hide_it (Z0.out.after N5.out); have hs5 := N5.out.size; obtain ⟨y0, y1, y2, y3, y4⟩ := (X0.out.after N5.out).cells5; (try obtain ⟨u0, u1⟩ := Y5.out.cells2); (try obtain ⟨uf0, uf1, -, -, -⟩ := Y5.out.free5); clear ho5 hb5))
    all_goals
      go_wp2_with fail
      go_meet
      case rel => first | exact ⟨_, a5, cap5, rfl, hide_it (stkMet_new N5.out Z5.out O5.out)⟩ | exact ⟨_, a5, cap5, rfl, hide_it (stkMet_set N5.out (by omega) (by omega) Y5.out Z5.out O5.out)⟩
  case rest =>
    obtain ⟨b, a5, cap5, rfl, HMET⟩ := hcut
    have EW := hide_it HMET.out.1
    have YW := hide_it HMET.out.2.1
    have ZW := hide_it HMET.out.2.2.1
    have OW := hide_it HMET.out.2.2.2
    clear HMET x0 x1 x2 x3 x4
    obtain ⟨u0, u1⟩ := YW.out.cells2
    obtain ⟨z0, z1⟩ := ZW.out.cells2
    obtain ⟨zf0, zf1, -, -, -⟩ := ZW.out.free5
    go_wp2
    refine bodyPost_ret (v := .agg #[.int .i64 RR, .slice a5 HS.length cap5]) (by simp [results, Tryd.results38, go_sem, *]) rfl ?_
    refine ⟨a5, cap5, rfl, ?_, ?_⟩
    · exact row_low (row_set (row_set OW.out ZW.out (by decide) _ _) (ZW.out.set_ 0 _) (by decide) _ _) (by omega)
    · exact ((B0.out.trans (EW.out.mono B0.out.size)).setCell (by simp) _).setCell (by simp) _

set_option maxHeartbeats 4000000 in
theorem forcedStock_some (id : Int) (up : Bool) (room : Int) (g n cap N : Nat) (RR : Int) (HS : List Pl.H) (BB : Bool) (w : World) (hN : N ≤ n) (hc : n ≤ cap)
    (HO : Hid (∀ W, Below w.heap.size w W → Calls Tryd.prog 18 #[.int .i64 room, .slice (some ⟨g, 0, none⟩) N cap] W fun e w' => StOut W w' e RR HS BB)) :
    Calls Tryd.prog 38 #[keeperV (.slice (some ⟨g, 0, none⟩) n cap) N id up room] w fun e w' => SkOut w w' e RR HS := by
  obtain ⟨w0, hw0⟩ : ∃ W, Hid (W = (w.alloc (.cells #[.slice (some ⟨g, 0, none⟩) n cap, .int .i64 N, .int .i64 id, .bool up, .int .i64 room] 65)).alloc (.cells #[.int .i64 0, .slice none 0 0] 37)) := ⟨_, rfl⟩
  have B0 : Hid (Below w.heap.size w w0) := by show Below _ _ _; rw [hw0.out]; exact below2 _ _ _
  have X0 : Hid (Blk w0 w.heap.size #[.slice (some ⟨g, 0, none⟩) n cap, .int .i64 N, .int .i64 id, .bool up, .int .i64 room] 65) := by show Blk _ _ _ _; rw [hw0.out]; exact (Blk.new _ _ _).alloc _
  have Z0 : Hid (Blk w0 (w.heap.size + 1) #[.int .i64 0, .slice none 0 0] 37) := by show Blk _ _ _ _; rw [hw0.out]; exact Blk.new2 _ _ _ _
  have hs0 : Hid (w0.heap.size = w.heap.size + 2) := by show _ = _; rw [hw0.out, size2]
  have hs1 : w.heap.size + 1 < w0.heap.size := by have := hs0.out; omega
  obtain ⟨x0, x1, x2, x3, x4⟩ := X0.out.cells5
  go_enter Tryd.func38, Tryd.ntmps38
  go_wp2_with fail
  rw [← hw0.out]
  go_cut [3] (fun p W => ∃ b a5 cap5, p = .pointer (some ⟨b, 0, none⟩) ∧ Hid (StkMet w0 W (w.heap.size + 1) b RR (.slice a5 HS.length cap5) HS))
  case first =>
    go_region_held (fun w' => w'.cell? ⟨w.heap.size, 0, none⟩ = some (.slice (some ⟨g, 0, none⟩) n cap) ∧ w'.cell? ⟨w.heap.size, 1, none⟩ = some (.int .i64 N) ∧ w'.cell? ⟨w.heap.size, 4, none⟩ = some (.int .i64 room)) (first | (go_keep; done) | (refine ⟨(ks2 _ _ _ _ ?_).trans ?_, (ks2 _ _ _ _ ?_).trans ?_, (ks2 _ _ _ _ ?_).trans ?_⟩ <;> first | omega | assumption))
      ((go_at_call 18; refine (HO.out _ ?_).mono ?_; (first | (with_reducible exact B0.out.drew) | exact (B0.out.alloc B0.out.size _).drew); rintro e w1 ⟨a5, cap5, rfl, ho5, hb5⟩; have N5 : Hid (Below w0.heap.size w0 w1) := (by first | (with_reducible exact hide_it (b_drew hb5)) | (with_reducible exact hide_it (b_alloc_drew hb5))); (try (with_reducible have Y5 := hide_it (z_alloc_drew hb5))); have O5 : Hid (w1.ownsRow w0.heap.size 61 2 (.slice a5 HS.length cap5) HS.length (hflat HS)) := (by first | (with_reducible exact hide_it (o_drew ho5)) | (with_reducible exact hide_it (o_alloc_drew ho5))); have Z5 := hide_it (Z0.out.after N5.out); have hs5 := N5.out.size; obtain ⟨y0, y1, y2, y3, y4⟩ := (X0.out.after N5.out).cells5; (try obtain ⟨u0, u1⟩ := Y5.out.cells2); (try obtain ⟨uf0, uf1, -, -, -⟩ := Y5.out.free5); clear ho5 hb5))
    all_goals
      go_wp2_with fail
      go_meet
      case rel => first | exact ⟨_, a5, cap5, rfl, hide_it (stkMet_new N5.out Z5.out O5.out)⟩ | exact ⟨_, a5, cap5, rfl, hide_it (stkMet_set N5.out (by omega) (by omega) Y5.out Z5.out O5.out)⟩
  case rest =>
    obtain ⟨b, a5, cap5, rfl, HMET⟩ := hcut
    have EW := hide_it HMET.out.1
    have YW := hide_it HMET.out.2.1
    have ZW := hide_it HMET.out.2.2.1
    have OW := hide_it HMET.out.2.2.2
    clear HMET x0 x1 x2 x3 x4
    obtain ⟨u0, u1⟩ := YW.out.cells2
    obtain ⟨z0, z1⟩ := ZW.out.cells2
    obtain ⟨zf0, zf1, -, -, -⟩ := ZW.out.free5
    go_wp2
    refine bodyPost_ret (v := .agg #[.int .i64 RR, .slice a5 HS.length cap5]) (by simp [results, Tryd.results38, go_sem, *]) rfl ?_
    refine ⟨a5, cap5, rfl, ?_, ?_⟩
    · exact row_low (row_set (row_set OW.out ZW.out (by decide) _ _) (ZW.out.set_ 0 _) (by decide) _ _) (by omega)
    · exact ((B0.out.trans (EW.out.mono B0.out.size)).setCell (by simp) _).setCell (by simp) _

theorem forcedStock_any (id : Int) (up : Bool) (room : Int) (v : Value) (rs : List R) (f : Int) (a : Addr) (w : World) (hv : Recs w v rs) (hfm : Form v rs.length) (hl : tot rs ≤ 1048576) (h0 : 0 ≤ f) (h1 : f ≤ rs.length) (ha : ErrAt w a) :
    Calls Tryd.prog 38 #[keeperV v f id up room] w fun e w' => SkOut w w' e (oR room (Pl.sOf room (rs.take f.toNat))) (oH (Pl.sOf room (rs.take f.toNat))) := by
  obtain ⟨N, rfl⟩ := Int.eq_ofNat_of_zero_le h0
  have hN : N ≤ rs.length := by omega
  rw [show ((N : Nat) : Int).toNat = N by simp]
  have hrl := tot_len rs
  obtain ⟨ao, cap, rfl⟩ := hv.shape
  have HO : ∀ W, Below w.heap.size w W → Calls Tryd.prog 18 #[.int .i64 room, .slice ao N cap] W fun e w' => StOut W w' e (oR room (Pl.sOf room (rs.take N))) (oH (Pl.sOf room (rs.take N))) (Pl.sOf room (rs.take N)).isSome := fun W h =>
    implOf_any room (.slice ao N cap) (rs.take N) a W ((hv.later h (Nat.le_refl _)).take hN) (Nat.le_trans (pre_take rs N hN) hl) (ha.later h (Nat.le_refl _))
  rcases hfm with ⟨hv0, hn0⟩ | ⟨g, cap', hv0, hc⟩
  · simp only [Value.slice.injEq] at hv0
    obtain ⟨rfl, -, rfl⟩ := hv0
    obtain rfl : N = 0 := by omega
    rw [hn0]
    exact forcedStock_nil id up room _ _ _ w HO
  · simp only [Value.slice.injEq] at hv0
    obtain ⟨rfl, -, rfl⟩ := hv0
    exact forcedStock_some id up room g rs.length cap N _ _ _ w hN hc HO

set_option maxHeartbeats 4000000 in
theorem l11Stock_forced_nil (id : Int) (up : Bool) (room : Int) (RR : Int) (HS : List Pl.H) (BB : Bool) (w : World) 
    (HO : Hid (∀ W, Below w.heap.size w W → Calls Tryd.prog 42 #[.int .i64 room, .slice none 0 0] W fun e w' => StOut W w' e RR HS BB)) :
    Calls Tryd.prog 41 #[houseV id up room (.slice none 0 0) 0, .bool true] w fun e w' => SkOut w w' e RR HS := by
  obtain ⟨w0, hw0⟩ : ∃ W, Hid (W = (w.alloc (.cells #[.int .i64 id, .bool up, .int .i64 room, .slice none 0 0, .int .i64 0] 29)).alloc (.cells #[.int .i64 0, .slice none 0 0] 37)) := ⟨_, rfl⟩
  have B0 : Hid (Below w.heap.size w w0) := by show Below _ _ _; rw [hw0.out]; exact below2 _ _ _
  have X0 : Hid (Blk w0 w.heap.size #[.int .i64 id, .bool up, .int .i64 room, .slice none 0 0, .int .i64 0] 29) := by show Blk _ _ _ _; rw [hw0.out]; exact (Blk.new _ _ _).alloc _
  have Z0 : Hid (Blk w0 (w.heap.size + 1) #[.int .i64 0, .slice none 0 0] 37) := by show Blk _ _ _ _; rw [hw0.out]; exact Blk.new2 _ _ _ _
  have hs0 : Hid (w0.heap.size = w.heap.size + 2) := by show _ = _; rw [hw0.out, size2]
  have hs1 : w.heap.size + 1 < w0.heap.size := by have := hs0.out; omega
  obtain ⟨x0, x1, x2, x3, x4⟩ := X0.out.cells5
  go_enter Tryd.func41, Tryd.ntmps41
  go_wp2_with fail
  rw [← hw0.out]
  go_cut [6] (fun p W => ∃ b a5 cap5, p = .pointer (some ⟨b, 0, none⟩) ∧ Hid (StkMet w0 W (w.heap.size + 1) b RR (.slice a5 HS.length cap5) HS))
  case first =>
    go_region_held (fun w' => w'.cell? ⟨w.heap.size, 2, none⟩ = some (.int .i64 room) ∧ w'.cell? ⟨w.heap.size, 3, none⟩ = some (.slice none 0 0) ∧ w'.cell? ⟨w.heap.size, 0, none⟩ = some (.int .i64 id)) (first | (go_keep; done) | (refine ⟨(ks2 _ _ _ _ ?_).trans ?_, (ks2 _ _ _ _ ?_).trans ?_, (ks2 _ _ _ _ ?_).trans ?_⟩ <;> first | omega | assumption))
      ((go_at_call 42; refine (HO.out _ ?_).mono ?_; (first | (with_reducible exact B0.out.drew) | exact (B0.out.alloc B0.out.size _).drew); rintro e w1 ⟨a5, cap5, rfl, ho5, hb5⟩; have N5 : Hid (Below w0.heap.size w0 w1) := (by first | (with_reducible exact hide_it (b_drew hb5)) | (with_reducible exact hide_it (b_alloc_drew hb5))); (try (with_reducible have Y5 := hide_it (z_alloc_drew hb5))); have O5 : Hid (w1.ownsRow w0.heap.size 61 2 (.slice a5 HS.length cap5) HS.length (hflat HS)) := (by first | (with_reducible exact hide_it (o_drew ho5)) | (with_reducible exact hide_it (o_alloc_drew ho5))); have Z5 := hide_it (Z0.out.after N5.out); have hs5 := N5.out.size; obtain ⟨y0, y1, y2, y3, y4⟩ := (X0.out.after N5.out).cells5; (try obtain ⟨u0, u1⟩ := Y5.out.cells2); (try obtain ⟨uf0, uf1, -, -, -⟩ := Y5.out.free5); clear ho5 hb5))
    all_goals
      go_wp2_with fail
      go_meet
      case rel => first | exact ⟨_, a5, cap5, rfl, hide_it (stkMet_new N5.out Z5.out O5.out)⟩ | exact ⟨_, a5, cap5, rfl, hide_it (stkMet_set N5.out (by omega) (by omega) Y5.out Z5.out O5.out)⟩
  case rest =>
    obtain ⟨b, a5, cap5, rfl, HMET⟩ := hcut
    have EW := hide_it HMET.out.1
    have YW := hide_it HMET.out.2.1
    have ZW := hide_it HMET.out.2.2.1
    have OW := hide_it HMET.out.2.2.2
    clear HMET x0 x1 x2 x3 x4
    obtain ⟨u0, u1⟩ := YW.out.cells2
    obtain ⟨z0, z1⟩ := ZW.out.cells2
    obtain ⟨zf0, zf1, -, -, -⟩ := ZW.out.free5
    go_wp2
    refine bodyPost_ret (v := .agg #[.int .i64 RR, .slice a5 HS.length cap5]) (by simp [results, Tryd.results41, go_sem, *]) rfl ?_
    refine ⟨a5, cap5, rfl, ?_, ?_⟩
    · exact row_low (row_set (row_set OW.out ZW.out (by decide) _ _) (ZW.out.set_ 0 _) (by decide) _ _) (by omega)
    · exact ((B0.out.trans (EW.out.mono B0.out.size)).setCell (by simp) _).setCell (by simp) _

set_option maxHeartbeats 4000000 in
theorem l11Stock_forced_some (id : Int) (up : Bool) (room : Int) (g n cap N : Nat) (RR : Int) (HS : List Pl.H) (BB : Bool) (w : World) (hN : N ≤ n) (hc : n ≤ cap)
    (HO : Hid (∀ W, Below w.heap.size w W → Calls Tryd.prog 42 #[.int .i64 room, .slice (some ⟨g, 0, none⟩) N cap] W fun e w' => StOut W w' e RR HS BB)) :
    Calls Tryd.prog 41 #[houseV id up room (.slice (some ⟨g, 0, none⟩) n cap) N, .bool true] w fun e w' => SkOut w w' e RR HS := by
  obtain ⟨w0, hw0⟩ : ∃ W, Hid (W = (w.alloc (.cells #[.int .i64 id, .bool up, .int .i64 room, .slice (some ⟨g, 0, none⟩) n cap, .int .i64 N] 29)).alloc (.cells #[.int .i64 0, .slice none 0 0] 37)) := ⟨_, rfl⟩
  have B0 : Hid (Below w.heap.size w w0) := by show Below _ _ _; rw [hw0.out]; exact below2 _ _ _
  have X0 : Hid (Blk w0 w.heap.size #[.int .i64 id, .bool up, .int .i64 room, .slice (some ⟨g, 0, none⟩) n cap, .int .i64 N] 29) := by show Blk _ _ _ _; rw [hw0.out]; exact (Blk.new _ _ _).alloc _
  have Z0 : Hid (Blk w0 (w.heap.size + 1) #[.int .i64 0, .slice none 0 0] 37) := by show Blk _ _ _ _; rw [hw0.out]; exact Blk.new2 _ _ _ _
  have hs0 : Hid (w0.heap.size = w.heap.size + 2) := by show _ = _; rw [hw0.out, size2]
  have hs1 : w.heap.size + 1 < w0.heap.size := by have := hs0.out; omega
  obtain ⟨x0, x1, x2, x3, x4⟩ := X0.out.cells5
  go_enter Tryd.func41, Tryd.ntmps41
  go_wp2_with fail
  rw [← hw0.out]
  go_cut [6] (fun p W => ∃ b a5 cap5, p = .pointer (some ⟨b, 0, none⟩) ∧ Hid (StkMet w0 W (w.heap.size + 1) b RR (.slice a5 HS.length cap5) HS))
  case first =>
    go_region_held (fun w' => w'.cell? ⟨w.heap.size, 2, none⟩ = some (.int .i64 room) ∧ w'.cell? ⟨w.heap.size, 3, none⟩ = some (.slice (some ⟨g, 0, none⟩) n cap) ∧ w'.cell? ⟨w.heap.size, 0, none⟩ = some (.int .i64 id)) (first | (go_keep; done) | (refine ⟨(ks2 _ _ _ _ ?_).trans ?_, (ks2 _ _ _ _ ?_).trans ?_, (ks2 _ _ _ _ ?_).trans ?_⟩ <;> first | omega | assumption))
      ((go_at_call 42; refine (HO.out _ ?_).mono ?_; (first | (with_reducible exact B0.out.drew) | exact (B0.out.alloc B0.out.size _).drew); rintro e w1 ⟨a5, cap5, rfl, ho5, hb5⟩; have N5 : Hid (Below w0.heap.size w0 w1) := (by first | (with_reducible exact hide_it (b_drew hb5)) | (with_reducible exact hide_it (b_alloc_drew hb5))); (try (with_reducible have Y5 := hide_it (z_alloc_drew hb5))); have O5 : Hid (w1.ownsRow w0.heap.size 61 2 (.slice a5 HS.length cap5) HS.length (hflat HS)) := (by first | (with_reducible exact hide_it (o_drew ho5)) | (with_reducible exact hide_it (o_alloc_drew ho5))); have Z5 := hide_it (Z0.out.after N5.out); have hs5 := N5.out.size; obtain ⟨y0, y1, y2, y3, y4⟩ := (X0.out.after N5.out).cells5; (try obtain ⟨u0, u1⟩ := Y5.out.cells2); (try obtain ⟨uf0, uf1, -, -, -⟩ := Y5.out.free5); clear ho5 hb5))
    all_goals
      go_wp2_with fail
      go_meet
      case rel => first | exact ⟨_, a5, cap5, rfl, hide_it (stkMet_new N5.out Z5.out O5.out)⟩ | exact ⟨_, a5, cap5, rfl, hide_it (stkMet_set N5.out (by omega) (by omega) Y5.out Z5.out O5.out)⟩
  case rest =>
    obtain ⟨b, a5, cap5, rfl, HMET⟩ := hcut
    have EW := hide_it HMET.out.1
    have YW := hide_it HMET.out.2.1
    have ZW := hide_it HMET.out.2.2.1
    have OW := hide_it HMET.out.2.2.2
    clear HMET x0 x1 x2 x3 x4
    obtain ⟨u0, u1⟩ := YW.out.cells2
    obtain ⟨z0, z1⟩ := ZW.out.cells2
    obtain ⟨zf0, zf1, -, -, -⟩ := ZW.out.free5
    go_wp2
    refine bodyPost_ret (v := .agg #[.int .i64 RR, .slice a5 HS.length cap5]) (by simp [results, Tryd.results41, go_sem, *]) rfl ?_
    refine ⟨a5, cap5, rfl, ?_, ?_⟩
    · exact row_low (row_set (row_set OW.out ZW.out (by decide) _ _) (ZW.out.set_ 0 _) (by decide) _ _) (by omega)
    · exact ((B0.out.trans (EW.out.mono B0.out.size)).setCell (by simp) _).setCell (by simp) _

set_option maxHeartbeats 4000000 in
theorem l11Stock_all_nil (id : Int) (up : Bool) (room : Int) (f : Int) (RR : Int) (HS : List Pl.H) (BB : Bool) (w : World) 
    (HO : Hid (∀ W, Below w.heap.size w W → Calls Tryd.prog 42 #[.int .i64 room, .slice none 0 0] W fun e w' => StOut W w' e RR HS BB)) :
    Calls Tryd.prog 41 #[houseV id up room (.slice none 0 0) f, .bool false] w fun e w' => SkOut w w' e RR HS := by
  obtain ⟨w0, hw0⟩ : ∃ W, Hid (W = (w.alloc (.cells #[.int .i64 id, .bool up, .int .i64 room, .slice none 0 0, .int .i64 f] 29)).alloc (.cells #[.int .i64 0, .slice none 0 0] 37)) := ⟨_, rfl⟩
  have B0 : Hid (Below w.heap.size w w0) := by show Below _ _ _; rw [hw0.out]; exact below2 _ _ _
  have X0 : Hid (Blk w0 w.heap.size #[.int .i64 id, .bool up, .int .i64 room, .slice none 0 0, .int .i64 f] 29) := by show Blk _ _ _ _; rw [hw0.out]; exact (Blk.new _ _ _).alloc _
  have Z0 : Hid (Blk w0 (w.heap.size + 1) #[.int .i64 0, .slice none 0 0] 37) := by show Blk _ _ _ _; rw [hw0.out]; exact Blk.new2 _ _ _ _
  have hs0 : Hid (w0.heap.size = w.heap.size + 2) := by show _ = _; rw [hw0.out, size2]
  have hs1 : w.heap.size + 1 < w0.heap.size := by have := hs0.out; omega
  obtain ⟨x0, x1, x2, x3, x4⟩ := X0.out.cells5
  go_enter Tryd.func41, Tryd.ntmps41
  go_wp2_with fail
  rw [← hw0.out]
  go_cut [6] (fun p W => ∃ b a5 cap5, p = .pointer (some ⟨b, 0, none⟩) ∧ Hid (StkMet w0 W (w.heap.size + 1) b RR (.slice a5 HS.length cap5) HS))
  case first =>
    go_region_held (fun w' => w'.cell? ⟨w.heap.size, 2, none⟩ = some (.int .i64 room) ∧ w'.cell? ⟨w.heap.size, 3, none⟩ = some (.slice none 0 0) ∧ w'.cell? ⟨w.heap.size, 0, none⟩ = some (.int .i64 id)) (first | (go_keep; done) | (refine ⟨(ks2 _ _ _ _ ?_).trans ?_, (ks2 _ _ _ _ ?_).trans ?_, (ks2 _ _ _ _ ?_).trans ?_⟩ <;> first | omega | assumption))
      ((go_at_call 42; refine (HO.out _ ?_).mono ?_; (first | (with_reducible exact B0.out.drew) | exact (B0.out.alloc B0.out.size _).drew); rintro e w1 ⟨a5, cap5, rfl, ho5, hb5⟩; have N5 : Hid (Below w0.heap.size w0 w1) := (by first | (with_reducible exact hide_it (b_drew hb5)) | (with_reducible exact hide_it (b_alloc_drew hb5))); (try (with_reducible have Y5 := hide_it (z_alloc_drew hb5))); have O5 : Hid (w1.ownsRow w0.heap.size 61 2 (.slice a5 HS.length cap5) HS.length (hflat HS)) := (by first | (with_reducible exact hide_it (o_drew ho5)) | (with_reducible exact hide_it (o_alloc_drew ho5))); have Z5 := hide_it (Z0.out.after N5.out); have hs5 := N5.out.size; obtain ⟨y0, y1, y2, y3, y4⟩ := (X0.out.after N5.out).cells5; (try obtain ⟨u0, u1⟩ := Y5.out.cells2); (try obtain ⟨uf0, uf1, -, -, -⟩ := Y5.out.free5); clear ho5 hb5))
    all_goals
      go_wp2_with fail
      go_meet
      case rel => first | exact ⟨_, a5, cap5, rfl, hide_it (stkMet_new N5.out Z5.out O5.out)⟩ | exact ⟨_, a5, cap5, rfl, hide_it (stkMet_set N5.out (by omega) (by omega) Y5.out Z5.out O5.out)⟩
  case rest =>
    obtain ⟨b, a5, cap5, rfl, HMET⟩ := hcut
    have EW := hide_it HMET.out.1
    have YW := hide_it HMET.out.2.1
    have ZW := hide_it HMET.out.2.2.1
    have OW := hide_it HMET.out.2.2.2
    clear HMET x0 x1 x2 x3 x4
    obtain ⟨u0, u1⟩ := YW.out.cells2
    obtain ⟨z0, z1⟩ := ZW.out.cells2
    obtain ⟨zf0, zf1, -, -, -⟩ := ZW.out.free5
    go_wp2
    refine bodyPost_ret (v := .agg #[.int .i64 RR, .slice a5 HS.length cap5]) (by simp [results, Tryd.results41, go_sem, *]) rfl ?_
    refine ⟨a5, cap5, rfl, ?_, ?_⟩
    · exact row_low (row_set (row_set OW.out ZW.out (by decide) _ _) (ZW.out.set_ 0 _) (by decide) _ _) (by omega)
    · exact ((B0.out.trans (EW.out.mono B0.out.size)).setCell (by simp) _).setCell (by simp) _

set_option maxHeartbeats 4000000 in
theorem l11Stock_all_some (id : Int) (up : Bool) (room : Int) (f : Int) (g n cap : Nat) (RR : Int) (HS : List Pl.H) (BB : Bool) (w : World) (hc : n ≤ cap)
    (HO : Hid (∀ W, Below w.heap.size w W → Calls Tryd.prog 42 #[.int .i64 room, .slice (some ⟨g, 0, none⟩) n cap] W fun e w' => StOut W w' e RR HS BB)) :
    Calls Tryd.prog 41 #[houseV id up room (.slice (some ⟨g, 0, none⟩) n cap) f, .bool false] w fun e w' => SkOut w w' e RR HS := by
  obtain ⟨w0, hw0⟩ : ∃ W, Hid (W = (w.alloc (.cells #[.int .i64 id, .bool up, .int .i64 room, .slice (some ⟨g, 0, none⟩) n cap, .int .i64 f] 29)).alloc (.cells #[.int .i64 0, .slice none 0 0] 37)) := ⟨_, rfl⟩
  have B0 : Hid (Below w.heap.size w w0) := by show Below _ _ _; rw [hw0.out]; exact below2 _ _ _
  have X0 : Hid (Blk w0 w.heap.size #[.int .i64 id, .bool up, .int .i64 room, .slice (some ⟨g, 0, none⟩) n cap, .int .i64 f] 29) := by show Blk _ _ _ _; rw [hw0.out]; exact (Blk.new _ _ _).alloc _
  have Z0 : Hid (Blk w0 (w.heap.size + 1) #[.int .i64 0, .slice none 0 0] 37) := by show Blk _ _ _ _; rw [hw0.out]; exact Blk.new2 _ _ _ _
  have hs0 : Hid (w0.heap.size = w.heap.size + 2) := by show _ = _; rw [hw0.out, size2]
  have hs1 : w.heap.size + 1 < w0.heap.size := by have := hs0.out; omega
  obtain ⟨x0, x1, x2, x3, x4⟩ := X0.out.cells5
  go_enter Tryd.func41, Tryd.ntmps41
  go_wp2_with fail
  rw [← hw0.out]
  go_cut [6] (fun p W => ∃ b a5 cap5, p = .pointer (some ⟨b, 0, none⟩) ∧ Hid (StkMet w0 W (w.heap.size + 1) b RR (.slice a5 HS.length cap5) HS))
  case first =>
    go_region_held (fun w' => w'.cell? ⟨w.heap.size, 2, none⟩ = some (.int .i64 room) ∧ w'.cell? ⟨w.heap.size, 3, none⟩ = some (.slice (some ⟨g, 0, none⟩) n cap) ∧ w'.cell? ⟨w.heap.size, 0, none⟩ = some (.int .i64 id)) (first | (go_keep; done) | (refine ⟨(ks2 _ _ _ _ ?_).trans ?_, (ks2 _ _ _ _ ?_).trans ?_, (ks2 _ _ _ _ ?_).trans ?_⟩ <;> first | omega | assumption))
      ((go_at_call 42; refine (HO.out _ ?_).mono ?_; (first | (with_reducible exact B0.out.drew) | exact (B0.out.alloc B0.out.size _).drew); rintro e w1 ⟨a5, cap5, rfl, ho5, hb5⟩; have N5 : Hid (Below w0.heap.size w0 w1) := (by first | (with_reducible exact hide_it (b_drew hb5)) | (with_reducible exact hide_it (b_alloc_drew hb5))); (try (with_reducible have Y5 := hide_it (z_alloc_drew hb5))); have O5 : Hid (w1.ownsRow w0.heap.size 61 2 (.slice a5 HS.length cap5) HS.length (hflat HS)) := (by first | (with_reducible exact hide_it (o_drew ho5)) | (with_reducible exact hide_it (o_alloc_drew ho5))); have Z5 := hide_it (Z0.out.after N5.out); have hs5 := N5.out.size; obtain ⟨y0, y1, y2, y3, y4⟩ := (X0.out.after N5.out).cells5; (try obtain ⟨u0, u1⟩ := Y5.out.cells2); (try obtain ⟨uf0, uf1, -, -, -⟩ := Y5.out.free5); clear ho5 hb5))
    all_goals
      go_wp2_with fail
      go_meet
      case rel => first | exact ⟨_, a5, cap5, rfl, hide_it (stkMet_new N5.out Z5.out O5.out)⟩ | exact ⟨_, a5, cap5, rfl, hide_it (stkMet_set N5.out (by omega) (by omega) Y5.out Z5.out O5.out)⟩
  case rest =>
    obtain ⟨b, a5, cap5, rfl, HMET⟩ := hcut
    have EW := hide_it HMET.out.1
    have YW := hide_it HMET.out.2.1
    have ZW := hide_it HMET.out.2.2.1
    have OW := hide_it HMET.out.2.2.2
    clear HMET x0 x1 x2 x3 x4
    obtain ⟨u0, u1⟩ := YW.out.cells2
    obtain ⟨z0, z1⟩ := ZW.out.cells2
    obtain ⟨zf0, zf1, -, -, -⟩ := ZW.out.free5
    go_wp2
    refine bodyPost_ret (v := .agg #[.int .i64 RR, .slice a5 HS.length cap5]) (by simp [results, Tryd.results41, go_sem, *]) rfl ?_
    refine ⟨a5, cap5, rfl, ?_, ?_⟩
    · exact row_low (row_set (row_set OW.out ZW.out (by decide) _ _) (ZW.out.set_ 0 _) (by decide) _ _) (by omega)
    · exact ((B0.out.trans (EW.out.mono B0.out.size)).setCell (by simp) _).setCell (by simp) _

theorem l11Stock_any (id : Int) (up : Bool) (room : Int) (v : Value) (rs : List R) (f : Int) (forced : Bool) (w : World) (hv : Recs w v rs) (hfm : Form v rs.length) (hl : tot rs ≤ 1048576) (h0 : 0 ≤ f) (h1 : f ≤ rs.length) :
    Calls Tryd.prog 41 #[houseV id up room v f, .bool forced] w fun e w' => SkOut w w' e (oR room (Pl.sOf room (cutR rs f forced))) (oH (Pl.sOf room (cutR rs f forced))) := by
  obtain ⟨N, rfl⟩ := Int.eq_ofNat_of_zero_le h0
  have hN : N ≤ rs.length := by omega
  obtain ⟨ao, cap, rfl⟩ := hv.shape
  cases forced
  · have hcut : cutR rs (N : Int) false = rs := by simp [cutR]
    rw [hcut]
    have HO : ∀ W, Below w.heap.size w W → Calls Tryd.prog 42 #[.int .i64 room, .slice ao rs.length cap] W fun e w' => StOut W w' e (oR room (Pl.sOf room rs)) (oH (Pl.sOf room rs)) (Pl.sOf room rs).isSome := fun W h =>
      l2Of_any room (.slice ao rs.length cap) rs W (hv.later h (Nat.le_refl _)) hl
    rcases hfm with ⟨hv0, hn0⟩ | ⟨g, cap', hv0, hc⟩
    · simp only [Value.slice.injEq] at hv0
      obtain ⟨rfl, -, rfl⟩ := hv0
      rw [hn0] at HO ⊢
      exact l11Stock_all_nil id up room _ _ _ _ w HO
    · simp only [Value.slice.injEq] at hv0
      obtain ⟨rfl, -, rfl⟩ := hv0
      exact l11Stock_all_some id up room _ g rs.length cap _ _ _ w hc HO
  · have hcut : cutR rs (N : Int) true = rs.take N := by simp [cutR]
    rw [hcut]
    have HO : ∀ W, Below w.heap.size w W → Calls Tryd.prog 42 #[.int .i64 room, .slice ao N cap] W fun e w' => StOut W w' e (oR room (Pl.sOf room (rs.take N))) (oH (Pl.sOf room (rs.take N))) (Pl.sOf room (rs.take N)).isSome := fun W h =>
      l2Of_any room (.slice ao N cap) (rs.take N) W ((hv.later h (Nat.le_refl _)).take hN) (Nat.le_trans (pre_take rs N hN) hl)
    rcases hfm with ⟨hv0, hn0⟩ | ⟨g, cap', hv0, hc⟩
    · simp only [Value.slice.injEq] at hv0
      obtain ⟨rfl, -, rfl⟩ := hv0
      obtain rfl : N = 0 := by omega
      rw [hn0]
      exact l11Stock_forced_nil id up room _ _ _ w HO
    · simp only [Value.slice.injEq] at hv0
      obtain ⟨rfl, -, rfl⟩ := hv0
      exact l11Stock_forced_some id up room g rs.length cap N _ _ _ w hN hc HO

end Go.Proofs.YtkhdefcealpfaaaDoor

namespace Go.Proofs.YtkhdefcealpfaaaDoor
open Go.RowKit

set_option maxHeartbeats 4000000 in
theorem specHStock_any (id : Int) (up : Bool) (room : Int) (v : Value) (rs : List R) (f : Int) (forced : Bool) (w : World) (hv : Recs w v rs) (hfm : Form v rs.length) (hl : tot rs ≤ 1048576) :
    Calls Tryd.prog 16 #[houseV id up room v f, .bool forced] w fun e w' => SkOut w w' e (oR room (hsO id room rs f forced)) (oH (hsO id room rs f forced)) := by
  have hrl := tot_len rs
  have HV : Hid (∀ W, Below w.heap.size w W → Recs W v rs) := fun W h => hv.later h (Nat.le_refl _)
  have HOK : Hid (∀ W, Below w.heap.size w W → Calls Tryd.prog 17 #[houseV id up room v f] W fun e w' => e = .returned (.bool (hoOk id room rs f)) ∧ Below W.heap.size W w') := fun W h =>
    specHouseOk_any id up room v rs f W (HV.out W h) hl
  obtain ⟨av, cv, rfl⟩ := hv.shape
  have HFM := hide_it hfm
  clear hv hfm
  obtain ⟨w0, hw0⟩ : ∃ W, Hid (W = (w.alloc (.cells #[.int .i64 id, .bool up, .int .i64 room, .slice av rs.length cv, .int .i64 f] 29)).alloc (.cells #[.int .i64 0, .slice none 0 0] 37)) := ⟨_, rfl⟩
  have B0 : Hid (Below w.heap.size w w0) := by show Below _ _ _; rw [hw0.out]; exact below2 _ _ _
  have X0 : Hid (Blk w0 w.heap.size #[.int .i64 id, .bool up, .int .i64 room, .slice av rs.length cv, .int .i64 f] 29) := by show Blk _ _ _ _; rw [hw0.out]; exact (Blk.new _ _ _).alloc _
  have Z0 : Hid (Blk w0 (w.heap.size + 1) #[.int .i64 0, .slice none 0 0] 37) := by show Blk _ _ _ _; rw [hw0.out]; exact Blk.new2 _ _ _ _
  have hs0 : w0.heap.size = w.heap.size + 2 := by rw [hw0.out, size2]
  cases hok : hoOk id room rs f
  · have HR : Hid (hsO id room rs f forced = none) := by show _ = _; simp [hsO, hok]
    rw [hok] at HOK
    rw [HR.out]
    clear hok
    go_enter Tryd.func16, Tryd.ntmps16
    go_wp2_with fail
    rw [← hw0.out]
    refine (HOK.out _ B0.out).mono ?_
    rintro e w1 ⟨rfl, hb⟩
    obtain ⟨z0, z1⟩ := (Z0.out.after hb).cells2
    obtain ⟨zf0, zf1, -, -, -⟩ := (Z0.out.after hb).free5
    have HB := hide_it (B0.out.trans (hb.mono B0.out.size))
    clear hb
    go_wp2
    refine bodyPost_ret (v := .agg #[.int .i64 0, .slice none 0 0]) (by simp [results, Tryd.results16, go_sem, *]) rfl (SkOut.none_ ?_)
    exact (HB.out.setCell (by simp) _).setCell (by simp) _
  · have HR : Hid (hsO id room rs f forced = Pl.sOf room (cutR rs f forced)) := by show _ = _; simp [hsO, hok]
    obtain ⟨lf0, lf1, -⟩ := logOk_f (hoOk_parts hok).2.1
    rw [hok] at HOK
    rw [HR.out]
    clear HR
    obtain ⟨RR, hRR⟩ : ∃ x, Hid (oR room (Pl.sOf room (cutR rs f forced)) = x) := ⟨_, rfl⟩
    obtain ⟨HS, hHS⟩ : ∃ x, Hid (oH (Pl.sOf room (cutR rs f forced)) = x) := ⟨_, rfl⟩
    rw [hRR.out, hHS.out]
    have SK : Hid (∀ W, Below w.heap.size w W → Calls Tryd.prog 41 #[houseV id up room (.slice av rs.length cv) f, .bool forced] W fun e w' => SkOut W w' e RR HS) := fun W h => by
      have := l11Stock_any id up room _ rs f forced W (HV.out W h) HFM.out hl lf0 lf1
      rw [hRR.out, hHS.out] at this; exact this
    go_enter Tryd.func16, Tryd.ntmps16
    go_wp2_with fail
    rw [← hw0.out]
    refine (HOK.out _ B0.out).mono ?_
    rintro e w1 ⟨rfl, hb1⟩
    have X1 := hide_it (X0.out.after hb1)
    have Z1 := hide_it (Z0.out.after hb1)
    have B1 := hide_it (B0.out.trans (hb1.mono B0.out.size))
    have hs1 : w.heap.size + 2 ≤ w1.heap.size := by have := hb1.size; omega
    obtain ⟨x0, x1, x2, x3, x4⟩ := X1.out.cells5
    clear hb1
    go_wp2_with fail
    refine (SK.out _ B1.out).mono ?_
    rintro e w2 ⟨a9, c9, rfl, ho, hb⟩
    have Z2 := hide_it (Z1.out.after hb)
    have O2 := hide_it ho
    have B2 := hide_it (B1.out.trans (hb.mono B1.out.size))
    have hsn : w.heap.size + 2 ≤ w1.heap.size := by omega
    obtain ⟨z0, z1⟩ := Z2.out.cells2
    obtain ⟨zf0, zf1, -, -, -⟩ := Z2.out.free5
    clear ho hb
    go_wp2
    refine bodyPost_ret (v := .agg #[.int .i64 RR, .slice a9 HS.length c9]) (by simp [results, Tryd.results16, go_sem, *]) rfl ?_
    refine ⟨a9, c9, rfl, ?_, ?_⟩
    · exact row_low (row_set (row_set O2.out Z2.out (by decide) _ _) (Z2.out.set_ 0 _) (by decide) _ _) (by omega)
    · exact (B2.out.setCell (by simp) _).setCell (by simp) _

set_option maxHeartbeats 4000000 in
theorem implHStock_any (id : Int) (up : Bool) (room : Int) (v : Value) (rs : List R) (f : Int) (forced : Bool) (a : Addr) (w : World) (hv : Recs w v rs) (hfm : Form v rs.length) (hl : tot rs ≤ 1048576) (ha : ErrAt w a) :
    Calls Tryd.prog 13 #[houseV id up room v f, .bool forced] w fun e w' => SkOut w w' e (oR room (hsO id room rs f forced)) (oH (hsO id room rs f forced)) := by
  have hrl := tot_len rs
  have HV : Hid (∀ W, Below w.heap.size w W → Recs W v rs) := fun W h => hv.later h (Nat.le_refl _)
  have HA : Hid (∀ W, Below w.heap.size w W → ErrAt W a) := fun W h => ha.later h (Nat.le_refl _)
  have HOK : Hid (∀ W, Below w.heap.size w W → Calls Tryd.prog 11 #[houseV id up room v f] W fun e w' => e = .returned (.bool (hoOk id room rs f)) ∧ Below W.heap.size W w') := fun W h =>
    implHouseOk_any id up room v rs f a W (HV.out W h) hl (HA.out W h)
  obtain ⟨av, cv, rfl⟩ := hv.shape
  have HFM := hide_it hfm
  clear hv hfm ha
  obtain ⟨w0, hw0⟩ : ∃ W, Hid (W = (w.alloc (.cells #[.int .i64 id, .bool up, .int .i64 room, .slice av rs.length cv, .int .i64 f] 29)).alloc (.cells #[.int .i64 0, .slice none 0 0] 37)) := ⟨_, rfl⟩
  have B0 : Hid (Below w.heap.size w w0) := by show Below _ _ _; rw [hw0.out]; exact below2 _ _ _
  have X0 : Hid (Blk w0 w.heap.size #[.int .i64 id, .bool up, .int .i64 room, .slice av rs.length cv, .int .i64 f] 29) := by show Blk _ _ _ _; rw [hw0.out]; exact (Blk.new _ _ _).alloc _
  have Z0 : Hid (Blk w0 (w.heap.size + 1) #[.int .i64 0, .slice none 0 0] 37) := by show Blk _ _ _ _; rw [hw0.out]; exact Blk.new2 _ _ _ _
  have hs0 : w0.heap.size = w.heap.size + 2 := by rw [hw0.out, size2]
  cases hok : hoOk id room rs f
  · have HR : Hid (hsO id room rs f forced = none) := by show _ = _; simp [hsO, hok]
    rw [hok] at HOK
    rw [HR.out]
    clear hok
    go_enter Tryd.func13, Tryd.ntmps13
    go_wp2_with fail
    rw [← hw0.out]
    refine (HOK.out _ B0.out).mono ?_
    rintro e w1 ⟨rfl, hb⟩
    obtain ⟨z0, z1⟩ := (Z0.out.after hb).cells2
    obtain ⟨zf0, zf1, -, -, -⟩ := (Z0.out.after hb).free5
    have HB := hide_it (B0.out.trans (hb.mono B0.out.size))
    clear hb
    go_wp2
    refine bodyPost_ret (v := .agg #[.int .i64 0, .slice none 0 0]) (by simp [results, Tryd.results13, go_sem, *]) rfl (SkOut.none_ ?_)
    exact (HB.out.setCell (by simp) _).setCell (by simp) _
  · have HR : Hid (hsO id room rs f forced = Pl.sOf room (cutR rs f forced)) := by show _ = _; simp [hsO, hok]
    obtain ⟨lf0, lf1, -⟩ := logOk_f (hoOk_parts hok).2.1
    rw [hok] at HOK
    rw [HR.out]
    clear HR
    obtain ⟨RR, hRR⟩ : ∃ x, Hid (oR room (Pl.sOf room (cutR rs f forced)) = x) := ⟨_, rfl⟩
    obtain ⟨HS, hHS⟩ : ∃ x, Hid (oH (Pl.sOf room (cutR rs f forced)) = x) := ⟨_, rfl⟩
    rw [hRR.out, hHS.out]
    have SK : Hid (∀ W, Below w.heap.size w W → (forced = true → Calls Tryd.prog 38 #[keeperV (.slice av rs.length cv) f id up room] W fun e w' => SkOut W w' e RR HS) ∧ (forced = false → Calls Tryd.prog 39 #[keeperV (.slice av rs.length cv) f id up room] W fun e w' => SkOut W w' e RR HS)) := fun W h => by
      refine ⟨fun hf => ?_, fun hf => ?_⟩
      · have := forcedStock_any id up room _ rs f a W (HV.out W h) HFM.out hl lf0 lf1 (HA.out W h)
        rw [show rs.take f.toNat = cutR rs f forced by simp [cutR, hf]] at this
        rw [hRR.out, hHS.out] at this; exact this
      · have := allStock_any id up room _ rs f a W (HV.out W h) hl (HA.out W h)
        rw [show Pl.sOf room rs = Pl.sOf room (cutR rs f forced) by simp [cutR, hf]] at this
        rw [hRR.out, hHS.out] at this; exact this
    go_enter Tryd.func13, Tryd.ntmps13
    go_wp2_with fail
    rw [← hw0.out]
    refine (HOK.out _ B0.out).mono ?_
    rintro e w1 ⟨rfl, hb1⟩
    have X1 := hide_it (X0.out.after hb1)
    have Z1 := hide_it (Z0.out.after hb1)
    have B1 := hide_it (B0.out.trans (hb1.mono B0.out.size))
    have hs1 : w.heap.size + 2 ≤ w1.heap.size := by have := hb1.size; omega
    obtain ⟨x0, x1, x2, x3, x4⟩ := X1.out.cells5
    clear hb1
    go_wp2_with fail
    refine (keeperOf_any id up room av rs.length cv f w1).mono ?_
    rintro e w2 ⟨rfl, hb2⟩
    have Z2 := hide_it (Z1.out.after hb2)
    have B2 := hide_it (B1.out.trans (hb2.mono B1.out.size))
    have hs2 : w.heap.size + 2 ≤ w2.heap.size := by have := hb2.size; omega
    clear hb2 x0 x1 x2 x3 x4
    obtain ⟨w3, hw3⟩ : ∃ W, Hid (W = w2.alloc (.cells #[.slice av rs.length cv, .int .i64 f, .int .i64 id, .bool up, .int .i64 room] 65)) := ⟨_, rfl⟩
    have al3 : Hid (Below w2.heap.size w2 w3) := by show Below _ _ _; rw [hw3.out]; exact alloc_below _ _
    have hs3 : w3.heap.size = w2.heap.size + 1 := by rw [hw3.out]; simp
    have Z3 := hide_it (Z2.out.after al3.out)
    have B3 := hide_it (B2.out.trans (al3.out.mono B2.out.size))
    obtain ⟨SF, SA⟩ := SK.out w3 B3.out
    have HSF := hide_it SF
    have HSA := hide_it SA
    clear SF SA SK
    cases forced
    · go_wp2_with fail
      rw [← hw3.out]
      refine (HSA.out (by simp)).mono ?_
      rintro e w4 ⟨a9, c9, rfl, ho, hb⟩
      have Z4 := hide_it (Z3.out.after hb)
      have O4 := hide_it ho
      have B4 := hide_it (B3.out.trans (hb.mono B3.out.size))
      have hsn : w.heap.size + 2 ≤ w3.heap.size := by omega
      obtain ⟨z0, z1⟩ := Z4.out.cells2
      obtain ⟨zf0, zf1, -, -, -⟩ := Z4.out.free5
      clear ho hb
      go_wp2
      refine bodyPost_ret (v := .agg #[.int .i64 RR, .slice a9 HS.length c9]) (by simp [results, Tryd.results13, go_sem, *]) rfl ?_
      refine ⟨a9, c9, rfl, ?_, ?_⟩
      · exact row_low (row_set (row_set O4.out Z4.out (by decide) _ _) (Z4.out.set_ 0 _) (by decide) _ _) (by omega)
      · exact (B4.out.setCell (by simp) _).setCell (by simp) _
    · go_wp2_with fail
      rw [← hw3.out]
      refine (HSF.out (by simp)).mono ?_
      rintro e w4 ⟨a9, c9, rfl, ho, hb⟩
      have Z4 := hide_it (Z3.out.after hb)
      have O4 := hide_it ho
      have B4 := hide_it (B3.out.trans (hb.mono B3.out.size))
      have hsn : w.heap.size + 2 ≤ w3.heap.size := by omega
      obtain ⟨z0, z1⟩ := Z4.out.cells2
      obtain ⟨zf0, zf1, -, -, -⟩ := Z4.out.free5
      clear ho hb
      go_wp2
      refine bodyPost_ret (v := .agg #[.int .i64 RR, .slice a9 HS.length c9]) (by simp [results, Tryd.results13, go_sem, *]) rfl ?_
      refine ⟨a9, c9, rfl, ?_, ?_⟩
      · exact row_low (row_set (row_set O4.out Z4.out (by decide) _ _) (Z4.out.set_ 0 _) (by decide) _ _) (by omega)
      · exact (B4.out.setCell (by simp) _).setCell (by simp) _

end Go.Proofs.YtkhdefcealpfaaaDoor

namespace Go.Proofs.YtkhdefcealpfaaaDoor
open Go.RowKit

set_option maxHeartbeats 2000000 in
theorem lnStock_any (room : Int) (v1 v2 : Value) (hs : List Pl.H) (w : World) (h1 : Holds w v1 hs) (h2 : Holds w v2 hs) (hl : hs.length ≤ 1048576) :
    Calls Tryd.prog 15 #[.agg #[.int .i64 room, v1], .agg #[.int .i64 room, v2]] w fun e w' => e = .returned (.bool true) ∧ Below w.heap.size w w' := by
  rcases h1 with ⟨rfl, ao, cap, rfl, -⟩ | ⟨b, off, cap, rfl, hz, hc⟩
  · obtain ⟨ao2, cap2, rfl⟩ := h2.shape
    clear h2
    go_enter Tryd.func15, Tryd.ntmps15
    go_wp2
    refine wp_loop_rounds 1 ?_
    rw [rounds_succ]
    go_wp2
    go_ret
    exact ⟨rfl, below2 w _ _⟩
  rcases h2 with ⟨h, _⟩ | ⟨b2, off2, cap2, rfl, _, hc2⟩
  · exact absurd h hz
  have HC : Hid (∀ k, k < hs.length → w.cell? ⟨b, off + k * 2, none⟩ = some (.int .i64 (hs.getD k (0, 0)).1) ∧ w.cell? ⟨b, off + k * 2 + 1, none⟩ = some (.int .i64 (hs.getD k (0, 0)).2)) := hc
  have HC2 : Hid (∀ k, k < hs.length → w.cell? ⟨b2, off2 + k * 2, none⟩ = some (.int .i64 (hs.getD k (0, 0)).1) ∧ w.cell? ⟨b2, off2 + k * 2 + 1, none⟩ = some (.int .i64 (hs.getD k (0, 0)).2)) := hc2
  have hzl : 0 < hs.length := List.length_pos_iff.2 hz
  have hbw : b < w.heap.size := World.block_lt_of_cell? _ _ (hc 0 hzl).1
  have hbw2 : b2 < w.heap.size := World.block_lt_of_cell? _ _ (hc2 0 hzl).1
  have DA := hide_it ((Duo.new w (.int .i64 room) (.slice (some ⟨b, off, none⟩) hs.length cap) 37).later (al_below _ (.cells #[.int .i64 room, .slice (some ⟨b2, off2, none⟩) hs.length cap2] 37)) (Nat.le_refl _))
  have DB := hide_it (Duo.new (w.alloc (.cells #[.int .i64 room, .slice (some ⟨b, off, none⟩) hs.length cap] 37)) (.int .i64 room) (.slice (some ⟨b2, off2, none⟩) hs.length cap2) 37)
  rw [World.size_alloc] at DB
  clear hc hc2 hz
  go_enter Tryd.func15, Tryd.ntmps15
  go_wp2
  go_loopw [5] (fun i wr => ∃ k : Nat, k ≤ hs.length ∧ i = .int .i64 k ∧ Hid (Below (w.heap.size + 2) ((w.alloc (.cells #[.int .i64 room, .slice (some ⟨b, off, none⟩) hs.length cap] 37)).alloc (.cells #[.int .i64 room, .slice (some ⟨b2, off2, none⟩) hs.length cap2] 37)) wr)) (fun i _ => hs.length - (intOf i).toNat)
  case atStart => exact ⟨0, Nat.zero_le _, rfl, Below.refl _ _⟩
  case round =>
    obtain ⟨k, hk, rfl, HB⟩ := hrel
    obtain ⟨a0, a1⟩ := DA.out.later HB.out (by simp)
    obtain ⟨e0, e1⟩ := DB.out.later HB.out (by simp)
    by_cases hlt : k < hs.length
    · obtain ⟨m, s, HZ⟩ : ∃ m s, Hid (hs.getD k (0, 0) = (m, s)) := ⟨_, _, rfl⟩
      have HBw := (below2 w (.cells #[.int .i64 room, .slice (some ⟨b, off, none⟩) hs.length cap] 37) (.cells #[.int .i64 room, .slice (some ⟨b2, off2, none⟩) hs.length cap2] 37)).trans (HB.out.mono (by omega))
      have c0 : wr.cell? ⟨b, off + k * 2, none⟩ = some (.int .i64 m) := by rw [HBw.cell (p := ⟨b, off + k * 2, none⟩) hbw, (HC.out k hlt).1, HZ.out]
      have c1 : wr.cell? ⟨b, off + k * 2 + 1, none⟩ = some (.int .i64 s) := by rw [HBw.cell (p := ⟨b, off + k * 2 + 1, none⟩) hbw, (HC.out k hlt).2, HZ.out]
      have d0 : wr.cell? ⟨b2, off2 + k * 2, none⟩ = some (.int .i64 m) := by rw [HBw.cell (p := ⟨b2, off2 + k * 2, none⟩) hbw2, (HC2.out k hlt).1, HZ.out]
      have d1 : wr.cell? ⟨b2, off2 + k * 2 + 1, none⟩ = some (.int .i64 s) := by rw [HBw.cell (p := ⟨b2, off2 + k * 2 + 1, none⟩) hbw2, (HC2.out k hlt).2, HZ.out]
      have hli : (k : Int) < (hs.length : Int) := by omega
      clear HBw
      go_wp2
      go_quiet (fail)
      go_wp2
      go_roundw
      case rel => exact ⟨k + 1, by omega, by go_num, below_drewN HB.out _⟩
      case measure => simp [intOf]; omega
    · go_wp2
      go_ret
      exact ⟨rfl, (below2 w _ _).trans (HB.out.mono (by omega))⟩

end Go.Proofs.YtkhdefcealpfaaaDoor

namespace Go.Proofs.YtkhdefcealpfaaaDoor
open Go.RowKit

theorem sOf_len (room : Int) (rs : List R) : (oH (Pl.sOf room rs)).length ≤ 6 := by
  unfold Pl.sOf
  split
  · have h : ∀ (rs : List R) (hs : List Pl.H), hs.length = 6 → (oH (Pl.sRun room rs hs)).length ≤ 6 := by
      intro rs
      induction rs with
      | nil => intro hs h; simp [Pl.sRun, oH]; omega
      | cons r t ih =>
        intro hs h
        cases hd : Pl.sDo room hs r.1 r.2.1 r.2.2 with
        | none => rw [sRun_no room r t hs hd]; simp [oH]
        | some h' => rw [sRun_yes room r t hs h' hd]; exact ih h' (by rw [Pl.sDo_len hd]; exact h)
    exact h rs _ rfl
  · simp [oH]

theorem duo_mid {lo hi : Nat} {w w' : World} {b : Nat} {x y : Value} (h : Duo w b x y) (hm : Mid lo hi w w') (hb : b < lo ∨ hi ≤ b) : Duo w' b x y := by
  have hlt := h.lt
  have e := hm.block b hlt hb
  exact ⟨by rw [← h.1]; exact World.cell?_of_block (a := ⟨b, 0, none⟩) e, by rw [← h.2]; exact World.cell?_of_block (a := ⟨b, 1, none⟩) e⟩

end Go.Proofs.YtkhdefcealpfaaaDoor

namespace Go.Proofs.YtkhdefcealpfaaaDoor
open Go.RowKit

theorem form_made {w : World} {lo cap : Nat} {ao : Option Addr} {rs : List R} (h : Made w lo (.slice ao rs.length cap) rs) : Form (.slice ao rs.length cap) rs.length := by
  rcases h.form with ⟨rfl, rfl, rfl⟩ | ⟨g, rfl, hc⟩
  · exact Or.inl ⟨rfl, rfl⟩
  · exact Or.inr ⟨g, cap, rfl, hc⟩

end Go.Proofs.YtkhdefcealpfaaaDoor
