/- Contracts of what the functions of houses share: the program's keeper, made of a house and turned into one again, and the specification's copy of a house. For all that together has at most 1048576 records and numbers. -/
import Derived.Test.YtckafpmhhoeodaaDoorHTo
import Derived.Test.YtckafpmhhoeodaaDoorSLog
import Derived.Deep.RegionHeld
namespace Go.Proofs.YtckafpmhhoeodaaDoor
open Go.RowKit

/-- A keeper as a value: its log, its number, whether it is up, how many it has. -/
abbrev keeperV (v : Value) (f id : Int) (up : Bool) (room : Int) : Value := .agg #[v, .int .i64 f, .int .i64 id, .bool up, .int .i64 room]

/-- A block as it lies. -/
def Blk (w : World) (b : Nat) (cs : Array Value) (ty : TypeId) : Prop := w.heap[b]? = some (.cells cs ty (0, 0))
theorem Blk.new (w : World) (cs : Array Value) (ty : TypeId) : Blk (w.alloc (.cells cs ty)) w.heap.size cs ty := heap_alloc_new w _
theorem Blk.lt {w : World} {b : Nat} {cs : Array Value} {ty : TypeId} (h : Blk w b cs ty) : b < w.heap.size := lt_of_heap h
theorem Blk.later {w w' : World} {b L : Nat} {cs : Array Value} {ty : TypeId} (h : Blk w b cs ty) (hb : Below L w w') (hL : b < L) : Blk w' b cs ty := by
  unfold Blk; rw [hb.block b hL]; exact h
theorem Blk.after {w w' : World} {b : Nat} {cs : Array Value} {ty : TypeId} (h : Blk w b cs ty) (hb : Below w.heap.size w w') : Blk w' b cs ty := h.later hb h.lt
theorem Blk.mid {w w' : World} {b l h' : Nat} {cs : Array Value} {ty : TypeId} (h : Blk w b cs ty) (hm : Mid l h' w w') (hb : b < l ∨ h' ≤ b) : Blk w' b cs ty := by
  unfold Blk; rw [hm.block b h.lt hb]; exact h
theorem Blk.cell {w : World} {b : Nat} {cs : Array Value} {ty : TypeId} (h : Blk w b cs ty) (i : Nat) : w.cell? ⟨b, i, none⟩ = cs[i]? := cell_of_row w _ _ _ _ _ h
theorem Blk.free {w : World} {b : Nat} {cs : Array Value} {ty : TypeId} (h : Blk w b cs ty) (i : Nat) : w.frozen? ⟨b, i, none⟩ = false := frozen_of_row w _ _ _ _ h
theorem Blk.other {w : World} {b : Nat} {cs : Array Value} {ty : TypeId} (h : Blk w b cs ty) {a : Addr} (ha : b ≠ a.block) (x : Value) : Blk (w.setCell a x) b cs ty := by
  unfold Blk; rw [Below.heap_setCell _ _ _ _ ha]; exact h
theorem Blk.alloc {w : World} {b : Nat} {cs : Array Value} {ty : TypeId} (h : Blk w b cs ty) (o : Obj) : Blk (w.alloc o) b cs ty := h.after (alloc_below w o)
theorem Blk.cells5 {w : World} {b : Nat} {x0 x1 x2 x3 x4 : Value} {ty : TypeId} (h : Blk w b #[x0, x1, x2, x3, x4] ty) :
    w.cell? ⟨b, 0, none⟩ = some x0 ∧ w.cell? ⟨b, 1, none⟩ = some x1 ∧ w.cell? ⟨b, 2, none⟩ = some x2 ∧ w.cell? ⟨b, 3, none⟩ = some x3 ∧ w.cell? ⟨b, 4, none⟩ = some x4 := by
  refine ⟨?_, ?_, ?_, ?_, ?_⟩ <;> (rw [h.cell]; rfl)
theorem Blk.cells2 {w : World} {b : Nat} {x0 x1 : Value} {ty : TypeId} (h : Blk w b #[x0, x1] ty) :
    w.cell? ⟨b, 0, none⟩ = some x0 ∧ w.cell? ⟨b, 1, none⟩ = some x1 := by
  refine ⟨?_, ?_⟩ <;> (rw [h.cell]; rfl)
theorem Blk.free5 {w : World} {b : Nat} {cs : Array Value} {ty : TypeId} (h : Blk w b cs ty) :
    w.frozen? ⟨b, 0, none⟩ = false ∧ w.frozen? ⟨b, 1, none⟩ = false ∧ w.frozen? ⟨b, 2, none⟩ = false ∧ w.frozen? ⟨b, 3, none⟩ = false ∧ w.frozen? ⟨b, 4, none⟩ = false :=
  ⟨h.free 0, h.free 1, h.free 2, h.free 3, h.free 4⟩
theorem Blk.new2 (w : World) (o : Obj) (cs : Array Value) (ty : TypeId) : Blk ((w.alloc o).alloc (.cells cs ty)) (w.heap.size + 1) cs ty := by
  have h := Blk.new (w.alloc o) cs ty
  rw [size1] at h
  exact h

set_option maxHeartbeats 1000000 in
theorem keeperOf_any (id : Int) (up : Bool) (room : Int) (ao : Option Addr) (n cap : Nat) (f : Int) (w : World) :
    Calls Tryd.prog 37 #[houseV id up room (.slice ao n cap) f] w fun e w' => e = .returned (keeperV (.slice ao n cap) f id up room) ∧ Below w.heap.size w w' := by
  go_enter Tryd.func37, Tryd.ntmps37
  go_wp2
  refine bodyPost_ret (v := keeperV (.slice ao n cap) f id up room) (by simp [results, Tryd.results37, go_sem]) rfl ⟨rfl, ?_⟩
  exact below2 w _ _

set_option maxHeartbeats 2000000 in
theorem l11Copy_any (id : Int) (up : Bool) (room : Int) (v : Value) (rs : List R) (f : Int) (w : World) (hv : Recs w v rs) (hl : tot rs ≤ 1048576) :
    Calls Tryd.prog 39 #[houseV id up room v f] w fun e w' => HoOut w w' e id up room rs f := by
  have HS : Hid (∀ W, Below w.heap.size w W → Calls Tryd.prog 61 #[.agg #[v, .int .i64 f]] W fun e w' => LogOut W w' e rs f) := fun W h => l1Copy_any v rs f W (hv.later h (Nat.le_refl _)) hl
  obtain ⟨av, cv, rfl⟩ := hv.shape
  clear hv
  obtain ⟨w0, hw0⟩ : ∃ W, Hid (W = (w.alloc (.cells #[.int .i64 id, .bool up, .int .i64 room, .slice av rs.length cv, .int .i64 f] 27)).alloc (.cells #[.int .i64 0, .bool false, .int .i64 0, .slice none 0 0, .int .i64 0] 27)) := ⟨_, rfl⟩
  have B0 : Hid (Below w.heap.size w w0) := by show Below _ _ _; rw [hw0.out]; exact below2 _ _ _
  have X0 : Hid (Blk w0 w.heap.size #[.int .i64 id, .bool up, .int .i64 room, .slice av rs.length cv, .int .i64 f] 27) := by show Blk _ _ _ _; rw [hw0.out]; exact (Blk.new _ _ _).alloc _
  have Z0 : Hid (Blk w0 (w.heap.size + 1) #[.int .i64 0, .bool false, .int .i64 0, .slice none 0 0, .int .i64 0] 27) := by show Blk _ _ _ _; rw [hw0.out]; exact Blk.new2 _ _ _ _
  have hs0 : w0.heap.size = w.heap.size + 2 := by rw [hw0.out, size2]
  go_enter Tryd.func39, Tryd.ntmps39
  go_wp2_with fail
  rw [← hw0.out]
  refine (HS.out _ B0.out).mono ?_
  rintro e w1 ⟨ao, cap, rfl, hm, hb⟩
  obtain ⟨x0, x1, x2, x3, x4⟩ := (X0.out.after hb).cells5
  obtain ⟨z0, z1, z2, z3, z4⟩ := (Z0.out.after hb).cells5
  obtain ⟨xf0, xf1, xf2, xf3, xf4⟩ := (X0.out.after hb).free5
  obtain ⟨zf0, zf1, zf2, zf3, zf4⟩ := (Z0.out.after hb).free5
  have HM := hide_it hm
  have HB := hide_it (B0.out.trans (hb.mono B0.out.size))
  have hz : w.heap.size + 2 ≤ w1.heap.size := by have := hb.size; omega
  clear hm hb
  go_wp2
  refine bodyPost_ret (v := houseV id up room (.slice ao rs.length cap) f) (by simp [results, Tryd.results39, go_sem, *]) rfl ?_
  refine ⟨ao, cap, rfl, ?_, ?_⟩
  · refine Made.lo ?_ (show w.heap.size ≤ w0.heap.size by omega)
    repeat (refine Made.setBelow ?_ (by simp; omega) _)
    exact HM.out
  · repeat (refine Below.setCell ?_ (by first | (simp; done) | (simp; omega)) _)
    exact HB.out

set_option maxHeartbeats 4000000 in
theorem keeperHouse_any (id : Int) (up : Bool) (room : Int) (v : Value) (rs : List R) (f : Int) (w : World) (hv : Recs w v rs) (hl : tot rs ≤ 1048576) :
    Calls Tryd.prog 38 #[keeperV v f id up room] w fun e w' => HoOut w w' e id up room rs f := by
  have HS : Hid (∀ W, Below w.heap.size w W → Calls Tryd.prog 60 #[v] W fun e w' => ∃ ao cap, e = .returned (.slice ao rs.length cap) ∧ Made w' W.heap.size (.slice ao rs.length cap) rs ∧ Below W.heap.size W w') := fun W h =>
    copyRecs_any v rs W (hv.later h (Nat.le_refl _)) hl
  obtain ⟨av, cv, rfl⟩ := hv.shape
  clear hv
  obtain ⟨w0, hw0⟩ : ∃ W, Hid (W = (w.alloc (.cells #[.slice av rs.length cv, .int .i64 f, .int .i64 id, .bool up, .int .i64 room] 58)).alloc (.cells #[.int .i64 0, .bool false, .int .i64 0, .slice none 0 0, .int .i64 0] 27)) := ⟨_, rfl⟩
  have B0 : Hid (Below w.heap.size w w0) := by show Below _ _ _; rw [hw0.out]; exact below2 _ _ _
  have X0 : Hid (Blk w0 w.heap.size #[.slice av rs.length cv, .int .i64 f, .int .i64 id, .bool up, .int .i64 room] 58) := by show Blk _ _ _ _; rw [hw0.out]; exact (Blk.new _ _ _).alloc _
  have Z0 : Hid (Blk w0 (w.heap.size + 1) #[.int .i64 0, .bool false, .int .i64 0, .slice none 0 0, .int .i64 0] 27) := by show Blk _ _ _ _; rw [hw0.out]; exact Blk.new2 _ _ _ _
  have hs0 : w0.heap.size = w.heap.size + 2 := by rw [hw0.out, size2]
  obtain ⟨x0, x1, x2, x3, x4⟩ := X0.out.cells5
  go_enter Tryd.func38, Tryd.ntmps38
  go_wp2_with fail
  rw [← hw0.out]
  go_region_held (fun w' => w'.cell? ⟨w.heap.size, 0, none⟩ = some (.slice av rs.length cv) ∧ w'.cell? ⟨w.heap.size, 1, none⟩ = some (.int .i64 f) ∧ w'.cell? ⟨w.heap.size, 2, none⟩ = some (.int .i64 id) ∧ w'.cell? ⟨w.heap.size, 3, none⟩ = some (.bool up) ∧ w'.cell? ⟨w.heap.size, 4, none⟩ = some (.int .i64 room)) (go_keep)
    ((go_at_call 60; refine (HS.out _ B0.out.drew).mono ?_; rintro e w1 ⟨ao, cap, rfl, hm, hb⟩; have hb' := (Below.refl w0.heap.size w0).drew.trans hb; obtain ⟨y0, y1, y2, y3, y4⟩ := (X0.out.after hb').cells5; obtain ⟨z0, z1, z2, z3, z4⟩ := (Z0.out.after hb').cells5; obtain ⟨zf0, zf1, zf2, zf3, zf4⟩ := (Z0.out.after hb').free5; have HM := hide_it hm; have HB := hide_it (B0.out.trans (hb'.mono B0.out.size)); have hz : w.heap.size + 2 ≤ w1.heap.size := (by have := hb'.size; omega); clear hm hb hb'))
  all_goals
    go_wp2
    refine bodyPost_ret (v := houseV id up room (.slice ao rs.length cap) f) (by simp [results, Tryd.results38, go_sem, *]) rfl ?_
    refine ⟨ao, cap, rfl, ?_, ?_⟩
    · refine Made.lo ?_ (show w.heap.size ≤ w0.heap.size by omega)
      repeat (refine Made.setBelow ?_ (by simp; omega) _)
      exact HM.out
    · repeat (refine Below.setCell ?_ (by first | (simp; done) | (simp; omega)) _)
      exact HB.out

end Go.Proofs.YtckafpmhhoeodaaDoor
