/- Houses as plain data, and contracts of the law's helpers over houses: how great one is, a copy of it, whether two are the same, its marks. For all that together has at most 1048576 records and numbers. -/
import Derived.Test.YtclcehfaoeoipaaMarkRecs
import Derived.Test.YtclcehfaoeoipaaLogOk
import Derived.Test.YtclcehfaoeoipaaForce
namespace Go.Proofs.Ytclcehfaoeoipaa
open Go.RowKit

/-- A house as a value: its number, whether it is up, how many it has, its log. -/
abbrev houseV (id : Int) (up : Bool) (room : Int) (v : Value) (f : Int) : Value := .agg #[.int .i64 id, .bool up, .int .i64 room, v, .int .i64 f]

/-- A house comes back, in memory of the call's own. -/
def HoOut (w w' : World) (e : Ending) (id : Int) (up : Bool) (room : Int) (rs : List R) (f : Int) : Prop :=
  ∃ ao cap, e = .returned (houseV id up room (.slice ao rs.length cap) f) ∧ Made w' w.heap.size (.slice ao rs.length cap) rs ∧ Below w.heap.size w w'

/-- A block that holds a house. -/
def Five (w : World) (b : Nat) (id : Int) (up : Bool) (room : Int) (v : Value) (f : Int) (ty : TypeId) : Prop := w.heap[b]? = some (.cells #[.int .i64 id, .bool up, .int .i64 room, v, .int .i64 f] ty (0, 0))
theorem Five.new (w : World) (id : Int) (up : Bool) (room : Int) (v : Value) (f : Int) (ty : TypeId) : Five (w.alloc (.cells #[.int .i64 id, .bool up, .int .i64 room, v, .int .i64 f] ty)) w.heap.size id up room v f ty := heap_alloc_new w _
theorem Five.lt {w : World} {b : Nat} {id : Int} {up : Bool} {room : Int} {v : Value} {f : Int} {ty : TypeId} (h : Five w b id up room v f ty) : b < w.heap.size := by
  by_cases e : b < w.heap.size
  · exact e
  · unfold Five at h; rw [Array.getElem?_eq_none (by omega)] at h; cases h
theorem Five.later {w w' : World} {b L : Nat} {id : Int} {up : Bool} {room : Int} {v : Value} {f : Int} {ty : TypeId} (h : Five w b id up room v f ty) (hb : Below L w w') (hL : b < L) : Five w' b id up room v f ty := by
  unfold Five; rw [hb.block b hL]; exact h
theorem Five.mid {w w' : World} {b l h' : Nat} {id : Int} {up : Bool} {room : Int} {v : Value} {f : Int} {ty : TypeId} (h : Five w b id up room v f ty) (hm : Mid l h' w w') (hb : b < l ∨ h' ≤ b) : Five w' b id up room v f ty := by
  unfold Five; rw [hm.block b h.lt hb]; exact h
theorem Five.cells {w : World} {b : Nat} {id : Int} {up : Bool} {room : Int} {v : Value} {f : Int} {ty : TypeId} (h : Five w b id up room v f ty) :
    w.cell? ⟨b, 0, none⟩ = some (.int .i64 id) ∧ w.cell? ⟨b, 1, none⟩ = some (.bool up) ∧ w.cell? ⟨b, 2, none⟩ = some (.int .i64 room) ∧ w.cell? ⟨b, 3, none⟩ = some v ∧ w.cell? ⟨b, 4, none⟩ = some (.int .i64 f) := by
  refine ⟨?_, ?_, ?_, ?_, ?_⟩ <;> (rw [cell_of_row w _ _ _ _ _ h]; rfl)
theorem Five.free {w : World} {b : Nat} {id : Int} {up : Bool} {room : Int} {v : Value} {f : Int} {ty : TypeId} (h : Five w b id up room v f ty) :
    w.frozen? ⟨b, 0, none⟩ = false ∧ w.frozen? ⟨b, 1, none⟩ = false ∧ w.frozen? ⟨b, 2, none⟩ = false ∧ w.frozen? ⟨b, 3, none⟩ = false ∧ w.frozen? ⟨b, 4, none⟩ = false :=
  ⟨frozen_of_row w _ _ _ _ h, frozen_of_row w _ _ _ _ h, frozen_of_row w _ _ _ _ h, frozen_of_row w _ _ _ _ h, frozen_of_row w _ _ _ _ h⟩

theorem Five.pinned {w : World} {b : Nat} {id : Int} {up : Bool} {room : Int} {v : Value} {f : Int} {ty : TypeId} (h : w.heap[b]? = some (.cells #[.int .i64 id, .bool up, .int .i64 room, v, .int .i64 f] ty (0, 0))) : Five w b id up room v f ty := h

set_option maxHeartbeats 1000000 in
theorem eqHouse_any (id : Int) (up : Bool) (room : Int) (v1 v2 : Value) (rs : List R) (f : Int) (w : World) (h1 : Recs w v1 rs) (h2 : Recs w v2 rs) (hl : tot rs ≤ 1048576) :
    Calls Try.prog 6 #[houseV id up room v1 f, houseV id up room v2 f] w fun e w' => e = .returned (.bool true) ∧ Below w.heap.size w w' := by
  have H1 : Hid (∀ o1 o2, Recs ((w.alloc o1).alloc o2) v1 rs) := fun o1 o2 => h1.later (below2 w o1 o2) (Nat.le_refl _)
  have H2 : Hid (∀ o1 o2, Recs ((w.alloc o1).alloc o2) v2 rs) := fun o1 o2 => h2.later (below2 w o1 o2) (Nat.le_refl _)
  obtain ⟨a1, p1, rfl⟩ := h1.shape
  obtain ⟨a2, p2, rfl⟩ := h2.shape
  clear h1 h2
  cases up
  all_goals
    go_enter Try.func6, Try.ntmps6
    go_wp2_with fail
    refine (eqLog_any _ _ rs f _ (H1.out _ _) (H2.out _ _) hl).mono ?_
    rintro e w1 ⟨rfl, hb⟩
    have HB : Hid (Below w.heap.size w w1) := (below2 w _ _).trans (hb.mono (by simp; omega))
    clear hb
    go_wp2
    go_ret
    exact ⟨rfl, HB.out⟩

theorem markHouse_any (id : Int) (up : Bool) (room : Int) (v : Value) (ps : List (R × Value)) (f k : Int) (lo hi : Nat) (w : World) (ho : OwnRecs w lo hi v ps) (hl : tot (ps.map (·.1)) ≤ 1048576) (hk0 : 0 ≤ k) (hk1 : k ≤ 1000) :
    Calls Try.prog 7 #[houseV id up room v f, .int .i64 k] w fun e w' => e = .returned (.int .i64 (kAt (ps.map (·.1)) k ps.length)) ∧ OwnRecs w' lo hi v (stg ps k ps.length) ∧ Mid lo hi w w' := by
  have HS : Hid (∀ o, Calls Try.prog 14 #[.agg #[v, .int .i64 f], .int .i64 k] (w.alloc o) fun e w' => e = .returned (.int .i64 (kAt (ps.map (·.1)) k ps.length)) ∧ OwnRecs w' lo hi v (stg ps k ps.length) ∧ Mid lo hi w w') := fun o => by
    have hb := (Below.refl w.heap.size w).alloc (Nat.le_refl _) o
    refine (markLog_any v ps f k lo hi (w.alloc o) (ho.below hb ho.2.2.1) hl hk0 hk1).mono ?_
    rintro e w' ⟨h1, h2, h3⟩
    exact ⟨h1, h2, (Mid.of_below hb (Nat.le_refl _)).trans h3⟩
  obtain ⟨ao, cap, rfl⟩ := row_shape ho.1
  clear ho
  go_enter Try.func7, Try.ntmps7
  go_wp2_with (go_at_call 14; refine (HS.out _).mono ?_; rintro e w1 ⟨rfl, h2, h3⟩)
  go_ret
  exact ⟨rfl, by assumption, by assumption⟩

theorem heldHouse_any (id : Int) (up : Bool) (room : Int) (v : Value) (rs : List R) (f k : Int) (w : World) (hv : Recs w v (markAll rs k)) (hl : tot rs ≤ 1048576) (hk0 : 0 ≤ k) (hk1 : k ≤ 1000) :
    Calls Try.prog 8 #[houseV id up room v f, .int .i64 k] w fun e w' => e = .returned (.int .i64 (kAt rs k rs.length)) ∧ Below w.heap.size w w' := by
  have hKb := kAt_bd rs k rs.length (Nat.le_refl _) hl hk0 hk1
  have HS : Hid (∀ o, Calls Try.prog 15 #[.agg #[v, .int .i64 f], .int .i64 k] (w.alloc o) fun e w' => e = .returned (.int .i64 (kAt rs k rs.length)) ∧ Below w.heap.size w w') := fun o => by
    have hb := (Below.refl w.heap.size w).alloc (Nat.le_refl _) o
    exact (heldLog_any v rs f k (w.alloc o) (hv.later hb (Nat.le_refl _)) hl hk0 hk1).mono fun e w' ⟨h1, h2⟩ => ⟨h1, hb.trans (h2.mono (by simp))⟩
  obtain ⟨ao, cap, rfl⟩ := hv.shape
  clear hv
  go_enter Try.func8, Try.ntmps8
  go_wp2_with (go_at_call 15; refine (HS.out _).mono ?_; rintro e w1 ⟨rfl, h2⟩)
  go_ret
  exact ⟨rfl, by assumption⟩

end Go.Proofs.Ytclcehfaoeoipaa
