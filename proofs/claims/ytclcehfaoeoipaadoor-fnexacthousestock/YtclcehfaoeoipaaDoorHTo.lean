/- Houses as plain data, and contracts of the law's helpers over houses: how great one is, a copy of it, whether two are the same, its marks. For all that together has at most 1048576 records and numbers. -/
import Derived.Test.YtclcehfaoeoipaaDoorMarkRecs
import Derived.Test.YtclcehfaoeoipaaDoorLogOk
import Derived.Test.YtclcehfaoeoipaaDoorForce
namespace Go.Proofs.YtclcehfaoeoipaaDoor
open Go.RowKit

/-- A house as a value: its number, whether it is up, how many it has, its log. -/
abbrev houseV (id : Int) (up : Bool) (room : Int) (v : Value) (f : Int) : Value := .agg #[.int .i64 id, .bool up, .int .i64 room, v, .int .i64 f]

/-- A house comes back, in memory of the call's own. -/
def HoOut (w w' : World) (e : Ending) (id : Int) (up : Bool) (room : Int) (rs : List R) (f : Int) : Prop :=
  ∃ ao cap, e = .returned (houseV id up room (.slice ao rs.length cap) f) ∧ Made w' w.heap.size (.slice ao rs.length cap) rs ∧ Below w.heap.size w w'

/-- A block that holds a house. -/
def Five (w : World) (b : Nat) (id : Int) (up : Bool) (room : Int) (v : Value) (f : Int) (ty : TypeId) : Prop := w.heap[b]? = some (.cells #[.int .i64 id, .bool up, .int .i64 room, v, .int .i64 f] ty (0, 0))
theorem Five.new (w : World) (id : Int) (up : Bool) (room : Int) (v : Value) (f : Int) (ty : TypeId) : Five (w.alloc (.cells #[.int .i64 id, .bool up, .int .i64 room, v, .int .i64 f] ty)) w.heap.size id up room v f ty := heap_alloc_new w _
theorem Five.lt {w : World} {b : Nat} {id : Int} {up : Bool} {room : Int} {v : Value} {f : Int} {ty : TypeId} (h : Five w b id up room v f ty) : b < w.heap.size := by
  by_cases e : b < w.heap.size
  · exact e
  · unfold Five at h; rw [Array.getElem?_eq_none (by omega)] at h; cases h
theorem Five.later {w w' : World} {b L : Nat} {id : Int} {up : Bool} {room : Int} {v : Value} {f : Int} {ty : TypeId} (h : Five w b id up room v f ty) (hb : Below L w w') (hL : b < L) : Five w' b id up room v f ty := by
  unfold Five; rw [hb.block b hL]; exact h
theorem Five.mid {w w' : World} {b l h' : Nat} {id : Int} {up : Bool} {room : Int} {v : Value} {f : Int} {ty : TypeId} (h : Five w b id up room v f ty) (hm : Mid l h' w w') (hb : b < l ∨ h' ≤ b) : Five w' b id up room v f ty := by
  unfold Five; rw [hm.block b h.lt hb]; exact h
theorem Five.cells {w : World} {b : Nat} {id : Int} {up : Bool} {room : Int} {v : Value} {f : Int} {ty : TypeId} (h : Five w b id up room v f ty) :
    w.cell? ⟨b, 0, none⟩ = some (.int .i64 id) ∧ w.cell? ⟨b, 1, none⟩ = some (.bool up) ∧ w.cell? ⟨b, 2, none⟩ = some (.int .i64 room) ∧ w.cell? ⟨b, 3, none⟩ = some v ∧ w.cell? ⟨b, 4, none⟩ = some (.int .i64 f) := by
  refine ⟨?_, ?_, ?_, ?_, ?_⟩ <;> (rw [cell_of_row w _ _ _ _ _ h]; rfl)
theorem Five.free {w : World} {b : Nat} {id : Int} {up : Bool} {room : Int} {v : Value} {f : Int} {ty : TypeId} (h : Five w b id up room v f ty) :
    w.frozen? ⟨b, 0, none⟩ = false ∧ w.frozen? ⟨b, 1, none⟩ = false ∧ w.frozen? ⟨b, 2, none⟩ = false ∧ w.frozen? ⟨b, 3, none⟩ = false ∧ w.frozen? ⟨b, 4, none⟩ = false :=
  ⟨frozen_of_row w _ _ _ _ h, frozen_of_row w _ _ _ _ h, frozen_of_row w _ _ _ _ h, frozen_of_row w _ _ _ _ h, frozen_of_row w _ _ _ _ h⟩

theorem szHouse_any (id : Int) (up : Bool) (room : Int) (v : Value) (rs : List R) (f : Int) (left : Int) (w : World) (hv : Recs w v rs) (hl : (rs.length : Int) ≤ 9223372036854775807) (hls : ∀ r ∈ rs, (r.2.2.length : Int) ≤ 9223372036854775807) (h0 : 0 ≤ left) (h1 : left ≤ 1048576) :
    Calls Tryd.prog 7 #[houseV id up room v f, .int .i64 left] w fun e w' => e = .returned (.int .i64 (leftOf left (tot rs))) ∧ Below w.heap.size w w' := by
  have HV : Hid (∀ o, Recs (w.alloc o) v rs) := fun o => hv.later ((Below.refl _ _).alloc (Nat.le_refl _) o) (Nat.le_refl _)
  have HS : Hid (∀ o, Calls Tryd.prog 23 #[.agg #[v, .int .i64 f], .int .i64 left] (w.alloc o) fun e w' => e = .returned (.int .i64 (leftOf left (tot rs))) ∧ Below (w.alloc o).heap.size (w.alloc o) w') :=
    fun o => szLog_any v rs f left (w.alloc o) (HV.out o) hl hls h0 h1
  obtain ⟨av, cv, rfl⟩ := hv.shape
  clear hv hl hls HV
  have fin : ∀ (o : Obj) (w' : World), Below (w.alloc o).heap.size (w.alloc o) w' → Below w.heap.size w w' := fun o w' h => ((Below.refl _ _).alloc (Nat.le_refl _) o).trans (h.mono (by simp))
  have FN := hide_it fin
  clear fin
  by_cases hn : left - (tot rs : Int) < 0
  · rw [leftOf_neg hn] at HS ⊢
    go_enter Tryd.func7, Tryd.ntmps7
    go_wp2_with (go_at_call 23; refine (HS.out _).mono ?_; rintro e w1 ⟨rfl, hb⟩)
    go_ret
    exact ⟨rfl, FN.out _ _ (by assumption)⟩
  · rw [leftOf_pos hn] at HS ⊢
    go_enter Tryd.func7, Tryd.ntmps7
    go_wp2_with (go_at_call 23; refine (HS.out _).mono ?_; rintro e w1 ⟨rfl, hb⟩)
    go_ret
    exact ⟨rfl, FN.out _ _ (by assumption)⟩

theorem Five.pinned {w : World} {b : Nat} {id : Int} {up : Bool} {room : Int} {v : Value} {f : Int} {ty : TypeId} (h : w.heap[b]? = some (.cells #[.int .i64 id, .bool up, .int .i64 room, v, .int .i64 f] ty (0, 0))) : Five w b id up room v f ty := h

set_option maxHeartbeats 1000000 in
theorem toHouse_any (id : Int) (up : Bool) (room : Int) (v : Value) (rs : List R) (f : Int) (w : World) (hv : Recs w v rs) (hl : tot rs ≤ 1048576) :
    Calls Tryd.prog 9 #[houseV id up room v f] w fun e w' => HoOut w w' e id up room rs f := by
  have HS : Hid (∀ W, Below w.heap.size w W → Calls Tryd.prog 27 #[.agg #[v, .int .i64 f]] W fun e w' => ∃ ao cap, e = .returned (.agg #[.slice ao rs.length cap, .int .i64 f]) ∧ Made w' W.heap.size (.slice ao rs.length cap) rs ∧ Below W.heap.size W w') := fun W h =>
    (toLog_any v rs f W (hv.later h (Nat.le_refl _)) hl).mono fun e w' ⟨h1, h2, h3⟩ => ⟨_, _, h1, h2.lo (by omega), h3⟩
  obtain ⟨av, cv, rfl⟩ := hv.shape
  clear hv
  go_enter Tryd.func9, Tryd.ntmps9
  go_wp2_with fail
  refine (HS.out _ (below3 w _ _ _)).mono ?_
  rintro e w1 ⟨ao, cap, rfl, hm, hb⟩
  rw [size3] at hm hb
  have hc : ∀ b o, b < w.heap.size + 3 → w1.cell? ⟨b, o, none⟩ = _ := fun b o h => hb.cell (p := ⟨b, o, none⟩) h
  have hf : ∀ b o, b < w.heap.size + 3 → w1.frozen? ⟨b, o, none⟩ = _ := fun b o h => hb.frozen (p := ⟨b, o, none⟩) h
  have hz : w.heap.size + 3 ≤ w1.heap.size := by have := hb.size; rw [size3] at this; exact this
  have HO := hide_it hm
  have HB : Hid (Below w.heap.size w w1) := (below3 w _ _ _).trans (hb.mono (by omega))
  clear hm hb
  go_wp2
  refine bodyPost_ret (v := houseV id up room (.slice ao rs.length cap) f) (by simp [results, Tryd.results9, go_sem, hc]) rfl ?_
  refine ⟨ao, cap, rfl, ?_, ?_⟩
  · refine Made.lo ?_ (Nat.le_add_right _ 3)
    repeat (refine Made.setBelow ?_ (by simp) _)
    exact HO.out
  · repeat (refine Below.setCell ?_ (by first | (simp; done) | (simp; omega)) _)
    exact HB.out

set_option maxHeartbeats 1000000 in
theorem eqHouse_any (id : Int) (up : Bool) (room : Int) (v1 v2 : Value) (rs : List R) (f : Int) (w : World) (h1 : Recs w v1 rs) (h2 : Recs w v2 rs) (hl : tot rs ≤ 1048576) :
    Calls Tryd.prog 11 #[houseV id up room v1 f, houseV id up room v2 f] w fun e w' => e = .returned (.bool true) ∧ Below w.heap.size w w' := by
  have H1 : Hid (∀ o1 o2, Recs ((w.alloc o1).alloc o2) v1 rs) := fun o1 o2 => h1.later (below2 w o1 o2) (Nat.le_refl _)
  have H2 : Hid (∀ o1 o2, Recs ((w.alloc o1).alloc o2) v2 rs) := fun o1 o2 => h2.later (below2 w o1 o2) (Nat.le_refl _)
  obtain ⟨a1, p1, rfl⟩ := h1.shape
  obtain ⟨a2, p2, rfl⟩ := h2.shape
  clear h1 h2
  cases up
  all_goals
    go_enter Tryd.func11, Tryd.ntmps11
    go_wp2_with fail
    refine (eqLog_any _ _ rs f _ (H1.out _ _) (H2.out _ _) hl).mono ?_
    rintro e w1 ⟨rfl, hb⟩
    have HB : Hid (Below w.heap.size w w1) := (below2 w _ _).trans (hb.mono (by simp; omega))
    clear hb
    go_wp2
    go_ret
    exact ⟨rfl, HB.out⟩

theorem markHouse_any (id : Int) (up : Bool) (room : Int) (v : Value) (ps : List (R × Value)) (f k : Int) (lo hi : Nat) (w : World) (ho : OwnRecs w lo hi v ps) (hl : tot (ps.map (·.1)) ≤ 1048576) (hk0 : 0 ≤ k) (hk1 : k ≤ 1000) :
    Calls Tryd.prog 15 #[houseV id up room v f, .int .i64 k] w fun e w' => e = .returned (.int .i64 (kAt (ps.map (·.1)) k ps.length)) ∧ OwnRecs w' lo hi v (stg ps k ps.length) ∧ Mid lo hi w w' := by
  have HS : Hid (∀ o, Calls Tryd.prog 37 #[.agg #[v, .int .i64 f], .int .i64 k] (w.alloc o) fun e w' => e = .returned (.int .i64 (kAt (ps.map (·.1)) k ps.length)) ∧ OwnRecs w' lo hi v (stg ps k ps.length) ∧ Mid lo hi w w') := fun o => by
    have hb := (Below.refl w.heap.size w).alloc (Nat.le_refl _) o
    refine (markLog_any v ps f k lo hi (w.alloc o) (ho.below hb ho.2.2.1) hl hk0 hk1).mono ?_
    rintro e w' ⟨h1, h2, h3⟩
    exact ⟨h1, h2, (Mid.of_below hb (Nat.le_refl _)).trans h3⟩
  obtain ⟨ao, cap, rfl⟩ := row_shape ho.1
  clear ho
  go_enter Tryd.func15, Tryd.ntmps15
  go_wp2_with (go_at_call 37; refine (HS.out _).mono ?_; rintro e w1 ⟨rfl, h2, h3⟩)
  go_ret
  exact ⟨rfl, by assumption, by assumption⟩

theorem heldHouse_any (id : Int) (up : Bool) (room : Int) (v : Value) (rs : List R) (f k : Int) (w : World) (hv : Recs w v (markAll rs k)) (hl : tot rs ≤ 1048576) (hk0 : 0 ≤ k) (hk1 : k ≤ 1000) :
    Calls Tryd.prog 20 #[houseV id up room v f, .int .i64 k] w fun e w' => e = .returned (.int .i64 (kAt rs k rs.length)) ∧ Below w.heap.size w w' := by
  have hKb := kAt_bd rs k rs.length (Nat.le_refl _) hl hk0 hk1
  have HS : Hid (∀ o, Calls Tryd.prog 43 #[.agg #[v, .int .i64 f], .int .i64 k] (w.alloc o) fun e w' => e = .returned (.int .i64 (kAt rs k rs.length)) ∧ Below w.heap.size w w') := fun o => by
    have hb := (Below.refl w.heap.size w).alloc (Nat.le_refl _) o
    exact (heldLog_any v rs f k (w.alloc o) (hv.later hb (Nat.le_refl _)) hl hk0 hk1).mono fun e w' ⟨h1, h2⟩ => ⟨h1, hb.trans (h2.mono (by simp))⟩
  obtain ⟨ao, cap, rfl⟩ := hv.shape
  clear hv
  go_enter Tryd.func20, Tryd.ntmps20
  go_wp2_with (go_at_call 43; refine (HS.out _).mono ?_; rintro e w1 ⟨rfl, h2⟩)
  go_ret
  exact ⟨rfl, by assumption⟩

end Go.Proofs.YtclcehfaoeoipaaDoor
