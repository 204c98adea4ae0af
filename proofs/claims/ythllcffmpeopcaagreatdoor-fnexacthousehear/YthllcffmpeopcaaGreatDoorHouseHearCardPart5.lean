/- What the last text of this claim stands on, part 5: plain facts and contracts; the last text says what is proved. -/
import Derived.Test.YthllcffmpeopcaaGreatDoorHouseHearCardPart4
import Derived.Deep.RegionHeld
import Derived.Deep.RegionHeldLaw

namespace Go.Proofs.YthllcffmpeopcaaGreatDoor
open Go.RowKit

theorem hidden {p : Prop} (h : p) : Hid p := h

/-- Four cells lie in block b. -/
def Quad (w : World) (b : Nat) (x y z u : Value) : Prop := w.cell? ⟨b, 0, none⟩ = some x ∧ w.cell? ⟨b, 1, none⟩ = some y ∧ w.cell? ⟨b, 2, none⟩ = some z ∧ w.cell? ⟨b, 3, none⟩ = some u
theorem Quad.lt {w : World} {b : Nat} {x y z u : Value} (h : Quad w b x y z u) : b < w.heap.size := by simpa using World.block_lt_of_cell? _ _ h.1
theorem Quad.later {B : Nat} {w w' : World} {b : Nat} {x y z u : Value} (h : Quad w b x y z u) (hb : Below B w w') (hB : w.heap.size ≤ B) : Quad w' b x y z u := by
  have hlt := h.lt
  obtain ⟨h0, h1, h2, h3⟩ := h
  exact ⟨by rw [← h0]; exact hb.cell (p := ⟨b, 0, none⟩) (by simp; omega), by rw [← h1]; exact hb.cell (p := ⟨b, 1, none⟩) (by simp; omega), by rw [← h2]; exact hb.cell (p := ⟨b, 2, none⟩) (by simp; omega), by rw [← h3]; exact hb.cell (p := ⟨b, 3, none⟩) (by simp; omega)⟩
theorem Quad.new (w : World) (x y z u : Value) (ty : TypeId) : Quad (w.alloc (.cells #[x, y, z, u] ty)) w.heap.size x y z u := by
  refine ⟨?_, ?_, ?_, ?_⟩ <;> simp

abbrev wordV (k h t m : Int) : Value := .agg #[.int .i64 k, .int .i64 h, .int .i64 t, .int .i64 m]

set_option maxHeartbeats 1000000 in
theorem specWordOk_any (k h t m : Int) (w : World) :
    Calls Tryz.prog 59 #[wordV k h t m] w fun e w' => e = .returned (.bool (Pl.wOk k h t m)) ∧ Below w.heap.size w w' := by
  cases e1 : Pl.inB h 1 3
  · rw [Pl.wOk_h e1]
    go_enter Tryz.func59, Tryz.ntmps59
    go_wp2_with (go_at_call 47; refine (in_any _ _ _ _).mono ?_; rintro e w' ⟨rfl, rfl⟩)
    go_ret
    exact ⟨rfl, (Below.refl _ _).alloc (Nat.le_refl _) _⟩
  cases e2 : Pl.inB t 1 6
  · rw [Pl.wOk_t e2]
    go_enter Tryz.func59, Tryz.ntmps59
    go_wp2_with (go_at_call 47; refine (in_any _ _ _ _).mono ?_; rintro e w' ⟨rfl, rfl⟩)
    go_ret
    exact ⟨rfl, (Below.refl _ _).alloc (Nat.le_refl _) _⟩
  cases e3 : Pl.inB k 1 7
  · rw [Pl.wOk_k e3]
    go_enter Tryz.func59, Tryz.ntmps59
    go_wp2_with (go_at_call 47; refine (in_any _ _ _ _).mono ?_; rintro e w' ⟨rfl, rfl⟩)
    go_ret
    exact ⟨rfl, (Below.refl _ _).alloc (Nat.le_refl _) _⟩
  rw [Pl.wOk_m e3 e1 e2]
  by_cases hk : k = 1
  · subst hk
    rw [Pl.wMany_1]
    go_enter Tryz.func59, Tryz.ntmps59
    go_wp2_with (go_at_call 47; refine (in_any _ _ _ _).mono ?_; rintro e w' ⟨rfl, rfl⟩)
    go_ret
    exact ⟨rfl, (Below.refl _ _).alloc (Nat.le_refl _) _⟩
  · rw [Pl.wMany_0 m hk]
    go_enter Tryz.func59, Tryz.ntmps59
    go_wp2_with (go_at_call 47; refine (in_any _ _ _ _).mono ?_; rintro e w' ⟨rfl, rfl⟩)
    go_ret
    exact ⟨rfl, (Below.refl _ _).alloc (Nat.le_refl _) _⟩

theorem wordMany_any (k m : Int) (w : World) :
    Calls Tryz.prog 91 #[.int .i64 k, .int .i64 m] w fun e w' => e = .returned (.bool (Pl.wMany k m)) ∧ w' = w := by
  by_cases hk : k = 1
  · subst hk
    rw [Pl.wMany_1]
    by_cases h1 : 1 ≤ m
    · by_cases h2 : m ≤ 3
      all_goals
        go_enter Tryz.func91, Tryz.ntmps91
        go_wp2
        go_ret
        exact ⟨by simp [Pl.inB]; omega, rfl⟩
    · go_enter Tryz.func91, Tryz.ntmps91
      go_wp2
      go_ret
      exact ⟨by simp [Pl.inB]; omega, rfl⟩
  · rw [Pl.wMany_0 m hk]
    go_enter Tryz.func91, Tryz.ntmps91
    go_wp2
    go_ret
    exact ⟨rfl, rfl⟩

set_option maxHeartbeats 2000000 in
theorem implWordOk_any (k h t m : Int) (w : World) :
    Calls Tryz.prog 67 #[wordV k h t m] w fun e w' => e = .returned (.bool (Pl.wOk k h t m)) ∧ Below w.heap.size w w' := by
  by_cases k1n : ¬ 1 ≤ k
  · rw [Pl.wOk_k (Pl.inB_lo (by omega))]
    go_enter Tryz.func67, Tryz.ntmps67
    go_wp2
    go_ret
    exact ⟨rfl, (Below.refl _ _).alloc (Nat.le_refl _) _⟩
  have k1 : 1 ≤ k := Decidable.not_not.1 k1n
  clear k1n
  by_cases k2n : ¬ k ≤ 7
  · rw [Pl.wOk_k (Pl.inB_hi (by omega))]
    go_enter Tryz.func67, Tryz.ntmps67
    go_wp2
    go_ret
    exact ⟨rfl, (Below.refl _ _).alloc (Nat.le_refl _) _⟩
  have k2 : k ≤ 7 := Decidable.not_not.1 k2n
  clear k2n
  by_cases h1n : ¬ 1 ≤ h
  · rw [Pl.wOk_h (Pl.inB_lo (by omega))]
    go_enter Tryz.func67, Tryz.ntmps67
    go_wp2
    go_ret
    exact ⟨rfl, (Below.refl _ _).alloc (Nat.le_refl _) _⟩
  have h1 : 1 ≤ h := Decidable.not_not.1 h1n
  clear h1n
  by_cases h2n : ¬ h ≤ 3
  · rw [Pl.wOk_h (Pl.inB_hi (by omega))]
    go_enter Tryz.func67, Tryz.ntmps67
    go_wp2
    go_ret
    exact ⟨rfl, (Below.refl _ _).alloc (Nat.le_refl _) _⟩
  have h2 : h ≤ 3 := Decidable.not_not.1 h2n
  clear h2n
  by_cases t1n : ¬ 1 ≤ t
  · rw [Pl.wOk_t (Pl.inB_lo (by omega))]
    go_enter Tryz.func67, Tryz.ntmps67
    go_wp2
    go_ret
    exact ⟨rfl, (Below.refl _ _).alloc (Nat.le_refl _) _⟩
  have t1 : 1 ≤ t := Decidable.not_not.1 t1n
  clear t1n
  by_cases t2n : ¬ t ≤ 6
  · rw [Pl.wOk_t (Pl.inB_hi (by omega))]
    go_enter Tryz.func67, Tryz.ntmps67
    go_wp2
    go_ret
    exact ⟨rfl, (Below.refl _ _).alloc (Nat.le_refl _) _⟩
  have t2 : t ≤ 6 := Decidable.not_not.1 t2n
  clear t2n
  rw [Pl.wOk_m (Pl.inB_mk k1 k2) (Pl.inB_mk h1 h2) (Pl.inB_mk t1 t2)]
  go_enter Tryz.func67, Tryz.ntmps67
  go_wp2_with (go_at_call 91; refine (wordMany_any _ _ _).mono ?_; rintro e w' ⟨rfl, rfl⟩)
  go_ret
  exact ⟨rfl, (Below.refl _ _).alloc (Nat.le_refl _) _⟩

set_option maxHeartbeats 1000000 in
theorem toWord_any (k h t m : Int) (w : World) :
    Calls Tryz.prog 11 #[wordV k h t m] w fun e w' => e = .returned (wordV k h t m) ∧ Below w.heap.size w w' := by
  go_enter Tryz.func11, Tryz.ntmps11
  go_wp2
  exact bodyPost_ret (v := wordV k h t m) (by simp [results, Tryz.results11, go_sem]) rfl ⟨rfl, (((Below.refl _ _).alloc (Nat.le_refl _) _).alloc (by simp) _).alloc (by simp; omega) _⟩

end Go.Proofs.YthllcffmpeopcaaGreatDoor

namespace Go.Proofs.YthllcffmpeopcaaGreatDoor
open Go.RowKit

/-- A record comes back, its numbers in memory of the call's own. -/
def RcOut (w w' : World) (e : Ending) (k t : Int) (zs : List Int) : Prop :=
  ∃ au cu, e = .returned (.agg #[.int .i64 k, .int .i64 t, .slice au zs.length cu]) ∧ w'.ownsRow w.heap.size 3 1 (.slice au zs.length cu) zs.length (zs.map (Value.int .i64)) ∧ Below w.heap.size w w'

theorem row_lit1 (w : World) (m : Int) (base : Nat) (hb : base ≤ w.heap.size) : (w.alloc (.cells #[.int .i64 m] 3)).ownsRow base 3 1 (.slice (some ⟨w.heap.size, 0, none⟩) 1 1) 1 [.int .i64 m] :=
  World.ownsRow_lit (base := base) (e := 3) (size := 1) w #[.int .i64 m] 1 hb (by unfold maxLen; omega) rfl
theorem row_lit0 (w : World) (base : Nat) (hb : base ≤ w.heap.size) : (w.alloc (.cells #[] 3)).ownsRow base 3 1 (.slice (some ⟨w.heap.size, 0, none⟩) 0 0) 0 [] :=
  World.ownsRow_lit (base := base) (e := 3) (size := 1) w #[] 0 hb (by unfold maxLen; omega) rfl
theorem rc_one (w : World) (o1 o2 : Obj) (t m : Int) : RcOut w (((w.alloc o1).alloc o2).alloc (.cells #[.int .i64 m] 3)) (.returned (.agg #[.int .i64 1, .int .i64 t, .slice (some ⟨w.heap.size + 2, 0, none⟩) 1 1])) 1 t (Pl.zsW 1 m) := by
  refine ⟨_, _, rfl, ?_, below3 w _ _ _⟩
  have h := row_lit1 ((w.alloc o1).alloc o2) m w.heap.size (by rw [size2]; omega)
  rw [size2] at h
  exact h
theorem rc_lit (w : World) (o1 o2 : Obj) (k t m : Int) (hk : k ≠ 1) : RcOut w (((w.alloc o1).alloc o2).alloc (.cells #[] 3)) (.returned (.agg #[.int .i64 k, .int .i64 t, .slice (some ⟨w.heap.size + 2, 0, none⟩) 0 0])) k t (Pl.zsW k m) := by
  have hz : Pl.zsW k m = [] := by simp [Pl.zsW, hk]
  rw [hz]
  refine ⟨_, _, rfl, ?_, below3 w _ _ _⟩
  have h := row_lit0 ((w.alloc o1).alloc o2) w.heap.size (by rw [size2]; omega)
  rw [size2] at h
  exact h
theorem rc_nil (w : World) (o1 o2 : Obj) (k t m : Int) (hk : k ≠ 1) : RcOut w ((w.alloc o1).alloc o2) (.returned (.agg #[.int .i64 k, .int .i64 t, .slice none 0 0])) k t (Pl.zsW k m) := by
  have hz : Pl.zsW k m = [] := by simp [Pl.zsW, hk]
  rw [hz]
  exact ⟨none, 0, rfl, World.ownsRow_nil _ _ _ _, below2 w _ _⟩

set_option maxHeartbeats 2000000 in
theorem recOfWord_any (k h t m : Int) (w : World) (hk : k = 1 ∨ k = 2 ∨ k = 3) :
    Calls Tryz.prog 33 #[wordV k h t m] w fun e w' => RcOut w w' e k t (Pl.zsW k m) := by
  rcases hk with rfl | rfl | rfl
  · go_enter Tryz.func33, Tryz.ntmps33
    go_wp2
    refine bodyPost_ret (v := .agg #[.int .i64 1, .int .i64 t, .slice (some ⟨w.heap.size + 2, 0, none⟩) 1 1]) (by simp [results, Tryz.results33, go_sem]) rfl ?_
    exact rc_one w _ _ t m
  · go_enter Tryz.func33, Tryz.ntmps33
    go_wp2
    refine bodyPost_ret (v := .agg #[.int .i64 2, .int .i64 t, .slice none 0 0]) (by simp [results, Tryz.results33, go_sem]) rfl ?_
    exact rc_nil w _ _ 2 t m (by decide)
  · go_enter Tryz.func33, Tryz.ntmps33
    go_wp2
    refine bodyPost_ret (v := .agg #[.int .i64 3, .int .i64 t, .slice none 0 0]) (by simp [results, Tryz.results33, go_sem]) rfl ?_
    exact rc_nil w _ _ 3 t m (by decide)

set_option maxHeartbeats 2000000 in
theorem l11Rec_any (k h t m : Int) (w : World) (hk : k = 1 ∨ k = 2 ∨ k = 3) :
    Calls Tryz.prog 61 #[wordV k h t m] w fun e w' => RcOut w w' e k t (Pl.zsW k m) := by
  rcases hk with rfl | rfl | rfl
  · go_enter Tryz.func61, Tryz.ntmps61
    go_wp2
    refine bodyPost_ret (v := .agg #[.int .i64 1, .int .i64 t, .slice (some ⟨w.heap.size + 2, 0, none⟩) 1 1]) (by simp [results, Tryz.results61, go_sem]) rfl ?_
    exact rc_one w _ _ t m
  · go_enter Tryz.func61, Tryz.ntmps61
    go_wp2
    refine bodyPost_ret (v := .agg #[.int .i64 2, .int .i64 t, .slice (some ⟨w.heap.size + 2, 0, none⟩) 0 0]) (by simp [results, Tryz.results61, go_sem]) rfl ?_
    exact rc_lit w _ _ 2 t m (by decide)
  · go_enter Tryz.func61, Tryz.ntmps61
    go_wp2
    refine bodyPost_ret (v := .agg #[.int .i64 3, .int .i64 t, .slice (some ⟨w.heap.size + 2, 0, none⟩) 0 0]) (by simp [results, Tryz.results61, go_sem]) rfl ?_
    exact rc_lit w _ _ 3 t m (by decide)

set_option maxHeartbeats 2000000 in
theorem hears_any (id : Int) (up : Bool) (room : Int) (ao : Option Addr) (n cap : Nat) (f k h t m : Int) (w : World) :
    Calls Tryz.prog 31 #[keeperV (.slice ao n cap) f id up room, wordV k h t m] w fun e w' => e = .returned (.bool (Pl.hearB id up k h t m)) ∧ Below w.heap.size w w' := by
  obtain ⟨WW, hWW⟩ : ∃ b, Pl.wOk k h t m = b := ⟨_, rfl⟩
  have HW : Hid (∀ W, Calls Tryz.prog 67 #[wordV k h t m] W fun e w' => e = .returned (.bool WW) ∧ Below W.heap.size W w') := fun W => by
    have := implWordOk_any k h t m W; rw [hWW] at this; exact this
  have HE : Hid (Pl.hearB id up k h t m = (up && WW && decide (h = id) && decide (k ≤ 3))) := by show _ = _; unfold Pl.hearB; rw [hWW]
  rw [HE.out]
  clear hWW HE
  obtain ⟨w0, hw0⟩ : ∃ W, Hid (W = (w.alloc (.cells #[.slice ao n cap, .int .i64 f, .int .i64 id, .bool up, .int .i64 room] 66)).alloc (.cells #[.int .i64 k, .int .i64 h, .int .i64 t, .int .i64 m] 35)) := ⟨_, rfl⟩
  have B0 : Hid (Below w.heap.size w w0) := by show Below _ _ _; rw [hw0.out]; exact below2 _ _ _
  have X0 : Hid (Blk w0 w.heap.size #[.slice ao n cap, .int .i64 f, .int .i64 id, .bool up, .int .i64 room] 66) := by show Blk _ _ _ _; rw [hw0.out]; exact (Blk.new _ _ _).alloc _
  have Y0 : Hid (Blk w0 (w.heap.size + 1) #[.int .i64 k, .int .i64 h, .int .i64 t, .int .i64 m] 35) := by show Blk _ _ _ _; rw [hw0.out]; exact Blk.new2 _ _ _ _
  cases up
  · go_enter Tryz.func31, Tryz.ntmps31
    go_wp2
    go_ret
    exact ⟨rfl, below2 w _ _⟩
  · go_enter Tryz.func31, Tryz.ntmps31
    go_wp2_with fail
    rw [← hw0.out]
    refine (HW.out _).mono ?_
    rintro e w1 ⟨rfl, hb1⟩
    have B1 := hide_it (B0.out.trans (hb1.mono B0.out.size))
    obtain ⟨x0, x1, x2, x3, x4⟩ := (X0.out.after hb1).cells5
    have y0 : w1.cell? ⟨w.heap.size + 1, 0, none⟩ = some (.int .i64 k) := by rw [(Y0.out.after hb1).cell]; rfl
    have y1 : w1.cell? ⟨w.heap.size + 1, 1, none⟩ = some (.int .i64 h) := by rw [(Y0.out.after hb1).cell]; rfl
    clear hb1
    cases WW
    · go_wp2
      go_ret
      exact ⟨rfl, B1.out⟩
    · by_cases he : h = id
      · have he2 : (h == id) = true := by simpa using he
        by_cases hk : k ≤ 3
        all_goals
          go_wp2
          go_ret
          exact ⟨by simp [he, hk], B1.out⟩
      · have he2 : (h == id) = false := by simpa using he
        go_wp2
        go_ret
        exact ⟨by simp [he], B1.out⟩

/-- The state of a trip lies in memory. -/
theorem state_at {w : World} {v : Value} {hs : List Pl.H} {i : Nat} (h : Holds w v hs) (h6 : hs.length = 6) (hi : i < 6) : ∃ b off cap, v = .slice (some ⟨b, off, none⟩) 6 cap ∧ w.cell? ⟨b, off + i * 2 + 1, none⟩ = some (.int .i64 (Pl.hAt hs ((i : Int) + 1)).2) ∧ b < w.heap.size := by
  rcases h with ⟨h0, _⟩ | ⟨b, off, cap, hv, _, hc⟩
  · rw [h0] at h6; simp at h6
  · refine ⟨b, off, cap, by rw [hv, h6], ?_, World.block_lt_of_cell? _ _ (hc i (by omega)).1⟩
    have := (hc i (by omega)).2
    rw [this]
    have : Pl.at_ ((i : Int) + 1) = i := by unfold Pl.at_; omega
    unfold Pl.hAt
    rw [this]

set_option maxHeartbeats 2000000 in
theorem stateOf_any (room : Int) (v : Value) (hs : List Pl.H) (i : Nat) (w : World) (hv : Holds w v hs) (h6 : hs.length = 6) (hi : i < 6) :
    Calls Tryz.prog 96 #[.agg #[.int .i64 room, v], .int .i64 ((i : Int) + 1)] w fun e w' => e = .returned (.int .i64 (Pl.hAt hs ((i : Int) + 1)).2) ∧ Below w.heap.size w w' := by
  obtain ⟨b, off, cap, rfl, c1, hb⟩ := state_at hv h6 hi
  obtain ⟨s, hs'⟩ : ∃ s, (Pl.hAt hs ((i : Int) + 1)).2 = s := ⟨_, rfl⟩
  rw [hs'] at c1 ⊢
  clear hv h6 hs'
  have k1 := fun x => cellAlloc c1 x
  go_enter Tryz.func96, Tryz.ntmps96
  go_wp2
  go_ret
  exact ⟨rfl, alloc_below _ _⟩

/-- What lies ready where a house answers: all that it wrote down makes a stock, and so does what was forced. -/
structure Rdy (w : World) (a : Addr) (room : Int) (v : Value) (rs : List R) (f : Int) (hs hf : List Pl.H) : Prop where
  recs : Recs w v rs
  form : Form v rs.length
  tot_ : tot rs ≤ 1048576
  f0 : 0 ≤ f
  f1 : f ≤ rs.length
  all_ : Pl.sOf room rs = some hs
  forced_ : Pl.sOf room (rs.take f.toNat) = some hf
  err : ErrAt w a
theorem Rdy.later {w w' : World} {a : Addr} {room : Int} {v : Value} {rs : List R} {f : Int} {hs hf : List Pl.H} (h : Rdy w a room v rs f hs hf) (hb : Below w.heap.size w w') : Rdy w' a room v rs f hs hf :=
  ⟨h.recs.later hb (Nat.le_refl _), h.form, h.tot_, h.f0, h.f1, h.all_, h.forced_, h.err.later hb (Nat.le_refl _)⟩
theorem Rdy.stock {w : World} {a : Addr} {room : Int} {v : Value} {rs : List R} {f : Int} {hs hf : List Pl.H} (h : Rdy w a room v rs f hs hf) (id : Int) (up : Bool) :
    Calls Tryz.prog 35 #[keeperV v f id up room] w fun e w' => ∃ ao cap, e = .returned (.agg #[.int .i64 room, .slice ao 6 cap]) ∧ Holds w' (.slice ao 6 cap) hs ∧ Below w.heap.size w w' := by
  have h6 := (Pl.sOf_ok h.all_).2
  refine (allStock_any id up room v rs f a w h.recs h.tot_ h.err).mono ?_
  rintro e w' ⟨ao, cap, he, ho, hb⟩
  rw [h.all_] at he ho
  have e1 : oH (some hs) = hs := rfl
  have e2 : oR room (some hs) = room := rfl
  rw [e1, h6] at ho
  rw [e1, e2, h6] at he
  exact ⟨ao, cap, he, holds_of_row (base := w.heap.size) (by rw [h6]; exact ho), hb⟩
theorem Rdy.fstock {w : World} {a : Addr} {room : Int} {v : Value} {rs : List R} {f : Int} {hs hf : List Pl.H} (h : Rdy w a room v rs f hs hf) (id : Int) (up : Bool) :
    Calls Tryz.prog 49 #[keeperV v f id up room] w fun e w' => ∃ ao cap, e = .returned (.agg #[.int .i64 room, .slice ao 6 cap]) ∧ Holds w' (.slice ao 6 cap) hf ∧ Below w.heap.size w w' := by
  have h6 := (Pl.sOf_ok h.forced_).2
  refine (forcedStock_any id up room v rs f a w h.recs h.form h.tot_ h.f0 h.f1 h.err).mono ?_
  rintro e w' ⟨ao, cap, he, ho, hb⟩
  rw [h.forced_] at he ho
  have e1 : oH (some hf) = hf := rfl
  have e2 : oR room (some hf) = room := rfl
  rw [e1, h6] at ho
  rw [e1, e2, h6] at he
  exact ⟨ao, cap, he, holds_of_row (base := w.heap.size) (by rw [h6]; exact ho), hb⟩

set_option maxHeartbeats 2000000 in
theorem answerClose_any (id : Int) (up : Bool) (room : Int) (v : Value) (rs : List R) (f : Int) (hs hf : List Pl.H) (a : Addr) (i : Nat) (w : World) (hr : Rdy w a room v rs f hs hf) (hi : i < 6) :
    Calls Tryz.prog 73 #[keeperV v f id up room, .int .i64 ((i : Int) + 1)] w fun e w' => e = .returned (.tuple #[.int .i64 6, .bool ((Pl.hAt hf ((i : Int) + 1)).2 == 2)]) ∧ Below w.heap.size w w' := by
  have h6a := (Pl.sOf_ok hr.all_).2
  have h6f := (Pl.sOf_ok hr.forced_).2
  have HR := hide_it hr
  obtain ⟨av, cv, rfl⟩ := hr.recs.shape
  obtain ⟨sa, hsa⟩ : ∃ s, Hid ((Pl.hAt hs ((i : Int) + 1)).2 = s) := ⟨_, rfl⟩
  obtain ⟨sf, hsf⟩ : ∃ s, Hid ((Pl.hAt hf ((i : Int) + 1)).2 = s) := ⟨_, rfl⟩
  have SA : Hid (∀ (v : Value) (W : World), Holds W v hs → Calls Tryz.prog 96 #[.agg #[.int .i64 room, v], .int .i64 ((i : Int) + 1)] W fun e w' => e = .returned (.int .i64 sa) ∧ Below W.heap.size W w') := fun v W h => by
    have := stateOf_any room v hs i W h h6a hi; rw [hsa.out] at this; exact this
  have SF : Hid (∀ (v : Value) (W : World), Holds W v hf → Calls Tryz.prog 96 #[.agg #[.int .i64 room, v], .int .i64 ((i : Int) + 1)] W fun e w' => e = .returned (.int .i64 sf) ∧ Below W.heap.size W w') := fun v W h => by
    have := stateOf_any room v hf i W h h6f hi; rw [hsf.out] at this; exact this
  have X0 := hide_it (Blk.new w #[.slice av rs.length cv, .int .i64 f, .int .i64 id, .bool up, .int .i64 room] 66)
  have B0 := hide_it (alloc_below w (.cells #[.slice av rs.length cv, .int .i64 f, .int .i64 id, .bool up, .int .i64 room] 66))
  clear hr h6a h6f
  rw [hsf.out]
  go_enter Tryz.func73, Tryz.ntmps73
  go_wp2_with fail
  refine ((HR.out.later B0.out).fstock id up).mono ?_
  rintro e w1 ⟨a1, c1, rfl, hH1, hb1⟩
  have B1 := hide_it (B0.out.trans (hb1.mono B0.out.size))
  have V1 := hide_it hH1
  clear hb1 hH1
  go_wp2_with fail
  refine (SF.out _ _ V1.out).mono ?_
  rintro e w2 ⟨rfl, hb2⟩
  have B2 := hide_it (B1.out.trans (hb2.mono B1.out.size))
  clear hb2
  go_wp2
  refine bodyPost_ret (v := .tuple #[.int .i64 6, .bool (sf == 2)]) (by simp [results, Tryz.results73, go_sem]) rfl ⟨rfl, B2.out⟩

set_option maxHeartbeats 2000000 in
theorem answerUndo_any (id : Int) (up : Bool) (room : Int) (v : Value) (rs : List R) (f : Int) (hs hf : List Pl.H) (a : Addr) (i : Nat) (w : World) (hr : Rdy w a room v rs f hs hf) (hi : i < 6) :
    Calls Tryz.prog 74 #[keeperV v f id up room, .int .i64 ((i : Int) + 1)] w fun e w' => e = .returned (.tuple #[.int .i64 7, .bool ((Pl.hAt hf ((i : Int) + 1)).2 == 3)]) ∧ Below w.heap.size w w' := by
  have h6a := (Pl.sOf_ok hr.all_).2
  have h6f := (Pl.sOf_ok hr.forced_).2
  have HR := hide_it hr
  obtain ⟨av, cv, rfl⟩ := hr.recs.shape
  obtain ⟨sa, hsa⟩ : ∃ s, Hid ((Pl.hAt hs ((i : Int) + 1)).2 = s) := ⟨_, rfl⟩
  obtain ⟨sf, hsf⟩ : ∃ s, Hid ((Pl.hAt hf ((i : Int) + 1)).2 = s) := ⟨_, rfl⟩
  have SA : Hid (∀ (v : Value) (W : World), Holds W v hs → Calls Tryz.prog 96 #[.agg #[.int .i64 room, v], .int .i64 ((i : Int) + 1)] W fun e w' => e = .returned (.int .i64 sa) ∧ Below W.heap.size W w') := fun v W h => by
    have := stateOf_any room v hs i W h h6a hi; rw [hsa.out] at this; exact this
  have SF : Hid (∀ (v : Value) (W : World), Holds W v hf → Calls Tryz.prog 96 #[.agg #[.int .i64 room, v], .int .i64 ((i : Int) + 1)] W fun e w' => e = .returned (.int .i64 sf) ∧ Below W.heap.size W w') := fun v W h => by
    have := stateOf_any room v hf i W h h6f hi; rw [hsf.out] at this; exact this
  have X0 := hide_it (Blk.new w #[.slice av rs.length cv, .int .i64 f, .int .i64 id, .bool up, .int .i64 room] 66)
  have B0 := hide_it (alloc_below w (.cells #[.slice av rs.length cv, .int .i64 f, .int .i64 id, .bool up, .int .i64 room] 66))
  clear hr h6a h6f
  rw [hsf.out]
  go_enter Tryz.func74, Tryz.ntmps74
  go_wp2_with fail
  refine ((HR.out.later B0.out).fstock id up).mono ?_
  rintro e w1 ⟨a1, c1, rfl, hH1, hb1⟩
  have B1 := hide_it (B0.out.trans (hb1.mono B0.out.size))
  have V1 := hide_it hH1
  clear hb1 hH1
  go_wp2_with fail
  refine (SF.out _ _ V1.out).mono ?_
  rintro e w2 ⟨rfl, hb2⟩
  have B2 := hide_it (B1.out.trans (hb2.mono B1.out.size))
  clear hb2
  go_wp2
  refine bodyPost_ret (v := .tuple #[.int .i64 7, .bool (sf == 3)]) (by simp [results, Tryz.results74, go_sem]) rfl ⟨rfl, B2.out⟩

/-- What answerHold answers. -/
def ansH (sa sf : Int) : Int × Bool := if sa = 0 then (5, true) else if sf = 1 ∨ sf = 2 then (4, true) else if sf = 3 then (5, true) else (0, false)

set_option maxHeartbeats 2000000 in
theorem answerHold_any (id : Int) (up : Bool) (room : Int) (v : Value) (rs : List R) (f : Int) (hs hf : List Pl.H) (a : Addr) (i : Nat) (w : World) (hr : Rdy w a room v rs f hs hf) (hi : i < 6) :
    Calls Tryz.prog 72 #[keeperV v f id up room, .int .i64 ((i : Int) + 1)] w fun e w' => e = .returned (.tuple #[.int .i64 (ansH (Pl.hAt hs ((i : Int) + 1)).2 (Pl.hAt hf ((i : Int) + 1)).2).1, .bool (ansH (Pl.hAt hs ((i : Int) + 1)).2 (Pl.hAt hf ((i : Int) + 1)).2).2]) ∧ Below w.heap.size w w' := by
  have h6a := (Pl.sOf_ok hr.all_).2
  have h6f := (Pl.sOf_ok hr.forced_).2
  have HR := hide_it hr
  obtain ⟨av, cv, rfl⟩ := hr.recs.shape
  obtain ⟨sa, hsa⟩ : ∃ s, Hid ((Pl.hAt hs ((i : Int) + 1)).2 = s) := ⟨_, rfl⟩
  obtain ⟨sf, hsf⟩ : ∃ s, Hid ((Pl.hAt hf ((i : Int) + 1)).2 = s) := ⟨_, rfl⟩
  have SA : Hid (∀ (v : Value) (W : World), Holds W v hs → Calls Tryz.prog 96 #[.agg #[.int .i64 room, v], .int .i64 ((i : Int) + 1)] W fun e w' => e = .returned (.int .i64 sa) ∧ Below W.heap.size W w') := fun v W h => by
    have := stateOf_any room v hs i W h h6a hi; rw [hsa.out] at this; exact this
  have SF : Hid (∀ (v : Value) (W : World), Holds W v hf → Calls Tryz.prog 96 #[.agg #[.int .i64 room, v], .int .i64 ((i : Int) + 1)] W fun e w' => e = .returned (.int .i64 sf) ∧ Below W.heap.size W w') := fun v W h => by
    have := stateOf_any room v hf i W h h6f hi; rw [hsf.out] at this; exact this
  have X0 := hide_it (Blk.new w #[.slice av rs.length cv, .int .i64 f, .int .i64 id, .bool up, .int .i64 room] 66)
  have B0 := hide_it (alloc_below w (.cells #[.slice av rs.length cv, .int .i64 f, .int .i64 id, .bool up, .int .i64 room] 66))
  clear hr h6a h6f
  rw [hsa.out, hsf.out]
  go_enter Tryz.func72, Tryz.ntmps72
  go_wp2_with fail
  refine ((HR.out.later B0.out).stock id up).mono ?_
  rintro e w1 ⟨a1, c1, rfl, hH1, hb1⟩
  have B1 := hide_it (B0.out.trans (hb1.mono B0.out.size))
  have V1 := hide_it hH1
  have X1 := hide_it (X0.out.after hb1)
  clear hb1 hH1
  go_wp2_with fail
  refine (SA.out _ _ V1.out).mono ?_
  rintro e w2 ⟨rfl, hb2⟩
  have B2 := hide_it (B1.out.trans (hb2.mono B1.out.size))
  obtain ⟨x0, x1, x2, x3, x4⟩ := (X1.out.after hb2).cells5
  clear hb2
  by_cases h0 : sa = 0
  · subst h0
    go_wp2
    refine bodyPost_ret (v := .tuple #[.int .i64 5, .bool true]) (by simp [results, Tryz.results72, go_sem]) rfl ⟨by simp [ansH], B2.out⟩
  · have e0 : (sa == 0) = false := by simpa using h0
    go_wp2_with fail
    refine ((HR.out.later B2.out).fstock id up).mono ?_
    rintro e w3 ⟨a3, c3, rfl, hH3, hb3⟩
    have B3 := hide_it (B2.out.trans (hb3.mono B2.out.size))
    have V3 := hide_it hH3
    clear hb3 hH3
    go_wp2_with fail
    refine (SF.out _ _ V3.out).mono ?_
    rintro e w4 ⟨rfl, hb4⟩
    have B4 := hide_it (B3.out.trans (hb4.mono B3.out.size))
    clear hb4
    by_cases h1 : sf = 1
    · subst h1
      go_wp2
      refine bodyPost_ret (v := .tuple #[.int .i64 4, .bool true]) (by simp [results, Tryz.results72, go_sem]) rfl ⟨by simp [ansH, h0], B4.out⟩
    · have e1 : (sf == 1) = false := by simpa using h1
      by_cases h2 : sf = 2
      · subst h2
        go_wp2
        refine bodyPost_ret (v := .tuple #[.int .i64 4, .bool true]) (by simp [results, Tryz.results72, go_sem]) rfl ⟨by simp [ansH, h0], B4.out⟩
      · have e2 : (sf == 2) = false := by simpa using h2
        by_cases h3 : sf = 3
        · subst h3
          go_wp2
          refine bodyPost_ret (v := .tuple #[.int .i64 5, .bool true]) (by simp [results, Tryz.results72, go_sem]) rfl ⟨by simp [ansH, h0], B4.out⟩
        · have e3 : (sf == 3) = false := by simpa using h3
          go_wp2
          refine bodyPost_ret (v := .tuple #[.int .i64 0, .bool false]) (by simp [results, Tryz.results72, go_sem]) rfl ⟨by simp [ansH, h0, h1, h2, h3], B4.out⟩

end Go.Proofs.YthllcffmpeopcaaGreatDoor

namespace Go.Proofs.YthllcffmpeopcaaGreatDoor
open Go.RowKit

/-- A log and a yes or no come back, the log in memory of the call's own. -/
def LogOut2 (w w' : World) (e : Ending) (rs : List R) (f : Int) (b : Bool) : Prop :=
  ∃ ao cap, e = .returned (.tuple #[.agg #[.slice ao rs.length cap, .int .i64 f], .bool b]) ∧ Made w' w.heap.size (.slice ao rs.length cap) rs ∧ Below w.heap.size w w'

def addOk (rs : List R) (f : Int) (r : R) : Bool := logOk rs f && rOk r
def addR (rs : List R) (f : Int) (r : R) : List R := if addOk rs f r then (if rs.length = 40 then rs else rs ++ [r]) else []
def addF (rs : List R) (f : Int) (r : R) : Int := if addOk rs f r then f else 0
def addB (rs : List R) (f : Int) (r : R) : Bool := addOk rs f r && decide (rs.length ≠ 40)

/-- The three blocks of a call that takes a log and a record and gives back a log. -/
def Trio (w : World) (B : Nat) (v : Value) (f : Int) (r : R) (u : Value) : Prop :=
  w.heap[B]? = some (.cells #[v, .int .i64 f] 32 (0, 0)) ∧ w.heap[B + 1]? = some (.cells #[.int .i64 r.1, .int .i64 r.2.1, u] 62 (0, 0)) ∧ w.heap[B + 2]? = some (.cells #[.slice none 0 0, .int .i64 0] 32 (0, 0))

theorem Trio.size {w : World} {B : Nat} {v : Value} {f : Int} {r : R} {u : Value} (h : Trio w B v f r u) : B + 2 < w.heap.size := lt_of_heap h.2.2
theorem Trio.later {w w' : World} {B L : Nat} {v : Value} {f : Int} {r : R} {u : Value} (h : Trio w B v f r u) (hb : Below L w w') (hL : B + 3 ≤ L) : Trio w' B v f r u := by
  obtain ⟨h0, h1, h2⟩ := h
  exact ⟨by rw [hb.block B (by omega)]; exact h0, by rw [hb.block (B + 1) (by omega)]; exact h1, by rw [hb.block (B + 2) (by omega)]; exact h2⟩
theorem Trio.new (w : World) (v : Value) (f : Int) (r : R) (u : Value) : Trio (((w.alloc (.cells #[v, .int .i64 f] 32)).alloc (.cells #[.int .i64 r.1, .int .i64 r.2.1, u] 62)).alloc (.cells #[.slice none 0 0, .int .i64 0] 32)) w.heap.size v f r u := by
  refine ⟨?_, ?_, ?_⟩
  · rw [Below.heap_alloc _ _ _ (by simp; omega), Below.heap_alloc _ _ _ (by simp)]; exact heap_alloc_new w _
  · rw [Below.heap_alloc _ _ _ (by simp)]
    have := heap_alloc_new (w.alloc (.cells #[v, .int .i64 f] 32)) (.cells #[.int .i64 r.1, .int .i64 r.2.1, u] 62)
    rw [size1] at this
    exact this
  · have := heap_alloc_new ((w.alloc (.cells #[v, .int .i64 f] 32)).alloc (.cells #[.int .i64 r.1, .int .i64 r.2.1, u] 62)) (.cells #[.slice none 0 0, .int .i64 0] 32)
    rw [size2] at this
    exact this
theorem Trio.cells {w : World} {B : Nat} {v : Value} {f : Int} {r : R} {u : Value} (h : Trio w B v f r u) :
    (w.cell? ⟨B, 0, none⟩ = some v ∧ w.cell? ⟨B, 1, none⟩ = some (.int .i64 f)) ∧ (w.cell? ⟨B + 1, 0, none⟩ = some (.int .i64 r.1) ∧ w.cell? ⟨B + 1, 1, none⟩ = some (.int .i64 r.2.1) ∧ w.cell? ⟨B + 1, 2, none⟩ = some u) ∧
    (w.cell? ⟨B + 2, 0, none⟩ = some (.slice none 0 0) ∧ w.cell? ⟨B + 2, 1, none⟩ = some (.int .i64 0) ∧ w.frozen? ⟨B + 2, 0, none⟩ = false ∧ w.frozen? ⟨B + 2, 1, none⟩ = false) := by
  obtain ⟨h0, h1, h2⟩ := h
  refine ⟨⟨?_, ?_⟩, ⟨?_, ?_, ?_⟩, ⟨?_, ?_, frozen_of_row w _ _ _ _ h2, frozen_of_row w _ _ _ _ h2⟩⟩
  · rw [cell_of_row w _ _ _ _ _ h0]; rfl
  · rw [cell_of_row w _ _ _ _ _ h0]; rfl
  · rw [cell_of_row w _ _ _ _ _ h1]; rfl
  · rw [cell_of_row w _ _ _ _ _ h1]; rfl
  · rw [cell_of_row w _ _ _ _ _ h1]; rfl
  · rw [cell_of_row w _ _ _ _ _ h2]; rfl
  · rw [cell_of_row w _ _ _ _ _ h2]; rfl

theorem set2 (w : World) (b2 : Nat) (x y : Value) {b o : Nat} (h : b ≠ b2) : ((w.setCell ⟨b2, 0, none⟩ x).setCell ⟨b2, 1, none⟩ y).cell? ⟨b, o, none⟩ = w.cell? ⟨b, o, none⟩ := by
  rw [World.cell?_of_block (w := w.setCell ⟨b2, 0, none⟩ x) (a := ⟨b, o, none⟩) (Below.heap_setCell _ _ _ _ h), World.cell?_of_block (w := w) (a := ⟨b, o, none⟩) (Below.heap_setCell _ _ _ _ h)]

theorem addRow {w3 w4 : World} {lo n cap3 : Nat} {a3 : Option Addr} {ps : List (R × Value)} (ho : OwnRecs w3 lo w3.heap.size (.slice a3 n cap3) ps) (hpl : ps.length = n) (hb : Below w3.heap.size w3 w4) (o : Obj) :
    (w4.alloc o).ownsRow lo 62 3 (.slice a3 n cap3) n (flat ps) := by
  have h := ho.1
  rw [hpl] at h
  exact (ownsRow_below h hb (fun j hj => (h.lt j hj).2)).alloc o

theorem addBelow {W w5 : World} {lo n cap3 : Nat} {a3 : Option Addr} {xs : List Value} (hr : W.ownsRow lo 62 3 (.slice a3 n cap3) n xs) (hg : W.grownBy w5 (Value.slice a3 n cap3).ownBlock) (hlo : lo ≤ W.heap.size) : Below lo W w5 :=
  (Below.refl _ _).grown hg hlo (fun k hk => (hr.lt k hk).1)

/-- What comes of a list with one more record. -/
theorem implAdd_step {w3 w4 w5 : World} {lo n cap3 g5 cap5 cap4 : Nat} {a3 a4 : Option Addr} {rs : List R} {ps : List (R × Value)} {r : R} {o : Obj} (hlo : lo ≤ w3.heap.size) (hps : ps.map (·.1) = rs) (ho : OwnRecs w3 lo w3.heap.size (.slice a3 n cap3) ps) (hb : Below w3.heap.size w3 w4)
    (hown4 : w4.ownsRow (w3.heap.size + 2) 3 1 (.slice a4 r.2.2.length cap4) r.2.2.length (r.2.2.map (Value.int .i64)))
    (hown5 : w5.ownsRow lo 62 3 (.slice (some ⟨g5, 0, none⟩) (n + 1) cap5) (n + 1) (flat ps ++ [.int .i64 r.1, .int .i64 r.2.1, .slice a4 r.2.2.length cap4]))
    (hg5 : (w4.alloc o).grownBy w5 (Value.slice a3 n cap3).ownBlock) : Made w5 lo (.slice (some ⟨g5, 0, none⟩) (n + 1) cap5) (rs ++ [r]) := by
  have hpl : ps.length = n := by
    have h1 := hown5.1
    rw [List.length_append, flat_length] at h1
    simp at h1; omega
  have row4 := addRow ho hpl hb o
  have al := (Below.refl w4.heap.size w4).alloc (Nat.le_refl _) o
  have hs : (w4.alloc o).heap.size = w4.heap.size + 1 := by simp
  have hbs := hb.size
  have in4 : Inner (w4.alloc o) lo w3.heap.size ps := (ho.2.2.below hb (Nat.le_refl _)).below al hbs
  have lo3 : lo ≤ w3.heap.size + 2 := by omega
  rw [← hpl] at row4 hown5 hg5
  have st := append_step (r := r) row4 in4 (by omega) ((ownsRow_base hown4 lo3).alloc o) (fun k hk => by have := hown4.lt k hk; omega) hown5 hg5
  refine ⟨ps ++ [(r, .slice a4 r.2.2.length cap4)], by rw [List.map_append, hps]; rfl, ?_⟩
  rw [← hpl]
  exact ⟨st.1, fun k hk => (st.1.lt k hk).2, st.2⟩

set_option maxRecDepth 100000 in
set_option maxHeartbeats 4000000 in
theorem implAdd_any (v : Value) (rs : List R) (f : Int) (r : R) (u : Value) (a : Addr) (w : World) (hv : Recs w v rs) (hl : tot rs ≤ 1048576) (hu : Ints w u r.2.2) (hrl : r.2.2.length ≤ 1048576) (ha : ErrAt w a) :
    Calls Tryz.prog 36 #[.agg #[v, .int .i64 f], .agg #[.int .i64 r.1, .int .i64 r.2.1, u]] w fun e w' => LogOut2 w w' e (addR rs f r) (addF rs f r) (addB rs f r) := by
  obtain ⟨i0, hi, hz0, hz1, hz2⟩ := info_parts infoRec
  have hrsl := tot_len rs
  have HV : Hid (∀ W, Below w.heap.size w W → Recs W v rs) := fun W h => hv.later h (Nat.le_refl _)
  have HU : Hid (∀ W, Below w.heap.size w W → Ints W u r.2.2) := fun W h => hu.later h (Nat.le_refl _)
  have HA : Hid (∀ W, Below w.heap.size w W → ErrAt W a) := fun W h => ha.later h (Nat.le_refl _)
  have HT := hide_it (Trio.new w v f r u)
  obtain ⟨av, cv, hvs⟩ := hv.shape
  obtain ⟨au, cu, hus⟩ := hu.shape
  clear hv hu ha
  subst hvs hus
  have HS : Hid (∀ o1 o2 o3, Calls Tryz.prog 56 #[.agg #[.slice av rs.length cv, .int .i64 f]] (((w.alloc o1).alloc o2).alloc o3) fun e w' => e = .returned (.bool (logOk rs f)) ∧ Below (w.heap.size + 3) (((w.alloc o1).alloc o2).alloc o3) w') := fun o1 o2 o3 => by
    have := implLogOk_any _ rs f a _ (HV.out _ (below3 w o1 o2 o3)) hl (HA.out _ (below3 w o1 o2 o3))
    rw [size3] at this
    exact this
  cases hok : logOk rs f
  · have HR : Hid (addR rs f r = [] ∧ addF rs f r = 0 ∧ addB rs f r = false) := by refine ⟨?_, ?_, ?_⟩ <;> simp [addR, addF, addB, addOk, hok]
    rw [hok] at HS
    clear hok
    go_enter Tryz.func36, Tryz.ntmps36
    go_wp2_with fail
    refine (HS.out _ _ _).mono ?_
    rintro e w1 ⟨rfl, hb⟩
    have HB := hide_it ((below3 w _ _ _).trans (hb.mono (by omega)))
    have HT1 := hide_it (HT.out.later hb (Nat.le_refl _))
    obtain ⟨⟨l0, l1⟩, ⟨q0, q1, q2⟩, ⟨r0, r1, z0, z1⟩⟩ := HT1.out.cells
    have hz : w.heap.size + 3 ≤ w1.heap.size := by have := hb.size; rw [size3] at this; exact this
    clear hb
    go_wp2
    refine bodyPost_ret (v := .tuple #[.agg #[.slice none 0 0, .int .i64 0], .bool false]) (by simp [results, Tryz.results36, go_sem, r0, r1]) rfl ?_
    unfold LogOut2
    rw [HR.out.1, HR.out.2.1, HR.out.2.2]
    refine ⟨none, 0, rfl, Made.none _ _, ?_⟩
    exact (HB.out.setCell (by simp; omega) _).setCell (by simp; omega) _
  have HQ : Hid (∀ W, Below w.heap.size w W → Calls Tryz.prog 70 #[.agg #[.int .i64 r.1, .int .i64 r.2.1, .slice au r.2.2.length cu]] W fun e w' => e = .returned (.bool (rOk r)) ∧ Below W.heap.size W w') := fun W h => implOk_any r.1 r.2.1 _ r.2.2 a W (HU.out _ h) hrl (HA.out _ h)
  cases hrok : rOk r
  · have HR : Hid (addR rs f r = [] ∧ addF rs f r = 0 ∧ addB rs f r = false) := by refine ⟨?_, ?_, ?_⟩ <;> simp [addR, addF, addB, addOk, hrok]
    rw [hok] at HS
    rw [hrok] at HQ
    clear hok hrok
    go_enter Tryz.func36, Tryz.ntmps36
    go_wp2_with fail
    refine (HS.out _ _ _).mono ?_
    rintro e w1 ⟨rfl, hb⟩
    have HB := hide_it ((below3 w _ _ _).trans (hb.mono (by omega)))
    have HT1 := hide_it (HT.out.later hb (Nat.le_refl _))
    obtain ⟨⟨l0, l1⟩, ⟨q0, q1, q2⟩, -⟩ := HT1.out.cells
    have hz : w.heap.size + 3 ≤ w1.heap.size := by have := hb.size; rw [size3] at this; exact this
    clear hb
    go_wp2_with fail
    refine (HQ.out _ HB.out).mono ?_
    rintro e w2 ⟨rfl, hb2⟩
    have HB2 := hide_it (HB.out.trans (hb2.mono HB.out.size))
    have HT2 := hide_it (HT1.out.later hb2 (by omega))
    obtain ⟨-, -, ⟨r0, r1, z0, z1⟩⟩ := HT2.out.cells
    clear hb2
    go_wp2
    refine bodyPost_ret (v := .tuple #[.agg #[.slice none 0 0, .int .i64 0], .bool false]) (by simp [results, Tryz.results36, go_sem, r0, r1]) rfl ?_
    unfold LogOut2
    rw [HR.out.1, HR.out.2.1, HR.out.2.2]
    refine ⟨none, 0, rfl, Made.none _ _, ?_⟩
    exact (HB2.out.setCell (by simp; omega) _).setCell (by simp; omega) _
  obtain ⟨hf0, hfn, hn40⟩ := logOk_f hok
  rw [hok] at HS
  rw [hrok] at HQ
  have HOK : Hid (addOk rs f r = true) := by show _ = _; simp [addOk, hok, hrok]
  clear hok hrok
  go_enter Tryz.func36, Tryz.ntmps36
  go_wp2_with fail
  refine (HS.out _ _ _).mono ?_
  rintro e w1 ⟨rfl, hb⟩
  have HB := hide_it ((below3 w _ _ _).trans (hb.mono (by omega)))
  have HT1 := hide_it (HT.out.later hb (Nat.le_refl _))
  obtain ⟨⟨l0, l1⟩, ⟨q0, q1, q2⟩, -⟩ := HT1.out.cells
  have hz : w.heap.size + 3 ≤ w1.heap.size := by have := hb.size; rw [size3] at this; exact this
  clear hb
  go_wp2_with fail
  refine (HQ.out _ HB.out).mono ?_
  rintro e w2 ⟨rfl, hb2⟩
  have HB2 := hide_it (HB.out.trans (hb2.mono HB.out.size))
  have HT2 := hide_it (HT1.out.later hb2 (by omega))
  have hzz : w.heap.size + 3 ≤ w2.heap.size := Nat.le_trans hz hb2.size
  clear hb2 l0 l1 q0 q1 q2
  obtain ⟨⟨l0, l1⟩, -, -⟩ := HT2.out.cells
  go_wp2_with fail
  refine (copyRecs_any _ rs w2 (HV.out _ HB2.out) hl).mono ?_
  rintro e w3 ⟨a3, cap3, rfl, hm3, hb3⟩
  have HB3 := hide_it (HB2.out.trans (hb3.mono HB2.out.size))
  have HT3 := hide_it (HT2.out.later hb3 hzz)
  have HM3 := hide_it hm3
  have hz3 : w.heap.size + 3 ≤ w3.heap.size := Nat.le_trans hzz hb3.size
  have HZ23 := hide_it hb3.size
  clear hm3 hb3 l0 l1
  by_cases h40 : (rs.length : Int) = 40
  · have HR : Hid (addR rs f r = rs ∧ addF rs f r = f ∧ addB rs f r = false) := by
      have h4 : rs.length = 40 := by omega
      refine ⟨?_, ?_, ?_⟩ <;> simp [addR, addF, addB, HOK.out, h4]
    obtain ⟨⟨l0, l1⟩, -, ⟨r0, r1, z0, z1⟩⟩ := HT3.out.cells
    go_wp2
    refine bodyPost_ret (v := .tuple #[.agg #[.slice a3 rs.length cap3, .int .i64 f], .bool false]) (by simp [results, Tryz.results36, go_sem, r0, r1]) rfl ?_
    unfold LogOut2
    rw [HR.out.1, HR.out.2.1, HR.out.2.2]
    refine ⟨a3, cap3, rfl, ?_, ?_⟩
    · exact ((HM3.out.setBelow (by simp; omega) _).setBelow (by simp; omega) _).lo (by omega)
    · exact (HB3.out.setCell (by simp; omega) _).setCell (by simp; omega) _
  · have HR : Hid (addR rs f r = rs ++ [r] ∧ addF rs f r = f ∧ addB rs f r = true) := by
      have h4 : ¬ rs.length = 40 := by omega
      refine ⟨?_, ?_, ?_⟩ <;> simp [addR, addF, addB, HOK.out, h4]
    obtain ⟨⟨l0, l1⟩, ⟨q0, q1, q2⟩, -⟩ := HT3.out.cells
    obtain ⟨ps, hps, ho3⟩ := HM3.out
    have HPS := hide_it hps
    have HPL : Hid (ps.length = rs.length) := by have := congrArg List.length hps; show _ = _; simpa using this
    have HO3 := hide_it ho3
    clear hps ho3
    go_wp2_with fail
    go_region_held_law (fun w' => w'.cell? ⟨w.heap.size + 1, 0, none⟩ = some (.int .i64 r.1) ∧ w'.cell? ⟨w.heap.size + 1, 1, none⟩ = some (.int .i64 r.2.1) ∧ w'.cell? ⟨w.heap.size + 1, 2, none⟩ = some (.slice au r.2.2.length cu) ∧ w'.cell? ⟨w.heap.size, 1, none⟩ = some (.int .i64 f)) (first | (refine ⟨(set2 _ _ _ _ ?_).trans ?_, (set2 _ _ _ _ ?_).trans ?_, (set2 _ _ _ _ ?_).trans ?_, (set2 _ _ _ _ ?_).trans ?_⟩ <;> first | omega | assumption) | go_keep)
      (first
        | (refine step_append_lies _ rfl _ _ 30 rfl w2.heap.size 62 i0 (.agg #[.int .i64 0, .int .i64 0, .slice none 0 0]) 3 40 Tryz.underlying30 hi hz0 hz1 hz2 rfl (by decide) (.slice a3 rs.length cap3) rs.length (flat ps) rfl (by exact (ROW4.out _)) ⟨w4.heap.size, 0, none⟩ 1 1 [.int .i64 r.1, .int .i64 r.2.1, .slice a4 r.2.2.length cap4] rfl rfl (by exact news3 _ _ _ _ _) (by exact one3 _ _ _) (by decide) (by unfold maxLen; omega) (by omega) (by have := HZ23.out; simp; omega) _ rfl ?_; intro g5 cap5 w5 hown5 hgrow5 _ _; have ST := hide_it (implAdd_step HZ23.out HPS.out HO3.out HB4.out HW4.out hown5 hgrow5); have LO5 := hide_it (addBelow (ROW4.out _) hgrow5 (by have := HZ23.out; simp; omega)); obtain ⟨⟨m0, m1⟩, ⟨s0, s1, s2⟩, ⟨e0, e1, e2, e3⟩⟩ := ((HT4.out.later (alloc_below _ _) (by omega)).later LO5.out hzz).cells; have hz5 : w.heap.size + 3 ≤ w5.heap.size := (by have := LO5.out.size; simp at this; omega); clear hown5 hgrow5)
        | (go_simp; go_at_call 71; refine (copyRec_any r.1 r.2.1 _ r.2.2 _ ?_ hrl).mono ?_; exact HU.out _ HB3.out.drew; rintro e w4 ⟨a4, cap4, rfl, hown4, hb4⟩; have HB4 := hide_it ((Below.refl w3.heap.size w3).drew.trans hb4); have HW4 := hide_it hown4; have HT4 := hide_it (HT3.out.later HB4.out hz3); obtain ⟨⟨m0, m1⟩, ⟨s0, s1, s2⟩, ⟨e0, e1, e2, e3⟩⟩ := HT4.out.cells; have m1o := (fun x => cellAlloc m1 x); have s0o := (fun x => cellAlloc s0 x); have s1o := (fun x => cellAlloc s1 x); have s2o := (fun x => cellAlloc s2 x); have hz4 : w.heap.size + 3 ≤ w4.heap.size := Nat.le_trans hz3 HB4.out.size; have hz24 : w2.heap.size ≤ w4.heap.size := Nat.le_trans HZ23.out HB4.out.size; have ROW4 : Hid (∀ o, (w4.alloc o).ownsRow w2.heap.size 62 3 (.slice a3 rs.length cap3) rs.length (flat ps)) := (fun o => addRow HO3.out HPL.out HB4.out o); clear hown4 hb4))
    have BE5 := hide_it ((((HB3.out.trans (HB4.out.mono (by omega))).alloc (by omega) _).trans (LO5.out.mono (show w.heap.size ≤ w2.heap.size by omega))))
    have HLr : Hid ((rs ++ [r]).length = rs.length + 1) := by show _ = _; simp
    go_wp2
    refine bodyPost_ret (v := .tuple #[.agg #[.slice (some ⟨g5, 0, none⟩) (rs.length + 1) cap5, .int .i64 f], .bool true]) (by simp [results, Tryz.results36, go_sem, e0, e1]) rfl ?_
    unfold LogOut2
    rw [HR.out.1, HR.out.2.1, HR.out.2.2, HLr.out]
    refine ⟨_, cap5, rfl, ?_, ?_⟩
    · exact ((ST.out.setBelow (by simp; omega) _).setBelow (by simp; omega) _).lo (by omega)
    · exact (BE5.out.setCell (by simp; omega) _).setCell (by simp; omega) _

end Go.Proofs.YthllcffmpeopcaaGreatDoor

namespace Go.Proofs.YthllcffmpeopcaaGreatDoor
open Go.RowKit

theorem Trio.grown {w w' : World} {B : Nat} {v : Value} {f : Int} {r : R} {u : Value} {row : Option Nat} (h : Trio w B v f r u) (hg : w.grownBy w' row) (hr : ∀ k, row = some k → k < B) : Trio w' B v f r u := by
  have hs := h.size
  obtain ⟨h0, h1, h2⟩ := h
  exact ⟨by rw [hg.block B (by omega) (fun e => by have := hr _ e.symm; omega)]; exact h0, by rw [hg.block (B + 1) (by omega) (fun e => by have := hr _ e.symm; omega)]; exact h1, by rw [hg.block (B + 2) hs (fun e => by have := hr _ e.symm; omega)]; exact h2⟩

/-- A store into a log's own block leaves lists of records as they are. -/
theorem Made.setApart {w : World} {lo b j : Nat} {v : Value} {rs : List R} {cur : Array Value} {fz : Nat × Nat} (h : Made w lo v rs) (hh : w.heap[b]? = some (.cells cur 32 fz)) (x : Value) : Made (w.setCell ⟨b, j, Option.none⟩ x) lo v rs := by
  obtain ⟨ps, hp, h1, h2, h3⟩ := h
  have hs : (w.setCell ⟨b, j, Option.none⟩ x).heap.size = w.heap.size := by simp
  refine ⟨ps, hp, ownsRow_setCell_ne h1 (row_apart h1 hh (by decide)) x, by rw [hs]; exact h2, ?_⟩
  rw [hs]
  exact ⟨by rw [hs]; exact h3.1, fun p hp => ⟨ownsRow_setCell_ne (h3.2.1 p hp).1 (row_apart (h3.2.1 p hp).1 hh (by decide)) x, (h3.2.1 p hp).2⟩, h3.2.2⟩

set_option maxRecDepth 100000 in
set_option maxHeartbeats 4000000 in
theorem l1Add_full (v : Value) (n : Nat) (f : Int) (r : R) (u : Value) (w : World) (hv : ∃ ao cap, v = .slice ao n cap) (h40 : 40 ≤ (n : Int)) :
    Calls Tryz.prog 63 #[.agg #[v, .int .i64 f], .agg #[.int .i64 r.1, .int .i64 r.2.1, u]] w fun e w' => e = .returned (.tuple #[.agg #[v, .int .i64 f], .bool false]) ∧ Below w.heap.size w w' := by
  obtain ⟨ao, cap, rfl⟩ := hv
  go_enter Tryz.func63, Tryz.ntmps63
  go_wp2
  refine bodyPost_ret (v := .tuple #[.agg #[.slice ao n cap, .int .i64 f], .bool false]) (by simp [results, Tryz.results63, go_sem]) rfl ⟨rfl, ?_⟩
  exact below3 w _ _ _

theorem Mid.setUp {lo hi : Nat} {w W : World} (h : Mid lo hi w W) {a : Addr} (ha : w.heap.size ≤ a.block) (x : Value) : Mid lo hi w (W.setCell a x) :=
  ⟨h.os, h.tape, h.output, by have := h.size; simpa using this, fun k hk hh => by rw [Below.heap_setCell _ _ _ _ (by omega)]; exact h.block k hk hh⟩

set_option maxRecDepth 100000 in
set_option maxHeartbeats 4000000 in
theorem l1Add_mid (ao : Option Addr) (cap : Nat) (ps : List (R × Value)) (f : Int) (r : R) (au : Option Addr) (cu lo hi : Nat) (w : World) (ho : OwnRecs w lo hi (.slice ao ps.length cap) ps) (hlo : lo ≤ w.heap.size)
    (hu : w.ownsRow lo 3 1 (.slice au r.2.2.length cu) r.2.2.length (r.2.2.map (Value.int .i64))) (hub : ∀ k, (Value.slice au r.2.2.length cu).ownBlock = some k → hi ≤ k) (h40 : (ps.length : Int) < 40) :
    Calls Tryz.prog 63 #[.agg #[.slice ao ps.length cap, .int .i64 f], .agg #[.int .i64 r.1, .int .i64 r.2.1, .slice au r.2.2.length cu]] w fun e w' => ∃ g cap', e = .returned (.tuple #[.agg #[.slice (some ⟨g, 0, none⟩) (ps.length + 1) cap', .int .i64 f], .bool true]) ∧ Made w' lo (.slice (some ⟨g, 0, none⟩) (ps.length + 1) cap') (ps.map (·.1) ++ [r]) ∧ Below lo w w' ∧ Mid lo hi w w' := by
  obtain ⟨i0, hi0, hz0, hz1, hz2⟩ := info_parts infoRec
  have HO := hide_it ho
  have HU := hide_it hu
  have HUB := hide_it hub
  have HT := hide_it (Trio.new w (.slice ao ps.length cap) f r (.slice au r.2.2.length cu))
  have ROW : Hid (∀ o1 o2 o3 o4, ((((w.alloc o1).alloc o2).alloc o3).alloc o4).ownsRow lo 62 3 (.slice ao ps.length cap) ps.length (flat ps)) := fun o1 o2 o3 o4 => (((ho.1.alloc o1).alloc o2).alloc o3).alloc o4
  clear ho hu hub
  go_enter Tryz.func63, Tryz.ntmps63
  go_wp2_with (at_builtin; refine wpList_append_lies _ rfl _ _ 30 rfl lo 62 i0 (.agg #[.int .i64 0, .int .i64 0, .slice none 0 0]) 3 40 Tryz.underlying30 hi0 hz0 hz1 hz2 rfl (by decide) (.slice ao ps.length cap) ps.length (flat ps) rfl (ROW.out _ _ _ _) ⟨w.heap.size + 3, 0, none⟩ 1 1 [.int .i64 r.1, .int .i64 r.2.1, .slice au r.2.2.length cu] rfl rfl ?c1 (one3 _ _ _) (by decide) ?c3 ?c4 ?c5 _ rfl ?_)
  case c1 =>
    have h := news3 (((w.alloc (.cells #[.slice ao ps.length cap, .int .i64 f] 32)).alloc (.cells #[.int .i64 r.1, .int .i64 r.2.1, .slice au r.2.2.length cu] 62)).alloc (.cells #[.slice none 0 0, .int .i64 0] 32)) r.1 r.2.1 (.slice au r.2.2.length cu) 62
    rw [size3] at h
    exact h
  case c3 => unfold maxLen; omega
  case c4 => omega
  case c5 => simp; omega
  · intro g cap' w5 hown5 hgrow5 _ _
    have hhi := HO.out.2.2.1
    have HT4 := hide_it (HT.out.later (alloc_below _ (.cells #[.int .i64 r.1, .int .i64 r.2.1, .slice au r.2.2.length cu] 62)) (by rw [size3]; exact Nat.le_refl _))
    have HT5 := hide_it (HT4.out.grown hgrow5 (fun k hk => by have := HO.out.2.1 k hk; omega))
    have IN4 := hide_it (HO.out.2.2.below (below4 w (.cells #[.slice ao ps.length cap, .int .i64 f] 32) (.cells #[.int .i64 r.1, .int .i64 r.2.1, .slice au r.2.2.length cu] 62) (.cells #[.slice none 0 0, .int .i64 0] 32) (.cells #[.int .i64 r.1, .int .i64 r.2.1, .slice au r.2.2.length cu] 62)) hhi)
    have HU4 := hide_it ((((HU.out.alloc (.cells #[.slice ao ps.length cap, .int .i64 f] 32)).alloc (.cells #[.int .i64 r.1, .int .i64 r.2.1, .slice au r.2.2.length cu] 62)).alloc (.cells #[.slice none 0 0, .int .i64 0] 32)).alloc (.cells #[.int .i64 r.1, .int .i64 r.2.1, .slice au r.2.2.length cu] 62))
    have st := append_step (r := r) (ROW.out _ _ _ _) IN4.out (by simp; omega) HU4.out (fun k hk => ⟨HUB.out k hk, (HU4.out.lt k hk).2⟩) hown5 hgrow5
    have MD : Hid (Made w5 lo (.slice (some ⟨g, 0, none⟩) (ps.length + 1) cap') (ps.map (·.1) ++ [r])) := by
      refine ⟨ps ++ [(r, .slice au r.2.2.length cu)], by simp, ?_, fun k hk => (st.1.lt k hk).2, st.2⟩
      have h := st.1
      exact h
    have LO5 := hide_it (addBelow (ROW.out _ _ _ _) hgrow5 (by simp; omega))
    have BE5 := hide_it (((below4 w _ _ _ _).mono hlo).trans LO5.out)
    have MI5 := hide_it ((Mid.of_below (lo := lo) (hi := hi) (below4 w (.cells #[.slice ao ps.length cap, .int .i64 f] 32) (.cells #[.int .i64 r.1, .int .i64 r.2.1, .slice au r.2.2.length cu] 62) (.cells #[.slice none 0 0, .int .i64 0] 32) (.cells #[.int .i64 r.1, .int .i64 r.2.1, .slice au r.2.2.length cu] 62)) (Nat.le_refl _)).trans (Mid.of_grown hgrow5 (fun k hk => ⟨(HO.out.1.lt k hk).1, HO.out.2.1 k hk⟩)))
    obtain ⟨⟨l0, l1⟩, ⟨q0, q1, q2⟩, ⟨e0, e1, e2, e3⟩⟩ := HT5.out.cells
    have fz := frozen_of_row w5 w.heap.size 0 _ _ HT5.out.1
    have hz5 : w.heap.size + 4 ≤ w5.heap.size := by have := LO5.out.size; simp at this; omega
    clear hown5 hgrow5 st
    go_wp2
    refine bodyPost_ret (v := .tuple #[.agg #[.slice (some ⟨g, 0, none⟩) (ps.length + 1) cap', .int .i64 f], .bool true]) (by simp [results, Tryz.results63, go_sem, e0, e1]) rfl ⟨g, cap', rfl, ?_, ?_, ?_⟩
    · have a1 := MD.out.setApart (j := 0) HT5.out.1 (.slice (some ⟨g, 0, none⟩) (ps.length + 1) cap')
      have h2 : (w5.setCell ⟨w.heap.size, 0, none⟩ (.slice (some ⟨g, 0, none⟩) (ps.length + 1) cap')).heap[w.heap.size + 2]? = some (.cells #[.slice none 0 0, .int .i64 0] 32 (0, 0)) := by
        rw [Below.heap_setCell _ _ _ _ (by simp)]; exact HT5.out.2.2
      have a2 := a1.setApart (j := 0) h2 (.slice (some ⟨g, 0, none⟩) (ps.length + 1) cap')
      exact a2.setApart (j := 1) (heap_setCell_same _ (w.heap.size + 2) 0 _ _ _ h2) (.int .i64 f)
    · exact ((BE5.out.setCell (by simp; omega) _).setCell (by simp; omega) _).setCell (by simp; omega) _
    · exact ((MI5.out.setUp (by simp) _).setUp (by simp; omega) _).setUp (by simp; omega) _

theorem l1Add_room (ao : Option Addr) (cap : Nat) (ps : List (R × Value)) (f : Int) (r : R) (au : Option Addr) (cu lo hi : Nat) (w : World) (ho : OwnRecs w lo hi (.slice ao ps.length cap) ps) (hlo : lo ≤ w.heap.size)
    (hu : w.ownsRow lo 3 1 (.slice au r.2.2.length cu) r.2.2.length (r.2.2.map (Value.int .i64))) (hub : ∀ k, (Value.slice au r.2.2.length cu).ownBlock = some k → hi ≤ k) (h40 : (ps.length : Int) < 40) :
    Calls Tryz.prog 63 #[.agg #[.slice ao ps.length cap, .int .i64 f], .agg #[.int .i64 r.1, .int .i64 r.2.1, .slice au r.2.2.length cu]] w fun e w' => ∃ g cap', e = .returned (.tuple #[.agg #[.slice (some ⟨g, 0, none⟩) (ps.length + 1) cap', .int .i64 f], .bool true]) ∧ Made w' lo (.slice (some ⟨g, 0, none⟩) (ps.length + 1) cap') (ps.map (·.1) ++ [r]) ∧ Below lo w w' :=
  (l1Add_mid ao cap ps f r au cu lo hi w ho hlo hu hub h40).mono fun _ _ ⟨g, cap', h1, h2, h3, _⟩ => ⟨g, cap', h1, h2, h3⟩

end Go.Proofs.YthllcffmpeopcaaGreatDoor

namespace Go.Proofs.YthllcffmpeopcaaGreatDoor
open Go.RowKit

theorem keep5 (W : World) (B : Nat) (x y : Value) {v : Value} {f : Int} {r : R} {u : Value} (h : Trio W B v f r u) :
    ((W.setCell ⟨B + 2, 0, none⟩ x).setCell ⟨B + 2, 1, none⟩ y).cell? ⟨B, 0, none⟩ = some v ∧ ((W.setCell ⟨B + 2, 0, none⟩ x).setCell ⟨B + 2, 1, none⟩ y).cell? ⟨B, 1, none⟩ = some (.int .i64 f) ∧
    ((W.setCell ⟨B + 2, 0, none⟩ x).setCell ⟨B + 2, 1, none⟩ y).cell? ⟨B + 1, 0, none⟩ = some (.int .i64 r.1) ∧ ((W.setCell ⟨B + 2, 0, none⟩ x).setCell ⟨B + 2, 1, none⟩ y).cell? ⟨B + 1, 1, none⟩ = some (.int .i64 r.2.1) ∧
    ((W.setCell ⟨B + 2, 0, none⟩ x).setCell ⟨B + 2, 1, none⟩ y).cell? ⟨B + 1, 2, none⟩ = some u := by
  obtain ⟨⟨l0, l1⟩, ⟨q0, q1, q2⟩, -⟩ := h.cells
  exact ⟨(set2 _ _ _ _ (by omega)).trans l0, (set2 _ _ _ _ (by omega)).trans l1, (set2 _ _ _ _ (by omega)).trans q0, (set2 _ _ _ _ (by omega)).trans q1, (set2 _ _ _ _ (by omega)).trans q2⟩

end Go.Proofs.YthllcffmpeopcaaGreatDoor

namespace Go.Proofs.YthllcffmpeopcaaGreatDoor
open Go.RowKit

/-- A house, a word (its kind, its house, its trip; how many is 0), and whether it is told. -/
abbrev He := Ho × (Int × Int × Int) × Bool
def hearO' (id : Int) (up : Bool) (room : Int) (rs : List R) (f k h t m : Int) (hs hf : List Pl.H) : He :=
  if Pl.hearB id up k h t m = true then
    if Pl.sMay room hs k t (Pl.zsW k m) = true then ((id, up, room, rs ++ [(k, t, Pl.zsW k m)], f), (0, 0, 0), false)
    else match Pl.hearA k (Pl.hAt hs t).2 (Pl.hAt hf t).2 with
      | some x => ((id, up, room, rs, f), (x, id, t), true)
      | none => ((id, up, room, rs, f), (0, 0, 0), false)
  else ((id, up, room, rs, f), (0, 0, 0), false)
def hearO (id : Int) (up : Bool) (room : Int) (rs : List R) (f k h t m : Int) : He :=
  if hoOk id room rs f = true then hearO' id up room rs f k h t m ((Pl.sOf room rs).getD []) ((Pl.sOf room (rs.take f.toNat)).getD []) else (hoZ, (0, 0, 0), false)
/-- A house, a word and a yes or no come back, the house in memory from lo on. -/
def HeOutL (lo : Nat) (w w' : World) (e : Ending) (o : He) : Prop :=
  ∃ ao cap, e = .returned (.tuple #[houseV o.1.1 o.1.2.1 o.1.2.2.1 (.slice ao o.1.2.2.2.1.length cap) o.1.2.2.2.2, wordV o.2.1.1 o.2.1.2.1 o.2.1.2.2 0, .bool o.2.2]) ∧ Made w' lo (.slice ao o.1.2.2.2.1.length cap) o.1.2.2.2.1 ∧ Below lo w w'
def HeOut (w w' : World) (e : Ending) (o : He) : Prop := HeOutL w.heap.size w w' e o
theorem HeOut.none_ {w w' : World} (h : Below w.heap.size w w') : HeOut w w' (.returned (.tuple #[houseV 0 false 0 (.slice none 0 0) 0, wordV 0 0 0 0, .bool false])) (hoZ, (0, 0, 0), false) := ⟨none, 0, rfl, Made.none _ _, h⟩

theorem hear_ready {id room : Int} {rs : List R} {f : Int} (h : hoOk id room rs f = true) : ∃ hs hf, Pl.sOf room rs = some hs ∧ Pl.sOf room (rs.take f.toNat) = some hf ∧ rs.length ≤ 12 ∧ 0 ≤ f ∧ f ≤ rs.length ∧ logOk rs f = true := by
  obtain ⟨_, h2, h3⟩ := hoOk_parts h
  obtain ⟨hs, e⟩ := Option.isSome_iff_exists.1 h3
  obtain ⟨hf, e2⟩ := Pl.sOf_take f.toNat e
  obtain ⟨l0, l1, _⟩ := logOk_f h2
  exact ⟨hs, hf, e, e2, Pl.sOf_short e, l0, l1, h2⟩
theorem hearO_ok {id : Int} {up : Bool} {room : Int} {rs : List R} {f k h t m : Int} {hs hf : List Pl.H} (hok : hoOk id room rs f = true) (e : Pl.sOf room rs = some hs) (e2 : Pl.sOf room (rs.take f.toNat) = some hf) : hearO id up room rs f k h t m = hearO' id up room rs f k h t m hs hf := by
  unfold hearO; rw [if_pos hok, e, e2]; rfl
theorem hearO_no {id : Int} {up : Bool} {room : Int} {rs : List R} {f k h t m : Int} (hok : hoOk id room rs f = false) : hearO id up room rs f k h t m = (hoZ, (0, 0, 0), false) := by
  unfold hearO; rw [if_neg (by rw [hok]; decide)]
theorem hearO'_not {id : Int} {up : Bool} {room : Int} {rs : List R} {f k h t m : Int} {hs hf : List Pl.H} (e : Pl.hearB id up k h t m = false) : hearO' id up room rs f k h t m hs hf = ((id, up, room, rs, f), (0, 0, 0), false) := by
  unfold hearO'; rw [if_neg (by rw [e]; decide)]
theorem hearO'_may {id : Int} {up : Bool} {room : Int} {rs : List R} {f k h t m : Int} {hs hf : List Pl.H} (e : Pl.hearB id up k h t m = true) (e2 : Pl.sMay room hs k t (Pl.zsW k m) = true) : hearO' id up room rs f k h t m hs hf = ((id, up, room, rs ++ [(k, t, Pl.zsW k m)], f), (0, 0, 0), false) := by
  unfold hearO'; rw [if_pos e, if_pos e2]
theorem hearO'_none {id : Int} {up : Bool} {room : Int} {rs : List R} {f k h t m : Int} {hs hf : List Pl.H} (e : Pl.hearB id up k h t m = true) (e2 : Pl.sMay room hs k t (Pl.zsW k m) = false) (e3 : Pl.hearA k (Pl.hAt hs t).2 (Pl.hAt hf t).2 = none) : hearO' id up room rs f k h t m hs hf = ((id, up, room, rs, f), (0, 0, 0), false) := by
  unfold hearO'; rw [if_pos e, if_neg (by rw [e2]; decide), e3]
theorem hearO'_some {id : Int} {up : Bool} {room : Int} {rs : List R} {f k h t m x : Int} {hs hf : List Pl.H} (e : Pl.hearB id up k h t m = true) (e2 : Pl.sMay room hs k t (Pl.zsW k m) = false) (e3 : Pl.hearA k (Pl.hAt hs t).2 (Pl.hAt hf t).2 = some x) : hearO' id up room rs f k h t m hs hf = ((id, up, room, rs, f), (x, id, t), true) := by
  unfold hearO'; rw [if_pos e, if_neg (by rw [e2]; decide), e3]

theorem zsW_len (k m : Int) : (Pl.zsW k m).length ≤ 1 := by unfold Pl.zsW; split <;> simp
theorem tot_snoc (rs : List R) (r : R) : tot (rs ++ [r]) = tot rs + 1 + r.2.2.length := by
  unfold tot pre
  rw [List.take_length, List.take_length]
  simp
  omega
theorem recOk_len3 {k t : Int} {zs : List Int} (h : Pl.recOk k t zs = true) : zs.length ≤ 3 := by
  simp only [Pl.recOk, Bool.and_eq_true] at h
  have h2 := h.2
  split at h2
  · simp only [Pl.holdOk, Bool.and_eq_true, beq_iff_eq] at h2; omega
  · split at h2
    · simp only [Pl.manyOk, Bool.and_eq_true, beq_iff_eq] at h2; omega
    · simp only [Bool.and_eq_true, beq_iff_eq] at h2; omega
theorem pre_ok (rs : List R) (h : rs.all rOk = true) : (rs.map fun r => r.2.2.length).sum ≤ 3 * rs.length := by
  induction rs with
  | nil => simp
  | cons r t ih =>
    simp only [List.all_cons, Bool.and_eq_true] at h
    have h1 := ih h.2
    have h2 := recOk_len3 h.1
    simp only [List.map_cons, List.sum_cons, List.length_cons]
    omega
theorem tot_ok {rs : List R} {f : Int} (h : logOk rs f = true) : tot rs ≤ 160 := by
  have h40 := (logOk_f h).2.2
  simp only [logOk, Bool.and_eq_true] at h
  have := pre_ok rs h.1
  unfold tot pre
  rw [List.take_length]
  omega
theorem hearO_tot (id : Int) (up : Bool) (room : Int) (rs : List R) (f k h t m : Int) (hl : tot rs ≤ 1048576) : tot (hearO id up room rs f k h t m).1.2.2.2.1 ≤ 1048576 := by
  unfold hearO
  split
  · have h160 := tot_ok (hoOk_parts (by assumption)).2.1
    unfold hearO'
    split
    · split
      · have := zsW_len k m
        rw [tot_snoc]
        simp only
        omega
      · split
        · exact hl
        · exact hl
    · exact hl
  · simp [hoZ, tot, pre]

/-- What LogAdd gives where there is room. -/
theorem addR_room {rs : List R} {f : Int} {r : R} (h1 : logOk rs f = true) (h2 : rOk r = true) (h3 : rs.length ≤ 12) : addR rs f r = rs ++ [r] ∧ addF rs f r = f ∧ addB rs f r = true := by
  have ho : addOk rs f r = true := by simp [addOk, h1, h2]
  have hn : rs.length ≠ 40 := by omega
  exact ⟨by simp [addR, ho, hn], by simp [addF, ho], by simp [addB, ho, hn]⟩

end Go.Proofs.YthllcffmpeopcaaGreatDoor

namespace Go.Proofs.YthllcffmpeopcaaGreatDoor
open Go.RowKit

/-- What is answered, as a word and a yes or no. -/
def awV (o : Option Int) (id t : Int) : Value := match o with | some x => .tuple #[wordV x id t 0, .bool true] | none => .tuple #[wordV 0 0 0 0, .bool false]
def awB (o : Option Int) : Bool := o.isSome
def awW (o : Option Int) (id t : Int) : Int × Int × Int := match o with | some x => (x, id, t) | none => (0, 0, 0)

set_option maxHeartbeats 4000000 in
theorem l11Answer_any (id : Int) (up : Bool) (room : Int) (ao : Option Addr) (n cap : Nat) (f k h t m s : Int) (w : World) (hk : k = 1 ∨ k = 2 ∨ k = 3) :
    Calls Tryz.prog 64 #[houseV id up room (.slice ao n cap) f, wordV k h t m, .int .i64 s] w fun e w' => e = .returned (.tuple #[wordV (awW (Pl.ansK k s) id t).1 (awW (Pl.ansK k s) id t).2.1 (awW (Pl.ansK k s) id t).2.2 0, .bool (awB (Pl.ansK k s))]) ∧ Below w.heap.size w w' := by
  rcases hk with rfl | rfl | rfl
  · by_cases h1 : s = 1
    · subst h1
      go_enter Tryz.func64, Tryz.ntmps64
      go_wp2
      refine bodyPost_ret (v := .tuple #[wordV 4 id t 0, .bool true]) (by simp [results, Tryz.results64, go_sem]) rfl ⟨by simp [Pl.ansK, awW, awB], below4 w _ _ _ _⟩
    · have e1 : (s == 1) = false := by simpa using h1
      by_cases h2 : s = 2
      · subst h2
        go_enter Tryz.func64, Tryz.ntmps64
        go_wp2
        refine bodyPost_ret (v := .tuple #[wordV 4 id t 0, .bool true]) (by simp [results, Tryz.results64, go_sem]) rfl ⟨by simp [Pl.ansK, awW, awB], below4 w _ _ _ _⟩
      · have e2 : (s == 2) = false := by simpa using h2
        by_cases h3 : s = 3
        · subst h3
          go_enter Tryz.func64, Tryz.ntmps64
          go_wp2
          refine bodyPost_ret (v := .tuple #[wordV 5 id t 0, .bool true]) (by simp [results, Tryz.results64, go_sem]) rfl ⟨by simp [Pl.ansK, awW, awB], below4 w _ _ _ _⟩
        · have e3 : (s == 3) = false := by simpa using h3
          go_enter Tryz.func64, Tryz.ntmps64
          go_wp2
          refine bodyPost_ret (v := .tuple #[wordV 0 0 0 0, .bool false]) (by simp [results, Tryz.results64, go_sem]) rfl ⟨by simp [Pl.ansK, awW, awB, h1, h2, h3], below4 w _ _ _ _⟩
  · by_cases h2 : s = 2
    · subst h2
      go_enter Tryz.func64, Tryz.ntmps64
      go_wp2
      refine bodyPost_ret (v := .tuple #[wordV 6 id t 0, .bool true]) (by simp [results, Tryz.results64, go_sem]) rfl ⟨by simp [Pl.ansK, awW, awB], below4 w _ _ _ _⟩
    · have e2 : (s == 2) = false := by simpa using h2
      go_enter Tryz.func64, Tryz.ntmps64
      go_wp2
      refine bodyPost_ret (v := .tuple #[wordV 0 0 0 0, .bool false]) (by simp [results, Tryz.results64, go_sem]) rfl ⟨by simp [Pl.ansK, awW, awB, h2], below4 w _ _ _ _⟩
  · by_cases h2 : s = 3
    · subst h2
      go_enter Tryz.func64, Tryz.ntmps64
      go_wp2
      refine bodyPost_ret (v := .tuple #[wordV 7 id t 0, .bool true]) (by simp [results, Tryz.results64, go_sem]) rfl ⟨by simp [Pl.ansK, awW, awB], below4 w _ _ _ _⟩
    · have e2 : (s == 3) = false := by simpa using h2
      go_enter Tryz.func64, Tryz.ntmps64
      go_wp2
      refine bodyPost_ret (v := .tuple #[wordV 0 0 0 0, .bool false]) (by simp [results, Tryz.results64, go_sem]) rfl ⟨by simp [Pl.ansK, awW, awB, h2], below4 w _ _ _ _⟩

end Go.Proofs.YthllcffmpeopcaaGreatDoor

namespace Go.Proofs.YthllcffmpeopcaaGreatDoor
open Go.RowKit

theorem ints_row {w : World} {base cap : Nat} {ao : Option Addr} {zs : List Int} (h : w.ownsRow base 3 1 (.slice ao zs.length cap) zs.length (zs.map (Value.int .i64))) : Ints w (.slice ao zs.length cap) zs := by
  rcases h.2 with ⟨hv, hn⟩ | ⟨g, cp, cur, hv, _⟩
  · have hz : zs = [] := List.length_eq_zero_iff.1 hn
    subst hz
    simp only [Value.slice.injEq] at hv
    exact Or.inl ⟨rfl, ao, cap, rfl, fun _ => hv.2.2⟩
  · simp only [Value.slice.injEq] at hv
    obtain ⟨rfl, -, -⟩ := hv
    exact ints_of_row h
theorem size4 (w : World) (o1 o2 o3 o4 : Obj) : ((((w.alloc o1).alloc o2).alloc o3).alloc o4).heap.size = w.heap.size + 4 := by simp
theorem Blk.cells4 {w : World} {b : Nat} {x0 x1 x2 x3 : Value} {ty : TypeId} (h : Blk w b #[x0, x1, x2, x3] ty) :
    w.cell? ⟨b, 0, none⟩ = some x0 ∧ w.cell? ⟨b, 1, none⟩ = some x1 ∧ w.cell? ⟨b, 2, none⟩ = some x2 ∧ w.cell? ⟨b, 3, none⟩ = some x3 := by
  refine ⟨?_, ?_, ?_, ?_⟩ <;> (rw [h.cell]; rfl)

/-- The four blocks with which HouseHear begins. -/
structure Four (w : World) (s : Nat) (id : Int) (up : Bool) (room : Int) (v : Value) (f k h t m : Int) : Prop where
  ho : Blk w s #[.int .i64 id, .bool up, .int .i64 room, v, .int .i64 f] 34
  wo : Blk w (s + 1) #[.int .i64 k, .int .i64 h, .int .i64 t, .int .i64 m] 35
  zo : Blk w (s + 2) #[.int .i64 0, .bool false, .int .i64 0, .slice none 0 0, .int .i64 0] 34
  zw : Blk w (s + 3) #[.int .i64 0, .int .i64 0, .int .i64 0, .int .i64 0] 35
theorem Four.new (w : World) (id : Int) (up : Bool) (room : Int) (v : Value) (f k h t m : Int) : Four ((((w.alloc (.cells #[.int .i64 id, .bool up, .int .i64 room, v, .int .i64 f] 34)).alloc (.cells #[.int .i64 k, .int .i64 h, .int .i64 t, .int .i64 m] 35)).alloc (.cells #[.int .i64 0, .bool false, .int .i64 0, .slice none 0 0, .int .i64 0] 34)).alloc (.cells #[.int .i64 0, .int .i64 0, .int .i64 0, .int .i64 0] 35)) w.heap.size id up room v f k h t m := by
  refine ⟨?_, ?_, ?_, ?_⟩
  · exact (((Blk.new _ _ _).alloc _).alloc _).alloc _
  · exact ((Blk.new2 _ _ _ _).alloc _).alloc _
  · have h := (Blk.new2 (w.alloc (.cells #[.int .i64 id, .bool up, .int .i64 room, v, .int .i64 f] 34)) (.cells #[.int .i64 k, .int .i64 h, .int .i64 t, .int .i64 m] 35) #[.int .i64 0, .bool false, .int .i64 0, .slice none 0 0, .int .i64 0] 34).alloc (.cells #[.int .i64 0, .int .i64 0, .int .i64 0, .int .i64 0] 35)
    rw [size1] at h
    exact h
  · have h := Blk.new2 ((w.alloc (.cells #[.int .i64 id, .bool up, .int .i64 room, v, .int .i64 f] 34)).alloc (.cells #[.int .i64 k, .int .i64 h, .int .i64 t, .int .i64 m] 35)) (.cells #[.int .i64 0, .bool false, .int .i64 0, .slice none 0 0, .int .i64 0] 34) #[.int .i64 0, .int .i64 0, .int .i64 0, .int .i64 0] 35
    rw [size2] at h
    exact h
theorem Four.after {w w' : World} {s : Nat} {id : Int} {up : Bool} {room : Int} {v : Value} {f k h t m : Int} (x : Four w s id up room v f k h t m) (hb : Below w.heap.size w w') : Four w' s id up room v f k h t m :=
  ⟨x.ho.after hb, x.wo.after hb, x.zo.after hb, x.zw.after hb⟩
theorem Four.later {w w' : World} {s L : Nat} {id : Int} {up : Bool} {room : Int} {v : Value} {f k h t m : Int} (x : Four w s id up room v f k h t m) (hb : Below L w w') (hL : s + 4 ≤ L) : Four w' s id up room v f k h t m :=
  ⟨x.ho.later hb (by omega), x.wo.later hb (by omega), x.zo.later hb (by omega), x.zw.later hb (by omega)⟩
theorem Four.other {w : World} {s b i : Nat} {id : Int} {up : Bool} {room : Int} {v : Value} {f k h t m : Int} (x : Four w s id up room v f k h t m) (hb : s + 4 ≤ b) (y : Value) : Four (w.setCell ⟨b, i, none⟩ y) s id up room v f k h t m :=
  ⟨x.ho.other (by simp; omega) _, x.wo.other (by simp; omega) _, x.zo.other (by simp; omega) _, x.zw.other (by simp; omega) _⟩
theorem Four.lt {w : World} {s : Nat} {id : Int} {up : Bool} {room : Int} {v : Value} {f k h t m : Int} (x : Four w s id up room v f k h t m) : s + 3 < w.heap.size := x.zw.lt
theorem below5 (w : World) (o1 o2 o3 o4 : Obj) : Below w.heap.size w ((((w.alloc o1).alloc o2).alloc o3).alloc o4) := below4 w o1 o2 o3 o4

set_option maxHeartbeats 2000000 in
theorem answerTo_any (id : Int) (up : Bool) (room : Int) (ao : Option Addr) (n cap : Nat) (f k : Int) (w : World) (hk : k = 1 ∨ k = 2 ∨ k = 3) :
    Calls Tryz.prog 37 #[keeperV (.slice ao n cap) f id up room, .int .i64 k] w fun e w' => e = .returned (.func (.func (if k = 1 then 72 else if k = 2 then 73 else 74)) #[keeperV (.slice ao n cap) f id up room] #[]) ∧ Below w.heap.size w w' := by
  rcases hk with rfl | rfl | rfl
  all_goals
    go_enter Tryz.func37, Tryz.ntmps37
    go_wp2
    go_ret
    exact ⟨rfl, alloc_below _ _⟩

set_option maxRecDepth 100000 in
set_option maxHeartbeats 8000000 in
theorem implHear_any (id : Int) (up : Bool) (room : Int) (v : Value) (rs : List R) (f k h t m : Int) (a : Addr) (w : World) (hv : Recs w v rs) (hfm : Form v rs.length) (hl : tot rs ≤ 1048576) (ha : ErrAt w a) :
    Calls Tryz.prog 12 #[houseV id up room v f, wordV k h t m] w fun e w' => HeOut w w' e (hearO id up room rs f k h t m) := by
  have hrl := tot_len rs
  have HV : Hid (∀ W, Below w.heap.size w W → Recs W v rs) := fun W h => hv.later h (Nat.le_refl _)
  have HA : Hid (∀ W, Below w.heap.size w W → ErrAt W a) := fun W h => ha.later h (Nat.le_refl _)
  have HOK : Hid (∀ W, Below w.heap.size w W → Calls Tryz.prog 25 #[houseV id up room v f] W fun e w' => e = .returned (.bool (hoOk id room rs f)) ∧ Below W.heap.size W w') := fun W h =>
    implHouseOk_any id up room v rs f a W (HV.out W h) hl (HA.out W h)
  have HFM := hide_it hfm
  obtain ⟨av, cv, rfl⟩ := hv.shape
  clear hv hfm ha
  obtain ⟨w0, hw0⟩ : ∃ W, Hid (W = (((w.alloc (.cells #[.int .i64 id, .bool up, .int .i64 room, .slice av rs.length cv, .int .i64 f] 34)).alloc (.cells #[.int .i64 k, .int .i64 h, .int .i64 t, .int .i64 m] 35)).alloc (.cells #[.int .i64 0, .bool false, .int .i64 0, .slice none 0 0, .int .i64 0] 34)).alloc (.cells #[.int .i64 0, .int .i64 0, .int .i64 0, .int .i64 0] 35)) := ⟨_, rfl⟩
  have B0 : Hid (Below w.heap.size w w0) := by show Below _ _ _; rw [hw0.out]; exact below4 _ _ _ _ _
  have Q0 : Hid (Four w0 w.heap.size id up room (.slice av rs.length cv) f k h t m) := by show Four _ _ _ _ _ _ _ _ _ _ _; rw [hw0.out]; exact Four.new _ _ _ _ _ _ _ _ _ _
  have hs0 : w0.heap.size = w.heap.size + 4 := by rw [hw0.out, size4]
  cases hok : hoOk id room rs f
  · rw [hearO_no hok]
    rw [hok] at HOK
    clear hok
    go_enter Tryz.func12, Tryz.ntmps12
    go_wp2_with fail
    rw [← hw0.out]
    refine (HOK.out _ B0.out).mono ?_
    rintro e w1 ⟨rfl, hb⟩
    have Q1 := hide_it (Q0.out.after hb)
    have HB := hide_it (B0.out.trans (hb.mono B0.out.size))
    clear hb
    obtain ⟨z0, z1, z2, z3, z4⟩ := Q1.out.zo.cells5
    obtain ⟨zf0, zf1, zf2, zf3, zf4⟩ := Q1.out.zo.free5
    obtain ⟨q0, q1, q2, q3⟩ := Q1.out.zw.cells4
    obtain ⟨qf0, qf1, qf2, qf3, -⟩ := Q1.out.zw.free5
    go_wp2
    refine bodyPost_ret (v := .tuple #[houseV 0 false 0 (.slice none 0 0) 0, wordV 0 0 0 0, .bool false]) (by simp [results, Tryz.results12, go_sem, *]) rfl (HeOut.none_ ?_)
    repeat (refine Below.setCell ?_ (by first | (simp; done) | (simp; omega)) _)
    exact HB.out
  obtain ⟨hs, hf, eA, eF, h12, lf0, lf1, hlog⟩ := hear_ready hok
  rw [hearO_ok hok eA eF]
  rw [hok] at HOK
  have RDY : Hid (∀ W, Below w.heap.size w W → Rdy W a room (.slice av rs.length cv) rs f hs hf) := fun W h => ⟨HV.out W h, HFM.out, hl, lf0, lf1, eA, eF, HA.out W h⟩
  have SOK := hide_it (Pl.sOf_ok eA)
  cases hhb : Pl.hearB id up k h t m
  · rw [hearO'_not hhb]
    have HE : Hid (∀ W, Calls Tryz.prog 31 #[keeperV (.slice av rs.length cv) f id up room, wordV k h t m] W fun e w' => e = .returned (.bool false) ∧ Below W.heap.size W w') := fun W => by
      have := hears_any id up room av rs.length cv f k h t m W; rw [hhb] at this; exact this
    clear hok hhb
    go_enter Tryz.func12, Tryz.ntmps12
    go_wp2_with fail
    rw [← hw0.out]
    refine (HOK.out _ B0.out).mono ?_
    rintro e w1 ⟨rfl, hb1⟩
    have Q1 := hide_it (Q0.out.after hb1)
    have B1 := hide_it (B0.out.trans (hb1.mono B0.out.size))
    have hs1 : w.heap.size + 4 ≤ w1.heap.size := by have := hb1.size; omega
    obtain ⟨x0, x1, x2, x3, x4⟩ := Q1.out.ho.cells5
    clear hb1
    go_wp2_with fail
    refine (keeperOf_any id up room av rs.length cv f w1).mono ?_
    rintro e w2 ⟨rfl, hb2⟩
    have Q2 := hide_it (Q1.out.after hb2)
    have B2 := hide_it (B1.out.trans (hb2.mono B1.out.size))
    have hs2 : w.heap.size + 4 ≤ w2.heap.size := by have := hb2.size; omega
    clear hb2 x0 x1 x2 x3 x4
    obtain ⟨w3, hw3⟩ : ∃ W, Hid (W = w2.alloc (.cells #[.slice av rs.length cv, .int .i64 f, .int .i64 id, .bool up, .int .i64 room] 66)) := ⟨_, rfl⟩
    have al3 : Hid (Below w2.heap.size w2 w3) := by show Below _ _ _; rw [hw3.out]; exact alloc_below _ _
    have K3 : Hid (Blk w3 w2.heap.size #[.slice av rs.length cv, .int .i64 f, .int .i64 id, .bool up, .int .i64 room] 66) := by show Blk _ _ _ _; rw [hw3.out]; exact Blk.new _ _ _
    have Q3 := hide_it (Q2.out.after al3.out)
    have B3 := hide_it (B2.out.trans (al3.out.mono B2.out.size))
    obtain ⟨y0, y1, y2, y3⟩ := Q2.out.wo.cells4
    have k0 := fun x => cellAlloc y0 x
    have k1 := fun x => cellAlloc y1 x
    have k2 := fun x => cellAlloc y2 x
    have k3 := fun x => cellAlloc y3 x
    go_wp2_with fail
    rw [← hw3.out]
    refine (HE.out _).mono ?_
    rintro e w4 ⟨rfl, hb4⟩
    have Q4 := hide_it (Q3.out.after hb4)
    have B4 := hide_it (B3.out.trans (hb4.mono B3.out.size))
    obtain ⟨c0, c1, c2, c3, c4⟩ := (K3.out.after hb4).cells5
    have hs4 : w.heap.size + 4 ≤ w4.heap.size := by have := hb4.size; have := al3.out.size; omega
    clear hb4 k0 k1 k2 k3 y0 y1 y2 y3
    go_wp2_with fail
    refine (keeperHouse_any id up room _ rs f w4 (HV.out _ B4.out) hl).mono ?_
    rintro e w5 ⟨ao, cap, rfl, hm, hb5⟩
    have Q5 := hide_it (Q4.out.after hb5)
    have HM := hide_it hm
    have HB := hide_it (B4.out.trans (hb5.mono B4.out.size))
    clear hm hb5 c0 c1 c2 c3 c4
    obtain ⟨z0, z1, z2, z3, z4⟩ := Q5.out.zo.cells5
    obtain ⟨zf0, zf1, zf2, zf3, zf4⟩ := Q5.out.zo.free5
    obtain ⟨q0, q1, q2, q3⟩ := Q5.out.zw.cells4
    obtain ⟨qf0, qf1, qf2, qf3, -⟩ := Q5.out.zw.free5
    go_wp2
    refine bodyPost_ret (v := .tuple #[houseV id up room (.slice ao rs.length cap) f, wordV 0 0 0 0, .bool false]) (by simp [results, Tryz.results12, go_sem, *]) rfl ?_
    refine ⟨ao, cap, rfl, ?_, ?_⟩
    · refine Made.lo ?_ (show w.heap.size ≤ w4.heap.size by omega)
      repeat (refine Made.setBelow ?_ (by first | (simp; done) | (simp; omega)) _)
      exact HM.out
    · repeat (refine Below.setCell ?_ (by first | (simp; done) | (simp; omega)) _)
      exact HB.out
  obtain ⟨hup, hid, hk, ht, hrec⟩ := Pl.hearB_parts hhb
  subst hup hid
  obtain ⟨i, hi, rfl, hat⟩ := trip_at hrec
  have HE : Hid (∀ W, Calls Tryz.prog 31 #[keeperV (.slice av rs.length cv) f h true room, wordV k h ((i : Int) + 1) m] W fun e w' => e = .returned (.bool true) ∧ Below W.heap.size W w') := fun W => by
    have := hears_any h true room av rs.length cv f k h ((i : Int) + 1) m W; rw [hhb] at this; exact this
  obtain ⟨ZS, hZS⟩ : ∃ z, Hid (Pl.zsW k m = z) := ⟨_, rfl⟩
  have hzl : ZS.length ≤ 1048576 := by rw [← hZS.out]; have := zsW_len k m; omega
  have HRC : Hid (∀ W, Calls Tryz.prog 33 #[wordV k h ((i : Int) + 1) m] W fun e w' => RcOut W w' e k ((i : Int) + 1) ZS) := fun W => by
    have := recOfWord_any k h ((i : Int) + 1) m W hk; rw [hZS.out] at this; exact this
  obtain ⟨MAY, hMAY⟩ : ∃ b, Hid (Pl.sMay room hs k ((i : Int) + 1) ZS = b) := ⟨_, rfl⟩
  have HMY : Hid (∀ (x u : Value) (W : World), Holds W x hs → Ints W u ZS → ErrAt W a → Calls Tryz.prog 34 #[.agg #[.int .i64 room, x], .agg #[.int .i64 k, .int .i64 ((i : Int) + 1), u]] W fun e w' => e = .returned (.bool MAY) ∧ Below W.heap.size W w') := fun x u W h1 h2 h3 => by
    have h6 := SOK.out.2
    have := implMay_any room x hs k ((i : Int) + 1) u ZS a W h1 (by omega) h2 hzl h3; rw [hMAY.out] at this; exact this
  have HAD : Hid (∀ (u : Value) (W : World), Below w.heap.size w W → Ints W u ZS → Calls Tryz.prog 36 #[.agg #[.slice av rs.length cv, .int .i64 f], .agg #[.int .i64 k, .int .i64 ((i : Int) + 1), u]] W fun e w' => LogOut2 W w' e (rs ++ [(k, (i : Int) + 1, ZS)]) f true) := fun u W hb h2 => by
    have := implAdd_any (.slice av rs.length cv) rs f (k, (i : Int) + 1, ZS) u a W (HV.out W hb) hl h2 hzl (HA.out W hb)
    obtain ⟨r1, r2, r3⟩ := addR_room (r := (k, (i : Int) + 1, ZS)) hlog (by show Pl.recOk _ _ _ = true; rw [← hZS.out]; exact hrec) h12
    rw [r1, r2, r3] at this
    exact this
  have hR2 : tot (rs ++ [(k, (i : Int) + 1, ZS)]) ≤ 1048576 := by
    have h1 := tot_ok hlog
    have h2 := zsW_len k m
    rw [hZS.out] at h2
    rw [tot_snoc]
    simp only
    omega
  have HTO : Hid (∀ W, Calls Tryz.prog 37 #[keeperV (.slice av rs.length cv) f h true room, .int .i64 k] W fun e w' => e = .returned (.func (.func (if k = 1 then 72 else if k = 2 then 73 else 74)) #[keeperV (.slice av rs.length cv) f h true room] #[]) ∧ Below W.heap.size W w') := fun W =>
    answerTo_any h true room av rs.length cv f k W hk
  have OUT : Hid (hearO' h true room rs f k h ((i : Int) + 1) m hs hf = hearO' h true room rs f k h ((i : Int) + 1) m hs hf) := rfl
  obtain ⟨OO, hOO⟩ : ∃ o, Hid (hearO' h true room rs f k h ((i : Int) + 1) m hs hf = o) := ⟨_, rfl⟩
  rw [hOO.out]
  have HHB := hide_it hhb
  have HK := hide_it hk
  clear hok hhb hrec hk ht OUT
  go_enter Tryz.func12, Tryz.ntmps12
  go_wp2_with fail
  rw [← hw0.out]
  refine (HOK.out _ B0.out).mono ?_
  rintro e w1 ⟨rfl, hb1⟩
  have Q1 := hide_it (Q0.out.after hb1)
  have B1 := hide_it (B0.out.trans (hb1.mono B0.out.size))
  have hs1 : w.heap.size + 4 ≤ w1.heap.size := by have := hb1.size; omega
  obtain ⟨x0, x1, x2, x3, x4⟩ := Q1.out.ho.cells5
  clear hb1
  go_wp2_with fail
  refine (keeperOf_any h true room av rs.length cv f w1).mono ?_
  rintro e w2 ⟨rfl, hb2⟩
  have Q2 := hide_it (Q1.out.after hb2)
  have B2 := hide_it (B1.out.trans (hb2.mono B1.out.size))
  have hs2 : w.heap.size + 4 ≤ w2.heap.size := by have := hb2.size; omega
  clear hb2 x0 x1 x2 x3 x4
  obtain ⟨w3, hw3⟩ : ∃ W, Hid (W = w2.alloc (.cells #[.slice av rs.length cv, .int .i64 f, .int .i64 h, .bool true, .int .i64 room] 66)) := ⟨_, rfl⟩
  have al3 : Hid (Below w2.heap.size w2 w3) := by show Below _ _ _; rw [hw3.out]; exact alloc_below _ _
  have K3 : Hid (Blk w3 w2.heap.size #[.slice av rs.length cv, .int .i64 f, .int .i64 h, .bool true, .int .i64 room] 66) := by show Blk _ _ _ _; rw [hw3.out]; exact Blk.new _ _ _
  have Q3 := hide_it (Q2.out.after al3.out)
  have B3 := hide_it (B2.out.trans (al3.out.mono B2.out.size))
  obtain ⟨y0, y1, y2, y3⟩ := Q2.out.wo.cells4
  have k0 := fun x => cellAlloc y0 x
  have k1 := fun x => cellAlloc y1 x
  have k2 := fun x => cellAlloc y2 x
  have k3 := fun x => cellAlloc y3 x
  go_wp2_with fail
  rw [← hw3.out]
  refine (HE.out _).mono ?_
  rintro e w4 ⟨rfl, hb4⟩
  have Q4 := hide_it (Q3.out.after hb4)
  have B4 := hide_it (B3.out.trans (hb4.mono B3.out.size))
  have K4 := hide_it (K3.out.after hb4)
  have hs4 : w2.heap.size < w4.heap.size := K4.out.lt
  clear hb4 k0 k1 k2 k3 y0 y1 y2 y3
  obtain ⟨y0, y1, y2, y3⟩ := Q4.out.wo.cells4
  go_wp2_with fail
  refine (HRC.out _).mono ?_
  rintro e w5 ⟨au, cu, rfl, hrow, hb5⟩
  have Q5 := hide_it (Q4.out.after hb5)
  have B5 := hide_it (B4.out.trans (hb5.mono B4.out.size))
  have K5 := hide_it (K4.out.after hb5)
  have I5 := hide_it (ints_row hrow)
  have hs5 : w2.heap.size < w5.heap.size := K5.out.lt
  clear hb5 hrow y0 y1 y2 y3
  obtain ⟨w6, hw6⟩ : ∃ W, Hid (W = w5.alloc (.cells #[.int .i64 k, .int .i64 ((i : Int) + 1), .slice au ZS.length cu] 62)) := ⟨_, rfl⟩
  have al6 : Hid (Below w5.heap.size w5 w6) := by show Below _ _ _; rw [hw6.out]; exact alloc_below _ _
  have R6 : Hid (Blk w6 w5.heap.size #[.int .i64 k, .int .i64 ((i : Int) + 1), .slice au ZS.length cu] 62) := by show Blk _ _ _ _; rw [hw6.out]; exact Blk.new _ _ _
  have Q6 := hide_it (Q5.out.after al6.out)
  have B6 := hide_it (B5.out.trans (al6.out.mono B5.out.size))
  have K6 := hide_it (K5.out.after al6.out)
  have I6 := hide_it (I5.out.later al6.out (Nat.le_refl _))
  go_wp2_with fail
  rw [← hw6.out]
  obtain ⟨c0, c1, c2, c3, c4⟩ := K6.out.cells5
  obtain ⟨r0, r1, r2⟩ := R6.out.cells3
  go_region_held (fun w' => (w'.cell? ⟨w2.heap.size, 0, none⟩ = some (.slice av rs.length cv) ∧ w'.cell? ⟨w2.heap.size, 1, none⟩ = some (.int .i64 f) ∧ w'.cell? ⟨w2.heap.size, 2, none⟩ = some (.int .i64 h) ∧ w'.cell? ⟨w2.heap.size, 3, none⟩ = some (.bool true) ∧ w'.cell? ⟨w2.heap.size, 4, none⟩ = some (.int .i64 room)) ∧ (w'.cell? ⟨w5.heap.size, 0, none⟩ = some (.int .i64 k) ∧ w'.cell? ⟨w5.heap.size, 1, none⟩ = some (.int .i64 ((i : Int) + 1)) ∧ w'.cell? ⟨w5.heap.size, 2, none⟩ = some (.slice au ZS.length cu))) (go_keep)
    (first
    | (go_at_call 35; refine (Rdy.stock (RDY.out _ B6.out.drew) h true).mono ?_; rintro e w7 ⟨a7, c7, rfl, hH7, hb7⟩; have hb7' := (Below.refl w6.heap.size w6).drew.trans hb7; have L7 := hide_it hb7'; have H7 := hide_it hH7; have I7 := hide_it (I6.out.later hb7' (Nat.le_refl _)); have A7 := hide_it (HA.out _ (B6.out.trans (hb7'.mono B6.out.size))); obtain ⟨d0, d1, d2, d3, d4⟩ := (K6.out.after hb7').cells5; obtain ⟨t0, t1, t2⟩ := (R6.out.after hb7').cells3; clear hb7 hb7' hH7)
    | (go_at_call 34; refine (HMY.out _ _ _ H7.out I7.out A7.out).mono ?_; rintro e w8 ⟨rfl, hb8⟩; have L8 := hide_it (L7.out.trans (hb8.mono L7.out.size)); obtain ⟨p0, p1, p2, p3, p4⟩ := (K6.out.after L8.out).cells5; obtain ⟨u0, u1, u2⟩ := (R6.out.after L8.out).cells3; clear hb8))
  clear c0 c1 c2 c3 c4 r0 r1 r2 d0 d1 d2 d3 d4 t0 t1 t2
  have Q8 := hide_it (Q6.out.after L8.out)
  have B8 := hide_it (B6.out.trans (L8.out.mono B6.out.size))
  have K8 := hide_it (K6.out.after L8.out)
  have I8 := hide_it (I6.out.later L8.out (Nat.le_refl _))
  have hs8 : w2.heap.size < w8.heap.size := K8.out.lt
  cases MAY
  · -- it may not come: what is answered
    obtain ⟨sa, hsa⟩ : ∃ s, Hid ((Pl.hAt hs ((i : Int) + 1)).2 = s) := ⟨_, rfl⟩
    obtain ⟨sf, hsf⟩ : ∃ s, Hid ((Pl.hAt hf ((i : Int) + 1)).2 = s) := ⟨_, rfl⟩
    rcases HK.out with rfl | rfl | rfl
    · obtain ⟨y0, y1, y2, y3⟩ := Q8.out.wo.cells4
      go_wp2_with fail
      refine (HTO.out _).mono ?_
      rintro e w9 ⟨rfl, hb9⟩
      have Q9 := hide_it (Q8.out.after hb9)
      have B9 := hide_it (B8.out.trans (hb9.mono B8.out.size))
      have K9 := hide_it (K8.out.after hb9)
      clear hb9 y0 y1 y2 y3 p0 p1 p2 p3 p4 u0 u1 u2
      obtain ⟨y0, y1, y2, y3⟩ := Q9.out.wo.cells4
      obtain ⟨X, Y, HANS, hXY⟩ : ∃ (X : Int) (Y : Bool), Hid (Calls Tryz.prog 72 #[keeperV (.slice av rs.length cv) f h true room, .int .i64 ((i : Int) + 1)] w9 fun e w' => e = .returned (.tuple #[.int .i64 X, .bool Y]) ∧ Below w9.heap.size w9 w') ∧ Hid (Pl.hearA 1 sa sf = if Y = true then some X else none) := by
        have := answerHold_any h true room (.slice av rs.length cv) rs f hs hf a i w9 (RDY.out _ B9.out) hi
        rw [hsa.out, hsf.out] at this
        refine ⟨_, _, this, ?_⟩
        show _ = _
        unfold Pl.hearA ansH Pl.ansK
        by_cases e0 : sa = 0
        · simp [e0]
        · by_cases e1 : sf = 1 ∨ sf = 2
          · simp [e0, e1]
          · by_cases e3 : sf = 3 <;> simp [e0, e1, e3]
      have hmy := hMAY.out
      rw [← hZS.out] at hmy
      cases Y
      · have hO1 : OO = ((h, true, room, rs, f), (0, 0, 0), false) := by
          rw [← hOO.out]; exact hearO'_none HHB.out hmy (by rw [hsa.out, hsf.out, hXY.out]; rfl)
        subst hO1
        go_wp2_with fail
        refine HANS.out.mono ?_
        rintro e w10 ⟨rfl, hb10⟩
        have Q10 := hide_it (Q9.out.after hb10)
        have B10 := hide_it (B9.out.trans (hb10.mono B9.out.size))
        obtain ⟨p0, p1, p2, p3, p4⟩ := (K9.out.after hb10).cells5
        have hs10 : w.heap.size + 4 ≤ w10.heap.size := by have := (K9.out.after hb10).lt; omega
        clear hb10 y0 y1 y2 y3
        go_wp2_with fail
        refine (keeperHouse_any h true room _ rs f w10 (HV.out _ B10.out) hl).mono ?_
        rintro e w11 ⟨ao, cap, rfl, hm, hb11⟩
        have Q11 := hide_it (Q10.out.after hb11)
        have HM := hide_it hm
        have HB := hide_it (B10.out.trans (hb11.mono B10.out.size))
        clear hm hb11 p0 p1 p2 p3 p4
        obtain ⟨z0, z1, z2, z3, z4⟩ := Q11.out.zo.cells5
        obtain ⟨zf0, zf1, zf2, zf3, zf4⟩ := Q11.out.zo.free5
        obtain ⟨q0, q1, q2, q3⟩ := Q11.out.zw.cells4
        obtain ⟨qf0, qf1, qf2, qf3, -⟩ := Q11.out.zw.free5
        go_wp2
        refine bodyPost_ret (v := .tuple #[houseV h true room (.slice ao rs.length cap) f, wordV 0 0 0 0, .bool false]) (by simp [results, Tryz.results12, go_sem, *]) rfl ?_
        refine ⟨ao, cap, rfl, ?_, ?_⟩
        · refine Made.lo ?_ (show w.heap.size ≤ w10.heap.size by omega)
          repeat (refine Made.setBelow ?_ (by first | (simp; done) | (simp; omega)) _)
          exact HM.out
        · repeat (refine Below.setCell ?_ (by first | (simp; done) | (simp; omega)) _)
          exact HB.out
      · have hO1 : OO = ((h, true, room, rs, f), (X, h, (i : Int) + 1), true) := by
          rw [← hOO.out]; exact hearO'_some HHB.out hmy (by rw [hsa.out, hsf.out, hXY.out]; rfl)
        subst hO1
        go_wp2_with fail
        refine HANS.out.mono ?_
        rintro e w10 ⟨rfl, hb10⟩
        have Q10 := hide_it (Q9.out.after hb10)
        have B10 := hide_it (B9.out.trans (hb10.mono B9.out.size))
        have K10 := hide_it (K9.out.after hb10)
        have hs10 : w.heap.size + 4 ≤ w10.heap.size := by have := K10.out.lt; omega
        clear hb10 y0 y1 y2 y3
        obtain ⟨p0, p1, p2, p3, p4⟩ := K10.out.cells5
        obtain ⟨y0, y1, y2, y3⟩ := Q10.out.wo.cells4
        have n1 : w2.heap.size ≠ w.heap.size + 2 := by omega
        have n2 : w2.heap.size ≠ w.heap.size + 3 := by omega
        go_wp2_with fail
        go_region_held (fun w' => (w'.cell? ⟨w2.heap.size, 0, none⟩ = some (.slice av rs.length cv) ∧ w'.cell? ⟨w2.heap.size, 1, none⟩ = some (.int .i64 f) ∧ w'.cell? ⟨w2.heap.size, 2, none⟩ = some (.int .i64 h) ∧ w'.cell? ⟨w2.heap.size, 3, none⟩ = some (.bool true) ∧ w'.cell? ⟨w2.heap.size, 4, none⟩ = some (.int .i64 room)) ∧ w'.cell? ⟨w.heap.size + 1, 2, none⟩ = some (.int .i64 ((i : Int) + 1))) (first | (go_keep; done) | (refine ⟨⟨?_, ?_, ?_, ?_, ?_⟩, ?_⟩ <;> simp [go_sem, *]))
          ((go_at_call 32; refine (keeperHouse_any h true room _ rs f _ (HV.out _ B10.out.drew) hl).mono ?_; rintro e w11 ⟨ao, cap, rfl, hm, hb11⟩; have hb11' := (Below.refl w10.heap.size w10).drew.trans hb11; have Q11 := hide_it (Q10.out.after hb11'); have HM := hide_it hm; have HB := hide_it (B10.out.trans (hb11'.mono B10.out.size)); obtain ⟨d0, d1, d2, d3, d4⟩ := (K10.out.after hb11').cells5; obtain ⟨j0, j1, j2, j3⟩ := Q11.out.wo.cells4; obtain ⟨z0, z1, z2, z3, z4⟩ := Q11.out.zo.cells5; obtain ⟨zf0, zf1, zf2, zf3, zf4⟩ := Q11.out.zo.free5; obtain ⟨q0, q1, q2, q3⟩ := Q11.out.zw.cells4; obtain ⟨qf0, qf1, qf2, qf3, -⟩ := Q11.out.zw.free5; clear hm hb11 hb11'))
        all_goals
          go_wp2
          refine bodyPost_ret (v := .tuple #[houseV h true room (.slice ao rs.length cap) f, wordV X h ((i : Int) + 1) 0, .bool true]) (by simp [results, Tryz.results12, go_sem, *]) rfl ?_
          refine ⟨ao, cap, rfl, ?_, ?_⟩
          · refine Made.lo ?_ (show w.heap.size ≤ w10.heap.size by omega)
            repeat (refine Made.setBelow ?_ (by first | (simp; done) | (simp; omega)) _)
            exact HM.out
          · repeat (refine Below.setCell ?_ (by first | (simp; done) | (simp; omega)) _)
            exact HB.out
    · obtain ⟨y0, y1, y2, y3⟩ := Q8.out.wo.cells4
      go_wp2_with fail
      refine (HTO.out _).mono ?_
      rintro e w9 ⟨rfl, hb9⟩
      have Q9 := hide_it (Q8.out.after hb9)
      have B9 := hide_it (B8.out.trans (hb9.mono B8.out.size))
      have K9 := hide_it (K8.out.after hb9)
      clear hb9 y0 y1 y2 y3 p0 p1 p2 p3 p4 u0 u1 u2
      obtain ⟨y0, y1, y2, y3⟩ := Q9.out.wo.cells4
      obtain ⟨X, Y, HANS, hXY⟩ : ∃ (X : Int) (Y : Bool), Hid (Calls Tryz.prog 73 #[keeperV (.slice av rs.length cv) f h true room, .int .i64 ((i : Int) + 1)] w9 fun e w' => e = .returned (.tuple #[.int .i64 X, .bool Y]) ∧ Below w9.heap.size w9 w') ∧ Hid (Pl.hearA 2 sa sf = if Y = true then some X else none) := by
        have := answerClose_any h true room (.slice av rs.length cv) rs f hs hf a i w9 (RDY.out _ B9.out) hi
        rw [hsf.out] at this
        refine ⟨_, _, this, ?_⟩
        show _ = _
        unfold Pl.hearA Pl.ansK
        by_cases e2 : sf = 2 <;> simp [e2]
      have hmy := hMAY.out
      rw [← hZS.out] at hmy
      cases Y
      · have hO1 : OO = ((h, true, room, rs, f), (0, 0, 0), false) := by
          rw [← hOO.out]; exact hearO'_none HHB.out hmy (by rw [hsa.out, hsf.out, hXY.out]; rfl)
        subst hO1
        go_wp2_with fail
        refine HANS.out.mono ?_
        rintro e w10 ⟨rfl, hb10⟩
        have Q10 := hide_it (Q9.out.after hb10)
        have B10 := hide_it (B9.out.trans (hb10.mono B9.out.size))
        obtain ⟨p0, p1, p2, p3, p4⟩ := (K9.out.after hb10).cells5
        have hs10 : w.heap.size + 4 ≤ w10.heap.size := by have := (K9.out.after hb10).lt; omega
        clear hb10 y0 y1 y2 y3
        go_wp2_with fail
        refine (keeperHouse_any h true room _ rs f w10 (HV.out _ B10.out) hl).mono ?_
        rintro e w11 ⟨ao, cap, rfl, hm, hb11⟩
        have Q11 := hide_it (Q10.out.after hb11)
        have HM := hide_it hm
        have HB := hide_it (B10.out.trans (hb11.mono B10.out.size))
        clear hm hb11 p0 p1 p2 p3 p4
        obtain ⟨z0, z1, z2, z3, z4⟩ := Q11.out.zo.cells5
        obtain ⟨zf0, zf1, zf2, zf3, zf4⟩ := Q11.out.zo.free5
        obtain ⟨q0, q1, q2, q3⟩ := Q11.out.zw.cells4
        obtain ⟨qf0, qf1, qf2, qf3, -⟩ := Q11.out.zw.free5
        go_wp2
        refine bodyPost_ret (v := .tuple #[houseV h true room (.slice ao rs.length cap) f, wordV 0 0 0 0, .bool false]) (by simp [results, Tryz.results12, go_sem, *]) rfl ?_
        refine ⟨ao, cap, rfl, ?_, ?_⟩
        · refine Made.lo ?_ (show w.heap.size ≤ w10.heap.size by omega)
          repeat (refine Made.setBelow ?_ (by first | (simp; done) | (simp; omega)) _)
          exact HM.out
        · repeat (refine Below.setCell ?_ (by first | (simp; done) | (simp; omega)) _)
          exact HB.out
      · have hO1 : OO = ((h, true, room, rs, f), (X, h, (i : Int) + 1), true) := by
          rw [← hOO.out]; exact hearO'_some HHB.out hmy (by rw [hsa.out, hsf.out, hXY.out]; rfl)
        subst hO1
        go_wp2_with fail
        refine HANS.out.mono ?_
        rintro e w10 ⟨rfl, hb10⟩
        have Q10 := hide_it (Q9.out.after hb10)
        have B10 := hide_it (B9.out.trans (hb10.mono B9.out.size))
        have K10 := hide_it (K9.out.after hb10)
        have hs10 : w.heap.size + 4 ≤ w10.heap.size := by have := K10.out.lt; omega
        clear hb10 y0 y1 y2 y3
        obtain ⟨p0, p1, p2, p3, p4⟩ := K10.out.cells5
        obtain ⟨y0, y1, y2, y3⟩ := Q10.out.wo.cells4
        have n1 : w2.heap.size ≠ w.heap.size + 2 := by omega
        have n2 : w2.heap.size ≠ w.heap.size + 3 := by omega
        go_wp2_with fail
        go_region_held (fun w' => (w'.cell? ⟨w2.heap.size, 0, none⟩ = some (.slice av rs.length cv) ∧ w'.cell? ⟨w2.heap.size, 1, none⟩ = some (.int .i64 f) ∧ w'.cell? ⟨w2.heap.size, 2, none⟩ = some (.int .i64 h) ∧ w'.cell? ⟨w2.heap.size, 3, none⟩ = some (.bool true) ∧ w'.cell? ⟨w2.heap.size, 4, none⟩ = some (.int .i64 room)) ∧ w'.cell? ⟨w.heap.size + 1, 2, none⟩ = some (.int .i64 ((i : Int) + 1))) (first | (go_keep; done) | (refine ⟨⟨?_, ?_, ?_, ?_, ?_⟩, ?_⟩ <;> simp [go_sem, *]))
          ((go_at_call 32; refine (keeperHouse_any h true room _ rs f _ (HV.out _ B10.out.drew) hl).mono ?_; rintro e w11 ⟨ao, cap, rfl, hm, hb11⟩; have hb11' := (Below.refl w10.heap.size w10).drew.trans hb11; have Q11 := hide_it (Q10.out.after hb11'); have HM := hide_it hm; have HB := hide_it (B10.out.trans (hb11'.mono B10.out.size)); obtain ⟨d0, d1, d2, d3, d4⟩ := (K10.out.after hb11').cells5; obtain ⟨j0, j1, j2, j3⟩ := Q11.out.wo.cells4; obtain ⟨z0, z1, z2, z3, z4⟩ := Q11.out.zo.cells5; obtain ⟨zf0, zf1, zf2, zf3, zf4⟩ := Q11.out.zo.free5; obtain ⟨q0, q1, q2, q3⟩ := Q11.out.zw.cells4; obtain ⟨qf0, qf1, qf2, qf3, -⟩ := Q11.out.zw.free5; clear hm hb11 hb11'))
        all_goals
          go_wp2
          refine bodyPost_ret (v := .tuple #[houseV h true room (.slice ao rs.length cap) f, wordV X h ((i : Int) + 1) 0, .bool true]) (by simp [results, Tryz.results12, go_sem, *]) rfl ?_
          refine ⟨ao, cap, rfl, ?_, ?_⟩
          · refine Made.lo ?_ (show w.heap.size ≤ w10.heap.size by omega)
            repeat (refine Made.setBelow ?_ (by first | (simp; done) | (simp; omega)) _)
            exact HM.out
          · repeat (refine Below.setCell ?_ (by first | (simp; done) | (simp; omega)) _)
            exact HB.out
    · obtain ⟨y0, y1, y2, y3⟩ := Q8.out.wo.cells4
      go_wp2_with fail
      refine (HTO.out _).mono ?_
      rintro e w9 ⟨rfl, hb9⟩
      have Q9 := hide_it (Q8.out.after hb9)
      have B9 := hide_it (B8.out.trans (hb9.mono B8.out.size))
      have K9 := hide_it (K8.out.after hb9)
      clear hb9 y0 y1 y2 y3 p0 p1 p2 p3 p4 u0 u1 u2
      obtain ⟨y0, y1, y2, y3⟩ := Q9.out.wo.cells4
      obtain ⟨X, Y, HANS, hXY⟩ : ∃ (X : Int) (Y : Bool), Hid (Calls Tryz.prog 74 #[keeperV (.slice av rs.length cv) f h true room, .int .i64 ((i : Int) + 1)] w9 fun e w' => e = .returned (.tuple #[.int .i64 X, .bool Y]) ∧ Below w9.heap.size w9 w') ∧ Hid (Pl.hearA 3 sa sf = if Y = true then some X else none) := by
        have := answerUndo_any h true room (.slice av rs.length cv) rs f hs hf a i w9 (RDY.out _ B9.out) hi
        rw [hsf.out] at this
        refine ⟨_, _, this, ?_⟩
        show _ = _
        unfold Pl.hearA Pl.ansK
        by_cases e3 : sf = 3 <;> simp [e3]
      have hmy := hMAY.out
      rw [← hZS.out] at hmy
      cases Y
      · have hO1 : OO = ((h, true, room, rs, f), (0, 0, 0), false) := by
          rw [← hOO.out]; exact hearO'_none HHB.out hmy (by rw [hsa.out, hsf.out, hXY.out]; rfl)
        subst hO1
        go_wp2_with fail
        refine HANS.out.mono ?_
        rintro e w10 ⟨rfl, hb10⟩
        have Q10 := hide_it (Q9.out.after hb10)
        have B10 := hide_it (B9.out.trans (hb10.mono B9.out.size))
        obtain ⟨p0, p1, p2, p3, p4⟩ := (K9.out.after hb10).cells5
        have hs10 : w.heap.size + 4 ≤ w10.heap.size := by have := (K9.out.after hb10).lt; omega
        clear hb10 y0 y1 y2 y3
        go_wp2_with fail
        refine (keeperHouse_any h true room _ rs f w10 (HV.out _ B10.out) hl).mono ?_
        rintro e w11 ⟨ao, cap, rfl, hm, hb11⟩
        have Q11 := hide_it (Q10.out.after hb11)
        have HM := hide_it hm
        have HB := hide_it (B10.out.trans (hb11.mono B10.out.size))
        clear hm hb11 p0 p1 p2 p3 p4
        obtain ⟨z0, z1, z2, z3, z4⟩ := Q11.out.zo.cells5
        obtain ⟨zf0, zf1, zf2, zf3, zf4⟩ := Q11.out.zo.free5
        obtain ⟨q0, q1, q2, q3⟩ := Q11.out.zw.cells4
        obtain ⟨qf0, qf1, qf2, qf3, -⟩ := Q11.out.zw.free5
        go_wp2
        refine bodyPost_ret (v := .tuple #[houseV h true room (.slice ao rs.length cap) f, wordV 0 0 0 0, .bool false]) (by simp [results, Tryz.results12, go_sem, *]) rfl ?_
        refine ⟨ao, cap, rfl, ?_, ?_⟩
        · refine Made.lo ?_ (show w.heap.size ≤ w10.heap.size by omega)
          repeat (refine Made.setBelow ?_ (by first | (simp; done) | (simp; omega)) _)
          exact HM.out
        · repeat (refine Below.setCell ?_ (by first | (simp; done) | (simp; omega)) _)
          exact HB.out
      · have hO1 : OO = ((h, true, room, rs, f), (X, h, (i : Int) + 1), true) := by
          rw [← hOO.out]; exact hearO'_some HHB.out hmy (by rw [hsa.out, hsf.out, hXY.out]; rfl)
        subst hO1
        go_wp2_with fail
        refine HANS.out.mono ?_
        rintro e w10 ⟨rfl, hb10⟩
        have Q10 := hide_it (Q9.out.after hb10)
        have B10 := hide_it (B9.out.trans (hb10.mono B9.out.size))
        have K10 := hide_it (K9.out.after hb10)
        have hs10 : w.heap.size + 4 ≤ w10.heap.size := by have := K10.out.lt; omega
        clear hb10 y0 y1 y2 y3
        obtain ⟨p0, p1, p2, p3, p4⟩ := K10.out.cells5
        obtain ⟨y0, y1, y2, y3⟩ := Q10.out.wo.cells4
        have n1 : w2.heap.size ≠ w.heap.size + 2 := by omega
        have n2 : w2.heap.size ≠ w.heap.size + 3 := by omega
        go_wp2_with fail
        go_region_held (fun w' => (w'.cell? ⟨w2.heap.size, 0, none⟩ = some (.slice av rs.length cv) ∧ w'.cell? ⟨w2.heap.size, 1, none⟩ = some (.int .i64 f) ∧ w'.cell? ⟨w2.heap.size, 2, none⟩ = some (.int .i64 h) ∧ w'.cell? ⟨w2.heap.size, 3, none⟩ = some (.bool true) ∧ w'.cell? ⟨w2.heap.size, 4, none⟩ = some (.int .i64 room)) ∧ w'.cell? ⟨w.heap.size + 1, 2, none⟩ = some (.int .i64 ((i : Int) + 1))) (first | (go_keep; done) | (refine ⟨⟨?_, ?_, ?_, ?_, ?_⟩, ?_⟩ <;> simp [go_sem, *]))
          ((go_at_call 32; refine (keeperHouse_any h true room _ rs f _ (HV.out _ B10.out.drew) hl).mono ?_; rintro e w11 ⟨ao, cap, rfl, hm, hb11⟩; have hb11' := (Below.refl w10.heap.size w10).drew.trans hb11; have Q11 := hide_it (Q10.out.after hb11'); have HM := hide_it hm; have HB := hide_it (B10.out.trans (hb11'.mono B10.out.size)); obtain ⟨d0, d1, d2, d3, d4⟩ := (K10.out.after hb11').cells5; obtain ⟨j0, j1, j2, j3⟩ := Q11.out.wo.cells4; obtain ⟨z0, z1, z2, z3, z4⟩ := Q11.out.zo.cells5; obtain ⟨zf0, zf1, zf2, zf3, zf4⟩ := Q11.out.zo.free5; obtain ⟨q0, q1, q2, q3⟩ := Q11.out.zw.cells4; obtain ⟨qf0, qf1, qf2, qf3, -⟩ := Q11.out.zw.free5; clear hm hb11 hb11'))
        all_goals
          go_wp2
          refine bodyPost_ret (v := .tuple #[houseV h true room (.slice ao rs.length cap) f, wordV X h ((i : Int) + 1) 0, .bool true]) (by simp [results, Tryz.results12, go_sem, *]) rfl ?_
          refine ⟨ao, cap, rfl, ?_, ?_⟩
          · refine Made.lo ?_ (show w.heap.size ≤ w10.heap.size by omega)
            repeat (refine Made.setBelow ?_ (by first | (simp; done) | (simp; omega)) _)
            exact HM.out
          · repeat (refine Below.setCell ?_ (by first | (simp; done) | (simp; omega)) _)
            exact HB.out
  · -- it may come
    have hmy := hMAY.out
    rw [← hZS.out] at hmy
    obtain ⟨RS, hRS⟩ : ∃ x, Hid (rs ++ [(k, (i : Int) + 1, ZS)] = x) := ⟨_, rfl⟩
    have hO1 : OO = ((h, true, room, RS, f), (0, 0, 0), false) := by
      rw [← hRS.out, ← hOO.out, ← hZS.out]; exact hearO'_may HHB.out hmy
    subst hO1
    rw [hRS.out] at HAD hR2
    go_wp2_with fail
    refine (HAD.out _ _ B8.out I8.out).mono ?_
    rintro e w9 ⟨a9, c9, rfl, hm9, hb9⟩
    have Q9 := hide_it (Q8.out.after hb9)
    have B9 := hide_it (B8.out.trans (hb9.mono B8.out.size))
    have K9 := hide_it (K8.out.after hb9)
    have M9 := hide_it (hm9.setTwo hs8 (.slice a9 RS.length c9) (.int .i64 f) 0 1)
    have hs9 : w8.heap.size ≤ w9.heap.size := hb9.size
    clear hm9 hb9 p0 p1 p2 p3 p4 u0 u1 u2
    obtain ⟨p0, p1, p2, p3, p4⟩ := K9.out.cells5
    obtain ⟨pf0, pf1, pf2, pf3, pf4⟩ := K9.out.free5
    obtain ⟨w10, hw10⟩ : ∃ W, Hid (W = (w9.setCell ⟨w2.heap.size, 0, none⟩ (.slice a9 RS.length c9)).setCell ⟨w2.heap.size, 1, none⟩ (.int .i64 f)) := ⟨_, rfl⟩
    rw [← hw10.out] at M9
    have B10 : Hid (Below w.heap.size w w10) := by show Below _ _ _; rw [hw10.out]; exact (B9.out.setCell (by simp; omega) _).setCell (by simp; omega) _
    have Q10 : Hid (Four w10 w.heap.size h true room (.slice av rs.length cv) f k h ((i : Int) + 1) m) := by show Four _ _ _ _ _ _ _ _ _ _ _; rw [hw10.out]; exact (Q9.out.other hs2 _).other hs2 _
    have hs10 : w10.heap.size = w9.heap.size := by rw [hw10.out]; simp
    go_wp2_with fail
    rw [← hw10.out]
    refine (keeperHouse_any h true room _ RS f w10 M9.out.recs hR2).mono ?_
    rintro e w11 ⟨ao, cap, rfl, hm, hb11⟩
    have Q11 := hide_it (Q10.out.after hb11)
    have HM := hide_it hm
    have HB := hide_it (B10.out.trans (hb11.mono B10.out.size))
    clear hm hb11 p0 p1 p2 p3 p4 pf0 pf1 pf2 pf3 pf4
    obtain ⟨z0, z1, z2, z3, z4⟩ := Q11.out.zo.cells5
    obtain ⟨zf0, zf1, zf2, zf3, zf4⟩ := Q11.out.zo.free5
    obtain ⟨q0, q1, q2, q3⟩ := Q11.out.zw.cells4
    obtain ⟨qf0, qf1, qf2, qf3, -⟩ := Q11.out.zw.free5
    go_wp2
    refine bodyPost_ret (v := .tuple #[houseV h true room (.slice ao RS.length cap) f, wordV 0 0 0 0, .bool false]) (by simp [results, Tryz.results12, go_sem, *]) rfl ?_
    refine ⟨ao, cap, rfl, ?_, ?_⟩
    · refine Made.lo ?_ (show w.heap.size ≤ w10.heap.size by omega)
      repeat (refine Made.setBelow ?_ (by first | (simp; done) | (simp; omega)) _)
      exact HM.out
    · repeat (refine Below.setCell ?_ (by first | (simp; done) | (simp; omega)) _)
      exact HB.out

end Go.Proofs.YthllcffmpeopcaaGreatDoor

namespace Go.Proofs.YthllcffmpeopcaaGreatDoor

/-- An operation is taken first, its slot written out. -/
theorem takeD {P : Program} {md : Region.Mode} {ops : Array Oper} {Q : Exit → Act → World → Prop} {S : World → Prop} {i : Nat} {oi : Oper} {v : Value} {fuel : Nat} {listed : Array Bool} {a : Act} {w : World} (d : Option Nat) (hi : ops[i]? = some oi) (hd : oi.dst = d)
    (hs : Region.noSelect ops = true) (hf : Region.free md ops listed i = true) (hr : (Region.ready md ops listed).contains i = true)
    (hQ : ∀ c a w, Q (.panic c) (a.put d v) w → Q (.panic c) a w) (hw : Region.wanted oi (yielded ops a.tmps) = true) (hS : S w) (hy : ∀ w, S w → (execOp a.eval oi).run P w = .ok (.value v) w)
    (h : wpAnyH P md ops Q S fuel (listed.setIfInBounds i true) (a.put d v) w) : wpAnyH P md ops Q S (fuel + 1) listed a w := by
  subst hd
  exact wpAnyH_take hi hs hf hr hQ (Or.inl ⟨hw, hy⟩) hS h

/-- An operation that its guard passes over is taken first, its slot written out. -/
theorem skipD {P : Program} {md : Region.Mode} {ops : Array Oper} {Q : Exit → Act → World → Prop} {S : World → Prop} {i : Nat} {oi : Oper} {fuel : Nat} {listed : Array Bool} {a : Act} {w : World} (d : Option Nat) (hi : ops[i]? = some oi) (hd : oi.dst = d)
    (hs : Region.noSelect ops = true) (hf : Region.free md ops listed i = true) (hr : (Region.ready md ops listed).contains i = true)
    (hQ : ∀ c a w, Q (.panic c) (a.put d undef) w → Q (.panic c) a w) (hw : Region.wanted oi (yielded ops a.tmps) = false) (hS : S w)
    (h : wpAnyH P md ops Q S fuel (listed.setIfInBounds i true) (a.put d undef) w) : wpAnyH P md ops Q S (fuel + 1) listed a w := by
  subst hd
  exact wpAnyH_take hi hs hf hr hQ (Or.inr ⟨hw, rfl⟩) hS h

/-- What holds behind every operation may be weakened. -/
theorem heldMono {P : Program} {md : Region.Mode} {ops : Array Oper} {Q : Exit → Act → World → Prop} {S S2 : World → Prop} (hS : ∀ w, S2 w → S w) :
    ∀ (fuel : Nat) (listed : Array Bool) (a : Act) (w : World), wpAnyH P md ops Q S2 fuel listed a w → wpAnyH P md ops Q S fuel listed a w
  | 0, _, _, _, h => h
  | fuel + 1, _, _, _, h => ⟨h.1, fun i hi => wpOp_mono (fun a' w' h' => ⟨hS _ h'.1, heldMono hS fuel _ a' w' h'.2⟩) (h.2 i hi)⟩

end Go.Proofs.YthllcffmpeopcaaGreatDoor

namespace Go.Proofs.YthllcffmpeopcaaGreatDoor
open Go.RowKit

/-- A store into a block that is neither of records nor of numbers leaves records that the call made. -/
theorem Made.setBlk {w : World} {lo b j : Nat} {v : Value} {rs : List R} {cur : Array Value} {ty : TypeId} (h : Made w lo v rs) (hh : Blk w b cur ty) (h1 : 62 ≠ ty) (h2 : 3 ≠ ty) (x : Value) : Made (w.setCell ⟨b, j, Option.none⟩ x) lo v rs := by
  obtain ⟨ps, hp, r1, r2, r3⟩ := h
  have hs : (w.setCell ⟨b, j, Option.none⟩ x).heap.size = w.heap.size := by simp
  have ap : ∀ {e : TypeId} {sz n : Nat} {y : Value} {xs : List Value}, w.ownsRow lo e sz y n xs → e ≠ ty → ∀ g, y.ownBlock = some g → g ≠ b := fun hr he g hg => by
    rcases hr.2 with ⟨hv, _⟩ | ⟨g', cap, cur', hv, _, hc, _⟩
    · rw [hv] at hg; simp [Value.ownBlock] at hg
    · rw [hv] at hg
      simp [Value.ownBlock] at hg
      subst hg
      intro e2
      subst e2
      unfold Blk at hh
      rw [hh] at hc
      simp at hc
      exact he hc.2.symm
  refine ⟨ps, hp, ownsRow_setCell_ne r1 (ap r1 h1) x, by rw [hs]; exact r2, ?_⟩
  rw [hs]
  exact ⟨by rw [hs]; exact r3.1, fun p hp => ⟨ownsRow_setCell_ne (r3.2.1 p hp).1 (ap (r3.2.1 p hp).1 h2) x, (r3.2.1 p hp).2⟩, r3.2.2⟩
/-- The stores with which a house and a word are handed back. -/
theorem Made.handed {w : World} {lo s : Nat} {v : Value} {rs : List R} {id : Int} {up : Bool} {room : Int} {u : Value} {f k h t m : Int} (hm : Made w lo v rs) (q : Four w s id up room u f k h t m) (x0 x1 x2 x3 x4 y0 y1 y2 y3 : Value) :
    Made (((((((((w.setCell ⟨s + 2, 0, Option.none⟩ x0).setCell ⟨s + 2, 1, Option.none⟩ x1).setCell ⟨s + 2, 2, Option.none⟩ x2).setCell ⟨s + 2, 3, Option.none⟩ x3).setCell ⟨s + 2, 4, Option.none⟩ x4).setCell ⟨s + 3, 0, Option.none⟩ y0).setCell ⟨s + 3, 1, Option.none⟩ y1).setCell ⟨s + 3, 2, Option.none⟩ y2).setCell ⟨s + 3, 3, Option.none⟩ y3) lo v rs := by
  have e0 := q.zo.set_ 0 x0
  have e1 := e0.set_ 1 x1
  have e2 := e1.set_ 2 x2
  have e3 := e2.set_ 3 x3
  have d0 : Blk (((((w.setCell ⟨s + 2, 0, Option.none⟩ x0).setCell ⟨s + 2, 1, Option.none⟩ x1).setCell ⟨s + 2, 2, Option.none⟩ x2).setCell ⟨s + 2, 3, Option.none⟩ x3).setCell ⟨s + 2, 4, Option.none⟩ x4) (s + 3) #[.int .i64 0, .int .i64 0, .int .i64 0, .int .i64 0] 35 := ((((q.zw.other (by simp) _).other (by simp) _).other (by simp) _).other (by simp) _).other (by simp) _
  have d1 := d0.set_ 0 y0
  have d2 := d1.set_ 1 y1
  have d3 := d2.set_ 2 y2
  have h1 := ((((hm.setBlk (j := 0) q.zo (by decide) (by decide) x0).setBlk (j := 1) e0 (by decide) (by decide) x1).setBlk (j := 2) e1 (by decide) (by decide) x2).setBlk (j := 3) e2 (by decide) (by decide) x3).setBlk (j := 4) e3 (by decide) (by decide) x4
  exact (((h1.setBlk (j := 0) d0 (by decide) (by decide) y0).setBlk (j := 1) d1 (by decide) (by decide) y1).setBlk (j := 2) d2 (by decide) (by decide) y2).setBlk (j := 3) d3 (by decide) (by decide) y3
theorem Below.handed {B s : Nat} {a w : World} (h : Below B a w) (hs : B ≤ s) (x0 x1 x2 x3 x4 y0 y1 y2 y3 : Value) :
    Below B a (((((((((w.setCell ⟨s + 2, 0, Option.none⟩ x0).setCell ⟨s + 2, 1, Option.none⟩ x1).setCell ⟨s + 2, 2, Option.none⟩ x2).setCell ⟨s + 2, 3, Option.none⟩ x3).setCell ⟨s + 2, 4, Option.none⟩ x4).setCell ⟨s + 3, 0, Option.none⟩ y0).setCell ⟨s + 3, 1, Option.none⟩ y1).setCell ⟨s + 3, 2, Option.none⟩ y2).setCell ⟨s + 3, 3, Option.none⟩ y3) := by
  repeat (refine Below.setCell ?_ (by simp; omega) _)
  exact h

set_option maxRecDepth 100000 in
set_option maxHeartbeats 8000000 in
theorem l11Hear_not (id : Int) (up : Bool) (room : Int) (v : Value) (rs : List R) (f k h t m : Int) (lo : Nat) (w : World) (hm : Made w lo v rs) (hsh : ∃ ao cap, v = .slice ao rs.length cap) (hlo : lo ≤ w.heap.size) (hb : Pl.hearB id up k h t m = false) :
    Calls Tryz.prog 27 #[houseV id up room v f, wordV k h t m] w fun e w' => HeOutL lo w w' e ((id, up, room, rs, f), (0, 0, 0), false) := by
  obtain ⟨av, cv, rfl⟩ := hsh
  have HM := hide_it hm
  obtain ⟨WW, hWW⟩ : ∃ b, Hid (Pl.wOk k h t m = b) := ⟨_, rfl⟩
  have HW : Hid (∀ W, Calls Tryz.prog 59 #[wordV k h t m] W fun e w' => e = .returned (.bool WW) ∧ Below W.heap.size W w') := fun W => by
    have := specWordOk_any k h t m W; rw [hWW.out] at this; exact this
  have hb2 : (up && WW && decide (h = id) && decide (k ≤ 3)) = false := by rw [← hWW.out]; exact hb
  clear hb hm
  obtain ⟨w0, hw0⟩ : ∃ W, Hid (W = (((w.alloc (.cells #[.int .i64 id, .bool up, .int .i64 room, .slice av rs.length cv, .int .i64 f] 34)).alloc (.cells #[.int .i64 k, .int .i64 h, .int .i64 t, .int .i64 m] 35)).alloc (.cells #[.int .i64 0, .bool false, .int .i64 0, .slice none 0 0, .int .i64 0] 34)).alloc (.cells #[.int .i64 0, .int .i64 0, .int .i64 0, .int .i64 0] 35)) := ⟨_, rfl⟩
  have B0 : Hid (Below w.heap.size w w0) := by show Below _ _ _; rw [hw0.out]; exact below4 _ _ _ _ _
  have Q0 : Hid (Four w0 w.heap.size id up room (.slice av rs.length cv) f k h t m) := by show Four _ _ _ _ _ _ _ _ _ _ _; rw [hw0.out]; exact Four.new _ _ _ _ _ _ _ _ _ _
  cases up
  · clear hb2
    go_enter Tryz.func27, Tryz.ntmps27
    go_wp2
    refine bodyPost_ret (v := .tuple #[houseV id false room (.slice av rs.length cv) f, wordV 0 0 0 0, .bool false]) (by simp [results, Tryz.results27, go_sem]) rfl ?_
    exact ⟨av, cv, rfl, HM.out.below (below4 w _ _ _ _) (Nat.le_refl _), (below4 w _ _ _ _).mono hlo⟩
  · go_enter Tryz.func27, Tryz.ntmps27
    go_wp2_with fail
    rw [← hw0.out]
    refine (HW.out _).mono ?_
    rintro e w1 ⟨rfl, hb1⟩
    have Q1 := hide_it (Q0.out.after hb1)
    have B1 := hide_it (B0.out.trans (hb1.mono B0.out.size))
    have M1 := hide_it (HM.out.below B1.out (Nat.le_refl _))
    have L1 := hide_it (B1.out.mono hlo)
    obtain ⟨x0, x1, x2, x3, x4⟩ := Q1.out.ho.cells5
    obtain ⟨y0, y1, y2, y3⟩ := Q1.out.wo.cells4
    clear hb1
    cases WW
    · clear hb2
      obtain ⟨z0, z1, z2, z3, z4⟩ := Q1.out.zo.cells5
      obtain ⟨zf0, zf1, zf2, zf3, zf4⟩ := Q1.out.zo.free5
      obtain ⟨q0, q1, q2, q3⟩ := Q1.out.zw.cells4
      obtain ⟨qf0, qf1, qf2, qf3, -⟩ := Q1.out.zw.free5
      go_wp2
      refine bodyPost_ret (v := .tuple #[houseV id true room (.slice av rs.length cv) f, wordV 0 0 0 0, .bool false]) (by simp [results, Tryz.results27, go_sem, *]) rfl ?_
      exact ⟨av, cv, rfl, Made.handed M1.out Q1.out _ _ _ _ _ _ _ _ _, Below.handed L1.out hlo _ _ _ _ _ _ _ _ _⟩
    · by_cases he : h = id
      · have hk : ¬ k ≤ 3 := by simpa [he] using hb2
        clear hb2
        subst he
        obtain ⟨z0, z1, z2, z3, z4⟩ := Q1.out.zo.cells5
        obtain ⟨zf0, zf1, zf2, zf3, zf4⟩ := Q1.out.zo.free5
        obtain ⟨q0, q1, q2, q3⟩ := Q1.out.zw.cells4
        obtain ⟨qf0, qf1, qf2, qf3, -⟩ := Q1.out.zw.free5
        go_wp2
        refine bodyPost_ret (v := .tuple #[houseV h true room (.slice av rs.length cv) f, wordV 0 0 0 0, .bool false]) (by simp [results, Tryz.results27, go_sem, *]) rfl ?_
        exact ⟨av, cv, rfl, Made.handed M1.out Q1.out _ _ _ _ _ _ _ _ _, Below.handed L1.out hlo _ _ _ _ _ _ _ _ _⟩
      · have he2 : (h == id) = false := by simpa using he
        have he3 : (h != id) = true := by simpa using he
        clear hb2
        obtain ⟨z0, z1, z2, z3, z4⟩ := Q1.out.zo.cells5
        obtain ⟨zf0, zf1, zf2, zf3, zf4⟩ := Q1.out.zo.free5
        obtain ⟨q0, q1, q2, q3⟩ := Q1.out.zw.cells4
        obtain ⟨qf0, qf1, qf2, qf3, -⟩ := Q1.out.zw.free5
        go_wp2
        refine bodyPost_ret (v := .tuple #[houseV id true room (.slice av rs.length cv) f, wordV 0 0 0 0, .bool false]) (by simp [results, Tryz.results27, go_sem, *]) rfl ?_
        exact ⟨av, cv, rfl, Made.handed M1.out Q1.out _ _ _ _ _ _ _ _ _, Below.handed L1.out hlo _ _ _ _ _ _ _ _ _⟩

end Go.Proofs.YthllcffmpeopcaaGreatDoor
