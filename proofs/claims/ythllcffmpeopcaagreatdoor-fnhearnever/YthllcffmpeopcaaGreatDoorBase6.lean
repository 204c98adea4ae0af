/- What the last text of this claim stands on, part 6: plain facts and contracts; the last text says what is proved. -/
import Derived.Test.YthllcffmpeopcaaGreatDoorBase5
import Derived.Deep.RegionHeld

namespace Go.Proofs.YthllcffmpeopcaaGreatDoor
open Go.RowKit

theorem RcS.wkeep {w W : World} {b q X i : Nat} {cs : Array Value} {o : Value} {ps : List (R × Value)} (h : RcS w W b q o ps) (hX : Blk W X cs 35) (hw : w.heap.size ≤ X) (x : Value) : RcS w (W.setCell ⟨X, i, none⟩ x) b q o ps := by
  have hl := h.low
  refine ⟨?_, ?_, h.rd.setApart (by omega) _, h.mid.setNew hw _, hl⟩
  · exact ownsRow_setCell_ne h.row (fun g hg => by obtain ⟨cs', hh⟩ := (rowB_at h.row g hg).2; exact ne_of_type hh hX (by decide)) _
  · exact fun p hp => (h.all p hp).keep fun g cs' hh => Below.heap_setCell _ _ _ _ (ne_of_type hh hX (by decide))
theorem Blk.cells4' {w : World} {b : Nat} {x0 x1 x2 x3 : Value} {ty : TypeId} (h : Blk w b #[x0, x1, x2, x3] ty) :
    w.cell? ⟨b, 0, none⟩ = some x0 ∧ w.cell? ⟨b, 1, none⟩ = some x1 ∧ w.cell? ⟨b, 2, none⟩ = some x2 ∧ w.cell? ⟨b, 3, none⟩ = some x3 := by
  refine ⟨?_, ?_, ?_, ?_⟩ <;> (rw [h.cell]; rfl)

/-- While a house and a word are drawn: the records, the two results, the house, the word. -/
def HW (w1 W : World) (b q Rn S X : Nat) (id : Int) (up : Bool) (room : Int) (o : Value) (f : Int) (ps : List (R × Value)) (k h t m : Int) : Prop :=
  RcS w1 W b q o ps ∧ Blk W Rn #[.int .i64 0, .bool false, .int .i64 0, .slice none 0 0, .int .i64 0] 34 ∧ Blk W (Rn + 1) #[.int .i64 0, .int .i64 0, .int .i64 0, .int .i64 0] 35 ∧ Blk W S #[.int .i64 id, .bool up, .int .i64 room, o, .int .i64 f] 34 ∧ Blk W X #[.int .i64 k, .int .i64 h, .int .i64 t, .int .i64 m] 35
theorem hw_state {w1 W W' : World} {b q Rn S X : Nat} {id : Int} {up : Bool} {room : Int} {o : Value} {f : Int} {ps : List (R × Value)} {k0 h0 t0 m0 : Int}
    (hc : RcS w1 W b q o ps) (hp : Blk W Rn #[.int .i64 0, .bool false, .int .i64 0, .slice none 0 0, .int .i64 0] 34) (hq : Blk W (Rn + 1) #[.int .i64 0, .int .i64 0, .int .i64 0, .int .i64 0] 35) (hh : Blk W S #[.int .i64 id, .bool up, .int .i64 room, o, .int .i64 f] 34) (hx : Blk W X #[.int .i64 k0, .int .i64 h0, .int .i64 t0, .int .i64 m0] 35) (hlx : w1.heap.size ≤ X)
    (k h t m : Int) (hR : Rn + 1 < w1.heap.size) (_hR0 : Rn < w1.heap.size)
    (e : W' = (((W.setCell ⟨X, 0, none⟩ (.int .i64 k)).setCell ⟨X, 1, none⟩ (.int .i64 h)).setCell ⟨X, 2, none⟩ (.int .i64 t)).setCell ⟨X, 3, none⟩ (.int .i64 m)) : HW w1 W' b q Rn S X id up room o f ps k h t m := by
  subst e
  have hsx : S ≠ X := hh.ne hx (by decide)
  have x1 := hx.set_ 0 (.int .i64 k)
  have x2 := x1.set_ 1 (.int .i64 h)
  have x3 := x2.set_ 2 (.int .i64 t)
  have x4 := x3.set_ 3 (.int .i64 m)
  refine ⟨(((hc.wkeep hx hlx _).wkeep x1 hlx _).wkeep x2 hlx _).wkeep x3 hlx _, (((hp.other (by simp; omega) _).other (by simp; omega) _).other (by simp; omega) _).other (by simp; omega) _, (((hq.other (by simp; omega) _).other (by simp; omega) _).other (by simp; omega) _).other (by simp; omega) _, (((hh.other hsx _).other hsx _).other hsx _).other hsx _, ?_⟩
  simpa using x4

/-- Records that a draw has made, and the blocks of the two results below them. -/
structure RL2 (W : World) (base X : Nat) (o : Value) (ps : List (R × Value)) : Prop where
  row : W.ownsRow base 62 3 o ps.length (flat ps)
  all : ∀ p ∈ ps, Good W base p
  blk : ∃ cs, Blk W X cs 34
  blk2 : ∃ cs, Blk W (X + 1) cs 35
  low : X + 1 < base
theorem RL2.set {W : World} {base X i : Nat} {o : Value} {ps : List (R × Value)} (h : RL2 W base X o ps) (x : Value) : RL2 (W.setCell ⟨X, i, none⟩ x) base X o ps := by
  obtain ⟨cs, hX⟩ := h.blk
  obtain ⟨cs2, hX2⟩ := h.blk2
  have hl := h.low
  exact ⟨ownsRow_setCell_below h.row (by simp; omega) _, fun p hp => (h.all p hp).keep fun g cs' hh => Below.heap_setCell _ _ _ _ (ne_of_type hh hX (by decide)), ⟨_, hX.set_ i x⟩, ⟨_, hX2.other (by simp) x⟩, h.low⟩
theorem RL2.set2 {W : World} {base X i : Nat} {o : Value} {ps : List (R × Value)} (h : RL2 W base X o ps) (x : Value) : RL2 (W.setCell ⟨X + 1, i, none⟩ x) base X o ps := by
  obtain ⟨cs, hX⟩ := h.blk
  obtain ⟨cs2, hX2⟩ := h.blk2
  have hl := h.low
  exact ⟨ownsRow_setCell_below h.row (by simpa using hl) _, fun p hp => (h.all p hp).keep fun g cs' hh => Below.heap_setCell _ _ _ _ (ne_of_type hh hX2 (by decide)), ⟨_, hX.other (by simp) x⟩, ⟨_, hX2.set_ i x⟩, h.low⟩

set_option maxRecDepth 100000 in
set_option maxHeartbeats 8000000 in
theorem drawHouseHear_any (v : Value) (n : Nat) (w : World) (hv : CodeAt w v n) (hn : n ≤ 1048576) :
    Calls Tryz.prog 17 #[v] w fun e w' => ∃ (id : Int) (up : Bool) (room : Int) (o : Value) (f : Int) (rs : List R) (k h t m : Int), e = .returned (.tuple #[houseV id up room o f, wordV k h t m]) ∧ tot rs ≤ 1000 ∧ Recs w' o rs ∧ Form o rs.length ∧ Below w.heap.size w w' := by
  obtain ⟨w0, hw0⟩ : ∃ W, Hid (W = (w.alloc (.cells #[.int .i64 0, .bool false, .int .i64 0, .slice none 0 0, .int .i64 0] 34)).alloc (.cells #[.int .i64 0, .int .i64 0, .int .i64 0, .int .i64 0] 35)) := ⟨_, rfl⟩
  have B0 : Hid (Below w.heap.size w w0) := by show Below _ _ _; rw [hw0.out]; exact below2 _ _ _
  have P0 : Hid (Blk w0 w.heap.size #[.int .i64 0, .bool false, .int .i64 0, .slice none 0 0, .int .i64 0] 34) := by show Blk _ _ _ _; rw [hw0.out]; exact (Blk.new _ _ _).alloc _
  have Q0 : Hid (Blk w0 (w.heap.size + 1) #[.int .i64 0, .int .i64 0, .int .i64 0, .int .i64 0] 35) := by show Blk _ _ _ _; rw [hw0.out]; exact Blk.new2 _ _ _ _
  have Z0 : Hid (w0.heap.size = w.heap.size + 2) := by show _ = _; rw [hw0.out]; simp
  have HO := hide_it (open_any v n w0 (hv.later B0.out (Nat.le_refl _)) hn)
  obtain ⟨ao, cap, rfl, _⟩ := hv
  go_enter Tryz.func17, Tryz.ntmps17
  go_wp2_with fail
  rw [← hw0.out]
  refine HO.out.mono ?_
  rintro e w1 ⟨rfl, hr1, hs1, hb1⟩
  obtain ⟨b, hbb⟩ : ∃ b, Hid (b = w0.heap.size) := ⟨_, rfl⟩
  rw [← hbb.out] at hr1 ⊢
  have R1 := hide_it hr1
  have B1 := hide_it (B0.out.trans (hb1.mono B0.out.size))
  have P1 := hide_it (P0.out.after hb1)
  have Q1 := hide_it (Q0.out.after hb1)
  have ZB : Hid (b = w.heap.size + 2 ∧ w1.heap.size = w.heap.size + 3) := by
    have := Z0.out
    exact ⟨by rw [hbb.out, this], by rw [hs1, this]⟩
  clear hr1 hb1 hs1
  go_wp2_with fail
  refine (house_draw b 0 _ R1.out (by omega)).mono ?_
  rintro e w2 ⟨id, up, room, o, f, ps, q, rfl, hps, hq, hrc⟩
  have P2 := hide_it (P1.out.mid hrc.mid (Or.inl (by have := ZB.out; omega)))
  have Q2 := hide_it (Q1.out.mid hrc.mid (Or.inl (by have := ZB.out; omega)))
  obtain ⟨au, cu, hos⟩ := row_shape hrc.row
  subst hos
  have C2 := hide_it hrc
  clear hrc
  obtain ⟨S, hS⟩ : ∃ S, Hid (S = w2.heap.size) := ⟨_, rfl⟩
  obtain ⟨w3, hw3⟩ : ∃ W, Hid (W = w2.alloc (.cells #[.int .i64 id, .bool up, .int .i64 room, .slice au ps.length cu, .int .i64 f] 34)) := ⟨_, rfl⟩
  have C3 : Hid (RcS w1 w3 b q (.slice au ps.length cu) ps) := by show RcS _ _ _ _ _ _; rw [hw3.out]; exact C2.out.later (alloc_below _ _)
  have P3 : Hid (Blk w3 w.heap.size #[.int .i64 0, .bool false, .int .i64 0, .slice none 0 0, .int .i64 0] 34) := by show Blk _ _ _ _; rw [hw3.out]; exact P2.out.alloc _
  have Q3 : Hid (Blk w3 (w.heap.size + 1) #[.int .i64 0, .int .i64 0, .int .i64 0, .int .i64 0] 35) := by show Blk _ _ _ _; rw [hw3.out]; exact Q2.out.alloc _
  have H3 : Hid (Blk w3 S #[.int .i64 id, .bool up, .int .i64 room, .slice au ps.length cu, .int .i64 f] 34) := by show Blk _ _ _ _; rw [hw3.out, hS.out]; exact Blk.new _ _ _
  have ZS : Hid (w1.heap.size ≤ S) := by show _ ≤ _; rw [hS.out]; exact C2.out.mid.size
  clear C2 P2 Q2 P1 Q1 P0 Q0
  obtain ⟨h0, h1, h2, h3, h4⟩ := H3.out.cells5
  go_wp2_with fail
  rw [← hw3.out, ← hS.out]
  obtain ⟨wd, hwd⟩ : ∃ W, Hid (W = w3.drew) := ⟨_, rfl⟩
  have Cd : Hid (RcS w1 wd b q (.slice au ps.length cu) ps) := by show RcS _ _ _ _ _ _; rw [hwd.out]; exact C3.out.later (Below.refl _ _).drew
  have Pd : Hid (Blk wd w.heap.size #[.int .i64 0, .bool false, .int .i64 0, .slice none 0 0, .int .i64 0] 34) := by show Blk _ _ _ _; rw [hwd.out]; exact P3.out.drew
  have Qd : Hid (Blk wd (w.heap.size + 1) #[.int .i64 0, .int .i64 0, .int .i64 0, .int .i64 0] 35) := by show Blk _ _ _ _; rw [hwd.out]; exact Q3.out.drew
  have Hd : Hid (Blk wd S #[.int .i64 id, .bool up, .int .i64 room, .slice au ps.length cu, .int .i64 f] 34) := by show Blk _ _ _ _; rw [hwd.out]; exact H3.out.drew
  go_cut [6] (fun p W => ∃ (X : Nat) (x1 x2 : Int), p = .pointer (some ⟨X, 0, none⟩) ∧ 0 ≤ x1 ∧ x1 < 3 ∧ 0 ≤ x2 ∧ x2 < 6 ∧ Hid (HW w1 W b (q + 1 + 1) w.heap.size S X id up room (.slice au ps.length cu) f ps (1 + x1) id (1 + x2) 0) ∧ w1.heap.size ≤ X)
  case first =>
    refine wp_region_held_drew (S := fun w' => w'.cell? ⟨S, 0, none⟩ = some (.int .i64 id)) (by kernel_rfl) h0 (fun hHeld => ?_)
    rw [← hwd.out] at hHeld ⊢
    refine takeD (i := 0) (v := ?_) (some 11) rfl rfl (by kernel_rfl) (by kernel_rfl) (by kernel_rfl) (fun _ _ _ h => h) (by rfl) hHeld ?_ ?_
    rotate_left
    · intro W hSw
      try dsimp only at hSw
      go_simp
      try with_reducible rfl
    try simp only [Act.put]
    try simp only [List.setIfInBounds_toArray]
    try simp only [List.set_cons_succ]
    try simp only [List.set_cons_zero]
    refine takeD (i := 3) (v := ?_) (some 14) rfl rfl (by kernel_rfl) (by kernel_rfl) (by kernel_rfl) (fun _ _ _ h => h) (by rfl) hHeld ?_ ?_
    rotate_left
    · intro W hSw
      try dsimp only at hSw
      go_simp
      try with_reducible rfl
    try simp only [Act.put]
    try simp only [List.setIfInBounds_toArray]
    try simp only [List.set_cons_succ]
    try simp only [List.set_cons_zero]
    refine takeD (i := 4) (v := ?_) (some 15) rfl rfl (by kernel_rfl) (by kernel_rfl) (by kernel_rfl) (fun _ _ _ h => h) (by rfl) hHeld ?_ ?_
    rotate_left
    · intro W hSw
      try dsimp only at hSw
      go_simp
      try with_reducible rfl
    try simp only [Act.put]
    try simp only [List.setIfInBounds_toArray]
    try simp only [List.set_cons_succ]
    try simp only [List.set_cons_zero]
    refine takeD (i := 5) (v := ?_) (some 16) rfl rfl (by kernel_rfl) (by kernel_rfl) (by kernel_rfl) (fun _ _ _ h => h) (by rfl) hHeld ?_ ?_
    rotate_left
    · intro W hSw
      try dsimp only at hSw
      go_simp
      try with_reducible rfl
    try simp only [Act.put]
    try simp only [List.setIfInBounds_toArray]
    try simp only [List.set_cons_succ]
    try simp only [List.set_cons_zero]
    refine wpAnyH_ready (rs := [1, 9]) (by kernel_rfl) (by simp) ?_
    refine AllReadyH.cons rfl (fun K hK => ?_) (AllReadyH.cons rfl (fun K hK => ?_) AllReadyH.nil)
    · go_simp
      refine (pick_any b (q) 3 _ Cd.out.rd (by omega) (by omega) (by omega)).mono ?_
      rintro e w1r ⟨x1, rfl, lx1, ux1, rr, mm⟩
      have hwx1 : IntKind.i64.wrap (1 + x1) = 1 + x1 := by simp [IntKind.wrap, IntKind.bits, IntKind.signed]; omega
      have Cr1 := hide_it (Cd.out.step mm rr)
      have Pr1 := hide_it (Pd.out.mid mm (Or.inl (by have := ZB.out; omega)))
      have Qr1 := hide_it (Qd.out.mid mm (Or.inl (by have := ZB.out; omega)))
      have Hr1 := hide_it (Hd.out.mid mm (Or.inr (by have := ZB.out; have := ZS.out; omega)))
      clear rr mm
      try dsimp only
      refine hK.out _ _ Hr1.out.cells5.1 (fun hHeld => ?_)
      clear hK K
      refine takeD (i := 2) (v := ?_) (some 13) rfl rfl (by kernel_rfl) (by kernel_rfl) (by kernel_rfl) (fun _ _ _ h => h) (by rfl) hHeld ?_ ?_
      rotate_left
      · intro W hSw
        try dsimp only at hSw
        go_simp
        try with_reducible rfl
      try simp only [Act.put]
      try simp only [List.setIfInBounds_toArray]
      try simp only [List.set_cons_succ]
      try simp only [List.set_cons_zero]
      refine wpAnyH_ready (rs := [6, 9]) (by kernel_rfl) (by simp) ?_
      refine AllReadyH.cons rfl (fun K hK => ?_) (AllReadyH.cons rfl (fun K hK => ?_) AllReadyH.nil)
      · go_simp
        refine (pick_any b ((q) + 1) 6 _ Cr1.out.rd (by omega) (by omega) (by omega)).mono ?_
        rintro e w2r ⟨x2, rfl, lx2, ux2, rr, mm⟩
        have hwx2 : IntKind.i64.wrap (1 + x2) = 1 + x2 := by simp [IntKind.wrap, IntKind.bits, IntKind.signed]; omega
        have Cr2 := hide_it (Cr1.out.step mm rr)
        have Pr2 := hide_it (Pr1.out.mid mm (Or.inl (by have := ZB.out; omega)))
        have Qr2 := hide_it (Qr1.out.mid mm (Or.inl (by have := ZB.out; omega)))
        have Hr2 := hide_it (Hr1.out.mid mm (Or.inr (by have := ZB.out; have := ZS.out; omega)))
        clear rr mm
        try dsimp only
        refine hK.out _ _ Hr2.out.cells5.1 (fun hHeld => ?_)
        clear hK K
        refine takeD (i := 7) (v := ?_) (some 18) rfl rfl (by kernel_rfl) (by kernel_rfl) (by kernel_rfl) (fun _ _ _ h => h) (by rfl) hHeld ?_ ?_
        rotate_left
        · intro W hSw
          try dsimp only at hSw
          go_simp
          try with_reducible rfl
        try simp only [Act.put]
        try simp only [List.setIfInBounds_toArray]
        try simp only [List.set_cons_succ]
        try simp only [List.set_cons_zero]
        refine takeD (i := 8) (v := ?_) (some 19) rfl rfl (by kernel_rfl) (by kernel_rfl) (by kernel_rfl) (fun _ _ _ h => h) (by rfl) hHeld ?_ ?_
        rotate_left
        · intro W hSw
          try dsimp only at hSw
          go_simp
          try with_reducible rfl
        try simp only [Act.put]
        try simp only [List.setIfInBounds_toArray]
        try simp only [List.set_cons_succ]
        try simp only [List.set_cons_zero]
        refine wpAnyH_ready (rs := [9]) (by kernel_rfl) (by simp) ?_
        refine AllReadyH.cons rfl (fun K hK => ?_) AllReadyH.nil
        go_simp
        obtain ⟨w3r, hw3r⟩ : ∃ W, Hid (W = w2r.alloc (.cells #[.int .i64 0, .int .i64 0, .int .i64 0, .int .i64 0] 35)) := ⟨_, rfl⟩
        have Cr3 : Hid (RcS w1 w3r b (((q) + 1) + 1) (.slice au ps.length cu) ps) := by show RcS _ _ _ _ _ _; rw [hw3r.out]; exact Cr2.out.later (alloc_below _ _)
        have Pr3 : Hid (Blk w3r w.heap.size #[.int .i64 0, .bool false, .int .i64 0, .slice none 0 0, .int .i64 0] 34) := by show Blk _ _ _ _; rw [hw3r.out]; exact Pr2.out.alloc _
        have Qr3 : Hid (Blk w3r (w.heap.size + 1) #[.int .i64 0, .int .i64 0, .int .i64 0, .int .i64 0] 35) := by show Blk _ _ _ _; rw [hw3r.out]; exact Qr2.out.alloc _
        have Hr3 : Hid (Blk w3r S #[.int .i64 id, .bool up, .int .i64 room, .slice au ps.length cu, .int .i64 f] 34) := by show Blk _ _ _ _; rw [hw3r.out]; exact Hr2.out.alloc _
        have Xr3 : Hid (Blk w3r w2r.heap.size #[.int .i64 0, .int .i64 0, .int .i64 0, .int .i64 0] 35) := by show Blk _ _ _ _; rw [hw3r.out]; exact Blk.new _ _ _
        have XL3 : Hid (w1.heap.size ≤ w2r.heap.size) := Cr2.out.mid.size
        rw [← hw3r.out]
        try dsimp only
        refine hK.out _ _ Hr3.out.cells5.1 (fun hHeld => ?_)
        clear hK K
        refine wpAnyH_ready (rs := [10]) (by kernel_rfl) (by simp) ?_
        refine AllReadyH.cons rfl (fun K hK => ?_) AllReadyH.nil
        go_simp
        obtain ⟨c0, c1, c2, c3⟩ := Xr3.out.cells4'
        have cf0 := Xr3.out.free 0
        have cf1 := Xr3.out.free 1
        have cf2 := Xr3.out.free 2
        have cf3 := Xr3.out.free 3
        go_simp
        obtain ⟨w4r, hw4r⟩ : ∃ W, Hid (W = (((w3r.setCell ⟨w2r.heap.size, 0, none⟩ (.int .i64 (1 + x1))).setCell ⟨w2r.heap.size, 1, none⟩ (.int .i64 id)).setCell ⟨w2r.heap.size, 2, none⟩ (.int .i64 (1 + x2))).setCell ⟨w2r.heap.size, 3, none⟩ (.int .i64 0)) := ⟨_, rfl⟩
        have SR4 := hide_it (hw_state Cr3.out Pr3.out Qr3.out Hr3.out Xr3.out XL3.out ( (1 + x1)) id (1 + x2) 0 (by have := ZB.out; omega) (by have := ZB.out; omega) hw4r.out)
        rw [← hw4r.out]
        clear c0 c1 c2 c3 cf0 cf1 cf2 cf3
        try dsimp only
        refine hK.out _ _ SR4.out.2.2.2.1.cells5.1 (fun hHeld => ?_)
        clear hK K
        refine wpAnyH_done (by kernel_rfl) ?_ _
        go_wp2_with fail
        go_meet
        case rel => exact ⟨_, x1, x2, rfl, lx1, ux1, lx2, ux2, SR4, by have := XL3.out; exact this⟩
      · go_simp
        obtain ⟨w5r, hw5r⟩ : ∃ W, Hid (W = w1r.alloc (.cells #[.int .i64 0, .int .i64 0, .int .i64 0, .int .i64 0] 35)) := ⟨_, rfl⟩
        have Cr5 : Hid (RcS w1 w5r b ((q) + 1) (.slice au ps.length cu) ps) := by show RcS _ _ _ _ _ _; rw [hw5r.out]; exact Cr1.out.later (alloc_below _ _)
        have Pr5 : Hid (Blk w5r w.heap.size #[.int .i64 0, .bool false, .int .i64 0, .slice none 0 0, .int .i64 0] 34) := by show Blk _ _ _ _; rw [hw5r.out]; exact Pr1.out.alloc _
        have Qr5 : Hid (Blk w5r (w.heap.size + 1) #[.int .i64 0, .int .i64 0, .int .i64 0, .int .i64 0] 35) := by show Blk _ _ _ _; rw [hw5r.out]; exact Qr1.out.alloc _
        have Hr5 : Hid (Blk w5r S #[.int .i64 id, .bool up, .int .i64 room, .slice au ps.length cu, .int .i64 f] 34) := by show Blk _ _ _ _; rw [hw5r.out]; exact Hr1.out.alloc _
        have Xr5 : Hid (Blk w5r w1r.heap.size #[.int .i64 0, .int .i64 0, .int .i64 0, .int .i64 0] 35) := by show Blk _ _ _ _; rw [hw5r.out]; exact Blk.new _ _ _
        have XL5 : Hid (w1.heap.size ≤ w1r.heap.size) := Cr1.out.mid.size
        rw [← hw5r.out]
        try dsimp only
        refine hK.out _ _ Hr5.out.cells5.1 (fun hHeld => ?_)
        clear hK K
        refine wpAnyH_ready (rs := [6]) (by kernel_rfl) (by simp) ?_
        refine AllReadyH.cons rfl (fun K hK => ?_) AllReadyH.nil
        go_simp
        refine (pick_any b ((q) + 1) 6 _ Cr5.out.rd (by omega) (by omega) (by omega)).mono ?_
        rintro e w6r ⟨x2, rfl, lx2, ux2, rr, mm⟩
        have hwx2 : IntKind.i64.wrap (1 + x2) = 1 + x2 := by simp [IntKind.wrap, IntKind.bits, IntKind.signed]; omega
        have Cr6 := hide_it (Cr5.out.step mm rr)
        have Pr6 := hide_it (Pr5.out.mid mm (Or.inl (by have := ZB.out; omega)))
        have Qr6 := hide_it (Qr5.out.mid mm (Or.inl (by have := ZB.out; omega)))
        have Hr6 := hide_it (Hr5.out.mid mm (Or.inr (by have := ZB.out; have := ZS.out; omega)))
        have Xr6 := hide_it (Xr5.out.mid mm (Or.inr (by have := ZB.out; have := XL5.out; omega)))
        clear rr mm
        try dsimp only
        refine hK.out _ _ Hr6.out.cells5.1 (fun hHeld => ?_)
        clear hK K
        refine takeD (i := 7) (v := ?_) (some 18) rfl rfl (by kernel_rfl) (by kernel_rfl) (by kernel_rfl) (fun _ _ _ h => h) (by rfl) hHeld ?_ ?_
        rotate_left
        · intro W hSw
          try dsimp only at hSw
          go_simp
          try with_reducible rfl
        try simp only [Act.put]
        try simp only [List.setIfInBounds_toArray]
        try simp only [List.set_cons_succ]
        try simp only [List.set_cons_zero]
        refine takeD (i := 8) (v := ?_) (some 19) rfl rfl (by kernel_rfl) (by kernel_rfl) (by kernel_rfl) (fun _ _ _ h => h) (by rfl) hHeld ?_ ?_
        rotate_left
        · intro W hSw
          try dsimp only at hSw
          go_simp
          try with_reducible rfl
        try simp only [Act.put]
        try simp only [List.setIfInBounds_toArray]
        try simp only [List.set_cons_succ]
        try simp only [List.set_cons_zero]
        refine wpAnyH_ready (rs := [10]) (by kernel_rfl) (by simp) ?_
        refine AllReadyH.cons rfl (fun K hK => ?_) AllReadyH.nil
        go_simp
        obtain ⟨c0, c1, c2, c3⟩ := Xr6.out.cells4'
        have cf0 := Xr6.out.free 0
        have cf1 := Xr6.out.free 1
        have cf2 := Xr6.out.free 2
        have cf3 := Xr6.out.free 3
        go_simp
        obtain ⟨w7r, hw7r⟩ : ∃ W, Hid (W = (((w6r.setCell ⟨w1r.heap.size, 0, none⟩ (.int .i64 (1 + x1))).setCell ⟨w1r.heap.size, 1, none⟩ (.int .i64 id)).setCell ⟨w1r.heap.size, 2, none⟩ (.int .i64 (1 + x2))).setCell ⟨w1r.heap.size, 3, none⟩ (.int .i64 0)) := ⟨_, rfl⟩
        have SR7 := hide_it (hw_state Cr6.out Pr6.out Qr6.out Hr6.out Xr6.out XL5.out ( (1 + x1)) id (1 + x2) 0 (by have := ZB.out; omega) (by have := ZB.out; omega) hw7r.out)
        rw [← hw7r.out]
        clear c0 c1 c2 c3 cf0 cf1 cf2 cf3
        try dsimp only
        refine hK.out _ _ SR7.out.2.2.2.1.cells5.1 (fun hHeld => ?_)
        clear hK K
        refine wpAnyH_done (by kernel_rfl) ?_ _
        go_wp2_with fail
        go_meet
        case rel => exact ⟨_, x1, x2, rfl, lx1, ux1, lx2, ux2, SR7, by have := XL5.out; exact this⟩
    · go_simp
      obtain ⟨w8r, hw8r⟩ : ∃ W, Hid (W = wd.alloc (.cells #[.int .i64 0, .int .i64 0, .int .i64 0, .int .i64 0] 35)) := ⟨_, rfl⟩
      have Cr8 : Hid (RcS w1 w8r b (q) (.slice au ps.length cu) ps) := by show RcS _ _ _ _ _ _; rw [hw8r.out]; exact Cd.out.later (alloc_below _ _)
      have Pr8 : Hid (Blk w8r w.heap.size #[.int .i64 0, .bool false, .int .i64 0, .slice none 0 0, .int .i64 0] 34) := by show Blk _ _ _ _; rw [hw8r.out]; exact Pd.out.alloc _
      have Qr8 : Hid (Blk w8r (w.heap.size + 1) #[.int .i64 0, .int .i64 0, .int .i64 0, .int .i64 0] 35) := by show Blk _ _ _ _; rw [hw8r.out]; exact Qd.out.alloc _
      have Hr8 : Hid (Blk w8r S #[.int .i64 id, .bool up, .int .i64 room, .slice au ps.length cu, .int .i64 f] 34) := by show Blk _ _ _ _; rw [hw8r.out]; exact Hd.out.alloc _
      have Xr8 : Hid (Blk w8r wd.heap.size #[.int .i64 0, .int .i64 0, .int .i64 0, .int .i64 0] 35) := by show Blk _ _ _ _; rw [hw8r.out]; exact Blk.new _ _ _
      have XL8 : Hid (w1.heap.size ≤ wd.heap.size) := Cd.out.mid.size
      rw [← hw8r.out]
      try dsimp only
      refine hK.out _ _ Hr8.out.cells5.1 (fun hHeld => ?_)
      clear hK K
      refine wpAnyH_ready (rs := [1]) (by kernel_rfl) (by simp) ?_
      refine AllReadyH.cons rfl (fun K hK => ?_) AllReadyH.nil
      go_simp
      refine (pick_any b (q) 3 _ Cr8.out.rd (by omega) (by omega) (by omega)).mono ?_
      rintro e w9r ⟨x1, rfl, lx1, ux1, rr, mm⟩
      have hwx1 : IntKind.i64.wrap (1 + x1) = 1 + x1 := by simp [IntKind.wrap, IntKind.bits, IntKind.signed]; omega
      have Cr9 := hide_it (Cr8.out.step mm rr)
      have Pr9 := hide_it (Pr8.out.mid mm (Or.inl (by have := ZB.out; omega)))
      have Qr9 := hide_it (Qr8.out.mid mm (Or.inl (by have := ZB.out; omega)))
      have Hr9 := hide_it (Hr8.out.mid mm (Or.inr (by have := ZB.out; have := ZS.out; omega)))
      have Xr9 := hide_it (Xr8.out.mid mm (Or.inr (by have := ZB.out; have := XL8.out; omega)))
      clear rr mm
      try dsimp only
      refine hK.out _ _ Hr9.out.cells5.1 (fun hHeld => ?_)
      clear hK K
      refine takeD (i := 2) (v := ?_) (some 13) rfl rfl (by kernel_rfl) (by kernel_rfl) (by kernel_rfl) (fun _ _ _ h => h) (by rfl) hHeld ?_ ?_
      rotate_left
      · intro W hSw
        try dsimp only at hSw
        go_simp
        try with_reducible rfl
      try simp only [Act.put]
      try simp only [List.setIfInBounds_toArray]
      try simp only [List.set_cons_succ]
      try simp only [List.set_cons_zero]
      refine wpAnyH_ready (rs := [6]) (by kernel_rfl) (by simp) ?_
      refine AllReadyH.cons rfl (fun K hK => ?_) AllReadyH.nil
      go_simp
      refine (pick_any b ((q) + 1) 6 _ Cr9.out.rd (by omega) (by omega) (by omega)).mono ?_
      rintro e w10r ⟨x2, rfl, lx2, ux2, rr, mm⟩
      have hwx2 : IntKind.i64.wrap (1 + x2) = 1 + x2 := by simp [IntKind.wrap, IntKind.bits, IntKind.signed]; omega
      have Cr10 := hide_it (Cr9.out.step mm rr)
      have Pr10 := hide_it (Pr9.out.mid mm (Or.inl (by have := ZB.out; omega)))
      have Qr10 := hide_it (Qr9.out.mid mm (Or.inl (by have := ZB.out; omega)))
      have Hr10 := hide_it (Hr9.out.mid mm (Or.inr (by have := ZB.out; have := ZS.out; omega)))
      have Xr10 := hide_it (Xr9.out.mid mm (Or.inr (by have := ZB.out; have := XL8.out; omega)))
      clear rr mm
      try dsimp only
      refine hK.out _ _ Hr10.out.cells5.1 (fun hHeld => ?_)
      clear hK K
      refine takeD (i := 7) (v := ?_) (some 18) rfl rfl (by kernel_rfl) (by kernel_rfl) (by kernel_rfl) (fun _ _ _ h => h) (by rfl) hHeld ?_ ?_
      rotate_left
      · intro W hSw
        try dsimp only at hSw
        go_simp
        try with_reducible rfl
      try simp only [Act.put]
      try simp only [List.setIfInBounds_toArray]
      try simp only [List.set_cons_succ]
      try simp only [List.set_cons_zero]
      refine takeD (i := 8) (v := ?_) (some 19) rfl rfl (by kernel_rfl) (by kernel_rfl) (by kernel_rfl) (fun _ _ _ h => h) (by rfl) hHeld ?_ ?_
      rotate_left
      · intro W hSw
        try dsimp only at hSw
        go_simp
        try with_reducible rfl
      try simp only [Act.put]
      try simp only [List.setIfInBounds_toArray]
      try simp only [List.set_cons_succ]
      try simp only [List.set_cons_zero]
      refine wpAnyH_ready (rs := [10]) (by kernel_rfl) (by simp) ?_
      refine AllReadyH.cons rfl (fun K hK => ?_) AllReadyH.nil
      go_simp
      obtain ⟨c0, c1, c2, c3⟩ := Xr10.out.cells4'
      have cf0 := Xr10.out.free 0
      have cf1 := Xr10.out.free 1
      have cf2 := Xr10.out.free 2
      have cf3 := Xr10.out.free 3
      go_simp
      obtain ⟨w11r, hw11r⟩ : ∃ W, Hid (W = (((w10r.setCell ⟨wd.heap.size, 0, none⟩ (.int .i64 (1 + x1))).setCell ⟨wd.heap.size, 1, none⟩ (.int .i64 id)).setCell ⟨wd.heap.size, 2, none⟩ (.int .i64 (1 + x2))).setCell ⟨wd.heap.size, 3, none⟩ (.int .i64 0)) := ⟨_, rfl⟩
      have SR11 := hide_it (hw_state Cr10.out Pr10.out Qr10.out Hr10.out Xr10.out XL8.out ( (1 + x1)) id (1 + x2) 0 (by have := ZB.out; omega) (by have := ZB.out; omega) hw11r.out)
      rw [← hw11r.out]
      clear c0 c1 c2 c3 cf0 cf1 cf2 cf3
      try dsimp only
      refine hK.out _ _ SR11.out.2.2.2.1.cells5.1 (fun hHeld => ?_)
      clear hK K
      refine wpAnyH_done (by kernel_rfl) ?_ _
      go_wp2_with fail
      go_meet
      case rel => exact ⟨_, x1, x2, rfl, lx1, ux1, lx2, ux2, SR11, by have := XL8.out; exact this⟩
  case rest =>
    obtain ⟨X, x1, x2, rfl, l1, u1, l2, u2, HW1, hX⟩ := hcut
    have Cc := hide_it HW1.out.1
    have Pc := hide_it HW1.out.2.1
    have Qc := hide_it HW1.out.2.2.1
    have Hc := hide_it HW1.out.2.2.2.1
    have Xc := hide_it HW1.out.2.2.2.2
    clear HW1
    obtain ⟨c0, c1, c2, c3⟩ := Xc.out.cells4'
    by_cases hx1 : x1 = 0
    · subst hx1
      have cf3 := Xc.out.free 3
      go_wp2_with fail
      refine (pick_any b _ 2 _ Cc.out.rd (by omega) (by omega) (by omega)).mono ?_
      rintro e w5 ⟨x3, rfl, l3, u3, rr, mm⟩
      have C5 := hide_it (Cc.out.step mm rr)
      have P5 := hide_it (Pc.out.mid mm (Or.inl (by have := ZB.out; omega)))
      have Q5 := hide_it (Qc.out.mid mm (Or.inl (by have := ZB.out; omega)))
      have H5 := hide_it (Hc.out.mid mm (Or.inr (by have := ZB.out; have := ZS.out; omega)))
      have X5 := hide_it (Xc.out.mid mm (Or.inr (by have := ZB.out; omega)))
      clear rr mm c0 c1 c2 c3 cf3
      obtain ⟨c0, c1, c2, c3⟩ := X5.out.cells4'
      have cf3 := X5.out.free 3
      obtain ⟨w6, hw6⟩ : ∃ W, Hid (W = w5.setCell ⟨X, 3, none⟩ (.int .i64 (1 + x3))) := ⟨_, rfl⟩
      have hsx : S ≠ X := H5.out.ne X5.out (by decide)
      have C6 : Hid (RcS w1 w6 b (q + 1 + 1 + 1) (.slice au ps.length cu) ps) := by show RcS _ _ _ _ _ _; rw [hw6.out]; exact C5.out.wkeep X5.out hX _
      have P6 : Hid (Blk w6 w.heap.size #[.int .i64 0, .bool false, .int .i64 0, .slice none 0 0, .int .i64 0] 34) := by show Blk _ _ _ _; rw [hw6.out]; exact P5.out.other (by have := ZB.out; simp; omega) _
      have Q6 : Hid (Blk w6 (w.heap.size + 1) #[.int .i64 0, .int .i64 0, .int .i64 0, .int .i64 0] 35) := by show Blk _ _ _ _; rw [hw6.out]; exact Q5.out.other (by have := ZB.out; simp; omega) _
      have H6 : Hid (Blk w6 S #[.int .i64 id, .bool up, .int .i64 room, .slice au ps.length cu, .int .i64 f] 34) := by show Blk _ _ _ _; rw [hw6.out]; exact H5.out.other hsx _
      have X6 : Hid (Blk w6 X #[.int .i64 1, .int .i64 id, .int .i64 (1 + x2), .int .i64 (1 + x3)] 35) := by
        show Blk _ _ _ _
        rw [hw6.out]
        have := X5.out.set_ 3 (.int .i64 (1 + x3))
        simpa using this
      go_wp2_with fail
      rw [← hw6.out]
      clear cf3
      clear c0 c1 c2 c3
      refine (pick_any b _ 10 _ C6.out.rd (by omega) (by omega) (by omega)).mono ?_
      rintro e w7 ⟨y, rfl, ly, uy, rr, mm⟩
      have C7 := hide_it (C6.out.step mm rr)
      have P7 := hide_it (P6.out.mid mm (Or.inl (by have := ZB.out; omega)))
      have Q7 := hide_it (Q6.out.mid mm (Or.inl (by have := ZB.out; omega)))
      have H7 := hide_it (H6.out.mid mm (Or.inr (by have := ZB.out; have := ZS.out; omega)))
      have X7 := hide_it (X6.out.mid mm (Or.inr (by have := ZB.out; omega)))
      clear rr mm
      by_cases hy : y = 0
      · subst hy
        go_wp2_with fail
        refine (word_draw b _ _ C7.out.rd (by omega)).mono ?_
        rintro e w8 ⟨k9, h9, t9, m9, rfl, -, q9, -, rr, mm⟩
        have C8 := hide_it (C7.out.step mm rr)
        have P8 := hide_it (P7.out.mid mm (Or.inl (by have := ZB.out; omega)))
        have Q8 := hide_it (Q7.out.mid mm (Or.inl (by have := ZB.out; omega)))
        have H8 := hide_it (H7.out.mid mm (Or.inr (by have := ZB.out; have := ZS.out; omega)))
        have X8 := hide_it (X7.out.mid mm (Or.inr (by have := ZB.out; omega)))
        clear rr mm
        obtain ⟨c0, c1, c2, c3⟩ := X8.out.cells4'
        have cf0 := X8.out.free 0
        have cf1 := X8.out.free 1
        have cf2 := X8.out.free 2
        have cf3 := X8.out.free 3
        obtain ⟨w9, hw9⟩ : ∃ W, Hid (W = (((w8.setCell ⟨X, 0, none⟩ (.int .i64 k9)).setCell ⟨X, 1, none⟩ (.int .i64 h9)).setCell ⟨X, 2, none⟩ (.int .i64 t9)).setCell ⟨X, 3, none⟩ (.int .i64 m9)) := ⟨_, rfl⟩
        have T9 := hide_it (hw_state C8.out P8.out Q8.out H8.out X8.out hX k9 h9 t9 m9 (by have := ZB.out; omega) (by have := ZB.out; omega) hw9.out)
        have hsx : S ≠ X := H8.out.ne X8.out (by decide)
        have C9 := hide_it T9.out.1
        have P9 := hide_it T9.out.2.1
        have Q9 := hide_it T9.out.2.2.1
        have H9 := hide_it T9.out.2.2.2.1
        have X9 := hide_it T9.out.2.2.2.2
        go_wp2_with fail
        rw [← hw9.out]
        clear c0 c1 c2 c3 cf0 cf1 cf2 cf3
        obtain ⟨wf, hwf⟩ : ∃ W, Hid (W = w9.drew) := ⟨_, rfl⟩
        have Pf : Hid (Blk wf w.heap.size #[.int .i64 0, .bool false, .int .i64 0, .slice none 0 0, .int .i64 0] 34) := by show Blk _ _ _ _; rw [hwf.out]; exact P9.out.drew
        have Qf : Hid (Blk wf (w.heap.size + 1) #[.int .i64 0, .int .i64 0, .int .i64 0, .int .i64 0] 35) := by show Blk _ _ _ _; rw [hwf.out]; exact Q9.out.drew
        have Hf : Hid (Blk wf S #[.int .i64 id, .bool up, .int .i64 room, .slice au ps.length cu, .int .i64 f] 34) := by show Blk _ _ _ _; rw [hwf.out]; exact H9.out.drew
        have Xf : Hid (Blk wf X #[.int .i64 k9, .int .i64 h9, .int .i64 t9, .int .i64 m9] 35) := by show Blk _ _ _ _; rw [hwf.out]; exact X9.out.drew
        obtain ⟨qf, Cf⟩ : ∃ qf, Hid (RcS w1 wf b qf (.slice au ps.length cu) ps) := ⟨_, by show RcS _ _ _ _ _ _; rw [hwf.out]; exact C9.out.later (Below.refl _ _).drew⟩
        have Lf : Hid (RL2 wf w1.heap.size w.heap.size (.slice au ps.length cu) ps) := ⟨Cf.out.row, Cf.out.all, ⟨_, Pf.out⟩, ⟨_, Qf.out⟩, by have := ZB.out; omega⟩
        have Bf : Hid (Below w.heap.size w wf) := B1.out.trans (Cf.out.mid.below (B := w.heap.size) (by have := ZB.out; omega) B1.out.size)
        refine wp_region_held_drew (S := fun w' => (w'.cell? ⟨S, 0, none⟩ = some (.int .i64 id) ∧ w'.cell? ⟨S, 1, none⟩ = some (.bool up) ∧ w'.cell? ⟨S, 2, none⟩ = some (.int .i64 room) ∧ w'.cell? ⟨S, 3, none⟩ = some (.slice au ps.length cu) ∧ w'.cell? ⟨S, 4, none⟩ = some (.int .i64 f)) ∧ (w'.cell? ⟨X, 0, none⟩ = some (.int .i64 k9) ∧ w'.cell? ⟨X, 1, none⟩ = some (.int .i64 h9) ∧ w'.cell? ⟨X, 2, none⟩ = some (.int .i64 t9) ∧ w'.cell? ⟨X, 3, none⟩ = some (.int .i64 m9))) (by kernel_rfl) ⟨H9.out.drew.cells5, X9.out.drew.cells4'⟩ (fun hHeld => ?_)
        rw [← hwf.out] at hHeld ⊢
        refine takeD (i := 0) (v := ?_) (some 32) rfl rfl (by kernel_rfl) (by kernel_rfl) (by kernel_rfl) (fun _ _ _ h => h) (by rfl) hHeld ?_ ?_
        rotate_left
        · intro W hSw
          try dsimp only at hSw
          go_simp
          try with_reducible rfl
        try simp only [Act.put]
        try simp only [List.setIfInBounds_toArray]
        try simp only [List.set_cons_succ]
        try simp only [List.set_cons_zero]
        refine takeD (i := 1) (v := ?_) (some 33) rfl rfl (by kernel_rfl) (by kernel_rfl) (by kernel_rfl) (fun _ _ _ h => h) (by rfl) hHeld ?_ ?_
        rotate_left
        · intro W hSw
          try dsimp only at hSw
          go_simp
          try with_reducible rfl
        try simp only [Act.put]
        try simp only [List.setIfInBounds_toArray]
        try simp only [List.set_cons_succ]
        try simp only [List.set_cons_zero]
        refine wpAnyH_ready (rs := [2]) (by kernel_rfl) (by simp) ?_
        refine AllReadyH.cons rfl (fun K hK => ?_) AllReadyH.nil
        go_simp
        obtain ⟨p0, p1, p2, p3, p4⟩ := Pf.out.cells5
        obtain ⟨pf0, pf1, pf2, pf3, pf4⟩ := Pf.out.free5
        go_simp
        obtain ⟨wA, hwA⟩ : ∃ W, Hid (W = ((((wf.setCell ⟨w.heap.size, 0, none⟩ (.int .i64 id)).setCell ⟨w.heap.size, 1, none⟩ (.bool up)).setCell ⟨w.heap.size, 2, none⟩ (.int .i64 room)).setCell ⟨w.heap.size, 3, none⟩ (.slice au ps.length cu)).setCell ⟨w.heap.size, 4, none⟩ (.int .i64 f)) := ⟨_, rfl⟩
        have PA : Hid (Blk wA w.heap.size #[.int .i64 id, .bool up, .int .i64 room, .slice au ps.length cu, .int .i64 f] 34) := by
          show Blk _ _ _ _
          rw [hwA.out]
          have := ((((Pf.out.set_ 0 (.int .i64 id)).set_ 1 (.bool up)).set_ 2 (.int .i64 room)).set_ 3 (.slice au ps.length cu)).set_ 4 (.int .i64 f)
          simpa using this
        have QA : Hid (Blk wA (w.heap.size + 1) #[.int .i64 0, .int .i64 0, .int .i64 0, .int .i64 0] 35) := by show Blk _ _ _ _; rw [hwA.out]; exact ((((Qf.out.other (by simp) _).other (by simp) _).other (by simp) _).other (by simp) _).other (by simp) _
        have XA : Hid (Blk wA X #[.int .i64 k9, .int .i64 h9, .int .i64 t9, .int .i64 m9] 35) := by show Blk _ _ _ _; rw [hwA.out]; exact ((((Xf.out.other (by have := ZB.out; simp; omega) _).other (by have := ZB.out; simp; omega) _).other (by have := ZB.out; simp; omega) _).other (by have := ZB.out; simp; omega) _).other (by have := ZB.out; simp; omega) _
        have HA : Hid (Blk wA S #[.int .i64 id, .bool up, .int .i64 room, .slice au ps.length cu, .int .i64 f] 34) := by show Blk _ _ _ _; rw [hwA.out]; exact ((((Hf.out.other (by have := ZB.out; have := ZS.out; simp; omega) _).other (by have := ZB.out; have := ZS.out; simp; omega) _).other (by have := ZB.out; have := ZS.out; simp; omega) _).other (by have := ZB.out; have := ZS.out; simp; omega) _).other (by have := ZB.out; have := ZS.out; simp; omega) _
        have LA : Hid (RL2 wA w1.heap.size w.heap.size (.slice au ps.length cu) ps) := by show RL2 _ _ _ _ _; rw [hwA.out]; exact ((((Lf.out.set _).set _).set _).set _).set _
        have BA : Hid (Below w.heap.size w wA) := by show Below _ _ _; rw [hwA.out]; exact ((((Bf.out.setCell (by simp) _).setCell (by simp) _).setCell (by simp) _).setCell (by simp) _).setCell (by simp) _
        rw [← hwA.out]
        clear p0 p1 p2 p3 p4 pf0 pf1 pf2 pf3 pf4
        try dsimp only
        refine hK.out _ _ ⟨HA.out.cells5, XA.out.cells4'⟩ (fun hHeld => ?_)
        clear hK K
        refine wpAnyH_ready (rs := [3]) (by kernel_rfl) (by simp) ?_
        refine AllReadyH.cons rfl (fun K hK => ?_) AllReadyH.nil
        go_simp
        obtain ⟨p0, p1, p2, p3⟩ := QA.out.cells4'
        have pf0 := QA.out.free 0
        have pf1 := QA.out.free 1
        have pf2 := QA.out.free 2
        have pf3 := QA.out.free 3
        go_simp
        obtain ⟨wB, hwB⟩ : ∃ W, Hid (W = (((wA.setCell ⟨w.heap.size + 1, 0, none⟩ (.int .i64 k9)).setCell ⟨w.heap.size + 1, 1, none⟩ (.int .i64 h9)).setCell ⟨w.heap.size + 1, 2, none⟩ (.int .i64 t9)).setCell ⟨w.heap.size + 1, 3, none⟩ (.int .i64 m9)) := ⟨_, rfl⟩
        have hxw : X ≠ w.heap.size + 1 := by have := ZB.out; omega
        have hsw : S ≠ w.heap.size + 1 := by have := ZB.out; have := ZS.out; omega
        have PB : Hid (Blk wB w.heap.size #[.int .i64 id, .bool up, .int .i64 room, .slice au ps.length cu, .int .i64 f] 34) := by show Blk _ _ _ _; rw [hwB.out]; exact (((PA.out.other (by simp) _).other (by simp) _).other (by simp) _).other (by simp) _
        have QB : Hid (Blk wB (w.heap.size + 1) #[.int .i64 k9, .int .i64 h9, .int .i64 t9, .int .i64 m9] 35) := by
          show Blk _ _ _ _
          rw [hwB.out]
          have := (((QA.out.set_ 0 (.int .i64 k9)).set_ 1 (.int .i64 h9)).set_ 2 (.int .i64 t9)).set_ 3 (.int .i64 m9)
          simpa using this
        have XB : Hid (Blk wB X #[.int .i64 k9, .int .i64 h9, .int .i64 t9, .int .i64 m9] 35) := by show Blk _ _ _ _; rw [hwB.out]; exact (((XA.out.other hxw _).other hxw _).other hxw _).other hxw _
        have HB : Hid (Blk wB S #[.int .i64 id, .bool up, .int .i64 room, .slice au ps.length cu, .int .i64 f] 34) := by show Blk _ _ _ _; rw [hwB.out]; exact (((HA.out.other hsw _).other hsw _).other hsw _).other hsw _
        have LB : Hid (RL2 wB w1.heap.size w.heap.size (.slice au ps.length cu) ps) := by show RL2 _ _ _ _ _; rw [hwB.out]; exact (((LA.out.set2 _).set2 _).set2 _).set2 _
        have BB : Hid (Below w.heap.size w wB) := by show Below _ _ _; rw [hwB.out]; exact (((BA.out.setCell (by simp) _).setCell (by simp) _).setCell (by simp) _).setCell (by simp) _
        rw [← hwB.out]
        clear p0 p1 p2 p3 pf0 pf1 pf2 pf3
        try dsimp only
        refine hK.out _ _ ⟨HB.out.cells5, XB.out.cells4'⟩ (fun hHeld => ?_)
        clear hK K
        refine wpAnyH_done (by kernel_rfl) ?_ _
        obtain ⟨p0, p1, p2, p3, p4⟩ := PB.out.cells5
        obtain ⟨q0, q1, q2, q3⟩ := QB.out.cells4'
        go_wp2
        refine bodyPost_ret (v := .tuple #[houseV id up room (.slice au ps.length cu) f, wordV k9 h9 t9 m9]) (by simp [results, Tryz.results17, go_sem, *]) rfl ?_
        have hlen : (ps.map (·.1)).length = ps.length := by simp
        refine ⟨id, up, room, _, f, ps.map (·.1), k9, h9, t9, m9, rfl, tot_small ps (by omega) (fun x hx => (LB.out.all x hx).1), recs_rows LB.out.row LB.out.all, ?_, BB.out⟩
        rw [hlen]; exact form_of_row LB.out.row
      · have ey : (y == 0) = false := by simpa using hy
        go_wp2_with fail
        obtain ⟨wf, hwf⟩ : ∃ W, Hid (W = w7.drew) := ⟨_, rfl⟩
        have Pf : Hid (Blk wf w.heap.size #[.int .i64 0, .bool false, .int .i64 0, .slice none 0 0, .int .i64 0] 34) := by show Blk _ _ _ _; rw [hwf.out]; exact P7.out.drew
        have Qf : Hid (Blk wf (w.heap.size + 1) #[.int .i64 0, .int .i64 0, .int .i64 0, .int .i64 0] 35) := by show Blk _ _ _ _; rw [hwf.out]; exact Q7.out.drew
        have Hf : Hid (Blk wf S #[.int .i64 id, .bool up, .int .i64 room, .slice au ps.length cu, .int .i64 f] 34) := by show Blk _ _ _ _; rw [hwf.out]; exact H7.out.drew
        have Xf : Hid (Blk wf X #[.int .i64 1, .int .i64 id, .int .i64 (1 + x2), .int .i64 (1 + x3)] 35) := by show Blk _ _ _ _; rw [hwf.out]; exact X7.out.drew
        obtain ⟨qf, Cf⟩ : ∃ qf, Hid (RcS w1 wf b qf (.slice au ps.length cu) ps) := ⟨_, by show RcS _ _ _ _ _ _; rw [hwf.out]; exact C7.out.later (Below.refl _ _).drew⟩
        have Lf : Hid (RL2 wf w1.heap.size w.heap.size (.slice au ps.length cu) ps) := ⟨Cf.out.row, Cf.out.all, ⟨_, Pf.out⟩, ⟨_, Qf.out⟩, by have := ZB.out; omega⟩
        have Bf : Hid (Below w.heap.size w wf) := B1.out.trans (Cf.out.mid.below (B := w.heap.size) (by have := ZB.out; omega) B1.out.size)
        refine wp_region_held_drew (S := fun w' => (w'.cell? ⟨S, 0, none⟩ = some (.int .i64 id) ∧ w'.cell? ⟨S, 1, none⟩ = some (.bool up) ∧ w'.cell? ⟨S, 2, none⟩ = some (.int .i64 room) ∧ w'.cell? ⟨S, 3, none⟩ = some (.slice au ps.length cu) ∧ w'.cell? ⟨S, 4, none⟩ = some (.int .i64 f)) ∧ (w'.cell? ⟨X, 0, none⟩ = some (.int .i64 1) ∧ w'.cell? ⟨X, 1, none⟩ = some (.int .i64 id) ∧ w'.cell? ⟨X, 2, none⟩ = some (.int .i64 (1 + x2)) ∧ w'.cell? ⟨X, 3, none⟩ = some (.int .i64 (1 + x3)))) (by kernel_rfl) ⟨H7.out.drew.cells5, X7.out.drew.cells4'⟩ (fun hHeld => ?_)
        rw [← hwf.out] at hHeld ⊢
        refine takeD (i := 0) (v := ?_) (some 32) rfl rfl (by kernel_rfl) (by kernel_rfl) (by kernel_rfl) (fun _ _ _ h => h) (by rfl) hHeld ?_ ?_
        rotate_left
        · intro W hSw
          try dsimp only at hSw
          go_simp
          try with_reducible rfl
        try simp only [Act.put]
        try simp only [List.setIfInBounds_toArray]
        try simp only [List.set_cons_succ]
        try simp only [List.set_cons_zero]
        refine takeD (i := 1) (v := ?_) (some 33) rfl rfl (by kernel_rfl) (by kernel_rfl) (by kernel_rfl) (fun _ _ _ h => h) (by rfl) hHeld ?_ ?_
        rotate_left
        · intro W hSw
          try dsimp only at hSw
          go_simp
          try with_reducible rfl
        try simp only [Act.put]
        try simp only [List.setIfInBounds_toArray]
        try simp only [List.set_cons_succ]
        try simp only [List.set_cons_zero]
        refine wpAnyH_ready (rs := [2]) (by kernel_rfl) (by simp) ?_
        refine AllReadyH.cons rfl (fun K hK => ?_) AllReadyH.nil
        go_simp
        obtain ⟨p0, p1, p2, p3, p4⟩ := Pf.out.cells5
        obtain ⟨pf0, pf1, pf2, pf3, pf4⟩ := Pf.out.free5
        go_simp
        obtain ⟨wA, hwA⟩ : ∃ W, Hid (W = ((((wf.setCell ⟨w.heap.size, 0, none⟩ (.int .i64 id)).setCell ⟨w.heap.size, 1, none⟩ (.bool up)).setCell ⟨w.heap.size, 2, none⟩ (.int .i64 room)).setCell ⟨w.heap.size, 3, none⟩ (.slice au ps.length cu)).setCell ⟨w.heap.size, 4, none⟩ (.int .i64 f)) := ⟨_, rfl⟩
        have PA : Hid (Blk wA w.heap.size #[.int .i64 id, .bool up, .int .i64 room, .slice au ps.length cu, .int .i64 f] 34) := by
          show Blk _ _ _ _
          rw [hwA.out]
          have := ((((Pf.out.set_ 0 (.int .i64 id)).set_ 1 (.bool up)).set_ 2 (.int .i64 room)).set_ 3 (.slice au ps.length cu)).set_ 4 (.int .i64 f)
          simpa using this
        have QA : Hid (Blk wA (w.heap.size + 1) #[.int .i64 0, .int .i64 0, .int .i64 0, .int .i64 0] 35) := by show Blk _ _ _ _; rw [hwA.out]; exact ((((Qf.out.other (by simp) _).other (by simp) _).other (by simp) _).other (by simp) _).other (by simp) _
        have XA : Hid (Blk wA X #[.int .i64 1, .int .i64 id, .int .i64 (1 + x2), .int .i64 (1 + x3)] 35) := by show Blk _ _ _ _; rw [hwA.out]; exact ((((Xf.out.other (by have := ZB.out; simp; omega) _).other (by have := ZB.out; simp; omega) _).other (by have := ZB.out; simp; omega) _).other (by have := ZB.out; simp; omega) _).other (by have := ZB.out; simp; omega) _
        have HA : Hid (Blk wA S #[.int .i64 id, .bool up, .int .i64 room, .slice au ps.length cu, .int .i64 f] 34) := by show Blk _ _ _ _; rw [hwA.out]; exact ((((Hf.out.other (by have := ZB.out; have := ZS.out; simp; omega) _).other (by have := ZB.out; have := ZS.out; simp; omega) _).other (by have := ZB.out; have := ZS.out; simp; omega) _).other (by have := ZB.out; have := ZS.out; simp; omega) _).other (by have := ZB.out; have := ZS.out; simp; omega) _
        have LA : Hid (RL2 wA w1.heap.size w.heap.size (.slice au ps.length cu) ps) := by show RL2 _ _ _ _ _; rw [hwA.out]; exact ((((Lf.out.set _).set _).set _).set _).set _
        have BA : Hid (Below w.heap.size w wA) := by show Below _ _ _; rw [hwA.out]; exact ((((Bf.out.setCell (by simp) _).setCell (by simp) _).setCell (by simp) _).setCell (by simp) _).setCell (by simp) _
        rw [← hwA.out]
        clear p0 p1 p2 p3 p4 pf0 pf1 pf2 pf3 pf4
        try dsimp only
        refine hK.out _ _ ⟨HA.out.cells5, XA.out.cells4'⟩ (fun hHeld => ?_)
        clear hK K
        refine wpAnyH_ready (rs := [3]) (by kernel_rfl) (by simp) ?_
        refine AllReadyH.cons rfl (fun K hK => ?_) AllReadyH.nil
        go_simp
        obtain ⟨p0, p1, p2, p3⟩ := QA.out.cells4'
        have pf0 := QA.out.free 0
        have pf1 := QA.out.free 1
        have pf2 := QA.out.free 2
        have pf3 := QA.out.free 3
        go_simp
        obtain ⟨wB, hwB⟩ : ∃ W, Hid (W = (((wA.setCell ⟨w.heap.size + 1, 0, none⟩ (.int .i64 1)).setCell ⟨w.heap.size + 1, 1, none⟩ (.int .i64 id)).setCell ⟨w.heap.size + 1, 2, none⟩ (.int .i64 (1 + x2))).setCell ⟨w.heap.size + 1, 3, none⟩ (.int .i64 (1 + x3))) := ⟨_, rfl⟩
        have hxw : X ≠ w.heap.size + 1 := by have := ZB.out; omega
        have hsw : S ≠ w.heap.size + 1 := by have := ZB.out; have := ZS.out; omega
        have PB : Hid (Blk wB w.heap.size #[.int .i64 id, .bool up, .int .i64 room, .slice au ps.length cu, .int .i64 f] 34) := by show Blk _ _ _ _; rw [hwB.out]; exact (((PA.out.other (by simp) _).other (by simp) _).other (by simp) _).other (by simp) _
        have QB : Hid (Blk wB (w.heap.size + 1) #[.int .i64 1, .int .i64 id, .int .i64 (1 + x2), .int .i64 (1 + x3)] 35) := by
          show Blk _ _ _ _
          rw [hwB.out]
          have := (((QA.out.set_ 0 (.int .i64 1)).set_ 1 (.int .i64 id)).set_ 2 (.int .i64 (1 + x2))).set_ 3 (.int .i64 (1 + x3))
          simpa using this
        have XB : Hid (Blk wB X #[.int .i64 1, .int .i64 id, .int .i64 (1 + x2), .int .i64 (1 + x3)] 35) := by show Blk _ _ _ _; rw [hwB.out]; exact (((XA.out.other hxw _).other hxw _).other hxw _).other hxw _
        have HB : Hid (Blk wB S #[.int .i64 id, .bool up, .int .i64 room, .slice au ps.length cu, .int .i64 f] 34) := by show Blk _ _ _ _; rw [hwB.out]; exact (((HA.out.other hsw _).other hsw _).other hsw _).other hsw _
        have LB : Hid (RL2 wB w1.heap.size w.heap.size (.slice au ps.length cu) ps) := by show RL2 _ _ _ _ _; rw [hwB.out]; exact (((LA.out.set2 _).set2 _).set2 _).set2 _
        have BB : Hid (Below w.heap.size w wB) := by show Below _ _ _; rw [hwB.out]; exact (((BA.out.setCell (by simp) _).setCell (by simp) _).setCell (by simp) _).setCell (by simp) _
        rw [← hwB.out]
        clear p0 p1 p2 p3 pf0 pf1 pf2 pf3
        try dsimp only
        refine hK.out _ _ ⟨HB.out.cells5, XB.out.cells4'⟩ (fun hHeld => ?_)
        clear hK K
        refine wpAnyH_done (by kernel_rfl) ?_ _
        obtain ⟨p0, p1, p2, p3, p4⟩ := PB.out.cells5
        obtain ⟨q0, q1, q2, q3⟩ := QB.out.cells4'
        go_wp2
        refine bodyPost_ret (v := .tuple #[houseV id up room (.slice au ps.length cu) f, wordV 1 id (1 + x2) (1 + x3)]) (by simp [results, Tryz.results17, go_sem, *]) rfl ?_
        have hlen : (ps.map (·.1)).length = ps.length := by simp
        refine ⟨id, up, room, _, f, ps.map (·.1), 1, id, (1 + x2), (1 + x3), rfl, tot_small ps (by omega) (fun x hx => (LB.out.all x hx).1), recs_rows LB.out.row LB.out.all, ?_, BB.out⟩
        rw [hlen]; exact form_of_row LB.out.row
    · have e1 : (1 + x1 == 1) = false := by rw [beq_eq_false_iff_ne]; omega
      go_wp2_with fail
      clear c0 c1 c2 c3
      refine (pick_any b _ 10 _ Cc.out.rd (by omega) (by omega) (by omega)).mono ?_
      rintro e w7 ⟨y, rfl, ly, uy, rr, mm⟩
      have C7 := hide_it (Cc.out.step mm rr)
      have P7 := hide_it (Pc.out.mid mm (Or.inl (by have := ZB.out; omega)))
      have Q7 := hide_it (Qc.out.mid mm (Or.inl (by have := ZB.out; omega)))
      have H7 := hide_it (Hc.out.mid mm (Or.inr (by have := ZB.out; have := ZS.out; omega)))
      have X7 := hide_it (Xc.out.mid mm (Or.inr (by have := ZB.out; omega)))
      clear rr mm
      by_cases hy : y = 0
      · subst hy
        go_wp2_with fail
        refine (word_draw b _ _ C7.out.rd (by omega)).mono ?_
        rintro e w8 ⟨k9, h9, t9, m9, rfl, -, q9, -, rr, mm⟩
        have C8 := hide_it (C7.out.step mm rr)
        have P8 := hide_it (P7.out.mid mm (Or.inl (by have := ZB.out; omega)))
        have Q8 := hide_it (Q7.out.mid mm (Or.inl (by have := ZB.out; omega)))
        have H8 := hide_it (H7.out.mid mm (Or.inr (by have := ZB.out; have := ZS.out; omega)))
        have X8 := hide_it (X7.out.mid mm (Or.inr (by have := ZB.out; omega)))
        clear rr mm
        obtain ⟨c0, c1, c2, c3⟩ := X8.out.cells4'
        have cf0 := X8.out.free 0
        have cf1 := X8.out.free 1
        have cf2 := X8.out.free 2
        have cf3 := X8.out.free 3
        obtain ⟨w9, hw9⟩ : ∃ W, Hid (W = (((w8.setCell ⟨X, 0, none⟩ (.int .i64 k9)).setCell ⟨X, 1, none⟩ (.int .i64 h9)).setCell ⟨X, 2, none⟩ (.int .i64 t9)).setCell ⟨X, 3, none⟩ (.int .i64 m9)) := ⟨_, rfl⟩
        have T9 := hide_it (hw_state C8.out P8.out Q8.out H8.out X8.out hX k9 h9 t9 m9 (by have := ZB.out; omega) (by have := ZB.out; omega) hw9.out)
        have hsx : S ≠ X := H8.out.ne X8.out (by decide)
        have C9 := hide_it T9.out.1
        have P9 := hide_it T9.out.2.1
        have Q9 := hide_it T9.out.2.2.1
        have H9 := hide_it T9.out.2.2.2.1
        have X9 := hide_it T9.out.2.2.2.2
        go_wp2_with fail
        rw [← hw9.out]
        clear c0 c1 c2 c3 cf0 cf1 cf2 cf3
        obtain ⟨wf, hwf⟩ : ∃ W, Hid (W = w9.drew) := ⟨_, rfl⟩
        have Pf : Hid (Blk wf w.heap.size #[.int .i64 0, .bool false, .int .i64 0, .slice none 0 0, .int .i64 0] 34) := by show Blk _ _ _ _; rw [hwf.out]; exact P9.out.drew
        have Qf : Hid (Blk wf (w.heap.size + 1) #[.int .i64 0, .int .i64 0, .int .i64 0, .int .i64 0] 35) := by show Blk _ _ _ _; rw [hwf.out]; exact Q9.out.drew
        have Hf : Hid (Blk wf S #[.int .i64 id, .bool up, .int .i64 room, .slice au ps.length cu, .int .i64 f] 34) := by show Blk _ _ _ _; rw [hwf.out]; exact H9.out.drew
        have Xf : Hid (Blk wf X #[.int .i64 k9, .int .i64 h9, .int .i64 t9, .int .i64 m9] 35) := by show Blk _ _ _ _; rw [hwf.out]; exact X9.out.drew
        obtain ⟨qf, Cf⟩ : ∃ qf, Hid (RcS w1 wf b qf (.slice au ps.length cu) ps) := ⟨_, by show RcS _ _ _ _ _ _; rw [hwf.out]; exact C9.out.later (Below.refl _ _).drew⟩
        have Lf : Hid (RL2 wf w1.heap.size w.heap.size (.slice au ps.length cu) ps) := ⟨Cf.out.row, Cf.out.all, ⟨_, Pf.out⟩, ⟨_, Qf.out⟩, by have := ZB.out; omega⟩
        have Bf : Hid (Below w.heap.size w wf) := B1.out.trans (Cf.out.mid.below (B := w.heap.size) (by have := ZB.out; omega) B1.out.size)
        refine wp_region_held_drew (S := fun w' => (w'.cell? ⟨S, 0, none⟩ = some (.int .i64 id) ∧ w'.cell? ⟨S, 1, none⟩ = some (.bool up) ∧ w'.cell? ⟨S, 2, none⟩ = some (.int .i64 room) ∧ w'.cell? ⟨S, 3, none⟩ = some (.slice au ps.length cu) ∧ w'.cell? ⟨S, 4, none⟩ = some (.int .i64 f)) ∧ (w'.cell? ⟨X, 0, none⟩ = some (.int .i64 k9) ∧ w'.cell? ⟨X, 1, none⟩ = some (.int .i64 h9) ∧ w'.cell? ⟨X, 2, none⟩ = some (.int .i64 t9) ∧ w'.cell? ⟨X, 3, none⟩ = some (.int .i64 m9))) (by kernel_rfl) ⟨H9.out.drew.cells5, X9.out.drew.cells4'⟩ (fun hHeld => ?_)
        rw [← hwf.out] at hHeld ⊢
        refine takeD (i := 0) (v := ?_) (some 32) rfl rfl (by kernel_rfl) (by kernel_rfl) (by kernel_rfl) (fun _ _ _ h => h) (by rfl) hHeld ?_ ?_
        rotate_left
        · intro W hSw
          try dsimp only at hSw
          go_simp
          try with_reducible rfl
        try simp only [Act.put]
        try simp only [List.setIfInBounds_toArray]
        try simp only [List.set_cons_succ]
        try simp only [List.set_cons_zero]
        refine takeD (i := 1) (v := ?_) (some 33) rfl rfl (by kernel_rfl) (by kernel_rfl) (by kernel_rfl) (fun _ _ _ h => h) (by rfl) hHeld ?_ ?_
        rotate_left
        · intro W hSw
          try dsimp only at hSw
          go_simp
          try with_reducible rfl
        try simp only [Act.put]
        try simp only [List.setIfInBounds_toArray]
        try simp only [List.set_cons_succ]
        try simp only [List.set_cons_zero]
        refine wpAnyH_ready (rs := [2]) (by kernel_rfl) (by simp) ?_
        refine AllReadyH.cons rfl (fun K hK => ?_) AllReadyH.nil
        go_simp
        obtain ⟨p0, p1, p2, p3, p4⟩ := Pf.out.cells5
        obtain ⟨pf0, pf1, pf2, pf3, pf4⟩ := Pf.out.free5
        go_simp
        obtain ⟨wA, hwA⟩ : ∃ W, Hid (W = ((((wf.setCell ⟨w.heap.size, 0, none⟩ (.int .i64 id)).setCell ⟨w.heap.size, 1, none⟩ (.bool up)).setCell ⟨w.heap.size, 2, none⟩ (.int .i64 room)).setCell ⟨w.heap.size, 3, none⟩ (.slice au ps.length cu)).setCell ⟨w.heap.size, 4, none⟩ (.int .i64 f)) := ⟨_, rfl⟩
        have PA : Hid (Blk wA w.heap.size #[.int .i64 id, .bool up, .int .i64 room, .slice au ps.length cu, .int .i64 f] 34) := by
          show Blk _ _ _ _
          rw [hwA.out]
          have := ((((Pf.out.set_ 0 (.int .i64 id)).set_ 1 (.bool up)).set_ 2 (.int .i64 room)).set_ 3 (.slice au ps.length cu)).set_ 4 (.int .i64 f)
          simpa using this
        have QA : Hid (Blk wA (w.heap.size + 1) #[.int .i64 0, .int .i64 0, .int .i64 0, .int .i64 0] 35) := by show Blk _ _ _ _; rw [hwA.out]; exact ((((Qf.out.other (by simp) _).other (by simp) _).other (by simp) _).other (by simp) _).other (by simp) _
        have XA : Hid (Blk wA X #[.int .i64 k9, .int .i64 h9, .int .i64 t9, .int .i64 m9] 35) := by show Blk _ _ _ _; rw [hwA.out]; exact ((((Xf.out.other (by have := ZB.out; simp; omega) _).other (by have := ZB.out; simp; omega) _).other (by have := ZB.out; simp; omega) _).other (by have := ZB.out; simp; omega) _).other (by have := ZB.out; simp; omega) _
        have HA : Hid (Blk wA S #[.int .i64 id, .bool up, .int .i64 room, .slice au ps.length cu, .int .i64 f] 34) := by show Blk _ _ _ _; rw [hwA.out]; exact ((((Hf.out.other (by have := ZB.out; have := ZS.out; simp; omega) _).other (by have := ZB.out; have := ZS.out; simp; omega) _).other (by have := ZB.out; have := ZS.out; simp; omega) _).other (by have := ZB.out; have := ZS.out; simp; omega) _).other (by have := ZB.out; have := ZS.out; simp; omega) _
        have LA : Hid (RL2 wA w1.heap.size w.heap.size (.slice au ps.length cu) ps) := by show RL2 _ _ _ _ _; rw [hwA.out]; exact ((((Lf.out.set _).set _).set _).set _).set _
        have BA : Hid (Below w.heap.size w wA) := by show Below _ _ _; rw [hwA.out]; exact ((((Bf.out.setCell (by simp) _).setCell (by simp) _).setCell (by simp) _).setCell (by simp) _).setCell (by simp) _
        rw [← hwA.out]
        clear p0 p1 p2 p3 p4 pf0 pf1 pf2 pf3 pf4
        try dsimp only
        refine hK.out _ _ ⟨HA.out.cells5, XA.out.cells4'⟩ (fun hHeld => ?_)
        clear hK K
        refine wpAnyH_ready (rs := [3]) (by kernel_rfl) (by simp) ?_
        refine AllReadyH.cons rfl (fun K hK => ?_) AllReadyH.nil
        go_simp
        obtain ⟨p0, p1, p2, p3⟩ := QA.out.cells4'
        have pf0 := QA.out.free 0
        have pf1 := QA.out.free 1
        have pf2 := QA.out.free 2
        have pf3 := QA.out.free 3
        go_simp
        obtain ⟨wB, hwB⟩ : ∃ W, Hid (W = (((wA.setCell ⟨w.heap.size + 1, 0, none⟩ (.int .i64 k9)).setCell ⟨w.heap.size + 1, 1, none⟩ (.int .i64 h9)).setCell ⟨w.heap.size + 1, 2, none⟩ (.int .i64 t9)).setCell ⟨w.heap.size + 1, 3, none⟩ (.int .i64 m9)) := ⟨_, rfl⟩
        have hxw : X ≠ w.heap.size + 1 := by have := ZB.out; omega
        have hsw : S ≠ w.heap.size + 1 := by have := ZB.out; have := ZS.out; omega
        have PB : Hid (Blk wB w.heap.size #[.int .i64 id, .bool up, .int .i64 room, .slice au ps.length cu, .int .i64 f] 34) := by show Blk _ _ _ _; rw [hwB.out]; exact (((PA.out.other (by simp) _).other (by simp) _).other (by simp) _).other (by simp) _
        have QB : Hid (Blk wB (w.heap.size + 1) #[.int .i64 k9, .int .i64 h9, .int .i64 t9, .int .i64 m9] 35) := by
          show Blk _ _ _ _
          rw [hwB.out]
          have := (((QA.out.set_ 0 (.int .i64 k9)).set_ 1 (.int .i64 h9)).set_ 2 (.int .i64 t9)).set_ 3 (.int .i64 m9)
          simpa using this
        have XB : Hid (Blk wB X #[.int .i64 k9, .int .i64 h9, .int .i64 t9, .int .i64 m9] 35) := by show Blk _ _ _ _; rw [hwB.out]; exact (((XA.out.other hxw _).other hxw _).other hxw _).other hxw _
        have HB : Hid (Blk wB S #[.int .i64 id, .bool up, .int .i64 room, .slice au ps.length cu, .int .i64 f] 34) := by show Blk _ _ _ _; rw [hwB.out]; exact (((HA.out.other hsw _).other hsw _).other hsw _).other hsw _
        have LB : Hid (RL2 wB w1.heap.size w.heap.size (.slice au ps.length cu) ps) := by show RL2 _ _ _ _ _; rw [hwB.out]; exact (((LA.out.set2 _).set2 _).set2 _).set2 _
        have BB : Hid (Below w.heap.size w wB) := by show Below _ _ _; rw [hwB.out]; exact (((BA.out.setCell (by simp) _).setCell (by simp) _).setCell (by simp) _).setCell (by simp) _
        rw [← hwB.out]
        clear p0 p1 p2 p3 pf0 pf1 pf2 pf3
        try dsimp only
        refine hK.out _ _ ⟨HB.out.cells5, XB.out.cells4'⟩ (fun hHeld => ?_)
        clear hK K
        refine wpAnyH_done (by kernel_rfl) ?_ _
        obtain ⟨p0, p1, p2, p3, p4⟩ := PB.out.cells5
        obtain ⟨q0, q1, q2, q3⟩ := QB.out.cells4'
        go_wp2
        refine bodyPost_ret (v := .tuple #[houseV id up room (.slice au ps.length cu) f, wordV k9 h9 t9 m9]) (by simp [results, Tryz.results17, go_sem, *]) rfl ?_
        have hlen : (ps.map (·.1)).length = ps.length := by simp
        refine ⟨id, up, room, _, f, ps.map (·.1), k9, h9, t9, m9, rfl, tot_small ps (by omega) (fun x hx => (LB.out.all x hx).1), recs_rows LB.out.row LB.out.all, ?_, BB.out⟩
        rw [hlen]; exact form_of_row LB.out.row
      · have ey : (y == 0) = false := by simpa using hy
        go_wp2_with fail
        obtain ⟨wf, hwf⟩ : ∃ W, Hid (W = w7.drew) := ⟨_, rfl⟩
        have Pf : Hid (Blk wf w.heap.size #[.int .i64 0, .bool false, .int .i64 0, .slice none 0 0, .int .i64 0] 34) := by show Blk _ _ _ _; rw [hwf.out]; exact P7.out.drew
        have Qf : Hid (Blk wf (w.heap.size + 1) #[.int .i64 0, .int .i64 0, .int .i64 0, .int .i64 0] 35) := by show Blk _ _ _ _; rw [hwf.out]; exact Q7.out.drew
        have Hf : Hid (Blk wf S #[.int .i64 id, .bool up, .int .i64 room, .slice au ps.length cu, .int .i64 f] 34) := by show Blk _ _ _ _; rw [hwf.out]; exact H7.out.drew
        have Xf : Hid (Blk wf X #[.int .i64 (1 + x1), .int .i64 id, .int .i64 (1 + x2), .int .i64 0] 35) := by show Blk _ _ _ _; rw [hwf.out]; exact X7.out.drew
        obtain ⟨qf, Cf⟩ : ∃ qf, Hid (RcS w1 wf b qf (.slice au ps.length cu) ps) := ⟨_, by show RcS _ _ _ _ _ _; rw [hwf.out]; exact C7.out.later (Below.refl _ _).drew⟩
        have Lf : Hid (RL2 wf w1.heap.size w.heap.size (.slice au ps.length cu) ps) := ⟨Cf.out.row, Cf.out.all, ⟨_, Pf.out⟩, ⟨_, Qf.out⟩, by have := ZB.out; omega⟩
        have Bf : Hid (Below w.heap.size w wf) := B1.out.trans (Cf.out.mid.below (B := w.heap.size) (by have := ZB.out; omega) B1.out.size)
        refine wp_region_held_drew (S := fun w' => (w'.cell? ⟨S, 0, none⟩ = some (.int .i64 id) ∧ w'.cell? ⟨S, 1, none⟩ = some (.bool up) ∧ w'.cell? ⟨S, 2, none⟩ = some (.int .i64 room) ∧ w'.cell? ⟨S, 3, none⟩ = some (.slice au ps.length cu) ∧ w'.cell? ⟨S, 4, none⟩ = some (.int .i64 f)) ∧ (w'.cell? ⟨X, 0, none⟩ = some (.int .i64 (1 + x1)) ∧ w'.cell? ⟨X, 1, none⟩ = some (.int .i64 id) ∧ w'.cell? ⟨X, 2, none⟩ = some (.int .i64 (1 + x2)) ∧ w'.cell? ⟨X, 3, none⟩ = some (.int .i64 0))) (by kernel_rfl) ⟨H7.out.drew.cells5, X7.out.drew.cells4'⟩ (fun hHeld => ?_)
        rw [← hwf.out] at hHeld ⊢
        refine takeD (i := 0) (v := ?_) (some 32) rfl rfl (by kernel_rfl) (by kernel_rfl) (by kernel_rfl) (fun _ _ _ h => h) (by rfl) hHeld ?_ ?_
        rotate_left
        · intro W hSw
          try dsimp only at hSw
          go_simp
          try with_reducible rfl
        try simp only [Act.put]
        try simp only [List.setIfInBounds_toArray]
        try simp only [List.set_cons_succ]
        try simp only [List.set_cons_zero]
        refine takeD (i := 1) (v := ?_) (some 33) rfl rfl (by kernel_rfl) (by kernel_rfl) (by kernel_rfl) (fun _ _ _ h => h) (by rfl) hHeld ?_ ?_
        rotate_left
        · intro W hSw
          try dsimp only at hSw
          go_simp
          try with_reducible rfl
        try simp only [Act.put]
        try simp only [List.setIfInBounds_toArray]
        try simp only [List.set_cons_succ]
        try simp only [List.set_cons_zero]
        refine wpAnyH_ready (rs := [2]) (by kernel_rfl) (by simp) ?_
        refine AllReadyH.cons rfl (fun K hK => ?_) AllReadyH.nil
        go_simp
        obtain ⟨p0, p1, p2, p3, p4⟩ := Pf.out.cells5
        obtain ⟨pf0, pf1, pf2, pf3, pf4⟩ := Pf.out.free5
        go_simp
        obtain ⟨wA, hwA⟩ : ∃ W, Hid (W = ((((wf.setCell ⟨w.heap.size, 0, none⟩ (.int .i64 id)).setCell ⟨w.heap.size, 1, none⟩ (.bool up)).setCell ⟨w.heap.size, 2, none⟩ (.int .i64 room)).setCell ⟨w.heap.size, 3, none⟩ (.slice au ps.length cu)).setCell ⟨w.heap.size, 4, none⟩ (.int .i64 f)) := ⟨_, rfl⟩
        have PA : Hid (Blk wA w.heap.size #[.int .i64 id, .bool up, .int .i64 room, .slice au ps.length cu, .int .i64 f] 34) := by
          show Blk _ _ _ _
          rw [hwA.out]
          have := ((((Pf.out.set_ 0 (.int .i64 id)).set_ 1 (.bool up)).set_ 2 (.int .i64 room)).set_ 3 (.slice au ps.length cu)).set_ 4 (.int .i64 f)
          simpa using this
        have QA : Hid (Blk wA (w.heap.size + 1) #[.int .i64 0, .int .i64 0, .int .i64 0, .int .i64 0] 35) := by show Blk _ _ _ _; rw [hwA.out]; exact ((((Qf.out.other (by simp) _).other (by simp) _).other (by simp) _).other (by simp) _).other (by simp) _
        have XA : Hid (Blk wA X #[.int .i64 (1 + x1), .int .i64 id, .int .i64 (1 + x2), .int .i64 0] 35) := by show Blk _ _ _ _; rw [hwA.out]; exact ((((Xf.out.other (by have := ZB.out; simp; omega) _).other (by have := ZB.out; simp; omega) _).other (by have := ZB.out; simp; omega) _).other (by have := ZB.out; simp; omega) _).other (by have := ZB.out; simp; omega) _
        have HA : Hid (Blk wA S #[.int .i64 id, .bool up, .int .i64 room, .slice au ps.length cu, .int .i64 f] 34) := by show Blk _ _ _ _; rw [hwA.out]; exact ((((Hf.out.other (by have := ZB.out; have := ZS.out; simp; omega) _).other (by have := ZB.out; have := ZS.out; simp; omega) _).other (by have := ZB.out; have := ZS.out; simp; omega) _).other (by have := ZB.out; have := ZS.out; simp; omega) _).other (by have := ZB.out; have := ZS.out; simp; omega) _
        have LA : Hid (RL2 wA w1.heap.size w.heap.size (.slice au ps.length cu) ps) := by show RL2 _ _ _ _ _; rw [hwA.out]; exact ((((Lf.out.set _).set _).set _).set _).set _
        have BA : Hid (Below w.heap.size w wA) := by show Below _ _ _; rw [hwA.out]; exact ((((Bf.out.setCell (by simp) _).setCell (by simp) _).setCell (by simp) _).setCell (by simp) _).setCell (by simp) _
        rw [← hwA.out]
        clear p0 p1 p2 p3 p4 pf0 pf1 pf2 pf3 pf4
        try dsimp only
        refine hK.out _ _ ⟨HA.out.cells5, XA.out.cells4'⟩ (fun hHeld => ?_)
        clear hK K
        refine wpAnyH_ready (rs := [3]) (by kernel_rfl) (by simp) ?_
        refine AllReadyH.cons rfl (fun K hK => ?_) AllReadyH.nil
        go_simp
        obtain ⟨p0, p1, p2, p3⟩ := QA.out.cells4'
        have pf0 := QA.out.free 0
        have pf1 := QA.out.free 1
        have pf2 := QA.out.free 2
        have pf3 := QA.out.free 3
        go_simp
        obtain ⟨wB, hwB⟩ : ∃ W, Hid (W = (((wA.setCell ⟨w.heap.size + 1, 0, none⟩ (.int .i64 (1 + x1))).setCell ⟨w.heap.size + 1, 1, none⟩ (.int .i64 id)).setCell ⟨w.heap.size + 1, 2, none⟩ (.int .i64 (1 + x2))).setCell ⟨w.heap.size + 1, 3, none⟩ (.int .i64 0)) := ⟨_, rfl⟩
        have hxw : X ≠ w.heap.size + 1 := by have := ZB.out; omega
        have hsw : S ≠ w.heap.size + 1 := by have := ZB.out; have := ZS.out; omega
        have PB : Hid (Blk wB w.heap.size #[.int .i64 id, .bool up, .int .i64 room, .slice au ps.length cu, .int .i64 f] 34) := by show Blk _ _ _ _; rw [hwB.out]; exact (((PA.out.other (by simp) _).other (by simp) _).other (by simp) _).other (by simp) _
        have QB : Hid (Blk wB (w.heap.size + 1) #[.int .i64 (1 + x1), .int .i64 id, .int .i64 (1 + x2), .int .i64 0] 35) := by
          show Blk _ _ _ _
          rw [hwB.out]
          have := (((QA.out.set_ 0 (.int .i64 (1 + x1))).set_ 1 (.int .i64 id)).set_ 2 (.int .i64 (1 + x2))).set_ 3 (.int .i64 0)
          simpa using this
        have XB : Hid (Blk wB X #[.int .i64 (1 + x1), .int .i64 id, .int .i64 (1 + x2), .int .i64 0] 35) := by show Blk _ _ _ _; rw [hwB.out]; exact (((XA.out.other hxw _).other hxw _).other hxw _).other hxw _
        have HB : Hid (Blk wB S #[.int .i64 id, .bool up, .int .i64 room, .slice au ps.length cu, .int .i64 f] 34) := by show Blk _ _ _ _; rw [hwB.out]; exact (((HA.out.other hsw _).other hsw _).other hsw _).other hsw _
        have LB : Hid (RL2 wB w1.heap.size w.heap.size (.slice au ps.length cu) ps) := by show RL2 _ _ _ _ _; rw [hwB.out]; exact (((LA.out.set2 _).set2 _).set2 _).set2 _
        have BB : Hid (Below w.heap.size w wB) := by show Below _ _ _; rw [hwB.out]; exact (((BA.out.setCell (by simp) _).setCell (by simp) _).setCell (by simp) _).setCell (by simp) _
        rw [← hwB.out]
        clear p0 p1 p2 p3 pf0 pf1 pf2 pf3
        try dsimp only
        refine hK.out _ _ ⟨HB.out.cells5, XB.out.cells4'⟩ (fun hHeld => ?_)
        clear hK K
        refine wpAnyH_done (by kernel_rfl) ?_ _
        obtain ⟨p0, p1, p2, p3, p4⟩ := PB.out.cells5
        obtain ⟨q0, q1, q2, q3⟩ := QB.out.cells4'
        go_wp2
        refine bodyPost_ret (v := .tuple #[houseV id up room (.slice au ps.length cu) f, wordV (1 + x1) id (1 + x2) 0]) (by simp [results, Tryz.results17, go_sem, *]) rfl ?_
        have hlen : (ps.map (·.1)).length = ps.length := by simp
        refine ⟨id, up, room, _, f, ps.map (·.1), (1 + x1), id, (1 + x2), 0, rfl, tot_small ps (by omega) (fun x hx => (LB.out.all x hx).1), recs_rows LB.out.row LB.out.all, ?_, BB.out⟩
        rw [hlen]; exact form_of_row LB.out.row

end Go.Proofs.YthllcffmpeopcaaGreatDoor

namespace Go.Proofs.YthllcffmpeopcaaGreatDoor
namespace Pl

/-- How far a hold is. -/
def rank (h : H) : Nat := if h.2 = 0 then 0 else if h.2 = 1 then 1 else 2
def ranks (hs : List H) : Nat := (hs.map rank).sum
theorem rank_le (h : H) : rank h ≤ 2 := by unfold rank; split <;> (try split) <;> omega
theorem ranks_le (hs : List H) : ranks hs ≤ 2 * hs.length := by
  induction hs with
  | nil => simp [ranks]
  | cons x t ih =>
    have := rank_le x
    simp only [ranks, List.map_cons, List.sum_cons, List.length_cons] at ih ⊢
    omega
theorem ranks_set (hs : List H) (i : Nat) (h : H) (hi : i < hs.length) : ranks (hs.set i h) + rank (hs.getD i (0, 0)) = ranks hs + rank h := by
  induction hs generalizing i with
  | nil => simp at hi
  | cons z zs ih =>
    cases i with
    | zero => simp [ranks]; omega
    | succ i =>
      have := ih i (by simpa using hi)
      simp [ranks] at this ⊢
      omega
theorem next_rank {h h' : H} {k m F : Int} (e : next h k m F = some h') : rank h < rank h' := by
  unfold next at e
  split at e
  · split at e
    · rename_i hc; simp at e; subst e; simp [rank, hc.1]
    · cases e
  · split at e
    · split at e
      · rename_i hc; simp at e; subst e; simp [rank, hc]
      · cases e
    · split at e
      · split at e
        · rename_i hc; simp at e; subst e; rcases hc with hc | hc <;> simp [rank, hc]
        · cases e
      · cases e
theorem sDo_rank {room : Int} {hs hs' : List H} {k t : Int} {zs : List Int} (e : sDo room hs k t zs = some hs') : ranks hs < ranks hs' := by
  unfold sDo at e
  cases hb : behind room hs k t zs with
  | none => rw [hb] at e; cases e
  | some h =>
    rw [hb] at e
    simp at e
    subst e
    unfold behind at hb
    split at hb
    · rename_i hc
      have h6 := (sOk_parts hc.1).2.2.1
      have hlt := at_lt hc.2
      have h1 := next_rank hb
      have h2 := ranks_set hs (at_ t) h (by omega)
      unfold hAt at h1
      omega
    · cases hb
theorem sRun_rank {room : Int} : ∀ (rs : List (Int × Int × List Int)) {hs hs' : List H}, sRun room rs hs = some hs' → ranks hs + rs.length ≤ ranks hs'
  | [], _, _, h => by simp [sRun] at h; rw [h]; simp
  | r :: t, hs, hs', h => by
    simp only [sRun] at h
    cases e : sDo room hs r.1 r.2.1 r.2.2 with
    | none => rw [e] at h; cases h
    | some h1 =>
      rw [e] at h
      have := sRun_rank t h
      have := sDo_rank e
      simp; omega
theorem sOf_short {room : Int} {rs : List (Int × Int × List Int)} {hs : List H} (h : sOf room rs = some hs) : rs.length ≤ 12 := by
  have h6 := (sOf_ok h).2
  have := sRun_rank rs (sOf_run h).2
  have := ranks_le hs
  omega

/-- The numbers of the record that a word asks for. -/
def zsW (k m : Int) : List Int := if k = 1 then [m] else []
/-- Whether a house does anything at a word. -/
def hearB (id : Int) (up : Bool) (k h t m : Int) : Bool := up && wOk k h t m && decide (h = id) && decide (k ≤ 3)
/-- What a house answers to a word by the state of its trip; nothing, if it does not. -/
def ansK (k s : Int) : Option Int := if k = 1 then (if s = 1 ∨ s = 2 then some 4 else if s = 3 then some 5 else none) else if k = 2 then (if s = 2 then some 6 else none) else (if s = 3 then some 7 else none)
def hearA (k sAll sF : Int) : Option Int := if k = 1 ∧ sAll = 0 then some 5 else ansK k sF

theorem hearB_parts {id : Int} {up : Bool} {k h t m : Int} (e : hearB id up k h t m = true) : up = true ∧ h = id ∧ (k = 1 ∨ k = 2 ∨ k = 3) ∧ (1 ≤ t ∧ t ≤ 6) ∧ recOk k t (zsW k m) = true := by
  simp only [hearB, Bool.and_eq_true, decide_eq_true_eq] at e
  obtain ⟨⟨⟨e1, e2⟩, e3⟩, e4⟩ := e
  obtain ⟨p1, p2, p3, p4⟩ := wOk_parts e2
  have hk : k = 1 ∨ k = 2 ∨ k = 3 := by omega
  refine ⟨e1, e3, hk, p3, ?_⟩
  have ht := inB_mk p3.1 p3.2
  rcases wMany_parts p4 with ⟨rfl, m1, m2⟩ | ⟨hk1, rfl⟩
  · rw [recOk_1 t _ ht]
    simp [zsW, holdOk, inB_mk m1 m2]
  · rw [recOk_p k t _ ht hk1 (by omega)]
    simp only [zsW, hk1, if_false]
    rcases hk with rfl | rfl | rfl
    · exact absurd rfl hk1
    · decide
    · decide
end Pl

end Go.Proofs.YthllcffmpeopcaaGreatDoor

namespace Go.Proofs.YthllcffmpeopcaaGreatDoor
open Go.RowKit

/-- A stock comes back, in memory of the call's own. -/
def SkOut (W w' : World) (e : Ending) (RR : Int) (HS : List Pl.H) : Prop :=
  ∃ ao cap, e = .returned (.agg #[.int .i64 RR, .slice ao HS.length cap]) ∧ w'.ownsRow W.heap.size 54 2 (.slice ao HS.length cap) HS.length (hflat HS) ∧ Below W.heap.size W w'
theorem SkOut.none_ {W w' : World} (h : Below W.heap.size W w') : SkOut W w' (.returned (.agg #[.int .i64 0, .slice none 0 0])) 0 [] := ⟨none, 0, rfl, World.ownsRow_nil _ _ _ _, h⟩

/-- The records that count; what HouseStock answers by. -/
def cutR (rs : List R) (f : Int) (forced : Bool) : List R := if forced = true then rs.take f.toNat else rs
def hsO (id room : Int) (rs : List R) (f : Int) (forced : Bool) : Option (List Pl.H) := if hoOk id room rs f = true then Pl.sOf room (cutR rs f forced) else none
theorem cutR_tot (rs : List R) (f : Int) (forced : Bool) : tot (cutR rs f forced) ≤ tot rs := by
  unfold cutR; split
  · by_cases h : f.toNat ≤ rs.length
    · exact pre_take rs _ h
    · rw [List.take_of_length_le (by omega)]; exact Nat.le_refl _
  · exact Nat.le_refl _
theorem cutR_len {rs : List R} {f : Int} (h0 : 0 ≤ f) (h1 : f ≤ rs.length) : ((rs.take f.toNat).length : Int) = f := by simp; omega

/-- The first ones of a list that lies in memory. -/
theorem Recs.cut {w : World} {N cap : Nat} {ao : Option Addr} {rs : List R} (h : Recs w (.slice ao rs.length cap) rs) (hN : N ≤ rs.length) : Recs w (.slice ao N cap) (rs.take N) := h.take hN

theorem row_set {w : World} {base b : Nat} {v : Value} {n : Nat} {xs : List Value} {cur : Array Value} {ty : TypeId} (h : w.ownsRow base 54 2 v n xs) (hb : Blk w b cur ty) (ht : ty ≠ 54) (j : Nat) (x : Value) : (w.setCell ⟨b, j, none⟩ x).ownsRow base 54 2 v n xs := by
  refine ownsRow_setCell_ne h (fun g hg e => ?_) x
  subst e
  rcases h.2 with ⟨hv, _⟩ | ⟨g', cap, cur', hv, _, hc, _⟩
  · rw [hv] at hg; simp [Value.ownBlock] at hg
  · rw [hv] at hg
    simp [Value.ownBlock] at hg
    subst hg
    unfold Blk at hb
    rw [hb] at hc
    simp at hc
    exact ht hc.2
theorem row_low {w : World} {base lo : Nat} {v : Value} {n : Nat} {xs : List Value} (h : w.ownsRow base 54 2 v n xs) (hl : lo ≤ base) : w.ownsRow lo 54 2 v n xs := ownsRow_base h hl

set_option maxHeartbeats 2000000 in
theorem allStock_any (id : Int) (up : Bool) (room : Int) (v : Value) (rs : List R) (f : Int) (a : Addr) (w : World) (hv : Recs w v rs) (hl : tot rs ≤ 1048576) (ha : ErrAt w a) :
    Calls Tryz.prog 35 #[keeperV v f id up room] w fun e w' => SkOut w w' e (oR room (Pl.sOf room rs)) (oH (Pl.sOf room rs)) := by
  obtain ⟨RR, hRR⟩ : ∃ x, Hid (oR room (Pl.sOf room rs) = x) := ⟨_, rfl⟩
  obtain ⟨HS, hHS⟩ : ∃ x, Hid (oH (Pl.sOf room rs) = x) := ⟨_, rfl⟩
  obtain ⟨BB, hBB⟩ : ∃ x, Hid ((Pl.sOf room rs).isSome = x) := ⟨_, rfl⟩
  have HO : Hid (∀ W, Below w.heap.size w W → Calls Tryz.prog 57 #[.int .i64 room, v] W fun e w' => StOut W w' e RR HS BB) := fun W h => by
    have := implOf_any room v rs a W (hv.later h (Nat.le_refl _)) hl (ha.later h (Nat.le_refl _))
    rw [hRR.out, hHS.out, hBB.out] at this; exact this
  rw [hRR.out, hHS.out]
  obtain ⟨av, cv, rfl⟩ := hv.shape
  clear hv ha
  obtain ⟨w0, hw0⟩ : ∃ W, Hid (W = (w.alloc (.cells #[.slice av rs.length cv, .int .i64 f, .int .i64 id, .bool up, .int .i64 room] 66)).alloc (.cells #[.int .i64 0, .slice none 0 0] 50)) := ⟨_, rfl⟩
  have B0 : Hid (Below w.heap.size w w0) := by show Below _ _ _; rw [hw0.out]; exact below2 _ _ _
  have Z0 : Hid (Blk w0 (w.heap.size + 1) #[.int .i64 0, .slice none 0 0] 50) := by show Blk _ _ _ _; rw [hw0.out]; exact Blk.new2 _ _ _ _
  have hs0 : w0.heap.size = w.heap.size + 2 := by rw [hw0.out, size2]
  go_enter Tryz.func35, Tryz.ntmps35
  go_wp2_with fail
  rw [← hw0.out]
  refine (HO.out _ B0.out).mono ?_
  rintro e w1 ⟨a1, c1, rfl, ho1, hb1⟩
  have Z1 := hide_it (Z0.out.after hb1)
  have O1 := hide_it ho1
  have B1 := hide_it (B0.out.trans (hb1.mono B0.out.size))
  have hs1 : w.heap.size + 2 ≤ w1.heap.size := by have := hb1.size; omega
  obtain ⟨z0, z1⟩ := Z1.out.cells2
  obtain ⟨zf0, zf1, -, -, -⟩ := Z1.out.free5
  have k0 := fun x => cellAlloc z0 x
  have k1 := fun x => cellAlloc z1 x
  have q0 := fun x => frozenAlloc zf0 (by omega) x
  have q1 := fun x => frozenAlloc zf1 (by omega) x
  clear ho1 hb1
  go_wp2
  refine bodyPost_ret (v := .agg #[.int .i64 RR, .slice a1 HS.length c1]) (by simp [results, Tryz.results35, go_sem, *]) rfl ?_
  refine ⟨a1, c1, rfl, ?_, ?_⟩
  · refine row_low (row_set (row_set (ownsRow_below O1.out (alloc_below _ _) (fun k hk => (O1.out.lt k hk).2)) (Z1.out.alloc _) (by decide) _ _) ((Z1.out.alloc _).set_ 0 _) (by decide) _ _) (by omega)
  · exact ((B1.out.alloc (by omega) _).setCell (by simp) _).setCell (by simp) _

theorem b_drew {w0 w1 : World} (h : Below w0.drew.heap.size w0.drew w1) : Below w0.heap.size w0 w1 := (Below.refl w0.heap.size w0).drew.trans h
theorem b_alloc_drew {w0 w1 : World} {o : Obj} (h : Below (w0.alloc o).drew.heap.size (w0.alloc o).drew w1) : Below w0.heap.size w0 w1 := ((alloc_below w0 o).drew).trans (h.mono (by simp))
theorem z_alloc_drew {w0 w1 : World} {cs : Array Value} {ty : TypeId} (h : Below (w0.alloc (.cells cs ty)).drew.heap.size (w0.alloc (.cells cs ty)).drew w1) : Blk w1 w0.heap.size cs ty := by
  have h0 : Blk (w0.alloc (.cells cs ty)).drew w0.heap.size cs ty := (Blk.new w0 cs ty).after (Below.refl _ _).drew
  exact h0.after h
theorem o_alloc_drew {w0 w1 : World} {o : Obj} {e : TypeId} {sz n : Nat} {v : Value} {xs : List Value} (h : w1.ownsRow (w0.alloc o).drew.heap.size e sz v n xs) : w1.ownsRow w0.heap.size e sz v n xs := ownsRow_base h (by simp)
theorem o_drew {w0 w1 : World} {e : TypeId} {sz n : Nat} {v : Value} {xs : List Value} (h : w1.ownsRow w0.drew.heap.size e sz v n xs) : w1.ownsRow w0.heap.size e sz v n xs := ownsRow_base h (by simp)

end Go.Proofs.YthllcffmpeopcaaGreatDoor

namespace Go.Proofs.YthllcffmpeopcaaGreatDoor
open Go.RowKit

/-- What lies behind the region: the stock's block, its holds, the result's block. -/
def StkMet (w0 W : World) (B b : Nat) (RR : Int) (v : Value) (HS : List Pl.H) : Prop :=
  Below w0.heap.size w0 W ∧ Blk W b #[.int .i64 RR, v] 50 ∧ Blk W B #[.int .i64 0, .slice none 0 0] 50 ∧ W.ownsRow w0.heap.size 54 2 v HS.length (hflat HS)
theorem ks2 (w : World) (b2 : Nat) (x y : Value) {b o : Nat} (h : b ≠ b2) : ((w.setCell ⟨b2, 0, none⟩ x).setCell ⟨b2, 1, none⟩ y).cell? ⟨b, o, none⟩ = w.cell? ⟨b, o, none⟩ := by
  rw [World.cell?_of_block (w := w.setCell ⟨b2, 0, none⟩ x) (a := ⟨b, o, none⟩) (Below.heap_setCell _ _ _ _ h), World.cell?_of_block (w := w) (a := ⟨b, o, none⟩) (Below.heap_setCell _ _ _ _ h)]
theorem stkMet_new {w0 w1 : World} {B : Nat} {RR : Int} {v : Value} {HS : List Pl.H} (hb : Below w0.heap.size w0 w1) (hZ : Blk w1 B #[.int .i64 0, .slice none 0 0] 50) (ho : w1.ownsRow w0.heap.size 54 2 v HS.length (hflat HS)) :
    StkMet w0 (w1.alloc (.cells #[.int .i64 RR, v] 50)) B w1.heap.size RR v HS :=
  ⟨hb.alloc hb.size _, Blk.new _ _ _, hZ.alloc _, ownsRow_below ho (alloc_below _ _) (fun k hk => (ho.lt k hk).2)⟩
theorem stkMet_set {w0 w1 : World} {B b : Nat} {RR : Int} {v : Value} {HS : List Pl.H} (hb : Below w0.heap.size w0 w1) (hz : w0.heap.size ≤ b) (hB : B < w0.heap.size) (hY : Blk w1 b #[.int .i64 0, .slice none 0 0] 50) (hZ : Blk w1 B #[.int .i64 0, .slice none 0 0] 50) (ho : w1.ownsRow w0.heap.size 54 2 v HS.length (hflat HS)) :
    StkMet w0 ((w1.setCell ⟨b, 0, none⟩ (.int .i64 RR)).setCell ⟨b, 1, none⟩ v) B b RR v HS :=
  ⟨(hb.setCell hz _).setCell hz _, (hY.set_ 0 _).set_ 1 _, (hZ.other (by simp; omega) _).other (by simp; omega) _, row_set (row_set ho hY (by decide) _ _) (hY.set_ 0 _) (by decide) _ _⟩

set_option maxHeartbeats 4000000 in
theorem forcedStock_nil (id : Int) (up : Bool) (room : Int) (RR : Int) (HS : List Pl.H) (BB : Bool) (w : World) 
    (HO : Hid (∀ W, Below w.heap.size w W → Calls Tryz.prog 57 #[.int .i64 room, .slice none 0 0] W fun e w' => StOut W w' e RR HS BB)) :
    Calls Tryz.prog 49 #[keeperV (.slice none 0 0) 0 id up room] w fun e w' => SkOut w w' e RR HS := by
  obtain ⟨w0, hw0⟩ : ∃ W, Hid (W = (w.alloc (.cells #[.slice none 0 0, .int .i64 0, .int .i64 id, .bool up, .int .i64 room] 66)).alloc (.cells #[.int .i64 0, .slice none 0 0] 50)) := ⟨_, rfl⟩
  have B0 : Hid (Below w.heap.size w w0) := by show Below _ _ _; rw [hw0.out]; exact below2 _ _ _
  have X0 : Hid (Blk w0 w.heap.size #[.slice none 0 0, .int .i64 0, .int .i64 id, .bool up, .int .i64 room] 66) := by show Blk _ _ _ _; rw [hw0.out]; exact (Blk.new _ _ _).alloc _
  have Z0 : Hid (Blk w0 (w.heap.size + 1) #[.int .i64 0, .slice none 0 0] 50) := by show Blk _ _ _ _; rw [hw0.out]; exact Blk.new2 _ _ _ _
  have hs0 : Hid (w0.heap.size = w.heap.size + 2) := by show _ = _; rw [hw0.out, size2]
  have hs1 : w.heap.size + 1 < w0.heap.size := by have := hs0.out; omega
  obtain ⟨x0, x1, x2, x3, x4⟩ := X0.out.cells5
  go_enter Tryz.func49, Tryz.ntmps49
  go_wp2_with fail
  rw [← hw0.out]
  go_cut [3] (fun p W => ∃ b a5 cap5, p = .pointer (some ⟨b, 0, none⟩) ∧ Hid (StkMet w0 W (w.heap.size + 1) b RR (.slice a5 HS.length cap5) HS))
  case first =>
    go_region_held (fun w' => w'.cell? ⟨w.heap.size, 0, none⟩ = some (.slice none 0 0) ∧ w'.cell? ⟨w.heap.size, 1, none⟩ = some (.int .i64 0) ∧ w'.cell? ⟨w.heap.size, 4, none⟩ = some (.int .i64 room)) (first | (go_keep; done) | (refine ⟨(ks2 _ _ _ _ ?_).trans ?_, (ks2 _ _ _ _ ?_).trans ?_, (ks2 _ _ _ _ ?_).trans ?_⟩ <;> first | omega | assumption))
      ((go_at_call 57; refine (HO.out _ ?_).mono ?_; (first | (with_reducible exact B0.out.drew) | exact (B0.out.alloc B0.out.size _).drew); rintro e w1 ⟨a5, cap5, rfl, ho5, hb5⟩; have N5 : Hid (Below w0.heap.size w0 w1) := (by first | (with_reducible exact hide_it (b_drew hb5)) | (with_reducible exact hide_it (b_alloc_drew hb5))); (try (with_reducible have Y5 := hide_it (z_alloc_drew hb5))); have O5 : Hid (w1.ownsRow w0.heap.size 54 2 (.slice a5 HS.length cap5) HS.length (hflat HS)) := (by first | (with_reducible exact hide_it (o_drew ho5)) | (with_reducible exact hide_it (o_alloc_drew ho5))); have Z5 := hide_it (Z0.out.after N5.out); have hs5 := N5.out.size; obtain ⟨y0, y1, y2, y3, y4⟩ := (X0.out.after N5.out).cells5; (try obtain ⟨u0, u1⟩ := Y5.out.cells2); (try obtain ⟨uf0, uf1, -, -, -⟩ := Y5.out.free5); clear ho5 hb5))
    all_goals
      go_wp2_with fail
      go_meet
      case rel => first | exact ⟨_, a5, cap5, rfl, hide_it (stkMet_new N5.out Z5.out O5.out)⟩ | exact ⟨_, a5, cap5, rfl, hide_it (stkMet_set N5.out (by omega) (by omega) Y5.out Z5.out O5.out)⟩
  case rest =>
    obtain ⟨b, a5, cap5, rfl, HMET⟩ := hcut
    have EW := hide_it HMET.out.1
    have YW := hide_it HMET.out.2.1
    have ZW := hide_it HMET.out.2.2.1
    have OW := hide_it HMET.out.2.2.2
    clear HMET x0 x1 x2 x3 x4
    obtain ⟨u0, u1⟩ := YW.out.cells2
    obtain ⟨z0, z1⟩ := ZW.out.cells2
    obtain ⟨zf0, zf1, -, -, -⟩ := ZW.out.free5
    go_wp2
    refine bodyPost_ret (v := .agg #[.int .i64 RR, .slice a5 HS.length cap5]) (by simp [results, Tryz.results49, go_sem, *]) rfl ?_
    refine ⟨a5, cap5, rfl, ?_, ?_⟩
    · exact row_low (row_set (row_set OW.out ZW.out (by decide) _ _) (ZW.out.set_ 0 _) (by decide) _ _) (by omega)
    · exact ((B0.out.trans (EW.out.mono B0.out.size)).setCell (by simp) _).setCell (by simp) _

set_option maxHeartbeats 4000000 in
theorem forcedStock_some (id : Int) (up : Bool) (room : Int) (g n cap N : Nat) (RR : Int) (HS : List Pl.H) (BB : Bool) (w : World) (hN : N ≤ n) (hc : n ≤ cap)
    (HO : Hid (∀ W, Below w.heap.size w W → Calls Tryz.prog 57 #[.int .i64 room, .slice (some ⟨g, 0, none⟩) N cap] W fun e w' => StOut W w' e RR HS BB)) :
    Calls Tryz.prog 49 #[keeperV (.slice (some ⟨g, 0, none⟩) n cap) N id up room] w fun e w' => SkOut w w' e RR HS := by
  obtain ⟨w0, hw0⟩ : ∃ W, Hid (W = (w.alloc (.cells #[.slice (some ⟨g, 0, none⟩) n cap, .int .i64 N, .int .i64 id, .bool up, .int .i64 room] 66)).alloc (.cells #[.int .i64 0, .slice none 0 0] 50)) := ⟨_, rfl⟩
  have B0 : Hid (Below w.heap.size w w0) := by show Below _ _ _; rw [hw0.out]; exact below2 _ _ _
  have X0 : Hid (Blk w0 w.heap.size #[.slice (some ⟨g, 0, none⟩) n cap, .int .i64 N, .int .i64 id, .bool up, .int .i64 room] 66) := by show Blk _ _ _ _; rw [hw0.out]; exact (Blk.new _ _ _).alloc _
  have Z0 : Hid (Blk w0 (w.heap.size + 1) #[.int .i64 0, .slice none 0 0] 50) := by show Blk _ _ _ _; rw [hw0.out]; exact Blk.new2 _ _ _ _
  have hs0 : Hid (w0.heap.size = w.heap.size + 2) := by show _ = _; rw [hw0.out, size2]
  have hs1 : w.heap.size + 1 < w0.heap.size := by have := hs0.out; omega
  obtain ⟨x0, x1, x2, x3, x4⟩ := X0.out.cells5
  go_enter Tryz.func49, Tryz.ntmps49
  go_wp2_with fail
  rw [← hw0.out]
  go_cut [3] (fun p W => ∃ b a5 cap5, p = .pointer (some ⟨b, 0, none⟩) ∧ Hid (StkMet w0 W (w.heap.size + 1) b RR (.slice a5 HS.length cap5) HS))
  case first =>
    go_region_held (fun w' => w'.cell? ⟨w.heap.size, 0, none⟩ = some (.slice (some ⟨g, 0, none⟩) n cap) ∧ w'.cell? ⟨w.heap.size, 1, none⟩ = some (.int .i64 N) ∧ w'.cell? ⟨w.heap.size, 4, none⟩ = some (.int .i64 room)) (first | (go_keep; done) | (refine ⟨(ks2 _ _ _ _ ?_).trans ?_, (ks2 _ _ _ _ ?_).trans ?_, (ks2 _ _ _ _ ?_).trans ?_⟩ <;> first | omega | assumption))
      ((go_at_call 57; refine (HO.out _ ?_).mono ?_; (first | (with_reducible exact B0.out.drew) | exact (B0.out.alloc B0.out.size _).drew); rintro e w1 ⟨a5, cap5, rfl, ho5, hb5⟩; have N5 : Hid (Below w0.heap.size w0 w1) := (by first | (with_reducible exact hide_it (b_drew hb5)) | (with_reducible exact hide_it (b_alloc_drew hb5))); (try (with_reducible have Y5 := hide_it (z_alloc_drew hb5))); have O5 : Hid (w1.ownsRow w0.heap.size 54 2 (.slice a5 HS.length cap5) HS.length (hflat HS)) := (by first | (with_reducible exact hide_it (o_drew ho5)) | (with_reducible exact hide_it (o_alloc_drew ho5))); have Z5 := hide_it (Z0.out.after N5.out); have hs5 := N5.out.size; obtain ⟨y0, y1, y2, y3, y4⟩ := (X0.out.after N5.out).cells5; (try obtain ⟨u0, u1⟩ := Y5.out.cells2); (try obtain ⟨uf0, uf1, -, -, -⟩ := Y5.out.free5); clear ho5 hb5))
    all_goals
      go_wp2_with fail
      go_meet
      case rel => first | exact ⟨_, a5, cap5, rfl, hide_it (stkMet_new N5.out Z5.out O5.out)⟩ | exact ⟨_, a5, cap5, rfl, hide_it (stkMet_set N5.out (by omega) (by omega) Y5.out Z5.out O5.out)⟩
  case rest =>
    obtain ⟨b, a5, cap5, rfl, HMET⟩ := hcut
    have EW := hide_it HMET.out.1
    have YW := hide_it HMET.out.2.1
    have ZW := hide_it HMET.out.2.2.1
    have OW := hide_it HMET.out.2.2.2
    clear HMET x0 x1 x2 x3 x4
    obtain ⟨u0, u1⟩ := YW.out.cells2
    obtain ⟨z0, z1⟩ := ZW.out.cells2
    obtain ⟨zf0, zf1, -, -, -⟩ := ZW.out.free5
    go_wp2
    refine bodyPost_ret (v := .agg #[.int .i64 RR, .slice a5 HS.length cap5]) (by simp [results, Tryz.results49, go_sem, *]) rfl ?_
    refine ⟨a5, cap5, rfl, ?_, ?_⟩
    · exact row_low (row_set (row_set OW.out ZW.out (by decide) _ _) (ZW.out.set_ 0 _) (by decide) _ _) (by omega)
    · exact ((B0.out.trans (EW.out.mono B0.out.size)).setCell (by simp) _).setCell (by simp) _

theorem forcedStock_any (id : Int) (up : Bool) (room : Int) (v : Value) (rs : List R) (f : Int) (a : Addr) (w : World) (hv : Recs w v rs) (hfm : Form v rs.length) (hl : tot rs ≤ 1048576) (h0 : 0 ≤ f) (h1 : f ≤ rs.length) (ha : ErrAt w a) :
    Calls Tryz.prog 49 #[keeperV v f id up room] w fun e w' => SkOut w w' e (oR room (Pl.sOf room (rs.take f.toNat))) (oH (Pl.sOf room (rs.take f.toNat))) := by
  obtain ⟨N, rfl⟩ := Int.eq_ofNat_of_zero_le h0
  have hN : N ≤ rs.length := by omega
  rw [show ((N : Nat) : Int).toNat = N by simp]
  have hrl := tot_len rs
  obtain ⟨ao, cap, rfl⟩ := hv.shape
  have HO : ∀ W, Below w.heap.size w W → Calls Tryz.prog 57 #[.int .i64 room, .slice ao N cap] W fun e w' => StOut W w' e (oR room (Pl.sOf room (rs.take N))) (oH (Pl.sOf room (rs.take N))) (Pl.sOf room (rs.take N)).isSome := fun W h =>
    implOf_any room (.slice ao N cap) (rs.take N) a W ((hv.later h (Nat.le_refl _)).take hN) (Nat.le_trans (pre_take rs N hN) hl) (ha.later h (Nat.le_refl _))
  rcases hfm with ⟨hv0, hn0⟩ | ⟨g, cap', hv0, hc⟩
  · simp only [Value.slice.injEq] at hv0
    obtain ⟨rfl, -, rfl⟩ := hv0
    obtain rfl : N = 0 := by omega
    rw [hn0]
    exact forcedStock_nil id up room _ _ _ w HO
  · simp only [Value.slice.injEq] at hv0
    obtain ⟨rfl, -, rfl⟩ := hv0
    exact forcedStock_some id up room g rs.length cap N _ _ _ w hN hc HO

set_option maxHeartbeats 4000000 in
theorem l11Stock_forced_nil (id : Int) (up : Bool) (room : Int) (RR : Int) (HS : List Pl.H) (BB : Bool) (w : World) 
    (HO : Hid (∀ W, Below w.heap.size w W → Calls Tryz.prog 46 #[.int .i64 room, .slice none 0 0] W fun e w' => StOut W w' e RR HS BB)) :
    Calls Tryz.prog 60 #[houseV id up room (.slice none 0 0) 0, .bool true] w fun e w' => SkOut w w' e RR HS := by
  obtain ⟨w0, hw0⟩ : ∃ W, Hid (W = (w.alloc (.cells #[.int .i64 id, .bool up, .int .i64 room, .slice none 0 0, .int .i64 0] 34)).alloc (.cells #[.int .i64 0, .slice none 0 0] 50)) := ⟨_, rfl⟩
  have B0 : Hid (Below w.heap.size w w0) := by show Below _ _ _; rw [hw0.out]; exact below2 _ _ _
  have X0 : Hid (Blk w0 w.heap.size #[.int .i64 id, .bool up, .int .i64 room, .slice none 0 0, .int .i64 0] 34) := by show Blk _ _ _ _; rw [hw0.out]; exact (Blk.new _ _ _).alloc _
  have Z0 : Hid (Blk w0 (w.heap.size + 1) #[.int .i64 0, .slice none 0 0] 50) := by show Blk _ _ _ _; rw [hw0.out]; exact Blk.new2 _ _ _ _
  have hs0 : Hid (w0.heap.size = w.heap.size + 2) := by show _ = _; rw [hw0.out, size2]
  have hs1 : w.heap.size + 1 < w0.heap.size := by have := hs0.out; omega
  obtain ⟨x0, x1, x2, x3, x4⟩ := X0.out.cells5
  go_enter Tryz.func60, Tryz.ntmps60
  go_wp2_with fail
  rw [← hw0.out]
  go_cut [6] (fun p W => ∃ b a5 cap5, p = .pointer (some ⟨b, 0, none⟩) ∧ Hid (StkMet w0 W (w.heap.size + 1) b RR (.slice a5 HS.length cap5) HS))
  case first =>
    go_region_held (fun w' => w'.cell? ⟨w.heap.size, 2, none⟩ = some (.int .i64 room) ∧ w'.cell? ⟨w.heap.size, 3, none⟩ = some (.slice none 0 0) ∧ w'.cell? ⟨w.heap.size, 0, none⟩ = some (.int .i64 id)) (first | (go_keep; done) | (refine ⟨(ks2 _ _ _ _ ?_).trans ?_, (ks2 _ _ _ _ ?_).trans ?_, (ks2 _ _ _ _ ?_).trans ?_⟩ <;> first | omega | assumption))
      ((go_at_call 46; refine (HO.out _ ?_).mono ?_; (first | (with_reducible exact B0.out.drew) | exact (B0.out.alloc B0.out.size _).drew); rintro e w1 ⟨a5, cap5, rfl, ho5, hb5⟩; have N5 : Hid (Below w0.heap.size w0 w1) := (by first | (with_reducible exact hide_it (b_drew hb5)) | (with_reducible exact hide_it (b_alloc_drew hb5))); (try (with_reducible have Y5 := hide_it (z_alloc_drew hb5))); have O5 : Hid (w1.ownsRow w0.heap.size 54 2 (.slice a5 HS.length cap5) HS.length (hflat HS)) := (by first | (with_reducible exact hide_it (o_drew ho5)) | (with_reducible exact hide_it (o_alloc_drew ho5))); have Z5 := hide_it (Z0.out.after N5.out); have hs5 := N5.out.size; obtain ⟨y0, y1, y2, y3, y4⟩ := (X0.out.after N5.out).cells5; (try obtain ⟨u0, u1⟩ := Y5.out.cells2); (try obtain ⟨uf0, uf1, -, -, -⟩ := Y5.out.free5); clear ho5 hb5))
    all_goals
      go_wp2_with fail
      go_meet
      case rel => first | exact ⟨_, a5, cap5, rfl, hide_it (stkMet_new N5.out Z5.out O5.out)⟩ | exact ⟨_, a5, cap5, rfl, hide_it (stkMet_set N5.out (by omega) (by omega) Y5.out Z5.out O5.out)⟩
  case rest =>
    obtain ⟨b, a5, cap5, rfl, HMET⟩ := hcut
    have EW := hide_it HMET.out.1
    have YW := hide_it HMET.out.2.1
    have ZW := hide_it HMET.out.2.2.1
    have OW := hide_it HMET.out.2.2.2
    clear HMET x0 x1 x2 x3 x4
    obtain ⟨u0, u1⟩ := YW.out.cells2
    obtain ⟨z0, z1⟩ := ZW.out.cells2
    obtain ⟨zf0, zf1, -, -, -⟩ := ZW.out.free5
    go_wp2
    refine bodyPost_ret (v := .agg #[.int .i64 RR, .slice a5 HS.length cap5]) (by simp [results, Tryz.results60, go_sem, *]) rfl ?_
    refine ⟨a5, cap5, rfl, ?_, ?_⟩
    · exact row_low (row_set (row_set OW.out ZW.out (by decide) _ _) (ZW.out.set_ 0 _) (by decide) _ _) (by omega)
    · exact ((B0.out.trans (EW.out.mono B0.out.size)).setCell (by simp) _).setCell (by simp) _

set_option maxHeartbeats 4000000 in
theorem l11Stock_forced_some (id : Int) (up : Bool) (room : Int) (g n cap N : Nat) (RR : Int) (HS : List Pl.H) (BB : Bool) (w : World) (hN : N ≤ n) (hc : n ≤ cap)
    (HO : Hid (∀ W, Below w.heap.size w W → Calls Tryz.prog 46 #[.int .i64 room, .slice (some ⟨g, 0, none⟩) N cap] W fun e w' => StOut W w' e RR HS BB)) :
    Calls Tryz.prog 60 #[houseV id up room (.slice (some ⟨g, 0, none⟩) n cap) N, .bool true] w fun e w' => SkOut w w' e RR HS := by
  obtain ⟨w0, hw0⟩ : ∃ W, Hid (W = (w.alloc (.cells #[.int .i64 id, .bool up, .int .i64 room, .slice (some ⟨g, 0, none⟩) n cap, .int .i64 N] 34)).alloc (.cells #[.int .i64 0, .slice none 0 0] 50)) := ⟨_, rfl⟩
  have B0 : Hid (Below w.heap.size w w0) := by show Below _ _ _; rw [hw0.out]; exact below2 _ _ _
  have X0 : Hid (Blk w0 w.heap.size #[.int .i64 id, .bool up, .int .i64 room, .slice (some ⟨g, 0, none⟩) n cap, .int .i64 N] 34) := by show Blk _ _ _ _; rw [hw0.out]; exact (Blk.new _ _ _).alloc _
  have Z0 : Hid (Blk w0 (w.heap.size + 1) #[.int .i64 0, .slice none 0 0] 50) := by show Blk _ _ _ _; rw [hw0.out]; exact Blk.new2 _ _ _ _
  have hs0 : Hid (w0.heap.size = w.heap.size + 2) := by show _ = _; rw [hw0.out, size2]
  have hs1 : w.heap.size + 1 < w0.heap.size := by have := hs0.out; omega
  obtain ⟨x0, x1, x2, x3, x4⟩ := X0.out.cells5
  go_enter Tryz.func60, Tryz.ntmps60
  go_wp2_with fail
  rw [← hw0.out]
  go_cut [6] (fun p W => ∃ b a5 cap5, p = .pointer (some ⟨b, 0, none⟩) ∧ Hid (StkMet w0 W (w.heap.size + 1) b RR (.slice a5 HS.length cap5) HS))
  case first =>
    go_region_held (fun w' => w'.cell? ⟨w.heap.size, 2, none⟩ = some (.int .i64 room) ∧ w'.cell? ⟨w.heap.size, 3, none⟩ = some (.slice (some ⟨g, 0, none⟩) n cap) ∧ w'.cell? ⟨w.heap.size, 0, none⟩ = some (.int .i64 id)) (first | (go_keep; done) | (refine ⟨(ks2 _ _ _ _ ?_).trans ?_, (ks2 _ _ _ _ ?_).trans ?_, (ks2 _ _ _ _ ?_).trans ?_⟩ <;> first | omega | assumption))
      ((go_at_call 46; refine (HO.out _ ?_).mono ?_; (first | (with_reducible exact B0.out.drew) | exact (B0.out.alloc B0.out.size _).drew); rintro e w1 ⟨a5, cap5, rfl, ho5, hb5⟩; have N5 : Hid (Below w0.heap.size w0 w1) := (by first | (with_reducible exact hide_it (b_drew hb5)) | (with_reducible exact hide_it (b_alloc_drew hb5))); (try (with_reducible have Y5 := hide_it (z_alloc_drew hb5))); have O5 : Hid (w1.ownsRow w0.heap.size 54 2 (.slice a5 HS.length cap5) HS.length (hflat HS)) := (by first | (with_reducible exact hide_it (o_drew ho5)) | (with_reducible exact hide_it (o_alloc_drew ho5))); have Z5 := hide_it (Z0.out.after N5.out); have hs5 := N5.out.size; obtain ⟨y0, y1, y2, y3, y4⟩ := (X0.out.after N5.out).cells5; (try obtain ⟨u0, u1⟩ := Y5.out.cells2); (try obtain ⟨uf0, uf1, -, -, -⟩ := Y5.out.free5); clear ho5 hb5))
    all_goals
      go_wp2_with fail
      go_meet
      case rel => first | exact ⟨_, a5, cap5, rfl, hide_it (stkMet_new N5.out Z5.out O5.out)⟩ | exact ⟨_, a5, cap5, rfl, hide_it (stkMet_set N5.out (by omega) (by omega) Y5.out Z5.out O5.out)⟩
  case rest =>
    obtain ⟨b, a5, cap5, rfl, HMET⟩ := hcut
    have EW := hide_it HMET.out.1
    have YW := hide_it HMET.out.2.1
    have ZW := hide_it HMET.out.2.2.1
    have OW := hide_it HMET.out.2.2.2
    clear HMET x0 x1 x2 x3 x4
    obtain ⟨u0, u1⟩ := YW.out.cells2
    obtain ⟨z0, z1⟩ := ZW.out.cells2
    obtain ⟨zf0, zf1, -, -, -⟩ := ZW.out.free5
    go_wp2
    refine bodyPost_ret (v := .agg #[.int .i64 RR, .slice a5 HS.length cap5]) (by simp [results, Tryz.results60, go_sem, *]) rfl ?_
    refine ⟨a5, cap5, rfl, ?_, ?_⟩
    · exact row_low (row_set (row_set OW.out ZW.out (by decide) _ _) (ZW.out.set_ 0 _) (by decide) _ _) (by omega)
    · exact ((B0.out.trans (EW.out.mono B0.out.size)).setCell (by simp) _).setCell (by simp) _

set_option maxHeartbeats 4000000 in
theorem l11Stock_all_nil (id : Int) (up : Bool) (room : Int) (f : Int) (RR : Int) (HS : List Pl.H) (BB : Bool) (w : World) 
    (HO : Hid (∀ W, Below w.heap.size w W → Calls Tryz.prog 46 #[.int .i64 room, .slice none 0 0] W fun e w' => StOut W w' e RR HS BB)) :
    Calls Tryz.prog 60 #[houseV id up room (.slice none 0 0) f, .bool false] w fun e w' => SkOut w w' e RR HS := by
  obtain ⟨w0, hw0⟩ : ∃ W, Hid (W = (w.alloc (.cells #[.int .i64 id, .bool up, .int .i64 room, .slice none 0 0, .int .i64 f] 34)).alloc (.cells #[.int .i64 0, .slice none 0 0] 50)) := ⟨_, rfl⟩
  have B0 : Hid (Below w.heap.size w w0) := by show Below _ _ _; rw [hw0.out]; exact below2 _ _ _
  have X0 : Hid (Blk w0 w.heap.size #[.int .i64 id, .bool up, .int .i64 room, .slice none 0 0, .int .i64 f] 34) := by show Blk _ _ _ _; rw [hw0.out]; exact (Blk.new _ _ _).alloc _
  have Z0 : Hid (Blk w0 (w.heap.size + 1) #[.int .i64 0, .slice none 0 0] 50) := by show Blk _ _ _ _; rw [hw0.out]; exact Blk.new2 _ _ _ _
  have hs0 : Hid (w0.heap.size = w.heap.size + 2) := by show _ = _; rw [hw0.out, size2]
  have hs1 : w.heap.size + 1 < w0.heap.size := by have := hs0.out; omega
  obtain ⟨x0, x1, x2, x3, x4⟩ := X0.out.cells5
  go_enter Tryz.func60, Tryz.ntmps60
  go_wp2_with fail
  rw [← hw0.out]
  go_cut [6] (fun p W => ∃ b a5 cap5, p = .pointer (some ⟨b, 0, none⟩) ∧ Hid (StkMet w0 W (w.heap.size + 1) b RR (.slice a5 HS.length cap5) HS))
  case first =>
    go_region_held (fun w' => w'.cell? ⟨w.heap.size, 2, none⟩ = some (.int .i64 room) ∧ w'.cell? ⟨w.heap.size, 3, none⟩ = some (.slice none 0 0) ∧ w'.cell? ⟨w.heap.size, 0, none⟩ = some (.int .i64 id)) (first | (go_keep; done) | (refine ⟨(ks2 _ _ _ _ ?_).trans ?_, (ks2 _ _ _ _ ?_).trans ?_, (ks2 _ _ _ _ ?_).trans ?_⟩ <;> first | omega | assumption))
      ((go_at_call 46; refine (HO.out _ ?_).mono ?_; (first | (with_reducible exact B0.out.drew) | exact (B0.out.alloc B0.out.size _).drew); rintro e w1 ⟨a5, cap5, rfl, ho5, hb5⟩; have N5 : Hid (Below w0.heap.size w0 w1) := (by first | (with_reducible exact hide_it (b_drew hb5)) | (with_reducible exact hide_it (b_alloc_drew hb5))); (try (with_reducible have Y5 := hide_it (z_alloc_drew hb5))); have O5 : Hid (w1.ownsRow w0.heap.size 54 2 (.slice a5 HS.length cap5) HS.length (hflat HS)) := (by first | (with_reducible exact hide_it (o_drew ho5)) | (with_reducible exact hide_it (o_alloc_drew ho5))); have Z5 := hide_it (Z0.out.after N5.out); have hs5 := N5.out.size; obtain ⟨y0, y1, y2, y3, y4⟩ := (X0.out.after N5.out).cells5; (try obtain ⟨u0, u1⟩ := Y5.out.cells2); (try obtain ⟨uf0, uf1, -, -, -⟩ := Y5.out.free5); clear ho5 hb5))
    all_goals
      go_wp2_with fail
      go_meet
      case rel => first | exact ⟨_, a5, cap5, rfl, hide_it (stkMet_new N5.out Z5.out O5.out)⟩ | exact ⟨_, a5, cap5, rfl, hide_it (stkMet_set N5.out (by omega) (by omega) Y5.out Z5.out O5.out)⟩
  case rest =>
    obtain ⟨b, a5, cap5, rfl, HMET⟩ := hcut
    have EW := hide_it HMET.out.1
    have YW := hide_it HMET.out.2.1
    have ZW := hide_it HMET.out.2.2.1
    have OW := hide_it HMET.out.2.2.2
    clear HMET x0 x1 x2 x3 x4
    obtain ⟨u0, u1⟩ := YW.out.cells2
    obtain ⟨z0, z1⟩ := ZW.out.cells2
    obtain ⟨zf0, zf1, -, -, -⟩ := ZW.out.free5
    go_wp2
    refine bodyPost_ret (v := .agg #[.int .i64 RR, .slice a5 HS.length cap5]) (by simp [results, Tryz.results60, go_sem, *]) rfl ?_
    refine ⟨a5, cap5, rfl, ?_, ?_⟩
    · exact row_low (row_set (row_set OW.out ZW.out (by decide) _ _) (ZW.out.set_ 0 _) (by decide) _ _) (by omega)
    · exact ((B0.out.trans (EW.out.mono B0.out.size)).setCell (by simp) _).setCell (by simp) _

set_option maxHeartbeats 4000000 in
theorem l11Stock_all_some (id : Int) (up : Bool) (room : Int) (f : Int) (g n cap : Nat) (RR : Int) (HS : List Pl.H) (BB : Bool) (w : World) (hc : n ≤ cap)
    (HO : Hid (∀ W, Below w.heap.size w W → Calls Tryz.prog 46 #[.int .i64 room, .slice (some ⟨g, 0, none⟩) n cap] W fun e w' => StOut W w' e RR HS BB)) :
    Calls Tryz.prog 60 #[houseV id up room (.slice (some ⟨g, 0, none⟩) n cap) f, .bool false] w fun e w' => SkOut w w' e RR HS := by
  obtain ⟨w0, hw0⟩ : ∃ W, Hid (W = (w.alloc (.cells #[.int .i64 id, .bool up, .int .i64 room, .slice (some ⟨g, 0, none⟩) n cap, .int .i64 f] 34)).alloc (.cells #[.int .i64 0, .slice none 0 0] 50)) := ⟨_, rfl⟩
  have B0 : Hid (Below w.heap.size w w0) := by show Below _ _ _; rw [hw0.out]; exact below2 _ _ _
  have X0 : Hid (Blk w0 w.heap.size #[.int .i64 id, .bool up, .int .i64 room, .slice (some ⟨g, 0, none⟩) n cap, .int .i64 f] 34) := by show Blk _ _ _ _; rw [hw0.out]; exact (Blk.new _ _ _).alloc _
  have Z0 : Hid (Blk w0 (w.heap.size + 1) #[.int .i64 0, .slice none 0 0] 50) := by show Blk _ _ _ _; rw [hw0.out]; exact Blk.new2 _ _ _ _
  have hs0 : Hid (w0.heap.size = w.heap.size + 2) := by show _ = _; rw [hw0.out, size2]
  have hs1 : w.heap.size + 1 < w0.heap.size := by have := hs0.out; omega
  obtain ⟨x0, x1, x2, x3, x4⟩ := X0.out.cells5
  go_enter Tryz.func60, Tryz.ntmps60
  go_wp2_with fail
  rw [← hw0.out]
  go_cut [6] (fun p W => ∃ b a5 cap5, p = .pointer (some ⟨b, 0, none⟩) ∧ Hid (StkMet w0 W (w.heap.size + 1) b RR (.slice a5 HS.length cap5) HS))
  case first =>
    go_region_held (fun w' => w'.cell? ⟨w.heap.size, 2, none⟩ = some (.int .i64 room) ∧ w'.cell? ⟨w.heap.size, 3, none⟩ = some (.slice (some ⟨g, 0, none⟩) n cap) ∧ w'.cell? ⟨w.heap.size, 0, none⟩ = some (.int .i64 id)) (first | (go_keep; done) | (refine ⟨(ks2 _ _ _ _ ?_).trans ?_, (ks2 _ _ _ _ ?_).trans ?_, (ks2 _ _ _ _ ?_).trans ?_⟩ <;> first | omega | assumption))
      ((go_at_call 46; refine (HO.out _ ?_).mono ?_; (first | (with_reducible exact B0.out.drew) | exact (B0.out.alloc B0.out.size _).drew); rintro e w1 ⟨a5, cap5, rfl, ho5, hb5⟩; have N5 : Hid (Below w0.heap.size w0 w1) := (by first | (with_reducible exact hide_it (b_drew hb5)) | (with_reducible exact hide_it (b_alloc_drew hb5))); (try (with_reducible have Y5 := hide_it (z_alloc_drew hb5))); have O5 : Hid (w1.ownsRow w0.heap.size 54 2 (.slice a5 HS.length cap5) HS.length (hflat HS)) := (by first | (with_reducible exact hide_it (o_drew ho5)) | (with_reducible exact hide_it (o_alloc_drew ho5))); have Z5 := hide_it (Z0.out.after N5.out); have hs5 := N5.out.size; obtain ⟨y0, y1, y2, y3, y4⟩ := (X0.out.after N5.out).cells5; (try obtain ⟨u0, u1⟩ := Y5.out.cells2); (try obtain ⟨uf0, uf1, -, -, -⟩ := Y5.out.free5); clear ho5 hb5))
    all_goals
      go_wp2_with fail
      go_meet
      case rel => first | exact ⟨_, a5, cap5, rfl, hide_it (stkMet_new N5.out Z5.out O5.out)⟩ | exact ⟨_, a5, cap5, rfl, hide_it (stkMet_set N5.out (by omega) (by omega) Y5.out Z5.out O5.out)⟩
  case rest =>
    obtain ⟨b, a5, cap5, rfl, HMET⟩ := hcut
    have EW := hide_it HMET.out.1
    have YW := hide_it HMET.out.2.1
    have ZW := hide_it HMET.out.2.2.1
    have OW := hide_it HMET.out.2.2.2
    clear HMET x0 x1 x2 x3 x4
    obtain ⟨u0, u1⟩ := YW.out.cells2
    obtain ⟨z0, z1⟩ := ZW.out.cells2
    obtain ⟨zf0, zf1, -, -, -⟩ := ZW.out.free5
    go_wp2
    refine bodyPost_ret (v := .agg #[.int .i64 RR, .slice a5 HS.length cap5]) (by simp [results, Tryz.results60, go_sem, *]) rfl ?_
    refine ⟨a5, cap5, rfl, ?_, ?_⟩
    · exact row_low (row_set (row_set OW.out ZW.out (by decide) _ _) (ZW.out.set_ 0 _) (by decide) _ _) (by omega)
    · exact ((B0.out.trans (EW.out.mono B0.out.size)).setCell (by simp) _).setCell (by simp) _

theorem l11Stock_any (id : Int) (up : Bool) (room : Int) (v : Value) (rs : List R) (f : Int) (forced : Bool) (w : World) (hv : Recs w v rs) (hfm : Form v rs.length) (hl : tot rs ≤ 1048576) (h0 : 0 ≤ f) (h1 : f ≤ rs.length) :
    Calls Tryz.prog 60 #[houseV id up room v f, .bool forced] w fun e w' => SkOut w w' e (oR room (Pl.sOf room (cutR rs f forced))) (oH (Pl.sOf room (cutR rs f forced))) := by
  obtain ⟨N, rfl⟩ := Int.eq_ofNat_of_zero_le h0
  have hN : N ≤ rs.length := by omega
  obtain ⟨ao, cap, rfl⟩ := hv.shape
  cases forced
  · have hcut : cutR rs (N : Int) false = rs := by simp [cutR]
    rw [hcut]
    have HO : ∀ W, Below w.heap.size w W → Calls Tryz.prog 46 #[.int .i64 room, .slice ao rs.length cap] W fun e w' => StOut W w' e (oR room (Pl.sOf room rs)) (oH (Pl.sOf room rs)) (Pl.sOf room rs).isSome := fun W h =>
      l2Of_any room (.slice ao rs.length cap) rs W (hv.later h (Nat.le_refl _)) hl
    rcases hfm with ⟨hv0, hn0⟩ | ⟨g, cap', hv0, hc⟩
    · simp only [Value.slice.injEq] at hv0
      obtain ⟨rfl, -, rfl⟩ := hv0
      rw [hn0] at HO ⊢
      exact l11Stock_all_nil id up room _ _ _ _ w HO
    · simp only [Value.slice.injEq] at hv0
      obtain ⟨rfl, -, rfl⟩ := hv0
      exact l11Stock_all_some id up room _ g rs.length cap _ _ _ w hc HO
  · have hcut : cutR rs (N : Int) true = rs.take N := by simp [cutR]
    rw [hcut]
    have HO : ∀ W, Below w.heap.size w W → Calls Tryz.prog 46 #[.int .i64 room, .slice ao N cap] W fun e w' => StOut W w' e (oR room (Pl.sOf room (rs.take N))) (oH (Pl.sOf room (rs.take N))) (Pl.sOf room (rs.take N)).isSome := fun W h =>
      l2Of_any room (.slice ao N cap) (rs.take N) W ((hv.later h (Nat.le_refl _)).take hN) (Nat.le_trans (pre_take rs N hN) hl)
    rcases hfm with ⟨hv0, hn0⟩ | ⟨g, cap', hv0, hc⟩
    · simp only [Value.slice.injEq] at hv0
      obtain ⟨rfl, -, rfl⟩ := hv0
      obtain rfl : N = 0 := by omega
      rw [hn0]
      exact l11Stock_forced_nil id up room _ _ _ w HO
    · simp only [Value.slice.injEq] at hv0
      obtain ⟨rfl, -, rfl⟩ := hv0
      exact l11Stock_forced_some id up room g rs.length cap N _ _ _ w hN hc HO

end Go.Proofs.YthllcffmpeopcaaGreatDoor
