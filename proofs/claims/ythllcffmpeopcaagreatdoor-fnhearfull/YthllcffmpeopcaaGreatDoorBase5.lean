/- What the last text of this claim stands on, part 5: plain facts and contracts; the last text says what is proved. -/
import Derived.Test.YthllcffmpeopcaaGreatDoorBase4
import Derived.Deep.RegionLaw
import Derived.Deep.AppendLies
import Derived.Deep.RegionWith
import Derived.Deep.RegionHeldLaw

namespace Go.Proofs.YthllcffmpeopcaaGreatDoor
open Go.RowKit

/-- A store into a block of a house leaves the records, and the reader. -/
theorem RcS.setH {w W : World} {b q X i : Nat} {cs : Array Value} {o : Value} {ps : List (R × Value)} (h : RcS w W b q o ps) (hX : Blk W X cs 34) (hw : w.heap.size ≤ X) (x : Value) : RcS w (W.setCell ⟨X, i, none⟩ x) b q o ps := by
  have hl := h.low
  refine ⟨?_, ?_, h.rd.setApart (by omega) _, h.mid.setNew hw _, hl⟩
  · exact ownsRow_setCell_ne h.row (fun g hg => by obtain ⟨cs', hh⟩ := (rowB_at h.row g hg).2; exact ne_of_type hh hX (by decide)) _
  · exact fun p hp => (h.all p hp).keep fun g cs' hh => Below.heap_setCell _ _ _ _ (ne_of_type hh hX (by decide))
theorem Good.lower {W : World} {lo lo' : Nat} {p : R × Value} (h : Good W lo p) (hl : lo' ≤ lo) : Good W lo' p := by
  obtain ⟨h1, h2⟩ := h
  refine ⟨h1, ?_⟩
  rcases h2 with ⟨cap, h2⟩ | h2
  · exact Or.inl ⟨cap, h2.mono hl⟩
  · exact Or.inr h2
/-- While a house is drawn: the result's block, the house's block, its records, the reader. -/
structure HsS (w W : World) (b q S : Nat) (id : Int) (up : Bool) (room : Int) (o : Value) (f : Int) (ps : List (R × Value)) : Prop where
  rc : RcS w W b q o ps
  res : Blk W w.heap.size #[.int .i64 0, .bool false, .int .i64 0, .slice none 0 0, .int .i64 0] 34
  hos : Blk W S #[.int .i64 id, .bool up, .int .i64 room, o, .int .i64 f] 34
  lt : w.heap.size < S
section
variable {w W W' : World} {b q q' S : Nat} {id : Int} {up : Bool} {room : Int} {o : Value} {f : Int} {ps : List (R × Value)}
theorem HsS.step (h : HsS w W b q S id up room o f ps) (hb : Mid b (b + 1) W W') (hr : Rd W' b q') : HsS w W' b q' S id up room o f ps :=
  ⟨h.rc.step hb hr, h.res.mid hb (Or.inr (by have := h.rc.low; omega)), h.hos.mid hb (Or.inr (by have := h.rc.low; have := h.lt; omega)), h.lt⟩
theorem HsS.later (h : HsS w W b q S id up room o f ps) (hb : Below W.heap.size W W') : HsS w W' b q S id up room o f ps :=
  h.step (Mid.of_below hb (Nat.le_refl _)) (h.rc.rd.later hb (Nat.le_refl _))
theorem HsS.setId (h : HsS w W b q S id up room o f ps) (x : Int) : HsS w (W.setCell ⟨S, 0, none⟩ (.int .i64 x)) b q S x up room o f ps :=
  ⟨h.rc.setH h.hos (Nat.le_of_lt h.lt) _, h.res.other (by have := h.lt; simp; omega) _, h.hos.set_ 0 _, h.lt⟩
theorem HsS.setRoom (h : HsS w W b q S id up room o f ps) (x : Int) : HsS w (W.setCell ⟨S, 2, none⟩ (.int .i64 x)) b q S id up x o f ps :=
  ⟨h.rc.setH h.hos (Nat.le_of_lt h.lt) _, h.res.other (by have := h.lt; simp; omega) _, h.hos.set_ 2 _, h.lt⟩
theorem HsS.setF (h : HsS w W b q S id up room o f ps) (x : Int) : HsS w (W.setCell ⟨S, 4, none⟩ (.int .i64 x)) b q S id up room o x ps :=
  ⟨h.rc.setH h.hos (Nat.le_of_lt h.lt) _, h.res.other (by have := h.lt; simp; omega) _, h.hos.set_ 4 _, h.lt⟩
theorem HsS.cells (h : HsS w W b q S id up room o f ps) :
    (W.cell? ⟨S, 0, none⟩ = some (.int .i64 id) ∧ W.cell? ⟨S, 1, none⟩ = some (.bool up) ∧ W.cell? ⟨S, 2, none⟩ = some (.int .i64 room) ∧ W.cell? ⟨S, 3, none⟩ = some o ∧ W.cell? ⟨S, 4, none⟩ = some (.int .i64 f)) ∧
    (W.frozen? ⟨S, 0, none⟩ = false ∧ W.frozen? ⟨S, 1, none⟩ = false ∧ W.frozen? ⟨S, 2, none⟩ = false ∧ W.frozen? ⟨S, 3, none⟩ = false ∧ W.frozen? ⟨S, 4, none⟩ = false) := ⟨h.hos.cells5, h.hos.free5⟩
end
/-- One more record is put behind the others, and the house has them. -/
theorem HsS.pushed {w W w4 : World} {b q S : Nat} {id : Int} {up : Bool} {room : Int} {o o' : Value} {f : Int} {ps : List (R × Value)} {r : R} {x : Value} (h : HsS w W b q S id up room o f ps) (hg : Good W w.heap.size (r, x))
    (hown : w4.ownsRow w.heap.size 62 3 o' (ps.length + 1) (flat ps ++ [.int .i64 r.1, .int .i64 r.2.1, x])) (hgr : W.grownBy w4 o.ownBlock) :
    Hid (HsS w (w4.setCell ⟨S, 3, none⟩ o') b q S id up room o' f (ps ++ [(r, x)])) ∧ (Blk w4 S #[.int .i64 id, .bool up, .int .i64 room, o, .int .i64 f] 34 ∧ Blk w4 w.heap.size #[.int .i64 0, .bool false, .int .i64 0, .slice none 0 0, .int .i64 0] 34) := by
  have hb : ∀ {k : Nat} {cs : Array Value}, Blk W k cs 34 → Blk w4 k cs 34 := fun {k cs} hk => by
    unfold Blk at hk ⊢
    rw [hgr.block k (heap_lt hk) (fun e => by
      obtain ⟨cs', hh⟩ := (rowB_at h.rc.row k e.symm).2
      rw [hk] at hh; simp at hh)]
    exact hk
  have hH := hb h.hos
  have hR := hb h.res
  exact ⟨⟨(h.rc.push hg hown hgr).setH hH (Nat.le_of_lt h.lt) _, hR.other (by have := h.lt; simp; omega) _, hH.set_ 3 _, h.lt⟩, hH, hR⟩
/-- What comes out of the draw: a house whose records lie in memory of the draw's own. -/
def HouGot (w w' : World) (e : Ending) (b p : Nat) : Prop :=
  ∃ (id : Int) (up : Bool) (room : Int) (o : Value) (f : Int) (ps : List (R × Value)) (q : Nat), e = .returned (houseV id up room o f) ∧ ps.length ≤ 14 ∧ q ≤ p + 90 ∧ RcS w w' b q o ps
theorem HsS.done {w W : World} {b q S p : Nat} {id : Int} {up : Bool} {room : Int} {o : Value} {f : Int} {ps : List (R × Value)} (h : HsS w W b q S id up room o f ps) (hp : ps.length ≤ 14) (hq : q ≤ p + 90) (x0 x1 x2 x3 x4 : Value) :
    HouGot w (((((W.setCell ⟨w.heap.size, 0, none⟩ x0).setCell ⟨w.heap.size, 1, none⟩ x1).setCell ⟨w.heap.size, 2, none⟩ x2).setCell ⟨w.heap.size, 3, none⟩ x3).setCell ⟨w.heap.size, 4, none⟩ x4) (.returned (houseV id up room o f)) b p := by
  have e0 := h.res.set_ 0 x0
  have e1 := e0.set_ 1 x1
  have e2 := e1.set_ 2 x2
  have e3 := e2.set_ 3 x3
  exact ⟨id, up, room, o, f, ps, q, rfl, hp, hq, ((((h.rc.setH h.res (Nat.le_refl _) _).setH e0 (Nat.le_refl _) _).setH e1 (Nat.le_refl _) _).setH e2 (Nat.le_refl _) _).setH e3 (Nat.le_refl _) _⟩

set_option maxRecDepth 100000 in
set_option maxHeartbeats 8000000 in
theorem house_draw (b p : Nat) (w : World) (h : Rd w b p) (hp : p ≤ 600000) :
    Calls Tryz.prog 42 #[.pointer (some ⟨b, 0, none⟩)] w fun e w' => HouGot w w' e b p := by
  obtain ⟨i0, hi, hz0, hz1, hz2⟩ := info_parts infoRec
  have hblt := h.lt
  obtain ⟨w0, hw0⟩ : ∃ W, Hid (W = w.alloc (.cells #[.int .i64 0, .bool false, .int .i64 0, .slice none 0 0, .int .i64 0] 34)) := ⟨_, rfl⟩
  have R0 : Hid (Rd w0 b p) := by show Rd _ _ _; rw [hw0.out]; exact h.alloc _
  have M0 : Hid (Mid b (b + 1) w w0) := by show Mid _ _ _ _; rw [hw0.out]; exact (Mid.refl _ _ _).alloc _
  have E0 : Hid (Blk w0 w.heap.size #[.int .i64 0, .bool false, .int .i64 0, .slice none 0 0, .int .i64 0] 34) := by show Blk _ _ _ _; rw [hw0.out]; exact Blk.new _ _ _
  clear h
  go_enter Tryz.func42, Tryz.ntmps42
  go_wp2_with fail
  rw [← hw0.out]
  refine (recs_draw b p _ R0.out (by omega)).mono ?_
  rintro e w1 ⟨room, o, ps, hs, q, rfl, lr, ur, hps, hrow, hall, hrun, hq, r1, m1⟩
  have hzz : w.heap.size < w0.heap.size := E0.out.lt
  have C1 : Hid (RcS w w1 b q o ps) := ⟨ownsRow_base hrow (by omega), fun x hx => (hall x hx).lower (by omega), r1, M0.out.trans m1, hblt⟩
  have E1 := hide_it (E0.out.mid m1 (Or.inr (by omega)))
  obtain ⟨ao, co, hos⟩ := row_shape hrow
  subst hos
  clear hrow hall hrun r1 m1 R0 M0
  go_wp2_with fail
  refine (pick_any b q 3 _ C1.out.rd (by omega) (by omega) (by omega)).mono ?_
  rintro e w2 ⟨x1, rfl, lx1, ux1, r2, m2⟩
  have C2 := hide_it (C1.out.step m2 r2)
  have E2 := hide_it (E1.out.mid m2 (Or.inr (by omega)))
  clear r2 m2 C1 E1
  go_wp2_with fail
  refine (pick_any b (q + 1) 6 _ C2.out.rd (by omega) (by omega) (by omega)).mono ?_
  rintro e w3 ⟨x2, rfl, lx2, ux2, r3, m3⟩
  have C3 := hide_it (C2.out.step m3 r3)
  have E3 := hide_it (E2.out.mid m3 (Or.inr (by omega)))
  clear r3 m3 C2 E2
  obtain ⟨S, hS⟩ : ∃ S, Hid (S = w3.heap.size) := ⟨_, rfl⟩
  obtain ⟨w4, hw4⟩ : ∃ W, Hid (W = w3.alloc (.cells #[.int .i64 (1 + x1), .bool (decide (0 < x2)), .int .i64 room, .slice ao ps.length co, .int .i64 ps.length] 34)) := ⟨_, rfl⟩
  have H4 : Hid (HsS w w4 b (q + 2) S (1 + x1) (decide (0 < x2)) room (.slice ao ps.length co) ps.length ps) := by
    show HsS _ _ _ _ _ _ _ _ _ _ _
    rw [hw4.out, hS.out]
    exact ⟨C3.out.later (alloc_below _ _), E3.out.alloc _, Blk.new _ _ _, E3.out.lt⟩
  clear C3 E3
  go_wp2_with fail
  rw [← hS.out, ← hw4.out]
  -- behind the house as it was made
  refine (pick_any b (q + 2) 2 _ H4.out.rc.rd (by omega) (by omega) (by omega)).mono ?_
  rintro e w5 ⟨y, rfl, ly, uy, r5, m5⟩
  have H5 := hide_it (H4.out.step m5 r5)
  clear r5 m5 H4
  by_cases hy : y = 0
  · subst hy
    go_wp2_with fail
    refine (pick_any b (q + 3) (ps.length + 1) _ H5.out.rc.rd (by omega) (by omega) (by omega)).mono ?_
    rintro e w6 ⟨z6, rfl, lz6, uz6, r6, m6⟩
    have H6 := hide_it (H5.out.step m6 r6)
    clear r6 m6
    obtain ⟨⟨c0, c1, c2, c3, c4⟩, ⟨f0, f1, f2, f3, f4⟩⟩ := H6.out.cells
    obtain ⟨wF, hwF⟩ : ∃ W, Hid (W = w6.setCell ⟨S, 4, none⟩ (.int .i64 z6)) := ⟨_, rfl⟩
    have HF : Hid (HsS w wF b (q + 4) S (1 + x1) (decide (0 < x2)) room (.slice ao ps.length co) z6 ps) := by
      show HsS _ _ _ _ _ _ _ _ _ _ _
      rw [hwF.out]; exact H6.out.setF z6
    go_wp2_with fail
    rw [← hwF.out]
    clear c0 c1 c2 c3 c4 f0 f1 f2 f3 f4
    refine (pick_any b (q + 4) 20 _ HF.out.rc.rd (by omega) (by omega) (by omega)).mono ?_
    rintro e w7 ⟨y2, rfl, ly2, uy2, r7, m7⟩
    have H7 := hide_it (HF.out.step m7 r7)
    clear r7 m7
    by_cases hy0 : y2 = 0
    · subst hy0
      have H8 := hide_it (H7.out.later (alloc_below _ (.cells #[.int .i64 0, .int .i64 4] 3)))
      have N8 := hide_it (Blk.new w7 #[.int .i64 0, .int .i64 4] 3)
      have hb7 : b < w7.heap.size := H7.out.rc.rd.lt
      go_wp2_with fail
      refine (pick_any b (q + 4 + 1) 2 _ H8.out.rc.rd (by omega) (by omega) (by omega)).mono ?_
      rintro e w9 ⟨z, rfl, lz, uz, r9, m9⟩
      have H9 := hide_it (H8.out.step m9 r9)
      have N9 := hide_it (N8.out.mid m9 (Or.inr (by omega)))
      clear r9 m9 H8 N8
      obtain ⟨n0, n1⟩ := N9.out.cells2
      obtain ⟨⟨c0, c1, c2, c3, c4⟩, ⟨f0, f1, f2, f3, f4⟩⟩ := H9.out.cells
      obtain ⟨d0, d1, d2, d3, d4⟩ := H9.out.res.cells5
      obtain ⟨g0, g1, g2, g3, g4⟩ := H9.out.res.free5
      have hne : w.heap.size ≠ S := by have := H9.out.lt; omega
      have hne2 : S ≠ w.heap.size := by have := H9.out.lt; omega
      have hz2 : z = 0 ∨ z = 1 := by omega
      rcases hz2 with rfl | rfl
      · go_wp2
        refine bodyPost_ret (v := houseV 0 (decide (0 < x2)) room (.slice ao ps.length co) z6) (by simp [results, Tryz.results42, go_sem, *]) rfl ?_
        exact (H9.out.setId 0).done (by omega) (by omega) _ _ _ _ _
      · go_wp2
        refine bodyPost_ret (v := houseV 4 (decide (0 < x2)) room (.slice ao ps.length co) z6) (by simp [results, Tryz.results42, go_sem, *]) rfl ?_
        exact (H9.out.setId 4).done (by omega) (by omega) _ _ _ _ _
    by_cases hy1 : y2 = 1
    · subst hy1
      have HD7 := hide_it (H7.out.later (Below.refl _ _).drew)
      obtain ⟨⟨c0, c1, c2, c3, c4⟩, ⟨f0, f1, f2, f3, f4⟩⟩ := H7.out.cells
      go_wp2_with fail
      go_region_law (first
        | (refine step_append_lies _ rfl _ _ 30 rfl w.heap.size 62 i0 (.agg #[.int .i64 0, .int .i64 0, .slice none 0 0]) 3 40 Tryz.underlying30 hi hz0 hz1 hz2 rfl (by decide) (.slice ao ps.length co) ps.length (flat ps) rfl (by exact (ROW8.out _)) ⟨w8.heap.size, 0, none⟩ 1 1 [.int .i64 k, .int .i64 t, .slice (some ⟨g, off, none⟩) zs.length cap8] rfl rfl (by exact news3 _ _ _ _ _) (by exact one3 _ _ _) (by decide) (by unfold maxLen; omega) (by omega) (by simp; omega) _ rfl ?_; intro g9 cap9 w9 hown9 hgrow9 _ _; have P9 := HsS.pushed (r := (k, t, zs)) (H8.out.later (alloc_below _ _)) (GD8.out _) hown9 hgrow9; have PS := hide_it P9.1.out; obtain ⟨j0, j1, j2, j3, j4⟩ := P9.2.1.cells5; obtain ⟨jf0, jf1, jf2, jf3, jf4⟩ := P9.2.1.free5; obtain ⟨d0, d1, d2, d3, d4⟩ := P9.2.2.cells5; obtain ⟨g0, g1, g2, g3, g4⟩ := P9.2.2.free5; have hne : w.heap.size ≠ S := (by have := H8.out.lt; omega); have hne2 : S ≠ w.heap.size := (by have := H8.out.lt; omega); clear P9 hown9 hgrow9)
        | (go_simp; go_at_call 79; refine (rec_draw b ((q + 4) + 1) _ HD7.out.rc.rd (by omega)).mono ?_; rintro e w8 ⟨k, t, u, zs, q8, cap8, rfl, hz, hF, hqa, hqb, r8, m8⟩; have H8 := hide_it (HD7.out.step m8 r8); have F8 := hide_it (hF.mono (lo' := w.heap.size) (by have := H7.out.rc.mid.size; simp; omega)); obtain ⟨g, off, hu⟩ : ∃ g off, u = .slice (some ⟨g, off, none⟩) zs.length cap8 := (by obtain ⟨g, off, cs, h, _⟩ := hF; exact ⟨g, off, h⟩); subst hu; have GD8 : Hid (∀ x, Good (w8.alloc x) w.heap.size ((k, t, zs), .slice (some ⟨g, off, none⟩) zs.length cap8)) := (fun x => ⟨hz, Or.inl ⟨_, F8.out.later (alloc_below _ x) (Nat.le_refl _)⟩⟩); have ROW8 : Hid (∀ x, (w8.alloc x).ownsRow w.heap.size 62 3 (.slice ao ps.length co) ps.length (flat ps)) := (fun x => (H8.out.rc.later (alloc_below _ x)).row); obtain ⟨⟨l0, l1, l2, l3, l4⟩, ⟨lf0, lf1, lf2, lf3, lf4⟩⟩ := H8.out.cells; have l3o := (fun x => cellAlloc l3 x); have hs8 : w.heap.size ≤ w8.heap.size := H8.out.rc.mid.size; clear hF r8 m8))
      all_goals
        go_wp2
        refine bodyPost_ret (v := houseV (1 + x1) (decide (0 < x2)) room (.slice (some ⟨g9, 0, none⟩) (ps.length + 1) cap9) z6) (by simp [results, Tryz.results42, go_sem, *]) rfl ?_
        exact PS.out.done (by simp; omega) (by omega) _ _ _ _ _
    by_cases hy2 : y2 = 2
    · subst hy2
      go_wp2_with fail
      refine (pick_any b (q + 4 + 1) 4 _ H7.out.rc.rd (by omega) (by omega) (by omega)).mono ?_
      rintro e w9 ⟨z, rfl, lz, uz, r9, m9⟩
      have H9 := hide_it (H7.out.step m9 r9)
      clear r9 m9
      obtain ⟨⟨c0, c1, c2, c3, c4⟩, ⟨f0, f1, f2, f3, f4⟩⟩ := H9.out.cells
      obtain ⟨d0, d1, d2, d3, d4⟩ := H9.out.res.cells5
      obtain ⟨g0, g1, g2, g3, g4⟩ := H9.out.res.free5
      have hne : w.heap.size ≠ S := by have := H9.out.lt; omega
      have hne2 : S ≠ w.heap.size := by have := H9.out.lt; omega
      go_wp2
      refine bodyPost_ret (v := houseV (1 + x1) (decide (0 < x2)) z (.slice ao ps.length co) z6) (by simp [results, Tryz.results42, go_sem, *]) rfl ?_
      exact (H9.out.setRoom z).done (by omega) (by omega) _ _ _ _ _
    have e0 : (y2 == 0) = false := by simpa using hy0
    have e1 : (y2 == 1) = false := by simpa using hy1
    have e2 : (y2 == 2) = false := by simpa using hy2
    obtain ⟨⟨c0, c1, c2, c3, c4⟩, ⟨f0, f1, f2, f3, f4⟩⟩ := H7.out.cells
    obtain ⟨d0, d1, d2, d3, d4⟩ := H7.out.res.cells5
    obtain ⟨g0, g1, g2, g3, g4⟩ := H7.out.res.free5
    have hne : w.heap.size ≠ S := by have := H7.out.lt; omega
    have hne2 : S ≠ w.heap.size := by have := H7.out.lt; omega
    go_wp2
    refine bodyPost_ret (v := houseV (1 + x1) (decide (0 < x2)) room (.slice ao ps.length co) z6) (by simp [results, Tryz.results42, go_sem, *]) rfl ?_
    exact H7.out.done (by omega) (by omega) _ _ _ _ _
  · have ey : (y == 0) = false := by simpa using hy
    go_wp2_with fail
    refine (pick_any b (q + 3) 20 _ H5.out.rc.rd (by omega) (by omega) (by omega)).mono ?_
    rintro e w7 ⟨y2, rfl, ly2, uy2, r7, m7⟩
    have H7 := hide_it (H5.out.step m7 r7)
    clear r7 m7
    by_cases hy0 : y2 = 0
    · subst hy0
      have H8 := hide_it (H7.out.later (alloc_below _ (.cells #[.int .i64 0, .int .i64 4] 3)))
      have N8 := hide_it (Blk.new w7 #[.int .i64 0, .int .i64 4] 3)
      have hb7 : b < w7.heap.size := H7.out.rc.rd.lt
      go_wp2_with fail
      refine (pick_any b (q + 3 + 1) 2 _ H8.out.rc.rd (by omega) (by omega) (by omega)).mono ?_
      rintro e w9 ⟨z, rfl, lz, uz, r9, m9⟩
      have H9 := hide_it (H8.out.step m9 r9)
      have N9 := hide_it (N8.out.mid m9 (Or.inr (by omega)))
      clear r9 m9 H8 N8
      obtain ⟨n0, n1⟩ := N9.out.cells2
      obtain ⟨⟨c0, c1, c2, c3, c4⟩, ⟨f0, f1, f2, f3, f4⟩⟩ := H9.out.cells
      obtain ⟨d0, d1, d2, d3, d4⟩ := H9.out.res.cells5
      obtain ⟨g0, g1, g2, g3, g4⟩ := H9.out.res.free5
      have hne : w.heap.size ≠ S := by have := H9.out.lt; omega
      have hne2 : S ≠ w.heap.size := by have := H9.out.lt; omega
      have hz2 : z = 0 ∨ z = 1 := by omega
      rcases hz2 with rfl | rfl
      · go_wp2
        refine bodyPost_ret (v := houseV 0 (decide (0 < x2)) room (.slice ao ps.length co) ps.length) (by simp [results, Tryz.results42, go_sem, *]) rfl ?_
        exact (H9.out.setId 0).done (by omega) (by omega) _ _ _ _ _
      · go_wp2
        refine bodyPost_ret (v := houseV 4 (decide (0 < x2)) room (.slice ao ps.length co) ps.length) (by simp [results, Tryz.results42, go_sem, *]) rfl ?_
        exact (H9.out.setId 4).done (by omega) (by omega) _ _ _ _ _
    by_cases hy1 : y2 = 1
    · subst hy1
      have HD7 := hide_it (H7.out.later (Below.refl _ _).drew)
      obtain ⟨⟨c0, c1, c2, c3, c4⟩, ⟨f0, f1, f2, f3, f4⟩⟩ := H7.out.cells
      go_wp2_with fail
      go_region_law (first
        | (refine step_append_lies _ rfl _ _ 30 rfl w.heap.size 62 i0 (.agg #[.int .i64 0, .int .i64 0, .slice none 0 0]) 3 40 Tryz.underlying30 hi hz0 hz1 hz2 rfl (by decide) (.slice ao ps.length co) ps.length (flat ps) rfl (by exact (ROW8.out _)) ⟨w8.heap.size, 0, none⟩ 1 1 [.int .i64 k, .int .i64 t, .slice (some ⟨g, off, none⟩) zs.length cap8] rfl rfl (by exact news3 _ _ _ _ _) (by exact one3 _ _ _) (by decide) (by unfold maxLen; omega) (by omega) (by simp; omega) _ rfl ?_; intro g9 cap9 w9 hown9 hgrow9 _ _; have P9 := HsS.pushed (r := (k, t, zs)) (H8.out.later (alloc_below _ _)) (GD8.out _) hown9 hgrow9; have PS := hide_it P9.1.out; obtain ⟨j0, j1, j2, j3, j4⟩ := P9.2.1.cells5; obtain ⟨jf0, jf1, jf2, jf3, jf4⟩ := P9.2.1.free5; obtain ⟨d0, d1, d2, d3, d4⟩ := P9.2.2.cells5; obtain ⟨g0, g1, g2, g3, g4⟩ := P9.2.2.free5; have hne : w.heap.size ≠ S := (by have := H8.out.lt; omega); have hne2 : S ≠ w.heap.size := (by have := H8.out.lt; omega); clear P9 hown9 hgrow9)
        | (go_simp; go_at_call 79; refine (rec_draw b ((q + 3) + 1) _ HD7.out.rc.rd (by omega)).mono ?_; rintro e w8 ⟨k, t, u, zs, q8, cap8, rfl, hz, hF, hqa, hqb, r8, m8⟩; have H8 := hide_it (HD7.out.step m8 r8); have F8 := hide_it (hF.mono (lo' := w.heap.size) (by have := H7.out.rc.mid.size; simp; omega)); obtain ⟨g, off, hu⟩ : ∃ g off, u = .slice (some ⟨g, off, none⟩) zs.length cap8 := (by obtain ⟨g, off, cs, h, _⟩ := hF; exact ⟨g, off, h⟩); subst hu; have GD8 : Hid (∀ x, Good (w8.alloc x) w.heap.size ((k, t, zs), .slice (some ⟨g, off, none⟩) zs.length cap8)) := (fun x => ⟨hz, Or.inl ⟨_, F8.out.later (alloc_below _ x) (Nat.le_refl _)⟩⟩); have ROW8 : Hid (∀ x, (w8.alloc x).ownsRow w.heap.size 62 3 (.slice ao ps.length co) ps.length (flat ps)) := (fun x => (H8.out.rc.later (alloc_below _ x)).row); obtain ⟨⟨l0, l1, l2, l3, l4⟩, ⟨lf0, lf1, lf2, lf3, lf4⟩⟩ := H8.out.cells; have l3o := (fun x => cellAlloc l3 x); have hs8 : w.heap.size ≤ w8.heap.size := H8.out.rc.mid.size; clear hF r8 m8))
      all_goals
        go_wp2
        refine bodyPost_ret (v := houseV (1 + x1) (decide (0 < x2)) room (.slice (some ⟨g9, 0, none⟩) (ps.length + 1) cap9) ps.length) (by simp [results, Tryz.results42, go_sem, *]) rfl ?_
        exact PS.out.done (by simp; omega) (by omega) _ _ _ _ _
    by_cases hy2 : y2 = 2
    · subst hy2
      go_wp2_with fail
      refine (pick_any b (q + 3 + 1) 4 _ H7.out.rc.rd (by omega) (by omega) (by omega)).mono ?_
      rintro e w9 ⟨z, rfl, lz, uz, r9, m9⟩
      have H9 := hide_it (H7.out.step m9 r9)
      clear r9 m9
      obtain ⟨⟨c0, c1, c2, c3, c4⟩, ⟨f0, f1, f2, f3, f4⟩⟩ := H9.out.cells
      obtain ⟨d0, d1, d2, d3, d4⟩ := H9.out.res.cells5
      obtain ⟨g0, g1, g2, g3, g4⟩ := H9.out.res.free5
      have hne : w.heap.size ≠ S := by have := H9.out.lt; omega
      have hne2 : S ≠ w.heap.size := by have := H9.out.lt; omega
      go_wp2
      refine bodyPost_ret (v := houseV (1 + x1) (decide (0 < x2)) z (.slice ao ps.length co) ps.length) (by simp [results, Tryz.results42, go_sem, *]) rfl ?_
      exact (H9.out.setRoom z).done (by omega) (by omega) _ _ _ _ _
    have e0 : (y2 == 0) = false := by simpa using hy0
    have e1 : (y2 == 1) = false := by simpa using hy1
    have e2 : (y2 == 2) = false := by simpa using hy2
    obtain ⟨⟨c0, c1, c2, c3, c4⟩, ⟨f0, f1, f2, f3, f4⟩⟩ := H7.out.cells
    obtain ⟨d0, d1, d2, d3, d4⟩ := H7.out.res.cells5
    obtain ⟨g0, g1, g2, g3, g4⟩ := H7.out.res.free5
    have hne : w.heap.size ≠ S := by have := H7.out.lt; omega
    have hne2 : S ≠ w.heap.size := by have := H7.out.lt; omega
    go_wp2
    refine bodyPost_ret (v := houseV (1 + x1) (decide (0 < x2)) room (.slice ao ps.length co) ps.length) (by simp [results, Tryz.results42, go_sem, *]) rfl ?_
    exact H7.out.done (by omega) (by omega) _ _ _ _ _

end Go.Proofs.YthllcffmpeopcaaGreatDoor

namespace Go.Proofs.YthllcffmpeopcaaGreatDoor
open Go.RowKit

set_option maxHeartbeats 1000000 in
theorem lnInts_any (v1 v2 : Value) (zs : List Int) (w : World) (h1 : Ints w v1 zs) (h2 : Ints w v2 zs) (hl : zs.length ≤ 1048576) :
    Calls Tryz.prog 84 #[v1, v2] w fun e w' => e = .returned (.bool true) ∧ Below w.heap.size w w' := by
  rcases h1 with ⟨rfl, ao, cap, rfl, -⟩ | ⟨b, off, cap, rfl, hz, hc⟩
  · obtain ⟨ao2, cap2, rfl⟩ := h2.shape
    clear h2
    go_enter Tryz.func84, Tryz.ntmps84
    go_wp2
    refine wp_loop_rounds 1 ?_
    rw [rounds_succ]
    go_wp2
    go_ret
    exact ⟨rfl, Below.refl _ _⟩
  rcases h2 with ⟨h, _⟩ | ⟨b2, off2, cap2, rfl, _, hc2⟩
  · exact absurd h hz
  have HC : Hid (∀ k, k < zs.length → w.cell? ⟨b, off + k, none⟩ = some (.int .i64 (zs.getD k 0))) := hc
  have HC2 : Hid (∀ k, k < zs.length → w.cell? ⟨b2, off2 + k, none⟩ = some (.int .i64 (zs.getD k 0))) := hc2
  have hzl : 0 < zs.length := List.length_pos_iff.2 hz
  have hbw : b < w.heap.size := World.block_lt_of_cell? _ _ (hc 0 hzl)
  have hbw2 : b2 < w.heap.size := World.block_lt_of_cell? _ _ (hc2 0 hzl)
  clear hc hc2 hz
  go_enter Tryz.func84, Tryz.ntmps84
  go_wp2
  go_loopw [5] (fun i wr => ∃ k : Nat, k ≤ zs.length ∧ i = .int .i64 k ∧ Below w.heap.size w wr) (fun i _ => zs.length - (intOf i).toNat)
  case atStart => exact ⟨0, Nat.zero_le _, rfl, Below.refl _ _⟩
  case round =>
    obtain ⟨k, hk, rfl, hbe⟩ := hrel
    by_cases hlt : k < zs.length
    · obtain ⟨z, HZ⟩ : ∃ z, Hid (z = zs.getD k 0) := ⟨_, rfl⟩
      have hck : wr.cell? ⟨b, off + k, none⟩ = some (.int .i64 z) := by rw [HZ.out, hbe.cell (p := ⟨b, off + k, none⟩) hbw]; exact HC.out k hlt
      have hck2 : wr.cell? ⟨b2, off2 + k, none⟩ = some (.int .i64 z) := by rw [HZ.out, hbe.cell (p := ⟨b2, off2 + k, none⟩) hbw2]; exact HC2.out k hlt
      have hli : (k : Int) < (zs.length : Int) := by omega
      have HB : Hid (Below w.heap.size w wr) := hbe
      clear hbe
      go_wp2
      go_quiet (fail)
      go_wp2
      go_roundw
      case rel => exact ⟨k + 1, by omega, by go_num, below_drewN HB.out _⟩
      case measure => simp [intOf]; omega
    · go_wp2
      go_ret
      exact ⟨rfl, hbe⟩

set_option maxHeartbeats 1000000 in
theorem lnRec_any (k t : Int) (v1 v2 : Value) (zs : List Int) (w : World) (h1 : Ints w v1 zs) (h2 : Ints w v2 zs) (hl : zs.length ≤ 1048576) :
    Calls Tryz.prog 54 #[.agg #[.int .i64 k, .int .i64 t, v1], .agg #[.int .i64 k, .int .i64 t, v2]] w fun e w' => e = .returned (.bool true) ∧ Below w.heap.size w w' := by
  have H1 : Hid (∀ o1 o2, Ints ((w.alloc o1).alloc o2) v1 zs) := fun o1 o2 => h1.later (below2 w o1 o2) (Nat.le_refl _)
  have H2 : Hid (∀ o1 o2, Ints ((w.alloc o1).alloc o2) v2 zs) := fun o1 o2 => h2.later (below2 w o1 o2) (Nat.le_refl _)
  clear h1 h2
  go_enter Tryz.func54, Tryz.ntmps54
  go_wp2_with (go_at_call 84; refine (lnInts_any _ _ zs _ (H1.out _ _) (H2.out _ _) hl).mono ?_; rintro e w1 ⟨rfl, hb⟩)
  go_ret
  refine ⟨rfl, (below2 w _ _).trans (Below.mono (by assumption) ?_)⟩
  simp; omega

set_option maxHeartbeats 1000000 in
theorem lnRecs_any (v1 v2 : Value) (rs : List R) (w : World) (h1 : Recs w v1 rs) (h2 : Recs w v2 rs) (hl : tot rs ≤ 1048576) :
    Calls Tryz.prog 24 #[v1, v2] w fun e w' => e = .returned (.bool true) ∧ Below w.heap.size w w' := by
  have hlen := tot_len rs
  have HM : Hid (∀ r ∈ rs, r.2.2.length ≤ 1048576) := fun r hr => Nat.le_trans (tot_mem rs r hr) hl
  rcases h1 with ⟨rfl, ao, cap, rfl⟩ | ⟨b, off, cap, rfl, hz, hc⟩
  · obtain ⟨ao2, cap2, rfl⟩ := h2.shape
    clear h2
    go_enter Tryz.func24, Tryz.ntmps24
    go_wp2
    refine wp_loop_rounds 1 ?_
    rw [rounds_succ]
    go_wp2
    go_ret
    exact ⟨rfl, Below.refl _ _⟩
  rcases h2 with ⟨h, _⟩ | ⟨b2, off2, cap2, rfl, _, hc2⟩
  · exact absurd h hz
  have HC : Hid (∀ i r, rs[i]? = some r → ∃ u, RecCells w b (off + i * 3) r u) := hc
  have HC2 : Hid (∀ i r, rs[i]? = some r → ∃ u, RecCells w b2 (off2 + i * 3) r u) := hc2
  have hzl : 0 < rs.length := List.length_pos_iff.2 hz
  clear hc hc2 hz
  go_enter Tryz.func24, Tryz.ntmps24
  go_wp2
  go_loopw [5] (fun i wr => ∃ k : Nat, k ≤ rs.length ∧ i = .int .i64 k ∧ Below w.heap.size w wr) (fun i _ => rs.length - (intOf i).toNat)
  case atStart => exact ⟨0, Nat.zero_le _, rfl, Below.refl _ _⟩
  case round =>
    obtain ⟨k, hk, rfl, hbe⟩ := hrel
    by_cases hlt : k < rs.length
    · obtain ⟨r, hr⟩ : ∃ r, Hid (rs[k]? = some r) := ⟨rs[k], by show _ = _; simp [hlt]⟩
      have hrl : r.2.2.length ≤ 1048576 := HM.out r (List.mem_of_getElem? hr.out)
      obtain ⟨u, hu⟩ := HC.out k r hr.out
      obtain ⟨u', hu'⟩ := HC2.out k r hr.out
      obtain ⟨c0, c1, c2, hI⟩ := hu.later hbe (Nat.le_refl _)
      obtain ⟨d0, d1, d2, hJ⟩ := hu'.later hbe (Nat.le_refl _)
      have HI : Hid (Ints wr u r.2.2) := hI
      have HJ : Hid (Ints wr u' r.2.2) := hJ
      have hli : (k : Int) < (rs.length : Int) := by omega
      have HB : Hid (Below w.heap.size w wr) := hbe
      clear hbe hI hJ hu hu'
      go_wp2
      go_region_with (go_at_call 54; refine (lnRec_any _ _ _ _ r.2.2 _ ?_ ?_ hrl).mono ?_; exact HI.out.later (Below.refl _ _).drew (Nat.le_refl _); exact HJ.out.later (Below.refl _ _).drew (Nat.le_refl _); rintro e w2 ⟨rfl, hb2⟩; have HB2 := HB.out.drew.trans (hb2.mono HB.out.size); clear hb2)
      all_goals (try go_wp2)
      all_goals
        go_roundw
        case rel => exact ⟨k + 1, by omega, by go_num, HB2⟩
        case measure => simp [intOf]; omega
    · go_wp2
      go_ret
      exact ⟨rfl, hbe⟩

set_option maxHeartbeats 1000000 in
theorem lnLog_any (v1 v2 : Value) (rs : List R) (f : Int) (w : World) (h1 : Recs w v1 rs) (h2 : Recs w v2 rs) (hl : tot rs ≤ 1048576) :
    Calls Tryz.prog 45 #[.agg #[v1, .int .i64 f], .agg #[v2, .int .i64 f]] w fun e w' => e = .returned (.bool true) ∧ Below w.heap.size w w' := by
  have H1 : Hid (∀ o1 o2, Recs ((w.alloc o1).alloc o2) v1 rs) := fun o1 o2 => h1.later (below2 w o1 o2) (Nat.le_refl _)
  have H2 : Hid (∀ o1 o2, Recs ((w.alloc o1).alloc o2) v2 rs) := fun o1 o2 => h2.later (below2 w o1 o2) (Nat.le_refl _)
  obtain ⟨a1, p1, rfl⟩ := h1.shape
  obtain ⟨a2, p2, rfl⟩ := h2.shape
  clear h1 h2
  go_enter Tryz.func45, Tryz.ntmps45
  go_wp2_with fail
  refine (lnRecs_any _ _ rs _ (H1.out _ _) (H2.out _ _) hl).mono ?_
  rintro e w1 ⟨rfl, hb⟩
  obtain ⟨hc, _⟩ := bcell hb
  have HB : Hid (Below w.heap.size w w1) := (below2 w _ _).trans (hb.mono (by simp; omega))
  have hz : w.heap.size + 2 ≤ w1.heap.size := by have := hb.size; rw [size2] at this; exact this
  rw [size2] at hc
  clear hb
  go_wp2
  go_ret
  exact ⟨rfl, HB.out⟩

end Go.Proofs.YthllcffmpeopcaaGreatDoor

namespace Go.Proofs.YthllcffmpeopcaaGreatDoor
open Go.RowKit

/-- Records that a draw has made, and the block of a result below them. -/
structure RL (W : World) (base X : Nat) (o : Value) (ps : List (R × Value)) : Prop where
  row : W.ownsRow base 62 3 o ps.length (flat ps)
  all : ∀ p ∈ ps, Good W base p
  blk : ∃ cs, Blk W X cs 34
  low : X < base
theorem RL.set {W : World} {base X i : Nat} {o : Value} {ps : List (R × Value)} (h : RL W base X o ps) (x : Value) : RL (W.setCell ⟨X, i, none⟩ x) base X o ps := by
  obtain ⟨cs, hX⟩ := h.blk
  exact ⟨ownsRow_setCell_below h.row (by simpa using h.low) _, fun p hp => (h.all p hp).keep fun g cs' hh => Below.heap_setCell _ _ _ _ (ne_of_type hh hX (by decide)), ⟨_, hX.set_ i x⟩, h.low⟩

set_option maxHeartbeats 2000000 in
theorem lnHouse_any (id : Int) (up : Bool) (room : Int) (v1 v2 : Value) (rs : List R) (f : Int) (w : World) (h1 : Recs w v1 rs) (h2 : Recs w v2 rs) (hl : tot rs ≤ 1048576) :
    Calls Tryz.prog 18 #[houseV id up room v1 f, houseV id up room v2 f] w fun e w' => e = .returned (.bool true) ∧ Below w.heap.size w w' := by
  have HL : Hid (∀ o1 o2, Calls Tryz.prog 45 #[.agg #[v1, .int .i64 f], .agg #[v2, .int .i64 f]] ((w.alloc o1).alloc o2) fun e w' => e = .returned (.bool true) ∧ Below ((w.alloc o1).alloc o2).heap.size ((w.alloc o1).alloc o2) w') := fun o1 o2 =>
    lnLog_any v1 v2 rs f _ (h1.later (below2 w o1 o2) (Nat.le_refl _)) (h2.later (below2 w o1 o2) (Nat.le_refl _)) hl
  obtain ⟨a1, p1, rfl⟩ := h1.shape
  obtain ⟨a2, p2, rfl⟩ := h2.shape
  clear h1 h2
  cases up
  all_goals
    go_enter Tryz.func18, Tryz.ntmps18
    go_wp2_with fail
    refine (HL.out _ _).mono ?_
    rintro e w1 ⟨rfl, hb⟩
    have HB : Hid (Below w.heap.size w w1) := (below2 w _ _).trans (hb.mono (by simp; omega))
    clear hb
    go_wp2
    go_ret
    exact ⟨rfl, HB.out⟩

end Go.Proofs.YthllcffmpeopcaaGreatDoor

namespace Go.Proofs.YthllcffmpeopcaaGreatDoor
namespace Pl

def wMany (k m : Int) : Bool := if k = 1 then inB m 1 3 else decide (m = 0)
def wOk (k h t m : Int) : Bool := inB k 1 7 && inB h 1 3 && inB t 1 6 && wMany k m

theorem wOk_k {k h t m : Int} (e : inB k 1 7 = false) : wOk k h t m = false := by simp [wOk, e]
theorem wOk_h {k h t m : Int} (e : inB h 1 3 = false) : wOk k h t m = false := by simp [wOk, e]
theorem wOk_t {k h t m : Int} (e : inB t 1 6 = false) : wOk k h t m = false := by simp [wOk, e]
theorem wOk_m {k h t m : Int} (e1 : inB k 1 7 = true) (e2 : inB h 1 3 = true) (e3 : inB t 1 6 = true) : wOk k h t m = wMany k m := by simp [wOk, e1, e2, e3]
theorem wMany_1 (m : Int) : wMany 1 m = inB m 1 3 := by simp [wMany]
theorem wMany_0 {k : Int} (m : Int) (h : k ≠ 1) : wMany k m = decide (m = 0) := by simp [wMany, h]
theorem wOk_parts {k h t m : Int} (e : wOk k h t m = true) : (1 ≤ k ∧ k ≤ 7) ∧ (1 ≤ h ∧ h ≤ 3) ∧ (1 ≤ t ∧ t ≤ 6) ∧ wMany k m = true := by
  simp only [wOk, Bool.and_eq_true] at e
  exact ⟨inB_true e.1.1.1, inB_true e.1.1.2, inB_true e.1.2, e.2⟩
theorem wMany_parts {k m : Int} (e : wMany k m = true) : (k = 1 ∧ 1 ≤ m ∧ m ≤ 3) ∨ (k ≠ 1 ∧ m = 0) := by
  by_cases h : k = 1
  · subst h; rw [wMany_1] at e; exact .inl ⟨rfl, inB_true e⟩
  · rw [wMany_0 m h] at e; exact .inr ⟨h, by simpa using e⟩

end Pl
end Go.Proofs.YthllcffmpeopcaaGreatDoor

namespace Go.Proofs.YthllcffmpeopcaaGreatDoor
open Go.RowKit

theorem hidden {p : Prop} (h : p) : Hid p := h

/-- Four cells lie in block b. -/
def Quad (w : World) (b : Nat) (x y z u : Value) : Prop := w.cell? ⟨b, 0, none⟩ = some x ∧ w.cell? ⟨b, 1, none⟩ = some y ∧ w.cell? ⟨b, 2, none⟩ = some z ∧ w.cell? ⟨b, 3, none⟩ = some u
theorem Quad.lt {w : World} {b : Nat} {x y z u : Value} (h : Quad w b x y z u) : b < w.heap.size := by simpa using World.block_lt_of_cell? _ _ h.1
theorem Quad.later {B : Nat} {w w' : World} {b : Nat} {x y z u : Value} (h : Quad w b x y z u) (hb : Below B w w') (hB : w.heap.size ≤ B) : Quad w' b x y z u := by
  have hlt := h.lt
  obtain ⟨h0, h1, h2, h3⟩ := h
  exact ⟨by rw [← h0]; exact hb.cell (p := ⟨b, 0, none⟩) (by simp; omega), by rw [← h1]; exact hb.cell (p := ⟨b, 1, none⟩) (by simp; omega), by rw [← h2]; exact hb.cell (p := ⟨b, 2, none⟩) (by simp; omega), by rw [← h3]; exact hb.cell (p := ⟨b, 3, none⟩) (by simp; omega)⟩
theorem Quad.new (w : World) (x y z u : Value) (ty : TypeId) : Quad (w.alloc (.cells #[x, y, z, u] ty)) w.heap.size x y z u := by
  refine ⟨?_, ?_, ?_, ?_⟩ <;> simp

abbrev wordV (k h t m : Int) : Value := .agg #[.int .i64 k, .int .i64 h, .int .i64 t, .int .i64 m]

set_option maxHeartbeats 1000000 in
theorem specWordOk_any (k h t m : Int) (w : World) :
    Calls Tryz.prog 59 #[wordV k h t m] w fun e w' => e = .returned (.bool (Pl.wOk k h t m)) ∧ Below w.heap.size w w' := by
  cases e1 : Pl.inB h 1 3
  · rw [Pl.wOk_h e1]
    go_enter Tryz.func59, Tryz.ntmps59
    go_wp2_with (go_at_call 47; refine (in_any _ _ _ _).mono ?_; rintro e w' ⟨rfl, rfl⟩)
    go_ret
    exact ⟨rfl, (Below.refl _ _).alloc (Nat.le_refl _) _⟩
  cases e2 : Pl.inB t 1 6
  · rw [Pl.wOk_t e2]
    go_enter Tryz.func59, Tryz.ntmps59
    go_wp2_with (go_at_call 47; refine (in_any _ _ _ _).mono ?_; rintro e w' ⟨rfl, rfl⟩)
    go_ret
    exact ⟨rfl, (Below.refl _ _).alloc (Nat.le_refl _) _⟩
  cases e3 : Pl.inB k 1 7
  · rw [Pl.wOk_k e3]
    go_enter Tryz.func59, Tryz.ntmps59
    go_wp2_with (go_at_call 47; refine (in_any _ _ _ _).mono ?_; rintro e w' ⟨rfl, rfl⟩)
    go_ret
    exact ⟨rfl, (Below.refl _ _).alloc (Nat.le_refl _) _⟩
  rw [Pl.wOk_m e3 e1 e2]
  by_cases hk : k = 1
  · subst hk
    rw [Pl.wMany_1]
    go_enter Tryz.func59, Tryz.ntmps59
    go_wp2_with (go_at_call 47; refine (in_any _ _ _ _).mono ?_; rintro e w' ⟨rfl, rfl⟩)
    go_ret
    exact ⟨rfl, (Below.refl _ _).alloc (Nat.le_refl _) _⟩
  · rw [Pl.wMany_0 m hk]
    go_enter Tryz.func59, Tryz.ntmps59
    go_wp2_with (go_at_call 47; refine (in_any _ _ _ _).mono ?_; rintro e w' ⟨rfl, rfl⟩)
    go_ret
    exact ⟨rfl, (Below.refl _ _).alloc (Nat.le_refl _) _⟩

theorem wordMany_any (k m : Int) (w : World) :
    Calls Tryz.prog 91 #[.int .i64 k, .int .i64 m] w fun e w' => e = .returned (.bool (Pl.wMany k m)) ∧ w' = w := by
  by_cases hk : k = 1
  · subst hk
    rw [Pl.wMany_1]
    by_cases h1 : 1 ≤ m
    · by_cases h2 : m ≤ 3
      all_goals
        go_enter Tryz.func91, Tryz.ntmps91
        go_wp2
        go_ret
        exact ⟨by simp [Pl.inB]; omega, rfl⟩
    · go_enter Tryz.func91, Tryz.ntmps91
      go_wp2
      go_ret
      exact ⟨by simp [Pl.inB]; omega, rfl⟩
  · rw [Pl.wMany_0 m hk]
    go_enter Tryz.func91, Tryz.ntmps91
    go_wp2
    go_ret
    exact ⟨rfl, rfl⟩

set_option maxHeartbeats 2000000 in
theorem implWordOk_any (k h t m : Int) (w : World) :
    Calls Tryz.prog 67 #[wordV k h t m] w fun e w' => e = .returned (.bool (Pl.wOk k h t m)) ∧ Below w.heap.size w w' := by
  by_cases k1n : ¬ 1 ≤ k
  · rw [Pl.wOk_k (Pl.inB_lo (by omega))]
    go_enter Tryz.func67, Tryz.ntmps67
    go_wp2
    go_ret
    exact ⟨rfl, (Below.refl _ _).alloc (Nat.le_refl _) _⟩
  have k1 : 1 ≤ k := Decidable.not_not.1 k1n
  clear k1n
  by_cases k2n : ¬ k ≤ 7
  · rw [Pl.wOk_k (Pl.inB_hi (by omega))]
    go_enter Tryz.func67, Tryz.ntmps67
    go_wp2
    go_ret
    exact ⟨rfl, (Below.refl _ _).alloc (Nat.le_refl _) _⟩
  have k2 : k ≤ 7 := Decidable.not_not.1 k2n
  clear k2n
  by_cases h1n : ¬ 1 ≤ h
  · rw [Pl.wOk_h (Pl.inB_lo (by omega))]
    go_enter Tryz.func67, Tryz.ntmps67
    go_wp2
    go_ret
    exact ⟨rfl, (Below.refl _ _).alloc (Nat.le_refl _) _⟩
  have h1 : 1 ≤ h := Decidable.not_not.1 h1n
  clear h1n
  by_cases h2n : ¬ h ≤ 3
  · rw [Pl.wOk_h (Pl.inB_hi (by omega))]
    go_enter Tryz.func67, Tryz.ntmps67
    go_wp2
    go_ret
    exact ⟨rfl, (Below.refl _ _).alloc (Nat.le_refl _) _⟩
  have h2 : h ≤ 3 := Decidable.not_not.1 h2n
  clear h2n
  by_cases t1n : ¬ 1 ≤ t
  · rw [Pl.wOk_t (Pl.inB_lo (by omega))]
    go_enter Tryz.func67, Tryz.ntmps67
    go_wp2
    go_ret
    exact ⟨rfl, (Below.refl _ _).alloc (Nat.le_refl _) _⟩
  have t1 : 1 ≤ t := Decidable.not_not.1 t1n
  clear t1n
  by_cases t2n : ¬ t ≤ 6
  · rw [Pl.wOk_t (Pl.inB_hi (by omega))]
    go_enter Tryz.func67, Tryz.ntmps67
    go_wp2
    go_ret
    exact ⟨rfl, (Below.refl _ _).alloc (Nat.le_refl _) _⟩
  have t2 : t ≤ 6 := Decidable.not_not.1 t2n
  clear t2n
  rw [Pl.wOk_m (Pl.inB_mk k1 k2) (Pl.inB_mk h1 h2) (Pl.inB_mk t1 t2)]
  go_enter Tryz.func67, Tryz.ntmps67
  go_wp2_with (go_at_call 91; refine (wordMany_any _ _ _).mono ?_; rintro e w' ⟨rfl, rfl⟩)
  go_ret
  exact ⟨rfl, (Below.refl _ _).alloc (Nat.le_refl _) _⟩

set_option maxHeartbeats 1000000 in
theorem toWord_any (k h t m : Int) (w : World) :
    Calls Tryz.prog 11 #[wordV k h t m] w fun e w' => e = .returned (wordV k h t m) ∧ Below w.heap.size w w' := by
  go_enter Tryz.func11, Tryz.ntmps11
  go_wp2
  exact bodyPost_ret (v := wordV k h t m) (by simp [results, Tryz.results11, go_sem]) rfl ⟨rfl, (((Below.refl _ _).alloc (Nat.le_refl _) _).alloc (by simp) _).alloc (by simp; omega) _⟩

end Go.Proofs.YthllcffmpeopcaaGreatDoor

namespace Go.Proofs.YthllcffmpeopcaaGreatDoor
open Go.RowKit

/-- A word as it is drawn. -/
def Small4 (k h t m : Int) : Prop := (0 ≤ k ∧ k ≤ 9) ∧ (0 ≤ h ∧ h ≤ 9) ∧ (0 ≤ t ∧ t ≤ 9) ∧ (0 ≤ m ∧ m ≤ 9)

/-- While a word is drawn: the result's block (the first new one), the word's block, the reader. -/
structure StW (w W : World) (b q X : Nat) (k h t m : Int) : Prop where
  res : W.heap[w.heap.size]? = some (.cells #[.int .i64 0, .int .i64 0, .int .i64 0, .int .i64 0] 35 (0, 0))
  row : W.heap[X]? = some (.cells #[.int .i64 k, .int .i64 h, .int .i64 t, .int .i64 m] 35 (0, 0))
  ne : w.heap.size < X
  rd : Rd W b q
  lt : b < w.heap.size
  mid : Mid b (b + 1) w W

theorem rowW_mid {W W' : World} {X b : Nat} {o : Obj} (h : W.heap[X]? = some o) (hb : Mid b (b + 1) W W') (hx : b < X) : W'.heap[X]? = some o := by
  have hl : X < W.heap.size := by
    by_cases e : X < W.heap.size
    · exact e
    · rw [Array.getElem?_eq_none (by omega)] at h; cases h
  rw [hb.block X hl (Or.inr (by omega))]; exact h

theorem StW.step {w W W' : World} {b q q' X : Nat} {k h t m : Int} (s : StW w W b q X k h t m) (hb : Mid b (b + 1) W W') (hr : Rd W' b q') : StW w W' b q' X k h t m :=
  ⟨rowW_mid s.res hb s.lt, rowW_mid s.row hb (by have := s.lt; have := s.ne; omega), s.ne, hr, s.lt, s.mid.trans hb⟩

theorem StW.cells {w W : World} {b q X : Nat} {k h t m : Int} (s : StW w W b q X k h t m) :
    (W.cell? ⟨X, 0, none⟩ = some (.int .i64 k) ∧ W.cell? ⟨X, 1, none⟩ = some (.int .i64 h) ∧ W.cell? ⟨X, 2, none⟩ = some (.int .i64 t) ∧ W.cell? ⟨X, 3, none⟩ = some (.int .i64 m)) ∧
    (W.frozen? ⟨X, 0, none⟩ = false ∧ W.frozen? ⟨X, 1, none⟩ = false ∧ W.frozen? ⟨X, 2, none⟩ = false ∧ W.frozen? ⟨X, 3, none⟩ = false) ∧
    (W.cell? ⟨w.heap.size, 0, none⟩ = some (.int .i64 0) ∧ W.cell? ⟨w.heap.size, 1, none⟩ = some (.int .i64 0) ∧ W.cell? ⟨w.heap.size, 2, none⟩ = some (.int .i64 0) ∧ W.cell? ⟨w.heap.size, 3, none⟩ = some (.int .i64 0)) ∧
    (W.frozen? ⟨w.heap.size, 0, none⟩ = false ∧ W.frozen? ⟨w.heap.size, 1, none⟩ = false ∧ W.frozen? ⟨w.heap.size, 2, none⟩ = false ∧ W.frozen? ⟨w.heap.size, 3, none⟩ = false) ∧ X < W.heap.size ∧ w.heap.size < W.heap.size := by
  have f1 := fun j => frozen_of_row W X j _ _ s.row
  have f2 := fun j => frozen_of_row W w.heap.size j _ _ s.res
  have l1 : X < W.heap.size := by
    by_cases e : X < W.heap.size
    · exact e
    · have := s.row; rw [Array.getElem?_eq_none (by omega)] at this; cases this
  refine ⟨⟨?_, ?_, ?_, ?_⟩, ⟨f1 0, f1 1, f1 2, f1 3⟩, ⟨?_, ?_, ?_, ?_⟩, ⟨f2 0, f2 1, f2 2, f2 3⟩, l1, by have := s.ne; omega⟩
  all_goals first | (rw [cell_of_row W _ _ _ _ _ s.row]; rfl) | (rw [cell_of_row W _ _ _ _ _ s.res]; rfl)

theorem StW.setW {w W : World} {b q X : Nat} {k h t m k' h' t' m' : Int} (s : StW w W b q X k h t m) (i : Nat) (x : Value)
    (e : (#[.int .i64 k, .int .i64 h, .int .i64 t, .int .i64 m] : Array Value).setIfInBounds i x = #[.int .i64 k', .int .i64 h', .int .i64 t', .int .i64 m']) : StW w (W.setCell ⟨X, i, none⟩ x) b q X k' h' t' m' := by
  have hn := s.ne
  have hl := s.lt
  refine ⟨?_, ?_, s.ne, s.rd.setApart (by omega) x, s.lt, s.mid.setNew (by omega) x⟩
  · rw [Below.heap_setCell _ _ _ _ (by simp; omega)]; exact s.res
  · rw [heap_setCell_same W X i _ _ _ s.row, e]
theorem StW.set0 {w W : World} {b q X : Nat} {k h t m : Int} (s : StW w W b q X k h t m) (x : Int) : StW w (W.setCell ⟨X, 0, none⟩ (.int .i64 x)) b q X x h t m := s.setW 0 _ rfl
theorem StW.set1 {w W : World} {b q X : Nat} {k h t m : Int} (s : StW w W b q X k h t m) (x : Int) : StW w (W.setCell ⟨X, 1, none⟩ (.int .i64 x)) b q X k x t m := s.setW 1 _ rfl
theorem StW.set2 {w W : World} {b q X : Nat} {k h t m : Int} (s : StW w W b q X k h t m) (x : Int) : StW w (W.setCell ⟨X, 2, none⟩ (.int .i64 x)) b q X k h x m := s.setW 2 _ rfl
theorem StW.set3 {w W : World} {b q X : Nat} {k h t m : Int} (s : StW w W b q X k h t m) (x : Int) : StW w (W.setCell ⟨X, 3, none⟩ (.int .i64 x)) b q X k h t x := s.setW 3 _ rfl

theorem rowW_lt {W : World} {X : Nat} {o : Obj} (h : W.heap[X]? = some o) : X < W.heap.size := by
  by_cases e : X < W.heap.size
  · exact e
  · rw [Array.getElem?_eq_none (by omega)] at h; cases h

theorem StW.start {w W : World} {b q : Nat} (k h t m : Int) (hS : W.heap[w.heap.size]? = some (.cells #[.int .i64 0, .int .i64 0, .int .i64 0, .int .i64 0] 35 (0, 0))) (hr : Rd W b q) (hlt : b < w.heap.size) (hM : Mid b (b + 1) w W) :
    StW w (W.alloc (.cells #[.int .i64 k, .int .i64 h, .int .i64 t, .int .i64 m] 35)) b q W.heap.size k h t m := by
  have hs := rowW_lt hS
  exact ⟨by rw [Below.heap_alloc _ _ _ hs]; exact hS, heap_alloc_new W _, hs, hr.alloc _, hlt, hM.alloc _⟩

theorem StW.done {w W : World} {b q X : Nat} {k h t m : Int} (s : StW w W b q X k h t m) (p : Nat) (hq : q ≤ p + 6) (x0 x1 x2 x3 : Value) :
    ∃ q', q' ≤ p + 6 ∧ Rd ((((W.setCell ⟨w.heap.size, 0, none⟩ x0).setCell ⟨w.heap.size, 1, none⟩ x1).setCell ⟨w.heap.size, 2, none⟩ x2).setCell ⟨w.heap.size, 3, none⟩ x3) b q' ∧
      Mid b (b + 1) w ((((W.setCell ⟨w.heap.size, 0, none⟩ x0).setCell ⟨w.heap.size, 1, none⟩ x1).setCell ⟨w.heap.size, 2, none⟩ x2).setCell ⟨w.heap.size, 3, none⟩ x3) :=
  ⟨q, hq, (((s.rd.setApart s.lt _).setApart s.lt _).setApart s.lt _).setApart s.lt _, (((s.mid.setNew (Nat.le_refl _) _).setNew (Nat.le_refl _) _).setNew (Nat.le_refl _) _).setNew (Nat.le_refl _) _⟩

set_option maxHeartbeats 4000000 in
theorem word_draw (b p : Nat) (w : World) (h : Rd w b p) (hp : p ≤ 900000) :
    Calls Tryz.prog 44 #[.pointer (some ⟨b, 0, none⟩)] w fun e w' => ∃ k h t m : Int, e = .returned (wordV k h t m) ∧ Small4 k h t m ∧ ∃ q, q ≤ p + 6 ∧ Rd w' b q ∧ Mid b (b + 1) w w' := by
  have hlt := h.lt
  have R0 := hide_it (h.alloc (.cells #[.int .i64 0, .int .i64 0, .int .i64 0, .int .i64 0] 35))
  have M0 := hide_it ((Mid.refl b (b + 1) w).alloc (.cells #[.int .i64 0, .int .i64 0, .int .i64 0, .int .i64 0] 35))
  have S0 := hide_it (heap_alloc_new w (.cells #[.int .i64 0, .int .i64 0, .int .i64 0, .int .i64 0] 35))
  clear h
  go_enter Tryz.func44, Tryz.ntmps44
  go_wp2_with fail
  refine (pick_any b p 7 _ R0.out (by omega) (by omega) (by omega)).mono ?_
  rintro e w1 ⟨x1, rfl, l1, u1, r1, m1⟩
  have R1 := hide_it r1
  have M1 := hide_it (M0.out.trans m1)
  have S1 := hide_it (rowW_mid S0.out m1 hlt)
  clear r1 m1
  go_wp2_with fail
  refine (pick_any b (p + 1) 3 _ R1.out (by omega) (by omega) (by omega)).mono ?_
  rintro e w2 ⟨x2, rfl, l2, u2, r2, m2⟩
  have R2 := hide_it r2
  have M2 := hide_it (M1.out.trans m2)
  have S2 := hide_it (rowW_mid S1.out m2 hlt)
  clear r2 m2
  go_wp2_with fail
  refine (pick_any b (p + 1 + 1) 4 _ R2.out (by omega) (by omega) (by omega)).mono ?_
  rintro e w3 ⟨x3, rfl, l3, u3, r3, m3⟩
  have M3 := hide_it (M2.out.trans m3)
  have S3 := hide_it (rowW_mid S2.out m3 hlt)
  have R3 := hide_it r3
  clear r3 m3
  by_cases hx1 : x1 = 0
  · subst hx1
    obtain ⟨w4, hw4⟩ : ∃ W, Hid (W = w3.alloc (.cells #[.int .i64 1, .int .i64 (1 + x2), .int .i64 (1 + x3), .int .i64 0] 35)) := ⟨_, rfl⟩
    obtain ⟨X, hX⟩ : ∃ X, Hid (X = w3.heap.size) := ⟨_, rfl⟩
    have T4 : Hid (StW w w4 b (p + 3) X 1 (1 + x2) (1 + x3) 0) := by show StW _ _ _ _ _ _ _ _ _; rw [hw4.out, hX.out]; exact StW.start _ _ _ _ S3.out R3.out hlt M3.out
    clear M3 S3 R3 M2 S2 R2 M1 S1 R1 M0 S0 R0
    go_wp2_with fail
    rw [← hw4.out, ← hX.out]
    refine (pick_any b (p + 3) 3 _ T4.out.rd (by omega) (by omega) (by omega)).mono ?_
    rintro e w5 ⟨x4, rfl, l4, u4, r5, m5⟩
    have T5 := hide_it (T4.out.step m5 r5)
    clear r5 m5
    obtain ⟨⟨c0, c1, c2, c3⟩, ⟨f0, f1, f2, f3⟩, -, -, lX, lw⟩ := T5.out.cells
    have T6 := hide_it (T5.out.set3 (1 + x4))
    go_wp2_with fail
    clear c0 c1 c2 c3 f0 f1 f2 f3 lX lw
    obtain ⟨w6, hw6⟩ : ∃ W, Hid (W = w5.setCell ⟨X, 3, none⟩ (.int .i64 (1 + x4))) := ⟨_, rfl⟩
    rw [← hw6.out] at T6 ⊢
    refine (pick_any b (p + 3 + 1) 20 _ T6.out.rd (by omega) (by omega) (by omega)).mono ?_
    rintro e w7 ⟨y, rfl, ly, uy, r7, m7⟩
    have T7 := hide_it (T6.out.step m7 r7)
    clear r7 m7 T6 T5 T4 hw6 hw4
    by_cases hy0 : y = 0
    · subst hy0
      obtain ⟨⟨c0, c1, c2, c3⟩, ⟨f0, f1, f2, f3⟩, -, -, lX, lw⟩ := T7.out.cells
      go_wp2_with fail
      refine (pick_any b _ 9 _ T7.out.rd (by omega) (by omega) (by omega)).mono ?_
      rintro e w8 ⟨z, rfl, lz, uz, r8, m8⟩
      have T8 := hide_it (T7.out.step m8 r8)
      have T9 := hide_it (T8.out.set0 z)
      clear r8 m8 c0 c1 c2 c3 f0 f1 f2 f3 lX lw
      obtain ⟨⟨c0, c1, c2, c3⟩, ⟨f0, f1, f2, f3⟩, ⟨d0, d1, d2, d3⟩, ⟨g0, g1, g2, g3⟩, lX, lw⟩ := T8.out.cells
      have hne : w.heap.size ≠ X := by have := T8.out.ne; omega
      go_wp2
      exact bodyPost_ret (v := wordV (z) (1 + x2) (1 + x3) (1 + x4)) (by simp [results, Tryz.results44, go_sem, *]) rfl ⟨_, _, _, _, rfl, by unfold Small4; omega, T9.out.done p (by omega) _ _ _ _⟩
    by_cases hy1 : y = 1
    · subst hy1
      obtain ⟨⟨c0, c1, c2, c3⟩, ⟨f0, f1, f2, f3⟩, -, -, lX, lw⟩ := T7.out.cells
      go_wp2_with fail
      refine (pick_any b _ 5 _ T7.out.rd (by omega) (by omega) (by omega)).mono ?_
      rintro e w8 ⟨z, rfl, lz, uz, r8, m8⟩
      have T8 := hide_it (T7.out.step m8 r8)
      have T9 := hide_it (T8.out.set1 z)
      clear r8 m8 c0 c1 c2 c3 f0 f1 f2 f3 lX lw
      obtain ⟨⟨c0, c1, c2, c3⟩, ⟨f0, f1, f2, f3⟩, ⟨d0, d1, d2, d3⟩, ⟨g0, g1, g2, g3⟩, lX, lw⟩ := T8.out.cells
      have hne : w.heap.size ≠ X := by have := T8.out.ne; omega
      go_wp2
      exact bodyPost_ret (v := wordV (1) (z) (1 + x3) (1 + x4)) (by simp [results, Tryz.results44, go_sem, *]) rfl ⟨_, _, _, _, rfl, by unfold Small4; omega, T9.out.done p (by omega) _ _ _ _⟩
    by_cases hy2 : y = 2
    · subst hy2
      obtain ⟨⟨c0, c1, c2, c3⟩, ⟨f0, f1, f2, f3⟩, -, -, lX, lw⟩ := T7.out.cells
      go_wp2_with fail
      refine (pick_any b _ 8 _ T7.out.rd (by omega) (by omega) (by omega)).mono ?_
      rintro e w8 ⟨z, rfl, lz, uz, r8, m8⟩
      have T8 := hide_it (T7.out.step m8 r8)
      have T9 := hide_it (T8.out.set2 z)
      clear r8 m8 c0 c1 c2 c3 f0 f1 f2 f3 lX lw
      obtain ⟨⟨c0, c1, c2, c3⟩, ⟨f0, f1, f2, f3⟩, ⟨d0, d1, d2, d3⟩, ⟨g0, g1, g2, g3⟩, lX, lw⟩ := T8.out.cells
      have hne : w.heap.size ≠ X := by have := T8.out.ne; omega
      go_wp2
      exact bodyPost_ret (v := wordV (1) (1 + x2) (z) (1 + x4)) (by simp [results, Tryz.results44, go_sem, *]) rfl ⟨_, _, _, _, rfl, by unfold Small4; omega, T9.out.done p (by omega) _ _ _ _⟩
    by_cases hy3 : y = 3
    · subst hy3
      obtain ⟨⟨c0, c1, c2, c3⟩, ⟨f0, f1, f2, f3⟩, -, -, lX, lw⟩ := T7.out.cells
      go_wp2_with fail
      refine (pick_any b _ 5 _ T7.out.rd (by omega) (by omega) (by omega)).mono ?_
      rintro e w8 ⟨z, rfl, lz, uz, r8, m8⟩
      have T8 := hide_it (T7.out.step m8 r8)
      have T9 := hide_it (T8.out.set3 z)
      clear r8 m8 c0 c1 c2 c3 f0 f1 f2 f3 lX lw
      obtain ⟨⟨c0, c1, c2, c3⟩, ⟨f0, f1, f2, f3⟩, ⟨d0, d1, d2, d3⟩, ⟨g0, g1, g2, g3⟩, lX, lw⟩ := T8.out.cells
      have hne : w.heap.size ≠ X := by have := T8.out.ne; omega
      go_wp2
      exact bodyPost_ret (v := wordV (1) (1 + x2) (1 + x3) (z)) (by simp [results, Tryz.results44, go_sem, *]) rfl ⟨_, _, _, _, rfl, by unfold Small4; omega, T9.out.done p (by omega) _ _ _ _⟩
    obtain ⟨⟨c0, c1, c2, c3⟩, ⟨f0, f1, f2, f3⟩, ⟨d0, d1, d2, d3⟩, ⟨g0, g1, g2, g3⟩, lX, lw⟩ := T7.out.cells
    have hne : w.heap.size ≠ X := by have := T7.out.ne; omega
    go_wp2
    exact bodyPost_ret (v := wordV (1) (1 + x2) (1 + x3) (1 + x4)) (by simp [results, Tryz.results44, go_sem, *]) rfl ⟨_, _, _, _, rfl, by unfold Small4; omega, T7.out.done p (by omega) _ _ _ _⟩
  · obtain ⟨w4, hw4⟩ : ∃ W, Hid (W = w3.alloc (.cells #[.int .i64 (1 + x1), .int .i64 (1 + x2), .int .i64 (1 + x3), .int .i64 0] 35)) := ⟨_, rfl⟩
    obtain ⟨X, hX⟩ : ∃ X, Hid (X = w3.heap.size) := ⟨_, rfl⟩
    have T4 : Hid (StW w w4 b (p + 3) X (1 + x1) (1 + x2) (1 + x3) 0) := by show StW _ _ _ _ _ _ _ _ _; rw [hw4.out, hX.out]; exact StW.start _ _ _ _ S3.out R3.out hlt M3.out
    clear M3 S3 R3 M2 S2 R2 M1 S1 R1 M0 S0 R0
    have hx1' : ¬ (1 + x1 = 1) := by omega
    go_wp2_with fail
    rw [← hw4.out, ← hX.out]
    refine (pick_any b (p + 3) 20 _ T4.out.rd (by omega) (by omega) (by omega)).mono ?_
    rintro e w7 ⟨y, rfl, ly, uy, r7, m7⟩
    have T7 := hide_it (T4.out.step m7 r7)
    clear r7 m7 T4 hw4
    by_cases hy0 : y = 0
    · subst hy0
      obtain ⟨⟨c0, c1, c2, c3⟩, ⟨f0, f1, f2, f3⟩, -, -, lX, lw⟩ := T7.out.cells
      go_wp2_with fail
      refine (pick_any b _ 9 _ T7.out.rd (by omega) (by omega) (by omega)).mono ?_
      rintro e w8 ⟨z, rfl, lz, uz, r8, m8⟩
      have T8 := hide_it (T7.out.step m8 r8)
      have T9 := hide_it (T8.out.set0 z)
      clear r8 m8 c0 c1 c2 c3 f0 f1 f2 f3 lX lw
      obtain ⟨⟨c0, c1, c2, c3⟩, ⟨f0, f1, f2, f3⟩, ⟨d0, d1, d2, d3⟩, ⟨g0, g1, g2, g3⟩, lX, lw⟩ := T8.out.cells
      have hne : w.heap.size ≠ X := by have := T8.out.ne; omega
      go_wp2
      exact bodyPost_ret (v := wordV (z) (1 + x2) (1 + x3) (0)) (by simp [results, Tryz.results44, go_sem, *]) rfl ⟨_, _, _, _, rfl, by unfold Small4; omega, T9.out.done p (by omega) _ _ _ _⟩
    by_cases hy1 : y = 1
    · subst hy1
      obtain ⟨⟨c0, c1, c2, c3⟩, ⟨f0, f1, f2, f3⟩, -, -, lX, lw⟩ := T7.out.cells
      go_wp2_with fail
      refine (pick_any b _ 5 _ T7.out.rd (by omega) (by omega) (by omega)).mono ?_
      rintro e w8 ⟨z, rfl, lz, uz, r8, m8⟩
      have T8 := hide_it (T7.out.step m8 r8)
      have T9 := hide_it (T8.out.set1 z)
      clear r8 m8 c0 c1 c2 c3 f0 f1 f2 f3 lX lw
      obtain ⟨⟨c0, c1, c2, c3⟩, ⟨f0, f1, f2, f3⟩, ⟨d0, d1, d2, d3⟩, ⟨g0, g1, g2, g3⟩, lX, lw⟩ := T8.out.cells
      have hne : w.heap.size ≠ X := by have := T8.out.ne; omega
      go_wp2
      exact bodyPost_ret (v := wordV (1 + x1) (z) (1 + x3) (0)) (by simp [results, Tryz.results44, go_sem, *]) rfl ⟨_, _, _, _, rfl, by unfold Small4; omega, T9.out.done p (by omega) _ _ _ _⟩
    by_cases hy2 : y = 2
    · subst hy2
      obtain ⟨⟨c0, c1, c2, c3⟩, ⟨f0, f1, f2, f3⟩, -, -, lX, lw⟩ := T7.out.cells
      go_wp2_with fail
      refine (pick_any b _ 8 _ T7.out.rd (by omega) (by omega) (by omega)).mono ?_
      rintro e w8 ⟨z, rfl, lz, uz, r8, m8⟩
      have T8 := hide_it (T7.out.step m8 r8)
      have T9 := hide_it (T8.out.set2 z)
      clear r8 m8 c0 c1 c2 c3 f0 f1 f2 f3 lX lw
      obtain ⟨⟨c0, c1, c2, c3⟩, ⟨f0, f1, f2, f3⟩, ⟨d0, d1, d2, d3⟩, ⟨g0, g1, g2, g3⟩, lX, lw⟩ := T8.out.cells
      have hne : w.heap.size ≠ X := by have := T8.out.ne; omega
      go_wp2
      exact bodyPost_ret (v := wordV (1 + x1) (1 + x2) (z) (0)) (by simp [results, Tryz.results44, go_sem, *]) rfl ⟨_, _, _, _, rfl, by unfold Small4; omega, T9.out.done p (by omega) _ _ _ _⟩
    by_cases hy3 : y = 3
    · subst hy3
      obtain ⟨⟨c0, c1, c2, c3⟩, ⟨f0, f1, f2, f3⟩, -, -, lX, lw⟩ := T7.out.cells
      go_wp2_with fail
      refine (pick_any b _ 5 _ T7.out.rd (by omega) (by omega) (by omega)).mono ?_
      rintro e w8 ⟨z, rfl, lz, uz, r8, m8⟩
      have T8 := hide_it (T7.out.step m8 r8)
      have T9 := hide_it (T8.out.set3 z)
      clear r8 m8 c0 c1 c2 c3 f0 f1 f2 f3 lX lw
      obtain ⟨⟨c0, c1, c2, c3⟩, ⟨f0, f1, f2, f3⟩, ⟨d0, d1, d2, d3⟩, ⟨g0, g1, g2, g3⟩, lX, lw⟩ := T8.out.cells
      have hne : w.heap.size ≠ X := by have := T8.out.ne; omega
      go_wp2
      exact bodyPost_ret (v := wordV (1 + x1) (1 + x2) (1 + x3) (z)) (by simp [results, Tryz.results44, go_sem, *]) rfl ⟨_, _, _, _, rfl, by unfold Small4; omega, T9.out.done p (by omega) _ _ _ _⟩
    obtain ⟨⟨c0, c1, c2, c3⟩, ⟨f0, f1, f2, f3⟩, ⟨d0, d1, d2, d3⟩, ⟨g0, g1, g2, g3⟩, lX, lw⟩ := T7.out.cells
    have hne : w.heap.size ≠ X := by have := T7.out.ne; omega
    go_wp2
    exact bodyPost_ret (v := wordV (1 + x1) (1 + x2) (1 + x3) (0)) (by simp [results, Tryz.results44, go_sem, *]) rfl ⟨_, _, _, _, rfl, by unfold Small4; omega, T7.out.done p (by omega) _ _ _ _⟩

end Go.Proofs.YthllcffmpeopcaaGreatDoor

namespace Go.Proofs.YthllcffmpeopcaaGreatDoor

/-- An operation is taken first, its slot written out. -/
theorem takeD {P : Program} {md : Region.Mode} {ops : Array Oper} {Q : Exit → Act → World → Prop} {S : World → Prop} {i : Nat} {oi : Oper} {v : Value} {fuel : Nat} {listed : Array Bool} {a : Act} {w : World} (d : Option Nat) (hi : ops[i]? = some oi) (hd : oi.dst = d)
    (hs : Region.noSelect ops = true) (hf : Region.free md ops listed i = true) (hr : (Region.ready md ops listed).contains i = true)
    (hQ : ∀ c a w, Q (.panic c) (a.put d v) w → Q (.panic c) a w) (hw : Region.wanted oi (yielded ops a.tmps) = true) (hS : S w) (hy : ∀ w, S w → (execOp a.eval oi).run P w = .ok (.value v) w)
    (h : wpAnyH P md ops Q S fuel (listed.setIfInBounds i true) (a.put d v) w) : wpAnyH P md ops Q S (fuel + 1) listed a w := by
  subst hd
  exact wpAnyH_take hi hs hf hr hQ (Or.inl ⟨hw, hy⟩) hS h

/-- An operation that its guard passes over is taken first, its slot written out. -/
theorem skipD {P : Program} {md : Region.Mode} {ops : Array Oper} {Q : Exit → Act → World → Prop} {S : World → Prop} {i : Nat} {oi : Oper} {fuel : Nat} {listed : Array Bool} {a : Act} {w : World} (d : Option Nat) (hi : ops[i]? = some oi) (hd : oi.dst = d)
    (hs : Region.noSelect ops = true) (hf : Region.free md ops listed i = true) (hr : (Region.ready md ops listed).contains i = true)
    (hQ : ∀ c a w, Q (.panic c) (a.put d undef) w → Q (.panic c) a w) (hw : Region.wanted oi (yielded ops a.tmps) = false) (hS : S w)
    (h : wpAnyH P md ops Q S fuel (listed.setIfInBounds i true) (a.put d undef) w) : wpAnyH P md ops Q S (fuel + 1) listed a w := by
  subst hd
  exact wpAnyH_take hi hs hf hr hQ (Or.inr ⟨hw, rfl⟩) hS h

/-- What holds behind every operation may be weakened. -/
theorem heldMono {P : Program} {md : Region.Mode} {ops : Array Oper} {Q : Exit → Act → World → Prop} {S S2 : World → Prop} (hS : ∀ w, S2 w → S w) :
    ∀ (fuel : Nat) (listed : Array Bool) (a : Act) (w : World), wpAnyH P md ops Q S2 fuel listed a w → wpAnyH P md ops Q S fuel listed a w
  | 0, _, _, _, h => h
  | fuel + 1, _, _, _, h => ⟨h.1, fun i hi => wpOp_mono (fun a' w' h' => ⟨hS _ h'.1, heldMono hS fuel _ a' w' h'.2⟩) (h.2 i hi)⟩

end Go.Proofs.YthllcffmpeopcaaGreatDoor
