/- What the last text of this claim stands on, part 4: plain facts and contracts; the last text says what is proved. -/
import Derived.Test.YtcofnjooiemkfaaDoorBase3
import Derived.Deep.DeepCutAuto
import Derived.Deep.RegionLawGrows
import Derived.Deep.RegionHeldLaw
import Derived.Deep.CutBlock

namespace Go.Proofs.YtcofnjooiemkfaaDoor
open Go.RowKit

set_option maxRecDepth 100000 in
set_option maxHeartbeats 4000000 in
theorem many_draw (b p : Nat) (w : World) (h : Rd w b p) (hp : p ≤ 900000) :
    Calls Tryd.prog 40 #[.pointer (some ⟨b, 0, none⟩)] w fun e w' => ∃ u zs q, e = .returned u ∧ zs.length ≤ 3 ∧ Fresh w' w.heap.size u zs zs.length ∧ p ≤ q ∧ q ≤ p + 8 ∧ Rd w' b q ∧ Mid b (b + 1) w w' := by
  have hblt := h.lt
  have HR := hide_it h
  clear h
  go_enter Tryd.func40, Tryd.ntmps40
  go_wp2_with fail
  refine (pick_any b p 3 w HR.out (by omega) (by omega) (by omega)).mono ?_
  rintro e w1 ⟨x1, rfl, l1, u1, r1, m1⟩
  have HR1 := hide_it r1
  have HM1 := hide_it m1
  clear r1 m1
  go_wp2_with fail
  refine (pick_any b (p + 1) 3 w1 HR1.out (by omega) (by omega) (by omega)).mono ?_
  rintro e w2 ⟨x2, rfl, l2, u2, r2, m2⟩
  have HR2 := hide_it r2
  have HM2 := hide_it (HM1.out.trans m2)
  clear r2 m2 HR1 HM1
  go_wp2_with fail
  refine (pick_any b (p + 1 + 1) 3 w2 HR2.out (by omega) (by omega) (by omega)).mono ?_
  rintro e w3 ⟨x3, rfl, l3, u3, r3, m3⟩
  have HR3 := hide_it r3
  have HM3 := hide_it (HM2.out.trans m3)
  have hs3 : w.heap.size ≤ w3.heap.size := HM3.out.size
  clear r3 m3 HR2 HM2
  go_wp2_with fail
  go_quiet (fail)
  go_upto_if 22 with fail
  go_cut [3] (fun o W => ∃ g a0 a1 a2 q, o = .slice (some ⟨g, 0, none⟩) 3 3 ∧ p ≤ q ∧ q ≤ p + 4 ∧ Hid (StM w W b q g a0 a1 a2))
  case first =>
    go_wp2_with fail
    · refine (pick_any b (p + 1 + 1 + 1) 3 _ ((HR3.out.alloc _).drewN _) (by omega) (by omega) (by omega)).mono ?_
      rintro e w4 ⟨x4, rfl, l4, u4, r4, m4⟩
      have S4 : Hid (StM w w4 b (p + 4) w3.heap.size x1 x2 x3) := ⟨((Row3.new w3 x1 x2 x3).drewN _).mid m4 (by omega), hs3, by omega, r4, ((HM3.out.alloc _).drewN _).trans m4⟩
      clear r4 m4
      obtain ⟨c0, c1, c2, f0, f1, f2⟩ := S4.out.1.cells
      rcases three l4 u4 with rfl | rfl | rfl
      · go_wp2_with fail
        go_meet
        case rel => exact ⟨w3.heap.size, 1, x2, x3, p + 4, rfl, by omega, by omega, S4.out.1.set0 1, hs3, by omega, S4.out.2.2.2.1.setApart (by omega) _, S4.out.2.2.2.2.setNew hs3 _⟩
      · go_wp2_with fail
        go_meet
        case rel => exact ⟨w3.heap.size, x1, 1, x3, p + 4, rfl, by omega, by omega, S4.out.1.set1 1, hs3, by omega, S4.out.2.2.2.1.setApart (by omega) _, S4.out.2.2.2.2.setNew hs3 _⟩
      · go_wp2_with fail
        go_meet
        case rel => exact ⟨w3.heap.size, x1, x2, 1, p + 4, rfl, by omega, by omega, S4.out.1.set2 1, hs3, by omega, S4.out.2.2.2.1.setApart (by omega) _, S4.out.2.2.2.2.setNew hs3 _⟩
    · go_meet
      case rel => exact ⟨w3.heap.size, x1, x2, x3, p + 3, rfl, by omega, by omega, (Row3.new w3 x1 x2 x3).drewN _, hs3, by omega, (HR3.out.alloc _).drewN _, (HM3.out.alloc _).drewN _⟩
  case rest =>
    obtain ⟨g, a0, a1, a2, q, rfl, hq0, hq1, HS⟩ := hcut
    clear HR HR3 HM3 hs3 l1 l2 l3 u1 u2 u3
    have hgb : b < g := HS.out.2.2.1
    have hwg : w.heap.size ≤ g := HS.out.2.1
    go_wp2_with fail
    refine (pick_any b q 24 _ HS.out.2.2.2.1 (by omega) (by omega) (by omega)).mono ?_
    rintro e w5 ⟨y, rfl, ly, uy, r5, m5⟩
    have S5 : Hid (StM w w5 b (q + 1) g a0 a1 a2) := ⟨HS.out.1.mid m5 hgb, hwg, hgb, r5, HS.out.2.2.2.2.trans m5⟩
    clear r5 m5 HS
    obtain ⟨c0, c1, c2, f0, f1, f2⟩ := S5.out.1.cells
    by_cases y0 : y = 0
    · subst y0
      go_wp2_with fail
      refine (pick_any b (q + 1) 3 _ S5.out.2.2.2.1 (by omega) (by omega) (by omega)).mono ?_
      rintro e w6 ⟨z, rfl, lz, uz, r6, m6⟩
      have S6 : Hid (StM w w6 b (q + 2) g a0 a1 a2) := ⟨S5.out.1.mid m6 hgb, hwg, hgb, r6, S5.out.2.2.2.2.trans m6⟩
      clear r6 m6 S5 c0 c1 c2 f0 f1 f2
      have hs6 : g < w6.heap.size := S6.out.1.lt
      go_wp2_with fail
      refine (pick_any b (q + 2) 3 _ (S6.out.2.2.2.1.alloc _) (by omega) (by omega) (by omega)).mono ?_
      rintro e w7 ⟨t, rfl, lt, ut, r7, m7⟩
      have S7 : Hid (StM w w7 b (q + 3) g a0 a1 a2) := ⟨(S6.out.1.later (alloc_below _ _) (Nat.le_refl _)).mid m7 hgb, hwg, hgb, r7, (S6.out.2.2.2.2.alloc _).trans m7⟩
      have N7 : Hid (Row3 w7 w6.heap.size (-1) 3 4) := (Row3.new w6 (-1) 3 4).mid m7 (by omega)
      clear r7 m7 S6
      obtain ⟨c0, c1, c2, f0, f1, f2⟩ := S7.out.1.cells
      obtain ⟨d0, d1, d2, _, _, _⟩ := N7.out.cells
      rcases three lz uz with rfl | rfl | rfl
      · rcases three lt ut with rfl | rfl | rfl
        all_goals
          go_wp2
          go_ret
          exact ⟨_, [_, _, _], q + 3, rfl, by simp, (S7.out.1.set0 _).fresh hwg, by omega, by omega, S7.out.2.2.2.1.setApart (by omega) _, S7.out.2.2.2.2.setNew hwg _⟩
      · rcases three lt ut with rfl | rfl | rfl
        all_goals
          go_wp2
          go_ret
          exact ⟨_, [_, _, _], q + 3, rfl, by simp, (S7.out.1.set1 _).fresh hwg, by omega, by omega, S7.out.2.2.2.1.setApart (by omega) _, S7.out.2.2.2.2.setNew hwg _⟩
      · rcases three lt ut with rfl | rfl | rfl
        all_goals
          go_wp2
          go_ret
          exact ⟨_, [_, _, _], q + 3, rfl, by simp, (S7.out.1.set2 _).fresh hwg, by omega, by omega, S7.out.2.2.2.1.setApart (by omega) _, S7.out.2.2.2.2.setNew hwg _⟩
    by_cases y1 : y = 1
    · subst y1
      go_wp2
      go_ret
      exact ⟨_, [a1, a2], q + 1, rfl, by simp, S5.out.1.fresh1 hwg, by omega, by omega, S5.out.2.2.2.1, S5.out.2.2.2.2⟩
    by_cases y2 : y = 2
    · subst y2
      have hs5 : g < w5.heap.size := S5.out.1.lt
      go_wp2
      go_ret
      exact ⟨_, [0, 0, 0], q + 1, rfl, by simp, (Row3.new w5 0 0 0).fresh (by omega), by omega, by omega, S5.out.2.2.2.1.alloc _, S5.out.2.2.2.2.alloc _⟩
    go_wp2
    go_ret
    exact ⟨_, [a0, a1, a2], q + 1, rfl, by simp, S5.out.1.fresh hwg, by omega, by omega, S5.out.2.2.2.1, S5.out.2.2.2.2⟩

end Go.Proofs.YtcofnjooiemkfaaDoor

namespace Go.Proofs.YtcofnjooiemkfaaDoor
open Go.RowKit

/-- What lies there while a record is drawn: the result's block, the record's own, its numbers, the reader. -/
structure StR (w W : World) (b q X : Nat) (k t : Int) (u : Value) (zs : List Int) : Prop where
  own : W.heap[X]? = some (.cells #[.int .i64 k, .int .i64 t, u] 28 (0, 0))
  res : W.heap[w.heap.size]? = some (.cells #[.int .i64 0, .int .i64 0, .slice none 0 0] 28 (0, 0))
  lt : w.heap.size < X
  many : Fresh W w.heap.size u zs zs.length
  few : zs.length ≤ 3
  rd : Rd W b q
  mid : Mid b (b + 1) w W
  low : b < w.heap.size

theorem row_later {W W' : World} {X B : Nat} {o : Obj} (h : W.heap[X]? = some o) (hb : Below B W W') (hB : W.heap.size ≤ B) : W'.heap[X]? = some o := by
  rw [hb.block X (by have := heap_lt h; omega)]; exact h
theorem row_mid {W W' : World} {X b : Nat} {o : Obj} (h : W.heap[X]? = some o) (hb : Mid b (b + 1) W W') (hx : b < X) : W'.heap[X]? = some o := by
  rw [hb.block X (heap_lt h) (Or.inr (by omega))]; exact h

theorem StR.step {w W W' : World} {b q q' X : Nat} {k t : Int} {u : Value} {zs : List Int} (h : StR w W b q X k t u zs) (hb : Mid b (b + 1) W W') (hr : Rd W' b q') : StR w W' b q' X k t u zs :=
  ⟨row_mid h.own hb (by have := h.lt; have := h.low; omega), row_mid h.res hb h.low, h.lt, h.many.mid h.rd hb, h.few, hr, h.mid.trans hb, h.low⟩
theorem StR.later {w W W' : World} {b q X : Nat} {k t : Int} {u : Value} {zs : List Int} (h : StR w W b q X k t u zs) (hb : Below W.heap.size W W') : StR w W' b q X k t u zs :=
  h.step (Mid.of_below hb (Nat.le_refl _)) (h.rd.later hb (Nat.le_refl _))
theorem StR.cells {w W : World} {b q X : Nat} {k t : Int} {u : Value} {zs : List Int} (h : StR w W b q X k t u zs) :
    (W.cell? ⟨X, 0, none⟩ = some (.int .i64 k) ∧ W.cell? ⟨X, 1, none⟩ = some (.int .i64 t) ∧ W.cell? ⟨X, 2, none⟩ = some u ∧
    W.frozen? ⟨X, 0, none⟩ = false ∧ W.frozen? ⟨X, 1, none⟩ = false ∧ W.frozen? ⟨X, 2, none⟩ = false) ∧
    (W.cell? ⟨w.heap.size, 0, none⟩ = some (.int .i64 0) ∧ W.cell? ⟨w.heap.size, 1, none⟩ = some (.int .i64 0) ∧ W.cell? ⟨w.heap.size, 2, none⟩ = some (.slice none 0 0) ∧
    W.frozen? ⟨w.heap.size, 0, none⟩ = false ∧ W.frozen? ⟨w.heap.size, 1, none⟩ = false ∧ W.frozen? ⟨w.heap.size, 2, none⟩ = false) := by
  refine ⟨⟨?_, ?_, ?_, frozen_of_row W _ _ _ _ h.own, frozen_of_row W _ _ _ _ h.own, frozen_of_row W _ _ _ _ h.own⟩, ⟨?_, ?_, ?_, frozen_of_row W _ _ _ _ h.res, frozen_of_row W _ _ _ _ h.res, frozen_of_row W _ _ _ _ h.res⟩⟩
  · rw [cell_of_row W _ _ _ _ _ h.own]; rfl
  · rw [cell_of_row W _ _ _ _ _ h.own]; rfl
  · rw [cell_of_row W _ _ _ _ _ h.own]; rfl
  · rw [cell_of_row W _ _ _ _ _ h.res]; rfl
  · rw [cell_of_row W _ _ _ _ _ h.res]; rfl
  · rw [cell_of_row W _ _ _ _ _ h.res]; rfl
theorem StR.set0 {w W : World} {b q X : Nat} {k t : Int} {u : Value} {zs : List Int} (h : StR w W b q X k t u zs) (x : Int) : StR w (W.setCell ⟨X, 0, none⟩ (.int .i64 x)) b q X x t u zs :=
  have hl := h.lt
  have hw := h.low
  ⟨by rw [heap_setCell_same W X 0 _ _ _ h.own]; simp, by rw [Below.heap_setCell _ _ _ _ (by simp; omega)]; exact h.res, hl, h.many.set h.own (by decide) _, h.few, h.rd.setApart (by omega) _, h.mid.setNew (by omega) _, hw⟩
theorem StR.set1 {w W : World} {b q X : Nat} {k t : Int} {u : Value} {zs : List Int} (h : StR w W b q X k t u zs) (x : Int) : StR w (W.setCell ⟨X, 1, none⟩ (.int .i64 x)) b q X k x u zs :=
  have hl := h.lt
  have hw := h.low
  ⟨by rw [heap_setCell_same W X 1 _ _ _ h.own]; simp, by rw [Below.heap_setCell _ _ _ _ (by simp; omega)]; exact h.res, hl, h.many.set h.own (by decide) _, h.few, h.rd.setApart (by omega) _, h.mid.setNew (by omega) _, hw⟩
theorem StR.set2 {w W : World} {b q X : Nat} {k t : Int} {u u' : Value} {zs zs' : List Int} (h : StR w W b q X k t u zs) (hm : Fresh W w.heap.size u' zs' zs'.length) (hf : zs'.length ≤ 3) : StR w (W.setCell ⟨X, 2, none⟩ u') b q X k t u' zs' :=
  have hl := h.lt
  have hw := h.low
  ⟨by rw [heap_setCell_same W X 2 _ _ _ h.own]; simp, by rw [Below.heap_setCell _ _ _ _ (by simp; omega)]; exact h.res, hl, hm.set h.own (by decide) _, hf, h.rd.setApart (by omega) _, h.mid.setNew (by omega) _, hw⟩
theorem one_fresh (W : World) (lo : Nat) (x : Int) (h : lo ≤ W.heap.size) : Fresh (W.alloc (.cells #[.int .i64 x] 3)) lo (.slice (some ⟨W.heap.size, 0, none⟩) 1 1) [x] 1 :=
  ⟨W.heap.size, 0, _, rfl, h, heap_alloc_new W _, fun k hk => by match k, hk with | 0, _ => rfl⟩

theorem StR.new2 {w W : World} {b q X : Nat} {k t : Int} {u : Value} {zs : List Int} (h : StR w W b q X k t u zs) (x : Int) : StR w ((W.setCell ⟨X, 2, none⟩ (.slice (some ⟨W.heap.size, 0, none⟩) 1 1)).alloc (.cells #[.int .i64 x] 3)) b q X k t (.slice (some ⟨W.heap.size, 0, none⟩) 1 1) [x] := by
  have hl := h.lt
  have hw := h.low
  have hX := heap_lt h.own
  have hn := heap_alloc_new (W.setCell ⟨X, 2, none⟩ (.slice (some ⟨W.heap.size, 0, none⟩) 1 1)) (.cells #[.int .i64 x] 3)
  rw [show (W.setCell ⟨X, 2, none⟩ (.slice (some ⟨W.heap.size, 0, none⟩) 1 1)).heap.size = W.heap.size by simp] at hn
  refine ⟨?_, ?_, hl, ⟨W.heap.size, 0, _, rfl, by omega, hn, fun k hk => by match k, hk with | 0, _ => rfl⟩, by simp, (h.rd.setApart (by omega) _).alloc _, (h.mid.setNew (by omega) _).alloc _, hw⟩
  · rw [Below.heap_alloc _ _ _ (by simp; omega), heap_setCell_same W X 2 _ _ _ h.own]; simp
  · rw [Below.heap_alloc _ _ _ (by simp; omega), Below.heap_setCell _ _ _ _ (by simp; omega)]; exact h.res

/-- What is left of it when the record is handed back. -/
structure StO (w W : World) (b q : Nat) (u : Value) (zs : List Int) (cap : Nat) : Prop where
  res : ∃ cs, W.heap[w.heap.size]? = some (.cells cs 28 (0, 0))
  many : Fresh W w.heap.size u zs cap
  rd : Rd W b q
  mid : Mid b (b + 1) w W
  low : b < w.heap.size
theorem StR.out {w W : World} {b q X : Nat} {k t : Int} {u : Value} {zs : List Int} (h : StR w W b q X k t u zs) : StO w W b q u zs zs.length := ⟨⟨_, h.res⟩, h.many, h.rd, h.mid, h.low⟩
theorem StO.set {w W : World} {b q : Nat} {u : Value} {zs : List Int} {cap : Nat} (h : StO w W b q u zs cap) (i : Nat) (x : Value) : StO w (W.setCell ⟨w.heap.size, i, none⟩ x) b q u zs cap := by
  obtain ⟨cs, hr⟩ := h.res
  exact ⟨⟨_, heap_setCell_same W _ i _ _ _ hr⟩, h.many.set hr (by decide) _, h.rd.setApart h.low _, h.mid.setNew (Nat.le_refl _) _, h.low⟩

theorem own_fresh {W : World} {base lo n : Nat} {v : Value} {zs : List Int} (h : W.ownsRow base 3 1 v n (zs.map (Value.int .i64))) (hn : 0 < n) (hl : lo ≤ base) : ∃ g cap, v = .slice (some ⟨g, 0, none⟩) zs.length cap ∧ Fresh W lo v zs cap := by
  obtain ⟨h1, h2⟩ := h
  rcases h2 with ⟨_, h0⟩ | ⟨g, cap, cur, hv, hg, hh, _, _, hc, ht⟩
  · omega
  · have hzl : zs.length = n := by simpa using h1
    refine ⟨g, cap, by rw [hzl]; exact hv, g, 0, cur, by rw [hzl]; exact hv, by omega, hh, fun k hk => ?_⟩
    have e : (cur.toList.take (n * 1))[k]? = (zs.map (Value.int .i64))[k]? := by rw [ht]
    rw [List.getElem?_take, if_pos (by omega)] at e
    rw [Nat.zero_add, ← Array.getElem?_toList, e]
    simp [List.getD_eq_getElem?_getD, hk]
theorem StO.setX {w W : World} {b q X i : Nat} {cs : Array Value} {u : Value} {zs : List Int} {cap : Nat} (h : StO w W b q u zs cap) (hX : W.heap[X]? = some (.cells cs 28 (0, 0))) (hl : w.heap.size < X) (x : Value) : StO w (W.setCell ⟨X, i, none⟩ x) b q u zs cap := by
  obtain ⟨cr, hr⟩ := h.res
  have hw := h.low
  exact ⟨⟨cr, by rw [Below.heap_setCell _ _ _ _ (by simp; omega)]; exact hr⟩, h.many.set hX (by decide) _, h.rd.setApart (by omega) _, h.mid.setNew (by omega) _, hw⟩
theorem fresh_cells {W : World} {lo g off : Nat} {zs : List Int} {cap : Nat} (h : Fresh W lo (.slice (some ⟨g, off, none⟩) zs.length cap) zs cap) (j : Nat) (u : Value) (hj : (zs.map (Value.int .i64))[j]? = some u) : W.cell? ((⟨g, off, none⟩ : Addr).add j) = some u := by
  obtain ⟨g', off', cs, hu, _, hh, hc⟩ := h
  simp at hu
  obtain ⟨rfl, rfl⟩ := hu
  have hjl : j < zs.length := by
    by_cases e : j < zs.length
    · exact e
    · rw [List.getElem?_eq_none (by simp; omega)] at hj; cases hj
  rw [Go.WideShapes.add_plain, cell_of_row W _ _ _ _ _ hh, hc j hjl, ← hj]
  simp [List.getD_eq_getElem?_getD, hjl]

set_option maxRecDepth 100000 in
set_option maxHeartbeats 4000000 in
theorem rec_draw (b p : Nat) (w : World) (h : Rd w b p) (hp : p ≤ 800000) :
    Calls Tryd.prog 30 #[.pointer (some ⟨b, 0, none⟩)] w fun e w' => ∃ k t u zs q cap, e = .returned (.agg #[.int .i64 k, .int .i64 t, u]) ∧ zs.length ≤ 4 ∧ Fresh w' w.heap.size u zs cap ∧ p ≤ q ∧ q ≤ p + 14 ∧ Rd w' b q ∧ Mid b (b + 1) w w' := by
  have hblt := h.lt
  have HR := hide_it h
  clear h
  go_enter Tryd.func30, Tryd.ntmps30
  go_wp2_with fail
  refine (pick_any b p 7 _ (HR.out.alloc _) (by omega) (by omega) (by omega)).mono ?_
  rintro e w1 ⟨x1, rfl, l1, u1, r1, m1⟩
  have HR1 := hide_it r1
  have H01 := hide_it (row_mid (heap_alloc_new w _) m1 hblt)
  have HM1 := hide_it (((Mid.refl b (b + 1) w).alloc _).trans m1)
  clear r1 m1
  go_wp2_with fail
  refine (pick_any b (p + 1) 4 w1 HR1.out (by omega) (by omega) (by omega)).mono ?_
  rintro e w2 ⟨x2, rfl, l2, u2, r2, m2⟩
  have HR2 := hide_it r2
  have H02 := hide_it (row_mid H01.out m2 hblt)
  have HM2 := hide_it (HM1.out.trans m2)
  have hs2 : w.heap.size < w2.heap.size := heap_lt H02.out
  clear r2 m2 HR1 HM1 H01
  have S2 : Hid (StR w ((w2.alloc (.cells #[] 3)).alloc (.cells #[.int .i64 (1 + x1), .int .i64 (1 + x2), .slice (some ⟨w2.heap.size, 0, none⟩) 0 0] 28)) b (p + 2) (w2.heap.size + 1) (1 + x1) (1 + x2) (.slice (some ⟨w2.heap.size, 0, none⟩) 0 0) []) := by
    have e1 := heap_alloc_new (w2.alloc (.cells #[] 3)) (.cells #[.int .i64 (1 + x1), .int .i64 (1 + x2), .slice (some ⟨w2.heap.size, 0, none⟩) 0 0] 28)
    rw [show (w2.alloc (.cells #[] 3)).heap.size = w2.heap.size + 1 by simp] at e1
    refine ⟨e1, ?_, by omega, ?_, by simp, (HR2.out.alloc _).alloc _, (HM2.out.alloc _).alloc _, hblt⟩
    · rw [Below.heap_alloc _ _ _ (by simp; omega), Below.heap_alloc _ _ _ (by omega)]; exact H02.out
    · refine ⟨w2.heap.size, 0, #[], rfl, by omega, ?_, fun k hk => by simp at hk⟩
      rw [Below.heap_alloc _ _ _ (by simp)]; exact heap_alloc_new w2 _
  clear HR2 HM2 H02 HR
  go_upto_block 0 with fail
  go_cut [3] (fun o W => ∃ X k t u zs q, o = .pointer (some ⟨X, 0, none⟩) ∧ p ≤ q ∧ q ≤ p + 10 ∧ Hid (StR w W b q X k t u zs))
  case first =>
    go_wp2_with fail
    · refine (pick_any b (p + 2) 3 _ S2.out.rd (by omega) (by omega) (by omega)).mono ?_
      rintro e w3 ⟨x3, rfl, l3, u3, r3, m3⟩
      have S3 := hide_it (S2.out.step m3 r3)
      clear r3 m3 S2
      obtain ⟨⟨c0, c1, c2, f0, f1, f2⟩, _⟩ := S3.out.cells
      have hlt3 : w2.heap.size + 1 < w3.heap.size := heap_lt S3.out.own
      go_wp2_with fail
      go_meet
      case rel => exact ⟨_, _, _, _, [_], p + 3, rfl, by omega, by omega, S3.out.new2 _⟩
    · refine (many_draw b (p + 2) _ S2.out.rd (by omega)).mono ?_
      rintro e w3 ⟨u, zs, q, rfl, hz, hF, hq0, hq1, r3, m3⟩
      have S3 := hide_it (S2.out.step m3 r3)
      have F3 := hide_it (hF.mono (lo' := w.heap.size) (by simp; omega))
      obtain ⟨g, off, hu⟩ : ∃ g off, u = .slice (some ⟨g, off, none⟩) zs.length zs.length := by obtain ⟨g, off, cs, h, _⟩ := hF; exact ⟨g, off, h⟩
      subst hu
      clear r3 m3 S2 hF
      obtain ⟨⟨c0, c1, c2, f0, f1, f2⟩, _⟩ := S3.out.cells
      go_wp2_with fail
      go_meet
      case rel => exact ⟨_, _, _, _, zs, q, rfl, by omega, by omega, S3.out.set2 F3.out hz⟩
    · go_meet
      case rel => exact ⟨_, _, _, _, [], p + 2, rfl, by omega, by omega, S2.out⟩
  case rest =>
    obtain ⟨X, k, t, u, zs, q, rfl, hq0, hq1, HS⟩ := hcut
    clear S2 l1 l2 u1 u2 hs2
    have hX := HS.out.lt
    go_wp2_with fail
    refine (pick_any b q 20 _ HS.out.rd (by omega) (by omega) (by omega)).mono ?_
    rintro e w4 ⟨y, rfl, ly, uy, r4, m4⟩
    have S4 := hide_it (HS.out.step m4 r4)
    clear r4 m4 HS
    have hf : zs.length ≤ 3 := S4.out.few
    obtain ⟨g, off, hu⟩ : ∃ g off, u = .slice (some ⟨g, off, none⟩) zs.length zs.length := by obtain ⟨g, off, cs, h, _⟩ := S4.out.many; exact ⟨g, off, h⟩
    subst hu
    by_cases y0 : y = 0
    · subst y0
      go_wp2_with fail
      refine (pick_any b (q + 1) 9 _ S4.out.rd (by omega) (by omega) (by omega)).mono ?_
      rintro e w5 ⟨z, rfl, lz, uz, r5, m5⟩
      have S5 := hide_it (S4.out.step m5 r5)
      clear r5 m5 S4
      obtain ⟨⟨c0, c1, c2, f0, f1, f2⟩, ⟨d0, d1, d2, e0, e1, e2⟩⟩ := S5.out.cells
      have hXn : X ≠ w.heap.size := by omega
      go_wp2
      refine bodyPost_ret (v := .agg #[.int .i64 z, .int .i64 t, .slice (some ⟨g, off, none⟩) zs.length zs.length]) (by simp [results, Tryd.results30, go_sem, d0, d1, d2]) rfl ⟨z, t, _, zs, q + 2, zs.length, rfl, by omega, ?_⟩
      have R := (((S5.out.set0 z).out.set 0 (.int .i64 z)).set 1 (.int .i64 t)).set 2 (.slice (some ⟨g, off, none⟩) zs.length zs.length)
      exact ⟨R.many, by omega, by omega, R.rd, R.mid⟩
    by_cases y1 : y = 1
    · subst y1
      go_wp2_with fail
      refine (pick_any b (q + 1) 3 _ (S4.out.later (alloc_below _ _)).rd (by omega) (by omega) (by omega)).mono ?_
      rintro e w5 ⟨z, rfl, lz, uz, r5, m5⟩
      have S5 := hide_it ((S4.out.later (alloc_below _ _)).step m5 r5)
      have N5 : Hid (Row3 w5 w4.heap.size 0 6 7) := (Row3.new w4 0 6 7).mid m5 (by have := heap_lt S4.out.res; omega)
      clear r5 m5 S4
      obtain ⟨⟨c0, c1, c2, f0, f1, f2⟩, ⟨d0, d1, d2, e0, e1, e2⟩⟩ := S5.out.cells
      obtain ⟨n0, n1, n2, _, _, _⟩ := N5.out.cells
      have hXn : X ≠ w.heap.size := by omega
      rcases three lz uz with rfl | rfl | rfl
      · go_wp2
        refine bodyPost_ret (v := .agg #[.int .i64 k, .int .i64 0, .slice (some ⟨g, off, none⟩) zs.length zs.length]) (by simp [results, Tryd.results30, go_sem, d0, d1, d2]) rfl ⟨k, 0, _, zs, q + 2, zs.length, rfl, by omega, ?_⟩
        have R := (((S5.out.set1 0).out.set 0 (.int .i64 k)).set 1 (.int .i64 0)).set 2 (.slice (some ⟨g, off, none⟩) zs.length zs.length)
        exact ⟨R.many, by omega, by omega, R.rd, R.mid⟩
      · go_wp2
        refine bodyPost_ret (v := .agg #[.int .i64 k, .int .i64 6, .slice (some ⟨g, off, none⟩) zs.length zs.length]) (by simp [results, Tryd.results30, go_sem, d0, d1, d2]) rfl ⟨k, 6, _, zs, q + 2, zs.length, rfl, by omega, ?_⟩
        have R := (((S5.out.set1 6).out.set 0 (.int .i64 k)).set 1 (.int .i64 6)).set 2 (.slice (some ⟨g, off, none⟩) zs.length zs.length)
        exact ⟨R.many, by omega, by omega, R.rd, R.mid⟩
      · go_wp2
        refine bodyPost_ret (v := .agg #[.int .i64 k, .int .i64 7, .slice (some ⟨g, off, none⟩) zs.length zs.length]) (by simp [results, Tryd.results30, go_sem, d0, d1, d2]) rfl ⟨k, 7, _, zs, q + 2, zs.length, rfl, by omega, ?_⟩
        have R := (((S5.out.set1 7).out.set 0 (.int .i64 k)).set 1 (.int .i64 7)).set 2 (.slice (some ⟨g, off, none⟩) zs.length zs.length)
        exact ⟨R.many, by omega, by omega, R.rd, R.mid⟩
    have hXn : X ≠ w.heap.size := by omega
    by_cases y2 : y = 2
    · subst y2
      obtain ⟨⟨c0, c1, c2, f0, f1, f2⟩, ⟨d0, d1, d2, e0, e1, e2⟩⟩ := S4.out.cells
      obtain ⟨i0, hi, hz0, hz1, hz2⟩ := info_parts info3
      clear d0 d1 d2 e0 e1 e2
      go_wp2_with fail
      go_region_law
        (first
          | (go_simp; go_at_call 29; refine (pick_any b (q + 1) 5 _ (S4.out.later (by first | exact (Below.refl _ _).drew | exact (Below.refl _ _).drew.drew | exact (Below.refl _ _).drew.drew.drew)).rd (by omega) (by omega) (by omega)).mono ?_; rintro e w5 ⟨z, rfl, lz, uz, r5, m5⟩; have S5 := hide_it ((S4.out.later (by first | exact (Below.refl _ _).drew | exact (Below.refl _ _).drew.drew | exact (Below.refl _ _).drew.drew.drew)).step m5 r5); clear r5 m5 c0 c1 c2 f0 f1 f2; obtain ⟨⟨c0, c1, c2, f0, f1, f2⟩, _⟩ := S5.out.cells; have hs5 : w.heap.size < w5.heap.size := heap_lt S5.out.res; have c2a := ((S5.out.later (alloc_below w5 (.cells #[.int .i64 z] 3))).cells).1.2.2.1)
          | (refine step_append_grows rfl _ _ 26 rfl 3 i0 (.int .i64 0) 1 8 Tryd.underlying26 hi hz0 hz1 hz2 rfl (by decide) (some ⟨g, off, none⟩) zs.length zs.length (zs.map (Value.int .i64)) rfl (fun h => by cases h) (by simp) (fun a ha => by cases ha; exact fresh_cells (S5.out.later (alloc_below _ _)).many) ⟨w5.heap.size, 0, none⟩ 1 1 [.int .i64 z] rfl rfl (fun j u hj => by match j, hj with | 0, hj => simp at hj; subst hj; simp [Go.WideShapes.add_plain, go_sem]) (by simp [Value.oneCell']) (by omega) (by unfold maxLen; omega) (by omega) ?_; intro v6 w6 hown hgrow; have hown' := own_fresh (lo := w.heap.size) (zs := zs ++ [z]) (by simpa using hown) (by omega) (by first | omega | (simp; omega)); obtain ⟨g6, cap6, hv6, hF6⟩ := hown'; subst hv6; have F6 := hide_it hF6; have S6 := hide_it ((S5.out.later (alloc_below _ _)).later (grown_below hgrow)); clear hown hgrow hF6 c0 c1 c2 c2a f0 f1 f2; obtain ⟨⟨c0, c1, c2, f0, f1, f2⟩, ⟨d0, d1, d2, e0, e1, e2⟩⟩ := S6.out.cells))
      all_goals
       go_wp2
       refine bodyPost_ret (v := .agg #[.int .i64 k, .int .i64 t, .slice (some ⟨g6, 0, none⟩) (zs.length + 1) cap6]) (by simp [results, Tryd.results30, go_sem, d0, d1, d2]) rfl ⟨k, t, _, zs ++ [z], q + 2, cap6, rfl, by simp; omega, ?_⟩
       have F6' : Fresh w6 w.heap.size (.slice (some ⟨g6, 0, none⟩) (zs.length + 1) cap6) (zs ++ [z]) cap6 := by have h := F6.out; rwa [List.length_append, List.length_singleton] at h
       have R0 : StO w w6 b (q + 2) (.slice (some ⟨g6, 0, none⟩) (zs.length + 1) cap6) (zs ++ [z]) cap6 := ⟨⟨_, S6.out.res⟩, F6', S6.out.rd, S6.out.mid, S6.out.low⟩
       have R := (((R0.setX (i := 2) S6.out.own S6.out.lt (.slice (some ⟨g6, 0, none⟩) (zs.length + 1) cap6)).set 0 (.int .i64 k)).set 1 (.int .i64 t)).set 2 (.slice (some ⟨g6, 0, none⟩) (zs.length + 1) cap6)
       exact ⟨R.many, by omega, by omega, R.rd, R.mid⟩
    obtain ⟨⟨c0, c1, c2, f0, f1, f2⟩, ⟨d0, d1, d2, e0, e1, e2⟩⟩ := S4.out.cells
    go_wp2
    refine bodyPost_ret (v := .agg #[.int .i64 k, .int .i64 t, .slice (some ⟨g, off, none⟩) zs.length zs.length]) (by simp [results, Tryd.results30, go_sem, d0, d1, d2]) rfl ⟨k, t, _, zs, q + 1, zs.length, rfl, by omega, ?_⟩
    have R := ((S4.out.out.set 0 (.int .i64 k)).set 1 (.int .i64 t)).set 2 (.slice (some ⟨g, off, none⟩) zs.length zs.length)
    exact ⟨R.many, by omega, by omega, R.rd, R.mid⟩

end Go.Proofs.YtcofnjooiemkfaaDoor

namespace Go.Proofs.YtcofnjooiemkfaaDoor

/-- An operation is taken first, its slot written out. -/
theorem takeD {P : Program} {md : Region.Mode} {ops : Array Oper} {Q : Exit → Act → World → Prop} {S : World → Prop} {i : Nat} {oi : Oper} {v : Value} {fuel : Nat} {listed : Array Bool} {a : Act} {w : World} (d : Option Nat) (hi : ops[i]? = some oi) (hd : oi.dst = d)
    (hs : Region.noSelect ops = true) (hf : Region.free md ops listed i = true) (hr : (Region.ready md ops listed).contains i = true)
    (hQ : ∀ c a w, Q (.panic c) (a.put d v) w → Q (.panic c) a w) (hw : Region.wanted oi (yielded ops a.tmps) = true) (hS : S w) (hy : ∀ w, S w → (execOp a.eval oi).run P w = .ok (.value v) w)
    (h : wpAnyH P md ops Q S fuel (listed.setIfInBounds i true) (a.put d v) w) : wpAnyH P md ops Q S (fuel + 1) listed a w := by
  subst hd
  exact wpAnyH_take hi hs hf hr hQ (Or.inl ⟨hw, hy⟩) hS h

/-- An operation that its guard passes over is taken first, its slot written out. -/
theorem skipD {P : Program} {md : Region.Mode} {ops : Array Oper} {Q : Exit → Act → World → Prop} {S : World → Prop} {i : Nat} {oi : Oper} {fuel : Nat} {listed : Array Bool} {a : Act} {w : World} (d : Option Nat) (hi : ops[i]? = some oi) (hd : oi.dst = d)
    (hs : Region.noSelect ops = true) (hf : Region.free md ops listed i = true) (hr : (Region.ready md ops listed).contains i = true)
    (hQ : ∀ c a w, Q (.panic c) (a.put d undef) w → Q (.panic c) a w) (hw : Region.wanted oi (yielded ops a.tmps) = false) (hS : S w)
    (h : wpAnyH P md ops Q S fuel (listed.setIfInBounds i true) (a.put d undef) w) : wpAnyH P md ops Q S (fuel + 1) listed a w := by
  subst hd
  exact wpAnyH_take hi hs hf hr hQ (Or.inr ⟨hw, rfl⟩) hS h

/-- What holds behind every operation may be weakened. -/
theorem heldMono {P : Program} {md : Region.Mode} {ops : Array Oper} {Q : Exit → Act → World → Prop} {S S2 : World → Prop} (hS : ∀ w, S2 w → S w) :
    ∀ (fuel : Nat) (listed : Array Bool) (a : Act) (w : World), wpAnyH P md ops Q S2 fuel listed a w → wpAnyH P md ops Q S fuel listed a w
  | 0, _, _, _, h => h
  | fuel + 1, _, _, _, h => ⟨h.1, fun i hi => wpOp_mono (fun a' w' h' => ⟨hS _ h'.1, heldMono hS fuel _ a' w' h'.2⟩) (h.2 i hi)⟩

end Go.Proofs.YtcofnjooiemkfaaDoor

namespace Go.Proofs.YtcofnjooiemkfaaDoor
open Go.RowKit

/-- While a stock and a record are drawn: the results' blocks, the reader, the stock's block and its holds, the record's block and its numbers. -/
structure StRM (w W : World) (b q S X : Nat) (room : Int) (u : Value) (hs : List Pl.H) (k t : Int) (uz : Value) (zs : List Int) : Prop where
  res1 : ∃ ra rc, W.heap[w.heap.size]? = some (.cells #[ra, rc] 25 (0, 0))
  res2 : ∃ r0 r1 r2, W.heap[w.heap.size + 1]? = some (.cells #[r0, r1, r2] 28 (0, 0))
  stk : W.heap[S]? = some (.cells #[.int .i64 room, u] 25 (0, 0))
  row : W.heap[X]? = some (.cells #[.int .i64 k, .int .i64 t, uz] 28 (0, 0))
  ltS : b < S
  ltX : b < X
  hol : Holds W u hs
  own : ∀ g, u.ownBlock = some g → b < g ∧ g < X
  num : ∃ cap, Fresh W w.heap.size uz zs cap
  rd : Rd W b q
  ltb : w.heap.size + 1 < b
  low : Below w.heap.size w W

theorem keepR {W W' : World} {b q g : Nat} {cs : Array Value} {ty : TypeId} (hr : Rd W b q) (hb : Mid b (b + 1) W W') (hg : W.heap[g]? = some (.cells cs ty (0, 0))) (ht : ty ≠ 65) : W'.heap[g]? = some (.cells cs ty (0, 0)) := by
  obtain ⟨x, n, _, h1, _⟩ := hr
  have hne := ne_of_type hg h1 ht
  rw [hb.block g (heap_lt hg) (by omega)]; exact hg

theorem StRM.step {w W W' : World} {b q q' S X : Nat} {room : Int} {u : Value} {hs : List Pl.H} {k t : Int} {uz : Value} {zs : List Int} (h : StRM w W b q S X room u hs k t uz zs) (hb : Mid b (b + 1) W W') (hr : Rd W' b q') : StRM w W' b q' S X room u hs k t uz zs := by
  have hl := h.ltb
  refine ⟨?_, ?_, keepR h.rd hb h.stk (by decide), keepR h.rd hb h.row (by decide), h.ltS, h.ltX, h.hol.keep (fun g hg => ?_), h.own, ?_, hr, hl, h.low.trans (hb.below (by omega) h.low.size)⟩
  · obtain ⟨ra, rc, e⟩ := h.res1; exact ⟨ra, rc, keepR h.rd hb e (by decide)⟩
  · obtain ⟨r0, r1, r2, e⟩ := h.res2; exact ⟨r0, r1, r2, keepR h.rd hb e (by decide)⟩
  · obtain ⟨h1, h2⟩ := h.own g hg
    have := heap_lt h.row
    exact hb.block g (by omega) (Or.inr (by omega))
  · obtain ⟨cap, hf⟩ := h.num; exact ⟨cap, hf.mid h.rd hb⟩
theorem StRM.later {w W W' : World} {b q S X : Nat} {room : Int} {u : Value} {hs : List Pl.H} {k t : Int} {uz : Value} {zs : List Int} (h : StRM w W b q S X room u hs k t uz zs) (hb : Below W.heap.size W W') : StRM w W' b q S X room u hs k t uz zs :=
  h.step (Mid.of_below hb (Nat.le_refl _)) (h.rd.later hb (Nat.le_refl _))
theorem StRM.cells {w W : World} {b q S X : Nat} {room : Int} {u : Value} {hs : List Pl.H} {k t : Int} {uz : Value} {zs : List Int} (h : StRM w W b q S X room u hs k t uz zs) :
    (W.cell? ⟨S, 0, none⟩ = some (.int .i64 room) ∧ W.cell? ⟨S, 1, none⟩ = some u ∧ S < W.heap.size) ∧
    (W.cell? ⟨X, 0, none⟩ = some (.int .i64 k) ∧ W.cell? ⟨X, 1, none⟩ = some (.int .i64 t) ∧ W.cell? ⟨X, 2, none⟩ = some uz ∧ X < W.heap.size) ∧
    (W.frozen? ⟨X, 0, none⟩ = false ∧ W.frozen? ⟨X, 1, none⟩ = false ∧ W.frozen? ⟨X, 2, none⟩ = false) := by
  refine ⟨⟨?_, ?_, heap_lt h.stk⟩, ⟨?_, ?_, ?_, heap_lt h.row⟩, frozen_of_row W _ _ _ _ h.row, frozen_of_row W _ _ _ _ h.row, frozen_of_row W _ _ _ _ h.row⟩
  · rw [cell_of_row W _ _ _ _ _ h.stk]; rfl
  · rw [cell_of_row W _ _ _ _ _ h.stk]; rfl
  · rw [cell_of_row W _ _ _ _ _ h.row]; rfl
  · rw [cell_of_row W _ _ _ _ _ h.row]; rfl
  · rw [cell_of_row W _ _ _ _ _ h.row]; rfl
theorem StRM.cellsR {w W : World} {b q S X : Nat} {room : Int} {u : Value} {hs : List Pl.H} {k t : Int} {uz : Value} {zs : List Int} (h : StRM w W b q S X room u hs k t uz zs) :
    (∃ ra rc, W.cell? ⟨w.heap.size, 0, none⟩ = some ra ∧ W.cell? ⟨w.heap.size, 1, none⟩ = some rc) ∧ (W.frozen? ⟨w.heap.size, 0, none⟩ = false ∧ W.frozen? ⟨w.heap.size, 1, none⟩ = false) ∧
    (∃ r0 r1 r2, W.cell? ⟨w.heap.size + 1, 0, none⟩ = some r0 ∧ W.cell? ⟨w.heap.size + 1, 1, none⟩ = some r1 ∧ W.cell? ⟨w.heap.size + 1, 2, none⟩ = some r2) ∧ (W.frozen? ⟨w.heap.size + 1, 0, none⟩ = false ∧ W.frozen? ⟨w.heap.size + 1, 1, none⟩ = false ∧ W.frozen? ⟨w.heap.size + 1, 2, none⟩ = false) := by
  obtain ⟨ra, rc, e⟩ := h.res1
  obtain ⟨r0, r1, r2, e2⟩ := h.res2
  refine ⟨⟨ra, rc, ?_, ?_⟩, ⟨frozen_of_row W _ _ _ _ e, frozen_of_row W _ _ _ _ e⟩, ⟨r0, r1, r2, ?_, ?_, ?_⟩, frozen_of_row W _ _ _ _ e2, frozen_of_row W _ _ _ _ e2, frozen_of_row W _ _ _ _ e2⟩
  · rw [cell_of_row W _ _ _ _ _ e]; rfl
  · rw [cell_of_row W _ _ _ _ _ e]; rfl
  · rw [cell_of_row W _ _ _ _ _ e2]; rfl
  · rw [cell_of_row W _ _ _ _ _ e2]; rfl
  · rw [cell_of_row W _ _ _ _ _ e2]; rfl
/-- The record's block is given other numbers. -/
theorem StRM.setX {w W : World} {b q S X i : Nat} {room : Int} {u : Value} {hs : List Pl.H} {k t k' t' : Int} {uz uz' : Value} {zs zs' : List Int} (h : StRM w W b q S X room u hs k t uz zs) (x : Value)
    (e : (#[.int .i64 k, .int .i64 t, uz] : Array Value).setIfInBounds i x = #[.int .i64 k', .int .i64 t', uz']) (hn : ∃ cap, Fresh W w.heap.size uz' zs' cap) : StRM w (W.setCell ⟨X, i, none⟩ x) b q S X room u hs k' t' uz' zs' := by
  have hX := h.ltX
  have hlb := h.ltb
  have o : ∀ {g : Nat} {cs : Array Value} {ty : TypeId}, ty ≠ 28 → W.heap[g]? = some (.cells cs ty (0, 0)) → (W.setCell ⟨X, i, none⟩ x).heap[g]? = some (.cells cs ty (0, 0)) := fun ht hg => by
    rw [Below.heap_setCell _ _ _ _ (ne_of_type hg h.row ht)]; exact hg
  refine ⟨?_, ?_, o (by decide) h.stk, by rw [heap_setCell_same W X i _ _ _ h.row, e], h.ltS, hX, h.hol.keep (fun g hg => ?_), h.own, ?_, h.rd.setApart hX _, h.ltb, h.low.setCell (by simp; omega) _⟩
  · obtain ⟨ra, rc, e1⟩ := h.res1; exact ⟨ra, rc, o (by decide) e1⟩
  · obtain ⟨r0, r1, r2, e2⟩ := h.res2; exact ⟨r0, r1, r2, by rw [Below.heap_setCell _ _ _ _ (by simp; omega)]; exact e2⟩
  · obtain ⟨h1, h2⟩ := h.own g hg
    exact Below.heap_setCell _ _ _ _ (by simp; omega)
  · obtain ⟨cap, hf⟩ := hn; exact ⟨cap, hf.set h.row (by decide) x⟩

/-- The results are written: what was drawn stays. -/
theorem StRM.done {w W : World} {b q S X : Nat} {room : Int} {u : Value} {hs : List Pl.H} {k t : Int} {uz : Value} {zs : List Int} (h : StRM w W b q S X room u hs k t uz zs) (a0 a1 c0 c1 c2 : Value) :
    Holds (((((W.setCell ⟨w.heap.size, 0, none⟩ a0).setCell ⟨w.heap.size, 1, none⟩ a1).setCell ⟨w.heap.size + 1, 0, none⟩ c0).setCell ⟨w.heap.size + 1, 1, none⟩ c1).setCell ⟨w.heap.size + 1, 2, none⟩ c2) u hs ∧
    Ints (((((W.setCell ⟨w.heap.size, 0, none⟩ a0).setCell ⟨w.heap.size, 1, none⟩ a1).setCell ⟨w.heap.size + 1, 0, none⟩ c0).setCell ⟨w.heap.size + 1, 1, none⟩ c1).setCell ⟨w.heap.size + 1, 2, none⟩ c2) uz zs ∧
    Below w.heap.size w (((((W.setCell ⟨w.heap.size, 0, none⟩ a0).setCell ⟨w.heap.size, 1, none⟩ a1).setCell ⟨w.heap.size + 1, 0, none⟩ c0).setCell ⟨w.heap.size + 1, 1, none⟩ c1).setCell ⟨w.heap.size + 1, 2, none⟩ c2) := by
  have hlb := h.ltb
  obtain ⟨ra, rc, e1⟩ := h.res1
  obtain ⟨r0, r1, r2, e2⟩ := h.res2
  have i0 := heap_setCell_same W w.heap.size 0 _ _ a0 e1
  have j1 : ((W.setCell ⟨w.heap.size, 0, none⟩ a0).setCell ⟨w.heap.size, 1, none⟩ a1).heap[w.heap.size + 1]? = some (.cells #[r0, r1, r2] 28 (0, 0)) := by
    rw [Below.heap_setCell _ _ _ _ (by simp), Below.heap_setCell _ _ _ _ (by simp)]; exact e2
  have j2 := heap_setCell_same _ (w.heap.size + 1) 0 _ _ c0 j1
  have j3 := heap_setCell_same _ (w.heap.size + 1) 1 _ _ c1 j2
  refine ⟨?_, ?_, ((((h.low.setCell (by simp) _).setCell (by simp) _).setCell (by simp) _).setCell (by simp) _).setCell (by simp) _⟩
  · refine h.hol.keep fun g hg => ?_
    obtain ⟨h1, h2⟩ := h.own g hg
    rw [Below.heap_setCell _ _ _ _ (by simp; omega), Below.heap_setCell _ _ _ _ (by simp; omega), Below.heap_setCell _ _ _ _ (by simp; omega), Below.heap_setCell _ _ _ _ (by simp; omega), Below.heap_setCell _ _ _ _ (by simp; omega)]
  · obtain ⟨cap, hf⟩ := h.num
    exact (((((hf.set e1 (by decide) _).set i0 (by decide) _).set j1 (by decide) _).set j2 (by decide) _).set j3 (by decide) _).ints

theorem StRM.doneD {w W : World} {b q S X : Nat} {room : Int} {u : Value} {hs : List Pl.H} {k t : Int} {uz : Value} {zs : List Int} (h : StRM w W b q S X room u hs k t uz zs) (a0 a1 c0 c1 c2 : Value) :
    Holds (((((W.setCell ⟨w.heap.size, 0, none⟩ a0).setCell ⟨w.heap.size, 1, none⟩ a1).setCell ⟨w.heap.size + 1, 0, none⟩ c0).setCell ⟨w.heap.size + 1, 1, none⟩ c1).setCell ⟨w.heap.size + 1, 2, none⟩ c2).drew u hs ∧ Ints (((((W.setCell ⟨w.heap.size, 0, none⟩ a0).setCell ⟨w.heap.size, 1, none⟩ a1).setCell ⟨w.heap.size + 1, 0, none⟩ c0).setCell ⟨w.heap.size + 1, 1, none⟩ c1).setCell ⟨w.heap.size + 1, 2, none⟩ c2).drew uz zs ∧ Below w.heap.size w (((((W.setCell ⟨w.heap.size, 0, none⟩ a0).setCell ⟨w.heap.size, 1, none⟩ a1).setCell ⟨w.heap.size + 1, 0, none⟩ c0).setCell ⟨w.heap.size + 1, 1, none⟩ c1).setCell ⟨w.heap.size + 1, 2, none⟩ c2).drew  ∧ (∀ g, u.ownBlock = some g → w.heap.size ≤ g) ∧ (∀ g, uz.ownBlock = some g → w.heap.size ≤ g) := by
  obtain ⟨h1, h2, h3⟩ := h.done a0 a1 c0 c1 c2
  have hlb := h.ltb
  refine ⟨h1.later (Below.refl _ _).drew (Nat.le_refl _), h2.later (Below.refl _ _).drew (Nat.le_refl _), h3.drew, fun g hg => by have := (h.own g hg).1; omega, fun g hg => ?_⟩
  obtain ⟨cap, g1, off, cs, rfl, hl, _⟩ := h.num
  simp only [Value.ownBlock, Option.some.injEq] at hg
  omega

end Go.Proofs.YtcofnjooiemkfaaDoor

namespace Go.Proofs.YtcofnjooiemkfaaDoor
open Go.RowKit

theorem farD {W : World} {a : Addr} {v : Value} (h : W.cell? a = some v) : W.drew.cell? a = some v := h
theorem farS {W : World} {p a : Addr} {v : Value} (h : W.cell? a = some v) (hne : p.block ≠ a.block) (x : Value) : (W.setCell p x).cell? a = some v := by
  rw [World.cell?_setCell_far _ _ _ _ hne]; exact h

set_option maxRecDepth 100000 in
set_option maxHeartbeats 8000000 in
theorem drawMay_any (v : Value) (n : Nat) (w : World) (hv : CodeAt w v n) (hn : n ≤ 1048576) :
    Calls Tryd.prog 19 #[v] w fun e w' => ∃ (room : Int) (u : Value) (hs : List Pl.H) (k t : Int) (uz : Value) (zs : List Int), e = .returned (.tuple #[.agg #[.int .i64 room, u], .agg #[.int .i64 k, .int .i64 t, uz]]) ∧ hs.length ≤ 6 ∧ zs.length ≤ 4 ∧ Holds w' u hs ∧ Ints w' uz zs ∧ Below w.heap.size w w' ∧ (∀ g, u.ownBlock = some g → w.heap.size ≤ g) ∧ (∀ g, uz.ownBlock = some g → w.heap.size ≤ g) := by
  obtain ⟨w0, hw0⟩ : ∃ W, Hid (W = (w.alloc (.cells #[.int .i64 0, .slice none 0 0] 25)).alloc (.cells #[.int .i64 0, .int .i64 0, .slice none 0 0] 28)) := ⟨_, rfl⟩
  have B0 : Hid (Below w.heap.size w w0) := by show Below _ _ _; rw [hw0.out]; exact below2 w _ _
  have hv0 := hide_it (hv.later B0.out (Nat.le_refl _))
  have HO := hide_it (open_any v n _ hv0.out hn)
  obtain ⟨ao, cap, rfl, _⟩ := hv
  have E1 : Hid (w0.heap[w.heap.size]? = some (.cells #[.int .i64 0, .slice none 0 0] 25 (0, 0))) := by show _ = _; rw [hw0.out]; exact rowS_later (heap_alloc_new _ _) (alloc_below _ _) (Nat.le_refl _)
  have E2 : Hid (w0.heap[w.heap.size + 1]? = some (.cells #[.int .i64 0, .int .i64 0, .slice none 0 0] 28 (0, 0))) := by
    show _ = _
    have := heap_alloc_new (w.alloc (.cells #[.int .i64 0, .slice none 0 0] 25)) (.cells #[.int .i64 0, .int .i64 0, .slice none 0 0] 28)
    rw [World.size_alloc] at this
    rw [hw0.out]; exact this
  have Z0 : Hid (w0.heap.size = w.heap.size + 2) := by show _ = _; rw [hw0.out]; simp
  clear hv0
  go_enter Tryd.func19, Tryd.ntmps19
  go_wp2_with fail
  rw [← hw0.out]
  refine HO.out.mono ?_
  rintro e w1 ⟨rfl, hr1, hs1, hb1⟩
  obtain ⟨b, hbb⟩ : ∃ b, Hid (b = w0.heap.size) := ⟨_, rfl⟩
  rw [← hbb.out] at hr1 ⊢
  have Zb : Hid (b = w.heap.size + 2) := by show _ = _; rw [hbb.out, Z0.out]
  have R1 := hide_it hr1
  have Z1 : Hid (w1.heap.size = b + 1) := by show _ = _; rw [hs1, hbb.out]
  have B1 := hide_it (B0.out.trans (hb1.mono B0.out.size))
  have E11 := hide_it (rowS_later E1.out hb1 (Nat.le_refl _))
  have E12 := hide_it (rowS_later E2.out hb1 (Nat.le_refl _))
  clear hr1 hb1 hs1 HO
  go_wp2_with fail
  refine (stock_draw b 0 _ R1.out (by omega)).mono ?_
  rintro e w2 ⟨room, u, hs, q, rfl, lr, ur, hl, hH, hown, hq, hr2, m2⟩
  obtain ⟨au, cu, hus⟩ := hH.shape
  subst hus
  obtain ⟨S, hS⟩ : ∃ S, Hid (S = w2.heap.size) := ⟨_, rfl⟩
  obtain ⟨w3, hw3⟩ : ∃ W, Hid (W = w2.alloc (.cells #[.int .i64 room, .slice au hs.length cu] 25)) := ⟨_, rfl⟩
  have al3 : Hid (Below w2.heap.size w2 w3) := by show Below _ _ _; rw [hw3.out]; exact alloc_below _ _
  have R3 := hide_it (hr2.later al3.out (Nat.le_refl _))
  have E31 := hide_it (rowS_later (keepR R1.out m2 E11.out (by decide)) al3.out (Nat.le_refl _))
  have E32 := hide_it (rowS_later (keepR R1.out m2 E12.out (by decide)) al3.out (Nat.le_refl _))
  have ES3 : Hid (w3.heap[S]? = some (.cells #[.int .i64 room, .slice au hs.length cu] 25 (0, 0))) := by show _ = _; rw [hw3.out, hS.out]; exact heap_alloc_new _ _
  have H3 := hide_it (hH.later al3.out (Nat.le_refl _))
  have B3 := hide_it ((B1.out.trans (m2.below (B := w.heap.size) (by rw [Zb.out]; omega) B1.out.size)).trans (al3.out.mono (by have := m2.size; have := B1.out.size; omega)))
  have hOw : Hid (∀ g, (Value.slice au hs.length cu).ownBlock = some g → b < g ∧ g < S) := fun g hg => by
    obtain ⟨h1, h2⟩ := hown g hg
    rw [Z1.out] at h1
    rw [hS.out]; omega
  have hbS : b < S := by rw [hS.out]; exact hr2.lt
  have hS3 : S < w3.heap.size := heap_lt ES3.out
  have hHl := hide_it hl
  clear hr2 m2 hH hown al3 E1 E2 E11 E12 R1
  go_wp2_with fail
  rw [← hw3.out, ← hS.out]
  refine (pick_any b q 3 _ R3.out (by omega) (by omega) (by omega)).mono ?_
  rintro e w4 ⟨k0, rfl, lk, uk, r4, m4⟩
  have R4 := hide_it r4
  have M4 := hide_it m4
  clear r4 m4
  go_wp2_with fail
  refine (pick_any b (q + 1) 6 _ R4.out (by omega) (by omega) (by omega)).mono ?_
  rintro e w5 ⟨t0, rfl, lt, ut, r5, m5⟩
  have m35 := M4.out.trans m5
  obtain ⟨Z, hZ⟩ : ∃ Z, Hid (Z = w5.heap.size) := ⟨_, rfl⟩
  have hb5 : S < Z := by rw [hZ.out]; have := m35.size; omega
  have MK : Hid (∀ k : Int, StRM w ((w5.alloc (.cells #[] 3)).alloc (.cells #[.int .i64 k, .int .i64 (1 + t0), .slice (some ⟨Z, 0, none⟩) 0 0] 28)) b (q + 2) S (Z + 1) room (.slice au hs.length cu) hs k (1 + t0) (.slice (some ⟨Z, 0, none⟩) 0 0) []) := fun k => by
    have al := below2 w5 (.cells #[] 3) (.cells #[.int .i64 k, .int .i64 (1 + t0), .slice (some ⟨Z, 0, none⟩) 0 0] 28)
    have hrow := heap_alloc_new (w5.alloc (.cells #[] 3)) (.cells #[.int .i64 k, .int .i64 (1 + t0), .slice (some ⟨Z, 0, none⟩) 0 0] 28)
    rw [World.size_alloc, ← hZ.out] at hrow
    have hF := (fresh0 w5 w.heap.size (by have := B3.out.size; have := m35.size; omega)).later (alloc_below _ (.cells #[.int .i64 k, .int .i64 (1 + t0), .slice (some ⟨Z, 0, none⟩) 0 0] 28)) (Nat.le_refl _)
    rw [← hZ.out] at hF
    refine ⟨⟨_, _, rowS_later (keepR R3.out m35 E31.out (by decide)) al (Nat.le_refl _)⟩, ⟨_, _, _, rowS_later (keepR R3.out m35 E32.out (by decide)) al (Nat.le_refl _)⟩, rowS_later (keepR R3.out m35 ES3.out (by decide)) al (Nat.le_refl _), hrow, hbS, by omega, ?_, fun g hg => ?_, ⟨_, hF⟩, r5.later al (Nat.le_refl _), by rw [Zb.out]; omega, ?_⟩
    · refine Holds.later (H3.out.keep (w' := w5) fun g hg => ?_) al (Nat.le_refl _)
      obtain ⟨h1, h2⟩ := hOw.out g hg
      exact m35.block g (by omega) (Or.inr (by omega))
    · obtain ⟨h1, h2⟩ := hOw.out g hg; omega
    · exact (B3.out.trans (m35.below (B := w.heap.size) (by rw [Zb.out]; omega) B3.out.size)).trans (al.mono (by have := m35.size; have := B3.out.size; omega))
  clear m5 m35 r5 R3 R4 M4 E31 E32 ES3 H3 B3 hw3
  by_cases hk0 : k0 = 0
  · subst hk0
    obtain ⟨w6, hw6⟩ : ∃ W, Hid (W = (w5.alloc (.cells #[] 3)).alloc (.cells #[.int .i64 1, .int .i64 (1 + t0), .slice (some ⟨Z, 0, none⟩) 0 0] 28)) := ⟨_, rfl⟩
    have M6 := hide_it (MK.out 1)
    rw [← hw6.out] at M6
    go_wp2_with fail
    rw [← hZ.out, ← hw6.out]
    refine (pick_any b (q + 2) 2 _ M6.out.rd (by omega) (by omega) (by omega)).mono ?_
    rintro e w7 ⟨z, rfl, lz, uz, r7, m7⟩
    have M7 := hide_it (M6.out.step m7 r7)
    obtain ⟨Y, hY⟩ : ∃ Y, Hid (Y = w7.heap.size) := ⟨_, rfl⟩
    have hl7 := M7.out.cells.2.1.2.2.2
    have M8 : Hid (StRM w ((w7.setCell ⟨Z + 1, 2, none⟩ (.slice (some ⟨Y, 0, none⟩) 1 1)).alloc (.cells #[.int .i64 (1 + z)] 3)) b (q + 3) S (Z + 1) room (.slice au hs.length cu) hs 1 (1 + t0) (.slice (some ⟨Y, 0, none⟩) 1 1) [1 + z]) := by
      show StRM _ _ _ _ _ _ _ _ _ _ _ _ _
      rw [← World.setCell_alloc_past _ _ _ _ hl7]
      have hF := fresh1 w7 w.heap.size (1 + z) (M7.out.low.size)
      rw [← hY.out] at hF
      exact (M7.out.later (alloc_below _ _)).setX (zs' := [1 + z]) _ rfl ⟨_, hF⟩
    obtain ⟨⟨s0, s1, sl⟩, ⟨x0, x1, x2, xl⟩, ⟨xf0, xf1, xf2⟩⟩ := M7.out.cells
    have hSX : S ≠ Z + 1 := by omega
    have MV : ∃ (K : Int) (UZ : Value) (ZS : List Int) (qq : Nat), Hid (StRM w ((w7.setCell ⟨Z + 1, 2, none⟩ (.slice (some ⟨Y, 0, none⟩) 1 1)).alloc (.cells #[.int .i64 (1 + z)] 3)) b qq S (Z + 1) room (.slice au hs.length cu) hs K (1 + t0) UZ ZS) ∧ qq ≤ q + 3 ∧ ZS.length ≤ 1 := ⟨_, _, _, _, M8, by omega, by simp⟩
    clear r7 m7 M6 MK hw6 M8 M7
    go_wp2_with fail
    rw [← hY.out]
    clear s0 s1 sl x0 x1 x2 xl xf0 xf1 xf2
    obtain ⟨K, UZ, ZS, qq, MV', hqq, hZS⟩ := MV
    obtain ⟨ac, cc, hUZ⟩ : ∃ ac cc, UZ = .slice ac ZS.length cc := by obtain ⟨cap, g, off, cs, h, _⟩ := MV'.out.num; exact ⟨_, _, h⟩
    subst hUZ
    go_loopw [7] (fun i W => ∃ (j q2 : Nat) (t : Int), i = .int .i64 j ∧ j ≤ 6 ∧ q2 ≤ qq + 2 * j ∧ Hid (StRM w W b q2 S (Z + 1) room (.slice au hs.length cu) hs K t (.slice ac ZS.length cc) ZS)) (fun i _ => 6 - (intOf i).toNat)
    case atStart => exact ⟨0, qq, 1 + t0, rfl, by omega, by omega, MV'⟩
    case round =>
      obtain ⟨j, q2, t, rfl, hj6, hq2, MR⟩ := hrel
      by_cases hj : j < 6
      · go_wp2_with fail
        refine (pick_any b q2 8 _ MR.out.rd (by omega) (by omega) (by omega)).mono ?_
        rintro e w10 ⟨y, rfl, ly, uy, r10, m10⟩
        have M10 := hide_it (MR.out.step m10 r10)
        clear r10 m10 MR
        by_cases hy : 0 < y
        · obtain ⟨⟨s0, s1, sl⟩, ⟨x0, x1, x2, xl⟩, ⟨xf0, xf1, xf2⟩⟩ := M10.out.cells
          have HMY := hide_it (specMay_any room (.slice au hs.length cu) hs K t (.slice ac ZS.length cc) ZS w10 M10.out.hol (by omega) (by obtain ⟨cap, hf⟩ := M10.out.num; exact hf.ints) (by omega))
          obtain ⟨BB, hBB⟩ : ∃ x, Hid (Pl.sMay room hs K t ZS = x) := ⟨_, rfl⟩
          rw [hBB.out] at HMY
          go_wp2_with fail
          refine HMY.out.mono ?_
          rintro e w11 ⟨rfl, hb11⟩
          have M11 := hide_it (M10.out.later hb11)
          clear hb11 s0 s1 sl x0 x1 x2 xl xf0 xf1 xf2 HMY hBB M10
          cases BB
          · go_wp2_with fail
            refine (pick_any b (q2 + 1) 6 _ M11.out.rd (by omega) (by omega) (by omega)).mono ?_
            rintro e w12 ⟨x, rfl, lx, ux, r12, m12⟩
            have M12 := hide_it (M11.out.step m12 r12)
            obtain ⟨⟨s0, s1, sl⟩, ⟨x0, x1, x2, xl⟩, ⟨xf0, xf1, xf2⟩⟩ := M12.out.cells
            have M13 := hide_it (M12.out.setX (i := 1) (.int .i64 (1 + x)) rfl M12.out.num)
            clear r12 m12 M11
            go_wp2_with fail
            go_roundw
            case rel => exact ⟨j + 1, q2 + 1 + 1, 1 + x, by go_num, by omega, by omega, M13⟩
            case measure => simp [intOf]; omega
          · go_wp2_with fail
            refine (pick_any b (q2 + 1) 12 _ M11.out.rd (by omega) (by omega) (by omega)).mono ?_
            rintro e w20 ⟨y2, rfl, ly2, uy2, r20, m20⟩
            have M20 := hide_it (M11.out.step m20 r20)
            clear r20 m20
            by_cases hy2 : y2 = 0
            · subst hy2
              go_wp2_with fail
              refine (rec_draw b (q2 + 1 + 1) _ M20.out.rd (by omega)).mono ?_
              rintro e w21 ⟨k1, t1, u1, zs1, q1, cap1, rfl, hz1, hF1, hqa, hqb, r21, m21⟩
              have M21 := hide_it (M20.out.step m21 r21)
              have F21 := hide_it (hF1.mono (show w.heap.size ≤ w20.heap.size from M20.out.low.size))
              obtain ⟨g1, off1, hu1⟩ : ∃ g off, u1 = .slice (some ⟨g, off, none⟩) zs1.length cap1 := by obtain ⟨g, off, cs, h, _⟩ := hF1; exact ⟨g, off, h⟩
              subst hu1
              obtain ⟨⟨s0, s1, sl⟩, ⟨x0, x1, x2, xl⟩, ⟨xf0, xf1, xf2⟩⟩ := M21.out.cells
              obtain ⟨w22, hw22⟩ : ∃ W, Hid (W = ((w21.setCell ⟨Z + 1, 0, none⟩ (.int .i64 k1)).setCell ⟨Z + 1, 1, none⟩ (.int .i64 t1)).setCell ⟨Z + 1, 2, none⟩ (.slice (some ⟨g1, off1, none⟩) zs1.length cap1)) := ⟨_, rfl⟩
              have M22 : Hid (StRM w w22 b q1 S (Z + 1) room (.slice au hs.length cu) hs k1 t1 (.slice (some ⟨g1, off1, none⟩) zs1.length cap1) zs1) := by
                show StRM _ _ _ _ _ _ _ _ _ _ _ _ _
                rw [hw22.out]
                have a1 := M21.out.setX (i := 0) (.int .i64 k1) rfl M21.out.num
                have a2 := a1.setX (i := 1) (.int .i64 t1) rfl a1.num
                exact a2.setX (i := 2) _ rfl ⟨cap1, (F21.out.set M21.out.row (by decide) _).set a1.row (by decide) _⟩
              clear r21 m21 hF1
              go_wp2_with fail
              rw [← hw22.out]
              clear s0 s1 sl x0 x1 x2 xl xf0 xf1 xf2
              obtain ⟨⟨s0, s1, sl⟩, ⟨x0, x1, x2, xl⟩, -⟩ := M22.out.cells
              obtain ⟨⟨ra, rc, p0, p1⟩, ⟨pf0, pf1⟩, ⟨r0, r1, r2, v0, v1, v2⟩, ⟨vf0, vf1, vf2⟩⟩ := M22.out.cellsR
              have hlb := M22.out.ltb
              have hn1 : w.heap.size ≠ S := by omega
              have hn2 : w.heap.size ≠ Z + 1 := by omega
              have hn3 : w.heap.size + 1 ≠ S := by omega
              have hn4 : ¬ w.heap.size = Z := by omega
              have hn5 : w.heap.size + 1 ≠ Z + 1 := by omega
              refine wp_region_held_drew (S := (fun w' => (w'.cell? ⟨S, 0, none⟩ = some (.int .i64 room) ∧ w'.cell? ⟨S, 1, none⟩ = some (.slice au hs.length cu)) ∧ w'.cell? ⟨Z + 1, 0, none⟩ = some (.int .i64 (k1)) ∧ w'.cell? ⟨Z + 1, 1, none⟩ = some (.int .i64 (t1)) ∧ w'.cell? ⟨Z + 1, 2, none⟩ = some (.slice (some ⟨g1, off1, none⟩) zs1.length cap1))) (by kernel_rfl) ⟨⟨s0, s1⟩, x0, x1, x2⟩ (fun hHeld => ?_)
              refine takeD (i := 0) (v := .agg #[.int .i64 room, (.slice au hs.length cu)]) (some 52) rfl rfl (by kernel_rfl) (by kernel_rfl) (by kernel_rfl) (fun _ _ _ h => h) (by rfl) hHeld ?_ ?_
              · intro W hSw
                obtain ⟨⟨e0, e1⟩, e2, e3, e4⟩ := hSw
                go_simp
              try simp only [Act.put]
              try simp only [List.setIfInBounds_toArray]
              try simp only [List.set_cons_succ]
              try simp only [List.set_cons_zero]
              refine takeD (i := 1) (v := .agg #[.int .i64 (k1), .int .i64 (t1), .slice (some ⟨g1, off1, none⟩) zs1.length cap1]) (some 53) rfl rfl (by kernel_rfl) (by kernel_rfl) (by kernel_rfl) (fun _ _ _ h => h) (by rfl) hHeld ?_ ?_
              · intro W hSw
                obtain ⟨⟨e0, e1⟩, e2, e3, e4⟩ := hSw
                go_simp
              try simp only [Act.put]
              try simp only [List.setIfInBounds_toArray]
              try simp only [List.set_cons_succ]
              try simp only [List.set_cons_zero]
              refine wpAnyH_ready (rs := [2]) (by kernel_rfl) (by simp) ?_
              refine AllReadyH.cons rfl (fun K1 hK1 => ?_) AllReadyH.nil
              go_simp
              refine hK1.out _ _ ?_ (fun hHeld => ?_)
              · exact ⟨⟨farD (farS (farS s0 hn1 _) hn1 _), farD (farS (farS s1 hn1 _) hn1 _)⟩, farD (farS (farS x0 hn2 _) hn2 _), farD (farS (farS x1 hn2 _) hn2 _), farD (farS (farS x2 hn2 _) hn2 _)⟩
              clear hK1 K1
              refine wpAnyH_ready (rs := [3]) (by kernel_rfl) (by simp) ?_
              refine AllReadyH.cons rfl (fun K1 hK1 => ?_) AllReadyH.nil
              go_simp
              refine hK1.out _ _ ?_ (fun hHeld => ?_)
              · exact ⟨⟨farD (farS (farS (farS (farS (farS s0 hn1 _) hn1 _) hn3 _) hn3 _) hn3 _), farD (farS (farS (farS (farS (farS s1 hn1 _) hn1 _) hn3 _) hn3 _) hn3 _)⟩, farD (farS (farS (farS (farS (farS x0 hn2 _) hn2 _) hn5 _) hn5 _) hn5 _), farD (farS (farS (farS (farS (farS x1 hn2 _) hn2 _) hn5 _) hn5 _) hn5 _), farD (farS (farS (farS (farS (farS x2 hn2 _) hn2 _) hn5 _) hn5 _) hn5 _)⟩
              clear hK1 K1
              refine wpAnyH_done (by kernel_rfl) ?_ _
              clear hHeld s0 s1 x0 x1 x2
              go_wp2
              exact bodyPost_ret (v := .tuple #[.agg #[.int .i64 room, (.slice au hs.length cu)], .agg #[.int .i64 (k1), .int .i64 (t1), .slice (some ⟨g1, off1, none⟩) zs1.length cap1]]) (by simp [results, Tryd.results19, go_sem, p0, p1, v0, v1, v2]) rfl ⟨room, _, hs, (k1), (t1), _, zs1, rfl, by omega, by omega, M22.out.doneD _ _ _ _ _⟩
            · obtain ⟨⟨s0, s1, sl⟩, ⟨x0, x1, x2, xl⟩, -⟩ := M20.out.cells
              obtain ⟨⟨ra, rc, p0, p1⟩, ⟨pf0, pf1⟩, ⟨r0, r1, r2, v0, v1, v2⟩, ⟨vf0, vf1, vf2⟩⟩ := M20.out.cellsR
              have hlb := M20.out.ltb
              have hn1 : w.heap.size ≠ S := by omega
              have hn2 : w.heap.size ≠ Z + 1 := by omega
              have hn3 : w.heap.size + 1 ≠ S := by omega
              have hn4 : ¬ w.heap.size = Z := by omega
              have hn5 : w.heap.size + 1 ≠ Z + 1 := by omega
              go_wp2_with fail
              refine wp_region_held_drew (S := (fun w' => (w'.cell? ⟨S, 0, none⟩ = some (.int .i64 room) ∧ w'.cell? ⟨S, 1, none⟩ = some (.slice au hs.length cu)) ∧ w'.cell? ⟨Z + 1, 0, none⟩ = some (.int .i64 (K)) ∧ w'.cell? ⟨Z + 1, 1, none⟩ = some (.int .i64 (t)) ∧ w'.cell? ⟨Z + 1, 2, none⟩ = some (.slice ac ZS.length cc))) (by kernel_rfl) ⟨⟨s0, s1⟩, x0, x1, x2⟩ (fun hHeld => ?_)
              refine takeD (i := 0) (v := .agg #[.int .i64 room, (.slice au hs.length cu)]) (some 52) rfl rfl (by kernel_rfl) (by kernel_rfl) (by kernel_rfl) (fun _ _ _ h => h) (by rfl) hHeld ?_ ?_
              · intro W hSw
                obtain ⟨⟨e0, e1⟩, e2, e3, e4⟩ := hSw
                go_simp
              try simp only [Act.put]
              try simp only [List.setIfInBounds_toArray]
              try simp only [List.set_cons_succ]
              try simp only [List.set_cons_zero]
              refine takeD (i := 1) (v := .agg #[.int .i64 (K), .int .i64 (t), .slice ac ZS.length cc]) (some 53) rfl rfl (by kernel_rfl) (by kernel_rfl) (by kernel_rfl) (fun _ _ _ h => h) (by rfl) hHeld ?_ ?_
              · intro W hSw
                obtain ⟨⟨e0, e1⟩, e2, e3, e4⟩ := hSw
                go_simp
              try simp only [Act.put]
              try simp only [List.setIfInBounds_toArray]
              try simp only [List.set_cons_succ]
              try simp only [List.set_cons_zero]
              refine wpAnyH_ready (rs := [2]) (by kernel_rfl) (by simp) ?_
              refine AllReadyH.cons rfl (fun K1 hK1 => ?_) AllReadyH.nil
              go_simp
              refine hK1.out _ _ ?_ (fun hHeld => ?_)
              · exact ⟨⟨farD (farS (farS s0 hn1 _) hn1 _), farD (farS (farS s1 hn1 _) hn1 _)⟩, farD (farS (farS x0 hn2 _) hn2 _), farD (farS (farS x1 hn2 _) hn2 _), farD (farS (farS x2 hn2 _) hn2 _)⟩
              clear hK1 K1
              refine wpAnyH_ready (rs := [3]) (by kernel_rfl) (by simp) ?_
              refine AllReadyH.cons rfl (fun K1 hK1 => ?_) AllReadyH.nil
              go_simp
              refine hK1.out _ _ ?_ (fun hHeld => ?_)
              · exact ⟨⟨farD (farS (farS (farS (farS (farS s0 hn1 _) hn1 _) hn3 _) hn3 _) hn3 _), farD (farS (farS (farS (farS (farS s1 hn1 _) hn1 _) hn3 _) hn3 _) hn3 _)⟩, farD (farS (farS (farS (farS (farS x0 hn2 _) hn2 _) hn5 _) hn5 _) hn5 _), farD (farS (farS (farS (farS (farS x1 hn2 _) hn2 _) hn5 _) hn5 _) hn5 _), farD (farS (farS (farS (farS (farS x2 hn2 _) hn2 _) hn5 _) hn5 _) hn5 _)⟩
              clear hK1 K1
              refine wpAnyH_done (by kernel_rfl) ?_ _
              clear hHeld s0 s1 x0 x1 x2
              go_wp2
              exact bodyPost_ret (v := .tuple #[.agg #[.int .i64 room, (.slice au hs.length cu)], .agg #[.int .i64 (K), .int .i64 (t), .slice ac ZS.length cc]]) (by simp [results, Tryd.results19, go_sem, p0, p1, v0, v1, v2]) rfl ⟨room, _, hs, (K), (t), _, ZS, rfl, by omega, by omega, M20.out.doneD _ _ _ _ _⟩
        · go_wp2_with fail
          refine (pick_any b (q2 + 1) 12 _ M10.out.rd (by omega) (by omega) (by omega)).mono ?_
          rintro e w20 ⟨y2, rfl, ly2, uy2, r20, m20⟩
          have M20 := hide_it (M10.out.step m20 r20)
          clear r20 m20
          by_cases hy2 : y2 = 0
          · subst hy2
            go_wp2_with fail
            refine (rec_draw b (q2 + 1 + 1) _ M20.out.rd (by omega)).mono ?_
            rintro e w21 ⟨k1, t1, u1, zs1, q1, cap1, rfl, hz1, hF1, hqa, hqb, r21, m21⟩
            have M21 := hide_it (M20.out.step m21 r21)
            have F21 := hide_it (hF1.mono (show w.heap.size ≤ w20.heap.size from M20.out.low.size))
            obtain ⟨g1, off1, hu1⟩ : ∃ g off, u1 = .slice (some ⟨g, off, none⟩) zs1.length cap1 := by obtain ⟨g, off, cs, h, _⟩ := hF1; exact ⟨g, off, h⟩
            subst hu1
            obtain ⟨⟨s0, s1, sl⟩, ⟨x0, x1, x2, xl⟩, ⟨xf0, xf1, xf2⟩⟩ := M21.out.cells
            obtain ⟨w22, hw22⟩ : ∃ W, Hid (W = ((w21.setCell ⟨Z + 1, 0, none⟩ (.int .i64 k1)).setCell ⟨Z + 1, 1, none⟩ (.int .i64 t1)).setCell ⟨Z + 1, 2, none⟩ (.slice (some ⟨g1, off1, none⟩) zs1.length cap1)) := ⟨_, rfl⟩
            have M22 : Hid (StRM w w22 b q1 S (Z + 1) room (.slice au hs.length cu) hs k1 t1 (.slice (some ⟨g1, off1, none⟩) zs1.length cap1) zs1) := by
              show StRM _ _ _ _ _ _ _ _ _ _ _ _ _
              rw [hw22.out]
              have a1 := M21.out.setX (i := 0) (.int .i64 k1) rfl M21.out.num
              have a2 := a1.setX (i := 1) (.int .i64 t1) rfl a1.num
              exact a2.setX (i := 2) _ rfl ⟨cap1, (F21.out.set M21.out.row (by decide) _).set a1.row (by decide) _⟩
            clear r21 m21 hF1
            go_wp2_with fail
            rw [← hw22.out]
            clear s0 s1 sl x0 x1 x2 xl xf0 xf1 xf2
            obtain ⟨⟨s0, s1, sl⟩, ⟨x0, x1, x2, xl⟩, -⟩ := M22.out.cells
            obtain ⟨⟨ra, rc, p0, p1⟩, ⟨pf0, pf1⟩, ⟨r0, r1, r2, v0, v1, v2⟩, ⟨vf0, vf1, vf2⟩⟩ := M22.out.cellsR
            have hlb := M22.out.ltb
            have hn1 : w.heap.size ≠ S := by omega
            have hn2 : w.heap.size ≠ Z + 1 := by omega
            have hn3 : w.heap.size + 1 ≠ S := by omega
            have hn4 : ¬ w.heap.size = Z := by omega
            have hn5 : w.heap.size + 1 ≠ Z + 1 := by omega
            refine wp_region_held_drew (S := (fun w' => (w'.cell? ⟨S, 0, none⟩ = some (.int .i64 room) ∧ w'.cell? ⟨S, 1, none⟩ = some (.slice au hs.length cu)) ∧ w'.cell? ⟨Z + 1, 0, none⟩ = some (.int .i64 (k1)) ∧ w'.cell? ⟨Z + 1, 1, none⟩ = some (.int .i64 (t1)) ∧ w'.cell? ⟨Z + 1, 2, none⟩ = some (.slice (some ⟨g1, off1, none⟩) zs1.length cap1))) (by kernel_rfl) ⟨⟨s0, s1⟩, x0, x1, x2⟩ (fun hHeld => ?_)
            refine takeD (i := 0) (v := .agg #[.int .i64 room, (.slice au hs.length cu)]) (some 52) rfl rfl (by kernel_rfl) (by kernel_rfl) (by kernel_rfl) (fun _ _ _ h => h) (by rfl) hHeld ?_ ?_
            · intro W hSw
              obtain ⟨⟨e0, e1⟩, e2, e3, e4⟩ := hSw
              go_simp
            try simp only [Act.put]
            try simp only [List.setIfInBounds_toArray]
            try simp only [List.set_cons_succ]
            try simp only [List.set_cons_zero]
            refine takeD (i := 1) (v := .agg #[.int .i64 (k1), .int .i64 (t1), .slice (some ⟨g1, off1, none⟩) zs1.length cap1]) (some 53) rfl rfl (by kernel_rfl) (by kernel_rfl) (by kernel_rfl) (fun _ _ _ h => h) (by rfl) hHeld ?_ ?_
            · intro W hSw
              obtain ⟨⟨e0, e1⟩, e2, e3, e4⟩ := hSw
              go_simp
            try simp only [Act.put]
            try simp only [List.setIfInBounds_toArray]
            try simp only [List.set_cons_succ]
            try simp only [List.set_cons_zero]
            refine wpAnyH_ready (rs := [2]) (by kernel_rfl) (by simp) ?_
            refine AllReadyH.cons rfl (fun K1 hK1 => ?_) AllReadyH.nil
            go_simp
            refine hK1.out _ _ ?_ (fun hHeld => ?_)
            · exact ⟨⟨farD (farS (farS s0 hn1 _) hn1 _), farD (farS (farS s1 hn1 _) hn1 _)⟩, farD (farS (farS x0 hn2 _) hn2 _), farD (farS (farS x1 hn2 _) hn2 _), farD (farS (farS x2 hn2 _) hn2 _)⟩
            clear hK1 K1
            refine wpAnyH_ready (rs := [3]) (by kernel_rfl) (by simp) ?_
            refine AllReadyH.cons rfl (fun K1 hK1 => ?_) AllReadyH.nil
            go_simp
            refine hK1.out _ _ ?_ (fun hHeld => ?_)
            · exact ⟨⟨farD (farS (farS (farS (farS (farS s0 hn1 _) hn1 _) hn3 _) hn3 _) hn3 _), farD (farS (farS (farS (farS (farS s1 hn1 _) hn1 _) hn3 _) hn3 _) hn3 _)⟩, farD (farS (farS (farS (farS (farS x0 hn2 _) hn2 _) hn5 _) hn5 _) hn5 _), farD (farS (farS (farS (farS (farS x1 hn2 _) hn2 _) hn5 _) hn5 _) hn5 _), farD (farS (farS (farS (farS (farS x2 hn2 _) hn2 _) hn5 _) hn5 _) hn5 _)⟩
            clear hK1 K1
            refine wpAnyH_done (by kernel_rfl) ?_ _
            clear hHeld s0 s1 x0 x1 x2
            go_wp2
            exact bodyPost_ret (v := .tuple #[.agg #[.int .i64 room, (.slice au hs.length cu)], .agg #[.int .i64 (k1), .int .i64 (t1), .slice (some ⟨g1, off1, none⟩) zs1.length cap1]]) (by simp [results, Tryd.results19, go_sem, p0, p1, v0, v1, v2]) rfl ⟨room, _, hs, (k1), (t1), _, zs1, rfl, by omega, by omega, M22.out.doneD _ _ _ _ _⟩
          · obtain ⟨⟨s0, s1, sl⟩, ⟨x0, x1, x2, xl⟩, -⟩ := M20.out.cells
            obtain ⟨⟨ra, rc, p0, p1⟩, ⟨pf0, pf1⟩, ⟨r0, r1, r2, v0, v1, v2⟩, ⟨vf0, vf1, vf2⟩⟩ := M20.out.cellsR
            have hlb := M20.out.ltb
            have hn1 : w.heap.size ≠ S := by omega
            have hn2 : w.heap.size ≠ Z + 1 := by omega
            have hn3 : w.heap.size + 1 ≠ S := by omega
            have hn4 : ¬ w.heap.size = Z := by omega
            have hn5 : w.heap.size + 1 ≠ Z + 1 := by omega
            go_wp2_with fail
            refine wp_region_held_drew (S := (fun w' => (w'.cell? ⟨S, 0, none⟩ = some (.int .i64 room) ∧ w'.cell? ⟨S, 1, none⟩ = some (.slice au hs.length cu)) ∧ w'.cell? ⟨Z + 1, 0, none⟩ = some (.int .i64 (K)) ∧ w'.cell? ⟨Z + 1, 1, none⟩ = some (.int .i64 (t)) ∧ w'.cell? ⟨Z + 1, 2, none⟩ = some (.slice ac ZS.length cc))) (by kernel_rfl) ⟨⟨s0, s1⟩, x0, x1, x2⟩ (fun hHeld => ?_)
            refine takeD (i := 0) (v := .agg #[.int .i64 room, (.slice au hs.length cu)]) (some 52) rfl rfl (by kernel_rfl) (by kernel_rfl) (by kernel_rfl) (fun _ _ _ h => h) (by rfl) hHeld ?_ ?_
            · intro W hSw
              obtain ⟨⟨e0, e1⟩, e2, e3, e4⟩ := hSw
              go_simp
            try simp only [Act.put]
            try simp only [List.setIfInBounds_toArray]
            try simp only [List.set_cons_succ]
            try simp only [List.set_cons_zero]
            refine takeD (i := 1) (v := .agg #[.int .i64 (K), .int .i64 (t), .slice ac ZS.length cc]) (some 53) rfl rfl (by kernel_rfl) (by kernel_rfl) (by kernel_rfl) (fun _ _ _ h => h) (by rfl) hHeld ?_ ?_
            · intro W hSw
              obtain ⟨⟨e0, e1⟩, e2, e3, e4⟩ := hSw
              go_simp
            try simp only [Act.put]
            try simp only [List.setIfInBounds_toArray]
            try simp only [List.set_cons_succ]
            try simp only [List.set_cons_zero]
            refine wpAnyH_ready (rs := [2]) (by kernel_rfl) (by simp) ?_
            refine AllReadyH.cons rfl (fun K1 hK1 => ?_) AllReadyH.nil
            go_simp
            refine hK1.out _ _ ?_ (fun hHeld => ?_)
            · exact ⟨⟨farD (farS (farS s0 hn1 _) hn1 _), farD (farS (farS s1 hn1 _) hn1 _)⟩, farD (farS (farS x0 hn2 _) hn2 _), farD (farS (farS x1 hn2 _) hn2 _), farD (farS (farS x2 hn2 _) hn2 _)⟩
            clear hK1 K1
            refine wpAnyH_ready (rs := [3]) (by kernel_rfl) (by simp) ?_
            refine AllReadyH.cons rfl (fun K1 hK1 => ?_) AllReadyH.nil
            go_simp
            refine hK1.out _ _ ?_ (fun hHeld => ?_)
            · exact ⟨⟨farD (farS (farS (farS (farS (farS s0 hn1 _) hn1 _) hn3 _) hn3 _) hn3 _), farD (farS (farS (farS (farS (farS s1 hn1 _) hn1 _) hn3 _) hn3 _) hn3 _)⟩, farD (farS (farS (farS (farS (farS x0 hn2 _) hn2 _) hn5 _) hn5 _) hn5 _), farD (farS (farS (farS (farS (farS x1 hn2 _) hn2 _) hn5 _) hn5 _) hn5 _), farD (farS (farS (farS (farS (farS x2 hn2 _) hn2 _) hn5 _) hn5 _) hn5 _)⟩
            clear hK1 K1
            refine wpAnyH_done (by kernel_rfl) ?_ _
            clear hHeld s0 s1 x0 x1 x2
            go_wp2
            exact bodyPost_ret (v := .tuple #[.agg #[.int .i64 room, (.slice au hs.length cu)], .agg #[.int .i64 (K), .int .i64 (t), .slice ac ZS.length cc]]) (by simp [results, Tryd.results19, go_sem, p0, p1, v0, v1, v2]) rfl ⟨room, _, hs, (K), (t), _, ZS, rfl, by omega, by omega, M20.out.doneD _ _ _ _ _⟩
      · go_wp2_with fail
        refine (pick_any b (q2) 12 _ MR.out.rd (by omega) (by omega) (by omega)).mono ?_
        rintro e w20 ⟨y2, rfl, ly2, uy2, r20, m20⟩
        have M20 := hide_it (MR.out.step m20 r20)
        clear r20 m20
        by_cases hy2 : y2 = 0
        · subst hy2
          go_wp2_with fail
          refine (rec_draw b (q2 + 1) _ M20.out.rd (by omega)).mono ?_
          rintro e w21 ⟨k1, t1, u1, zs1, q1, cap1, rfl, hz1, hF1, hqa, hqb, r21, m21⟩
          have M21 := hide_it (M20.out.step m21 r21)
          have F21 := hide_it (hF1.mono (show w.heap.size ≤ w20.heap.size from M20.out.low.size))
          obtain ⟨g1, off1, hu1⟩ : ∃ g off, u1 = .slice (some ⟨g, off, none⟩) zs1.length cap1 := by obtain ⟨g, off, cs, h, _⟩ := hF1; exact ⟨g, off, h⟩
          subst hu1
          obtain ⟨⟨s0, s1, sl⟩, ⟨x0, x1, x2, xl⟩, ⟨xf0, xf1, xf2⟩⟩ := M21.out.cells
          obtain ⟨w22, hw22⟩ : ∃ W, Hid (W = ((w21.setCell ⟨Z + 1, 0, none⟩ (.int .i64 k1)).setCell ⟨Z + 1, 1, none⟩ (.int .i64 t1)).setCell ⟨Z + 1, 2, none⟩ (.slice (some ⟨g1, off1, none⟩) zs1.length cap1)) := ⟨_, rfl⟩
          have M22 : Hid (StRM w w22 b q1 S (Z + 1) room (.slice au hs.length cu) hs k1 t1 (.slice (some ⟨g1, off1, none⟩) zs1.length cap1) zs1) := by
            show StRM _ _ _ _ _ _ _ _ _ _ _ _ _
            rw [hw22.out]
            have a1 := M21.out.setX (i := 0) (.int .i64 k1) rfl M21.out.num
            have a2 := a1.setX (i := 1) (.int .i64 t1) rfl a1.num
            exact a2.setX (i := 2) _ rfl ⟨cap1, (F21.out.set M21.out.row (by decide) _).set a1.row (by decide) _⟩
          clear r21 m21 hF1
          go_wp2_with fail
          rw [← hw22.out]
          clear s0 s1 sl x0 x1 x2 xl xf0 xf1 xf2
          obtain ⟨⟨s0, s1, sl⟩, ⟨x0, x1, x2, xl⟩, -⟩ := M22.out.cells
          obtain ⟨⟨ra, rc, p0, p1⟩, ⟨pf0, pf1⟩, ⟨r0, r1, r2, v0, v1, v2⟩, ⟨vf0, vf1, vf2⟩⟩ := M22.out.cellsR
          have hlb := M22.out.ltb
          have hn1 : w.heap.size ≠ S := by omega
          have hn2 : w.heap.size ≠ Z + 1 := by omega
          have hn3 : w.heap.size + 1 ≠ S := by omega
          have hn4 : ¬ w.heap.size = Z := by omega
          have hn5 : w.heap.size + 1 ≠ Z + 1 := by omega
          refine wp_region_held_drew (S := (fun w' => (w'.cell? ⟨S, 0, none⟩ = some (.int .i64 room) ∧ w'.cell? ⟨S, 1, none⟩ = some (.slice au hs.length cu)) ∧ w'.cell? ⟨Z + 1, 0, none⟩ = some (.int .i64 (k1)) ∧ w'.cell? ⟨Z + 1, 1, none⟩ = some (.int .i64 (t1)) ∧ w'.cell? ⟨Z + 1, 2, none⟩ = some (.slice (some ⟨g1, off1, none⟩) zs1.length cap1))) (by kernel_rfl) ⟨⟨s0, s1⟩, x0, x1, x2⟩ (fun hHeld => ?_)
          refine takeD (i := 0) (v := .agg #[.int .i64 room, (.slice au hs.length cu)]) (some 52) rfl rfl (by kernel_rfl) (by kernel_rfl) (by kernel_rfl) (fun _ _ _ h => h) (by rfl) hHeld ?_ ?_
          · intro W hSw
            obtain ⟨⟨e0, e1⟩, e2, e3, e4⟩ := hSw
            go_simp
          try simp only [Act.put]
          try simp only [List.setIfInBounds_toArray]
          try simp only [List.set_cons_succ]
          try simp only [List.set_cons_zero]
          refine takeD (i := 1) (v := .agg #[.int .i64 (k1), .int .i64 (t1), .slice (some ⟨g1, off1, none⟩) zs1.length cap1]) (some 53) rfl rfl (by kernel_rfl) (by kernel_rfl) (by kernel_rfl) (fun _ _ _ h => h) (by rfl) hHeld ?_ ?_
          · intro W hSw
            obtain ⟨⟨e0, e1⟩, e2, e3, e4⟩ := hSw
            go_simp
          try simp only [Act.put]
          try simp only [List.setIfInBounds_toArray]
          try simp only [List.set_cons_succ]
          try simp only [List.set_cons_zero]
          refine wpAnyH_ready (rs := [2]) (by kernel_rfl) (by simp) ?_
          refine AllReadyH.cons rfl (fun K1 hK1 => ?_) AllReadyH.nil
          go_simp
          refine hK1.out _ _ ?_ (fun hHeld => ?_)
          · exact ⟨⟨farD (farS (farS s0 hn1 _) hn1 _), farD (farS (farS s1 hn1 _) hn1 _)⟩, farD (farS (farS x0 hn2 _) hn2 _), farD (farS (farS x1 hn2 _) hn2 _), farD (farS (farS x2 hn2 _) hn2 _)⟩
          clear hK1 K1
          refine wpAnyH_ready (rs := [3]) (by kernel_rfl) (by simp) ?_
          refine AllReadyH.cons rfl (fun K1 hK1 => ?_) AllReadyH.nil
          go_simp
          refine hK1.out _ _ ?_ (fun hHeld => ?_)
          · exact ⟨⟨farD (farS (farS (farS (farS (farS s0 hn1 _) hn1 _) hn3 _) hn3 _) hn3 _), farD (farS (farS (farS (farS (farS s1 hn1 _) hn1 _) hn3 _) hn3 _) hn3 _)⟩, farD (farS (farS (farS (farS (farS x0 hn2 _) hn2 _) hn5 _) hn5 _) hn5 _), farD (farS (farS (farS (farS (farS x1 hn2 _) hn2 _) hn5 _) hn5 _) hn5 _), farD (farS (farS (farS (farS (farS x2 hn2 _) hn2 _) hn5 _) hn5 _) hn5 _)⟩
          clear hK1 K1
          refine wpAnyH_done (by kernel_rfl) ?_ _
          clear hHeld s0 s1 x0 x1 x2
          go_wp2
          exact bodyPost_ret (v := .tuple #[.agg #[.int .i64 room, (.slice au hs.length cu)], .agg #[.int .i64 (k1), .int .i64 (t1), .slice (some ⟨g1, off1, none⟩) zs1.length cap1]]) (by simp [results, Tryd.results19, go_sem, p0, p1, v0, v1, v2]) rfl ⟨room, _, hs, (k1), (t1), _, zs1, rfl, by omega, by omega, M22.out.doneD _ _ _ _ _⟩
        · obtain ⟨⟨s0, s1, sl⟩, ⟨x0, x1, x2, xl⟩, -⟩ := M20.out.cells
          obtain ⟨⟨ra, rc, p0, p1⟩, ⟨pf0, pf1⟩, ⟨r0, r1, r2, v0, v1, v2⟩, ⟨vf0, vf1, vf2⟩⟩ := M20.out.cellsR
          have hlb := M20.out.ltb
          have hn1 : w.heap.size ≠ S := by omega
          have hn2 : w.heap.size ≠ Z + 1 := by omega
          have hn3 : w.heap.size + 1 ≠ S := by omega
          have hn4 : ¬ w.heap.size = Z := by omega
          have hn5 : w.heap.size + 1 ≠ Z + 1 := by omega
          go_wp2_with fail
          refine wp_region_held_drew (S := (fun w' => (w'.cell? ⟨S, 0, none⟩ = some (.int .i64 room) ∧ w'.cell? ⟨S, 1, none⟩ = some (.slice au hs.length cu)) ∧ w'.cell? ⟨Z + 1, 0, none⟩ = some (.int .i64 (K)) ∧ w'.cell? ⟨Z + 1, 1, none⟩ = some (.int .i64 (t)) ∧ w'.cell? ⟨Z + 1, 2, none⟩ = some (.slice ac ZS.length cc))) (by kernel_rfl) ⟨⟨s0, s1⟩, x0, x1, x2⟩ (fun hHeld => ?_)
          refine takeD (i := 0) (v := .agg #[.int .i64 room, (.slice au hs.length cu)]) (some 52) rfl rfl (by kernel_rfl) (by kernel_rfl) (by kernel_rfl) (fun _ _ _ h => h) (by rfl) hHeld ?_ ?_
          · intro W hSw
            obtain ⟨⟨e0, e1⟩, e2, e3, e4⟩ := hSw
            go_simp
          try simp only [Act.put]
          try simp only [List.setIfInBounds_toArray]
          try simp only [List.set_cons_succ]
          try simp only [List.set_cons_zero]
          refine takeD (i := 1) (v := .agg #[.int .i64 (K), .int .i64 (t), .slice ac ZS.length cc]) (some 53) rfl rfl (by kernel_rfl) (by kernel_rfl) (by kernel_rfl) (fun _ _ _ h => h) (by rfl) hHeld ?_ ?_
          · intro W hSw
            obtain ⟨⟨e0, e1⟩, e2, e3, e4⟩ := hSw
            go_simp
          try simp only [Act.put]
          try simp only [List.setIfInBounds_toArray]
          try simp only [List.set_cons_succ]
          try simp only [List.set_cons_zero]
          refine wpAnyH_ready (rs := [2]) (by kernel_rfl) (by simp) ?_
          refine AllReadyH.cons rfl (fun K1 hK1 => ?_) AllReadyH.nil
          go_simp
          refine hK1.out _ _ ?_ (fun hHeld => ?_)
          · exact ⟨⟨farD (farS (farS s0 hn1 _) hn1 _), farD (farS (farS s1 hn1 _) hn1 _)⟩, farD (farS (farS x0 hn2 _) hn2 _), farD (farS (farS x1 hn2 _) hn2 _), farD (farS (farS x2 hn2 _) hn2 _)⟩
          clear hK1 K1
          refine wpAnyH_ready (rs := [3]) (by kernel_rfl) (by simp) ?_
          refine AllReadyH.cons rfl (fun K1 hK1 => ?_) AllReadyH.nil
          go_simp
          refine hK1.out _ _ ?_ (fun hHeld => ?_)
          · exact ⟨⟨farD (farS (farS (farS (farS (farS s0 hn1 _) hn1 _) hn3 _) hn3 _) hn3 _), farD (farS (farS (farS (farS (farS s1 hn1 _) hn1 _) hn3 _) hn3 _) hn3 _)⟩, farD (farS (farS (farS (farS (farS x0 hn2 _) hn2 _) hn5 _) hn5 _) hn5 _), farD (farS (farS (farS (farS (farS x1 hn2 _) hn2 _) hn5 _) hn5 _) hn5 _), farD (farS (farS (farS (farS (farS x2 hn2 _) hn2 _) hn5 _) hn5 _) hn5 _)⟩
          clear hK1 K1
          refine wpAnyH_done (by kernel_rfl) ?_ _
          clear hHeld s0 s1 x0 x1 x2
          go_wp2
          exact bodyPost_ret (v := .tuple #[.agg #[.int .i64 room, (.slice au hs.length cu)], .agg #[.int .i64 (K), .int .i64 (t), .slice ac ZS.length cc]]) (by simp [results, Tryd.results19, go_sem, p0, p1, v0, v1, v2]) rfl ⟨room, _, hs, (K), (t), _, ZS, rfl, by omega, by omega, M20.out.doneD _ _ _ _ _⟩
  · have hk1 : ¬ (1 + k0 = 1) := by omega
    have MV : ∃ (K : Int) (UZ : Value) (ZS : List Int) (qq : Nat), Hid (StRM w ((w5.alloc (.cells #[] 3)).alloc (.cells #[.int .i64 (1 + k0), .int .i64 (1 + t0), .slice (some ⟨Z, 0, none⟩) 0 0] 28)) b qq S (Z + 1) room (.slice au hs.length cu) hs K (1 + t0) UZ ZS) ∧ qq ≤ q + 3 ∧ ZS.length ≤ 1 := ⟨_, _, _, _, hide_it (MK.out (1 + k0)), by omega, by simp⟩
    clear MK
    go_wp2_with fail
    rw [← hZ.out]
    have ek : (1 + k0 == 1) = false := by simpa using hk1
    rw [ek]
    clear hk1 hk0 ek
    obtain ⟨K, UZ, ZS, qq, MV', hqq, hZS⟩ := MV
    obtain ⟨ac, cc, hUZ⟩ : ∃ ac cc, UZ = .slice ac ZS.length cc := by obtain ⟨cap, g, off, cs, h, _⟩ := MV'.out.num; exact ⟨_, _, h⟩
    subst hUZ
    go_loopw [7] (fun i W => ∃ (j q2 : Nat) (t : Int), i = .int .i64 j ∧ j ≤ 6 ∧ q2 ≤ qq + 2 * j ∧ Hid (StRM w W b q2 S (Z + 1) room (.slice au hs.length cu) hs K t (.slice ac ZS.length cc) ZS)) (fun i _ => 6 - (intOf i).toNat)
    case atStart => exact ⟨0, qq, 1 + t0, rfl, by omega, by omega, MV'⟩
    case round =>
      obtain ⟨j, q2, t, rfl, hj6, hq2, MR⟩ := hrel
      by_cases hj : j < 6
      · go_wp2_with fail
        refine (pick_any b q2 8 _ MR.out.rd (by omega) (by omega) (by omega)).mono ?_
        rintro e w10 ⟨y, rfl, ly, uy, r10, m10⟩
        have M10 := hide_it (MR.out.step m10 r10)
        clear r10 m10 MR
        by_cases hy : 0 < y
        · obtain ⟨⟨s0, s1, sl⟩, ⟨x0, x1, x2, xl⟩, ⟨xf0, xf1, xf2⟩⟩ := M10.out.cells
          have HMY := hide_it (specMay_any room (.slice au hs.length cu) hs K t (.slice ac ZS.length cc) ZS w10 M10.out.hol (by omega) (by obtain ⟨cap, hf⟩ := M10.out.num; exact hf.ints) (by omega))
          obtain ⟨BB, hBB⟩ : ∃ x, Hid (Pl.sMay room hs K t ZS = x) := ⟨_, rfl⟩
          rw [hBB.out] at HMY
          go_wp2_with fail
          refine HMY.out.mono ?_
          rintro e w11 ⟨rfl, hb11⟩
          have M11 := hide_it (M10.out.later hb11)
          clear hb11 s0 s1 sl x0 x1 x2 xl xf0 xf1 xf2 HMY hBB M10
          cases BB
          · go_wp2_with fail
            refine (pick_any b (q2 + 1) 6 _ M11.out.rd (by omega) (by omega) (by omega)).mono ?_
            rintro e w12 ⟨x, rfl, lx, ux, r12, m12⟩
            have M12 := hide_it (M11.out.step m12 r12)
            obtain ⟨⟨s0, s1, sl⟩, ⟨x0, x1, x2, xl⟩, ⟨xf0, xf1, xf2⟩⟩ := M12.out.cells
            have M13 := hide_it (M12.out.setX (i := 1) (.int .i64 (1 + x)) rfl M12.out.num)
            clear r12 m12 M11
            go_wp2_with fail
            go_roundw
            case rel => exact ⟨j + 1, q2 + 1 + 1, 1 + x, by go_num, by omega, by omega, M13⟩
            case measure => simp [intOf]; omega
          · go_wp2_with fail
            refine (pick_any b (q2 + 1) 12 _ M11.out.rd (by omega) (by omega) (by omega)).mono ?_
            rintro e w20 ⟨y2, rfl, ly2, uy2, r20, m20⟩
            have M20 := hide_it (M11.out.step m20 r20)
            clear r20 m20
            by_cases hy2 : y2 = 0
            · subst hy2
              go_wp2_with fail
              refine (rec_draw b (q2 + 1 + 1) _ M20.out.rd (by omega)).mono ?_
              rintro e w21 ⟨k1, t1, u1, zs1, q1, cap1, rfl, hz1, hF1, hqa, hqb, r21, m21⟩
              have M21 := hide_it (M20.out.step m21 r21)
              have F21 := hide_it (hF1.mono (show w.heap.size ≤ w20.heap.size from M20.out.low.size))
              obtain ⟨g1, off1, hu1⟩ : ∃ g off, u1 = .slice (some ⟨g, off, none⟩) zs1.length cap1 := by obtain ⟨g, off, cs, h, _⟩ := hF1; exact ⟨g, off, h⟩
              subst hu1
              obtain ⟨⟨s0, s1, sl⟩, ⟨x0, x1, x2, xl⟩, ⟨xf0, xf1, xf2⟩⟩ := M21.out.cells
              obtain ⟨w22, hw22⟩ : ∃ W, Hid (W = ((w21.setCell ⟨Z + 1, 0, none⟩ (.int .i64 k1)).setCell ⟨Z + 1, 1, none⟩ (.int .i64 t1)).setCell ⟨Z + 1, 2, none⟩ (.slice (some ⟨g1, off1, none⟩) zs1.length cap1)) := ⟨_, rfl⟩
              have M22 : Hid (StRM w w22 b q1 S (Z + 1) room (.slice au hs.length cu) hs k1 t1 (.slice (some ⟨g1, off1, none⟩) zs1.length cap1) zs1) := by
                show StRM _ _ _ _ _ _ _ _ _ _ _ _ _
                rw [hw22.out]
                have a1 := M21.out.setX (i := 0) (.int .i64 k1) rfl M21.out.num
                have a2 := a1.setX (i := 1) (.int .i64 t1) rfl a1.num
                exact a2.setX (i := 2) _ rfl ⟨cap1, (F21.out.set M21.out.row (by decide) _).set a1.row (by decide) _⟩
              clear r21 m21 hF1
              go_wp2_with fail
              rw [← hw22.out]
              clear s0 s1 sl x0 x1 x2 xl xf0 xf1 xf2
              obtain ⟨⟨s0, s1, sl⟩, ⟨x0, x1, x2, xl⟩, -⟩ := M22.out.cells
              obtain ⟨⟨ra, rc, p0, p1⟩, ⟨pf0, pf1⟩, ⟨r0, r1, r2, v0, v1, v2⟩, ⟨vf0, vf1, vf2⟩⟩ := M22.out.cellsR
              have hlb := M22.out.ltb
              have hn1 : w.heap.size ≠ S := by omega
              have hn2 : w.heap.size ≠ Z + 1 := by omega
              have hn3 : w.heap.size + 1 ≠ S := by omega
              have hn4 : ¬ w.heap.size = Z := by omega
              have hn5 : w.heap.size + 1 ≠ Z + 1 := by omega
              refine wp_region_held_drew (S := (fun w' => (w'.cell? ⟨S, 0, none⟩ = some (.int .i64 room) ∧ w'.cell? ⟨S, 1, none⟩ = some (.slice au hs.length cu)) ∧ w'.cell? ⟨Z + 1, 0, none⟩ = some (.int .i64 (k1)) ∧ w'.cell? ⟨Z + 1, 1, none⟩ = some (.int .i64 (t1)) ∧ w'.cell? ⟨Z + 1, 2, none⟩ = some (.slice (some ⟨g1, off1, none⟩) zs1.length cap1))) (by kernel_rfl) ⟨⟨s0, s1⟩, x0, x1, x2⟩ (fun hHeld => ?_)
              refine takeD (i := 0) (v := .agg #[.int .i64 room, (.slice au hs.length cu)]) (some 52) rfl rfl (by kernel_rfl) (by kernel_rfl) (by kernel_rfl) (fun _ _ _ h => h) (by rfl) hHeld ?_ ?_
              · intro W hSw
                obtain ⟨⟨e0, e1⟩, e2, e3, e4⟩ := hSw
                go_simp
              try simp only [Act.put]
              try simp only [List.setIfInBounds_toArray]
              try simp only [List.set_cons_succ]
              try simp only [List.set_cons_zero]
              refine takeD (i := 1) (v := .agg #[.int .i64 (k1), .int .i64 (t1), .slice (some ⟨g1, off1, none⟩) zs1.length cap1]) (some 53) rfl rfl (by kernel_rfl) (by kernel_rfl) (by kernel_rfl) (fun _ _ _ h => h) (by rfl) hHeld ?_ ?_
              · intro W hSw
                obtain ⟨⟨e0, e1⟩, e2, e3, e4⟩ := hSw
                go_simp
              try simp only [Act.put]
              try simp only [List.setIfInBounds_toArray]
              try simp only [List.set_cons_succ]
              try simp only [List.set_cons_zero]
              refine wpAnyH_ready (rs := [2]) (by kernel_rfl) (by simp) ?_
              refine AllReadyH.cons rfl (fun K1 hK1 => ?_) AllReadyH.nil
              go_simp
              refine hK1.out _ _ ?_ (fun hHeld => ?_)
              · exact ⟨⟨farD (farS (farS s0 hn1 _) hn1 _), farD (farS (farS s1 hn1 _) hn1 _)⟩, farD (farS (farS x0 hn2 _) hn2 _), farD (farS (farS x1 hn2 _) hn2 _), farD (farS (farS x2 hn2 _) hn2 _)⟩
              clear hK1 K1
              refine wpAnyH_ready (rs := [3]) (by kernel_rfl) (by simp) ?_
              refine AllReadyH.cons rfl (fun K1 hK1 => ?_) AllReadyH.nil
              go_simp
              refine hK1.out _ _ ?_ (fun hHeld => ?_)
              · exact ⟨⟨farD (farS (farS (farS (farS (farS s0 hn1 _) hn1 _) hn3 _) hn3 _) hn3 _), farD (farS (farS (farS (farS (farS s1 hn1 _) hn1 _) hn3 _) hn3 _) hn3 _)⟩, farD (farS (farS (farS (farS (farS x0 hn2 _) hn2 _) hn5 _) hn5 _) hn5 _), farD (farS (farS (farS (farS (farS x1 hn2 _) hn2 _) hn5 _) hn5 _) hn5 _), farD (farS (farS (farS (farS (farS x2 hn2 _) hn2 _) hn5 _) hn5 _) hn5 _)⟩
              clear hK1 K1
              refine wpAnyH_done (by kernel_rfl) ?_ _
              clear hHeld s0 s1 x0 x1 x2
              go_wp2
              exact bodyPost_ret (v := .tuple #[.agg #[.int .i64 room, (.slice au hs.length cu)], .agg #[.int .i64 (k1), .int .i64 (t1), .slice (some ⟨g1, off1, none⟩) zs1.length cap1]]) (by simp [results, Tryd.results19, go_sem, p0, p1, v0, v1, v2]) rfl ⟨room, _, hs, (k1), (t1), _, zs1, rfl, by omega, by omega, M22.out.doneD _ _ _ _ _⟩
            · obtain ⟨⟨s0, s1, sl⟩, ⟨x0, x1, x2, xl⟩, -⟩ := M20.out.cells
              obtain ⟨⟨ra, rc, p0, p1⟩, ⟨pf0, pf1⟩, ⟨r0, r1, r2, v0, v1, v2⟩, ⟨vf0, vf1, vf2⟩⟩ := M20.out.cellsR
              have hlb := M20.out.ltb
              have hn1 : w.heap.size ≠ S := by omega
              have hn2 : w.heap.size ≠ Z + 1 := by omega
              have hn3 : w.heap.size + 1 ≠ S := by omega
              have hn4 : ¬ w.heap.size = Z := by omega
              have hn5 : w.heap.size + 1 ≠ Z + 1 := by omega
              go_wp2_with fail
              refine wp_region_held_drew (S := (fun w' => (w'.cell? ⟨S, 0, none⟩ = some (.int .i64 room) ∧ w'.cell? ⟨S, 1, none⟩ = some (.slice au hs.length cu)) ∧ w'.cell? ⟨Z + 1, 0, none⟩ = some (.int .i64 (K)) ∧ w'.cell? ⟨Z + 1, 1, none⟩ = some (.int .i64 (t)) ∧ w'.cell? ⟨Z + 1, 2, none⟩ = some (.slice ac ZS.length cc))) (by kernel_rfl) ⟨⟨s0, s1⟩, x0, x1, x2⟩ (fun hHeld => ?_)
              refine takeD (i := 0) (v := .agg #[.int .i64 room, (.slice au hs.length cu)]) (some 52) rfl rfl (by kernel_rfl) (by kernel_rfl) (by kernel_rfl) (fun _ _ _ h => h) (by rfl) hHeld ?_ ?_
              · intro W hSw
                obtain ⟨⟨e0, e1⟩, e2, e3, e4⟩ := hSw
                go_simp
              try simp only [Act.put]
              try simp only [List.setIfInBounds_toArray]
              try simp only [List.set_cons_succ]
              try simp only [List.set_cons_zero]
              refine takeD (i := 1) (v := .agg #[.int .i64 (K), .int .i64 (t), .slice ac ZS.length cc]) (some 53) rfl rfl (by kernel_rfl) (by kernel_rfl) (by kernel_rfl) (fun _ _ _ h => h) (by rfl) hHeld ?_ ?_
              · intro W hSw
                obtain ⟨⟨e0, e1⟩, e2, e3, e4⟩ := hSw
                go_simp
              try simp only [Act.put]
              try simp only [List.setIfInBounds_toArray]
              try simp only [List.set_cons_succ]
              try simp only [List.set_cons_zero]
              refine wpAnyH_ready (rs := [2]) (by kernel_rfl) (by simp) ?_
              refine AllReadyH.cons rfl (fun K1 hK1 => ?_) AllReadyH.nil
              go_simp
              refine hK1.out _ _ ?_ (fun hHeld => ?_)
              · exact ⟨⟨farD (farS (farS s0 hn1 _) hn1 _), farD (farS (farS s1 hn1 _) hn1 _)⟩, farD (farS (farS x0 hn2 _) hn2 _), farD (farS (farS x1 hn2 _) hn2 _), farD (farS (farS x2 hn2 _) hn2 _)⟩
              clear hK1 K1
              refine wpAnyH_ready (rs := [3]) (by kernel_rfl) (by simp) ?_
              refine AllReadyH.cons rfl (fun K1 hK1 => ?_) AllReadyH.nil
              go_simp
              refine hK1.out _ _ ?_ (fun hHeld => ?_)
              · exact ⟨⟨farD (farS (farS (farS (farS (farS s0 hn1 _) hn1 _) hn3 _) hn3 _) hn3 _), farD (farS (farS (farS (farS (farS s1 hn1 _) hn1 _) hn3 _) hn3 _) hn3 _)⟩, farD (farS (farS (farS (farS (farS x0 hn2 _) hn2 _) hn5 _) hn5 _) hn5 _), farD (farS (farS (farS (farS (farS x1 hn2 _) hn2 _) hn5 _) hn5 _) hn5 _), farD (farS (farS (farS (farS (farS x2 hn2 _) hn2 _) hn5 _) hn5 _) hn5 _)⟩
              clear hK1 K1
              refine wpAnyH_done (by kernel_rfl) ?_ _
              clear hHeld s0 s1 x0 x1 x2
              go_wp2
              exact bodyPost_ret (v := .tuple #[.agg #[.int .i64 room, (.slice au hs.length cu)], .agg #[.int .i64 (K), .int .i64 (t), .slice ac ZS.length cc]]) (by simp [results, Tryd.results19, go_sem, p0, p1, v0, v1, v2]) rfl ⟨room, _, hs, (K), (t), _, ZS, rfl, by omega, by omega, M20.out.doneD _ _ _ _ _⟩
        · go_wp2_with fail
          refine (pick_any b (q2 + 1) 12 _ M10.out.rd (by omega) (by omega) (by omega)).mono ?_
          rintro e w20 ⟨y2, rfl, ly2, uy2, r20, m20⟩
          have M20 := hide_it (M10.out.step m20 r20)
          clear r20 m20
          by_cases hy2 : y2 = 0
          · subst hy2
            go_wp2_with fail
            refine (rec_draw b (q2 + 1 + 1) _ M20.out.rd (by omega)).mono ?_
            rintro e w21 ⟨k1, t1, u1, zs1, q1, cap1, rfl, hz1, hF1, hqa, hqb, r21, m21⟩
            have M21 := hide_it (M20.out.step m21 r21)
            have F21 := hide_it (hF1.mono (show w.heap.size ≤ w20.heap.size from M20.out.low.size))
            obtain ⟨g1, off1, hu1⟩ : ∃ g off, u1 = .slice (some ⟨g, off, none⟩) zs1.length cap1 := by obtain ⟨g, off, cs, h, _⟩ := hF1; exact ⟨g, off, h⟩
            subst hu1
            obtain ⟨⟨s0, s1, sl⟩, ⟨x0, x1, x2, xl⟩, ⟨xf0, xf1, xf2⟩⟩ := M21.out.cells
            obtain ⟨w22, hw22⟩ : ∃ W, Hid (W = ((w21.setCell ⟨Z + 1, 0, none⟩ (.int .i64 k1)).setCell ⟨Z + 1, 1, none⟩ (.int .i64 t1)).setCell ⟨Z + 1, 2, none⟩ (.slice (some ⟨g1, off1, none⟩) zs1.length cap1)) := ⟨_, rfl⟩
            have M22 : Hid (StRM w w22 b q1 S (Z + 1) room (.slice au hs.length cu) hs k1 t1 (.slice (some ⟨g1, off1, none⟩) zs1.length cap1) zs1) := by
              show StRM _ _ _ _ _ _ _ _ _ _ _ _ _
              rw [hw22.out]
              have a1 := M21.out.setX (i := 0) (.int .i64 k1) rfl M21.out.num
              have a2 := a1.setX (i := 1) (.int .i64 t1) rfl a1.num
              exact a2.setX (i := 2) _ rfl ⟨cap1, (F21.out.set M21.out.row (by decide) _).set a1.row (by decide) _⟩
            clear r21 m21 hF1
            go_wp2_with fail
            rw [← hw22.out]
            clear s0 s1 sl x0 x1 x2 xl xf0 xf1 xf2
            obtain ⟨⟨s0, s1, sl⟩, ⟨x0, x1, x2, xl⟩, -⟩ := M22.out.cells
            obtain ⟨⟨ra, rc, p0, p1⟩, ⟨pf0, pf1⟩, ⟨r0, r1, r2, v0, v1, v2⟩, ⟨vf0, vf1, vf2⟩⟩ := M22.out.cellsR
            have hlb := M22.out.ltb
            have hn1 : w.heap.size ≠ S := by omega
            have hn2 : w.heap.size ≠ Z + 1 := by omega
            have hn3 : w.heap.size + 1 ≠ S := by omega
            have hn4 : ¬ w.heap.size = Z := by omega
            have hn5 : w.heap.size + 1 ≠ Z + 1 := by omega
            refine wp_region_held_drew (S := (fun w' => (w'.cell? ⟨S, 0, none⟩ = some (.int .i64 room) ∧ w'.cell? ⟨S, 1, none⟩ = some (.slice au hs.length cu)) ∧ w'.cell? ⟨Z + 1, 0, none⟩ = some (.int .i64 (k1)) ∧ w'.cell? ⟨Z + 1, 1, none⟩ = some (.int .i64 (t1)) ∧ w'.cell? ⟨Z + 1, 2, none⟩ = some (.slice (some ⟨g1, off1, none⟩) zs1.length cap1))) (by kernel_rfl) ⟨⟨s0, s1⟩, x0, x1, x2⟩ (fun hHeld => ?_)
            refine takeD (i := 0) (v := .agg #[.int .i64 room, (.slice au hs.length cu)]) (some 52) rfl rfl (by kernel_rfl) (by kernel_rfl) (by kernel_rfl) (fun _ _ _ h => h) (by rfl) hHeld ?_ ?_
            · intro W hSw
              obtain ⟨⟨e0, e1⟩, e2, e3, e4⟩ := hSw
              go_simp
            try simp only [Act.put]
            try simp only [List.setIfInBounds_toArray]
            try simp only [List.set_cons_succ]
            try simp only [List.set_cons_zero]
            refine takeD (i := 1) (v := .agg #[.int .i64 (k1), .int .i64 (t1), .slice (some ⟨g1, off1, none⟩) zs1.length cap1]) (some 53) rfl rfl (by kernel_rfl) (by kernel_rfl) (by kernel_rfl) (fun _ _ _ h => h) (by rfl) hHeld ?_ ?_
            · intro W hSw
              obtain ⟨⟨e0, e1⟩, e2, e3, e4⟩ := hSw
              go_simp
            try simp only [Act.put]
            try simp only [List.setIfInBounds_toArray]
            try simp only [List.set_cons_succ]
            try simp only [List.set_cons_zero]
            refine wpAnyH_ready (rs := [2]) (by kernel_rfl) (by simp) ?_
            refine AllReadyH.cons rfl (fun K1 hK1 => ?_) AllReadyH.nil
            go_simp
            refine hK1.out _ _ ?_ (fun hHeld => ?_)
            · exact ⟨⟨farD (farS (farS s0 hn1 _) hn1 _), farD (farS (farS s1 hn1 _) hn1 _)⟩, farD (farS (farS x0 hn2 _) hn2 _), farD (farS (farS x1 hn2 _) hn2 _), farD (farS (farS x2 hn2 _) hn2 _)⟩
            clear hK1 K1
            refine wpAnyH_ready (rs := [3]) (by kernel_rfl) (by simp) ?_
            refine AllReadyH.cons rfl (fun K1 hK1 => ?_) AllReadyH.nil
            go_simp
            refine hK1.out _ _ ?_ (fun hHeld => ?_)
            · exact ⟨⟨farD (farS (farS (farS (farS (farS s0 hn1 _) hn1 _) hn3 _) hn3 _) hn3 _), farD (farS (farS (farS (farS (farS s1 hn1 _) hn1 _) hn3 _) hn3 _) hn3 _)⟩, farD (farS (farS (farS (farS (farS x0 hn2 _) hn2 _) hn5 _) hn5 _) hn5 _), farD (farS (farS (farS (farS (farS x1 hn2 _) hn2 _) hn5 _) hn5 _) hn5 _), farD (farS (farS (farS (farS (farS x2 hn2 _) hn2 _) hn5 _) hn5 _) hn5 _)⟩
            clear hK1 K1
            refine wpAnyH_done (by kernel_rfl) ?_ _
            clear hHeld s0 s1 x0 x1 x2
            go_wp2
            exact bodyPost_ret (v := .tuple #[.agg #[.int .i64 room, (.slice au hs.length cu)], .agg #[.int .i64 (k1), .int .i64 (t1), .slice (some ⟨g1, off1, none⟩) zs1.length cap1]]) (by simp [results, Tryd.results19, go_sem, p0, p1, v0, v1, v2]) rfl ⟨room, _, hs, (k1), (t1), _, zs1, rfl, by omega, by omega, M22.out.doneD _ _ _ _ _⟩
          · obtain ⟨⟨s0, s1, sl⟩, ⟨x0, x1, x2, xl⟩, -⟩ := M20.out.cells
            obtain ⟨⟨ra, rc, p0, p1⟩, ⟨pf0, pf1⟩, ⟨r0, r1, r2, v0, v1, v2⟩, ⟨vf0, vf1, vf2⟩⟩ := M20.out.cellsR
            have hlb := M20.out.ltb
            have hn1 : w.heap.size ≠ S := by omega
            have hn2 : w.heap.size ≠ Z + 1 := by omega
            have hn3 : w.heap.size + 1 ≠ S := by omega
            have hn4 : ¬ w.heap.size = Z := by omega
            have hn5 : w.heap.size + 1 ≠ Z + 1 := by omega
            go_wp2_with fail
            refine wp_region_held_drew (S := (fun w' => (w'.cell? ⟨S, 0, none⟩ = some (.int .i64 room) ∧ w'.cell? ⟨S, 1, none⟩ = some (.slice au hs.length cu)) ∧ w'.cell? ⟨Z + 1, 0, none⟩ = some (.int .i64 (K)) ∧ w'.cell? ⟨Z + 1, 1, none⟩ = some (.int .i64 (t)) ∧ w'.cell? ⟨Z + 1, 2, none⟩ = some (.slice ac ZS.length cc))) (by kernel_rfl) ⟨⟨s0, s1⟩, x0, x1, x2⟩ (fun hHeld => ?_)
            refine takeD (i := 0) (v := .agg #[.int .i64 room, (.slice au hs.length cu)]) (some 52) rfl rfl (by kernel_rfl) (by kernel_rfl) (by kernel_rfl) (fun _ _ _ h => h) (by rfl) hHeld ?_ ?_
            · intro W hSw
              obtain ⟨⟨e0, e1⟩, e2, e3, e4⟩ := hSw
              go_simp
            try simp only [Act.put]
            try simp only [List.setIfInBounds_toArray]
            try simp only [List.set_cons_succ]
            try simp only [List.set_cons_zero]
            refine takeD (i := 1) (v := .agg #[.int .i64 (K), .int .i64 (t), .slice ac ZS.length cc]) (some 53) rfl rfl (by kernel_rfl) (by kernel_rfl) (by kernel_rfl) (fun _ _ _ h => h) (by rfl) hHeld ?_ ?_
            · intro W hSw
              obtain ⟨⟨e0, e1⟩, e2, e3, e4⟩ := hSw
              go_simp
            try simp only [Act.put]
            try simp only [List.setIfInBounds_toArray]
            try simp only [List.set_cons_succ]
            try simp only [List.set_cons_zero]
            refine wpAnyH_ready (rs := [2]) (by kernel_rfl) (by simp) ?_
            refine AllReadyH.cons rfl (fun K1 hK1 => ?_) AllReadyH.nil
            go_simp
            refine hK1.out _ _ ?_ (fun hHeld => ?_)
            · exact ⟨⟨farD (farS (farS s0 hn1 _) hn1 _), farD (farS (farS s1 hn1 _) hn1 _)⟩, farD (farS (farS x0 hn2 _) hn2 _), farD (farS (farS x1 hn2 _) hn2 _), farD (farS (farS x2 hn2 _) hn2 _)⟩
            clear hK1 K1
            refine wpAnyH_ready (rs := [3]) (by kernel_rfl) (by simp) ?_
            refine AllReadyH.cons rfl (fun K1 hK1 => ?_) AllReadyH.nil
            go_simp
            refine hK1.out _ _ ?_ (fun hHeld => ?_)
            · exact ⟨⟨farD (farS (farS (farS (farS (farS s0 hn1 _) hn1 _) hn3 _) hn3 _) hn3 _), farD (farS (farS (farS (farS (farS s1 hn1 _) hn1 _) hn3 _) hn3 _) hn3 _)⟩, farD (farS (farS (farS (farS (farS x0 hn2 _) hn2 _) hn5 _) hn5 _) hn5 _), farD (farS (farS (farS (farS (farS x1 hn2 _) hn2 _) hn5 _) hn5 _) hn5 _), farD (farS (farS (farS (farS (farS x2 hn2 _) hn2 _) hn5 _) hn5 _) hn5 _)⟩
            clear hK1 K1
            refine wpAnyH_done (by kernel_rfl) ?_ _
            clear hHeld s0 s1 x0 x1 x2
            go_wp2
            exact bodyPost_ret (v := .tuple #[.agg #[.int .i64 room, (.slice au hs.length cu)], .agg #[.int .i64 (K), .int .i64 (t), .slice ac ZS.length cc]]) (by simp [results, Tryd.results19, go_sem, p0, p1, v0, v1, v2]) rfl ⟨room, _, hs, (K), (t), _, ZS, rfl, by omega, by omega, M20.out.doneD _ _ _ _ _⟩
      · go_wp2_with fail
        refine (pick_any b (q2) 12 _ MR.out.rd (by omega) (by omega) (by omega)).mono ?_
        rintro e w20 ⟨y2, rfl, ly2, uy2, r20, m20⟩
        have M20 := hide_it (MR.out.step m20 r20)
        clear r20 m20
        by_cases hy2 : y2 = 0
        · subst hy2
          go_wp2_with fail
          refine (rec_draw b (q2 + 1) _ M20.out.rd (by omega)).mono ?_
          rintro e w21 ⟨k1, t1, u1, zs1, q1, cap1, rfl, hz1, hF1, hqa, hqb, r21, m21⟩
          have M21 := hide_it (M20.out.step m21 r21)
          have F21 := hide_it (hF1.mono (show w.heap.size ≤ w20.heap.size from M20.out.low.size))
          obtain ⟨g1, off1, hu1⟩ : ∃ g off, u1 = .slice (some ⟨g, off, none⟩) zs1.length cap1 := by obtain ⟨g, off, cs, h, _⟩ := hF1; exact ⟨g, off, h⟩
          subst hu1
          obtain ⟨⟨s0, s1, sl⟩, ⟨x0, x1, x2, xl⟩, ⟨xf0, xf1, xf2⟩⟩ := M21.out.cells
          obtain ⟨w22, hw22⟩ : ∃ W, Hid (W = ((w21.setCell ⟨Z + 1, 0, none⟩ (.int .i64 k1)).setCell ⟨Z + 1, 1, none⟩ (.int .i64 t1)).setCell ⟨Z + 1, 2, none⟩ (.slice (some ⟨g1, off1, none⟩) zs1.length cap1)) := ⟨_, rfl⟩
          have M22 : Hid (StRM w w22 b q1 S (Z + 1) room (.slice au hs.length cu) hs k1 t1 (.slice (some ⟨g1, off1, none⟩) zs1.length cap1) zs1) := by
            show StRM _ _ _ _ _ _ _ _ _ _ _ _ _
            rw [hw22.out]
            have a1 := M21.out.setX (i := 0) (.int .i64 k1) rfl M21.out.num
            have a2 := a1.setX (i := 1) (.int .i64 t1) rfl a1.num
            exact a2.setX (i := 2) _ rfl ⟨cap1, (F21.out.set M21.out.row (by decide) _).set a1.row (by decide) _⟩
          clear r21 m21 hF1
          go_wp2_with fail
          rw [← hw22.out]
          clear s0 s1 sl x0 x1 x2 xl xf0 xf1 xf2
          obtain ⟨⟨s0, s1, sl⟩, ⟨x0, x1, x2, xl⟩, -⟩ := M22.out.cells
          obtain ⟨⟨ra, rc, p0, p1⟩, ⟨pf0, pf1⟩, ⟨r0, r1, r2, v0, v1, v2⟩, ⟨vf0, vf1, vf2⟩⟩ := M22.out.cellsR
          have hlb := M22.out.ltb
          have hn1 : w.heap.size ≠ S := by omega
          have hn2 : w.heap.size ≠ Z + 1 := by omega
          have hn3 : w.heap.size + 1 ≠ S := by omega
          have hn4 : ¬ w.heap.size = Z := by omega
          have hn5 : w.heap.size + 1 ≠ Z + 1 := by omega
          refine wp_region_held_drew (S := (fun w' => (w'.cell? ⟨S, 0, none⟩ = some (.int .i64 room) ∧ w'.cell? ⟨S, 1, none⟩ = some (.slice au hs.length cu)) ∧ w'.cell? ⟨Z + 1, 0, none⟩ = some (.int .i64 (k1)) ∧ w'.cell? ⟨Z + 1, 1, none⟩ = some (.int .i64 (t1)) ∧ w'.cell? ⟨Z + 1, 2, none⟩ = some (.slice (some ⟨g1, off1, none⟩) zs1.length cap1))) (by kernel_rfl) ⟨⟨s0, s1⟩, x0, x1, x2⟩ (fun hHeld => ?_)
          refine takeD (i := 0) (v := .agg #[.int .i64 room, (.slice au hs.length cu)]) (some 52) rfl rfl (by kernel_rfl) (by kernel_rfl) (by kernel_rfl) (fun _ _ _ h => h) (by rfl) hHeld ?_ ?_
          · intro W hSw
            obtain ⟨⟨e0, e1⟩, e2, e3, e4⟩ := hSw
            go_simp
          try simp only [Act.put]
          try simp only [List.setIfInBounds_toArray]
          try simp only [List.set_cons_succ]
          try simp only [List.set_cons_zero]
          refine takeD (i := 1) (v := .agg #[.int .i64 (k1), .int .i64 (t1), .slice (some ⟨g1, off1, none⟩) zs1.length cap1]) (some 53) rfl rfl (by kernel_rfl) (by kernel_rfl) (by kernel_rfl) (fun _ _ _ h => h) (by rfl) hHeld ?_ ?_
          · intro W hSw
            obtain ⟨⟨e0, e1⟩, e2, e3, e4⟩ := hSw
            go_simp
          try simp only [Act.put]
          try simp only [List.setIfInBounds_toArray]
          try simp only [List.set_cons_succ]
          try simp only [List.set_cons_zero]
          refine wpAnyH_ready (rs := [2]) (by kernel_rfl) (by simp) ?_
          refine AllReadyH.cons rfl (fun K1 hK1 => ?_) AllReadyH.nil
          go_simp
          refine hK1.out _ _ ?_ (fun hHeld => ?_)
          · exact ⟨⟨farD (farS (farS s0 hn1 _) hn1 _), farD (farS (farS s1 hn1 _) hn1 _)⟩, farD (farS (farS x0 hn2 _) hn2 _), farD (farS (farS x1 hn2 _) hn2 _), farD (farS (farS x2 hn2 _) hn2 _)⟩
          clear hK1 K1
          refine wpAnyH_ready (rs := [3]) (by kernel_rfl) (by simp) ?_
          refine AllReadyH.cons rfl (fun K1 hK1 => ?_) AllReadyH.nil
          go_simp
          refine hK1.out _ _ ?_ (fun hHeld => ?_)
          · exact ⟨⟨farD (farS (farS (farS (farS (farS s0 hn1 _) hn1 _) hn3 _) hn3 _) hn3 _), farD (farS (farS (farS (farS (farS s1 hn1 _) hn1 _) hn3 _) hn3 _) hn3 _)⟩, farD (farS (farS (farS (farS (farS x0 hn2 _) hn2 _) hn5 _) hn5 _) hn5 _), farD (farS (farS (farS (farS (farS x1 hn2 _) hn2 _) hn5 _) hn5 _) hn5 _), farD (farS (farS (farS (farS (farS x2 hn2 _) hn2 _) hn5 _) hn5 _) hn5 _)⟩
          clear hK1 K1
          refine wpAnyH_done (by kernel_rfl) ?_ _
          clear hHeld s0 s1 x0 x1 x2
          go_wp2
          exact bodyPost_ret (v := .tuple #[.agg #[.int .i64 room, (.slice au hs.length cu)], .agg #[.int .i64 (k1), .int .i64 (t1), .slice (some ⟨g1, off1, none⟩) zs1.length cap1]]) (by simp [results, Tryd.results19, go_sem, p0, p1, v0, v1, v2]) rfl ⟨room, _, hs, (k1), (t1), _, zs1, rfl, by omega, by omega, M22.out.doneD _ _ _ _ _⟩
        · obtain ⟨⟨s0, s1, sl⟩, ⟨x0, x1, x2, xl⟩, -⟩ := M20.out.cells
          obtain ⟨⟨ra, rc, p0, p1⟩, ⟨pf0, pf1⟩, ⟨r0, r1, r2, v0, v1, v2⟩, ⟨vf0, vf1, vf2⟩⟩ := M20.out.cellsR
          have hlb := M20.out.ltb
          have hn1 : w.heap.size ≠ S := by omega
          have hn2 : w.heap.size ≠ Z + 1 := by omega
          have hn3 : w.heap.size + 1 ≠ S := by omega
          have hn4 : ¬ w.heap.size = Z := by omega
          have hn5 : w.heap.size + 1 ≠ Z + 1 := by omega
          go_wp2_with fail
          refine wp_region_held_drew (S := (fun w' => (w'.cell? ⟨S, 0, none⟩ = some (.int .i64 room) ∧ w'.cell? ⟨S, 1, none⟩ = some (.slice au hs.length cu)) ∧ w'.cell? ⟨Z + 1, 0, none⟩ = some (.int .i64 (K)) ∧ w'.cell? ⟨Z + 1, 1, none⟩ = some (.int .i64 (t)) ∧ w'.cell? ⟨Z + 1, 2, none⟩ = some (.slice ac ZS.length cc))) (by kernel_rfl) ⟨⟨s0, s1⟩, x0, x1, x2⟩ (fun hHeld => ?_)
          refine takeD (i := 0) (v := .agg #[.int .i64 room, (.slice au hs.length cu)]) (some 52) rfl rfl (by kernel_rfl) (by kernel_rfl) (by kernel_rfl) (fun _ _ _ h => h) (by rfl) hHeld ?_ ?_
          · intro W hSw
            obtain ⟨⟨e0, e1⟩, e2, e3, e4⟩ := hSw
            go_simp
          try simp only [Act.put]
          try simp only [List.setIfInBounds_toArray]
          try simp only [List.set_cons_succ]
          try simp only [List.set_cons_zero]
          refine takeD (i := 1) (v := .agg #[.int .i64 (K), .int .i64 (t), .slice ac ZS.length cc]) (some 53) rfl rfl (by kernel_rfl) (by kernel_rfl) (by kernel_rfl) (fun _ _ _ h => h) (by rfl) hHeld ?_ ?_
          · intro W hSw
            obtain ⟨⟨e0, e1⟩, e2, e3, e4⟩ := hSw
            go_simp
          try simp only [Act.put]
          try simp only [List.setIfInBounds_toArray]
          try simp only [List.set_cons_succ]
          try simp only [List.set_cons_zero]
          refine wpAnyH_ready (rs := [2]) (by kernel_rfl) (by simp) ?_
          refine AllReadyH.cons rfl (fun K1 hK1 => ?_) AllReadyH.nil
          go_simp
          refine hK1.out _ _ ?_ (fun hHeld => ?_)
          · exact ⟨⟨farD (farS (farS s0 hn1 _) hn1 _), farD (farS (farS s1 hn1 _) hn1 _)⟩, farD (farS (farS x0 hn2 _) hn2 _), farD (farS (farS x1 hn2 _) hn2 _), farD (farS (farS x2 hn2 _) hn2 _)⟩
          clear hK1 K1
          refine wpAnyH_ready (rs := [3]) (by kernel_rfl) (by simp) ?_
          refine AllReadyH.cons rfl (fun K1 hK1 => ?_) AllReadyH.nil
          go_simp
          refine hK1.out _ _ ?_ (fun hHeld => ?_)
          · exact ⟨⟨farD (farS (farS (farS (farS (farS s0 hn1 _) hn1 _) hn3 _) hn3 _) hn3 _), farD (farS (farS (farS (farS (farS s1 hn1 _) hn1 _) hn3 _) hn3 _) hn3 _)⟩, farD (farS (farS (farS (farS (farS x0 hn2 _) hn2 _) hn5 _) hn5 _) hn5 _), farD (farS (farS (farS (farS (farS x1 hn2 _) hn2 _) hn5 _) hn5 _) hn5 _), farD (farS (farS (farS (farS (farS x2 hn2 _) hn2 _) hn5 _) hn5 _) hn5 _)⟩
          clear hK1 K1
          refine wpAnyH_done (by kernel_rfl) ?_ _
          clear hHeld s0 s1 x0 x1 x2
          go_wp2
          exact bodyPost_ret (v := .tuple #[.agg #[.int .i64 room, (.slice au hs.length cu)], .agg #[.int .i64 (K), .int .i64 (t), .slice ac ZS.length cc]]) (by simp [results, Tryd.results19, go_sem, p0, p1, v0, v1, v2]) rfl ⟨room, _, hs, (K), (t), _, ZS, rfl, by omega, by omega, M20.out.doneD _ _ _ _ _⟩

end Go.Proofs.YtcofnjooiemkfaaDoor

namespace Go.Proofs.YtcofnjooiemkfaaDoor
open Go.RowKit

/-- A stock and a record that came in, in the law's own blocks. -/
def Pr (w : World) (B : Nat) (room : Int) (v : Value) (k t : Int) (u : Value) : Prop := Duo w B (.int .i64 room) v ∧ RecAt w (B + 1) k t u
theorem Pr.later {w w' : World} {B L : Nat} {room : Int} {v : Value} {k t : Int} {u : Value} (h : Pr w B room v k t u) (hb : Below L w w') (hL : w.heap.size ≤ L) : Pr w' B room v k t u := ⟨h.1.later hb hL, h.2.later hb hL⟩
theorem Pr.new (w : World) (room : Int) (v : Value) (k t : Int) (u : Value) (t1 t2 : TypeId) : Pr ((w.alloc (.cells #[.int .i64 room, v] t1)).alloc (.cells #[.int .i64 k, .int .i64 t, u] t2)) w.heap.size room v k t u := by
  refine ⟨(Duo.new w _ _ _).later (al_below _ _) (Nat.le_refl _), ?_⟩
  have h := RecAt.new (w.alloc (.cells #[.int .i64 room, v] t1)) k t u t2
  rw [World.size_alloc] at h
  exact h

theorem RecAt.mid {lo hi : Nat} {w w' : World} {b : Nat} {k t : Int} {u : Value} (h : RecAt w b k t u) (hm : Mid lo hi w w') (hb : b < lo ∨ hi ≤ b) : RecAt w' b k t u := by
  have hlt := World.block_lt_of_cell? _ _ h.1
  simp at hlt
  have e := hm.block b hlt hb
  exact ⟨by rw [← h.1]; exact World.cell?_of_block (a := ⟨b, 0, none⟩) e, by rw [← h.2.1]; exact World.cell?_of_block (a := ⟨b, 1, none⟩) e, by rw [← h.2.2]; exact World.cell?_of_block (a := ⟨b, 2, none⟩) e⟩
theorem Duo.mid' {lo hi : Nat} {w w' : World} {b : Nat} {x y : Value} (h : Duo w b x y) (hm : Mid lo hi w w') (hb : b < lo ∨ hi ≤ b) : Duo w' b x y := by
  have hlt := h.lt
  have e := hm.block b hlt hb
  exact ⟨by rw [← h.1]; exact World.cell?_of_block (a := ⟨b, 0, none⟩) e, by rw [← h.2]; exact World.cell?_of_block (a := ⟨b, 1, none⟩) e⟩

theorem k_drew {w2 w3 : World} (hb : Below w2.drew.heap.size w2.drew w3) : Below w2.heap.size w2 w3 := (Below.refl w2.heap.size w2).drew.trans hb
theorem k_size0 (w : World) : w.drew.heap.size = w.heap.size := rfl

end Go.Proofs.YtcofnjooiemkfaaDoor

namespace Go.Proofs.YtcofnjooiemkfaaDoor
open Go.RowKit

set_option maxHeartbeats 2000000 in
theorem lnStock_any (room : Int) (v1 v2 : Value) (hs : List Pl.H) (w : World) (h1 : Holds w v1 hs) (h2 : Holds w v2 hs) (hl : hs.length ≤ 1048576) :
    Calls Tryd.prog 12 #[.agg #[.int .i64 room, v1], .agg #[.int .i64 room, v2]] w fun e w' => e = .returned (.bool true) ∧ Below w.heap.size w w' := by
  rcases h1 with ⟨rfl, ao, cap, rfl, -⟩ | ⟨b, off, cap, rfl, hz, hc⟩
  · obtain ⟨ao2, cap2, rfl⟩ := h2.shape
    clear h2
    go_enter Tryd.func12, Tryd.ntmps12
    go_wp2
    refine wp_loop_rounds 1 ?_
    rw [rounds_succ]
    go_wp2
    go_ret
    exact ⟨rfl, below2 w _ _⟩
  rcases h2 with ⟨h, _⟩ | ⟨b2, off2, cap2, rfl, _, hc2⟩
  · exact absurd h hz
  have HC : Hid (∀ k, k < hs.length → w.cell? ⟨b, off + k * 2, none⟩ = some (.int .i64 (hs.getD k (0, 0)).1) ∧ w.cell? ⟨b, off + k * 2 + 1, none⟩ = some (.int .i64 (hs.getD k (0, 0)).2)) := hc
  have HC2 : Hid (∀ k, k < hs.length → w.cell? ⟨b2, off2 + k * 2, none⟩ = some (.int .i64 (hs.getD k (0, 0)).1) ∧ w.cell? ⟨b2, off2 + k * 2 + 1, none⟩ = some (.int .i64 (hs.getD k (0, 0)).2)) := hc2
  have hzl : 0 < hs.length := List.length_pos_iff.2 hz
  have hbw : b < w.heap.size := World.block_lt_of_cell? _ _ (hc 0 hzl).1
  have hbw2 : b2 < w.heap.size := World.block_lt_of_cell? _ _ (hc2 0 hzl).1
  have DA := hide_it ((Duo.new w (.int .i64 room) (.slice (some ⟨b, off, none⟩) hs.length cap) 25).later (al_below _ (.cells #[.int .i64 room, .slice (some ⟨b2, off2, none⟩) hs.length cap2] 25)) (Nat.le_refl _))
  have DB := hide_it (Duo.new (w.alloc (.cells #[.int .i64 room, .slice (some ⟨b, off, none⟩) hs.length cap] 25)) (.int .i64 room) (.slice (some ⟨b2, off2, none⟩) hs.length cap2) 25)
  rw [World.size_alloc] at DB
  clear hc hc2 hz
  go_enter Tryd.func12, Tryd.ntmps12
  go_wp2
  go_loopw [5] (fun i wr => ∃ k : Nat, k ≤ hs.length ∧ i = .int .i64 k ∧ Hid (Below (w.heap.size + 2) ((w.alloc (.cells #[.int .i64 room, .slice (some ⟨b, off, none⟩) hs.length cap] 25)).alloc (.cells #[.int .i64 room, .slice (some ⟨b2, off2, none⟩) hs.length cap2] 25)) wr)) (fun i _ => hs.length - (intOf i).toNat)
  case atStart => exact ⟨0, Nat.zero_le _, rfl, Below.refl _ _⟩
  case round =>
    obtain ⟨k, hk, rfl, HB⟩ := hrel
    obtain ⟨a0, a1⟩ := DA.out.later HB.out (by simp)
    obtain ⟨e0, e1⟩ := DB.out.later HB.out (by simp)
    by_cases hlt : k < hs.length
    · obtain ⟨m, s, HZ⟩ : ∃ m s, Hid (hs.getD k (0, 0) = (m, s)) := ⟨_, _, rfl⟩
      have HBw := (below2 w (.cells #[.int .i64 room, .slice (some ⟨b, off, none⟩) hs.length cap] 25) (.cells #[.int .i64 room, .slice (some ⟨b2, off2, none⟩) hs.length cap2] 25)).trans (HB.out.mono (by omega))
      have c0 : wr.cell? ⟨b, off + k * 2, none⟩ = some (.int .i64 m) := by rw [HBw.cell (p := ⟨b, off + k * 2, none⟩) hbw, (HC.out k hlt).1, HZ.out]
      have c1 : wr.cell? ⟨b, off + k * 2 + 1, none⟩ = some (.int .i64 s) := by rw [HBw.cell (p := ⟨b, off + k * 2 + 1, none⟩) hbw, (HC.out k hlt).2, HZ.out]
      have d0 : wr.cell? ⟨b2, off2 + k * 2, none⟩ = some (.int .i64 m) := by rw [HBw.cell (p := ⟨b2, off2 + k * 2, none⟩) hbw2, (HC2.out k hlt).1, HZ.out]
      have d1 : wr.cell? ⟨b2, off2 + k * 2 + 1, none⟩ = some (.int .i64 s) := by rw [HBw.cell (p := ⟨b2, off2 + k * 2 + 1, none⟩) hbw2, (HC2.out k hlt).2, HZ.out]
      have hli : (k : Int) < (hs.length : Int) := by omega
      clear HBw
      go_wp2
      go_quiet (fail)
      go_wp2
      go_roundw
      case rel => exact ⟨k + 1, by omega, by go_num, below_drewN HB.out _⟩
      case measure => simp [intOf]; omega
    · go_wp2
      go_ret
      exact ⟨rfl, (below2 w _ _).trans (HB.out.mono (by omega))⟩

end Go.Proofs.YtcofnjooiemkfaaDoor

namespace Go.Proofs.YtcofnjooiemkfaaDoor
open Go.RowKit

/-- A record as plain data: its kind, its trip, its numbers. -/
abbrev Rc := R

/-- A block as it lies. -/
def Blk (w : World) (b : Nat) (cs : Array Value) (ty : TypeId) : Prop := w.heap[b]? = some (.cells cs ty (0, 0))
theorem Blk.new (w : World) (cs : Array Value) (ty : TypeId) : Blk (w.alloc (.cells cs ty)) w.heap.size cs ty := heap_alloc_new w _
theorem Blk.lt {w : World} {b : Nat} {cs : Array Value} {ty : TypeId} (h : Blk w b cs ty) : b < w.heap.size := lt_of_heap h
theorem Blk.later {w w' : World} {b L : Nat} {cs : Array Value} {ty : TypeId} (h : Blk w b cs ty) (hb : Below L w w') (hL : b < L) : Blk w' b cs ty := by
  unfold Blk; rw [hb.block b hL]; exact h
theorem Blk.after {w w' : World} {b : Nat} {cs : Array Value} {ty : TypeId} (h : Blk w b cs ty) (hb : Below w.heap.size w w') : Blk w' b cs ty := h.later hb h.lt
theorem Blk.mid {w w' : World} {b l h' : Nat} {cs : Array Value} {ty : TypeId} (h : Blk w b cs ty) (hm : Mid l h' w w') (hb : b < l ∨ h' ≤ b) : Blk w' b cs ty := by
  unfold Blk; rw [hm.block b h.lt hb]; exact h
theorem Blk.cell {w : World} {b : Nat} {cs : Array Value} {ty : TypeId} (h : Blk w b cs ty) (i : Nat) : w.cell? ⟨b, i, none⟩ = cs[i]? := cell_of_row w _ _ _ _ _ h
theorem Blk.free {w : World} {b : Nat} {cs : Array Value} {ty : TypeId} (h : Blk w b cs ty) (i : Nat) : w.frozen? ⟨b, i, none⟩ = false := frozen_of_row w _ _ _ _ h
theorem Blk.other {w : World} {b : Nat} {cs : Array Value} {ty : TypeId} (h : Blk w b cs ty) {a : Addr} (ha : b ≠ a.block) (x : Value) : Blk (w.setCell a x) b cs ty := by
  unfold Blk; rw [Below.heap_setCell _ _ _ _ ha]; exact h
theorem Blk.alloc {w : World} {b : Nat} {cs : Array Value} {ty : TypeId} (h : Blk w b cs ty) (o : Obj) : Blk (w.alloc o) b cs ty := h.after (alloc_below w o)
theorem Blk.cells5 {w : World} {b : Nat} {x0 x1 x2 x3 x4 : Value} {ty : TypeId} (h : Blk w b #[x0, x1, x2, x3, x4] ty) :
    w.cell? ⟨b, 0, none⟩ = some x0 ∧ w.cell? ⟨b, 1, none⟩ = some x1 ∧ w.cell? ⟨b, 2, none⟩ = some x2 ∧ w.cell? ⟨b, 3, none⟩ = some x3 ∧ w.cell? ⟨b, 4, none⟩ = some x4 := by
  refine ⟨?_, ?_, ?_, ?_, ?_⟩ <;> (rw [h.cell]; rfl)
theorem Blk.cells2 {w : World} {b : Nat} {x0 x1 : Value} {ty : TypeId} (h : Blk w b #[x0, x1] ty) :
    w.cell? ⟨b, 0, none⟩ = some x0 ∧ w.cell? ⟨b, 1, none⟩ = some x1 := by
  refine ⟨?_, ?_⟩ <;> (rw [h.cell]; rfl)
theorem Blk.free5 {w : World} {b : Nat} {cs : Array Value} {ty : TypeId} (h : Blk w b cs ty) :
    w.frozen? ⟨b, 0, none⟩ = false ∧ w.frozen? ⟨b, 1, none⟩ = false ∧ w.frozen? ⟨b, 2, none⟩ = false ∧ w.frozen? ⟨b, 3, none⟩ = false ∧ w.frozen? ⟨b, 4, none⟩ = false :=
  ⟨h.free 0, h.free 1, h.free 2, h.free 3, h.free 4⟩
theorem Blk.new2 (w : World) (o : Obj) (cs : Array Value) (ty : TypeId) : Blk ((w.alloc o).alloc (.cells cs ty)) (w.heap.size + 1) cs ty := by
  have h := Blk.new (w.alloc o) cs ty
  rw [size1] at h
  exact h
theorem Blk.set_ {w : World} {b : Nat} {cs : Array Value} {ty : TypeId} (h : Blk w b cs ty) (i : Nat) (x : Value) : Blk (w.setCell ⟨b, i, none⟩ x) b (cs.setIfInBounds i x) ty := by
  unfold Blk; rw [heap_setCell_same w b i _ _ x h]

theorem Blk.drew {w : World} {b : Nat} {cs : Array Value} {ty : TypeId} (h : Blk w b cs ty) : Blk w.drew b cs ty := h.after (Below.refl _ _).drew
/-- Blocks of unlike types are not one. -/
theorem Blk.ne {w : World} {b b' : Nat} {cs cs' : Array Value} {ty ty' : TypeId} (h : Blk w b cs ty) (h' : Blk w b' cs' ty') (ht : ty ≠ ty') : b ≠ b' := by
  intro e
  subst e
  unfold Blk at h h'
  rw [h] at h'
  simp at h'
  exact ht h'.2
theorem Blk.cells3 {w : World} {b : Nat} {x0 x1 x2 : Value} {ty : TypeId} (h : Blk w b #[x0, x1, x2] ty) :
    w.cell? ⟨b, 0, none⟩ = some x0 ∧ w.cell? ⟨b, 1, none⟩ = some x1 ∧ w.cell? ⟨b, 2, none⟩ = some x2 := by
  refine ⟨?_, ?_, ?_⟩ <;> (rw [h.cell]; rfl)
theorem row_apart {w : World} {base : Nat} {ty ty' : TypeId} {sz n g : Nat} {x : Value} {xs : List Value} {cur : Array Value} {fz : Nat × Nat} (hr : w.ownsRow base ty sz x n xs) (hh : w.heap[g]? = some (.cells cur ty' fz)) (ht : ty ≠ ty') : ∀ k, x.ownBlock = some k → k ≠ g := by
  intro k hk e
  subst e
  rcases hr.2 with ⟨hv, _⟩ | ⟨g', cap, cur', hv, _, h2, _⟩
  · rw [hv] at hk; simp [Value.ownBlock] at hk
  · rw [hv] at hk
    simp [Value.ownBlock] at hk
    subst hk
    rw [hh] at h2
    simp at h2
    exact ht h2.2.1.symm
/-- A row of the call's own is no such block. -/
theorem Blk.off {w : World} {b base sz n : Nat} {cs : Array Value} {ty ty' : TypeId} {v : Value} {xs : List Value} (h : Blk w b cs ty) (hr : w.ownsRow base ty' sz v n xs) (ht : ty' ≠ ty) : v.ownBlock ≠ some b := fun e => row_apart hr h ht b e rfl

end Go.Proofs.YtcofnjooiemkfaaDoor
