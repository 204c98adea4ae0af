/- The record that a draw makes. -/
import Derived.Test.YtfpjohbcbflnhaaDoorDMany
import Derived.Deep.RegionLawGrows
import Derived.Deep.RegionHeldLaw
import Derived.Deep.CutBlock
namespace Go.Proofs.YtfpjohbcbflnhaaDoor
open Go.RowKit

/-- What lies there while a record is drawn: the result's block, the record's own, its numbers, the reader. -/
structure StR (w W : World) (b q X : Nat) (k t : Int) (u : Value) (zs : List Int) : Prop where
  own : W.heap[X]? = some (.cells #[.int .i64 k, .int .i64 t, u] 25 (0, 0))
  res : W.heap[w.heap.size]? = some (.cells #[.int .i64 0, .int .i64 0, .slice none 0 0] 25 (0, 0))
  lt : w.heap.size < X
  many : Fresh W w.heap.size u zs zs.length
  few : zs.length ≤ 3
  rd : Rd W b q
  mid : Mid b (b + 1) w W
  low : b < w.heap.size

theorem row_later {W W' : World} {X B : Nat} {o : Obj} (h : W.heap[X]? = some o) (hb : Below B W W') (hB : W.heap.size ≤ B) : W'.heap[X]? = some o := by
  rw [hb.block X (by have := heap_lt h; omega)]; exact h
theorem row_mid {W W' : World} {X b : Nat} {o : Obj} (h : W.heap[X]? = some o) (hb : Mid b (b + 1) W W') (hx : b < X) : W'.heap[X]? = some o := by
  rw [hb.block X (heap_lt h) (Or.inr (by omega))]; exact h

theorem StR.step {w W W' : World} {b q q' X : Nat} {k t : Int} {u : Value} {zs : List Int} (h : StR w W b q X k t u zs) (hb : Mid b (b + 1) W W') (hr : Rd W' b q') : StR w W' b q' X k t u zs :=
  ⟨row_mid h.own hb (by have := h.lt; have := h.low; omega), row_mid h.res hb h.low, h.lt, h.many.mid h.rd hb, h.few, hr, h.mid.trans hb, h.low⟩
theorem StR.later {w W W' : World} {b q X : Nat} {k t : Int} {u : Value} {zs : List Int} (h : StR w W b q X k t u zs) (hb : Below W.heap.size W W') : StR w W' b q X k t u zs :=
  h.step (Mid.of_below hb (Nat.le_refl _)) (h.rd.later hb (Nat.le_refl _))
theorem StR.cells {w W : World} {b q X : Nat} {k t : Int} {u : Value} {zs : List Int} (h : StR w W b q X k t u zs) :
    (W.cell? ⟨X, 0, none⟩ = some (.int .i64 k) ∧ W.cell? ⟨X, 1, none⟩ = some (.int .i64 t) ∧ W.cell? ⟨X, 2, none⟩ = some u ∧
    W.frozen? ⟨X, 0, none⟩ = false ∧ W.frozen? ⟨X, 1, none⟩ = false ∧ W.frozen? ⟨X, 2, none⟩ = false) ∧
    (W.cell? ⟨w.heap.size, 0, none⟩ = some (.int .i64 0) ∧ W.cell? ⟨w.heap.size, 1, none⟩ = some (.int .i64 0) ∧ W.cell? ⟨w.heap.size, 2, none⟩ = some (.slice none 0 0) ∧
    W.frozen? ⟨w.heap.size, 0, none⟩ = false ∧ W.frozen? ⟨w.heap.size, 1, none⟩ = false ∧ W.frozen? ⟨w.heap.size, 2, none⟩ = false) := by
  refine ⟨⟨?_, ?_, ?_, frozen_of_row W _ _ _ _ h.own, frozen_of_row W _ _ _ _ h.own, frozen_of_row W _ _ _ _ h.own⟩, ⟨?_, ?_, ?_, frozen_of_row W _ _ _ _ h.res, frozen_of_row W _ _ _ _ h.res, frozen_of_row W _ _ _ _ h.res⟩⟩
  · rw [cell_of_row W _ _ _ _ _ h.own]; rfl
  · rw [cell_of_row W _ _ _ _ _ h.own]; rfl
  · rw [cell_of_row W _ _ _ _ _ h.own]; rfl
  · rw [cell_of_row W _ _ _ _ _ h.res]; rfl
  · rw [cell_of_row W _ _ _ _ _ h.res]; rfl
  · rw [cell_of_row W _ _ _ _ _ h.res]; rfl
theorem StR.set0 {w W : World} {b q X : Nat} {k t : Int} {u : Value} {zs : List Int} (h : StR w W b q X k t u zs) (x : Int) : StR w (W.setCell ⟨X, 0, none⟩ (.int .i64 x)) b q X x t u zs :=
  have hl := h.lt
  have hw := h.low
  ⟨by rw [heap_setCell_same W X 0 _ _ _ h.own]; simp, by rw [Below.heap_setCell _ _ _ _ (by simp; omega)]; exact h.res, hl, h.many.set h.own (by decide) _, h.few, h.rd.setApart (by omega) _, h.mid.setNew (by omega) _, hw⟩
theorem StR.set1 {w W : World} {b q X : Nat} {k t : Int} {u : Value} {zs : List Int} (h : StR w W b q X k t u zs) (x : Int) : StR w (W.setCell ⟨X, 1, none⟩ (.int .i64 x)) b q X k x u zs :=
  have hl := h.lt
  have hw := h.low
  ⟨by rw [heap_setCell_same W X 1 _ _ _ h.own]; simp, by rw [Below.heap_setCell _ _ _ _ (by simp; omega)]; exact h.res, hl, h.many.set h.own (by decide) _, h.few, h.rd.setApart (by omega) _, h.mid.setNew (by omega) _, hw⟩
theorem StR.set2 {w W : World} {b q X : Nat} {k t : Int} {u u' : Value} {zs zs' : List Int} (h : StR w W b q X k t u zs) (hm : Fresh W w.heap.size u' zs' zs'.length) (hf : zs'.length ≤ 3) : StR w (W.setCell ⟨X, 2, none⟩ u') b q X k t u' zs' :=
  have hl := h.lt
  have hw := h.low
  ⟨by rw [heap_setCell_same W X 2 _ _ _ h.own]; simp, by rw [Below.heap_setCell _ _ _ _ (by simp; omega)]; exact h.res, hl, hm.set h.own (by decide) _, hf, h.rd.setApart (by omega) _, h.mid.setNew (by omega) _, hw⟩
theorem one_fresh (W : World) (lo : Nat) (x : Int) (h : lo ≤ W.heap.size) : Fresh (W.alloc (.cells #[.int .i64 x] 3)) lo (.slice (some ⟨W.heap.size, 0, none⟩) 1 1) [x] 1 :=
  ⟨W.heap.size, 0, _, rfl, h, heap_alloc_new W _, fun k hk => by match k, hk with | 0, _ => rfl⟩

theorem StR.new2 {w W : World} {b q X : Nat} {k t : Int} {u : Value} {zs : List Int} (h : StR w W b q X k t u zs) (x : Int) : StR w ((W.setCell ⟨X, 2, none⟩ (.slice (some ⟨W.heap.size, 0, none⟩) 1 1)).alloc (.cells #[.int .i64 x] 3)) b q X k t (.slice (some ⟨W.heap.size, 0, none⟩) 1 1) [x] := by
  have hl := h.lt
  have hw := h.low
  have hX := heap_lt h.own
  have hn := heap_alloc_new (W.setCell ⟨X, 2, none⟩ (.slice (some ⟨W.heap.size, 0, none⟩) 1 1)) (.cells #[.int .i64 x] 3)
  rw [show (W.setCell ⟨X, 2, none⟩ (.slice (some ⟨W.heap.size, 0, none⟩) 1 1)).heap.size = W.heap.size by simp] at hn
  refine ⟨?_, ?_, hl, ⟨W.heap.size, 0, _, rfl, by omega, hn, fun k hk => by match k, hk with | 0, _ => rfl⟩, by simp, (h.rd.setApart (by omega) _).alloc _, (h.mid.setNew (by omega) _).alloc _, hw⟩
  · rw [Below.heap_alloc _ _ _ (by simp; omega), heap_setCell_same W X 2 _ _ _ h.own]; simp
  · rw [Below.heap_alloc _ _ _ (by simp; omega), Below.heap_setCell _ _ _ _ (by simp; omega)]; exact h.res

/-- What is left of it when the record is handed back. -/
structure StO (w W : World) (b q : Nat) (u : Value) (zs : List Int) (cap : Nat) : Prop where
  res : ∃ cs, W.heap[w.heap.size]? = some (.cells cs 25 (0, 0))
  many : Fresh W w.heap.size u zs cap
  rd : Rd W b q
  mid : Mid b (b + 1) w W
  low : b < w.heap.size
theorem StR.out {w W : World} {b q X : Nat} {k t : Int} {u : Value} {zs : List Int} (h : StR w W b q X k t u zs) : StO w W b q u zs zs.length := ⟨⟨_, h.res⟩, h.many, h.rd, h.mid, h.low⟩
theorem StO.set {w W : World} {b q : Nat} {u : Value} {zs : List Int} {cap : Nat} (h : StO w W b q u zs cap) (i : Nat) (x : Value) : StO w (W.setCell ⟨w.heap.size, i, none⟩ x) b q u zs cap := by
  obtain ⟨cs, hr⟩ := h.res
  exact ⟨⟨_, heap_setCell_same W _ i _ _ _ hr⟩, h.many.set hr (by decide) _, h.rd.setApart h.low _, h.mid.setNew (Nat.le_refl _) _, h.low⟩

theorem own_fresh {W : World} {base lo n : Nat} {v : Value} {zs : List Int} (h : W.ownsRow base 3 1 v n (zs.map (Value.int .i64))) (hn : 0 < n) (hl : lo ≤ base) : ∃ g cap, v = .slice (some ⟨g, 0, none⟩) zs.length cap ∧ Fresh W lo v zs cap := by
  obtain ⟨h1, h2⟩ := h
  rcases h2 with ⟨_, h0⟩ | ⟨g, cap, cur, hv, hg, hh, _, _, hc, ht⟩
  · omega
  · have hzl : zs.length = n := by simpa using h1
    refine ⟨g, cap, by rw [hzl]; exact hv, g, 0, cur, by rw [hzl]; exact hv, by omega, hh, fun k hk => ?_⟩
    have e : (cur.toList.take (n * 1))[k]? = (zs.map (Value.int .i64))[k]? := by rw [ht]
    rw [List.getElem?_take, if_pos (by omega)] at e
    rw [Nat.zero_add, ← Array.getElem?_toList, e]
    simp [List.getD_eq_getElem?_getD, hk]
theorem StO.setX {w W : World} {b q X i : Nat} {cs : Array Value} {u : Value} {zs : List Int} {cap : Nat} (h : StO w W b q u zs cap) (hX : W.heap[X]? = some (.cells cs 25 (0, 0))) (hl : w.heap.size < X) (x : Value) : StO w (W.setCell ⟨X, i, none⟩ x) b q u zs cap := by
  obtain ⟨cr, hr⟩ := h.res
  have hw := h.low
  exact ⟨⟨cr, by rw [Below.heap_setCell _ _ _ _ (by simp; omega)]; exact hr⟩, h.many.set hX (by decide) _, h.rd.setApart (by omega) _, h.mid.setNew (by omega) _, hw⟩
theorem fresh_cells {W : World} {lo g off : Nat} {zs : List Int} {cap : Nat} (h : Fresh W lo (.slice (some ⟨g, off, none⟩) zs.length cap) zs cap) (j : Nat) (u : Value) (hj : (zs.map (Value.int .i64))[j]? = some u) : W.cell? ((⟨g, off, none⟩ : Addr).add j) = some u := by
  obtain ⟨g', off', cs, hu, _, hh, hc⟩ := h
  simp at hu
  obtain ⟨rfl, rfl⟩ := hu
  have hjl : j < zs.length := by
    by_cases e : j < zs.length
    · exact e
    · rw [List.getElem?_eq_none (by simp; omega)] at hj; cases hj
  rw [Go.WideShapes.add_plain, cell_of_row W _ _ _ _ _ hh, hc j hjl, ← hj]
  simp [List.getD_eq_getElem?_getD, hjl]

set_option maxRecDepth 100000 in
set_option maxHeartbeats 4000000 in
theorem rec_draw (b p : Nat) (w : World) (h : Rd w b p) (hp : p ≤ 800000) :
    Calls Tryd.prog 21 #[.pointer (some ⟨b, 0, none⟩)] w fun e w' => ∃ k t u zs q cap, e = .returned (.agg #[.int .i64 k, .int .i64 t, u]) ∧ zs.length ≤ 4 ∧ Fresh w' w.heap.size u zs cap ∧ p ≤ q ∧ q ≤ p + 14 ∧ Rd w' b q ∧ Mid b (b + 1) w w' := by
  have hblt := h.lt
  have HR := hide_it h
  clear h
  go_enter Tryd.func21, Tryd.ntmps21
  go_wp2_with fail
  refine (pick_any b p 7 _ (HR.out.alloc _) (by omega) (by omega) (by omega)).mono ?_
  rintro e w1 ⟨x1, rfl, l1, u1, r1, m1⟩
  have HR1 := hide_it r1
  have H01 := hide_it (row_mid (heap_alloc_new w _) m1 hblt)
  have HM1 := hide_it (((Mid.refl b (b + 1) w).alloc _).trans m1)
  clear r1 m1
  go_wp2_with fail
  refine (pick_any b (p + 1) 4 w1 HR1.out (by omega) (by omega) (by omega)).mono ?_
  rintro e w2 ⟨x2, rfl, l2, u2, r2, m2⟩
  have HR2 := hide_it r2
  have H02 := hide_it (row_mid H01.out m2 hblt)
  have HM2 := hide_it (HM1.out.trans m2)
  have hs2 : w.heap.size < w2.heap.size := heap_lt H02.out
  clear r2 m2 HR1 HM1 H01
  have S2 : Hid (StR w ((w2.alloc (.cells #[] 3)).alloc (.cells #[.int .i64 (1 + x1), .int .i64 (1 + x2), .slice (some ⟨w2.heap.size, 0, none⟩) 0 0] 25)) b (p + 2) (w2.heap.size + 1) (1 + x1) (1 + x2) (.slice (some ⟨w2.heap.size, 0, none⟩) 0 0) []) := by
    have e1 := heap_alloc_new (w2.alloc (.cells #[] 3)) (.cells #[.int .i64 (1 + x1), .int .i64 (1 + x2), .slice (some ⟨w2.heap.size, 0, none⟩) 0 0] 25)
    rw [show (w2.alloc (.cells #[] 3)).heap.size = w2.heap.size + 1 by simp] at e1
    refine ⟨e1, ?_, by omega, ?_, by simp, (HR2.out.alloc _).alloc _, (HM2.out.alloc _).alloc _, hblt⟩
    · rw [Below.heap_alloc _ _ _ (by simp; omega), Below.heap_alloc _ _ _ (by omega)]; exact H02.out
    · refine ⟨w2.heap.size, 0, #[], rfl, by omega, ?_, fun k hk => by simp at hk⟩
      rw [Below.heap_alloc _ _ _ (by simp)]; exact heap_alloc_new w2 _
  clear HR2 HM2 H02 HR
  go_upto_block 0 with fail
  go_cut [3] (fun o W => ∃ X k t u zs q, o = .pointer (some ⟨X, 0, none⟩) ∧ p ≤ q ∧ q ≤ p + 10 ∧ Hid (StR w W b q X k t u zs))
  case first =>
    go_wp2_with fail
    · refine (pick_any b (p + 2) 3 _ S2.out.rd (by omega) (by omega) (by omega)).mono ?_
      rintro e w3 ⟨x3, rfl, l3, u3, r3, m3⟩
      have S3 := hide_it (S2.out.step m3 r3)
      clear r3 m3 S2
      obtain ⟨⟨c0, c1, c2, f0, f1, f2⟩, _⟩ := S3.out.cells
      have hlt3 : w2.heap.size + 1 < w3.heap.size := heap_lt S3.out.own
      go_wp2_with fail
      go_meet
      case rel => exact ⟨_, _, _, _, [_], p + 3, rfl, by omega, by omega, S3.out.new2 _⟩
    · refine (many_draw b (p + 2) _ S2.out.rd (by omega)).mono ?_
      rintro e w3 ⟨u, zs, q, rfl, hz, hF, hq0, hq1, r3, m3⟩
      have S3 := hide_it (S2.out.step m3 r3)
      have F3 := hide_it (hF.mono (lo' := w.heap.size) (by simp; omega))
      obtain ⟨g, off, hu⟩ : ∃ g off, u = .slice (some ⟨g, off, none⟩) zs.length zs.length := by obtain ⟨g, off, cs, h, _⟩ := hF; exact ⟨g, off, h⟩
      subst hu
      clear r3 m3 S2 hF
      obtain ⟨⟨c0, c1, c2, f0, f1, f2⟩, _⟩ := S3.out.cells
      go_wp2_with fail
      go_meet
      case rel => exact ⟨_, _, _, _, zs, q, rfl, by omega, by omega, S3.out.set2 F3.out hz⟩
    · go_meet
      case rel => exact ⟨_, _, _, _, [], p + 2, rfl, by omega, by omega, S2.out⟩
  case rest =>
    obtain ⟨X, k, t, u, zs, q, rfl, hq0, hq1, HS⟩ := hcut
    clear S2 l1 l2 u1 u2 hs2
    have hX := HS.out.lt
    go_wp2_with fail
    refine (pick_any b q 20 _ HS.out.rd (by omega) (by omega) (by omega)).mono ?_
    rintro e w4 ⟨y, rfl, ly, uy, r4, m4⟩
    have S4 := hide_it (HS.out.step m4 r4)
    clear r4 m4 HS
    have hf : zs.length ≤ 3 := S4.out.few
    obtain ⟨g, off, hu⟩ : ∃ g off, u = .slice (some ⟨g, off, none⟩) zs.length zs.length := by obtain ⟨g, off, cs, h, _⟩ := S4.out.many; exact ⟨g, off, h⟩
    subst hu
    by_cases y0 : y = 0
    · subst y0
      go_wp2_with fail
      refine (pick_any b (q + 1) 9 _ S4.out.rd (by omega) (by omega) (by omega)).mono ?_
      rintro e w5 ⟨z, rfl, lz, uz, r5, m5⟩
      have S5 := hide_it (S4.out.step m5 r5)
      clear r5 m5 S4
      obtain ⟨⟨c0, c1, c2, f0, f1, f2⟩, ⟨d0, d1, d2, e0, e1, e2⟩⟩ := S5.out.cells
      have hXn : X ≠ w.heap.size := by omega
      go_wp2
      refine bodyPost_ret (v := .agg #[.int .i64 z, .int .i64 t, .slice (some ⟨g, off, none⟩) zs.length zs.length]) (by simp [results, Tryd.results21, go_sem, d0, d1, d2]) rfl ⟨z, t, _, zs, q + 2, zs.length, rfl, by omega, ?_⟩
      have R := (((S5.out.set0 z).out.set 0 (.int .i64 z)).set 1 (.int .i64 t)).set 2 (.slice (some ⟨g, off, none⟩) zs.length zs.length)
      exact ⟨R.many, by omega, by omega, R.rd, R.mid⟩
    by_cases y1 : y = 1
    · subst y1
      go_wp2_with fail
      refine (pick_any b (q + 1) 3 _ (S4.out.later (alloc_below _ _)).rd (by omega) (by omega) (by omega)).mono ?_
      rintro e w5 ⟨z, rfl, lz, uz, r5, m5⟩
      have S5 := hide_it ((S4.out.later (alloc_below _ _)).step m5 r5)
      have N5 : Hid (Row3 w5 w4.heap.size 0 6 7) := (Row3.new w4 0 6 7).mid m5 (by have := heap_lt S4.out.res; omega)
      clear r5 m5 S4
      obtain ⟨⟨c0, c1, c2, f0, f1, f2⟩, ⟨d0, d1, d2, e0, e1, e2⟩⟩ := S5.out.cells
      obtain ⟨n0, n1, n2, _, _, _⟩ := N5.out.cells
      have hXn : X ≠ w.heap.size := by omega
      rcases three lz uz with rfl | rfl | rfl
      · go_wp2
        refine bodyPost_ret (v := .agg #[.int .i64 k, .int .i64 0, .slice (some ⟨g, off, none⟩) zs.length zs.length]) (by simp [results, Tryd.results21, go_sem, d0, d1, d2]) rfl ⟨k, 0, _, zs, q + 2, zs.length, rfl, by omega, ?_⟩
        have R := (((S5.out.set1 0).out.set 0 (.int .i64 k)).set 1 (.int .i64 0)).set 2 (.slice (some ⟨g, off, none⟩) zs.length zs.length)
        exact ⟨R.many, by omega, by omega, R.rd, R.mid⟩
      · go_wp2
        refine bodyPost_ret (v := .agg #[.int .i64 k, .int .i64 6, .slice (some ⟨g, off, none⟩) zs.length zs.length]) (by simp [results, Tryd.results21, go_sem, d0, d1, d2]) rfl ⟨k, 6, _, zs, q + 2, zs.length, rfl, by omega, ?_⟩
        have R := (((S5.out.set1 6).out.set 0 (.int .i64 k)).set 1 (.int .i64 6)).set 2 (.slice (some ⟨g, off, none⟩) zs.length zs.length)
        exact ⟨R.many, by omega, by omega, R.rd, R.mid⟩
      · go_wp2
        refine bodyPost_ret (v := .agg #[.int .i64 k, .int .i64 7, .slice (some ⟨g, off, none⟩) zs.length zs.length]) (by simp [results, Tryd.results21, go_sem, d0, d1, d2]) rfl ⟨k, 7, _, zs, q + 2, zs.length, rfl, by omega, ?_⟩
        have R := (((S5.out.set1 7).out.set 0 (.int .i64 k)).set 1 (.int .i64 7)).set 2 (.slice (some ⟨g, off, none⟩) zs.length zs.length)
        exact ⟨R.many, by omega, by omega, R.rd, R.mid⟩
    have hXn : X ≠ w.heap.size := by omega
    by_cases y2 : y = 2
    · subst y2
      obtain ⟨⟨c0, c1, c2, f0, f1, f2⟩, ⟨d0, d1, d2, e0, e1, e2⟩⟩ := S4.out.cells
      obtain ⟨i0, hi, hz0, hz1, hz2⟩ := info_parts info3
      clear d0 d1 d2 e0 e1 e2
      go_wp2_with fail
      go_region_law
        (first
          | (go_simp; go_at_call 31; refine (pick_any b (q + 1) 5 _ (S4.out.later (by first | exact (Below.refl _ _).drew | exact (Below.refl _ _).drew.drew | exact (Below.refl _ _).drew.drew.drew)).rd (by omega) (by omega) (by omega)).mono ?_; rintro e w5 ⟨z, rfl, lz, uz, r5, m5⟩; have S5 := hide_it ((S4.out.later (by first | exact (Below.refl _ _).drew | exact (Below.refl _ _).drew.drew | exact (Below.refl _ _).drew.drew.drew)).step m5 r5); clear r5 m5 c0 c1 c2 f0 f1 f2; obtain ⟨⟨c0, c1, c2, f0, f1, f2⟩, _⟩ := S5.out.cells; have hs5 : w.heap.size < w5.heap.size := heap_lt S5.out.res; have c2a := ((S5.out.later (alloc_below w5 (.cells #[.int .i64 z] 3))).cells).1.2.2.1)
          | (refine step_append_grows rfl _ _ 23 rfl 3 i0 (.int .i64 0) 1 8 Tryd.underlying23 hi hz0 hz1 hz2 rfl (by decide) (some ⟨g, off, none⟩) zs.length zs.length (zs.map (Value.int .i64)) rfl (fun h => by cases h) (by simp) (fun a ha => by cases ha; exact fresh_cells (S5.out.later (alloc_below _ _)).many) ⟨w5.heap.size, 0, none⟩ 1 1 [.int .i64 z] rfl rfl (fun j u hj => by match j, hj with | 0, hj => simp at hj; subst hj; simp [Go.WideShapes.add_plain, go_sem]) (by simp [Value.oneCell']) (by omega) (by unfold maxLen; omega) (by omega) ?_; intro v6 w6 hown hgrow; have hown' := own_fresh (lo := w.heap.size) (zs := zs ++ [z]) (by simpa using hown) (by omega) (by first | omega | (simp; omega)); obtain ⟨g6, cap6, hv6, hF6⟩ := hown'; subst hv6; have F6 := hide_it hF6; have S6 := hide_it ((S5.out.later (alloc_below _ _)).later (grown_below hgrow)); clear hown hgrow hF6 c0 c1 c2 c2a f0 f1 f2; obtain ⟨⟨c0, c1, c2, f0, f1, f2⟩, ⟨d0, d1, d2, e0, e1, e2⟩⟩ := S6.out.cells))
      all_goals
       go_wp2
       refine bodyPost_ret (v := .agg #[.int .i64 k, .int .i64 t, .slice (some ⟨g6, 0, none⟩) (zs.length + 1) cap6]) (by simp [results, Tryd.results21, go_sem, d0, d1, d2]) rfl ⟨k, t, _, zs ++ [z], q + 2, cap6, rfl, by simp; omega, ?_⟩
       have F6' : Fresh w6 w.heap.size (.slice (some ⟨g6, 0, none⟩) (zs.length + 1) cap6) (zs ++ [z]) cap6 := by have h := F6.out; rwa [List.length_append, List.length_singleton] at h
       have R0 : StO w w6 b (q + 2) (.slice (some ⟨g6, 0, none⟩) (zs.length + 1) cap6) (zs ++ [z]) cap6 := ⟨⟨_, S6.out.res⟩, F6', S6.out.rd, S6.out.mid, S6.out.low⟩
       have R := (((R0.setX (i := 2) S6.out.own S6.out.lt (.slice (some ⟨g6, 0, none⟩) (zs.length + 1) cap6)).set 0 (.int .i64 k)).set 1 (.int .i64 t)).set 2 (.slice (some ⟨g6, 0, none⟩) (zs.length + 1) cap6)
       exact ⟨R.many, by omega, by omega, R.rd, R.mid⟩
    obtain ⟨⟨c0, c1, c2, f0, f1, f2⟩, ⟨d0, d1, d2, e0, e1, e2⟩⟩ := S4.out.cells
    go_wp2
    refine bodyPost_ret (v := .agg #[.int .i64 k, .int .i64 t, .slice (some ⟨g, off, none⟩) zs.length zs.length]) (by simp [results, Tryd.results21, go_sem, d0, d1, d2]) rfl ⟨k, t, _, zs, q + 1, zs.length, rfl, by omega, ?_⟩
    have R := ((S4.out.out.set 0 (.int .i64 k)).set 1 (.int .i64 t)).set 2 (.slice (some ⟨g, off, none⟩) zs.length zs.length)
    exact ⟨R.many, by omega, by omega, R.rd, R.mid⟩

end Go.Proofs.YtfpjohbcbflnhaaDoor
