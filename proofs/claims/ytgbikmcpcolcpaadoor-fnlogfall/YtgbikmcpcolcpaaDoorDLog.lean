/- The log that a draw makes. -/
import Derived.Test.YtgbikmcpcolcpaaDoorDRow
namespace Go.Proofs.YtgbikmcpcolcpaaDoor
open Go.RowKit

/-- The log as it is begun. -/
theorem log_new (w : World) (b p : Nat) (h : Rd w b p) :
    StL w (((w.alloc (.cells #[.slice none 0 0, .int .i64 0] 25)).alloc (.cells #[] 28)).alloc (.cells #[.slice (some ⟨w.heap.size + 1, 0, none⟩) 0 0, .int .i64 0] 25)) b p (w.heap.size + 1 + 1) 0 (.slice (some ⟨w.heap.size + 1, 0, none⟩) 0 0) [] := by
  have e2 := heap_alloc_new ((w.alloc (.cells #[.slice none 0 0, .int .i64 0] 25)).alloc (.cells #[] 28)) (.cells #[.slice (some ⟨w.heap.size + 1, 0, none⟩) 0 0, .int .i64 0] 25)
  rw [size2] at e2
  have e1 := heap_alloc_new (w.alloc (.cells #[.slice none 0 0, .int .i64 0] 25)) (.cells #[] 28)
  rw [size1] at e1
  refine ⟨e2, ⟨.slice none 0 0, .int .i64 0, ?_⟩, by omega, ?_, fun p hp => by simp at hp, ((h.alloc _).alloc _).alloc _, (((Mid.refl _ _ _).alloc _).alloc _).alloc _, h.lt⟩
  · rw [Below.heap_alloc _ _ _ (by simp; omega), Below.heap_alloc _ _ _ (by simp)]; exact heap_alloc_new w _
  · refine ⟨rfl, Or.inr ⟨w.heap.size + 1, 0, #[], rfl, by omega, ?_, Nat.le_refl _, by unfold maxLen; omega, rfl, rfl⟩⟩
    rw [Below.heap_alloc _ _ _ (by simp)]; exact e1

theorem StL.grown {w W w4 : World} {b q L : Nat} {f : Int} {v : Value} {ps : List (R × Value)} (h : StL w W b q L f v ps) (hgr : W.grownBy w4 v.ownBlock) : w4.cell? ⟨L, 0, none⟩ = some v ∧ w4.frozen? ⟨L, 0, none⟩ = false := by
  have hL : w4.heap[L]? = some (.cells #[v, .int .i64 f] 25 (0, 0)) := by
    rw [hgr.block L (heap_lt h.own) (fun e => by
      obtain ⟨cs, hh⟩ := (recrow_block h.row L e.symm).2
      rw [h.own] at hh; simp at hh)]
    exact h.own
  exact ⟨by rw [cell_of_row w4 _ _ _ _ _ hL]; rfl, frozen_of_row w4 _ _ _ _ hL⟩

/-- One of two numbers. -/
theorem two_get (xn : Nat) (h : xn < 2) (a c : Int) : ∃ FF : Int, Hid ((#[Value.int .i64 a, .int .i64 c] : Array Value)[xn]? = some (.int .i64 FF)) := by
  match xn, h with
  | 0, _ => exact ⟨a, rfl⟩
  | 1, _ => exact ⟨c, rfl⟩
theorem two_cell (W : World) {xn : Nat} {a c FF : Int} (h : (#[Value.int .i64 a, .int .i64 c] : Array Value)[xn]? = some (.int .i64 FF)) : (W.alloc (.cells #[.int .i64 a, .int .i64 c] 3)).cell? ⟨W.heap.size, xn, none⟩ = some (.int .i64 FF) := by
  rw [cell_of_row _ _ _ _ _ _ (heap_alloc_new W _)]; exact h
theorem two_mid {W w7 : World} {b xn : Nat} {a c FF : Int} (h : (#[Value.int .i64 a, .int .i64 c] : Array Value)[xn]? = some (.int .i64 FF)) (m : Mid b (b + 1) (W.alloc (.cells #[.int .i64 a, .int .i64 c] 3)) w7) (hb : b < W.heap.size) : w7.cell? ⟨W.heap.size, xn, none⟩ = some (.int .i64 FF) := by
  rw [cell_of_row _ _ _ _ _ _ (row_mid (heap_alloc_new W _) m hb)]; exact h

/-- How long the list is that lies there. -/
def lenAt (W : World) (L : Nat) : Nat := match W.cell? ⟨L, 0, none⟩ with | some (.slice _ n _) => n | _ => 0

theorem StL.grown2 {w W w4 : World} {b q L : Nat} {f : Int} {v : Value} {ps : List (R × Value)} (h : StL w W b q L f v ps) (hgr : W.grownBy w4 v.ownBlock) : w4.cell? ⟨L, 0, none⟩ = some v ∧ w4.frozen? ⟨L, 0, none⟩ = false ∧ w4.cell? ⟨L, 1, none⟩ = some (.int .i64 f) ∧ w4.frozen? ⟨L, 1, none⟩ = false ∧
    (∃ ra, w4.cell? ⟨w.heap.size, 0, none⟩ = some ra) ∧ (∃ rc, w4.cell? ⟨w.heap.size, 1, none⟩ = some rc) ∧ w4.frozen? ⟨w.heap.size, 0, none⟩ = false ∧ w4.frozen? ⟨w.heap.size, 1, none⟩ = false := by
  have hL : w4.heap[L]? = some (.cells #[v, .int .i64 f] 25 (0, 0)) := by
    rw [hgr.block L (heap_lt h.own) (fun e => by
      obtain ⟨cs, hh⟩ := (recrow_block h.row L e.symm).2
      rw [h.own] at hh; simp at hh)]
    exact h.own
  obtain ⟨ra, rc, hr⟩ := h.res
  have hR : w4.heap[w.heap.size]? = some (.cells #[ra, rc] 25 (0, 0)) := by
    rw [hgr.block _ (heap_lt hr) (fun e => by
      obtain ⟨cs, hh⟩ := (recrow_block h.row _ e.symm).2
      rw [hr] at hh; simp at hh)]
    exact hr
  exact ⟨by rw [cell_of_row w4 _ _ _ _ _ hL]; rfl, frozen_of_row w4 _ _ _ _ hL, by rw [cell_of_row w4 _ _ _ _ _ hL]; rfl, frozen_of_row w4 _ _ _ _ hL,
    ⟨ra, by rw [cell_of_row w4 _ _ _ _ _ hR]; rfl⟩, ⟨rc, by rw [cell_of_row w4 _ _ _ _ _ hR]; rfl⟩, frozen_of_row w4 _ _ _ _ hR, frozen_of_row w4 _ _ _ _ hR⟩

/-- What a drawn log is: a list of at most 60 records that lies there. -/
def LogGot (w w' : World) (e : Ending) (b p : Nat) : Prop :=
  ∃ (v : Value) (f : Int) (ps : List (R × Value)) (q L : Nat), e = .returned (.agg #[v, .int .i64 f]) ∧ ps.length ≤ 60 ∧ p ≤ q ∧ q ≤ p + 400 ∧ StL w w' b q L f v ps

set_option maxRecDepth 100000 in
set_option maxHeartbeats 4000000 in
theorem log_draw (b p : Nat) (w : World) (h : Rd w b p) (hp : p ≤ 700000) :
    Calls Tryd.prog 26 #[.pointer (some ⟨b, 0, none⟩)] w fun e w' => LogGot w w' e b p := by
  obtain ⟨i0, hi, hz0, hz1, hz2⟩ := info_parts infoRec
  have hblt := h.lt
  have S0 := hide_it (log_new w b p h)
  clear h
  go_enter Tryd.func26, Tryd.ntmps26
  go_wp2_with fail
  refine (pick_any b p 9 _ S0.out.rd (by omega) (by omega) (by omega)).mono ?_
  rintro e w1 ⟨n, rfl, ln, un, r1, m1⟩
  have S1 := hide_it (S0.out.step m1 r1)
  clear r1 m1 S0
  obtain ⟨N, rfl⟩ := Int.eq_ofNat_of_zero_le ln
  go_wp2_with fail
  go_loopw [4] (fun i W => ∃ (m q : Nat) (v : Value) (ps : List (R × Value)), i = .int .i64 m ∧ ps.length + m ≤ 8 ∧ p ≤ q ∧ q + 14 * m ≤ p + 1 + 14 * 8 ∧ Hid (StL w W b q (w.heap.size + 1 + 1) 0 v ps)) (fun i _ => (intOf i).toNat)
  case atStart => exact ⟨N, p + 1, _, [], rfl, by simp; omega, by omega, by omega, S1⟩
  case round =>
    obtain ⟨m, q, v, ps, rfl, hm, hq0, hq1, HS⟩ := hrel
    by_cases hlt : 0 < m
    · obtain ⟨⟨c0, c1, f0, f1⟩, _⟩ := HS.out.cells
      have hws : w.heap.size ≤ wr.heap.size := HS.out.mid.size
      go_wp2_with fail
      refine (rec_draw b q _ HS.out.rd (by omega)).mono ?_
      rintro e w2 ⟨k, t, u, zs, q2, cap, rfl, hz, hF, hqa, hqb, r2, m2⟩
      have S2 := hide_it (HS.out.step m2 r2)
      have F2 := hide_it (hF.mono hws)
      obtain ⟨g, off, hu⟩ : ∃ g off, u = .slice (some ⟨g, off, none⟩) zs.length cap := by obtain ⟨g, off, cs, h, _⟩ := hF; exact ⟨g, off, h⟩
      subst hu
      clear r2 m2 hF HS c0 c1 f0 f1
      go_wp2_with fail
      refine (specOk_any k t _ zs _ (F2.out.later (alloc_below _ _) (Nat.le_refl _)).ints (by omega)).mono ?_
      rintro e w3 ⟨rfl, hb3⟩
      have S3 := hide_it ((S2.out.later (alloc_below _ _)).later hb3)
      have F3 := hide_it ((F2.out.later (alloc_below _ _) (Nat.le_refl _)).later hb3 (Nat.le_refl _))
      obtain ⟨x0, x1, x2⟩ := (RecAt.new w2 k t (.slice (some ⟨g, off, none⟩) zs.length cap) 28).later hb3 (Nat.le_refl _)
      have hw23 : w2.heap.size < w3.heap.size := by have := hb3.size; simp at this; omega
      have hw2s : w.heap.size + 1 + 1 < w2.heap.size := heap_lt S2.out.own
      clear hb3 S2 F2
      obtain ⟨⟨c0, c1, f0, f1⟩, _⟩ := S3.out.cells
      cases hok : Pl.recOk k t zs
      · go_wp2_with fail
        go_roundw
        case rel => exact ⟨m - 1, q2, v, ps, by go_num, by omega, by omega, by omega, S3⟩
        case measure => simp [intOf]; omega
      · have hpl : ps.length ≤ 8 := by omega
        have ROW : Hid (∀ o, (w3.alloc o).ownsRow w.heap.size 28 3 v ps.length (flat ps)) := fun o => (S3.out.later (alloc_below _ o)).row
        go_wp2_with (at_builtin; refine wpList_append_own _ rfl _ _ 23 rfl w.heap.size 28 i0 (.agg #[.int .i64 0, .int .i64 0, .slice none 0 0]) 3 40 Tryd.underlying23 hi hz0 hz1 hz2 rfl (by decide) v ps.length (flat ps) rfl (ROW.out _) ⟨w3.heap.size, 0, none⟩ 1 1 [.int .i64 k, .int .i64 t, .slice (some ⟨g, off, none⟩) zs.length cap] rfl rfl (news3 _ _ _ _ _) (one3 _ _ _) ?c3 ?c4 ?c5 ?_)
        case c3 => unfold maxLen; omega
        case c4 => omega
        case c5 => simp; omega
        intro v' w4 hown4 hgrow4 _
        obtain ⟨a4, cap4, hv4⟩ := row_shape hown4
        subst hv4
        have S4 := hide_it ((S3.out.later (alloc_below _ _)).push (r := (k, t, zs)) ⟨by simpa using hz, Or.inl ⟨cap, F3.out.later (alloc_below _ _) (Nat.le_refl _)⟩⟩ hown4 hgrow4)
        obtain ⟨k0, k1⟩ := (S3.out.later (alloc_below _ _)).grown hgrow4
        clear hown4 hgrow4 ROW S3 F3 c0 c1 f0 f1 x0 x1 x2
        go_wp2_with fail
        go_roundw
        case rel => exact ⟨m - 1, q2, _, _, by go_num, by simp; omega, by omega, by omega, S4⟩
        case measure => simp [intOf]; omega
    · obtain ⟨⟨c0, c1, f0, f1⟩, _⟩ := HS.out.cells
      obtain ⟨av, cv, hvs⟩ := row_shape HS.out.row
      subst hvs
      have hpl : ps.length ≤ 8 := by omega
      obtain rfl : m = 0 := by omega
      clear hlt hm S1 ln un
      go_wp2_with fail
      refine (pick_any b q ((ps.length : Int) + 1) _ HS.out.rd (by omega) (by omega) (by omega)).mono ?_
      rintro e w5 ⟨F, rfl, lF, uF, r5, m5⟩
      have S5 := hide_it (HS.out.step m5 r5)
      clear r5 m5 HS c0 c1 f0 f1
      obtain ⟨⟨c0, c1, f0, f1⟩, _⟩ := S5.out.cells
      go_wp2_with fail
      refine (pick_any b (q + 1) 20 _ (S5.out.setF F).rd (by omega) (by omega) (by omega)).mono ?_
      rintro e w6 ⟨y, rfl, ly, uy, r6, m6⟩
      have S6 := hide_it ((S5.out.setF F).step m6 r6)
      clear r6 m6 S5 c0 c1 f0 f1
      obtain ⟨⟨c0, c1, f0, f1⟩, ⟨ra, rc, d0, d1, e0, e1⟩⟩ := S6.out.cells
      by_cases y0 : y = 0
      · subst y0
        clear d0 d1 e0 e1
        go_wp2_with fail
        first | (go_region_with (go_at_call 38; refine (pick_any b (q + 1 + 1) 2 _ (S6.out.later (by first | exact (Below.refl _ _).drew | exact (Below.refl _ _).drew.alloc (by simp) _)).rd (by omega) (by omega) (by omega)).mono ?_; rintro e w7 ⟨x, rfl, lx, ux, r7, m7⟩; have S7 := hide_it ((S6.out.later (by first | exact (Below.refl _ _).drew | exact (Below.refl _ _).drew.alloc (by simp) _)).step m7 r7); clear c0 c1 f0 f1; obtain ⟨⟨c0, c1, f0, f1⟩, _⟩ := S7.out.cells; obtain ⟨xn, hxn⟩ := Int.eq_ofNat_of_zero_le lx; subst hxn; have hx2 : xn < 2 := (by omega); obtain ⟨FF, HFF⟩ := two_get xn hx2 (-1) (IntKind.i64.wrap ((ps.length : Int) + 1)); have hFB := two_cell w7 HFF.out; have hL7 : w.heap.size + 1 + 1 < w7.heap.size := heap_lt S7.out.own; (try have hFA : w7.cell? ⟨w6.heap.size, xn, none⟩ = some (.int .i64 FF) := two_mid (W := w6.drew) HFF.out m7 (Nat.lt_of_lt_of_le S6.out.low S6.out.mid.size)); clear r7 m7)) | fail
        · obtain ⟨W8, hW8⟩ : ∃ W, Hid (W = w7.setCell ⟨w.heap.size + 1 + 1, 1, none⟩ (.int .i64 FF)) := ⟨_, rfl⟩
          rw [← hW8.out]
          have S8 : Hid (StL w W8 b (q + 1 + 1 + 1) (w.heap.size + 1 + 1) FF (.slice av ps.length cv) ps) := by show StL _ _ _ _ _ _ _ _; rw [hW8.out]; exact S7.out.setF FF
          clear S7 S6 c0 c1 f0 f1
          obtain ⟨⟨c0, c1, f0, f1⟩, ⟨ra2, rc2, d0, d1, e0, e1⟩⟩ := S8.out.cells
          go_wp2
          refine bodyPost_ret (v := .agg #[.slice av ps.length cv, .int .i64 FF]) (by simp [results, Tryd.results26, go_sem, d0, d1]) rfl ?_
          have T := (S8.out.setR0 (.slice av ps.length cv)).setR1 (.int .i64 FF)
          exact ⟨_, FF, ps, q + 1 + 1 + 1, _, rfl, by omega, by omega, by omega, T⟩
        all_goals
          obtain ⟨W8, hW8⟩ : ∃ W, Hid (W = (w7.setCell ⟨w.heap.size + 1 + 1, 1, none⟩ (.int .i64 FF)).alloc (.cells #[.int .i64 (-1), .int .i64 (IntKind.i64.wrap ((ps.length : Int) + 1))] 3)) := ⟨_, rfl⟩
          rw [← hW8.out]
          have S8 : Hid (StL w W8 b (q + 1 + 1 + 1) (w.heap.size + 1 + 1) FF (.slice av ps.length cv) ps) := by show StL _ _ _ _ _ _ _ _; rw [hW8.out]; exact (S7.out.setF FF).later (alloc_below _ _)
          clear S7 S6 c0 c1 f0 f1
          obtain ⟨⟨c0, c1, f0, f1⟩, ⟨ra2, rc2, d0, d1, e0, e1⟩⟩ := S8.out.cells
          go_wp2
          refine bodyPost_ret (v := .agg #[.slice av ps.length cv, .int .i64 FF]) (by simp [results, Tryd.results26, go_sem, d0, d1]) rfl ?_
          have T := (S8.out.setR0 (.slice av ps.length cv)).setR1 (.int .i64 FF)
          exact ⟨_, FF, ps, q + 1 + 1 + 1, _, rfl, by omega, by omega, by omega, T⟩
      by_cases y1 : y = 1
      · subst y1
        have hw6 : w.heap.size + 1 + 1 < w6.heap.size := heap_lt S6.out.own
        have ROW : Hid (∀ o, (w6.alloc o).ownsRow w.heap.size 28 3 (.slice av ps.length cv) ps.length (flat ps)) := fun o => (S6.out.later (alloc_below _ o)).row
        go_wp2_with (at_builtin; refine wpList_append_own _ rfl _ _ 23 rfl w.heap.size 28 i0 (.agg #[.int .i64 0, .int .i64 0, .slice none 0 0]) 3 40 Tryd.underlying23 hi hz0 hz1 hz2 rfl (by decide) (.slice av ps.length cv) ps.length (flat ps) rfl (ROW.out _) ⟨w6.heap.size, 0, none⟩ 1 1 [.int .i64 9, .int .i64 0, .slice none 0 0] rfl rfl (news3 _ _ _ _ _) (one3 _ _ _) ?c3 ?c4 ?c5 ?_)
        case c3 => unfold maxLen; omega
        case c4 => omega
        case c5 => simp; omega
        intro v' w7 hown7 hgrow7 _
        obtain ⟨a7, cap7, hv7⟩ := row_shape hown7
        subst hv7
        have S7 := hide_it ((S6.out.later (alloc_below _ _)).push (r := (9, 0, [])) ⟨by simp, Or.inr ⟨rfl, rfl⟩⟩ hown7 hgrow7)
        obtain ⟨k0, k1, k2, k3, ⟨j0, g0⟩, ⟨j1, g1⟩, g2, g3⟩ := (S6.out.later (alloc_below _ _)).grown2 hgrow7
        clear hown7 hgrow7 ROW S6 c0 c1 f0 f1 d0 d1 e0 e1
        go_wp2
        refine bodyPost_ret (v := .agg #[.slice a7 (ps.length + 1) cap7, .int .i64 F]) (by simp [results, Tryd.results26, go_sem, g0, g1]) rfl ?_
        have T := (S7.out.setR0 (.slice a7 (ps.length + 1) cap7)).setR1 (.int .i64 F)
        exact ⟨_, F, ps ++ [((9, 0, []), .slice none 0 0)], q + 1 + 1, _, rfl, by simp; omega, by omega, by omega, T⟩
      by_cases y2 : y = 2
      · subst y2
        clear c0 c1 f0 f1 d0 d1 e0 e1
        go_wp2_with fail
        go_loopw [61] (fun _ W => ∃ (q' : Nat) (v : Value) (qs : List (R × Value)), qs.length ≤ 41 ∧ p ≤ q' ∧ q' + 2 * (41 - qs.length) ≤ p + 300 ∧ Hid (StL w W b q' (w.heap.size + 1 + 1) F v qs)) (fun _ W => 60 - lenAt W (w.heap.size + 1 + 1))
        case atStart => exact ⟨q + 1 + 1, _, ps, by omega, by omega, by omega, S6⟩
        case round =>
          obtain ⟨q', v, qs, hqs, hq2, hq3, HS⟩ := hrel
          obtain ⟨av2, cv2, hvs⟩ := row_shape HS.out.row
          subst hvs
          obtain ⟨⟨c0, c1, f0, f1⟩, _⟩ := HS.out.cells
          go_wp2_with fail
          go_region_held (fun w' => w'.cell? ⟨w.heap.size + 1 + 1, 0, none⟩ = some (.slice av2 qs.length cv2)) (go_keep)
            ((go_at_call 38; refine (pick_any b q' 2 _ (HS.out.later (Below.refl _ _).drew).rd (by omega) (by omega) (by omega)).mono ?_; rintro e w7 ⟨x, rfl, lx, ux, r7, m7⟩; have S7 := hide_it ((HS.out.later (Below.refl _ _).drew).step m7 r7); clear r7 m7 c0 c1 f0 f1; obtain ⟨⟨c0, c1, f0, f1⟩, _⟩ := S7.out.cells))
          have hwr : IntKind.i64.wrap (40 + x) = 40 + x := by simp [IntKind.wrap, IntKind.bits, IntKind.signed]; omega
          rw [hwr]
          by_cases hc : (qs.length : Int) < 40 + x
          · have hcb : decide ((qs.length : Int) < 40 + x) = true := decide_eq_true hc
            have hw7 : w.heap.size + 1 + 1 < w7.heap.size := heap_lt S7.out.own
            have ROW : Hid (∀ o, (w7.alloc o).ownsRow w.heap.size 28 3 (.slice av2 qs.length cv2) qs.length (flat qs)) := fun o => (S7.out.later (alloc_below _ o)).row
            go_wp2_with (at_builtin; refine wpList_append_own _ rfl _ _ 23 rfl w.heap.size 28 i0 (.agg #[.int .i64 0, .int .i64 0, .slice none 0 0]) 3 40 Tryd.underlying23 hi hz0 hz1 hz2 rfl (by decide) (.slice av2 qs.length cv2) qs.length (flat qs) rfl (ROW.out _) ⟨w7.heap.size, 0, none⟩ 1 1 [.int .i64 7, .int .i64 1, .slice none 0 0] rfl rfl (news3 _ _ _ _ _) (one3 _ _ _) ?c3 ?c4 ?c5 ?_)
            case c3 => unfold maxLen; omega
            case c4 => omega
            case c5 => simp; omega
            intro v' w8 hown8 hgrow8 _
            obtain ⟨a8, cap8, hv8⟩ := row_shape hown8
            subst hv8
            have S8 := hide_it ((S7.out.later (alloc_below _ _)).push (r := (7, 1, [])) ⟨by simp, Or.inr ⟨rfl, rfl⟩⟩ hown8 hgrow8)
            obtain ⟨k0, k1⟩ := (S7.out.later (alloc_below _ _)).grown hgrow8
            have L0 : Hid (lenAt wr (w.heap.size + 1 + 1) = qs.length) := by show _ = _; unfold lenAt; rw [HS.out.cells.1.1]
            have L1 : Hid (lenAt (w8.setCell ⟨w.heap.size + 1 + 1, 0, none⟩ (.slice a8 (qs.length + 1) cap8)) (w.heap.size + 1 + 1) = qs.length + 1) := by show _ = _; unfold lenAt; rw [S8.out.cells.1.1]
            clear hown8 hgrow8 ROW S7 HS c0 c1 f0 f1 S6
            go_wp2_with fail
            go_roundw
            case rel => exact ⟨q' + 1, _, qs ++ [((7, 1, []), .slice none 0 0)], by simp; omega, by omega, by simp; omega, S8⟩
            case measure => rw [L0.out, L1.out]; omega
          · have hcb : decide ((qs.length : Int) < 40 + x) = false := decide_eq_false hc
            obtain ⟨_, ⟨ra2, rc2, d0, d1, e0, e1⟩⟩ := S7.out.cells
            clear HS S6
            go_wp2
            refine bodyPost_ret (v := .agg #[.slice av2 qs.length cv2, .int .i64 F]) (by simp [results, Tryd.results26, go_sem, d0, d1]) rfl ?_
            have T := (S7.out.setR0 (.slice av2 qs.length cv2)).setR1 (.int .i64 F)
            exact ⟨_, F, qs, q' + 1, _, rfl, by omega, by omega, by omega, T⟩
      go_wp2
      refine bodyPost_ret (v := .agg #[.slice av ps.length cv, .int .i64 F]) (by simp [results, Tryd.results26, go_sem, d0, d1]) rfl ?_
      have T := (S6.out.setR0 (.slice av ps.length cv)).setR1 (.int .i64 F)
      exact ⟨_, F, ps, q + 1 + 1, _, rfl, by omega, by omega, by omega, T⟩

end Go.Proofs.YtgbikmcpcolcpaaDoor
