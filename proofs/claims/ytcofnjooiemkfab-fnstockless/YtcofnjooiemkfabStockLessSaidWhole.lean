/- FnStockLess answers true whatever the codes, and they read afterwards as they read before: promise 23 at every drawn stock. No conditions. -/
import Derived.Test.YtcofnjooiemkfabStockLessSaidPart2
import Derived.Deep.RegionHeldLaw

namespace Go.Proofs.Ytcofnjooiemkfab
open Go.RowKit

/-- What comes out of the draw: a room, and at most six holds, in memory of the draw's own. -/
def StkGot (w w' : World) (e : Ending) (b p : Nat) : Prop :=
  ∃ (room : Int) (u : Value) (hs : List Pl.H) (q : Nat), e = .returned (.agg #[.int .i64 room, u]) ∧ -1 ≤ room ∧ room ≤ 10 ∧ hs.length ≤ 6 ∧ Holds w' u hs ∧ (∀ g, u.ownBlock = some g → w.heap.size ≤ g ∧ g < w'.heap.size) ∧ q ≤ p + 80 ∧ Rd w' b q ∧ Mid b (b + 1) w w'

/-- While a stock is drawn: the result's block, the stock's block, its holds, the reader. -/
structure StK (w W : World) (b q S : Nat) (room : Int) (u : Value) (hs : List Pl.H) : Prop where
  res : ∃ ra rc, W.heap[w.heap.size]? = some (.cells #[ra, rc] 25 (0, 0))
  stk : W.heap[S]? = some (.cells #[.int .i64 room, u] 25 (0, 0))
  lt : w.heap.size < S
  hol : Holds W u hs
  own : ∀ g, u.ownBlock = some g → w.heap.size < g ∧ ∃ cs, W.heap[g]? = some (.cells cs 29 (0, 0))
  rd : Rd W b q
  mid : Mid b (b + 1) w W
  low : b < w.heap.size

theorem Holds.keep {w w' : World} {v : Value} {hs : List Pl.H} (h : Holds w v hs) (hb : ∀ g, v.ownBlock = some g → w'.heap[g]? = w.heap[g]?) : Holds w' v hs := by
  rcases h with h | ⟨b, off, cap, hv, hz, hc⟩
  · exact Or.inl h
  · have e := hb b (by rw [hv]; rfl)
    refine Or.inr ⟨b, off, cap, hv, hz, fun k hk => ?_⟩
    obtain ⟨h1, h2⟩ := hc k hk
    exact ⟨by rw [← h1]; exact World.cell?_of_block (a := ⟨b, off + k * 2, none⟩) e, by rw [← h2]; exact World.cell?_of_block (a := ⟨b, off + k * 2 + 1, none⟩) e⟩

theorem StK.step {w W W' : World} {b q q' S : Nat} {room : Int} {u : Value} {hs : List Pl.H} (h : StK w W b q S room u hs) (hb : Mid b (b + 1) W W') (hr : Rd W' b q') : StK w W' b q' S room u hs := by
  have hl := h.low
  have hk : ∀ g, u.ownBlock = some g → W'.heap[g]? = W.heap[g]? := fun g hg => by
    obtain ⟨h1, cs, h2⟩ := h.own g hg
    exact hb.block g (heap_lt h2) (Or.inr (by omega))
  refine ⟨?_, rowS_mid h.stk hb (by have := h.lt; omega), h.lt, h.hol.keep hk, fun g hg => ?_, hr, h.mid.trans hb, hl⟩
  · obtain ⟨ra, rc, e⟩ := h.res; exact ⟨ra, rc, rowS_mid e hb hl⟩
  · obtain ⟨h1, cs, h2⟩ := h.own g hg; exact ⟨h1, cs, by rw [hk g hg]; exact h2⟩
theorem StK.later {w W W' : World} {b q S : Nat} {room : Int} {u : Value} {hs : List Pl.H} (h : StK w W b q S room u hs) (hb : Below W.heap.size W W') : StK w W' b q S room u hs :=
  h.step (Mid.of_below hb (Nat.le_refl _)) (h.rd.later hb (Nat.le_refl _))
theorem StK.cells {w W : World} {b q S : Nat} {room : Int} {u : Value} {hs : List Pl.H} (h : StK w W b q S room u hs) :
    (W.cell? ⟨S, 0, none⟩ = some (.int .i64 room) ∧ W.cell? ⟨S, 1, none⟩ = some u ∧ W.frozen? ⟨S, 0, none⟩ = false ∧ W.frozen? ⟨S, 1, none⟩ = false ∧ S < W.heap.size) ∧
    (∃ ra rc, W.cell? ⟨w.heap.size, 0, none⟩ = some ra ∧ W.cell? ⟨w.heap.size, 1, none⟩ = some rc ∧ W.frozen? ⟨w.heap.size, 0, none⟩ = false ∧ W.frozen? ⟨w.heap.size, 1, none⟩ = false) := by
  obtain ⟨ra, rc, e⟩ := h.res
  refine ⟨⟨?_, ?_, frozen_of_row W _ _ _ _ h.stk, frozen_of_row W _ _ _ _ h.stk, heap_lt h.stk⟩, ra, rc, ?_, ?_, frozen_of_row W _ _ _ _ e, frozen_of_row W _ _ _ _ e⟩
  · rw [cell_of_row W _ _ _ _ _ h.stk]; rfl
  · rw [cell_of_row W _ _ _ _ _ h.stk]; rfl
  · rw [cell_of_row W _ _ _ _ _ e]; rfl
  · rw [cell_of_row W _ _ _ _ _ e]; rfl
/-- A store into a block of stocks leaves the holds. -/
theorem keepS {w W : World} {X i : Nat} {cs : Array Value} (hX : W.heap[X]? = some (.cells cs 25 (0, 0))) (x : Value) :
    (∀ {v : Value} {ks : List Pl.H}, (∀ g, v.ownBlock = some g → w.heap.size < g ∧ ∃ cs, W.heap[g]? = some (.cells cs 29 (0, 0))) → Holds W v ks → Holds (W.setCell ⟨X, i, none⟩ x) v ks ∧ ∀ g, v.ownBlock = some g → w.heap.size < g ∧ ∃ cs, (W.setCell ⟨X, i, none⟩ x).heap[g]? = some (.cells cs 29 (0, 0))) := by
  intro v ks hv hh
  have e : ∀ g, v.ownBlock = some g → (W.setCell ⟨X, i, none⟩ x).heap[g]? = W.heap[g]? := fun g hg => by
    obtain ⟨_, cs', h2⟩ := hv g hg
    exact Below.heap_setCell _ _ _ _ (ne_of_type h2 hX (by decide))
  exact ⟨hh.keep e, fun g hg => by obtain ⟨h1, cs', h2⟩ := hv g hg; exact ⟨h1, cs', by rw [e g hg]; exact h2⟩⟩
theorem StK.setRoom {w W : World} {b q S : Nat} {room : Int} {u : Value} {hs : List Pl.H} (h : StK w W b q S room u hs) (x : Int) : StK w (W.setCell ⟨S, 0, none⟩ (.int .i64 x)) b q S x u hs := by
  have hl := h.lt
  have hw := h.low
  obtain ⟨a1, a2⟩ := keepS h.stk (.int .i64 x) (i := 0) h.own h.hol
  exact ⟨(by obtain ⟨ra, rc, e⟩ := h.res; exact ⟨ra, rc, by rw [Below.heap_setCell _ _ _ _ (by simp; omega)]; exact e⟩), by rw [heap_setCell_same W S 0 _ _ _ h.stk]; simp, hl, a1, a2, h.rd.setApart (by omega) _, h.mid.setNew (by omega) _, hw⟩
theorem StK.setHolds {w W : World} {b q S : Nat} {room : Int} {u v : Value} {hs ks : List Pl.H} (h : StK w W b q S room u hs) (hv : Holds W v ks) (ho : ∀ g, v.ownBlock = some g → w.heap.size < g ∧ ∃ cs, W.heap[g]? = some (.cells cs 29 (0, 0))) : StK w (W.setCell ⟨S, 1, none⟩ v) b q S room v ks := by
  have hl := h.lt
  have hw := h.low
  obtain ⟨a1, a2⟩ := keepS h.stk v (i := 1) ho hv
  exact ⟨(by obtain ⟨ra, rc, e⟩ := h.res; exact ⟨ra, rc, by rw [Below.heap_setCell _ _ _ _ (by simp; omega)]; exact e⟩), by rw [heap_setCell_same W S 1 _ _ _ h.stk]; simp, hl, a1, a2, h.rd.setApart (by omega) _, h.mid.setNew (by omega) _, hw⟩
theorem StK.done {w W : World} {b q S p : Nat} {room : Int} {u : Value} {hs : List Pl.H} (h : StK w W b q S room u hs) (h1 : -1 ≤ room) (h2 : room ≤ 10) (h3 : hs.length ≤ 6) (hq : q ≤ p + 80) (x y : Value) :
    StkGot w ((W.setCell ⟨w.heap.size, 0, none⟩ x).setCell ⟨w.heap.size, 1, none⟩ y) (.returned (.agg #[.int .i64 room, u])) b p := by
  have hw := h.low
  obtain ⟨ra, rc, e⟩ := h.res
  obtain ⟨a1, a2⟩ := keepS e x (i := 0) h.own h.hol
  have e2 : ∀ g, u.ownBlock = some g → ((W.setCell ⟨w.heap.size, 0, none⟩ x).setCell ⟨w.heap.size, 1, none⟩ y).heap[g]? = (W.setCell ⟨w.heap.size, 0, none⟩ x).heap[g]? := fun g hg => Below.heap_setCell _ _ _ _ (by have := (h.own g hg).1; simp; omega)
  exact ⟨room, u, hs, q, rfl, h1, h2, h3, a1.keep e2, fun g hg => ⟨Nat.le_of_lt (h.own g hg).1, by obtain ⟨_, cs, hh⟩ := h.own g hg; have := heap_lt hh; simp; omega⟩, hq, (h.rd.setApart hw _).setApart hw _, (h.mid.setNew (Nat.le_refl _) _).setNew (Nat.le_refl _) _⟩

/-- All holds but the first. -/
theorem holds_tail {w : World} {base g cap : Nat} {hs : List Pl.H} (hl : hs.length = 6) (h : w.ownsRow base 29 2 (.slice (some ⟨g, 0, none⟩) 6 cap) 6 (hflat hs)) : Holds w (.slice (some ⟨g, 2, none⟩) 5 (cap - 1)) hs.tail := by
  have ht : hs.tail.length = 5 := by simp [hl]
  have hh : Holds w (.slice (some ⟨g, 0, none⟩) 6 cap) hs := holds_of_row (base := base) (by rw [hl]; exact h)
  refine Or.inr ⟨g, 2, cap - 1, by rw [ht], by intro e; rw [e] at ht; simp at ht, fun k hk => ?_⟩
  rcases hh with ⟨h0, _⟩ | ⟨b', off, cap', hv, _, hc⟩
  · rw [h0] at hl; simp at hl
  · simp only [Value.slice.injEq, Option.some.injEq, Addr.mk.injEq] at hv
    obtain ⟨⟨rfl, rfl, _⟩, _, _⟩ := hv
    obtain ⟨h1, h2⟩ := hc (k + 1) (by omega)
    have e : hs.tail.getD k (0, 0) = hs.getD (k + 1) (0, 0) := by cases hs with | nil => simp at hl | cons x t => rfl
    rw [e]
    refine ⟨?_, ?_⟩
    · rw [← h1]; congr 2; omega
    · rw [← h2]; congr 2; omega

/-- One hold is given other numbers. -/
theorem StK.setHold {w W : World} {b q S g cap base x : Nat} {room : Int} {hs : List Pl.H} (h : StK w W b q S room (.slice (some ⟨g, 0, none⟩) 6 cap) hs) (hl : hs.length = 6) (ho : W.ownsRow base 29 2 (.slice (some ⟨g, 0, none⟩) 6 cap) 6 (hflat hs)) (hx : x < 6) (a c : Int) :
    StK w ((W.setCell ⟨g, x * 2, none⟩ (.int .i64 a)).setCell ⟨g, x * 2 + 1, none⟩ (.int .i64 c)) b q S room (.slice (some ⟨g, 0, none⟩) 6 cap) (hs.set x (a, c)) := by
  have hlt := h.lt
  have hw := h.low
  obtain ⟨hg, cs, hgc⟩ := h.own g rfl
  have o1 := (ho.stored (x * 2) (.int .i64 a)).1
  have o2 := (o1.stored (x * 2 + 1) (.int .i64 c)).1
  have hS : g ≠ S := ne_of_type hgc h.stk (by decide)
  have g1 := heap_setCell_same W g (x * 2) _ _ (.int .i64 a) hgc
  have g2 := heap_setCell_same _ g (x * 2 + 1) _ _ (.int .i64 c) g1
  refine ⟨?_, ?_, hlt, ?_, fun k hk => ?_, (h.rd.setApart (by omega) _).setApart (by omega) _, (h.mid.setNew (by omega) _).setNew (by omega) _, hw⟩
  · obtain ⟨ra, rc, e⟩ := h.res
    exact ⟨ra, rc, by rw [Below.heap_setCell _ _ _ _ (by simp; omega), Below.heap_setCell _ _ _ _ (by simp; omega)]; exact e⟩
  · rw [Below.heap_setCell _ _ _ _ (by simp; omega), Below.heap_setCell _ _ _ _ (by simp; omega)]; exact h.stk
  · refine holds_of_row (base := base) ?_
    rw [List.length_set, hl, ← hflat_set hs x (a, c) (by omega)]; exact o2
  · simp [Value.ownBlock] at hk
    subst hk
    exact ⟨hg, _, g2⟩

set_option maxRecDepth 100000 in
set_option maxHeartbeats 8000000 in
theorem stock_draw (b p : Nat) (w : World) (h : Rd w b p) (hp : p ≤ 600000) :
    Calls Try.prog 8 #[.pointer (some ⟨b, 0, none⟩)] w fun e w' => StkGot w w' e b p := by
  have hblt := h.lt
  obtain ⟨w0, hw0⟩ : ∃ W, Hid (W = w.alloc (.cells #[.int .i64 0, .slice none 0 0] 25)) := ⟨_, rfl⟩
  have R0 : Hid (Rd w0 b p) := by show Rd _ _ _; rw [hw0.out]; exact h.alloc _
  have M0 : Hid (Mid b (b + 1) w w0) := by show Mid _ _ _ _; rw [hw0.out]; exact (Mid.refl _ _ _).alloc _
  have Z0 : Hid (w0.heap.size = w.heap.size + 1) := by show _ = _; rw [hw0.out]; simp
  have E0 : Hid (w0.heap[w.heap.size]? = some (.cells #[.int .i64 0, .slice none 0 0] 25 (0, 0))) := by show _ = _; rw [hw0.out]; exact heap_alloc_new _ _
  clear h
  go_enter Try.func8, Try.ntmps8
  go_wp2_with fail
  rw [← hw0.out]
  refine (recs_draw b p _ R0.out (by omega)).mono ?_
  rintro e w1 ⟨room, o, ps, hs, q, rfl, lr, ur, hps, hrow, hall, hrun, hq, r1, m1⟩
  have OF : Hid (∀ W, Below w1.heap.size w1 W → Calls Try.prog 17 #[.int .i64 room, o] W fun e w' => StOut W w' e room hs true) := fun W hb => by
    have hr := recs_rows hrow hall
    have := specOf_any room o (ps.map (·.1)) W (hr.later hb (Nat.le_refl _)) (Nat.le_trans (tot_small ps (by omega) (fun x hx => (hall x hx).1)) (by omega))
    have e1 : Pl.sOf room (ps.map (·.1)) = some hs := by rw [← hrun]; simp [Pl.sOf, Pl.inB_mk lr (show room ≤ 9 by omega)]
    rw [e1] at this
    exact this
  have hlen : Hid (hs.length = 6) := by show _ = _; rw [Pl.sRun_len _ hrun]; rfl
  have R1 := hide_it r1
  have M1 := hide_it (M0.out.trans m1)
  have E1 := hide_it (show w1.heap[w.heap.size]? = some (.cells #[.int .i64 0, .slice none 0 0] 25 (0, 0)) from rowS_mid E0.out m1 hblt)
  have hz01 : w.heap.size < w1.heap.size := heap_lt E1.out
  obtain ⟨ao, co, hos⟩ := row_shape hrow
  subst hos
  clear hrow hall hrun r1 m1
  go_wp2_with fail
  refine (OF.out _ (Below.refl _ _)).mono ?_
  rintro e w2 ⟨a2, c2, rfl, ho2, hb2⟩
  obtain ⟨S, hS⟩ : ∃ S, Hid (S = w2.heap.size) := ⟨_, rfl⟩
  rw [hlen.out] at ho2 ⊢
  obtain ⟨w3, hw3⟩ : ∃ W, Hid (W = w2.alloc (.cells #[.int .i64 room, .slice a2 6 c2] 25)) := ⟨_, rfl⟩
  have K3 : Hid (StK w w3 b q S room (.slice a2 6 c2) hs) := by
    show StK _ _ _ _ _ _ _ _
    rw [hw3.out, hS.out]
    have al := alloc_below w2 (.cells #[.int .i64 room, .slice a2 6 c2] 25)
    have hs2 := hb2.size
    have hol := ownsRow_below ho2 al (fun k hk => (ho2.lt k hk).2)
    refine ⟨⟨_, _, rowS_later (rowS_later E1.out hb2 (Nat.le_refl _)) al (Nat.le_refl _)⟩, heap_alloc_new _ _, by omega, ?_, fun g hg => ?_, (R1.out.later hb2 (Nat.le_refl _)).later al (Nat.le_refl _), (M1.out.trans (Mid.of_below hb2 (Nat.le_refl _))).alloc _, hblt⟩
    · refine holds_of_row (base := w1.heap.size) ?_; rw [hlen.out]; exact hol
    · obtain ⟨h1, h2⟩ := rowB_at hol g hg; exact ⟨by omega, h2⟩
  have OW : Hid (w3.ownsRow w1.heap.size 29 2 (.slice a2 6 c2) 6 (hflat hs)) := by
    show World.ownsRow _ _ _ _ _ _ _
    rw [hw3.out]; exact ownsRow_below ho2 (alloc_below _ _) (fun k hk => (ho2.lt k hk).2)
  clear ho2 hb2 OF R1 M1 E1 R0 M0 E0
  go_wp2_with fail
  rw [← hS.out, ← hw3.out]
  refine (pick_any b q 20 _ K3.out.rd (by omega) (by omega) (by omega)).mono ?_
  rintro e w4 ⟨y, rfl, ly, uy, r4, m4⟩
  have K4 := hide_it (K3.out.step m4 r4)
  have O4 := hide_it (ownsRow_mid OW.out m4 (fun k hk => Or.inr (by have := (rowB_at OW.out k hk).1; omega)))
  clear r4 m4 K3 OW hw3 hS
  obtain ⟨g, hga, hc6⟩ : ∃ g, a2 = some ⟨g, 0, none⟩ ∧ 6 ≤ c2 := by
    rcases O4.out.2 with ⟨hv, hn⟩ | ⟨g, cap, cur, hv, _, _, hc, _⟩
    · cases hn
    · simp only [Value.slice.injEq, true_and] at hv; exact ⟨g, hv.1, by omega⟩
  subst hga
  by_cases hy0 : y = 0
  · subst hy0
    obtain ⟨⟨s0, s1, sf0, sf1, sl⟩, ra, rc, t0, t1, tf0, tf1⟩ := K4.out.cells
    have hb4 : b < w4.heap.size := K4.out.rd.lt
    have K5 := hide_it (K4.out.later (alloc_below _ (.cells #[.int .i64 (-1), .int .i64 0, .int .i64 10] 3)))
    have N5 := hide_it (heap_alloc_new w4 (.cells #[.int .i64 (-1), .int .i64 0, .int .i64 10] 3))
    go_wp2_with fail
    refine (pick_any b (q + 1) 3 _ K5.out.rd (by omega) (by omega) (by omega)).mono ?_
    rintro e w6 ⟨x, rfl, lx, ux, r6, m6⟩
    have K6 := hide_it (K5.out.step m6 r6)
    have N6 := hide_it (rowS_mid N5.out m6 hb4)
    clear r6 m6 s0 s1 sf0 sf1 sl t0 t1 tf0 tf1
    obtain ⟨⟨s0, s1, sf0, sf1, sl⟩, ra, rc, t0, t1, tf0, tf1⟩ := K6.out.cells
    have hne : w.heap.size ≠ S := by have := K6.out.lt; omega
    have n0 : w6.cell? ⟨w4.heap.size, 0, none⟩ = some (.int .i64 (-1)) := by rw [cell_of_row w6 _ _ _ _ _ N6.out]; rfl
    have n1 : w6.cell? ⟨w4.heap.size, 1, none⟩ = some (.int .i64 0) := by rw [cell_of_row w6 _ _ _ _ _ N6.out]; rfl
    have n2 : w6.cell? ⟨w4.heap.size, 2, none⟩ = some (.int .i64 10) := by rw [cell_of_row w6 _ _ _ _ _ N6.out]; rfl
    rcases three lx ux with rfl | rfl | rfl
    · have K7 := hide_it (K6.out.setRoom (-1))
      go_wp2
      exact bodyPost_ret (v := .agg #[.int .i64 (-1), .slice (some ⟨g, 0, none⟩) 6 c2]) (by simp [results, Try.results8, go_sem, *]) rfl (K7.out.done (by omega) (by omega) (by rw [hlen.out]; omega) (by omega) _ _)
    · have K7 := hide_it (K6.out.setRoom (0))
      go_wp2
      exact bodyPost_ret (v := .agg #[.int .i64 (0), .slice (some ⟨g, 0, none⟩) 6 c2]) (by simp [results, Try.results8, go_sem, *]) rfl (K7.out.done (by omega) (by omega) (by rw [hlen.out]; omega) (by omega) _ _)
    · have K7 := hide_it (K6.out.setRoom (10))
      go_wp2
      exact bodyPost_ret (v := .agg #[.int .i64 (10), .slice (some ⟨g, 0, none⟩) 6 c2]) (by simp [results, Try.results8, go_sem, *]) rfl (K7.out.done (by omega) (by omega) (by rw [hlen.out]; omega) (by omega) _ _)
  by_cases hy1 : y = 1
  · subst hy1
    obtain ⟨⟨s0, s1, sf0, sf1, sl⟩, -⟩ := K4.out.cells
    go_wp2_with fail
    refine wp_region_held_drew (S := fun w' => w'.cell? ⟨S, 1, none⟩ = some (.slice (some ⟨g, 0, none⟩) 6 c2)) (by kernel_rfl) s1 (fun hHeld => ?_)
    clear s0 s1 sf0 sf1 sl
    refine wpAnyH_take (i := 0) (v := ?_) rfl (by kernel_rfl) (by kernel_rfl) (by kernel_rfl) (fun _ _ _ h => h) (Or.inl ⟨by rfl, ?_⟩) hHeld ?_
    rotate_left
    · intro W hSw
      try dsimp only at hSw
      go_simp
      try with_reducible rfl
    try simp only [Act.put]
    try simp only [List.setIfInBounds_toArray]
    try simp only [List.set_cons_succ]
    try simp only [List.set_cons_zero]
    refine wpAnyH_take (i := 1) (v := ?_) rfl (by kernel_rfl) (by kernel_rfl) (by kernel_rfl) (fun _ _ _ h => h) (Or.inl ⟨by rfl, ?_⟩) hHeld ?_
    rotate_left
    · intro W hSw
      try dsimp only at hSw
      go_simp
      try with_reducible rfl
    try simp only [Act.put]
    try simp only [List.setIfInBounds_toArray]
    try simp only [List.set_cons_succ]
    try simp only [List.set_cons_zero]
    refine wpAnyH_take (i := 2) (v := ?_) rfl (by kernel_rfl) (by kernel_rfl) (by kernel_rfl) (fun _ _ _ h => h) (Or.inl ⟨by rfl, ?_⟩) hHeld ?_
    rotate_left
    · intro W hSw
      try dsimp only at hSw
      go_simp
      try with_reducible rfl
    try simp only [Act.put]
    try simp only [List.setIfInBounds_toArray]
    try simp only [List.set_cons_succ]
    try simp only [List.set_cons_zero]
    refine wpAnyH_take (i := 3) (v := ?_) rfl (by kernel_rfl) (by kernel_rfl) (by kernel_rfl) (fun _ _ _ h => h) (Or.inl ⟨by rfl, ?_⟩) hHeld ?_
    rotate_left
    · intro W hSw
      try dsimp only at hSw
      go_simp
      try with_reducible rfl
    try simp only [Act.put]
    try simp only [List.setIfInBounds_toArray]
    try simp only [List.set_cons_succ]
    try simp only [List.set_cons_zero]
    refine wpAnyH_take (i := 4) (v := ?_) rfl (by kernel_rfl) (by kernel_rfl) (by kernel_rfl) (fun _ _ _ h => h) (Or.inl ⟨by rfl, ?_⟩) hHeld ?_
    rotate_left
    · intro W hSw
      try dsimp only at hSw
      go_simp
      try with_reducible rfl
    try simp only [Act.put]
    try simp only [List.setIfInBounds_toArray]
    try simp only [List.set_cons_succ]
    try simp only [List.set_cons_zero]
    refine wpAnyH_take (i := 5) (v := ?_) rfl (by kernel_rfl) (by kernel_rfl) (by kernel_rfl) (fun _ _ _ h => h) (Or.inl ⟨by rfl, ?_⟩) hHeld ?_
    rotate_left
    · intro W hSw
      try dsimp only at hSw
      go_simp
      try with_reducible rfl
    try simp only [Act.put]
    try simp only [List.setIfInBounds_toArray]
    try simp only [List.set_cons_succ]
    try simp only [List.set_cons_zero]
    refine wpAnyH_take (i := 7) (v := ?_) rfl (by kernel_rfl) (by kernel_rfl) (by kernel_rfl) (fun _ _ _ h => h) (Or.inl ⟨by rfl, ?_⟩) hHeld ?_
    rotate_left
    · intro W hSw
      try dsimp only at hSw
      go_simp
      try with_reducible rfl
    try simp only [Act.put]
    try simp only [List.setIfInBounds_toArray]
    try simp only [List.set_cons_succ]
    try simp only [List.set_cons_zero]
    refine wpAnyH_take (i := 9) (v := ?_) rfl (by kernel_rfl) (by kernel_rfl) (by kernel_rfl) (fun _ _ _ h => h) (Or.inl ⟨by rfl, ?_⟩) hHeld ?_
    rotate_left
    · intro W hSw
      try dsimp only at hSw
      go_simp
      try with_reducible rfl
    try simp only [Act.put]
    try simp only [List.setIfInBounds_toArray]
    try simp only [List.set_cons_succ]
    try simp only [List.set_cons_zero]
    have K4' := hide_it (K4.out.later ((Below.refl w4.heap.size w4).drew))
    have O4' : Hid (w4.drew.ownsRow w1.heap.size 29 2 (.slice (some ⟨g, 0, none⟩) 6 c2) 6 (hflat hs)) := O4.out
    refine wpAnyH_ready (rs := [6]) (by kernel_rfl) (by simp) ?_
    refine AllReadyH.cons rfl (fun K hK => ?_) AllReadyH.nil
    go_simp
    refine (pick_any b (q + 1) 6 _ K4'.out.rd (by omega) (by omega) (by omega)).mono ?_
    rintro e w5 ⟨x5, rfl, l5, u5, r5, m5⟩
    have K5 := hide_it (K4'.out.step m5 r5)
    have O5 := hide_it (ownsRow_mid O4'.out m5 (fun k hk => Or.inr (by have := (rowB_at O4.out k hk).1; omega)))
    clear r5 m5
    try dsimp only
    refine hK.out _ _ K5.out.cells.1.2.1 (fun hHeld => ?_)
    clear hK K
    refine wpAnyH_ready (rs := [8]) (by kernel_rfl) (by simp) ?_
    refine AllReadyH.cons rfl (fun K hK => ?_) AllReadyH.nil
    go_simp
    refine (pick_any b (q + 1 + 1) 5 _ K5.out.rd (by omega) (by omega) (by omega)).mono ?_
    rintro e w6 ⟨x6, rfl, l6, u6, r6, m6⟩
    have K6 := hide_it (K5.out.step m6 r6)
    have O6 := hide_it (ownsRow_mid O5.out m6 (fun k hk => Or.inr (by have := (rowB_at O4.out k hk).1; omega)))
    clear r6 m6
    try dsimp only
    refine hK.out _ _ K6.out.cells.1.2.1 (fun hHeld => ?_)
    clear hK K
    refine wpAnyH_ready (rs := [10]) (by kernel_rfl) (by simp) ?_
    refine AllReadyH.cons rfl (fun K hK => ?_) AllReadyH.nil
    go_simp
    refine (pick_any b (q + 1 + 1 + 1) 5 _ K6.out.rd (by omega) (by omega) (by omega)).mono ?_
    rintro e w7 ⟨x7, rfl, l7, u7, r7, m7⟩
    have K7 := hide_it (K6.out.step m7 r7)
    have O7 := hide_it (ownsRow_mid O6.out m7 (fun k hk => Or.inr (by have := (rowB_at O4.out k hk).1; omega)))
    clear r7 m7
    try dsimp only
    refine hK.out _ _ K7.out.cells.1.2.1 (fun hHeld => ?_)
    clear hK K
    obtain ⟨xn, rfl⟩ := Int.eq_ofNat_of_zero_le l5
    have hxn : xn < 6 := by omega
    have hxi : (xn : Int) < 6 := by omega
    refine wpAnyH_take (i := 11) (v := ?_) rfl (by kernel_rfl) (by kernel_rfl) (by kernel_rfl) (fun _ _ _ h => h) (Or.inl ⟨by rfl, ?_⟩) hHeld ?_
    rotate_left
    · intro W hSw
      try dsimp only at hSw
      go_simp
      try with_reducible rfl
    try simp only [Act.put]
    try simp only [List.setIfInBounds_toArray]
    try simp only [List.set_cons_succ]
    try simp only [List.set_cons_zero]
    refine wpAnyH_take (i := 12) (v := ?_) rfl (by kernel_rfl) (by kernel_rfl) (by kernel_rfl) (fun _ _ _ h => h) (Or.inl ⟨by rfl, ?_⟩) hHeld ?_
    rotate_left
    · intro W hSw
      try dsimp only at hSw
      go_simp
      try with_reducible rfl
    try simp only [Act.put]
    try simp only [List.setIfInBounds_toArray]
    try simp only [List.set_cons_succ]
    try simp only [List.set_cons_zero]
    have K8 := hide_it (K7.out.setHold hlen.out O7.out hxn x6 x7)
    obtain ⟨f0, f1⟩ := hflat_get hs xn (by rw [hlen.out]; exact hxn)
    have v0 : w7.cell? ⟨g, xn * 2, none⟩ = some (.int .i64 (hs.getD xn (0, 0)).1) := by rw [O7.out.cellAt _ (by omega)]; exact f0
    have v1 : w7.cell? ⟨g, xn * 2 + 1, none⟩ = some (.int .i64 (hs.getD xn (0, 0)).2) := by rw [O7.out.cellAt _ (by omega)]; exact f1
    obtain ⟨hg7, cs7, hgc7⟩ := K7.out.own g rfl
    have vf0 := frozen_of_row w7 g (xn * 2) _ _ hgc7
    have vf1 := frozen_of_row w7 g (xn * 2 + 1) _ _ hgc7
    refine wpAnyH_ready (rs := [13]) (by kernel_rfl) (by simp) ?_
    refine AllReadyH.cons rfl (fun K hK => ?_) AllReadyH.nil
    go_simp
    refine hK.out _ _ K8.out.cells.1.2.1 (fun hHeld => ?_)
    clear hK K
    refine wpAnyH_done (by kernel_rfl) ?_ _
    obtain ⟨⟨s0, s1, sf0, sf1, sl⟩, ra, rc, t0, t1, tf0, tf1⟩ := K8.out.cells
    have hne : w.heap.size ≠ S := by have := K8.out.lt; omega
    obtain ⟨w8, hw8⟩ : ∃ W, Hid (W = (w7.setCell ⟨g, xn * 2, none⟩ (.int .i64 x6)).setCell ⟨g, xn * 2 + 1, none⟩ (.int .i64 x7)) := ⟨_, rfl⟩
    rw [← hw8.out] at K8 s0 s1 sf0 sf1 sl t0 t1 tf0 tf1 ⊢
    clear v0 v1 vf0 vf1 hgc7 hHeld
    go_wp2
    exact bodyPost_ret (v := .agg #[.int .i64 room, .slice (some ⟨g, 0, none⟩) 6 c2]) (by simp [results, Try.results8, go_sem, *]) rfl (K8.out.done (by omega) (by omega) (by rw [List.length_set, hlen.out]; omega) (by omega) _ _)
  by_cases hy2 : y = 2
  · subst hy2
    obtain ⟨⟨s0, s1, sf0, sf1, sl⟩, ra, rc, t0, t1, tf0, tf1⟩ := K4.out.cells
    have hne : w.heap.size ≠ S := by have := K4.out.lt; omega
    have hcI : (6 : Int) ≤ (c2 : Int) := by omega
    have K7 := hide_it (K4.out.setHolds (holds_tail hlen.out O4.out) (fun k hk => K4.out.own k hk))
    go_wp2
    exact bodyPost_ret (v := .agg #[.int .i64 (room), .slice (some ⟨g, 2, none⟩) 5 (c2 - 1)]) (by simp [results, Try.results8, go_sem, *]) rfl (K7.out.done (by omega) (by omega) (by rw [List.length_tail, hlen.out]; omega) (by omega) _ _)
  · obtain ⟨⟨s0, s1, sf0, sf1, sl⟩, ra, rc, t0, t1, tf0, tf1⟩ := K4.out.cells
    have hne : w.heap.size ≠ S := by have := K4.out.lt; omega
    go_wp2
    exact bodyPost_ret (v := .agg #[.int .i64 room, .slice (some ⟨g, 0, none⟩) 6 c2]) (by simp [results, Try.results8, go_sem, *]) rfl (K4.out.done (by omega) (by omega) (by rw [hlen.out]; omega) (by omega) _ _)

end Go.Proofs.Ytcofnjooiemkfab

namespace Go.Proofs.Ytcofnjooiemkfab
open Go.RowKit

set_option maxHeartbeats 2000000 in
theorem drawOk_any (v : Value) (n : Nat) (w : World) (hv : CodeAt w v n) (hn : n ≤ 1048576) :
    Calls Try.prog 4 #[v] w fun e w' => ∃ (room : Int) (u : Value) (hs : List Pl.H), e = .returned (.agg #[.int .i64 room, u]) ∧ -1 ≤ room ∧ room ≤ 10 ∧ hs.length ≤ 6 ∧ Holds w' u hs ∧ Below w.heap.size w w' := by
  have hv0 := hide_it (hv.later (alloc_below w (.cells #[.int .i64 0, .slice none 0 0] 25)) (Nat.le_refl _))
  have HO := hide_it (open_any v n _ hv0.out hn)
  obtain ⟨ao, cap, rfl, _⟩ := hv
  obtain ⟨w0, hw0⟩ : ∃ W, Hid (W = w.alloc (.cells #[.int .i64 0, .slice none 0 0] 25)) := ⟨_, rfl⟩
  have B0 : Hid (Below w.heap.size w w0) := by show Below _ _ _; rw [hw0.out]; exact alloc_below _ _
  have S0 : Hid (w0.heap[w.heap.size]? = some (.cells #[.int .i64 0, .slice none 0 0] 25 (0, 0))) := by show _ = _; rw [hw0.out]; exact heap_alloc_new _ _
  have Z0 : Hid (w0.heap.size = w.heap.size + 1) := by show _ = _; rw [hw0.out]; simp
  rw [← hw0.out] at HO
  clear hv0
  go_enter Try.func4, Try.ntmps4
  go_wp2_with fail
  rw [← hw0.out]
  refine HO.out.mono ?_
  rintro e w1 ⟨rfl, hr1, hs1, hb1⟩
  have R1 := hide_it hr1
  have B1 := hide_it (B0.out.trans (hb1.mono B0.out.size))
  have S1 := hide_it (rowS_later S0.out hb1 (Nat.le_refl _))
  have Z1 : Hid (w1.heap.size = w.heap.size + 2) := by show _ = _; rw [hs1, Z0.out]
  clear hr1 hb1 hs1
  go_wp2_with fail
  refine (stock_draw _ 0 _ R1.out (by omega)).mono ?_
  rintro e w2 ⟨room, u, hs, q, rfl, lr, ur, hl, hH, hown, hq, hr2, m2⟩
  have B2 := hide_it (B1.out.trans (m2.below (B := w.heap.size) (by rw [Z0.out]; omega) B1.out.size))
  have S2 : Hid (w2.heap[w.heap.size]? = some (.cells #[.int .i64 0, .slice none 0 0] 25 (0, 0))) := by
    show _ = _
    rw [m2.block _ (heap_lt S1.out) (Or.inl (by rw [Z0.out]; omega))]; exact S1.out
  have H2 := hide_it hH
  have hownw : Hid (∀ g, u.ownBlock = some g → g ≠ w.heap.size) := fun g hg => by have := (hown g hg).1; rw [Z1.out] at this; omega
  obtain ⟨au, cu, rfl⟩ := hH.shape
  clear hr2 m2 hH hown
  have c0 : w2.cell? ⟨w.heap.size, 0, none⟩ = some (.int .i64 0) := by rw [cell_of_row w2 _ _ _ _ _ S2.out]; rfl
  have c1 : w2.cell? ⟨w.heap.size, 1, none⟩ = some (.slice none 0 0) := by rw [cell_of_row w2 _ _ _ _ _ S2.out]; rfl
  have f0 := frozen_of_row w2 _ 0 _ _ S2.out
  have f1 := frozen_of_row w2 _ 1 _ _ S2.out
  go_wp2
  refine bodyPost_ret (v := .agg #[.int .i64 room, .slice au hs.length cu]) (by simp [results, Try.results4, go_sem, *]) rfl ⟨room, _, hs, rfl, lr, ur, hl, ?_, (B2.out.setCell (by simp) _).setCell (by simp) _⟩
  refine (H2.out.keep (w' := w2.setCell ⟨w.heap.size, 0, none⟩ (.int .i64 room)) fun g hg => ?_).keep fun g hg => ?_
  · exact Below.heap_setCell _ _ _ _ (by simpa using hownw.out g hg)
  · exact Below.heap_setCell _ _ _ _ (by simpa using hownw.out g hg)

end Go.Proofs.Ytcofnjooiemkfab

namespace Go.Proofs.Ytcofnjooiemkfab
open Go.RowKit

/-- A record as plain data: its kind, its trip, its numbers. -/
abbrev Rc := R

/-- A block as it lies. -/
def Blk (w : World) (b : Nat) (cs : Array Value) (ty : TypeId) : Prop := w.heap[b]? = some (.cells cs ty (0, 0))
theorem Blk.new (w : World) (cs : Array Value) (ty : TypeId) : Blk (w.alloc (.cells cs ty)) w.heap.size cs ty := heap_alloc_new w _
theorem Blk.lt {w : World} {b : Nat} {cs : Array Value} {ty : TypeId} (h : Blk w b cs ty) : b < w.heap.size := lt_of_heap h
theorem Blk.later {w w' : World} {b L : Nat} {cs : Array Value} {ty : TypeId} (h : Blk w b cs ty) (hb : Below L w w') (hL : b < L) : Blk w' b cs ty := by
  unfold Blk; rw [hb.block b hL]; exact h
theorem Blk.after {w w' : World} {b : Nat} {cs : Array Value} {ty : TypeId} (h : Blk w b cs ty) (hb : Below w.heap.size w w') : Blk w' b cs ty := h.later hb h.lt
theorem Blk.mid {w w' : World} {b l h' : Nat} {cs : Array Value} {ty : TypeId} (h : Blk w b cs ty) (hm : Mid l h' w w') (hb : b < l ∨ h' ≤ b) : Blk w' b cs ty := by
  unfold Blk; rw [hm.block b h.lt hb]; exact h
theorem Blk.cell {w : World} {b : Nat} {cs : Array Value} {ty : TypeId} (h : Blk w b cs ty) (i : Nat) : w.cell? ⟨b, i, none⟩ = cs[i]? := cell_of_row w _ _ _ _ _ h
theorem Blk.free {w : World} {b : Nat} {cs : Array Value} {ty : TypeId} (h : Blk w b cs ty) (i : Nat) : w.frozen? ⟨b, i, none⟩ = false := frozen_of_row w _ _ _ _ h
theorem Blk.other {w : World} {b : Nat} {cs : Array Value} {ty : TypeId} (h : Blk w b cs ty) {a : Addr} (ha : b ≠ a.block) (x : Value) : Blk (w.setCell a x) b cs ty := by
  unfold Blk; rw [Below.heap_setCell _ _ _ _ ha]; exact h
theorem Blk.alloc {w : World} {b : Nat} {cs : Array Value} {ty : TypeId} (h : Blk w b cs ty) (o : Obj) : Blk (w.alloc o) b cs ty := h.after (alloc_below w o)
theorem Blk.cells5 {w : World} {b : Nat} {x0 x1 x2 x3 x4 : Value} {ty : TypeId} (h : Blk w b #[x0, x1, x2, x3, x4] ty) :
    w.cell? ⟨b, 0, none⟩ = some x0 ∧ w.cell? ⟨b, 1, none⟩ = some x1 ∧ w.cell? ⟨b, 2, none⟩ = some x2 ∧ w.cell? ⟨b, 3, none⟩ = some x3 ∧ w.cell? ⟨b, 4, none⟩ = some x4 := by
  refine ⟨?_, ?_, ?_, ?_, ?_⟩ <;> (rw [h.cell]; rfl)
theorem Blk.cells2 {w : World} {b : Nat} {x0 x1 : Value} {ty : TypeId} (h : Blk w b #[x0, x1] ty) :
    w.cell? ⟨b, 0, none⟩ = some x0 ∧ w.cell? ⟨b, 1, none⟩ = some x1 := by
  refine ⟨?_, ?_⟩ <;> (rw [h.cell]; rfl)
theorem Blk.free5 {w : World} {b : Nat} {cs : Array Value} {ty : TypeId} (h : Blk w b cs ty) :
    w.frozen? ⟨b, 0, none⟩ = false ∧ w.frozen? ⟨b, 1, none⟩ = false ∧ w.frozen? ⟨b, 2, none⟩ = false ∧ w.frozen? ⟨b, 3, none⟩ = false ∧ w.frozen? ⟨b, 4, none⟩ = false :=
  ⟨h.free 0, h.free 1, h.free 2, h.free 3, h.free 4⟩
theorem Blk.new2 (w : World) (o : Obj) (cs : Array Value) (ty : TypeId) : Blk ((w.alloc o).alloc (.cells cs ty)) (w.heap.size + 1) cs ty := by
  have h := Blk.new (w.alloc o) cs ty
  rw [size1] at h
  exact h
theorem Blk.set_ {w : World} {b : Nat} {cs : Array Value} {ty : TypeId} (h : Blk w b cs ty) (i : Nat) (x : Value) : Blk (w.setCell ⟨b, i, none⟩ x) b (cs.setIfInBounds i x) ty := by
  unfold Blk; rw [heap_setCell_same w b i _ _ x h]

theorem Blk.drew {w : World} {b : Nat} {cs : Array Value} {ty : TypeId} (h : Blk w b cs ty) : Blk w.drew b cs ty := h.after (Below.refl _ _).drew
/-- Blocks of unlike types are not one. -/
theorem Blk.ne {w : World} {b b' : Nat} {cs cs' : Array Value} {ty ty' : TypeId} (h : Blk w b cs ty) (h' : Blk w b' cs' ty') (ht : ty ≠ ty') : b ≠ b' := by
  intro e
  subst e
  unfold Blk at h h'
  rw [h] at h'
  simp at h'
  exact ht h'.2
theorem Blk.cells3 {w : World} {b : Nat} {x0 x1 x2 : Value} {ty : TypeId} (h : Blk w b #[x0, x1, x2] ty) :
    w.cell? ⟨b, 0, none⟩ = some x0 ∧ w.cell? ⟨b, 1, none⟩ = some x1 ∧ w.cell? ⟨b, 2, none⟩ = some x2 := by
  refine ⟨?_, ?_, ?_⟩ <;> (rw [h.cell]; rfl)
theorem row_apart {w : World} {base : Nat} {ty ty' : TypeId} {sz n g : Nat} {x : Value} {xs : List Value} {cur : Array Value} {fz : Nat × Nat} (hr : w.ownsRow base ty sz x n xs) (hh : w.heap[g]? = some (.cells cur ty' fz)) (ht : ty ≠ ty') : ∀ k, x.ownBlock = some k → k ≠ g := by
  intro k hk e
  subst e
  rcases hr.2 with ⟨hv, _⟩ | ⟨g', cap, cur', hv, _, h2, _⟩
  · rw [hv] at hk; simp [Value.ownBlock] at hk
  · rw [hv] at hk
    simp [Value.ownBlock] at hk
    subst hk
    rw [hh] at h2
    simp at h2
    exact ht h2.2.1.symm
/-- A row of the call's own is no such block. -/
theorem Blk.off {w : World} {b base sz n : Nat} {cs : Array Value} {ty ty' : TypeId} {v : Value} {xs : List Value} (h : Blk w b cs ty) (hr : w.ownsRow base ty' sz v n xs) (ht : ty' ≠ ty) : v.ownBlock ≠ some b := fun e => row_apart hr h ht b e rfl

end Go.Proofs.Ytcofnjooiemkfab

namespace Go.Proofs.Ytcofnjooiemkfab
open Go.RowKit

namespace Pl
theorem sFree_of {room : Int} {hs : List H} (h : sOk room hs = true) : sFree room hs = free room hs ∧ 0 ≤ free room hs ∧ free room hs ≤ 9 := by
  have h1 := sFree_bd room hs
  have h2 := (sOk_parts h).2.2.2
  rw [sFree_yes h] at h1
  exact ⟨sFree_yes h, h2, h1.2⟩
/-- With a hold gone a stock is ok. -/
theorem less_ok {room : Int} {hs : List H} (h : sOk room hs = true) {k : Nat} (hk : k < 6) : sOk room (hs.set k (0, 0)) = true := by
  obtain ⟨h1, h2, h3, h4⟩ := sOk_parts h
  rw [sOk_mk (all_set hs k (0, 0) h1 (by decide)) h2 (by simp [h3]), free_set _ _ _ _ (by omega)]
  have hm : hOk (hs.getD k (0, 0)) = true := (List.all_eq_true.1 h1) _ (by simp [List.getD_eq_getElem?_getD, h3, hk])
  have := hHad_bd _ hm
  have e : hHad (0, 0) = 0 := by decide
  rw [e]
  exact decide_eq_true (by omega)
/-- Of just as much room as is had a stock is ok, of less it is not. -/
theorem room_ok {room : Int} {hs : List H} (h : sOk room hs = true) : sOk (room - free room hs) hs = true ∧ sFree (room - free room hs) hs = 0 ∧ sOk (room - free room hs - 1) hs = false := by
  obtain ⟨h1, h2, h3, h4⟩ := sOk_parts h
  have hb := hsum_bd hs h1
  have h5 := inB_true h2
  have f0 : free (room - free room hs) hs = 0 := by unfold free; omega
  have e0 : 0 ≤ room - free room hs := by unfold free; omega
  have o0 : sOk (room - free room hs) hs = true := by rw [sOk_mk h1 (inB_mk e0 (by omega)) h3, f0]; rfl
  refine ⟨o0, by rw [sFree_yes o0, f0], ?_⟩
  cases hc : sOk (room - free room hs - 1) hs
  · rfl
  · have := (sOk_parts hc).2.2.2
    unfold free at this; omega
end Pl

theorem holds_of_row6 {w : World} {base : Nat} {a : Option Addr} {cap : Nat} {hs : List Pl.H} (h6 : hs.length = 6) (h : w.ownsRow base 29 2 (.slice a 6 cap) 6 (hflat hs)) : Holds w (.slice a 6 cap) hs :=
  holds_of_row (by rw [h6]; exact h)

set_option maxRecDepth 100000 in
set_option maxHeartbeats 8000000 in
theorem lawP23_small (vc : Value) (nc : Nat) (am : Option Addr) (nm cm : Nat) (w : World) (hc : CodeAt w vc nc) (hcn : nc ≤ 1048576) (hmn : nm ≤ 1048576) :
    Calls Try.prog 3 #[vc, .slice am nm cm] w fun e w' => e = .returned (.bool true) ∧ Below w.heap.size w w' := by
  have HD := hide_it (drawOk_any vc nc w hc hcn)
  obtain ⟨ac, cc, rfl, _⟩ := hc
  have hci : (nc : Int) ≤ 1048576 := by omega
  have hmi : (nm : Int) ≤ 1048576 := by omega
  clear hcn
  go_enter Try.func3, Try.ntmps3
  go_wp2_with fail
  refine HD.out.mono ?_
  rintro e w1 ⟨room, u, hs, rfl, lr, ur, hl, hH, hb1⟩
  have B1 := hide_it hb1
  have H1 := hide_it hH
  obtain ⟨au, cu, rfl⟩ := hH.shape
  clear hb1 hH HD
  obtain ⟨w2, hw2⟩ : ∃ W, Hid (W = w1.alloc (.cells #[.int .i64 room, .slice au hs.length cu] 25)) := ⟨_, rfl⟩
  have al2 : Hid (Below w1.heap.size w1 w2) := by show Below _ _ _; rw [hw2.out]; exact alloc_below _ _
  have B2 := hide_it (B1.out.trans (al2.out.mono B1.out.size))
  have D2 : Hid (Duo w2 w1.heap.size (.int .i64 room) (.slice au hs.length cu)) := by show Duo _ _ _ _; rw [hw2.out]; exact Duo.new _ _ _ _
  have H2 := hide_it (H1.out.later al2.out (Nat.le_refl _))
  have hl9 : hs.length ≤ 1048576 := by omega
  obtain ⟨BB, hBB⟩ : ∃ x, Hid (Pl.sOk room hs = x) := ⟨_, rfl⟩
  have IM : Hid (∀ W, Below w2.heap.size w2 W → Calls Try.prog 5 #[.agg #[.int .i64 room, .slice au hs.length cu]] W fun e w' => e = .returned (.bool BB) ∧ Below W.heap.size W w') := fun W hb => by
    have := implStockOk_any room _ hs W (H2.out.later hb (Nat.le_refl _)) hl9
    rw [hBB.out] at this; exact this
  have SP : Hid (∀ W, Below w2.heap.size w2 W → Calls Try.prog 6 #[.agg #[.int .i64 room, .slice au hs.length cu]] W fun e w' => e = .returned (.bool BB) ∧ Below W.heap.size W w') := fun W hb => by
    have := specStockOk_any room _ hs W (H2.out.later hb (Nat.le_refl _)) hl9
    rw [hBB.out] at this; exact this
  go_wp2_with fail
  rw [← hw2.out]
  refine (IM.out w2 (Below.refl _ _)).mono ?_
  rintro e w3 ⟨rfl, hb3⟩
  have E3 := hide_it hb3
  clear hb3
  obtain ⟨c0, c1⟩ := D2.out.later E3.out (Nat.le_refl _)
  cases BB
  · go_wp2_with fail
    refine (SP.out w3 E3.out).mono ?_
    rintro e w4 ⟨rfl, hb4⟩
    have E4 := hide_it (E3.out.trans (hb4.mono E3.out.size))
    clear hb4 c0 c1
    obtain ⟨c0, c1⟩ := D2.out.later E4.out (Nat.le_refl _)
    go_wp2_with fail
    refine (SP.out w4 E4.out).mono ?_
    rintro e w5 ⟨rfl, hb5⟩
    have B5 := hide_it (B2.out.trans ((E4.out.trans (hb5.mono E4.out.size)).mono B2.out.size))
    clear hb5 c0 c1
    go_wp2
    go_ret
    exact ⟨rfl, B5.out⟩
  go_wp2_with fail
  refine (SP.out w3 E3.out).mono ?_
  rintro e w4 ⟨rfl, hb4⟩
  have E4 := hide_it (E3.out.trans (hb4.mono E3.out.size))
  clear hb4 c0 c1
  obtain ⟨c0, c1⟩ := D2.out.later E4.out (Nat.le_refl _)
  have H6 := hide_it (Pl.sOk_parts hBB.out).2.2.1
  obtain ⟨fx, f0, f9⟩ := Pl.sFree_of hBB.out
  obtain ⟨ro1, ro2, ro3⟩ := Pl.room_ok hBB.out
  obtain ⟨N, hN⟩ : ∃ N : Nat, nm % 6 = N := ⟨_, rfl⟩
  have hN6 : N < 6 := by omega
  have hNi : (N : Int) < 6 := by omega
  have hMt : Int.tmod (nm : Int) 6 = (N : Int) := by rw [Int.tmod_eq_emod_of_nonneg (by omega)]; omega
  clear hN
  obtain ⟨F, hF⟩ : ∃ F, Pl.free room hs = F := ⟨_, rfl⟩
  rw [hF] at fx f0 f9 ro1 ro2 ro3
  have FX := hide_it fx
  have RO1 := hide_it ro1
  have RO2 := hide_it ro2
  have RO3 := hide_it ro3
  have LOK := hide_it (Pl.less_ok hBB.out hN6)
  clear fx ro1 ro2 ro3 hF
  have c1' : w4.cell? ⟨w1.heap.size, 1, none⟩ = some (.slice au 6 cu) := by rw [c1, H6.out]
  clear c1
  have H4 := hide_it (H2.out.later E4.out (Nat.le_refl _))
  have q0 := fun o => cellAlloc c0 o
  have q1 := fun o => cellAlloc c1' o
  have hlt1 : w1.heap.size < w4.heap.size := World.block_lt_of_cell? _ _ c0
  rw [H6.out]
  have VH : Hid (∀ o1 o2, Holds ((w4.alloc o1).alloc o2) (.slice au 6 cu) hs) := fun o1 o2 => by
    have := H4.out.later (below2 w4 o1 o2) (Nat.le_refl _)
    rw [H6.out] at this; exact this
  have LIT : Hid (((w4.alloc (.cells #[.int .i64 room, .slice au 6 cu] 25)).alloc (.cells #[] 29)).ownsRow (w4.heap.size + 1) 29 2 (.slice (some ⟨w4.heap.size + 1, 0, none⟩) 0 0) 0 []) := by
    have h := World.ownsRow_lit (base := (w4.alloc (.cells #[.int .i64 room, .slice au 6 cu] 25)).heap.size) (e := 29) (size := 2) (w4.alloc (.cells #[.int .i64 room, .slice au 6 cu] 25)) #[] 0 (by simp) (by unfold maxLen; omega) (by simp)
    rw [World.size_alloc] at h
    exact h
  have X6 : Hid (Blk ((w4.alloc (.cells #[.int .i64 room, .slice au 6 cu] 25)).alloc (.cells #[] 29)) w4.heap.size #[.int .i64 room, .slice au 6 cu] 25) := (Blk.new w4 _ _).alloc _
  have R6 := H6.out
  go_wp2_with (at_builtin; refine wpList_append_holds rfl _ _ rfl (w4.heap.size + 1) (.slice (some ⟨w4.heap.size + 1, 0, none⟩) 0 0) (.slice au 6 cu) 0 [] hs rfl rfl LIT.out (VH.out _ _) 6 (by omega) (by decide) (by decide) (by simp) ?_; intro g cap w7 hown hgrow; simp only [List.nil_append] at hown; have hb7 : Below w4.heap.size w4 w7 := ((below2 w4 _ _).grown hgrow (by simp; omega) (fun j hj => by simp [Value.ownBlock] at hj; omega)); have X7 : Hid (Blk w7 w4.heap.size #[.int .i64 room, .slice au 6 cu] 25) := (by show _ = _; rw [hgrow.block _ (by simp; omega) (by simp [Value.ownBlock])]; exact X6.out); have L7 := hide_it hb7; have O7 := hide_it hown; obtain ⟨hg1, hg2⟩ := hown.lt g rfl; obtain ⟨x0, x1⟩ := X7.out.cells2; have xf0 := X7.out.free 0; have xf1 := X7.out.free 1; obtain ⟨y0, y1, gc0, gc1, gf0, gf1⟩ := row_pair hown N hN6; have hgx : ¬ w4.heap.size = g := (by omega); have hgx2 : ¬ g = w4.heap.size := (by omega); have d0 : w7.cell? ⟨w1.heap.size, 0, none⟩ = some (.int .i64 room) := (by rw [hb7.cell (p := ⟨w1.heap.size, 0, none⟩) hlt1]; exact c0); have d1 : w7.cell? ⟨w1.heap.size, 1, none⟩ = some (.slice au 6 cu) := (by rw [hb7.cell (p := ⟨w1.heap.size, 1, none⟩) hlt1]; exact c1'); have hgs : ¬ w1.heap.size = g := (by omega); have hgs2 : ¬ g = w1.heap.size := (by omega); have hxs : ¬ w1.heap.size = w4.heap.size := (by omega); have hxs2 : ¬ w4.heap.size = w1.heap.size := (by omega); clear hown hgrow hb7 q0 q1)
  obtain ⟨w9, hw9⟩ : ∃ W, Hid (W = ((w7.setCell ⟨w4.heap.size, 1, none⟩ (.slice (some ⟨g, 0, none⟩) 6 cap)).setCell ⟨g, N * 2, none⟩ (.int .i64 0)).setCell ⟨g, N * 2 + 1, none⟩ (.int .i64 0)) := ⟨_, rfl⟩
  have hs9 : w9.heap.size = w7.heap.size := by rw [hw9.out]; simp
  have O8 : Hid ((w7.setCell ⟨w4.heap.size, 1, none⟩ (.slice (some ⟨g, 0, none⟩) 6 cap)).ownsRow (w4.heap.size + 1) 29 2 (.slice (some ⟨g, 0, none⟩) 6 cap) 6 (hflat hs)) := ownsRow_mid O7.out (setCell_mid _ _ _ _) (fun j hj => by simp [Value.ownBlock] at hj; omega)
  have O9 : Hid (w9.ownsRow (w4.heap.size + 1) 29 2 (.slice (some ⟨g, 0, none⟩) 6 cap) 6 (hflat (hs.set N (0, 0)))) := by show World.ownsRow _ _ _ _ _ _ _; rw [hw9.out]; exact (stored2 O8.out N (by omega) (0, 0)).1
  have X9 : Hid (Blk w9 w4.heap.size #[.int .i64 room, .slice (some ⟨g, 0, none⟩) 6 cap] 25) := by
    show Blk _ _ _ _
    rw [hw9.out]
    have := ((X7.out.set_ 1 (.slice (some ⟨g, 0, none⟩) 6 cap)).other (a := ⟨g, N * 2, none⟩) hgx (.int .i64 0)).other (a := ⟨g, N * 2 + 1, none⟩) hgx (.int .i64 0)
    simpa using this
  have L9 : Hid (Below w4.heap.size w4 w9) := by
    show Below _ _ _
    rw [hw9.out]
    exact ((L7.out.setCell (by simp) _).setCell (by simp; omega) _).setCell (by simp; omega) _
  have hl6 : (hs.set N (0, 0)).length = 6 := by rw [List.length_set]; exact R6
  have T9 := hide_it (holds_of_row6 hl6 O9.out)
  have hl6' := hide_it hl6
  have hlN : (hs.set N (0, 0)).length ≤ 1048576 := by omega
  clear d0 d1 gc0 gc1 gf0 gf1 x0 x1 xf0 xf1 c0 c1' hl6 R6
  obtain ⟨w10, hw10⟩ : ∃ W, Hid (W = w9.alloc (.cells #[.int .i64 room, .slice au 6 cu] 25)) := ⟨_, rfl⟩
  have al10 : Below w9.heap.size w9 w10 := by rw [hw10.out]; exact alloc_below _ _
  have Y10 : Hid (Blk w10 w7.heap.size #[.int .i64 room, .slice au 6 cu] 25) := by show Blk _ _ _ _; rw [hw10.out, ← hs9]; exact Blk.new w9 _ _
  have L10 := hide_it (L9.out.trans (al10.mono L9.out.size))
  have A10 := hide_it al10
  have HS9 := hide_it hs9
  have HA : Hid (∀ W, Below w4.heap.size w4 W → Holds W (.slice au 6 cu) hs) := fun W hb => by
    have := H4.out.later hb (Nat.le_refl _)
    rw [H6.out] at this; exact this
  have FS : Hid (∀ W, Below w4.heap.size w4 W → Calls Try.prog 7 #[.agg #[.int .i64 room, .slice au 6 cu]] W fun e w' => e = .returned (.int .i64 F) ∧ Below W.heap.size W w') := fun W hb => by
    have := implFree_any room _ hs W (HA.out W hb) hl9
    rw [FX.out] at this; exact this
  have OKX : Hid (∀ W, Below w9.heap.size w9 W → Calls Try.prog 5 #[.agg #[.int .i64 room, .slice (some ⟨g, 0, none⟩) 6 cap]] W fun e w' => e = .returned (.bool true) ∧ Below W.heap.size W w') := fun W hb => by
    have := implStockOk_any room _ (hs.set N (0, 0)) W (T9.out.later hb (Nat.le_refl _)) hlN
    rw [LOK.out] at this; exact this
  have OKY : Hid (∀ W, Below w4.heap.size w4 W → Calls Try.prog 5 #[.agg #[.int .i64 (room - F), .slice au 6 cu]] W fun e w' => e = .returned (.bool true) ∧ Below W.heap.size W w') := fun W hb => by
    have := implStockOk_any (room - F) _ hs W (HA.out W hb) hl9
    rw [RO1.out] at this; exact this
  have OKZ : Hid (∀ W, Below w4.heap.size w4 W → Calls Try.prog 5 #[.agg #[.int .i64 (room - F - 1), .slice au 6 cu]] W fun e w' => e = .returned (.bool false) ∧ Below W.heap.size W w') := fun W hb => by
    have := implStockOk_any (room - F - 1) _ hs W (HA.out W hb) hl9
    rw [RO3.out] at this; exact this
  have FY : Hid (∀ W, Below w4.heap.size w4 W → Calls Try.prog 7 #[.agg #[.int .i64 (room - F), .slice au 6 cu]] W fun e w' => e = .returned (.int .i64 0) ∧ Below W.heap.size W w') := fun W hb => by
    have := implFree_any (room - F) _ hs W (HA.out W hb) hl9
    rw [RO2.out] at this; exact this
  have DD : Hid (∀ W, Below w4.heap.size w4 W → W.cell? ⟨w1.heap.size, 0, none⟩ = some (.int .i64 room) ∧ W.cell? ⟨w1.heap.size, 1, none⟩ = some (.slice au 6 cu)) := fun W hb => by
    have := D2.out.later (E4.out.trans (hb.mono E4.out.size)) (Nat.le_refl _)
    rw [H6.out] at this; exact this
  clear al10 hs9
  rw [← hw9.out, ← hw10.out]
  obtain ⟨d0, d1⟩ := DD.out w10 L10.out
  have hwF : IntKind.i64.wrap (room - F) = room - F := by simp [IntKind.wrap, IntKind.bits, IntKind.signed]; omega
  go_region_law (go_simp; go_at_call 7; refine (FS.out _ L10.out.drew).mono ?_; rintro e w11 ⟨rfl, hb11⟩; have N11 : Hid (Below w10.heap.size w10 w11) := (Below.refl w10.heap.size w10).drew.trans hb11; obtain ⟨y0, y1⟩ := (Y10.out.after N11.out).cells2; have yf0 := (Y10.out.after N11.out).free 0; have yf1 := (Y10.out.after N11.out).free 1; obtain ⟨e0, e1⟩ := DD.out w11 (L10.out.trans (N11.out.mono L10.out.size)); clear hb11)
  all_goals
    have L11 := hide_it (L10.out.trans (N11.out.mono L10.out.size))
    have M11 := hide_it (A10.out.trans (N11.out.mono A10.out.size))
    obtain ⟨w12, hw12⟩ : ∃ W, Hid (W = w11.setCell ⟨w7.heap.size, 0, none⟩ (.int .i64 (room - F))) := ⟨_, rfl⟩
    have L12 : Hid (Below w4.heap.size w4 w12) := by show Below _ _ _; rw [hw12.out]; exact L11.out.setCell (by have := L7.out.size; simp; omega) _
    have M12 : Hid (Below w9.heap.size w9 w12) := by show Below _ _ _; rw [hw12.out]; exact M11.out.setCell (by have := HS9.out; simp; omega) _
    have Y12 : Hid (Blk w12 w7.heap.size #[.int .i64 (room - F), .slice au 6 cu] 25) := by
      show Blk _ _ _ _
      rw [hw12.out]
      have := (Y10.out.after N11.out).set_ 0 (.int .i64 (room - F))
      simpa using this
    rw [← hw12.out]
    clear d0 d1 y0 y1 yf0 yf1 e0 e1
    obtain ⟨w13, hw13⟩ : ∃ W, Hid (W = w12.alloc (.cells #[.int .i64 (room - F - 1), .slice au 6 cu] 25)) := ⟨_, rfl⟩
    have al13 : Below w12.heap.size w12 w13 := by rw [hw13.out]; exact alloc_below _ _
    have Z13 : Hid (Blk w13 w12.heap.size #[.int .i64 (room - F - 1), .slice au 6 cu] 25) := by show Blk _ _ _ _; rw [hw13.out]; exact Blk.new w12 _ _
    have Y13 := hide_it (Y12.out.after al13)
    have L13 := hide_it (L12.out.trans (al13.mono L12.out.size))
    have M13 := hide_it (M12.out.trans (al13.mono M12.out.size))
    obtain ⟨y0, y1⟩ := Y12.out.cells2
    have k0 := fun o => cellAlloc y0 o
    have k1 := fun o => cellAlloc y1 o
    have hly := Y12.out.lt
    obtain ⟨x0, x1⟩ := (X9.out.after M12.out).cells2
    have k2 := fun o => cellAlloc x0 o
    have k3 := fun o => cellAlloc x1 o
    have hlx := (X9.out.after M12.out).lt
    clear al13
    go_wp2_with fail
    rw [← hw13.out]
    refine (OKX.out w13 M13.out).mono ?_
    rintro e w14 ⟨rfl, hb14⟩
    have N14 := hide_it hb14
    clear hb14 k0 k1 k2 k3 x0 x1 y0 y1
    obtain ⟨y0, y1⟩ := (Y13.out.after N14.out).cells2
    go_wp2_with fail
    refine (OKY.out w14 (L13.out.trans (N14.out.mono L13.out.size))).mono ?_
    rintro e w15 ⟨rfl, hb15⟩
    have N15 := hide_it (N14.out.trans (hb15.mono N14.out.size))
    clear hb15 y0 y1
    obtain ⟨y0, y1⟩ := (Y13.out.after N15.out).cells2
    go_wp2_with fail
    refine (FY.out w15 (L13.out.trans (N15.out.mono L13.out.size))).mono ?_
    rintro e w16 ⟨rfl, hb16⟩
    have N16 := hide_it (N15.out.trans (hb16.mono N15.out.size))
    clear hb16 y0 y1
    obtain ⟨z0, z1⟩ := (Z13.out.after N16.out).cells2
    go_wp2_with fail
    refine (OKZ.out w16 (L13.out.trans (N16.out.mono L13.out.size))).mono ?_
    rintro e w17 ⟨rfl, hb17⟩
    have N17 := hide_it (N16.out.trans (hb17.mono N16.out.size))
    have BZ := hide_it (B2.out.trans ((E4.out.trans ((L13.out.trans (N17.out.mono L13.out.size)).mono E4.out.size)).mono B2.out.size))
    clear hb17 z0 z1
    go_wp2
    go_ret
    exact ⟨rfl, BZ.out⟩

end Go.Proofs.Ytcofnjooiemkfab

namespace Go.Proofs.Ytcofnjooiemkfab
open Go.ChangeShapes Go.WideShapes Go.ChangeAt Go.WideMaps Go.WideElems Go.RowKit Go.Joins

theorem own : ownKnob Try.prog.godebug = none := by kernel_rfl
theorem laidOut : laidOutB Try.prog = true := by kernel_rfl

set_option maxHeartbeats 1000000 in
theorem lawP23_great1 (ac : Option Addr) (nc cc : Nat) (am : Option Addr) (nm cm : Nat) (w : World) (h : 1048576 < (nc : Int)) :
    Calls Try.prog 3 #[.slice ac nc cc, .slice am nm cm] w fun e w' => e = .returned (.bool true) ∧ Below w.heap.size w w' := by
  go_enter Try.func3, Try.ntmps3
  go_wp2
  go_ret
  exact ⟨rfl, Below.refl _ _⟩

set_option maxHeartbeats 1000000 in
theorem lawP23_great2 (ac : Option Addr) (nc cc : Nat) (am : Option Addr) (nm cm : Nat) (w : World) (hc : (nc : Int) ≤ 1048576) (h : 1048576 < (nm : Int)) :
    Calls Try.prog 3 #[.slice ac nc cc, .slice am nm cm] w fun e w' => e = .returned (.bool true) ∧ Below w.heap.size w w' := by
  go_enter Try.func3, Try.ntmps3
  go_wp2
  go_ret
  exact ⟨rfl, Below.refl _ _⟩

theorem lawP23_any (vc vm : Value) (nc nm : Nat) (w : World) (hc : CodeAt w vc nc) (hm : CodeAt w vm nm) :
    Calls Try.prog 3 #[vc, vm] w fun e w' => e = .returned (.bool true) ∧ Below w.heap.size w w' := by
  obtain ⟨am, cm, rfl, _⟩ := hm
  by_cases h1 : nc ≤ 1048576
  · by_cases h2 : nm ≤ 1048576
    · exact lawP23_small vc nc am nm cm w hc h1 h2
    · obtain ⟨ac, cc, rfl, _⟩ := hc
      exact lawP23_great2 ac nc cc am nm cm w (by omega) (by omega)
  · obtain ⟨ac, cc, rfl, _⟩ := hc
    exact lawP23_great1 ac nc cc am nm cm w (by omega)

set_option maxRecDepth 100000 in
theorem p23_lifted (os : Os) (started : os.Started) (H : Type) (enc : TypeId × Value → H) :
    ReturnsInHanded {} Try.checked os 3 .any (Rows.fnStockLessSpec.pre6 enc Try.prog Try.f3 Rows.fnStockLessRow.domain false) (Rows.fnStockLessSpec.post enc Try.prog Try.f3 false true false false) := by
  refine returnsInHanded_of_change (C := Try.checked) own started (by kernel_rfl) Try.func3
    (ChangeSpec.witness6 (enc := enc) (C := Try.checked) false ⟨#[], #[.slice none 0 0, .slice none 0 0], []⟩ 8 (by kernel_rfl) (by kernel_rfl) (by kernel_rfl) (by kernel_rfl)) ?_
  intro W base args ds gs before hval0 hW hcnd _
  have hval : ∀ (j : Nat) t v, Try.f3.params[j]? = some t → args[j]? = some v → Value.okWide Try.prog W .any base t v := hval0
  have hW' := hW
  obtain ⟨p, q, hA0, hV, rfl, hfz, hnd⟩ := hW
  have hA : DataW.TrodAll enc Try.prog W 0 (fun _ => true) true Try.f3.params.toList args.toList ds p := hA0
  rw [Try.params3] at hA hval
  obtain ⟨v0, v1, d0, d1, p0, p1, rfl, rfl, rfl, h0, h1⟩ := trodAll_two hA
  obtain ⟨rfl, rfl⟩ := trodVars_none hV
  clear hA0 hval0
  obtain ⟨nc, hC, _⟩ := open_code (hval 0 22 v0 rfl rfl) h0
  obtain ⟨nm, hM, _⟩ := open_code (hval 1 22 v1 rfl rfl) h1
  refine (lawP23_any v0 v1 nc nm W hC hM).mono fun e W' ⟨he, hb⟩ => ?_
  subst he
  have hlt : ∀ x ∈ p0, x.block < W.heap.size := fun x hx => hW'.lt x (by simp [hx])
  have hlt1 : ∀ x ∈ p1, x.block < W.heap.size := fun x hx => hW'.lt x (by simp [hx])
  refine ⟨_, rfl, _, _, _, [], p0 ++ p1, [], hW', ?_, ?_, ?_, hb.frame _, fun h => by cases h⟩
  · exact trodAll_mk1 (shut_bool Try.underlying4 true)
  · exact trodAll_mk2 (Below.trod laidOut (by kernel_rfl) (of_decide_eq_true (by kernel_rfl)) h0 hb hlt) (Below.trod laidOut (by kernel_rfl) (of_decide_eq_true (by kernel_rfl)) h1 hb hlt1)
  · exact rfl

theorem p23_said : Rows.FnStockLessSaid :=
  OpenClaim.holds_of_wide 3 Try.f3 rfl rfl rfl rfl rfl rfl rfl ⟨rfl, rfl, rfl, rfl, rfl⟩ rfl rfl rfl rfl rfl (by kernel_rfl) Try.func3 (by kernel_rfl)
    (of_decide_eq_true (by kernel_rfl)) (by unfold Func.isWrapper; first | (rw [if_pos (by decide +kernel)]; kernel_rfl) | (rw [if_neg (by decide +kernel)]; exact ⟨rfl, rfl⟩))
    (fun os started H enc _ => p23_lifted os started H enc)
#print axioms p23_said

end Go.Proofs.Ytcofnjooiemkfab
