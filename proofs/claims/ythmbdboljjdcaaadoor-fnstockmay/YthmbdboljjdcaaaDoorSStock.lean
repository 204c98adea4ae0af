/- The draw of a stock (l71Stock). For readers that picked at most 600000 times. -/
import Derived.Test.YthmbdboljjdcaaaDoorSRecs
import Derived.Test.YthmbdboljjdcaaaDoorKLawOf
import Derived.Deep.RegionHeldLaw
namespace Go.Proofs.YthmbdboljjdcaaaDoor
open Go.RowKit

/-- What comes out of the draw: a room, and at most six holds, in memory of the draw's own. -/
def StkGot (w w' : World) (e : Ending) (b p : Nat) : Prop :=
  ∃ (room : Int) (u : Value) (hs : List Pl.H) (q : Nat), e = .returned (.agg #[.int .i64 room, u]) ∧ -1 ≤ room ∧ room ≤ 10 ∧ hs.length ≤ 6 ∧ Holds w' u hs ∧ (∀ g, u.ownBlock = some g → w.heap.size ≤ g ∧ g < w'.heap.size) ∧ q ≤ p + 80 ∧ Rd w' b q ∧ Mid b (b + 1) w w'

/-- While a stock is drawn: the result's block, the stock's block, its holds, the reader. -/
structure StK (w W : World) (b q S : Nat) (room : Int) (u : Value) (hs : List Pl.H) : Prop where
  res : ∃ ra rc, W.heap[w.heap.size]? = some (.cells #[ra, rc] 25 (0, 0))
  stk : W.heap[S]? = some (.cells #[.int .i64 room, u] 25 (0, 0))
  lt : w.heap.size < S
  hol : Holds W u hs
  own : ∀ g, u.ownBlock = some g → w.heap.size < g ∧ ∃ cs, W.heap[g]? = some (.cells cs 35 (0, 0))
  rd : Rd W b q
  mid : Mid b (b + 1) w W
  low : b < w.heap.size

theorem Holds.keep {w w' : World} {v : Value} {hs : List Pl.H} (h : Holds w v hs) (hb : ∀ g, v.ownBlock = some g → w'.heap[g]? = w.heap[g]?) : Holds w' v hs := by
  rcases h with h | ⟨b, off, cap, hv, hz, hc⟩
  · exact Or.inl h
  · have e := hb b (by rw [hv]; rfl)
    refine Or.inr ⟨b, off, cap, hv, hz, fun k hk => ?_⟩
    obtain ⟨h1, h2⟩ := hc k hk
    exact ⟨by rw [← h1]; exact World.cell?_of_block (a := ⟨b, off + k * 2, none⟩) e, by rw [← h2]; exact World.cell?_of_block (a := ⟨b, off + k * 2 + 1, none⟩) e⟩

theorem StK.step {w W W' : World} {b q q' S : Nat} {room : Int} {u : Value} {hs : List Pl.H} (h : StK w W b q S room u hs) (hb : Mid b (b + 1) W W') (hr : Rd W' b q') : StK w W' b q' S room u hs := by
  have hl := h.low
  have hk : ∀ g, u.ownBlock = some g → W'.heap[g]? = W.heap[g]? := fun g hg => by
    obtain ⟨h1, cs, h2⟩ := h.own g hg
    exact hb.block g (heap_lt h2) (Or.inr (by omega))
  refine ⟨?_, rowS_mid h.stk hb (by have := h.lt; omega), h.lt, h.hol.keep hk, fun g hg => ?_, hr, h.mid.trans hb, hl⟩
  · obtain ⟨ra, rc, e⟩ := h.res; exact ⟨ra, rc, rowS_mid e hb hl⟩
  · obtain ⟨h1, cs, h2⟩ := h.own g hg; exact ⟨h1, cs, by rw [hk g hg]; exact h2⟩
theorem StK.later {w W W' : World} {b q S : Nat} {room : Int} {u : Value} {hs : List Pl.H} (h : StK w W b q S room u hs) (hb : Below W.heap.size W W') : StK w W' b q S room u hs :=
  h.step (Mid.of_below hb (Nat.le_refl _)) (h.rd.later hb (Nat.le_refl _))
theorem StK.cells {w W : World} {b q S : Nat} {room : Int} {u : Value} {hs : List Pl.H} (h : StK w W b q S room u hs) :
    (W.cell? ⟨S, 0, none⟩ = some (.int .i64 room) ∧ W.cell? ⟨S, 1, none⟩ = some u ∧ W.frozen? ⟨S, 0, none⟩ = false ∧ W.frozen? ⟨S, 1, none⟩ = false ∧ S < W.heap.size) ∧
    (∃ ra rc, W.cell? ⟨w.heap.size, 0, none⟩ = some ra ∧ W.cell? ⟨w.heap.size, 1, none⟩ = some rc ∧ W.frozen? ⟨w.heap.size, 0, none⟩ = false ∧ W.frozen? ⟨w.heap.size, 1, none⟩ = false) := by
  obtain ⟨ra, rc, e⟩ := h.res
  refine ⟨⟨?_, ?_, frozen_of_row W _ _ _ _ h.stk, frozen_of_row W _ _ _ _ h.stk, heap_lt h.stk⟩, ra, rc, ?_, ?_, frozen_of_row W _ _ _ _ e, frozen_of_row W _ _ _ _ e⟩
  · rw [cell_of_row W _ _ _ _ _ h.stk]; rfl
  · rw [cell_of_row W _ _ _ _ _ h.stk]; rfl
  · rw [cell_of_row W _ _ _ _ _ e]; rfl
  · rw [cell_of_row W _ _ _ _ _ e]; rfl
/-- A store into a block of stocks leaves the holds. -/
theorem keepS {w W : World} {X i : Nat} {cs : Array Value} (hX : W.heap[X]? = some (.cells cs 25 (0, 0))) (x : Value) :
    (∀ {v : Value} {ks : List Pl.H}, (∀ g, v.ownBlock = some g → w.heap.size < g ∧ ∃ cs, W.heap[g]? = some (.cells cs 35 (0, 0))) → Holds W v ks → Holds (W.setCell ⟨X, i, none⟩ x) v ks ∧ ∀ g, v.ownBlock = some g → w.heap.size < g ∧ ∃ cs, (W.setCell ⟨X, i, none⟩ x).heap[g]? = some (.cells cs 35 (0, 0))) := by
  intro v ks hv hh
  have e : ∀ g, v.ownBlock = some g → (W.setCell ⟨X, i, none⟩ x).heap[g]? = W.heap[g]? := fun g hg => by
    obtain ⟨_, cs', h2⟩ := hv g hg
    exact Below.heap_setCell _ _ _ _ (ne_of_type h2 hX (by decide))
  exact ⟨hh.keep e, fun g hg => by obtain ⟨h1, cs', h2⟩ := hv g hg; exact ⟨h1, cs', by rw [e g hg]; exact h2⟩⟩
theorem StK.setRoom {w W : World} {b q S : Nat} {room : Int} {u : Value} {hs : List Pl.H} (h : StK w W b q S room u hs) (x : Int) : StK w (W.setCell ⟨S, 0, none⟩ (.int .i64 x)) b q S x u hs := by
  have hl := h.lt
  have hw := h.low
  obtain ⟨a1, a2⟩ := keepS h.stk (.int .i64 x) (i := 0) h.own h.hol
  exact ⟨(by obtain ⟨ra, rc, e⟩ := h.res; exact ⟨ra, rc, by rw [Below.heap_setCell _ _ _ _ (by simp; omega)]; exact e⟩), by rw [heap_setCell_same W S 0 _ _ _ h.stk]; simp, hl, a1, a2, h.rd.setApart (by omega) _, h.mid.setNew (by omega) _, hw⟩
theorem StK.setHolds {w W : World} {b q S : Nat} {room : Int} {u v : Value} {hs ks : List Pl.H} (h : StK w W b q S room u hs) (hv : Holds W v ks) (ho : ∀ g, v.ownBlock = some g → w.heap.size < g ∧ ∃ cs, W.heap[g]? = some (.cells cs 35 (0, 0))) : StK w (W.setCell ⟨S, 1, none⟩ v) b q S room v ks := by
  have hl := h.lt
  have hw := h.low
  obtain ⟨a1, a2⟩ := keepS h.stk v (i := 1) ho hv
  exact ⟨(by obtain ⟨ra, rc, e⟩ := h.res; exact ⟨ra, rc, by rw [Below.heap_setCell _ _ _ _ (by simp; omega)]; exact e⟩), by rw [heap_setCell_same W S 1 _ _ _ h.stk]; simp, hl, a1, a2, h.rd.setApart (by omega) _, h.mid.setNew (by omega) _, hw⟩
theorem StK.done {w W : World} {b q S p : Nat} {room : Int} {u : Value} {hs : List Pl.H} (h : StK w W b q S room u hs) (h1 : -1 ≤ room) (h2 : room ≤ 10) (h3 : hs.length ≤ 6) (hq : q ≤ p + 80) (x y : Value) :
    StkGot w ((W.setCell ⟨w.heap.size, 0, none⟩ x).setCell ⟨w.heap.size, 1, none⟩ y) (.returned (.agg #[.int .i64 room, u])) b p := by
  have hw := h.low
  obtain ⟨ra, rc, e⟩ := h.res
  obtain ⟨a1, a2⟩ := keepS e x (i := 0) h.own h.hol
  have e2 : ∀ g, u.ownBlock = some g → ((W.setCell ⟨w.heap.size, 0, none⟩ x).setCell ⟨w.heap.size, 1, none⟩ y).heap[g]? = (W.setCell ⟨w.heap.size, 0, none⟩ x).heap[g]? := fun g hg => Below.heap_setCell _ _ _ _ (by have := (h.own g hg).1; simp; omega)
  exact ⟨room, u, hs, q, rfl, h1, h2, h3, a1.keep e2, fun g hg => ⟨Nat.le_of_lt (h.own g hg).1, by obtain ⟨_, cs, hh⟩ := h.own g hg; have := heap_lt hh; simp; omega⟩, hq, (h.rd.setApart hw _).setApart hw _, (h.mid.setNew (Nat.le_refl _) _).setNew (Nat.le_refl _) _⟩

/-- All holds but the first. -/
theorem holds_tail {w : World} {base g cap : Nat} {hs : List Pl.H} (hl : hs.length = 6) (h : w.ownsRow base 35 2 (.slice (some ⟨g, 0, none⟩) 6 cap) 6 (hflat hs)) : Holds w (.slice (some ⟨g, 2, none⟩) 5 (cap - 1)) hs.tail := by
  have ht : hs.tail.length = 5 := by simp [hl]
  have hh : Holds w (.slice (some ⟨g, 0, none⟩) 6 cap) hs := holds_of_row (base := base) (by rw [hl]; exact h)
  refine Or.inr ⟨g, 2, cap - 1, by rw [ht], by intro e; rw [e] at ht; simp at ht, fun k hk => ?_⟩
  rcases hh with ⟨h0, _⟩ | ⟨b', off, cap', hv, _, hc⟩
  · rw [h0] at hl; simp at hl
  · simp only [Value.slice.injEq, Option.some.injEq, Addr.mk.injEq] at hv
    obtain ⟨⟨rfl, rfl, _⟩, _, _⟩ := hv
    obtain ⟨h1, h2⟩ := hc (k + 1) (by omega)
    have e : hs.tail.getD k (0, 0) = hs.getD (k + 1) (0, 0) := by cases hs with | nil => simp at hl | cons x t => rfl
    rw [e]
    refine ⟨?_, ?_⟩
    · rw [← h1]; congr 2; omega
    · rw [← h2]; congr 2; omega

/-- One hold is given other numbers. -/
theorem StK.setHold {w W : World} {b q S g cap base x : Nat} {room : Int} {hs : List Pl.H} (h : StK w W b q S room (.slice (some ⟨g, 0, none⟩) 6 cap) hs) (hl : hs.length = 6) (ho : W.ownsRow base 35 2 (.slice (some ⟨g, 0, none⟩) 6 cap) 6 (hflat hs)) (hx : x < 6) (a c : Int) :
    StK w ((W.setCell ⟨g, x * 2, none⟩ (.int .i64 a)).setCell ⟨g, x * 2 + 1, none⟩ (.int .i64 c)) b q S room (.slice (some ⟨g, 0, none⟩) 6 cap) (hs.set x (a, c)) := by
  have hlt := h.lt
  have hw := h.low
  obtain ⟨hg, cs, hgc⟩ := h.own g rfl
  have o1 := (ho.stored (x * 2) (.int .i64 a)).1
  have o2 := (o1.stored (x * 2 + 1) (.int .i64 c)).1
  have hS : g ≠ S := ne_of_type hgc h.stk (by decide)
  have g1 := heap_setCell_same W g (x * 2) _ _ (.int .i64 a) hgc
  have g2 := heap_setCell_same _ g (x * 2 + 1) _ _ (.int .i64 c) g1
  refine ⟨?_, ?_, hlt, ?_, fun k hk => ?_, (h.rd.setApart (by omega) _).setApart (by omega) _, (h.mid.setNew (by omega) _).setNew (by omega) _, hw⟩
  · obtain ⟨ra, rc, e⟩ := h.res
    exact ⟨ra, rc, by rw [Below.heap_setCell _ _ _ _ (by simp; omega), Below.heap_setCell _ _ _ _ (by simp; omega)]; exact e⟩
  · rw [Below.heap_setCell _ _ _ _ (by simp; omega), Below.heap_setCell _ _ _ _ (by simp; omega)]; exact h.stk
  · refine holds_of_row (base := base) ?_
    rw [List.length_set, hl, ← hflat_set hs x (a, c) (by omega)]; exact o2
  · simp [Value.ownBlock] at hk
    subst hk
    exact ⟨hg, _, g2⟩

set_option maxRecDepth 100000 in
set_option maxHeartbeats 8000000 in
theorem stock_draw (b p : Nat) (w : World) (h : Rd w b p) (hp : p ≤ 600000) :
    Calls Tryd.prog 16 #[.pointer (some ⟨b, 0, none⟩)] w fun e w' => StkGot w w' e b p := by
  have hblt := h.lt
  obtain ⟨w0, hw0⟩ : ∃ W, Hid (W = w.alloc (.cells #[.int .i64 0, .slice none 0 0] 25)) := ⟨_, rfl⟩
  have R0 : Hid (Rd w0 b p) := by show Rd _ _ _; rw [hw0.out]; exact h.alloc _
  have M0 : Hid (Mid b (b + 1) w w0) := by show Mid _ _ _ _; rw [hw0.out]; exact (Mid.refl _ _ _).alloc _
  have Z0 : Hid (w0.heap.size = w.heap.size + 1) := by show _ = _; rw [hw0.out]; simp
  have E0 : Hid (w0.heap[w.heap.size]? = some (.cells #[.int .i64 0, .slice none 0 0] 25 (0, 0))) := by show _ = _; rw [hw0.out]; exact heap_alloc_new _ _
  clear h
  go_enter Tryd.func16, Tryd.ntmps16
  go_wp2_with fail
  rw [← hw0.out]
  refine (recs_draw b p _ R0.out (by omega)).mono ?_
  rintro e w1 ⟨room, o, ps, hs, q, rfl, lr, ur, hps, hrow, hall, hrun, hq, r1, m1⟩
  have OF : Hid (∀ W, Below w1.heap.size w1 W → Calls Tryd.prog 12 #[.int .i64 room, o] W fun e w' => StOut W w' e room hs true) := fun W hb => by
    have hr := recs_rows hrow hall
    have := specOf_any room o (ps.map (·.1)) W (hr.later hb (Nat.le_refl _)) (Nat.le_trans (tot_small ps (by omega) (fun x hx => (hall x hx).1)) (by omega))
    have e1 : Pl.sOf room (ps.map (·.1)) = some hs := by rw [← hrun]; simp [Pl.sOf, Pl.inB_mk lr (show room ≤ 9 by omega)]
    rw [e1] at this
    exact this
  have hlen : Hid (hs.length = 6) := by show _ = _; rw [Pl.sRun_len _ hrun]; rfl
  have R1 := hide_it r1
  have M1 := hide_it (M0.out.trans m1)
  have E1 := hide_it (show w1.heap[w.heap.size]? = some (.cells #[.int .i64 0, .slice none 0 0] 25 (0, 0)) from rowS_mid E0.out m1 hblt)
  have hz01 : w.heap.size < w1.heap.size := heap_lt E1.out
  obtain ⟨ao, co, hos⟩ := row_shape hrow
  subst hos
  clear hrow hall hrun r1 m1
  go_wp2_with fail
  refine (OF.out _ (Below.refl _ _)).mono ?_
  rintro e w2 ⟨a2, c2, rfl, ho2, hb2⟩
  obtain ⟨S, hS⟩ : ∃ S, Hid (S = w2.heap.size) := ⟨_, rfl⟩
  rw [hlen.out] at ho2 ⊢
  obtain ⟨w3, hw3⟩ : ∃ W, Hid (W = w2.alloc (.cells #[.int .i64 room, .slice a2 6 c2] 25)) := ⟨_, rfl⟩
  have K3 : Hid (StK w w3 b q S room (.slice a2 6 c2) hs) := by
    show StK _ _ _ _ _ _ _ _
    rw [hw3.out, hS.out]
    have al := alloc_below w2 (.cells #[.int .i64 room, .slice a2 6 c2] 25)
    have hs2 := hb2.size
    have hol := ownsRow_below ho2 al (fun k hk => (ho2.lt k hk).2)
    refine ⟨⟨_, _, rowS_later (rowS_later E1.out hb2 (Nat.le_refl _)) al (Nat.le_refl _)⟩, heap_alloc_new _ _, by omega, ?_, fun g hg => ?_, (R1.out.later hb2 (Nat.le_refl _)).later al (Nat.le_refl _), (M1.out.trans (Mid.of_below hb2 (Nat.le_refl _))).alloc _, hblt⟩
    · refine holds_of_row (base := w1.heap.size) ?_; rw [hlen.out]; exact hol
    · obtain ⟨h1, h2⟩ := rowB_at hol g hg; exact ⟨by omega, h2⟩
  have OW : Hid (w3.ownsRow w1.heap.size 35 2 (.slice a2 6 c2) 6 (hflat hs)) := by
    show World.ownsRow _ _ _ _ _ _ _
    rw [hw3.out]; exact ownsRow_below ho2 (alloc_below _ _) (fun k hk => (ho2.lt k hk).2)
  clear ho2 hb2 OF R1 M1 E1 R0 M0 E0
  go_wp2_with fail
  rw [← hS.out, ← hw3.out]
  refine (pick_any b q 20 _ K3.out.rd (by omega) (by omega) (by omega)).mono ?_
  rintro e w4 ⟨y, rfl, ly, uy, r4, m4⟩
  have K4 := hide_it (K3.out.step m4 r4)
  have O4 := hide_it (ownsRow_mid OW.out m4 (fun k hk => Or.inr (by have := (rowB_at OW.out k hk).1; omega)))
  clear r4 m4 K3 OW hw3 hS
  obtain ⟨g, hga, hc6⟩ : ∃ g, a2 = some ⟨g, 0, none⟩ ∧ 6 ≤ c2 := by
    rcases O4.out.2 with ⟨hv, hn⟩ | ⟨g, cap, cur, hv, _, _, hc, _⟩
    · cases hn
    · simp only [Value.slice.injEq, true_and] at hv; exact ⟨g, hv.1, by omega⟩
  subst hga
  by_cases hy0 : y = 0
  · subst hy0
    obtain ⟨⟨s0, s1, sf0, sf1, sl⟩, ra, rc, t0, t1, tf0, tf1⟩ := K4.out.cells
    have hb4 : b < w4.heap.size := K4.out.rd.lt
    have K5 := hide_it (K4.out.later (alloc_below _ (.cells #[.int .i64 (-1), .int .i64 0, .int .i64 10] 3)))
    have N5 := hide_it (heap_alloc_new w4 (.cells #[.int .i64 (-1), .int .i64 0, .int .i64 10] 3))
    go_wp2_with fail
    refine (pick_any b (q + 1) 3 _ K5.out.rd (by omega) (by omega) (by omega)).mono ?_
    rintro e w6 ⟨x, rfl, lx, ux, r6, m6⟩
    have K6 := hide_it (K5.out.step m6 r6)
    have N6 := hide_it (rowS_mid N5.out m6 hb4)
    clear r6 m6 s0 s1 sf0 sf1 sl t0 t1 tf0 tf1
    obtain ⟨⟨s0, s1, sf0, sf1, sl⟩, ra, rc, t0, t1, tf0, tf1⟩ := K6.out.cells
    have hne : w.heap.size ≠ S := by have := K6.out.lt; omega
    have n0 : w6.cell? ⟨w4.heap.size, 0, none⟩ = some (.int .i64 (-1)) := by rw [cell_of_row w6 _ _ _ _ _ N6.out]; rfl
    have n1 : w6.cell? ⟨w4.heap.size, 1, none⟩ = some (.int .i64 0) := by rw [cell_of_row w6 _ _ _ _ _ N6.out]; rfl
    have n2 : w6.cell? ⟨w4.heap.size, 2, none⟩ = some (.int .i64 10) := by rw [cell_of_row w6 _ _ _ _ _ N6.out]; rfl
    rcases three lx ux with rfl | rfl | rfl
    · have K7 := hide_it (K6.out.setRoom (-1))
      go_wp2
      exact bodyPost_ret (v := .agg #[.int .i64 (-1), .slice (some ⟨g, 0, none⟩) 6 c2]) (by simp [results, Tryd.results16, go_sem, *]) rfl (K7.out.done (by omega) (by omega) (by rw [hlen.out]; omega) (by omega) _ _)
    · have K7 := hide_it (K6.out.setRoom (0))
      go_wp2
      exact bodyPost_ret (v := .agg #[.int .i64 (0), .slice (some ⟨g, 0, none⟩) 6 c2]) (by simp [results, Tryd.results16, go_sem, *]) rfl (K7.out.done (by omega) (by omega) (by rw [hlen.out]; omega) (by omega) _ _)
    · have K7 := hide_it (K6.out.setRoom (10))
      go_wp2
      exact bodyPost_ret (v := .agg #[.int .i64 (10), .slice (some ⟨g, 0, none⟩) 6 c2]) (by simp [results, Tryd.results16, go_sem, *]) rfl (K7.out.done (by omega) (by omega) (by rw [hlen.out]; omega) (by omega) _ _)
  by_cases hy1 : y = 1
  · subst hy1
    obtain ⟨⟨s0, s1, sf0, sf1, sl⟩, -⟩ := K4.out.cells
    go_wp2_with fail
    refine wp_region_held_drew (S := fun w' => w'.cell? ⟨S, 1, none⟩ = some (.slice (some ⟨g, 0, none⟩) 6 c2)) (by kernel_rfl) s1 (fun hHeld => ?_)
    clear s0 s1 sf0 sf1 sl
    refine wpAnyH_take (i := 0) (v := ?_) rfl (by kernel_rfl) (by kernel_rfl) (by kernel_rfl) (fun _ _ _ h => h) (Or.inl ⟨by rfl, ?_⟩) hHeld ?_
    rotate_left
    · intro W hSw
      try dsimp only at hSw
      go_simp
      try with_reducible rfl
    try simp only [Act.put]
    try simp only [List.setIfInBounds_toArray]
    try simp only [List.set_cons_succ]
    try simp only [List.set_cons_zero]
    refine wpAnyH_take (i := 1) (v := ?_) rfl (by kernel_rfl) (by kernel_rfl) (by kernel_rfl) (fun _ _ _ h => h) (Or.inl ⟨by rfl, ?_⟩) hHeld ?_
    rotate_left
    · intro W hSw
      try dsimp only at hSw
      go_simp
      try with_reducible rfl
    try simp only [Act.put]
    try simp only [List.setIfInBounds_toArray]
    try simp only [List.set_cons_succ]
    try simp only [List.set_cons_zero]
    refine wpAnyH_take (i := 2) (v := ?_) rfl (by kernel_rfl) (by kernel_rfl) (by kernel_rfl) (fun _ _ _ h => h) (Or.inl ⟨by rfl, ?_⟩) hHeld ?_
    rotate_left
    · intro W hSw
      try dsimp only at hSw
      go_simp
      try with_reducible rfl
    try simp only [Act.put]
    try simp only [List.setIfInBounds_toArray]
    try simp only [List.set_cons_succ]
    try simp only [List.set_cons_zero]
    refine wpAnyH_take (i := 3) (v := ?_) rfl (by kernel_rfl) (by kernel_rfl) (by kernel_rfl) (fun _ _ _ h => h) (Or.inl ⟨by rfl, ?_⟩) hHeld ?_
    rotate_left
    · intro W hSw
      try dsimp only at hSw
      go_simp
      try with_reducible rfl
    try simp only [Act.put]
    try simp only [List.setIfInBounds_toArray]
    try simp only [List.set_cons_succ]
    try simp only [List.set_cons_zero]
    refine wpAnyH_take (i := 4) (v := ?_) rfl (by kernel_rfl) (by kernel_rfl) (by kernel_rfl) (fun _ _ _ h => h) (Or.inl ⟨by rfl, ?_⟩) hHeld ?_
    rotate_left
    · intro W hSw
      try dsimp only at hSw
      go_simp
      try with_reducible rfl
    try simp only [Act.put]
    try simp only [List.setIfInBounds_toArray]
    try simp only [List.set_cons_succ]
    try simp only [List.set_cons_zero]
    refine wpAnyH_take (i := 5) (v := ?_) rfl (by kernel_rfl) (by kernel_rfl) (by kernel_rfl) (fun _ _ _ h => h) (Or.inl ⟨by rfl, ?_⟩) hHeld ?_
    rotate_left
    · intro W hSw
      try dsimp only at hSw
      go_simp
      try with_reducible rfl
    try simp only [Act.put]
    try simp only [List.setIfInBounds_toArray]
    try simp only [List.set_cons_succ]
    try simp only [List.set_cons_zero]
    refine wpAnyH_take (i := 7) (v := ?_) rfl (by kernel_rfl) (by kernel_rfl) (by kernel_rfl) (fun _ _ _ h => h) (Or.inl ⟨by rfl, ?_⟩) hHeld ?_
    rotate_left
    · intro W hSw
      try dsimp only at hSw
      go_simp
      try with_reducible rfl
    try simp only [Act.put]
    try simp only [List.setIfInBounds_toArray]
    try simp only [List.set_cons_succ]
    try simp only [List.set_cons_zero]
    refine wpAnyH_take (i := 9) (v := ?_) rfl (by kernel_rfl) (by kernel_rfl) (by kernel_rfl) (fun _ _ _ h => h) (Or.inl ⟨by rfl, ?_⟩) hHeld ?_
    rotate_left
    · intro W hSw
      try dsimp only at hSw
      go_simp
      try with_reducible rfl
    try simp only [Act.put]
    try simp only [List.setIfInBounds_toArray]
    try simp only [List.set_cons_succ]
    try simp only [List.set_cons_zero]
    have K4' := hide_it (K4.out.later ((Below.refl w4.heap.size w4).drew))
    have O4' : Hid (w4.drew.ownsRow w1.heap.size 35 2 (.slice (some ⟨g, 0, none⟩) 6 c2) 6 (hflat hs)) := O4.out
    refine wpAnyH_ready (rs := [6]) (by kernel_rfl) (by simp) ?_
    refine AllReadyH.cons rfl (fun K hK => ?_) AllReadyH.nil
    go_simp
    refine (pick_any b (q + 1) 6 _ K4'.out.rd (by omega) (by omega) (by omega)).mono ?_
    rintro e w5 ⟨x5, rfl, l5, u5, r5, m5⟩
    have K5 := hide_it (K4'.out.step m5 r5)
    have O5 := hide_it (ownsRow_mid O4'.out m5 (fun k hk => Or.inr (by have := (rowB_at O4.out k hk).1; omega)))
    clear r5 m5
    try dsimp only
    refine hK.out _ _ K5.out.cells.1.2.1 (fun hHeld => ?_)
    clear hK K
    refine wpAnyH_ready (rs := [8]) (by kernel_rfl) (by simp) ?_
    refine AllReadyH.cons rfl (fun K hK => ?_) AllReadyH.nil
    go_simp
    refine (pick_any b (q + 1 + 1) 5 _ K5.out.rd (by omega) (by omega) (by omega)).mono ?_
    rintro e w6 ⟨x6, rfl, l6, u6, r6, m6⟩
    have K6 := hide_it (K5.out.step m6 r6)
    have O6 := hide_it (ownsRow_mid O5.out m6 (fun k hk => Or.inr (by have := (rowB_at O4.out k hk).1; omega)))
    clear r6 m6
    try dsimp only
    refine hK.out _ _ K6.out.cells.1.2.1 (fun hHeld => ?_)
    clear hK K
    refine wpAnyH_ready (rs := [10]) (by kernel_rfl) (by simp) ?_
    refine AllReadyH.cons rfl (fun K hK => ?_) AllReadyH.nil
    go_simp
    refine (pick_any b (q + 1 + 1 + 1) 5 _ K6.out.rd (by omega) (by omega) (by omega)).mono ?_
    rintro e w7 ⟨x7, rfl, l7, u7, r7, m7⟩
    have K7 := hide_it (K6.out.step m7 r7)
    have O7 := hide_it (ownsRow_mid O6.out m7 (fun k hk => Or.inr (by have := (rowB_at O4.out k hk).1; omega)))
    clear r7 m7
    try dsimp only
    refine hK.out _ _ K7.out.cells.1.2.1 (fun hHeld => ?_)
    clear hK K
    obtain ⟨xn, rfl⟩ := Int.eq_ofNat_of_zero_le l5
    have hxn : xn < 6 := by omega
    have hxi : (xn : Int) < 6 := by omega
    refine wpAnyH_take (i := 11) (v := ?_) rfl (by kernel_rfl) (by kernel_rfl) (by kernel_rfl) (fun _ _ _ h => h) (Or.inl ⟨by rfl, ?_⟩) hHeld ?_
    rotate_left
    · intro W hSw
      try dsimp only at hSw
      go_simp
      try with_reducible rfl
    try simp only [Act.put]
    try simp only [List.setIfInBounds_toArray]
    try simp only [List.set_cons_succ]
    try simp only [List.set_cons_zero]
    refine wpAnyH_take (i := 12) (v := ?_) rfl (by kernel_rfl) (by kernel_rfl) (by kernel_rfl) (fun _ _ _ h => h) (Or.inl ⟨by rfl, ?_⟩) hHeld ?_
    rotate_left
    · intro W hSw
      try dsimp only at hSw
      go_simp
      try with_reducible rfl
    try simp only [Act.put]
    try simp only [List.setIfInBounds_toArray]
    try simp only [List.set_cons_succ]
    try simp only [List.set_cons_zero]
    have K8 := hide_it (K7.out.setHold hlen.out O7.out hxn x6 x7)
    obtain ⟨f0, f1⟩ := hflat_get hs xn (by rw [hlen.out]; exact hxn)
    have v0 : w7.cell? ⟨g, xn * 2, none⟩ = some (.int .i64 (hs.getD xn (0, 0)).1) := by rw [O7.out.cellAt _ (by omega)]; exact f0
    have v1 : w7.cell? ⟨g, xn * 2 + 1, none⟩ = some (.int .i64 (hs.getD xn (0, 0)).2) := by rw [O7.out.cellAt _ (by omega)]; exact f1
    obtain ⟨hg7, cs7, hgc7⟩ := K7.out.own g rfl
    have vf0 := frozen_of_row w7 g (xn * 2) _ _ hgc7
    have vf1 := frozen_of_row w7 g (xn * 2 + 1) _ _ hgc7
    refine wpAnyH_ready (rs := [13]) (by kernel_rfl) (by simp) ?_
    refine AllReadyH.cons rfl (fun K hK => ?_) AllReadyH.nil
    go_simp
    refine hK.out _ _ K8.out.cells.1.2.1 (fun hHeld => ?_)
    clear hK K
    refine wpAnyH_done (by kernel_rfl) ?_ _
    obtain ⟨⟨s0, s1, sf0, sf1, sl⟩, ra, rc, t0, t1, tf0, tf1⟩ := K8.out.cells
    have hne : w.heap.size ≠ S := by have := K8.out.lt; omega
    obtain ⟨w8, hw8⟩ : ∃ W, Hid (W = (w7.setCell ⟨g, xn * 2, none⟩ (.int .i64 x6)).setCell ⟨g, xn * 2 + 1, none⟩ (.int .i64 x7)) := ⟨_, rfl⟩
    rw [← hw8.out] at K8 s0 s1 sf0 sf1 sl t0 t1 tf0 tf1 ⊢
    clear v0 v1 vf0 vf1 hgc7 hHeld
    go_wp2
    exact bodyPost_ret (v := .agg #[.int .i64 room, .slice (some ⟨g, 0, none⟩) 6 c2]) (by simp [results, Tryd.results16, go_sem, *]) rfl (K8.out.done (by omega) (by omega) (by rw [List.length_set, hlen.out]; omega) (by omega) _ _)
  by_cases hy2 : y = 2
  · subst hy2
    obtain ⟨⟨s0, s1, sf0, sf1, sl⟩, ra, rc, t0, t1, tf0, tf1⟩ := K4.out.cells
    have hne : w.heap.size ≠ S := by have := K4.out.lt; omega
    have hcI : (6 : Int) ≤ (c2 : Int) := by omega
    have K7 := hide_it (K4.out.setHolds (holds_tail hlen.out O4.out) (fun k hk => K4.out.own k hk))
    go_wp2
    exact bodyPost_ret (v := .agg #[.int .i64 (room), .slice (some ⟨g, 2, none⟩) 5 (c2 - 1)]) (by simp [results, Tryd.results16, go_sem, *]) rfl (K7.out.done (by omega) (by omega) (by rw [List.length_tail, hlen.out]; omega) (by omega) _ _)
  · obtain ⟨⟨s0, s1, sf0, sf1, sl⟩, ra, rc, t0, t1, tf0, tf1⟩ := K4.out.cells
    have hne : w.heap.size ≠ S := by have := K4.out.lt; omega
    go_wp2
    exact bodyPost_ret (v := .agg #[.int .i64 room, .slice (some ⟨g, 0, none⟩) 6 c2]) (by simp [results, Tryd.results16, go_sem, *]) rfl (K4.out.done (by omega) (by omega) (by rw [hlen.out]; omega) (by omega) _ _)

end Go.Proofs.YthmbdboljjdcaaaDoor
