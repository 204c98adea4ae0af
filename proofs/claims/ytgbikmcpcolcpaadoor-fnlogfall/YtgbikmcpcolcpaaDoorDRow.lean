/- What lies in memory while a log is drawn. Plain facts of worlds; nothing is walked here. -/
import Derived.Test.YtgbikmcpcolcpaaDoorDRec
import Derived.Test.YtgbikmcpcolcpaaDoorSLog
namespace Go.Proofs.YtgbikmcpcolcpaaDoor
open Go.RowKit

/-- The numbers of a drawn record: a list of at most four, or none at all. -/
def Good (W : World) (lo : Nat) (p : R × Value) : Prop := p.1.2.2.length ≤ 4 ∧ ((∃ cap, Fresh W lo p.2 p.1.2.2 cap) ∨ (p.2 = .slice none 0 0 ∧ p.1.2.2 = []))

theorem Good.keep {W W' : World} {lo : Nat} {p : R × Value} (h : Good W lo p) (hk : ∀ (g : Nat) (cs : Array Value), W.heap[g]? = some (.cells cs 3 (0, 0)) → W'.heap[g]? = W.heap[g]?) : Good W' lo p := by
  obtain ⟨h1, h2⟩ := h
  refine ⟨h1, ?_⟩
  rcases h2 with ⟨cap, h2⟩ | h2
  · exact Or.inl ⟨cap, h2.keep hk⟩
  · exact Or.inr h2
theorem Good.ints {W : World} {lo : Nat} {p : R × Value} (h : Good W lo p) : Ints W p.2 p.1.2.2 := by
  obtain ⟨_, h2⟩ := h
  rcases h2 with ⟨cap, h2⟩ | ⟨h2, h3⟩
  · exact h2.ints
  · exact Or.inl ⟨h3, none, 0, h2, fun _ => rfl⟩

structure StL (w W : World) (b q L : Nat) (f : Int) (v : Value) (ps : List (R × Value)) : Prop where
  own : W.heap[L]? = some (.cells #[v, .int .i64 f] 25 (0, 0))
  res : ∃ ra rc, W.heap[w.heap.size]? = some (.cells #[ra, rc] 25 (0, 0))
  lt : w.heap.size < L
  row : W.ownsRow w.heap.size 28 3 v ps.length (flat ps)
  all : ∀ p ∈ ps, Good W w.heap.size p
  rd : Rd W b q
  mid : Mid b (b + 1) w W
  low : b < w.heap.size

theorem recrow_block {W : World} {base n : Nat} {v : Value} {xs : List Value} (h : W.ownsRow base 28 3 v n xs) (g : Nat) (hg : v.ownBlock = some g) : base ≤ g ∧ ∃ cs, W.heap[g]? = some (.cells cs 28 (0, 0)) := by
  rcases h.2 with ⟨hv, _⟩ | ⟨g', cap, cur, hv, hb, hh, _⟩
  · rw [hv] at hg; simp [Value.ownBlock] at hg
  · rw [hv] at hg; simp [Value.ownBlock] at hg; subst hg; exact ⟨hb, cur, hh⟩

theorem StL.step {w W W' : World} {b q q' L : Nat} {f : Int} {v : Value} {ps : List (R × Value)} (h : StL w W b q L f v ps) (hb : Mid b (b + 1) W W') (hr : Rd W' b q') : StL w W' b q' L f v ps :=
  ⟨row_mid h.own hb (by have := h.lt; have := h.low; omega), (by obtain ⟨ra, rc, hr⟩ := h.res; exact ⟨ra, rc, row_mid hr hb h.low⟩), h.lt,
    ownsRow_mid h.row hb (fun k hk => Or.inr (by have := (recrow_block h.row k hk).1; have := h.low; omega)),
    fun p hp => (h.all p hp).keep fun g cs hh => hb.block g (heap_lt hh) (by
      obtain ⟨x, n, _, h1, _⟩ := h.rd
      by_cases e : g = b
      · subst e; rw [hh] at h1; simp at h1
      · omega), hr, h.mid.trans hb, h.low⟩
theorem StL.later {w W W' : World} {b q L : Nat} {f : Int} {v : Value} {ps : List (R × Value)} (h : StL w W b q L f v ps) (hb : Below W.heap.size W W') : StL w W' b q L f v ps :=
  h.step (Mid.of_below hb (Nat.le_refl _)) (h.rd.later hb (Nat.le_refl _))
theorem StL.cells {w W : World} {b q L : Nat} {f : Int} {v : Value} {ps : List (R × Value)} (h : StL w W b q L f v ps) :
    (W.cell? ⟨L, 0, none⟩ = some v ∧ W.cell? ⟨L, 1, none⟩ = some (.int .i64 f) ∧ W.frozen? ⟨L, 0, none⟩ = false ∧ W.frozen? ⟨L, 1, none⟩ = false) ∧
    (∃ ra rc, W.cell? ⟨w.heap.size, 0, none⟩ = some ra ∧ W.cell? ⟨w.heap.size, 1, none⟩ = some rc ∧ W.frozen? ⟨w.heap.size, 0, none⟩ = false ∧ W.frozen? ⟨w.heap.size, 1, none⟩ = false) := by
  obtain ⟨ra, rc, hr⟩ := h.res
  refine ⟨⟨?_, ?_, frozen_of_row W _ _ _ _ h.own, frozen_of_row W _ _ _ _ h.own⟩, ⟨ra, rc, ?_, ?_, frozen_of_row W _ _ _ _ hr, frozen_of_row W _ _ _ _ hr⟩⟩
  · rw [cell_of_row W _ _ _ _ _ h.own]; rfl
  · rw [cell_of_row W _ _ _ _ _ h.own]; rfl
  · rw [cell_of_row W _ _ _ _ _ hr]; rfl
  · rw [cell_of_row W _ _ _ _ _ hr]; rfl

theorem ne_of_type {W : World} {g L : Nat} {cs cs' : Array Value} {t t' : TypeId} (h : W.heap[g]? = some (.cells cs t (0, 0))) (h' : W.heap[L]? = some (.cells cs' t' (0, 0))) (ht : t ≠ t') : g ≠ L := by
  intro e; subst e; rw [h] at h'; simp at h'; exact ht h'.2

theorem StL.setF {w W : World} {b q L : Nat} {f : Int} {v : Value} {ps : List (R × Value)} (h : StL w W b q L f v ps) (x : Int) : StL w (W.setCell ⟨L, 1, none⟩ (.int .i64 x)) b q L x v ps := by
  have hl := h.lt
  have hw := h.low
  refine ⟨by rw [heap_setCell_same W L 1 _ _ _ h.own]; simp, (by obtain ⟨ra, rc, hr⟩ := h.res; exact ⟨ra, rc, by rw [Below.heap_setCell _ _ _ _ (by simp; omega)]; exact hr⟩), hl, ?_, ?_, h.rd.setApart (by omega) _, h.mid.setNew (by omega) _, hw⟩
  · exact ownsRow_setCell_ne h.row (fun g hg => by obtain ⟨cs, hh⟩ := (recrow_block h.row g hg).2; exact ne_of_type hh h.own (by decide)) _
  · exact fun p hp => (h.all p hp).keep fun g cs hh => Below.heap_setCell _ _ _ _ (ne_of_type hh h.own (by decide))

/-- The result's two cells may be written. -/
theorem StL.setR0 {w W : World} {b q L : Nat} {f : Int} {v : Value} {ps : List (R × Value)} (h : StL w W b q L f v ps) (x : Value) : StL w (W.setCell ⟨w.heap.size, 0, none⟩ x) b q L f v ps := by
  have hl := h.lt
  have hw := h.low
  obtain ⟨ra, rc, hr⟩ := h.res
  refine ⟨by rw [Below.heap_setCell _ _ _ _ (by simp; omega)]; exact h.own, ⟨x, rc, by rw [heap_setCell_same W _ 0 _ _ _ hr]; simp⟩, hl, ?_, ?_, h.rd.setApart hw _, h.mid.setNew (Nat.le_refl _) _, hw⟩
  · exact ownsRow_setCell_ne h.row (fun g hg => by obtain ⟨cs, hh⟩ := (recrow_block h.row g hg).2; exact ne_of_type hh hr (by decide)) _
  · exact fun p hp => (h.all p hp).keep fun g cs hh => Below.heap_setCell _ _ _ _ (ne_of_type hh hr (by decide))
theorem StL.setR1 {w W : World} {b q L : Nat} {f : Int} {v : Value} {ps : List (R × Value)} (h : StL w W b q L f v ps) (x : Value) : StL w (W.setCell ⟨w.heap.size, 1, none⟩ x) b q L f v ps := by
  have hl := h.lt
  have hw := h.low
  obtain ⟨ra, rc, hr⟩ := h.res
  refine ⟨by rw [Below.heap_setCell _ _ _ _ (by simp; omega)]; exact h.own, ⟨ra, x, by rw [heap_setCell_same W _ 1 _ _ _ hr]; simp⟩, hl, ?_, ?_, h.rd.setApart hw _, h.mid.setNew (Nat.le_refl _) _, hw⟩
  · exact ownsRow_setCell_ne h.row (fun g hg => by obtain ⟨cs, hh⟩ := (recrow_block h.row g hg).2; exact ne_of_type hh hr (by decide)) _
  · exact fun p hp => (h.all p hp).keep fun g cs hh => Below.heap_setCell _ _ _ _ (ne_of_type hh hr (by decide))

/-- One more record appended, and the log told of it. -/
theorem StL.push {w W w4 : World} {b q L : Nat} {f : Int} {v v' : Value} {ps : List (R × Value)} {r : R} {u : Value} (h : StL w W b q L f v ps) (hg : Good W w.heap.size (r, u))
    (hown : w4.ownsRow w.heap.size 28 3 v' (ps.length + 1) (flat ps ++ [.int .i64 r.1, .int .i64 r.2.1, u])) (hgr : W.grownBy w4 v.ownBlock) :
    StL w (w4.setCell ⟨L, 0, none⟩ v') b q L f v' (ps ++ [(r, u)]) := by
  have hl := h.lt
  have hw := h.low
  have hblk : ∀ k, k < W.heap.size → (∀ cs, W.heap[k]? ≠ some (.cells cs 28 (0, 0))) → w4.heap[k]? = W.heap[k]? := fun k hk hn => hgr.block k hk (fun e => by
    obtain ⟨cs, hh⟩ := (recrow_block h.row k e.symm).2
    exact hn cs hh)
  have hlow : ∀ k, k < w.heap.size → w4.heap[k]? = W.heap[k]? := fun k hk => hgr.block k (by obtain ⟨_, _, hr⟩ := h.res; have := heap_lt hr; omega) (fun e => by have := (recrow_block h.row k e.symm).1; omega)
  have hL : w4.heap[L]? = some (.cells #[v, .int .i64 f] 25 (0, 0)) := by rw [hblk L (heap_lt h.own) (fun cs e => by rw [h.own] at e; simp at e)]; exact h.own
  have hR : ∃ ra rc, w4.heap[w.heap.size]? = some (.cells #[ra, rc] 25 (0, 0)) := by
    obtain ⟨ra, rc, hr⟩ := h.res
    exact ⟨ra, rc, by rw [hblk _ (heap_lt hr) (fun cs e => by rw [hr] at e; simp at e)]; exact hr⟩
  have hrd : Rd w4 b q := by
    obtain ⟨x, n, hn, h1, h2⟩ := h.rd
    exact ⟨x, n, hn, by rw [hlow b hw]; exact h1, h2.mid (fun k hk => hlow k (by omega))⟩
  have hmid : Mid b (b + 1) w w4 := ⟨hgr.os.trans h.mid.os, hgr.tape.trans h.mid.tape, hgr.output.trans h.mid.output, Nat.le_trans h.mid.size hgr.size, fun k hk hh => (hlow k hk).trans (h.mid.block k hk hh)⟩
  refine ⟨by rw [heap_setCell_same w4 L 0 _ _ _ hL]; simp, (by obtain ⟨ra, rc, hr⟩ := hR; exact ⟨ra, rc, by rw [Below.heap_setCell _ _ _ _ (by simp; omega)]; exact hr⟩), hl, ?_, ?_, hrd.setApart (by omega) _, hmid.setNew (by omega) _, hw⟩
  · refine ownsRow_setCell_ne ?_ (fun g hg => by obtain ⟨cs, hh⟩ := (recrow_block hown g hg).2; exact ne_of_type hh hL (by decide)) _
    rw [flat_append, List.length_append]; exact hown
  · intro p hp
    have hgood : Good W w.heap.size p := by
      rcases List.mem_append.1 hp with hp | hp
      · exact h.all p hp
      · simp at hp; subst hp; exact hg
    refine (hgood.keep (W' := w4) fun g cs hh => hblk g (heap_lt hh) (fun cs' e => by rw [hh] at e; simp at e)).keep fun g cs hh => Below.heap_setCell _ _ _ _ (ne_of_type hh hL (by decide))

/-- It is a list of records, small enough. -/
theorem StL.recs {w W : World} {b q L : Nat} {f : Int} {v : Value} {ps : List (R × Value)} (h : StL w W b q L f v ps) : Recs W v (ps.map (·.1)) := by
  rcases h.row.2 with ⟨hv, hn⟩ | ⟨g, cap, cur, hv, hg, hh, _, _, _, ht⟩
  · have : ps = [] := List.length_eq_zero_iff.1 hn
    subst this
    exact Or.inl ⟨rfl, none, 0, hv⟩
  · by_cases hp : ps = []
    · subst hp; exact Or.inl ⟨rfl, _, cap, hv⟩
    refine Or.inr ⟨g, 0, cap, by simpa using hv, by simpa using hp, fun i r hr => ?_⟩
    rw [List.getElem?_map] at hr
    cases hi : ps[i]? with
    | none => rw [hi] at hr; cases hr
    | some p =>
      rw [hi] at hr
      simp at hr
      subst hr
      have hil : i < ps.length := by
        by_cases e : i < ps.length
        · exact e
        · rw [List.getElem?_eq_none (by omega)] at hi; cases hi
      obtain ⟨f0, f1, f2⟩ := flat_get ps i p hi
      have get : ∀ j x, (flat ps)[j]? = some x → W.cell? ⟨g, j, none⟩ = some x := fun j x hj => by
        have hjl : j < ps.length * 3 := by
          by_cases e : j < ps.length * 3
          · exact e
          · rw [List.getElem?_eq_none (by rw [flat_length]; omega)] at hj; cases hj
        rw [cell_of_row W _ _ _ _ _ hh, ← hj, ← ht, List.getElem?_take, if_pos hjl, Array.getElem?_toList]
      exact ⟨p.2, by rw [Nat.zero_add]; exact get _ _ f0, by rw [Nat.zero_add]; exact get _ _ f1, by rw [Nat.zero_add]; exact get _ _ f2, (h.all p (List.mem_of_getElem? hi)).ints⟩

end Go.Proofs.YtgbikmcpcolcpaaDoor
