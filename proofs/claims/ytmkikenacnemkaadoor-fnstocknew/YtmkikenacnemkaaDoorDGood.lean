/- Records that a draw has made, as they lie in memory, and how a reader is opened. Plain facts of worlds, and one walk. -/
import Derived.Test.YtmkikenacnemkaaDoorDFresh
import Derived.Test.YtmkikenacnemkaaDoorSLog
namespace Go.Proofs.YtmkikenacnemkaaDoor
open Go.RowKit

/-- The numbers of a drawn record: a list of at most four, or none at all. -/
def Good (W : World) (lo : Nat) (p : R × Value) : Prop := p.1.2.2.length ≤ 4 ∧ ((∃ cap, Fresh W lo p.2 p.1.2.2 cap) ∨ (p.2 = .slice none 0 0 ∧ p.1.2.2 = []))

theorem Good.keep {W W' : World} {lo : Nat} {p : R × Value} (h : Good W lo p) (hk : ∀ (g : Nat) (cs : Array Value), W.heap[g]? = some (.cells cs 3 (0, 0)) → W'.heap[g]? = W.heap[g]?) : Good W' lo p := by
  obtain ⟨h1, h2⟩ := h
  refine ⟨h1, ?_⟩
  rcases h2 with ⟨cap, h2⟩ | h2
  · exact Or.inl ⟨cap, h2.keep hk⟩
  · exact Or.inr h2

theorem Good.ints {W : World} {lo : Nat} {p : R × Value} (h : Good W lo p) : Ints W p.2 p.1.2.2 := by
  obtain ⟨_, h2⟩ := h
  rcases h2 with ⟨cap, h2⟩ | ⟨h2, h3⟩
  · exact h2.ints
  · exact Or.inl ⟨h3, none, 0, h2, fun _ => rfl⟩

theorem recrow_block {W : World} {base n : Nat} {v : Value} {xs : List Value} (h : W.ownsRow base 44 3 v n xs) (g : Nat) (hg : v.ownBlock = some g) : base ≤ g ∧ ∃ cs, W.heap[g]? = some (.cells cs 44 (0, 0)) := by
  rcases h.2 with ⟨hv, _⟩ | ⟨g', cap, cur, hv, hb, hh, _⟩
  · rw [hv] at hg; simp [Value.ownBlock] at hg
  · rw [hv] at hg; simp [Value.ownBlock] at hg; subst hg; exact ⟨hb, cur, hh⟩

theorem ne_of_type {W : World} {g L : Nat} {cs cs' : Array Value} {t t' : TypeId} (h : W.heap[g]? = some (.cells cs t (0, 0))) (h' : W.heap[L]? = some (.cells cs' t' (0, 0))) (ht : t ≠ t') : g ≠ L := by
  intro e; subst e; rw [h] at h'; simp at h'; exact ht h'.2

theorem recs_rows {W : World} {lo base : Nat} {v : Value} {ps : List (R × Value)} (hrow : W.ownsRow base 44 3 v ps.length (flat ps)) (hall : ∀ p ∈ ps, Good W lo p) : Recs W v (ps.map (·.1)) := by
  rcases hrow.2 with ⟨hv, hn⟩ | ⟨g, cap, cur, hv, hg, hh, _, _, _, ht⟩
  · have : ps = [] := List.length_eq_zero_iff.1 hn
    subst this
    exact Or.inl ⟨rfl, none, 0, hv⟩
  · by_cases hp : ps = []
    · subst hp; exact Or.inl ⟨rfl, _, cap, hv⟩
    refine Or.inr ⟨g, 0, cap, by simpa using hv, by simpa using hp, fun i r hr => ?_⟩
    rw [List.getElem?_map] at hr
    cases hi : ps[i]? with
    | none => rw [hi] at hr; cases hr
    | some p =>
      rw [hi] at hr
      simp at hr
      subst hr
      have hil : i < ps.length := by
        by_cases e : i < ps.length
        · exact e
        · rw [List.getElem?_eq_none (by omega)] at hi; cases hi
      obtain ⟨f0, f1, f2⟩ := flat_get ps i p hi
      have get : ∀ j x, (flat ps)[j]? = some x → W.cell? ⟨g, j, none⟩ = some x := fun j x hj => by
        have hjl : j < ps.length * 3 := by
          by_cases e : j < ps.length * 3
          · exact e
          · rw [List.getElem?_eq_none (by rw [flat_length]; omega)] at hj; cases hj
        rw [cell_of_row W _ _ _ _ _ hh, ← hj, ← ht, List.getElem?_take, if_pos hjl, Array.getElem?_toList]
      exact ⟨p.2, by rw [Nat.zero_add]; exact get _ _ f0, by rw [Nat.zero_add]; exact get _ _ f1, by rw [Nat.zero_add]; exact get _ _ f2, (hall p (List.mem_of_getElem? hi)).ints⟩

/-- The value is a slice of n bytes, whatever they are. -/
def CodeAt (w : World) (v : Value) (n : Nat) : Prop :=
  ∃ ao cap, v = .slice ao n cap ∧ n ≤ cap ∧ (n ≠ 0 → ∃ g off, ao = some ⟨g, off, none⟩ ∧ ∀ k, k < n → ∃ z : Int, w.cell? ⟨g, off + k, none⟩ = some (.int .u8 z) ∧ 0 ≤ z ∧ z ≤ 255)

theorem CodeAt.later {B : Nat} {w w' : World} {v : Value} {n : Nat} (h : CodeAt w v n) (hb : Below B w w') (hB : w.heap.size ≤ B) : CodeAt w' v n := by
  obtain ⟨ao, cap, hv, hc, hk⟩ := h
  refine ⟨ao, cap, hv, hc, fun hn => ?_⟩
  obtain ⟨g, off, ha, hh⟩ := hk hn
  refine ⟨g, off, ha, fun k hkn => ?_⟩
  obtain ⟨z, h1, h2⟩ := hh k hkn
  have hl := World.block_lt_of_cell? _ _ h1
  simp at hl
  exact ⟨z, by rw [← h1]; exact hb.cell (p := ⟨g, off + k, none⟩) (by simp; omega), h2⟩

theorem code_bytes {w : World} {v : Value} {n : Nat} (h : CodeAt w v n) (m : Nat) (hm : m ≤ n) (ao : Option Addr) (cap : Nat) (hv : v = .slice ao n cap) (o : Obj) : Bytes (w.alloc o) w.heap.size (.slice ao m cap) m := by
  obtain ⟨ao', cap', hv', hc, hk⟩ := h
  rw [hv] at hv'
  simp only [Value.slice.injEq, true_and] at hv'
  obtain ⟨rfl, rfl⟩ := hv'
  refine ⟨ao, cap, rfl, fun hn => ?_⟩
  obtain ⟨g, off, ha, hh⟩ := hk (by omega)
  have hg : g < w.heap.size := by
    obtain ⟨z, h1, _⟩ := hh 0 (by omega)
    simpa using World.block_lt_of_cell? _ _ h1
  refine ⟨g, off, ha, hg, fun k hkm => ?_⟩
  obtain ⟨z, h1, h2⟩ := hh k (by omega)
  exact ⟨z, by rw [← h1]; exact (alloc_below w o).cell (p := ⟨g, off + k, none⟩) hg, h2⟩

set_option maxHeartbeats 1000000 in
theorem open_any (v : Value) (n : Nat) (w : World) (hv : CodeAt w v n) (hn : n ≤ 1048576) :
    Calls Tryd.prog 11 #[v] w fun e w' => e = .returned (.pointer (some ⟨w.heap.size, 0, none⟩)) ∧ Rd w' w.heap.size 0 ∧ w'.heap.size = w.heap.size + 1 ∧ Below w.heap.size w w' := by
  obtain ⟨ao, cap, rfl, hc, hk⟩ := id hv
  by_cases h2 : 2000 < (n : Int)
  · have RD : Hid (Rd (w.alloc (.cells #[.slice ao 2000 cap, .int .i64 0] 49)) w.heap.size 0) := ⟨_, 2000, by omega, heap_alloc_new w _, code_bytes hv 2000 (by omega) ao cap rfl _⟩
    obtain ⟨g, off, hao, _⟩ := hk (by omega)
    subst hao
    have hc2 : (2000 : Int) ≤ (cap : Int) := by omega
    clear hv hk
    go_enter Tryd.func11, Tryd.ntmps11
    go_wp2
    go_ret
    exact ⟨rfl, RD.out, by simp, alloc_below _ _⟩
  · have RD : Hid (Rd (w.alloc (.cells #[.slice ao n cap, .int .i64 0] 49)) w.heap.size 0) := ⟨_, n, by omega, heap_alloc_new w _, code_bytes hv n (Nat.le_refl _) ao cap rfl _⟩
    clear hv hk
    go_enter Tryd.func11, Tryd.ntmps11
    go_wp2
    go_ret
    exact ⟨rfl, RD.out, by simp, alloc_below _ _⟩

theorem tot_small (ps : List (R × Value)) (h : ps.length ≤ 60) (hg : ∀ x ∈ ps, x.1.2.2.length ≤ 4) : tot (ps.map (·.1)) ≤ 1000 := by
  have hp : ∀ (l : List (R × Value)), (∀ x ∈ l, x.1.2.2.length ≤ 4) → ((l.map (·.1)).map fun r : R => r.2.2.length).sum ≤ 4 * l.length := by
    intro l
    induction l with
    | nil => intro _; simp
    | cons x t ih =>
      intro hx
      have h1 := ih (fun y hy => hx y (by simp [hy]))
      have h2 := hx x (by simp)
      simp at h1 ⊢
      omega
  have := hp ps hg
  unfold tot pre
  rw [List.take_length, List.length_map]
  omega

theorem rowS_mid {W W' : World} {X b : Nat} {o : Obj} (h : W.heap[X]? = some o) (hb : Mid b (b + 1) W W') (hx : b < X) : W'.heap[X]? = some o := by
  rw [hb.block X (heap_lt h) (Or.inr (by omega))]; exact h
theorem rowS_later {W W' : World} {X B : Nat} {o : Obj} (h : W.heap[X]? = some o) (hb : Below B W W') (hB : W.heap.size ≤ B) : W'.heap[X]? = some o := by
  rw [hb.block X (by have := heap_lt h; omega)]; exact h
theorem ownsRow_lower {w : World} {base base' : Nat} {e : TypeId} {size : Nat} {v : Value} {n : Nat} {xs : List Value} (h : w.ownsRow base e size v n xs) (hb : base' ≤ base) : w.ownsRow base' e size v n xs := by
  obtain ⟨h1, h2⟩ := h
  refine ⟨h1, ?_⟩
  rcases h2 with h2 | ⟨g, cap, cur, hv, hg, r⟩
  · exact Or.inl h2
  · exact Or.inr ⟨g, cap, cur, hv, by omega, r⟩
theorem rowB_at {W : World} {base n size : Nat} {e : TypeId} {v : Value} {xs : List Value} (h : W.ownsRow base e size v n xs) (g : Nat) (hg : v.ownBlock = some g) : base ≤ g ∧ ∃ cs, W.heap[g]? = some (.cells cs e (0, 0)) := by
  rcases h.2 with ⟨hv, _⟩ | ⟨g', cap, cur, hv, hb, hh, _⟩
  · rw [hv] at hg; simp [Value.ownBlock] at hg
  · rw [hv] at hg; simp [Value.ownBlock] at hg; subst hg; exact ⟨hb, cur, hh⟩

theorem Good.step {W W' : World} {lo b q : Nat} {p : R × Value} (h : Good W lo p) (hr : Rd W b q) (hb : Mid b (b + 1) W W') : Good W' lo p :=
  h.keep fun g cs hh => hb.block g (heap_lt hh) (by
    obtain ⟨x, n, _, h1, _⟩ := hr
    by_cases e : g = b
    · subst e; rw [hh] at h1; simp at h1
    · omega)

theorem fresh0 (W : World) (lo : Nat) (h : lo ≤ W.heap.size) : Fresh (W.alloc (.cells #[] 3)) lo (.slice (some ⟨W.heap.size, 0, none⟩) 0 0) [] 0 :=
  ⟨W.heap.size, 0, #[], rfl, h, heap_alloc_new W _, fun k hk => absurd hk (by simp)⟩
theorem fresh1 (W : World) (lo : Nat) (x : Int) (h : lo ≤ W.heap.size) : Fresh (W.alloc (.cells #[.int .i64 x] 3)) lo (.slice (some ⟨W.heap.size, 0, none⟩) 1 1) [x] 1 :=
  ⟨W.heap.size, 0, #[.int .i64 x], rfl, h, heap_alloc_new W _, fun k hk => match k, hk with | 0, _ => rfl⟩

theorem row_empty (W : World) (base g : Nat) (h : W.heap[g]? = some (.cells #[] 44 (0, 0))) (hb : base ≤ g) : W.ownsRow base 44 3 (.slice (some ⟨g, 0, none⟩) 0 0) 0 [] :=
  ⟨rfl, Or.inr ⟨g, 0, #[], rfl, hb, h, Nat.le_refl _, Nat.zero_le _, rfl, rfl⟩⟩

/-- Records that a draw has made, and the reader. -/
structure RcS (w W : World) (b q : Nat) (o : Value) (ps : List (R × Value)) : Prop where
  row : W.ownsRow w.heap.size 44 3 o ps.length (flat ps)
  all : ∀ p ∈ ps, Good W w.heap.size p
  rd : Rd W b q
  mid : Mid b (b + 1) w W
  low : b < w.heap.size
theorem RcS.step {w W W' : World} {b q q' : Nat} {o : Value} {ps : List (R × Value)} (h : RcS w W b q o ps) (hb : Mid b (b + 1) W W') (hr : Rd W' b q') : RcS w W' b q' o ps :=
  ⟨ownsRow_mid h.row hb (fun k hk => Or.inr (by have := (rowB_at h.row k hk).1; have := h.low; omega)), fun p hp => (h.all p hp).step h.rd hb, hr, h.mid.trans hb, h.low⟩
theorem RcS.later {w W W' : World} {b q : Nat} {o : Value} {ps : List (R × Value)} (h : RcS w W b q o ps) (hb : Below W.heap.size W W') : RcS w W' b q o ps :=
  h.step (Mid.of_below hb (Nat.le_refl _)) (h.rd.later hb (Nat.le_refl _))
theorem RcS.push {w W w4 : World} {b q : Nat} {o o' : Value} {ps : List (R × Value)} {r : R} {x : Value} (h : RcS w W b q o ps) (hg : Good W w.heap.size (r, x))
    (hown : w4.ownsRow w.heap.size 44 3 o' (ps.length + 1) (flat ps ++ [.int .i64 r.1, .int .i64 r.2.1, x])) (hgr : W.grownBy w4 o.ownBlock) : RcS w w4 b q o' (ps ++ [(r, x)]) := by
  have hl := h.low
  have hblk : ∀ k, k < W.heap.size → (∀ cs, W.heap[k]? ≠ some (.cells cs 44 (0, 0))) → w4.heap[k]? = W.heap[k]? := fun k hk hn => hgr.block k hk (fun e => by
    obtain ⟨cs, hh⟩ := (rowB_at h.row k e.symm).2
    exact hn cs hh)
  have hws : w.heap.size ≤ W.heap.size := h.mid.size
  have hlow : ∀ k, k < w.heap.size → w4.heap[k]? = W.heap[k]? := fun k hk => hgr.block k (by omega) (fun e => by have := (rowB_at h.row k e.symm).1; omega)
  have hrd : Rd w4 b q := by
    obtain ⟨y, n, hn, h1, h2⟩ := h.rd
    exact ⟨y, n, hn, by rw [hlow b hl]; exact h1, h2.mid (fun k hk => hlow k (by omega))⟩
  have hmid : Mid b (b + 1) w w4 := ⟨hgr.os.trans h.mid.os, hgr.tape.trans h.mid.tape, hgr.output.trans h.mid.output, Nat.le_trans h.mid.size hgr.size, fun k hk hh => (hlow k hk).trans (h.mid.block k hk hh)⟩
  refine ⟨by rw [flat_append, List.length_append]; exact hown, fun p hp => ?_, hrd, hmid, hl⟩
  have hgood : Good W w.heap.size p := by
    rcases List.mem_append.1 hp with hp | hp
    · exact h.all p hp
    · simp at hp; subst hp; exact hg
  exact hgood.keep fun g cs hh => hblk g (heap_lt hh) (fun cs' e => by rw [hh] at e; simp at e)
theorem RcS.out {w W : World} {b q : Nat} {o : Value} {ps : List (R × Value)} (h : RcS w W b q o ps) (hp : ps.length ≤ 60) : Recs W o (ps.map (·.1)) ∧ tot (ps.map (·.1)) ≤ 1000 :=
  ⟨recs_rows h.row h.all, tot_small ps hp (fun x hx => (h.all x hx).1)⟩

end Go.Proofs.YtmkikenacnemkaaDoor
