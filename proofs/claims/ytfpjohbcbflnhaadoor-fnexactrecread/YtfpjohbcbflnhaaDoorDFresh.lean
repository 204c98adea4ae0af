/- Lists of numbers that a draw has made, and three of them in a block. -/
import Derived.Test.YtfpjohbcbflnhaaDoorPick
import Derived.Test.YtfpjohbcbflnhaaDoorRecs
import Derived.Test.YtfpjohbcbflnhaaDoorEnt
namespace Go.Proofs.YtfpjohbcbflnhaaDoor
open Go.RowKit

/-- A list of numbers in a block of numbers from lo on. -/
def Fresh (W : World) (lo : Nat) (u : Value) (zs : List Int) (cap : Nat) : Prop :=
  ∃ g off cs, u = .slice (some ⟨g, off, none⟩) zs.length cap ∧ lo ≤ g ∧ W.heap[g]? = some (.cells cs 3 (0, 0)) ∧ ∀ k, k < zs.length → cs[off + k]? = some (.int .i64 (zs.getD k 0))

theorem Fresh.ints {W : World} {lo : Nat} {u : Value} {zs : List Int} {cap : Nat} (h : Fresh W lo u zs cap) : Ints W u zs := by
  obtain ⟨g, off, cs, hu, _, hh, hc⟩ := h
  by_cases hz : zs = []
  · subst hz
    exact Or.inl ⟨rfl, _, cap, hu, fun h => by cases h⟩
  · exact Or.inr ⟨g, off, cap, hu, hz, fun k hk => by rw [cell_of_row W _ _ _ _ _ hh]; exact hc k hk⟩
theorem Fresh.keep {W W' : World} {lo : Nat} {u : Value} {zs : List Int} {cap : Nat} (h : Fresh W lo u zs cap) (hk : ∀ (g : Nat) (cs : Array Value), W.heap[g]? = some (.cells cs 3 (0, 0)) → W'.heap[g]? = W.heap[g]?) : Fresh W' lo u zs cap := by
  obtain ⟨g, off, cs, hu, hl, hh, hc⟩ := h
  exact ⟨g, off, cs, hu, hl, by rw [hk g cs hh]; exact hh, hc⟩
theorem heap_lt {W : World} {g : Nat} {o : Obj} (h : W.heap[g]? = some o) : g < W.heap.size := by
  by_cases e : g < W.heap.size
  · exact e
  · rw [Array.getElem?_eq_none (by omega)] at h; cases h
theorem Fresh.later {W W' : World} {lo B : Nat} {u : Value} {zs : List Int} {cap : Nat} (h : Fresh W lo u zs cap) (hb : Below B W W') (hB : W.heap.size ≤ B) : Fresh W' lo u zs cap :=
  h.keep fun g _ hh => hb.block g (by have := heap_lt hh; omega)
theorem Fresh.mid {W W' : World} {lo b q : Nat} {u : Value} {zs : List Int} {cap : Nat} (h : Fresh W lo u zs cap) (hr : Rd W b q) (hb : Mid b (b + 1) W W') : Fresh W' lo u zs cap :=
  h.keep fun g cs hh => hb.block g (heap_lt hh) (by
    obtain ⟨v, n, _, h1, _⟩ := hr
    by_cases e : g = b
    · subst e; rw [hh] at h1; simp at h1
    · omega)
theorem Fresh.set {W : World} {lo X i : Nat} {cs : Array Value} {ty : TypeId} {u : Value} {zs : List Int} {cap : Nat} (h : Fresh W lo u zs cap) (hX : W.heap[X]? = some (.cells cs ty (0, 0))) (ht : ty ≠ 3) (x : Value) : Fresh (W.setCell ⟨X, i, none⟩ x) lo u zs cap :=
  h.keep fun g cs' hh => Below.heap_setCell _ _ _ _ (by
    intro e; simp at e; subst e; rw [hh] at hX; simp at hX; exact ht hX.2.symm)
theorem Fresh.mono {W : World} {lo lo' : Nat} {u : Value} {zs : List Int} {cap : Nat} (h : Fresh W lo u zs cap) (hl : lo' ≤ lo) : Fresh W lo' u zs cap := by
  obtain ⟨g, off, cs, hu, h1, r⟩ := h
  exact ⟨g, off, cs, hu, by omega, r⟩

/-- Three numbers fill a block. -/
def Row3 (W : World) (g : Nat) (a0 a1 a2 : Int) : Prop := W.heap[g]? = some (.cells #[.int .i64 a0, .int .i64 a1, .int .i64 a2] 3 (0, 0))

theorem Row3.lt {W : World} {g : Nat} {a0 a1 a2 : Int} (h : Row3 W g a0 a1 a2) : g < W.heap.size := by
  by_cases e : g < W.heap.size
  · exact e
  · unfold Row3 at h; rw [Array.getElem?_eq_none (by omega)] at h; cases h
theorem Row3.new (W : World) (a0 a1 a2 : Int) : Row3 (W.alloc (.cells #[.int .i64 a0, .int .i64 a1, .int .i64 a2] 3)) W.heap.size a0 a1 a2 := heap_alloc_new W _
theorem Row3.mid {W W' : World} {g b : Nat} {a0 a1 a2 : Int} (h : Row3 W g a0 a1 a2) (hb : Mid b (b + 1) W W') (hg : b < g) : Row3 W' g a0 a1 a2 := by
  have hl := h.lt
  unfold Row3
  rw [hb.block g hl (Or.inr (by omega))]; exact h
theorem Row3.later {W W' : World} {g B : Nat} {a0 a1 a2 : Int} (h : Row3 W g a0 a1 a2) (hb : Below B W W') (hB : W.heap.size ≤ B) : Row3 W' g a0 a1 a2 := by
  have hl := h.lt
  unfold Row3
  rw [hb.block g (by omega)]; exact h
theorem Row3.drewN {W : World} {g : Nat} {a0 a1 a2 : Int} (h : Row3 W g a0 a1 a2) (n : Nat) : Row3 (W.drewN n) g a0 a1 a2 := h
theorem Row3.cells {W : World} {g : Nat} {a0 a1 a2 : Int} (h : Row3 W g a0 a1 a2) :
    W.cell? ⟨g, 0, none⟩ = some (.int .i64 a0) ∧ W.cell? ⟨g, 1, none⟩ = some (.int .i64 a1) ∧ W.cell? ⟨g, 2, none⟩ = some (.int .i64 a2) ∧
    W.frozen? ⟨g, 0, none⟩ = false ∧ W.frozen? ⟨g, 1, none⟩ = false ∧ W.frozen? ⟨g, 2, none⟩ = false := by
  refine ⟨?_, ?_, ?_, frozen_of_row W _ _ _ _ h, frozen_of_row W _ _ _ _ h, frozen_of_row W _ _ _ _ h⟩
  all_goals (rw [cell_of_row W _ _ _ _ _ h]; rfl)
theorem Row3.set0 {W : World} {g : Nat} {a0 a1 a2 : Int} (h : Row3 W g a0 a1 a2) (x : Int) : Row3 (W.setCell ⟨g, 0, none⟩ (.int .i64 x)) g x a1 a2 := by
  unfold Row3; rw [heap_setCell_same W g 0 _ _ _ h]; simp
theorem Row3.set1 {W : World} {g : Nat} {a0 a1 a2 : Int} (h : Row3 W g a0 a1 a2) (x : Int) : Row3 (W.setCell ⟨g, 1, none⟩ (.int .i64 x)) g a0 x a2 := by
  unfold Row3; rw [heap_setCell_same W g 1 _ _ _ h]; simp
theorem Row3.set2 {W : World} {g : Nat} {a0 a1 a2 : Int} (h : Row3 W g a0 a1 a2) (x : Int) : Row3 (W.setCell ⟨g, 2, none⟩ (.int .i64 x)) g a0 a1 x := by
  unfold Row3; rw [heap_setCell_same W g 2 _ _ _ h]; simp
theorem Row3.fresh {W : World} {g lo : Nat} {a0 a1 a2 : Int} (h : Row3 W g a0 a1 a2) (hl : lo ≤ g) : Fresh W lo (.slice (some ⟨g, 0, none⟩) 3 3) [a0, a1, a2] 3 := by
  refine ⟨g, 0, _, rfl, hl, h, fun k hk => ?_⟩
  match k, hk with
  | 0, _ => rfl
  | 1, _ => rfl
  | 2, _ => rfl
theorem Row3.fresh1 {W : World} {g lo : Nat} {a0 a1 a2 : Int} (h : Row3 W g a0 a1 a2) (hl : lo ≤ g) : Fresh W lo (.slice (some ⟨g, 1, none⟩) 2 2) [a1, a2] 2 := by
  refine ⟨g, 1, _, rfl, hl, h, fun k hk => ?_⟩
  match k, hk with
  | 0, _ => rfl
  | 1, _ => rfl

theorem Mid.setNew {w W : World} {b g i : Nat} (h : Mid b (b + 1) w W) (hg : w.heap.size ≤ g) (x : Value) : Mid b (b + 1) w (W.setCell ⟨g, i, none⟩ x) :=
  ⟨h.os, h.tape, h.output, by simpa using h.size, fun k hk hh => by rw [Below.heap_setCell _ _ _ _ (by simp; omega)]; exact h.block k hk hh⟩
theorem Mid.alloc {w W : World} {b : Nat} (h : Mid b (b + 1) w W) (o : Obj) : Mid b (b + 1) w (W.alloc o) :=
  h.trans (Mid.of_below (alloc_below W o) (Nat.le_refl _))
theorem Rd.setApart {W : World} {b p g i : Nat} (h : Rd W b p) (hg : b < g) (x : Value) : Rd (W.setCell ⟨g, i, none⟩ x) b p := by
  obtain ⟨v, n, hn, h1, h2⟩ := h
  exact ⟨v, n, hn, by rw [Below.heap_setCell _ _ _ _ (by simp; omega)]; exact h1, h2.mid (fun k hk => Below.heap_setCell _ _ _ _ (by simp; omega))⟩
theorem Rd.alloc {W : World} {b p : Nat} (h : Rd W b p) (o : Obj) : Rd (W.alloc o) b p := h.later (alloc_below W o) (Nat.le_refl _)

/-- What lies there while the numbers are drawn. -/
def StM (w W : World) (b q g : Nat) (a0 a1 a2 : Int) : Prop := Row3 W g a0 a1 a2 ∧ w.heap.size ≤ g ∧ b < g ∧ Rd W b q ∧ Mid b (b + 1) w W

theorem three {x : Int} (h0 : 0 ≤ x) (h1 : x < 3) : x = 0 ∨ x = 1 ∨ x = 2 := by omega

end Go.Proofs.YtfpjohbcbflnhaaDoor
