/- The draws of logs and records out of a code: what comes out is a log, or a record, that lies in memory of its own, and nothing that was there before has turned. For codes of at most 1048576 bytes. -/
import Derived.Test.YtgbikmcpcolcpaaDoorDLog
import Derived.Test.YtgbikmcpcolcpaaDoorSFall
namespace Go.Proofs.YtgbikmcpcolcpaaDoor
open Go.RowKit

theorem recs_rows {W : World} {lo base : Nat} {v : Value} {ps : List (R × Value)} (hrow : W.ownsRow base 28 3 v ps.length (flat ps)) (hall : ∀ p ∈ ps, Good W lo p) : Recs W v (ps.map (·.1)) := by
  rcases hrow.2 with ⟨hv, hn⟩ | ⟨g, cap, cur, hv, hg, hh, _, _, _, ht⟩
  · have : ps = [] := List.length_eq_zero_iff.1 hn
    subst this
    exact Or.inl ⟨rfl, none, 0, hv⟩
  · by_cases hp : ps = []
    · subst hp; exact Or.inl ⟨rfl, _, cap, hv⟩
    refine Or.inr ⟨g, 0, cap, by simpa using hv, by simpa using hp, fun i r hr => ?_⟩
    rw [List.getElem?_map] at hr
    cases hi : ps[i]? with
    | none => rw [hi] at hr; cases hr
    | some p =>
      rw [hi] at hr
      simp at hr
      subst hr
      have hil : i < ps.length := by
        by_cases e : i < ps.length
        · exact e
        · rw [List.getElem?_eq_none (by omega)] at hi; cases hi
      obtain ⟨f0, f1, f2⟩ := flat_get ps i p hi
      have get : ∀ j x, (flat ps)[j]? = some x → W.cell? ⟨g, j, none⟩ = some x := fun j x hj => by
        have hjl : j < ps.length * 3 := by
          by_cases e : j < ps.length * 3
          · exact e
          · rw [List.getElem?_eq_none (by rw [flat_length]; omega)] at hj; cases hj
        rw [cell_of_row W _ _ _ _ _ hh, ← hj, ← ht, List.getElem?_take, if_pos hjl, Array.getElem?_toList]
      exact ⟨p.2, by rw [Nat.zero_add]; exact get _ _ f0, by rw [Nat.zero_add]; exact get _ _ f1, by rw [Nat.zero_add]; exact get _ _ f2, (hall p (List.mem_of_getElem? hi)).ints⟩

/-- A drawn log stays where only a block below it turns. -/
theorem StL.recs_mid {w W W' : World} {b q L lo hi : Nat} {f : Int} {v : Value} {ps : List (R × Value)} (h : StL w W b q L f v ps) (hm : Mid lo hi W W') (hX : hi ≤ w.heap.size) : Recs W' v (ps.map (·.1)) := by
  refine recs_rows (lo := w.heap.size) (ownsRow_mid h.row hm (fun k hk => Or.inr (by have := (h.row.lt k hk).1; omega))) (fun p hp => ?_)
  obtain ⟨h1, h2⟩ := h.all p hp
  refine ⟨h1, ?_⟩
  rcases h2 with ⟨cap, g, off, cs, hu, hlo, hh, hc⟩ | h2
  · exact Or.inl ⟨cap, g, off, cs, hu, hlo, by rw [hm.block g (heap_lt hh) (Or.inr (by omega))]; exact hh, hc⟩
  · exact Or.inr h2
theorem set2_mid (W : World) (X : Nat) (x y : Value) : Mid X (X + 1) W ((W.setCell ⟨X, 0, none⟩ x).setCell ⟨X, 1, none⟩ y) := (Mid.set x).trans (Mid.set y)

/-- The value is a slice of n bytes, whatever they are. -/
def CodeAt (w : World) (v : Value) (n : Nat) : Prop :=
  ∃ ao cap, v = .slice ao n cap ∧ n ≤ cap ∧ (n ≠ 0 → ∃ g off, ao = some ⟨g, off, none⟩ ∧ ∀ k, k < n → ∃ z : Int, w.cell? ⟨g, off + k, none⟩ = some (.int .u8 z) ∧ 0 ≤ z ∧ z ≤ 255)
theorem CodeAt.later {B : Nat} {w w' : World} {v : Value} {n : Nat} (h : CodeAt w v n) (hb : Below B w w') (hB : w.heap.size ≤ B) : CodeAt w' v n := by
  obtain ⟨ao, cap, hv, hc, hk⟩ := h
  refine ⟨ao, cap, hv, hc, fun hn => ?_⟩
  obtain ⟨g, off, ha, hh⟩ := hk hn
  refine ⟨g, off, ha, fun k hkn => ?_⟩
  obtain ⟨z, h1, h2⟩ := hh k hkn
  have hl := World.block_lt_of_cell? _ _ h1
  simp at hl
  exact ⟨z, by rw [← h1]; exact hb.cell (p := ⟨g, off + k, none⟩) (by simp; omega), h2⟩

theorem code_bytes {w : World} {v : Value} {n : Nat} (h : CodeAt w v n) (m : Nat) (hm : m ≤ n) (ao : Option Addr) (cap : Nat) (hv : v = .slice ao n cap) (o : Obj) : Bytes (w.alloc o) w.heap.size (.slice ao m cap) m := by
  obtain ⟨ao', cap', hv', hc, hk⟩ := h
  rw [hv] at hv'
  simp only [Value.slice.injEq, true_and] at hv'
  obtain ⟨rfl, rfl⟩ := hv'
  refine ⟨ao, cap, rfl, fun hn => ?_⟩
  obtain ⟨g, off, ha, hh⟩ := hk (by omega)
  have hg : g < w.heap.size := by
    obtain ⟨z, h1, _⟩ := hh 0 (by omega)
    simpa using World.block_lt_of_cell? _ _ h1
  refine ⟨g, off, ha, hg, fun k hkm => ?_⟩
  obtain ⟨z, h1, h2⟩ := hh k (by omega)
  exact ⟨z, by rw [← h1]; exact (alloc_below w o).cell (p := ⟨g, off + k, none⟩) hg, h2⟩

set_option maxHeartbeats 1000000 in
theorem open_any (v : Value) (n : Nat) (w : World) (hv : CodeAt w v n) (hn : n ≤ 1048576) :
    Calls Tryd.prog 25 #[v] w fun e w' => e = .returned (.pointer (some ⟨w.heap.size, 0, none⟩)) ∧ Rd w' w.heap.size 0 ∧ w'.heap.size = w.heap.size + 1 ∧ Below w.heap.size w w' := by
  obtain ⟨ao, cap, rfl, hc, hk⟩ := id hv
  by_cases h2 : 2000 < (n : Int)
  · have RD : Hid (Rd (w.alloc (.cells #[.slice ao 2000 cap, .int .i64 0] 57)) w.heap.size 0) := ⟨_, 2000, by omega, heap_alloc_new w _, code_bytes hv 2000 (by omega) ao cap rfl _⟩
    obtain ⟨g, off, hao, _⟩ := hk (by omega)
    subst hao
    have hc2 : (2000 : Int) ≤ (cap : Int) := by omega
    clear hv hk
    go_enter Tryd.func25, Tryd.ntmps25
    go_wp2
    go_ret
    exact ⟨rfl, RD.out, by simp, alloc_below _ _⟩
  · have RD : Hid (Rd (w.alloc (.cells #[.slice ao n cap, .int .i64 0] 57)) w.heap.size 0) := ⟨_, n, by omega, heap_alloc_new w _, code_bytes hv n (Nat.le_refl _) ao cap rfl _⟩
    clear hv hk
    go_enter Tryd.func25, Tryd.ntmps25
    go_wp2
    go_ret
    exact ⟨rfl, RD.out, by simp, alloc_below _ _⟩

/-- The slice of a list that the call itself has made, or nil. -/
def Form (v : Value) (n : Nat) : Prop := (v = .slice none 0 0 ∧ n = 0) ∨ ∃ g cap, v = .slice (some ⟨g, 0, none⟩) n cap ∧ n ≤ cap
theorem form_of_row {w : World} {base : Nat} {e : TypeId} {size : Nat} {v : Value} {n : Nat} {xs : List Value} (h : w.ownsRow base e size v n xs) : Form v n := by
  rcases h.2 with h | ⟨g, cap, cur, hv, _, _, hc, _⟩
  · exact Or.inl h
  · exact Or.inr ⟨g, cap, hv, hc⟩
theorem Made.form' {w : World} {lo : Nat} {v : Value} {rs : List R} (h : Made w lo v rs) : Form v rs.length := by
  obtain ⟨ps, hp, h1, _, _⟩ := h
  have hpl : ps.length = rs.length := by have := congrArg List.length hp; simpa using this
  rw [← hpl]; exact form_of_row h1

theorem tot_small (ps : List (R × Value)) (h : ps.length ≤ 60) (hg : ∀ x ∈ ps, x.1.2.2.length ≤ 4) : tot (ps.map (·.1)) ≤ 1000 := by
  have hp : ∀ (l : List (R × Value)), (∀ x ∈ l, x.1.2.2.length ≤ 4) → ((l.map (·.1)).map fun r : R => r.2.2.length).sum ≤ 4 * l.length := by
    intro l
    induction l with
    | nil => intro _; simp
    | cons x t ih =>
      intro hx
      have h1 := ih (fun y hy => hx y (by simp [hy]))
      have h2 := hx x (by simp)
      simp at h1 ⊢
      omega
  have := hp ps hg
  unfold tot pre
  rw [List.take_length, List.length_map]
  omega

/-- What is drawn: a log that lies there, small, with nothing below turned. -/
def GotLog (w w' : World) (v : Value) (rs : List R) : Prop := Recs w' v rs ∧ Form v rs.length ∧ tot rs ≤ 1000 ∧ Below w.heap.size w w'

theorem GotLog.of {w w1 w2 w3 : World} {q L lo hi : Nat} {f : Int} {v : Value} {ps : List (R × Value)} {b : Nat} (hb : Below w.heap.size w w1) (hbb : w.heap.size ≤ b) (hs : StL w1 w2 b q L f v ps) (hl : ps.length ≤ 60) (hm : Mid lo hi w2 w3) (hX : hi ≤ w1.heap.size) (hwX : w.heap.size ≤ lo) : GotLog w w3 v (ps.map (·.1)) := by
  have hb2 := hb.trans (hs.mid.below hbb hb.size)
  exact ⟨hs.recs_mid hm hX, by rw [List.length_map]; exact form_of_row hs.row, tot_small ps hl (fun x hx => (hs.all x hx).1), hb2.trans (hm.below hwX hb2.size)⟩

set_option maxHeartbeats 1000000 in
theorem drawForce_any (v : Value) (n : Nat) (w : World) (hv : CodeAt w v n) (hn : n ≤ 1048576) :
    Calls Tryd.prog 18 #[v] w fun e w' => ∃ u f rs, e = .returned (.agg #[u, .int .i64 f]) ∧ GotLog w w' u rs := by
  have HO : Hid (∀ o, Calls Tryd.prog 25 #[v] (w.alloc o) fun e w' => e = .returned (.pointer (some ⟨w.heap.size + 1, 0, none⟩)) ∧ Rd w' (w.heap.size + 1) 0 ∧ w'.heap.size = w.heap.size + 2 ∧ Below (w.heap.size + 1) (w.alloc o) w') := fun o => by
    have := open_any v n (w.alloc o) (hv.later (alloc_below w o) (Nat.le_refl _)) hn
    rw [size1] at this
    exact this
  obtain ⟨ao, cap, rfl, _⟩ := hv
  go_enter Tryd.func18, Tryd.ntmps18
  go_wp2_with fail
  refine (HO.out _).mono ?_
  rintro e w1 ⟨rfl, hr1, hs1, hb1⟩
  have R1 := hide_it hr1
  have B1 := hide_it ((alloc_below w _).trans (hb1.mono (by omega)))
  have Z1 := hide_it (show w1.heap[w.heap.size]? = some (.cells #[.slice none 0 0, .int .i64 0] 25 (0, 0)) by rw [hb1.block _ (by omega)]; exact heap_alloc_new w _)
  clear hr1 hb1
  go_wp2_with fail
  refine (log_draw (w.heap.size + 1) 0 w1 R1.out (by omega)).mono ?_
  rintro e w2 ⟨u, f, ps, q, L, rfl, hl, -, -, hs⟩
  have hZ2 : w2.heap[w.heap.size]? = some (.cells #[.slice none 0 0, .int .i64 0] 25 (0, 0)) := by
    rw [hs.mid.block _ (by omega) (Or.inl (by omega))]; exact Z1.out
  have z0 : w2.cell? ⟨w.heap.size, 0, none⟩ = some (.slice none 0 0) := by rw [cell_of_row w2 _ _ _ _ _ hZ2]; rfl
  have z1 : w2.cell? ⟨w.heap.size, 1, none⟩ = some (.int .i64 0) := by rw [cell_of_row w2 _ _ _ _ _ hZ2]; rfl
  have z2 := frozen_of_row w2 _ 0 _ _ hZ2
  have z3 := frozen_of_row w2 _ 1 _ _ hZ2
  obtain ⟨au, cu, hus⟩ : ∃ ao cap, u = .slice ao ps.length cap := row_shape hs.row
  subst hus
  have LO := hide_it hs
  clear hs hZ2
  go_wp2
  refine bodyPost_ret (v := .agg #[.slice au ps.length cu, .int .i64 f]) (by simp [results, Tryd.results18, go_sem, z0, z1]) rfl ⟨_, f, ps.map (·.1), rfl, ?_⟩
  exact GotLog.of B1.out (by omega) LO.out hl (set2_mid _ _ _ _) (by omega) (Nat.le_refl _)

end Go.Proofs.YtgbikmcpcolcpaaDoor
