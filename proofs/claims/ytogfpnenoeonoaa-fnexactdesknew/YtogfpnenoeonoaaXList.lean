/- Lists of words in memory, and the contracts of the law's helpers over them: how great one is, a copy, whether two are the same. For lists of at most 1048576 words. -/
import Derived.Test.YtogfpnenoeonoaaWOk
import Derived.Test.YtogfpnenoeonoaaBlk
import Derived.Test.YtogfpnenoeonoaaMark
import Derived.Deep.RegionWith
namespace Go.Proofs.Ytogfpnenoeonoaa
open Go.RowKit

theorem Blk.cells4 {w : World} {b : Nat} {x0 x1 x2 x3 : Value} {ty : TypeId} (h : Blk w b #[x0, x1, x2, x3] ty) :
    w.cell? ⟨b, 0, none⟩ = some x0 ∧ w.cell? ⟨b, 1, none⟩ = some x1 ∧ w.cell? ⟨b, 2, none⟩ = some x2 ∧ w.cell? ⟨b, 3, none⟩ = some x3 := by
  refine ⟨?_, ?_, ?_, ?_⟩ <;> (rw [h.cell]; rfl)
theorem Blk.free4 {w : World} {b : Nat} {cs : Array Value} {ty : TypeId} (h : Blk w b cs ty) :
    w.frozen? ⟨b, 0, none⟩ = false ∧ w.frozen? ⟨b, 1, none⟩ = false ∧ w.frozen? ⟨b, 2, none⟩ = false ∧ w.frozen? ⟨b, 3, none⟩ = false :=
  ⟨h.free 0, h.free 1, h.free 2, h.free 3⟩

/-- A word as plain data: its kind, its house, its trip, how many. -/
abbrev Wd := Int × Int × Int × Int

/-- Words, as they lie in a row. -/
def wflat : List Wd → List Value
  | [] => []
  | h :: t => .int .i64 h.1 :: .int .i64 h.2.1 :: .int .i64 h.2.2.1 :: .int .i64 h.2.2.2 :: wflat t

theorem wflat_length (hs : List Wd) : (wflat hs).length = hs.length * 4 := by
  induction hs with
  | nil => rfl
  | cons p t ih => simp only [wflat, List.length_cons, ih]; omega
theorem wflat_get (hs : List Wd) (i : Nat) (h : i < hs.length) :
    (wflat hs)[i * 4]? = some (.int .i64 (hs.getD i (0, 0, 0, 0)).1) ∧ (wflat hs)[i * 4 + 1]? = some (.int .i64 (hs.getD i (0, 0, 0, 0)).2.1) ∧ (wflat hs)[i * 4 + 2]? = some (.int .i64 (hs.getD i (0, 0, 0, 0)).2.2.1) ∧ (wflat hs)[i * 4 + 3]? = some (.int .i64 (hs.getD i (0, 0, 0, 0)).2.2.2) := by
  induction hs generalizing i with
  | nil => simp at h
  | cons q t ih =>
    cases i with
    | zero => simp [wflat]
    | succ i =>
      have := ih i (by simpa using h)
      rw [show (i + 1) * 4 = i * 4 + 4 by omega]
      simpa [wflat] using this
theorem wflat_set (hs : List Wd) (k : Nat) (p : Wd) (h : k < hs.length) :
    ((((wflat hs).set (k * 4) (.int .i64 p.1)).set (k * 4 + 1) (.int .i64 p.2.1)).set (k * 4 + 2) (.int .i64 p.2.2.1)).set (k * 4 + 3) (.int .i64 p.2.2.2) = wflat (hs.set k p) := by
  induction hs generalizing k with
  | nil => simp at h
  | cons q t ih =>
    cases k with
    | zero => simp [wflat]
    | succ k =>
      have := ih k (by simpa using h)
      rw [show (k + 1) * 4 = k * 4 + 4 by omega]
      simp only [wflat, List.set_cons_succ]
      rw [this]
theorem wflat_append (ps qs : List Wd) : wflat (ps ++ qs) = wflat ps ++ wflat qs := by
  induction ps with
  | nil => rfl
  | cons p t ih => simp [wflat, ih]
theorem wtake (hs : List Wd) (k : Nat) (h : k < hs.length) : hs.take (k + 1) = hs.take k ++ [hs.getD k (0, 0, 0, 0)] := by
  rw [List.take_succ_eq_append_getElem h, List.getD_eq_getElem?_getD, List.getElem?_eq_getElem h]; rfl

/-- The value v is a slice of just these words in the world w. -/
def Words (w : World) (v : Value) (hs : List Wd) : Prop :=
  (hs = [] ∧ ∃ ao cap, v = .slice ao 0 cap ∧ (ao = none → cap = 0)) ∨
  (∃ b off cap, v = .slice (some ⟨b, off, none⟩) hs.length cap ∧ hs ≠ [] ∧ ∀ k, k < hs.length → w.cell? ⟨b, off + k * 4, none⟩ = some (.int .i64 (hs.getD k (0, 0, 0, 0)).1) ∧ w.cell? ⟨b, off + k * 4 + 1, none⟩ = some (.int .i64 (hs.getD k (0, 0, 0, 0)).2.1) ∧ w.cell? ⟨b, off + k * 4 + 2, none⟩ = some (.int .i64 (hs.getD k (0, 0, 0, 0)).2.2.1) ∧ w.cell? ⟨b, off + k * 4 + 3, none⟩ = some (.int .i64 (hs.getD k (0, 0, 0, 0)).2.2.2))

theorem Words.later {B : Nat} {w w' : World} {v : Value} {hs : List Wd} (h : Words w v hs) (hb : Below B w w') (hB : w.heap.size ≤ B) : Words w' v hs := by
  rcases h with h | ⟨b, off, cap, hv, hz, hc⟩
  · exact Or.inl h
  · refine Or.inr ⟨b, off, cap, hv, hz, fun k hk => ?_⟩
    obtain ⟨h1, h2, h3, h4⟩ := hc k hk
    have hl := World.block_lt_of_cell? _ _ h1
    simp at hl
    exact ⟨by rw [← h1]; exact hb.cell (p := ⟨b, off + k * 4, none⟩) (by simp; omega), by rw [← h2]; exact hb.cell (p := ⟨b, off + k * 4 + 1, none⟩) (by simp; omega), by rw [← h3]; exact hb.cell (p := ⟨b, off + k * 4 + 2, none⟩) (by simp; omega), by rw [← h4]; exact hb.cell (p := ⟨b, off + k * 4 + 3, none⟩) (by simp; omega)⟩

theorem Words.shape {w : World} {v : Value} {hs : List Wd} (h : Words w v hs) : ∃ ao cap, v = .slice ao hs.length cap := by
  rcases h with ⟨rfl, ao, cap, rfl, _⟩ | ⟨b, off, cap, rfl, _, _⟩
  · exact ⟨ao, cap, rfl⟩
  · exact ⟨_, cap, rfl⟩

/-- A row of words that the call owns is a list of them. -/
theorem words_of_row {w : World} {base : Nat} {v : Value} {hs : List Wd} (h : w.ownsRow base 39 4 v hs.length (wflat hs)) : Words w v hs := by
  rcases h.2 with ⟨hv, hn⟩ | ⟨g, cap, cur, hv, _⟩
  · have : hs = [] := List.length_eq_zero_iff.1 hn
    exact Or.inl ⟨this, none, 0, hv, fun _ => rfl⟩
  · by_cases hz : hs = []
    · subst hz; exact Or.inl ⟨rfl, _, _, hv, fun h => by cases h⟩
    · subst hv
      refine Or.inr ⟨g, 0, cap, rfl, hz, fun k hk => ?_⟩
      obtain ⟨f0, f1, f2, f3⟩ := wflat_get hs k hk
      exact ⟨by rw [Nat.zero_add, h.cellAt _ (by omega)]; exact f0, by rw [Nat.zero_add, h.cellAt _ (by omega)]; exact f1, by rw [Nat.zero_add, h.cellAt _ (by omega)]; exact f2, by rw [Nat.zero_add, h.cellAt _ (by omega)]; exact f3⟩

theorem infoWord : (Try.prog.info? 39).map (fun i => (i.zero, i.size, i.bytes)) = some (some (.agg #[.int .i64 0, .int .i64 0, .int .i64 0, .int .i64 0]), 4, 32) := by kernel_rfl

theorem made_four (n : Nat) : (madeCells #[.int .i64 0, .int .i64 0, .int .i64 0, .int .i64 0] (n * 4)).toList = wflat (List.replicate n (0, 0, 0, 0)) := by
  apply List.ext_getElem?
  intro i
  by_cases h : i < n * 4
  · have hq : i / 4 < n := by omega
    obtain ⟨f0, f1, f2, f3⟩ := wflat_get (List.replicate n (0, 0, 0, 0)) (i / 4) (by simpa using hq)
    have hl : (madeCells #[.int .i64 0, .int .i64 0, .int .i64 0, .int .i64 0] (n * 4)).toList[i]? = some (#[Value.int .i64 0, .int .i64 0, .int .i64 0, .int .i64 0][i % 4]!) := by
      simp [madeCells, h]
    have hd : (List.replicate n ((0, 0, 0, 0) : Wd)).getD (i / 4) (0, 0, 0, 0) = (0, 0, 0, 0) := by simp [List.getD_eq_getElem?_getD, hq]
    rw [hd] at f0 f1 f2 f3
    rw [hl]
    rcases (show i % 4 = 0 ∨ i % 4 = 1 ∨ i % 4 = 2 ∨ i % 4 = 3 by omega) with h0 | h0 | h0 | h0
    · rw [show i / 4 * 4 = i by omega] at f0; rw [f0, h0]; rfl
    · rw [show i / 4 * 4 + 1 = i by omega] at f1; rw [f1, h0]; rfl
    · rw [show i / 4 * 4 + 2 = i by omega] at f2; rw [f2, h0]; rfl
    · rw [show i / 4 * 4 + 3 = i by omega] at f3; rw [f3, h0]; rfl
  · rw [List.getElem?_eq_none (by simp [madeCells]; omega), List.getElem?_eq_none (by rw [wflat_length]; simp; omega)]

/-- The world behind four stores. -/
abbrev store4 (w : World) (g i : Nat) (p : Wd) : World := (((w.setCell ⟨g, i, none⟩ (.int .i64 p.1)).setCell ⟨g, i + 1, none⟩ (.int .i64 p.2.1)).setCell ⟨g, i + 2, none⟩ (.int .i64 p.2.2.1)).setCell ⟨g, i + 3, none⟩ (.int .i64 p.2.2.2)

theorem stored4 {w : World} {base g n cap : Nat} {hs : List Wd} (h : w.ownsRow base 39 4 (.slice (some ⟨g, 0, none⟩) n cap) n (wflat hs)) (k : Nat) (hk : k < hs.length) (p : Wd) :
    (store4 w g (k * 4) p).ownsRow base 39 4 (.slice (some ⟨g, 0, none⟩) n cap) n (wflat (hs.set k p)) ∧ w.grownBy (store4 w g (k * 4) p) (some g) := by
  have a1 := h.stored (k * 4) (.int .i64 p.1)
  have a2 := a1.1.stored (k * 4 + 1) (.int .i64 p.2.1)
  have a3 := a2.1.stored (k * 4 + 2) (.int .i64 p.2.2.1)
  have a4 := a3.1.stored (k * 4 + 3) (.int .i64 p.2.2.2)
  rw [wflat_set hs k p hk] at a4
  exact ⟨a4.1, grownBy_trans (grownBy_trans (grownBy_trans a1.2 a2.2) a3.2) a4.2⟩

theorem eqWord_any (k h t m : Int) (w : World) :
    Calls Try.prog 16 #[wordV k h t m, wordV k h t m] w fun e w' => e = .returned (.bool true) ∧ Below w.heap.size w w' := by
  go_enter Try.func16, Try.ntmps16
  go_wp2
  go_ret
  exact ⟨rfl, below2 w _ _⟩

set_option maxHeartbeats 2000000 in
theorem eqWords_any (v1 v2 : Value) (hs : List Wd) (w : World) (h1 : Words w v1 hs) (h2 : Words w v2 hs) (hl : hs.length ≤ 1048576) :
    Calls Try.prog 10 #[v1, v2] w fun e w' => e = .returned (.bool true) ∧ Below w.heap.size w w' := by
  rcases h1 with ⟨rfl, ao, cap, rfl, -⟩ | ⟨b, off, cap, rfl, hz, hc⟩
  · obtain ⟨ao2, cap2, rfl⟩ := h2.shape
    clear h2
    go_enter Try.func10, Try.ntmps10
    go_wp2
    refine wp_loop_rounds 1 ?_
    rw [rounds_succ]
    go_wp2
    go_ret
    exact ⟨rfl, Below.refl _ _⟩
  rcases h2 with ⟨h, _⟩ | ⟨b2, off2, cap2, rfl, _, hc2⟩
  · exact absurd h hz
  have HC : Hid (∀ k, k < hs.length → w.cell? ⟨b, off + k * 4, none⟩ = some (.int .i64 (hs.getD k (0, 0, 0, 0)).1) ∧ w.cell? ⟨b, off + k * 4 + 1, none⟩ = some (.int .i64 (hs.getD k (0, 0, 0, 0)).2.1) ∧ w.cell? ⟨b, off + k * 4 + 2, none⟩ = some (.int .i64 (hs.getD k (0, 0, 0, 0)).2.2.1) ∧ w.cell? ⟨b, off + k * 4 + 3, none⟩ = some (.int .i64 (hs.getD k (0, 0, 0, 0)).2.2.2)) := hc
  have HC2 : Hid (∀ k, k < hs.length → w.cell? ⟨b2, off2 + k * 4, none⟩ = some (.int .i64 (hs.getD k (0, 0, 0, 0)).1) ∧ w.cell? ⟨b2, off2 + k * 4 + 1, none⟩ = some (.int .i64 (hs.getD k (0, 0, 0, 0)).2.1) ∧ w.cell? ⟨b2, off2 + k * 4 + 2, none⟩ = some (.int .i64 (hs.getD k (0, 0, 0, 0)).2.2.1) ∧ w.cell? ⟨b2, off2 + k * 4 + 3, none⟩ = some (.int .i64 (hs.getD k (0, 0, 0, 0)).2.2.2)) := hc2
  have hzl : 0 < hs.length := List.length_pos_iff.2 hz
  have hbw : b < w.heap.size := World.block_lt_of_cell? _ _ (hc 0 hzl).1
  have hbw2 : b2 < w.heap.size := World.block_lt_of_cell? _ _ (hc2 0 hzl).1
  clear hc hc2 hz
  go_enter Try.func10, Try.ntmps10
  go_wp2
  go_loopw [5] (fun i wr => ∃ k : Nat, k ≤ hs.length ∧ i = .int .i64 k ∧ Below w.heap.size w wr) (fun i _ => hs.length - (intOf i).toNat)
  case atStart => exact ⟨0, Nat.zero_le _, rfl, Below.refl _ _⟩
  case round =>
    obtain ⟨k, hk, rfl, hbe⟩ := hrel
    by_cases hlt : k < hs.length
    · obtain ⟨p0, p1, p2, p3, HZ⟩ : ∃ p0 p1 p2 p3, Hid (hs.getD k (0, 0, 0, 0) = (p0, p1, p2, p3)) := ⟨_, _, _, _, rfl⟩
      have c0 : wr.cell? ⟨b, off + k * 4, none⟩ = some (.int .i64 p0) := by rw [hbe.cell (p := ⟨b, off + k * 4, none⟩) hbw, (HC.out k hlt).1, HZ.out]
      have c1 : wr.cell? ⟨b, off + k * 4 + 1, none⟩ = some (.int .i64 p1) := by rw [hbe.cell (p := ⟨b, off + k * 4 + 1, none⟩) hbw, (HC.out k hlt).2.1, HZ.out]
      have c2 : wr.cell? ⟨b, off + k * 4 + 2, none⟩ = some (.int .i64 p2) := by rw [hbe.cell (p := ⟨b, off + k * 4 + 2, none⟩) hbw, (HC.out k hlt).2.2.1, HZ.out]
      have c3 : wr.cell? ⟨b, off + k * 4 + 3, none⟩ = some (.int .i64 p3) := by rw [hbe.cell (p := ⟨b, off + k * 4 + 3, none⟩) hbw, (HC.out k hlt).2.2.2, HZ.out]
      have d0 : wr.cell? ⟨b2, off2 + k * 4, none⟩ = some (.int .i64 p0) := by rw [hbe.cell (p := ⟨b2, off2 + k * 4, none⟩) hbw2, (HC2.out k hlt).1, HZ.out]
      have d1 : wr.cell? ⟨b2, off2 + k * 4 + 1, none⟩ = some (.int .i64 p1) := by rw [hbe.cell (p := ⟨b2, off2 + k * 4 + 1, none⟩) hbw2, (HC2.out k hlt).2.1, HZ.out]
      have d2 : wr.cell? ⟨b2, off2 + k * 4 + 2, none⟩ = some (.int .i64 p2) := by rw [hbe.cell (p := ⟨b2, off2 + k * 4 + 2, none⟩) hbw2, (HC2.out k hlt).2.2.1, HZ.out]
      have d3 : wr.cell? ⟨b2, off2 + k * 4 + 3, none⟩ = some (.int .i64 p3) := by rw [hbe.cell (p := ⟨b2, off2 + k * 4 + 3, none⟩) hbw2, (HC2.out k hlt).2.2.2, HZ.out]
      have hli : (k : Int) < (hs.length : Int) := by omega
      have HB : Hid (Below w.heap.size w wr) := hbe
      clear hbe
      go_wp2
      go_region_with (go_at_call 16; refine (eqWord_any _ _ _ _ _).mono ?_; rintro e w2 ⟨rfl, hb2⟩; have HB2 := HB.out.drew.trans (hb2.mono HB.out.size); clear hb2)
      all_goals (try go_wp2)
      all_goals
        go_roundw
        case rel => exact ⟨k + 1, by omega, by go_num, HB2⟩
        case measure => simp [intOf]; omega
    · go_wp2
      go_ret
      exact ⟨rfl, hbe⟩

end Go.Proofs.Ytogfpnenoeonoaa
