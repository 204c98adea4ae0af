/- Lists of holds in memory, and the contracts of the law's helpers over them: how great one is, a copy, whether two are the same. For lists of at most 1048576 holds. -/
import Derived.Test.YtmkikenacnemkaaDoorKPure
import Derived.Test.YtmkikenacnemkaaDoorMark
import Derived.Deep.RegionWith
namespace Go.Proofs.YtmkikenacnemkaaDoor
open Go.RowKit

/-- Holds, as they lie in a row. -/
def hflat : List Pl.H → List Value
  | [] => []
  | h :: t => .int .i64 h.1 :: .int .i64 h.2 :: hflat t

theorem hflat_length (hs : List Pl.H) : (hflat hs).length = hs.length * 2 := by
  induction hs with
  | nil => rfl
  | cons p t ih => simp only [hflat, List.length_cons, ih]; omega
theorem hflat_get (hs : List Pl.H) (i : Nat) (h : i < hs.length) :
    (hflat hs)[i * 2]? = some (.int .i64 (hs.getD i (0, 0)).1) ∧ (hflat hs)[i * 2 + 1]? = some (.int .i64 (hs.getD i (0, 0)).2) := by
  induction hs generalizing i with
  | nil => simp at h
  | cons q t ih =>
    cases i with
    | zero => simp [hflat]
    | succ i =>
      have := ih i (by simpa using h)
      rw [show (i + 1) * 2 = i * 2 + 2 by omega]
      simpa [hflat] using this
theorem hflat_set (hs : List Pl.H) (k : Nat) (p : Pl.H) (h : k < hs.length) :
    ((hflat hs).set (k * 2) (.int .i64 p.1)).set (k * 2 + 1) (.int .i64 p.2) = hflat (hs.set k p) := by
  induction hs generalizing k with
  | nil => simp at h
  | cons q t ih =>
    cases k with
    | zero => simp [hflat]
    | succ k =>
      have := ih k (by simpa using h)
      rw [show (k + 1) * 2 = k * 2 + 2 by omega]
      simp only [hflat, List.set_cons_succ]
      rw [this]
theorem hflat_append (ps qs : List Pl.H) : hflat (ps ++ qs) = hflat ps ++ hflat qs := by
  induction ps with
  | nil => rfl
  | cons p t ih => simp [hflat, ih]

/-- The value v is a slice of just these holds in the world w. -/
def Holds (w : World) (v : Value) (hs : List Pl.H) : Prop :=
  (hs = [] ∧ ∃ ao cap, v = .slice ao 0 cap ∧ (ao = none → cap = 0)) ∨
  (∃ b off cap, v = .slice (some ⟨b, off, none⟩) hs.length cap ∧ hs ≠ [] ∧ ∀ k, k < hs.length → w.cell? ⟨b, off + k * 2, none⟩ = some (.int .i64 (hs.getD k (0, 0)).1) ∧ w.cell? ⟨b, off + k * 2 + 1, none⟩ = some (.int .i64 (hs.getD k (0, 0)).2))

theorem Holds.later {B : Nat} {w w' : World} {v : Value} {hs : List Pl.H} (h : Holds w v hs) (hb : Below B w w') (hB : w.heap.size ≤ B) : Holds w' v hs := by
  rcases h with h | ⟨b, off, cap, hv, hz, hc⟩
  · exact Or.inl h
  · refine Or.inr ⟨b, off, cap, hv, hz, fun k hk => ?_⟩
    obtain ⟨h1, h2⟩ := hc k hk
    have hl := World.block_lt_of_cell? _ _ h1
    simp at hl
    exact ⟨by rw [← h1]; exact hb.cell (p := ⟨b, off + k * 2, none⟩) (by simp; omega), by rw [← h2]; exact hb.cell (p := ⟨b, off + k * 2 + 1, none⟩) (by simp; omega)⟩

theorem Holds.shape {w : World} {v : Value} {hs : List Pl.H} (h : Holds w v hs) : ∃ ao cap, v = .slice ao hs.length cap := by
  rcases h with ⟨rfl, ao, cap, rfl, _⟩ | ⟨b, off, cap, rfl, _, _⟩
  · exact ⟨ao, cap, rfl⟩
  · exact ⟨_, cap, rfl⟩

/-- A row of holds that the call owns is a list of them. -/
theorem holds_of_row {w : World} {base : Nat} {v : Value} {hs : List Pl.H} (h : w.ownsRow base 40 2 v hs.length (hflat hs)) : Holds w v hs := by
  rcases h.2 with ⟨hv, hn⟩ | ⟨g, cap, cur, hv, _⟩
  · have : hs = [] := List.length_eq_zero_iff.1 hn
    exact Or.inl ⟨this, none, 0, hv, fun _ => rfl⟩
  · by_cases hz : hs = []
    · subst hz; exact Or.inl ⟨rfl, _, _, hv, fun h => by cases h⟩
    · subst hv
      refine Or.inr ⟨g, 0, cap, rfl, hz, fun k hk => ?_⟩
      obtain ⟨f0, f1⟩ := hflat_get hs k hk
      exact ⟨by rw [Nat.zero_add, h.cellAt _ (by omega)]; exact f0, by rw [Nat.zero_add, h.cellAt _ (by omega)]; exact f1⟩

theorem infoHold : (Tryd.prog.info? 40).map (fun i => (i.zero, i.size, i.bytes)) = some (some (.agg #[.int .i64 0, .int .i64 0]), 2, 16) := by kernel_rfl

theorem made_two (n : Nat) : (madeCells #[.int .i64 0, .int .i64 0] (n * 2)).toList = hflat (List.replicate n (0, 0)) := by
  apply List.ext_getElem?
  intro i
  by_cases h : i < n * 2
  · have hq : i / 2 < n := by omega
    obtain ⟨f0, f1⟩ := hflat_get (List.replicate n (0, 0)) (i / 2) (by simpa using hq)
    have hl : (madeCells #[.int .i64 0, .int .i64 0] (n * 2)).toList[i]? = some (#[Value.int .i64 0, .int .i64 0][i % 2]!) := by
      simp [madeCells, h]
    have hd : (List.replicate n ((0, 0) : Pl.H)).getD (i / 2) (0, 0) = (0, 0) := by simp [List.getD_eq_getElem?_getD, hq]
    rw [hd] at f0 f1
    rw [hl]
    rcases (show i % 2 = 0 ∨ i % 2 = 1 by omega) with h0 | h0
    · rw [show i / 2 * 2 = i by omega] at f0; rw [f0, h0]; rfl
    · rw [show i / 2 * 2 + 1 = i by omega] at f1; rw [f1, h0]; rfl
  · rw [List.getElem?_eq_none (by simp [madeCells]; omega), List.getElem?_eq_none (by rw [hflat_length]; simp; omega)]

/-- Two stores into a row of holds. -/
theorem stored2 {w : World} {base g n cap : Nat} {hs : List Pl.H} (h : w.ownsRow base 40 2 (.slice (some ⟨g, 0, none⟩) n cap) n (hflat hs)) (k : Nat) (hk : k < hs.length) (p : Pl.H) :
    ((w.setCell ⟨g, k * 2, none⟩ (.int .i64 p.1)).setCell ⟨g, k * 2 + 1, none⟩ (.int .i64 p.2)).ownsRow base 40 2 (.slice (some ⟨g, 0, none⟩) n cap) n (hflat (hs.set k p)) ∧
    w.grownBy ((w.setCell ⟨g, k * 2, none⟩ (.int .i64 p.1)).setCell ⟨g, k * 2 + 1, none⟩ (.int .i64 p.2)) (some g) := by
  have a1 := h.stored (k * 2) (.int .i64 p.1)
  have a2 := a1.1.stored (k * 2 + 1) (.int .i64 p.2)
  rw [hflat_set hs k p hk] at a2
  exact ⟨a2.1, grownBy_trans a1.2 a2.2⟩

end Go.Proofs.YtmkikenacnemkaaDoor
