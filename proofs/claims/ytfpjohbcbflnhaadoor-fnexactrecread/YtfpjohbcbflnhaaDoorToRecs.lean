/- Contracts of the law's copies of lists of records and of logs. For all that together has at most 1048576 records and numbers. -/
import Derived.Test.YtfpjohbcbflnhaaDoorOwn
namespace Go.Proofs.YtfpjohbcbflnhaaDoor
open Go.RowKit

theorem infoRec : (Tryd.prog.info? 25).map (fun i => (i.zero, i.size, i.bytes)) = some (some (.agg #[.int .i64 0, .int .i64 0, .slice none 0 0]), 3, 40) := by kernel_rfl

def zeroP : R × Value := ((0, 0, []), .slice none 0 0)

theorem made_three (n : Nat) : (madeCells #[.int .i64 0, .int .i64 0, .slice none 0 0] (n * 3)).toList = flat (List.replicate n zeroP) := by
  apply List.ext_getElem?
  intro i
  by_cases h : i < n * 3
  · have hq : i / 3 < n := by omega
    have hget : (List.replicate n zeroP)[i / 3]? = some zeroP := by simp [hq]
    obtain ⟨f0, f1, f2⟩ := flat_get _ _ _ hget
    have hl : (madeCells #[.int .i64 0, .int .i64 0, .slice none 0 0] (n * 3)).toList[i]? = some (#[Value.int .i64 0, .int .i64 0, .slice none 0 0][i % 3]!) := by
      simp [madeCells, h]
    rw [hl]
    rcases (show i % 3 = 0 ∨ i % 3 = 1 ∨ i % 3 = 2 by omega) with h0 | h0 | h0
    · rw [show i / 3 * 3 = i by omega] at f0; rw [f0, h0]; rfl
    · rw [show i / 3 * 3 + 1 = i by omega] at f1; rw [f1, h0]; rfl
    · rw [show i / 3 * 3 + 2 = i by omega] at f2; rw [f2, h0]; rfl
  · rw [List.getElem?_eq_none (by simp [madeCells]; omega), List.getElem?_eq_none (by rw [flat_length]; simp; omega)]

theorem ownsRow_base {w : World} {base base' : Nat} {e : TypeId} {size : Nat} {v : Value} {n : Nat} {xs : List Value} (h : w.ownsRow base e size v n xs) (hb : base' ≤ base) : w.ownsRow base' e size v n xs := by
  obtain ⟨h1, h2⟩ := h
  refine ⟨h1, ?_⟩
  rcases h2 with h2 | ⟨g, cap, cur, hv, hg, r⟩
  · exact Or.inl h2
  · exact Or.inr ⟨g, cap, cur, hv, by omega, r⟩

/-- The value v is a list of just these records that the call itself has made, from lo on. -/
def Made (w : World) (lo : Nat) (v : Value) (rs : List R) : Prop := ∃ ps : List (R × Value), ps.map (·.1) = rs ∧ OwnRecs w lo w.heap.size v ps

theorem Made.recs {w : World} {lo : Nat} {v : Value} {rs : List R} (h : Made w lo v rs) : Recs w v rs := by
  obtain ⟨ps, rfl, ho⟩ := h
  exact ho.recs

/-- Three stores into a row of records. -/
theorem stored3 {w : World} {base g n cap : Nat} {ps : List (R × Value)} (h : w.ownsRow base 25 3 (.slice (some ⟨g, 0, none⟩) n cap) n (flat ps)) (k : Nat) (hk : k < ps.length) (r : R) (u : Value) :
    (((w.setCell ⟨g, k * 3, none⟩ (.int .i64 r.1)).setCell ⟨g, k * 3 + 1, none⟩ (.int .i64 r.2.1)).setCell ⟨g, k * 3 + 2, none⟩ u).ownsRow base 25 3 (.slice (some ⟨g, 0, none⟩) n cap) n (flat (ps.set k (r, u))) ∧
    w.grownBy (((w.setCell ⟨g, k * 3, none⟩ (.int .i64 r.1)).setCell ⟨g, k * 3 + 1, none⟩ (.int .i64 r.2.1)).setCell ⟨g, k * 3 + 2, none⟩ u) (some g) := by
  have a1 := h.stored (k * 3) (.int .i64 r.1)
  have a2 := a1.1.stored (k * 3 + 1) (.int .i64 r.2.1)
  have a3 := a2.1.stored (k * 3 + 2) u
  rw [flat_set ps k r u hk] at a3
  refine ⟨a3.1, ?_⟩
  refine ⟨rfl, rfl, rfl, by simp, fun j hj hne => ?_⟩
  rw [a3.2.block j (by simpa using hj) hne, a2.2.block j (by simpa using hj) hne, a1.2.block j hj hne]

theorem row_block {w : World} {base : Nat} {e : TypeId} {size g n cap : Nat} {xs : List Value} (h : w.ownsRow base e size (.slice (some ⟨g, 0, none⟩) n cap) n xs) : ∃ cur, w.heap[g]? = some (.cells cur e (0, 0)) := by
  rcases h.2 with ⟨h', _⟩ | ⟨g', cap', cur, h', _, hg, _⟩
  · simp at h'
  · simp only [Value.slice.injEq, Option.some.injEq, Addr.mk.injEq, and_true, true_and] at h'
    obtain ⟨rfl, rfl⟩ := h'
    exact ⟨cur, hg⟩

theorem rep_set (ps : List (R × Value)) (m : Nat) (p : R × Value) : (ps ++ List.replicate (m + 1) zeroP).set ps.length p = (ps ++ [p]) ++ List.replicate m zeroP := by
  rw [List.set_append_right _ _ (Nat.le_refl _), Nat.sub_self, List.replicate_succ]
  simp

/-- What one round of a copy does. -/
theorem toRecs_step {wr w2 : World} {W n k : Nat} {ps : List (R × Value)} {r : R} (hk : ps.length = k) (hkn : k < n)
    (hrow : wr.ownsRow W 25 3 (.slice (some ⟨W, 0, none⟩) n n) n (flat (ps ++ List.replicate (n - k) zeroP))) (hin : Inner wr W wr.heap.size ps) (hWr : W < wr.heap.size)
    (hb : Below wr.heap.size wr w2) (hown : w2.ownsRow (wr.heap.size + 3) 3 1 (.slice (some ⟨wr.heap.size + 3, 0, none⟩) r.2.2.length r.2.2.length) r.2.2.length (r.2.2.map (Value.int .i64))) :
    Hid ((((w2.setCell ⟨W, k * 3, none⟩ (.int .i64 r.1)).setCell ⟨W, k * 3 + 1, none⟩ (.int .i64 r.2.1)).setCell ⟨W, k * 3 + 2, none⟩ (.slice (some ⟨wr.heap.size + 3, 0, none⟩) r.2.2.length r.2.2.length)).ownsRow W 25 3 (.slice (some ⟨W, 0, none⟩) n n) n (flat ((ps ++ [(r, .slice (some ⟨wr.heap.size + 3, 0, none⟩) r.2.2.length r.2.2.length)]) ++ List.replicate (n - (k + 1)) zeroP)) ∧
    Inner (((w2.setCell ⟨W, k * 3, none⟩ (.int .i64 r.1)).setCell ⟨W, k * 3 + 1, none⟩ (.int .i64 r.2.1)).setCell ⟨W, k * 3 + 2, none⟩ (.slice (some ⟨wr.heap.size + 3, 0, none⟩) r.2.2.length r.2.2.length)) W
      (((w2.setCell ⟨W, k * 3, none⟩ (.int .i64 r.1)).setCell ⟨W, k * 3 + 1, none⟩ (.int .i64 r.2.1)).setCell ⟨W, k * 3 + 2, none⟩ (.slice (some ⟨wr.heap.size + 3, 0, none⟩) r.2.2.length r.2.2.length)).heap.size (ps ++ [(r, .slice (some ⟨wr.heap.size + 3, 0, none⟩) r.2.2.length r.2.2.length)])) := by
  have row2 := ownsRow_below hrow hb (fun j hj => by simp [Value.ownBlock] at hj; omega)
  have in2 := hin.below hb (Nat.le_refl _)
  obtain ⟨cur2, hc2⟩ := row_block hown
  have hlt : wr.heap.size + 3 < w2.heap.size := by
    by_cases h : wr.heap.size + 3 < w2.heap.size
    · exact h
    · rw [Array.getElem?_eq_none (by omega)] at hc2; cases hc2
  have in3 : Inner w2 W w2.heap.size (ps ++ [(r, .slice (some ⟨wr.heap.size + 3, 0, none⟩) r.2.2.length r.2.2.length)]) :=
    in2.snoc hb.size (Nat.le_refl _) (ownsRow_base hown (by omega)) (fun j hj => by simp [Value.ownBlock] at hj; omega)
  have st := stored3 row2 k (by simp; omega) r (.slice (some ⟨wr.heap.size + 3, 0, none⟩) r.2.2.length r.2.2.length)
  obtain ⟨cur, hcur⟩ := row_block row2
  refine ⟨?_, ?_⟩
  · have h := st.1
    rw [show n - k = (n - (k + 1)) + 1 by omega, ← hk, rep_set] at h
    rw [hk] at h
    rw [← hk, hk]
    exact h
  · have h := in3.kept st.2 (fun p hp => by
      have := in3.apart hcur (by decide) p hp
      exact Or.inr this)
    exact h.mono (by simp) (Nat.le_refl _)

end Go.Proofs.YtfpjohbcbflnhaaDoor
