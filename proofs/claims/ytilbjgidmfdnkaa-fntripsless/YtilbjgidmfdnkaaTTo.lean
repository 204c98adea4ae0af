/- Contracts of the law's copies of lists of trips. For all that together has at most 1048576 trips and numbers. -/
import Derived.Test.YtilbjgidmfdnkaaTOwn
namespace Go.Proofs.Ytilbjgidmfdnkaa.T
open Go.RowKit

theorem infoTrip : (Try.prog.info? 28).map (fun i => (i.zero, i.size, i.bytes)) = some (some (.agg #[.slice none 0 0, .int .i64 0]), 2, 32) := by kernel_rfl

def zeroP : R × Value := (([], 0), .slice none 0 0)

theorem made_two (n : Nat) : (madeCells #[.slice none 0 0, .int .i64 0] (n * 2)).toList = flat (List.replicate n zeroP) := by
  apply List.ext_getElem?
  intro i
  by_cases h : i < n * 2
  · have hq : i / 2 < n := by omega
    have hget : (List.replicate n zeroP)[i / 2]? = some zeroP := by simp [hq]
    obtain ⟨f0, f1⟩ := flat_get _ _ _ hget
    have hl : (madeCells #[.slice none 0 0, .int .i64 0] (n * 2)).toList[i]? = some (#[Value.slice none 0 0, .int .i64 0][i % 2]!) := by
      simp [madeCells, h]
    rw [hl]
    rcases (show i % 2 = 0 ∨ i % 2 = 1 by omega) with h0 | h0
    · rw [show i / 2 * 2 = i by omega] at f0; rw [f0, h0]; rfl
    · rw [show i / 2 * 2 + 1 = i by omega] at f1; rw [f1, h0]; rfl
  · rw [List.getElem?_eq_none (by simp [madeCells]; omega), List.getElem?_eq_none (by rw [flat_length]; simp; omega)]

/-- The value v is a list of just these records that the call itself has made, from lo on. -/
def Made (w : World) (lo : Nat) (v : Value) (rs : List R) : Prop := ∃ ps : List (R × Value), ps.map (·.1) = rs ∧ OwnRecs w lo w.heap.size v ps

theorem Made.recs {w : World} {lo : Nat} {v : Value} {rs : List R} (h : Made w lo v rs) : Recs w v rs := by
  obtain ⟨ps, rfl, ho⟩ := h
  exact ho.recs

/-- Two stores into a row of trips. -/
theorem stored2 {w : World} {base g n cap : Nat} {ps : List (R × Value)} (h : w.ownsRow base 28 2 (.slice (some ⟨g, 0, none⟩) n cap) n (flat ps)) (k : Nat) (hk : k < ps.length) (r : R) (u : Value) :
    ((w.setCell ⟨g, k * 2, none⟩ u).setCell ⟨g, k * 2 + 1, none⟩ (.int .i64 r.2)).ownsRow base 28 2 (.slice (some ⟨g, 0, none⟩) n cap) n (flat (ps.set k (r, u))) ∧
    w.grownBy ((w.setCell ⟨g, k * 2, none⟩ u).setCell ⟨g, k * 2 + 1, none⟩ (.int .i64 r.2)) (some g) := by
  have a1 := h.stored (k * 2) u
  have a2 := a1.1.stored (k * 2 + 1) (.int .i64 r.2)
  rw [flat_set ps k r u hk] at a2
  refine ⟨a2.1, ?_⟩
  refine ⟨rfl, rfl, rfl, by simp, fun j hj hne => ?_⟩
  rw [a2.2.block j (by simpa using hj) hne, a1.2.block j hj hne]

theorem rep_set (ps : List (R × Value)) (m : Nat) (p : R × Value) : (ps ++ List.replicate (m + 1) zeroP).set ps.length p = (ps ++ [p]) ++ List.replicate m zeroP := by
  rw [List.set_append_right _ _ (Nat.le_refl _), Nat.sub_self, List.replicate_succ]
  simp

/-- What one round of a copy does. -/
theorem toTrips_step {wr w2 : World} {W n k : Nat} {ps : List (R × Value)} {r : R} (hk : ps.length = k) (hkn : k < n)
    (hrow : wr.ownsRow W 28 2 (.slice (some ⟨W, 0, none⟩) n n) n (flat (ps ++ List.replicate (n - k) zeroP))) (hin : Inner wr W wr.heap.size ps) (hWr : W < wr.heap.size)
    (hb : Below wr.heap.size wr w2) (hown : w2.ownsRow (wr.heap.size + 3) 3 1 (.slice (some ⟨wr.heap.size + 3, 0, none⟩) r.1.length r.1.length) r.1.length (r.1.map (Value.int .i64))) :
    Hid (((w2.setCell ⟨W, k * 2, none⟩ (.slice (some ⟨wr.heap.size + 3, 0, none⟩) r.1.length r.1.length)).setCell ⟨W, k * 2 + 1, none⟩ (.int .i64 r.2)).ownsRow W 28 2 (.slice (some ⟨W, 0, none⟩) n n) n (flat ((ps ++ [(r, .slice (some ⟨wr.heap.size + 3, 0, none⟩) r.1.length r.1.length)]) ++ List.replicate (n - (k + 1)) zeroP)) ∧
    Inner ((w2.setCell ⟨W, k * 2, none⟩ (.slice (some ⟨wr.heap.size + 3, 0, none⟩) r.1.length r.1.length)).setCell ⟨W, k * 2 + 1, none⟩ (.int .i64 r.2)) W
      ((w2.setCell ⟨W, k * 2, none⟩ (.slice (some ⟨wr.heap.size + 3, 0, none⟩) r.1.length r.1.length)).setCell ⟨W, k * 2 + 1, none⟩ (.int .i64 r.2)).heap.size (ps ++ [(r, .slice (some ⟨wr.heap.size + 3, 0, none⟩) r.1.length r.1.length)])) := by
  have row2 := ownsRow_below hrow hb (fun j hj => by simp [Value.ownBlock] at hj; omega)
  have in2 := hin.below hb (Nat.le_refl _)
  obtain ⟨cur2, hc2⟩ := row_block hown
  have hlt : wr.heap.size + 3 < w2.heap.size := by
    by_cases h : wr.heap.size + 3 < w2.heap.size
    · exact h
    · rw [Array.getElem?_eq_none (by omega)] at hc2; cases hc2
  have in3 : Inner w2 W w2.heap.size (ps ++ [(r, .slice (some ⟨wr.heap.size + 3, 0, none⟩) r.1.length r.1.length)]) :=
    in2.snoc hb.size (Nat.le_refl _) (ownsRow_base hown (by omega)) (fun j hj => by simp [Value.ownBlock] at hj; omega)
  have st := stored2 row2 k (by simp; omega) r (.slice (some ⟨wr.heap.size + 3, 0, none⟩) r.1.length r.1.length)
  obtain ⟨cur, hcur⟩ := row_block row2
  refine ⟨?_, ?_⟩
  · have h := st.1
    rw [show n - k = (n - (k + 1)) + 1 by omega, ← hk, rep_set] at h
    rw [hk] at h
    rw [← hk, hk]
    exact h
  · have h := in3.kept st.2 (fun p hp => by
      have := in3.apart hcur (by decide) p hp
      exact Or.inr this)
    exact h.mono (by simp) (Nat.le_refl _)

end Go.Proofs.Ytilbjgidmfdnkaa.T
