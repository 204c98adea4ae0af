/- Contracts of the law's copies of lists of trips. For all that together has at most 1048576 trips and numbers. -/
import Derived.Test.YtmbgnmnlkbeaoaaDoorTOwn
namespace Go.Proofs.YtmbgnmnlkbeaoaaDoor.T
open Go.RowKit

theorem infoTrip : (Tryd.prog.info? 54).map (fun i => (i.zero, i.size, i.bytes)) = some (some (.agg #[.slice none 0 0, .int .i64 0]), 2, 32) := by kernel_rfl

def zeroP : R × Value := (([], 0), .slice none 0 0)

theorem made_two (n : Nat) : (madeCells #[.slice none 0 0, .int .i64 0] (n * 2)).toList = flat (List.replicate n zeroP) := by
  apply List.ext_getElem?
  intro i
  by_cases h : i < n * 2
  · have hq : i / 2 < n := by omega
    have hget : (List.replicate n zeroP)[i / 2]? = some zeroP := by simp [hq]
    obtain ⟨f0, f1⟩ := flat_get _ _ _ hget
    have hl : (madeCells #[.slice none 0 0, .int .i64 0] (n * 2)).toList[i]? = some (#[Value.slice none 0 0, .int .i64 0][i % 2]!) := by
      simp [madeCells, h]
    rw [hl]
    rcases (show i % 2 = 0 ∨ i % 2 = 1 by omega) with h0 | h0
    · rw [show i / 2 * 2 = i by omega] at f0; rw [f0, h0]; rfl
    · rw [show i / 2 * 2 + 1 = i by omega] at f1; rw [f1, h0]; rfl
  · rw [List.getElem?_eq_none (by simp [madeCells]; omega), List.getElem?_eq_none (by rw [flat_length]; simp; omega)]

/-- The value v is a list of just these records that the call itself has made, from lo on. -/
def Made (w : World) (lo : Nat) (v : Value) (rs : List R) : Prop := ∃ ps : List (R × Value), ps.map (·.1) = rs ∧ OwnRecs w lo w.heap.size v ps

theorem Made.recs {w : World} {lo : Nat} {v : Value} {rs : List R} (h : Made w lo v rs) : Recs w v rs := by
  obtain ⟨ps, rfl, ho⟩ := h
  exact ho.recs

/-- Two stores into a row of trips. -/
theorem stored2 {w : World} {base g n cap : Nat} {ps : List (R × Value)} (h : w.ownsRow base 54 2 (.slice (some ⟨g, 0, none⟩) n cap) n (flat ps)) (k : Nat) (hk : k < ps.length) (r : R) (u : Value) :
    ((w.setCell ⟨g, k * 2, none⟩ u).setCell ⟨g, k * 2 + 1, none⟩ (.int .i64 r.2)).ownsRow base 54 2 (.slice (some ⟨g, 0, none⟩) n cap) n (flat (ps.set k (r, u))) ∧
    w.grownBy ((w.setCell ⟨g, k * 2, none⟩ u).setCell ⟨g, k * 2 + 1, none⟩ (.int .i64 r.2)) (some g) := by
  have a1 := h.stored (k * 2) u
  have a2 := a1.1.stored (k * 2 + 1) (.int .i64 r.2)
  rw [flat_set ps k r u hk] at a2
  refine ⟨a2.1, ?_⟩
  refine ⟨rfl, rfl, rfl, by simp, fun j hj hne => ?_⟩
  rw [a2.2.block j (by simpa using hj) hne, a1.2.block j hj hne]

theorem rep_set (ps : List (R × Value)) (m : Nat) (p : R × Value) : (ps ++ List.replicate (m + 1) zeroP).set ps.length p = (ps ++ [p]) ++ List.replicate m zeroP := by
  rw [List.set_append_right _ _ (Nat.le_refl _), Nat.sub_self, List.replicate_succ]
  simp

/-- What one round of a copy does. -/
theorem toTrips_step {wr w2 : World} {W n k : Nat} {ps : List (R × Value)} {r : R} (hk : ps.length = k) (hkn : k < n)
    (hrow : wr.ownsRow W 54 2 (.slice (some ⟨W, 0, none⟩) n n) n (flat (ps ++ List.replicate (n - k) zeroP))) (hin : Inner wr W wr.heap.size ps) (hWr : W < wr.heap.size)
    (hb : Below wr.heap.size wr w2) (hown : w2.ownsRow (wr.heap.size + 3) 3 1 (.slice (some ⟨wr.heap.size + 3, 0, none⟩) r.1.length r.1.length) r.1.length (r.1.map (Value.int .i64))) :
    Hid (((w2.setCell ⟨W, k * 2, none⟩ (.slice (some ⟨wr.heap.size + 3, 0, none⟩) r.1.length r.1.length)).setCell ⟨W, k * 2 + 1, none⟩ (.int .i64 r.2)).ownsRow W 54 2 (.slice (some ⟨W, 0, none⟩) n n) n (flat ((ps ++ [(r, .slice (some ⟨wr.heap.size + 3, 0, none⟩) r.1.length r.1.length)]) ++ List.replicate (n - (k + 1)) zeroP)) ∧
    Inner ((w2.setCell ⟨W, k * 2, none⟩ (.slice (some ⟨wr.heap.size + 3, 0, none⟩) r.1.length r.1.length)).setCell ⟨W, k * 2 + 1, none⟩ (.int .i64 r.2)) W
      ((w2.setCell ⟨W, k * 2, none⟩ (.slice (some ⟨wr.heap.size + 3, 0, none⟩) r.1.length r.1.length)).setCell ⟨W, k * 2 + 1, none⟩ (.int .i64 r.2)).heap.size (ps ++ [(r, .slice (some ⟨wr.heap.size + 3, 0, none⟩) r.1.length r.1.length)])) := by
  have row2 := ownsRow_below hrow hb (fun j hj => by simp [Value.ownBlock] at hj; omega)
  have in2 := hin.below hb (Nat.le_refl _)
  obtain ⟨cur2, hc2⟩ := row_block hown
  have hlt : wr.heap.size + 3 < w2.heap.size := by
    by_cases h : wr.heap.size + 3 < w2.heap.size
    · exact h
    · rw [Array.getElem?_eq_none (by omega)] at hc2; cases hc2
  have in3 : Inner w2 W w2.heap.size (ps ++ [(r, .slice (some ⟨wr.heap.size + 3, 0, none⟩) r.1.length r.1.length)]) :=
    in2.snoc hb.size (Nat.le_refl _) (ownsRow_base hown (by omega)) (fun j hj => by simp [Value.ownBlock] at hj; omega)
  have st := stored2 row2 k (by simp; omega) r (.slice (some ⟨wr.heap.size + 3, 0, none⟩) r.1.length r.1.length)
  obtain ⟨cur, hcur⟩ := row_block row2
  refine ⟨?_, ?_⟩
  · have h := st.1
    rw [show n - k = (n - (k + 1)) + 1 by omega, ← hk, rep_set] at h
    rw [hk] at h
    rw [← hk, hk]
    exact h
  · have h := in3.kept st.2 (fun p hp => by
      have := in3.apart hcur (by decide) p hp
      exact Or.inr this)
    exact h.mono (by simp) (Nat.le_refl _)

set_option maxHeartbeats 1000000 in
theorem toTrips_any (v : Value) (rs : List R) (w : World) (hv : Recs w v rs) (hl : tot rs ≤ 1048576) :
    Calls Tryd.prog 9 #[v] w fun e w' => e = .returned (.slice (some ⟨w.heap.size, 0, none⟩) rs.length rs.length) ∧
      Made w' w.heap.size (.slice (some ⟨w.heap.size, 0, none⟩) rs.length rs.length) rs ∧ Below w.heap.size w w' := by
  obtain ⟨i0, hi, hz0, hz1, hz2⟩ := info_parts infoTrip
  have hlen := tot_len rs
  have HM : Hid (∀ r ∈ rs, r.1.length ≤ 1048576) := fun r hr => Nat.le_trans (tot_mem rs r hr) hl
  have hbytes : i0.bytes * rs.length ≤ 281474976710656 := by rw [hz2]; omega
  have hmax : rs.length ≤ maxLen := by unfold maxLen; omega
  rcases hv with ⟨rfl, ao, cap, rfl⟩ | ⟨b, off, cap, rfl, hz, hc⟩
  · go_enter Tryd.func9, Tryd.ntmps9
    go_wp2_with (at_make; refine wpList_make_full _ rfl _ _ 29 rfl w.heap.size 54 i0 (.agg #[.slice none 0 0, .int .i64 0]) 2 Tryd.underlying29 hi hz0 hz1 .i64 .i64 _ _ 0 rfl rfl rfl rfl hbytes hmax (Nat.le_refl _) ?_; intro w1 hown hgrow)
    have hs : w.heap.size < w1.heap.size := by
      obtain ⟨cur, hcur⟩ := row_block hown
      by_cases h : w.heap.size < w1.heap.size
      · exact h
      · rw [Array.getElem?_eq_none (by omega)] at hcur; cases hcur
    have HM1 : Hid (Made w1 w.heap.size (.slice (some ⟨w.heap.size, 0, none⟩) 0 0) []) := ⟨[], rfl, by
      have := made_two 0
      rw [show (Value.agg #[.slice none 0 0, .int .i64 0]).cells = #[.slice none 0 0, .int .i64 0] from rfl, this] at hown
      exact hown, fun k hk => by simp [Value.ownBlock] at hk; omega, Inner.nil _ _ _ (Nat.le_refl _)⟩
    have HB1 : Hid (Below w.heap.size w w1) := (Below.refl _ _).grown hgrow (Nat.le_refl _) (fun k h => by cases h)
    clear hown hgrow
    refine wp_loop_rounds 1 ?_
    rw [rounds_succ]
    go_wp2
    go_ret
    exact ⟨rfl, HM1.out, HB1.out⟩
  have HC : Hid (∀ i r, rs[i]? = some r → ∃ u, RecCells w b (off + i * 2) r u) := hc
  have hzl : 0 < rs.length := List.length_pos_iff.2 hz
  clear hc hz
  go_enter Tryd.func9, Tryd.ntmps9
  go_wp2_with (at_make; refine wpList_make_full _ rfl _ _ 29 rfl w.heap.size 54 i0 (.agg #[.slice none 0 0, .int .i64 0]) 2 Tryd.underlying29 hi hz0 hz1 .i64 .i64 _ _ rs.length rfl rfl rfl rfl hbytes hmax (Nat.le_refl _) ?_; intro w1 hown hgrow)
  have hown0 : w1.ownsRow w.heap.size 54 2 (.slice (some ⟨w.heap.size, 0, none⟩) rs.length rs.length) rs.length (flat ([] ++ List.replicate (rs.length - 0) zeroP)) := by
    have := made_two rs.length
    rw [show (Value.agg #[.slice none 0 0, .int .i64 0]).cells = #[.slice none 0 0, .int .i64 0] from rfl, this] at hown
    exact hown
  have hbel : Below w.heap.size w w1 := (Below.refl _ _).grown hgrow (Nat.le_refl _) (fun k h => by cases h)
  clear hown hgrow
  go_loopw [4] (fun i wr => ∃ (k : Nat) (ps : List (R × Value)), k ≤ rs.length ∧ i = .int .i64 k ∧ Hid (ps.map (·.1) = rs.take k) ∧ wr.ownsRow w.heap.size 54 2 (.slice (some ⟨w.heap.size, 0, none⟩) rs.length rs.length) rs.length (flat (ps ++ List.replicate (rs.length - k) zeroP)) ∧ Inner wr w.heap.size wr.heap.size ps ∧ Below w.heap.size w wr) (fun i _ => rs.length - (intOf i).toNat)
  case atStart => exact ⟨0, [], Nat.zero_le _, rfl, rfl, hown0, Inner.nil _ _ _ (Nat.le_refl _), hbel⟩
  case round =>
    obtain ⟨k, ps, hk, rfl, HP, hown, hin, hbe⟩ := hrel
    have HPL : Hid (ps.length = k) := by
      have := congrArg List.length HP.out
      simp at this
      show _ = _; omega
    obtain ⟨cur, hcur⟩ := row_block hown
    have hws : w.heap.size < wr.heap.size := by
      by_cases h : w.heap.size < wr.heap.size
      · exact h
      · rw [Array.getElem?_eq_none (by omega)] at hcur; cases hcur
    clear hcur
    by_cases hlt : k < rs.length
    · obtain ⟨r, hr⟩ : ∃ r, Hid (rs[k]? = some r) := ⟨rs[k], by show _ = _; simp [hlt]⟩
      have hrl : r.1.length ≤ 1048576 := HM.out r (List.mem_of_getElem? hr.out)
      obtain ⟨u, hu⟩ := HC.out k r hr.out
      obtain ⟨c0, c1, hI⟩ := hu.later hbe (Nat.le_refl _)
      have HI : Hid (Ints wr u r.1) := hI
      have HO : Hid (wr.ownsRow w.heap.size 54 2 (.slice (some ⟨w.heap.size, 0, none⟩) rs.length rs.length) rs.length (flat (ps ++ List.replicate (rs.length - k) zeroP))) := hown
      have HN : Hid (Inner wr w.heap.size wr.heap.size ps) := hin
      have HB : Hid (Below w.heap.size w wr) := hbe
      clear hI hu hown hin hbe
      go_wp2_with fail
      refine (toTrip_any r.2 u r.1 wr HI.out hrl).mono ?_
      rintro e w2 ⟨rfl, hown2, hb2⟩
      have ST := toTrips_step HPL.out hlt HO.out HN.out hws hb2 hown2
      have row2 := ownsRow_below HO.out hb2 (fun j hj => by simp [Value.ownBlock] at hj; omega)
      have cellEx : ∀ j, j < rs.length * 2 → ∃ x, w2.cell? ⟨w.heap.size, j, none⟩ = some x := fun j hj => by
        have h1 := row2.cellAt j hj
        have h2 : j < (flat (ps ++ List.replicate (rs.length - k) zeroP)).length := by rw [row2.1]; exact hj
        exact ⟨_, by rw [h1, List.getElem?_eq_getElem h2]⟩
      obtain ⟨x0, hx0⟩ := cellEx (k * 2) (by omega)
      obtain ⟨x1, hx1⟩ := cellEx (k * 2 + 1) (by omega)
      have f0 := row2.frozenAt (k * 2)
      have f1 := row2.frozenAt (k * 2 + 1)
      have HB2 : Hid (Below w.heap.size w w2) := HB.out.trans (hb2.mono HB.out.size)
      clear cellEx row2 hb2 hown2
      go_wp2
      go_roundw
      case rel =>
        refine ⟨k + 1, ps ++ [(r, .slice (some ⟨wr.heap.size + 3, 0, none⟩) r.1.length r.1.length)], by omega, by go_num, ?_, ST.out.1, ST.out.2, ?_⟩
        · show _ = _
          have hkl : k < rs.length := by omega
          have hrk : rs[k] = r := by have := hr.out; rw [List.getElem?_eq_getElem hkl] at this; simpa using this
          rw [List.map_append, HP.out, List.take_succ_eq_append_getElem hkl, hrk]
          rfl
        · exact (HB2.out.setCell (Nat.le_refl _) _).setCell (Nat.le_refl _) _
      case measure => simp [intOf]; omega
    · have HD : Hid (Made wr w.heap.size (.slice (some ⟨w.heap.size, 0, none⟩) rs.length rs.length) rs) := by
        have hke : k = rs.length := by omega
        refine ⟨ps, by rw [HP.out, hke, List.take_length], ?_, fun j hj => by simp [Value.ownBlock] at hj; omega, hin⟩
        rw [hke, Nat.sub_self] at hown
        simp only [List.replicate_zero, List.append_nil] at hown
        have hpl : ps.length = rs.length := by rw [HPL.out, hke]
        rw [hpl]
        exact hown
      clear hown hin
      go_wp2
      go_ret
      exact ⟨rfl, HD.out, hbe⟩

end Go.Proofs.YtmbgnmnlkbeaoaaDoor.T
