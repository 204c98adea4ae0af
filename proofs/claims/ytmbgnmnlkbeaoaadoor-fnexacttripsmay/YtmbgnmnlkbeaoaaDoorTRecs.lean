/- Lists of trips in memory, and how great one is. For every list of trips. -/
import Derived.Test.YtmbgnmnlkbeaoaaDoorTRec
namespace Go.Proofs.YtmbgnmnlkbeaoaaDoor.T
open Go.RowKit

/-- A trip as plain data: what it wants, its state. -/
abbrev R := List Int × Int

/-- A record lies at this place of a block. -/
def RecCells (w : World) (b o : Nat) (r : R) (u : Value) : Prop :=
  w.cell? ⟨b, o, none⟩ = some u ∧ w.cell? ⟨b, o + 1, none⟩ = some (.int .i64 r.2) ∧ Ints w u r.1

/-- The value v is a slice of just these records in the world w. -/
def Recs (w : World) (v : Value) (rs : List R) : Prop :=
  (rs = [] ∧ ∃ ao cap, v = .slice ao 0 cap) ∨
  (∃ b off cap, v = .slice (some ⟨b, off, none⟩) rs.length cap ∧ rs ≠ [] ∧ ∀ i r, rs[i]? = some r → ∃ u, RecCells w b (off + i * 2) r u)

/-- How many numbers the first k records have together; all of them, and the records. -/
def pre (rs : List R) (k : Nat) : Nat := ((rs.take k).map fun r => r.1.length).sum
def tot (rs : List R) : Nat := rs.length + pre rs rs.length
theorem pre_zero (rs : List R) : pre rs 0 = 0 := by simp [pre]
theorem pre_succ (rs : List R) (k : Nat) (r : R) (h : rs[k]? = some r) : pre rs (k + 1) = pre rs k + r.1.length := by
  have hk : k < rs.length := by
    by_cases hk : k < rs.length
    · exact hk
    · rw [List.getElem?_eq_none (by omega)] at h; cases h
  rw [List.getElem?_eq_getElem hk] at h
  simp only [Option.some.injEq] at h
  unfold pre
  rw [List.take_succ_eq_append_getElem hk, h]
  simp
theorem pre_le (rs : List R) (k : Nat) : pre rs k ≤ pre rs rs.length := by
  unfold pre
  rw [List.take_length]
  have h : (rs.map fun r : R => r.1.length).sum = ((rs.take k ++ rs.drop k).map fun r : R => r.1.length).sum := by rw [List.take_append_drop]
  rw [h, List.map_append, List.sum_append_nat]
  exact Nat.le_add_right _ _
theorem tot_len (rs : List R) : rs.length ≤ tot rs := by unfold tot; omega
theorem tot_mem (rs : List R) (r : R) (h : r ∈ rs) : r.1.length ≤ tot rs := by
  obtain ⟨i, hi, hr⟩ := List.mem_iff_getElem.1 h
  have h1 := pre_succ rs i r (by rw [List.getElem?_eq_getElem hi, hr])
  have h2 := pre_le rs (i + 1)
  unfold tot; omega


theorem RecCells.later {B : Nat} {w w' : World} {b o : Nat} {r : R} {u : Value} (h : RecCells w b o r u) (hb : Below B w w') (hB : w.heap.size ≤ B) : RecCells w' b o r u := by
  obtain ⟨h0, h1, h3⟩ := h
  have hlt := World.block_lt_of_cell? _ _ h0
  simp at hlt
  exact ⟨by rw [← h0]; exact hb.cell (p := ⟨b, o, none⟩) (by simp; omega), by rw [← h1]; exact hb.cell (p := ⟨b, o + 1, none⟩) (by simp; omega), h3.later hb hB⟩

theorem Recs.later {B : Nat} {w w' : World} {v : Value} {rs : List R} (h : Recs w v rs) (hb : Below B w w') (hB : w.heap.size ≤ B) : Recs w' v rs := by
  rcases h with h | ⟨b, off, cap, hv, hz, hc⟩
  · exact Or.inl h
  · refine Or.inr ⟨b, off, cap, hv, hz, fun i r hr => ?_⟩
    obtain ⟨u, hu⟩ := hc i r hr
    exact ⟨u, hu.later hb hB⟩

theorem Recs.shape {w : World} {v : Value} {rs : List R} (h : Recs w v rs) : ∃ ao cap, v = .slice ao rs.length cap := by
  rcases h with ⟨rfl, ao, cap, rfl⟩ | ⟨b, off, cap, rfl, _, _⟩
  · exact ⟨ao, cap, rfl⟩
  · exact ⟨_, cap, rfl⟩

set_option maxHeartbeats 1000000 in
theorem szRecs_any (v : Value) (rs : List R) (left : Int) (w : World) (hv : Recs w v rs) (hl : (rs.length : Int) ≤ 9223372036854775807) (hls : ∀ r ∈ rs, (r.1.length : Int) ≤ 9223372036854775807) (h0 : 0 ≤ left) (h1 : left ≤ 1048576) :
    Calls Tryd.prog 6 #[v, .int .i64 left] w fun e w' => e = .returned (.int .i64 (leftOf left (tot rs))) ∧ Below w.heap.size w w' := by
  have HL : Hid (∀ r ∈ rs, (r.1.length : Int) ≤ 9223372036854775807) := hls
  clear hls
  by_cases hg : left - (rs.length : Int) < 0
  · have HE : Hid (leftOf left (tot rs) = -1) := by exact leftOf_neg (by have := tot_len rs; omega)
    obtain ⟨ao, cap, rfl⟩ := hv.shape
    clear hv HL
    go_enter Tryd.func6, Tryd.ntmps6
    go_wp2
    go_ret
    exact ⟨by rw [HE.out]; rfl, Below.refl _ _⟩
  rcases hv with ⟨rfl, ao, cap, rfl⟩ | ⟨b, off, cap, rfl, hz, hc⟩
  · have HE : Hid (leftOf left (tot []) = left) := by show _ = _; rw [leftOf_pos (by simp [tot, pre]; omega)]; simp [tot, pre]
    clear HL hg
    go_enter Tryd.func6, Tryd.ntmps6
    go_wp2
    refine wp_loop_rounds 1 ?_
    rw [rounds_succ]
    go_wp2
    go_ret
    exact ⟨by rw [HE.out]; rfl, Below.refl _ _⟩
  · have HC : Hid (∀ i r, rs[i]? = some r → ∃ u, RecCells w b (off + i * 2) r u) := hc
    have hzl : 0 < rs.length := List.length_pos_iff.2 hz
    clear hc hz
    go_enter Tryd.func6, Tryd.ntmps6
    go_wp2
    go_loopw [1, 5] (fun l i wr => ∃ (k : Nat) (L : Int), k ≤ rs.length ∧ i = .int .i64 k ∧ l = .int .i64 L ∧ 0 ≤ L ∧ L ≤ 1048576 ∧ Hid (L = left - rs.length - pre rs k) ∧ Below w.heap.size w wr) (fun _ i _ => rs.length - (intOf i).toNat)
    case atStart => exact ⟨0, _, Nat.zero_le _, rfl, rfl, by omega, by omega, by show _ = _; rw [pre_zero]; simp, Below.refl _ _⟩
    case round =>
      obtain ⟨k, L, hk, rfl, rfl, hL0, hL1, HD, hbe⟩ := hrel
      by_cases hlt : k < rs.length
      · obtain ⟨r, hr⟩ : ∃ r, Hid (rs[k]? = some r) := ⟨rs[k], by show _ = _; simp [hlt]⟩
        have hrl : (r.1.length : Int) ≤ 9223372036854775807 := HL.out r (List.mem_of_getElem? hr.out)
        have HP : Hid (pre rs (k + 1) = pre rs k + r.1.length) := pre_succ rs k r hr.out
        have HP2 : Hid (pre rs (k + 1) ≤ pre rs rs.length) := pre_le rs (k + 1)
        obtain ⟨u, hu⟩ := HC.out k r hr.out
        obtain ⟨c0, c1, hI⟩ := hu.later hbe (Nat.le_refl _)
        obtain ⟨ao, cp, rfl⟩ := hI.shape
        have HB : Hid (Below w.heap.size w wr) := hbe
        have hsz := szTrip_any r.2 ao r.1.length cp L wr hrl hL0 hL1
        clear hI hu hbe
        by_cases hn : L - (r.1.length : Int) < 0
        · rw [if_pos hn] at hsz
          have HE : Hid (leftOf left (tot rs) = -1) := by
            exact leftOf_neg (by have := HD.out; have := HP.out; have := HP2.out; unfold tot; omega)
          have HS := hsz
          clear hsz
          go_wp2_with fail
          refine HS.mono ?_
          rintro e w2 ⟨rfl, hb2⟩
          go_wp2
          go_ret
          exact ⟨by rw [HE.out]; rfl, HB.out.trans (hb2.mono HB.out.size)⟩
        · rw [if_neg hn] at hsz
          have HS := hsz
          clear hsz
          go_wp2_with fail
          refine HS.mono ?_
          rintro e w2 ⟨rfl, hb2⟩
          have HB2 : Hid (Below w.heap.size w w2) := HB.out.trans (hb2.mono HB.out.size)
          clear hb2
          go_wp2
          go_roundw
          case rel => exact ⟨k + 1, _, by omega, by go_num, rfl, by omega, by omega, by show _ = _; have := HD.out; have := HP.out; omega, HB2.out⟩
          case measure => simp [intOf]; omega
      · have HE : Hid (leftOf left (tot rs) = L) := by
          show _ = _
          have hke : k = rs.length := by omega
          have := HD.out
          rw [hke] at this
          rw [leftOf_pos (by unfold tot; omega)]
          unfold tot; omega
        go_wp2
        go_ret
        exact ⟨by rw [HE.out]; rfl, hbe⟩

end Go.Proofs.YtmbgnmnlkbeaoaaDoor.T
