/- Contracts of what says whether trips are ok: the specification's, and the program's. For all that together has at most 1048576 trips and numbers. -/
import Derived.Test.YtilbjgidmfdnkaaTMark
import Derived.Test.YtilbjgidmfdnkaaWanted
namespace Go.Proofs.Ytilbjgidmfdnkaa.T
open Go.RowKit

def tOk (r : R) : Bool := Pl.manyOk r.1 && Pl.inB r.2 1 5
def tripsOk (rs : List R) : Bool := rs.all tOk && decide (rs.length ≤ 6)

theorem all_snoc (rs : List R) (k : Nat) (r : R) (h : rs[k]? = some r) : (rs.take (k + 1)).all tOk = ((rs.take k).all tOk && tOk r) := by
  have hk : k < rs.length := by
    by_cases hk : k < rs.length
    · exact hk
    · rw [List.getElem?_eq_none (by omega)] at h; cases h
  rw [List.getElem?_eq_getElem hk] at h
  simp only [Option.some.injEq] at h
  rw [List.take_succ_eq_append_getElem hk, h]
  simp
theorem all_bad (rs : List R) (k : Nat) (r : R) (h : rs[k]? = some r) (hb : tOk r = false) : rs.all tOk = false := by
  rw [List.all_eq_false]
  exact ⟨r, List.mem_of_getElem? h, by rw [hb]; decide⟩
theorem tripsOk_bad {rs : List R} (h : rs.all tOk = false) : tripsOk rs = false := by unfold tripsOk; rw [h]; rfl

theorem stateOk_any (s : Int) (w : World) :
    Calls Try.prog 12 #[.int .i64 s] w fun e w' => e = .returned (.bool (Pl.inB s 1 5)) ∧ w' = w := by
  by_cases h1 : 1 ≤ s
  all_goals by_cases h2 : s ≤ 5
  all_goals
    go_enter Try.func12, Try.ntmps12
    go_wp2
    go_ret
    exact ⟨by simp [Pl.inB, h1, h2], rfl⟩

set_option maxHeartbeats 1000000 in
theorem specTripsOk_any (v : Value) (rs : List R) (w : World) (hv : Recs w v rs) (hl : tot rs ≤ 1048576) :
    Calls Try.prog 6 #[v] w fun e w' => e = .returned (.bool (tripsOk rs)) ∧ Below w.heap.size w w' := by
  have hlen := tot_len rs
  have HM : Hid (∀ r ∈ rs, r.1.length ≤ 1048576) := fun r hr => Nat.le_trans (tot_mem rs r hr) hl
  rcases hv with ⟨rfl, ao, cap, rfl⟩ | ⟨b, off, cap, rfl, hz, hc⟩
  · go_enter Try.func6, Try.ntmps6
    go_wp2
    refine wp_loop_rounds 1 ?_
    rw [rounds_succ]
    go_wp2
    go_ret
    exact ⟨rfl, Below.refl _ _⟩
  have HC : Hid (∀ i r, rs[i]? = some r → ∃ u, RecCells w b (off + i * 2) r u) := hc
  have hzl : 0 < rs.length := List.length_pos_iff.2 hz
  clear hc hz
  go_enter Try.func6, Try.ntmps6
  go_wp2
  go_loopw [3] (fun i wr => ∃ k : Nat, k ≤ rs.length ∧ i = .int .i64 k ∧ Hid ((rs.take k).all tOk = true) ∧ Below w.heap.size w wr) (fun i _ => rs.length - (intOf i).toNat)
  case atStart => exact ⟨0, Nat.zero_le _, rfl, rfl, Below.refl _ _⟩
  case round =>
    obtain ⟨k, hk, rfl, HA, hbe⟩ := hrel
    by_cases hlt : k < rs.length
    · obtain ⟨r, hr⟩ : ∃ r, Hid (rs[k]? = some r) := ⟨rs[k], by show _ = _; simp [hlt]⟩
      have hrl : r.1.length ≤ 1048576 := HM.out r (List.mem_of_getElem? hr.out)
      obtain ⟨u, hu⟩ := HC.out k r hr.out
      obtain ⟨c0, c1, hI⟩ := hu.later hbe (Nat.le_refl _)
      have HI : Hid (∀ W, Below wr.heap.size wr W → Ints W u r.1) := fun W h => hI.later h (Nat.le_refl _)
      have HB : Hid (Below w.heap.size w wr) := hbe
      clear hI hu hbe
      cases h1 : Pl.manyOk r.1
      · have HE : Hid (tripsOk rs = false) := tripsOk_bad (all_bad rs k r hr.out (by unfold tOk; rw [h1]; rfl))
        have HS : Hid (∀ W, Below wr.heap.size wr W → Calls Try.prog 13 #[u] W fun e w' => e = .returned (.bool false) ∧ w' = W) := fun W h => by
          have := many_any u r.1 W (HI.out W h) hrl
          rw [h1] at this; exact this
        clear h1
        go_wp2_with (first | (go_at_call 13; refine (HS.out _ ?_).mono ?_; exact Below.refl _ _; rintro e w2 ⟨rfl, rfl⟩))
        go_ret
        exact ⟨by rw [HE.out]; rfl, HB.out⟩
      have HS : Hid (∀ W, Below wr.heap.size wr W → Calls Try.prog 13 #[u] W fun e w' => e = .returned (.bool true) ∧ w' = W) := fun W h => by
        have := many_any u r.1 W (HI.out W h) hrl
        rw [h1] at this; exact this
      cases h2 : Pl.inB r.2 1 5
      · have HE : Hid (tripsOk rs = false) := tripsOk_bad (all_bad rs k r hr.out (by unfold tOk; rw [h2, h1]; rfl))
        have HN : Hid (∀ W, Calls Try.prog 14 #[.int .i64 r.2, .int .i64 1, .int .i64 5] W fun e w' => e = .returned (.bool false) ∧ w' = W) := fun W => by
          have := in_any r.2 1 5 W
          rw [h2] at this; exact this
        clear h1 h2
        go_wp2_with (first | (go_at_call 13; refine (HS.out _ ?_).mono ?_; exact Below.refl _ _; rintro e w2 ⟨rfl, rfl⟩) | (go_at_call 14; refine (HN.out _).mono ?_; rintro e w3 ⟨rfl, rfl⟩))
        go_ret
        exact ⟨by rw [HE.out]; rfl, HB.out⟩
      · have HA2 : Hid ((rs.take (k + 1)).all tOk = true) := by show _ = _; rw [all_snoc rs k r hr.out, HA.out]; unfold tOk; rw [h1, h2]; rfl
        have HN : Hid (∀ W, Calls Try.prog 14 #[.int .i64 r.2, .int .i64 1, .int .i64 5] W fun e w' => e = .returned (.bool true) ∧ w' = W) := fun W => by
          have := in_any r.2 1 5 W
          rw [h2] at this; exact this
        clear h1 h2
        go_wp2_with (first | (go_at_call 13; refine (HS.out _ ?_).mono ?_; exact Below.refl _ _; rintro e w2 ⟨rfl, rfl⟩) | (go_at_call 14; refine (HN.out _).mono ?_; rintro e w3 ⟨rfl, rfl⟩))
        go_roundw
        case rel => exact ⟨k + 1, by omega, by go_num, HA2, HB.out⟩
        case measure => simp [intOf]; omega
    · have HE : Hid (tripsOk rs = decide (rs.length ≤ 6)) := by
        show _ = _
        have hke : k = rs.length := by omega
        have := HA.out
        rw [hke, List.take_length] at this
        unfold tripsOk; rw [this]; rfl
      by_cases h6 : (rs.length : Int) ≤ 6
      · have HE2 : Hid (decide (rs.length ≤ 6) = true) := by show _ = _; simp; omega
        go_wp2
        go_ret
        exact ⟨by rw [HE.out, HE2.out]; rfl, hbe⟩
      · have HE2 : Hid (decide (rs.length ≤ 6) = false) := by show _ = _; simp; omega
        go_wp2
        go_ret
        exact ⟨by rw [HE.out, HE2.out]; rfl, hbe⟩

set_option maxHeartbeats 1000000 in
theorem implTripsOk_any (v : Value) (rs : List R) (w : World) (hv : Recs w v rs) (hl : tot rs ≤ 1048576) :
    Calls Try.prog 5 #[v] w fun e w' => e = .returned (.bool (tripsOk rs)) ∧ Below w.heap.size w w' := by
  have hlen := tot_len rs
  have HM : Hid (∀ r ∈ rs, r.1.length ≤ 1048576) := fun r hr => Nat.le_trans (tot_mem rs r hr) hl
  by_cases h6 : 6 < (rs.length : Int)
  · have HE : Hid (tripsOk rs = false) := by
      have : decide (rs.length ≤ 6) = false := by simp; omega
      show _ = _; unfold tripsOk; rw [this]; simp
    obtain ⟨ao, cap, rfl⟩ := hv.shape
    clear hv
    go_enter Try.func5, Try.ntmps5
    go_wp2
    go_ret
    exact ⟨by rw [HE.out]; rfl, Below.refl _ _⟩
  rcases hv with ⟨rfl, ao, cap, rfl⟩ | ⟨b, off, cap, rfl, hz, hc⟩
  · go_enter Try.func5, Try.ntmps5
    go_wp2
    refine wp_loop_rounds 1 ?_
    rw [rounds_succ]
    go_wp2
    go_ret
    exact ⟨rfl, Below.refl _ _⟩
  have HC : Hid (∀ i r, rs[i]? = some r → ∃ u, RecCells w b (off + i * 2) r u) := hc
  have hzl : 0 < rs.length := List.length_pos_iff.2 hz
  clear hc hz
  go_enter Try.func5, Try.ntmps5
  go_wp2
  go_loopw [10] (fun i wr => ∃ k : Nat, k ≤ rs.length ∧ i = .int .i64 k ∧ Hid ((rs.take k).all tOk = true) ∧ Below w.heap.size w wr) (fun i _ => rs.length - (intOf i).toNat)
  case atStart => exact ⟨0, Nat.zero_le _, rfl, rfl, Below.refl _ _⟩
  case round =>
    obtain ⟨k, hk, rfl, HA, hbe⟩ := hrel
    by_cases hlt : k < rs.length
    · obtain ⟨r, hr⟩ : ∃ r, Hid (rs[k]? = some r) := ⟨rs[k], by show _ = _; simp [hlt]⟩
      have hrl : r.1.length ≤ 1048576 := HM.out r (List.mem_of_getElem? hr.out)
      obtain ⟨u, hu⟩ := HC.out k r hr.out
      obtain ⟨c0, c1, hI⟩ := hu.later hbe (Nat.le_refl _)
      have hbw : b < wr.heap.size := World.block_lt_of_cell? _ _ c0
      have HI : Hid (∀ W, Below wr.heap.size wr W → Ints W u r.1) := fun W h => hI.later h (Nat.le_refl _)
      obtain ⟨au, cu, rfl⟩ := hI.shape
      have HB : Hid (Below w.heap.size w wr) := hbe
      have hws := hbe.size
      clear hI hu hbe
      cases h1 : Pl.manyOk r.1
      · have HE : Hid (tripsOk rs = false) := tripsOk_bad (all_bad rs k r hr.out (by unfold tOk; rw [h1]; rfl))
        have HS : Hid (∀ W, Below wr.heap.size wr W → Calls Try.prog 11 #[.slice au r.1.length cu] W fun e w' => e = .returned (.bool false) ∧ w' = W) := fun W h => by
          have := wanted_any _ r.1 W (HI.out W h) hrl
          rw [h1] at this; exact this
        clear h1
        go_wp2_with (first | (go_at_call 11; refine (HS.out _ ?_).mono ?_; exact (Below.refl _ _).alloc (Nat.le_refl _) _; rintro e w2 ⟨rfl, rfl⟩))
        go_ret
        exact ⟨by rw [HE.out]; rfl, HB.out.alloc hws _⟩
      have HS : Hid (∀ W, Below wr.heap.size wr W → Calls Try.prog 11 #[.slice au r.1.length cu] W fun e w' => e = .returned (.bool true) ∧ w' = W) := fun W h => by
        have := wanted_any _ r.1 W (HI.out W h) hrl
        rw [h1] at this; exact this
      cases h2 : Pl.inB r.2 1 5
      · have HE : Hid (tripsOk rs = false) := tripsOk_bad (all_bad rs k r hr.out (by unfold tOk; rw [h2, h1]; rfl))
        have HN : Hid (∀ W, Calls Try.prog 12 #[.int .i64 r.2] W fun e w' => e = .returned (.bool false) ∧ w' = W) := fun W => by
          have := stateOk_any r.2 W
          rw [h2] at this; exact this
        clear h1 h2
        go_wp2_with (first | (go_at_call 11; refine (HS.out _ ?_).mono ?_; exact (Below.refl _ _).alloc (Nat.le_refl _) _; rintro e w2 ⟨rfl, rfl⟩) | (go_at_call 12; refine (HN.out _).mono ?_; rintro e w3 ⟨rfl, rfl⟩))
        go_ret
        exact ⟨by rw [HE.out]; rfl, HB.out.alloc hws _⟩
      · have HA2 : Hid ((rs.take (k + 1)).all tOk = true) := by show _ = _; rw [all_snoc rs k r hr.out, HA.out]; unfold tOk; rw [h1, h2]; rfl
        have HN : Hid (∀ W, Calls Try.prog 12 #[.int .i64 r.2] W fun e w' => e = .returned (.bool true) ∧ w' = W) := fun W => by
          have := stateOk_any r.2 W
          rw [h2] at this; exact this
        clear h1 h2
        go_wp2_with (first | (go_at_call 11; refine (HS.out _ ?_).mono ?_; exact (Below.refl _ _).alloc (Nat.le_refl _) _; rintro e w2 ⟨rfl, rfl⟩) | (go_at_call 12; refine (HN.out _).mono ?_; rintro e w3 ⟨rfl, rfl⟩))
        go_roundw
        case rel => exact ⟨k + 1, by omega, by go_num, HA2, HB.out.alloc hws _⟩
        case measure => simp [intOf]; omega
    · have HE : Hid (tripsOk rs = true) := by
        show _ = _
        have hke : k = rs.length := by omega
        have := HA.out
        rw [hke, List.take_length] at this
        have h66 : decide (rs.length ≤ 6) = true := by simp; omega
        unfold tripsOk; rw [this, h66]; rfl
      go_wp2
      go_ret
      exact ⟨by rw [HE.out]; rfl, hbe⟩

end Go.Proofs.Ytilbjgidmfdnkaa.T
