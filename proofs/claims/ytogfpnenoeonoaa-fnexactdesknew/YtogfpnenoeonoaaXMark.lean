/- Contracts of the law's marks over lists of words, and of the look that they are held. For lists of at most 1048576 words. -/
import Derived.Test.YtogfpnenoeonoaaXList
namespace Go.Proofs.Ytogfpnenoeonoaa
open Go.RowKit

/-- Words, all marked. -/
def markW (n : Nat) (k : Int) : List Wd := (List.range n).map fun i => (k + 4 * (i : Nat), k + 4 * (i : Nat) + 1, k + 4 * (i : Nat) + 2, k + 4 * (i : Nat) + 3)
theorem markW_length (n : Nat) (k : Int) : (markW n k).length = n := by simp [markW]
theorem markW_get? (n : Nat) (k : Int) (i : Nat) (h : i < n) : (markW n k)[i]? = some (k + 4 * i, k + 4 * i + 1, k + 4 * i + 2, k + 4 * i + 3) := by simp [markW, h]
theorem markW_get (n : Nat) (k : Int) (i : Nat) (h : i < n) : (markW n k).getD i (0, 0, 0, 0) = (k + 4 * i, k + 4 * i + 1, k + 4 * i + 2, k + 4 * i + 3) := by
  rw [List.getD_eq_getElem?_getD, markW_get? n k i h]; rfl

theorem mixW_set (A xs : List Wd) (i : Nat) (hA : A.length = xs.length) (hi : i < xs.length) (x : Wd) (hx : A[i]? = some x) : (A.take i ++ xs.drop i).set i x = A.take (i + 1) ++ xs.drop (i + 1) := by
  have hi' : i < A.length := by omega
  rw [List.set_append_right _ _ (by simp; omega)]
  have h1 : i - (A.take i).length = 0 := by simp; omega
  rw [h1, List.drop_eq_getElem_cons hi, List.set_cons_zero, List.take_succ_eq_append_getElem hi']
  rw [List.getElem?_eq_getElem hi'] at hx
  simp only [Option.some.injEq] at hx
  rw [hx]; simp

set_option maxHeartbeats 2000000 in
theorem markWords_any (v : Value) (hs : List Wd) (k : Int) (lo n : Nat) (w : World) (hv : w.ownsRow lo 39 4 v n (wflat hs)) (hn : n ≤ 1048576) (hk0 : 0 ≤ k) (hk1 : k ≤ 1000000000) :
    Calls Try.prog 12 #[v, .int .i64 k] w fun e w' => e = .returned (.int .i64 (k + 4 * n)) ∧ w'.ownsRow lo 39 4 v n (wflat (markW n k)) ∧ w.grownBy w' v.ownBlock := by
  have hxl : hs.length = n := by have := hv.1; rw [wflat_length] at this; omega
  by_cases h0 : n = 0
  · subst h0
    obtain rfl : hs = [] := List.length_eq_zero_iff.1 hxl
    have HV : Hid (w.ownsRow lo 39 4 v 0 (wflat (markW 0 k))) := hv
    obtain ⟨ao, cap, rfl⟩ := row_shape hv
    clear hv hxl
    go_enter Try.func12, Try.ntmps12
    go_wp2
    refine wp_loop_rounds 1 ?_
    rw [rounds_succ]
    go_wp2
    go_ret
    exact ⟨by simp, HV.out, World.grownBy.refl _ _⟩
  obtain ⟨g, cap, rfl⟩ : ∃ g cap, v = .slice (some ⟨g, 0, none⟩) n cap := by
    rcases hv.2 with ⟨_, hn0⟩ | ⟨g, cap, cur, h, _⟩
    · exact absurd hn0 h0
    · exact ⟨g, cap, h⟩
  have HX : Hid (hs.length = n) := hxl
  have H0 : Hid (w.ownsRow lo 39 4 (.slice (some ⟨g, 0, none⟩) n cap) n (wflat ((markW n k).take 0 ++ hs.drop 0))) := by show World.ownsRow _ _ _ _ _ _ _; simpa using hv
  clear hv hxl
  go_enter Try.func12, Try.ntmps12
  go_wp2
  go_loopw [1, 5] (fun q i wr => ∃ j : Nat, j ≤ n ∧ i = .int .i64 j ∧ q = .int .i64 (k + 4 * j) ∧ Hid (wr.ownsRow lo 39 4 (.slice (some ⟨g, 0, none⟩) n cap) n (wflat ((markW n k).take j ++ hs.drop j))) ∧ Hid (w.grownBy wr (some g))) (fun _ i _ => n - (intOf i).toNat)
  case atStart => exact ⟨0, Nat.zero_le _, rfl, by simp, H0, World.grownBy.refl _ _⟩
  case round =>
    obtain ⟨j, hj, rfl, rfl, HO, HG⟩ := hrel
    by_cases hlt : j < n
    · have cellEx : ∀ i, i < n * 4 → ∃ x, wr.cell? ⟨g, i, none⟩ = some x := fun i hi => by
        have h1 := HO.out.cellAt i hi
        have h2 : i < (wflat ((markW n k).take j ++ hs.drop j)).length := by rw [HO.out.1]; exact hi
        exact ⟨_, by rw [h1, List.getElem?_eq_getElem h2]⟩
      obtain ⟨x0, hx0⟩ := cellEx (j * 4) (by omega)
      obtain ⟨x1, hx1⟩ := cellEx (j * 4 + 1) (by omega)
      obtain ⟨x2, hx2⟩ := cellEx (j * 4 + 2) (by omega)
      obtain ⟨x3, hx3⟩ := cellEx (j * 4 + 3) (by omega)
      have f0 := HO.out.frozenAt (j * 4)
      have f1 := HO.out.frozenAt (j * 4 + 1)
      have f2 := HO.out.frozenAt (j * 4 + 2)
      have f3 := HO.out.frozenAt (j * 4 + 3)
      have st := stored4 HO.out j (by rw [List.length_append, List.length_take, markW_length, List.length_drop, HX.out]; omega) (k + 4 * j, k + 4 * j + 1, k + 4 * j + 2, k + 4 * j + 3)
      have ST := hide_it st
      clear cellEx st
      go_wp2
      go_roundw
      case rel =>
        refine ⟨j + 1, by omega, by go_num, by go_num, ?_, ?_⟩
        · have h := ST.out.1
          rw [mixW_set _ _ j (by rw [markW_length, HX.out]) (by rw [HX.out]; omega) _ (markW_get? n k j hlt)] at h
          first | exact h | (simp only [store4] at h; simp only [Int.add_assoc] at h ⊢; exact h)
        · first | exact grownBy_trans HG.out ST.out.2 | (have h := ST.out.2; simp only [store4] at h; simp only [Int.add_assoc] at h ⊢; exact grownBy_trans HG.out h)
      case measure => simp [intOf]; omega
    · have HO2 : Hid (wr.ownsRow lo 39 4 (.slice (some ⟨g, 0, none⟩) n cap) n (wflat (markW n k))) := by
        have hje : j = n := by omega
        have := HO.out
        rw [hje, List.take_of_length_le (by rw [markW_length]; omega), List.drop_of_length_le (by rw [HX.out]; omega), List.append_nil] at this
        exact this
      have hje : (j : Int) = n := by omega
      go_wp2
      go_ret
      exact ⟨by simp [hje], HO2.out, HG.out⟩

set_option maxHeartbeats 2000000 in
theorem heldWords_any (v : Value) (n : Nat) (k : Int) (w : World) (hv : Words w v (markW n k)) (hn : n ≤ 1048576) (hk0 : 0 ≤ k) (hk1 : k ≤ 1000000000) :
    Calls Try.prog 14 #[v, .int .i64 k] w fun e w' => e = .returned (.int .i64 (k + 4 * n)) ∧ w' = w := by
  rcases hv with ⟨hz, ao, cap, rfl, -⟩ | ⟨b, off, cap, rfl, hz, hc⟩
  · have h0 : n = 0 := by have := congrArg List.length hz; rw [markW_length] at this; simpa using this
    subst h0
    clear hz
    go_enter Try.func14, Try.ntmps14
    go_wp2
    refine wp_loop_rounds 1 ?_
    rw [rounds_succ]
    go_wp2
    go_ret
    exact ⟨by simp, rfl⟩
  · rw [markW_length] at hc ⊢
    have HC : Hid (∀ j, j < n → w.cell? ⟨b, off + j * 4, none⟩ = some (.int .i64 (k + 4 * j)) ∧ w.cell? ⟨b, off + j * 4 + 1, none⟩ = some (.int .i64 (k + 4 * j + 1)) ∧ w.cell? ⟨b, off + j * 4 + 2, none⟩ = some (.int .i64 (k + 4 * j + 2)) ∧ w.cell? ⟨b, off + j * 4 + 3, none⟩ = some (.int .i64 (k + 4 * j + 3))) := fun j hj => by
      have := hc j hj
      rw [markW_get n k j hj] at this
      exact this
    clear hc hz
    go_enter Try.func14, Try.ntmps14
    go_wp2
    go_loop [1, 5] (fun q i => ∃ j : Nat, j ≤ n ∧ i = .int .i64 j ∧ q = .int .i64 (k + 4 * j)) (fun _ i => n - (intOf i).toNat)
    case atStart => exact ⟨0, Nat.zero_le _, rfl, by simp⟩
    case round =>
      obtain ⟨j, hj, rfl, rfl⟩ := hrel
      by_cases hlt : j < n
      · obtain ⟨c0, c1, c2, c3⟩ := HC.out j hlt
        go_wp2
        go_round
        case rel => exact ⟨j + 1, by omega, by go_num, by go_num⟩
        case measure => simp [intOf]; omega
      · have hje : (j : Int) = n := by omega
        go_wp2
        go_ret
        exact ⟨by simp, rfl⟩

end Go.Proofs.Ytogfpnenoeonoaa
