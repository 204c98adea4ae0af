/- Contracts of the law's marks over lists of holds and stocks, and of the look that they are held. For lists of at most 1048576 holds. -/
import Derived.Test.YtclcehfaoeoipaaDoorKOk
namespace Go.Proofs.YtclcehfaoeoipaaDoor
open Go.RowKit

/-- Holds, all marked. -/
def markH (n : Nat) (k : Int) : List Pl.H := (List.range n).map fun i => (k + 2 * (i : Nat), k + 2 * (i : Nat) + 1)
theorem markH_length (n : Nat) (k : Int) : (markH n k).length = n := by simp [markH]
theorem markH_get? (n : Nat) (k : Int) (i : Nat) (h : i < n) : (markH n k)[i]? = some (k + 2 * i, k + 2 * i + 1) := by simp [markH, h]
theorem markH_get (n : Nat) (k : Int) (i : Nat) (h : i < n) : (markH n k).getD i (0, 0) = (k + 2 * i, k + 2 * i + 1) := by
  rw [List.getD_eq_getElem?_getD, markH_get? n k i h]; rfl

theorem mixH_set (A xs : List Pl.H) (i : Nat) (hA : A.length = xs.length) (hi : i < xs.length) (x : Pl.H) (hx : A[i]? = some x) : (A.take i ++ xs.drop i).set i x = A.take (i + 1) ++ xs.drop (i + 1) := by
  have hi' : i < A.length := by omega
  rw [List.set_append_right _ _ (by simp; omega)]
  have h1 : i - (A.take i).length = 0 := by simp; omega
  rw [h1, List.drop_eq_getElem_cons hi, List.set_cons_zero, List.take_succ_eq_append_getElem hi']
  rw [List.getElem?_eq_getElem hi'] at hx
  simp only [Option.some.injEq] at hx
  rw [hx]; simp

set_option maxHeartbeats 1000000 in
theorem markHolds_any (v : Value) (hs : List Pl.H) (k : Int) (lo n : Nat) (w : World) (hv : w.ownsRow lo 79 2 v n (hflat hs)) (hn : n ≤ 1048576) (hk0 : 0 ≤ k) (hk1 : k ≤ 1000000000) :
    Calls Tryd.prog 38 #[v, .int .i64 k] w fun e w' => e = .returned (.int .i64 (k + 2 * n)) ∧ w'.ownsRow lo 79 2 v n (hflat (markH n k)) ∧ w.grownBy w' v.ownBlock := by
  have hxl : hs.length = n := by have := hv.1; rw [hflat_length] at this; omega
  by_cases h0 : n = 0
  · subst h0
    obtain rfl : hs = [] := List.length_eq_zero_iff.1 hxl
    have HV : Hid (w.ownsRow lo 79 2 v 0 (hflat (markH 0 k))) := hv
    obtain ⟨ao, cap, rfl⟩ := row_shape hv
    clear hv hxl
    go_enter Tryd.func38, Tryd.ntmps38
    go_wp2
    refine wp_loop_rounds 1 ?_
    rw [rounds_succ]
    go_wp2
    go_ret
    exact ⟨by simp, HV.out, World.grownBy.refl _ _⟩
  obtain ⟨g, cap, rfl⟩ : ∃ g cap, v = .slice (some ⟨g, 0, none⟩) n cap := by
    rcases hv.2 with ⟨_, hn0⟩ | ⟨g, cap, cur, h, _⟩
    · exact absurd hn0 h0
    · exact ⟨g, cap, h⟩
  have HX : Hid (hs.length = n) := hxl
  have H0 : Hid (w.ownsRow lo 79 2 (.slice (some ⟨g, 0, none⟩) n cap) n (hflat ((markH n k).take 0 ++ hs.drop 0))) := by show World.ownsRow _ _ _ _ _ _ _; simpa using hv
  clear hv hxl
  go_enter Tryd.func38, Tryd.ntmps38
  go_wp2
  go_loopw [1, 5] (fun q i wr => ∃ j : Nat, j ≤ n ∧ i = .int .i64 j ∧ q = .int .i64 (k + 2 * j) ∧ Hid (wr.ownsRow lo 79 2 (.slice (some ⟨g, 0, none⟩) n cap) n (hflat ((markH n k).take j ++ hs.drop j))) ∧ Hid (w.grownBy wr (some g))) (fun _ i _ => n - (intOf i).toNat)
  case atStart => exact ⟨0, Nat.zero_le _, rfl, by simp, H0, World.grownBy.refl _ _⟩
  case round =>
    obtain ⟨j, hj, rfl, rfl, HO, HG⟩ := hrel
    by_cases hlt : j < n
    · have cellEx : ∀ i, i < n * 2 → ∃ x, wr.cell? ⟨g, i, none⟩ = some x := fun i hi => by
        have h1 := HO.out.cellAt i hi
        have h2 : i < (hflat ((markH n k).take j ++ hs.drop j)).length := by rw [HO.out.1]; exact hi
        exact ⟨_, by rw [h1, List.getElem?_eq_getElem h2]⟩
      obtain ⟨x0, hx0⟩ := cellEx (j * 2) (by omega)
      obtain ⟨x1, hx1⟩ := cellEx (j * 2 + 1) (by omega)
      have f0 := HO.out.frozenAt (j * 2)
      have f1 := HO.out.frozenAt (j * 2 + 1)
      have st := stored2 HO.out j (by rw [List.length_append, List.length_take, markH_length, List.length_drop, HX.out]; omega) (k + 2 * j, k + 2 * j + 1)
      have ST := hide_it st
      clear cellEx st
      go_wp2
      go_roundw
      case rel =>
        refine ⟨j + 1, by omega, by go_num, by go_num, ?_, grownBy_trans HG.out ST.out.2⟩
        have h := ST.out.1
        rw [mixH_set _ _ j (by rw [markH_length, HX.out]) (by rw [HX.out]; omega) _ (markH_get? n k j hlt)] at h
        exact h
      case measure => simp [intOf]; omega
    · have HO2 : Hid (wr.ownsRow lo 79 2 (.slice (some ⟨g, 0, none⟩) n cap) n (hflat (markH n k))) := by
        have hje : j = n := by omega
        have := HO.out
        rw [hje, List.take_of_length_le (by rw [markH_length]; omega), List.drop_of_length_le (by rw [HX.out]; omega), List.append_nil] at this
        exact this
      have hje : (j : Int) = n := by omega
      go_wp2
      go_ret
      exact ⟨by simp [hje], HO2.out, HG.out⟩

theorem markStock_any (room : Int) (v : Value) (hs : List Pl.H) (k : Int) (lo n : Nat) (w : World) (hv : w.ownsRow lo 79 2 v n (hflat hs)) (hn : n ≤ 1048576) (hk0 : 0 ≤ k) (hk1 : k ≤ 1000000000) :
    Calls Tryd.prog 16 #[.agg #[.int .i64 room, v], .int .i64 k] w fun e w' => e = .returned (.int .i64 (k + 2 * n)) ∧ w'.ownsRow lo 79 2 v n (hflat (markH n k)) ∧ ∀ l h, (∀ i, v.ownBlock = some i → l ≤ i ∧ i < h) → Mid l h w w' := by
  have HS : Hid (∀ o, Calls Tryd.prog 38 #[v, .int .i64 k] (w.alloc o) fun e w' => e = .returned (.int .i64 (k + 2 * n)) ∧ w'.ownsRow lo 79 2 v n (hflat (markH n k)) ∧ ∀ l h, (∀ i, v.ownBlock = some i → l ≤ i ∧ i < h) → Mid l h w w') := fun o => by
    refine (markHolds_any v hs k lo n (w.alloc o) (hv.alloc o) hn hk0 hk1).mono ?_
    rintro e w' ⟨h1, h2, h3⟩
    exact ⟨h1, h2, fun l h hh => (Mid.of_below (al_below w o) (Nat.le_refl _)).trans (Mid.of_grown h3 hh)⟩
  obtain ⟨ao, cap, rfl⟩ := row_shape hv
  clear hv
  go_enter Tryd.func16, Tryd.ntmps16
  go_wp2_with (go_at_call 38; refine (HS.out _).mono ?_; rintro e w1 ⟨rfl, h2, h3⟩; have H2 := hide_it h2; have H3 := hide_it h3; clear h2 h3)
  go_ret
  exact ⟨rfl, H2.out, H3.out⟩

set_option maxHeartbeats 1000000 in
theorem heldHolds_any (v : Value) (n : Nat) (k : Int) (w : World) (hv : Holds w v (markH n k)) (hn : n ≤ 1048576) (hk0 : 0 ≤ k) (hk1 : k ≤ 1000000000) :
    Calls Tryd.prog 39 #[v, .int .i64 k] w fun e w' => e = .returned (.int .i64 (k + 2 * n)) ∧ w' = w := by
  rcases hv with ⟨hz, ao, cap, rfl, -⟩ | ⟨b, off, cap, rfl, hz, hc⟩
  · have h0 : n = 0 := by have := congrArg List.length hz; rw [markH_length] at this; simpa using this
    subst h0
    clear hz
    go_enter Tryd.func39, Tryd.ntmps39
    go_wp2
    refine wp_loop_rounds 1 ?_
    rw [rounds_succ]
    go_wp2
    go_ret
    exact ⟨by simp, rfl⟩
  · rw [markH_length] at hc ⊢
    have HC : Hid (∀ j, j < n → w.cell? ⟨b, off + j * 2, none⟩ = some (.int .i64 (k + 2 * j)) ∧ w.cell? ⟨b, off + j * 2 + 1, none⟩ = some (.int .i64 (k + 2 * j + 1))) := fun j hj => by
      have := hc j hj
      rw [markH_get n k j hj] at this
      exact this
    clear hc hz
    go_enter Tryd.func39, Tryd.ntmps39
    go_wp2
    go_loop [1, 5] (fun q i => ∃ j : Nat, j ≤ n ∧ i = .int .i64 j ∧ q = .int .i64 (k + 2 * j)) (fun _ i => n - (intOf i).toNat)
    case atStart => exact ⟨0, Nat.zero_le _, rfl, by simp⟩
    case round =>
      obtain ⟨j, hj, rfl, rfl⟩ := hrel
      by_cases hlt : j < n
      · obtain ⟨c0, c1⟩ := HC.out j hlt
        go_wp2
        go_round
        case rel => exact ⟨j + 1, by omega, by go_num, by go_num⟩
        case measure => simp [intOf]; omega
      · have hje : (j : Int) = n := by omega
        go_wp2
        go_ret
        exact ⟨by simp, rfl⟩

theorem heldStock_any (room : Int) (v : Value) (n : Nat) (k : Int) (w : World) (hv : Holds w v (markH n k)) (hn : n ≤ 1048576) (hk0 : 0 ≤ k) (hk1 : k ≤ 1000000000) :
    Calls Tryd.prog 17 #[.agg #[.int .i64 room, v], .int .i64 k] w fun e w' => e = .returned (.int .i64 (k + 2 * n)) ∧ Below w.heap.size w w' := by
  have HS : Hid (∀ o, Calls Tryd.prog 39 #[v, .int .i64 k] (w.alloc o) fun e w' => e = .returned (.int .i64 (k + 2 * n)) ∧ w' = w.alloc o) := fun o =>
    heldHolds_any v n k (w.alloc o) (hv.later (al_below w o) (Nat.le_refl _)) hn hk0 hk1
  obtain ⟨ao, cap, rfl⟩ := hv.shape
  clear hv
  go_enter Tryd.func17, Tryd.ntmps17
  go_wp2_with (go_at_call 39; refine (HS.out _).mono ?_; rintro e w1 ⟨rfl, rfl⟩)
  go_ret
  exact ⟨rfl, al_below _ _⟩

theorem holds_mid {l h : Nat} {w w' : World} {lo n : Nat} {v : Value} {hs : List Pl.H} (ho : w.ownsRow lo 79 2 v n (hflat hs)) (hm : Mid l h w w') (hd : ∀ i, v.ownBlock = some i → i < l ∨ h ≤ i) : w'.ownsRow lo 79 2 v n (hflat hs) := ownsRow_mid ho hm hd

end Go.Proofs.YtclcehfaoeoipaaDoor
