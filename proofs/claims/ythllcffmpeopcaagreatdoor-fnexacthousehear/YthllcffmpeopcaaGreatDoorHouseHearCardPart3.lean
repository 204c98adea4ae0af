/- What the last text of this claim stands on, part 3: plain facts and contracts; the last text says what is proved. -/
import Derived.Test.YthllcffmpeopcaaGreatDoorHouseHearCardPart2
import Derived.Deep.RegionHeld
import Derived.Laws.EntriesVeiled

namespace Go.Proofs.YthllcffmpeopcaaGreatDoor
open Go.RowKit

theorem al_below (w : World) (o : Obj) : Below w.heap.size w (w.alloc o) := (Below.refl _ _).alloc (Nat.le_refl _) o
theorem al_after {w : World} {o : Obj} {w' : World} (h : Below (w.alloc o).heap.size (w.alloc o) w') : Below w.heap.size w w' := (al_below w o).trans (h.mono (by simp))

set_option maxHeartbeats 1000000 in
theorem l2Hold_any (m s : Int) (w : World) :
    Calls Tryz.prog 119 #[.agg #[.int .i64 m, .int .i64 s]] w fun e w' => e = .returned (.bool (Pl.hOk (m, s))) ∧ Below w.heap.size w w' := by
  by_cases h0 : s = 0
  · subst h0
    rw [Pl.hOk_0]
    by_cases hm : m = 0
    all_goals
      go_enter Tryz.func119, Tryz.ntmps119
      go_wp2
      go_ret
      exact ⟨by simp [hm], al_below _ _⟩
  by_cases h1 : s = 1
  · subst h1
    rw [Pl.hOk_1]
    go_enter Tryz.func119, Tryz.ntmps119
    go_wp2_with (go_at_call 47; refine (in_any _ _ _ _).mono ?_; rintro e w1 ⟨rfl, rfl⟩)
    go_ret
    exact ⟨rfl, al_below _ _⟩
  by_cases h2 : s = 2
  · subst h2
    rw [Pl.hOk_2]
    go_enter Tryz.func119, Tryz.ntmps119
    go_wp2_with (go_at_call 47; refine (in_any _ _ _ _).mono ?_; rintro e w1 ⟨rfl, rfl⟩)
    go_ret
    exact ⟨rfl, al_below _ _⟩
  by_cases h3 : s = 3
  · subst h3
    rw [Pl.hOk_3]
    go_enter Tryz.func119, Tryz.ntmps119
    go_wp2_with (go_at_call 47; refine (in_any _ _ _ _).mono ?_; rintro e w1 ⟨rfl, rfl⟩)
    go_ret
    exact ⟨rfl, al_below _ _⟩
  rw [Pl.hOk_x m s h0 h1 h2 h3]
  go_enter Tryz.func119, Tryz.ntmps119
  go_wp2
  go_ret
  exact ⟨rfl, al_below _ _⟩

set_option maxHeartbeats 1000000 in
theorem holdOk_any (m s : Int) (w : World) :
    Calls Tryz.prog 51 #[.agg #[.int .i64 m, .int .i64 s]] w fun e w' => e = .returned (.bool (Pl.hOk (m, s))) ∧ Below w.heap.size w w' := by
  by_cases h0 : s = 0
  · subst h0
    rw [Pl.hOk_0]
    by_cases hm : m = 0
    all_goals
      go_enter Tryz.func51, Tryz.ntmps51
      go_wp2
      go_ret
      exact ⟨by simp [hm], al_below _ _⟩
  by_cases h1 : s = 1
  · subst h1
    rw [Pl.hOk_1]
    by_cases hm : 1 ≤ m
    · by_cases hn : m ≤ 3
      all_goals
        go_enter Tryz.func51, Tryz.ntmps51
        go_wp2
        go_ret
        exact ⟨by simp [Pl.inB]; omega, al_below _ _⟩
    · go_enter Tryz.func51, Tryz.ntmps51
      go_wp2
      go_ret
      exact ⟨by simp [Pl.inB]; omega, al_below _ _⟩
  by_cases h2 : s = 2
  · subst h2
    rw [Pl.hOk_2]
    by_cases hm : 1 ≤ m
    · by_cases hn : m ≤ 3
      all_goals
        go_enter Tryz.func51, Tryz.ntmps51
        go_wp2
        go_ret
        exact ⟨by simp [Pl.inB]; omega, al_below _ _⟩
    · go_enter Tryz.func51, Tryz.ntmps51
      go_wp2
      go_ret
      exact ⟨by simp [Pl.inB]; omega, al_below _ _⟩
  by_cases h3 : s = 3
  · subst h3
    rw [Pl.hOk_3]
    by_cases hm : 0 ≤ m
    · by_cases hn : m ≤ 3
      all_goals
        go_enter Tryz.func51, Tryz.ntmps51
        go_wp2
        go_ret
        exact ⟨by simp [Pl.inB]; omega, al_below _ _⟩
    · go_enter Tryz.func51, Tryz.ntmps51
      go_wp2
      go_ret
      exact ⟨by simp [Pl.inB]; omega, al_below _ _⟩
  rw [Pl.hOk_x m s h0 h1 h2 h3]
  go_enter Tryz.func51, Tryz.ntmps51
  go_wp2
  go_ret
  exact ⟨rfl, al_below _ _⟩

theorem had_any (m s : Int) (w : World) :
    Calls Tryz.prog 52 #[.agg #[.int .i64 m, .int .i64 s]] w fun e w' => e = .returned (.int .i64 (Pl.hHad (m, s))) ∧ Below w.heap.size w w' := by
  by_cases h1 : s = 1
  · subst h1
    rw [Pl.hHad_1]
    go_enter Tryz.func52, Tryz.ntmps52
    go_wp2
    go_ret
    exact ⟨rfl, al_below _ _⟩
  by_cases h2 : s = 2
  · subst h2
    rw [Pl.hHad_2]
    go_enter Tryz.func52, Tryz.ntmps52
    go_wp2
    go_ret
    exact ⟨rfl, al_below _ _⟩
  rw [Pl.hHad_x m s h1 h2]
  have e1 : (s == 1) = false := by simp [h1]
  have e2 : (s == 2) = false := by simp [h2]
  go_enter Tryz.func52, Tryz.ntmps52
  go_wp2
  go_ret
  exact ⟨rfl, al_below _ _⟩

theorem roomOk_any (room : Int) (w : World) :
    Calls Tryz.prog 50 #[.int .i64 room] w fun e w' => e = .returned (.bool (Pl.inB room 0 9)) ∧ w' = w := by
  by_cases h1 : 0 ≤ room
  all_goals by_cases h2 : room ≤ 9
  all_goals
    go_enter Tryz.func50, Tryz.ntmps50
    go_wp2
    go_ret
    exact ⟨by simp [Pl.inB, h1, h2], rfl⟩

theorem hall_take (hs : List Pl.H) (k : Nat) (h : hs.all Pl.hOk = true) : (hs.take k).all Pl.hOk = true := by
  rw [List.all_eq_true] at h ⊢
  exact fun x hx => h x (List.mem_of_mem_take hx)

set_option maxHeartbeats 1000000 in
theorem l2Free_any (room : Int) (v : Value) (hs : List Pl.H) (w : World) (hv : Holds w v hs) (hl : hs.length ≤ 6) (hok : hs.all Pl.hOk = true) (hr : Pl.inB room 0 9 = true) :
    Calls Tryz.prog 88 #[.agg #[.int .i64 room, v]] w fun e w' => e = .returned (.int .i64 (Pl.free room hs)) ∧ Below w.heap.size w w' := by
  have hroom := Pl.inB_true hr
  have HOK : Hid (hs.all Pl.hOk = true) := hok
  rcases hv with ⟨rfl, ao, cap, rfl, -⟩ | ⟨b, off, cap, rfl, hz, hc⟩
  · rw [Pl.free_nil]
    clear hok hr
    go_enter Tryz.func88, Tryz.ntmps88
    go_wp2
    refine wp_loop_rounds 1 ?_
    rw [rounds_succ]
    go_wp2
    go_ret
    exact ⟨rfl, al_below _ _⟩
  have HC : Hid (∀ k, k < hs.length → w.cell? ⟨b, off + k * 2, none⟩ = some (.int .i64 (hs.getD k (0, 0)).1) ∧ w.cell? ⟨b, off + k * 2 + 1, none⟩ = some (.int .i64 (hs.getD k (0, 0)).2)) := hc
  have hzl : 0 < hs.length := List.length_pos_iff.2 hz
  have hbw : b < w.heap.size := World.block_lt_of_cell? _ _ (hc 0 hzl).1
  clear hc hz hok hr
  go_enter Tryz.func88, Tryz.ntmps88
  go_wp2
  go_loop [3, 4] (fun n i => ∃ (k : Nat) (N : Int), k ≤ hs.length ∧ i = .int .i64 k ∧ n = .int .i64 N ∧ Hid (N = Pl.free room (hs.take k))) (fun _ i => hs.length - (intOf i).toNat)
  case atStart => exact ⟨0, room, Nat.zero_le _, rfl, rfl, by show _ = _; simp [Pl.free]⟩
  case round =>
    obtain ⟨k, N, hk, rfl, rfl, HN⟩ := hrel
    have hNb : -1000 ≤ N ∧ N ≤ 9 := by
      have := Pl.free_bd room (hs.take k) (hall_take hs k HOK.out)
      have := HN.out
      simp at *
      omega
    by_cases hlt : k < hs.length
    · obtain ⟨m, s, HZ⟩ : ∃ m s, Hid (hs.getD k (0, 0) = (m, s)) := ⟨_, _, rfl⟩
      have c0 : w.cell? ⟨b, off + k * 2, none⟩ = some (.int .i64 m) := by rw [(HC.out k hlt).1, HZ.out]
      have c1 : w.cell? ⟨b, off + k * 2 + 1, none⟩ = some (.int .i64 s) := by rw [(HC.out k hlt).2, HZ.out]
      have HF : Hid (Pl.free room (hs.take (k + 1)) = N - Pl.hHad (m, s)) := by show _ = _; rw [Pl.free_snoc room hs k hlt, ← HN.out, HZ.out]
      have hmem : (m, s) ∈ hs := by rw [← HZ.out]; simp [List.getD_eq_getElem?_getD, hlt]
      have hbd := Pl.hHad_bd (m, s) ((List.all_eq_true.1 HOK.out) _ hmem)
      clear hmem
      by_cases h1 : s = 1
      · subst h1
        rw [Pl.hHad_1] at hbd HF
        go_wp2
        go_round
        case rel => exact ⟨k + 1, _, by omega, by go_num, rfl, HF.out.symm⟩
        case measure => simp [intOf]; omega
      by_cases h2 : s = 2
      · subst h2
        rw [Pl.hHad_2] at hbd HF
        go_wp2
        go_round
        case rel => exact ⟨k + 1, _, by omega, by go_num, rfl, HF.out.symm⟩
        case measure => simp [intOf]; omega
      rw [Pl.hHad_x m s h1 h2] at hbd HF
      have e1 : (s == 1) = false := by simp [h1]
      have e2 : (s == 2) = false := by simp [h2]
      go_wp2
      go_round
      case rel => exact ⟨k + 1, _, by omega, by go_num, rfl, by show _ = _; rw [HF.out]; omega⟩
      case measure => simp [intOf]; omega
    · have HE : Hid (Pl.free room hs = N) := by
        show _ = _
        have hke : k = hs.length := by omega
        rw [HN.out, hke, List.take_length]
      go_wp2
      go_ret
      exact ⟨by rw [HE.out]; rfl, al_below _ _⟩

/-- Two values lie at the head of this block. -/
def Duo (w : World) (b : Nat) (x y : Value) : Prop := w.cell? ⟨b, 0, none⟩ = some x ∧ w.cell? ⟨b, 1, none⟩ = some y
theorem Duo.later {B : Nat} {w w' : World} {b : Nat} {x y : Value} (h : Duo w b x y) (hb : Below B w w') (hB : w.heap.size ≤ B) : Duo w' b x y := by
  obtain ⟨h0, h1⟩ := h
  have hlt := World.block_lt_of_cell? _ _ h0
  simp at hlt
  exact ⟨by rw [← h0]; exact hb.cell (p := ⟨b, 0, none⟩) (by simp; omega), by rw [← h1]; exact hb.cell (p := ⟨b, 1, none⟩) (by simp; omega)⟩
theorem Duo.new (w : World) (x y : Value) (ty : TypeId) : Duo (w.alloc (.cells #[x, y] ty)) w.heap.size x y := by
  refine ⟨?_, ?_⟩ <;> simp
theorem Duo.lt {w : World} {b : Nat} {x y : Value} (h : Duo w b x y) : b < w.heap.size := by simpa using World.block_lt_of_cell? _ _ h.1

set_option maxRecDepth 100000 in
set_option maxHeartbeats 2000000 in
theorem specStockOk_any (room : Int) (v : Value) (hs : List Pl.H) (w : World) (hv : Holds w v hs) (hl : hs.length ≤ 1048576) :
    Calls Tryz.prog 118 #[.agg #[.int .i64 room, v]] w fun e w' => e = .returned (.bool (Pl.sOk room hs)) ∧ Below w.heap.size w w' := by
  have HV : Hid (∀ W, Below w.heap.size w W → Holds W v hs) := fun W h => hv.later h (Nat.le_refl _)
  have HX : Hid (Duo (w.alloc (.cells #[.int .i64 room, v] 50)) w.heap.size (.int .i64 room) v) := Duo.new w _ _ _
  rcases hv with ⟨rfl, ao, cap, rfl, -⟩ | ⟨b, off, cap, rfl, hz, hc⟩
  · rw [Pl.sOk_len (by simp)]
    clear HV
    cases hr : Pl.inB room 0 9
    all_goals
      go_enter Tryz.func118, Tryz.ntmps118
      go_wp2
      refine wp_loop_rounds 1 ?_
      rw [rounds_succ]
      go_wp2_with (go_at_call 47; refine (in_any _ _ _ _).mono ?_; rintro e w1 ⟨rfl, rfl⟩; rw [hr])
      go_ret
      exact ⟨rfl, al_below _ _⟩
  have HC : Hid (∀ W, Below w.heap.size w W → ∀ k, k < hs.length → W.cell? ⟨b, off + k * 2, none⟩ = some (.int .i64 (hs.getD k (0, 0)).1) ∧ W.cell? ⟨b, off + k * 2 + 1, none⟩ = some (.int .i64 (hs.getD k (0, 0)).2)) := fun W h k hk => by
    obtain ⟨h1, h2⟩ := hc k hk
    have hl := World.block_lt_of_cell? _ _ h1
    simp at hl
    exact ⟨by rw [← h1]; exact h.cell (p := ⟨b, off + k * 2, none⟩) (by simp; omega), by rw [← h2]; exact h.cell (p := ⟨b, off + k * 2 + 1, none⟩) (by simp; omega)⟩
  have hzl : 0 < hs.length := List.length_pos_iff.2 hz
  clear hc hz
  go_enter Tryz.func118, Tryz.ntmps118
  go_wp2
  go_loopw [3] (fun i wr => ∃ k : Nat, k ≤ hs.length ∧ i = .int .i64 k ∧ Hid ((hs.take k).all Pl.hOk = true) ∧ Hid (Duo wr w.heap.size (.int .i64 room) (.slice (some ⟨b, off, none⟩) hs.length cap)) ∧ Hid (Below w.heap.size w wr)) (fun i _ => hs.length - (intOf i).toNat)
  case atStart => exact ⟨0, Nat.zero_le _, rfl, rfl, HX, al_below _ _⟩
  case round =>
    obtain ⟨k, hk, rfl, HA, HD, HB⟩ := hrel
    obtain ⟨d0, d1⟩ := HD.out
    by_cases hlt : k < hs.length
    · obtain ⟨m, s, HZ⟩ : ∃ m s, Hid (hs.getD k (0, 0) = (m, s)) := ⟨_, _, rfl⟩
      have c0 : wr.cell? ⟨b, off + k * 2, none⟩ = some (.int .i64 m) := by rw [(HC.out wr HB.out k hlt).1, HZ.out]
      have c1 : wr.cell? ⟨b, off + k * 2 + 1, none⟩ = some (.int .i64 s) := by rw [(HC.out wr HB.out k hlt).2, HZ.out]
      cases hok : Pl.hOk (m, s)
      · have HE : Hid (Pl.sOk room hs = false) := Pl.sOk_all (Pl.hall_bad hs k hlt (by rw [HZ.out]; exact hok))
        go_wp2_with fail
        refine (l2Hold_any m s wr).mono ?_
        rintro e w2 ⟨rfl, hb2⟩
        rw [hok]
        have HB2 := hide_it (HB.out.trans (hb2.mono HB.out.size))
        clear hb2
        go_wp2
        go_ret
        exact ⟨by rw [HE.out]; rfl, HB2.out⟩
      · have HA2 : Hid ((hs.take (k + 1)).all Pl.hOk = true) := by show _ = _; rw [Pl.hall_snoc hs k hlt, HA.out, HZ.out, hok]; rfl
        go_wp2_with fail
        refine (l2Hold_any m s wr).mono ?_
        rintro e w2 ⟨rfl, hb2⟩
        rw [hok]
        have HB2 := hide_it (HB.out.trans (hb2.mono HB.out.size))
        have HD2 := hide_it (HD.out.later hb2 (Nat.le_refl _))
        clear hb2
        go_wp2
        go_roundw
        case rel => exact ⟨k + 1, by omega, by go_num, HA2, HD2, HB2⟩
        case measure => simp [intOf]; omega
    · have HAL : Hid (hs.all Pl.hOk = true) := by
        show _ = _
        have hke : k = hs.length := by omega
        have := HA.out
        rw [hke, List.take_length] at this
        exact this
      cases hr : Pl.inB room 0 9
      · have HE : Hid (Pl.sOk room hs = false) := Pl.sOk_room hr
        go_wp2_with (go_at_call 47; refine (in_any _ _ _ _).mono ?_; rintro e w1 ⟨rfl, rfl⟩; rw [hr])
        go_ret
        exact ⟨by rw [HE.out]; rfl, HB.out⟩
      by_cases h6 : (hs.length : Int) = 6
      · have hl6 : hs.length = 6 := by omega
        obtain ⟨F, HF⟩ : ∃ F, Hid (Pl.free room hs = F) := ⟨_, rfl⟩
        have HE : Hid (Pl.sOk room hs = decide (0 ≤ F)) := by show _ = _; rw [← HF.out]; exact Pl.sOk_mk HAL.out hr hl6
        have HS : Hid (∀ W, Below w.heap.size w W → Calls Tryz.prog 88 #[.agg #[.int .i64 room, .slice (some ⟨b, off, none⟩) hs.length cap]] W fun e w' => e = .returned (.int .i64 F) ∧ Below W.heap.size W w') := fun W h => by
          have := l2Free_any room _ hs W (HV.out W h) (by omega) HAL.out hr
          rw [HF.out] at this
          exact this
        clear hl6
        by_cases hF : 0 ≤ F
        all_goals
          go_wp2_with fail
          refine (in_any _ _ _ _).mono ?_
          rintro e w1 ⟨rfl, rfl⟩
          rw [hr]
          go_wp2_with fail
          refine (HS.out _ HB.out).mono ?_
          rintro e w2 ⟨rfl, hb2⟩
          have HB2 := hide_it (HB.out.trans (hb2.mono HB.out.size))
          clear hb2
          go_wp2
          go_ret
          exact ⟨by rw [HE.out]; simp <;> omega, HB2.out⟩
      · have HE : Hid (Pl.sOk room hs = false) := Pl.sOk_len (by omega)
        go_wp2_with (go_at_call 47; refine (in_any _ _ _ _).mono ?_; rintro e w1 ⟨rfl, rfl⟩; rw [hr])
        go_ret
        exact ⟨by rw [HE.out]; rfl, HB.out⟩

set_option maxHeartbeats 2000000 in
theorem implFree_any (room : Int) (v : Value) (hs : List Pl.H) (w : World) (hv : Holds w v hs) (hl : hs.length ≤ 1048576) :
    Calls Tryz.prog 21 #[.agg #[.int .i64 room, v]] w fun e w' => e = .returned (.int .i64 (Pl.sFree room hs)) ∧ Below w.heap.size w w' := by
  cases hr : Pl.inB room 0 9
  · rw [Pl.sFree_no (Pl.sOk_room hr)]
    obtain ⟨ao, cap, rfl⟩ := hv.shape
    clear hv
    go_enter Tryz.func21, Tryz.ntmps21
    go_wp2_with (go_at_call 50; refine (roomOk_any _ _).mono ?_; rintro e w1 ⟨rfl, rfl⟩; rw [hr])
    go_ret
    exact ⟨rfl, al_below _ _⟩
  by_cases h6 : (hs.length : Int) = 6
  · have hl6 : hs.length = 6 := by omega
    have HL6 := hide_it hl6
    have HR := hide_it hr
    have hrb := Pl.inB_true hr
    rcases hv with ⟨rfl, _⟩ | ⟨b, off, cap, rfl, hz, hc⟩
    · simp at hl6
    have HC : Hid (∀ W, Below w.heap.size w W → ∀ k, k < 6 → W.cell? ⟨b, off + k * 2, none⟩ = some (.int .i64 (hs.getD k (0, 0)).1) ∧ W.cell? ⟨b, off + k * 2 + 1, none⟩ = some (.int .i64 (hs.getD k (0, 0)).2)) := fun W h k hk => by
      obtain ⟨h1, h2⟩ := hc k (by omega)
      have hl := World.block_lt_of_cell? _ _ h1
      simp at hl
      exact ⟨by rw [← h1]; exact h.cell (p := ⟨b, off + k * 2, none⟩) (by simp; omega), by rw [← h2]; exact h.cell (p := ⟨b, off + k * 2 + 1, none⟩) (by simp; omega)⟩
    clear hc hz
    rw [hl6]
    clear hl6 h6 hl
    go_enter Tryz.func21, Tryz.ntmps21
    go_wp2_with (go_at_call 50; refine (roomOk_any _ _).mono ?_; rintro e w1 ⟨rfl, rfl⟩; rw [hr])
    go_loopw [3, 21] (fun n i wr => ∃ (k : Nat) (N : Int), k ≤ 6 ∧ i = .int .i64 k ∧ n = .int .i64 N ∧ Hid (N = Pl.free room (hs.take k)) ∧ Hid ((hs.take k).all Pl.hOk = true) ∧ Hid (Below w.heap.size w wr)) (fun _ i _ => 6 - (intOf i).toNat)
    case atStart => exact ⟨0, room, Nat.zero_le _, rfl, rfl, by show _ = _; simp [Pl.free], rfl, al_below _ _⟩
    case round =>
      obtain ⟨k, N, hk, rfl, rfl, HN, HA, HB⟩ := hrel
      have hNb : -1000 ≤ N ∧ N ≤ 9 := by
        have := Pl.free_bd room (hs.take k) HA.out
        have := HN.out
        simp at *
        omega
      by_cases hlt : k < 6
      · have HLT : Hid (k < hs.length) := by show _ < _; rw [HL6.out]; exact hlt
        obtain ⟨m, s, HZ⟩ : ∃ m s, Hid (hs.getD k (0, 0) = (m, s)) := ⟨_, _, rfl⟩
        have c0 : wr.cell? ⟨b, off + k * 2, none⟩ = some (.int .i64 m) := by rw [(HC.out wr HB.out k hlt).1, HZ.out]
        have c1 : wr.cell? ⟨b, off + k * 2 + 1, none⟩ = some (.int .i64 s) := by rw [(HC.out wr HB.out k hlt).2, HZ.out]
        have HBA : Hid (∀ o, Below w.heap.size w (wr.alloc o)) := fun o => HB.out.alloc HB.out.size o
        cases hok : Pl.hOk (m, s)
        · have HE : Hid (Pl.sFree room hs = -1) := Pl.sFree_no (Pl.sOk_all (Pl.hall_bad hs k HLT.out (by rw [HZ.out]; exact hok)))
          go_wp2_with fail
          refine (holdOk_any m s _).mono ?_
          rintro e w2 ⟨rfl, hb2⟩
          rw [hok]
          have HB2 := hide_it ((HBA.out _).trans (hb2.mono (HBA.out _).size))
          clear hb2
          go_wp2
          go_ret
          exact ⟨by rw [HE.out]; rfl, HB2.out⟩
        · have HA2 : Hid ((hs.take (k + 1)).all Pl.hOk = true) := by show _ = _; rw [Pl.hall_snoc hs k HLT.out, HA.out, HZ.out, hok]; rfl
          have HF : Hid (N - Pl.hHad (m, s) = Pl.free room (hs.take (k + 1))) := by show _ = _; rw [Pl.free_snoc room hs k HLT.out, ← HN.out, HZ.out]
          have hbd := Pl.hHad_bd (m, s) hok
          have HX := hide_it (Duo.new wr (.int .i64 m) (.int .i64 s) 54)
          go_wp2_with fail
          refine (holdOk_any m s _).mono ?_
          rintro e w2 ⟨rfl, hb2⟩
          rw [hok]
          have HB2 := hide_it ((HBA.out _).trans (hb2.mono (HBA.out _).size))
          obtain ⟨x0, x1⟩ := HX.out.later hb2 (Nat.le_refl _)
          clear hb2
          go_wp2_with fail
          refine (had_any m s _).mono ?_
          rintro e w3 ⟨rfl, hb3⟩
          have HB3 := hide_it (HB2.out.trans (hb3.mono HB2.out.size))
          clear hb3 x0 x1
          go_wp2
          go_roundw
          case rel => exact ⟨k + 1, _, by omega, by go_num, rfl, HF, HA2, HB3⟩
          case measure => simp [intOf]; omega
      · have HE : Hid (Pl.sFree room hs = max N (-1)) := by
          show _ = _
          have hke : k = hs.length := by have := HL6.out; omega
          have h1 := HA.out
          have h2 := HN.out
          rw [hke, List.take_length] at h1 h2
          rw [Pl.sFree_max h1 HR.out HL6.out, h2]
        by_cases hm : -1 ≤ N
        all_goals
          go_wp2
          go_ret
          exact ⟨by rw [HE.out]; simp; omega, HB.out⟩
  · rw [Pl.sFree_no (Pl.sOk_len (by omega))]
    obtain ⟨ao, cap, rfl⟩ := hv.shape
    clear hv
    go_enter Tryz.func21, Tryz.ntmps21
    go_wp2_with (go_at_call 50; refine (roomOk_any _ _).mono ?_; rintro e w1 ⟨rfl, rfl⟩; rw [hr])
    go_ret
    exact ⟨rfl, al_below _ _⟩

theorem implStockOk_any (room : Int) (v : Value) (hs : List Pl.H) (w : World) (hv : Holds w v hs) (hl : hs.length ≤ 1048576) :
    Calls Tryz.prog 92 #[.agg #[.int .i64 room, v]] w fun e w' => e = .returned (.bool (Pl.sOk room hs)) ∧ Below w.heap.size w w' := by
  have HV : Hid (∀ W, Below w.heap.size w W → Holds W v hs) := fun W h => hv.later h (Nat.le_refl _)
  have hbd := Pl.sFree_bd room hs
  obtain ⟨ao, cap, rfl⟩ := hv.shape
  rw [← Pl.sFree_ok]
  clear hv
  go_enter Tryz.func92, Tryz.ntmps92
  go_wp2_with (go_at_call 21; refine (implFree_any room _ hs _ (HV.out _ (al_below _ _)) hl).mono ?_; rintro e w1 ⟨rfl, hb1⟩; have HB1 := hide_it (al_after hb1); clear hb1)
  go_ret
  exact ⟨rfl, HB1.out⟩

end Go.Proofs.YthllcffmpeopcaaGreatDoor

namespace Go.Proofs.YthllcffmpeopcaaGreatDoor
open Go.RowKit

/-- Holds, all marked. -/
def markH (n : Nat) (k : Int) : List Pl.H := (List.range n).map fun i => (k + 2 * (i : Nat), k + 2 * (i : Nat) + 1)
theorem markH_length (n : Nat) (k : Int) : (markH n k).length = n := by simp [markH]
theorem markH_get? (n : Nat) (k : Int) (i : Nat) (h : i < n) : (markH n k)[i]? = some (k + 2 * i, k + 2 * i + 1) := by simp [markH, h]
theorem markH_get (n : Nat) (k : Int) (i : Nat) (h : i < n) : (markH n k).getD i (0, 0) = (k + 2 * i, k + 2 * i + 1) := by
  rw [List.getD_eq_getElem?_getD, markH_get? n k i h]; rfl

theorem mixH_set (A xs : List Pl.H) (i : Nat) (hA : A.length = xs.length) (hi : i < xs.length) (x : Pl.H) (hx : A[i]? = some x) : (A.take i ++ xs.drop i).set i x = A.take (i + 1) ++ xs.drop (i + 1) := by
  have hi' : i < A.length := by omega
  rw [List.set_append_right _ _ (by simp; omega)]
  have h1 : i - (A.take i).length = 0 := by simp; omega
  rw [h1, List.drop_eq_getElem_cons hi, List.set_cons_zero, List.take_succ_eq_append_getElem hi']
  rw [List.getElem?_eq_getElem hi'] at hx
  simp only [Option.some.injEq] at hx
  rw [hx]; simp

theorem holds_mid {l h : Nat} {w w' : World} {lo n : Nat} {v : Value} {hs : List Pl.H} (ho : w.ownsRow lo 54 2 v n (hflat hs)) (hm : Mid l h w w') (hd : ∀ i, v.ownBlock = some i → i < l ∨ h ≤ i) : w'.ownsRow lo 54 2 v n (hflat hs) := ownsRow_mid ho hm hd

end Go.Proofs.YthllcffmpeopcaaGreatDoor

namespace Go.Proofs.YthllcffmpeopcaaGreatDoor
open Go.RowKit

theorem next_1 (m s z F : Int) : Pl.next (m, s) 1 z F = if s = 0 ∧ z ≤ F then some (z, 1) else none := by simp [Pl.next]
theorem next_2 (m s z F : Int) : Pl.next (m, s) 2 z F = if s = 1 then some (m, 2) else none := by simp [Pl.next]
theorem next_3 (m s z F : Int) : Pl.next (m, s) 3 z F = if s = 1 ∨ s = 0 then some (m, 3) else none := by simp [Pl.next]
theorem next_x (h : Pl.H) (k z F : Int) (h1 : k ≠ 1) (h2 : k ≠ 2) (h3 : k ≠ 3) : Pl.next h k z F = none := by simp [Pl.next, h1, h2, h3]

/-- The place of a trip. -/
theorem trip_at {k t : Int} {zs : List Int} (h : Pl.recOk k t zs = true) : ∃ i : Nat, i < 6 ∧ t = (i : Int) + 1 ∧ Pl.at_ t = i := by
  have := Pl.recOk_trip h
  exact ⟨(t - 1).toNat, by omega, by omega, rfl⟩

set_option maxHeartbeats 4000000 in
theorem l2May_any (room : Int) (v : Value) (hs : List Pl.H) (k t : Int) (u : Value) (zs : List Int) (w : World) (hv : Holds w v hs) (hu : Ints w u zs) (hok : Pl.sOk room hs = true) (hrec : Pl.recOk k t zs = true) :
    Calls Tryz.prog 62 #[.agg #[.int .i64 room, v], .agg #[.int .i64 k, .int .i64 t, u]] w fun e w' => e = .returned (.bool (Pl.next (Pl.hAt hs t) k (zs.headD 0) (Pl.free room hs)).isSome) ∧ Below w.heap.size w w' := by
  obtain ⟨p1, p2, p3, p4⟩ := Pl.sOk_parts hok
  obtain ⟨i, hi, rfl, hat⟩ := trip_at hrec
  have hkb := Pl.recOk_kind hrec
  have HV : Hid (∀ W, Below w.heap.size w W → Holds W v hs) := fun W h => hv.later h (Nat.le_refl _)
  obtain ⟨F, hF⟩ : ∃ F, Pl.free room hs = F := ⟨_, rfl⟩
  have HF : Hid (∀ W, Below w.heap.size w W → Calls Tryz.prog 88 #[.agg #[.int .i64 room, v]] W fun e w' => e = .returned (.int .i64 F) ∧ Below W.heap.size W w') := fun W h => by
    have := l2Free_any room v hs W (HV.out W h) (by omega) p1 p2
    rw [hF] at this
    exact this
  rw [hF]
  obtain ⟨m, s, hms⟩ : ∃ m s, Pl.hAt hs ((i : Int) + 1) = (m, s) := ⟨_, _, rfl⟩
  rw [hms]
  rcases hv with ⟨rfl, _⟩ | ⟨b, off, cap, rfl, hz, hc⟩
  · simp at p3
  have hmsd : hs.getD i (0, 0) = (m, s) := by rw [← hat]; exact hms
  obtain ⟨c0, c1⟩ := hc i (by omega)
  rw [hmsd] at c0 c1
  have hbw : b < w.heap.size := World.block_lt_of_cell? _ _ c0
  rw [p3] at HF ⊢
  clear hc hz p1 p2 p3 p4 hok hat hms hmsd hF HV
  by_cases k1 : k = 1
  · subst k1
    obtain ⟨z, rfl, z1, z3⟩ := Pl.recOk_hold hrec
    rcases hu with ⟨h, _⟩ | ⟨b2, off2, cap2, rfl, hz2, hc2⟩
    · simp at h
    have d0 : w.cell? ⟨b2, off2, none⟩ = some (.int .i64 z) := hc2 0 (by simp)
    have hb2 : b2 < w.heap.size := World.block_lt_of_cell? _ _ d0
    rw [next_1, List.headD_cons]
    clear hc2 hz2 hrec hkb
    by_cases hs0 : s = 0
    · subst hs0
      have HR : Hid (∀ W, Below (((w.alloc (.cells #[.int .i64 room, .slice (some ⟨b, off, none⟩) 6 cap] 50)).alloc (.cells #[.int .i64 1, .int .i64 ((i : Int) + 1), .slice (some ⟨b2, off2, none⟩) 1 cap2] 62)).drew).heap.size (((w.alloc (.cells #[.int .i64 room, .slice (some ⟨b, off, none⟩) 6 cap] 50)).alloc (.cells #[.int .i64 1, .int .i64 ((i : Int) + 1), .slice (some ⟨b2, off2, none⟩) 1 cap2] 62)).drew) W →
          W.cell? ⟨w.heap.size, 0, none⟩ = some (.int .i64 room) ∧ W.cell? ⟨w.heap.size, 1, none⟩ = some (.slice (some ⟨b, off, none⟩) 6 cap) ∧ W.cell? ⟨w.heap.size + 1, 2, none⟩ = some (.slice (some ⟨b2, off2, none⟩) 1 cap2) ∧ W.cell? ⟨b2, off2, none⟩ = some (.int .i64 z)) := fun W h => by
        obtain ⟨hc, _⟩ := bcell h
        refine ⟨?_, ?_, ?_, ?_⟩
        · rw [hc _ _ (by simp; try omega)]; simp [go_sem]
        · rw [hc _ _ (by simp; try omega)]; simp [go_sem]
        · rw [hc _ _ (by simp; try omega)]; simp [go_sem]
        · rw [hc _ _ (by simp; try omega)]; exact ((below2 w _ _).drew.cell (p := ⟨b2, off2, none⟩) hb2).trans d0
      by_cases hzF : z ≤ F
      · rw [if_pos ⟨rfl, hzF⟩]
        go_enter Tryz.func62, Tryz.ntmps62
        go_wp2
        go_region_held (fun w' => w'.cell? ⟨w.heap.size, 0, none⟩ = some (.int .i64 room) ∧ w'.cell? ⟨w.heap.size, 1, none⟩ = some (.slice (some ⟨b, off, none⟩) 6 cap) ∧ w'.cell? ⟨w.heap.size + 1, 2, none⟩ = some (.slice (some ⟨b2, off2, none⟩) 1 cap2) ∧ w'.cell? ⟨b2, off2, none⟩ = some (.int .i64 z)) (go_keep)
          ((go_at_call 88; refine (HF.out _ ((below2 w _ _).drew)).mono ?_; rintro e w1 ⟨rfl, hb1⟩; have HB1 := hide_it ((below2 w _ _).drew.trans (hb1.mono (by simp; omega))); obtain ⟨y0, y1, y2, y3⟩ := HR.out _ hb1; clear hb1))
        all_goals (try go_wp2)
        all_goals (go_ret; exact ⟨rfl, HB1.out⟩)
      · rw [if_neg (by omega)]
        go_enter Tryz.func62, Tryz.ntmps62
        go_wp2
        go_region_held (fun w' => w'.cell? ⟨w.heap.size, 0, none⟩ = some (.int .i64 room) ∧ w'.cell? ⟨w.heap.size, 1, none⟩ = some (.slice (some ⟨b, off, none⟩) 6 cap) ∧ w'.cell? ⟨w.heap.size + 1, 2, none⟩ = some (.slice (some ⟨b2, off2, none⟩) 1 cap2) ∧ w'.cell? ⟨b2, off2, none⟩ = some (.int .i64 z)) (go_keep)
          ((go_at_call 88; refine (HF.out _ ((below2 w _ _).drew)).mono ?_; rintro e w1 ⟨rfl, hb1⟩; have HB1 := hide_it ((below2 w _ _).drew.trans (hb1.mono (by simp; omega))); obtain ⟨y0, y1, y2, y3⟩ := HR.out _ hb1; clear hb1))
        all_goals (try go_wp2)
        all_goals (go_ret; exact ⟨by simp; omega, HB1.out⟩)
    · rw [if_neg (by omega)]
      go_enter Tryz.func62, Tryz.ntmps62
      go_wp2
      go_quiet (fail)
      go_wp2
      go_ret
      exact ⟨rfl, below_drewN (below2 w _ _) _⟩
  obtain ⟨au, cu, rfl⟩ := hu.shape
  clear hu
  by_cases k2 : k = 2
  · subst k2
    rw [next_2]
    by_cases hs1 : s = 1
    · rw [if_pos hs1]
      go_enter Tryz.func62, Tryz.ntmps62
      go_wp2
      go_ret
      exact ⟨by simp, below2 w _ _⟩
    · rw [if_neg hs1]
      go_enter Tryz.func62, Tryz.ntmps62
      go_wp2
      go_ret
      exact ⟨by simp [hs1], below2 w _ _⟩
  by_cases k3 : k = 3
  · subst k3
    rw [next_3]
    by_cases hs1 : s = 1
    · rw [if_pos (Or.inl hs1)]
      subst hs1
      go_enter Tryz.func62, Tryz.ntmps62
      go_wp2
      go_ret
      exact ⟨rfl, below2 w _ _⟩
    by_cases hs0 : s = 0
    · rw [if_pos (Or.inr hs0)]
      subst hs0
      go_enter Tryz.func62, Tryz.ntmps62
      go_wp2
      go_ret
      exact ⟨rfl, below2 w _ _⟩
    · rw [if_neg (by omega)]
      have e1 : (s == 1) = false := by simp [hs1]
      have e2 : (s == 0) = false := by simp [hs0]
      go_enter Tryz.func62, Tryz.ntmps62
      go_wp2
      go_ret
      exact ⟨rfl, below2 w _ _⟩
  rw [next_x _ _ _ _ k1 k2 k3]
  have e1 : (k == 1) = false := by simp [k1]
  have e2 : (k == 2) = false := by simp [k2]
  have e3 : (k == 3) = false := by simp [k3]
  go_enter Tryz.func62, Tryz.ntmps62
  go_wp2
  go_ret
  exact ⟨rfl, below2 w _ _⟩

end Go.Proofs.YthllcffmpeopcaaGreatDoor

namespace Go.Proofs.YthllcffmpeopcaaGreatDoor
open Go.RowKit

/-- What a step answers. -/
def StepOut (W w' : World) (e : Ending) (o : Option Pl.H) : Prop :=
  ∃ p q : Int, e = .returned (.tuple #[.agg #[.int .i64 p, .int .i64 q], .bool o.isSome]) ∧ (∀ h, o = some h → h = (p, q)) ∧ Below W.heap.size W w'

set_option maxHeartbeats 2000000 in
theorem noStep_any (m s k t : Int) (u : Value) (z F : Int) (w : World) (k1 : k ≠ 1) (k2 : k ≠ 2) (k3 : k ≠ 3) (hu : ∃ au n cu, u = .slice au n cu) :
    Calls Tryz.prog 105 #[.agg #[.int .i64 m, .int .i64 s], .agg #[.int .i64 k, .int .i64 t, u], .int .i64 F] w fun e w' => StepOut w w' e (Pl.next (m, s) k z F) := by
  obtain ⟨au, n, cu, rfl⟩ := hu
  rw [next_x _ _ _ _ k1 k2 k3]
  go_enter Tryz.func105, Tryz.ntmps105
  go_wp2
  refine bodyPost_ret (v := .tuple #[.agg #[.int .i64 m, .int .i64 s], .bool false]) (by simp [results, Tryz.results105, go_sem]) rfl ⟨m, s, rfl, (fun h hh => by cases hh), ?_⟩
  first | exact below3 w _ _ _ | exact (below3 w _ _ _).setCell (by simp) _ | exact ((below3 w _ _ _).setCell (by simp) _).setCell (by simp) _ | trace_state

theorem StepOut.mk {W w' : World} {p q : Int} {o : Option Pl.H} (h : ∀ x, o = some x → x = (p, q)) (hb : Below W.heap.size W w') : StepOut W w' (.returned (.tuple #[.agg #[.int .i64 p, .int .i64 q], .bool o.isSome])) o := ⟨p, q, rfl, h, hb⟩

set_option maxHeartbeats 2000000 in
theorem closeStep_any (m s t : Int) (u : Value) (z F : Int) (w : World) (hu : ∃ au n cu, u = .slice au n cu) :
    Calls Tryz.prog 107 #[.agg #[.int .i64 m, .int .i64 s], .agg #[.int .i64 2, .int .i64 t, u], .int .i64 F] w fun e w' => StepOut w w' e (Pl.next (m, s) 2 z F) := by
  obtain ⟨au, n, cu, rfl⟩ := hu
  rw [next_2]
  by_cases hs1 : s = 1
  · rw [if_pos hs1]
    subst hs1
    go_enter Tryz.func107, Tryz.ntmps107
    go_wp2
    go_region
    go_wp2
    exact bodyPost_ret (v := .tuple #[.agg #[.int .i64 m, .int .i64 2], .bool true]) (by simp [results, Tryz.results107, go_sem]) rfl (StepOut.mk (o := some (m, 2)) (fun h hh => by simpa using hh.symm) (below3 w _ _ _).drew)
  · rw [if_neg hs1]
    have e1 : (s == 1) = false := by simp [hs1]
    go_enter Tryz.func107, Tryz.ntmps107
    go_wp2
    go_region
    go_wp2
    exact bodyPost_ret (v := .tuple #[.agg #[.int .i64 m, .int .i64 2], .bool false]) (by simp [results, Tryz.results107, go_sem]) rfl (StepOut.mk (o := none) (fun h hh => by cases hh) (below3 w _ _ _).drew)

set_option maxHeartbeats 2000000 in
theorem undoStep_any (m s t : Int) (u : Value) (z F : Int) (w : World) (hu : ∃ au n cu, u = .slice au n cu) :
    Calls Tryz.prog 108 #[.agg #[.int .i64 m, .int .i64 s], .agg #[.int .i64 3, .int .i64 t, u], .int .i64 F] w fun e w' => StepOut w w' e (Pl.next (m, s) 3 z F) := by
  obtain ⟨au, n, cu, rfl⟩ := hu
  rw [next_3]
  by_cases hs1 : s = 1
  · rw [if_pos (Or.inl hs1)]
    subst hs1
    go_enter Tryz.func108, Tryz.ntmps108
    go_wp2
    go_region
    go_wp2
    exact bodyPost_ret (v := .tuple #[.agg #[.int .i64 m, .int .i64 3], .bool true]) (by simp [results, Tryz.results108, go_sem]) rfl (StepOut.mk (o := some (m, 3)) (fun h hh => by simpa using hh.symm) (below3 w _ _ _).drew)
  have e1 : (s == 1) = false := by simp [hs1]
  by_cases hs0 : s = 0
  · rw [if_pos (Or.inr hs0)]
    subst hs0
    clear e1 hs1
    go_enter Tryz.func108, Tryz.ntmps108
    go_wp2
    go_region
    go_wp2
    exact bodyPost_ret (v := .tuple #[.agg #[.int .i64 m, .int .i64 3], .bool true]) (by simp [results, Tryz.results108, go_sem]) rfl (StepOut.mk (o := some (m, 3)) (fun h hh => by simpa using hh.symm) (below3 w _ _ _).drew)
  · rw [if_neg (by omega)]
    have e0 : (s == 0) = false := by simp [hs0]
    go_enter Tryz.func108, Tryz.ntmps108
    go_wp2
    go_region
    go_wp2
    exact bodyPost_ret (v := .tuple #[.agg #[.int .i64 m, .int .i64 3], .bool false]) (by simp [results, Tryz.results108, go_sem]) rfl (StepOut.mk (o := none) (fun h hh => by cases hh) (below3 w _ _ _).drew)

set_option maxHeartbeats 2000000 in
theorem holdStep_any (m s t : Int) (b2 off2 cap2 : Nat) (z F : Int) (w : World) (d0 : w.cell? ⟨b2, off2, none⟩ = some (.int .i64 z)) :
    Calls Tryz.prog 106 #[.agg #[.int .i64 m, .int .i64 s], .agg #[.int .i64 1, .int .i64 t, .slice (some ⟨b2, off2, none⟩) 1 cap2], .int .i64 F] w fun e w' => StepOut w w' e (Pl.next (m, s) 1 z F) := by
  have hb2 : b2 < w.heap.size := World.block_lt_of_cell? _ _ d0
  have HQ : Hid (∀ o, (((w.alloc (.cells #[.int .i64 m, .int .i64 s] 54)).alloc (.cells #[.int .i64 1, .int .i64 t, .slice (some ⟨b2, off2, none⟩) 1 cap2] 62)).alloc o).drew.cell? ⟨w.heap.size, 1, none⟩ = some (.int .i64 s) ∧
      (((w.alloc (.cells #[.int .i64 m, .int .i64 s] 54)).alloc (.cells #[.int .i64 1, .int .i64 t, .slice (some ⟨b2, off2, none⟩) 1 cap2] 62)).alloc o).drew.cell? ⟨w.heap.size + 1, 2, none⟩ = some (.slice (some ⟨b2, off2, none⟩) 1 cap2) ∧
      (((w.alloc (.cells #[.int .i64 m, .int .i64 s] 54)).alloc (.cells #[.int .i64 1, .int .i64 t, .slice (some ⟨b2, off2, none⟩) 1 cap2] 62)).alloc o).drew.cell? ⟨b2, off2, none⟩ = some (.int .i64 z)) := fun o => by
    obtain ⟨hc, _⟩ := bcell (al_below ((w.alloc (.cells #[.int .i64 m, .int .i64 s] 54)).alloc (.cells #[.int .i64 1, .int .i64 t, .slice (some ⟨b2, off2, none⟩) 1 cap2] 62)) o).drew
    refine ⟨?_, ?_, ?_⟩
    · rw [hc _ _ (by simp; omega)]; simp [go_sem]
    · rw [hc _ _ (by simp)]; simp [go_sem]
    · rw [hc _ _ (by simp; omega)]; exact ((below2 w _ _).cell (p := ⟨b2, off2, none⟩) hb2).trans d0
  rw [next_1]
  by_cases hs0 : s = 0
  · subst hs0
    by_cases hzF : z ≤ F
    · rw [if_pos ⟨rfl, hzF⟩]
      go_enter Tryz.func106, Tryz.ntmps106
      go_wp2
      go_region_held (fun w' => w'.cell? ⟨w.heap.size, 1, none⟩ = some (.int .i64 0) ∧ w'.cell? ⟨w.heap.size + 1, 2, none⟩ = some (.slice (some ⟨b2, off2, none⟩) 1 cap2) ∧ w'.cell? ⟨b2, off2, none⟩ = some (.int .i64 z)) (first | (go_keep; done) | exact HQ.out _) (fail)
      go_wp2
      exact bodyPost_ret (v := .tuple #[.agg #[.int .i64 z, .int .i64 1], .bool true]) (by simp [results, Tryz.results106, go_sem]) rfl (StepOut.mk (o := some (z, 1)) (fun h hh => by simpa using hh.symm) (below3 w _ _ _).drew)
    · rw [if_neg (by omega)]
      go_enter Tryz.func106, Tryz.ntmps106
      go_wp2
      go_region_held (fun w' => w'.cell? ⟨w.heap.size, 1, none⟩ = some (.int .i64 0) ∧ w'.cell? ⟨w.heap.size + 1, 2, none⟩ = some (.slice (some ⟨b2, off2, none⟩) 1 cap2) ∧ w'.cell? ⟨b2, off2, none⟩ = some (.int .i64 z)) (first | (go_keep; done) | exact HQ.out _) (fail)
      go_wp2
      exact bodyPost_ret (v := .tuple #[.agg #[.int .i64 z, .int .i64 1], .bool false]) (by simp [results, Tryz.results106, go_sem]; try omega) rfl (StepOut.mk (o := none) (fun h hh => by cases hh) (below3 w _ _ _).drew)
  · rw [if_neg (by omega)]
    have e0 : (s == 0) = false := by simp [hs0]
    have hq : ∀ o1 o2 o3, (((w.alloc o1).alloc o2).alloc o3).cell? ⟨b2, off2, none⟩ = some (.int .i64 z) := fun o1 o2 o3 => ((below3 w o1 o2 o3).cell (p := ⟨b2, off2, none⟩) hb2).trans d0
    go_enter Tryz.func106, Tryz.ntmps106
    go_wp2
    go_region
    go_wp2
    exact bodyPost_ret (v := .tuple #[.agg #[.int .i64 z, .int .i64 1], .bool false]) (by simp [results, Tryz.results106, go_sem]) rfl (StepOut.mk (o := none) (fun h hh => by cases hh) (below3 w _ _ _).drew)

set_option maxHeartbeats 2000000 in
theorem steps_any (w : World) :
    Calls Tryz.prog 93 #[] w fun e w' => e = .returned (.agg #[.func (.func 105) #[] #[], .func (.func 106) #[] #[], .func (.func 107) #[] #[], .func (.func 108) #[] #[], .func (.func 105) #[] #[], .func (.func 105) #[] #[], .func (.func 105) #[] #[], .func (.func 105) #[] #[]]) ∧ Below w.heap.size w w' := by
  go_enter Tryz.func93, Tryz.ntmps93
  go_wp2
  exact bodyPost_ret (v := .agg #[.func (.func 105) #[] #[], .func (.func 106) #[] #[], .func (.func 107) #[] #[], .func (.func 108) #[] #[], .func (.func 105) #[] #[], .func (.func 105) #[] #[], .func (.func 105) #[] #[], .func (.func 105) #[] #[]]) (by simp [results, Tryz.results93, go_sem]) rfl ⟨rfl, al_below _ _⟩

end Go.Proofs.YthllcffmpeopcaaGreatDoor

namespace Go.Proofs.YthllcffmpeopcaaGreatDoor
open Go.RowKit

/-- The two boxes and the answer's own, as holdBehind begins. -/
def Box3 (W : World) (B : Nat) (x y : Value) (k t : Int) (u : Value) : Prop :=
  Duo W B x y ∧ RecAt W (B + 1) k t u ∧ W.cell? ⟨B + 2, 0, none⟩ = some (.int .i64 0) ∧ W.cell? ⟨B + 2, 1, none⟩ = some (.int .i64 0) ∧ W.frozen? ⟨B + 2, 0, none⟩ = false ∧ W.frozen? ⟨B + 2, 1, none⟩ = false
theorem Box3.later {C : Nat} {W W' : World} {B : Nat} {x y : Value} {k t : Int} {u : Value} (h : Box3 W B x y k t u) (hb : Below C W W') (hC : W.heap.size ≤ C) : Box3 W' B x y k t u := by
  obtain ⟨h1, h2, h3, h4, h5, h6⟩ := h
  have hlt := World.block_lt_of_cell? _ _ h3
  simp at hlt
  refine ⟨h1.later hb hC, h2.later hb hC, ?_, ?_, ?_, ?_⟩
  · rw [← h3]; exact hb.cell (p := ⟨B + 2, 0, none⟩) (by simp; omega)
  · rw [← h4]; exact hb.cell (p := ⟨B + 2, 1, none⟩) (by simp; omega)
  · rw [← h5]; exact hb.frozen (p := ⟨B + 2, 0, none⟩) (by simp; omega)
  · rw [← h6]; exact hb.frozen (p := ⟨B + 2, 1, none⟩) (by simp; omega)
theorem Box3.new (w : World) (x y : Value) (k t : Int) (u : Value) (t1 t2 t3 : TypeId) : Box3 (((w.alloc (.cells #[x, y] t1)).alloc (.cells #[.int .i64 k, .int .i64 t, u] t2)).alloc (.cells #[.int .i64 0, .int .i64 0] t3)) w.heap.size x y k t u := by
  refine ⟨⟨?_, ?_⟩, ⟨?_, ?_, ?_⟩, ?_, ?_, ?_, ?_⟩ <;> simp [go_sem]

theorem two_set_cells (W : World) (B : Nat) (x y : Value) (b o : Nat) (h : b < B) : ((W.setCell ⟨B, 0, none⟩ x).setCell ⟨B, 1, none⟩ y).cell? ⟨b, o, none⟩ = W.cell? ⟨b, o, none⟩ :=
  (((Below.refl B W).setCell (Nat.le_refl _) x).setCell (Nat.le_refl _) y).cell (p := ⟨b, o, none⟩) h

theorem StepOut.none_ {W w' : World} {p q : Int} (hb : Below W.heap.size W w') : StepOut W w' (.returned (.tuple #[.agg #[.int .i64 p, .int .i64 q], .bool false])) none := ⟨p, q, rfl, fun h hh => (by cases hh), hb⟩

set_option maxHeartbeats 2000000 in
theorem behind_noStock (room : Int) (v : Value) (hs : List Pl.H) (k t : Int) (u : Value) (zs : List Int) (w : World) (hv : Holds w v hs) (hl : hs.length ≤ 1048576) (hu : ∃ au n cu, u = .slice au n cu) (hok : Pl.sOk room hs = false) :
    Calls Tryz.prog 69 #[.agg #[.int .i64 room, v], .agg #[.int .i64 k, .int .i64 t, u]] w fun e w' => StepOut w w' e (Pl.behind room hs k t zs) := by
  rw [Pl.behind_stock k t zs hok]
  have HV : Hid (∀ W, Below w.heap.size w W → Holds W v hs) := fun W h => hv.later h (Nat.le_refl _)
  obtain ⟨av, cv, rfl⟩ := hv.shape
  obtain ⟨au, n, cu, rfl⟩ := hu
  have BX := hide_it (Box3.new w (.int .i64 room) (.slice av hs.length cv) k t (.slice au n cu) 50 62 54)
  clear hv
  go_enter Tryz.func69, Tryz.ntmps69
  go_wp2_with fail
  refine (implStockOk_any room _ hs _ (HV.out _ (below3 w _ _ _)) hl).mono ?_
  rintro e w1 ⟨rfl, hb1⟩
  rw [hok]
  have B1 := hide_it ((below3 w _ _ _).trans (hb1.mono (by simp; omega)))
  obtain ⟨⟨x0, x1⟩, ⟨r0, r1, r2⟩, q0, q1, f0, f1⟩ := BX.out.later hb1 (Nat.le_refl _)
  clear hb1
  go_wp2
  exact bodyPost_ret (v := .tuple #[.agg #[.int .i64 0, .int .i64 0], .bool false]) (by simp [results, Tryz.results69, go_sem, q0, q1]) rfl (StepOut.none_ ((B1.out.setCell (by simp; omega) _).setCell (by simp; omega) _))

set_option maxHeartbeats 2000000 in
theorem behind_noRec (room : Int) (v : Value) (hs : List Pl.H) (k t : Int) (u : Value) (zs : List Int) (a : Addr) (w : World) (hv : Holds w v hs) (hl : hs.length ≤ 1048576) (hu : Ints w u zs) (hzl : zs.length ≤ 1048576) (ha : ErrAt w a) (hok : Pl.sOk room hs = true) (hrec : Pl.recOk k t zs = false) :
    Calls Tryz.prog 69 #[.agg #[.int .i64 room, v], .agg #[.int .i64 k, .int .i64 t, u]] w fun e w' => StepOut w w' e (Pl.behind room hs k t zs) := by
  rw [Pl.behind_rec room hs hrec]
  have HV : Hid (∀ W, Below w.heap.size w W → Holds W v hs) := fun W h => hv.later h (Nat.le_refl _)
  have HU : Hid (∀ W, Below w.heap.size w W → Ints W u zs) := fun W h => hu.later h (Nat.le_refl _)
  have HA : Hid (∀ W, Below w.heap.size w W → ErrAt W a) := fun W h => ha.later h (Nat.le_refl _)
  obtain ⟨av, cv, rfl⟩ := hv.shape
  obtain ⟨au, cu, rfl⟩ := hu.shape
  have BX := hide_it (Box3.new w (.int .i64 room) (.slice av hs.length cv) k t (.slice au zs.length cu) 50 62 54)
  clear hv hu ha
  go_enter Tryz.func69, Tryz.ntmps69
  go_wp2_with fail
  refine (implStockOk_any room _ hs _ (HV.out _ (below3 w _ _ _)) hl).mono ?_
  rintro e w1 ⟨rfl, hb1⟩
  rw [hok]
  have B1 := hide_it ((below3 w _ _ _).trans (hb1.mono (by simp; omega)))
  have BX1 := hide_it (BX.out.later hb1 (Nat.le_refl _))
  obtain ⟨⟨x0, x1⟩, ⟨r0, r1, r2⟩, q0, q1, f0, f1⟩ := BX1.out
  clear hb1
  go_wp2_with fail
  refine (implOk_any k t _ zs a w1 (HU.out _ B1.out) hzl (HA.out _ B1.out)).mono ?_
  rintro e w2 ⟨rfl, hb2⟩
  rw [hrec]
  have B2 := hide_it (B1.out.trans (hb2.mono B1.out.size))
  clear x0 x1 r0 r1 r2 q0 q1 f0 f1
  obtain ⟨⟨x0, x1⟩, ⟨r0, r1, r2⟩, q0, q1, f0, f1⟩ := BX1.out.later hb2 (Nat.le_refl _)
  clear hb2
  go_wp2
  exact bodyPost_ret (v := .tuple #[.agg #[.int .i64 0, .int .i64 0], .bool false]) (by simp [results, Tryz.results69, go_sem, q0, q1]) rfl (StepOut.none_ ((B2.out.setCell (by simp; omega) _).setCell (by simp; omega) _))

set_option maxRecDepth 100000 in
set_option maxHeartbeats 4000000 in
theorem behind_K1 (room : Int) (v : Value) (hs : List Pl.H) (t : Int) (u : Value) (zs : List Int) (a : Addr) (w : World) (hv : Holds w v hs) (hu : Ints w u zs) (hzl : zs.length ≤ 1048576) (ha : ErrAt w a) (hok : Pl.sOk room hs = true) (hrec : Pl.recOk 1 t zs = true) :
    Calls Tryz.prog 69 #[.agg #[.int .i64 room, v], .agg #[.int .i64 1, .int .i64 t, u]] w fun e w' => StepOut w w' e (Pl.behind room hs 1 t zs) := by
  rw [Pl.behind_ok hok hrec]
  obtain ⟨p1, p2, p3, p4⟩ := Pl.sOk_parts hok
  have HV : Hid (∀ W, Below w.heap.size w W → Holds W v hs) := fun W h => hv.later h (Nat.le_refl _)
  have HU : Hid (∀ W, Below w.heap.size w W → Ints W u zs) := fun W h => hu.later h (Nat.le_refl _)
  have HA : Hid (∀ W, Below w.heap.size w W → ErrAt W a) := fun W h => ha.later h (Nat.le_refl _)
  obtain ⟨i, hi, rfl, hat⟩ := trip_at hrec
  obtain ⟨F, hF⟩ : ∃ F, Pl.free room hs = F := ⟨_, rfl⟩
  have HFR : Hid (∀ W, Below w.heap.size w W → Calls Tryz.prog 21 #[.agg #[.int .i64 room, v]] W fun e w' => e = .returned (.int .i64 F) ∧ Below W.heap.size W w') := fun W h => by
    have := implFree_any room v hs W (HV.out W h) (by omega)
    rw [Pl.sFree_yes hok, hF] at this
    exact this
  obtain ⟨m, s, hms⟩ : ∃ m s, Pl.hAt hs ((i : Int) + 1) = (m, s) := ⟨_, _, rfl⟩
  rw [hF, hms]
  have HST : Hid (∀ W, Below w.heap.size w W → Calls Tryz.prog 106 #[.agg #[.int .i64 m, .int .i64 s], .agg #[.int .i64 1, .int .i64 ((i : Int) + 1), u], .int .i64 F] W fun e w' => StepOut W w' e (Pl.next (m, s) 1 (zs.headD 0) F)) := fun W h => by
    obtain ⟨z, rfl, _, _⟩ := Pl.recOk_hold hrec
    rcases HU.out W h with ⟨h, _⟩ | ⟨b2, off2, cap2, rfl, _, hc2⟩
    · simp at h
    · exact holdStep_any m s _ b2 off2 cap2 z F W (hc2 0 (by simp))
  obtain ⟨o, ho⟩ : ∃ o, Pl.next (m, s) 1 (zs.headD 0) F = o := ⟨_, rfl⟩
  rw [ho] at HST ⊢
  clear ho
  rcases hv with ⟨rfl, _⟩ | ⟨b, off, cap, rfl, hz, hc⟩
  · simp at p3
  have hmsd : hs.getD i (0, 0) = (m, s) := by rw [← hat]; exact hms
  have hbw : b < w.heap.size := World.block_lt_of_cell? _ _ (hc i (by omega)).1
  have HC : Hid (∀ W, Below w.heap.size w W → W.cell? ⟨b, off + i * 2, none⟩ = some (.int .i64 m) ∧ W.cell? ⟨b, off + i * 2 + 1, none⟩ = some (.int .i64 s)) := fun W h => by
    obtain ⟨h1, h2⟩ := hc i (by omega)
    rw [hmsd] at h1 h2
    have hl := World.block_lt_of_cell? _ _ h1
    simp at hl
    exact ⟨by rw [← h1]; exact h.cell (p := ⟨b, off + i * 2, none⟩) (by simp; omega), by rw [← h2]; exact h.cell (p := ⟨b, off + i * 2 + 1, none⟩) (by simp; omega)⟩
  rw [p3] at HFR ⊢
  have HOK : Hid (∀ W, Below w.heap.size w W → Calls Tryz.prog 92 #[.agg #[.int .i64 room, .slice (some ⟨b, off, none⟩) 6 cap]] W fun e w' => e = .returned (.bool true) ∧ Below W.heap.size W w') := fun W h => by
    have h1 := HV.out W h
    rw [p3] at h1
    have := implStockOk_any room _ hs W h1 (by omega)
    rw [hok] at this
    exact this
  obtain ⟨au, cu, rfl⟩ := hu.shape
  have BX := hide_it (Box3.new w (.int .i64 room) (.slice (some ⟨b, off, none⟩) 6 cap) 1 ((i : Int) + 1) (.slice au zs.length cu) 50 62 54)
  clear hc hz p1 p2 p3 p4 hat hms hmsd hF HV hu ha
  go_enter Tryz.func69, Tryz.ntmps69
  go_wp2_with fail
  refine (HOK.out _ (below3 w _ _ _)).mono ?_
  rintro e w1 ⟨rfl, hb1⟩
  have B1 := hide_it ((below3 w _ _ _).trans (hb1.mono (by simp; omega)))
  have BX1 := hide_it (BX.out.later hb1 (Nat.le_refl _))
  obtain ⟨⟨x0, x1⟩, ⟨r0, r1, r2⟩, q0, q1, f0, f1⟩ := BX1.out
  clear hb1
  go_wp2_with fail
  refine (implOk_any 1 _ _ zs a w1 (HU.out _ B1.out) hzl (HA.out _ B1.out)).mono ?_
  rintro e w2 ⟨rfl, hb2⟩
  rw [hrec]
  have B2 := hide_it (B1.out.trans (hb2.mono B1.out.size))
  have BX2 := hide_it (BX1.out.later hb2 (Nat.le_refl _))
  clear x0 x1 r0 r1 r2 q0 q1 f0 f1 hb2
  obtain ⟨⟨x0, x1⟩, ⟨r0, r1, r2⟩, q0, q1, f0, f1⟩ := BX2.out
  have hix : ∀ W, Sem.run Tryz.prog (Instr.index 121 (.agg #[.func (.func 105) #[] #[], .func (.func 106) #[] #[], .func (.func 107) #[] #[], .func (.func 108) #[] #[], .func (.func 105) #[] #[], .func (.func 105) #[] #[], .func (.func 105) #[] #[], .func (.func 105) #[] #[]]) (.int .i64 1)) W = .ok (.func (.func 106) #[] #[]) W := fun W => by kernel_rfl
  go_wp2_with fail
  go_region_held (fun w' => w'.cell? ⟨w.heap.size + 1, 0, none⟩ = some (.int .i64 1)) (go_keep)
    ((go_at_call 93; refine (steps_any _).mono ?_; rintro e w3 ⟨rfl, hb3⟩; have B3 := hide_it (B2.out.drew.trans (hb3.mono B2.out.size)); have BX3 := hide_it ((BX2.out.later (Below.refl _ _).drew (Nat.le_refl _)).later hb3 (Nat.le_refl _)); obtain ⟨_, ⟨s0, _⟩, _⟩ := BX3.out; clear hb3))
  have hi6 : (i : Int) < 6 := by omega
  have hwr : IntKind.i64.wrap ((i : Int) + 1 - 1) = (i : Int) := by simp [IntKind.wrap, IntKind.bits, IntKind.signed]; omega
  have hwi : IntKind.i64.wrap (i : Int) = (i : Int) := by simp [IntKind.wrap, IntKind.bits, IntKind.signed]; omega
  obtain ⟨d0, d1⟩ := HC.out _ B3.out
  obtain ⟨⟨y0, y1⟩, ⟨t0, t1, t2⟩, g0, g1, h0, h1⟩ := BX3.out
  clear x0 x1 r0 r1 r2 q0 q1 f0 f1 s0 hix
  go_wp2_with fail
  go_region_held (fun w' => w'.cell? ⟨w.heap.size, 0, none⟩ = some (.int .i64 room) ∧ w'.cell? ⟨w.heap.size, 1, none⟩ = some (.slice (some ⟨b, off, none⟩) 6 cap) ∧ w'.cell? ⟨w.heap.size + 1, 0, none⟩ = some (.int .i64 1) ∧ w'.cell? ⟨w.heap.size + 1, 1, none⟩ = some (.int .i64 ((i : Int) + 1)) ∧ w'.cell? ⟨w.heap.size + 1, 2, none⟩ = some (.slice au zs.length cu) ∧ w'.cell? ⟨b, off + i * 2, none⟩ = some (.int .i64 m) ∧ w'.cell? ⟨b, off + i * 2 + 1, none⟩ = some (.int .i64 s)) (first | (go_keep; done) | (refine ⟨?_, ?_, ?_, ?_, ?_, ?_, ?_⟩ <;> (rw [two_set_cells _ _ _ _ _ _ (by omega)]; assumption)))
    (first
    | (go_at_call 21; refine (HFR.out _ B3.out.drew).mono ?_; rintro e w4 ⟨rfl, hb4⟩; have B4 := hide_it (B3.out.drew.trans (hb4.mono B3.out.size)); have BX4 := hide_it ((BX3.out.later (Below.refl _ _).drew (Nat.le_refl _)).later hb4 (Nat.le_refl _)); obtain ⟨k0, k1⟩ := HC.out _ B4.out; obtain ⟨⟨l0, l1⟩, ⟨n0, n1, n2⟩, _⟩ := BX4.out; clear hb4)
    | (go_at_call 106; refine (HST.out _ B4.out).mono ?_; rintro e w5 ⟨p, q, rfl, hpq, hb5⟩; have HPQ := hide_it hpq; have B5 := hide_it (B4.out.trans (hb5.mono B4.out.size)); have BX5 := hide_it (BX4.out.later hb5 (Nat.le_refl _)); obtain ⟨m0, m1⟩ := HC.out _ B5.out; obtain ⟨⟨o0, o1⟩, ⟨v0, v1, v2⟩, z0, z1, j0, j1⟩ := BX5.out; have hw5 : w.heap.size + 2 < w5.heap.size := World.block_lt_of_cell? _ _ z0; clear hb5 hpq))
  go_wp2
  exact bodyPost_ret (v := .tuple #[.agg #[.int .i64 p, .int .i64 q], .bool o.isSome]) (by simp [results, Tryz.results69, go_sem, z0, z1]) rfl ⟨p, q, rfl, HPQ.out, (B5.out.setCell (by simp; omega) _).setCell (by simp; omega) _⟩

set_option maxRecDepth 100000 in
set_option maxHeartbeats 4000000 in
theorem behind_K2 (room : Int) (v : Value) (hs : List Pl.H) (t : Int) (u : Value) (zs : List Int) (a : Addr) (w : World) (hv : Holds w v hs) (hu : Ints w u zs) (hzl : zs.length ≤ 1048576) (ha : ErrAt w a) (hok : Pl.sOk room hs = true) (hrec : Pl.recOk 2 t zs = true) :
    Calls Tryz.prog 69 #[.agg #[.int .i64 room, v], .agg #[.int .i64 2, .int .i64 t, u]] w fun e w' => StepOut w w' e (Pl.behind room hs 2 t zs) := by
  rw [Pl.behind_ok hok hrec]
  obtain ⟨p1, p2, p3, p4⟩ := Pl.sOk_parts hok
  have HV : Hid (∀ W, Below w.heap.size w W → Holds W v hs) := fun W h => hv.later h (Nat.le_refl _)
  have HU : Hid (∀ W, Below w.heap.size w W → Ints W u zs) := fun W h => hu.later h (Nat.le_refl _)
  have HA : Hid (∀ W, Below w.heap.size w W → ErrAt W a) := fun W h => ha.later h (Nat.le_refl _)
  obtain ⟨i, hi, rfl, hat⟩ := trip_at hrec
  obtain ⟨F, hF⟩ : ∃ F, Pl.free room hs = F := ⟨_, rfl⟩
  have HFR : Hid (∀ W, Below w.heap.size w W → Calls Tryz.prog 21 #[.agg #[.int .i64 room, v]] W fun e w' => e = .returned (.int .i64 F) ∧ Below W.heap.size W w') := fun W h => by
    have := implFree_any room v hs W (HV.out W h) (by omega)
    rw [Pl.sFree_yes hok, hF] at this
    exact this
  obtain ⟨m, s, hms⟩ : ∃ m s, Pl.hAt hs ((i : Int) + 1) = (m, s) := ⟨_, _, rfl⟩
  rw [hF, hms]
  have HST : Hid (∀ W, Below w.heap.size w W → Calls Tryz.prog 107 #[.agg #[.int .i64 m, .int .i64 s], .agg #[.int .i64 2, .int .i64 ((i : Int) + 1), u], .int .i64 F] W fun e w' => StepOut W w' e (Pl.next (m, s) 2 (zs.headD 0) F)) := fun W h => by
    obtain ⟨au, cu, e⟩ := hu.shape
    exact closeStep_any m s _ u _ F W ⟨au, _, cu, e⟩
  obtain ⟨o, ho⟩ : ∃ o, Pl.next (m, s) 2 (zs.headD 0) F = o := ⟨_, rfl⟩
  rw [ho] at HST ⊢
  clear ho
  rcases hv with ⟨rfl, _⟩ | ⟨b, off, cap, rfl, hz, hc⟩
  · simp at p3
  have hmsd : hs.getD i (0, 0) = (m, s) := by rw [← hat]; exact hms
  have hbw : b < w.heap.size := World.block_lt_of_cell? _ _ (hc i (by omega)).1
  have HC : Hid (∀ W, Below w.heap.size w W → W.cell? ⟨b, off + i * 2, none⟩ = some (.int .i64 m) ∧ W.cell? ⟨b, off + i * 2 + 1, none⟩ = some (.int .i64 s)) := fun W h => by
    obtain ⟨h1, h2⟩ := hc i (by omega)
    rw [hmsd] at h1 h2
    have hl := World.block_lt_of_cell? _ _ h1
    simp at hl
    exact ⟨by rw [← h1]; exact h.cell (p := ⟨b, off + i * 2, none⟩) (by simp; omega), by rw [← h2]; exact h.cell (p := ⟨b, off + i * 2 + 1, none⟩) (by simp; omega)⟩
  rw [p3] at HFR ⊢
  have HOK : Hid (∀ W, Below w.heap.size w W → Calls Tryz.prog 92 #[.agg #[.int .i64 room, .slice (some ⟨b, off, none⟩) 6 cap]] W fun e w' => e = .returned (.bool true) ∧ Below W.heap.size W w') := fun W h => by
    have h1 := HV.out W h
    rw [p3] at h1
    have := implStockOk_any room _ hs W h1 (by omega)
    rw [hok] at this
    exact this
  obtain ⟨au, cu, rfl⟩ := hu.shape
  have BX := hide_it (Box3.new w (.int .i64 room) (.slice (some ⟨b, off, none⟩) 6 cap) 2 ((i : Int) + 1) (.slice au zs.length cu) 50 62 54)
  clear hc hz p1 p2 p3 p4 hat hms hmsd hF HV hu ha
  go_enter Tryz.func69, Tryz.ntmps69
  go_wp2_with fail
  refine (HOK.out _ (below3 w _ _ _)).mono ?_
  rintro e w1 ⟨rfl, hb1⟩
  have B1 := hide_it ((below3 w _ _ _).trans (hb1.mono (by simp; omega)))
  have BX1 := hide_it (BX.out.later hb1 (Nat.le_refl _))
  obtain ⟨⟨x0, x1⟩, ⟨r0, r1, r2⟩, q0, q1, f0, f1⟩ := BX1.out
  clear hb1
  go_wp2_with fail
  refine (implOk_any 2 _ _ zs a w1 (HU.out _ B1.out) hzl (HA.out _ B1.out)).mono ?_
  rintro e w2 ⟨rfl, hb2⟩
  rw [hrec]
  have B2 := hide_it (B1.out.trans (hb2.mono B1.out.size))
  have BX2 := hide_it (BX1.out.later hb2 (Nat.le_refl _))
  clear x0 x1 r0 r1 r2 q0 q1 f0 f1 hb2
  obtain ⟨⟨x0, x1⟩, ⟨r0, r1, r2⟩, q0, q1, f0, f1⟩ := BX2.out
  have hix : ∀ W, Sem.run Tryz.prog (Instr.index 121 (.agg #[.func (.func 105) #[] #[], .func (.func 106) #[] #[], .func (.func 107) #[] #[], .func (.func 108) #[] #[], .func (.func 105) #[] #[], .func (.func 105) #[] #[], .func (.func 105) #[] #[], .func (.func 105) #[] #[]]) (.int .i64 2)) W = .ok (.func (.func 107) #[] #[]) W := fun W => by kernel_rfl
  go_wp2_with fail
  go_region_held (fun w' => w'.cell? ⟨w.heap.size + 1, 0, none⟩ = some (.int .i64 2)) (go_keep)
    ((go_at_call 93; refine (steps_any _).mono ?_; rintro e w3 ⟨rfl, hb3⟩; have B3 := hide_it (B2.out.drew.trans (hb3.mono B2.out.size)); have BX3 := hide_it ((BX2.out.later (Below.refl _ _).drew (Nat.le_refl _)).later hb3 (Nat.le_refl _)); obtain ⟨_, ⟨s0, _⟩, _⟩ := BX3.out; clear hb3))
  have hi6 : (i : Int) < 6 := by omega
  have hwr : IntKind.i64.wrap ((i : Int) + 1 - 1) = (i : Int) := by simp [IntKind.wrap, IntKind.bits, IntKind.signed]; omega
  have hwi : IntKind.i64.wrap (i : Int) = (i : Int) := by simp [IntKind.wrap, IntKind.bits, IntKind.signed]; omega
  obtain ⟨d0, d1⟩ := HC.out _ B3.out
  obtain ⟨⟨y0, y1⟩, ⟨t0, t1, t2⟩, g0, g1, h0, h1⟩ := BX3.out
  clear x0 x1 r0 r1 r2 q0 q1 f0 f1 s0 hix
  go_wp2_with fail
  go_region_held (fun w' => w'.cell? ⟨w.heap.size, 0, none⟩ = some (.int .i64 room) ∧ w'.cell? ⟨w.heap.size, 1, none⟩ = some (.slice (some ⟨b, off, none⟩) 6 cap) ∧ w'.cell? ⟨w.heap.size + 1, 0, none⟩ = some (.int .i64 2) ∧ w'.cell? ⟨w.heap.size + 1, 1, none⟩ = some (.int .i64 ((i : Int) + 1)) ∧ w'.cell? ⟨w.heap.size + 1, 2, none⟩ = some (.slice au zs.length cu) ∧ w'.cell? ⟨b, off + i * 2, none⟩ = some (.int .i64 m) ∧ w'.cell? ⟨b, off + i * 2 + 1, none⟩ = some (.int .i64 s)) (first | (go_keep; done) | (refine ⟨?_, ?_, ?_, ?_, ?_, ?_, ?_⟩ <;> (rw [two_set_cells _ _ _ _ _ _ (by omega)]; assumption)))
    (first
    | (go_at_call 21; refine (HFR.out _ B3.out.drew).mono ?_; rintro e w4 ⟨rfl, hb4⟩; have B4 := hide_it (B3.out.drew.trans (hb4.mono B3.out.size)); have BX4 := hide_it ((BX3.out.later (Below.refl _ _).drew (Nat.le_refl _)).later hb4 (Nat.le_refl _)); obtain ⟨k0, k1⟩ := HC.out _ B4.out; obtain ⟨⟨l0, l1⟩, ⟨n0, n1, n2⟩, _⟩ := BX4.out; clear hb4)
    | (go_at_call 107; refine (HST.out _ B4.out).mono ?_; rintro e w5 ⟨p, q, rfl, hpq, hb5⟩; have HPQ := hide_it hpq; have B5 := hide_it (B4.out.trans (hb5.mono B4.out.size)); have BX5 := hide_it (BX4.out.later hb5 (Nat.le_refl _)); obtain ⟨m0, m1⟩ := HC.out _ B5.out; obtain ⟨⟨o0, o1⟩, ⟨v0, v1, v2⟩, z0, z1, j0, j1⟩ := BX5.out; have hw5 : w.heap.size + 2 < w5.heap.size := World.block_lt_of_cell? _ _ z0; clear hb5 hpq))
  go_wp2
  exact bodyPost_ret (v := .tuple #[.agg #[.int .i64 p, .int .i64 q], .bool o.isSome]) (by simp [results, Tryz.results69, go_sem, z0, z1]) rfl ⟨p, q, rfl, HPQ.out, (B5.out.setCell (by simp; omega) _).setCell (by simp; omega) _⟩

set_option maxRecDepth 100000 in
set_option maxHeartbeats 4000000 in
theorem behind_K3 (room : Int) (v : Value) (hs : List Pl.H) (t : Int) (u : Value) (zs : List Int) (a : Addr) (w : World) (hv : Holds w v hs) (hu : Ints w u zs) (hzl : zs.length ≤ 1048576) (ha : ErrAt w a) (hok : Pl.sOk room hs = true) (hrec : Pl.recOk 3 t zs = true) :
    Calls Tryz.prog 69 #[.agg #[.int .i64 room, v], .agg #[.int .i64 3, .int .i64 t, u]] w fun e w' => StepOut w w' e (Pl.behind room hs 3 t zs) := by
  rw [Pl.behind_ok hok hrec]
  obtain ⟨p1, p2, p3, p4⟩ := Pl.sOk_parts hok
  have HV : Hid (∀ W, Below w.heap.size w W → Holds W v hs) := fun W h => hv.later h (Nat.le_refl _)
  have HU : Hid (∀ W, Below w.heap.size w W → Ints W u zs) := fun W h => hu.later h (Nat.le_refl _)
  have HA : Hid (∀ W, Below w.heap.size w W → ErrAt W a) := fun W h => ha.later h (Nat.le_refl _)
  obtain ⟨i, hi, rfl, hat⟩ := trip_at hrec
  obtain ⟨F, hF⟩ : ∃ F, Pl.free room hs = F := ⟨_, rfl⟩
  have HFR : Hid (∀ W, Below w.heap.size w W → Calls Tryz.prog 21 #[.agg #[.int .i64 room, v]] W fun e w' => e = .returned (.int .i64 F) ∧ Below W.heap.size W w') := fun W h => by
    have := implFree_any room v hs W (HV.out W h) (by omega)
    rw [Pl.sFree_yes hok, hF] at this
    exact this
  obtain ⟨m, s, hms⟩ : ∃ m s, Pl.hAt hs ((i : Int) + 1) = (m, s) := ⟨_, _, rfl⟩
  rw [hF, hms]
  have HST : Hid (∀ W, Below w.heap.size w W → Calls Tryz.prog 108 #[.agg #[.int .i64 m, .int .i64 s], .agg #[.int .i64 3, .int .i64 ((i : Int) + 1), u], .int .i64 F] W fun e w' => StepOut W w' e (Pl.next (m, s) 3 (zs.headD 0) F)) := fun W h => by
    obtain ⟨au, cu, e⟩ := hu.shape
    exact undoStep_any m s _ u _ F W ⟨au, _, cu, e⟩
  obtain ⟨o, ho⟩ : ∃ o, Pl.next (m, s) 3 (zs.headD 0) F = o := ⟨_, rfl⟩
  rw [ho] at HST ⊢
  clear ho
  rcases hv with ⟨rfl, _⟩ | ⟨b, off, cap, rfl, hz, hc⟩
  · simp at p3
  have hmsd : hs.getD i (0, 0) = (m, s) := by rw [← hat]; exact hms
  have hbw : b < w.heap.size := World.block_lt_of_cell? _ _ (hc i (by omega)).1
  have HC : Hid (∀ W, Below w.heap.size w W → W.cell? ⟨b, off + i * 2, none⟩ = some (.int .i64 m) ∧ W.cell? ⟨b, off + i * 2 + 1, none⟩ = some (.int .i64 s)) := fun W h => by
    obtain ⟨h1, h2⟩ := hc i (by omega)
    rw [hmsd] at h1 h2
    have hl := World.block_lt_of_cell? _ _ h1
    simp at hl
    exact ⟨by rw [← h1]; exact h.cell (p := ⟨b, off + i * 2, none⟩) (by simp; omega), by rw [← h2]; exact h.cell (p := ⟨b, off + i * 2 + 1, none⟩) (by simp; omega)⟩
  rw [p3] at HFR ⊢
  have HOK : Hid (∀ W, Below w.heap.size w W → Calls Tryz.prog 92 #[.agg #[.int .i64 room, .slice (some ⟨b, off, none⟩) 6 cap]] W fun e w' => e = .returned (.bool true) ∧ Below W.heap.size W w') := fun W h => by
    have h1 := HV.out W h
    rw [p3] at h1
    have := implStockOk_any room _ hs W h1 (by omega)
    rw [hok] at this
    exact this
  obtain ⟨au, cu, rfl⟩ := hu.shape
  have BX := hide_it (Box3.new w (.int .i64 room) (.slice (some ⟨b, off, none⟩) 6 cap) 3 ((i : Int) + 1) (.slice au zs.length cu) 50 62 54)
  clear hc hz p1 p2 p3 p4 hat hms hmsd hF HV hu ha
  go_enter Tryz.func69, Tryz.ntmps69
  go_wp2_with fail
  refine (HOK.out _ (below3 w _ _ _)).mono ?_
  rintro e w1 ⟨rfl, hb1⟩
  have B1 := hide_it ((below3 w _ _ _).trans (hb1.mono (by simp; omega)))
  have BX1 := hide_it (BX.out.later hb1 (Nat.le_refl _))
  obtain ⟨⟨x0, x1⟩, ⟨r0, r1, r2⟩, q0, q1, f0, f1⟩ := BX1.out
  clear hb1
  go_wp2_with fail
  refine (implOk_any 3 _ _ zs a w1 (HU.out _ B1.out) hzl (HA.out _ B1.out)).mono ?_
  rintro e w2 ⟨rfl, hb2⟩
  rw [hrec]
  have B2 := hide_it (B1.out.trans (hb2.mono B1.out.size))
  have BX2 := hide_it (BX1.out.later hb2 (Nat.le_refl _))
  clear x0 x1 r0 r1 r2 q0 q1 f0 f1 hb2
  obtain ⟨⟨x0, x1⟩, ⟨r0, r1, r2⟩, q0, q1, f0, f1⟩ := BX2.out
  have hix : ∀ W, Sem.run Tryz.prog (Instr.index 121 (.agg #[.func (.func 105) #[] #[], .func (.func 106) #[] #[], .func (.func 107) #[] #[], .func (.func 108) #[] #[], .func (.func 105) #[] #[], .func (.func 105) #[] #[], .func (.func 105) #[] #[], .func (.func 105) #[] #[]]) (.int .i64 3)) W = .ok (.func (.func 108) #[] #[]) W := fun W => by kernel_rfl
  go_wp2_with fail
  go_region_held (fun w' => w'.cell? ⟨w.heap.size + 1, 0, none⟩ = some (.int .i64 3)) (go_keep)
    ((go_at_call 93; refine (steps_any _).mono ?_; rintro e w3 ⟨rfl, hb3⟩; have B3 := hide_it (B2.out.drew.trans (hb3.mono B2.out.size)); have BX3 := hide_it ((BX2.out.later (Below.refl _ _).drew (Nat.le_refl _)).later hb3 (Nat.le_refl _)); obtain ⟨_, ⟨s0, _⟩, _⟩ := BX3.out; clear hb3))
  have hi6 : (i : Int) < 6 := by omega
  have hwr : IntKind.i64.wrap ((i : Int) + 1 - 1) = (i : Int) := by simp [IntKind.wrap, IntKind.bits, IntKind.signed]; omega
  have hwi : IntKind.i64.wrap (i : Int) = (i : Int) := by simp [IntKind.wrap, IntKind.bits, IntKind.signed]; omega
  obtain ⟨d0, d1⟩ := HC.out _ B3.out
  obtain ⟨⟨y0, y1⟩, ⟨t0, t1, t2⟩, g0, g1, h0, h1⟩ := BX3.out
  clear x0 x1 r0 r1 r2 q0 q1 f0 f1 s0 hix
  go_wp2_with fail
  go_region_held (fun w' => w'.cell? ⟨w.heap.size, 0, none⟩ = some (.int .i64 room) ∧ w'.cell? ⟨w.heap.size, 1, none⟩ = some (.slice (some ⟨b, off, none⟩) 6 cap) ∧ w'.cell? ⟨w.heap.size + 1, 0, none⟩ = some (.int .i64 3) ∧ w'.cell? ⟨w.heap.size + 1, 1, none⟩ = some (.int .i64 ((i : Int) + 1)) ∧ w'.cell? ⟨w.heap.size + 1, 2, none⟩ = some (.slice au zs.length cu) ∧ w'.cell? ⟨b, off + i * 2, none⟩ = some (.int .i64 m) ∧ w'.cell? ⟨b, off + i * 2 + 1, none⟩ = some (.int .i64 s)) (first | (go_keep; done) | (refine ⟨?_, ?_, ?_, ?_, ?_, ?_, ?_⟩ <;> (rw [two_set_cells _ _ _ _ _ _ (by omega)]; assumption)))
    (first
    | (go_at_call 21; refine (HFR.out _ B3.out.drew).mono ?_; rintro e w4 ⟨rfl, hb4⟩; have B4 := hide_it (B3.out.drew.trans (hb4.mono B3.out.size)); have BX4 := hide_it ((BX3.out.later (Below.refl _ _).drew (Nat.le_refl _)).later hb4 (Nat.le_refl _)); obtain ⟨k0, k1⟩ := HC.out _ B4.out; obtain ⟨⟨l0, l1⟩, ⟨n0, n1, n2⟩, _⟩ := BX4.out; clear hb4)
    | (go_at_call 108; refine (HST.out _ B4.out).mono ?_; rintro e w5 ⟨p, q, rfl, hpq, hb5⟩; have HPQ := hide_it hpq; have B5 := hide_it (B4.out.trans (hb5.mono B4.out.size)); have BX5 := hide_it (BX4.out.later hb5 (Nat.le_refl _)); obtain ⟨m0, m1⟩ := HC.out _ B5.out; obtain ⟨⟨o0, o1⟩, ⟨v0, v1, v2⟩, z0, z1, j0, j1⟩ := BX5.out; have hw5 : w.heap.size + 2 < w5.heap.size := World.block_lt_of_cell? _ _ z0; clear hb5 hpq))
  go_wp2
  exact bodyPost_ret (v := .tuple #[.agg #[.int .i64 p, .int .i64 q], .bool o.isSome]) (by simp [results, Tryz.results69, go_sem, z0, z1]) rfl ⟨p, q, rfl, HPQ.out, (B5.out.setCell (by simp; omega) _).setCell (by simp; omega) _⟩

set_option maxRecDepth 100000 in
set_option maxHeartbeats 4000000 in
theorem behind_K4 (room : Int) (v : Value) (hs : List Pl.H) (t : Int) (u : Value) (zs : List Int) (a : Addr) (w : World) (hv : Holds w v hs) (hu : Ints w u zs) (hzl : zs.length ≤ 1048576) (ha : ErrAt w a) (hok : Pl.sOk room hs = true) (hrec : Pl.recOk 4 t zs = true) :
    Calls Tryz.prog 69 #[.agg #[.int .i64 room, v], .agg #[.int .i64 4, .int .i64 t, u]] w fun e w' => StepOut w w' e (Pl.behind room hs 4 t zs) := by
  rw [Pl.behind_ok hok hrec]
  obtain ⟨p1, p2, p3, p4⟩ := Pl.sOk_parts hok
  have HV : Hid (∀ W, Below w.heap.size w W → Holds W v hs) := fun W h => hv.later h (Nat.le_refl _)
  have HU : Hid (∀ W, Below w.heap.size w W → Ints W u zs) := fun W h => hu.later h (Nat.le_refl _)
  have HA : Hid (∀ W, Below w.heap.size w W → ErrAt W a) := fun W h => ha.later h (Nat.le_refl _)
  obtain ⟨i, hi, rfl, hat⟩ := trip_at hrec
  obtain ⟨F, hF⟩ : ∃ F, Pl.free room hs = F := ⟨_, rfl⟩
  have HFR : Hid (∀ W, Below w.heap.size w W → Calls Tryz.prog 21 #[.agg #[.int .i64 room, v]] W fun e w' => e = .returned (.int .i64 F) ∧ Below W.heap.size W w') := fun W h => by
    have := implFree_any room v hs W (HV.out W h) (by omega)
    rw [Pl.sFree_yes hok, hF] at this
    exact this
  obtain ⟨m, s, hms⟩ : ∃ m s, Pl.hAt hs ((i : Int) + 1) = (m, s) := ⟨_, _, rfl⟩
  rw [hF, hms]
  have HST : Hid (∀ W, Below w.heap.size w W → Calls Tryz.prog 105 #[.agg #[.int .i64 m, .int .i64 s], .agg #[.int .i64 4, .int .i64 ((i : Int) + 1), u], .int .i64 F] W fun e w' => StepOut W w' e (Pl.next (m, s) 4 (zs.headD 0) F)) := fun W h => by
    obtain ⟨au, cu, e⟩ := hu.shape
    exact noStep_any m s _ _ u _ F W (by decide) (by decide) (by decide) ⟨au, _, cu, e⟩
  obtain ⟨o, ho⟩ : ∃ o, Pl.next (m, s) 4 (zs.headD 0) F = o := ⟨_, rfl⟩
  rw [ho] at HST ⊢
  clear ho
  rcases hv with ⟨rfl, _⟩ | ⟨b, off, cap, rfl, hz, hc⟩
  · simp at p3
  have hmsd : hs.getD i (0, 0) = (m, s) := by rw [← hat]; exact hms
  have hbw : b < w.heap.size := World.block_lt_of_cell? _ _ (hc i (by omega)).1
  have HC : Hid (∀ W, Below w.heap.size w W → W.cell? ⟨b, off + i * 2, none⟩ = some (.int .i64 m) ∧ W.cell? ⟨b, off + i * 2 + 1, none⟩ = some (.int .i64 s)) := fun W h => by
    obtain ⟨h1, h2⟩ := hc i (by omega)
    rw [hmsd] at h1 h2
    have hl := World.block_lt_of_cell? _ _ h1
    simp at hl
    exact ⟨by rw [← h1]; exact h.cell (p := ⟨b, off + i * 2, none⟩) (by simp; omega), by rw [← h2]; exact h.cell (p := ⟨b, off + i * 2 + 1, none⟩) (by simp; omega)⟩
  rw [p3] at HFR ⊢
  have HOK : Hid (∀ W, Below w.heap.size w W → Calls Tryz.prog 92 #[.agg #[.int .i64 room, .slice (some ⟨b, off, none⟩) 6 cap]] W fun e w' => e = .returned (.bool true) ∧ Below W.heap.size W w') := fun W h => by
    have h1 := HV.out W h
    rw [p3] at h1
    have := implStockOk_any room _ hs W h1 (by omega)
    rw [hok] at this
    exact this
  obtain ⟨au, cu, rfl⟩ := hu.shape
  have BX := hide_it (Box3.new w (.int .i64 room) (.slice (some ⟨b, off, none⟩) 6 cap) 4 ((i : Int) + 1) (.slice au zs.length cu) 50 62 54)
  clear hc hz p1 p2 p3 p4 hat hms hmsd hF HV hu ha
  go_enter Tryz.func69, Tryz.ntmps69
  go_wp2_with fail
  refine (HOK.out _ (below3 w _ _ _)).mono ?_
  rintro e w1 ⟨rfl, hb1⟩
  have B1 := hide_it ((below3 w _ _ _).trans (hb1.mono (by simp; omega)))
  have BX1 := hide_it (BX.out.later hb1 (Nat.le_refl _))
  obtain ⟨⟨x0, x1⟩, ⟨r0, r1, r2⟩, q0, q1, f0, f1⟩ := BX1.out
  clear hb1
  go_wp2_with fail
  refine (implOk_any 4 _ _ zs a w1 (HU.out _ B1.out) hzl (HA.out _ B1.out)).mono ?_
  rintro e w2 ⟨rfl, hb2⟩
  rw [hrec]
  have B2 := hide_it (B1.out.trans (hb2.mono B1.out.size))
  have BX2 := hide_it (BX1.out.later hb2 (Nat.le_refl _))
  clear x0 x1 r0 r1 r2 q0 q1 f0 f1 hb2
  obtain ⟨⟨x0, x1⟩, ⟨r0, r1, r2⟩, q0, q1, f0, f1⟩ := BX2.out
  have hix : ∀ W, Sem.run Tryz.prog (Instr.index 121 (.agg #[.func (.func 105) #[] #[], .func (.func 106) #[] #[], .func (.func 107) #[] #[], .func (.func 108) #[] #[], .func (.func 105) #[] #[], .func (.func 105) #[] #[], .func (.func 105) #[] #[], .func (.func 105) #[] #[]]) (.int .i64 4)) W = .ok (.func (.func 105) #[] #[]) W := fun W => by kernel_rfl
  go_wp2_with fail
  go_region_held (fun w' => w'.cell? ⟨w.heap.size + 1, 0, none⟩ = some (.int .i64 4)) (go_keep)
    ((go_at_call 93; refine (steps_any _).mono ?_; rintro e w3 ⟨rfl, hb3⟩; have B3 := hide_it (B2.out.drew.trans (hb3.mono B2.out.size)); have BX3 := hide_it ((BX2.out.later (Below.refl _ _).drew (Nat.le_refl _)).later hb3 (Nat.le_refl _)); obtain ⟨_, ⟨s0, _⟩, _⟩ := BX3.out; clear hb3))
  have hi6 : (i : Int) < 6 := by omega
  have hwr : IntKind.i64.wrap ((i : Int) + 1 - 1) = (i : Int) := by simp [IntKind.wrap, IntKind.bits, IntKind.signed]; omega
  have hwi : IntKind.i64.wrap (i : Int) = (i : Int) := by simp [IntKind.wrap, IntKind.bits, IntKind.signed]; omega
  obtain ⟨d0, d1⟩ := HC.out _ B3.out
  obtain ⟨⟨y0, y1⟩, ⟨t0, t1, t2⟩, g0, g1, h0, h1⟩ := BX3.out
  clear x0 x1 r0 r1 r2 q0 q1 f0 f1 s0 hix
  go_wp2_with fail
  go_region_held (fun w' => w'.cell? ⟨w.heap.size, 0, none⟩ = some (.int .i64 room) ∧ w'.cell? ⟨w.heap.size, 1, none⟩ = some (.slice (some ⟨b, off, none⟩) 6 cap) ∧ w'.cell? ⟨w.heap.size + 1, 0, none⟩ = some (.int .i64 4) ∧ w'.cell? ⟨w.heap.size + 1, 1, none⟩ = some (.int .i64 ((i : Int) + 1)) ∧ w'.cell? ⟨w.heap.size + 1, 2, none⟩ = some (.slice au zs.length cu) ∧ w'.cell? ⟨b, off + i * 2, none⟩ = some (.int .i64 m) ∧ w'.cell? ⟨b, off + i * 2 + 1, none⟩ = some (.int .i64 s)) (first | (go_keep; done) | (refine ⟨?_, ?_, ?_, ?_, ?_, ?_, ?_⟩ <;> (rw [two_set_cells _ _ _ _ _ _ (by omega)]; assumption)))
    (first
    | (go_at_call 21; refine (HFR.out _ B3.out.drew).mono ?_; rintro e w4 ⟨rfl, hb4⟩; have B4 := hide_it (B3.out.drew.trans (hb4.mono B3.out.size)); have BX4 := hide_it ((BX3.out.later (Below.refl _ _).drew (Nat.le_refl _)).later hb4 (Nat.le_refl _)); obtain ⟨k0, k1⟩ := HC.out _ B4.out; obtain ⟨⟨l0, l1⟩, ⟨n0, n1, n2⟩, _⟩ := BX4.out; clear hb4)
    | (go_at_call 105; refine (HST.out _ B4.out).mono ?_; rintro e w5 ⟨p, q, rfl, hpq, hb5⟩; have HPQ := hide_it hpq; have B5 := hide_it (B4.out.trans (hb5.mono B4.out.size)); have BX5 := hide_it (BX4.out.later hb5 (Nat.le_refl _)); obtain ⟨m0, m1⟩ := HC.out _ B5.out; obtain ⟨⟨o0, o1⟩, ⟨v0, v1, v2⟩, z0, z1, j0, j1⟩ := BX5.out; have hw5 : w.heap.size + 2 < w5.heap.size := World.block_lt_of_cell? _ _ z0; clear hb5 hpq))
  go_wp2
  exact bodyPost_ret (v := .tuple #[.agg #[.int .i64 p, .int .i64 q], .bool o.isSome]) (by simp [results, Tryz.results69, go_sem, z0, z1]) rfl ⟨p, q, rfl, HPQ.out, (B5.out.setCell (by simp; omega) _).setCell (by simp; omega) _⟩

set_option maxRecDepth 100000 in
set_option maxHeartbeats 4000000 in
theorem behind_K5 (room : Int) (v : Value) (hs : List Pl.H) (t : Int) (u : Value) (zs : List Int) (a : Addr) (w : World) (hv : Holds w v hs) (hu : Ints w u zs) (hzl : zs.length ≤ 1048576) (ha : ErrAt w a) (hok : Pl.sOk room hs = true) (hrec : Pl.recOk 5 t zs = true) :
    Calls Tryz.prog 69 #[.agg #[.int .i64 room, v], .agg #[.int .i64 5, .int .i64 t, u]] w fun e w' => StepOut w w' e (Pl.behind room hs 5 t zs) := by
  rw [Pl.behind_ok hok hrec]
  obtain ⟨p1, p2, p3, p4⟩ := Pl.sOk_parts hok
  have HV : Hid (∀ W, Below w.heap.size w W → Holds W v hs) := fun W h => hv.later h (Nat.le_refl _)
  have HU : Hid (∀ W, Below w.heap.size w W → Ints W u zs) := fun W h => hu.later h (Nat.le_refl _)
  have HA : Hid (∀ W, Below w.heap.size w W → ErrAt W a) := fun W h => ha.later h (Nat.le_refl _)
  obtain ⟨i, hi, rfl, hat⟩ := trip_at hrec
  obtain ⟨F, hF⟩ : ∃ F, Pl.free room hs = F := ⟨_, rfl⟩
  have HFR : Hid (∀ W, Below w.heap.size w W → Calls Tryz.prog 21 #[.agg #[.int .i64 room, v]] W fun e w' => e = .returned (.int .i64 F) ∧ Below W.heap.size W w') := fun W h => by
    have := implFree_any room v hs W (HV.out W h) (by omega)
    rw [Pl.sFree_yes hok, hF] at this
    exact this
  obtain ⟨m, s, hms⟩ : ∃ m s, Pl.hAt hs ((i : Int) + 1) = (m, s) := ⟨_, _, rfl⟩
  rw [hF, hms]
  have HST : Hid (∀ W, Below w.heap.size w W → Calls Tryz.prog 105 #[.agg #[.int .i64 m, .int .i64 s], .agg #[.int .i64 5, .int .i64 ((i : Int) + 1), u], .int .i64 F] W fun e w' => StepOut W w' e (Pl.next (m, s) 5 (zs.headD 0) F)) := fun W h => by
    obtain ⟨au, cu, e⟩ := hu.shape
    exact noStep_any m s _ _ u _ F W (by decide) (by decide) (by decide) ⟨au, _, cu, e⟩
  obtain ⟨o, ho⟩ : ∃ o, Pl.next (m, s) 5 (zs.headD 0) F = o := ⟨_, rfl⟩
  rw [ho] at HST ⊢
  clear ho
  rcases hv with ⟨rfl, _⟩ | ⟨b, off, cap, rfl, hz, hc⟩
  · simp at p3
  have hmsd : hs.getD i (0, 0) = (m, s) := by rw [← hat]; exact hms
  have hbw : b < w.heap.size := World.block_lt_of_cell? _ _ (hc i (by omega)).1
  have HC : Hid (∀ W, Below w.heap.size w W → W.cell? ⟨b, off + i * 2, none⟩ = some (.int .i64 m) ∧ W.cell? ⟨b, off + i * 2 + 1, none⟩ = some (.int .i64 s)) := fun W h => by
    obtain ⟨h1, h2⟩ := hc i (by omega)
    rw [hmsd] at h1 h2
    have hl := World.block_lt_of_cell? _ _ h1
    simp at hl
    exact ⟨by rw [← h1]; exact h.cell (p := ⟨b, off + i * 2, none⟩) (by simp; omega), by rw [← h2]; exact h.cell (p := ⟨b, off + i * 2 + 1, none⟩) (by simp; omega)⟩
  rw [p3] at HFR ⊢
  have HOK : Hid (∀ W, Below w.heap.size w W → Calls Tryz.prog 92 #[.agg #[.int .i64 room, .slice (some ⟨b, off, none⟩) 6 cap]] W fun e w' => e = .returned (.bool true) ∧ Below W.heap.size W w') := fun W h => by
    have h1 := HV.out W h
    rw [p3] at h1
    have := implStockOk_any room _ hs W h1 (by omega)
    rw [hok] at this
    exact this
  obtain ⟨au, cu, rfl⟩ := hu.shape
  have BX := hide_it (Box3.new w (.int .i64 room) (.slice (some ⟨b, off, none⟩) 6 cap) 5 ((i : Int) + 1) (.slice au zs.length cu) 50 62 54)
  clear hc hz p1 p2 p3 p4 hat hms hmsd hF HV hu ha
  go_enter Tryz.func69, Tryz.ntmps69
  go_wp2_with fail
  refine (HOK.out _ (below3 w _ _ _)).mono ?_
  rintro e w1 ⟨rfl, hb1⟩
  have B1 := hide_it ((below3 w _ _ _).trans (hb1.mono (by simp; omega)))
  have BX1 := hide_it (BX.out.later hb1 (Nat.le_refl _))
  obtain ⟨⟨x0, x1⟩, ⟨r0, r1, r2⟩, q0, q1, f0, f1⟩ := BX1.out
  clear hb1
  go_wp2_with fail
  refine (implOk_any 5 _ _ zs a w1 (HU.out _ B1.out) hzl (HA.out _ B1.out)).mono ?_
  rintro e w2 ⟨rfl, hb2⟩
  rw [hrec]
  have B2 := hide_it (B1.out.trans (hb2.mono B1.out.size))
  have BX2 := hide_it (BX1.out.later hb2 (Nat.le_refl _))
  clear x0 x1 r0 r1 r2 q0 q1 f0 f1 hb2
  obtain ⟨⟨x0, x1⟩, ⟨r0, r1, r2⟩, q0, q1, f0, f1⟩ := BX2.out
  have hix : ∀ W, Sem.run Tryz.prog (Instr.index 121 (.agg #[.func (.func 105) #[] #[], .func (.func 106) #[] #[], .func (.func 107) #[] #[], .func (.func 108) #[] #[], .func (.func 105) #[] #[], .func (.func 105) #[] #[], .func (.func 105) #[] #[], .func (.func 105) #[] #[]]) (.int .i64 5)) W = .ok (.func (.func 105) #[] #[]) W := fun W => by kernel_rfl
  go_wp2_with fail
  go_region_held (fun w' => w'.cell? ⟨w.heap.size + 1, 0, none⟩ = some (.int .i64 5)) (go_keep)
    ((go_at_call 93; refine (steps_any _).mono ?_; rintro e w3 ⟨rfl, hb3⟩; have B3 := hide_it (B2.out.drew.trans (hb3.mono B2.out.size)); have BX3 := hide_it ((BX2.out.later (Below.refl _ _).drew (Nat.le_refl _)).later hb3 (Nat.le_refl _)); obtain ⟨_, ⟨s0, _⟩, _⟩ := BX3.out; clear hb3))
  have hi6 : (i : Int) < 6 := by omega
  have hwr : IntKind.i64.wrap ((i : Int) + 1 - 1) = (i : Int) := by simp [IntKind.wrap, IntKind.bits, IntKind.signed]; omega
  have hwi : IntKind.i64.wrap (i : Int) = (i : Int) := by simp [IntKind.wrap, IntKind.bits, IntKind.signed]; omega
  obtain ⟨d0, d1⟩ := HC.out _ B3.out
  obtain ⟨⟨y0, y1⟩, ⟨t0, t1, t2⟩, g0, g1, h0, h1⟩ := BX3.out
  clear x0 x1 r0 r1 r2 q0 q1 f0 f1 s0 hix
  go_wp2_with fail
  go_region_held (fun w' => w'.cell? ⟨w.heap.size, 0, none⟩ = some (.int .i64 room) ∧ w'.cell? ⟨w.heap.size, 1, none⟩ = some (.slice (some ⟨b, off, none⟩) 6 cap) ∧ w'.cell? ⟨w.heap.size + 1, 0, none⟩ = some (.int .i64 5) ∧ w'.cell? ⟨w.heap.size + 1, 1, none⟩ = some (.int .i64 ((i : Int) + 1)) ∧ w'.cell? ⟨w.heap.size + 1, 2, none⟩ = some (.slice au zs.length cu) ∧ w'.cell? ⟨b, off + i * 2, none⟩ = some (.int .i64 m) ∧ w'.cell? ⟨b, off + i * 2 + 1, none⟩ = some (.int .i64 s)) (first | (go_keep; done) | (refine ⟨?_, ?_, ?_, ?_, ?_, ?_, ?_⟩ <;> (rw [two_set_cells _ _ _ _ _ _ (by omega)]; assumption)))
    (first
    | (go_at_call 21; refine (HFR.out _ B3.out.drew).mono ?_; rintro e w4 ⟨rfl, hb4⟩; have B4 := hide_it (B3.out.drew.trans (hb4.mono B3.out.size)); have BX4 := hide_it ((BX3.out.later (Below.refl _ _).drew (Nat.le_refl _)).later hb4 (Nat.le_refl _)); obtain ⟨k0, k1⟩ := HC.out _ B4.out; obtain ⟨⟨l0, l1⟩, ⟨n0, n1, n2⟩, _⟩ := BX4.out; clear hb4)
    | (go_at_call 105; refine (HST.out _ B4.out).mono ?_; rintro e w5 ⟨p, q, rfl, hpq, hb5⟩; have HPQ := hide_it hpq; have B5 := hide_it (B4.out.trans (hb5.mono B4.out.size)); have BX5 := hide_it (BX4.out.later hb5 (Nat.le_refl _)); obtain ⟨m0, m1⟩ := HC.out _ B5.out; obtain ⟨⟨o0, o1⟩, ⟨v0, v1, v2⟩, z0, z1, j0, j1⟩ := BX5.out; have hw5 : w.heap.size + 2 < w5.heap.size := World.block_lt_of_cell? _ _ z0; clear hb5 hpq))
  go_wp2
  exact bodyPost_ret (v := .tuple #[.agg #[.int .i64 p, .int .i64 q], .bool o.isSome]) (by simp [results, Tryz.results69, go_sem, z0, z1]) rfl ⟨p, q, rfl, HPQ.out, (B5.out.setCell (by simp; omega) _).setCell (by simp; omega) _⟩

set_option maxRecDepth 100000 in
set_option maxHeartbeats 4000000 in
theorem behind_K6 (room : Int) (v : Value) (hs : List Pl.H) (t : Int) (u : Value) (zs : List Int) (a : Addr) (w : World) (hv : Holds w v hs) (hu : Ints w u zs) (hzl : zs.length ≤ 1048576) (ha : ErrAt w a) (hok : Pl.sOk room hs = true) (hrec : Pl.recOk 6 t zs = true) :
    Calls Tryz.prog 69 #[.agg #[.int .i64 room, v], .agg #[.int .i64 6, .int .i64 t, u]] w fun e w' => StepOut w w' e (Pl.behind room hs 6 t zs) := by
  rw [Pl.behind_ok hok hrec]
  obtain ⟨p1, p2, p3, p4⟩ := Pl.sOk_parts hok
  have HV : Hid (∀ W, Below w.heap.size w W → Holds W v hs) := fun W h => hv.later h (Nat.le_refl _)
  have HU : Hid (∀ W, Below w.heap.size w W → Ints W u zs) := fun W h => hu.later h (Nat.le_refl _)
  have HA : Hid (∀ W, Below w.heap.size w W → ErrAt W a) := fun W h => ha.later h (Nat.le_refl _)
  obtain ⟨i, hi, rfl, hat⟩ := trip_at hrec
  obtain ⟨F, hF⟩ : ∃ F, Pl.free room hs = F := ⟨_, rfl⟩
  have HFR : Hid (∀ W, Below w.heap.size w W → Calls Tryz.prog 21 #[.agg #[.int .i64 room, v]] W fun e w' => e = .returned (.int .i64 F) ∧ Below W.heap.size W w') := fun W h => by
    have := implFree_any room v hs W (HV.out W h) (by omega)
    rw [Pl.sFree_yes hok, hF] at this
    exact this
  obtain ⟨m, s, hms⟩ : ∃ m s, Pl.hAt hs ((i : Int) + 1) = (m, s) := ⟨_, _, rfl⟩
  rw [hF, hms]
  have HST : Hid (∀ W, Below w.heap.size w W → Calls Tryz.prog 105 #[.agg #[.int .i64 m, .int .i64 s], .agg #[.int .i64 6, .int .i64 ((i : Int) + 1), u], .int .i64 F] W fun e w' => StepOut W w' e (Pl.next (m, s) 6 (zs.headD 0) F)) := fun W h => by
    obtain ⟨au, cu, e⟩ := hu.shape
    exact noStep_any m s _ _ u _ F W (by decide) (by decide) (by decide) ⟨au, _, cu, e⟩
  obtain ⟨o, ho⟩ : ∃ o, Pl.next (m, s) 6 (zs.headD 0) F = o := ⟨_, rfl⟩
  rw [ho] at HST ⊢
  clear ho
  rcases hv with ⟨rfl, _⟩ | ⟨b, off, cap, rfl, hz, hc⟩
  · simp at p3
  have hmsd : hs.getD i (0, 0) = (m, s) := by rw [← hat]; exact hms
  have hbw : b < w.heap.size := World.block_lt_of_cell? _ _ (hc i (by omega)).1
  have HC : Hid (∀ W, Below w.heap.size w W → W.cell? ⟨b, off + i * 2, none⟩ = some (.int .i64 m) ∧ W.cell? ⟨b, off + i * 2 + 1, none⟩ = some (.int .i64 s)) := fun W h => by
    obtain ⟨h1, h2⟩ := hc i (by omega)
    rw [hmsd] at h1 h2
    have hl := World.block_lt_of_cell? _ _ h1
    simp at hl
    exact ⟨by rw [← h1]; exact h.cell (p := ⟨b, off + i * 2, none⟩) (by simp; omega), by rw [← h2]; exact h.cell (p := ⟨b, off + i * 2 + 1, none⟩) (by simp; omega)⟩
  rw [p3] at HFR ⊢
  have HOK : Hid (∀ W, Below w.heap.size w W → Calls Tryz.prog 92 #[.agg #[.int .i64 room, .slice (some ⟨b, off, none⟩) 6 cap]] W fun e w' => e = .returned (.bool true) ∧ Below W.heap.size W w') := fun W h => by
    have h1 := HV.out W h
    rw [p3] at h1
    have := implStockOk_any room _ hs W h1 (by omega)
    rw [hok] at this
    exact this
  obtain ⟨au, cu, rfl⟩ := hu.shape
  have BX := hide_it (Box3.new w (.int .i64 room) (.slice (some ⟨b, off, none⟩) 6 cap) 6 ((i : Int) + 1) (.slice au zs.length cu) 50 62 54)
  clear hc hz p1 p2 p3 p4 hat hms hmsd hF HV hu ha
  go_enter Tryz.func69, Tryz.ntmps69
  go_wp2_with fail
  refine (HOK.out _ (below3 w _ _ _)).mono ?_
  rintro e w1 ⟨rfl, hb1⟩
  have B1 := hide_it ((below3 w _ _ _).trans (hb1.mono (by simp; omega)))
  have BX1 := hide_it (BX.out.later hb1 (Nat.le_refl _))
  obtain ⟨⟨x0, x1⟩, ⟨r0, r1, r2⟩, q0, q1, f0, f1⟩ := BX1.out
  clear hb1
  go_wp2_with fail
  refine (implOk_any 6 _ _ zs a w1 (HU.out _ B1.out) hzl (HA.out _ B1.out)).mono ?_
  rintro e w2 ⟨rfl, hb2⟩
  rw [hrec]
  have B2 := hide_it (B1.out.trans (hb2.mono B1.out.size))
  have BX2 := hide_it (BX1.out.later hb2 (Nat.le_refl _))
  clear x0 x1 r0 r1 r2 q0 q1 f0 f1 hb2
  obtain ⟨⟨x0, x1⟩, ⟨r0, r1, r2⟩, q0, q1, f0, f1⟩ := BX2.out
  have hix : ∀ W, Sem.run Tryz.prog (Instr.index 121 (.agg #[.func (.func 105) #[] #[], .func (.func 106) #[] #[], .func (.func 107) #[] #[], .func (.func 108) #[] #[], .func (.func 105) #[] #[], .func (.func 105) #[] #[], .func (.func 105) #[] #[], .func (.func 105) #[] #[]]) (.int .i64 6)) W = .ok (.func (.func 105) #[] #[]) W := fun W => by kernel_rfl
  go_wp2_with fail
  go_region_held (fun w' => w'.cell? ⟨w.heap.size + 1, 0, none⟩ = some (.int .i64 6)) (go_keep)
    ((go_at_call 93; refine (steps_any _).mono ?_; rintro e w3 ⟨rfl, hb3⟩; have B3 := hide_it (B2.out.drew.trans (hb3.mono B2.out.size)); have BX3 := hide_it ((BX2.out.later (Below.refl _ _).drew (Nat.le_refl _)).later hb3 (Nat.le_refl _)); obtain ⟨_, ⟨s0, _⟩, _⟩ := BX3.out; clear hb3))
  have hi6 : (i : Int) < 6 := by omega
  have hwr : IntKind.i64.wrap ((i : Int) + 1 - 1) = (i : Int) := by simp [IntKind.wrap, IntKind.bits, IntKind.signed]; omega
  have hwi : IntKind.i64.wrap (i : Int) = (i : Int) := by simp [IntKind.wrap, IntKind.bits, IntKind.signed]; omega
  obtain ⟨d0, d1⟩ := HC.out _ B3.out
  obtain ⟨⟨y0, y1⟩, ⟨t0, t1, t2⟩, g0, g1, h0, h1⟩ := BX3.out
  clear x0 x1 r0 r1 r2 q0 q1 f0 f1 s0 hix
  go_wp2_with fail
  go_region_held (fun w' => w'.cell? ⟨w.heap.size, 0, none⟩ = some (.int .i64 room) ∧ w'.cell? ⟨w.heap.size, 1, none⟩ = some (.slice (some ⟨b, off, none⟩) 6 cap) ∧ w'.cell? ⟨w.heap.size + 1, 0, none⟩ = some (.int .i64 6) ∧ w'.cell? ⟨w.heap.size + 1, 1, none⟩ = some (.int .i64 ((i : Int) + 1)) ∧ w'.cell? ⟨w.heap.size + 1, 2, none⟩ = some (.slice au zs.length cu) ∧ w'.cell? ⟨b, off + i * 2, none⟩ = some (.int .i64 m) ∧ w'.cell? ⟨b, off + i * 2 + 1, none⟩ = some (.int .i64 s)) (first | (go_keep; done) | (refine ⟨?_, ?_, ?_, ?_, ?_, ?_, ?_⟩ <;> (rw [two_set_cells _ _ _ _ _ _ (by omega)]; assumption)))
    (first
    | (go_at_call 21; refine (HFR.out _ B3.out.drew).mono ?_; rintro e w4 ⟨rfl, hb4⟩; have B4 := hide_it (B3.out.drew.trans (hb4.mono B3.out.size)); have BX4 := hide_it ((BX3.out.later (Below.refl _ _).drew (Nat.le_refl _)).later hb4 (Nat.le_refl _)); obtain ⟨k0, k1⟩ := HC.out _ B4.out; obtain ⟨⟨l0, l1⟩, ⟨n0, n1, n2⟩, _⟩ := BX4.out; clear hb4)
    | (go_at_call 105; refine (HST.out _ B4.out).mono ?_; rintro e w5 ⟨p, q, rfl, hpq, hb5⟩; have HPQ := hide_it hpq; have B5 := hide_it (B4.out.trans (hb5.mono B4.out.size)); have BX5 := hide_it (BX4.out.later hb5 (Nat.le_refl _)); obtain ⟨m0, m1⟩ := HC.out _ B5.out; obtain ⟨⟨o0, o1⟩, ⟨v0, v1, v2⟩, z0, z1, j0, j1⟩ := BX5.out; have hw5 : w.heap.size + 2 < w5.heap.size := World.block_lt_of_cell? _ _ z0; clear hb5 hpq))
  go_wp2
  exact bodyPost_ret (v := .tuple #[.agg #[.int .i64 p, .int .i64 q], .bool o.isSome]) (by simp [results, Tryz.results69, go_sem, z0, z1]) rfl ⟨p, q, rfl, HPQ.out, (B5.out.setCell (by simp; omega) _).setCell (by simp; omega) _⟩

set_option maxRecDepth 100000 in
set_option maxHeartbeats 4000000 in
theorem behind_K7 (room : Int) (v : Value) (hs : List Pl.H) (t : Int) (u : Value) (zs : List Int) (a : Addr) (w : World) (hv : Holds w v hs) (hu : Ints w u zs) (hzl : zs.length ≤ 1048576) (ha : ErrAt w a) (hok : Pl.sOk room hs = true) (hrec : Pl.recOk 7 t zs = true) :
    Calls Tryz.prog 69 #[.agg #[.int .i64 room, v], .agg #[.int .i64 7, .int .i64 t, u]] w fun e w' => StepOut w w' e (Pl.behind room hs 7 t zs) := by
  rw [Pl.behind_ok hok hrec]
  obtain ⟨p1, p2, p3, p4⟩ := Pl.sOk_parts hok
  have HV : Hid (∀ W, Below w.heap.size w W → Holds W v hs) := fun W h => hv.later h (Nat.le_refl _)
  have HU : Hid (∀ W, Below w.heap.size w W → Ints W u zs) := fun W h => hu.later h (Nat.le_refl _)
  have HA : Hid (∀ W, Below w.heap.size w W → ErrAt W a) := fun W h => ha.later h (Nat.le_refl _)
  obtain ⟨i, hi, rfl, hat⟩ := trip_at hrec
  obtain ⟨F, hF⟩ : ∃ F, Pl.free room hs = F := ⟨_, rfl⟩
  have HFR : Hid (∀ W, Below w.heap.size w W → Calls Tryz.prog 21 #[.agg #[.int .i64 room, v]] W fun e w' => e = .returned (.int .i64 F) ∧ Below W.heap.size W w') := fun W h => by
    have := implFree_any room v hs W (HV.out W h) (by omega)
    rw [Pl.sFree_yes hok, hF] at this
    exact this
  obtain ⟨m, s, hms⟩ : ∃ m s, Pl.hAt hs ((i : Int) + 1) = (m, s) := ⟨_, _, rfl⟩
  rw [hF, hms]
  have HST : Hid (∀ W, Below w.heap.size w W → Calls Tryz.prog 105 #[.agg #[.int .i64 m, .int .i64 s], .agg #[.int .i64 7, .int .i64 ((i : Int) + 1), u], .int .i64 F] W fun e w' => StepOut W w' e (Pl.next (m, s) 7 (zs.headD 0) F)) := fun W h => by
    obtain ⟨au, cu, e⟩ := hu.shape
    exact noStep_any m s _ _ u _ F W (by decide) (by decide) (by decide) ⟨au, _, cu, e⟩
  obtain ⟨o, ho⟩ : ∃ o, Pl.next (m, s) 7 (zs.headD 0) F = o := ⟨_, rfl⟩
  rw [ho] at HST ⊢
  clear ho
  rcases hv with ⟨rfl, _⟩ | ⟨b, off, cap, rfl, hz, hc⟩
  · simp at p3
  have hmsd : hs.getD i (0, 0) = (m, s) := by rw [← hat]; exact hms
  have hbw : b < w.heap.size := World.block_lt_of_cell? _ _ (hc i (by omega)).1
  have HC : Hid (∀ W, Below w.heap.size w W → W.cell? ⟨b, off + i * 2, none⟩ = some (.int .i64 m) ∧ W.cell? ⟨b, off + i * 2 + 1, none⟩ = some (.int .i64 s)) := fun W h => by
    obtain ⟨h1, h2⟩ := hc i (by omega)
    rw [hmsd] at h1 h2
    have hl := World.block_lt_of_cell? _ _ h1
    simp at hl
    exact ⟨by rw [← h1]; exact h.cell (p := ⟨b, off + i * 2, none⟩) (by simp; omega), by rw [← h2]; exact h.cell (p := ⟨b, off + i * 2 + 1, none⟩) (by simp; omega)⟩
  rw [p3] at HFR ⊢
  have HOK : Hid (∀ W, Below w.heap.size w W → Calls Tryz.prog 92 #[.agg #[.int .i64 room, .slice (some ⟨b, off, none⟩) 6 cap]] W fun e w' => e = .returned (.bool true) ∧ Below W.heap.size W w') := fun W h => by
    have h1 := HV.out W h
    rw [p3] at h1
    have := implStockOk_any room _ hs W h1 (by omega)
    rw [hok] at this
    exact this
  obtain ⟨au, cu, rfl⟩ := hu.shape
  have BX := hide_it (Box3.new w (.int .i64 room) (.slice (some ⟨b, off, none⟩) 6 cap) 7 ((i : Int) + 1) (.slice au zs.length cu) 50 62 54)
  clear hc hz p1 p2 p3 p4 hat hms hmsd hF HV hu ha
  go_enter Tryz.func69, Tryz.ntmps69
  go_wp2_with fail
  refine (HOK.out _ (below3 w _ _ _)).mono ?_
  rintro e w1 ⟨rfl, hb1⟩
  have B1 := hide_it ((below3 w _ _ _).trans (hb1.mono (by simp; omega)))
  have BX1 := hide_it (BX.out.later hb1 (Nat.le_refl _))
  obtain ⟨⟨x0, x1⟩, ⟨r0, r1, r2⟩, q0, q1, f0, f1⟩ := BX1.out
  clear hb1
  go_wp2_with fail
  refine (implOk_any 7 _ _ zs a w1 (HU.out _ B1.out) hzl (HA.out _ B1.out)).mono ?_
  rintro e w2 ⟨rfl, hb2⟩
  rw [hrec]
  have B2 := hide_it (B1.out.trans (hb2.mono B1.out.size))
  have BX2 := hide_it (BX1.out.later hb2 (Nat.le_refl _))
  clear x0 x1 r0 r1 r2 q0 q1 f0 f1 hb2
  obtain ⟨⟨x0, x1⟩, ⟨r0, r1, r2⟩, q0, q1, f0, f1⟩ := BX2.out
  have hix : ∀ W, Sem.run Tryz.prog (Instr.index 121 (.agg #[.func (.func 105) #[] #[], .func (.func 106) #[] #[], .func (.func 107) #[] #[], .func (.func 108) #[] #[], .func (.func 105) #[] #[], .func (.func 105) #[] #[], .func (.func 105) #[] #[], .func (.func 105) #[] #[]]) (.int .i64 7)) W = .ok (.func (.func 105) #[] #[]) W := fun W => by kernel_rfl
  go_wp2_with fail
  go_region_held (fun w' => w'.cell? ⟨w.heap.size + 1, 0, none⟩ = some (.int .i64 7)) (go_keep)
    ((go_at_call 93; refine (steps_any _).mono ?_; rintro e w3 ⟨rfl, hb3⟩; have B3 := hide_it (B2.out.drew.trans (hb3.mono B2.out.size)); have BX3 := hide_it ((BX2.out.later (Below.refl _ _).drew (Nat.le_refl _)).later hb3 (Nat.le_refl _)); obtain ⟨_, ⟨s0, _⟩, _⟩ := BX3.out; clear hb3))
  have hi6 : (i : Int) < 6 := by omega
  have hwr : IntKind.i64.wrap ((i : Int) + 1 - 1) = (i : Int) := by simp [IntKind.wrap, IntKind.bits, IntKind.signed]; omega
  have hwi : IntKind.i64.wrap (i : Int) = (i : Int) := by simp [IntKind.wrap, IntKind.bits, IntKind.signed]; omega
  obtain ⟨d0, d1⟩ := HC.out _ B3.out
  obtain ⟨⟨y0, y1⟩, ⟨t0, t1, t2⟩, g0, g1, h0, h1⟩ := BX3.out
  clear x0 x1 r0 r1 r2 q0 q1 f0 f1 s0 hix
  go_wp2_with fail
  go_region_held (fun w' => w'.cell? ⟨w.heap.size, 0, none⟩ = some (.int .i64 room) ∧ w'.cell? ⟨w.heap.size, 1, none⟩ = some (.slice (some ⟨b, off, none⟩) 6 cap) ∧ w'.cell? ⟨w.heap.size + 1, 0, none⟩ = some (.int .i64 7) ∧ w'.cell? ⟨w.heap.size + 1, 1, none⟩ = some (.int .i64 ((i : Int) + 1)) ∧ w'.cell? ⟨w.heap.size + 1, 2, none⟩ = some (.slice au zs.length cu) ∧ w'.cell? ⟨b, off + i * 2, none⟩ = some (.int .i64 m) ∧ w'.cell? ⟨b, off + i * 2 + 1, none⟩ = some (.int .i64 s)) (first | (go_keep; done) | (refine ⟨?_, ?_, ?_, ?_, ?_, ?_, ?_⟩ <;> (rw [two_set_cells _ _ _ _ _ _ (by omega)]; assumption)))
    (first
    | (go_at_call 21; refine (HFR.out _ B3.out.drew).mono ?_; rintro e w4 ⟨rfl, hb4⟩; have B4 := hide_it (B3.out.drew.trans (hb4.mono B3.out.size)); have BX4 := hide_it ((BX3.out.later (Below.refl _ _).drew (Nat.le_refl _)).later hb4 (Nat.le_refl _)); obtain ⟨k0, k1⟩ := HC.out _ B4.out; obtain ⟨⟨l0, l1⟩, ⟨n0, n1, n2⟩, _⟩ := BX4.out; clear hb4)
    | (go_at_call 105; refine (HST.out _ B4.out).mono ?_; rintro e w5 ⟨p, q, rfl, hpq, hb5⟩; have HPQ := hide_it hpq; have B5 := hide_it (B4.out.trans (hb5.mono B4.out.size)); have BX5 := hide_it (BX4.out.later hb5 (Nat.le_refl _)); obtain ⟨m0, m1⟩ := HC.out _ B5.out; obtain ⟨⟨o0, o1⟩, ⟨v0, v1, v2⟩, z0, z1, j0, j1⟩ := BX5.out; have hw5 : w.heap.size + 2 < w5.heap.size := World.block_lt_of_cell? _ _ z0; clear hb5 hpq))
  go_wp2
  exact bodyPost_ret (v := .tuple #[.agg #[.int .i64 p, .int .i64 q], .bool o.isSome]) (by simp [results, Tryz.results69, go_sem, z0, z1]) rfl ⟨p, q, rfl, HPQ.out, (B5.out.setCell (by simp; omega) _).setCell (by simp; omega) _⟩

/-- What a record makes of its trip's hold, whatever the stock and the record. -/
theorem behind_any (room : Int) (v : Value) (hs : List Pl.H) (k t : Int) (u : Value) (zs : List Int) (a : Addr) (w : World) (hv : Holds w v hs) (hl : hs.length ≤ 1048576) (hu : Ints w u zs) (hzl : zs.length ≤ 1048576) (ha : ErrAt w a) :
    Calls Tryz.prog 69 #[.agg #[.int .i64 room, v], .agg #[.int .i64 k, .int .i64 t, u]] w fun e w' => StepOut w w' e (Pl.behind room hs k t zs) := by
  cases hok : Pl.sOk room hs
  · obtain ⟨au, cu, e⟩ := hu.shape
    exact behind_noStock room v hs k t u zs w hv hl ⟨au, _, cu, e⟩ hok
  cases hrec : Pl.recOk k t zs
  · exact behind_noRec room v hs k t u zs a w hv hl hu hzl ha hok hrec
  have hk := Pl.recOk_kind hrec
  rcases (show k = 1 ∨ k = 2 ∨ k = 3 ∨ k = 4 ∨ k = 5 ∨ k = 6 ∨ k = 7 by omega) with rfl | rfl | rfl | rfl | rfl | rfl | rfl
  · exact behind_K1 room v hs t u zs a w hv hu hzl ha hok hrec
  · exact behind_K2 room v hs t u zs a w hv hu hzl ha hok hrec
  · exact behind_K3 room v hs t u zs a w hv hu hzl ha hok hrec
  · exact behind_K4 room v hs t u zs a w hv hu hzl ha hok hrec
  · exact behind_K5 room v hs t u zs a w hv hu hzl ha hok hrec
  · exact behind_K6 room v hs t u zs a w hv hu hzl ha hok hrec
  · exact behind_K7 room v hs t u zs a w hv hu hzl ha hok hrec

end Go.Proofs.YthllcffmpeopcaaGreatDoor

namespace Go.Proofs.YthllcffmpeopcaaGreatDoor
open Go.RowKit

set_option maxHeartbeats 2000000 in
theorem implMay_any (room : Int) (v : Value) (hs : List Pl.H) (k t : Int) (u : Value) (zs : List Int) (a : Addr) (w : World) (hv : Holds w v hs) (hl : hs.length ≤ 1048576) (hu : Ints w u zs) (hzl : zs.length ≤ 1048576) (ha : ErrAt w a) :
    Calls Tryz.prog 34 #[.agg #[.int .i64 room, v], .agg #[.int .i64 k, .int .i64 t, u]] w fun e w' => e = .returned (.bool (Pl.sMay room hs k t zs)) ∧ Below w.heap.size w w' := by
  have HB : Hid (∀ W, Below w.heap.size w W → Calls Tryz.prog 69 #[.agg #[.int .i64 room, v], .agg #[.int .i64 k, .int .i64 t, u]] W fun e w' => StepOut W w' e (Pl.behind room hs k t zs)) := fun W h =>
    behind_any room v hs k t u zs a W (hv.later h (Nat.le_refl _)) hl (hu.later h (Nat.le_refl _)) hzl (ha.later h (Nat.le_refl _))
  unfold Pl.sMay
  obtain ⟨o, ho⟩ : ∃ o, Pl.behind room hs k t zs = o := ⟨_, rfl⟩
  rw [ho] at HB ⊢
  obtain ⟨av, cv, rfl⟩ := hv.shape
  obtain ⟨au, cu, rfl⟩ := hu.shape
  clear ho hv hu ha
  go_enter Tryz.func34, Tryz.ntmps34
  go_wp2_with fail
  refine (HB.out _ (below2 w _ _)).mono ?_
  rintro e w1 ⟨p, q, rfl, -, hb1⟩
  have B1 := hide_it ((below2 w _ _).trans (hb1.mono (by simp; omega)))
  clear hb1
  go_wp2
  go_ret
  exact ⟨rfl, B1.out.alloc B1.out.size _⟩

set_option maxHeartbeats 2000000 in
theorem specMay_any (room : Int) (v : Value) (hs : List Pl.H) (k t : Int) (u : Value) (zs : List Int) (w : World) (hv : Holds w v hs) (hl : hs.length ≤ 1048576) (hu : Ints w u zs) (hzl : zs.length ≤ 1048576) :
    Calls Tryz.prog 115 #[.agg #[.int .i64 room, v], .agg #[.int .i64 k, .int .i64 t, u]] w fun e w' => e = .returned (.bool (Pl.sMay room hs k t zs)) ∧ Below w.heap.size w w' := by
  have HV : Hid (∀ W, Below w.heap.size w W → Holds W v hs) := fun W h => hv.later h (Nat.le_refl _)
  have HU : Hid (∀ W, Below w.heap.size w W → Ints W u zs) := fun W h => hu.later h (Nat.le_refl _)
  have hsh := hv.shape
  obtain ⟨av, cv, rfl⟩ := hsh
  obtain ⟨au, cu, rfl⟩ := hu.shape
  have D0 := hide_it ((Duo.new w (.int .i64 room) (.slice av hs.length cv) 50).later (al_below _ (.cells #[.int .i64 k, .int .i64 t, .slice au zs.length cu] 62)) (Nat.le_refl _))
  have R0 := hide_it (RecAt.new (w.alloc (.cells #[.int .i64 room, .slice av hs.length cv] 50)) k t (.slice au zs.length cu) 62)
  rw [World.size_alloc] at R0
  unfold Pl.sMay
  clear hv hu
  cases hok : Pl.sOk room hs
  · rw [Pl.behind_stock k t zs hok]
    go_enter Tryz.func115, Tryz.ntmps115
    go_wp2_with fail
    refine (specStockOk_any room _ hs _ (HV.out _ (below2 w _ _)) hl).mono ?_
    rintro e w1 ⟨rfl, hb1⟩
    rw [hok]
    have B1 := hide_it ((below2 w _ _).trans (hb1.mono (by simp; omega)))
    clear hb1
    go_wp2
    go_ret
    exact ⟨rfl, B1.out⟩
  cases hrec : Pl.recOk k t zs
  · rw [Pl.behind_rec room hs hrec]
    go_enter Tryz.func115, Tryz.ntmps115
    go_wp2_with fail
    refine (specStockOk_any room _ hs _ (HV.out _ (below2 w _ _)) hl).mono ?_
    rintro e w1 ⟨rfl, hb1⟩
    rw [hok]
    have B1 := hide_it ((below2 w _ _).trans (hb1.mono (by simp; omega)))
    obtain ⟨d0, d1⟩ := D0.out.later hb1 (Nat.le_refl _)
    obtain ⟨r0, r1, r2⟩ := R0.out.later hb1 (Nat.le_refl _)
    clear hb1
    go_wp2_with fail
    refine (specOk_any k t _ zs w1 (HU.out _ B1.out) hzl).mono ?_
    rintro e w2 ⟨rfl, hb2⟩
    rw [hrec]
    have B2 := hide_it (B1.out.trans (hb2.mono B1.out.size))
    clear hb2 d0 d1 r0 r1 r2
    go_wp2
    go_ret
    exact ⟨rfl, B2.out⟩
  · rw [Pl.behind_ok hok hrec]
    have HM : Hid (∀ W, Below w.heap.size w W → Calls Tryz.prog 62 #[.agg #[.int .i64 room, .slice av hs.length cv], .agg #[.int .i64 k, .int .i64 t, .slice au zs.length cu]] W fun e w' => e = .returned (.bool (Pl.next (Pl.hAt hs t) k (zs.headD 0) (Pl.free room hs)).isSome) ∧ Below W.heap.size W w') := fun W h =>
      l2May_any room _ hs k t _ zs W (HV.out W h) (HU.out W h) hok hrec
    obtain ⟨o, ho⟩ : ∃ o, Pl.next (Pl.hAt hs t) k (zs.headD 0) (Pl.free room hs) = o := ⟨_, rfl⟩
    rw [ho] at HM ⊢
    clear ho
    go_enter Tryz.func115, Tryz.ntmps115
    go_wp2_with fail
    refine (specStockOk_any room _ hs _ (HV.out _ (below2 w _ _)) hl).mono ?_
    rintro e w1 ⟨rfl, hb1⟩
    rw [hok]
    have B1 := hide_it ((below2 w _ _).trans (hb1.mono (by simp; omega)))
    have D1 := hide_it (D0.out.later hb1 (Nat.le_refl _))
    have R1 := hide_it (R0.out.later hb1 (Nat.le_refl _))
    obtain ⟨d0, d1⟩ := D1.out
    obtain ⟨r0, r1, r2⟩ := R1.out
    clear hb1
    go_wp2_with fail
    refine (specOk_any k t _ zs w1 (HU.out _ B1.out) hzl).mono ?_
    rintro e w2 ⟨rfl, hb2⟩
    rw [hrec]
    have B2 := hide_it (B1.out.trans (hb2.mono B1.out.size))
    clear d0 d1 r0 r1 r2
    obtain ⟨d0, d1⟩ := D1.out.later hb2 (Nat.le_refl _)
    obtain ⟨r0, r1, r2⟩ := R1.out.later hb2 (Nat.le_refl _)
    clear hb2
    go_wp2_with fail
    refine (HM.out w2 B2.out).mono ?_
    rintro e w3 ⟨rfl, hb3⟩
    have B3 := hide_it (B2.out.trans (hb3.mono B2.out.size))
    clear hb3 d0 d1 r0 r1 r2
    go_wp2
    go_ret
    exact ⟨rfl, B3.out⟩

end Go.Proofs.YthllcffmpeopcaaGreatDoor

namespace Go.Proofs.YthllcffmpeopcaaGreatDoor
open Go.RowKit

/-- What comes out where a stock, or nothing, does: its room, its holds. -/
def oR (room : Int) (o : Option (List Pl.H)) : Int := match o with | some _ => room | none => 0
def oH (o : Option (List Pl.H)) : List Pl.H := o.getD []
def StOut (W w' : World) (e : Ending) (RR : Int) (HS : List Pl.H) (BB : Bool) : Prop :=
  ∃ ao cap, e = .returned (.tuple #[.agg #[.int .i64 RR, .slice ao HS.length cap], .bool BB]) ∧ w'.ownsRow W.heap.size 54 2 (.slice ao HS.length cap) HS.length (hflat HS) ∧ Below W.heap.size W w'
def newO (room : Int) : Option (List Pl.H) := if Pl.inB room 0 9 = true then some Pl.noHolds else none

theorem grown_al {w w2 : World} {x y : Value} {ty : TypeId} (hg : (w.alloc (.cells #[x, y] ty)).grownBy w2 none) : Below w.heap.size w w2 ∧ w.heap.size < w2.heap.size ∧
    w2.cell? ⟨w.heap.size, 0, none⟩ = some x ∧ w2.cell? ⟨w.heap.size, 1, none⟩ = some y ∧ w2.frozen? ⟨w.heap.size, 0, none⟩ = false ∧ w2.frozen? ⟨w.heap.size, 1, none⟩ = false := by
  have hb : Below (w.heap.size + 1) (w.alloc (.cells #[x, y] ty)) w2 := (Below.refl _ _).grown hg (by simp) (fun k h => by cases h)
  have hs := hb.size
  simp at hs
  refine ⟨(al_below w _).trans (hb.mono (by omega)), by omega, ?_, ?_, ?_, ?_⟩
  · rw [hb.cell (p := ⟨w.heap.size, 0, none⟩) (by simp)]; simp
  · rw [hb.cell (p := ⟨w.heap.size, 1, none⟩) (by simp)]; simp
  · rw [hb.frozen (p := ⟨w.heap.size, 0, none⟩) (by simp)]; simp [go_sem]
  · rw [hb.frozen (p := ⟨w.heap.size, 1, none⟩) (by simp)]; simp [go_sem]

set_option maxHeartbeats 1000000 in
theorem specNew_any (room : Int) (w : World) :
    Calls Tryz.prog 80 #[.int .i64 room] w fun e w' => StOut w w' e (oR room (newO room)) (oH (newO room)) (newO room).isSome := by
  obtain ⟨i0, hi, hz0, hz1, hz2⟩ := info_parts infoHold
  have hbytes : i0.bytes * 6 ≤ 281474976710656 := by rw [hz2]; omega
  have hmax : 6 ≤ maxLen := by unfold maxLen; omega
  cases hr : Pl.inB room 0 9
  · have e : newO room = none := by simp [newO, hr]
    rw [e]
    go_enter Tryz.func80, Tryz.ntmps80
    go_wp2_with (go_at_call 47; refine (in_any _ _ _ _).mono ?_; rintro e w1 ⟨rfl, rfl⟩; rw [hr])
    refine bodyPost_ret (v := .tuple #[.agg #[.int .i64 0, .slice none 0 0], .bool false]) (by simp [results, Tryz.results80, go_sem]) rfl ⟨none, 0, rfl, World.ownsRow_nil _ _ _ _, ?_⟩
    first | exact al_below _ _ | exact (al_below _ _).setCell (by simp) _ | exact ((al_below _ _).setCell (by simp) _).setCell (by simp) _
  · have e : newO room = some Pl.noHolds := by simp [newO, hr]
    rw [e]
    go_enter Tryz.func80, Tryz.ntmps80
    go_wp2_with (first
      | (go_at_call 47; refine (in_any _ _ _ _).mono ?_; rintro e w1 ⟨rfl, rfl⟩; rw [hr])
      | (at_make; refine wpList_make_full _ rfl _ _ 48 rfl (w.heap.size + 1) 54 i0 (.agg #[.int .i64 0, .int .i64 0]) 2 Tryz.underlying48 hi hz0 hz1 .i64 .i64 _ _ 6 rfl rfl rfl rfl hbytes hmax (by simp) ?_; intro w2 hown hgrow; have HO := hide_it hown; obtain ⟨hbb, hws, g0, g1, f0, f1⟩ := grown_al hgrow; have HB := hide_it hbb; clear hown hgrow hbb))
    have HO2 : Hid (w2.ownsRow (w.heap.size + 1) 54 2 (.slice (some ⟨w.heap.size + 1, 0, none⟩) 6 6) 6 (hflat Pl.noHolds)) := by
      have := made_two 6
      have h := HO.out
      rw [show (Value.agg #[.int .i64 0, .int .i64 0]).cells = #[.int .i64 0, .int .i64 0] from rfl, this] at h
      rw [World.size_alloc] at h
      exact h
    refine bodyPost_ret (v := .tuple #[.agg #[.int .i64 room, .slice (some ⟨w.heap.size + 1, 0, none⟩) 6 6], .bool true]) (by simp [results, Tryz.results80, go_sem, g0, g1]) rfl ⟨_, _, rfl, ?_, ?_⟩
    · exact ownsRow_base (ownsRow_setCell_below (ownsRow_setCell_below HO2.out (by simp) _) (by simp) _) (by omega)
    · exact (HB.out.setCell (by simp) _).setCell (by simp) _

set_option maxHeartbeats 1000000 in
theorem implNew_any (room : Int) (w : World) :
    Calls Tryz.prog 85 #[.int .i64 room] w fun e w' => StOut w w' e (oR room (newO room)) (oH (newO room)) (newO room).isSome := by
  obtain ⟨i0, hi, hz0, hz1, hz2⟩ := info_parts infoHold
  have hbytes : i0.bytes * 6 ≤ 281474976710656 := by rw [hz2]; omega
  have hmax : 6 ≤ maxLen := by unfold maxLen; omega
  cases hr : Pl.inB room 0 9
  · have e : newO room = none := by simp [newO, hr]
    rw [e]
    go_enter Tryz.func85, Tryz.ntmps85
    go_wp2_with (go_at_call 50; refine (roomOk_any _ _).mono ?_; rintro e w1 ⟨rfl, rfl⟩; rw [hr])
    refine bodyPost_ret (v := .tuple #[.agg #[.int .i64 0, .slice none 0 0], .bool false]) (by simp [results, Tryz.results85, go_sem]) rfl ⟨none, 0, rfl, World.ownsRow_nil _ _ _ _, ?_⟩
    first | exact al_below _ _ | exact (al_below _ _).setCell (by simp) _ | exact ((al_below _ _).setCell (by simp) _).setCell (by simp) _
  · have e : newO room = some Pl.noHolds := by simp [newO, hr]
    rw [e]
    go_enter Tryz.func85, Tryz.ntmps85
    go_wp2_with (first
      | (go_at_call 50; refine (roomOk_any _ _).mono ?_; rintro e w1 ⟨rfl, rfl⟩; rw [hr])
      | (at_make; refine wpList_make_full _ rfl _ _ 48 rfl (w.heap.size + 1) 54 i0 (.agg #[.int .i64 0, .int .i64 0]) 2 Tryz.underlying48 hi hz0 hz1 .i64 .i64 _ _ 6 rfl rfl rfl rfl hbytes hmax (by simp) ?_; intro w2 hown hgrow; have HO := hide_it hown; obtain ⟨hbb, hws, g0, g1, f0, f1⟩ := grown_al hgrow; have HB := hide_it hbb; clear hown hgrow hbb))
    have HO2 : Hid (w2.ownsRow (w.heap.size + 1) 54 2 (.slice (some ⟨w.heap.size + 1, 0, none⟩) 6 6) 6 (hflat Pl.noHolds)) := by
      have := made_two 6
      have h := HO.out
      rw [show (Value.agg #[.int .i64 0, .int .i64 0]).cells = #[.int .i64 0, .int .i64 0] from rfl, this] at h
      rw [World.size_alloc] at h
      exact h
    refine bodyPost_ret (v := .tuple #[.agg #[.int .i64 room, .slice (some ⟨w.heap.size + 1, 0, none⟩) 6 6], .bool true]) (by simp [results, Tryz.results85, go_sem, g0, g1]) rfl ⟨_, _, rfl, ?_, ?_⟩
    · exact ownsRow_base (ownsRow_setCell_below (ownsRow_setCell_below HO2.out (by simp) _) (by simp) _) (by omega)
    · exact (HB.out.setCell (by simp) _).setCell (by simp) _

end Go.Proofs.YthllcffmpeopcaaGreatDoor
