/- What the last text of this claim stands on, part 2: plain facts and contracts; the last text says what is proved. -/
import Derived.Test.YtcofnjooiemkfabStockLessSaidPart1
import Derived.Deep.RegionHeld
import Derived.Laws.EntriesVeiled
import Derived.Deep.RegionHeldLaw
import Derived.Laws.AppendOwnNone
import Derived.Deep.DeepCutAuto
import Derived.Deep.RegionLaw
import Derived.Deep.AppendLies

namespace Go.Proofs.Ytcofnjooiemkfab
open Go.RowKit

theorem al_below (w : World) (o : Obj) : Below w.heap.size w (w.alloc o) := (Below.refl _ _).alloc (Nat.le_refl _) o
theorem al_after {w : World} {o : Obj} {w' : World} (h : Below (w.alloc o).heap.size (w.alloc o) w') : Below w.heap.size w w' := (al_below w o).trans (h.mono (by simp))

set_option maxHeartbeats 1000000 in
theorem l2Hold_any (m s : Int) (w : World) :
    Calls Try.prog 10 #[.agg #[.int .i64 m, .int .i64 s]] w fun e w' => e = .returned (.bool (Pl.hOk (m, s))) ∧ Below w.heap.size w w' := by
  by_cases h0 : s = 0
  · subst h0
    rw [Pl.hOk_0]
    by_cases hm : m = 0
    all_goals
      go_enter Try.func10, Try.ntmps10
      go_wp2
      go_ret
      exact ⟨by simp [hm], al_below _ _⟩
  by_cases h1 : s = 1
  · subst h1
    rw [Pl.hOk_1]
    go_enter Try.func10, Try.ntmps10
    go_wp2_with (go_at_call 11; refine (in_any _ _ _ _).mono ?_; rintro e w1 ⟨rfl, rfl⟩)
    go_ret
    exact ⟨rfl, al_below _ _⟩
  by_cases h2 : s = 2
  · subst h2
    rw [Pl.hOk_2]
    go_enter Try.func10, Try.ntmps10
    go_wp2_with (go_at_call 11; refine (in_any _ _ _ _).mono ?_; rintro e w1 ⟨rfl, rfl⟩)
    go_ret
    exact ⟨rfl, al_below _ _⟩
  by_cases h3 : s = 3
  · subst h3
    rw [Pl.hOk_3]
    go_enter Try.func10, Try.ntmps10
    go_wp2_with (go_at_call 11; refine (in_any _ _ _ _).mono ?_; rintro e w1 ⟨rfl, rfl⟩)
    go_ret
    exact ⟨rfl, al_below _ _⟩
  rw [Pl.hOk_x m s h0 h1 h2 h3]
  go_enter Try.func10, Try.ntmps10
  go_wp2
  go_ret
  exact ⟨rfl, al_below _ _⟩

set_option maxHeartbeats 1000000 in
theorem holdOk_any (m s : Int) (w : World) :
    Calls Try.prog 14 #[.agg #[.int .i64 m, .int .i64 s]] w fun e w' => e = .returned (.bool (Pl.hOk (m, s))) ∧ Below w.heap.size w w' := by
  by_cases h0 : s = 0
  · subst h0
    rw [Pl.hOk_0]
    by_cases hm : m = 0
    all_goals
      go_enter Try.func14, Try.ntmps14
      go_wp2
      go_ret
      exact ⟨by simp [hm], al_below _ _⟩
  by_cases h1 : s = 1
  · subst h1
    rw [Pl.hOk_1]
    by_cases hm : 1 ≤ m
    · by_cases hn : m ≤ 3
      all_goals
        go_enter Try.func14, Try.ntmps14
        go_wp2
        go_ret
        exact ⟨by simp [Pl.inB]; omega, al_below _ _⟩
    · go_enter Try.func14, Try.ntmps14
      go_wp2
      go_ret
      exact ⟨by simp [Pl.inB]; omega, al_below _ _⟩
  by_cases h2 : s = 2
  · subst h2
    rw [Pl.hOk_2]
    by_cases hm : 1 ≤ m
    · by_cases hn : m ≤ 3
      all_goals
        go_enter Try.func14, Try.ntmps14
        go_wp2
        go_ret
        exact ⟨by simp [Pl.inB]; omega, al_below _ _⟩
    · go_enter Try.func14, Try.ntmps14
      go_wp2
      go_ret
      exact ⟨by simp [Pl.inB]; omega, al_below _ _⟩
  by_cases h3 : s = 3
  · subst h3
    rw [Pl.hOk_3]
    by_cases hm : 0 ≤ m
    · by_cases hn : m ≤ 3
      all_goals
        go_enter Try.func14, Try.ntmps14
        go_wp2
        go_ret
        exact ⟨by simp [Pl.inB]; omega, al_below _ _⟩
    · go_enter Try.func14, Try.ntmps14
      go_wp2
      go_ret
      exact ⟨by simp [Pl.inB]; omega, al_below _ _⟩
  rw [Pl.hOk_x m s h0 h1 h2 h3]
  go_enter Try.func14, Try.ntmps14
  go_wp2
  go_ret
  exact ⟨rfl, al_below _ _⟩

theorem had_any (m s : Int) (w : World) :
    Calls Try.prog 15 #[.agg #[.int .i64 m, .int .i64 s]] w fun e w' => e = .returned (.int .i64 (Pl.hHad (m, s))) ∧ Below w.heap.size w w' := by
  by_cases h1 : s = 1
  · subst h1
    rw [Pl.hHad_1]
    go_enter Try.func15, Try.ntmps15
    go_wp2
    go_ret
    exact ⟨rfl, al_below _ _⟩
  by_cases h2 : s = 2
  · subst h2
    rw [Pl.hHad_2]
    go_enter Try.func15, Try.ntmps15
    go_wp2
    go_ret
    exact ⟨rfl, al_below _ _⟩
  rw [Pl.hHad_x m s h1 h2]
  have e1 : (s == 1) = false := by simp [h1]
  have e2 : (s == 2) = false := by simp [h2]
  go_enter Try.func15, Try.ntmps15
  go_wp2
  go_ret
  exact ⟨rfl, al_below _ _⟩

theorem roomOk_any (room : Int) (w : World) :
    Calls Try.prog 13 #[.int .i64 room] w fun e w' => e = .returned (.bool (Pl.inB room 0 9)) ∧ w' = w := by
  by_cases h1 : 0 ≤ room
  all_goals by_cases h2 : room ≤ 9
  all_goals
    go_enter Try.func13, Try.ntmps13
    go_wp2
    go_ret
    exact ⟨by simp [Pl.inB, h1, h2], rfl⟩

theorem hall_take (hs : List Pl.H) (k : Nat) (h : hs.all Pl.hOk = true) : (hs.take k).all Pl.hOk = true := by
  rw [List.all_eq_true] at h ⊢
  exact fun x hx => h x (List.mem_of_mem_take hx)

set_option maxHeartbeats 1000000 in
theorem l2Free_any (room : Int) (v : Value) (hs : List Pl.H) (w : World) (hv : Holds w v hs) (hl : hs.length ≤ 6) (hok : hs.all Pl.hOk = true) (hr : Pl.inB room 0 9 = true) :
    Calls Try.prog 12 #[.agg #[.int .i64 room, v]] w fun e w' => e = .returned (.int .i64 (Pl.free room hs)) ∧ Below w.heap.size w w' := by
  have hroom := Pl.inB_true hr
  have HOK : Hid (hs.all Pl.hOk = true) := hok
  rcases hv with ⟨rfl, ao, cap, rfl, -⟩ | ⟨b, off, cap, rfl, hz, hc⟩
  · rw [Pl.free_nil]
    clear hok hr
    go_enter Try.func12, Try.ntmps12
    go_wp2
    refine wp_loop_rounds 1 ?_
    rw [rounds_succ]
    go_wp2
    go_ret
    exact ⟨rfl, al_below _ _⟩
  have HC : Hid (∀ k, k < hs.length → w.cell? ⟨b, off + k * 2, none⟩ = some (.int .i64 (hs.getD k (0, 0)).1) ∧ w.cell? ⟨b, off + k * 2 + 1, none⟩ = some (.int .i64 (hs.getD k (0, 0)).2)) := hc
  have hzl : 0 < hs.length := List.length_pos_iff.2 hz
  have hbw : b < w.heap.size := World.block_lt_of_cell? _ _ (hc 0 hzl).1
  clear hc hz hok hr
  go_enter Try.func12, Try.ntmps12
  go_wp2
  go_loop [3, 4] (fun n i => ∃ (k : Nat) (N : Int), k ≤ hs.length ∧ i = .int .i64 k ∧ n = .int .i64 N ∧ Hid (N = Pl.free room (hs.take k))) (fun _ i => hs.length - (intOf i).toNat)
  case atStart => exact ⟨0, room, Nat.zero_le _, rfl, rfl, by show _ = _; simp [Pl.free]⟩
  case round =>
    obtain ⟨k, N, hk, rfl, rfl, HN⟩ := hrel
    have hNb : -1000 ≤ N ∧ N ≤ 9 := by
      have := Pl.free_bd room (hs.take k) (hall_take hs k HOK.out)
      have := HN.out
      simp at *
      omega
    by_cases hlt : k < hs.length
    · obtain ⟨m, s, HZ⟩ : ∃ m s, Hid (hs.getD k (0, 0) = (m, s)) := ⟨_, _, rfl⟩
      have c0 : w.cell? ⟨b, off + k * 2, none⟩ = some (.int .i64 m) := by rw [(HC.out k hlt).1, HZ.out]
      have c1 : w.cell? ⟨b, off + k * 2 + 1, none⟩ = some (.int .i64 s) := by rw [(HC.out k hlt).2, HZ.out]
      have HF : Hid (Pl.free room (hs.take (k + 1)) = N - Pl.hHad (m, s)) := by show _ = _; rw [Pl.free_snoc room hs k hlt, ← HN.out, HZ.out]
      have hmem : (m, s) ∈ hs := by rw [← HZ.out]; simp [List.getD_eq_getElem?_getD, hlt]
      have hbd := Pl.hHad_bd (m, s) ((List.all_eq_true.1 HOK.out) _ hmem)
      clear hmem
      by_cases h1 : s = 1
      · subst h1
        rw [Pl.hHad_1] at hbd HF
        go_wp2
        go_round
        case rel => exact ⟨k + 1, _, by omega, by go_num, rfl, HF.out.symm⟩
        case measure => simp [intOf]; omega
      by_cases h2 : s = 2
      · subst h2
        rw [Pl.hHad_2] at hbd HF
        go_wp2
        go_round
        case rel => exact ⟨k + 1, _, by omega, by go_num, rfl, HF.out.symm⟩
        case measure => simp [intOf]; omega
      rw [Pl.hHad_x m s h1 h2] at hbd HF
      have e1 : (s == 1) = false := by simp [h1]
      have e2 : (s == 2) = false := by simp [h2]
      go_wp2
      go_round
      case rel => exact ⟨k + 1, _, by omega, by go_num, rfl, by show _ = _; rw [HF.out]; omega⟩
      case measure => simp [intOf]; omega
    · have HE : Hid (Pl.free room hs = N) := by
        show _ = _
        have hke : k = hs.length := by omega
        rw [HN.out, hke, List.take_length]
      go_wp2
      go_ret
      exact ⟨by rw [HE.out]; rfl, al_below _ _⟩

/-- Two values lie at the head of this block. -/
def Duo (w : World) (b : Nat) (x y : Value) : Prop := w.cell? ⟨b, 0, none⟩ = some x ∧ w.cell? ⟨b, 1, none⟩ = some y
theorem Duo.later {B : Nat} {w w' : World} {b : Nat} {x y : Value} (h : Duo w b x y) (hb : Below B w w') (hB : w.heap.size ≤ B) : Duo w' b x y := by
  obtain ⟨h0, h1⟩ := h
  have hlt := World.block_lt_of_cell? _ _ h0
  simp at hlt
  exact ⟨by rw [← h0]; exact hb.cell (p := ⟨b, 0, none⟩) (by simp; omega), by rw [← h1]; exact hb.cell (p := ⟨b, 1, none⟩) (by simp; omega)⟩
theorem Duo.new (w : World) (x y : Value) (ty : TypeId) : Duo (w.alloc (.cells #[x, y] ty)) w.heap.size x y := by
  refine ⟨?_, ?_⟩ <;> simp
theorem Duo.lt {w : World} {b : Nat} {x y : Value} (h : Duo w b x y) : b < w.heap.size := by simpa using World.block_lt_of_cell? _ _ h.1

set_option maxRecDepth 100000 in
set_option maxHeartbeats 2000000 in
theorem specStockOk_any (room : Int) (v : Value) (hs : List Pl.H) (w : World) (hv : Holds w v hs) (hl : hs.length ≤ 1048576) :
    Calls Try.prog 6 #[.agg #[.int .i64 room, v]] w fun e w' => e = .returned (.bool (Pl.sOk room hs)) ∧ Below w.heap.size w w' := by
  have HV : Hid (∀ W, Below w.heap.size w W → Holds W v hs) := fun W h => hv.later h (Nat.le_refl _)
  have HX : Hid (Duo (w.alloc (.cells #[.int .i64 room, v] 25)) w.heap.size (.int .i64 room) v) := Duo.new w _ _ _
  rcases hv with ⟨rfl, ao, cap, rfl, -⟩ | ⟨b, off, cap, rfl, hz, hc⟩
  · rw [Pl.sOk_len (by simp)]
    clear HV
    cases hr : Pl.inB room 0 9
    all_goals
      go_enter Try.func6, Try.ntmps6
      go_wp2
      refine wp_loop_rounds 1 ?_
      rw [rounds_succ]
      go_wp2_with (go_at_call 11; refine (in_any _ _ _ _).mono ?_; rintro e w1 ⟨rfl, rfl⟩; rw [hr])
      go_ret
      exact ⟨rfl, al_below _ _⟩
  have HC : Hid (∀ W, Below w.heap.size w W → ∀ k, k < hs.length → W.cell? ⟨b, off + k * 2, none⟩ = some (.int .i64 (hs.getD k (0, 0)).1) ∧ W.cell? ⟨b, off + k * 2 + 1, none⟩ = some (.int .i64 (hs.getD k (0, 0)).2)) := fun W h k hk => by
    obtain ⟨h1, h2⟩ := hc k hk
    have hl := World.block_lt_of_cell? _ _ h1
    simp at hl
    exact ⟨by rw [← h1]; exact h.cell (p := ⟨b, off + k * 2, none⟩) (by simp; omega), by rw [← h2]; exact h.cell (p := ⟨b, off + k * 2 + 1, none⟩) (by simp; omega)⟩
  have hzl : 0 < hs.length := List.length_pos_iff.2 hz
  clear hc hz
  go_enter Try.func6, Try.ntmps6
  go_wp2
  go_loopw [3] (fun i wr => ∃ k : Nat, k ≤ hs.length ∧ i = .int .i64 k ∧ Hid ((hs.take k).all Pl.hOk = true) ∧ Hid (Duo wr w.heap.size (.int .i64 room) (.slice (some ⟨b, off, none⟩) hs.length cap)) ∧ Hid (Below w.heap.size w wr)) (fun i _ => hs.length - (intOf i).toNat)
  case atStart => exact ⟨0, Nat.zero_le _, rfl, rfl, HX, al_below _ _⟩
  case round =>
    obtain ⟨k, hk, rfl, HA, HD, HB⟩ := hrel
    obtain ⟨d0, d1⟩ := HD.out
    by_cases hlt : k < hs.length
    · obtain ⟨m, s, HZ⟩ : ∃ m s, Hid (hs.getD k (0, 0) = (m, s)) := ⟨_, _, rfl⟩
      have c0 : wr.cell? ⟨b, off + k * 2, none⟩ = some (.int .i64 m) := by rw [(HC.out wr HB.out k hlt).1, HZ.out]
      have c1 : wr.cell? ⟨b, off + k * 2 + 1, none⟩ = some (.int .i64 s) := by rw [(HC.out wr HB.out k hlt).2, HZ.out]
      cases hok : Pl.hOk (m, s)
      · have HE : Hid (Pl.sOk room hs = false) := Pl.sOk_all (Pl.hall_bad hs k hlt (by rw [HZ.out]; exact hok))
        go_wp2_with fail
        refine (l2Hold_any m s wr).mono ?_
        rintro e w2 ⟨rfl, hb2⟩
        rw [hok]
        have HB2 := hide_it (HB.out.trans (hb2.mono HB.out.size))
        clear hb2
        go_wp2
        go_ret
        exact ⟨by rw [HE.out]; rfl, HB2.out⟩
      · have HA2 : Hid ((hs.take (k + 1)).all Pl.hOk = true) := by show _ = _; rw [Pl.hall_snoc hs k hlt, HA.out, HZ.out, hok]; rfl
        go_wp2_with fail
        refine (l2Hold_any m s wr).mono ?_
        rintro e w2 ⟨rfl, hb2⟩
        rw [hok]
        have HB2 := hide_it (HB.out.trans (hb2.mono HB.out.size))
        have HD2 := hide_it (HD.out.later hb2 (Nat.le_refl _))
        clear hb2
        go_wp2
        go_roundw
        case rel => exact ⟨k + 1, by omega, by go_num, HA2, HD2, HB2⟩
        case measure => simp [intOf]; omega
    · have HAL : Hid (hs.all Pl.hOk = true) := by
        show _ = _
        have hke : k = hs.length := by omega
        have := HA.out
        rw [hke, List.take_length] at this
        exact this
      cases hr : Pl.inB room 0 9
      · have HE : Hid (Pl.sOk room hs = false) := Pl.sOk_room hr
        go_wp2_with (go_at_call 11; refine (in_any _ _ _ _).mono ?_; rintro e w1 ⟨rfl, rfl⟩; rw [hr])
        go_ret
        exact ⟨by rw [HE.out]; rfl, HB.out⟩
      by_cases h6 : (hs.length : Int) = 6
      · have hl6 : hs.length = 6 := by omega
        obtain ⟨F, HF⟩ : ∃ F, Hid (Pl.free room hs = F) := ⟨_, rfl⟩
        have HE : Hid (Pl.sOk room hs = decide (0 ≤ F)) := by show _ = _; rw [← HF.out]; exact Pl.sOk_mk HAL.out hr hl6
        have HS : Hid (∀ W, Below w.heap.size w W → Calls Try.prog 12 #[.agg #[.int .i64 room, .slice (some ⟨b, off, none⟩) hs.length cap]] W fun e w' => e = .returned (.int .i64 F) ∧ Below W.heap.size W w') := fun W h => by
          have := l2Free_any room _ hs W (HV.out W h) (by omega) HAL.out hr
          rw [HF.out] at this
          exact this
        clear hl6
        by_cases hF : 0 ≤ F
        all_goals
          go_wp2_with fail
          refine (in_any _ _ _ _).mono ?_
          rintro e w1 ⟨rfl, rfl⟩
          rw [hr]
          go_wp2_with fail
          refine (HS.out _ HB.out).mono ?_
          rintro e w2 ⟨rfl, hb2⟩
          have HB2 := hide_it (HB.out.trans (hb2.mono HB.out.size))
          clear hb2
          go_wp2
          go_ret
          exact ⟨by rw [HE.out]; simp <;> omega, HB2.out⟩
      · have HE : Hid (Pl.sOk room hs = false) := Pl.sOk_len (by omega)
        go_wp2_with (go_at_call 11; refine (in_any _ _ _ _).mono ?_; rintro e w1 ⟨rfl, rfl⟩; rw [hr])
        go_ret
        exact ⟨by rw [HE.out]; rfl, HB.out⟩

set_option maxHeartbeats 2000000 in
theorem implFree_any (room : Int) (v : Value) (hs : List Pl.H) (w : World) (hv : Holds w v hs) (hl : hs.length ≤ 1048576) :
    Calls Try.prog 7 #[.agg #[.int .i64 room, v]] w fun e w' => e = .returned (.int .i64 (Pl.sFree room hs)) ∧ Below w.heap.size w w' := by
  cases hr : Pl.inB room 0 9
  · rw [Pl.sFree_no (Pl.sOk_room hr)]
    obtain ⟨ao, cap, rfl⟩ := hv.shape
    clear hv
    go_enter Try.func7, Try.ntmps7
    go_wp2_with (go_at_call 13; refine (roomOk_any _ _).mono ?_; rintro e w1 ⟨rfl, rfl⟩; rw [hr])
    go_ret
    exact ⟨rfl, al_below _ _⟩
  by_cases h6 : (hs.length : Int) = 6
  · have hl6 : hs.length = 6 := by omega
    have HL6 := hide_it hl6
    have HR := hide_it hr
    have hrb := Pl.inB_true hr
    rcases hv with ⟨rfl, _⟩ | ⟨b, off, cap, rfl, hz, hc⟩
    · simp at hl6
    have HC : Hid (∀ W, Below w.heap.size w W → ∀ k, k < 6 → W.cell? ⟨b, off + k * 2, none⟩ = some (.int .i64 (hs.getD k (0, 0)).1) ∧ W.cell? ⟨b, off + k * 2 + 1, none⟩ = some (.int .i64 (hs.getD k (0, 0)).2)) := fun W h k hk => by
      obtain ⟨h1, h2⟩ := hc k (by omega)
      have hl := World.block_lt_of_cell? _ _ h1
      simp at hl
      exact ⟨by rw [← h1]; exact h.cell (p := ⟨b, off + k * 2, none⟩) (by simp; omega), by rw [← h2]; exact h.cell (p := ⟨b, off + k * 2 + 1, none⟩) (by simp; omega)⟩
    clear hc hz
    rw [hl6]
    clear hl6 h6 hl
    go_enter Try.func7, Try.ntmps7
    go_wp2_with (go_at_call 13; refine (roomOk_any _ _).mono ?_; rintro e w1 ⟨rfl, rfl⟩; rw [hr])
    go_loopw [3, 21] (fun n i wr => ∃ (k : Nat) (N : Int), k ≤ 6 ∧ i = .int .i64 k ∧ n = .int .i64 N ∧ Hid (N = Pl.free room (hs.take k)) ∧ Hid ((hs.take k).all Pl.hOk = true) ∧ Hid (Below w.heap.size w wr)) (fun _ i _ => 6 - (intOf i).toNat)
    case atStart => exact ⟨0, room, Nat.zero_le _, rfl, rfl, by show _ = _; simp [Pl.free], rfl, al_below _ _⟩
    case round =>
      obtain ⟨k, N, hk, rfl, rfl, HN, HA, HB⟩ := hrel
      have hNb : -1000 ≤ N ∧ N ≤ 9 := by
        have := Pl.free_bd room (hs.take k) HA.out
        have := HN.out
        simp at *
        omega
      by_cases hlt : k < 6
      · have HLT : Hid (k < hs.length) := by show _ < _; rw [HL6.out]; exact hlt
        obtain ⟨m, s, HZ⟩ : ∃ m s, Hid (hs.getD k (0, 0) = (m, s)) := ⟨_, _, rfl⟩
        have c0 : wr.cell? ⟨b, off + k * 2, none⟩ = some (.int .i64 m) := by rw [(HC.out wr HB.out k hlt).1, HZ.out]
        have c1 : wr.cell? ⟨b, off + k * 2 + 1, none⟩ = some (.int .i64 s) := by rw [(HC.out wr HB.out k hlt).2, HZ.out]
        have HBA : Hid (∀ o, Below w.heap.size w (wr.alloc o)) := fun o => HB.out.alloc HB.out.size o
        cases hok : Pl.hOk (m, s)
        · have HE : Hid (Pl.sFree room hs = -1) := Pl.sFree_no (Pl.sOk_all (Pl.hall_bad hs k HLT.out (by rw [HZ.out]; exact hok)))
          go_wp2_with fail
          refine (holdOk_any m s _).mono ?_
          rintro e w2 ⟨rfl, hb2⟩
          rw [hok]
          have HB2 := hide_it ((HBA.out _).trans (hb2.mono (HBA.out _).size))
          clear hb2
          go_wp2
          go_ret
          exact ⟨by rw [HE.out]; rfl, HB2.out⟩
        · have HA2 : Hid ((hs.take (k + 1)).all Pl.hOk = true) := by show _ = _; rw [Pl.hall_snoc hs k HLT.out, HA.out, HZ.out, hok]; rfl
          have HF : Hid (N - Pl.hHad (m, s) = Pl.free room (hs.take (k + 1))) := by show _ = _; rw [Pl.free_snoc room hs k HLT.out, ← HN.out, HZ.out]
          have hbd := Pl.hHad_bd (m, s) hok
          have HX := hide_it (Duo.new wr (.int .i64 m) (.int .i64 s) 29)
          go_wp2_with fail
          refine (holdOk_any m s _).mono ?_
          rintro e w2 ⟨rfl, hb2⟩
          rw [hok]
          have HB2 := hide_it ((HBA.out _).trans (hb2.mono (HBA.out _).size))
          obtain ⟨x0, x1⟩ := HX.out.later hb2 (Nat.le_refl _)
          clear hb2
          go_wp2_with fail
          refine (had_any m s _).mono ?_
          rintro e w3 ⟨rfl, hb3⟩
          have HB3 := hide_it (HB2.out.trans (hb3.mono HB2.out.size))
          clear hb3 x0 x1
          go_wp2
          go_roundw
          case rel => exact ⟨k + 1, _, by omega, by go_num, rfl, HF, HA2, HB3⟩
          case measure => simp [intOf]; omega
      · have HE : Hid (Pl.sFree room hs = max N (-1)) := by
          show _ = _
          have hke : k = hs.length := by have := HL6.out; omega
          have h1 := HA.out
          have h2 := HN.out
          rw [hke, List.take_length] at h1 h2
          rw [Pl.sFree_max h1 HR.out HL6.out, h2]
        by_cases hm : -1 ≤ N
        all_goals
          go_wp2
          go_ret
          exact ⟨by rw [HE.out]; simp; omega, HB.out⟩
  · rw [Pl.sFree_no (Pl.sOk_len (by omega))]
    obtain ⟨ao, cap, rfl⟩ := hv.shape
    clear hv
    go_enter Try.func7, Try.ntmps7
    go_wp2_with (go_at_call 13; refine (roomOk_any _ _).mono ?_; rintro e w1 ⟨rfl, rfl⟩; rw [hr])
    go_ret
    exact ⟨rfl, al_below _ _⟩

theorem implStockOk_any (room : Int) (v : Value) (hs : List Pl.H) (w : World) (hv : Holds w v hs) (hl : hs.length ≤ 1048576) :
    Calls Try.prog 5 #[.agg #[.int .i64 room, v]] w fun e w' => e = .returned (.bool (Pl.sOk room hs)) ∧ Below w.heap.size w w' := by
  have HV : Hid (∀ W, Below w.heap.size w W → Holds W v hs) := fun W h => hv.later h (Nat.le_refl _)
  have hbd := Pl.sFree_bd room hs
  obtain ⟨ao, cap, rfl⟩ := hv.shape
  rw [← Pl.sFree_ok]
  clear hv
  go_enter Try.func5, Try.ntmps5
  go_wp2_with (go_at_call 7; refine (implFree_any room _ hs _ (HV.out _ (al_below _ _)) hl).mono ?_; rintro e w1 ⟨rfl, hb1⟩; have HB1 := hide_it (al_after hb1); clear hb1)
  go_ret
  exact ⟨rfl, HB1.out⟩

end Go.Proofs.Ytcofnjooiemkfab

namespace Go.Proofs.Ytcofnjooiemkfab
open Go.RowKit

/-- Holds, all marked. -/
def markH (n : Nat) (k : Int) : List Pl.H := (List.range n).map fun i => (k + 2 * (i : Nat), k + 2 * (i : Nat) + 1)
theorem markH_length (n : Nat) (k : Int) : (markH n k).length = n := by simp [markH]
theorem markH_get? (n : Nat) (k : Int) (i : Nat) (h : i < n) : (markH n k)[i]? = some (k + 2 * i, k + 2 * i + 1) := by simp [markH, h]
theorem markH_get (n : Nat) (k : Int) (i : Nat) (h : i < n) : (markH n k).getD i (0, 0) = (k + 2 * i, k + 2 * i + 1) := by
  rw [List.getD_eq_getElem?_getD, markH_get? n k i h]; rfl

theorem mixH_set (A xs : List Pl.H) (i : Nat) (hA : A.length = xs.length) (hi : i < xs.length) (x : Pl.H) (hx : A[i]? = some x) : (A.take i ++ xs.drop i).set i x = A.take (i + 1) ++ xs.drop (i + 1) := by
  have hi' : i < A.length := by omega
  rw [List.set_append_right _ _ (by simp; omega)]
  have h1 : i - (A.take i).length = 0 := by simp; omega
  rw [h1, List.drop_eq_getElem_cons hi, List.set_cons_zero, List.take_succ_eq_append_getElem hi']
  rw [List.getElem?_eq_getElem hi'] at hx
  simp only [Option.some.injEq] at hx
  rw [hx]; simp

theorem holds_mid {l h : Nat} {w w' : World} {lo n : Nat} {v : Value} {hs : List Pl.H} (ho : w.ownsRow lo 29 2 v n (hflat hs)) (hm : Mid l h w w') (hd : ∀ i, v.ownBlock = some i → i < l ∨ h ≤ i) : w'.ownsRow lo 29 2 v n (hflat hs) := ownsRow_mid ho hm hd

end Go.Proofs.Ytcofnjooiemkfab

namespace Go.Proofs.Ytcofnjooiemkfab
open Go.RowKit

theorem next_1 (m s z F : Int) : Pl.next (m, s) 1 z F = if s = 0 ∧ z ≤ F then some (z, 1) else none := by simp [Pl.next]
theorem next_2 (m s z F : Int) : Pl.next (m, s) 2 z F = if s = 1 then some (m, 2) else none := by simp [Pl.next]
theorem next_3 (m s z F : Int) : Pl.next (m, s) 3 z F = if s = 1 ∨ s = 0 then some (m, 3) else none := by simp [Pl.next]
theorem next_x (h : Pl.H) (k z F : Int) (h1 : k ≠ 1) (h2 : k ≠ 2) (h3 : k ≠ 3) : Pl.next h k z F = none := by simp [Pl.next, h1, h2, h3]

/-- The place of a trip. -/
theorem trip_at {k t : Int} {zs : List Int} (h : Pl.recOk k t zs = true) : ∃ i : Nat, i < 6 ∧ t = (i : Int) + 1 ∧ Pl.at_ t = i := by
  have := Pl.recOk_trip h
  exact ⟨(t - 1).toNat, by omega, by omega, rfl⟩

set_option maxHeartbeats 4000000 in
theorem l2May_any (room : Int) (v : Value) (hs : List Pl.H) (k t : Int) (u : Value) (zs : List Int) (w : World) (hv : Holds w v hs) (hu : Ints w u zs) (hok : Pl.sOk room hs = true) (hrec : Pl.recOk k t zs = true) :
    Calls Try.prog 26 #[.agg #[.int .i64 room, v], .agg #[.int .i64 k, .int .i64 t, u]] w fun e w' => e = .returned (.bool (Pl.next (Pl.hAt hs t) k (zs.headD 0) (Pl.free room hs)).isSome) ∧ Below w.heap.size w w' := by
  obtain ⟨p1, p2, p3, p4⟩ := Pl.sOk_parts hok
  obtain ⟨i, hi, rfl, hat⟩ := trip_at hrec
  have hkb := Pl.recOk_kind hrec
  have HV : Hid (∀ W, Below w.heap.size w W → Holds W v hs) := fun W h => hv.later h (Nat.le_refl _)
  obtain ⟨F, hF⟩ : ∃ F, Pl.free room hs = F := ⟨_, rfl⟩
  have HF : Hid (∀ W, Below w.heap.size w W → Calls Try.prog 12 #[.agg #[.int .i64 room, v]] W fun e w' => e = .returned (.int .i64 F) ∧ Below W.heap.size W w') := fun W h => by
    have := l2Free_any room v hs W (HV.out W h) (by omega) p1 p2
    rw [hF] at this
    exact this
  rw [hF]
  obtain ⟨m, s, hms⟩ : ∃ m s, Pl.hAt hs ((i : Int) + 1) = (m, s) := ⟨_, _, rfl⟩
  rw [hms]
  rcases hv with ⟨rfl, _⟩ | ⟨b, off, cap, rfl, hz, hc⟩
  · simp at p3
  have hmsd : hs.getD i (0, 0) = (m, s) := by rw [← hat]; exact hms
  obtain ⟨c0, c1⟩ := hc i (by omega)
  rw [hmsd] at c0 c1
  have hbw : b < w.heap.size := World.block_lt_of_cell? _ _ c0
  rw [p3] at HF ⊢
  clear hc hz p1 p2 p3 p4 hok hat hms hmsd hF HV
  by_cases k1 : k = 1
  · subst k1
    obtain ⟨z, rfl, z1, z3⟩ := Pl.recOk_hold hrec
    rcases hu with ⟨h, _⟩ | ⟨b2, off2, cap2, rfl, hz2, hc2⟩
    · simp at h
    have d0 : w.cell? ⟨b2, off2, none⟩ = some (.int .i64 z) := hc2 0 (by simp)
    have hb2 : b2 < w.heap.size := World.block_lt_of_cell? _ _ d0
    rw [next_1, List.headD_cons]
    clear hc2 hz2 hrec hkb
    by_cases hs0 : s = 0
    · subst hs0
      have HR : Hid (∀ W, Below (((w.alloc (.cells #[.int .i64 room, .slice (some ⟨b, off, none⟩) 6 cap] 25)).alloc (.cells #[.int .i64 1, .int .i64 ((i : Int) + 1), .slice (some ⟨b2, off2, none⟩) 1 cap2] 50)).drew).heap.size (((w.alloc (.cells #[.int .i64 room, .slice (some ⟨b, off, none⟩) 6 cap] 25)).alloc (.cells #[.int .i64 1, .int .i64 ((i : Int) + 1), .slice (some ⟨b2, off2, none⟩) 1 cap2] 50)).drew) W →
          W.cell? ⟨w.heap.size, 0, none⟩ = some (.int .i64 room) ∧ W.cell? ⟨w.heap.size, 1, none⟩ = some (.slice (some ⟨b, off, none⟩) 6 cap) ∧ W.cell? ⟨w.heap.size + 1, 2, none⟩ = some (.slice (some ⟨b2, off2, none⟩) 1 cap2) ∧ W.cell? ⟨b2, off2, none⟩ = some (.int .i64 z)) := fun W h => by
        obtain ⟨hc, _⟩ := bcell h
        refine ⟨?_, ?_, ?_, ?_⟩
        · rw [hc _ _ (by simp; try omega)]; simp [go_sem]
        · rw [hc _ _ (by simp; try omega)]; simp [go_sem]
        · rw [hc _ _ (by simp; try omega)]; simp [go_sem]
        · rw [hc _ _ (by simp; try omega)]; exact ((below2 w _ _).drew.cell (p := ⟨b2, off2, none⟩) hb2).trans d0
      by_cases hzF : z ≤ F
      · rw [if_pos ⟨rfl, hzF⟩]
        go_enter Try.func26, Try.ntmps26
        go_wp2
        go_region_held (fun w' => w'.cell? ⟨w.heap.size, 0, none⟩ = some (.int .i64 room) ∧ w'.cell? ⟨w.heap.size, 1, none⟩ = some (.slice (some ⟨b, off, none⟩) 6 cap) ∧ w'.cell? ⟨w.heap.size + 1, 2, none⟩ = some (.slice (some ⟨b2, off2, none⟩) 1 cap2) ∧ w'.cell? ⟨b2, off2, none⟩ = some (.int .i64 z)) (go_keep)
          ((go_at_call 12; refine (HF.out _ ((below2 w _ _).drew)).mono ?_; rintro e w1 ⟨rfl, hb1⟩; have HB1 := hide_it ((below2 w _ _).drew.trans (hb1.mono (by simp; omega))); obtain ⟨y0, y1, y2, y3⟩ := HR.out _ hb1; clear hb1))
        all_goals (try go_wp2)
        all_goals (go_ret; exact ⟨rfl, HB1.out⟩)
      · rw [if_neg (by omega)]
        go_enter Try.func26, Try.ntmps26
        go_wp2
        go_region_held (fun w' => w'.cell? ⟨w.heap.size, 0, none⟩ = some (.int .i64 room) ∧ w'.cell? ⟨w.heap.size, 1, none⟩ = some (.slice (some ⟨b, off, none⟩) 6 cap) ∧ w'.cell? ⟨w.heap.size + 1, 2, none⟩ = some (.slice (some ⟨b2, off2, none⟩) 1 cap2) ∧ w'.cell? ⟨b2, off2, none⟩ = some (.int .i64 z)) (go_keep)
          ((go_at_call 12; refine (HF.out _ ((below2 w _ _).drew)).mono ?_; rintro e w1 ⟨rfl, hb1⟩; have HB1 := hide_it ((below2 w _ _).drew.trans (hb1.mono (by simp; omega))); obtain ⟨y0, y1, y2, y3⟩ := HR.out _ hb1; clear hb1))
        all_goals (try go_wp2)
        all_goals (go_ret; exact ⟨by simp; omega, HB1.out⟩)
    · rw [if_neg (by omega)]
      go_enter Try.func26, Try.ntmps26
      go_wp2
      go_quiet (fail)
      go_wp2
      go_ret
      exact ⟨rfl, below_drewN (below2 w _ _) _⟩
  obtain ⟨au, cu, rfl⟩ := hu.shape
  clear hu
  by_cases k2 : k = 2
  · subst k2
    rw [next_2]
    by_cases hs1 : s = 1
    · rw [if_pos hs1]
      go_enter Try.func26, Try.ntmps26
      go_wp2
      go_ret
      exact ⟨by simp, below2 w _ _⟩
    · rw [if_neg hs1]
      go_enter Try.func26, Try.ntmps26
      go_wp2
      go_ret
      exact ⟨by simp [hs1], below2 w _ _⟩
  by_cases k3 : k = 3
  · subst k3
    rw [next_3]
    by_cases hs1 : s = 1
    · rw [if_pos (Or.inl hs1)]
      subst hs1
      go_enter Try.func26, Try.ntmps26
      go_wp2
      go_ret
      exact ⟨rfl, below2 w _ _⟩
    by_cases hs0 : s = 0
    · rw [if_pos (Or.inr hs0)]
      subst hs0
      go_enter Try.func26, Try.ntmps26
      go_wp2
      go_ret
      exact ⟨rfl, below2 w _ _⟩
    · rw [if_neg (by omega)]
      have e1 : (s == 1) = false := by simp [hs1]
      have e2 : (s == 0) = false := by simp [hs0]
      go_enter Try.func26, Try.ntmps26
      go_wp2
      go_ret
      exact ⟨rfl, below2 w _ _⟩
  rw [next_x _ _ _ _ k1 k2 k3]
  have e1 : (k == 1) = false := by simp [k1]
  have e2 : (k == 2) = false := by simp [k2]
  have e3 : (k == 3) = false := by simp [k3]
  go_enter Try.func26, Try.ntmps26
  go_wp2
  go_ret
  exact ⟨rfl, below2 w _ _⟩

end Go.Proofs.Ytcofnjooiemkfab

namespace Go.Proofs.Ytcofnjooiemkfab
open Go.RowKit

/-- What a step answers. -/
def StepOut (W w' : World) (e : Ending) (o : Option Pl.H) : Prop :=
  ∃ p q : Int, e = .returned (.tuple #[.agg #[.int .i64 p, .int .i64 q], .bool o.isSome]) ∧ (∀ h, o = some h → h = (p, q)) ∧ Below W.heap.size W w'

theorem StepOut.mk {W w' : World} {p q : Int} {o : Option Pl.H} (h : ∀ x, o = some x → x = (p, q)) (hb : Below W.heap.size W w') : StepOut W w' (.returned (.tuple #[.agg #[.int .i64 p, .int .i64 q], .bool o.isSome])) o := ⟨p, q, rfl, h, hb⟩

end Go.Proofs.Ytcofnjooiemkfab

namespace Go.Proofs.Ytcofnjooiemkfab
open Go.RowKit

/-- The two boxes and the answer's own, as holdBehind begins. -/
def Box3 (W : World) (B : Nat) (x y : Value) (k t : Int) (u : Value) : Prop :=
  Duo W B x y ∧ RecAt W (B + 1) k t u ∧ W.cell? ⟨B + 2, 0, none⟩ = some (.int .i64 0) ∧ W.cell? ⟨B + 2, 1, none⟩ = some (.int .i64 0) ∧ W.frozen? ⟨B + 2, 0, none⟩ = false ∧ W.frozen? ⟨B + 2, 1, none⟩ = false
theorem Box3.later {C : Nat} {W W' : World} {B : Nat} {x y : Value} {k t : Int} {u : Value} (h : Box3 W B x y k t u) (hb : Below C W W') (hC : W.heap.size ≤ C) : Box3 W' B x y k t u := by
  obtain ⟨h1, h2, h3, h4, h5, h6⟩ := h
  have hlt := World.block_lt_of_cell? _ _ h3
  simp at hlt
  refine ⟨h1.later hb hC, h2.later hb hC, ?_, ?_, ?_, ?_⟩
  · rw [← h3]; exact hb.cell (p := ⟨B + 2, 0, none⟩) (by simp; omega)
  · rw [← h4]; exact hb.cell (p := ⟨B + 2, 1, none⟩) (by simp; omega)
  · rw [← h5]; exact hb.frozen (p := ⟨B + 2, 0, none⟩) (by simp; omega)
  · rw [← h6]; exact hb.frozen (p := ⟨B + 2, 1, none⟩) (by simp; omega)
theorem Box3.new (w : World) (x y : Value) (k t : Int) (u : Value) (t1 t2 t3 : TypeId) : Box3 (((w.alloc (.cells #[x, y] t1)).alloc (.cells #[.int .i64 k, .int .i64 t, u] t2)).alloc (.cells #[.int .i64 0, .int .i64 0] t3)) w.heap.size x y k t u := by
  refine ⟨⟨?_, ?_⟩, ⟨?_, ?_, ?_⟩, ?_, ?_, ?_, ?_⟩ <;> simp [go_sem]

theorem two_set_cells (W : World) (B : Nat) (x y : Value) (b o : Nat) (h : b < B) : ((W.setCell ⟨B, 0, none⟩ x).setCell ⟨B, 1, none⟩ y).cell? ⟨b, o, none⟩ = W.cell? ⟨b, o, none⟩ :=
  (((Below.refl B W).setCell (Nat.le_refl _) x).setCell (Nat.le_refl _) y).cell (p := ⟨b, o, none⟩) h

theorem StepOut.none_ {W w' : World} {p q : Int} (hb : Below W.heap.size W w') : StepOut W w' (.returned (.tuple #[.agg #[.int .i64 p, .int .i64 q], .bool false])) none := ⟨p, q, rfl, fun h hh => (by cases hh), hb⟩

end Go.Proofs.Ytcofnjooiemkfab

namespace Go.Proofs.Ytcofnjooiemkfab
open Go.RowKit

set_option maxHeartbeats 2000000 in
theorem specMay_any (room : Int) (v : Value) (hs : List Pl.H) (k t : Int) (u : Value) (zs : List Int) (w : World) (hv : Holds w v hs) (hl : hs.length ≤ 1048576) (hu : Ints w u zs) (hzl : zs.length ≤ 1048576) :
    Calls Try.prog 22 #[.agg #[.int .i64 room, v], .agg #[.int .i64 k, .int .i64 t, u]] w fun e w' => e = .returned (.bool (Pl.sMay room hs k t zs)) ∧ Below w.heap.size w w' := by
  have HV : Hid (∀ W, Below w.heap.size w W → Holds W v hs) := fun W h => hv.later h (Nat.le_refl _)
  have HU : Hid (∀ W, Below w.heap.size w W → Ints W u zs) := fun W h => hu.later h (Nat.le_refl _)
  have hsh := hv.shape
  obtain ⟨av, cv, rfl⟩ := hsh
  obtain ⟨au, cu, rfl⟩ := hu.shape
  have D0 := hide_it ((Duo.new w (.int .i64 room) (.slice av hs.length cv) 25).later (al_below _ (.cells #[.int .i64 k, .int .i64 t, .slice au zs.length cu] 50)) (Nat.le_refl _))
  have R0 := hide_it (RecAt.new (w.alloc (.cells #[.int .i64 room, .slice av hs.length cv] 25)) k t (.slice au zs.length cu) 50)
  rw [World.size_alloc] at R0
  unfold Pl.sMay
  clear hv hu
  cases hok : Pl.sOk room hs
  · rw [Pl.behind_stock k t zs hok]
    go_enter Try.func22, Try.ntmps22
    go_wp2_with fail
    refine (specStockOk_any room _ hs _ (HV.out _ (below2 w _ _)) hl).mono ?_
    rintro e w1 ⟨rfl, hb1⟩
    rw [hok]
    have B1 := hide_it ((below2 w _ _).trans (hb1.mono (by simp; omega)))
    clear hb1
    go_wp2
    go_ret
    exact ⟨rfl, B1.out⟩
  cases hrec : Pl.recOk k t zs
  · rw [Pl.behind_rec room hs hrec]
    go_enter Try.func22, Try.ntmps22
    go_wp2_with fail
    refine (specStockOk_any room _ hs _ (HV.out _ (below2 w _ _)) hl).mono ?_
    rintro e w1 ⟨rfl, hb1⟩
    rw [hok]
    have B1 := hide_it ((below2 w _ _).trans (hb1.mono (by simp; omega)))
    obtain ⟨d0, d1⟩ := D0.out.later hb1 (Nat.le_refl _)
    obtain ⟨r0, r1, r2⟩ := R0.out.later hb1 (Nat.le_refl _)
    clear hb1
    go_wp2_with fail
    refine (specOk_any k t _ zs w1 (HU.out _ B1.out) hzl).mono ?_
    rintro e w2 ⟨rfl, hb2⟩
    rw [hrec]
    have B2 := hide_it (B1.out.trans (hb2.mono B1.out.size))
    clear hb2 d0 d1 r0 r1 r2
    go_wp2
    go_ret
    exact ⟨rfl, B2.out⟩
  · rw [Pl.behind_ok hok hrec]
    have HM : Hid (∀ W, Below w.heap.size w W → Calls Try.prog 26 #[.agg #[.int .i64 room, .slice av hs.length cv], .agg #[.int .i64 k, .int .i64 t, .slice au zs.length cu]] W fun e w' => e = .returned (.bool (Pl.next (Pl.hAt hs t) k (zs.headD 0) (Pl.free room hs)).isSome) ∧ Below W.heap.size W w') := fun W h =>
      l2May_any room _ hs k t _ zs W (HV.out W h) (HU.out W h) hok hrec
    obtain ⟨o, ho⟩ : ∃ o, Pl.next (Pl.hAt hs t) k (zs.headD 0) (Pl.free room hs) = o := ⟨_, rfl⟩
    rw [ho] at HM ⊢
    clear ho
    go_enter Try.func22, Try.ntmps22
    go_wp2_with fail
    refine (specStockOk_any room _ hs _ (HV.out _ (below2 w _ _)) hl).mono ?_
    rintro e w1 ⟨rfl, hb1⟩
    rw [hok]
    have B1 := hide_it ((below2 w _ _).trans (hb1.mono (by simp; omega)))
    have D1 := hide_it (D0.out.later hb1 (Nat.le_refl _))
    have R1 := hide_it (R0.out.later hb1 (Nat.le_refl _))
    obtain ⟨d0, d1⟩ := D1.out
    obtain ⟨r0, r1, r2⟩ := R1.out
    clear hb1
    go_wp2_with fail
    refine (specOk_any k t _ zs w1 (HU.out _ B1.out) hzl).mono ?_
    rintro e w2 ⟨rfl, hb2⟩
    rw [hrec]
    have B2 := hide_it (B1.out.trans (hb2.mono B1.out.size))
    clear d0 d1 r0 r1 r2
    obtain ⟨d0, d1⟩ := D1.out.later hb2 (Nat.le_refl _)
    obtain ⟨r0, r1, r2⟩ := R1.out.later hb2 (Nat.le_refl _)
    clear hb2
    go_wp2_with fail
    refine (HM.out w2 B2.out).mono ?_
    rintro e w3 ⟨rfl, hb3⟩
    have B3 := hide_it (B2.out.trans (hb3.mono B2.out.size))
    clear hb3 d0 d1 r0 r1 r2
    go_wp2
    go_ret
    exact ⟨rfl, B3.out⟩

end Go.Proofs.Ytcofnjooiemkfab

namespace Go.Proofs.Ytcofnjooiemkfab
open Go.RowKit

/-- What comes out where a stock, or nothing, does: its room, its holds. -/
def oR (room : Int) (o : Option (List Pl.H)) : Int := match o with | some _ => room | none => 0
def oH (o : Option (List Pl.H)) : List Pl.H := o.getD []
def StOut (W w' : World) (e : Ending) (RR : Int) (HS : List Pl.H) (BB : Bool) : Prop :=
  ∃ ao cap, e = .returned (.tuple #[.agg #[.int .i64 RR, .slice ao HS.length cap], .bool BB]) ∧ w'.ownsRow W.heap.size 29 2 (.slice ao HS.length cap) HS.length (hflat HS) ∧ Below W.heap.size W w'
def newO (room : Int) : Option (List Pl.H) := if Pl.inB room 0 9 = true then some Pl.noHolds else none

theorem grown_al {w w2 : World} {x y : Value} {ty : TypeId} (hg : (w.alloc (.cells #[x, y] ty)).grownBy w2 none) : Below w.heap.size w w2 ∧ w.heap.size < w2.heap.size ∧
    w2.cell? ⟨w.heap.size, 0, none⟩ = some x ∧ w2.cell? ⟨w.heap.size, 1, none⟩ = some y ∧ w2.frozen? ⟨w.heap.size, 0, none⟩ = false ∧ w2.frozen? ⟨w.heap.size, 1, none⟩ = false := by
  have hb : Below (w.heap.size + 1) (w.alloc (.cells #[x, y] ty)) w2 := (Below.refl _ _).grown hg (by simp) (fun k h => by cases h)
  have hs := hb.size
  simp at hs
  refine ⟨(al_below w _).trans (hb.mono (by omega)), by omega, ?_, ?_, ?_, ?_⟩
  · rw [hb.cell (p := ⟨w.heap.size, 0, none⟩) (by simp)]; simp
  · rw [hb.cell (p := ⟨w.heap.size, 1, none⟩) (by simp)]; simp
  · rw [hb.frozen (p := ⟨w.heap.size, 0, none⟩) (by simp)]; simp [go_sem]
  · rw [hb.frozen (p := ⟨w.heap.size, 1, none⟩) (by simp)]; simp [go_sem]

set_option maxHeartbeats 1000000 in
theorem specNew_any (room : Int) (w : World) :
    Calls Try.prog 19 #[.int .i64 room] w fun e w' => StOut w w' e (oR room (newO room)) (oH (newO room)) (newO room).isSome := by
  obtain ⟨i0, hi, hz0, hz1, hz2⟩ := info_parts infoHold
  have hbytes : i0.bytes * 6 ≤ 281474976710656 := by rw [hz2]; omega
  have hmax : 6 ≤ maxLen := by unfold maxLen; omega
  cases hr : Pl.inB room 0 9
  · have e : newO room = none := by simp [newO, hr]
    rw [e]
    go_enter Try.func19, Try.ntmps19
    go_wp2_with (go_at_call 11; refine (in_any _ _ _ _).mono ?_; rintro e w1 ⟨rfl, rfl⟩; rw [hr])
    refine bodyPost_ret (v := .tuple #[.agg #[.int .i64 0, .slice none 0 0], .bool false]) (by simp [results, Try.results19, go_sem]) rfl ⟨none, 0, rfl, World.ownsRow_nil _ _ _ _, ?_⟩
    first | exact al_below _ _ | exact (al_below _ _).setCell (by simp) _ | exact ((al_below _ _).setCell (by simp) _).setCell (by simp) _
  · have e : newO room = some Pl.noHolds := by simp [newO, hr]
    rw [e]
    go_enter Try.func19, Try.ntmps19
    go_wp2_with (first
      | (go_at_call 11; refine (in_any _ _ _ _).mono ?_; rintro e w1 ⟨rfl, rfl⟩; rw [hr])
      | (at_make; refine wpList_make_full _ rfl _ _ 23 rfl (w.heap.size + 1) 29 i0 (.agg #[.int .i64 0, .int .i64 0]) 2 Try.underlying23 hi hz0 hz1 .i64 .i64 _ _ 6 rfl rfl rfl rfl hbytes hmax (by simp) ?_; intro w2 hown hgrow; have HO := hide_it hown; obtain ⟨hbb, hws, g0, g1, f0, f1⟩ := grown_al hgrow; have HB := hide_it hbb; clear hown hgrow hbb))
    have HO2 : Hid (w2.ownsRow (w.heap.size + 1) 29 2 (.slice (some ⟨w.heap.size + 1, 0, none⟩) 6 6) 6 (hflat Pl.noHolds)) := by
      have := made_two 6
      have h := HO.out
      rw [show (Value.agg #[.int .i64 0, .int .i64 0]).cells = #[.int .i64 0, .int .i64 0] from rfl, this] at h
      rw [World.size_alloc] at h
      exact h
    refine bodyPost_ret (v := .tuple #[.agg #[.int .i64 room, .slice (some ⟨w.heap.size + 1, 0, none⟩) 6 6], .bool true]) (by simp [results, Try.results19, go_sem, g0, g1]) rfl ⟨_, _, rfl, ?_, ?_⟩
    · exact ownsRow_base (ownsRow_setCell_below (ownsRow_setCell_below HO2.out (by simp) _) (by simp) _) (by omega)
    · exact (HB.out.setCell (by simp) _).setCell (by simp) _

end Go.Proofs.Ytcofnjooiemkfab

namespace Go.Proofs.Ytcofnjooiemkfab
open Go.RowKit

theorem hflat_one (hs : List Pl.H) : ∀ u ∈ hflat hs, u.oneCell' = true := by
  induction hs with
  | nil => intro u hu; simp [hflat] at hu
  | cons h t ih =>
    intro u hu
    simp only [hflat, List.mem_cons] at hu
    rcases hu with rfl | rfl | hu
    · rfl
    · rfl
    · exact ih u hu

theorem hflat_cells {w : World} {b off : Nat} {hs : List Pl.H} (hc : ∀ k, k < hs.length → w.cell? ⟨b, off + k * 2, none⟩ = some (.int .i64 (hs.getD k (0, 0)).1) ∧ w.cell? ⟨b, off + k * 2 + 1, none⟩ = some (.int .i64 (hs.getD k (0, 0)).2)) :
    ∀ j u, (hflat hs)[j]? = some u → w.cell? ((⟨b, off, none⟩ : Addr).add j) = some u := by
  intro j u hj
  have hjl : j < hs.length * 2 := by
    by_cases e : j < hs.length * 2
    · exact e
    · rw [List.getElem?_eq_none (by rw [hflat_length]; omega)] at hj; cases hj
  obtain ⟨f0, f1⟩ := hflat_get hs (j / 2) (by omega)
  obtain ⟨c0, c1⟩ := hc (j / 2) (by omega)
  rw [Go.WideShapes.add_plain]
  rcases (show j = j / 2 * 2 ∨ j = j / 2 * 2 + 1 by omega) with e | e
  · rw [← e] at f0 c0
    rw [c0, ← f0]; exact hj
  · rw [← e] at f1
    rw [show off + j = off + j / 2 * 2 + 1 by omega, c1, ← f1]; exact hj

/-- Holds appended to a row of holds of the call's own. -/
theorem run_append_holds (w : World) (base ty : Nat) (v xv : Value) (n : Nat) (xs : List Value) (hs : List Pl.H) (hown : w.ownsRow base 29 2 v n xs) (hI : Holds w xv hs) (hb : n + hs.length ≤ 8388608) (hbase : base ≤ w.heap.size) :
    ∃ v' w', (Builtin.append_ #[23, 23] ty #[v, xv]).run Try.prog w = .ok v' w' ∧ w'.ownsRow base 29 2 v' (n + hs.length) (xs ++ hflat hs) ∧ w.grownBy w' v.ownBlock := by
  obtain ⟨i0, hi, hz0, hz1, hz2⟩ := info_parts infoHold
  rcases hI with ⟨rfl, ao, cap, rfl, hao⟩ | ⟨b, off, cap, rfl, hz, hc⟩
  · cases ao with
    | none =>
      obtain rfl := hao rfl
      exact ⟨v, w, run_append_owned_none w base 23 ty 29 i0 2 Try.underlying23 hi v n xs hown, by simpa [hflat] using hown, World.grownBy.refl _ _⟩
    | some a =>
      obtain ⟨v', w', h1, h2, h3, _⟩ := run_append_own (P := Try.prog) w base 23 ty 29 i0 (.agg #[.int .i64 0, .int .i64 0]) 2 16 Try.underlying23 hi hz0 hz1 hz2 rfl (by decide) v n xs hown a 0 cap [] rfl (fun j u h => by simp at h) (fun u h => by simp at h) (by unfold maxLen; omega) (by simp at hb; omega) hbase
      exact ⟨v', w', h1, by simpa [hflat] using h2, h3⟩
  · obtain ⟨v', w', h1, h2, h3, _⟩ := run_append_own (P := Try.prog) w base 23 ty 29 i0 (.agg #[.int .i64 0, .int .i64 0]) 2 16 Try.underlying23 hi hz0 hz1 hz2 rfl (by decide) v n xs hown ⟨b, off, none⟩ hs.length cap (hflat hs) (hflat_length hs) (hflat_cells hc) (hflat_one hs) (by unfold maxLen; omega) (by omega) hbase
    exact ⟨v', w', h1, h2, h3⟩

theorem step_append_holds {ops : Array Oper} {o : Oper} {a : Act} {w : World} {K : Act → World → Prop} {Q : Exit → Act → World → Prop} {E : Prop} (hgd : o.guard = none) (s x : Operand)
    (ho : o.op = .call { callee := .builtin .append, args := #[s, x], argTypes := #[23, 23] })
    (base : Nat) (v xv : Value) (n : Nat) (xs : List Value) (hs : List Pl.H) (he : a.eval s = v) (hx : a.eval x = xv) (hown : w.ownsRow base 29 2 v n xs) (hI : Holds w xv hs) (N : Nat) (hN : n + hs.length = N) (hpos : 0 < N) (hb : N ≤ 8388608) (hbase : base ≤ w.heap.size)
    (h : ∀ g cap w', w'.ownsRow base 29 2 (.slice (some ⟨g, 0, none⟩) N cap) N (xs ++ hflat hs) → w.grownBy w' v.ownBlock → K (a.put o.dst (.slice (some ⟨g, 0, none⟩) N cap)) w') :
    if Region.wanted o (yielded ops a.tmps) = true then Oper.wp Try.prog o a w K Q else E := by
  have hw : Region.wanted o (yielded ops a.tmps) = true := by simp [Region.wanted, hgd]
  rw [if_pos hw]
  obtain ⟨v', w', hrun, r1, r2⟩ := run_append_holds w base o.type v xv n xs hs hown hI (by omega) hbase
  rw [hN] at r1
  obtain ⟨g, cap, rfl⟩ : ∃ g cap, v' = .slice (some ⟨g, 0, none⟩) N cap := by
    rcases r1.2 with ⟨_, h0⟩ | ⟨g, cap, cur, hv, _⟩
    · omega
    · exact ⟨g, cap, hv⟩
  unfold Oper.wp
  simp [execOp, ho, resolve, invoke, builtin, he, hx, hrun, Result.andThen]
  exact h g cap w' r1 r2

theorem wpList_append_holds {ops : Array Oper} {rest : List Oper} {o : Oper} {a : Act} {w : World} {Q : Exit → Act → World → Prop} (hgd : o.guard = none) (s x : Operand)
    (ho : o.op = .call { callee := .builtin .append, args := #[s, x], argTypes := #[23, 23] })
    (base : Nat) (v xv : Value) (n : Nat) (xs : List Value) (hs : List Pl.H) (he : a.eval s = v) (hx : a.eval x = xv) (hown : w.ownsRow base 29 2 v n xs) (hI : Holds w xv hs) (N : Nat) (hN : n + hs.length = N) (hpos : 0 < N) (hb : N ≤ 8388608) (hbase : base ≤ w.heap.size)
    (h : ∀ g cap w', w'.ownsRow base 29 2 (.slice (some ⟨g, 0, none⟩) N cap) N (xs ++ hflat hs) → w.grownBy w' v.ownBlock → wpList Try.prog ops Q rest (a.put o.dst (.slice (some ⟨g, 0, none⟩) N cap)) w') :
    wpList Try.prog ops Q (o :: rest) a w := by
  refine wpList_plain hgd fun K hK' => ?_
  obtain ⟨v', w', hrun, r1, r2⟩ := run_append_holds w base o.type v xv n xs hs hown hI (by omega) hbase
  rw [hN] at r1
  obtain ⟨g, cap, rfl⟩ : ∃ g cap, v' = .slice (some ⟨g, 0, none⟩) N cap := by
    rcases r1.2 with ⟨_, h0⟩ | ⟨g, cap, cur, hv, _⟩
    · omega
    · exact ⟨g, cap, hv⟩
  unfold Oper.wp
  simp [execOp, ho, resolve, invoke, builtin, he, hx, hrun, Result.andThen]
  exact hK' _ _ (h g cap w' r1 r2)

/-- The two cells of a hold in a row of six. -/
theorem row_pair {w : World} {base g cap : Nat} {hs : List Pl.H} (h : w.ownsRow base 29 2 (.slice (some ⟨g, 0, none⟩) 6 cap) 6 (hflat hs)) (i : Nat) (hi : i < 6) :
    ∃ y0 y1, w.cell? ⟨g, i * 2, none⟩ = some y0 ∧ w.cell? ⟨g, i * 2 + 1, none⟩ = some y1 ∧ w.frozen? ⟨g, i * 2, none⟩ = false ∧ w.frozen? ⟨g, i * 2 + 1, none⟩ = false := by
  have cellEx : ∀ j, j < 6 * 2 → ∃ x, w.cell? ⟨g, j, none⟩ = some x := fun j hj => by
    have h1 := h.cellAt j hj
    have h2 : j < (hflat hs).length := by rw [h.1]; exact hj
    exact ⟨_, by rw [h1, List.getElem?_eq_getElem h2]⟩
  obtain ⟨y0, hy0⟩ := cellEx (i * 2) (by omega)
  obtain ⟨y1, hy1⟩ := cellEx (i * 2 + 1) (by omega)
  exact ⟨y0, y1, hy0, hy1, h.frozenAt _, h.frozenAt _⟩

/-- The two boxes and the answer's own, as a StockDo begins. -/
def BoxS (W : World) (B : Nat) (x y : Value) (k t : Int) (u : Value) : Prop :=
  Duo W B x y ∧ RecAt W (B + 1) k t u ∧ W.cell? ⟨B + 2, 0, none⟩ = some (.int .i64 0) ∧ W.cell? ⟨B + 2, 1, none⟩ = some (.slice none 0 0) ∧ W.frozen? ⟨B + 2, 0, none⟩ = false ∧ W.frozen? ⟨B + 2, 1, none⟩ = false
theorem BoxS.later {C : Nat} {W W' : World} {B : Nat} {x y : Value} {k t : Int} {u : Value} (h : BoxS W B x y k t u) (hb : Below C W W') (hC : B + 3 ≤ C) : BoxS W' B x y k t u := by
  obtain ⟨h1, h2, h3, h4, h5, h6⟩ := h
  refine ⟨⟨?_, ?_⟩, ⟨?_, ?_, ?_⟩, ?_, ?_, ?_, ?_⟩
  · rw [← h1.1]; exact hb.cell (p := ⟨B, 0, none⟩) (by simp; omega)
  · rw [← h1.2]; exact hb.cell (p := ⟨B, 1, none⟩) (by simp; omega)
  · rw [← h2.1]; exact hb.cell (p := ⟨B + 1, 0, none⟩) (by simp; omega)
  · rw [← h2.2.1]; exact hb.cell (p := ⟨B + 1, 1, none⟩) (by simp; omega)
  · rw [← h2.2.2]; exact hb.cell (p := ⟨B + 1, 2, none⟩) (by simp; omega)
  · rw [← h3]; exact hb.cell (p := ⟨B + 2, 0, none⟩) (by simp; omega)
  · rw [← h4]; exact hb.cell (p := ⟨B + 2, 1, none⟩) (by simp; omega)
  · rw [← h5]; exact hb.frozen (p := ⟨B + 2, 0, none⟩) (by simp; omega)
  · rw [← h6]; exact hb.frozen (p := ⟨B + 2, 1, none⟩) (by simp; omega)
theorem BoxS.new (w : World) (x y : Value) (k t : Int) (u : Value) (t1 t2 t3 : TypeId) : BoxS (((w.alloc (.cells #[x, y] t1)).alloc (.cells #[.int .i64 k, .int .i64 t, u] t2)).alloc (.cells #[.int .i64 0, .slice none 0 0] t3)) w.heap.size x y k t u := by
  refine ⟨⟨?_, ?_⟩, ⟨?_, ?_, ?_⟩, ?_, ?_, ?_, ?_⟩ <;> simp [go_sem]
theorem BoxS.lt {W : World} {B : Nat} {x y : Value} {k t : Int} {u : Value} (h : BoxS W B x y k t u) : B + 2 < W.heap.size := by simpa using World.block_lt_of_cell? _ _ h.2.2.1

theorem StOut.none_ {W w' : World} (hb : Below W.heap.size W w') : StOut W w' (.returned (.tuple #[.agg #[.int .i64 0, .slice none 0 0], .bool false])) 0 [] false := ⟨none, 0, rfl, World.ownsRow_nil _ _ _ _, hb⟩

theorem bcell2 {B : Nat} {W w1 : World} (hb : Below B W w1) : (∀ b o, b < B → w1.cell? ⟨b, o, none⟩ = W.cell? ⟨b, o, none⟩) ∧ (∀ b o, b < B → w1.frozen? ⟨b, o, none⟩ = W.frozen? ⟨b, o, none⟩) :=
  ⟨fun b o h => hb.cell (p := ⟨b, o, none⟩) h, fun b o h => hb.frozen (p := ⟨b, o, none⟩) h⟩

set_option maxHeartbeats 2000000 in
theorem l2Copy_any (room : Int) (v : Value) (hs : List Pl.H) (w : World) (hv : Holds w v hs) (hl : hs.length = 6) :
    Calls Try.prog 24 #[.agg #[.int .i64 room, v]] w fun e w' => ∃ g cap, e = .returned (.agg #[.int .i64 room, .slice (some ⟨g, 0, none⟩) 6 cap]) ∧
      w'.ownsRow (w.heap.size + 2) 29 2 (.slice (some ⟨g, 0, none⟩) 6 cap) 6 (hflat hs) ∧ Below w.heap.size w w' := by
  have HV : Hid (∀ W, Below w.heap.size w W → Holds W v hs) := fun W h => hv.later h (Nat.le_refl _)
  obtain ⟨av, cv, hvs⟩ := hv.shape
  rw [hl] at hvs
  clear hv
  subst hvs
  have HL := hide_it hl
  clear hl
  have DR : Hid (∀ W, Below (w.heap.size + 2) ((w.alloc (.cells #[.int .i64 room, .slice av 6 cv] 25)).alloc (.cells #[.int .i64 0, .slice none 0 0] 25)) W → W.cell? ⟨w.heap.size, 0, none⟩ = some (.int .i64 room) ∧ W.cell? ⟨w.heap.size, 1, none⟩ = some (.slice av 6 cv) ∧ W.cell? ⟨w.heap.size + 1, 0, none⟩ = some (.int .i64 0) ∧ W.cell? ⟨w.heap.size + 1, 1, none⟩ = some (.slice none 0 0) ∧ W.frozen? ⟨w.heap.size + 1, 0, none⟩ = false ∧ W.frozen? ⟨w.heap.size + 1, 1, none⟩ = false) := fun W h => by
    obtain ⟨hc, hf⟩ := bcell2 h
    refine ⟨?_, ?_, ?_, ?_, ?_, ?_⟩
    · rw [hc _ _ (by omega)]; simp [go_sem]
    · rw [hc _ _ (by omega)]; simp [go_sem]
    · rw [hc _ _ (by omega)]; simp [go_sem]
    · rw [hc _ _ (by omega)]; simp [go_sem]
    · rw [hf _ _ (by omega)]; simp [go_sem]
    · rw [hf _ _ (by omega)]; simp [go_sem]
  have AL : Hid (Below (w.heap.size + 2) ((w.alloc (.cells #[.int .i64 room, .slice av 6 cv] 25)).alloc (.cells #[.int .i64 0, .slice none 0 0] 25)) (((w.alloc (.cells #[.int .i64 room, .slice av 6 cv] 25)).alloc (.cells #[.int .i64 0, .slice none 0 0] 25)).drew.alloc (.cells #[] 29))) := (Below.refl _ _).drew.alloc (by simp) _
  have B2 : Hid (Below w.heap.size w (((w.alloc (.cells #[.int .i64 room, .slice av 6 cv] 25)).alloc (.cells #[.int .i64 0, .slice none 0 0] 25)).drew.alloc (.cells #[] 29))) := (below2 w _ _).trans (AL.out.mono (by omega))
  have ROW : Hid ((((w.alloc (.cells #[.int .i64 room, .slice av 6 cv] 25)).alloc (.cells #[.int .i64 0, .slice none 0 0] 25)).drew.alloc (.cells #[] 29)).ownsRow (w.heap.size + 2) 29 2 (.slice (some ⟨w.heap.size + 2, 0, none⟩) 0 0) 0 []) := by
    have h := World.ownsRow_lit (base := w.heap.size + 2) (e := 29) (size := 2) (((w.alloc (.cells #[.int .i64 room, .slice av 6 cv] 25)).alloc (.cells #[.int .i64 0, .slice none 0 0] 25)).drew) #[] 0 (by simp) (by unfold maxLen; omega) rfl
    have e : (((w.alloc (.cells #[.int .i64 room, .slice av 6 cv] 25)).alloc (.cells #[.int .i64 0, .slice none 0 0] 25)).drew).heap.size = w.heap.size + 2 := by simp
    rw [e] at h
    exact h
  go_enter Try.func24, Try.ntmps24
  go_wp2
  go_region_held_law (fun w' => w'.cell? ⟨w.heap.size, 0, none⟩ = some (.int .i64 room) ∧ w'.cell? ⟨w.heap.size, 1, none⟩ = some (.slice av 6 cv)) (go_keep)
    ((refine step_append_holds rfl _ _ rfl (w.heap.size + 2) (.slice (some ⟨w.heap.size + 2, 0, none⟩) 0 0) (.slice av 6 cv) 0 [] hs rfl rfl (by exact ROW.out) (by exact HV.out _ B2.out) 6 (by have := HL.out; omega) (by decide) (by decide) (by simp) ?_; intro g cap w1 hown hgrow; simp only [List.nil_append] at hown; have hb1 := AL.out.trans ((Below.refl (w.heap.size + 2) _).grown hgrow (by simp) (fun j hj => by simp [Value.ownBlock] at hj; omega)); obtain ⟨k0, k1, k2, k3, k4, k5⟩ := DR.out _ hb1; have HO := hide_it hown; have HB := hide_it ((below2 w _ _).trans (hb1.mono (by omega))); have hz1 : w.heap.size + 2 ≤ w1.heap.size := (by have := hb1.size; simp at this; omega); clear hown hgrow hb1))
  go_wp2
  refine bodyPost_ret (v := .agg #[.int .i64 room, .slice (some ⟨g, 0, none⟩) 6 cap]) (by simp [results, Try.results24, go_sem, k2, k3]) rfl ⟨g, cap, rfl, ?_, ?_⟩
  · exact ownsRow_setCell_below (ownsRow_setCell_below HO.out (by simp) _) (by simp) _
  · exact (HB.out.setCell (by simp) _).setCell (by simp) _

end Go.Proofs.Ytcofnjooiemkfab

namespace Go.Proofs.Ytcofnjooiemkfab
open Go.RowKit

theorem setCell_mid (W : World) (b o : Nat) (x : Value) : Mid b (b + 1) W (W.setCell ⟨b, o, none⟩ x) :=
  ⟨rfl, rfl, rfl, by simp, fun k hk hh => Below.heap_setCell _ _ _ _ (by simp; omega)⟩
theorem Mid.then_below {lo hi : Nat} {w a b : World} (h : Mid lo hi w a) (hb : Below w.heap.size a b) : Mid lo hi w b :=
  ⟨hb.os.trans h.os, hb.tape.trans h.tape, hb.output.trans h.output, Nat.le_trans h.size hb.size, fun k hk hh => (hb.block k hk).trans (h.block k hk hh)⟩

/-- What a record that may come makes of its trip's hold, kind by kind. -/
theorem next_some {h : Pl.H} {m s k z F : Int} (e : Pl.next (m, s) k z F = some h) : (k = 1 ∧ h = (z, 1)) ∨ (k = 2 ∧ h = (m, 2)) ∨ (k = 3 ∧ h = (m, 3)) := by
  by_cases k1 : k = 1
  · subst k1
    rw [next_1] at e
    split at e
    · exact Or.inl ⟨rfl, (by simpa using e.symm)⟩
    · cases e
  by_cases k2 : k = 2
  · subst k2
    rw [next_2] at e
    split at e
    · exact Or.inr (Or.inl ⟨rfl, (by simpa using e.symm)⟩)
    · cases e
  by_cases k3 : k = 3
  · subst k3
    rw [next_3] at e
    split at e
    · exact Or.inr (Or.inr ⟨rfl, (by simpa using e.symm)⟩)
    · cases e
  · rw [next_x _ _ _ _ k1 k2 k3] at e; cases e
theorem behind_parts {room : Int} {hs : List Pl.H} {k t : Int} {zs : List Int} {h : Pl.H} (e : Pl.behind room hs k t zs = some h) : Pl.sOk room hs = true ∧ Pl.recOk k t zs = true ∧ Pl.next (Pl.hAt hs t) k (zs.headD 0) (Pl.free room hs) = some h := by
  cases hok : Pl.sOk room hs
  · rw [Pl.behind_stock k t zs hok] at e; cases e
  cases hr : Pl.recOk k t zs
  · rw [Pl.behind_rec room hs hr] at e; cases e
  · rw [Pl.behind_ok hok hr] at e; exact ⟨rfl, rfl, e⟩

theorem below4' (w : World) (o1 o2 o3 o4 : Obj) : Below w.heap.size w ((((w.alloc o1).alloc o2).alloc o3).alloc o4) := (below3 w o1 o2 o3).alloc (by simp; omega) o4

set_option maxRecDepth 100000 in
set_option maxHeartbeats 4000000 in
theorem l2Do_any (room : Int) (g cap lo : Nat) (hs : List Pl.H) (k t : Int) (u : Value) (zs : List Int) (h : Pl.H) (w : World) (ho : w.ownsRow lo 29 2 (.slice (some ⟨g, 0, none⟩) 6 cap) 6 (hflat hs)) (hu : Ints w u zs) (hbh : Pl.behind room hs k t zs = some h) :
    Calls Try.prog 23 #[.agg #[.int .i64 room, .slice (some ⟨g, 0, none⟩) 6 cap], .agg #[.int .i64 k, .int .i64 t, u]] w fun e w' => e = .returned (.agg #[.int .i64 room, .slice (some ⟨g, 0, none⟩) 6 cap]) ∧ w'.ownsRow lo 29 2 (.slice (some ⟨g, 0, none⟩) 6 cap) 6 (hflat (hs.set (Pl.at_ t) h)) ∧ Mid g (g + 1) w w' := by
  obtain ⟨hok, hrec, hnx⟩ := behind_parts hbh
  obtain ⟨_, _, p3, _⟩ := Pl.sOk_parts hok
  obtain ⟨i, hi, rfl, hat⟩ := trip_at hrec
  rw [hat]
  obtain ⟨m, s, hms⟩ : ∃ m s, hs.getD i (0, 0) = (m, s) := ⟨_, _, rfl⟩
  have hms' : Pl.hAt hs ((i : Int) + 1) = (m, s) := by unfold Pl.hAt; rw [hat]; exact hms
  rw [hms'] at hnx
  have hgl := ho.lt g rfl
  obtain ⟨f0, f1⟩ := hflat_get hs i (by omega)
  rw [hms] at f0 f1
  have c0 : w.cell? ⟨g, i * 2, none⟩ = some (.int .i64 m) := by rw [ho.cellAt _ (by omega)]; exact f0
  have c1 : w.cell? ⟨g, i * 2 + 1, none⟩ = some (.int .i64 s) := by rw [ho.cellAt _ (by omega)]; exact f1
  have z0 := ho.frozenAt (i * 2)
  have z1 := ho.frozenAt (i * 2 + 1)
  have c30 : ∀ o1 o2 o3, (((w.alloc o1).alloc o2).alloc o3).cell? ⟨g, i * 2, none⟩ = some (.int .i64 m) := fun o1 o2 o3 => ((below3 w o1 o2 o3).cell (p := ⟨g, i * 2, none⟩) hgl.2).trans c0
  have c31 : ∀ o1 o2 o3, (((w.alloc o1).alloc o2).alloc o3).cell? ⟨g, i * 2 + 1, none⟩ = some (.int .i64 s) := fun o1 o2 o3 => ((below3 w o1 o2 o3).cell (p := ⟨g, i * 2 + 1, none⟩) hgl.2).trans c1
  have c40 : ∀ o1 o2 o3 o4, ((((w.alloc o1).alloc o2).alloc o3).alloc o4).cell? ⟨g, i * 2, none⟩ = some (.int .i64 m) := fun o1 o2 o3 o4 => ((below4' w o1 o2 o3 o4).cell (p := ⟨g, i * 2, none⟩) hgl.2).trans c0
  have c41 : ∀ o1 o2 o3 o4, ((((w.alloc o1).alloc o2).alloc o3).alloc o4).cell? ⟨g, i * 2 + 1, none⟩ = some (.int .i64 s) := fun o1 o2 o3 o4 => ((below4' w o1 o2 o3 o4).cell (p := ⟨g, i * 2 + 1, none⟩) hgl.2).trans c1
  have z40 : ∀ o1 o2 o3 o4, ((((w.alloc o1).alloc o2).alloc o3).alloc o4).frozen? ⟨g, i * 2, none⟩ = false := fun o1 o2 o3 o4 => ((below4' w o1 o2 o3 o4).frozen (p := ⟨g, i * 2, none⟩) hgl.2).trans z0
  have z41 : ∀ o1 o2 o3 o4, ((((w.alloc o1).alloc o2).alloc o3).alloc o4).frozen? ⟨g, i * 2 + 1, none⟩ = false := fun o1 o2 o3 o4 => ((below4' w o1 o2 o3 o4).frozen (p := ⟨g, i * 2 + 1, none⟩) hgl.2).trans z1
  have FIN : Hid (∀ o1 o2 o3 o4 x y, (((((((w.alloc o1).alloc o2).alloc o3).alloc o4).setCell ⟨g, i * 2, none⟩ (.int .i64 h.1)).setCell ⟨g, i * 2 + 1, none⟩ (.int .i64 h.2)).setCell ⟨w.heap.size + 1 + 1, 0, none⟩ x |>.setCell ⟨w.heap.size + 1 + 1, 1, none⟩ y).ownsRow lo 29 2 (.slice (some ⟨g, 0, none⟩) 6 cap) 6 (hflat (hs.set i h)) ∧ Mid g (g + 1) w (((((((w.alloc o1).alloc o2).alloc o3).alloc o4).setCell ⟨g, i * 2, none⟩ (.int .i64 h.1)).setCell ⟨g, i * 2 + 1, none⟩ (.int .i64 h.2)).setCell ⟨w.heap.size + 1 + 1, 0, none⟩ x |>.setCell ⟨w.heap.size + 1 + 1, 1, none⟩ y)) := fun o1 o2 o3 o4 x y => by
    have st := stored2 ((((ho.alloc o1).alloc o2).alloc o3).alloc o4) i (by omega) h
    refine ⟨ownsRow_mid (ownsRow_mid st.1 (setCell_mid _ _ _ _) ?_) (setCell_mid _ _ _ _) ?_, ?_⟩
    · intro j hj; simp [Value.ownBlock] at hj; omega
    · intro j hj; simp [Value.ownBlock] at hj; omega
    · have m1 : Mid g (g + 1) w _ := (Mid.of_below (below4' w o1 o2 o3 o4) (Nat.le_refl _)).trans (Mid.of_grown st.2 (fun j hj => by simp at hj; omega))
      exact m1.then_below (((Below.refl _ _).setCell (by simp; omega) _).setCell (by simp; omega) _)
  have hgn : ¬ g = w.heap.size + 1 + 1 := by omega
  have hgn0 : ¬ g = w.heap.size := by omega
  have hgn1 : ¬ g = w.heap.size + 1 := by omega
  have hgn3 : ¬ g = w.heap.size + 1 + 1 + 1 := by omega
  clear f0 f1 hok p3 hat hms hms' ho
  rcases next_some hnx with ⟨rfl, rfl⟩ | ⟨rfl, rfl⟩ | ⟨rfl, rfl⟩
  · obtain ⟨z, rfl, _, _⟩ := Pl.recOk_hold hrec
    rcases hu with ⟨h, _⟩ | ⟨b2, off2, cap2, rfl, hz2, hc2⟩
    · simp at h
    have d0 : w.cell? ⟨b2, off2, none⟩ = some (.int .i64 z) := hc2 0 (by simp)
    have hb2 : b2 < w.heap.size := World.block_lt_of_cell? _ _ d0
    have d4 : ∀ o1 o2 o3 o4, ((((w.alloc o1).alloc o2).alloc o3).alloc o4).cell? ⟨b2, off2, none⟩ = some (.int .i64 z) := fun o1 o2 o3 o4 => ((below4' w o1 o2 o3 o4).cell (p := ⟨b2, off2, none⟩) hb2).trans d0
    clear hc2 hz2 hrec hnx hbh
    go_enter Try.func23, Try.ntmps23
    go_wp2
    exact bodyPost_ret (v := .agg #[.int .i64 room, .slice (some ⟨g, 0, none⟩) 6 cap]) (by simp [results, Try.results23, go_sem]) rfl ⟨rfl, FIN.out _ _ _ _ _ _⟩
  · obtain ⟨au, cu, rfl⟩ := hu.shape
    clear hu hrec hnx hbh
    go_enter Try.func23, Try.ntmps23
    go_wp2
    exact bodyPost_ret (v := .agg #[.int .i64 room, .slice (some ⟨g, 0, none⟩) 6 cap]) (by simp [results, Try.results23, go_sem]) rfl ⟨rfl, FIN.out _ _ _ _ _ _⟩
  · obtain ⟨au, cu, rfl⟩ := hu.shape
    clear hu hrec hnx hbh
    go_enter Try.func23, Try.ntmps23
    go_wp2
    exact bodyPost_ret (v := .agg #[.int .i64 room, .slice (some ⟨g, 0, none⟩) 6 cap]) (by simp [results, Try.results23, go_sem]) rfl ⟨rfl, FIN.out _ _ _ _ _ _⟩

set_option maxRecDepth 100000 in
set_option maxHeartbeats 4000000 in
theorem specDo_any (room : Int) (v : Value) (hs : List Pl.H) (k t : Int) (u : Value) (zs : List Int) (w : World) (hv : Holds w v hs) (hl : hs.length ≤ 1048576) (hu : Ints w u zs) (hzl : zs.length ≤ 1048576) :
    Calls Try.prog 20 #[.agg #[.int .i64 room, v], .agg #[.int .i64 k, .int .i64 t, u]] w fun e w' => StOut w w' e (oR room (Pl.sDo room hs k t zs)) (oH (Pl.sDo room hs k t zs)) (Pl.sDo room hs k t zs).isSome := by
  have HM : Hid (∀ W, Below w.heap.size w W → Calls Try.prog 22 #[.agg #[.int .i64 room, v], .agg #[.int .i64 k, .int .i64 t, u]] W fun e w' => e = .returned (.bool (Pl.behind room hs k t zs).isSome) ∧ Below W.heap.size W w') := fun W h =>
    specMay_any room v hs k t u zs W (hv.later h (Nat.le_refl _)) hl (hu.later h (Nat.le_refl _)) hzl
  have HV : Hid (∀ W, Below w.heap.size w W → Holds W v hs) := fun W h => hv.later h (Nat.le_refl _)
  have HU : Hid (∀ W, Below w.heap.size w W → Ints W u zs) := fun W h => hu.later h (Nat.le_refl _)
  obtain ⟨av, cv, rfl⟩ := hv.shape
  obtain ⟨au, cu, rfl⟩ := hu.shape
  have BX := hide_it (BoxS.new w (.int .i64 room) (.slice av hs.length cv) k t (.slice au zs.length cu) 25 50 25)
  clear hv hu
  cases ho : Pl.behind room hs k t zs with
  | none =>
    have e : Pl.sDo room hs k t zs = none := by unfold Pl.sDo; rw [ho]; rfl
    rw [e]
    rw [ho] at HM
    go_enter Try.func20, Try.ntmps20
    go_wp2_with fail
    refine (HM.out _ (below3 w _ _ _)).mono ?_
    rintro e w1 ⟨rfl, hb1⟩
    have B1 := hide_it ((below3 w _ _ _).trans (hb1.mono (by simp; omega)))
    obtain ⟨_, _, q0, q1, f0, f1⟩ := BX.out.later hb1 (by simp)
    clear hb1
    go_wp2
    exact bodyPost_ret (v := .tuple #[.agg #[.int .i64 0, .slice none 0 0], .bool false]) (by simp [results, Try.results20, go_sem, q0, q1]) rfl (StOut.none_ ((B1.out.setCell (by simp; omega) _).setCell (by simp; omega) _))
  | some h =>
    have e : Pl.sDo room hs k t zs = some (hs.set (Pl.at_ t) h) := by unfold Pl.sDo; rw [ho]; rfl
    rw [e]
    obtain ⟨hok, hrec, _⟩ := behind_parts ho
    obtain ⟨_, _, p3, _⟩ := Pl.sOk_parts hok
    have P3 := hide_it p3
    have HBH := hide_it ho
    rw [ho] at HM
    rw [p3] at HM BX ⊢
    rw [p3] at HV
    have hlen : Hid ((hs.set (Pl.at_ t) h).length = 6) := by show _ = _; rw [List.length_set]; exact P3.out
    clear e ho hrec hok p3 hl
    go_enter Try.func20, Try.ntmps20
    go_wp2_with fail
    refine (HM.out _ (below3 w _ _ _)).mono ?_
    rintro e w1 ⟨rfl, hb1⟩
    have B1 := hide_it ((below3 w _ _ _).trans (hb1.mono (by simp; omega)))
    have BX1 := hide_it (BX.out.later hb1 (by simp))
    have hz1 : w.heap.size + 3 ≤ w1.heap.size := by have := hb1.size; simp at this; omega
    obtain ⟨⟨x0, x1⟩, ⟨r0, r1, r2⟩, q0, q1, f0, f1⟩ := BX1.out
    clear hb1
    go_wp2_with fail
    go_region_held (fun w' => w'.cell? ⟨w.heap.size, 0, none⟩ = some (.int .i64 room) ∧ w'.cell? ⟨w.heap.size, 1, none⟩ = some (.slice av 6 cv) ∧ w'.cell? ⟨w.heap.size + 1, 0, none⟩ = some (.int .i64 k) ∧ w'.cell? ⟨w.heap.size + 1, 1, none⟩ = some (.int .i64 t) ∧ w'.cell? ⟨w.heap.size + 1, 2, none⟩ = some (.slice au zs.length cu)) (first | (go_keep; done) | (refine ⟨?_, ?_, ?_, ?_, ?_⟩ <;> (rw [two_set_cells _ _ _ _ _ _ (by omega)]; assumption)))
      (first
      | (go_at_call 24; refine (l2Copy_any room _ hs _ (HV.out _ B1.out.drew) P3.out).mono ?_; rintro e w2 ⟨g, cap, rfl, ho2, hb2⟩; have O2 := hide_it ho2; have hg2 := ho2.lt g rfl; have B2 := hide_it (B1.out.drew.trans (hb2.mono B1.out.size)); have BX2 := hide_it ((BX1.out.later (Below.refl _ _).drew hz1).later hb2 (by exact hz1)); obtain ⟨⟨y0, y1⟩, ⟨s0, s1, s2⟩, _⟩ := BX2.out; clear hb2 ho2)
      | (go_at_call 23; refine (l2Do_any room g cap _ hs k t _ zs h _ O2.out (HU.out _ B2.out) HBH.out).mono ?_; rintro e w3 ⟨rfl, ho3, hM3⟩; have O3 := hide_it ho3; have hw1g : w1.heap.size + 2 ≤ g := hg2.1; have E3 := hide_it (hM3.below (B := w1.heap.size) (by omega) (by omega)); have B3 := hide_it (B2.out.trans (E3.out.mono B1.out.size)); have BX3 := hide_it (BX2.out.later E3.out hz1); obtain ⟨⟨o0, o1⟩, ⟨v0, v1, v2⟩, z0, z1, j0, j1⟩ := BX3.out; have hz3 := BX3.out.lt; clear ho3 hM3))
    go_wp2
    refine bodyPost_ret (v := .tuple #[.agg #[.int .i64 room, .slice (some ⟨g, 0, none⟩) 6 cap], .bool true]) (by simp [results, Try.results20, go_sem, z0, z1]) rfl ⟨some ⟨g, 0, none⟩, cap, ?_, ?_, ?_⟩
    · show _ = _
      simp only [oR, oH, Option.getD_some, Option.isSome_some, hlen.out]
    · simp only [oH, Option.getD_some, hlen.out]
      exact ownsRow_base (ownsRow_setCell_below (ownsRow_setCell_below O3.out (by show _ < w1.heap.size + 2; simp; omega) _) (by show _ < w1.heap.size + 2; simp; omega) _) (by show _ ≤ w1.heap.size + 2; omega)
    · exact (B3.out.setCell (by simp; omega) _).setCell (by simp; omega) _

end Go.Proofs.Ytcofnjooiemkfab

namespace Go.Proofs.Ytcofnjooiemkfab
open Go.RowKit

/-- A stock's own block. -/
def SB (W : World) (S : Nat) (x y : Value) : Prop := W.heap[S]? = some (.cells #[x, y] 25 (0, 0))
theorem SB.new (w : World) (x y : Value) : SB (w.alloc (.cells #[x, y] 25)) w.heap.size x y := heap_alloc_new w _
theorem SB.lt {w : World} {b : Nat} {x y : Value} (h : SB w b x y) : b < w.heap.size := by
  unfold SB at h
  by_cases e : b < w.heap.size
  · exact e
  · rw [Array.getElem?_eq_none (by omega)] at h; cases h
theorem SB.later {w w' : World} {b L : Nat} {x y : Value} (h : SB w b x y) (hb : Below L w w') (hL : b < L) : SB w' b x y := by
  unfold SB at *
  rw [hb.block b hL]; exact h
theorem SB.mid {w w' : World} {b l h' : Nat} {x y : Value} (h : SB w b x y) (hm : Mid l h' w w') (hb : b < l ∨ h' ≤ b) : SB w' b x y := by
  have := h.lt
  unfold SB at *
  rw [hm.block b this hb]; exact h
theorem SB.cells {w : World} {b : Nat} {x y : Value} (h : SB w b x y) : w.cell? ⟨b, 0, none⟩ = some x ∧ w.cell? ⟨b, 1, none⟩ = some y ∧ w.frozen? ⟨b, 0, none⟩ = false ∧ w.frozen? ⟨b, 1, none⟩ = false := by
  refine ⟨?_, ?_, frozen_of_row w _ _ _ _ h, frozen_of_row w _ _ _ _ h⟩
  · rw [cell_of_row w _ _ _ _ _ h]; rfl
  · rw [cell_of_row w _ _ _ _ _ h]; rfl
theorem SB.set {w : World} {b : Nat} {x y : Value} (h : SB w b x y) (x' y' : Value) : SB ((w.setCell ⟨b, 0, none⟩ x').setCell ⟨b, 1, none⟩ y') b x' y' := by
  have h2 := heap_setCell_same w b 0 _ _ x' h
  have h3 := heap_setCell_same _ b 1 _ _ y' h2
  unfold SB
  rw [h3]; rfl
theorem SB.other {w : World} {b c : Nat} {x y : Value} (h : SB w b x y) (hne : b ≠ c) (x' y' : Value) : SB ((w.setCell ⟨c, 0, none⟩ x').setCell ⟨c, 1, none⟩ y') b x y := by
  unfold SB at *
  rw [Below.heap_setCell _ _ _ _ hne, Below.heap_setCell _ _ _ _ hne]; exact h

theorem sRun_nil (room : Int) (hs : List Pl.H) : Pl.sRun room [] hs = some hs := rfl
theorem sRun_no (room : Int) (r : R) (t : List R) (hs : List Pl.H) (h : Pl.sDo room hs r.1 r.2.1 r.2.2 = none) : Pl.sRun room (r :: t) hs = none := by simp [Pl.sRun, h]
theorem sRun_yes (room : Int) (r : R) (t : List R) (hs hs' : List Pl.H) (h : Pl.sDo room hs r.1 r.2.1 r.2.2 = some hs') : Pl.sRun room (r :: t) hs = Pl.sRun room t hs' := by simp [Pl.sRun, h]
theorem drop_at {rs : List R} {k : Nat} {r : R} (h : rs[k]? = some r) : rs.drop k = r :: rs.drop (k + 1) := by
  have hk : k < rs.length := by
    by_cases e : k < rs.length
    · exact e
    · rw [List.getElem?_eq_none (by omega)] at h; cases h
  rw [List.getElem?_eq_getElem hk] at h
  simp only [Option.some.injEq] at h
  rw [List.drop_eq_getElem_cons hk, h]

theorem newO_no {room : Int} (h : Pl.inB room 0 9 = false) : newO room = none := by simp [newO, h]
theorem newO_yes {room : Int} (h : Pl.inB room 0 9 = true) : newO room = some Pl.noHolds := by simp [newO, h]
theorem sOf_no {room : Int} (rs : List R) (h : Pl.inB room 0 9 = false) : Pl.sOf room rs = none := by simp [Pl.sOf, h]
theorem sOf_yes {room : Int} (rs : List R) (h : Pl.inB room 0 9 = true) : Pl.sOf room rs = Pl.sRun room rs Pl.noHolds := by simp [Pl.sOf, h]

theorem row_g {w : World} {base n : Nat} {v : Value} {xs : List Value} (h : w.ownsRow base 29 2 v n xs) (hn : 0 < n) : ∃ g cap, v = .slice (some ⟨g, 0, none⟩) n cap := by
  rcases h.2 with ⟨_, h0⟩ | ⟨g, cap, cur, hv, _⟩
  · omega
  · exact ⟨g, cap, hv⟩

end Go.Proofs.Ytcofnjooiemkfab

namespace Go.Proofs.Ytcofnjooiemkfab
open Go.RowKit

theorem hOO_no {room : Int} {r : R} {t : List R} {hk : List Pl.H} (h : Pl.behind room hk r.1 r.2.1 r.2.2 = none) : Pl.sRun room (r :: t) hk = none :=
  sRun_no room r t hk (by unfold Pl.sDo; rw [h]; rfl)
theorem hOO_yes {room : Int} {r : R} {t : List R} {hk : List Pl.H} {h' : Pl.H} (h : Pl.behind room hk r.1 r.2.1 r.2.2 = some h') : Pl.sRun room (r :: t) hk = Pl.sRun room t (hk.set (Pl.at_ r.2.1) h') :=
  sRun_yes room r t hk _ (by unfold Pl.sDo; rw [h]; rfl)

set_option maxRecDepth 100000 in
set_option maxHeartbeats 8000000 in
theorem l2Of_any (room : Int) (v : Value) (rs : List R) (w : World) (hv : Recs w v rs) (hl : tot rs ≤ 1048576) :
    Calls Try.prog 21 #[.int .i64 room, v] w fun e w' => StOut w w' e (oR room (Pl.sOf room rs)) (oH (Pl.sOf room rs)) (Pl.sOf room rs).isSome := by
  have hlen := tot_len rs
  have HM : Hid (∀ r ∈ rs, r.2.2.length ≤ 1048576) := fun r hr => Nat.le_trans (tot_mem rs r hr) hl
  have HN := hide_it (specNew_any room)
  cases hr : Pl.inB room 0 9
  · rw [sOf_no rs hr]
    have HN0 : ∀ W, Calls Try.prog 19 #[.int .i64 room] W fun e w' => StOut W w' e 0 [] false := fun W => by
      have := HN.out W
      rw [newO_no hr] at this
      exact this
    have HN1 := hide_it HN0
    clear HN0 HN
    obtain ⟨ao, cap, rfl⟩ := hv.shape
    clear hv
    go_enter Try.func21, Try.ntmps21
    go_wp2_with fail
    refine (HN1.out _).mono ?_
    rintro e w1 ⟨a1, c1, rfl, ho1, hb1⟩
    have Z1 := hide_it ((SB.new w (.int .i64 0) (.slice none 0 0)).later hb1 (by simp))
    have B1 := hide_it ((al_below w _).trans (hb1.mono (by simp)))
    have hz1 := Z1.out.lt
    obtain ⟨z0, z1, z2, z3⟩ := Z1.out.cells
    have ZS := Z1.out.set (.int .i64 0) (.slice none 0 0)
    have ZT := ZS.later (al_below _ (.cells #[.int .i64 0, .slice a1 0 c1] 25)) ZS.lt
    have HZT := hide_it ZT.cells
    clear ho1 hb1 ZS ZT
    go_wp2
    obtain ⟨t0, t1, _, _⟩ := HZT.out
    refine bodyPost_ret (v := .tuple #[.agg #[.int .i64 0, .slice none 0 0], .bool false]) (by simp [results, Try.results21, go_sem, t0, t1]) rfl ?_
    exact StOut.none_ (((B1.out.setCell (by simp) _).setCell (by simp) _).alloc (by simp; exact B1.out.size) _)
  rw [sOf_yes rs hr]
  have HN0 : ∀ W, Calls Try.prog 19 #[.int .i64 room] W fun e w' => StOut W w' e room Pl.noHolds true := fun W => by
    have := HN.out W
    rw [newO_yes hr] at this
    exact this
  have HN1 := hide_it HN0
  clear HN0 HN
  obtain ⟨OO, hOO⟩ : ∃ o, Pl.sRun room rs Pl.noHolds = o := ⟨_, rfl⟩
  rw [hOO]
  have HOO := hide_it hOO
  have HR := hide_it hr
  have HC : Hid (∀ W, Below w.heap.size w W → ∀ i r, rs[i]? = some r → ∃ b off cap u, v = .slice (some ⟨b, off, none⟩) rs.length cap ∧ RecCells W b (off + i * 3) r u ∧ b < w.heap.size) := fun W h i r hri => by
    rcases hv with ⟨rfl, _⟩ | ⟨b, off, cap, hvv, _, hc⟩
    · simp at hri
    · obtain ⟨u, hu⟩ := hc i r hri
      exact ⟨b, off, cap, u, hvv, hu.later h (Nat.le_refl _), by simpa using World.block_lt_of_cell? _ _ hu.1⟩
  obtain ⟨av, cv, rfl⟩ := hv.shape
  clear hv hOO hr
  go_enter Try.func21, Try.ntmps21
  go_wp2_with fail
  refine (HN1.out _).mono ?_
  rintro e w1 ⟨a1, c1, rfl, ho1, hb1⟩
  have n6 : Pl.noHolds.length = 6 := rfl
  rw [n6] at ho1 ⊢
  obtain ⟨g, cg, hvg⟩ := row_g ho1 (by decide)
  rw [hvg] at ho1 ⊢
  have Z1 := hide_it ((SB.new w (.int .i64 0) (.slice none 0 0)).later hb1 (by simp))
  have B1 := hide_it ((al_below w _).trans (hb1.mono (by simp)))
  have hz1 := Z1.out.lt
  have ho1' : w1.ownsRow (w.heap.size + 1) 29 2 (.slice (some ⟨g, 0, none⟩) 6 cg) 6 (hflat Pl.noHolds) := by
    have h := ho1
    rw [World.size_alloc] at h
    exact h
  have hgl := ho1'.lt g rfl
  have O1 := hide_it (ho1'.alloc (.cells #[.int .i64 room, .slice (some ⟨g, 0, none⟩) 6 cg] 25))
  have Z2 := hide_it (Z1.out.later (al_below w1 (.cells #[.int .i64 room, .slice (some ⟨g, 0, none⟩) 6 cg] 25)) hz1)
  have S2 := hide_it (SB.new w1 (.int .i64 room) (.slice (some ⟨g, 0, none⟩) 6 cg))
  have B2 := hide_it (B1.out.alloc B1.out.size (.cells #[.int .i64 room, .slice (some ⟨g, 0, none⟩) 6 cg] 25))
  clear ho1 ho1' hb1 hvg
  go_wp2_with fail
  go_loopw [8] (fun i wr => ∃ (k : Nat) (hk : List Pl.H), k ≤ rs.length ∧ i = .int .i64 k ∧ Hid (Pl.sRun room (rs.drop k) hk = OO) ∧ Hid (Pl.sOk room hk = true) ∧ Hid (SB wr w1.heap.size (.int .i64 room) (.slice (some ⟨g, 0, none⟩) 6 cg)) ∧ Hid (SB wr w.heap.size (.int .i64 0) (.slice none 0 0)) ∧ Hid (wr.ownsRow (w.heap.size + 1) 29 2 (.slice (some ⟨g, 0, none⟩) 6 cg) 6 (hflat hk)) ∧ Hid (Below w.heap.size w wr)) (fun i _ => rs.length - (intOf i).toNat)
  case atStart => exact ⟨0, Pl.noHolds, Nat.zero_le _, rfl, HOO, Pl.new_ok room HR.out, S2, Z2, O1, B2⟩
  case round =>
    obtain ⟨k, hk, hkl, rfl, HRU, HOK, HS, HZ, HO, HB⟩ := hrel
    have P3 : Hid (hk.length = 6) := (Pl.sOk_parts HOK.out).2.2.1
    obtain ⟨s0, s1, s2, s3⟩ := HS.out.cells
    obtain ⟨z0, z1, z2, z3⟩ := HZ.out.cells
    have hsl := HS.out.lt
    have hzl := HZ.out.lt
    by_cases hlt : k < rs.length
    · obtain ⟨r, hri⟩ : ∃ r, Hid (rs[k]? = some r) := ⟨rs[k], by show _ = _; simp [hlt]⟩
      have hrl : r.2.2.length ≤ 1048576 := HM.out r (List.mem_of_getElem? hri.out)
      obtain ⟨b, off, cap, u, hvv, ⟨c0, c1', c2, hI⟩, hbw⟩ := HC.out wr HB.out k r hri.out
      simp only [Value.slice.injEq] at hvv
      obtain ⟨rfl, -, rfl⟩ := hvv
      obtain ⟨au, cu, hus⟩ := hI.shape
      subst hus
      have HI : Hid (∀ W, Below wr.heap.size wr W → Ints W (.slice au r.2.2.length cu) r.2.2) := fun W h => hI.later h (Nat.le_refl _)
      have HH : Hid (∀ W, Below wr.heap.size wr W → Holds W (.slice (some ⟨g, 0, none⟩) 6 cg) hk) := fun W h => by
        have h6 := HO.out
        rw [← P3.out] at h6
        have := (holds_of_row h6).later h (Nat.le_refl _)
        rw [P3.out] at this
        exact this
      have HRC : Hid (∀ W, Below wr.heap.size wr W → W.cell? ⟨b, off + k * 3, none⟩ = some (.int .i64 r.1) ∧ W.cell? ⟨b, off + k * 3 + 1, none⟩ = some (.int .i64 r.2.1) ∧ W.cell? ⟨b, off + k * 3 + 2, none⟩ = some (.slice au r.2.2.length cu)) := fun W h => by
        have hbr : b < wr.heap.size := Nat.lt_of_lt_of_le hbw HB.out.size
        exact ⟨(h.cell (p := ⟨b, off + k * 3, none⟩) hbr).trans c0, (h.cell (p := ⟨b, off + k * 3 + 1, none⟩) hbr).trans c1', (h.cell (p := ⟨b, off + k * 3 + 2, none⟩) hbr).trans c2⟩
      have HRU2 := hide_it HRU.out
      rw [drop_at hri.out] at HRU2
      have hkI : (k : Int) < (rs.length : Int) := by omega
      clear hI
      obtain ⟨o, ho⟩ : ∃ o, Pl.behind room hk r.1 r.2.1 r.2.2 = o := ⟨_, rfl⟩
      have HO2 := hide_it ho
      clear ho
      go_wp2_with fail
      go_cut [37] (fun b W => b = .bool (!o.isSome) ∧ Hid (Below wr.heap.size wr W))
      case first =>
        cases hrec : Pl.recOk r.1 r.2.1 r.2.2
        · have hon : o = none := by rw [← HO2.out]; exact Pl.behind_rec room hk hrec
          subst hon
          first | (go_region_with (go_at_call 25; refine (specOk_any r.1 r.2.1 _ r.2.2 _ (HI.out _ (Below.refl _ _).drew) hrl).mono ?_; rintro e w3 ⟨rfl, hb3⟩; rw [hrec]; have N3 := hide_it ((Below.refl wr.heap.size wr).drew.trans hb3); obtain ⟨d0, d1, d2⟩ := HRC.out _ N3.out; clear hb3)) | fail
          all_goals
            go_wp2_with fail
            go_meet
            case rel => exact ⟨rfl, N3⟩
        · have HMAY : Hid (∀ W, Below wr.heap.size wr W → Calls Try.prog 26 #[.agg #[.int .i64 room, .slice (some ⟨g, 0, none⟩) 6 cg], .agg #[.int .i64 r.1, .int .i64 r.2.1, .slice au r.2.2.length cu]] W fun e w' => e = .returned (.bool o.isSome) ∧ Below W.heap.size W w') := fun W h => by
            have := l2May_any room _ hk r.1 r.2.1 _ r.2.2 W (HH.out W h) (HI.out W h) HOK.out hrec
            rw [← Pl.behind_ok HOK.out hrec, HO2.out] at this
            exact this
          first | (go_region_with (first
            | (go_at_call 25; refine (specOk_any r.1 r.2.1 _ r.2.2 _ (HI.out _ (Below.refl _ _).drew) hrl).mono ?_; rintro e w3 ⟨rfl, hb3⟩; rw [hrec]; have N3 := hide_it ((Below.refl wr.heap.size wr).drew.trans hb3); obtain ⟨d0, d1, d2⟩ := HRC.out _ N3.out; have S3 := hide_it (HS.out.later N3.out hsl); obtain ⟨e0, e1, _, _⟩ := S3.out.cells; clear hb3)
            | (go_at_call 26; refine (HMAY.out _ N3.out).mono ?_; rintro e w4 ⟨rfl, hb4⟩; have N4 := hide_it (N3.out.trans (hb4.mono N3.out.size)); clear hb4))) | fail
          all_goals
            go_wp2_with fail
            go_meet
            case rel => exact ⟨by first | rfl | simp, N4⟩
      case rest =>
        obtain ⟨rfl, N4⟩ := hcut
        have S4 := hide_it (HS.out.later N4.out hsl)
        have Z4 := hide_it (HZ.out.later N4.out hzl)
        have O4 := hide_it (ownsRow_below HO.out N4.out (fun j hj => (HO.out.lt j hj).2))
        have B4 := hide_it (HB.out.trans (N4.out.mono HB.out.size))
        have hsl4 := S4.out.lt
        have hzl4 := Z4.out.lt
        clear s0 s1 s2 s3 z0 z1 z2 z3 c0 c1' c2
        obtain ⟨s0, s1, s2, s3⟩ := S4.out.cells
        obtain ⟨z0, z1, z2, z3⟩ := Z4.out.cells
        obtain ⟨c0, c1', c2⟩ := HRC.out _ N4.out
        cases o with
        | none =>
          have HE : Hid (OO = none) := by show _ = _; rw [← HRU2.out]; exact hOO_no HO2.out
          go_wp2
          rw [HE.out]
          refine bodyPost_ret (v := .tuple #[.agg #[.int .i64 0, .slice none 0 0], .bool false]) (by simp [results, Try.results21, go_sem, z0, z1]) rfl ?_
          exact StOut.none_ ((B4.out.setCell (by simp) _).setCell (by simp) _)
        | some h' =>
          have HRU3 : Hid (Pl.sRun room (rs.drop (k + 1)) (hk.set (Pl.at_ r.2.1) h') = OO) := by show _ = _; rw [← HRU2.out]; exact (hOO_yes HO2.out).symm
          have HOK3 : Hid (Pl.sOk room (hk.set (Pl.at_ r.2.1) h') = true) := Pl.behind_keeps HO2.out
          go_wp2_with fail
          first | (go_region_held (fun w' => w'.cell? ⟨w1.heap.size, 0, none⟩ = some (.int .i64 room) ∧ w'.cell? ⟨w1.heap.size, 1, none⟩ = some (.slice (some ⟨g, 0, none⟩) 6 cg) ∧ w'.cell? ⟨b, off + k * 3, none⟩ = some (.int .i64 r.1) ∧ w'.cell? ⟨b, off + k * 3 + 1, none⟩ = some (.int .i64 r.2.1) ∧ w'.cell? ⟨b, off + k * 3 + 2, none⟩ = some (.slice au r.2.2.length cu)) (first | (go_keep; done) | exact KP.out)
            ((go_at_call 23; refine (l2Do_any room g cg _ hk r.1 r.2.1 _ r.2.2 h' _ (ownsRow_below O4.out (Below.refl _ _).drew (fun j hj => (O4.out.lt j hj).2)) (HI.out _ N4.out.drew) HO2.out).mono ?_; rintro e w5 ⟨rfl, ho5, hM5⟩; have hM5' := hide_it ((Mid.of_below (Below.refl wc.heap.size wc).drew (Nat.le_refl _)).trans hM5); have E5 := hide_it (hM5'.out.below (B := w.heap.size) (by omega) B4.out.size); have S5 := hide_it (S4.out.mid hM5'.out (Or.inr (by omega))); have Z5 := hide_it (Z4.out.mid hM5'.out (Or.inl (by omega))); have B5 := hide_it (B4.out.trans E5.out); obtain ⟨x0, x1, x2, x3⟩ := S5.out.cells; have y0 := (E5.out.cell (p := ⟨b, off + k * 3, none⟩) hbw).trans c0; have y1 := (E5.out.cell (p := ⟨b, off + k * 3 + 1, none⟩) hbw).trans c1'; have y2 := (E5.out.cell (p := ⟨b, off + k * 3 + 2, none⟩) hbw).trans c2; have S6 := hide_it (S5.out.set (.int .i64 room) (.slice (some ⟨g, 0, none⟩) 6 cg)); have Z6 := hide_it (Z5.out.other (c := w1.heap.size) (by omega) (.int .i64 room) (.slice (some ⟨g, 0, none⟩) 6 cg)); have O6 := hide_it (ownsRow_mid (ownsRow_mid ho5 (setCell_mid _ w1.heap.size 0 (.int .i64 room)) (fun j hj => by simp [Value.ownBlock] at hj; omega)) (setCell_mid _ w1.heap.size 1 (.slice (some ⟨g, 0, none⟩) 6 cg)) (fun j hj => by simp [Value.ownBlock] at hj; omega)); have KP := hide_it (And.intro S6.out.cells.1 (And.intro S6.out.cells.2.1 (And.intro ((two_set_cells w5 w1.heap.size (.int .i64 room) (.slice (some ⟨g, 0, none⟩) 6 cg) b (off + k * 3) (by omega)).trans y0) (And.intro ((two_set_cells w5 w1.heap.size (.int .i64 room) (.slice (some ⟨g, 0, none⟩) 6 cg) b (off + k * 3 + 1) (by omega)).trans y1) ((two_set_cells w5 w1.heap.size (.int .i64 room) (.slice (some ⟨g, 0, none⟩) 6 cg) b (off + k * 3 + 2) (by omega)).trans y2))))); clear ho5 hM5))) | fail
          go_wp2
          go_roundw
          case rel => exact ⟨k + 1, _, by omega, by go_num, HRU3, HOK3, S6, Z6, O6, (B5.out.setCell (by simp; omega) _).setCell (by simp; omega) _⟩
          case measure => simp [intOf]; omega
    · have HE : Hid (OO = some hk) := by
        show _ = _
        have hke : k = rs.length := by omega
        rw [← HRU.out, hke, List.drop_length]
        rfl
      go_wp2
      rw [HE.out]
      refine bodyPost_ret (v := .tuple #[.agg #[.int .i64 room, .slice (some ⟨g, 0, none⟩) 6 cg], .bool true]) (by simp [results, Try.results21, go_sem, z0, z1]) rfl ⟨some ⟨g, 0, none⟩, cg, ?_, ?_, ?_⟩
      · show _ = _
        simp only [oR, oH, Option.getD_some, Option.isSome_some, P3.out]
      · simp only [oH, Option.getD_some, P3.out]
        exact ownsRow_base (ownsRow_setCell_below (ownsRow_setCell_below HO.out (by simp) _) (by simp) _) (by omega)
      · exact (HB.out.setCell (by simp) _).setCell (by simp) _

end Go.Proofs.Ytcofnjooiemkfab

namespace Go.Proofs.Ytcofnjooiemkfab

namespace Pl
theorem sRun_snoc (room : Int) (rs : List (Int × Int × List Int)) (r : Int × Int × List Int) (hs : List H) : sRun room (rs ++ [r]) hs = (sRun room rs hs).bind fun h => sDo room h r.1 r.2.1 r.2.2 := by
  induction rs generalizing hs with
  | nil => simp [sRun]; cases sDo room hs r.1 r.2.1 r.2.2 <;> rfl
  | cons x t ih =>
    simp only [List.cons_append, sRun]
    cases sDo room hs x.1 x.2.1 x.2.2 with
    | none => rfl
    | some h => exact ih h
theorem sRun_len {room : Int} : ∀ (rs : List (Int × Int × List Int)) {hs hs' : List H}, sRun room rs hs = some hs' → hs'.length = hs.length
  | [], _, _, h => by simp [sRun] at h; rw [h]
  | r :: t, hs, hs', h => by
    simp only [sRun] at h
    cases e : sDo room hs r.1 r.2.1 r.2.2 with
    | none => rw [e] at h; cases h
    | some h1 => rw [e] at h; rw [sRun_len t h, sDo_len e]
theorem sRun_ok {room : Int} : ∀ (rs : List (Int × Int × List Int)) {hs hs' : List H}, sOk room hs = true → sRun room rs hs = some hs' → sOk room hs' = true
  | [], _, _, h0, h => by simp [sRun] at h; rw [← h]; exact h0
  | r :: t, hs, hs', _, h => by
    simp only [sRun] at h
    cases e : sDo room hs r.1 r.2.1 r.2.2 with
    | none => rw [e] at h; cases h
    | some h1 => rw [e] at h; exact sRun_ok t (sDo_keeps e) h
theorem sRun_take {room : Int} : ∀ (rs : List (Int × Int × List Int)) (n : Nat) {hs hs' : List H}, sRun room rs hs = some hs' → ∃ h1, sRun room (rs.take n) hs = some h1
  | [], n, hs, hs', h => ⟨hs', by simpa using h⟩
  | r :: t, 0, hs, _, _ => ⟨hs, by simp [sRun]⟩
  | r :: t, n + 1, hs, hs', h => by
    simp only [sRun] at h
    simp only [List.take_succ_cons, sRun]
    cases e : sDo room hs r.1 r.2.1 r.2.2 with
    | none => rw [e] at h; cases h
    | some h1 => rw [e] at h; exact sRun_take t n h
theorem sOf_run {room : Int} {rs : List (Int × Int × List Int)} {hs : List H} (h : sOf room rs = some hs) : inB room 0 9 = true ∧ sRun room rs noHolds = some hs := by
  unfold sOf at h
  by_cases hr : inB room 0 9 = true
  · rw [if_pos hr] at h; exact ⟨hr, h⟩
  · rw [if_neg hr] at h; cases h
theorem sOf_ok {room : Int} {rs : List (Int × Int × List Int)} {hs : List H} (h : sOf room rs = some hs) : sOk room hs = true ∧ hs.length = 6 := by
  obtain ⟨h1, h2⟩ := sOf_run h
  exact ⟨sRun_ok rs (new_ok room h1) h2, by rw [sRun_len rs h2]; rfl⟩
theorem sOf_take {room : Int} {rs : List (Int × Int × List Int)} {hs : List H} (n : Nat) (h : sOf room rs = some hs) : ∃ h1, sOf room (rs.take n) = some h1 := by
  obtain ⟨h1, h2⟩ := sOf_run h
  obtain ⟨h3, h4⟩ := sRun_take rs n h2
  exact ⟨h3, by unfold sOf; rw [if_pos h1]; exact h4⟩
theorem sOf_snoc {room : Int} {rs : List (Int × Int × List Int)} {hs : List H} (r : Int × Int × List Int) (h : sOf room rs = some hs) : sOf room (rs ++ [r]) = sDo room hs r.1 r.2.1 r.2.2 := by
  obtain ⟨h1, h2⟩ := sOf_run h
  unfold sOf
  rw [if_pos h1, sRun_snoc, h2]
  rfl
theorem oH_len {room : Int} (rs : List (Int × Int × List Int)) : ((sOf room rs).getD []).length ≤ 6 := by
  cases h : sOf room rs with
  | none => simp
  | some hs => simp [(sOf_ok h).2]
end Pl

end Go.Proofs.Ytcofnjooiemkfab

namespace Go.Proofs.Ytcofnjooiemkfab
open Go.RowKit

/-- While records of a house are drawn: the stock's block, its holds, the records so far, the reader. -/
structure StS (w W : World) (b q S : Nat) (room : Int) (u : Value) (hs : List Pl.H) (o : Value) (ps : List (R × Value)) : Prop where
  stk : W.heap[S]? = some (.cells #[.int .i64 room, u] 25 (0, 0))
  new : w.heap.size ≤ S
  hol : W.ownsRow w.heap.size 29 2 u hs.length (hflat hs)
  row : W.ownsRow w.heap.size 50 3 o ps.length (flat ps)
  all : ∀ p ∈ ps, Good W w.heap.size p
  rd : Rd W b q
  mid : Mid b (b + 1) w W
  low : b < w.heap.size

theorem StS.step {w W W' : World} {b q q' S : Nat} {room : Int} {u : Value} {hs : List Pl.H} {o : Value} {ps : List (R × Value)} (h : StS w W b q S room u hs o ps) (hb : Mid b (b + 1) W W') (hr : Rd W' b q') : StS w W' b q' S room u hs o ps :=
  ⟨rowS_mid h.stk hb (by have := h.new; have := h.low; omega), h.new,
    ownsRow_mid h.hol hb (fun k hk => Or.inr (by have := (rowB_at h.hol k hk).1; have := h.low; omega)),
    ownsRow_mid h.row hb (fun k hk => Or.inr (by have := (rowB_at h.row k hk).1; have := h.low; omega)),
    fun p hp => (h.all p hp).step h.rd hb, hr, h.mid.trans hb, h.low⟩
theorem StS.later {w W W' : World} {b q S : Nat} {room : Int} {u : Value} {hs : List Pl.H} {o : Value} {ps : List (R × Value)} (h : StS w W b q S room u hs o ps) (hb : Below W.heap.size W W') : StS w W' b q S room u hs o ps :=
  h.step (Mid.of_below hb (Nat.le_refl _)) (h.rd.later hb (Nat.le_refl _))
theorem StS.cells {w W : World} {b q S : Nat} {room : Int} {u : Value} {hs : List Pl.H} {o : Value} {ps : List (R × Value)} (h : StS w W b q S room u hs o ps) :
    W.cell? ⟨S, 0, none⟩ = some (.int .i64 room) ∧ W.cell? ⟨S, 1, none⟩ = some u ∧ W.frozen? ⟨S, 0, none⟩ = false ∧ W.frozen? ⟨S, 1, none⟩ = false ∧ S < W.heap.size := by
  refine ⟨?_, ?_, frozen_of_row W _ _ _ _ h.stk, frozen_of_row W _ _ _ _ h.stk, heap_lt h.stk⟩
  · rw [cell_of_row W _ _ _ _ _ h.stk]; rfl
  · rw [cell_of_row W _ _ _ _ _ h.stk]; rfl
/-- The stock is given another row of holds. -/
theorem StS.setS {w W : World} {b q S : Nat} {room : Int} {u u' : Value} {hs hs' : List Pl.H} {o : Value} {ps : List (R × Value)} (h : StS w W b q S room u hs o ps) (hu : W.ownsRow w.heap.size 29 2 u' hs'.length (hflat hs')) :
    StS w ((W.setCell ⟨S, 0, none⟩ (.int .i64 room)).setCell ⟨S, 1, none⟩ u') b q S room u' hs' o ps := by
  have hn := h.new
  have hl := h.low
  have s1 := heap_setCell_same W S 0 _ _ (.int .i64 room) h.stk
  have s2 := heap_setCell_same (W.setCell ⟨S, 0, none⟩ (.int .i64 room)) S 1 _ _ u' s1
  have a1 : ∀ {e : TypeId} {size : Nat} {v : Value} {n : Nat} {xs : List Value}, e ≠ 25 → W.ownsRow w.heap.size e size v n xs → ((W.setCell ⟨S, 0, none⟩ (.int .i64 room)).setCell ⟨S, 1, none⟩ u').ownsRow w.heap.size e size v n xs := fun he hr =>
    ownsRow_setCell_ne (ownsRow_setCell_ne hr (fun g hg => by obtain ⟨cs, hh⟩ := (rowB_at hr g hg).2; exact ne_of_type hh h.stk he) _) (fun g hg => by obtain ⟨cs, hh⟩ := (rowB_at hr g hg).2; exact ne_of_type hh h.stk he) _
  refine ⟨by rw [s2]; simp, hn, a1 (by decide) hu, a1 (by decide) h.row, ?_, (h.rd.setApart (by omega) _).setApart (by omega) _, (h.mid.setNew (by omega) _).setNew (by omega) _, hl⟩
  intro p hp
  exact ((h.all p hp).keep fun g cs hh => Below.heap_setCell _ _ _ _ (ne_of_type hh h.stk (by decide))).keep fun g cs hh => Below.heap_setCell _ _ _ _ (ne_of_type hh s1 (by decide))
/-- One record more. -/
theorem StS.push {w W w4 : World} {b q S : Nat} {room : Int} {u : Value} {hs : List Pl.H} {o o' : Value} {ps : List (R × Value)} {r : R} {x : Value} (h : StS w W b q S room u hs o ps) (hg : Good W w.heap.size (r, x))
    (hown : w4.ownsRow w.heap.size 50 3 o' (ps.length + 1) (flat ps ++ [.int .i64 r.1, .int .i64 r.2.1, x])) (hgr : W.grownBy w4 o.ownBlock) : StS w w4 b q S room u hs o' (ps ++ [(r, x)]) := by
  have hn := h.new
  have hl := h.low
  have hblk : ∀ k, k < W.heap.size → (∀ cs, W.heap[k]? ≠ some (.cells cs 50 (0, 0))) → w4.heap[k]? = W.heap[k]? := fun k hk hn => hgr.block k hk (fun e => by
    obtain ⟨cs, hh⟩ := (rowB_at h.row k e.symm).2
    exact hn cs hh)
  have hlow : ∀ k, k < w.heap.size → w4.heap[k]? = W.heap[k]? := fun k hk => hgr.block k (by have := heap_lt h.stk; omega) (fun e => by have := (rowB_at h.row k e.symm).1; omega)
  have hrd : Rd w4 b q := by
    obtain ⟨y, n, hn, h1, h2⟩ := h.rd
    exact ⟨y, n, hn, by rw [hlow b hl]; exact h1, h2.mid (fun k hk => hlow k (by omega))⟩
  have hmid : Mid b (b + 1) w w4 := ⟨hgr.os.trans h.mid.os, hgr.tape.trans h.mid.tape, hgr.output.trans h.mid.output, Nat.le_trans h.mid.size hgr.size, fun k hk hh => (hlow k hk).trans (h.mid.block k hk hh)⟩
  refine ⟨by rw [hblk S (heap_lt h.stk) (fun cs e => by rw [h.stk] at e; simp at e)]; exact h.stk, hn, ?_, ?_, ?_, hrd, hmid, hl⟩
  · obtain ⟨h1, h2⟩ := h.hol
    refine ⟨h1, ?_⟩
    rcases h2 with h2 | ⟨g, cap, cur, hv, hg, hh, r⟩
    · exact Or.inl h2
    · exact Or.inr ⟨g, cap, cur, hv, hg, by rw [hblk g (heap_lt hh) (fun cs e => by rw [hh] at e; simp at e)]; exact hh, r⟩
  · rw [flat_append, List.length_append]; exact hown
  · intro p hp
    have hgood : Good W w.heap.size p := by
      rcases List.mem_append.1 hp with hp | hp
      · exact h.all p hp
      · simp at hp; subst hp; exact hg
    exact hgood.keep fun g cs hh => hblk g (heap_lt hh) (fun cs' e => by rw [hh] at e; simp at e)

end Go.Proofs.Ytcofnjooiemkfab

namespace Go.Proofs.Ytcofnjooiemkfab
open Go.RowKit

/-- What comes out of the draw: a room, and records that a stock of that room takes, in memory of the draw's own. -/
def RecsGot (w w' : World) (e : Ending) (b p : Nat) : Prop :=
  ∃ (room : Int) (o : Value) (ps : List (R × Value)) (hs : List Pl.H) (q : Nat), e = .returned (.tuple #[.int .i64 room, o]) ∧ 0 ≤ room ∧ room ≤ 7 ∧ ps.length ≤ 13 ∧
    w'.ownsRow w.heap.size 50 3 o ps.length (flat ps) ∧ (∀ x ∈ ps, Good w' w.heap.size x) ∧ Pl.sRun room (ps.map (·.1)) Pl.noHolds = some hs ∧ q ≤ p + 60 ∧ Rd w' b q ∧ Mid b (b + 1) w w'

theorem oH_some (hs : List Pl.H) : oH (some hs) = hs := rfl
theorem new_some {room : Int} (h0 : 0 ≤ room) (h7 : room ≤ 7) : newO room = some Pl.noHolds := by simp [newO, Pl.inB_mk h0 (show room ≤ 9 by omega)]

/-- A store into the record's own block leaves all else. -/
theorem StS.setX {w W : World} {b q S X i : Nat} {cs : Array Value} {room : Int} {u : Value} {hs : List Pl.H} {o : Value} {ps : List (R × Value)} (h : StS w W b q S room u hs o ps) (hX : W.heap[X]? = some (.cells cs 50 (0, 0))) (hw : w.heap.size ≤ X) (hO : ∀ g, o.ownBlock = some g → g < X) (x : Value) : StS w (W.setCell ⟨X, i, none⟩ x) b q S room u hs o ps := by
  have hl := h.low
  refine ⟨by rw [Below.heap_setCell _ _ _ _ (ne_of_type h.stk hX (by decide))]; exact h.stk, h.new, ?_, ?_, ?_, h.rd.setApart (by omega) _, h.mid.setNew hw _, hl⟩
  · exact ownsRow_setCell_ne h.hol (fun g hg => by obtain ⟨cs, hh⟩ := (rowB_at h.hol g hg).2; exact ne_of_type hh hX (by decide)) _
  · exact ownsRow_setCell_ne h.row (fun g hg => by have := hO g hg; simp; omega) _
  · exact fun p hp => (h.all p hp).keep fun g cs hh => Below.heap_setCell _ _ _ _ (ne_of_type hh hX (by decide))

theorem StS.ob {w W : World} {b q S : Nat} {room : Int} {u : Value} {hs : List Pl.H} {o : Value} {ps : List (R × Value)} (h : StS w W b q S room u hs o ps) : ∀ g, o.ownBlock = some g → g < W.heap.size := fun g hg => by
  obtain ⟨cs, hh⟩ := (rowB_at h.row g hg).2; exact heap_lt hh

set_option maxRecDepth 100000 in
set_option maxHeartbeats 8000000 in
theorem recs_draw (b p : Nat) (w : World) (h : Rd w b p) (hp : p ≤ 700000) :
    Calls Try.prog 16 #[.pointer (some ⟨b, 0, none⟩)] w fun e w' => RecsGot w w' e b p := by
  obtain ⟨i0, hi, hz0, hz1, hz2⟩ := info_parts infoRec
  have hblt := h.lt
  have R0 := hide_it h
  clear h
  go_enter Try.func16, Try.ntmps16
  go_wp2_with fail
  refine (pick_any b p 8 _ R0.out (by omega) (by omega) (by omega)).mono ?_
  rintro e w1 ⟨room, rfl, lr, ur, r1, m1⟩
  have R1 := hide_it r1
  have M1 := hide_it m1
  clear r1 m1
  have HNW : Hid (∀ W, Calls Try.prog 19 #[.int .i64 room] W fun e w' => StOut W w' e room Pl.noHolds true) := fun W => by
    have := specNew_any room W
    rw [new_some lr (by omega)] at this
    exact this
  go_wp2_with fail
  refine (HNW.out _).mono ?_
  rintro e w3 ⟨ao, cap, rfl, ho3, hb3⟩
  have e6 : Pl.noHolds.length = 6 := rfl
  rw [e6] at ho3 ⊢
  clear e6
  obtain ⟨G, hG⟩ : ∃ G, Hid (G = w1.heap.size) := ⟨_, rfl⟩
  obtain ⟨S, hS⟩ : ∃ S, Hid (S = w3.heap.size) := ⟨_, rfl⟩
  obtain ⟨w4, hw4⟩ : ∃ W, Hid (W = w3.alloc (.cells #[.int .i64 room, .slice ao 6 cap] 25)) := ⟨_, rfl⟩
  have T4 : Hid (StS w w4 b (p + 1) S room (.slice ao 6 cap) Pl.noHolds (.slice (some ⟨G, 0, none⟩) 0 0) []) := by
    show StS _ _ _ _ _ _ _ _ _ _
    have hs1 : w.heap.size ≤ w1.heap.size := M1.out.size
    have hs3 := hb3.size
    simp at hs3
    have hg3 : w3.heap[G]? = some (.cells #[] 50 (0, 0)) := by rw [hG.out]; exact rowS_later (heap_alloc_new w1 _) hb3 (Nat.le_refl _)
    rw [hw4.out, hS.out]
    have al := alloc_below w3 (.cells #[.int .i64 room, .slice ao 6 cap] 25)
    refine ⟨heap_alloc_new _ _, by omega, ?_, ?_, (fun x hx => (by cases hx)), ?_, ?_, hblt⟩
    · exact ownsRow_below (ownsRow_lower ho3 (by simp; omega)) al (fun k hk => (ho3.lt k hk).2)
    · exact row_empty _ _ _ (rowS_later hg3 al (Nat.le_refl _)) (by rw [hG.out]; exact hs1)
    · exact ((R1.out.alloc _).later hb3 (Nat.le_refl _)).later al (Nat.le_refl _)
    · exact ((M1.out.alloc _).trans (Mid.of_below hb3 (Nat.le_refl _))).alloc _
  clear ho3 hb3 R0 R1 M1 HNW
  go_wp2_with fail
  rw [← hw4.out, ← hG.out, ← hS.out]
  refine (pick_any b (p + 1) 14 _ T4.out.rd (by omega) (by omega) (by omega)).mono ?_
  rintro e w5 ⟨n, rfl, ln, un, r5, m5⟩
  have T5 := hide_it (T4.out.step m5 r5)
  clear r5 m5 T4 hw4 hG hS
  obtain ⟨N, rfl⟩ := Int.eq_ofNat_of_zero_le ln
  go_wp2_with fail
  go_loopw [5, 8] (fun o i W => ∃ (m q : Nat) (u : Value) (hs : List Pl.H) (ps : List (R × Value)), i = .int .i64 m ∧ ps.length + m ≤ 13 ∧ p ≤ q ∧ q + 3 * m ≤ p + 2 + 3 * 13 ∧ Hid (StS w W b q S room u hs o ps) ∧ Hid (Pl.sRun room (ps.map (·.1)) Pl.noHolds = some hs)) (fun _ i _ => (intOf i).toNat)
  case atStart => exact ⟨N, p + 1 + 1, _, _, [], rfl, by simp; omega, by omega, by omega, T5, rfl⟩
  case round =>
    obtain ⟨m, q, u, hs, ps, rfl, hm, hq0, hq1, HS, HR⟩ := hrel
    by_cases hlt : 0 < m
    · have hlen : Hid (hs.length = 6) := by show _ = _; rw [Pl.sRun_len _ HR.out]; rfl
      go_wp2_with fail
      refine (pick_any b q 3 _ HS.out.rd (by omega) (by omega) (by omega)).mono ?_
      rintro e w6 ⟨k0, rfl, lk, uk, r6, m6⟩
      have S6 := hide_it (HS.out.step m6 r6)
      clear r6 m6 HS
      go_wp2_with fail
      refine (pick_any b (q + 1) 6 _ S6.out.rd (by omega) (by omega) (by omega)).mono ?_
      rintro e w7 ⟨t0, rfl, lt, ut, r7, m7⟩
      have S7 := hide_it (S6.out.step m7 r7)
      clear r7 m7 S6
      obtain ⟨Z, hZ⟩ : ∃ Z, Hid (Z = w7.heap.size) := ⟨_, rfl⟩
      have hw7 : w.heap.size ≤ w7.heap.size := S7.out.mid.size
      obtain ⟨au, cu, hus⟩ := row_shape S7.out.hol
      subst hus
      obtain ⟨ao5, co5, ho5⟩ := row_shape S7.out.row
      subst ho5
      have hwX : w.heap.size ≤ (Z + 1) := by rw [hZ.out]; omega
      have OB := hide_it (fun g hg => Nat.lt_trans (S7.out.ob g hg) (show w7.heap.size < (Z + 1) by rw [hZ.out]; omega))
      by_cases hk0 : k0 = 0
      · subst hk0
        obtain ⟨w8, hw8⟩ : ∃ W, Hid (W = (w7.alloc (.cells #[] 3)).alloc (.cells #[.int .i64 1, .int .i64 (1 + t0), .slice (some ⟨Z, 0, none⟩) 0 0] 50)) := ⟨_, rfl⟩
        have S8 : Hid (StS w w8 b (q + 2) S room (.slice au hs.length cu) hs (.slice ao5 ps.length co5) ps) := by show StS _ _ _ _ _ _ _ _ _ _; rw [hw8.out]; exact (S7.out.later (alloc_below _ _)).later (alloc_below _ _)
        have R8 : Hid (w8.heap[Z + 1]? = some (.cells #[.int .i64 1, .int .i64 (1 + t0), .slice (some ⟨Z, 0, none⟩) 0 0] 50 (0, 0))) := by
          show _ = _
          have := heap_alloc_new (w7.alloc (.cells #[] 3)) (.cells #[.int .i64 1, .int .i64 (1 + t0), .slice (some ⟨Z, 0, none⟩) 0 0] 50)
          rw [World.size_alloc] at this
          rw [hw8.out, hZ.out]; rw [hZ.out] at this; exact this
        clear S7
        go_wp2_with fail
        rw [← hZ.out, ← hw8.out]
        refine (pick_any b (q + 2) 3 _ S8.out.rd (by omega) (by omega) (by omega)).mono ?_
        rintro e w11 ⟨z, rfl, lz, uz, r11, m11⟩
        have S11 := hide_it (S8.out.step m11 r11)
        have R11 := hide_it (rowS_mid R8.out m11 (by omega))
        obtain ⟨Y, hY⟩ : ∃ Y, Hid (Y = w11.heap.size) := ⟨_, rfl⟩
        obtain ⟨V, hV⟩ : ∃ W, Hid (W = (w11.setCell ⟨Z + 1, 2, none⟩ (.slice (some ⟨Y, 0, none⟩) 1 1)).alloc (.cells #[.int .i64 (1 + z)] 3)) := ⟨_, rfl⟩
        have SX : Hid (StS w V b (q + 3) S room (.slice au hs.length cu) hs (.slice ao5 ps.length co5) ps) := by show StS _ _ _ _ _ _ _ _ _ _; rw [hV.out]; exact (S11.out.setX R11.out hwX OB.out _).later (alloc_below _ _)
        have RX : Hid (V.heap[Z + 1]? = some (.cells #[.int .i64 1, .int .i64 (1 + t0), .slice (some ⟨Y, 0, none⟩) 1 1] 50 (0, 0))) := by
          show _ = _
          rw [hV.out]
          exact rowS_later (by rw [heap_setCell_same w11 (Z + 1) 2 _ _ _ R11.out]; rfl) (alloc_below _ _) (Nat.le_refl _)
        have FX : Hid (Fresh V w.heap.size (.slice (some ⟨Y, 0, none⟩) 1 1) [1 + z] 1) := by
          show Fresh _ _ _ _ _
          have := fresh1 (w11.setCell ⟨Z + 1, 2, none⟩ (.slice (some ⟨Y, 0, none⟩) 1 1)) w.heap.size (1 + z) (by have := S11.out.mid.size; simp; omega)
          rw [World.size_setCell, ← hY.out] at this
          rw [hV.out]; exact this
        obtain ⟨y0, y1, yf2⟩ : w11.cell? ⟨Z + 1, 0, none⟩ = some (.int .i64 1) ∧ w11.cell? ⟨Z + 1, 1, none⟩ = some (.int .i64 (1 + t0)) ∧ w11.frozen? ⟨Z + 1, 2, none⟩ = false := ⟨by rw [cell_of_row w11 _ _ _ _ _ R11.out]; rfl, by rw [cell_of_row w11 _ _ _ _ _ R11.out]; rfl, frozen_of_row w11 _ _ _ _ R11.out⟩
        have y2 : w11.cell? ⟨Z + 1, 2, none⟩ = some (.slice (some ⟨Z, 0, none⟩) 0 0) := by rw [cell_of_row w11 _ _ _ _ _ R11.out]; rfl
        have yl := heap_lt R11.out
        obtain ⟨s0, s1, sf0, sf1, sl⟩ := S11.out.cells
        have hXS : Z + 1 ≠ S := ne_of_type R11.out S11.out.stk (by decide)
        have hSX : S ≠ Z + 1 := fun e => hXS e.symm
        clear r11 m11 S8 R8 hw8
        have hwV : w.heap.size ≤ V.heap.size := SX.out.mid.size
        have HDO := hide_it (specDo_any room (.slice au hs.length cu) hs (1) (1 + t0) (.slice (some ⟨Y, 0, none⟩) 1 1) ([1 + z]) V (holds_of_row SX.out.hol) (by rw [hlen.out]; omega) FX.out.ints (by simp))
        cases hdo : Pl.sDo room hs (1) (1 + t0) ([1 + z]) with
        | none =>
          rw [hdo] at HDO
          have HDO' : Hid (Calls Try.prog 20 #[.agg #[.int .i64 room, .slice au hs.length cu], .agg #[.int .i64 (1), .int .i64 (1 + t0), .slice (some ⟨Y, 0, none⟩) 1 1]] V fun e w' => StOut V w' e 0 [] false) := HDO.out
          clear HDO
          go_wp2_with fail
          rw [← hY.out, ← hV.out]
          refine HDO'.out.mono ?_
          rintro e w9 ⟨a9, c9, rfl, ho9, hb9⟩
          have S9 := hide_it ((SX.out.later hb9).later (alloc_below _ (.cells #[.int .i64 0, .slice a9 0 c9] 25)))
          clear ho9 hb9 s0 s1 sf0 sf1 sl
          go_wp2_with fail
          go_roundw
          case rel => exact ⟨m - 1, _, _, _, ps, by go_num, by omega, by omega, by omega, S9, HR⟩
          case measure => simp [intOf]; omega
        | some hs' =>
          rw [hdo] at HDO
          have HDO' : Hid (Calls Try.prog 20 #[.agg #[.int .i64 room, .slice au hs.length cu], .agg #[.int .i64 (1), .int .i64 (1 + t0), .slice (some ⟨Y, 0, none⟩) 1 1]] V fun e w' => StOut V w' e room hs' true) := HDO.out
          have HR' : Hid (Pl.sRun room ((ps ++ [(((1, 1 + t0, [1 + z]) : R), (.slice (some ⟨Y, 0, none⟩) 1 1 : Value))]).map (·.1)) Pl.noHolds = some hs') := by
            show _ = _
            rw [List.map_append, List.map_singleton, Pl.sRun_snoc, HR.out]; exact hdo
          clear HDO hdo
          go_wp2_with fail
          rw [← hY.out, ← hV.out]
          refine HDO'.out.mono ?_
          rintro e w9 ⟨a9, c9, rfl, ho9, hb9⟩
          obtain ⟨L', hL'⟩ : ∃ l, Hid (hs'.length = l) := ⟨_, rfl⟩
          rw [hL'.out] at ho9 ⊢
          have S9 := hide_it (SX.out.later hb9)
          have F9 := hide_it (FX.out.later hb9 (Nat.le_refl _))
          have R9 := hide_it (rowS_later RX.out hb9 (Nat.le_refl _))
          have O9 : Hid (w9.ownsRow w.heap.size 29 2 (.slice a9 L' c9) hs'.length (hflat hs')) := by show World.ownsRow _ _ _ _ _ _ _; rw [hL'.out]; exact ownsRow_lower ho9 hwV
          have S10 := hide_it ((S9.out.setS O9.out).later (alloc_below _ (.cells #[.int .i64 room, .slice a9 L' c9] 25)))
          have F10 : Hid (Fresh (((w9.setCell ⟨S, 0, none⟩ (.int .i64 room)).setCell ⟨S, 1, none⟩ (.slice a9 L' c9)).alloc (.cells #[.int .i64 room, .slice a9 L' c9] 25)) w.heap.size (.slice (some ⟨Y, 0, none⟩) 1 1) ([1 + z]) 1) := by
            show Fresh _ _ _ _ _
            exact ((F9.out.set S9.out.stk (by decide) _).set (heap_setCell_same _ S 0 _ _ _ S9.out.stk) (by decide) _).later (alloc_below _ _) (Nat.le_refl _)
          have hpl : ps.length ≤ 12 := by omega
          have ROW : Hid (∀ o, ((((w9.setCell ⟨S, 0, none⟩ (.int .i64 room)).setCell ⟨S, 1, none⟩ (.slice a9 L' c9)).alloc (.cells #[.int .i64 room, .slice a9 L' c9] 25)).alloc o).ownsRow w.heap.size 50 3 (.slice ao5 ps.length co5) ps.length (flat ps)) := fun o => (S10.out.later (alloc_below _ o)).row
          have hw9s : w.heap.size ≤ w9.heap.size := S9.out.mid.size
          clear ho9 s0 s1 sf0 sf1 sl
          have x0 : w9.cell? ⟨Z + 1, 0, none⟩ = some (.int .i64 (1)) := by rw [cell_of_row w9 _ _ _ _ _ R9.out]; rfl
          have x1 : w9.cell? ⟨Z + 1, 1, none⟩ = some (.int .i64 (1 + t0)) := by rw [cell_of_row w9 _ _ _ _ _ R9.out]; rfl
          have x2 : w9.cell? ⟨Z + 1, 2, none⟩ = some (.slice (some ⟨Y, 0, none⟩) 1 1) := by rw [cell_of_row w9 _ _ _ _ _ R9.out]; rfl
          have xl := heap_lt R9.out
          obtain ⟨s0, s1, sf0, sf1, sl⟩ := S9.out.cells
          clear hb9
          have NEWS : Hid (∀ (j : Nat) (x : Value), [Value.int .i64 (1), .int .i64 (1 + t0), .slice (some ⟨Y, 0, none⟩) 1 1][j]? = some x → ((((w9.setCell ⟨S, 0, none⟩ (.int .i64 room)).setCell ⟨S, 1, none⟩ (.slice a9 L' c9)).alloc (.cells #[.int .i64 room, .slice a9 L' c9] 25)).alloc (.cells #[.int .i64 (1), .int .i64 (1 + t0), .slice (some ⟨Y, 0, none⟩) 1 1] 50)).cell? ((⟨w9.heap.size + 1, 0, none⟩ : Addr).add j) = some x) := by
            have := news3 (((w9.setCell ⟨S, 0, none⟩ (.int .i64 room)).setCell ⟨S, 1, none⟩ (.slice a9 L' c9)).alloc (.cells #[.int .i64 room, .slice a9 L' c9] 25)) (1) (1 + t0) (.slice (some ⟨Y, 0, none⟩) 1 1) 50
            rw [World.size_alloc, World.size_setCell, World.size_setCell] at this
            exact this
          go_wp2_with (at_builtin; refine wpList_append_own _ rfl _ _ 39 rfl w.heap.size 50 i0 (.agg #[.int .i64 0, .int .i64 0, .slice none 0 0]) 3 40 Try.underlying39 hi hz0 hz1 hz2 rfl (by decide) (.slice ao5 ps.length co5) ps.length (flat ps) rfl (ROW.out _) ⟨w9.heap.size + 1, 0, none⟩ 1 1 [.int .i64 (1), .int .i64 (1 + t0), .slice (some ⟨Y, 0, none⟩) 1 1] rfl rfl NEWS.out (one3 _ _ _) ?c3 ?c4 ?c5 ?_)
          case c3 => unfold maxLen; omega
          case c4 => omega
          case c5 => simp; omega
          intro v' w12 hown12 hgrow12 _
          have S12 := hide_it ((S10.out.later (alloc_below _ _)).push (r := (1, 1 + t0, [1 + z])) ⟨by simp, Or.inl ⟨1, F10.out.later (alloc_below _ _) (Nat.le_refl _)⟩⟩ hown12 hgrow12)
          clear hown12 hgrow12 ROW S10 F10 NEWS S9 F9 R9 O9 s0 s1 sf0 sf1 x0 x1 x2
          go_wp2_with fail
          go_roundw
          case rel => exact ⟨m - 1, _, _, _, _, by go_num, by simp; omega, by omega, by omega, S12, HR'⟩
          case measure => simp [intOf]; omega
      · obtain ⟨V, hV⟩ : ∃ W, Hid (W = (w7.alloc (.cells #[] 3)).alloc (.cells #[.int .i64 (1 + k0), .int .i64 (1 + t0), .slice (some ⟨Z, 0, none⟩) 0 0] 50)) := ⟨_, rfl⟩
        have SX : Hid (StS w V b (q + 2) S room (.slice au hs.length cu) hs (.slice ao5 ps.length co5) ps) := by show StS _ _ _ _ _ _ _ _ _ _; rw [hV.out]; exact (S7.out.later (alloc_below _ _)).later (alloc_below _ _)
        have RX : Hid (V.heap[Z + 1]? = some (.cells #[.int .i64 (1 + k0), .int .i64 (1 + t0), .slice (some ⟨Z, 0, none⟩) 0 0] 50 (0, 0))) := by
          show _ = _
          have := heap_alloc_new (w7.alloc (.cells #[] 3)) (.cells #[.int .i64 (1 + k0), .int .i64 (1 + t0), .slice (some ⟨Z, 0, none⟩) 0 0] 50)
          rw [World.size_alloc] at this
          rw [hV.out, hZ.out]; rw [hZ.out] at this; exact this
        have FX : Hid (Fresh V w.heap.size (.slice (some ⟨Z, 0, none⟩) 0 0) [] 0) := by
          show Fresh _ _ _ _ _
          rw [hV.out, hZ.out]; exact (fresh0 w7 w.heap.size hw7).later (alloc_below _ _) (Nat.le_refl _)
        have hk1 : ¬ (1 + k0 = 1) := by omega
        obtain ⟨s0, s1, sf0, sf1, sl⟩ := S7.out.cells
        have hXS : Z + 1 ≠ S := ne_of_type RX.out SX.out.stk (by decide)
        have hSX : S ≠ Z + 1 := fun e => hXS e.symm
        clear S7
        have hwV : w.heap.size ≤ V.heap.size := SX.out.mid.size
        have HDO := hide_it (specDo_any room (.slice au hs.length cu) hs (1 + k0) (1 + t0) (.slice (some ⟨Z, 0, none⟩) 0 0) ([]) V (holds_of_row SX.out.hol) (by rw [hlen.out]; omega) FX.out.ints (by simp))
        cases hdo : Pl.sDo room hs (1 + k0) (1 + t0) ([]) with
        | none =>
          rw [hdo] at HDO
          have HDO' : Hid (Calls Try.prog 20 #[.agg #[.int .i64 room, .slice au hs.length cu], .agg #[.int .i64 (1 + k0), .int .i64 (1 + t0), .slice (some ⟨Z, 0, none⟩) 0 0]] V fun e w' => StOut V w' e 0 [] false) := HDO.out
          clear HDO
          go_wp2_with fail
          rw [← hZ.out, ← hV.out]
          refine HDO'.out.mono ?_
          rintro e w9 ⟨a9, c9, rfl, ho9, hb9⟩
          have S9 := hide_it ((SX.out.later hb9).later (alloc_below _ (.cells #[.int .i64 0, .slice a9 0 c9] 25)))
          clear ho9 hb9 s0 s1 sf0 sf1 sl
          go_wp2_with fail
          go_roundw
          case rel => exact ⟨m - 1, _, _, _, ps, by go_num, by omega, by omega, by omega, S9, HR⟩
          case measure => simp [intOf]; omega
        | some hs' =>
          rw [hdo] at HDO
          have HDO' : Hid (Calls Try.prog 20 #[.agg #[.int .i64 room, .slice au hs.length cu], .agg #[.int .i64 (1 + k0), .int .i64 (1 + t0), .slice (some ⟨Z, 0, none⟩) 0 0]] V fun e w' => StOut V w' e room hs' true) := HDO.out
          have HR' : Hid (Pl.sRun room ((ps ++ [(((1 + k0, 1 + t0, []) : R), (.slice (some ⟨Z, 0, none⟩) 0 0 : Value))]).map (·.1)) Pl.noHolds = some hs') := by
            show _ = _
            rw [List.map_append, List.map_singleton, Pl.sRun_snoc, HR.out]; exact hdo
          clear HDO hdo
          go_wp2_with fail
          rw [← hZ.out, ← hV.out]
          refine HDO'.out.mono ?_
          rintro e w9 ⟨a9, c9, rfl, ho9, hb9⟩
          obtain ⟨L', hL'⟩ : ∃ l, Hid (hs'.length = l) := ⟨_, rfl⟩
          rw [hL'.out] at ho9 ⊢
          have S9 := hide_it (SX.out.later hb9)
          have F9 := hide_it (FX.out.later hb9 (Nat.le_refl _))
          have R9 := hide_it (rowS_later RX.out hb9 (Nat.le_refl _))
          have O9 : Hid (w9.ownsRow w.heap.size 29 2 (.slice a9 L' c9) hs'.length (hflat hs')) := by show World.ownsRow _ _ _ _ _ _ _; rw [hL'.out]; exact ownsRow_lower ho9 hwV
          have S10 := hide_it ((S9.out.setS O9.out).later (alloc_below _ (.cells #[.int .i64 room, .slice a9 L' c9] 25)))
          have F10 : Hid (Fresh (((w9.setCell ⟨S, 0, none⟩ (.int .i64 room)).setCell ⟨S, 1, none⟩ (.slice a9 L' c9)).alloc (.cells #[.int .i64 room, .slice a9 L' c9] 25)) w.heap.size (.slice (some ⟨Z, 0, none⟩) 0 0) ([]) 0) := by
            show Fresh _ _ _ _ _
            exact ((F9.out.set S9.out.stk (by decide) _).set (heap_setCell_same _ S 0 _ _ _ S9.out.stk) (by decide) _).later (alloc_below _ _) (Nat.le_refl _)
          have hpl : ps.length ≤ 12 := by omega
          have ROW : Hid (∀ o, ((((w9.setCell ⟨S, 0, none⟩ (.int .i64 room)).setCell ⟨S, 1, none⟩ (.slice a9 L' c9)).alloc (.cells #[.int .i64 room, .slice a9 L' c9] 25)).alloc o).ownsRow w.heap.size 50 3 (.slice ao5 ps.length co5) ps.length (flat ps)) := fun o => (S10.out.later (alloc_below _ o)).row
          have hw9s : w.heap.size ≤ w9.heap.size := S9.out.mid.size
          clear ho9 s0 s1 sf0 sf1 sl
          have x0 : w9.cell? ⟨Z + 1, 0, none⟩ = some (.int .i64 (1 + k0)) := by rw [cell_of_row w9 _ _ _ _ _ R9.out]; rfl
          have x1 : w9.cell? ⟨Z + 1, 1, none⟩ = some (.int .i64 (1 + t0)) := by rw [cell_of_row w9 _ _ _ _ _ R9.out]; rfl
          have x2 : w9.cell? ⟨Z + 1, 2, none⟩ = some (.slice (some ⟨Z, 0, none⟩) 0 0) := by rw [cell_of_row w9 _ _ _ _ _ R9.out]; rfl
          have xl := heap_lt R9.out
          obtain ⟨s0, s1, sf0, sf1, sl⟩ := S9.out.cells
          clear hb9
          have NEWS : Hid (∀ (j : Nat) (x : Value), [Value.int .i64 (1 + k0), .int .i64 (1 + t0), .slice (some ⟨Z, 0, none⟩) 0 0][j]? = some x → ((((w9.setCell ⟨S, 0, none⟩ (.int .i64 room)).setCell ⟨S, 1, none⟩ (.slice a9 L' c9)).alloc (.cells #[.int .i64 room, .slice a9 L' c9] 25)).alloc (.cells #[.int .i64 (1 + k0), .int .i64 (1 + t0), .slice (some ⟨Z, 0, none⟩) 0 0] 50)).cell? ((⟨w9.heap.size + 1, 0, none⟩ : Addr).add j) = some x) := by
            have := news3 (((w9.setCell ⟨S, 0, none⟩ (.int .i64 room)).setCell ⟨S, 1, none⟩ (.slice a9 L' c9)).alloc (.cells #[.int .i64 room, .slice a9 L' c9] 25)) (1 + k0) (1 + t0) (.slice (some ⟨Z, 0, none⟩) 0 0) 50
            rw [World.size_alloc, World.size_setCell, World.size_setCell] at this
            exact this
          go_wp2_with (at_builtin; refine wpList_append_own _ rfl _ _ 39 rfl w.heap.size 50 i0 (.agg #[.int .i64 0, .int .i64 0, .slice none 0 0]) 3 40 Try.underlying39 hi hz0 hz1 hz2 rfl (by decide) (.slice ao5 ps.length co5) ps.length (flat ps) rfl (ROW.out _) ⟨w9.heap.size + 1, 0, none⟩ 1 1 [.int .i64 (1 + k0), .int .i64 (1 + t0), .slice (some ⟨Z, 0, none⟩) 0 0] rfl rfl NEWS.out (one3 _ _ _) ?c3 ?c4 ?c5 ?_)
          case c3 => unfold maxLen; omega
          case c4 => omega
          case c5 => simp; omega
          intro v' w12 hown12 hgrow12 _
          have S12 := hide_it ((S10.out.later (alloc_below _ _)).push (r := (1 + k0, 1 + t0, [])) ⟨by simp, Or.inl ⟨0, F10.out.later (alloc_below _ _) (Nat.le_refl _)⟩⟩ hown12 hgrow12)
          clear hown12 hgrow12 ROW S10 F10 NEWS S9 F9 R9 O9 s0 s1 sf0 sf1 x0 x1 x2
          go_wp2_with fail
          go_roundw
          case rel => exact ⟨m - 1, _, _, _, _, by go_num, by simp; omega, by omega, by omega, S12, HR'⟩
          case measure => simp [intOf]; omega
    · obtain rfl : m = 0 := by omega
      go_wp2
      go_ret2
      exact ⟨room, _, ps, hs, q, rfl, lr, by omega, by omega, HS.out.row, HS.out.all, HR.out, by omega, HS.out.rd, HS.out.mid⟩

end Go.Proofs.Ytcofnjooiemkfab

namespace Go.Proofs.Ytcofnjooiemkfab
open Go.RowKit

set_option maxHeartbeats 1000000 in
theorem specOf_any (room : Int) (v : Value) (rs : List R) (w : World) (hv : Recs w v rs) (hl : tot rs ≤ 1048576) :
    Calls Try.prog 17 #[.int .i64 room, v] w fun e w' => StOut w w' e (oR room (Pl.sOf room rs)) (oH (Pl.sOf room rs)) (Pl.sOf room rs).isSome := by
  obtain ⟨RR, hRR⟩ : ∃ x, oR room (Pl.sOf room rs) = x := ⟨_, rfl⟩
  obtain ⟨HS, hHS⟩ : ∃ x, oH (Pl.sOf room rs) = x := ⟨_, rfl⟩
  obtain ⟨BB, hBB⟩ : ∃ x, (Pl.sOf room rs).isSome = x := ⟨_, rfl⟩
  have HL : Hid (∀ o, Calls Try.prog 21 #[.int .i64 room, v] (w.alloc o) fun e w' => StOut (w.alloc o) w' e RR HS BB) := fun o => by
    rw [← hRR, ← hHS, ← hBB]
    exact l2Of_any room v rs (w.alloc o) (hv.later (al_below w o) (Nat.le_refl _)) hl
  rw [hRR, hHS, hBB]
  obtain ⟨av, cv, rfl⟩ := hv.shape
  clear hv hRR hHS hBB
  go_enter Try.func17, Try.ntmps17
  go_wp2_with fail
  refine (HL.out _).mono ?_
  rintro e w1 ⟨a1, c1, rfl, ho1, hb1⟩
  have Z1 := hide_it ((SB.new w (.int .i64 0) (.slice none 0 0)).later hb1 (by simp))
  have B1 := hide_it ((al_below w _).trans (hb1.mono (by simp)))
  rw [World.size_alloc] at ho1
  have O1 := hide_it ho1
  have hz1 := Z1.out.lt
  obtain ⟨z0, z1, z2, z3⟩ := Z1.out.cells
  clear ho1 hb1
  go_wp2
  refine bodyPost_ret (v := .tuple #[.agg #[.int .i64 RR, .slice a1 HS.length c1], .bool BB]) (by simp [results, Try.results17, go_sem, z0, z1]) rfl ⟨a1, c1, rfl, ?_, ?_⟩
  · exact ownsRow_base (ownsRow_setCell_below (ownsRow_setCell_below O1.out (by simp) _) (by simp) _) (by omega)
  · exact (B1.out.setCell (by simp) _).setCell (by simp) _

theorem sOf_len (room : Int) (rs : List R) : (oH (Pl.sOf room rs)).length ≤ 6 := by
  unfold Pl.sOf
  split
  · have h : ∀ (rs : List R) (hs : List Pl.H), hs.length = 6 → (oH (Pl.sRun room rs hs)).length ≤ 6 := by
      intro rs
      induction rs with
      | nil => intro hs h; simp [Pl.sRun, oH]; omega
      | cons r t ih =>
        intro hs h
        cases hd : Pl.sDo room hs r.1 r.2.1 r.2.2 with
        | none => rw [sRun_no room r t hs hd]; simp [oH]
        | some h' => rw [sRun_yes room r t hs h' hd]; exact ih h' (by rw [Pl.sDo_len hd]; exact h)
    exact h rs _ rfl
  · simp [oH]

theorem duo_mid {lo hi : Nat} {w w' : World} {b : Nat} {x y : Value} (h : Duo w b x y) (hm : Mid lo hi w w') (hb : b < lo ∨ hi ≤ b) : Duo w' b x y := by
  have hlt := h.lt
  have e := hm.block b hlt hb
  exact ⟨by rw [← h.1]; exact World.cell?_of_block (a := ⟨b, 0, none⟩) e, by rw [← h.2]; exact World.cell?_of_block (a := ⟨b, 1, none⟩) e⟩

end Go.Proofs.Ytcofnjooiemkfab
