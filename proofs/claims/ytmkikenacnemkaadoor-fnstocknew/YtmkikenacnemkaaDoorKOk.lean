/- Contracts of what says whether a hold, or a stock, is ok, and how many are free: the specification's, and the program's. For stocks of at most 1048576 holds. -/
import Derived.Test.YtmkikenacnemkaaDoorKHold
namespace Go.Proofs.YtmkikenacnemkaaDoor
open Go.RowKit

theorem al_below (w : World) (o : Obj) : Below w.heap.size w (w.alloc o) := (Below.refl _ _).alloc (Nat.le_refl _) o
theorem al_after {w : World} {o : Obj} {w' : World} (h : Below (w.alloc o).heap.size (w.alloc o) w') : Below w.heap.size w w' := (al_below w o).trans (h.mono (by simp))

set_option maxHeartbeats 1000000 in
theorem holdOk_any (m s : Int) (w : World) :
    Calls Tryd.prog 16 #[.agg #[.int .i64 m, .int .i64 s]] w fun e w' => e = .returned (.bool (Pl.hOk (m, s))) ∧ Below w.heap.size w w' := by
  by_cases h0 : s = 0
  · subst h0
    rw [Pl.hOk_0]
    by_cases hm : m = 0
    all_goals
      go_enter Tryd.func16, Tryd.ntmps16
      go_wp2
      go_ret
      exact ⟨by simp [hm], al_below _ _⟩
  by_cases h1 : s = 1
  · subst h1
    rw [Pl.hOk_1]
    by_cases hm : 1 ≤ m
    · by_cases hn : m ≤ 3
      all_goals
        go_enter Tryd.func16, Tryd.ntmps16
        go_wp2
        go_ret
        exact ⟨by simp [Pl.inB]; omega, al_below _ _⟩
    · go_enter Tryd.func16, Tryd.ntmps16
      go_wp2
      go_ret
      exact ⟨by simp [Pl.inB]; omega, al_below _ _⟩
  by_cases h2 : s = 2
  · subst h2
    rw [Pl.hOk_2]
    by_cases hm : 1 ≤ m
    · by_cases hn : m ≤ 3
      all_goals
        go_enter Tryd.func16, Tryd.ntmps16
        go_wp2
        go_ret
        exact ⟨by simp [Pl.inB]; omega, al_below _ _⟩
    · go_enter Tryd.func16, Tryd.ntmps16
      go_wp2
      go_ret
      exact ⟨by simp [Pl.inB]; omega, al_below _ _⟩
  by_cases h3 : s = 3
  · subst h3
    rw [Pl.hOk_3]
    by_cases hm : 0 ≤ m
    · by_cases hn : m ≤ 3
      all_goals
        go_enter Tryd.func16, Tryd.ntmps16
        go_wp2
        go_ret
        exact ⟨by simp [Pl.inB]; omega, al_below _ _⟩
    · go_enter Tryd.func16, Tryd.ntmps16
      go_wp2
      go_ret
      exact ⟨by simp [Pl.inB]; omega, al_below _ _⟩
  rw [Pl.hOk_x m s h0 h1 h2 h3]
  go_enter Tryd.func16, Tryd.ntmps16
  go_wp2
  go_ret
  exact ⟨rfl, al_below _ _⟩

theorem had_any (m s : Int) (w : World) :
    Calls Tryd.prog 17 #[.agg #[.int .i64 m, .int .i64 s]] w fun e w' => e = .returned (.int .i64 (Pl.hHad (m, s))) ∧ Below w.heap.size w w' := by
  by_cases h1 : s = 1
  · subst h1
    rw [Pl.hHad_1]
    go_enter Tryd.func17, Tryd.ntmps17
    go_wp2
    go_ret
    exact ⟨rfl, al_below _ _⟩
  by_cases h2 : s = 2
  · subst h2
    rw [Pl.hHad_2]
    go_enter Tryd.func17, Tryd.ntmps17
    go_wp2
    go_ret
    exact ⟨rfl, al_below _ _⟩
  rw [Pl.hHad_x m s h1 h2]
  have e1 : (s == 1) = false := by simp [h1]
  have e2 : (s == 2) = false := by simp [h2]
  go_enter Tryd.func17, Tryd.ntmps17
  go_wp2
  go_ret
  exact ⟨rfl, al_below _ _⟩

theorem roomOk_any (room : Int) (w : World) :
    Calls Tryd.prog 14 #[.int .i64 room] w fun e w' => e = .returned (.bool (Pl.inB room 0 9)) ∧ w' = w := by
  by_cases h1 : 0 ≤ room
  all_goals by_cases h2 : room ≤ 9
  all_goals
    go_enter Tryd.func14, Tryd.ntmps14
    go_wp2
    go_ret
    exact ⟨by simp [Pl.inB, h1, h2], rfl⟩

theorem hall_take (hs : List Pl.H) (k : Nat) (h : hs.all Pl.hOk = true) : (hs.take k).all Pl.hOk = true := by
  rw [List.all_eq_true] at h ⊢
  exact fun x hx => h x (List.mem_of_mem_take hx)

/-- Two values lie at the head of this block. -/
def Duo (w : World) (b : Nat) (x y : Value) : Prop := w.cell? ⟨b, 0, none⟩ = some x ∧ w.cell? ⟨b, 1, none⟩ = some y
theorem Duo.later {B : Nat} {w w' : World} {b : Nat} {x y : Value} (h : Duo w b x y) (hb : Below B w w') (hB : w.heap.size ≤ B) : Duo w' b x y := by
  obtain ⟨h0, h1⟩ := h
  have hlt := World.block_lt_of_cell? _ _ h0
  simp at hlt
  exact ⟨by rw [← h0]; exact hb.cell (p := ⟨b, 0, none⟩) (by simp; omega), by rw [← h1]; exact hb.cell (p := ⟨b, 1, none⟩) (by simp; omega)⟩
theorem Duo.new (w : World) (x y : Value) (ty : TypeId) : Duo (w.alloc (.cells #[x, y] ty)) w.heap.size x y := by
  refine ⟨?_, ?_⟩ <;> simp
theorem Duo.lt {w : World} {b : Nat} {x y : Value} (h : Duo w b x y) : b < w.heap.size := by simpa using World.block_lt_of_cell? _ _ h.1

set_option maxHeartbeats 2000000 in
theorem implFree_any (room : Int) (v : Value) (hs : List Pl.H) (w : World) (hv : Holds w v hs) (hl : hs.length ≤ 1048576) :
    Calls Tryd.prog 10 #[.agg #[.int .i64 room, v]] w fun e w' => e = .returned (.int .i64 (Pl.sFree room hs)) ∧ Below w.heap.size w w' := by
  cases hr : Pl.inB room 0 9
  · rw [Pl.sFree_no (Pl.sOk_room hr)]
    obtain ⟨ao, cap, rfl⟩ := hv.shape
    clear hv
    go_enter Tryd.func10, Tryd.ntmps10
    go_wp2_with (go_at_call 14; refine (roomOk_any _ _).mono ?_; rintro e w1 ⟨rfl, rfl⟩; rw [hr])
    go_ret
    exact ⟨rfl, al_below _ _⟩
  by_cases h6 : (hs.length : Int) = 6
  · have hl6 : hs.length = 6 := by omega
    have HL6 := hide_it hl6
    have HR := hide_it hr
    have hrb := Pl.inB_true hr
    rcases hv with ⟨rfl, _⟩ | ⟨b, off, cap, rfl, hz, hc⟩
    · simp at hl6
    have HC : Hid (∀ W, Below w.heap.size w W → ∀ k, k < 6 → W.cell? ⟨b, off + k * 2, none⟩ = some (.int .i64 (hs.getD k (0, 0)).1) ∧ W.cell? ⟨b, off + k * 2 + 1, none⟩ = some (.int .i64 (hs.getD k (0, 0)).2)) := fun W h k hk => by
      obtain ⟨h1, h2⟩ := hc k (by omega)
      have hl := World.block_lt_of_cell? _ _ h1
      simp at hl
      exact ⟨by rw [← h1]; exact h.cell (p := ⟨b, off + k * 2, none⟩) (by simp; omega), by rw [← h2]; exact h.cell (p := ⟨b, off + k * 2 + 1, none⟩) (by simp; omega)⟩
    clear hc hz
    rw [hl6]
    clear hl6 h6 hl
    go_enter Tryd.func10, Tryd.ntmps10
    go_wp2_with (go_at_call 14; refine (roomOk_any _ _).mono ?_; rintro e w1 ⟨rfl, rfl⟩; rw [hr])
    go_loopw [3, 21] (fun n i wr => ∃ (k : Nat) (N : Int), k ≤ 6 ∧ i = .int .i64 k ∧ n = .int .i64 N ∧ Hid (N = Pl.free room (hs.take k)) ∧ Hid ((hs.take k).all Pl.hOk = true) ∧ Hid (Below w.heap.size w wr)) (fun _ i _ => 6 - (intOf i).toNat)
    case atStart => exact ⟨0, room, Nat.zero_le _, rfl, rfl, by show _ = _; simp [Pl.free], rfl, al_below _ _⟩
    case round =>
      obtain ⟨k, N, hk, rfl, rfl, HN, HA, HB⟩ := hrel
      have hNb : -1000 ≤ N ∧ N ≤ 9 := by
        have := Pl.free_bd room (hs.take k) HA.out
        have := HN.out
        simp at *
        omega
      by_cases hlt : k < 6
      · have HLT : Hid (k < hs.length) := by show _ < _; rw [HL6.out]; exact hlt
        obtain ⟨m, s, HZ⟩ : ∃ m s, Hid (hs.getD k (0, 0) = (m, s)) := ⟨_, _, rfl⟩
        have c0 : wr.cell? ⟨b, off + k * 2, none⟩ = some (.int .i64 m) := by rw [(HC.out wr HB.out k hlt).1, HZ.out]
        have c1 : wr.cell? ⟨b, off + k * 2 + 1, none⟩ = some (.int .i64 s) := by rw [(HC.out wr HB.out k hlt).2, HZ.out]
        have HBA : Hid (∀ o, Below w.heap.size w (wr.alloc o)) := fun o => HB.out.alloc HB.out.size o
        cases hok : Pl.hOk (m, s)
        · have HE : Hid (Pl.sFree room hs = -1) := Pl.sFree_no (Pl.sOk_all (Pl.hall_bad hs k HLT.out (by rw [HZ.out]; exact hok)))
          go_wp2_with fail
          refine (holdOk_any m s _).mono ?_
          rintro e w2 ⟨rfl, hb2⟩
          rw [hok]
          have HB2 := hide_it ((HBA.out _).trans (hb2.mono (HBA.out _).size))
          clear hb2
          go_wp2
          go_ret
          exact ⟨by rw [HE.out]; rfl, HB2.out⟩
        · have HA2 : Hid ((hs.take (k + 1)).all Pl.hOk = true) := by show _ = _; rw [Pl.hall_snoc hs k HLT.out, HA.out, HZ.out, hok]; rfl
          have HF : Hid (N - Pl.hHad (m, s) = Pl.free room (hs.take (k + 1))) := by show _ = _; rw [Pl.free_snoc room hs k HLT.out, ← HN.out, HZ.out]
          have hbd := Pl.hHad_bd (m, s) hok
          have HX := hide_it (Duo.new wr (.int .i64 m) (.int .i64 s) 40)
          go_wp2_with fail
          refine (holdOk_any m s _).mono ?_
          rintro e w2 ⟨rfl, hb2⟩
          rw [hok]
          have HB2 := hide_it ((HBA.out _).trans (hb2.mono (HBA.out _).size))
          obtain ⟨x0, x1⟩ := HX.out.later hb2 (Nat.le_refl _)
          clear hb2
          go_wp2_with fail
          refine (had_any m s _).mono ?_
          rintro e w3 ⟨rfl, hb3⟩
          have HB3 := hide_it (HB2.out.trans (hb3.mono HB2.out.size))
          clear hb3 x0 x1
          go_wp2
          go_roundw
          case rel => exact ⟨k + 1, _, by omega, by go_num, rfl, HF, HA2, HB3⟩
          case measure => simp [intOf]; omega
      · have HE : Hid (Pl.sFree room hs = max N (-1)) := by
          show _ = _
          have hke : k = hs.length := by have := HL6.out; omega
          have h1 := HA.out
          have h2 := HN.out
          rw [hke, List.take_length] at h1 h2
          rw [Pl.sFree_max h1 HR.out HL6.out, h2]
        by_cases hm : -1 ≤ N
        all_goals
          go_wp2
          go_ret
          exact ⟨by rw [HE.out]; simp; omega, HB.out⟩
  · rw [Pl.sFree_no (Pl.sOk_len (by omega))]
    obtain ⟨ao, cap, rfl⟩ := hv.shape
    clear hv
    go_enter Tryd.func10, Tryd.ntmps10
    go_wp2_with (go_at_call 14; refine (roomOk_any _ _).mono ?_; rintro e w1 ⟨rfl, rfl⟩; rw [hr])
    go_ret
    exact ⟨rfl, al_below _ _⟩

theorem implStockOk_any (room : Int) (v : Value) (hs : List Pl.H) (w : World) (hv : Holds w v hs) (hl : hs.length ≤ 1048576) :
    Calls Tryd.prog 9 #[.agg #[.int .i64 room, v]] w fun e w' => e = .returned (.bool (Pl.sOk room hs)) ∧ Below w.heap.size w w' := by
  have HV : Hid (∀ W, Below w.heap.size w W → Holds W v hs) := fun W h => hv.later h (Nat.le_refl _)
  have hbd := Pl.sFree_bd room hs
  obtain ⟨ao, cap, rfl⟩ := hv.shape
  rw [← Pl.sFree_ok]
  clear hv
  go_enter Tryd.func9, Tryd.ntmps9
  go_wp2_with (go_at_call 10; refine (implFree_any room _ hs _ (HV.out _ (al_below _ _)) hl).mono ?_; rintro e w1 ⟨rfl, hb1⟩; have HB1 := hide_it (al_after hb1); clear hb1)
  go_ret
  exact ⟨rfl, HB1.out⟩

end Go.Proofs.YtmkikenacnemkaaDoor
