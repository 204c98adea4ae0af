/- The contract of the specification's l1Dec. For every text. -/
import Derived.Test.YtfpjohbcbflnhaaDoorWRSh
namespace Go.Proofs.YtfpjohbcbflnhaaDoor
open Go.RowKit

theorem dec_long {s : ByteArray} (h : s.size = 0 ∨ 2 < s.size) : Pl.decB s = -1 := by
  have hl : s.data.toList.length = s.size := by simp
  unfold Pl.decB Pl.decN
  split
  · rename_i a e; rw [e] at hl; simp at hl; omega
  · rename_i a b e; rw [e] at hl; simp at hl; omega
  · rfl

/-- What l1Dec makes of one figure, and of two. -/
theorem dec_one {s : ByteArray} (h : s.size = 1) : Pl.decB s = if 48 ≤ (s[0]'(by omega)).toNat ∧ (s[0]'(by omega)).toNat ≤ 57 then ((s[0]'(by omega)).toNat : Int) - 48 else -1 := by
  obtain ⟨⟨l⟩⟩ := s
  match l, h with
  | [a], _ => rfl
theorem dec_two {s : ByteArray} (h : s.size = 2) : Pl.decB s = if (48 ≤ (s[0]'(by omega)).toNat ∧ (s[0]'(by omega)).toNat ≤ 57) ∧ 48 ≤ (s[1]'(by omega)).toNat ∧ (s[1]'(by omega)).toNat ≤ 57 then 10 * (((s[0]'(by omega)).toNat : Int) - 48) + (((s[1]'(by omega)).toNat : Int) - 48) else -1 := by
  obtain ⟨⟨l⟩⟩ := s
  match l, h with
  | [a, b], _ => rfl

set_option maxHeartbeats 4000000 in
theorem ldec_any (s : ByteArray) (w : World) :
    Calls Tryd.prog 34 #[.string s] w fun e w' => e = .returned (.int .i64 (Pl.decB s)) ∧ w' = w := by
  by_cases hl : s.size = 0 ∨ 2 < s.size
  · rw [dec_long hl]
    have hin : Pl.inB (s.size : Int) 1 2 = false := by rcases hl with h | h <;> simp [Pl.inB] <;> omega
    go_enter Tryd.func34, Tryd.ntmps34
    go_wp2_with (go_at_call 38; refine (in_any _ _ _ _).mono ?_; rintro e w' ⟨rfl, rfl⟩; rw [hin])
    go_ret
    exact ⟨rfl, rfl⟩
  · have hin : Pl.inB (s.size : Int) 1 2 = true := by simp [Pl.inB]; omega
    have hs : s.size = 1 ∨ s.size = 2 := by omega
    clear hl
    rcases hs with hs | hs
    · have hd := dec_one hs
      obtain ⟨a, ha⟩ : ∃ a : Nat, (s[0]'(by omega)).toNat = a := ⟨_, rfl⟩
      rw [ha] at hd
      rw [hd]
      clear hd
      have hc : a < 48 ∨ 57 < a ∨ (48 ≤ a ∧ a ≤ 57) := by omega
      rcases hc with hc | hc | hc
      · rw [if_neg (by omega)]
        have h1 : (a : Int) < 48 := by omega
        go_enter Tryd.func34, Tryd.ntmps34
        go_wp2_with (go_at_call 38; refine (in_any _ _ _ _).mono ?_; rintro e w' ⟨rfl, rfl⟩; rw [show Pl.inB 1 1 2 = true by decide])
        refine wp_loop_rounds 3 ?_
        rw [rounds_succ]
        go_wp2
        go_ret
        exact ⟨rfl, rfl⟩
      · rw [if_neg (by omega)]
        have h1 : ¬ (a : Int) < 48 := by omega
        have h2 : (57 : Int) < (a : Int) := by omega
        go_enter Tryd.func34, Tryd.ntmps34
        go_wp2_with (go_at_call 38; refine (in_any _ _ _ _).mono ?_; rintro e w' ⟨rfl, rfl⟩; rw [show Pl.inB 1 1 2 = true by decide])
        refine wp_loop_rounds 3 ?_
        rw [rounds_succ]
        go_wp2
        go_ret
        exact ⟨rfl, rfl⟩
      · rw [if_pos hc]
        have h1 : ¬ (a : Int) < 48 := by omega
        have h2 : ¬ (57 : Int) < (a : Int) := by omega
        have h3 : IntKind.u8.wrap ((a : Int) - 48) = (a : Int) - 48 := by simp [IntKind.wrap, IntKind.bits, IntKind.signed]; omega
        have h4 : IntKind.i64.wrap ((a : Int) - 48) = (a : Int) - 48 := by simp [IntKind.wrap, IntKind.bits, IntKind.signed]; omega
        go_enter Tryd.func34, Tryd.ntmps34
        go_wp2_with (go_at_call 38; refine (in_any _ _ _ _).mono ?_; rintro e w' ⟨rfl, rfl⟩; rw [show Pl.inB 1 1 2 = true by decide])
        refine wp_loop_rounds 3 ?_
        rw [rounds_succ]
        go_wp2
        rw [rounds_succ]
        go_wp2
        go_ret
        exact ⟨rfl, rfl⟩
    · have hd := dec_two hs
      obtain ⟨a, ha⟩ : ∃ a : Nat, (s[0]'(by omega)).toNat = a := ⟨_, rfl⟩
      obtain ⟨b, hb⟩ : ∃ b : Nat, (s[1]'(by omega)).toNat = b := ⟨_, rfl⟩
      rw [ha, hb] at hd
      rw [hd]
      clear hd
      have hc : a < 48 ∨ 57 < a ∨ (48 ≤ a ∧ a ≤ 57) := by omega
      rcases hc with hc | hc | hc
      · rw [if_neg (by omega)]
        have h1 : (a : Int) < 48 := by omega
        go_enter Tryd.func34, Tryd.ntmps34
        go_wp2_with (go_at_call 38; refine (in_any _ _ _ _).mono ?_; rintro e w' ⟨rfl, rfl⟩; rw [show Pl.inB 2 1 2 = true by decide])
        refine wp_loop_rounds 3 ?_
        rw [rounds_succ]
        go_wp2
        go_ret
        exact ⟨rfl, rfl⟩
      · rw [if_neg (by omega)]
        have h1 : ¬ (a : Int) < 48 := by omega
        have h2 : (57 : Int) < (a : Int) := by omega
        go_enter Tryd.func34, Tryd.ntmps34
        go_wp2_with (go_at_call 38; refine (in_any _ _ _ _).mono ?_; rintro e w' ⟨rfl, rfl⟩; rw [show Pl.inB 2 1 2 = true by decide])
        refine wp_loop_rounds 3 ?_
        rw [rounds_succ]
        go_wp2
        go_ret
        exact ⟨rfl, rfl⟩
      · have h1 : ¬ (a : Int) < 48 := by omega
        have h2 : ¬ (57 : Int) < (a : Int) := by omega
        have h3 : IntKind.u8.wrap ((a : Int) - 48) = (a : Int) - 48 := by simp [IntKind.wrap, IntKind.bits, IntKind.signed]; omega
        have h4 : IntKind.i64.wrap ((a : Int) - 48) = (a : Int) - 48 := by simp [IntKind.wrap, IntKind.bits, IntKind.signed]; omega
        have hc2 : b < 48 ∨ 57 < b ∨ (48 ≤ b ∧ b ≤ 57) := by omega
        rcases hc2 with hc2 | hc2 | hc2
        · rw [if_neg (by omega)]
          have h5 : (b : Int) < 48 := by omega
          go_enter Tryd.func34, Tryd.ntmps34
          go_wp2_with (go_at_call 38; refine (in_any _ _ _ _).mono ?_; rintro e w' ⟨rfl, rfl⟩; rw [show Pl.inB 2 1 2 = true by decide])
          refine wp_loop_rounds 3 ?_
          rw [rounds_succ]
          go_wp2
          rw [rounds_succ]
          go_wp2
          go_ret
          exact ⟨rfl, rfl⟩
        · rw [if_neg (by omega)]
          have h5 : ¬ (b : Int) < 48 := by omega
          have h6 : (57 : Int) < (b : Int) := by omega
          go_enter Tryd.func34, Tryd.ntmps34
          go_wp2_with (go_at_call 38; refine (in_any _ _ _ _).mono ?_; rintro e w' ⟨rfl, rfl⟩; rw [show Pl.inB 2 1 2 = true by decide])
          refine wp_loop_rounds 3 ?_
          rw [rounds_succ]
          go_wp2
          rw [rounds_succ]
          go_wp2
          go_ret
          exact ⟨rfl, rfl⟩
        · rw [if_pos ⟨hc, hc2⟩]
          have h5 : ¬ (b : Int) < 48 := by omega
          have h6 : ¬ (57 : Int) < (b : Int) := by omega
          have h7 : IntKind.u8.wrap ((b : Int) - 48) = (b : Int) - 48 := by simp [IntKind.wrap, IntKind.bits, IntKind.signed]; omega
          have h8 : IntKind.i64.wrap ((b : Int) - 48) = (b : Int) - 48 := by simp [IntKind.wrap, IntKind.bits, IntKind.signed]; omega
          go_enter Tryd.func34, Tryd.ntmps34
          go_wp2_with (go_at_call 38; refine (in_any _ _ _ _).mono ?_; rintro e w' ⟨rfl, rfl⟩; rw [show Pl.inB 2 1 2 = true by decide])
          refine wp_loop_rounds 3 ?_
          rw [rounds_succ]
          go_wp2
          rw [rounds_succ]
          go_wp2
          rw [rounds_succ]
          go_wp2
          go_ret
          exact ⟨rfl, rfl⟩

end Go.Proofs.YtfpjohbcbflnhaaDoor
