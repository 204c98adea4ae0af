/- The number that a reader picks. -/
import Derived.Test.YtfpjohbcbflnhaaDoorRd
namespace Go.Proofs.YtfpjohbcbflnhaaDoor
open Go.RowKit

theorem xor_nonneg (x y : Int) (hx0 : 0 ≤ x) (hx : x ≤ 1000000000000) (hy0 : 0 ≤ y) (hy : y ≤ 1000000000000) : 0 ≤ bits .xor .i64 x y := by
  obtain ⟨a, rfl⟩ := Int.eq_ofNat_of_zero_le hx0
  obtain ⟨c, rfl⟩ := Int.eq_ofNat_of_zero_le hy0
  have hlt : a ^^^ c < 2 ^ 62 := Nat.xor_lt_two_pow (by omega) (by omega)
  have h1 : (BitVec.ofInt 64 (a : Int)).toNat = a := by
    rw [BitVec.ofInt_natCast, BitVec.toNat_ofNat]; exact Nat.mod_eq_of_lt (by omega)
  have h2 : (BitVec.ofInt 64 (c : Int)).toNat = c := by
    rw [BitVec.ofInt_natCast, BitVec.toNat_ofNat]; exact Nat.mod_eq_of_lt (by omega)
  show 0 ≤ IntKind.i64.wrap ((BitVec.ofInt 64 (a : Int) ^^^ BitVec.ofInt 64 (c : Int)).toNat : Int)
  rw [BitVec.toNat_xor, h1, h2]
  simp [IntKind.wrap, IntKind.bits, IntKind.signed]
  omega

theorem Mid.drewN {lo hi : Nat} {w w' : World} (h : Mid lo hi w w') (n : Nat) : Mid lo hi w (w'.drewN n) := h.trans ⟨rfl, rfl, rfl, Nat.le_refl _, fun _ _ _ => rfl⟩
theorem Rd.drewN {w : World} {b p : Nat} (h : Rd w b p) (n : Nat) : Rd (w.drewN n) b p := h.later (below_drewN (Below.refl _ _) n) (Nat.le_refl _)

set_option maxRecDepth 100000 in
set_option maxHeartbeats 4000000 in
theorem pick_any (b p : Nat) (n : Int) (w : World) (h : Rd w b p) (hp : p ≤ 1000000) (hn : 1 ≤ n) (hn2 : n ≤ 1000000) :
    Calls Tryd.prog 31 #[.pointer (some ⟨b, 0, none⟩), .int .i64 n] w fun e w' => ∃ x : Int, e = .returned (.int .i64 x) ∧ 0 ≤ x ∧ x < n ∧ Rd w' b (p + 1) ∧ Mid b (b + 1) w w' := by
  have hblt := h.lt
  obtain ⟨v, m, hm, hh, hB⟩ := h
  have c0 : w.cell? ⟨b, 0, none⟩ = some v := by rw [cell_of_row w _ _ _ _ _ hh]; rfl
  have c1 : w.cell? ⟨b, 1, none⟩ = some (.int .i64 p) := by rw [cell_of_row w _ _ _ _ _ hh]; rfl
  have f1 : w.frozen? ⟨b, 1, none⟩ = false := frozen_of_row w _ _ _ _ hh
  have HR : Hid (Rd (w.setCell ⟨b, 1, none⟩ (.int .i64 ((p + 1 : Nat) : Int))) b (p + 1)) := rd_set hm hh hB
  obtain ⟨ao, cap, rfl, hc⟩ := hB
  clear hh
  by_cases h0 : m = 0
  · subst h0
    clear hc
    go_enter Tryd.func31, Tryd.ntmps31
    go_wp2
    go_ret
    exact ⟨0, rfl, by omega, by omega, HR.out, Mid.set _⟩
  obtain ⟨g, off, rfl, hg, hz⟩ := hc h0
  by_cases hlt : p < m
  · obtain ⟨z, hz1, hz2, hz3⟩ := hz p hlt
    clear hc hz
    have hgb : g ≠ b := by omega
    go_enter Tryd.func31, Tryd.ntmps31
    go_wp2
    · go_ret
      exact ⟨0, rfl, by omega, by omega, HR.out, Mid.set _⟩
    · go_ret
      exact ⟨z % n, rfl, Int.emod_nonneg _ (by omega), Int.emod_lt_of_pos _ (by omega), HR.out, Mid.set _⟩
  · have hm0 : 0 < m := by omega
    have hgb : g ≠ b := by omega
    obtain ⟨z, hz1, hz2, hz3⟩ := hz (p % m) (Nat.mod_lt _ hm0)
    obtain ⟨y, hy1, hy2, hy3⟩ := hz ((p * 7 + 3) % m) (Nat.mod_lt _ hm0)
    obtain ⟨a, HA⟩ : ∃ a : Nat, Hid (a = p % m) := ⟨_, rfl⟩
    obtain ⟨c, HC⟩ : ∃ c : Nat, Hid (c = (p * 7 + 3) % m) := ⟨_, rfl⟩
    have ha : a < m := by rw [HA.out]; exact Nat.mod_lt _ hm0
    have hcm : c < m := by rw [HC.out]; exact Nat.mod_lt _ hm0
    rw [← HA.out] at hz1
    rw [← HC.out] at hy1
    have hi1 : ((p : Int) % (m : Int)) = (a : Int) := by rw [HA.out]; simp
    have hi2 : (((p : Int) * 7 + 3) % (m : Int)) = (c : Int) := by rw [HC.out]; simp
    obtain ⟨d, HD⟩ : ∃ d : Int, Hid (d = (p : Int) / (m : Int)) := ⟨_, rfl⟩
    have hd0 : 0 ≤ d := by rw [HD.out]; exact Int.ediv_nonneg (by omega) (by omega)
    have hd1 : d ≤ 1000000 := by rw [HD.out]; exact Int.le_trans (Int.ediv_le_self _ (by omega)) (by omega)
    have hi3 : (p : Int) / (m : Int) = d := HD.out.symm
    clear hc hz
    go_enter Tryd.func31, Tryd.ntmps31
    go_wp2
    · go_ret
      exact ⟨0, rfl, by omega, by omega, HR.out, Mid.set _⟩
    · go_quiet (fail)
      go_wp2
      go_ret
      refine ⟨_, rfl, ?_, ?_, HR.out.drewN _, (Mid.set _).drewN _⟩
      · exact Int.tmod_nonneg _ (xor_nonneg _ _ (by omega) (by omega) (by omega) (by omega))
      · exact Int.tmod_lt_of_pos _ (by omega)

end Go.Proofs.YtfpjohbcbflnhaaDoor
