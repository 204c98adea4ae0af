/- Contracts of the program's and the specification's LogFall, and of what they call. For all that together has at most 1048576 records and numbers, in a world in which the sentinel's variable holds a pointer to an errors.errorString. -/
import Derived.Test.YtfpjohbcbflnhaaDoorSForce
namespace Go.Proofs.YtfpjohbcbflnhaaDoor
open Go.RowKit

/-- How many are left behind a fall. -/
def fallN (n : Nat) (f keep : Int) : Nat := (if keep ≤ 0 then f else if keep < n - f then f + keep else n).toNat

theorem fallN_le {n : Nat} {f keep : Int} (h0 : 0 ≤ f) (h1 : f ≤ n) : fallN n f keep ≤ n := by
  unfold fallN; split
  · omega
  · split <;> omega

theorem fallN_lo {n F : Nat} {keep : Int} (h : keep ≤ 0) : fallN n F keep = F := by unfold fallN; rw [if_pos h]; simp
theorem fallN_mid {n F K : Nat} (h0 : ¬ (K : Int) ≤ 0) (h : (K : Int) ≤ n - F) : fallN n F K = F + K := by
  unfold fallN; rw [if_neg h0]
  by_cases e : (K : Int) < n - F
  · rw [if_pos e]; omega
  · rw [if_neg e]; omega
theorem fallN_all {n F K : Nat} (h0 : ¬ (K : Int) ≤ 0) (h : ¬ (K : Int) ≤ n - F) : fallN n F K = n := by unfold fallN; rw [if_neg h0, if_neg (by omega)]; simp

theorem flat_take (ps : List (R × Value)) (N : Nat) : flat (ps.take N) = (flat ps).take (N * 3) := by
  induction ps generalizing N with
  | nil => simp [flat]
  | cons p t ih =>
    cases N with
    | zero => simp [flat]
    | succ N =>
      rw [show (N + 1) * 3 = N * 3 + 3 by omega]
      simp [flat, ih]

theorem Made.take {w : World} {lo N : Nat} {ao : Option Addr} {cap : Nat} {rs : List R} (h : Made w lo (.slice ao rs.length cap) rs) (hN : N ≤ rs.length) : Made w lo (.slice ao N cap) (rs.take N) := by
  obtain ⟨ps, hp, h1, h2, h3⟩ := h
  have hpl : ps.length = rs.length := by have := congrArg List.length hp; simpa using this
  refine ⟨ps.take N, by rw [List.map_take, hp], ?_, ?_, h3.1, fun p hp => h3.2.1 p (List.mem_of_mem_take hp), fun i j p q hi hj hij => ?_⟩
  · have hl : (ps.take N).length = N := by rw [List.length_take]; omega
    rw [hl, flat_take]
    refine ⟨by rw [List.length_take, h1.1]; rw [hpl]; omega, ?_⟩
    rcases h1.2 with ⟨hv, hn⟩ | ⟨g, cp, cur, hv, hg, hh, hnc, hcm, hcs, htk⟩
    · simp only [Value.slice.injEq] at hv
      obtain ⟨e1, e2, e3⟩ := hv
      exact Or.inl ⟨by rw [e1, e3, show N = 0 by omega], by omega⟩
    · simp only [Value.slice.injEq] at hv
      obtain ⟨e1, e2, e3⟩ := hv
      refine Or.inr ⟨g, cp, cur, by rw [e1, e3], hg, hh, by omega, hcm, hcs, ?_⟩
      rw [← htk, List.take_take, Nat.min_eq_left (by rw [hpl]; omega)]
  · intro k hk
    refine h2 k ?_
    cases ao with
    | none => cases hk
    | some a => exact hk
  · have hi' : i < N ∧ ps[i]? = some p := by
      rw [List.getElem?_take] at hi
      split at hi
      · exact ⟨by assumption, hi⟩
      · cases hi
    have hj' : j < N ∧ ps[j]? = some q := by
      rw [List.getElem?_take] at hj
      split at hj
      · exact ⟨by assumption, hj⟩
      · cases hj
    exact h3.2.2 i j p q hi'.2 hj'.2 hij

theorem Recs.take {w : World} {N cap : Nat} {ao : Option Addr} {rs : List R} (h : Recs w (.slice ao rs.length cap) rs) (hN : N ≤ rs.length) : Recs w (.slice ao N cap) (rs.take N) := by
  have hl : (rs.take N).length = N := by rw [List.length_take]; omega
  by_cases h0 : N = 0
  · subst h0
    exact Or.inl ⟨by simp, ao, cap, rfl⟩
  rcases h with ⟨hz, _⟩ | ⟨b, off, cp, hv, hz, hc⟩
  · rw [hz] at hN; simp at hN; omega
  · simp only [Value.slice.injEq] at hv
    obtain ⟨e1, _, e3⟩ := hv
    refine Or.inr ⟨b, off, cp, by rw [hl, e1, e3], by intro e; rw [e] at hl; simp at hl; omega, fun i r hr => ?_⟩
    rw [List.getElem?_take] at hr
    split at hr
    · exact hc i r hr
    · cases hr

theorem pre_take (rs : List R) (N : Nat) (hN : N ≤ rs.length) : tot (rs.take N) ≤ tot rs := by
  have h1 := pre_le rs N
  have h2 : pre (rs.take N) (rs.take N).length = pre rs N := by unfold pre; rw [List.take_length]
  unfold tot
  rw [h2, List.length_take]; omega

/-- What a fall leaves. -/
def fallR (rs : List R) (f keep : Int) : List R := if logOk rs f then rs.take (fallN rs.length f keep) else []
def fallF (rs : List R) (f keep : Int) : Int := if logOk rs f then fallN rs.length f keep else 0

theorem logOk_f {rs : List R} {f : Int} (h : logOk rs f = true) : 0 ≤ f ∧ f ≤ rs.length ∧ rs.length ≤ 40 := by
  unfold logOk at h
  simp only [Bool.and_eq_true, decide_eq_true_eq] at h
  have := Pl.inB_true h.2.2
  omega

end Go.Proofs.YtfpjohbcbflnhaaDoor
