/- The plain mathematics of records and logs: what an ok record is, over integers and lists alone; nothing of the program is met here. No conditions. -/
import Derived.WalkKit
namespace Go.Proofs.YtfpjohbcbflnhaaDoor
namespace Pl

def inB (n lo hi : Int) : Bool := decide (lo ≤ n) && decide (n ≤ hi)
def manyOk (zs : List Int) : Bool := zs.all (fun z => inB z 0 3) && (zs.length == 3) && decide (0 < zs.sum)
def holdOk (zs : List Int) : Bool := (zs.length == 1) && inB (zs.headD 0) 1 3
def recOk (k t : Int) (zs : List Int) : Bool :=
  inB t 1 6 && (if k = 1 then holdOk zs else if k = 4 then manyOk zs else inB k 2 7 && (zs.length == 0))

theorem inB_true {n lo hi : Int} (h : inB n lo hi = true) : lo ≤ n ∧ n ≤ hi := by
  simpa [inB] using h
theorem inB_false {n lo hi : Int} (h : inB n lo hi = false) : n < lo ∨ hi < n := by
  simp [inB] at h; omega
theorem inB_mk {n lo hi : Int} (h1 : lo ≤ n) (h2 : n ≤ hi) : inB n lo hi = true := by
  simp [inB, h1, h2]
theorem inB_lo {n lo hi : Int} (h1 : n < lo) : inB n lo hi = false := by
  simp [inB]; omega
theorem inB_hi {n lo hi : Int} (h1 : hi < n) : inB n lo hi = false := by
  simp [inB]; omega

theorem take_snoc (zs : List Int) (k : Nat) (h : k < zs.length) : zs.take (k + 1) = zs.take k ++ [zs.getD k 0] := by
  rw [List.take_succ_eq_append_getElem h]; simp [List.getD_eq_getElem?_getD, h]
theorem sum_snoc (zs : List Int) (k : Nat) (h : k < zs.length) : (zs.take (k + 1)).sum = (zs.take k).sum + zs.getD k 0 := by
  rw [take_snoc zs k h]; simp
theorem all_snoc (p : Int → Bool) (zs : List Int) (k : Nat) (h : k < zs.length) : (zs.take (k + 1)).all p = ((zs.take k).all p && p (zs.getD k 0)) := by
  rw [take_snoc zs k h]; simp
theorem sum_bd (zs : List Int) (h : zs.all (fun z => inB z 0 3) = true) : 0 ≤ zs.sum ∧ zs.sum ≤ 3 * zs.length := by
  induction zs with
  | nil => simp
  | cons z zs ih =>
    simp only [List.all_cons, Bool.and_eq_true] at h
    have := inB_true h.1
    have := ih h.2
    simp; omega
theorem all_bad (p : Int → Bool) (zs : List Int) (k : Nat) (h : k < zs.length) (hp : p (zs.getD k 0) = false) : zs.all p = false := by
  rw [List.all_eq_false]
  refine ⟨zs.getD k 0, ?_, by rw [hp]; decide⟩
  simp [List.getD_eq_getElem?_getD, h]
theorem manyOk_bad (zs : List Int) (k : Nat) (h : k < zs.length) (hp : inB (zs.getD k 0) 0 3 = false) : manyOk zs = false := by
  have := all_bad (fun z => inB z 0 3) zs k h hp
  simp [manyOk, this]
theorem manyOk_end (zs : List Int) (h : zs.all (fun z => inB z 0 3) = true) : manyOk zs = ((zs.length == 3) && decide (0 < zs.sum)) := by
  simp [manyOk, h]
theorem manyOk_len (zs : List Int) (h : zs.length ≠ 3) : manyOk zs = false := by
  simp [manyOk, h]

theorem recOk_t (k t : Int) (zs : List Int) (h : inB t 1 6 = false) : recOk k t zs = false := by simp [recOk, h]
theorem recOk_1 (t : Int) (zs : List Int) (h : inB t 1 6 = true) : recOk 1 t zs = holdOk zs := by simp [recOk, h]
theorem recOk_4 (t : Int) (zs : List Int) (h : inB t 1 6 = true) : recOk 4 t zs = manyOk zs := by simp [recOk, h]
theorem recOk_p (k t : Int) (zs : List Int) (h : inB t 1 6 = true) (h1 : k ≠ 1) (h4 : k ≠ 4) : recOk k t zs = (inB k 2 7 && (zs.length == 0)) := by simp [recOk, h, h1, h4]
theorem recOk_plain (k t : Int) (zs : List Int) (h : inB t 1 6 = true) (h1 : k ≠ 1) (h4 : k ≠ 4) (hk : inB k 2 7 = true) : recOk k t zs = (zs.length == 0) := by rw [recOk_p k t zs h h1 h4, hk]; rfl
theorem recOk_none (k t : Int) (zs : List Int) (h : inB t 1 6 = true) (h1 : k ≠ 1) (h4 : k ≠ 4) (hk : inB k 2 7 = false) : recOk k t zs = false := by rw [recOk_p k t zs h h1 h4, hk]; rfl

def anyPos (zs : List Int) : Bool := zs.any (fun z => decide (0 < z))
theorem anyPos_snoc (zs : List Int) (k : Nat) (h : k < zs.length) : anyPos (zs.take (k + 1)) = (anyPos (zs.take k) || decide (0 < zs.getD k 0)) := by
  rw [take_snoc zs k h]; simp [anyPos]
theorem anyPos_sum (zs : List Int) (h : zs.all (fun z => inB z 0 3) = true) : decide (0 < zs.sum) = anyPos zs := by
  induction zs with
  | nil => rfl
  | cons z zs ih =>
    simp only [List.all_cons, Bool.and_eq_true] at h
    have h1 := inB_true h.1
    have h2 := sum_bd zs h.2
    have h3 := ih h.2
    have h4 : anyPos (z :: zs) = (decide (0 < z) || anyPos zs) := by simp [anyPos]
    have hs : (z :: zs).sum = z + zs.sum := by simp
    rw [h4, ← h3, hs]
    by_cases hz : 0 < z
    · have : 0 < z + zs.sum := by omega
      simp [hz, this]
    · have : z = 0 := by omega
      simp [this]
theorem manyOk_any (zs : List Int) (h : zs.all (fun z => inB z 0 3) = true) (h3 : zs.length = 3) : manyOk zs = anyPos zs := by
  rw [manyOk_end zs h, h3, anyPos_sum zs h]; rfl

end Pl
end Go.Proofs.YtfpjohbcbflnhaaDoor
