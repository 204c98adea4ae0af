/- What records make of trips, as plain data. Nothing is walked here. -/
import Derived.Test.YtilbjgidmfdnkaaTOk
import Derived.Test.YtilbjgidmfdnkaaBlk
namespace Go.Proofs.Ytilbjgidmfdnkaa.T
open Go.RowKit

/-- The state of a trip behind a record that is no beginning; 0, if that may not come. -/
def nextS (s k : Int) : Int := if k = 5 ∧ s = 1 then 2 else if k = 6 ∧ s = 1 then 3 else if k = 7 ∧ s = 2 then 4 else if k = 7 ∧ s = 3 then 5 else 0

/-- The trip of this number; nothing, and 0, if there is none. -/
def tripAt (rs : List R) (t : Int) : R := rs.getD (t - 1).toNat ([], 0)

/-- A record may come, if it is ok. -/
def mayL (rs : List R) (r : Rc) : Bool := if r.1 = 4 then decide (r.2.1 = rs.length + 1) else decide (nextS (tripAt rs r.2.1).2 r.1 ≠ 0)
/-- Trips behind a record that may come. -/
def doL (rs : List R) (r : Rc) : List R := if r.1 = 4 then rs ++ [(r.2.2, 1)] else rs.set (r.2.1 - 1).toNat ((tripAt rs r.2.1).1, nextS (tripAt rs r.2.1).2 r.1)

def tMay (rs : List R) (r : Rc) : Bool := tripsOk rs && (rOk r && mayL rs r)

def stepT (rs : List R) (r : Rc) : Option (List R) := if (rOk r && mayL rs r) = true then some (doL rs r) else none
def runT (qs : List Rc) : Option (List R) := qs.foldl (fun o r => o.bind fun rs => stepT rs r) (some [])

theorem nextS_0 (k : Int) : nextS 0 k = 0 := by unfold nextS; simp
theorem nextS_nz {s k : Int} (h : nextS s k ≠ 0) : 2 ≤ nextS s k ∧ nextS s k ≤ 5 := by
  unfold nextS at h ⊢
  split
  · omega
  · split
    · omega
    · split
      · omega
      · split
        · omega
        · simp_all

theorem rOk_trip {r : Rc} (h : rOk r = true) : 1 ≤ r.2.1 ∧ r.2.1 ≤ 6 := by
  unfold rOk Pl.recOk at h
  simp only [Bool.and_eq_true] at h
  exact Pl.inB_true h.1
theorem rOk_begin {r : Rc} (h : rOk r = true) (h4 : r.1 = 4) : Pl.manyOk r.2.2 = true := by
  unfold rOk Pl.recOk at h
  simp only [Bool.and_eq_true] at h
  have h2 := h.2
  rw [h4] at h2
  simpa using h2
theorem manyOk_three {zs : List Int} (h : Pl.manyOk zs = true) : zs.length = 3 := by
  unfold Pl.manyOk at h
  simp at h
  exact h.1.2

/-- At most six trips, each of three numbers. -/
def Fit (rs : List R) : Prop := rs.length ≤ 6 ∧ ∀ r ∈ rs, r.1.length = 3

theorem Fit.nil : Fit [] := ⟨by simp, fun r h => by simp at h⟩
theorem Fit.tot {rs : List R} (h : Fit rs) : T.tot rs ≤ 1048576 := by
  have : pre rs rs.length = 3 * rs.length := by
    unfold pre
    rw [List.take_length]
    have h2 := h.2
    clear h
    induction rs with
    | nil => rfl
    | cons a t ih =>
      have h3 := h2 a (by simp)
      have := ih (fun r hr => h2 r (by simp [hr]))
      simp only [List.map_cons, List.sum_cons, List.length_cons, h3, this]
      omega
  have h1 := h.1
  unfold T.tot
  omega
theorem fit_ok {rs : List R} (h : tripsOk rs = true) : Fit rs := by
  unfold tripsOk at h
  simp at h
  refine ⟨h.2, fun r hr => ?_⟩
  have h1 := h.1 r.1 r.2 hr
  unfold tOk at h1
  simp at h1
  exact manyOk_three h1.1

theorem tripAt_get {rs : List R} {t : Int} {r : R} (h : rs[(t - 1).toNat]? = some r) : tripAt rs t = r := by unfold tripAt; rw [List.getD_eq_getElem?_getD, h]; rfl
theorem tripAt_none {rs : List R} {t : Int} (h : rs[(t - 1).toNat]? = none) : tripAt rs t = ([], 0) := by unfold tripAt; rw [List.getD_eq_getElem?_getD, h]; rfl

/-- What may come is of a trip that there is. -/
theorem mayL_at {rs : List R} {r : Rc} (h : mayL rs r = true) (h4 : r.1 ≠ 4) : ∃ x, rs[(r.2.1 - 1).toNat]? = some x := by
  cases hg : rs[(r.2.1 - 1).toNat]? with
  | some x => exact ⟨x, rfl⟩
  | none =>
    unfold mayL at h
    rw [if_neg h4, tripAt_none hg] at h
    simp [nextS_0] at h

theorem Fit.doL {rs : List R} {r : Rc} (h : Fit rs) (h1 : rOk r = true) (h2 : mayL rs r = true) : Fit (doL rs r) := by
  unfold T.doL
  by_cases h4 : r.1 = 4
  · rw [if_pos h4]
    have h3 := manyOk_three (rOk_begin h1 h4)
    have h6 := rOk_trip h1
    unfold mayL at h2
    rw [if_pos h4] at h2
    simp at h2
    refine ⟨by simp; omega, fun x hx => ?_⟩
    rcases List.mem_append.1 hx with hx | hx
    · exact h.2 x hx
    · simp at hx; subst hx; exact h3
  · rw [if_neg h4]
    obtain ⟨x, hx⟩ := mayL_at h2 h4
    rw [tripAt_get hx]
    refine ⟨by rw [List.length_set]; exact h.1, fun y hy => ?_⟩
    rcases List.mem_or_eq_of_mem_set hy with hy | hy
    · exact h.2 y hy
    · subst hy; exact h.2 x (List.mem_of_getElem? hx)

theorem runT_nil : runT [] = some [] := rfl
theorem runT_snoc (qs : List Rc) (r : Rc) : runT (qs ++ [r]) = (runT qs).bind fun rs => stepT rs r := by simp [runT, List.foldl_append]
theorem foldl_none (qs : List Rc) : qs.foldl (fun (o : Option (List R)) r => o.bind fun rs => stepT rs r) none = none := by
  induction qs with
  | nil => rfl
  | cons a t ih => exact ih
theorem runT_cut {qs : List Rc} {k : Nat} (h : runT (qs.take k) = none) : runT qs = none := by
  have h2 : runT qs = (qs.drop k).foldl (fun o r => o.bind fun rs => stepT rs r) (runT (qs.take k)) := by
    unfold runT
    rw [← List.foldl_append, List.take_append_drop]
  rw [h2, h, foldl_none]
theorem take_snoc {qs : List Rc} {k : Nat} {r : Rc} (h : qs[k]? = some r) : qs.take (k + 1) = qs.take k ++ [r] := by
  have hk : k < qs.length := by
    by_cases hk : k < qs.length
    · exact hk
    · rw [List.getElem?_eq_none (by omega)] at h; cases h
  rw [List.getElem?_eq_getElem hk] at h
  simp only [Option.some.injEq] at h
  rw [List.take_succ_eq_append_getElem hk, h]
theorem runT_bad {qs : List Rc} {k : Nat} {r : Rc} {rs : List R} (h : qs[k]? = some r) (hr : runT (qs.take k) = some rs) (hb : (rOk r && mayL rs r) = false) : runT qs = none := by
  refine runT_cut (k := k + 1) ?_
  rw [take_snoc h, runT_snoc, hr]
  show stepT rs r = none
  unfold stepT
  rw [hb]
  rfl
theorem runT_good {qs : List Rc} {k : Nat} {r : Rc} {rs : List R} (h : qs[k]? = some r) (hr : runT (qs.take k) = some rs) (hb : (rOk r && mayL rs r) = true) : runT (qs.take (k + 1)) = some (doL rs r) := by
  rw [take_snoc h, runT_snoc, hr]
  show stepT rs r = some _
  unfold stepT
  rw [hb]
  rfl
theorem runT_fit {qs : List Rc} {rs : List R} (h : runT qs = some rs) : Fit rs := by
  have key : ∀ k, k ≤ qs.length → ∀ rs, runT (qs.take k) = some rs → Fit rs := by
    intro k
    induction k with
    | zero => intro _ rs h; rw [List.take_zero, runT_nil] at h; cases h; exact Fit.nil
    | succ k ih =>
      intro hk rs h
      have hg : qs[k]? = some qs[k] := List.getElem?_eq_getElem (by omega)
      rw [take_snoc hg, runT_snoc] at h
      cases hr : runT (qs.take k) with
      | none => rw [hr] at h; cases h
      | some xs =>
        rw [hr] at h
        have h' : stepT xs qs[k] = some rs := h
        unfold stepT at h'
        split at h'
        · next hb =>
          simp only [Option.some.injEq] at h'
          subst h'
          simp only [Bool.and_eq_true] at hb
          exact (ih (by omega) xs hr).doL hb.1 hb.2
        · cases h'
  refine key qs.length (Nat.le_refl _) rs ?_
  rw [List.take_length]; exact h

end Go.Proofs.Ytilbjgidmfdnkaa.T
