/- What records make of trips is ok, and what came does not come again, as plain data. Nothing is walked here. -/
import Derived.Test.YtilbjgidmfdnkaaTSpec
namespace Go.Proofs.Ytilbjgidmfdnkaa.T
open Go.RowKit

theorem tripsOk_mk {rs : List R} (h1 : rs.all tOk = true) (h2 : rs.length ≤ 6) : tripsOk rs = true := by unfold tripsOk; rw [h1]; simp [h2]
theorem tripsOk_all {rs : List R} (h : tripsOk rs = true) : rs.all tOk = true ∧ rs.length ≤ 6 := by
  unfold tripsOk at h
  simp only [Bool.and_eq_true, decide_eq_true_eq] at h
  exact h

/-- Ok trips behind a record that may come are ok. -/
theorem doL_ok {rs : List R} {r : Rc} (h : tripsOk rs = true) (h1 : rOk r = true) (h2 : mayL rs r = true) : tripsOk (doL rs r) = true := by
  obtain ⟨ha, hl⟩ := tripsOk_all h
  have hf := ((fit_ok h).doL h1 h2).1
  refine tripsOk_mk ?_ hf
  unfold doL
  by_cases h4 : r.1 = 4
  · rw [if_pos h4, List.all_append, ha]
    have : tOk (r.2.2, 1) = true := by unfold tOk; rw [rOk_begin h1 h4]; rfl
    simp [this]
  · rw [if_neg h4]
    obtain ⟨x, hx⟩ := mayL_at h2 h4
    have hn : nextS x.2 r.1 ≠ 0 := by
      unfold mayL at h2
      rw [if_neg h4, tripAt_get hx] at h2
      simpa using h2
    rw [tripAt_get hx]
    rw [List.all_eq_true]
    intro y hy
    rcases List.mem_or_eq_of_mem_set hy with hy | hy
    · exact List.all_eq_true.1 ha y hy
    · subst hy
      have hxo := List.all_eq_true.1 ha x (List.mem_of_getElem? hx)
      unfold tOk at hxo ⊢
      simp only [Bool.and_eq_true] at hxo ⊢
      have := nextS_nz hn
      exact ⟨hxo.1, Pl.inB_mk (by omega) (by omega)⟩

theorem runT_ok {qs : List Rc} {rs : List R} (h : runT qs = some rs) : tripsOk rs = true := by
  have key : ∀ k, k ≤ qs.length → ∀ rs, runT (qs.take k) = some rs → tripsOk rs = true := by
    intro k
    induction k with
    | zero => intro _ rs h; rw [List.take_zero, runT_nil] at h; cases h; rfl
    | succ k ih =>
      intro hk rs h
      have hg : qs[k]? = some qs[k] := List.getElem?_eq_getElem (by omega)
      rw [take_snoc hg, runT_snoc] at h
      cases hr : runT (qs.take k) with
      | none => rw [hr] at h; cases h
      | some xs =>
        rw [hr] at h
        have h' : stepT xs qs[k] = some rs := h
        unfold stepT at h'
        split at h'
        · next hb =>
          simp only [Option.some.injEq] at h'
          subst h'
          simp only [Bool.and_eq_true] at hb
          exact doL_ok (ih (by omega) xs hr) hb.1 hb.2
        · cases h'
  refine key qs.length (Nat.le_refl _) rs ?_
  rw [List.take_length]; exact h

theorem nextS_twice (s k : Int) : nextS (nextS s k) k = 0 := by
  unfold nextS
  by_cases a : k = 5 ∧ s = 1
  · rw [if_pos a]; simp [a.1]
  rw [if_neg a]
  by_cases b : k = 6 ∧ s = 1
  · rw [if_pos b]; simp [b.1]
  rw [if_neg b]
  by_cases c : k = 7 ∧ s = 2
  · rw [if_pos c]; simp
  rw [if_neg c]
  by_cases d : k = 7 ∧ s = 3
  · rw [if_pos d]; simp
  rw [if_neg d]
  simp

/-- What came does not come again. -/
theorem again_no {rs : List R} {r : Rc} (h1 : rOk r = true) (h2 : mayL rs r = true) : mayL (doL rs r) r = false := by
  obtain ⟨k, t, zs⟩ := r
  obtain ⟨ht1, _⟩ := rOk_trip h1
  dsimp only at ht1
  by_cases h4 : k = 4
  · subst h4
    rw [mayL_4] at h2
    simp at h2
    rw [show doL rs (4, t, zs) = rs ++ [(zs, 1)] by unfold doL; rw [if_pos rfl], mayL_4]
    simp; omega
  · obtain ⟨x, hx⟩ := mayL_at h2 h4
    dsimp only at hx
    have hl := len_lt hx
    have hd : doL rs (k, t, zs) = rs.set (t - 1).toNat (x.1, nextS x.2 k) := by
      unfold doL
      rw [if_neg h4]
      dsimp only
      rw [tripAt_get hx]
    rw [hd, mayL_at' h4 (x := (x.1, nextS x.2 k)) (by rw [List.getElem?_set, if_pos rfl, if_pos hl]), nextS_twice]
    rfl

end Go.Proofs.Ytilbjgidmfdnkaa.T
