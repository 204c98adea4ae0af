/- Contracts of the specification's l12May, TripsMay and l12Copy. For all that together has at most 1048576 trips, records and numbers. -/
import Derived.Test.YtilbjgidmfdnkaaTImpl
namespace Go.Proofs.Ytilbjgidmfdnkaa.T
open Go.RowKit

theorem mayL_4 {rs : List R} {t : Int} {zs : List Int} : mayL rs (4, t, zs) = decide (t = (rs.length : Int) + 1) := by unfold mayL; simp
theorem mayL_no {rs : List R} {k t : Int} {zs : List Int} (h4 : k ≠ 4) (ht : (rs.length : Int) < t) : mayL rs (k, t, zs) = false := by
  unfold mayL
  rw [if_neg h4]
  dsimp only
  rw [tripAt_none (List.getElem?_eq_none (by omega)), nextS_0]
  rfl
theorem mayL_at' {rs : List R} {k t : Int} {zs : List Int} {x : R} (h4 : k ≠ 4) (hx : rs[(t - 1).toNat]? = some x) : mayL rs (k, t, zs) = decide (nextS x.2 k ≠ 0) := by
  unfold mayL
  rw [if_neg h4]
  dsimp only
  rw [tripAt_get hx]

set_option maxHeartbeats 2000000 in
theorem l12May_any (v : Value) (rs : List R) (k t : Int) (u : Value) (zs : List Int) (w : World) (hv : Recs w v rs) (hl : tot rs ≤ 1048576) (hu : ∃ ao n cap, u = .slice ao n cap) (ht : 1 ≤ t) (ht6 : t ≤ 6) :
    Calls Try.prog 20 #[v, .agg #[.int .i64 k, .int .i64 t, u]] w fun e w' => e = .returned (.bool (mayL rs (k, t, zs))) ∧ Below w.heap.size w w' := by
  have hlen := tot_len rs
  obtain ⟨au, nu, cu, rfl⟩ := hu
  obtain ⟨av, cv, hvs⟩ := hv.shape
  by_cases h4 : k = 4
  · subst h4
    rw [mayL_4]
    subst hvs
    clear hv
    by_cases he : t = (rs.length : Int) + 1
    · have HE : Hid (decide (t = (rs.length : Int) + 1) = true) := by show _ = _; simp [he]
      rw [HE.out]
      have he2 : (t == (rs.length : Int) + 1) = true := by simp [he]
      clear he
      go_enter Try.func20, Try.ntmps20
      go_wp2
      go_ret
      exact ⟨by simp, alloc_below _ _⟩
    · have HE : Hid (decide (t = (rs.length : Int) + 1) = false) := by show _ = _; simp [he]
      rw [HE.out]
      have he2 : (t == (rs.length : Int) + 1) = false := by simp [he]
      go_enter Try.func20, Try.ntmps20
      go_wp2
      go_ret
      exact ⟨by simp, alloc_below _ _⟩
  by_cases hgt : (rs.length : Int) < t
  · have HE : Hid (mayL rs (k, t, zs) = false) := mayL_no h4 hgt
    subst hvs
    clear hv
    go_enter Try.func20, Try.ntmps20
    go_wp2
    go_ret
    exact ⟨by rw [HE.out]; rfl, alloc_below _ _⟩
  rcases hv with ⟨h0, _⟩ | ⟨b, off, cap, hvv, _, hcl⟩
  · rw [h0] at hgt; simp at hgt; omega
  subst hvs
  simp only [Value.slice.injEq] at hvv
  obtain ⟨rfl, -, rfl⟩ := hvv
  obtain ⟨i, hi⟩ : ∃ i : Nat, t = (i : Int) + 1 := ⟨(t - 1).toNat, by omega⟩
  subst hi
  have hil : i < rs.length := by omega
  obtain ⟨x, hx⟩ : ∃ x, Hid (rs[i]? = some x) := ⟨rs[i], by show _ = _; simp [hil]⟩
  obtain ⟨y, c0, c1, hI⟩ := hcl i x hx.out
  have HE : Hid (mayL rs (k, (i : Int) + 1, zs) = decide (nextS x.2 k ≠ 0)) := mayL_at' h4 (by rw [show ((i : Int) + 1 - 1).toNat = i by omega]; exact hx.out)
  have c1o : ∀ o, (w.alloc o).cell? ⟨b, off + i * 2 + 1, none⟩ = some (.int .i64 x.2) := fun o => cellAlloc c1 o
  have hbw : b < w.heap.size := World.block_lt_of_cell? _ _ c0
  clear hcl hI c0
  rw [HE.out]
  by_cases h5 : k = 5
  · subst h5
    by_cases hs : x.2 = 1
    · have HN : Hid (decide (nextS x.2 5 ≠ 0) = true) := by show _ = _; rw [hs]; rfl
      rw [HN.out]
      have hs2 : (x.2 == 1) = true := by simp [hs]
      clear hs
      go_enter Try.func20, Try.ntmps20
      go_wp2
      go_ret
      exact ⟨by simp, alloc_below _ _⟩
    · have HN : Hid (decide (nextS x.2 5 ≠ 0) = false) := by show _ = _; simp [nextS, hs]
      rw [HN.out]
      have hs2 : (x.2 == 1) = false := by simp [hs]
      go_enter Try.func20, Try.ntmps20
      go_wp2
      go_ret
      exact ⟨by simp, alloc_below _ _⟩
  by_cases h6 : k = 6
  · subst h6
    by_cases hs : x.2 = 1
    · have HN : Hid (decide (nextS x.2 6 ≠ 0) = true) := by show _ = _; rw [hs]; rfl
      rw [HN.out]
      have hs2 : (x.2 == 1) = true := by simp [hs]
      clear hs
      go_enter Try.func20, Try.ntmps20
      go_wp2
      go_ret
      exact ⟨by simp, alloc_below _ _⟩
    · have HN : Hid (decide (nextS x.2 6 ≠ 0) = false) := by show _ = _; simp [nextS, hs]
      rw [HN.out]
      have hs2 : (x.2 == 1) = false := by simp [hs]
      go_enter Try.func20, Try.ntmps20
      go_wp2
      go_ret
      exact ⟨by simp, alloc_below _ _⟩
  by_cases h7 : k = 7
  · subst h7
    by_cases hs : x.2 = 2
    · have HN : Hid (decide (nextS x.2 7 ≠ 0) = true) := by show _ = _; rw [hs]; rfl
      rw [HN.out]
      rw [hs] at c1 c1o
      clear hs
      go_enter Try.func20, Try.ntmps20
      go_wp2
      go_ret
      exact ⟨by simp, alloc_below _ _⟩
    by_cases hs3 : x.2 = 3
    · have HN : Hid (decide (nextS x.2 7 ≠ 0) = true) := by show _ = _; rw [hs3]; rfl
      rw [HN.out]
      rw [hs3] at c1 c1o
      clear hs hs3
      go_enter Try.func20, Try.ntmps20
      go_wp2
      go_ret
      exact ⟨by simp, alloc_below _ _⟩
    have HN : Hid (decide (nextS x.2 7 ≠ 0) = false) := by show _ = _; simp [nextS, hs, hs3]
    rw [HN.out]
    have e2 : (x.2 == 2) = false := by simp [hs]
    have e3 : (x.2 == 3) = false := by simp [hs3]
    go_enter Try.func20, Try.ntmps20
    go_wp2
    go_ret
    exact ⟨by simp, alloc_below _ _⟩
  have HN : Hid (decide (nextS x.2 k ≠ 0) = false) := by show _ = _; simp [nextS, h5, h6, h7]
  rw [HN.out]
  go_enter Try.func20, Try.ntmps20
  go_wp2
  go_ret
  exact ⟨rfl, alloc_below _ _⟩

end Go.Proofs.Ytilbjgidmfdnkaa.T
