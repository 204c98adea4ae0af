/- Contracts of the specification's l12Do, TripsDo and TripsOf. For all that together has at most 1048576 trips, records and numbers. -/
import Derived.Test.YtilbjgidmfdnkaaTSpec3
namespace Go.Proofs.Ytilbjgidmfdnkaa.T
open Go.RowKit

theorem MDrew {w : World} {lo : Nat} {v : Value} {rs : List R} (h : Made w lo v rs) : Made w.drew lo v rs := h.below (Below.refl _ _).drew (Nat.le_refl _)

set_option maxRecDepth 100000 in
set_option maxHeartbeats 4000000 in
theorem l12Do_yes (v : Value) (rs : List R) (i : Nat) (x : R) (au : Option Addr) (nu cu lo : Nat) (w : World) (hm : Made w lo v rs) (hn : rs.length ≤ 6) (hx : rs[i]? = some x) (hs : x.2 = 1) :
    Calls Try.prog 21 #[v, .agg #[.int .i64 5, .int .i64 ((i : Int) + 1), .slice au nu cu]] w fun e w' => DoOut w w' e lo (rs.set i (x.1, 2)) := by
  have hil := len_lt hx
  have hz : rs ≠ [] := fun e => by rw [e] at hil; simp at hil
  obtain ⟨g, cap, rfl, hce, hfz, hgw, hst⟩ := hm.shape hz
  have c1 := hst i x hx
  rw [hs] at c1
  have f1 := hfz (i * 2 + 1)
  have hlw : lo ≤ w.heap.size := by
    obtain ⟨ps, hps, row, _, _⟩ := hm
    have := row.lt g rfl
    omega
  have MT : Hid (∀ o, Made ((w.setCell ⟨g, i * 2 + 1, none⟩ (.int .i64 2)).alloc o) lo (.slice (some ⟨g, 0, none⟩) rs.length cap) (rs.set i (x.1, 2)) ∧ Below lo w ((w.setCell ⟨g, i * 2 + 1, none⟩ (.int .i64 2)).alloc o)) := fun o => by
    have h := hm.turn 2 rfl hx
    exact ⟨h.1.below (alloc_below _ o) (Nat.le_refl _), h.2.alloc (by simpa using hlw) o⟩
  have c1o : ∀ o, (w.alloc o).cell? ⟨g, i * 2 + 1, none⟩ = some (.int .i64 1) := fun o => cellAlloc c1 o
  have f1o : ∀ o, (w.alloc o).frozen? ⟨g, i * 2 + 1, none⟩ = false := fun o => by
    rw [← f1]; exact (alloc_below w o).frozen (p := ⟨g, i * 2 + 1, none⟩) hgw
  clear hm hst hce hfz hs
  go_enter Try.func21, Try.ntmps21
  go_wp2
  refine bodyPost_ret (v := .slice (some ⟨g, 0, none⟩) rs.length cap) (by simp [results, Try.results21, go_sem]) rfl ?_
  unfold DoOut
  rw [List.length_set]
  refine ⟨_, cap, rfl, ?_, ?_⟩
  · first
      | exact (MT.out _).1
      | exact MDrew (MT.out _).1
  · first
      | exact (MT.out _).2
      | exact (MT.out _).2.drew

set_option maxRecDepth 100000 in
set_option maxHeartbeats 4000000 in
theorem l12Do_no (v : Value) (rs : List R) (i : Nat) (x : R) (au : Option Addr) (nu cu lo : Nat) (w : World) (hm : Made w lo v rs) (hn : rs.length ≤ 6) (hx : rs[i]? = some x) (hs : x.2 = 1) :
    Calls Try.prog 21 #[v, .agg #[.int .i64 6, .int .i64 ((i : Int) + 1), .slice au nu cu]] w fun e w' => DoOut w w' e lo (rs.set i (x.1, 3)) := by
  have hil := len_lt hx
  have hz : rs ≠ [] := fun e => by rw [e] at hil; simp at hil
  obtain ⟨g, cap, rfl, hce, hfz, hgw, hst⟩ := hm.shape hz
  have c1 := hst i x hx
  rw [hs] at c1
  have f1 := hfz (i * 2 + 1)
  have hlw : lo ≤ w.heap.size := by
    obtain ⟨ps, hps, row, _, _⟩ := hm
    have := row.lt g rfl
    omega
  have MT : Hid (∀ o, Made ((w.setCell ⟨g, i * 2 + 1, none⟩ (.int .i64 3)).alloc o) lo (.slice (some ⟨g, 0, none⟩) rs.length cap) (rs.set i (x.1, 3)) ∧ Below lo w ((w.setCell ⟨g, i * 2 + 1, none⟩ (.int .i64 3)).alloc o)) := fun o => by
    have h := hm.turn 3 rfl hx
    exact ⟨h.1.below (alloc_below _ o) (Nat.le_refl _), h.2.alloc (by simpa using hlw) o⟩
  have c1o : ∀ o, (w.alloc o).cell? ⟨g, i * 2 + 1, none⟩ = some (.int .i64 1) := fun o => cellAlloc c1 o
  have f1o : ∀ o, (w.alloc o).frozen? ⟨g, i * 2 + 1, none⟩ = false := fun o => by
    rw [← f1]; exact (alloc_below w o).frozen (p := ⟨g, i * 2 + 1, none⟩) hgw
  clear hm hst hce hfz hs
  go_enter Try.func21, Try.ntmps21
  go_wp2
  refine bodyPost_ret (v := .slice (some ⟨g, 0, none⟩) rs.length cap) (by simp [results, Try.results21, go_sem]) rfl ?_
  unfold DoOut
  rw [List.length_set]
  refine ⟨_, cap, rfl, ?_, ?_⟩
  · first
      | exact (MT.out _).1
      | exact MDrew (MT.out _).1
  · first
      | exact (MT.out _).2
      | exact (MT.out _).2.drew

set_option maxRecDepth 100000 in
set_option maxHeartbeats 4000000 in
theorem l12Do_kept (v : Value) (rs : List R) (i : Nat) (x : R) (au : Option Addr) (nu cu lo : Nat) (w : World) (hm : Made w lo v rs) (hn : rs.length ≤ 6) (hx : rs[i]? = some x) (hs : x.2 = 2) :
    Calls Try.prog 21 #[v, .agg #[.int .i64 7, .int .i64 ((i : Int) + 1), .slice au nu cu]] w fun e w' => DoOut w w' e lo (rs.set i (x.1, 4)) := by
  have hil := len_lt hx
  have hz : rs ≠ [] := fun e => by rw [e] at hil; simp at hil
  obtain ⟨g, cap, rfl, hce, hfz, hgw, hst⟩ := hm.shape hz
  have c1 := hst i x hx
  rw [hs] at c1
  have f1 := hfz (i * 2 + 1)
  have hlw : lo ≤ w.heap.size := by
    obtain ⟨ps, hps, row, _, _⟩ := hm
    have := row.lt g rfl
    omega
  have MT : Hid (∀ o, Made ((w.setCell ⟨g, i * 2 + 1, none⟩ (.int .i64 4)).alloc o) lo (.slice (some ⟨g, 0, none⟩) rs.length cap) (rs.set i (x.1, 4)) ∧ Below lo w ((w.setCell ⟨g, i * 2 + 1, none⟩ (.int .i64 4)).alloc o)) := fun o => by
    have h := hm.turn 4 rfl hx
    exact ⟨h.1.below (alloc_below _ o) (Nat.le_refl _), h.2.alloc (by simpa using hlw) o⟩
  have c1o : ∀ o, (w.alloc o).cell? ⟨g, i * 2 + 1, none⟩ = some (.int .i64 2) := fun o => cellAlloc c1 o
  have f1o : ∀ o, (w.alloc o).frozen? ⟨g, i * 2 + 1, none⟩ = false := fun o => by
    rw [← f1]; exact (alloc_below w o).frozen (p := ⟨g, i * 2 + 1, none⟩) hgw
  clear hm hst hce hfz hs
  go_enter Try.func21, Try.ntmps21
  go_wp2
  go_region
  go_wp2
  refine bodyPost_ret (v := .slice (some ⟨g, 0, none⟩) rs.length cap) (by simp [results, Try.results21, go_sem]) rfl ?_
  unfold DoOut
  rw [List.length_set]
  refine ⟨_, cap, rfl, ?_, ?_⟩
  · first
      | exact (MT.out _).1
      | exact MDrew (MT.out _).1
  · first
      | exact (MT.out _).2
      | exact (MT.out _).2.drew

set_option maxRecDepth 100000 in
set_option maxHeartbeats 4000000 in
theorem l12Do_left (v : Value) (rs : List R) (i : Nat) (x : R) (au : Option Addr) (nu cu lo : Nat) (w : World) (hm : Made w lo v rs) (hn : rs.length ≤ 6) (hx : rs[i]? = some x) (hs : x.2 = 3) :
    Calls Try.prog 21 #[v, .agg #[.int .i64 7, .int .i64 ((i : Int) + 1), .slice au nu cu]] w fun e w' => DoOut w w' e lo (rs.set i (x.1, 5)) := by
  have hil := len_lt hx
  have hz : rs ≠ [] := fun e => by rw [e] at hil; simp at hil
  obtain ⟨g, cap, rfl, hce, hfz, hgw, hst⟩ := hm.shape hz
  have c1 := hst i x hx
  rw [hs] at c1
  have f1 := hfz (i * 2 + 1)
  have hlw : lo ≤ w.heap.size := by
    obtain ⟨ps, hps, row, _, _⟩ := hm
    have := row.lt g rfl
    omega
  have MT : Hid (∀ o, Made ((w.setCell ⟨g, i * 2 + 1, none⟩ (.int .i64 5)).alloc o) lo (.slice (some ⟨g, 0, none⟩) rs.length cap) (rs.set i (x.1, 5)) ∧ Below lo w ((w.setCell ⟨g, i * 2 + 1, none⟩ (.int .i64 5)).alloc o)) := fun o => by
    have h := hm.turn 5 rfl hx
    exact ⟨h.1.below (alloc_below _ o) (Nat.le_refl _), h.2.alloc (by simpa using hlw) o⟩
  have c1o : ∀ o, (w.alloc o).cell? ⟨g, i * 2 + 1, none⟩ = some (.int .i64 3) := fun o => cellAlloc c1 o
  have f1o : ∀ o, (w.alloc o).frozen? ⟨g, i * 2 + 1, none⟩ = false := fun o => by
    rw [← f1]; exact (alloc_below w o).frozen (p := ⟨g, i * 2 + 1, none⟩) hgw
  clear hm hst hce hfz hs
  go_enter Try.func21, Try.ntmps21
  go_wp2
  go_region
  go_wp2
  refine bodyPost_ret (v := .slice (some ⟨g, 0, none⟩) rs.length cap) (by simp [results, Try.results21, go_sem]) rfl ?_
  unfold DoOut
  rw [List.length_set]
  refine ⟨_, cap, rfl, ?_, ?_⟩
  · first
      | exact (MT.out _).1
      | exact MDrew (MT.out _).1
  · first
      | exact (MT.out _).2
      | exact (MT.out _).2.drew

/-- l12Do of whatever may come. -/
theorem l12Do_any (v : Value) (rs : List R) (r : Rc) (u : Value) (lo : Nat) (w : World) (hm : Made w lo v rs) (hf : Fit rs) (hlo : lo ≤ w.heap.size) (hu : Ints w u r.2.2) (h1 : rOk r = true) (h2 : mayL rs r = true) :
    Calls Try.prog 21 #[v, .agg #[.int .i64 r.1, .int .i64 r.2.1, u]] w fun e w' => DoOut w w' e lo (doL rs r) := by
  obtain ⟨k, t, zs⟩ := r
  obtain ⟨ht1, ht6⟩ := rOk_trip h1
  dsimp only at ht1 ht6 hu
  by_cases h4 : k = 4
  · subst h4
    have h3 := manyOk_three (rOk_begin h1 rfl)
    rw [doL_begin rfl]
    exact l12Do_begin v rs t u zs lo w hm hf.1 hlo hu h3
  obtain ⟨i, hi⟩ : ∃ i : Nat, t = (i : Int) + 1 := ⟨(t - 1).toNat, by omega⟩
  subst hi
  have e : ((i : Int) + 1 - 1).toNat = i := by omega
  obtain ⟨x, hx⟩ := mayL_at h2 h4
  dsimp only at hx
  rw [e] at hx
  rw [mayL_at' h4 (by rw [e]; exact hx)] at h2
  simp only [decide_eq_true_eq] at h2
  rw [doL_at h4 hx]
  obtain ⟨au, cu, rfl⟩ := hu.shape
  by_cases h5 : k = 5 ∧ x.2 = 1
  · obtain ⟨rfl, hs⟩ := h5
    rw [show nextS x.2 5 = 2 by rw [hs]; rfl]
    exact l12Do_yes v rs i x au _ cu lo w hm hf.1 hx hs
  by_cases h6 : k = 6 ∧ x.2 = 1
  · obtain ⟨rfl, hs⟩ := h6
    rw [show nextS x.2 6 = 3 by rw [hs]; rfl]
    exact l12Do_no v rs i x au _ cu lo w hm hf.1 hx hs
  by_cases h7 : k = 7 ∧ x.2 = 2
  · obtain ⟨rfl, hs⟩ := h7
    rw [show nextS x.2 7 = 4 by rw [hs]; rfl]
    exact l12Do_kept v rs i x au _ cu lo w hm hf.1 hx hs
  by_cases h8 : k = 7 ∧ x.2 = 3
  · obtain ⟨rfl, hs⟩ := h8
    rw [show nextS x.2 7 = 5 by rw [hs]; rfl]
    exact l12Do_left v rs i x au _ cu lo w hm hf.1 hx hs
  refine absurd ?_ h2
  unfold nextS
  rw [if_neg h5, if_neg h6, if_neg h7, if_neg h8]

end Go.Proofs.Ytilbjgidmfdnkaa.T
