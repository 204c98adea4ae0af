/- Contracts of the law's marks over lists of records and logs, and of the look that they are held. For all that together has at most 1048576 records and numbers. -/
import Derived.Test.YtfpjohbcbflnhaaDoorMark
namespace Go.Proofs.YtfpjohbcbflnhaaDoor
open Go.RowKit

def markR (r : R) (k : Int) : R := (k, k + 1, markI r.2.2.length (k + 2))
/-- The number with which record i begins. -/
def kAt (rs : List R) (k : Int) (i : Nat) : Int := k + 2 * i + pre rs i
def dftP : R × Value := ((0, 0, []), .slice none 0 0)
/-- The list when i records have been marked. -/
def stg (ps : List (R × Value)) (k : Int) (i : Nat) : List (R × Value) :=
  (List.range ps.length).map fun j => if j < i then (markR (ps.getD j dftP).1 (kAt (ps.map (·.1)) k j), (ps.getD j dftP).2) else ps.getD j dftP
/-- Records, all marked. -/
def markAll (rs : List R) (k : Int) : List R := (List.range rs.length).map fun j => markR (rs.getD j (0, 0, [])) (kAt rs k j)

theorem stg_length (ps : List (R × Value)) (k : Int) (i : Nat) : (stg ps k i).length = ps.length := by simp [stg]
theorem stg_get (ps : List (R × Value)) (k : Int) (i j : Nat) (p : R × Value) (h : ps[j]? = some p) : (stg ps k i)[j]? = some (if j < i then (markR p.1 (kAt (ps.map (·.1)) k j), p.2) else p) := by
  have hj : j < ps.length := by
    by_cases e : j < ps.length
    · exact e
    · rw [List.getElem?_eq_none (by omega)] at h; cases h
  have hg : ps.getD j dftP = p := by rw [List.getD_eq_getElem?_getD, h]; rfl
  unfold stg
  rw [List.getElem?_map, List.getElem?_range hj]
  simp only [Option.map_some, hg]
theorem stg_zero (ps : List (R × Value)) (k : Int) : stg ps k 0 = ps := by
  apply List.ext_getElem?
  intro j
  by_cases hj : j < ps.length
  · rw [stg_get ps k 0 j ps[j] (by simp [hj])]; simp [hj]
  · rw [List.getElem?_eq_none (by rw [stg_length]; omega), List.getElem?_eq_none (by omega)]
theorem stg_succ (ps : List (R × Value)) (k : Int) (i : Nat) (p : R × Value) (h : ps[i]? = some p) : stg ps k (i + 1) = (stg ps k i).set i (markR p.1 (kAt (ps.map (·.1)) k i), p.2) := by
  have hil : i < ps.length := by
    by_cases e : i < ps.length
    · exact e
    · rw [List.getElem?_eq_none (by omega)] at h; cases h
  apply List.ext_getElem?
  intro j
  by_cases hj : j < ps.length
  · rw [stg_get ps k (i + 1) j ps[j] (by simp [hj]), List.getElem?_set]
    by_cases hij : i = j
    · subst hij
      have hp : ps[i] = p := by rw [List.getElem?_eq_getElem hj] at h; simpa using h
      rw [if_pos rfl, if_pos (show i < (stg ps k i).length by rw [stg_length]; exact hj), if_pos (show i < i + 1 by omega), hp]
    · rw [if_neg hij, stg_get ps k i j ps[j] (by simp [hj])]
      by_cases hji : j < i
      · rw [if_pos (by omega), if_pos hji]
      · rw [if_neg (by omega), if_neg hji]
  · rw [List.getElem?_eq_none (by rw [stg_length]; omega), List.getElem?_eq_none (by rw [List.length_set, stg_length]; omega)]
theorem stg_all (ps : List (R × Value)) (k : Int) : (stg ps k ps.length).map (·.1) = markAll (ps.map (·.1)) k := by
  apply List.ext_getElem?
  intro j
  by_cases hj : j < ps.length
  · rw [List.getElem?_map, stg_get ps k ps.length j ps[j] (by simp [hj]), if_pos hj]
    simp [markAll, hj, List.getD_eq_getElem?_getD]
  · rw [List.getElem?_eq_none (by rw [List.length_map, stg_length]; omega), List.getElem?_eq_none (by simp [markAll]; omega)]
theorem markAll_length (rs : List R) (k : Int) : (markAll rs k).length = rs.length := by simp [markAll]
theorem markAll_get (rs : List R) (k : Int) (i : Nat) (r : R) (h : rs[i]? = some r) : (markAll rs k)[i]? = some (markR r (kAt rs k i)) := by
  have hj : i < rs.length := by
    by_cases e : i < rs.length
    · exact e
    · rw [List.getElem?_eq_none (by omega)] at h; cases h
  unfold markAll
  rw [List.getElem?_map, List.getElem?_range hj]
  simp [List.getD_eq_getElem?_getD, h]
theorem kAt_zero (rs : List R) (k : Int) : kAt rs k 0 = k := by simp [kAt, pre_zero]
theorem kAt_succ (rs : List R) (k : Int) (i : Nat) (r : R) (h : rs[i]? = some r) : kAt rs k (i + 1) = kAt rs k i + 2 + r.2.2.length := by
  unfold kAt; rw [pre_succ rs i r h]; omega
theorem kAt_bd (rs : List R) (k : Int) (i : Nat) (hi : i ≤ rs.length) (h : tot rs ≤ 1048576) (hk : 0 ≤ k) (hk1 : k ≤ 1000) : 0 ≤ kAt rs k i ∧ kAt rs k i ≤ 900000000 := by
  have := pre_le rs i
  unfold kAt tot at *; omega

theorem flat_set2 (ps : List (R × Value)) (i : Nat) (p : R × Value) (r : R) (h : ps[i]? = some p) :
    ((flat ps).set (i * 3) (.int .i64 r.1)).set (i * 3 + 1) (.int .i64 r.2.1) = flat (ps.set i (r, p.2)) := by
  induction ps generalizing i with
  | nil => simp at h
  | cons q t ih =>
    cases i with
    | zero => simp at h; subst h; simp [flat]
    | succ i =>
      have := ih i (by simpa using h)
      rw [show (i + 1) * 3 = i * 3 + 3 by omega]
      simp only [flat, List.set_cons_succ]
      rw [this]

/-- One record marked: its two cells, then its numbers. -/
theorem mark_step {wr w2 w3 : World} {lo hi g n cap i : Nat} {qs : List (R × Value)} {r0 : R} {u : Value} {r : R} (hq : qs[i]? = some (r0, u))
    (ho : OwnRecs wr lo hi (.slice (some ⟨g, 0, none⟩) n cap) qs) (hqn : qs.length = n)
    (h2 : w2 = (wr.setCell ⟨g, i * 3, none⟩ (.int .i64 r.1)).setCell ⟨g, i * 3 + 1, none⟩ (.int .i64 r.2.1))
    (hown : w3.ownsRow lo 3 1 u r.2.2.length (r.2.2.map (Value.int .i64))) (hg : w2.grownBy w3 u.ownBlock) :
    OwnRecs w3 lo hi (.slice (some ⟨g, 0, none⟩) n cap) (qs.set i (r, u)) ∧ Mid lo hi wr w3 := by
  obtain ⟨row, hgb, inn⟩ := ho
  rw [hqn] at row
  have a1 := row.stored (i * 3) (.int .i64 r.1)
  have a2 := a1.1.stored (i * 3 + 1) (.int .i64 r.2.1)
  rw [flat_set2 qs i (r0, u) r hq] at a2
  rw [← h2] at a2
  have g12 : wr.grownBy w2 (some g) := by rw [h2]; exact grownBy_trans a1.2 (by rw [← h2]; exact a2.2)
  obtain ⟨cur, hcur⟩ := row_block row
  have ap := inn.apart hcur (by decide)
  have in2 : Inner w2 lo hi qs := inn.kept g12 (fun p hp => Or.inr (ap p hp))
  have hmem := List.mem_of_getElem? hq
  obtain ⟨cur2, hcur2⟩ := row_block a2.1
  have hug : u.ownBlock ≠ some g := ap (r0, u) hmem
  have row3 := a2.1.kept hg (Or.inr (fun e => hug e.symm))
  have hgl := row.lt g rfl
  have hgh := hgb g rfl
  refine ⟨⟨by rw [List.length_set, hqn]; exact row3, hgb, Nat.le_trans in2.1 hg.size, fun p hp => ?_, fun a b p q hp hq' hab => ?_⟩, ?_⟩
  · obtain ⟨j, hj, hpj⟩ := List.mem_iff_getElem.1 hp
    rw [List.length_set] at hj
    by_cases hij : i = j
    · subst hij
      simp at hpj
      subst hpj
      exact ⟨hown, (in2.2.1 (r0, u) hmem).2⟩
    · rw [List.getElem_set_ne hij] at hpj
      have hpm : p ∈ qs := by rw [← hpj]; exact List.getElem_mem hj
      refine ⟨(in2.2.1 p hpm).1.kept hg ?_, (in2.2.1 p hpm).2⟩
      exact in2.2.2 j i p (r0, u) (by rw [List.getElem?_eq_getElem hj, hpj]) hq (fun e => hij e.symm)
  · have same : ∀ (c : Nat) (x : R × Value), (qs.set i (r, u))[c]? = some x → ∃ y, qs[c]? = some y ∧ y.2 = x.2 := by
      intro c x hx
      rw [List.getElem?_set] at hx
      by_cases hic : i = c
      · subst hic
        rw [if_pos rfl] at hx
        split at hx
        · simp at hx; exact ⟨(r0, u), hq, by rw [← hx]⟩
        · cases hx
      · rw [if_neg hic] at hx; exact ⟨x, hx, rfl⟩
    obtain ⟨y, hy, e1⟩ := same a p hp
    obtain ⟨z, hz, e2⟩ := same b q hq'
    rw [← e1, ← e2]
    exact in2.2.2 a b y z hy hz hab
  · exact (Mid.of_grown g12 (fun k hk => by simp at hk; omega)).trans (Mid.of_grown hg (fun k hk => ⟨((in2.2.1 (r0, u) hmem).1.lt k hk).1, (in2.2.1 (r0, u) hmem).2 k hk⟩))

theorem mark_inner {wr : World} {lo hi g n cap i : Nat} {qs : List (R × Value)} {r0 : R} {u : Value} (hq : qs[i]? = some (r0, u)) (ho : OwnRecs wr lo hi (.slice (some ⟨g, 0, none⟩) n cap) qs) (hqn : qs.length = n) (a b : Nat) (x y : Value) :
    ((wr.setCell ⟨g, a, none⟩ x).setCell ⟨g, b, none⟩ y).ownsRow lo 3 1 u r0.2.2.length (r0.2.2.map (Value.int .i64)) := by
  obtain ⟨row, hgb, inn⟩ := ho
  rw [hqn] at row
  have a1 := row.stored a x
  have a2 := a1.1.stored b y
  obtain ⟨cur, hcur⟩ := row_block row
  have hug := inn.apart hcur (by decide) (r0, u) (List.mem_of_getElem? hq)
  exact ((inn.2.1 (r0, u) (List.mem_of_getElem? hq)).1.kept a1.2 (Or.inr hug)).kept a2.2 (Or.inr hug)

end Go.Proofs.YtfpjohbcbflnhaaDoor
