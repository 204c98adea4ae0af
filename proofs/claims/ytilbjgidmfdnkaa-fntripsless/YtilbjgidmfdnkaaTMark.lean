/- Contracts of the law's look whether two lists of trips are the same, of its marks over them, and of the look that they are held. For all that together has at most 1048576 trips and numbers. -/
import Derived.Test.YtilbjgidmfdnkaaTTo
import Derived.Test.YtilbjgidmfdnkaaMark
namespace Go.Proofs.Ytilbjgidmfdnkaa.T
open Go.RowKit

theorem Made.setBelow {w : World} {lo : Nat} {v : Value} {rs : List R} (h : Made w lo v rs) {a : Addr} (ha : a.block < lo) (x : Value) : Made (w.setCell a x) lo v rs := by
  obtain ⟨ps, hp, h1, h2, h3⟩ := h
  have hs : (w.setCell a x).heap.size = w.heap.size := by simp
  refine ⟨ps, hp, ownsRow_setCell_below h1 ha x, by rw [hs]; exact h2, ?_⟩
  rw [hs]
  exact ⟨by rw [hs]; exact h3.1, fun p hp => ⟨ownsRow_setCell_below (h3.2.1 p hp).1 ha x, (h3.2.1 p hp).2⟩, h3.2.2⟩

theorem Made.below {w w' : World} {lo B : Nat} {v : Value} {rs : List R} (h : Made w lo v rs) (hb : Below B w w') (hB : w.heap.size ≤ B) : Made w' lo v rs := by
  obtain ⟨ps, hp, ho⟩ := h
  obtain ⟨h1, h2, h3⟩ := ho.below hb hB
  exact ⟨ps, hp, h1, fun k hk => Nat.lt_of_lt_of_le (h2 k hk) hb.size, h3.mono hb.size (Nat.le_refl _)⟩

theorem Made.lo {w : World} {lo lo' : Nat} {v : Value} {rs : List R} (h : Made w lo v rs) (hl : lo' ≤ lo) : Made w lo' v rs := by
  obtain ⟨ps, hp, h1, h2, h3⟩ := h
  exact ⟨ps, hp, ownsRow_base h1 hl, h2, h3.1, fun p hp => ⟨ownsRow_base (h3.2.1 p hp).1 hl, (h3.2.1 p hp).2⟩, h3.2.2⟩

theorem Made.none (w : World) (lo : Nat) : Made w lo (.slice none 0 0) [] :=
  ⟨[], rfl, World.ownsRow_nil _ _ _ _, fun k hk => by simp [Value.ownBlock] at hk, Inner.nil _ _ _ (Nat.le_refl _)⟩

set_option maxHeartbeats 1000000 in
/-- A list that lies behind what has turned is as it was. -/
theorem OwnRecs.mid {w w' : World} {l0 h0 lo hi : Nat} {v : Value} {ps : List (R × Value)} (h : OwnRecs w l0 h0 v ps) (hb : Mid lo hi w w') (hB : hi ≤ l0) : OwnRecs w' l0 h0 v ps := by
  obtain ⟨h1, h2, h3⟩ := h
  refine ⟨ownsRow_mid h1 hb (fun k hk => Or.inr (by have := (h1.lt k hk).1; omega)), h2, Nat.le_trans h3.1 hb.size, fun p hp => ⟨?_, (h3.2.1 p hp).2⟩, h3.2.2⟩
  exact ownsRow_mid (h3.2.1 p hp).1 hb (fun k hk => Or.inr (by have := ((h3.2.1 p hp).1.lt k hk).1; omega))

def markR (r : R) (k : Int) : R := (markI r.1.length k, k + r.1.length)
/-- The number with which record i begins. -/
def kAt (rs : List R) (k : Int) (i : Nat) : Int := k + i + pre rs i
def dftP : R × Value := (([], 0), .slice none 0 0)
/-- The list when i records have been marked. -/
def stg (ps : List (R × Value)) (k : Int) (i : Nat) : List (R × Value) :=
  (List.range ps.length).map fun j => if j < i then (markR (ps.getD j dftP).1 (kAt (ps.map (·.1)) k j), (ps.getD j dftP).2) else ps.getD j dftP
/-- Records, all marked. -/
def markAll (rs : List R) (k : Int) : List R := (List.range rs.length).map fun j => markR (rs.getD j ([], 0)) (kAt rs k j)

theorem stg_length (ps : List (R × Value)) (k : Int) (i : Nat) : (stg ps k i).length = ps.length := by simp [stg]
theorem stg_get (ps : List (R × Value)) (k : Int) (i j : Nat) (p : R × Value) (h : ps[j]? = some p) : (stg ps k i)[j]? = some (if j < i then (markR p.1 (kAt (ps.map (·.1)) k j), p.2) else p) := by
  have hj : j < ps.length := by
    by_cases e : j < ps.length
    · exact e
    · rw [List.getElem?_eq_none (by omega)] at h; cases h
  have hg : ps.getD j dftP = p := by rw [List.getD_eq_getElem?_getD, h]; rfl
  unfold stg
  rw [List.getElem?_map, List.getElem?_range hj]
  simp only [Option.map_some, hg]
theorem stg_zero (ps : List (R × Value)) (k : Int) : stg ps k 0 = ps := by
  apply List.ext_getElem?
  intro j
  by_cases hj : j < ps.length
  · rw [stg_get ps k 0 j ps[j] (by simp [hj])]; simp [hj]
  · rw [List.getElem?_eq_none (by rw [stg_length]; omega), List.getElem?_eq_none (by omega)]
theorem stg_succ (ps : List (R × Value)) (k : Int) (i : Nat) (p : R × Value) (h : ps[i]? = some p) : stg ps k (i + 1) = (stg ps k i).set i (markR p.1 (kAt (ps.map (·.1)) k i), p.2) := by
  have hil : i < ps.length := by
    by_cases e : i < ps.length
    · exact e
    · rw [List.getElem?_eq_none (by omega)] at h; cases h
  apply List.ext_getElem?
  intro j
  by_cases hj : j < ps.length
  · rw [stg_get ps k (i + 1) j ps[j] (by simp [hj]), List.getElem?_set]
    by_cases hij : i = j
    · subst hij
      have hp : ps[i] = p := by rw [List.getElem?_eq_getElem hj] at h; simpa using h
      rw [if_pos rfl, if_pos (show i < (stg ps k i).length by rw [stg_length]; exact hj), if_pos (show i < i + 1 by omega), hp]
    · rw [if_neg hij, stg_get ps k i j ps[j] (by simp [hj])]
      by_cases hji : j < i
      · rw [if_pos (by omega), if_pos hji]
      · rw [if_neg (by omega), if_neg hji]
  · rw [List.getElem?_eq_none (by rw [stg_length]; omega), List.getElem?_eq_none (by rw [List.length_set, stg_length]; omega)]
theorem stg_all (ps : List (R × Value)) (k : Int) : (stg ps k ps.length).map (·.1) = markAll (ps.map (·.1)) k := by
  apply List.ext_getElem?
  intro j
  by_cases hj : j < ps.length
  · rw [List.getElem?_map, stg_get ps k ps.length j ps[j] (by simp [hj]), if_pos hj]
    simp [markAll, hj, List.getD_eq_getElem?_getD]
  · rw [List.getElem?_eq_none (by rw [List.length_map, stg_length]; omega), List.getElem?_eq_none (by simp [markAll]; omega)]
theorem markAll_length (rs : List R) (k : Int) : (markAll rs k).length = rs.length := by simp [markAll]
theorem markAll_get (rs : List R) (k : Int) (i : Nat) (r : R) (h : rs[i]? = some r) : (markAll rs k)[i]? = some (markR r (kAt rs k i)) := by
  have hj : i < rs.length := by
    by_cases e : i < rs.length
    · exact e
    · rw [List.getElem?_eq_none (by omega)] at h; cases h
  unfold markAll
  rw [List.getElem?_map, List.getElem?_range hj]
  simp [List.getD_eq_getElem?_getD, h]
theorem kAt_zero (rs : List R) (k : Int) : kAt rs k 0 = k := by simp [kAt, pre_zero]
theorem kAt_succ (rs : List R) (k : Int) (i : Nat) (r : R) (h : rs[i]? = some r) : kAt rs k (i + 1) = kAt rs k i + 1 + r.1.length := by
  unfold kAt; rw [pre_succ rs i r h]; omega
theorem kAt_bd (rs : List R) (k : Int) (i : Nat) (hi : i ≤ rs.length) (h : tot rs ≤ 1048576) (hk : 0 ≤ k) (hk1 : k ≤ 1000) : 0 ≤ kAt rs k i ∧ kAt rs k i ≤ 900000000 := by
  have := pre_le rs i
  unfold kAt tot at *; omega

theorem flat_set1 (ps : List (R × Value)) (i : Nat) (p : R × Value) (r : R) (h : ps[i]? = some p) :
    (flat ps).set (i * 2 + 1) (.int .i64 r.2) = flat (ps.set i (r, p.2)) := by
  induction ps generalizing i with
  | nil => simp at h
  | cons q t ih =>
    cases i with
    | zero => simp at h; subst h; simp [flat]
    | succ i =>
      have := ih i (by simpa using h)
      rw [show (i + 1) * 2 = i * 2 + 2 by omega]
      simp only [flat, List.set_cons_succ]
      rw [this]

/-- One trip marked: its numbers, then its state. -/
theorem mark_step {wr w2 w3 : World} {lo hi g n cap i : Nat} {qs : List (R × Value)} {r0 : R} {u : Value} {r : R} (hq : qs[i]? = some (r0, u))
    (ho : OwnRecs wr lo hi (.slice (some ⟨g, 0, none⟩) n cap) qs) (hqn : qs.length = n)
    (hown : w2.ownsRow lo 3 1 u r.1.length (r.1.map (Value.int .i64))) (hg : wr.grownBy w2 u.ownBlock)
    (h3 : w3 = w2.setCell ⟨g, i * 2 + 1, none⟩ (.int .i64 r.2)) :
    OwnRecs w3 lo hi (.slice (some ⟨g, 0, none⟩) n cap) (qs.set i (r, u)) ∧ Mid lo hi wr w3 := by
  obtain ⟨row, hgb, inn⟩ := ho
  rw [hqn] at row
  obtain ⟨cur, hcur⟩ := row_block row
  have ap := inn.apart hcur (by decide)
  have hmem := List.mem_of_getElem? hq
  have hug : u.ownBlock ≠ some g := ap (r0, u) hmem
  have row2 := row.kept hg (Or.inr (fun e => hug e.symm))
  have a1 := row2.stored (i * 2 + 1) (.int .i64 r.2)
  rw [flat_set1 qs i (r0, u) r hq] at a1
  rw [← h3] at a1
  have hgl := row.lt g rfl
  have hgh := hgb g rfl
  refine ⟨⟨by rw [List.length_set, hqn]; exact a1.1, hgb, Nat.le_trans (Nat.le_trans inn.1 hg.size) a1.2.size, fun p hp => ?_, fun a b p q hp hq' hab => ?_⟩, ?_⟩
  · obtain ⟨j, hj, hpj⟩ := List.mem_iff_getElem.1 hp
    rw [List.length_set] at hj
    by_cases hij : i = j
    · subst hij
      simp at hpj
      subst hpj
      exact ⟨hown.kept a1.2 (Or.inr hug), (inn.2.1 (r0, u) hmem).2⟩
    · rw [List.getElem_set_ne hij] at hpj
      have hpm : p ∈ qs := by rw [← hpj]; exact List.getElem_mem hj
      refine ⟨((inn.2.1 p hpm).1.kept hg ?_).kept a1.2 (Or.inr (ap p hpm)), (inn.2.1 p hpm).2⟩
      exact inn.2.2 j i p (r0, u) (by rw [List.getElem?_eq_getElem hj, hpj]) hq (fun e => hij e.symm)
  · have same : ∀ (c : Nat) (x : R × Value), (qs.set i (r, u))[c]? = some x → ∃ y, qs[c]? = some y ∧ y.2 = x.2 := by
      intro c x hx
      rw [List.getElem?_set] at hx
      by_cases hic : i = c
      · subst hic
        rw [if_pos rfl] at hx
        split at hx
        · simp at hx; exact ⟨(r0, u), hq, by rw [← hx]⟩
        · cases hx
      · rw [if_neg hic] at hx; exact ⟨x, hx, rfl⟩
    obtain ⟨y, hy, e1⟩ := same a p hp
    obtain ⟨z, hz, e2⟩ := same b q hq'
    rw [← e1, ← e2]
    exact inn.2.2 a b y z hy hz hab
  · exact (Mid.of_grown hg (fun k hk => ⟨((inn.2.1 (r0, u) hmem).1.lt k hk).1, (inn.2.1 (r0, u) hmem).2 k hk⟩)).trans (Mid.of_grown a1.2 (fun k hk => by simp at hk; omega))

end Go.Proofs.Ytilbjgidmfdnkaa.T
