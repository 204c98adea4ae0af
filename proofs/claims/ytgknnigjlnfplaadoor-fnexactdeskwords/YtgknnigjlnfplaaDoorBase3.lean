/- What the last text of this claim stands on, part 3: plain facts and contracts; the last text says what is proved. -/
import Derived.Test.YtgknnigjlnfplaaDoorBase2
import Derived.Maps.OwnSet
import Derived.Maps.OwnIn
import Derived.DeepKeys4
import Derived.Deep.RegionHeldLaw
import Derived.Laws.AppendOwnNone
import Derived.Maps.AppendAt

namespace Go.Proofs.YtgknnigjlnfplaaDoor.T
open Go.RowKit

theorem Made.setBelow {w : World} {lo : Nat} {v : Value} {rs : List R} (h : Made w lo v rs) {a : Addr} (ha : a.block < lo) (x : Value) : Made (w.setCell a x) lo v rs := by
  obtain ⟨ps, hp, h1, h2, h3⟩ := h
  have hs : (w.setCell a x).heap.size = w.heap.size := by simp
  refine ⟨ps, hp, ownsRow_setCell_below h1 ha x, by rw [hs]; exact h2, ?_⟩
  rw [hs]
  exact ⟨by rw [hs]; exact h3.1, fun p hp => ⟨ownsRow_setCell_below (h3.2.1 p hp).1 ha x, (h3.2.1 p hp).2⟩, h3.2.2⟩

theorem Made.below {w w' : World} {lo B : Nat} {v : Value} {rs : List R} (h : Made w lo v rs) (hb : Below B w w') (hB : w.heap.size ≤ B) : Made w' lo v rs := by
  obtain ⟨ps, hp, ho⟩ := h
  obtain ⟨h1, h2, h3⟩ := ho.below hb hB
  exact ⟨ps, hp, h1, fun k hk => Nat.lt_of_lt_of_le (h2 k hk) hb.size, h3.mono hb.size (Nat.le_refl _)⟩

theorem Made.lo {w : World} {lo lo' : Nat} {v : Value} {rs : List R} (h : Made w lo v rs) (hl : lo' ≤ lo) : Made w lo' v rs := by
  obtain ⟨ps, hp, h1, h2, h3⟩ := h
  exact ⟨ps, hp, ownsRow_base h1 hl, h2, h3.1, fun p hp => ⟨ownsRow_base (h3.2.1 p hp).1 hl, (h3.2.1 p hp).2⟩, h3.2.2⟩

theorem Made.none (w : World) (lo : Nat) : Made w lo (.slice none 0 0) [] :=
  ⟨[], rfl, World.ownsRow_nil _ _ _ _, fun k hk => by simp [Value.ownBlock] at hk, Inner.nil _ _ _ (Nat.le_refl _)⟩

set_option maxHeartbeats 1000000 in
/-- A list that lies behind what has turned is as it was. -/
theorem OwnRecs.mid {w w' : World} {l0 h0 lo hi : Nat} {v : Value} {ps : List (R × Value)} (h : OwnRecs w l0 h0 v ps) (hb : Mid lo hi w w') (hB : hi ≤ l0) : OwnRecs w' l0 h0 v ps := by
  obtain ⟨h1, h2, h3⟩ := h
  refine ⟨ownsRow_mid h1 hb (fun k hk => Or.inr (by have := (h1.lt k hk).1; omega)), h2, Nat.le_trans h3.1 hb.size, fun p hp => ⟨?_, (h3.2.1 p hp).2⟩, h3.2.2⟩
  exact ownsRow_mid (h3.2.1 p hp).1 hb (fun k hk => Or.inr (by have := ((h3.2.1 p hp).1.lt k hk).1; omega))

def markR (r : R) (k : Int) : R := (markI r.1.length k, k + r.1.length)
/-- The number with which record i begins. -/
def kAt (rs : List R) (k : Int) (i : Nat) : Int := k + i + pre rs i
def dftP : R × Value := (([], 0), .slice none 0 0)
/-- The list when i records have been marked. -/
def stg (ps : List (R × Value)) (k : Int) (i : Nat) : List (R × Value) :=
  (List.range ps.length).map fun j => if j < i then (markR (ps.getD j dftP).1 (kAt (ps.map (·.1)) k j), (ps.getD j dftP).2) else ps.getD j dftP
/-- Records, all marked. -/
def markAll (rs : List R) (k : Int) : List R := (List.range rs.length).map fun j => markR (rs.getD j ([], 0)) (kAt rs k j)

theorem stg_length (ps : List (R × Value)) (k : Int) (i : Nat) : (stg ps k i).length = ps.length := by simp [stg]
theorem stg_get (ps : List (R × Value)) (k : Int) (i j : Nat) (p : R × Value) (h : ps[j]? = some p) : (stg ps k i)[j]? = some (if j < i then (markR p.1 (kAt (ps.map (·.1)) k j), p.2) else p) := by
  have hj : j < ps.length := by
    by_cases e : j < ps.length
    · exact e
    · rw [List.getElem?_eq_none (by omega)] at h; cases h
  have hg : ps.getD j dftP = p := by rw [List.getD_eq_getElem?_getD, h]; rfl
  unfold stg
  rw [List.getElem?_map, List.getElem?_range hj]
  simp only [Option.map_some, hg]
theorem stg_zero (ps : List (R × Value)) (k : Int) : stg ps k 0 = ps := by
  apply List.ext_getElem?
  intro j
  by_cases hj : j < ps.length
  · rw [stg_get ps k 0 j ps[j] (by simp [hj])]; simp [hj]
  · rw [List.getElem?_eq_none (by rw [stg_length]; omega), List.getElem?_eq_none (by omega)]
theorem stg_succ (ps : List (R × Value)) (k : Int) (i : Nat) (p : R × Value) (h : ps[i]? = some p) : stg ps k (i + 1) = (stg ps k i).set i (markR p.1 (kAt (ps.map (·.1)) k i), p.2) := by
  have hil : i < ps.length := by
    by_cases e : i < ps.length
    · exact e
    · rw [List.getElem?_eq_none (by omega)] at h; cases h
  apply List.ext_getElem?
  intro j
  by_cases hj : j < ps.length
  · rw [stg_get ps k (i + 1) j ps[j] (by simp [hj]), List.getElem?_set]
    by_cases hij : i = j
    · subst hij
      have hp : ps[i] = p := by rw [List.getElem?_eq_getElem hj] at h; simpa using h
      rw [if_pos rfl, if_pos (show i < (stg ps k i).length by rw [stg_length]; exact hj), if_pos (show i < i + 1 by omega), hp]
    · rw [if_neg hij, stg_get ps k i j ps[j] (by simp [hj])]
      by_cases hji : j < i
      · rw [if_pos (by omega), if_pos hji]
      · rw [if_neg (by omega), if_neg hji]
  · rw [List.getElem?_eq_none (by rw [stg_length]; omega), List.getElem?_eq_none (by rw [List.length_set, stg_length]; omega)]
theorem stg_all (ps : List (R × Value)) (k : Int) : (stg ps k ps.length).map (·.1) = markAll (ps.map (·.1)) k := by
  apply List.ext_getElem?
  intro j
  by_cases hj : j < ps.length
  · rw [List.getElem?_map, stg_get ps k ps.length j ps[j] (by simp [hj]), if_pos hj]
    simp [markAll, hj, List.getD_eq_getElem?_getD]
  · rw [List.getElem?_eq_none (by rw [List.length_map, stg_length]; omega), List.getElem?_eq_none (by simp [markAll]; omega)]
theorem markAll_length (rs : List R) (k : Int) : (markAll rs k).length = rs.length := by simp [markAll]
theorem markAll_get (rs : List R) (k : Int) (i : Nat) (r : R) (h : rs[i]? = some r) : (markAll rs k)[i]? = some (markR r (kAt rs k i)) := by
  have hj : i < rs.length := by
    by_cases e : i < rs.length
    · exact e
    · rw [List.getElem?_eq_none (by omega)] at h; cases h
  unfold markAll
  rw [List.getElem?_map, List.getElem?_range hj]
  simp [List.getD_eq_getElem?_getD, h]
theorem kAt_zero (rs : List R) (k : Int) : kAt rs k 0 = k := by simp [kAt, pre_zero]
theorem kAt_succ (rs : List R) (k : Int) (i : Nat) (r : R) (h : rs[i]? = some r) : kAt rs k (i + 1) = kAt rs k i + 1 + r.1.length := by
  unfold kAt; rw [pre_succ rs i r h]; omega
theorem kAt_bd (rs : List R) (k : Int) (i : Nat) (hi : i ≤ rs.length) (h : tot rs ≤ 1048576) (hk : 0 ≤ k) (hk1 : k ≤ 1000) : 0 ≤ kAt rs k i ∧ kAt rs k i ≤ 900000000 := by
  have := pre_le rs i
  unfold kAt tot at *; omega

theorem flat_set1 (ps : List (R × Value)) (i : Nat) (p : R × Value) (r : R) (h : ps[i]? = some p) :
    (flat ps).set (i * 2 + 1) (.int .i64 r.2) = flat (ps.set i (r, p.2)) := by
  induction ps generalizing i with
  | nil => simp at h
  | cons q t ih =>
    cases i with
    | zero => simp at h; subst h; simp [flat]
    | succ i =>
      have := ih i (by simpa using h)
      rw [show (i + 1) * 2 = i * 2 + 2 by omega]
      simp only [flat, List.set_cons_succ]
      rw [this]

/-- One trip marked: its numbers, then its state. -/
theorem mark_step {wr w2 w3 : World} {lo hi g n cap i : Nat} {qs : List (R × Value)} {r0 : R} {u : Value} {r : R} (hq : qs[i]? = some (r0, u))
    (ho : OwnRecs wr lo hi (.slice (some ⟨g, 0, none⟩) n cap) qs) (hqn : qs.length = n)
    (hown : w2.ownsRow lo 3 1 u r.1.length (r.1.map (Value.int .i64))) (hg : wr.grownBy w2 u.ownBlock)
    (h3 : w3 = w2.setCell ⟨g, i * 2 + 1, none⟩ (.int .i64 r.2)) :
    OwnRecs w3 lo hi (.slice (some ⟨g, 0, none⟩) n cap) (qs.set i (r, u)) ∧ Mid lo hi wr w3 := by
  obtain ⟨row, hgb, inn⟩ := ho
  rw [hqn] at row
  obtain ⟨cur, hcur⟩ := row_block row
  have ap := inn.apart hcur (by decide)
  have hmem := List.mem_of_getElem? hq
  have hug : u.ownBlock ≠ some g := ap (r0, u) hmem
  have row2 := row.kept hg (Or.inr (fun e => hug e.symm))
  have a1 := row2.stored (i * 2 + 1) (.int .i64 r.2)
  rw [flat_set1 qs i (r0, u) r hq] at a1
  rw [← h3] at a1
  have hgl := row.lt g rfl
  have hgh := hgb g rfl
  refine ⟨⟨by rw [List.length_set, hqn]; exact a1.1, hgb, Nat.le_trans (Nat.le_trans inn.1 hg.size) a1.2.size, fun p hp => ?_, fun a b p q hp hq' hab => ?_⟩, ?_⟩
  · obtain ⟨j, hj, hpj⟩ := List.mem_iff_getElem.1 hp
    rw [List.length_set] at hj
    by_cases hij : i = j
    · subst hij
      simp at hpj
      subst hpj
      exact ⟨hown.kept a1.2 (Or.inr hug), (inn.2.1 (r0, u) hmem).2⟩
    · rw [List.getElem_set_ne hij] at hpj
      have hpm : p ∈ qs := by rw [← hpj]; exact List.getElem_mem hj
      refine ⟨((inn.2.1 p hpm).1.kept hg ?_).kept a1.2 (Or.inr (ap p hpm)), (inn.2.1 p hpm).2⟩
      exact inn.2.2 j i p (r0, u) (by rw [List.getElem?_eq_getElem hj, hpj]) hq (fun e => hij e.symm)
  · have same : ∀ (c : Nat) (x : R × Value), (qs.set i (r, u))[c]? = some x → ∃ y, qs[c]? = some y ∧ y.2 = x.2 := by
      intro c x hx
      rw [List.getElem?_set] at hx
      by_cases hic : i = c
      · subst hic
        rw [if_pos rfl] at hx
        split at hx
        · simp at hx; exact ⟨(r0, u), hq, by rw [← hx]⟩
        · cases hx
      · rw [if_neg hic] at hx; exact ⟨x, hx, rfl⟩
    obtain ⟨y, hy, e1⟩ := same a p hp
    obtain ⟨z, hz, e2⟩ := same b q hq'
    rw [← e1, ← e2]
    exact inn.2.2 a b y z hy hz hab
  · exact (Mid.of_grown hg (fun k hk => ⟨((inn.2.1 (r0, u) hmem).1.lt k hk).1, (inn.2.1 (r0, u) hmem).2 k hk⟩)).trans (Mid.of_grown a1.2 (fun k hk => by simp at hk; omega))

end Go.Proofs.YtgknnigjlnfplaaDoor.T

namespace Go.Proofs.YtgknnigjlnfplaaDoor.T
open Go.RowKit

def tOk (r : R) : Bool := Pl.manyOk r.1 && Pl.inB r.2 1 5
def tripsOk (rs : List R) : Bool := rs.all tOk && decide (rs.length ≤ 6)

theorem all_snoc (rs : List R) (k : Nat) (r : R) (h : rs[k]? = some r) : (rs.take (k + 1)).all tOk = ((rs.take k).all tOk && tOk r) := by
  have hk : k < rs.length := by
    by_cases hk : k < rs.length
    · exact hk
    · rw [List.getElem?_eq_none (by omega)] at h; cases h
  rw [List.getElem?_eq_getElem hk] at h
  simp only [Option.some.injEq] at h
  rw [List.take_succ_eq_append_getElem hk, h]
  simp
theorem all_bad (rs : List R) (k : Nat) (r : R) (h : rs[k]? = some r) (hb : tOk r = false) : rs.all tOk = false := by
  rw [List.all_eq_false]
  exact ⟨r, List.mem_of_getElem? h, by rw [hb]; decide⟩
theorem tripsOk_bad {rs : List R} (h : rs.all tOk = false) : tripsOk rs = false := by unfold tripsOk; rw [h]; rfl

end Go.Proofs.YtgknnigjlnfplaaDoor.T

namespace Go.Proofs.YtgknnigjlnfplaaDoor.T
open Go.RowKit

/-- The state of a trip behind a record that is no beginning; 0, if that may not come. -/
def nextS (s k : Int) : Int := if k = 5 ∧ s = 1 then 2 else if k = 6 ∧ s = 1 then 3 else if k = 7 ∧ s = 2 then 4 else if k = 7 ∧ s = 3 then 5 else 0

/-- The trip of this number; nothing, and 0, if there is none. -/
def tripAt (rs : List R) (t : Int) : R := rs.getD (t - 1).toNat ([], 0)

/-- A record may come, if it is ok. -/
def mayL (rs : List R) (r : Rc) : Bool := if r.1 = 4 then decide (r.2.1 = rs.length + 1) else decide (nextS (tripAt rs r.2.1).2 r.1 ≠ 0)
/-- Trips behind a record that may come. -/
def doL (rs : List R) (r : Rc) : List R := if r.1 = 4 then rs ++ [(r.2.2, 1)] else rs.set (r.2.1 - 1).toNat ((tripAt rs r.2.1).1, nextS (tripAt rs r.2.1).2 r.1)

def tMay (rs : List R) (r : Rc) : Bool := tripsOk rs && (rOk r && mayL rs r)

def stepT (rs : List R) (r : Rc) : Option (List R) := if (rOk r && mayL rs r) = true then some (doL rs r) else none
def runT (qs : List Rc) : Option (List R) := qs.foldl (fun o r => o.bind fun rs => stepT rs r) (some [])

theorem nextS_0 (k : Int) : nextS 0 k = 0 := by unfold nextS; simp
theorem nextS_nz {s k : Int} (h : nextS s k ≠ 0) : 2 ≤ nextS s k ∧ nextS s k ≤ 5 := by
  unfold nextS at h ⊢
  split
  · omega
  · split
    · omega
    · split
      · omega
      · split
        · omega
        · simp_all

theorem rOk_trip {r : Rc} (h : rOk r = true) : 1 ≤ r.2.1 ∧ r.2.1 ≤ 6 := by
  unfold rOk Pl.recOk at h
  simp only [Bool.and_eq_true] at h
  exact Pl.inB_true h.1
theorem rOk_begin {r : Rc} (h : rOk r = true) (h4 : r.1 = 4) : Pl.manyOk r.2.2 = true := by
  unfold rOk Pl.recOk at h
  simp only [Bool.and_eq_true] at h
  have h2 := h.2
  rw [h4] at h2
  simpa using h2
theorem manyOk_three {zs : List Int} (h : Pl.manyOk zs = true) : zs.length = 3 := by
  unfold Pl.manyOk at h
  simp at h
  exact h.1.2

/-- At most six trips, each of three numbers. -/
def Fit (rs : List R) : Prop := rs.length ≤ 6 ∧ ∀ r ∈ rs, r.1.length = 3

theorem Fit.nil : Fit [] := ⟨by simp, fun r h => by simp at h⟩
theorem Fit.tot {rs : List R} (h : Fit rs) : T.tot rs ≤ 1048576 := by
  have : pre rs rs.length = 3 * rs.length := by
    unfold pre
    rw [List.take_length]
    have h2 := h.2
    clear h
    induction rs with
    | nil => rfl
    | cons a t ih =>
      have h3 := h2 a (by simp)
      have := ih (fun r hr => h2 r (by simp [hr]))
      simp only [List.map_cons, List.sum_cons, List.length_cons, h3, this]
      omega
  have h1 := h.1
  unfold T.tot
  omega
theorem fit_ok {rs : List R} (h : tripsOk rs = true) : Fit rs := by
  unfold tripsOk at h
  simp at h
  refine ⟨h.2, fun r hr => ?_⟩
  have h1 := h.1 r.1 r.2 hr
  unfold tOk at h1
  simp at h1
  exact manyOk_three h1.1

theorem tripAt_get {rs : List R} {t : Int} {r : R} (h : rs[(t - 1).toNat]? = some r) : tripAt rs t = r := by unfold tripAt; rw [List.getD_eq_getElem?_getD, h]; rfl
theorem tripAt_none {rs : List R} {t : Int} (h : rs[(t - 1).toNat]? = none) : tripAt rs t = ([], 0) := by unfold tripAt; rw [List.getD_eq_getElem?_getD, h]; rfl

/-- What may come is of a trip that there is. -/
theorem mayL_at {rs : List R} {r : Rc} (h : mayL rs r = true) (h4 : r.1 ≠ 4) : ∃ x, rs[(r.2.1 - 1).toNat]? = some x := by
  cases hg : rs[(r.2.1 - 1).toNat]? with
  | some x => exact ⟨x, rfl⟩
  | none =>
    unfold mayL at h
    rw [if_neg h4, tripAt_none hg] at h
    simp [nextS_0] at h

theorem Fit.doL {rs : List R} {r : Rc} (h : Fit rs) (h1 : rOk r = true) (h2 : mayL rs r = true) : Fit (doL rs r) := by
  unfold T.doL
  by_cases h4 : r.1 = 4
  · rw [if_pos h4]
    have h3 := manyOk_three (rOk_begin h1 h4)
    have h6 := rOk_trip h1
    unfold mayL at h2
    rw [if_pos h4] at h2
    simp at h2
    refine ⟨by simp; omega, fun x hx => ?_⟩
    rcases List.mem_append.1 hx with hx | hx
    · exact h.2 x hx
    · simp at hx; subst hx; exact h3
  · rw [if_neg h4]
    obtain ⟨x, hx⟩ := mayL_at h2 h4
    rw [tripAt_get hx]
    refine ⟨by rw [List.length_set]; exact h.1, fun y hy => ?_⟩
    rcases List.mem_or_eq_of_mem_set hy with hy | hy
    · exact h.2 y hy
    · subst hy; exact h.2 x (List.mem_of_getElem? hx)

theorem runT_nil : runT [] = some [] := rfl
theorem runT_snoc (qs : List Rc) (r : Rc) : runT (qs ++ [r]) = (runT qs).bind fun rs => stepT rs r := by simp [runT, List.foldl_append]
theorem foldl_none (qs : List Rc) : qs.foldl (fun (o : Option (List R)) r => o.bind fun rs => stepT rs r) none = none := by
  induction qs with
  | nil => rfl
  | cons a t ih => exact ih
theorem runT_cut {qs : List Rc} {k : Nat} (h : runT (qs.take k) = none) : runT qs = none := by
  have h2 : runT qs = (qs.drop k).foldl (fun o r => o.bind fun rs => stepT rs r) (runT (qs.take k)) := by
    unfold runT
    rw [← List.foldl_append, List.take_append_drop]
  rw [h2, h, foldl_none]
theorem take_snoc {qs : List Rc} {k : Nat} {r : Rc} (h : qs[k]? = some r) : qs.take (k + 1) = qs.take k ++ [r] := by
  have hk : k < qs.length := by
    by_cases hk : k < qs.length
    · exact hk
    · rw [List.getElem?_eq_none (by omega)] at h; cases h
  rw [List.getElem?_eq_getElem hk] at h
  simp only [Option.some.injEq] at h
  rw [List.take_succ_eq_append_getElem hk, h]
theorem runT_bad {qs : List Rc} {k : Nat} {r : Rc} {rs : List R} (h : qs[k]? = some r) (hr : runT (qs.take k) = some rs) (hb : (rOk r && mayL rs r) = false) : runT qs = none := by
  refine runT_cut (k := k + 1) ?_
  rw [take_snoc h, runT_snoc, hr]
  show stepT rs r = none
  unfold stepT
  rw [hb]
  rfl
theorem runT_good {qs : List Rc} {k : Nat} {r : Rc} {rs : List R} (h : qs[k]? = some r) (hr : runT (qs.take k) = some rs) (hb : (rOk r && mayL rs r) = true) : runT (qs.take (k + 1)) = some (doL rs r) := by
  rw [take_snoc h, runT_snoc, hr]
  show stepT rs r = some _
  unfold stepT
  rw [hb]
  rfl
theorem runT_fit {qs : List Rc} {rs : List R} (h : runT qs = some rs) : Fit rs := by
  have key : ∀ k, k ≤ qs.length → ∀ rs, runT (qs.take k) = some rs → Fit rs := by
    intro k
    induction k with
    | zero => intro _ rs h; rw [List.take_zero, runT_nil] at h; cases h; exact Fit.nil
    | succ k ih =>
      intro hk rs h
      have hg : qs[k]? = some qs[k] := List.getElem?_eq_getElem (by omega)
      rw [take_snoc hg, runT_snoc] at h
      cases hr : runT (qs.take k) with
      | none => rw [hr] at h; cases h
      | some xs =>
        rw [hr] at h
        have h' : stepT xs qs[k] = some rs := h
        unfold stepT at h'
        split at h'
        · next hb =>
          simp only [Option.some.injEq] at h'
          subst h'
          simp only [Bool.and_eq_true] at hb
          exact (ih (by omega) xs hr).doL hb.1 hb.2
        · cases h'
  refine key qs.length (Nat.le_refl _) rs ?_
  rw [List.take_length]; exact h

end Go.Proofs.YtgknnigjlnfplaaDoor.T

namespace Go.Proofs.YtgknnigjlnfplaaDoor
open Go.RowKit

/-- An answer in form, of one of so many trips. -/
def ansOk (n : Int) (p : Wd) : Bool := Pl.wOk p.1 p.2.1 p.2.2.1 p.2.2.2 && decide (4 ≤ p.1) && decide (p.2.2.1 ≤ n)
def toldOk (n : Int) (ws : List Wd) : Bool := ws.all (ansOk n) && decide ws.Nodup

theorem wOk_parts {k h t m : Int} (h0 : Pl.wOk k h t m = true) : (1 ≤ k ∧ k ≤ 7) ∧ (1 ≤ h ∧ h ≤ 3) ∧ (1 ≤ t ∧ t ≤ 6) ∧ Pl.wMany k m = true := by
  have e1 : Pl.inB k 1 7 = true := by
    cases e : Pl.inB k 1 7
    · rw [Pl.wOk_k e] at h0; cases h0
    · rfl
  have e2 : Pl.inB h 1 3 = true := by
    cases e : Pl.inB h 1 3
    · rw [Pl.wOk_h e] at h0; cases h0
    · rfl
  have e3 : Pl.inB t 1 6 = true := by
    cases e : Pl.inB t 1 6
    · rw [Pl.wOk_t e] at h0; cases h0
    · rfl
  rw [Pl.wOk_m e1 e2 e3] at h0
  exact ⟨Pl.inB_true e1, Pl.inB_true e2, Pl.inB_true e3, h0⟩
theorem ansOk_parts {n : Int} {p : Wd} (h : ansOk n p = true) : (4 ≤ p.1 ∧ p.1 ≤ 7) ∧ (1 ≤ p.2.1 ∧ p.2.1 ≤ 3) ∧ (1 ≤ p.2.2.1 ∧ p.2.2.1 ≤ 6) ∧ p.2.2.2 = 0 ∧ p.2.2.1 ≤ n := by
  unfold ansOk at h
  simp only [Bool.and_eq_true, decide_eq_true_eq] at h
  obtain ⟨⟨h1, h2⟩, h3⟩ := h
  obtain ⟨k, hh, t, m⟩ := wOk_parts h1
  rw [Pl.wMany_0 p.2.2.2 (by omega)] at m
  exact ⟨⟨h2, k.2⟩, hh, t, by simpa using m, h3⟩

/-- So it was told. -/
def told (ws : List Wd) (k h t : Int) : Bool := ws.any fun p => decide (p.1 = k) && decide (p.2.1 = h) && decide (p.2.2.1 = t)
theorem told_nil (k h t : Int) : told [] k h t = false := rfl
theorem told_snoc (ws : List Wd) (p : Wd) (k h t : Int) : told (ws ++ [p]) k h t = (told ws k h t || (decide (p.1 = k) && decide (p.2.1 = h) && decide (p.2.2.1 = t))) := by simp [told]
theorem told_mem {n : Int} {ws : List Wd} {p : Wd} (ha : ws.all (ansOk n) = true) (hp : ansOk n p = true) : told ws p.1 p.2.1 p.2.2.1 = ws.contains p := by
  have hm := (ansOk_parts hp).2.2.2.1
  rw [Bool.eq_iff_iff]
  simp only [told, List.any_eq_true, List.contains_iff_mem, Bool.and_eq_true, decide_eq_true_eq]
  constructor
  · rintro ⟨q, hq, ⟨h1, h2⟩, h3⟩
    have hqm := (ansOk_parts (List.all_eq_true.1 ha q hq)).2.2.2.1
    have : q = p := by
      obtain ⟨q0, q1, q2, q3⟩ := q
      obtain ⟨p0, p1, p2, p3⟩ := p
      simp only at *
      subst h1 h2 h3 hm hqm
      rfl
    exact this ▸ hq
  · intro h
    exact ⟨p, h, ⟨rfl, rfl⟩, rfl⟩

theorem wget (ws : List Wd) (k : Nat) (h : k < ws.length) : ws.getD k (0, 0, 0, 0) = ws[k] := by
  rw [List.getD_eq_getElem?_getD, List.getElem?_eq_getElem h]; rfl
theorem toldOk_nil (n : Int) : toldOk n [] = true := rfl
theorem toldOk_bad {n : Int} {ws : List Wd} {k : Nat} (h : k < ws.length) (hb : ansOk n (ws.getD k (0, 0, 0, 0)) = false) : toldOk n ws = false := by
  have : ws.all (ansOk n) = false := by
    rw [List.all_eq_false]
    exact ⟨ws[k], List.getElem_mem h, by rw [← wget ws k h, hb]; decide⟩
  unfold toldOk
  rw [this]
  rfl
theorem toldOk_twice {n : Int} {ws : List Wd} {k : Nat} (h : k < ws.length) (hb : (ws.take k).contains (ws.getD k (0, 0, 0, 0)) = true) : toldOk n ws = false := by
  have hn : ¬ ws.Nodup := by
    intro hnd
    have h1 : (ws.take (k + 1)).Nodup := hnd.sublist (List.take_sublist _ _)
    rw [wtake ws k h, List.nodup_append] at h1
    have h2 := h1.2.2 _ (List.contains_iff_mem.1 hb) _ (List.mem_singleton.2 rfl)
    exact h2 rfl
  unfold toldOk
  rw [decide_eq_false hn]
  simp
theorem toldOk_more {n : Int} {ws : List Wd} {k : Nat} (h : k < ws.length) (h1 : toldOk n (ws.take k) = true) (h2 : ansOk n (ws.getD k (0, 0, 0, 0)) = true) (h3 : (ws.take k).contains (ws.getD k (0, 0, 0, 0)) = false) : toldOk n (ws.take (k + 1)) = true := by
  unfold toldOk at *
  simp only [Bool.and_eq_true, decide_eq_true_eq] at *
  rw [wtake ws k h]
  refine ⟨by simp only [List.all_append, h1.1, Bool.true_and]; simp only [List.all_cons, List.all_nil, Bool.and_true]; exact h2, ?_⟩
  rw [List.nodup_append]
  refine ⟨h1.2, by simp, fun a ha b hb => ?_⟩
  simp only [List.mem_singleton] at hb
  subst hb
  intro e
  subst e
  have := List.contains_iff_mem.2 ha
  rw [this] at h3
  cases h3
theorem toldOk_all {n : Int} {ws : List Wd} (h : toldOk n ws = true) : ws.all (ansOk n) = true := by
  unfold toldOk at h
  simp only [Bool.and_eq_true] at h
  exact h.1

/-- A desk is ok. -/
def dkOk (up : Bool) (rs : List R) (f : Int) (ws : List Wd) : Bool := logOk rs f && ((T.runT rs).isSome && (toldOk ((T.runT rs).getD []).length ws && (up || ws.isEmpty)))

end Go.Proofs.YtgknnigjlnfplaaDoor

namespace Go.Proofs.YtgknnigjlnfplaaDoor
open Go.RowKit
open Go.Maps

/-- What an element of the book reads as: the number of the block in which the set lies. -/
def refElem : Value → Option (DataW Unit × List MemPlace)
  | .map (some B) => some (.lit (.int .i64 (B : Nat)), [])
  | .map none => some (.nil, [])
  | _ => none
theorem refElem_none {v : Value} {ps : List MemPlace} (h : refElem v = some (.nil, ps)) : v = .map none := by
  unfold refElem at h
  split at h
  · simp at h
  · rfl
  · cases h
theorem refElem_some {v : Value} {ps : List MemPlace} {B : Nat} (h : refElem v = some (.lit (.int .i64 (B : Nat)), ps)) : v = .map (some B) := by
  unfold refElem at h
  split at h
  · rename_i C
    simp at h
    have e : C = B := by omega
    rw [e]
  · simp at h
  · cases h

/-- How an answer is told as a key. -/
def rkey (k h : Int) : Lit := .string (keyBytes [.int .i64 k, .int .i64 h])
abbrev replyV (k h : Int) : Value := .agg #[.int .i64 k, .int .i64 h]
theorem laidOut_ : laidOutB Tryd.prog = true := by kernel_rfl
theorem replyLaw : Keyed Tryd.prog 108 := Keyed.of_law (deep_law_laid laidOut_ (m := 2) (by omega) (of_decide_eq_true (by kernel_rfl)) (by kernel_rfl) (by rw [Tryd.underlying108]))
theorem tripLaw : Keyed Tryd.prog 3 := int_keyed Tryd.underlying3
theorem replyKeyType : Tryd.prog.keyType 108 = true := by kernel_rfl
theorem replyCells : Tryd.prog.cellsOf 108 = 2 := by kernel_rfl
theorem i64_wf {a : Int} (h : 0 ≤ a) (h1 : a ≤ 1000) : (Lit.int .i64 a).wf = true := WalkArith.wf_i64 (by omega)
theorem typesMany : ∃ n, Tryd.prog.types.size = n + 3 := ⟨Tryd.prog.types.size - 3, by kernel_rfl⟩
theorem replyKey {k h : Int} (hk : 0 ≤ k) (hk1 : k ≤ 1000) (hh : 0 ≤ h) (hh1 : h ≤ 1000) : keyOf Tryd.prog 108 (replyV k h) = some (rkey k h) := by
  obtain ⟨n, hn⟩ := typesMany
  have f : (replyV k h).formed Tryd.prog 108 = true := by simp [Value.formed, Tryd.underlying108, replyCells]
  have c1 : Tryd.prog.cellsOf 3 = 1 := by kernel_rfl
  unfold keyOf
  rw [Tryd.underlying108]
  simp only [replyKeyType, f, Bool.and_self, if_true]
  rw [hn]
  unfold Program.keyLits
  rw [Tryd.underlying108]
  simp [replyCells, Value.cells, Program.keyLits, Tryd.underlying3, c1, i64_wf hk hk1, i64_wf hh hh1, rkey]
theorem rkey_inj {k h k' h' : Int} (hk : 0 ≤ k) (hk1 : k ≤ 1000) (hh : 0 ≤ h) (hh1 : h ≤ 1000) (gk : 0 ≤ k') (gk1 : k' ≤ 1000) (gh : 0 ≤ h') (gh1 : h' ≤ 1000) (e : rkey k h = rkey k' h') : k = k' ∧ h = h' := by
  have := replyLaw.inj (replyKey hk hk1 hh hh1) (e ▸ replyKey gk gk1 gh gh1)
  simpa using this
theorem rkey_lit (k h : Int) : WideAt.IsKeyLit (rkey k h) := trivial
theorem tripKey {t : Int} (h : 0 ≤ t) (h1 : t ≤ 1000) : keyOf Tryd.prog 3 (.int .i64 t) = some (.int .i64 t) := keyOf_int_mk Tryd.underlying3 (i64_wf h h1)
theorem zeroUnit (w : World) : (zeroValue 127).run Tryd.prog w = .ok (.agg #[]) w := by kernel_rfl
theorem zeroSet (w : World) : (zeroValue 105).run Tryd.prog w = .ok (.map none) w := by kernel_rfl
theorem below_grown {W w' : World} (h : Below W.heap.size W w') (row : Option Nat) : W.grownBy w' row := ⟨h.os, h.tape, h.output, h.size, fun i hi _ => h.block i hi⟩

set_option maxHeartbeats 1000000 in
theorem setHas_any (B n : Nat) (S : DataW Unit) (k h : Int) (W : World) (ho : W.ownsMap Tryd.prog 108 unitElem B n S) (hk : 0 ≤ k) (hk1 : k ≤ 1000) (hh : 0 ≤ h) (hh1 : h ≤ 1000) :
    Calls Tryd.prog 56 #[.map (some B), replyV k h] W fun e w' => e = .returned (.bool (Maps.has S (rkey k h))) ∧ Below W.heap.size W w' := by
  have HK := hide_it (replyKey hk hk1 hh hh1)
  have HO := hide_it ho
  clear ho
  go_enter Tryd.func56, Tryd.ntmps56
  go_wp2_with (first | (at_lookup; refine wpList_lookup_own_unit _ rfl _ _ 105 rfl 108 127 replyLaw Tryd.underlying105 (zeroUnit _) B n S rfl (HO.out.alloc _) _ _ rfl HK.out ?_) | go_in)
  go_ret
  exact ⟨rfl, below2 _ _ _⟩

set_option maxHeartbeats 1000000 in
theorem setHas_none (k h : Int) (W : World) (hk : 0 ≤ k) (hk1 : k ≤ 1000) (hh : 0 ≤ h) (hh1 : h ≤ 1000) :
    Calls Tryd.prog 56 #[.map none, replyV k h] W fun e w' => e = .returned (.bool false) ∧ Below W.heap.size W w' := by
  have hl : ∀ w : World, (Instr.lookup 105 (.map none) (replyV k h) true).run Tryd.prog w = .ok (.tuple #[.agg #[], .bool false]) w := fun w => by
    have := Maps.look_nil (w := w) true replyLaw Tryd.underlying105 (zeroUnit w) (replyKey hk hk1 hh hh1)
    simpa using this
  go_enter Tryd.func56, Tryd.ntmps56
  go_wp2
  go_ret
  exact ⟨rfl, below2 _ _ _⟩

set_option maxHeartbeats 1000000 in
theorem setAdd_old (B n : Nat) (S : DataW Unit) (k h : Int) (W : World) (ho : W.ownsMap Tryd.prog 108 unitElem B n S) (hk : 0 ≤ k) (hk1 : k ≤ 1000) (hh : 0 ≤ h) (hh1 : h ≤ 1000) (hs : Maps.has S (rkey k h) = true) :
    Calls Tryd.prog 68 #[.map (some B), replyV k h] W fun e w' => e = .returned (.bool false) ∧ Below W.heap.size W w' := by
  have HH : Hid (∀ o, Calls Tryd.prog 56 #[.map (some B), replyV k h] (W.alloc o) fun e w' => e = .returned (.bool true) ∧ Below (W.alloc o).heap.size (W.alloc o) w') := fun o => by
    have := setHas_any B n S k h (W.alloc o) (ho.alloc o) hk hk1 hh hh1
    rw [hs] at this
    exact this
  clear ho hs
  go_enter Tryd.func68, Tryd.ntmps68
  go_wp2_with fail
  refine (HH.out _).mono ?_
  rintro e w1 ⟨rfl, hb⟩
  have B1 := hide_it (below_after hb)
  clear hb
  go_wp2
  go_ret
  exact ⟨rfl, B1.out⟩

set_option maxHeartbeats 1000000 in
theorem setAdd_new (B n : Nat) (S : DataW Unit) (k h : Int) (W : World) (ho : W.ownsMap Tryd.prog 108 unitElem B n S) (hn : n < 100000000) (hk : 0 ≤ k) (hk1 : k ≤ 1000) (hh : 0 ≤ h) (hh1 : h ≤ 1000) (hs : Maps.has S (rkey k h) = false) :
    Calls Tryd.prog 68 #[.map (some B), replyV k h] W fun e w' => e = .returned (.bool true) ∧ W.grownBy w' (some B) ∧ w'.ownsMap Tryd.prog 108 unitElem B (n + 1) (S.put (rkey k h) (.agg [])) := by
  have HK := hide_it (replyKey hk hk1 hh hh1)
  have HO := hide_it ho
  have HH : Hid (∀ o, Calls Tryd.prog 56 #[.map (some B), replyV k h] (W.alloc o) fun e w' => e = .returned (.bool false) ∧ Below (W.alloc o).heap.size (W.alloc o) w') := fun o => by
    have := setHas_any B n S k h (W.alloc o) (ho.alloc o) hk hk1 hh hh1
    rw [hs] at this
    exact this
  clear ho hs
  have X0 : Hid (Blk (W.alloc (.cells #[.int .i64 k, .int .i64 h] 108)) W.heap.size #[.int .i64 k, .int .i64 h] 108) := Blk.new _ _ _
  have HN := hide_it hn
  clear hn
  obtain ⟨S1, hS1⟩ : ∃ x, Hid (S.put (rkey k h) (.agg []) = x) := ⟨_, rfl⟩
  rw [hS1.out]
  go_enter Tryd.func68, Tryd.ntmps68
  go_wp2_with fail
  refine (HH.out _).mono ?_
  rintro e w1 ⟨rfl, hb⟩
  obtain ⟨c0, c1⟩ := (X0.out.after hb).cells2
  have O1 := hide_it ((HO.out.alloc (.cells #[.int .i64 k, .int .i64 h] 108)).kept (below_grown hb none) (by simp))
  have G1 := hide_it (below_grown (below_after hb) (some B))
  clear hb
  go_wp2_with (first | (at_mapUpdate; refine wpList_mapUpdate_own _ rfl _ _ _ 105 rfl 108 127 replyLaw Tryd.underlying105 unitElem B n S rfl O1.out (by have := HN.out; unfold maxLen; omega) _ _ _ rfl rfl HK.out _ [] unitElem_mk ?_; intro w2 hown2 hgrow2; have O2 := hide_it hown2; have G2 := hide_it hgrow2; clear hown2 hgrow2) | go_in)
  go_ret
  exact ⟨rfl, grownBy_trans G1.out G2.out, hS1.out ▸ O2.out⟩

/-- A book in memory of its own, from lo on, its map in block b, which reads as D: these words were told; no map has more than N entries. -/
structure BkD (W : World) (lo b N : Nat) (ws : List Wd) (D : DataW Unit) : Prop where
  low : lo ≤ b
  own : W.ownsMap Tryd.prog 3 refElem b N D
  sets : ∀ t : Int, 1 ≤ t → t ≤ 6 →
      (D.atKey (.int .i64 t) .nil = .nil ∧ ∀ k h, told ws k h t = false) ∨
      (∃ (B : Nat) (S : DataW Unit), D.atKey (.int .i64 t) .nil = .lit (.int .i64 B) ∧ lo ≤ B ∧ B ≠ b ∧ W.ownsMap Tryd.prog 108 unitElem B N S ∧
        ∀ k h : Int, 0 ≤ k → k ≤ 10 → 0 ≤ h → h ≤ 10 → Maps.has S (rkey k h) = told ws k h t)
  apart : ∀ (t t' : Int) (B : Nat), 1 ≤ t → t ≤ 6 → 1 ≤ t' → t' ≤ 6 → t ≠ t' → D.atKey (.int .i64 t) .nil = .lit (.int .i64 B) → D.atKey (.int .i64 t') .nil ≠ .lit (.int .i64 B)
def BkN (W : World) (lo b N : Nat) (ws : List Wd) : Prop := ∃ D : DataW Unit, BkD W lo b N ws D
theorem BkN.lt {W : World} {lo b N : Nat} {ws : List Wd} (h : BkN W lo b N ws) : b < W.heap.size := by
  obtain ⟨D, h1⟩ := h
  exact h1.own.lt
theorem BkN.kept {W W' : World} {lo b N : Nat} {ws : List Wd} {row : Option Nat} (h : BkN W lo b N ws) (hg : W.grownBy W' row) (hr : ∀ g, row = some g → g < lo) : BkN W' lo b N ws := by
  obtain ⟨D, h0, h1, h2, h3⟩ := h
  have ne : ∀ B, lo ≤ B → some B ≠ row := fun B hB e => by have := hr B e.symm; omega
  refine ⟨D, h0, h1.kept hg (ne _ h0), fun t ht ht6 => ?_, h3⟩
  rcases h2 t ht ht6 with a | ⟨B, S, a1, a2, a3, a4, a5⟩
  · exact Or.inl a
  · exact Or.inr ⟨B, S, a1, a2, a3, a4.kept hg (ne _ a2), a5⟩
theorem BkN.after {W W' : World} {lo b N : Nat} {ws : List Wd} (h : BkN W lo b N ws) (hb : Below W.heap.size W W') : BkN W' lo b N ws := h.kept (below_grown hb none) (fun g hg => by cases hg)
theorem BkN.mono {W : World} {lo b N N' : Nat} {ws : List Wd} (h : BkN W lo b N ws) (hn : N ≤ N') : BkN W lo b N' ws := by
  obtain ⟨D, h0, h1, h2, h3⟩ := h
  refine ⟨D, h0, h1.mono hn, fun t ht ht6 => ?_, h3⟩
  rcases h2 t ht ht6 with a | ⟨B, S, a1, a2, a3, a4, a5⟩
  · exact Or.inl a
  · exact Or.inr ⟨B, S, a1, a2, a3, a4.mono hn, a5⟩
theorem atKey_empty (k : Lit) (z : DataW Unit) : (DataW.map []).atKey k z = z := rfl
theorem BkN.new (W : World) : BkN (W.alloc (.map #[] 0)) W.heap.size W.heap.size 0 [] :=
  ⟨.map [], Nat.le_refl _, World.ownsMap_made _ _ _ _, fun t _ _ => Or.inl ⟨atKey_empty _ _, fun _ _ => rfl⟩, fun t t' B _ _ _ _ _ e => by rw [atKey_empty] at e; cases e⟩

theorem told_other {ws : List Wd} {p : Wd} {k h t : Int} (ht : p.2.2.1 ≠ t) : told (ws ++ [p]) k h t = told ws k h t := by
  rw [told_snoc, decide_eq_false ht]; simp
theorem tripLit_ne {t t' : Int} (h : t' ≠ t) : (Lit.int .i64 t' : Lit) ≠ .int .i64 t := fun e => h (by simpa using e)

/-- The set of a trip has one answer more. -/
theorem has_more {S : DataW Unit} {ws : List Wd} {p : Wd} {t : Int} (hS : IsMap S) (hp : (0 ≤ p.1 ∧ p.1 ≤ 10) ∧ 0 ≤ p.2.1 ∧ p.2.1 ≤ 10) (ht : p.2.2.1 = t) (h5 : ∀ k h : Int, 0 ≤ k → k ≤ 10 → 0 ≤ h → h ≤ 10 → Maps.has S (rkey k h) = told ws k h t) :
    ∀ k h : Int, 0 ≤ k → k ≤ 10 → 0 ≤ h → h ≤ 10 → Maps.has (S.put (rkey p.1 p.2.1) (.agg [])) (rkey k h) = told (ws ++ [p]) k h t := by
  intro k h k0 k1 h0 h1
  rw [told_snoc]
  by_cases e : p.1 = k ∧ p.2.1 = h
  · obtain ⟨rfl, rfl⟩ := e
    rw [has_put_same hS (rkey_lit _ _)]
    simp [ht]
  · have hne : rkey k h ≠ rkey p.1 p.2.1 := fun e2 => e (by
      have := rkey_inj k0 (by omega) h0 (by omega) hp.1.1 (by omega) hp.2.1 (by omega) e2
      omega)
    rw [has_put_other hne, h5 k h k0 k1 h0 h1]
    have : (decide (p.1 = k) && decide (p.2.1 = h) && decide (p.2.2.1 = t)) = false := by
      simp only [Bool.and_eq_false_iff, decide_eq_false_iff_not]
      by_cases e1 : p.1 = k
      · exact Or.inl (Or.inr fun e2 => e ⟨e1, e2⟩)
      · exact Or.inl (Or.inl e1)
    rw [this]; simp

theorem tripLit_key (t : Int) : WideAt.IsKeyLit (.int .i64 t) := trivial

/-- One answer more in the set of its trip. -/
theorem BkD.more {W w1 : World} {lo b N B : Nat} {ws : List Wd} {p : Wd} {D S : DataW Unit} (hd : BkD W lo b N ws D)
    (hk : 0 ≤ p.1 ∧ p.1 ≤ 10) (hh : 0 ≤ p.2.1 ∧ p.2.1 ≤ 10) (ht : 1 ≤ p.2.2.1 ∧ p.2.2.1 ≤ 6)
    (a1 : D.atKey (.int .i64 p.2.2.1) .nil = .lit (.int .i64 B)) (a2 : lo ≤ B) (a3 : B ≠ b) (a4 : W.ownsMap Tryd.prog 108 unitElem B N S)
    (a5 : ∀ k h : Int, 0 ≤ k → k ≤ 10 → 0 ≤ h → h ≤ 10 → Maps.has S (rkey k h) = told ws k h p.2.2.1)
    (hg : W.grownBy w1 (some B)) (ho : w1.ownsMap Tryd.prog 108 unitElem B (N + 1) (S.put (rkey p.1 p.2.1) (.agg []))) : BkN w1 lo b (N + 1) (ws ++ [p]) := by
  obtain ⟨h0, h1, h2, h3⟩ := hd
  refine ⟨D, h0, (h1.kept hg (by simpa using fun e => a3 e.symm)).mono (by omega), fun t t1 t6 => ?_, h3⟩
  by_cases et : p.2.2.1 = t
  · subst et
    exact Or.inr ⟨B, _, a1, a2, a3, ho, has_more a4.isMap ⟨hk, hh⟩ rfl a5⟩
  · rcases h2 t t1 t6 with ⟨b1, b2⟩ | ⟨B', S', b1, b2, b3, b4, b5⟩
    · exact Or.inl ⟨b1, fun k h => by rw [told_other et]; exact b2 k h⟩
    · refine Or.inr ⟨B', S', b1, b2, b3, (b4.kept hg ?_).mono (by omega), fun k h k0 k1 q0 q1 => by rw [told_other et]; exact b5 k h k0 k1 q0 q1⟩
      intro e
      simp only [Option.some.injEq] at e
      subst e
      exact h3 _ _ _ ht.1 ht.2 t1 t6 et a1 b1

/-- A trip of which nothing was told has a set, with nothing in it. -/
theorem BkD.made {W w2 : World} {lo b N : Nat} {o : Obj} {ws : List Wd} {D : DataW Unit} {t0 : Int} (hd : BkD W lo b N ws D)
    (ht : 1 ≤ t0 ∧ t0 ≤ 6) (hno : ∀ k h, told ws k h t0 = false)
    (hg : ((W.alloc o).alloc (.map #[] 0)).grownBy w2 (some b)) (ho : w2.ownsMap Tryd.prog 3 refElem b (N + 1) (D.put (.int .i64 t0) (.lit (.int .i64 ((W.heap.size + 1 : Nat) : Int))))) :
    BkD w2 lo b (N + 1) ws (D.put (.int .i64 t0) (.lit (.int .i64 ((W.heap.size + 1 : Nat) : Int)))) ∧ w2.ownsMap Tryd.prog 108 unitElem (W.heap.size + 1) (N + 1) (.map [] : DataW Unit) ∧ (D.put (.int .i64 t0) (.lit (.int .i64 ((W.heap.size + 1 : Nat) : Int)))).atKey (.int .i64 t0) .nil = .lit (.int .i64 ((W.heap.size + 1 : Nat) : Int)) := by
  obtain ⟨h0, h1, h2, h3⟩ := hd
  have hb := h1.lt
  have e0 : (D.put (.int .i64 t0) (.lit (.int .i64 ((W.heap.size + 1 : Nat) : Int)))).atKey (.int .i64 t0) .nil = .lit (.int .i64 ((W.heap.size + 1 : Nat) : Int)) := atKey_put_same h1.isMap (tripLit_key _) _ _
  have m0 : w2.ownsMap Tryd.prog 108 unitElem (W.heap.size + 1) 0 (.map [] : DataW Unit) := by
    have := World.ownsMap_made (H := Unit) (W.alloc o) Tryd.prog 108 unitElem
    rw [size1] at this
    exact this.kept hg (fun e => by simp at e; omega)
  refine ⟨⟨h0, ho, fun t t1 t6 => ?_, fun t t' B' t1 t6 s1 s6 hne e1 e2 => ?_⟩, m0.mono (by omega), e0⟩
  · by_cases et : t0 = t
    · subst et
      exact Or.inr ⟨_, _, e0, by omega, by omega, m0.mono (by omega), fun k h _ _ _ _ => by rw [hno k h]; rfl⟩
    · have ne := tripLit_ne (fun e => et e.symm : t ≠ t0)
      rcases h2 t t1 t6 with ⟨b1, b2⟩ | ⟨B', S', b1, b2, b3, b4, b5⟩
      · exact Or.inl ⟨by rw [atKey_put_other ne]; exact b1, b2⟩
      · exact Or.inr ⟨B', S', by rw [atKey_put_other ne]; exact b1, b2, b3, ((((b4.alloc o).alloc (.map #[] 0)).kept hg (by simpa using b3))).mono (by omega), b5⟩
  · have old : ∀ s : Int, 1 ≤ s → s ≤ 6 → s ≠ t0 → ∀ C : Nat, (D.put (.int .i64 t0) (.lit (.int .i64 ((W.heap.size + 1 : Nat) : Int)))).atKey (.int .i64 s) .nil = .lit (.int .i64 C) → D.atKey (.int .i64 s) .nil = .lit (.int .i64 C) ∧ C < W.heap.size := by
      intro s q1 q6 hs C hC
      rw [atKey_put_other (tripLit_ne hs)] at hC
      rcases h2 s q1 q6 with ⟨b1, _⟩ | ⟨B'', S'', b1, b2, b3, b4, b5⟩
      · rw [b1] at hC; cases hC
      · rw [b1] at hC
        simp at hC
        have : B'' = C := by omega
        subst this
        exact ⟨b1, b4.lt⟩
    by_cases c1 : t = t0
    · subst c1
      rw [e0] at e1
      simp at e1
      have := (old t' s1 s6 (fun e => hne e.symm) B' e2).2
      omega
    · by_cases c2 : t' = t0
      · subst c2
        rw [e0] at e2
        simp at e2
        have := (old t t1 t6 c1 B' e1).2
        omega
      · exact h3 t t' B' t1 t6 s1 s6 hne (old t t1 t6 c1 B' e1).1 (old t' s1 s6 c2 B' e2).1

end Go.Proofs.YtgknnigjlnfplaaDoor

namespace Go.Proofs.YtgknnigjlnfplaaDoor
open Go.RowKit
open Go.Maps

section
variable {P : Program} (w : World) {ops : Array Oper} {rest : List Oper} {o : Oper} {a : Act} {Q : Exit → Act → World → Prop}
/-- A look into a map whose answer is known. -/
theorem wpList_lookup_run (hg : o.guard = none) (m x : Operand) (t : TypeId) (c : Bool) (hop : o.op = Op.lookup t m x c) (M X v : Value) (hm : a.eval m = M) (hx : a.eval x = X)
    (hrun : (Instr.lookup t M X c).run P w = .ok v w) (hK : wpList P ops Q rest (a.put o.dst v) w) : wpList P ops Q (o :: rest) a w := by
  refine wpList_plain hg fun K' hK' => ?_
  unfold Oper.wp
  simp [execOp, hop, hm, hx, hrun, Result.andThen]
  exact hK' _ _ hK
end

theorem eqlSome (B : Nat) (w : World) : Sem.run Tryd.prog (binOp BinOp.eql 105 (.map (some B)) (.map none)) w = .ok (.bool false) w := by kernel_rfl
theorem eqlNone (w : World) : Sem.run Tryd.prog (binOp BinOp.eql 105 (.map none) (.map none)) w = .ok (.bool true) w := by kernel_rfl

set_option maxHeartbeats 2000000 in
set_option maxRecDepth 10000 in
theorem bookAdd_old (lo b N : Nat) (ws : List Wd) (p : Wd) (W : World) (hb : BkN W lo b N ws) (hk : 0 ≤ p.1 ∧ p.1 ≤ 10) (hh : 0 ≤ p.2.1 ∧ p.2.1 ≤ 10) (ht : 1 ≤ p.2.2.1 ∧ p.2.2.1 ≤ 6) (hold : told ws p.1 p.2.1 p.2.2.1 = true) :
    Calls Tryd.prog 54 #[.map (some b), wordV p.1 p.2.1 p.2.2.1 p.2.2.2] W fun e w' => e = .returned (.bool false) ∧ Below W.heap.size W w' := by
  obtain ⟨D, h0, h1, h2, h3⟩ := hb
  rcases h2 _ ht.1 ht.2 with ⟨_, a⟩ | ⟨B, S, a1, a2, a3, a4, a5⟩
  · rw [a] at hold; cases hold
  have hl : Hid (∀ o, (Instr.lookup 49 (.map (some b)) (.int .i64 p.2.2.1) false).run Tryd.prog (W.alloc o) = .ok (.map (some B)) (W.alloc o)) := fun o => by
    obtain ⟨v, ps, r1, r2⟩ := (h1.alloc o).lookup tripLaw Tryd.underlying49 (zeroSet _) (zd := .nil) (zp := []) rfl (tripKey (by omega) (by omega : p.2.2.1 ≤ 1000))
    rw [a1] at r2
    rw [refElem_some r2] at r1
    exact r1
  have HC : Hid (∀ o, Calls Tryd.prog 68 #[.map (some B), replyV p.1 p.2.1] (W.alloc o) fun e w' => e = .returned (.bool false) ∧ Below (W.alloc o).heap.size (W.alloc o) w') := fun o =>
    setAdd_old B _ S p.1 p.2.1 (W.alloc o) (a4.alloc o) hk.1 (by omega) hh.1 (by omega) (by rw [a5 _ _ hk.1 hk.2 hh.1 hh.2]; exact hold)
  obtain ⟨k, h, t, m⟩ := p
  simp only at hl HC
  have l1 := hl.out (.cells #[.int .i64 k, .int .i64 h, .int .i64 t, .int .i64 m] 58)
  clear hl a1 a2 a3 a4 a5 h0 h1 h2 h3 hold hk hh ht
  go_enter Tryd.func54, Tryd.ntmps54
  have e1 := eqlSome B
  go_wp2_with (go_at_call 68; refine (HC.out _).mono ?_; rintro e w1 ⟨rfl, hb⟩)
  go_ret
  exact ⟨rfl, below_after (by assumption)⟩

theorem Blk.grown {w w' : World} {b : Nat} {cs : Array Value} {ty : TypeId} {row : Option Nat} (h : Blk w b cs ty) (hg : w.grownBy w' row) (hne : some b ≠ row) : Blk w' b cs ty := by
  unfold Blk; rw [hg.block b h.lt hne]; exact h

set_option maxHeartbeats 2000000 in
set_option maxRecDepth 10000 in
theorem bookAdd_new (lo b N : Nat) (ws : List Wd) (p : Wd) (W : World) (hb : BkN W lo b N ws) (hN : N < 10000000) (hk : 0 ≤ p.1 ∧ p.1 ≤ 10) (hh : 0 ≤ p.2.1 ∧ p.2.1 ≤ 10) (ht : 1 ≤ p.2.2.1 ∧ p.2.2.1 ≤ 6) (hold : told ws p.1 p.2.1 p.2.2.1 = false) :
    Calls Tryd.prog 54 #[.map (some b), wordV p.1 p.2.1 p.2.2.1 p.2.2.2] W fun e w' => e = .returned (.bool true) ∧ BkN w' lo b (N + 2) (ws ++ [p]) ∧ Below lo W w' := by
  obtain ⟨D, hd⟩ := hb
  have h0 := hd.low
  have h1 := hd.own
  have hbl := h1.lt
  have hlo : lo ≤ W.heap.size := by omega
  rcases hd.sets _ ht.1 ht.2 with ⟨an, a⟩ | ⟨B, S, a1, a2, a3, a4, a5⟩
  · have hl : Hid (∀ o, (Instr.lookup 49 (.map (some b)) (.int .i64 p.2.2.1) false).run Tryd.prog (W.alloc o) = .ok (.map none) (W.alloc o)) := fun o => by
      obtain ⟨v, ps, r1, r2⟩ := (h1.alloc o).lookup tripLaw Tryd.underlying49 (zeroSet _) (zd := .nil) (zp := []) rfl (tripKey (by omega) (by omega : p.2.2.1 ≤ 1000))
      rw [an] at r2
      rw [refElem_none r2] at r1
      exact r1
    have HM : Hid (∀ o w2, ((W.alloc o).alloc (.map #[] 0)).grownBy w2 (some b) → w2.ownsMap Tryd.prog 3 refElem b (N + 1) (D.put (.int .i64 p.2.2.1) (.lit (.int .i64 ((W.heap.size + 1 : Nat) : Int)))) →
        (Instr.lookup 49 (.map (some b)) (.int .i64 p.2.2.1) false).run Tryd.prog w2 = .ok (.map (some (W.heap.size + 1))) w2 ∧
        Calls Tryd.prog 68 #[.map (some (W.heap.size + 1)), replyV p.1 p.2.1] w2 fun e w' => e = .returned (.bool true) ∧ BkN w' lo b (N + 2) (ws ++ [p]) ∧ Below lo W w') := fun o w2 hg ho => by
      obtain ⟨hd2, mo, e0⟩ := BkD.made hd ht a hg ho
      constructor
      · obtain ⟨v, ps, r1, r2⟩ := ho.lookup tripLaw Tryd.underlying49 (zeroSet _) (zd := .nil) (zp := []) rfl (tripKey (by omega) (by omega : p.2.2.1 ≤ 1000))
        rw [e0] at r2
        rw [refElem_some r2] at r1
        exact r1
      · refine (setAdd_new (W.heap.size + 1) (N + 1) (.map []) p.1 p.2.1 w2 mo (by omega) hk.1 (by omega) hh.1 (by omega) rfl).mono ?_
        rintro e w3 ⟨he, g3, o3⟩
        refine ⟨he, hd2.more hk hh ht e0 (by omega) (by omega) mo (fun k h _ _ _ _ => by rw [a k h]; rfl) g3 o3, ?_⟩
        have b1 : Below lo W ((W.alloc o).alloc (.map #[] 0)) := (below2 W _ _).mono hlo
        have b2 : Below lo W w2 := b1.grown hg (by simp; omega) (fun j hj => by simp at hj; omega)
        exact b2.grown g3 (by have := hg.size; simp at this; omega) (fun j hj => by simp at hj; omega)
    have hbl' := hbl
    have HX : Hid (∀ o w2, ((W.alloc o).alloc (.map #[] 0)).grownBy w2 (some b) → ∀ cs ty, Blk (W.alloc o) W.heap.size cs ty → Blk w2 W.heap.size cs ty) := fun o w2 hg cs ty hB =>
      (hB.alloc _).grown hg (fun e => by simp at e; omega)
    have HMk : Hid (∀ w : World, w.ownsMap Tryd.prog 3 refElem b N D → w.ownsMap Tryd.prog 3 refElem b N D) := fun _ h => h
    have HO := hide_it h1
    have HN := hide_it hN
    obtain ⟨k, h, t, m⟩ := p
    simp only at hl HM ht
    have HK : Hid (keyOf Tryd.prog 3 (.int .i64 t) = some (.int .i64 t)) := tripKey (by omega) (by omega)
    have l1 := hl.out (.cells #[.int .i64 k, .int .i64 h, .int .i64 t, .int .i64 m] 58)
    have e1 := eqlNone
    have hmm := @run_makeMap Tryd.prog
    clear hl hd h0 h1 hbl hbl' hlo an a hold hk hh ht hN HMk
    go_enter Tryd.func54, Tryd.ntmps54
    go_wp2_with (first | (at_mapUpdate; refine wpList_mapUpdate_own _ rfl _ _ _ 49 rfl 3 105 tripLaw Tryd.underlying49 refElem b N D rfl ((HO.out.alloc _).alloc _) (by have := HN.out; unfold maxLen; omega) _ _ _ rfl rfl HK.out (.lit (.int .i64 ((W.heap.size + 1 : Nat) : Int))) [] rfl ?_; intro w2 hown2 hgrow2; have Q2 := HM.out _ w2 hgrow2 hown2; have l2 := Q2.1; have C2 := hide_it Q2.2; obtain ⟨c0, c1, c2, c3⟩ := (HX.out _ w2 hgrow2 _ _ (Blk.new _ _ _)).cells4; clear Q2 hown2 hgrow2) | (go_at_call 68; refine C2.out.mono ?_; rintro e w3 ⟨rfl, hb1, hb2⟩; have B1 := hide_it hb1; have B2 := hide_it hb2; clear hb1 hb2))
    go_ret
    exact ⟨rfl, B1.out, B2.out⟩
  · have hl : Hid (∀ o, (Instr.lookup 49 (.map (some b)) (.int .i64 p.2.2.1) false).run Tryd.prog (W.alloc o) = .ok (.map (some B)) (W.alloc o)) := fun o => by
      obtain ⟨v, ps, r1, r2⟩ := (h1.alloc o).lookup tripLaw Tryd.underlying49 (zeroSet _) (zd := .nil) (zp := []) rfl (tripKey (by omega) (by omega : p.2.2.1 ≤ 1000))
      rw [a1] at r2
      rw [refElem_some r2] at r1
      exact r1
    have HC : Hid (∀ o, Calls Tryd.prog 68 #[.map (some B), replyV p.1 p.2.1] (W.alloc o) fun e w' => e = .returned (.bool true) ∧ BkN w' lo b (N + 2) (ws ++ [p]) ∧ Below lo W w') := fun o => by
      refine (setAdd_new B N S p.1 p.2.1 (W.alloc o) (a4.alloc o) (by omega) hk.1 (by omega) hh.1 (by omega) (by rw [a5 _ _ hk.1 hk.2 hh.1 hh.2]; exact hold)).mono ?_
      rintro e w3 ⟨he, g3, o3⟩
      have hg : W.grownBy w3 (some B) := grownBy_trans (World.grownBy_alloc W o _) g3
      refine ⟨he, (hd.more hk hh ht a1 a2 a3 a4 a5 hg o3).mono (by omega), (Below.refl lo W).grown hg hlo (fun j hj => by simp at hj; omega)⟩
    obtain ⟨k, h, t, m⟩ := p
    simp only at hl HC
    have l1 := hl.out (.cells #[.int .i64 k, .int .i64 h, .int .i64 t, .int .i64 m] 58)
    clear hl a1 a2 a3 a4 a5 h0 h1 hd hold hk hh ht hN hlo hbl
    have e1 := eqlSome B
    go_enter Tryd.func54, Tryd.ntmps54
    go_wp2_with (go_at_call 68; refine (HC.out _).mono ?_; rintro e w1 ⟨rfl, hb1, hb2⟩; have B1 := hide_it hb1; have B2 := hide_it hb2; clear hb1 hb2)
    go_ret
    exact ⟨rfl, B1.out, B2.out⟩

end Go.Proofs.YtgknnigjlnfplaaDoor

namespace Go.Proofs.YtgknnigjlnfplaaDoor
open Go.RowKit

/-- Each block of cells is as it was. -/
def Cel (w w' : World) : Prop := w.heap.size ≤ w'.heap.size ∧ w'.os = w.os ∧ w'.tape = w.tape ∧ w'.output = w.output ∧ ∀ (b : Nat) (cs : Array Value) (ty : TypeId) (fz : Nat × Nat), w.heap[b]? = some (.cells cs ty fz) → w'.heap[b]? = w.heap[b]?
theorem Cel.refl (w : World) : Cel w w := ⟨Nat.le_refl _, rfl, rfl, rfl, fun _ _ _ _ _ => rfl⟩
theorem Cel.trans {a b c : World} (h : Cel a b) (k : Cel b c) : Cel a c :=
  ⟨Nat.le_trans h.1 k.1, k.2.1.trans h.2.1, k.2.2.1.trans h.2.2.1, k.2.2.2.1.trans h.2.2.2.1, fun x cs ty fz hx => by have e := h.2.2.2.2 x cs ty fz hx; rw [k.2.2.2.2 x cs ty fz (by rw [e]; exact hx)]; exact e⟩
theorem Cel.of_below {w w' : World} (h : Below w.heap.size w w') : Cel w w' :=
  ⟨h.size, h.os, h.tape, h.output, fun b _ _ _ hb => h.block b (lt_of_heap hb)⟩
theorem Cel.of_grown {w w' : World} {row : Option Nat} (h : w.grownBy w' row) (hr : ∀ g, row = some g → ∃ m n, w.heap[g]? = some (.map m n)) : Cel w w' :=
  ⟨h.size, h.os, h.tape, h.output, fun b _ _ _ hb => h.block b (lt_of_heap hb) (fun e => by
    obtain ⟨m, n, hm⟩ := hr b e.symm
    rw [hb] at hm; cases hm)⟩
theorem Cel.blk {w w' : World} {b : Nat} {cs : Array Value} {ty : TypeId} (h : Cel w w') (hb : Blk w b cs ty) : Blk w' b cs ty := by
  unfold Blk at *; rw [h.2.2.2.2 b cs ty (0, 0) hb]; exact hb
theorem mapObj {H : Type} {P : Program} {k : TypeId} {R : Value → Option (DataW H × List MemPlace)} {w : World} {b n : Nat} {D : DataW H} (h : w.ownsMap P k R b n D) : ∃ es c, w.heap[b]? = some (.map es c) := by
  obtain ⟨es, c, hb, _⟩ := h
  exact ⟨es, c, hb⟩
theorem Cel.row {w w' : World} {base : Nat} {e : TypeId} {size n : Nat} {v : Value} {xs : List Value} (h : Cel w w') (hr : w.ownsRow base e size v n xs) : w'.ownsRow base e size v n xs := by
  refine ⟨hr.1, ?_⟩
  rcases hr.2 with h1 | ⟨g, cap, cur, h1, h2, h3, h4⟩
  · exact Or.inl h1
  · exact Or.inr ⟨g, cap, cur, h1, h2, by rw [h.2.2.2.2 g cur e (0, 0) h3]; exact h3, h4⟩
theorem Cel.inner {w w' : World} {lo hi : Nat} {ps : List (R × Value)} (h : Cel w w') (hi' : Inner w lo hi ps) : Inner w' lo hi ps :=
  ⟨Nat.le_trans hi'.1 h.1, fun p hp => ⟨h.row (hi'.2.1 p hp).1, (hi'.2.1 p hp).2⟩, hi'.2.2⟩
theorem Cel.own {w w' : World} {lo hi : Nat} {v : Value} {ps : List (R × Value)} (h : Cel w w') (ho : OwnRecs w lo hi v ps) : OwnRecs w' lo hi v ps :=
  ⟨h.row ho.1, ho.2.1, h.inner ho.2.2⟩
/-- A store into a block of cells, or one that grows, leaves the book. -/
theorem BkN.keptC {W W' : World} {lo b N : Nat} {ws : List Wd} {row : Option Nat} (h : BkN W lo b N ws) (hg : W.grownBy W' row) (hr : ∀ g, row = some g → ∃ cs ty fz, W.heap[g]? = some (.cells cs ty fz)) : BkN W' lo b N ws := by
  obtain ⟨D, h0, h1, h2, h3⟩ := h
  have ne : ∀ B, (∃ es c, W.heap[B]? = some (.map es c)) → some B ≠ row := fun B hB e => by
    obtain ⟨cs, ty, fz, hc⟩ := hr B e.symm
    obtain ⟨es, c, hm⟩ := hB
    rw [hc] at hm; cases hm
  refine ⟨D, h0, h1.kept hg (ne _ (mapObj h1)), fun t ht ht6 => ?_, h3⟩
  rcases h2 t ht ht6 with a | ⟨B, S, a1, a2, a3, a4, a5⟩
  · exact Or.inl a
  · exact Or.inr ⟨B, S, a1, a2, a3, a4.kept hg (ne _ (mapObj a4)), a5⟩

set_option maxHeartbeats 2000000 in
set_option maxRecDepth 10000 in
theorem bookAdd_newC (lo b N : Nat) (ws : List Wd) (p : Wd) (W : World) (hb : BkN W lo b N ws) (hN : N < 10000000) (hk : 0 ≤ p.1 ∧ p.1 ≤ 10) (hh : 0 ≤ p.2.1 ∧ p.2.1 ≤ 10) (ht : 1 ≤ p.2.2.1 ∧ p.2.2.1 ≤ 6) (hold : told ws p.1 p.2.1 p.2.2.1 = false) :
    Calls Tryd.prog 54 #[.map (some b), wordV p.1 p.2.1 p.2.2.1 p.2.2.2] W fun e w' => e = .returned (.bool true) ∧ BkN w' lo b (N + 2) (ws ++ [p]) ∧ (Below lo W w' ∧ Cel W w') := by
  obtain ⟨D, hd⟩ := hb
  have h0 := hd.low
  have h1 := hd.own
  have hbl := h1.lt
  have hlo : lo ≤ W.heap.size := by omega
  rcases hd.sets _ ht.1 ht.2 with ⟨an, a⟩ | ⟨B, S, a1, a2, a3, a4, a5⟩
  · have hl : Hid (∀ o, (Instr.lookup 49 (.map (some b)) (.int .i64 p.2.2.1) false).run Tryd.prog (W.alloc o) = .ok (.map none) (W.alloc o)) := fun o => by
      obtain ⟨v, ps, r1, r2⟩ := (h1.alloc o).lookup tripLaw Tryd.underlying49 (zeroSet _) (zd := .nil) (zp := []) rfl (tripKey (by omega) (by omega : p.2.2.1 ≤ 1000))
      rw [an] at r2
      rw [refElem_none r2] at r1
      exact r1
    have HM : Hid (∀ o w2, ((W.alloc o).alloc (.map #[] 0)).grownBy w2 (some b) → w2.ownsMap Tryd.prog 3 refElem b (N + 1) (D.put (.int .i64 p.2.2.1) (.lit (.int .i64 ((W.heap.size + 1 : Nat) : Int)))) →
        (Instr.lookup 49 (.map (some b)) (.int .i64 p.2.2.1) false).run Tryd.prog w2 = .ok (.map (some (W.heap.size + 1))) w2 ∧
        Calls Tryd.prog 68 #[.map (some (W.heap.size + 1)), replyV p.1 p.2.1] w2 fun e w' => e = .returned (.bool true) ∧ BkN w' lo b (N + 2) (ws ++ [p]) ∧ (Below lo W w' ∧ Cel W w')) := fun o w2 hg ho => by
      obtain ⟨hd2, mo, e0⟩ := BkD.made hd ht a hg ho
      constructor
      · obtain ⟨v, ps, r1, r2⟩ := ho.lookup tripLaw Tryd.underlying49 (zeroSet _) (zd := .nil) (zp := []) rfl (tripKey (by omega) (by omega : p.2.2.1 ≤ 1000))
        rw [e0] at r2
        rw [refElem_some r2] at r1
        exact r1
      · refine (setAdd_new (W.heap.size + 1) (N + 1) (.map []) p.1 p.2.1 w2 mo (by omega) hk.1 (by omega) hh.1 (by omega) rfl).mono ?_
        rintro e w3 ⟨he, g3, o3⟩
        refine ⟨he, hd2.more hk hh ht e0 (by omega) (by omega) mo (fun k h _ _ _ _ => by rw [a k h]; rfl) g3 o3, ?_⟩
        have b1 : Below lo W ((W.alloc o).alloc (.map #[] 0)) := (below2 W _ _).mono hlo
        have b2 : Below lo W w2 := b1.grown hg (by simp; omega) (fun j hj => by simp at hj; omega)
        refine ⟨b2.grown g3 (by have := hg.size; simp at this; omega) (fun j hj => by simp at hj; omega), ?_⟩
        have c1 : Cel W ((W.alloc o).alloc (.map #[] 0)) := (Cel.of_below (below2 W _ _))
        have c2 : Cel ((W.alloc o).alloc (.map #[] 0)) w2 := Cel.of_grown hg (fun g hg2 => by
          simp only [Option.some.injEq] at hg2; subst hg2
          exact mapObj ((h1.alloc o).alloc (.map #[] 0)))
        exact (c1.trans c2).trans (Cel.of_grown g3 (fun g hg2 => by simp only [Option.some.injEq] at hg2; subst hg2; exact mapObj mo))
    have hbl' := hbl
    have HX : Hid (∀ o w2, ((W.alloc o).alloc (.map #[] 0)).grownBy w2 (some b) → ∀ cs ty, Blk (W.alloc o) W.heap.size cs ty → Blk w2 W.heap.size cs ty) := fun o w2 hg cs ty hB =>
      (hB.alloc _).grown hg (fun e => by simp at e; omega)
    have HMk : Hid (∀ w : World, w.ownsMap Tryd.prog 3 refElem b N D → w.ownsMap Tryd.prog 3 refElem b N D) := fun _ h => h
    have HO := hide_it h1
    have HN := hide_it hN
    obtain ⟨k, h, t, m⟩ := p
    simp only at hl HM ht
    have HK : Hid (keyOf Tryd.prog 3 (.int .i64 t) = some (.int .i64 t)) := tripKey (by omega) (by omega)
    have l1 := hl.out (.cells #[.int .i64 k, .int .i64 h, .int .i64 t, .int .i64 m] 58)
    have e1 := eqlNone
    have hmm := @run_makeMap Tryd.prog
    clear hl hd h0 h1 hbl hbl' hlo an a hold hk hh ht hN HMk
    go_enter Tryd.func54, Tryd.ntmps54
    go_wp2_with (first | (at_mapUpdate; refine wpList_mapUpdate_own _ rfl _ _ _ 49 rfl 3 105 tripLaw Tryd.underlying49 refElem b N D rfl ((HO.out.alloc _).alloc _) (by have := HN.out; unfold maxLen; omega) _ _ _ rfl rfl HK.out (.lit (.int .i64 ((W.heap.size + 1 : Nat) : Int))) [] rfl ?_; intro w2 hown2 hgrow2; have Q2 := HM.out _ w2 hgrow2 hown2; have l2 := Q2.1; have C2 := hide_it Q2.2; obtain ⟨c0, c1, c2, c3⟩ := (HX.out _ w2 hgrow2 _ _ (Blk.new _ _ _)).cells4; clear Q2 hown2 hgrow2) | (go_at_call 68; refine C2.out.mono ?_; rintro e w3 ⟨rfl, hb1, hb2⟩; have B1 := hide_it hb1; have B2 := hide_it hb2; clear hb1 hb2))
    go_ret
    exact ⟨rfl, B1.out, B2.out⟩
  · have hl : Hid (∀ o, (Instr.lookup 49 (.map (some b)) (.int .i64 p.2.2.1) false).run Tryd.prog (W.alloc o) = .ok (.map (some B)) (W.alloc o)) := fun o => by
      obtain ⟨v, ps, r1, r2⟩ := (h1.alloc o).lookup tripLaw Tryd.underlying49 (zeroSet _) (zd := .nil) (zp := []) rfl (tripKey (by omega) (by omega : p.2.2.1 ≤ 1000))
      rw [a1] at r2
      rw [refElem_some r2] at r1
      exact r1
    have HC : Hid (∀ o, Calls Tryd.prog 68 #[.map (some B), replyV p.1 p.2.1] (W.alloc o) fun e w' => e = .returned (.bool true) ∧ BkN w' lo b (N + 2) (ws ++ [p]) ∧ (Below lo W w' ∧ Cel W w')) := fun o => by
      refine (setAdd_new B N S p.1 p.2.1 (W.alloc o) (a4.alloc o) (by omega) hk.1 (by omega) hh.1 (by omega) (by rw [a5 _ _ hk.1 hk.2 hh.1 hh.2]; exact hold)).mono ?_
      rintro e w3 ⟨he, g3, o3⟩
      have hg : W.grownBy w3 (some B) := grownBy_trans (World.grownBy_alloc W o _) g3
      refine ⟨he, (hd.more hk hh ht a1 a2 a3 a4 a5 hg o3).mono (by omega), (Below.refl lo W).grown hg hlo (fun j hj => by simp at hj; omega), Cel.of_grown hg (fun g hg2 => by simp only [Option.some.injEq] at hg2; subst hg2; exact mapObj a4)⟩
    obtain ⟨k, h, t, m⟩ := p
    simp only at hl HC
    have l1 := hl.out (.cells #[.int .i64 k, .int .i64 h, .int .i64 t, .int .i64 m] 58)
    clear hl a1 a2 a3 a4 a5 h0 h1 hd hold hk hh ht hN hlo hbl
    have e1 := eqlSome B
    go_enter Tryd.func54, Tryd.ntmps54
    go_wp2_with (go_at_call 68; refine (HC.out _).mono ?_; rintro e w1 ⟨rfl, hb1, hb2⟩; have B1 := hide_it hb1; have B2 := hide_it hb2; clear hb1 hb2)
    go_ret
    exact ⟨rfl, B1.out, B2.out⟩


end Go.Proofs.YtgknnigjlnfplaaDoor

namespace Go.Proofs.YtgknnigjlnfplaaDoor
open Go.RowKit

theorem wflat_one (hs : List Wd) : ∀ u ∈ wflat hs, u.oneCell' = true := by
  induction hs with
  | nil => intro u hu; simp [wflat] at hu
  | cons h t ih =>
    intro u hu
    simp only [wflat, List.mem_cons] at hu
    rcases hu with rfl | rfl | rfl | rfl | hu
    · rfl
    · rfl
    · rfl
    · rfl
    · exact ih u hu

theorem wflat_cells {w : World} {b off : Nat} {hs : List Wd} (hc : ∀ k, k < hs.length → w.cell? ⟨b, off + k * 4, none⟩ = some (.int .i64 (hs.getD k (0, 0, 0, 0)).1) ∧ w.cell? ⟨b, off + k * 4 + 1, none⟩ = some (.int .i64 (hs.getD k (0, 0, 0, 0)).2.1) ∧ w.cell? ⟨b, off + k * 4 + 2, none⟩ = some (.int .i64 (hs.getD k (0, 0, 0, 0)).2.2.1) ∧ w.cell? ⟨b, off + k * 4 + 3, none⟩ = some (.int .i64 (hs.getD k (0, 0, 0, 0)).2.2.2)) :
    ∀ j u, (wflat hs)[j]? = some u → w.cell? ((⟨b, off, none⟩ : Addr).add j) = some u := by
  intro j u hj
  have hjl : j < hs.length * 4 := by
    by_cases e : j < hs.length * 4
    · exact e
    · rw [List.getElem?_eq_none (by rw [wflat_length]; omega)] at hj; cases hj
  obtain ⟨f0, f1, f2, f3⟩ := wflat_get hs (j / 4) (by omega)
  obtain ⟨c0, c1, c2, c3⟩ := hc (j / 4) (by omega)
  rw [Go.WideShapes.add_plain]
  rcases (show j = j / 4 * 4 ∨ j = j / 4 * 4 + 1 ∨ j = j / 4 * 4 + 2 ∨ j = j / 4 * 4 + 3 by omega) with e | e | e | e
  · rw [← e] at f0 c0
    rw [c0, ← f0]; exact hj
  · rw [← e] at f1
    rw [show off + j = off + j / 4 * 4 + 1 by omega, c1, ← f1]; exact hj
  · rw [← e] at f2
    rw [show off + j = off + j / 4 * 4 + 2 by omega, c2, ← f2]; exact hj
  · rw [← e] at f3
    rw [show off + j = off + j / 4 * 4 + 3 by omega, c3, ← f3]; exact hj

/-- Words appended to a row of words of the call's own. -/
theorem run_append_words (w : World) (base ty : Nat) (v xv : Value) (n : Nat) (xs : List Value) (hs : List Wd) (hown : w.ownsRow base 58 4 v n xs) (hI : Words w xv hs) (hb : n + hs.length ≤ 4194304) (hbase : base ≤ w.heap.size) :
    ∃ v' w', (Builtin.append_ #[29, 29] ty #[v, xv]).run Tryd.prog w = .ok v' w' ∧ w'.ownsRow base 58 4 v' (n + hs.length) (xs ++ wflat hs) ∧ w.grownBy w' v.ownBlock ∧ (v'.ownBlock = v.ownBlock ∨ v'.ownBlock = some w.heap.size) := by
  obtain ⟨i0, hi, hz0, hz1, hz2⟩ := info_parts infoWord
  rcases hI with ⟨rfl, ao, cap, rfl, hao⟩ | ⟨b, off, cap, rfl, hz, hc⟩
  · cases ao with
    | none =>
      obtain rfl := hao rfl
      exact ⟨v, w, run_append_owned_none w base 29 ty 58 i0 4 Tryd.underlying29 hi v n xs hown, by simpa [wflat] using hown, World.grownBy.refl _ _, Or.inl rfl⟩
    | some a =>
      obtain ⟨v', w', h1, h2, h3, _, h5⟩ := run_append_own_at (P := Tryd.prog) w base 29 ty 58 i0 (.agg #[.int .i64 0, .int .i64 0, .int .i64 0, .int .i64 0]) 4 32 Tryd.underlying29 hi hz0 hz1 hz2 rfl (by decide) v n xs hown a 0 cap [] rfl (fun j u h => by simp at h) (fun u h => by simp at h) (by unfold maxLen; omega) (by simp at hb; omega) hbase
      exact ⟨v', w', h1, by simpa [wflat] using h2, h3, h5⟩
  · obtain ⟨v', w', h1, h2, h3, _, h5⟩ := run_append_own_at (P := Tryd.prog) w base 29 ty 58 i0 (.agg #[.int .i64 0, .int .i64 0, .int .i64 0, .int .i64 0]) 4 32 Tryd.underlying29 hi hz0 hz1 hz2 rfl (by decide) v n xs hown ⟨b, off, none⟩ hs.length cap (wflat hs) (wflat_length hs) (wflat_cells hc) (wflat_one hs) (by unfold maxLen; omega) (by omega) hbase
    exact ⟨v', w', h1, h2, h3, h5⟩

theorem step_append_words {ops : Array Oper} {o : Oper} {a : Act} {w : World} {K : Act → World → Prop} {Q : Exit → Act → World → Prop} {E : Prop} (hgd : o.guard = none) (s x : Operand)
    (ho : o.op = .call { callee := .builtin .append, args := #[s, x], argTypes := #[29, 29] })
    (base : Nat) (v xv : Value) (n : Nat) (xs : List Value) (hs : List Wd) (he : a.eval s = v) (hx : a.eval x = xv) (hown : w.ownsRow base 58 4 v n xs) (hI : Words w xv hs) (hb : n + hs.length ≤ 4194304) (hbase : base ≤ w.heap.size)
    (h : ∀ ao cap w', w'.ownsRow base 58 4 (.slice ao (n + hs.length) cap) (n + hs.length) (xs ++ wflat hs) → w.grownBy w' v.ownBlock → ((Value.slice ao (n + hs.length) cap).ownBlock = v.ownBlock ∨ (Value.slice ao (n + hs.length) cap).ownBlock = some w.heap.size) → K (a.put o.dst (.slice ao (n + hs.length) cap)) w') :
    if Region.wanted o (yielded ops a.tmps) = true then Oper.wp Tryd.prog o a w K Q else E := by
  have hw : Region.wanted o (yielded ops a.tmps) = true := by simp [Region.wanted, hgd]
  rw [if_pos hw]
  obtain ⟨v', w', hrun, r1, r2, r3⟩ := run_append_words w base o.type v xv n xs hs hown hI hb hbase
  obtain ⟨ao, cap, rfl⟩ := row_shape r1
  unfold Oper.wp
  simp [execOp, ho, resolve, invoke, builtin, he, hx, hrun, Result.andThen]
  exact h ao cap w' r1 r2 r3

set_option maxHeartbeats 8000000 in
set_option maxRecDepth 20000 in
theorem copyDesk_any (up : Bool) (v u : Value) (rs : List R) (f : Int) (ws : List Wd) (w : World) (hv : DkAt w v u rs ws) (hl : tot rs ≤ 1048576) (hlw : ws.length ≤ 1048576) :
    Calls Tryd.prog 36 #[deskV up v f u] w fun e w' => DkOut w w' e up rs f ws := by
  have HV : Hid (∀ W, Below w.heap.size w W → DkAt W v u rs ws) := fun W h => hv.later h (Nat.le_refl _)
  have HS : Hid (∀ W, Below w.heap.size w W → Calls Tryd.prog 55 #[v] W fun e w' => ∃ ao cap, e = .returned (.slice ao rs.length cap) ∧ Made w' W.heap.size (.slice ao rs.length cap) rs ∧ Below W.heap.size W w') := fun W h =>
    copyRecs_any v rs W (hv.1.later h (Nat.le_refl _)) hl
  obtain ⟨av, cv, au, cu, rfl, rfl⟩ := hv.shape
  clear hv
  obtain ⟨w0, hw0⟩ : ∃ W, Hid (W = (w.alloc (.cells #[.bool up, .slice av rs.length cv, .int .i64 f, .slice au ws.length cu] 35)).alloc (.cells #[.bool false, .slice none 0 0, .int .i64 0, .slice none 0 0] 35)) := ⟨_, rfl⟩
  have B0 : Hid (Below w.heap.size w w0) := by show Below _ _ _; rw [hw0.out]; exact below2 _ _ _
  have X0 : Hid (Blk w0 w.heap.size #[.bool up, .slice av rs.length cv, .int .i64 f, .slice au ws.length cu] 35) := by show Blk _ _ _ _; rw [hw0.out]; exact (Blk.new _ _ _).alloc _
  have Y0 : Hid (Blk w0 (w.heap.size + 1) #[.bool false, .slice none 0 0, .int .i64 0, .slice none 0 0] 35) := by show Blk _ _ _ _; rw [hw0.out]; exact Blk.new2 _ _ _ _
  have hs0 : w0.heap.size = w.heap.size + 2 := by rw [hw0.out, size2]
  obtain ⟨x0, x1, x2, x3⟩ := X0.out.cells4
  go_enter Tryd.func36, Tryd.ntmps36
  go_wp2_with fail
  rw [← hw0.out]
  go_region_held_law (fun w' => w'.cell? ⟨w.heap.size, 0, none⟩ = some (.bool up) ∧ w'.cell? ⟨w.heap.size, 1, none⟩ = some (.slice av rs.length cv) ∧ w'.cell? ⟨w.heap.size, 2, none⟩ = some (.int .i64 f) ∧ w'.cell? ⟨w.heap.size, 3, none⟩ = some (.slice au ws.length cu)) (go_keep)
    (first
    | (go_at_call 55; refine (HS.out _ B0.out.drew).mono ?_; rintro e w1 ⟨ao, cap, rfl, hm, hb⟩; have hb' := (Below.refl w0.heap.size w0).drew.trans hb; obtain ⟨y0, y1, y2, y3⟩ := (X0.out.after hb').cells4; have M1 := hide_it hm; have L1 := hide_it hb'; have B1 := hide_it (B0.out.trans (hb'.mono B0.out.size)); clear hm hb hb')
    | (refine step_append_words rfl _ _ rfl w1.heap.size (.slice none 0 0) (.slice au ws.length cu) 0 [] ws rfl rfl (World.ownsRow_nil _ _ _ _) (HV.out _ B1.out).2 (by omega) (Nat.le_refl _) ?_; intro a2 c2 w2 hown hgrow hloc; clear hloc; simp only [Nat.zero_add, List.nil_append] at hown; have hb2 := grown_below hgrow; obtain ⟨k0, k1, k2, k3⟩ := (X0.out.after (L1.out.trans (hb2.mono L1.out.size))).cells4; obtain ⟨z0, z1, z2, z3⟩ := (Y0.out.after (L1.out.trans (hb2.mono L1.out.size))).cells4; obtain ⟨zf0, zf1, zf2, zf3⟩ := (Y0.out.after (L1.out.trans (hb2.mono L1.out.size))).free4; have O2 := hide_it hown; have L2 := hide_it hb2; have B2 := hide_it (B1.out.trans (hb2.mono B1.out.size)); have hz2 : w.heap.size + 2 ≤ w2.heap.size := (by have := hb2.size; have := L1.out.size; omega); clear hown hgrow hb2))
  try simp only [Nat.zero_add]
  go_wp2
  refine bodyPost_ret (v := deskV up (.slice ao rs.length cap) f (.slice a2 ws.length c2)) (by simp [results, Tryd.results36, go_sem, *]) rfl ?_
  obtain ⟨ps, hp, ho⟩ := M1.out
  refine ⟨ao, cap, a2, c2, ps, rfl, hp, ?_, ?_⟩
  · refine DkOwn.lo (lo := w0.heap.size) ?_ (by omega)
    repeat (refine DkOwn.setBelow ?_ (by omega) _)
    simpa using (DkOwn.mk_ (by simpa using ho) O2.out L2.out (by have := L1.out.size; omega))
  · repeat (refine Below.setCell ?_ (by first | (simp; done) | (simp; omega)) _)
    exact B2.out

end Go.Proofs.YtgknnigjlnfplaaDoor

namespace Go.Proofs.YtgknnigjlnfplaaDoor
open Go.RowKit
open Go.Maps

set_option maxHeartbeats 1000000 in
theorem answerOk_any (p : Wd) (n : Int) (w : World) :
    Calls Tryd.prog 53 #[wordV p.1 p.2.1 p.2.2.1 p.2.2.2, .int .i64 n] w fun e w' => e = .returned (.bool (ansOk n p)) ∧ Below w.heap.size w w' := by
  obtain ⟨k, h, t, m⟩ := p
  show Calls Tryd.prog 53 #[wordV k h t m, .int .i64 n] w fun e w' => e = .returned (.bool (Pl.wOk k h t m && decide (4 ≤ k) && decide (t ≤ n))) ∧ Below w.heap.size w w'
  have HW : Hid (∀ W, Calls Tryd.prog 67 #[wordV k h t m] W fun e w' => e = .returned (.bool (Pl.wOk k h t m)) ∧ Below W.heap.size W w') := fun W => implWordOk_any k h t m W
  have X0 : Hid (Blk (w.alloc (.cells #[.int .i64 k, .int .i64 h, .int .i64 t, .int .i64 m] 58)) w.heap.size #[.int .i64 k, .int .i64 h, .int .i64 t, .int .i64 m] 58) := Blk.new _ _ _
  obtain ⟨bb, hbb⟩ : ∃ x, Pl.wOk k h t m = x := ⟨_, rfl⟩
  rw [hbb] at HW ⊢
  clear hbb
  go_enter Tryd.func53, Tryd.ntmps53
  go_wp2_with fail
  refine (HW.out _).mono ?_
  rintro e w1 ⟨rfl, hb⟩
  obtain ⟨c0, c1, c2, c3⟩ := (X0.out.after hb).cells4
  have B1 := hide_it (below_after hb)
  clear hb
  cases bb
  · go_wp2
    go_ret
    exact ⟨rfl, B1.out⟩
  · by_cases h4 : 4 ≤ k
    · by_cases hn : t ≤ n
      · go_wp2
        go_ret
        exact ⟨by simp; omega, B1.out⟩
      · go_wp2
        go_ret
        exact ⟨by simp; omega, B1.out⟩
    · go_wp2
      go_ret
      exact ⟨by simp; omega, B1.out⟩

/-- What comes of words that were told. -/
def BkOut (w w' : World) (e : Ending) (n : Int) (ws : List Wd) : Prop :=
  ((toldOk n ws = true ∧ e = .returned (.tuple #[.map (some w.heap.size), .bool true]) ∧ BkN w' w.heap.size w.heap.size (2 * ws.length) ws) ∨
   (toldOk n ws = false ∧ e = .returned (.tuple #[.map none, .bool false]))) ∧ Below w.heap.size w w'

set_option maxHeartbeats 4000000 in
set_option maxRecDepth 10000 in
theorem bookOf_any (u : Value) (ws : List Wd) (n : Int) (w : World) (hu : Words w u ws) (hl : ws.length ≤ 1048576) :
    Calls Tryd.prog 35 #[u, .int .i64 n] w fun e w' => BkOut w w' e n ws := by
  have HV : Hid (∀ W, Below w.heap.size w W → Words W u ws) := fun W h => hu.later h (Nat.le_refl _)
  obtain ⟨au, cu, rfl⟩ := hu.shape
  clear hu
  obtain ⟨w0, hw0⟩ : ∃ W, Hid (W = w.alloc (.map #[] 0)) := ⟨_, rfl⟩
  have B0 : Hid (Below w.heap.size w w0) := by show Below _ _ _; rw [hw0.out]; exact alloc_below _ _
  have K0 : Hid (BkN w0 w.heap.size w.heap.size 0 []) := by show BkN _ _ _ _ _; rw [hw0.out]; exact BkN.new w
  have hmm := @run_makeMap Tryd.prog
  go_enter Tryd.func35, Tryd.ntmps35
  go_wp2
  rw [← hw0.out]
  clear hmm
  go_loopw [12] (fun i wr => ∃ k : Nat, k ≤ ws.length ∧ i = .int .i64 k ∧ Hid (toldOk n (ws.take k) = true) ∧ Hid (BkN wr w.heap.size w.heap.size (2 * k) (ws.take k)) ∧ Hid (Below w.heap.size w wr)) (fun i _ => ws.length - (intOf i).toNat)
  case atStart => exact ⟨0, Nat.zero_le _, rfl, rfl, K0, B0⟩
  case round =>
    obtain ⟨k, hk, rfl, HT, HK, HB⟩ := hrel
    by_cases hlt : k < ws.length
    · obtain ⟨p, HP⟩ : ∃ p, Hid (ws.getD k (0, 0, 0, 0) = p) := ⟨_, rfl⟩
      rcases HV.out wr HB.out with ⟨h0, _⟩ | ⟨b, off, cap, hvv, _, hcl⟩
      · rw [h0] at hlt; simp at hlt
      simp only [Value.slice.injEq] at hvv
      obtain ⟨rfl, -, rfl⟩ := hvv
      obtain ⟨c0, c1, c2, c3⟩ := hcl k hlt
      rw [HP.out] at c0 c1 c2 c3
      have hbw : b < wr.heap.size := World.block_lt_of_cell? _ _ c0
      have HA : Hid (∀ W, Calls Tryd.prog 53 #[wordV p.1 p.2.1 p.2.2.1 p.2.2.2, .int .i64 n] W fun e w' => e = .returned (.bool (ansOk n p)) ∧ Below W.heap.size W w') := fun W => answerOk_any p n W
      have X0 : Hid (Blk (wr.alloc (.cells #[.int .i64 p.1, .int .i64 p.2.1, .int .i64 p.2.2.1, .int .i64 p.2.2.2] 58)) wr.heap.size #[.int .i64 p.1, .int .i64 p.2.1, .int .i64 p.2.2.1, .int .i64 p.2.2.2] 58) := Blk.new _ _ _
      have hwr := HB.out.size
      clear hcl
      obtain ⟨aa, haa⟩ : ∃ x, ansOk n p = x := ⟨_, rfl⟩
      rw [haa] at HA
      cases aa
      · have HN : Hid (toldOk n ws = false) := toldOk_bad hlt (by rw [HP.out]; exact haa)
        clear haa
        go_wp2_with (go_at_call 53; refine (HA.out _).mono ?_; rintro e w1 ⟨rfl, hb⟩; have B1 := hide_it (HB.out.trans ((below_after hb).mono hwr)); clear hb)
        refine bodyPost_ret (v := .tuple #[.map none, .bool false]) (by simp [results, Tryd.results35, go_sem]) rfl ?_
        exact ⟨Or.inr ⟨HN.out, rfl⟩, B1.out⟩
      · obtain ⟨pk, ph, pt, pm, pn⟩ := ansOk_parts haa
        have HPP : Hid ((0 ≤ p.1 ∧ p.1 ≤ 10) ∧ (0 ≤ p.2.1 ∧ p.2.1 ≤ 10) ∧ (1 ≤ p.2.2.1 ∧ p.2.2.1 ≤ 6)) := ⟨by omega, by omega, pt⟩
        have hte := told_mem (toldOk_all HT.out) haa
        have HAA := hide_it haa
        clear haa pk ph pt pm pn
        go_wp2_with fail
        refine (HA.out _).mono ?_
        rintro e w1 ⟨rfl, hb⟩
        have B1 := hide_it (HB.out.trans ((below_after hb).mono hwr))
        have K1 := hide_it (HK.out.after (below_after hb))
        have X1 := hide_it (X0.out.after hb)
        obtain ⟨d0, d1, d2, d3⟩ := X1.out.cells4
        have hz1 := B1.out.size
        clear hb c0 c1 c2 c3
        obtain ⟨tt, htt⟩ : ∃ x, told (ws.take k) p.1 p.2.1 p.2.2.1 = x := ⟨_, rfl⟩
        rw [htt] at hte
        cases tt
        · have HTk : Hid (toldOk n (ws.take (k + 1)) = true) := toldOk_more hlt HT.out (by rw [HP.out]; exact HAA.out) (by rw [HP.out]; exact hte.symm)
          have HTe : Hid (ws.take (k + 1) = ws.take k ++ [p]) := by show _ = _; rw [wtake ws k hlt, HP.out]
          have C := bookAdd_new w.heap.size w.heap.size (2 * k) (ws.take k) p w1 K1.out (by omega) HPP.out.1 HPP.out.2.1 HPP.out.2.2 htt
          have HC := hide_it C
          clear C htt hte
          go_wp2_with fail
          refine HC.out.mono ?_
          rintro e w2 ⟨rfl, hk2, hb2⟩
          have B2 := hide_it (B1.out.trans hb2)
          have K2 : Hid (BkN w2 w.heap.size w.heap.size (2 * (k + 1)) (ws.take (k + 1))) := by show BkN _ _ _ _ _; rw [HTe.out]; exact hk2
          clear hk2 hb2
          go_wp2
          go_roundw
          case rel => exact ⟨k + 1, by omega, by go_num, HTk, K2, B2⟩
          case measure => simp [intOf]; omega
        · have HN : Hid (toldOk n ws = false) := toldOk_twice hlt (by rw [HP.out]; exact hte.symm)
          have C := bookAdd_old w.heap.size w.heap.size (2 * k) (ws.take k) p w1 K1.out HPP.out.1 HPP.out.2.1 HPP.out.2.2 htt
          have HC := hide_it C
          clear C htt hte
          go_wp2_with fail
          refine HC.out.mono ?_
          rintro e w2 ⟨rfl, hb2⟩
          have B2 := hide_it (B1.out.trans (hb2.mono hz1))
          clear hb2
          go_wp2
          refine bodyPost_ret (v := .tuple #[.map none, .bool false]) (by simp [results, Tryd.results35, go_sem]) rfl ?_
          exact ⟨Or.inr ⟨HN.out, rfl⟩, B2.out⟩
    · have hke : k = ws.length := by omega
      have HT2 : Hid (toldOk n ws = true) := by have := HT.out; rw [hke, List.take_length] at this; exact this
      have HK2 : Hid (BkN wr w.heap.size w.heap.size (2 * ws.length) ws) := by have := HK.out; rw [hke, List.take_length] at this; exact this
      clear hke
      go_wp2
      refine bodyPost_ret (v := .tuple #[.map (some w.heap.size), .bool true]) (by simp [results, Tryd.results35, go_sem]) rfl ?_
      exact ⟨Or.inl ⟨HT2.out, rfl, HK2.out⟩, HB.out⟩

end Go.Proofs.YtgknnigjlnfplaaDoor

namespace Go.Proofs.YtgknnigjlnfplaaDoor.T
open Go.RowKit

/-- A node: where it lies, what is wanted, its state. -/
abbrev Nd := Nat × (Int × Int × Int) × Int
/-- Its trip. -/
def ndT (n : Nd) : R := ([n.2.1.1, n.2.1.2.1, n.2.1.2.2], n.2.2)
/-- Its cells. -/
def ndV (n : Nd) (nx : Value) : Array Value := #[.int .i64 n.2.1.1, .int .i64 n.2.1.2.1, .int .i64 n.2.1.2.2, .int .i64 n.2.2, nx]
abbrev ptr (b : Nat) : Value := .pointer (some ⟨b, 0, none⟩)
/-- A pointer to the node at a place; nil, if there is none. -/
def at_ (ns : List Nd) (i : Nat) : Value := match ns[i]? with
  | some n => ptr n.1
  | none => .pointer none

theorem at_some {ns : List Nd} {i : Nat} {n : Nd} (h : ns[i]? = some n) : at_ ns i = ptr n.1 := by unfold at_; rw [h]
theorem at_none {ns : List Nd} {i : Nat} (h : ns.length ≤ i) : at_ ns i = .pointer none := by unfold at_; rw [List.getElem?_eq_none h]
theorem at_shape (ns : List Nd) (i : Nat) : ∃ a, at_ ns i = .pointer a := by
  unfold at_
  split
  · exact ⟨_, rfl⟩
  · exact ⟨_, rfl⟩
theorem at_snoc_lt {ns : List Nd} {x : Nd} {i : Nat} (h : i < ns.length) : at_ (ns ++ [x]) i = at_ ns i := by unfold at_; rw [List.getElem?_append_left h]
theorem at_snoc_eq (ns : List Nd) (x : Nd) : at_ (ns ++ [x]) ns.length = ptr x.1 := at_some (by simp)
theorem at_set (ns : List Nd) (k : Nat) (m : Nd) (s : Int) (hk : ns[k]? = some m) (i : Nat) : at_ (ns.set k (m.1, m.2.1, s)) i = at_ ns i := by
  unfold at_
  rw [List.getElem?_set]
  by_cases h : k = i
  · subst h
    have hl : k < ns.length := by
      by_cases e : k < ns.length
      · exact e
      · rw [List.getElem?_eq_none (by omega)] at hk; cases hk
    rw [if_pos rfl, if_pos hl, hk]
  · rw [if_neg h]

/-- The nodes as they lie, one behind the other, from lo on. -/
structure Nodes (w : World) (lo : Nat) (ns : List Nd) : Prop where
  node : ∀ (i : Nat) (n : Nd), ns[i]? = some n → Blk w n.1 (ndV n (at_ ns (i + 1))) 125
  low : ∀ n ∈ ns, lo ≤ n.1
  inj : ∀ (i j : Nat) (a b : Nd), ns[i]? = some a → ns[j]? = some b → a.1 = b.1 → i = j

/-- A chain: its three cells, and its nodes. -/
structure Chain (w : World) (c lo : Nat) (ns : List Nd) : Prop where
  head : Blk w c #[at_ ns 0, at_ ns (ns.length - 1), .int .i64 ns.length] 100
  nodes : Nodes w lo ns
  lowc : lo ≤ c

theorem Nodes.nil (w : World) (lo : Nat) : Nodes w lo [] := ⟨fun i n h => by simp at h, fun n h => by simp at h, fun i j a b h => by simp at h⟩
theorem Nodes.after {w w' : World} {lo : Nat} {ns : List Nd} (h : Nodes w lo ns) (hb : Below w.heap.size w w') : Nodes w' lo ns :=
  ⟨fun i n hn => (h.node i n hn).after hb, h.low, h.inj⟩
theorem Chain.after {w w' : World} {c lo : Nat} {ns : List Nd} (h : Chain w c lo ns) (hb : Below w.heap.size w w') : Chain w' c lo ns :=
  ⟨h.head.after hb, h.nodes.after hb, h.lowc⟩
theorem Chain.new (w : World) : Chain (w.alloc (.cells #[.pointer none, .pointer none, .int .i64 0] 100)) w.heap.size w.heap.size [] :=
  ⟨Blk.new w _ _, Nodes.nil _ _, Nat.le_refl _⟩
theorem len_lt {α : Type} {xs : List α} {i : Nat} {x : α} (h : xs[i]? = some x) : i < xs.length := by
  by_cases e : i < xs.length
  · exact e
  · rw [List.getElem?_eq_none (by omega)] at h; cases h
theorem get_snoc {ns : List Nd} {x n : Nd} {i : Nat} (h : (ns ++ [x])[i]? = some n) : (i < ns.length ∧ ns[i]? = some n) ∨ (i = ns.length ∧ n = x) := by
  by_cases hi : i < ns.length
  · rw [List.getElem?_append_left hi] at h; exact Or.inl ⟨hi, h⟩
  · rw [List.getElem?_append_right (by omega)] at h
    have h0 : i - ns.length = 0 := by
      have := len_lt h
      simp at this; omega
    rw [h0] at h
    simp at h
    exact Or.inr ⟨by omega, h.symm⟩

/-- The first node of a chain. -/
theorem Chain.add0 {w w1 w' : World} {c lo : Nat} {x : Nd} (h : Chain w c lo []) (hx : x.1 = w.heap.size) (hb : Below w.heap.size w w1) (hn : Blk w1 x.1 (ndV x (.pointer none)) 125)
    (h' : w' = ((w1.setCell ⟨c, 0, none⟩ (ptr x.1)).setCell ⟨c, 1, none⟩ (ptr x.1)).setCell ⟨c, 2, none⟩ (.int .i64 1)) : Chain w' c lo [x] ∧ Below lo w w' := by
  have hc1 := h.head.after hb
  have hcx : x.1 ≠ c := hn.ne hc1 (by decide)
  have hlt := h.head.lt
  have hlo := h.lowc
  refine ⟨⟨?_, ⟨fun i n hi => ?_, fun n hi => ?_, fun i j a b hi hj _ => ?_⟩, hlo⟩, ?_⟩
  · rw [h']
    exact ((hc1.set_ 0 _).set_ 1 _).set_ 2 _
  · have hi0 := len_lt hi
    simp at hi0
    subst hi0
    simp at hi
    subst hi
    rw [h', at_none (by simp)]
    exact ((hn.other hcx _).other hcx _).other hcx _
  · simp at hi; subst hi; omega
  · have h1 := len_lt hi; have h2 := len_lt hj; simp at h1 h2; omega
  · rw [h']
    exact (((hb.mono (by omega)).setCell (by simpa using hlo) _).setCell (by simpa using hlo) _).setCell (by simpa using hlo) _

/-- One node more, behind the last one. -/
theorem Chain.add1 {w w1 w' : World} {c lo : Nat} {ns : List Nd} {x m : Nd} (h : Chain w c lo ns) (hm : ns[ns.length - 1]? = some m) (hx : x.1 = w.heap.size) (hb : Below w.heap.size w w1) (hn : Blk w1 x.1 (ndV x (.pointer none)) 125)
    (h' : w' = ((w1.setCell ⟨m.1, 4, none⟩ (ptr x.1)).setCell ⟨c, 1, none⟩ (ptr x.1)).setCell ⟨c, 2, none⟩ (.int .i64 ((ns.length : Int) + 1))) : Chain w' c lo (ns ++ [x]) ∧ Below lo w w' := by
  have hl := len_lt hm
  have hc1 := h.head.after hb
  have hm1 := (h.nodes.node _ m hm).after hb
  have hcx : x.1 ≠ c := hn.ne hc1 (by decide)
  have hcm : m.1 ≠ c := hm1.ne hc1 (by decide)
  have hlt := h.head.lt
  have hlo := h.lowc
  have hmlt := (h.nodes.node _ m hm).lt
  have hmlo := h.nodes.low m (List.mem_of_getElem? hm)
  have hmx : m.1 ≠ x.1 := by omega
  refine ⟨⟨?_, ⟨fun i n hi => ?_, fun n hi => ?_, fun i j a b hi hj hab => ?_⟩, hlo⟩, ?_⟩
  · rw [h']
    have h0 := ((hc1.other (a := ⟨m.1, 4, none⟩) (fun e => hcm e.symm) (ptr x.1)).set_ 1 (ptr x.1)).set_ 2 (.int .i64 ((ns.length : Int) + 1))
    rw [at_snoc_lt (by omega), show (ns ++ [x]).length - 1 = ns.length by simp, at_snoc_eq, show ((ns ++ [x]).length : Int) = (ns.length : Int) + 1 by simp]
    exact h0
  · rw [h']
    rcases get_snoc hi with ⟨hil, hi⟩ | ⟨rfl, rfl⟩
    · have hni := (h.nodes.node i n hi).after hb
      have hnc : n.1 ≠ c := hni.ne hc1 (by decide)
      by_cases hlast : i = ns.length - 1
      · subst hlast
        rw [hm] at hi
        simp at hi
        subst hi
        rw [show ns.length - 1 + 1 = ns.length by omega, at_snoc_eq]
        have h0 := hm1.set_ 4 (ptr x.1)
        exact (h0.other hcm _).other hcm _
      · rw [at_snoc_lt (by omega)]
        have hnm : n.1 ≠ m.1 := fun e => hlast (h.nodes.inj i _ n m hi hm e)
        exact ((hni.other hnm _).other hnc _).other hnc _
    · rw [at_none (by simp)]
      exact ((hn.other (fun e => hmx e.symm) _).other hcx _).other hcx _
  · rcases List.mem_append.1 hi with hi | hi
    · exact h.nodes.low n hi
    · simp at hi; subst hi; omega
  · rcases get_snoc hi with ⟨hil, hi'⟩ | ⟨ei, ea⟩
    · rcases get_snoc hj with ⟨hjl, hj'⟩ | ⟨ej, eb⟩
      · exact h.nodes.inj i j a b hi' hj' hab
      · have := (h.nodes.node i a hi').lt; subst eb; omega
    · rcases get_snoc hj with ⟨hjl, hj'⟩ | ⟨ej, eb⟩
      · have := (h.nodes.node j b hj').lt; subst ea; omega
      · omega
  · rw [h']
    exact (((hb.mono (by omega)).setCell (by simpa using hmlo) _).setCell (by simpa using hlo) _).setCell (by simpa using hlo) _

/-- Another state of one node. -/
theorem Chain.turn {w : World} {c lo : Nat} {ns : List Nd} {k : Nat} {m : Nd} (s : Int) (h : Chain w c lo ns) (hm : ns[k]? = some m) :
    Chain (w.setCell ⟨m.1, 3, none⟩ (.int .i64 s)) c lo (ns.set k (m.1, m.2.1, s)) ∧ Below lo w (w.setCell ⟨m.1, 3, none⟩ (.int .i64 s)) := by
  have hk := len_lt hm
  have hmb := h.nodes.node k m hm
  have hmc : m.1 ≠ c := hmb.ne h.head (by decide)
  have hmlo := h.nodes.low m (List.mem_of_getElem? hm)
  have same : ∀ (i : Nat) (n : Nd), (ns.set k (m.1, m.2.1, s))[i]? = some n → ∃ n', ns[i]? = some n' ∧ n'.1 = n.1 := by
    intro i n hn
    rw [List.getElem?_set] at hn
    by_cases e : k = i
    · subst e
      rw [if_pos rfl, if_pos hk] at hn
      simp at hn
      exact ⟨m, hm, by rw [← hn]⟩
    · rw [if_neg e] at hn; exact ⟨n, hn, rfl⟩
  refine ⟨⟨?_, ⟨fun i n hi => ?_, fun n hn => ?_, fun i j a b hi hj hab => ?_⟩, h.lowc⟩, ?_⟩
  · rw [at_set ns k m s hm, List.length_set, at_set ns k m s hm]
    exact h.head.other (fun e => hmc e.symm) _
  · rw [at_set ns k m s hm]
    rw [List.getElem?_set] at hi
    by_cases e : k = i
    · subst e
      rw [if_pos rfl, if_pos hk] at hi
      simp at hi
      subst hi
      exact hmb.set_ 3 _
    · rw [if_neg e] at hi
      exact (h.nodes.node i n hi).other (fun e' => e (h.nodes.inj k i m n hm hi e'.symm)) _
  · obtain ⟨i, hi, hn'⟩ := List.mem_iff_getElem.1 hn
    obtain ⟨n', h1, h2⟩ := same i n (by rw [List.getElem?_eq_getElem hi, hn'])
    rw [← h2]; exact h.nodes.low n' (List.mem_of_getElem? h1)
  · obtain ⟨a', ha1, ha2⟩ := same i a hi
    obtain ⟨b', hb1, hb2⟩ := same j b hj
    exact h.nodes.inj i j a' b' ha1 hb1 (by rw [ha2, hb2, hab])
  · exact (Below.refl _ _).setCell (by simpa using hmlo) _

theorem Nodes.cells {w : World} {lo : Nat} {ns : List Nd} (h : Nodes w lo ns) {i : Nat} {n : Nd} (hn : ns[i]? = some n) :
    w.cell? ⟨n.1, 0, none⟩ = some (.int .i64 n.2.1.1) ∧ w.cell? ⟨n.1, 1, none⟩ = some (.int .i64 n.2.1.2.1) ∧ w.cell? ⟨n.1, 2, none⟩ = some (.int .i64 n.2.1.2.2) ∧ w.cell? ⟨n.1, 3, none⟩ = some (.int .i64 n.2.2) ∧ w.cell? ⟨n.1, 4, none⟩ = some (at_ ns (i + 1)) :=
  (h.node i n hn).cells5

end Go.Proofs.YtgknnigjlnfplaaDoor.T

namespace Go.Proofs.YtgknnigjlnfplaaDoor.T
open Go.RowKit

set_option maxHeartbeats 1000000 in
theorem stateBehind_any (s k : Int) (w : World) :
    Calls Tryd.prog 66 #[.int .i64 s, .int .i64 k] w fun e w' => e = .returned (.int .i64 (nextS s k)) ∧ w' = w := by
  by_cases h5 : k = 5
  · subst h5
    by_cases h1 : s = 1
    · subst h1
      go_enter Tryd.func66, Tryd.ntmps66
      go_wp2
      go_ret
      exact ⟨rfl, rfl⟩
    · have HE : Hid (nextS s 5 = 0) := by show _ = _; simp [nextS, h1]
      have e1 : (s == 1) = false := by simp [h1]
      go_enter Tryd.func66, Tryd.ntmps66
      go_wp2
      go_ret
      exact ⟨by rw [HE.out]; rfl, rfl⟩
  by_cases h6 : k = 6
  · subst h6
    by_cases h1 : s = 1
    · subst h1
      go_enter Tryd.func66, Tryd.ntmps66
      go_wp2
      go_ret
      exact ⟨rfl, rfl⟩
    · have HE : Hid (nextS s 6 = 0) := by show _ = _; simp [nextS, h1]
      have e1 : (s == 1) = false := by simp [h1]
      go_enter Tryd.func66, Tryd.ntmps66
      go_wp2
      go_ret
      exact ⟨by rw [HE.out]; rfl, rfl⟩
  by_cases h7 : k = 7
  · subst h7
    by_cases h2 : s = 2
    · subst h2
      go_enter Tryd.func66, Tryd.ntmps66
      go_wp2
      go_ret
      exact ⟨rfl, rfl⟩
    have e2 : (s == 2) = false := by simp [h2]
    by_cases h3 : s = 3
    · subst h3
      go_enter Tryd.func66, Tryd.ntmps66
      go_wp2
      go_ret
      exact ⟨rfl, rfl⟩
    have e3 : (s == 3) = false := by simp [h3]
    have HE : Hid (nextS s 7 = 0) := by show _ = _; simp [nextS, h2, h3]
    go_enter Tryd.func66, Tryd.ntmps66
    go_wp2
    go_ret
    exact ⟨by rw [HE.out]; rfl, rfl⟩
  have HE : Hid (nextS s k = 0) := by show _ = _; simp [nextS, h5, h6, h7]
  have e5 : (k == 5) = false := by simp [h5]
  have e6 : (k == 6) = false := by simp [h6]
  have e7 : (k == 7) = false := by simp [h7]
  go_enter Tryd.func66, Tryd.ntmps66
  go_wp2
  go_ret
  exact ⟨by rw [HE.out]; rfl, rfl⟩

set_option maxHeartbeats 1000000 in
theorem find_any (c lo : Nat) (ns : List Nd) (t : Int) (w : World) (hc : Chain w c lo ns) (hn : ns.length ≤ 6) (ht : 1 ≤ t) :
    Calls Tryd.prog 65 #[ptr c, .int .i64 t] w fun e w' => e = .returned (at_ ns (t - 1).toNat) ∧ w' = w := by
  obtain ⟨h0, h1, h2⟩ := hc.head.cells3
  have HN := hide_it hc.nodes
  clear hc h1 h2
  obtain ⟨a0, ha0⟩ := at_shape ns 0
  have HA0 := hide_it ha0
  rw [ha0] at h0
  clear ha0
  obtain ⟨I, hI⟩ : ∃ I, (t - 1).toNat = I := ⟨_, rfl⟩
  rw [hI]
  have HIq := hide_it hI
  clear hI
  go_enter Tryd.func65, Tryd.ntmps65
  go_wp2
  go_loop [5, 6] (fun q p => ∃ (i : Nat) (a : Option Addr), i ≤ ns.length ∧ q = .int .i64 ((i : Int) + 1) ∧ p = .pointer a ∧ Hid (at_ ns i = .pointer a) ∧ (i : Int) < t) (fun q _ => ns.length + 1 - (intOf q).toNat)
  case atStart => exact ⟨0, a0, Nat.zero_le _, rfl, rfl, HA0, by omega⟩
  case round =>
    obtain ⟨i, a, hi, rfl, rfl, HA, hit⟩ := hrel
    by_cases hlt : i < ns.length
    · obtain ⟨n, hg⟩ : ∃ n, Hid (ns[i]? = some n) := ⟨ns[i], by show _ = _; simp [hlt]⟩
      obtain rfl : a = some ⟨n.1, 0, none⟩ := by
        have := HA.out
        rw [at_some hg.out] at this
        simpa [ptr] using this.symm
      obtain ⟨-, -, -, -, c4⟩ := HN.out.cells hg.out
      obtain ⟨a', ha'⟩ := at_shape ns (i + 1)
      rw [ha'] at c4
      have HA' := hide_it ha'
      clear ha'
      by_cases he : (i : Int) + 1 = t
      · have HE : Hid (at_ ns I = ptr n.1) := by
          show _ = _
          rw [show I = i by have := HIq.out; omega, at_some hg.out]
        go_wp2
        go_ret
        exact ⟨by rw [HE.out]; rfl, rfl⟩
      · go_wp2
        go_round
        case rel => exact ⟨i + 1, a', by omega, by go_num, rfl, HA', by omega⟩
        case measure => simp [intOf]; omega
    · obtain rfl : a = none := by
        have := HA.out
        rw [at_none (by omega)] at this
        simpa using this.symm
      have HE : Hid (at_ ns I = .pointer none) := at_none (by have := HIq.out; omega)
      go_wp2
      go_ret
      exact ⟨by rw [HE.out]; rfl, rfl⟩

/-- A node's cells while what is wanted is put into it. -/
def part (z0 z1 z2 s : Int) (k : Nat) : Array Value := #[.int .i64 (if 0 < k then z0 else 0), .int .i64 (if 1 < k then z1 else 0), .int .i64 (if 2 < k then z2 else 0), .int .i64 s, .pointer none]

theorem list3 {zs : List Int} (h : zs.length = 3) : ∃ z0 z1 z2, zs = [z0, z1, z2] := by
  match zs, h with
  | [a, b, c], _ => exact ⟨a, b, c, rfl⟩

set_option maxHeartbeats 2000000 in
theorem add_any (c lo : Nat) (ns : List Nd) (v : Value) (z0 z1 z2 s : Int) (w : World) (hc : Chain w c lo ns) (hn : ns.length ≤ 6) (hv : Ints w v [z0, z1, z2]) :
    Calls Tryd.prog 76 #[ptr c, v, .int .i64 s] w fun e w' => e = .returned (.tuple #[]) ∧ Chain w' c lo (ns ++ [(w.heap.size, (z0, z1, z2), s)]) ∧ Below lo w w' := by
  rcases hv with ⟨h, _⟩ | ⟨b, off, cap, rfl, _, hcl⟩
  · simp at h
  have b0 := hcl 0 (by simp)
  have b1 := hcl 1 (by simp)
  have b2 := hcl 2 (by simp)
  have hbw : b < w.heap.size := World.block_lt_of_cell? _ _ b0
  simp at b0 b1 b2
  have HC := hide_it hc
  have HB0 := hide_it b0
  have HB1 := hide_it b1
  have HB2 := hide_it b2
  obtain ⟨w0, hw0⟩ : ∃ W, Hid (W = w.alloc (.cells #[.int .i64 0, .int .i64 0, .int .i64 0, .int .i64 s, .pointer none] 125)) := ⟨_, rfl⟩
  have X0 : Hid (Blk w0 w.heap.size (part z0 z1 z2 s 0) 125) := by show Blk _ _ _ _; rw [hw0.out]; exact Blk.new w _ _
  have B0 : Hid (Below w.heap.size w w0) := by show Below _ _ _; rw [hw0.out]; exact alloc_below _ _
  clear hc b0 b1 b2 hcl
  go_enter Tryd.func76, Tryd.ntmps76
  go_wp2
  rw [← hw0.out]
  go_loopw [14] (fun i wr => ∃ k : Nat, k ≤ 3 ∧ i = .int .i64 k ∧ Hid (Blk wr w.heap.size (part z0 z1 z2 s k) 125) ∧ Hid (Below w.heap.size w wr)) (fun i _ => 3 - (intOf i).toNat)
  case atStart => exact ⟨0, by omega, rfl, X0, B0⟩
  case round =>
    obtain ⟨k, hk, rfl, HX, HB⟩ := hrel
    have c0 : wr.cell? ⟨b, off, none⟩ = some (.int .i64 z0) := by rw [HB.out.cell (p := ⟨b, off, none⟩) hbw]; exact HB0.out
    have c1 : wr.cell? ⟨b, off + 1, none⟩ = some (.int .i64 z1) := by rw [HB.out.cell (p := ⟨b, off + 1, none⟩) hbw]; exact HB1.out
    have c2 : wr.cell? ⟨b, off + 2, none⟩ = some (.int .i64 z2) := by rw [HB.out.cell (p := ⟨b, off + 2, none⟩) hbw]; exact HB2.out
    obtain ⟨x0, x1, x2, x3, x4⟩ := HX.out.cells5
    obtain ⟨f0, f1, f2, f3, f4⟩ := HX.out.free5
    rcases (show k = 0 ∨ k = 1 ∨ k = 2 ∨ k = 3 by omega) with rfl | rfl | rfl | rfl
    · go_wp2
      go_roundw
      case rel => exact ⟨1, by omega, rfl, HX.out.set_ 0 _, HB.out.setCell (Nat.le_refl _) _⟩
      case measure => simp [intOf]
    · go_wp2
      go_roundw
      case rel => exact ⟨2, by omega, rfl, HX.out.set_ 1 _, HB.out.setCell (Nat.le_refl _) _⟩
      case measure => simp [intOf]
    · go_wp2
      go_roundw
      case rel => exact ⟨3, by omega, rfl, HX.out.set_ 2 _, HB.out.setCell (Nat.le_refl _) _⟩
      case measure => simp [intOf]
    · clear c0 c1 c2 x0 x1 x2 x3 x4 f0 f1 f2 f3 f4
      have HCr := hide_it (HC.out.after HB.out)
      obtain ⟨d0, d1, d2⟩ := HCr.out.head.cells3
      obtain ⟨e0, e1, e2, -, -⟩ := HCr.out.head.free5
      by_cases hz : ns = []
      · subst hz
        have q0 : wr.cell? ⟨c, 0, none⟩ = some (.pointer none) := d0
        have q1 : wr.cell? ⟨c, 1, none⟩ = some (.pointer none) := d1
        have q2 : wr.cell? ⟨c, 2, none⟩ = some (.int .i64 0) := d2
        clear d0 d1 d2
        go_wp2
        refine bodyPost_end (v := .tuple #[]) (by simp [results, Tryd.results76, go_sem]) rfl ?_
        have := HC.out.add0 (x := (w.heap.size, (z0, z1, z2), s)) rfl HB.out HX.out rfl
        exact ⟨rfl, this.1, this.2⟩
      · have hpos : 0 < ns.length := List.length_pos_iff.2 hz
        obtain ⟨m, hm⟩ : ∃ m, Hid (ns[ns.length - 1]? = some m) := ⟨ns[ns.length - 1], by show _ = _; rw [List.getElem?_eq_getElem (by omega)]⟩
        rw [at_some hm.out] at d1
        have HMn := hide_it (HCr.out.nodes.node _ m hm.out)
        obtain ⟨-, -, -, -, m4⟩ := HMn.out.cells5
        have fm4 := HMn.out.free 4
        have hmc : m.1 ≠ c := HMn.out.ne HCr.out.head (by decide)
        have hcm : c ≠ m.1 := fun e => hmc e.symm
        obtain ⟨a4, ha4⟩ := at_shape ns (ns.length - 1 + 1)
        rw [ha4] at m4
        clear ha4 hz
        go_wp2
        refine bodyPost_end (v := .tuple #[]) (by simp [results, Tryd.results76, go_sem]) rfl ?_
        have := HC.out.add1 (x := (w.heap.size, (z0, z1, z2), s)) hm.out rfl HB.out HX.out rfl
        exact ⟨rfl, this.1, this.2⟩

end Go.Proofs.YtgknnigjlnfplaaDoor.T

namespace Go.Proofs.YtgknnigjlnfplaaDoor.T
open Go.RowKit

/-- What comes of a chain behind a record. -/
def Took (w w' : World) (e : Ending) (c lo : Nat) (ns : List Nd) (r : Rc) (b : Bool) : Prop :=
  e = .returned (.bool b) ∧ ∃ ns', Chain w' c lo ns' ∧ ns'.map ndT = (if b = true then doL (ns.map ndT) r else ns.map ndT) ∧ Below lo w w'

theorem Took.no {w w' : World} {c lo : Nat} {ns : List Nd} {r : Rc} (hc : Chain w c lo ns) (hb : Below w.heap.size w w') : Took w w' (.returned (.bool false)) c lo ns r false :=
  ⟨rfl, ns, hc.after hb, rfl, hb.mono (by have := hc.head.lt; have := hc.lowc; omega)⟩

theorem doL_begin {rs : List R} {r : Rc} (h4 : r.1 = 4) : doL rs r = rs ++ [(r.2.2, 1)] := by unfold doL; rw [if_pos h4]

set_option maxHeartbeats 2000000 in
theorem begin_yes (c lo : Nat) (ns : List Nd) (u : Value) (zs : List Int) (w : World) (hc : Chain w c lo ns) (hn : ns.length ≤ 6) (hu : Ints w u zs) (h3 : zs.length = 3) :
    Calls Tryd.prog 64 #[ptr c, .agg #[.int .i64 4, .int .i64 ((ns.length : Int) + 1), u]] w fun e w' => Took w w' e c lo ns (4, (ns.length : Int) + 1, zs) true := by
  obtain ⟨z0, z1, z2, rfl⟩ := list3 h3
  have HC := hide_it hc
  have HU : Hid (∀ W, Below w.heap.size w W → Ints W u [z0, z1, z2]) := fun W h => hu.later h (Nat.le_refl _)
  obtain ⟨au, cu, hus⟩ := hu.shape
  have hus' : u = .slice au 3 cu := hus
  subst hus'
  have hlc : lo ≤ w.heap.size := by have := hc.head.lt; have := hc.lowc; omega
  clear hc hu h3 hus
  obtain ⟨w0, hw0⟩ : ∃ W, Hid (W = w.alloc (.cells #[.int .i64 4, .int .i64 ((ns.length : Int) + 1), .slice au 3 cu] 94)) := ⟨_, rfl⟩
  have B0 : Hid (Below w.heap.size w w0) := by show Below _ _ _; rw [hw0.out]; exact alloc_below _ _
  have C0 := hide_it (HC.out.after B0.out)
  have X0 : Hid (Blk w0 w.heap.size #[.int .i64 4, .int .i64 ((ns.length : Int) + 1), .slice au 3 cu] 94) := by show Blk _ _ _ _; rw [hw0.out]; exact Blk.new w _ _
  obtain ⟨x0, x1, x2⟩ := X0.out.cells3
  obtain ⟨-, -, d2⟩ := C0.out.head.cells3
  go_enter Tryd.func64, Tryd.ntmps64
  go_wp2
  rw [← hw0.out]
  go_quiet (fail)
  go_wp2_with fail
  have Bd := hide_it (below_drewN B0.out nq)
  have Cd := hide_it (HC.out.after Bd.out)
  refine (add_any c lo ns _ z0 z1 z2 1 _ Cd.out hn (HU.out _ Bd.out)).mono ?_
  rintro e w1 ⟨rfl, hc1, hb1⟩
  have C1 := hide_it hc1
  have B1 := hide_it ((Bd.out.mono hlc).trans hb1)
  clear hc1 hb1
  go_wp2
  go_ret
  refine ⟨rfl, _, C1.out, ?_, B1.out⟩
  rw [if_pos rfl, doL_begin rfl, List.map_append]
  rfl

set_option maxHeartbeats 2000000 in
theorem begin_no (c lo : Nat) (ns : List Nd) (t : Int) (u : Value) (zs : List Int) (w : World) (hc : Chain w c lo ns) (hn : ns.length ≤ 6) (hu : Ints w u zs) (h3 : zs.length = 3) (ht : ¬ t = (ns.length : Int) + 1) :
    Calls Tryd.prog 64 #[ptr c, .agg #[.int .i64 4, .int .i64 t, u]] w fun e w' => Took w w' e c lo ns (4, t, zs) false := by
  obtain ⟨z0, z1, z2, rfl⟩ := list3 h3
  have HC := hide_it hc
  have HU : Hid (∀ W, Below w.heap.size w W → Ints W u [z0, z1, z2]) := fun W h => hu.later h (Nat.le_refl _)
  obtain ⟨au, cu, hus⟩ := hu.shape
  have hus' : u = .slice au 3 cu := hus
  subst hus'
  have hlc : lo ≤ w.heap.size := by have := hc.head.lt; have := hc.lowc; omega
  clear hc hu h3 hus
  obtain ⟨w0, hw0⟩ : ∃ W, Hid (W = w.alloc (.cells #[.int .i64 4, .int .i64 t, .slice au 3 cu] 94)) := ⟨_, rfl⟩
  have B0 : Hid (Below w.heap.size w w0) := by show Below _ _ _; rw [hw0.out]; exact alloc_below _ _
  have C0 := hide_it (HC.out.after B0.out)
  have X0 : Hid (Blk w0 w.heap.size #[.int .i64 4, .int .i64 t, .slice au 3 cu] 94) := by show Blk _ _ _ _; rw [hw0.out]; exact Blk.new w _ _
  obtain ⟨x0, x1, x2⟩ := X0.out.cells3
  obtain ⟨-, -, d2⟩ := C0.out.head.cells3
  go_enter Tryd.func64, Tryd.ntmps64
  go_wp2
  rw [← hw0.out]
  go_quiet (fail)
  go_wp2
  go_ret
  exact Took.no HC.out (below_drewN B0.out _)

theorem begin_any (c lo : Nat) (ns : List Nd) (t : Int) (u : Value) (zs : List Int) (w : World) (hc : Chain w c lo ns) (hn : ns.length ≤ 6) (hu : Ints w u zs) (h3 : zs.length = 3) :
    Calls Tryd.prog 64 #[ptr c, .agg #[.int .i64 4, .int .i64 t, u]] w fun e w' => Took w w' e c lo ns (4, t, zs) (decide (t = ns.length + 1)) := by
  by_cases ht : t = ns.length + 1
  · have HE : decide (t = (ns.length : Int) + 1) = true := by simp [ht]
    rw [HE]
    subst ht
    exact begin_yes c lo ns u zs w hc hn hu h3
  · have HE : decide (t = (ns.length : Int) + 1) = false := by simp [ht]
    rw [HE]
    exact begin_no c lo ns t u zs w hc hn hu h3 ht

theorem tripAt_nd {ns : List Nd} {t : Int} {n : Nd} (h : ns[(t - 1).toNat]? = some n) : tripAt (ns.map ndT) t = ndT n := tripAt_get (by rw [List.getElem?_map, h]; rfl)

set_option maxHeartbeats 4000000 in
theorem take_any (c lo : Nat) (ns : List Nd) (r : Rc) (u : Value) (a : Addr) (w : World) (hc : Chain w c lo ns) (hn : ns.length ≤ 6) (hu : Ints w u r.2.2) (hrl : r.2.2.length ≤ 1048576) (ha : ErrAt w a) :
    Calls Tryd.prog 51 #[ptr c, .agg #[.int .i64 r.1, .int .i64 r.2.1, u]] w fun e w' => Took w w' e c lo ns r (rOk r && mayL (ns.map ndT) r) := by
  obtain ⟨kd, t, zs⟩ := r
  have HC := hide_it hc
  have HU : Hid (∀ W, Below w.heap.size w W → Ints W u zs) := fun W h => hu.later h (Nat.le_refl _)
  have HAe : Hid (∀ W, Below w.heap.size w W → ErrAt W a) := fun W h => ha.later h (Nat.le_refl _)
  obtain ⟨au, cu, hus⟩ := hu.shape
  dsimp only at hus hrl
  subst hus
  have hlc : lo ≤ w.heap.size := by have := hc.head.lt; have := hc.lowc; omega
  clear hc hu ha
  obtain ⟨w0, hw0⟩ : ∃ W, Hid (W = w.alloc (.cells #[.int .i64 kd, .int .i64 t, .slice au zs.length cu] 94)) := ⟨_, rfl⟩
  have B0 : Hid (Below w.heap.size w w0) := by show Below _ _ _; rw [hw0.out]; exact alloc_below _ _
  have C0 := hide_it (HC.out.after B0.out)
  have X0 : Hid (Blk w0 w.heap.size #[.int .i64 kd, .int .i64 t, .slice au zs.length cu] 94) := by show Blk _ _ _ _; rw [hw0.out]; exact Blk.new w _ _
  have S0 := implOk_any kd t _ zs a w0 (HU.out _ B0.out) hrl (HAe.out _ B0.out)
  cases hok : rOk (kd, t, zs)
  · have hok' : Pl.recOk kd t zs = false := hok
    rw [hok'] at S0
    have HS := hide_it S0
    clear S0 hok hok'
    rw [Bool.false_and]
    go_enter Tryd.func51, Tryd.ntmps51
    go_wp2_with fail
    rw [← hw0.out]
    refine HS.out.mono ?_
    rintro e w1 ⟨rfl, hb1⟩
    have B1 := hide_it (B0.out.trans (hb1.mono B0.out.size))
    clear hb1
    go_wp2
    go_ret
    exact Took.no HC.out B1.out
  obtain ⟨ht1, ht6⟩ := rOk_trip hok
  dsimp only at ht1 ht6
  have hok' : Pl.recOk kd t zs = true := hok
  rw [hok'] at S0
  have HS := hide_it S0
  have HOK := hide_it hok
  clear S0 hok hok'
  obtain ⟨bb, hbb⟩ : ∃ b, mayL (ns.map ndT) (kd, t, zs) = b := ⟨_, rfl⟩
  rw [hbb, Bool.true_and]
  have HBB := hide_it hbb
  clear hbb
  by_cases h4 : kd = 4
  · subst h4
    have hz3 : Hid (zs.length = 3) := manyOk_three (rOk_begin HOK.out rfl)
    have HE : Hid (bb = decide (t = (ns.length : Int) + 1)) := by show _ = _; rw [← HBB.out]; unfold mayL; simp
    go_enter Tryd.func51, Tryd.ntmps51
    go_wp2_with fail
    rw [← hw0.out]
    refine HS.out.mono ?_
    rintro e w1 ⟨rfl, hb1⟩
    have B1 := hide_it (B0.out.trans (hb1.mono B0.out.size))
    have X1 := hide_it (X0.out.after hb1)
    have C1 := hide_it (C0.out.after hb1)
    clear hb1
    obtain ⟨x0, x1, x2⟩ := X1.out.cells3
    go_wp2_with fail
    refine (begin_any c lo ns t _ zs w1 C1.out hn (HU.out _ B1.out) hz3.out).mono ?_
    rintro e w2 ⟨rfl, ns', hc2, hm2, hb2⟩
    rw [← HE.out]
    rw [← HE.out] at hm2
    have C2 := hide_it hc2
    have M2 := hide_it hm2
    have B2 := hide_it ((B1.out.mono hlc).trans hb2)
    clear hc2 hm2 hb2
    go_wp2
    go_ret
    exact ⟨rfl, ns', C2.out, M2.out, B2.out⟩
  cases hg : ns[(t - 1).toNat]? with
  | none =>
    have HAt : Hid (at_ ns (t - 1).toNat = .pointer none) := by show _ = _; unfold at_; rw [hg]
    have HE : Hid (bb = false) := by
      show _ = _; rw [← HBB.out]; unfold mayL; rw [if_neg h4]
      dsimp only
      rw [tripAt_none (by rw [List.getElem?_map, hg]; rfl), nextS_0]; rfl
    rw [HE.out]
    clear hg
    go_enter Tryd.func51, Tryd.ntmps51
    go_wp2_with fail
    rw [← hw0.out]
    refine HS.out.mono ?_
    rintro e w1 ⟨rfl, hb1⟩
    have B1 := hide_it (B0.out.trans (hb1.mono B0.out.size))
    have X1 := hide_it (X0.out.after hb1)
    have C1 := hide_it (C0.out.after hb1)
    clear hb1
    obtain ⟨x0, x1, x2⟩ := X1.out.cells3
    go_wp2_with fail
    have HF := find_any c lo ns t w1 C1.out hn ht1
    rw [HAt.out] at HF
    refine HF.mono ?_
    rintro e w2 ⟨rfl, rfl⟩
    go_wp2
    go_ret
    exact Took.no HC.out B1.out
  | some n =>
    have HG := hide_it hg
    have HAt : Hid (at_ ns (t - 1).toNat = ptr n.1) := by show _ = _; exact at_some hg
    have HE : Hid (bb = decide (nextS n.2.2 kd ≠ 0)) := by
      show _ = _; rw [← HBB.out]; unfold mayL; rw [if_neg h4]
      dsimp only
      rw [tripAt_nd hg]; rfl
    clear hg
    by_cases hz : nextS n.2.2 kd = 0
    · have HQ : Hid (∀ W, Calls Tryd.prog 66 #[.int .i64 n.2.2, .int .i64 kd] W fun e w' => e = .returned (.int .i64 0) ∧ w' = W) := fun W => by
        have := stateBehind_any n.2.2 kd W
        rw [hz] at this; exact this
      have HE2 : Hid (bb = false) := by show _ = _; rw [HE.out, hz]; rfl
      rw [HE2.out]
      clear hz
      go_enter Tryd.func51, Tryd.ntmps51
      go_wp2_with fail
      rw [← hw0.out]
      refine HS.out.mono ?_
      rintro e w1 ⟨rfl, hb1⟩
      have B1 := hide_it (B0.out.trans (hb1.mono B0.out.size))
      have X1 := hide_it (X0.out.after hb1)
      have C1 := hide_it (C0.out.after hb1)
      clear hb1
      obtain ⟨x0, x1, x2⟩ := X1.out.cells3
      obtain ⟨-, -, -, n3, -⟩ := C1.out.nodes.cells HG.out
      go_wp2_with fail
      have HF := find_any c lo ns t w1 C1.out hn ht1
      rw [HAt.out] at HF
      refine HF.mono ?_
      rintro e w2 ⟨rfl, rfl⟩
      go_wp2
      go_quiet ((go_at_call 66; exact Calls.quiet_of_same (HQ.out _)))
      go_wp2
      go_ret
      exact Took.no HC.out (below_drewN B1.out _)
    · have HE2 : Hid (bb = true) := by show _ = _; rw [HE.out]; simp [hz]
      rw [HE2.out]
      obtain ⟨S, hS⟩ : ∃ S, nextS n.2.2 kd = S := ⟨_, rfl⟩
      have HSS := hide_it hS
      rw [hS] at hz
      have HQ : Hid (∀ W, Calls Tryd.prog 66 #[.int .i64 n.2.2, .int .i64 kd] W fun e w' => e = .returned (.int .i64 S) ∧ w' = W) := fun W => by
        have := stateBehind_any n.2.2 kd W
        rw [hS] at this; exact this
      clear hS
      go_enter Tryd.func51, Tryd.ntmps51
      go_wp2_with fail
      rw [← hw0.out]
      refine HS.out.mono ?_
      rintro e w1 ⟨rfl, hb1⟩
      have B1 := hide_it (B0.out.trans (hb1.mono B0.out.size))
      have X1 := hide_it (X0.out.after hb1)
      have C1 := hide_it (C0.out.after hb1)
      clear hb1
      obtain ⟨x0, x1, x2⟩ := X1.out.cells3
      obtain ⟨-, -, -, n3, -⟩ := C1.out.nodes.cells HG.out
      have fn3 := (C1.out.nodes.node _ n HG.out).free 3
      go_wp2_with fail
      have HF := find_any c lo ns t w1 C1.out hn ht1
      rw [HAt.out] at HF
      refine HF.mono ?_
      rintro e w2 ⟨rfl, rfl⟩
      go_wp2
      go_quiet ((go_at_call 66; exact Calls.quiet_of_same (HQ.out _)))
      go_wp2
      go_ret
      have T := (C1.out.after (below_drewN (Below.refl _ _) nq)).turn S HG.out
      refine ⟨rfl, _, T.1, ?_, ((below_drewN B1.out _).mono hlc).trans T.2⟩
      rw [if_pos rfl]
      unfold doL
      rw [if_neg h4]
      dsimp only
      rw [tripAt_nd HG.out, List.map_set]
      show _ = List.set _ _ ((ndT n).1, nextS n.2.2 kd)
      rw [HSS.out]
      rfl

end Go.Proofs.YtgknnigjlnfplaaDoor.T

namespace Go.Proofs.YtgknnigjlnfplaaDoor.T
open Go.RowKit

/-- One more trip appended to a list of the call's own, as worlds and rows see it. -/
theorem append_step {w3 w4 : World} {W0 hi : Nat} {v v' : Value} {ps : List (R × Value)} {r : R} {u : Value}
    (hrow : w3.ownsRow W0 73 2 v ps.length (flat ps)) (hin : Inner w3 W0 hi ps) (hhi : hi ≤ w3.heap.size)
    (ho : w3.ownsRow W0 3 1 u r.1.length (r.1.map (Value.int .i64))) (hu : ∀ k, u.ownBlock = some k → hi ≤ k ∧ k < w3.heap.size)
    (hown : w4.ownsRow W0 73 2 v' (ps.length + 1) (flat ps ++ [u, .int .i64 r.2])) (hg : w3.grownBy w4 v.ownBlock) :
    w4.ownsRow W0 73 2 v' (ps ++ [(r, u)]).length (flat (ps ++ [(r, u)])) ∧ Inner w4 W0 w4.heap.size (ps ++ [(r, u)]) := by
  refine ⟨?_, ?_⟩
  · rw [flat_append, List.length_append]; exact hown
  · have in3 : Inner w3 W0 w3.heap.size (ps ++ [(r, u)]) := hin.snoc hhi (Nat.le_refl _) ho hu
    have h := in3.kept hg (fun p hp => by
      rcases hrow.2 with ⟨hv, _⟩ | ⟨g, cap, cur, hv, _, hh, _⟩
      · by_cases e : p.2.ownBlock = none
        · exact Or.inl e
        · exact Or.inr (by rw [hv]; simpa [Value.ownBlock] using e)
      · refine Or.inr ?_
        rw [hv]
        exact in3.apart hh (by decide) p hp)
    exact h.mono hg.size (Nat.le_refl _)

theorem news2 (w : World) (u : Value) (k : Int) (ty : TypeId) : ∀ (j : Nat) (x : Value), [u, Value.int .i64 k][j]? = some x → (w.alloc (.cells #[u, .int .i64 k] ty)).cell? ((⟨w.heap.size, 0, none⟩ : Addr).add j) = some x := by
  intro j x hj
  match j, hj with
  | 0, hj => simp at hj; subst hj; simp [Addr.add]
  | 1, hj => simp at hj; subst hj; simp [Addr.add]
theorem one2 (k : Int) (ao : Option Addr) {n c : Nat} : ∀ x ∈ [Value.slice ao n c, .int .i64 k], x.oneCell' = true := by
  intro x hx; simp at hx; rcases hx with rfl | rfl <;> rfl

theorem addBelow {W w5 : World} {lo n cap3 : Nat} {a3 : Option Addr} {xs : List Value} (hr : W.ownsRow lo 73 2 (.slice a3 n cap3) n xs) (hg : W.grownBy w5 (Value.slice a3 n cap3).ownBlock) (hlo : lo ≤ W.heap.size) : Below lo W w5 :=
  (Below.refl _ _).grown hg hlo (fun k hk => (hr.lt k hk).1)
theorem cellBelow {W w5 : World} {lo b o : Nat} {x : Value} (h : W.cell? ⟨b, o, none⟩ = some x) (hb : Below lo W w5) (hlo : b < lo) : w5.cell? ⟨b, o, none⟩ = some x := by
  rw [hb.cell (p := ⟨b, o, none⟩) hlo]; exact h

theorem ints_nd {w : World} {lo : Nat} {ns : List Nd} (h : Nodes w lo ns) {i : Nat} {n : Nd} (hn : ns[i]? = some n) : Ints w (.slice (some ⟨n.1, 0, none⟩) 3 3) (ndT n).1 := by
  obtain ⟨c0, c1, c2, -, -⟩ := h.cells hn
  refine Or.inr ⟨n.1, 0, 3, rfl, by simp [ndT], fun k hk => ?_⟩
  have hk3 : k < 3 := hk
  rcases (show k = 0 ∨ k = 1 ∨ k = 2 by omega) with rfl | rfl | rfl
  · exact c0
  · exact c1
  · exact c2

set_option maxRecDepth 100000 in
set_option maxHeartbeats 4000000 in
theorem trips_any (c lo : Nat) (ns : List Nd) (w : World) (hc : Chain w c lo ns) (hn : ns.length ≤ 6) :
    Calls Tryd.prog 52 #[ptr c] w fun e w' => ∃ ao cap, e = .returned (.slice ao (ns.map ndT).length cap) ∧ Made w' w.heap.size (.slice ao (ns.map ndT).length cap) (ns.map ndT) ∧ Below w.heap.size w w' := by
  obtain ⟨i0, hi, hz0, hz1, hz2⟩ := info_parts infoTrip
  obtain ⟨h0, h1, h2⟩ := hc.head.cells3
  have HC := hide_it hc
  have hcl := hc.head.lt
  clear hc h1
  obtain ⟨a0, ha0⟩ := at_shape ns 0
  have HA0 := hide_it ha0
  rw [ha0] at h0
  clear ha0
  have hbytes : i0.bytes * ns.length ≤ 281474976710656 := by rw [hz2]; omega
  have hmax : ns.length ≤ maxLen := by unfold maxLen; omega
  rw [List.length_map]
  go_enter Tryd.func52, Tryd.ntmps52
  go_wp2_with (at_make; refine wpList_make_own _ rfl _ _ 47 rfl w.heap.size 73 i0 (.agg #[.slice none 0 0, .int .i64 0]) 2 Tryd.underlying47 hi hz0 hz1 .i64 .i64 _ ns.length rfl rfl rfl hbytes hmax (Nat.le_refl _) ?_; intro w1 hown hgrow; have B1 := hide_it ((Below.refl w.heap.size w).grown hgrow (Nat.le_refl _) (fun k h => by cases h)); have O1 := hide_it hown; have C1 := hide_it (HC.out.after B1.out); obtain ⟨d0, -, -⟩ := C1.out.head.cells3; rw [HA0.out] at d0; clear hown hgrow)
  go_loopw [3, 4] (fun vo p wr => ∃ (k : Nat) (ps : List (R × Value)) (a : Option Addr), k ≤ ns.length ∧ p = .pointer a ∧ Hid (at_ ns k = .pointer a) ∧ Hid (ps.map (·.1) = (ns.take k).map ndT) ∧ Hid (wr.ownsRow w.heap.size 73 2 vo ps.length (flat ps)) ∧ Hid (Inner wr w.heap.size wr.heap.size ps) ∧ Hid (Below w.heap.size w wr)) (fun vo _ _ => ns.length - (match vo with | .slice _ n _ => n | _ => 0))
  case atStart => exact ⟨0, [], a0, Nat.zero_le _, rfl, HA0, rfl, O1.out, Inner.nil _ _ _ (Nat.le_refl _), B1⟩
  case round =>
    obtain ⟨k, ps, a, hk, rfl, HA, HP, HO, HN, HB⟩ := hrel
    have HPL : Hid (ps.length = k) := by
      have := congrArg List.length HP.out
      simp at this
      show _ = _; omega
    obtain ⟨av, cv, hvo⟩ := row_shape HO.out
    by_cases hlt : k < ns.length
    · obtain ⟨n, hg⟩ : ∃ n, Hid (ns[k]? = some n) := ⟨ns[k], by show _ = _; simp [hlt]⟩
      obtain rfl : a = some ⟨n.1, 0, none⟩ := by
        have := HA.out
        rw [at_some hg.out] at this
        simpa [ptr] using this.symm
      have Cr := hide_it (HC.out.after HB.out)
      obtain ⟨m0, m1, m2, m3, m4⟩ := Cr.out.nodes.cells hg.out
      have hnlt := (HC.out.nodes.node k n hg.out).lt
      have hwr := HB.out.size
      obtain ⟨a', ha'⟩ := at_shape ns (k + 1)
      rw [ha'] at m4
      have HA' := hide_it ha'
      clear ha'
      have HI : Hid (Ints wr.drew (.slice (some ⟨n.1, 0, none⟩) 3 3) (ndT n).1) := (ints_nd Cr.out.nodes hg.out).later (Below.refl _ _).drew (Nat.le_refl _)
      subst hvo
      go_wp2
      go_region_held_law (fun w' => w'.cell? ⟨n.1, 3, none⟩ = some (.int .i64 n.2.2)) (go_keep)
        (first
          | (refine step_append_lies _ rfl _ _ 47 rfl w.heap.size 73 i0 (.agg #[.slice none 0 0, .int .i64 0]) 2 32 Tryd.underlying47 hi hz0 hz1 hz2 rfl (by decide) (.slice av ps.length cv) ps.length (flat ps) rfl (by exact (ROW4.out _)) ⟨w4.heap.size, 0, none⟩ 1 1 [.slice a4 3 cap4, .int .i64 n.2.2] rfl rfl (by exact news2 _ _ _ _) (by exact one2 _ _) (by decide) (by have := HPL.out; unfold maxLen; omega) (by have := HPL.out; omega) (by have := HZ4.out; simp; omega) _ rfl ?_; intro g5 cap5 w5 hown5 hgrow5 _ _; have O5 := hide_it hown5; have G5 := hide_it hgrow5; have LO5 := hide_it (addBelow (ROW4.out _) hgrow5 (by have := HZ4.out; simp; omega)); have q5 := cellBelow (cellAlloc q3 _) LO5.out hnlt; clear hown5 hgrow5)
          | (refine step_append_ints rfl _ _ rfl wr.heap.size (.slice none 0 0) (.slice (some ⟨n.1, 0, none⟩) 3 3) 0 [] (ndT n).1 rfl rfl (World.ownsRow_nil _ _ _ _) HI.out (by simp [ndT]) (by simp) ?_; intro a4 cap4 w4 hown4 hgrow4; have hb4 := (Below.refl wr.heap.size wr).drew.trans (grown_below hgrow4); have B4 := hide_it hb4; have O4 := hide_it hown4; have HZ4 : Hid (w.heap.size ≤ w4.heap.size) := Nat.le_trans hwr hb4.size; have q3 : w4.cell? ⟨n.1, 3, none⟩ = some (.int .i64 n.2.2) := (by rw [hb4.cell (p := ⟨n.1, 3, none⟩) (by simp; omega)]; exact m3); have ROW4 : Hid (∀ o, (w4.alloc o).ownsRow w.heap.size 73 2 (.slice av ps.length cv) ps.length (flat ps)) := (fun o => (ownsRow_below HO.out hb4 (fun j hj => (HO.out.lt j hj).2)).alloc o); have INN4 : Hid (∀ o, Inner (w4.alloc o) w.heap.size wr.heap.size ps) := (fun o => (HN.out.below hb4 (Nat.le_refl _)).below (alloc_below _ o) hb4.size); have NEW4 : Hid (∀ o, (w4.alloc o).ownsRow w.heap.size 3 1 (.slice a4 3 cap4) (ndT n).1.length ((ndT n).1.map (Value.int .i64))) := (fun o => (ownsRow_base hown4 hwr).alloc o); have NEWB4 : Hid (∀ j, (Value.slice a4 3 cap4).ownBlock = some j → wr.heap.size ≤ j ∧ j < (w4.alloc (.cells #[.slice a4 3 cap4, .int .i64 n.2.2] 73)).heap.size) := (fun j hj => by have h9 := hown4.lt j hj; simp; omega); clear hown4 hgrow4 hb4))
      have ST := append_step (r := ndT n) (ROW4.out (.cells #[.slice a4 3 cap4, .int .i64 n.2.2] 73)) (INN4.out _) (by simp; have := B4.out.size; omega) (NEW4.out _) (NEWB4.out) O5.out G5.out
      have HO5 := hide_it ST.1
      have HN5 := hide_it ST.2
      have HB5 : Hid (Below w.heap.size w w5) := ((HB.out.trans (B4.out.mono hwr)).alloc HZ4.out _).trans LO5.out
      clear ST
      have q4 : w5.cell? ⟨n.1, 4, none⟩ = some (.pointer a') := by rw [LO5.out.cell (p := ⟨n.1, 4, none⟩) hnlt]; exact cellAlloc (by rw [B4.out.cell (p := ⟨n.1, 4, none⟩) (by simp; omega)]; exact m4) _
      go_wp2
      go_roundw
      case rel =>
        refine ⟨k + 1, ps ++ [(ndT n, .slice a4 3 cap4)], a', by omega, rfl, HA', ?_, HO5, HN5, HB5⟩
        show _ = _
        have hkl : k < ns.length := by omega
        have hrk : ns[k] = n := by have := hg.out; rw [List.getElem?_eq_getElem hkl] at this; simpa using this
        rw [List.map_append, HP.out, List.take_succ_eq_append_getElem hkl, hrk, List.map_append]
        rfl
      case measure => have := HPL.out; simp; omega
    · obtain rfl : a = none := by
        have := HA.out
        rw [at_none (by omega)] at this
        simpa using this.symm
      have hke : Hid (k = ns.length) := by show _ = _; omega
      have hpl : ps.length = ns.length := by rw [HPL.out, hke.out]
      rw [hpl] at hvo
      have HD : Hid (Made wr w.heap.size (.slice av ns.length cv) (ns.map ndT)) := by
        refine ⟨ps, by rw [HP.out, hke.out, List.take_length], ?_, fun j hj => ?_, HN.out⟩
        · have := HO.out; rw [hvo] at this; exact this
        · have := HO.out; rw [hvo] at this; exact (this.lt j hj).2
      subst hvo
      clear hpl
      go_wp2
      refine bodyPost_ret (v := .slice av ns.length cv) (by simp [results, Tryd.results52, go_sem]) rfl ⟨av, cv, rfl, HD.out, HB.out⟩

end Go.Proofs.YtgknnigjlnfplaaDoor.T

namespace Go.Proofs.YtgknnigjlnfplaaDoor.T
open Go.RowKit

/-- A chain as a value. -/
def chV (ns : List Nd) : Value := .agg #[at_ ns 0, at_ ns (ns.length - 1), .int .i64 ns.length]

/-- What comes of trips and a record, as a chain. -/
def ChOut (w w' : World) (e : Ending) (rs : List R) (r : Rc) : Prop :=
  ∃ ns : List Nd, e = .returned (.tuple #[chV ns, .bool (tMay rs r)]) ∧ Nodes w' w.heap.size ns ∧ ns.length ≤ 6 ∧ (tMay rs r = true → ns.map ndT = doL rs r) ∧ Below w.heap.size w w'

theorem Nodes.lo {w : World} {lo lo' : Nat} {ns : List Nd} (h : Nodes w lo ns) (hl : lo' ≤ lo) : Nodes w lo' ns := ⟨h.node, fun n hn => Nat.le_trans hl (h.low n hn), h.inj⟩
theorem Nodes.set {w : World} {lo : Nat} {ns : List Nd} (h : Nodes w lo ns) {b i : Nat} (hb : b < lo) (x : Value) : Nodes (w.setCell ⟨b, i, none⟩ x) lo ns :=
  ⟨fun j n hn => (h.node j n hn).other (by have := h.low n (List.mem_of_getElem? hn); simp; omega) x, h.low, h.inj⟩
theorem Fit.take {rs : List R} {r : R} {k : Nat} (h : Fit rs) (hr : rs[k]? = some r) : ∃ z0 z1 z2, r.1 = [z0, z1, z2] := list3 (h.2 r (List.mem_of_getElem? hr))

end Go.Proofs.YtgknnigjlnfplaaDoor.T

namespace Go.Proofs.YtgknnigjlnfplaaDoor.T
open Go.RowKit

/-- Trips and a yes or no come back, the trips in memory of the call's own. -/
def TrOut (w w' : World) (e : Ending) (rs : List R) (b : Bool) : Prop :=
  ∃ ao cap, e = .returned (.tuple #[.slice ao rs.length cap, .bool b]) ∧ Made w' w.heap.size (.slice ao rs.length cap) rs ∧ Below w.heap.size w w'

def doO (rs : List R) (r : Rc) : List R := if tMay rs r = true then doL rs r else []
def ofO (qs : List Rc) : List R := (runT qs).getD []

theorem doO_fit (rs : List R) (r : Rc) : Fit (doO rs r) := by
  unfold doO
  split
  · next h =>
    unfold tMay at h
    simp only [Bool.and_eq_true] at h
    exact (fit_ok h.1).doL h.2.1 h.2.2
  · exact Fit.nil
theorem ofO_fit (qs : List Rc) : Fit (ofO qs) := by
  unfold ofO
  cases h : runT qs with
  | none => exact Fit.nil
  | some rs => exact runT_fit h

set_option maxHeartbeats 4000000 in
theorem implOf_any (v : Value) (qs : List Rc) (a : Addr) (w : World) (hv : _root_.Go.Proofs.YtgknnigjlnfplaaDoor.Recs w v qs) (hl : _root_.Go.Proofs.YtgknnigjlnfplaaDoor.tot qs ≤ 1048576) (ha : ErrAt w a) :
    Calls Tryd.prog 34 #[v] w fun e w' => TrOut w w' e (ofO qs) (runT qs).isSome := by
  have hlen := _root_.Go.Proofs.YtgknnigjlnfplaaDoor.tot_len qs
  have HM : Hid (∀ r ∈ qs, r.2.2.length ≤ 1048576) := fun r hr => Nat.le_trans (_root_.Go.Proofs.YtgknnigjlnfplaaDoor.tot_mem qs r hr) hl
  have HV : Hid (∀ W, Below w.heap.size w W → _root_.Go.Proofs.YtgknnigjlnfplaaDoor.Recs W v qs) := fun W h => hv.later h (Nat.le_refl _)
  have HAe : Hid (∀ W, Below w.heap.size w W → ErrAt W a) := fun W h => ha.later h (Nat.le_refl _)
  obtain ⟨av, cv, hvs⟩ := hv.shape
  subst hvs
  clear hv ha
  obtain ⟨w0, hw0⟩ : ∃ W, Hid (W = w.alloc (.cells #[.pointer none, .pointer none, .int .i64 0] 100)) := ⟨_, rfl⟩
  have B0 : Hid (Below w.heap.size w w0) := by show Below _ _ _; rw [hw0.out]; exact alloc_below _ _
  have C0 : Hid (Chain w0 w.heap.size w.heap.size []) := by show Chain _ _ _ _; rw [hw0.out]; exact Chain.new w
  obtain ⟨OO, hOO⟩ : ∃ x, ofO qs = x := ⟨_, rfl⟩
  obtain ⟨BB, hBB⟩ : ∃ x, (runT qs).isSome = x := ⟨_, rfl⟩
  rw [hOO, hBB]
  have HOO := hide_it hOO
  have HBB := hide_it hBB
  clear hOO hBB
  go_enter Tryd.func34, Tryd.ntmps34
  go_wp2
  rw [← hw0.out]
  go_loopw [9] (fun i wr => ∃ (k : Nat) (ns : List Nd), k ≤ qs.length ∧ i = .int .i64 k ∧ Hid (runT (qs.take k) = some (ns.map ndT)) ∧ Hid (Chain wr w.heap.size w.heap.size ns) ∧ Hid (Below w.heap.size w wr)) (fun i _ => qs.length - (intOf i).toNat)
  case atStart => exact ⟨0, [], Nat.zero_le _, rfl, rfl, C0, B0⟩
  case round =>
    obtain ⟨k, ns, hk, rfl, HR, HC, HB⟩ := hrel
    have hfit := runT_fit HR.out
    have hn6 : ns.length ≤ 6 := by have := hfit.1; rw [List.length_map] at this; exact this
    have HF := hide_it hfit
    have hwr := HB.out.size
    clear hfit
    by_cases hlt : k < qs.length
    · obtain ⟨q, hq⟩ : ∃ q, Hid (qs[k]? = some q) := ⟨qs[k], by show _ = _; simp [hlt]⟩
      have hrl : q.2.2.length ≤ 1048576 := HM.out q (List.mem_of_getElem? hq.out)
      rcases HV.out wr HB.out with ⟨h0, _⟩ | ⟨b, off, cap, hvv, _, hcl⟩
      · rw [h0] at hlt; simp at hlt
      simp only [Value.slice.injEq] at hvv
      obtain ⟨rfl, -, rfl⟩ := hvv
      obtain ⟨x, c0, c1, c2, hI⟩ := hcl k q hq.out
      have hbw : b < wr.heap.size := World.block_lt_of_cell? _ _ c0
      obtain ⟨ax, cx, hxs⟩ := hI.shape
      subst hxs
      have HI : Hid (∀ o, Ints (wr.alloc o) (.slice ax q.2.2.length cx) q.2.2) := fun o => hI.later (alloc_below _ _) (Nat.le_refl _)
      have HCo : Hid (∀ o, Chain (wr.alloc o) w.heap.size w.heap.size ns) := fun o => HC.out.after (alloc_below _ _)
      have HAo : Hid (∀ o, ErrAt (wr.alloc o) a) := fun o => HAe.out _ (HB.out.alloc hwr o)
      clear hI hcl
      go_wp2_with fail
      refine (take_any w.heap.size w.heap.size ns q _ a _ (HCo.out _) hn6 (HI.out _) hrl (HAo.out _)).mono ?_
      rintro e w3 ⟨rfl, ns', hc3, hm3, hb3⟩
      have B3 := hide_it ((HB.out.alloc hwr _).trans hb3)
      have C3 := hide_it hc3
      clear hc3 hb3
      obtain ⟨bb, hbb⟩ : ∃ x, (rOk q && mayL (ns.map ndT) q) = x := ⟨_, rfl⟩
      rw [hbb]
      rw [hbb] at hm3
      cases bb
      · have HN : Hid (runT qs = none) := runT_bad hq.out HR.out hbb
        have HO1 : Hid (OO = []) := by show _ = _; rw [← HOO.out]; unfold ofO; rw [HN.out]; rfl
        have HB1 : Hid (BB = false) := by show _ = _; rw [← HBB.out, HN.out]; rfl
        clear hm3 hbb
        go_wp2
        refine bodyPost_ret (v := .tuple #[.slice none 0 0, .bool false]) (by simp [results, Tryd.results34, go_sem]) rfl ?_
        rw [HO1.out, HB1.out]
        exact ⟨none, 0, rfl, Made.none _ _, B3.out⟩
      · have HR3 : Hid (runT (qs.take (k + 1)) = some (ns'.map ndT)) := by
          show _ = _
          rw [runT_good hq.out HR.out hbb, hm3, if_pos rfl]
        clear hm3 hbb
        go_wp2
        go_roundw
        case rel => exact ⟨k + 1, ns', by omega, by go_num, HR3, C3, B3⟩
        case measure => simp [intOf]; omega
    · have HRq : Hid (runT qs = some (ns.map ndT)) := by
        show _ = _
        have hke : k = qs.length := by omega
        have := HR.out
        rw [hke, List.take_length] at this
        exact this
      have HO1 : Hid (OO = ns.map ndT) := by show _ = _; rw [← HOO.out]; unfold ofO; rw [HRq.out]; rfl
      have HB1 : Hid (BB = true) := by show _ = _; rw [← HBB.out, HRq.out]; rfl
      go_wp2_with fail
      refine (trips_any _ _ ns wr HC.out hn6).mono ?_
      rintro e w3 ⟨a3, c3, rfl, hm3, hb3⟩
      rw [← HO1.out] at hm3 ⊢
      have M3 := hide_it hm3
      have B3 := hide_it (HB.out.trans (hb3.mono hwr))
      clear hm3 hb3
      go_wp2
      refine bodyPost_ret (v := .tuple #[.slice a3 OO.length c3, .bool true]) (by simp [results, Tryd.results34, go_sem]) rfl ?_
      rw [HB1.out]
      exact ⟨a3, c3, rfl, M3.out.lo hwr, B3.out⟩

end Go.Proofs.YtgknnigjlnfplaaDoor.T

namespace Go.Proofs.YtgknnigjlnfplaaDoor
open Go.RowKit

theorem frozenAlloc {w : World} {b o : Nat} (h : w.frozen? ⟨b, o, none⟩ = false) (hb : b < w.heap.size) (x : Obj) : (w.alloc x).frozen? ⟨b, o, none⟩ = false := by
  rw [← h]
  exact ((Below.refl w.heap.size w).alloc (Nat.le_refl _) x).frozen (p := ⟨b, o, none⟩) hb

end Go.Proofs.YtgknnigjlnfplaaDoor
