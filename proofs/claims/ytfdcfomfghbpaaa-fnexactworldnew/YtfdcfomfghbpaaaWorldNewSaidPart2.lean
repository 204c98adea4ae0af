/- What the last text of this claim stands on, part 2: plain facts and contracts; the last text says what is proved. -/
import Derived.Test.YtfdcfomfghbpaaaWorldNewSaidPart1
import Derived.Maps.OwnSet
import Derived.Maps.OwnIn
import Derived.DeepKeys4
import Derived.Deep.RegionHeldLaw
import Derived.Laws.AppendOwnNone
import Derived.Maps.AppendAt
import Derived.Deep.RegionHeld
import Derived.BigQuiet

namespace Go.Proofs.Ytfdcfomfghbpaaa.T
open Go.RowKit

/-- Records, each with the slice that holds its numbers, as they lie in a row. -/
def flat : List (R × Value) → List Value
  | [] => []
  | p :: t => p.2 :: .int .i64 p.1.2 :: flat t

theorem flat_length (ps : List (R × Value)) : (flat ps).length = ps.length * 2 := by
  induction ps with
  | nil => rfl
  | cons p t ih => simp only [flat, List.length_cons, ih]; omega
theorem flat_append (ps qs : List (R × Value)) : flat (ps ++ qs) = flat ps ++ flat qs := by
  induction ps with
  | nil => rfl
  | cons p t ih => simp [flat, ih]
theorem flat_get (ps : List (R × Value)) (i : Nat) (p : R × Value) (h : ps[i]? = some p) :
    (flat ps)[i * 2]? = some p.2 ∧ (flat ps)[i * 2 + 1]? = some (.int .i64 p.1.2) := by
  induction ps generalizing i with
  | nil => simp at h
  | cons q t ih =>
    cases i with
    | zero => simp at h; subst h; simp [flat]
    | succ i =>
      have := ih i (by simpa using h)
      rw [show (i + 1) * 2 = i * 2 + 2 by omega]
      simpa [flat] using this
theorem flat_set (ps : List (R × Value)) (k : Nat) (r : R) (u : Value) (h : k < ps.length) :
    ((flat ps).set (k * 2) u).set (k * 2 + 1) (.int .i64 r.2) = flat (ps.set k (r, u)) := by
  induction ps generalizing k with
  | nil => simp at h
  | cons q t ih =>
    cases k with
    | zero => simp [flat]
    | succ k =>
      have := ih k (by simpa using h)
      rw [show (k + 1) * 2 = k * 2 + 2 by omega]
      simp only [flat, List.set_cons_succ]
      rw [this]

/-- The numbers of these records lie in rows of the call's own, from lo on and below hi, each apart from the others. -/
def Inner (w : World) (lo hi : Nat) (ps : List (R × Value)) : Prop :=
  hi ≤ w.heap.size ∧
  (∀ p ∈ ps, w.ownsRow lo 3 1 p.2 p.1.1.length (p.1.1.map (Value.int .i64)) ∧ ∀ k, p.2.ownBlock = some k → k < hi) ∧
  (∀ (i j : Nat) (p q : R × Value), ps[i]? = some p → ps[j]? = some q → i ≠ j → p.2.ownBlock = none ∨ p.2.ownBlock ≠ q.2.ownBlock)

theorem Inner.nil (w : World) (lo hi : Nat) (h : hi ≤ w.heap.size) : Inner w lo hi [] :=
  ⟨h, fun p hp => by simp at hp, fun i j p q hp => by simp at hp⟩

theorem Inner.below {w w' : World} {lo hi B : Nat} {ps : List (R × Value)} (h : Inner w lo hi ps) (hb : Below B w w') (hB : hi ≤ B) : Inner w' lo hi ps :=
  ⟨Nat.le_trans h.1 hb.size, fun p hp => ⟨ownsRow_below (h.2.1 p hp).1 hb (fun k hk => by have := (h.2.1 p hp).2 k hk; omega), (h.2.1 p hp).2⟩, h.2.2⟩

theorem Inner.mono {w : World} {lo hi hi' : Nat} {ps : List (R × Value)} (h : Inner w lo hi ps) (h1 : hi ≤ hi') (h2 : hi' ≤ w.heap.size) : Inner w lo hi' ps :=
  ⟨h2, fun p hp => ⟨(h.2.1 p hp).1, fun k hk => by have := (h.2.1 p hp).2 k hk; omega⟩, h.2.2⟩

/-- A row of records lies in no row of numbers. -/
theorem Inner.apart {w : World} {lo hi : Nat} {ps : List (R × Value)} (h : Inner w lo hi ps) {g : Nat} {cur : Array Value} {ty : TypeId} {fz : Nat × Nat} (hg : w.heap[g]? = some (.cells cur ty fz)) (ht : ty ≠ 3) : ∀ p ∈ ps, p.2.ownBlock ≠ some g := by
  intro p hp e
  rcases (h.2.1 p hp).1.2 with ⟨hv, _⟩ | ⟨g', cap, cur', hv, _, hh, _⟩
  · rw [hv] at e; simp [Value.ownBlock] at e
  · rw [hv] at e
    simp [Value.ownBlock] at e
    subst e
    rw [hg] at hh
    simp at hh
    exact ht hh.2.1

theorem Inner.kept {w w' : World} {lo hi : Nat} {row : Option Nat} {ps : List (R × Value)} (h : Inner w lo hi ps) (hg : w.grownBy w' row) (hne : ∀ p ∈ ps, p.2.ownBlock = none ∨ p.2.ownBlock ≠ row) : Inner w' lo hi ps :=
  ⟨Nat.le_trans h.1 hg.size, fun p hp => ⟨(h.2.1 p hp).1.kept hg (hne p hp), (h.2.1 p hp).2⟩, h.2.2⟩

/-- One more record, its numbers in a row that lies behind all. -/
theorem Inner.snoc {w : World} {lo hi hi' : Nat} {ps : List (R × Value)} {p : R × Value} (h : Inner w lo hi ps) (h1 : hi ≤ hi') (h2 : hi' ≤ w.heap.size)
    (ho : w.ownsRow lo 3 1 p.2 p.1.1.length (p.1.1.map (Value.int .i64))) (hp : ∀ k, p.2.ownBlock = some k → hi ≤ k ∧ k < hi') : Inner w lo hi' (ps ++ [p]) := by
  refine ⟨h2, fun q hq => ?_, fun i j q r hq hr hij => ?_⟩
  · rcases List.mem_append.1 hq with hq | hq
    · exact ⟨(h.2.1 q hq).1, fun k hk => by have := (h.2.1 q hq).2 k hk; omega⟩
    · simp at hq; subst hq; exact ⟨ho, fun k hk => (hp k hk).2⟩
  · by_cases hi1 : i < ps.length
    · rw [List.getElem?_append_left hi1] at hq
      by_cases hj1 : j < ps.length
      · rw [List.getElem?_append_left hj1] at hr
        exact h.2.2 i j q r hq hr hij
      · rw [List.getElem?_append_right (by omega)] at hr
        have hj0 : j - ps.length = 0 := by
          by_cases e : j - ps.length = 0
          · exact e
          · rw [List.getElem?_eq_none (by simp; omega)] at hr; cases hr
        rw [hj0] at hr
        simp at hr
        subst hr
        cases hb : q.2.ownBlock with
        | none => exact Or.inl rfl
        | some k =>
          refine Or.inr fun e => ?_
          have h3 := (h.2.1 q (List.mem_of_getElem? hq)).2 k hb
          have h4 := (hp k e.symm).1
          omega
    · rw [List.getElem?_append_right (by omega)] at hq
      have hi0 : i - ps.length = 0 := by
        by_cases e : i - ps.length = 0
        · exact e
        · rw [List.getElem?_eq_none (by simp; omega)] at hq; cases hq
      rw [hi0] at hq
      simp at hq
      subst hq
      by_cases hj1 : j < ps.length
      · rw [List.getElem?_append_left hj1] at hr
        cases hb : p.2.ownBlock with
        | none => exact Or.inl rfl
        | some k =>
          refine Or.inr fun e => ?_
          have h3 := (h.2.1 r (List.mem_of_getElem? hr)).2 k e.symm
          have h4 := (hp k hb).1
          omega
      · rw [List.getElem?_append_right (by omega)] at hr
        have hj0 : j - ps.length = 0 := by
          by_cases e : j - ps.length = 0
          · exact e
          · rw [List.getElem?_eq_none (by simp; omega)] at hr; cases hr
        omega

end Go.Proofs.Ytfdcfomfghbpaaa.T

namespace Go.Proofs.Ytfdcfomfghbpaaa.T
open Go.RowKit

def zeroP : R × Value := (([], 0), .slice none 0 0)

theorem made_two (n : Nat) : (madeCells #[.slice none 0 0, .int .i64 0] (n * 2)).toList = flat (List.replicate n zeroP) := by
  apply List.ext_getElem?
  intro i
  by_cases h : i < n * 2
  · have hq : i / 2 < n := by omega
    have hget : (List.replicate n zeroP)[i / 2]? = some zeroP := by simp [hq]
    obtain ⟨f0, f1⟩ := flat_get _ _ _ hget
    have hl : (madeCells #[.slice none 0 0, .int .i64 0] (n * 2)).toList[i]? = some (#[Value.slice none 0 0, .int .i64 0][i % 2]!) := by
      simp [madeCells, h]
    rw [hl]
    rcases (show i % 2 = 0 ∨ i % 2 = 1 by omega) with h0 | h0
    · rw [show i / 2 * 2 = i by omega] at f0; rw [f0, h0]; rfl
    · rw [show i / 2 * 2 + 1 = i by omega] at f1; rw [f1, h0]; rfl
  · rw [List.getElem?_eq_none (by simp [madeCells]; omega), List.getElem?_eq_none (by rw [flat_length]; simp; omega)]

theorem rep_set (ps : List (R × Value)) (m : Nat) (p : R × Value) : (ps ++ List.replicate (m + 1) zeroP).set ps.length p = (ps ++ [p]) ++ List.replicate m zeroP := by
  rw [List.set_append_right _ _ (Nat.le_refl _), Nat.sub_self, List.replicate_succ]
  simp

end Go.Proofs.Ytfdcfomfghbpaaa.T

namespace Go.Proofs.Ytfdcfomfghbpaaa.T
open Go.RowKit

def markR (r : R) (k : Int) : R := (markI r.1.length k, k + r.1.length)
/-- The number with which record i begins. -/
def kAt (rs : List R) (k : Int) (i : Nat) : Int := k + i + pre rs i
def dftP : R × Value := (([], 0), .slice none 0 0)
/-- The list when i records have been marked. -/
def stg (ps : List (R × Value)) (k : Int) (i : Nat) : List (R × Value) :=
  (List.range ps.length).map fun j => if j < i then (markR (ps.getD j dftP).1 (kAt (ps.map (·.1)) k j), (ps.getD j dftP).2) else ps.getD j dftP
/-- Records, all marked. -/
def markAll (rs : List R) (k : Int) : List R := (List.range rs.length).map fun j => markR (rs.getD j ([], 0)) (kAt rs k j)

theorem stg_length (ps : List (R × Value)) (k : Int) (i : Nat) : (stg ps k i).length = ps.length := by simp [stg]
theorem stg_get (ps : List (R × Value)) (k : Int) (i j : Nat) (p : R × Value) (h : ps[j]? = some p) : (stg ps k i)[j]? = some (if j < i then (markR p.1 (kAt (ps.map (·.1)) k j), p.2) else p) := by
  have hj : j < ps.length := by
    by_cases e : j < ps.length
    · exact e
    · rw [List.getElem?_eq_none (by omega)] at h; cases h
  have hg : ps.getD j dftP = p := by rw [List.getD_eq_getElem?_getD, h]; rfl
  unfold stg
  rw [List.getElem?_map, List.getElem?_range hj]
  simp only [Option.map_some, hg]
theorem stg_zero (ps : List (R × Value)) (k : Int) : stg ps k 0 = ps := by
  apply List.ext_getElem?
  intro j
  by_cases hj : j < ps.length
  · rw [stg_get ps k 0 j ps[j] (by simp [hj])]; simp [hj]
  · rw [List.getElem?_eq_none (by rw [stg_length]; omega), List.getElem?_eq_none (by omega)]
theorem stg_succ (ps : List (R × Value)) (k : Int) (i : Nat) (p : R × Value) (h : ps[i]? = some p) : stg ps k (i + 1) = (stg ps k i).set i (markR p.1 (kAt (ps.map (·.1)) k i), p.2) := by
  have hil : i < ps.length := by
    by_cases e : i < ps.length
    · exact e
    · rw [List.getElem?_eq_none (by omega)] at h; cases h
  apply List.ext_getElem?
  intro j
  by_cases hj : j < ps.length
  · rw [stg_get ps k (i + 1) j ps[j] (by simp [hj]), List.getElem?_set]
    by_cases hij : i = j
    · subst hij
      have hp : ps[i] = p := by rw [List.getElem?_eq_getElem hj] at h; simpa using h
      rw [if_pos rfl, if_pos (show i < (stg ps k i).length by rw [stg_length]; exact hj), if_pos (show i < i + 1 by omega), hp]
    · rw [if_neg hij, stg_get ps k i j ps[j] (by simp [hj])]
      by_cases hji : j < i
      · rw [if_pos (by omega), if_pos hji]
      · rw [if_neg (by omega), if_neg hji]
  · rw [List.getElem?_eq_none (by rw [stg_length]; omega), List.getElem?_eq_none (by rw [List.length_set, stg_length]; omega)]
theorem stg_all (ps : List (R × Value)) (k : Int) : (stg ps k ps.length).map (·.1) = markAll (ps.map (·.1)) k := by
  apply List.ext_getElem?
  intro j
  by_cases hj : j < ps.length
  · rw [List.getElem?_map, stg_get ps k ps.length j ps[j] (by simp [hj]), if_pos hj]
    simp [markAll, hj, List.getD_eq_getElem?_getD]
  · rw [List.getElem?_eq_none (by rw [List.length_map, stg_length]; omega), List.getElem?_eq_none (by simp [markAll]; omega)]
theorem markAll_length (rs : List R) (k : Int) : (markAll rs k).length = rs.length := by simp [markAll]
theorem markAll_get (rs : List R) (k : Int) (i : Nat) (r : R) (h : rs[i]? = some r) : (markAll rs k)[i]? = some (markR r (kAt rs k i)) := by
  have hj : i < rs.length := by
    by_cases e : i < rs.length
    · exact e
    · rw [List.getElem?_eq_none (by omega)] at h; cases h
  unfold markAll
  rw [List.getElem?_map, List.getElem?_range hj]
  simp [List.getD_eq_getElem?_getD, h]
theorem kAt_zero (rs : List R) (k : Int) : kAt rs k 0 = k := by simp [kAt, pre_zero]
theorem kAt_succ (rs : List R) (k : Int) (i : Nat) (r : R) (h : rs[i]? = some r) : kAt rs k (i + 1) = kAt rs k i + 1 + r.1.length := by
  unfold kAt; rw [pre_succ rs i r h]; omega
theorem kAt_bd (rs : List R) (k : Int) (i : Nat) (hi : i ≤ rs.length) (h : tot rs ≤ 1048576) (hk : 0 ≤ k) (hk1 : k ≤ 1000) : 0 ≤ kAt rs k i ∧ kAt rs k i ≤ 900000000 := by
  have := pre_le rs i
  unfold kAt tot at *; omega

theorem flat_set1 (ps : List (R × Value)) (i : Nat) (p : R × Value) (r : R) (h : ps[i]? = some p) :
    (flat ps).set (i * 2 + 1) (.int .i64 r.2) = flat (ps.set i (r, p.2)) := by
  induction ps generalizing i with
  | nil => simp at h
  | cons q t ih =>
    cases i with
    | zero => simp at h; subst h; simp [flat]
    | succ i =>
      have := ih i (by simpa using h)
      rw [show (i + 1) * 2 = i * 2 + 2 by omega]
      simp only [flat, List.set_cons_succ]
      rw [this]

end Go.Proofs.Ytfdcfomfghbpaaa.T

namespace Go.Proofs.Ytfdcfomfghbpaaa.T
open Go.RowKit

def tOk (r : R) : Bool := Pl.manyOk r.1 && Pl.inB r.2 1 5
def tripsOk (rs : List R) : Bool := rs.all tOk && decide (rs.length ≤ 6)

theorem all_snoc (rs : List R) (k : Nat) (r : R) (h : rs[k]? = some r) : (rs.take (k + 1)).all tOk = ((rs.take k).all tOk && tOk r) := by
  have hk : k < rs.length := by
    by_cases hk : k < rs.length
    · exact hk
    · rw [List.getElem?_eq_none (by omega)] at h; cases h
  rw [List.getElem?_eq_getElem hk] at h
  simp only [Option.some.injEq] at h
  rw [List.take_succ_eq_append_getElem hk, h]
  simp
theorem all_bad (rs : List R) (k : Nat) (r : R) (h : rs[k]? = some r) (hb : tOk r = false) : rs.all tOk = false := by
  rw [List.all_eq_false]
  exact ⟨r, List.mem_of_getElem? h, by rw [hb]; decide⟩
theorem tripsOk_bad {rs : List R} (h : rs.all tOk = false) : tripsOk rs = false := by unfold tripsOk; rw [h]; rfl

end Go.Proofs.Ytfdcfomfghbpaaa.T

namespace Go.Proofs.Ytfdcfomfghbpaaa.T
open Go.RowKit

/-- The state of a trip behind a record that is no beginning; 0, if that may not come. -/
def nextS (s k : Int) : Int := if k = 5 ∧ s = 1 then 2 else if k = 6 ∧ s = 1 then 3 else if k = 7 ∧ s = 2 then 4 else if k = 7 ∧ s = 3 then 5 else 0

/-- The trip of this number; nothing, and 0, if there is none. -/
def tripAt (rs : List R) (t : Int) : R := rs.getD (t - 1).toNat ([], 0)

/-- A record may come, if it is ok. -/
def mayL (rs : List R) (r : Rc) : Bool := if r.1 = 4 then decide (r.2.1 = rs.length + 1) else decide (nextS (tripAt rs r.2.1).2 r.1 ≠ 0)
/-- Trips behind a record that may come. -/
def doL (rs : List R) (r : Rc) : List R := if r.1 = 4 then rs ++ [(r.2.2, 1)] else rs.set (r.2.1 - 1).toNat ((tripAt rs r.2.1).1, nextS (tripAt rs r.2.1).2 r.1)

def tMay (rs : List R) (r : Rc) : Bool := tripsOk rs && (rOk r && mayL rs r)

def stepT (rs : List R) (r : Rc) : Option (List R) := if (rOk r && mayL rs r) = true then some (doL rs r) else none
def runT (qs : List Rc) : Option (List R) := qs.foldl (fun o r => o.bind fun rs => stepT rs r) (some [])

theorem nextS_0 (k : Int) : nextS 0 k = 0 := by unfold nextS; simp
theorem nextS_nz {s k : Int} (h : nextS s k ≠ 0) : 2 ≤ nextS s k ∧ nextS s k ≤ 5 := by
  unfold nextS at h ⊢
  split
  · omega
  · split
    · omega
    · split
      · omega
      · split
        · omega
        · simp_all

theorem rOk_trip {r : Rc} (h : rOk r = true) : 1 ≤ r.2.1 ∧ r.2.1 ≤ 6 := by
  unfold rOk Pl.recOk at h
  simp only [Bool.and_eq_true] at h
  exact Pl.inB_true h.1
theorem rOk_begin {r : Rc} (h : rOk r = true) (h4 : r.1 = 4) : Pl.manyOk r.2.2 = true := by
  unfold rOk Pl.recOk at h
  simp only [Bool.and_eq_true] at h
  have h2 := h.2
  rw [h4] at h2
  simpa using h2
theorem manyOk_three {zs : List Int} (h : Pl.manyOk zs = true) : zs.length = 3 := by
  unfold Pl.manyOk at h
  simp at h
  exact h.1.2

/-- At most six trips, each of three numbers. -/
def Fit (rs : List R) : Prop := rs.length ≤ 6 ∧ ∀ r ∈ rs, r.1.length = 3

theorem Fit.nil : Fit [] := ⟨by simp, fun r h => by simp at h⟩
theorem Fit.tot {rs : List R} (h : Fit rs) : T.tot rs ≤ 1048576 := by
  have : pre rs rs.length = 3 * rs.length := by
    unfold pre
    rw [List.take_length]
    have h2 := h.2
    clear h
    induction rs with
    | nil => rfl
    | cons a t ih =>
      have h3 := h2 a (by simp)
      have := ih (fun r hr => h2 r (by simp [hr]))
      simp only [List.map_cons, List.sum_cons, List.length_cons, h3, this]
      omega
  have h1 := h.1
  unfold T.tot
  omega
theorem fit_ok {rs : List R} (h : tripsOk rs = true) : Fit rs := by
  unfold tripsOk at h
  simp at h
  refine ⟨h.2, fun r hr => ?_⟩
  have h1 := h.1 r.1 r.2 hr
  unfold tOk at h1
  simp at h1
  exact manyOk_three h1.1

theorem tripAt_get {rs : List R} {t : Int} {r : R} (h : rs[(t - 1).toNat]? = some r) : tripAt rs t = r := by unfold tripAt; rw [List.getD_eq_getElem?_getD, h]; rfl
theorem tripAt_none {rs : List R} {t : Int} (h : rs[(t - 1).toNat]? = none) : tripAt rs t = ([], 0) := by unfold tripAt; rw [List.getD_eq_getElem?_getD, h]; rfl

/-- What may come is of a trip that there is. -/
theorem mayL_at {rs : List R} {r : Rc} (h : mayL rs r = true) (h4 : r.1 ≠ 4) : ∃ x, rs[(r.2.1 - 1).toNat]? = some x := by
  cases hg : rs[(r.2.1 - 1).toNat]? with
  | some x => exact ⟨x, rfl⟩
  | none =>
    unfold mayL at h
    rw [if_neg h4, tripAt_none hg] at h
    simp [nextS_0] at h

theorem Fit.doL {rs : List R} {r : Rc} (h : Fit rs) (h1 : rOk r = true) (h2 : mayL rs r = true) : Fit (doL rs r) := by
  unfold T.doL
  by_cases h4 : r.1 = 4
  · rw [if_pos h4]
    have h3 := manyOk_three (rOk_begin h1 h4)
    have h6 := rOk_trip h1
    unfold mayL at h2
    rw [if_pos h4] at h2
    simp at h2
    refine ⟨by simp; omega, fun x hx => ?_⟩
    rcases List.mem_append.1 hx with hx | hx
    · exact h.2 x hx
    · simp at hx; subst hx; exact h3
  · rw [if_neg h4]
    obtain ⟨x, hx⟩ := mayL_at h2 h4
    rw [tripAt_get hx]
    refine ⟨by rw [List.length_set]; exact h.1, fun y hy => ?_⟩
    rcases List.mem_or_eq_of_mem_set hy with hy | hy
    · exact h.2 y hy
    · subst hy; exact h.2 x (List.mem_of_getElem? hx)

theorem runT_nil : runT [] = some [] := rfl
theorem runT_snoc (qs : List Rc) (r : Rc) : runT (qs ++ [r]) = (runT qs).bind fun rs => stepT rs r := by simp [runT, List.foldl_append]
theorem foldl_none (qs : List Rc) : qs.foldl (fun (o : Option (List R)) r => o.bind fun rs => stepT rs r) none = none := by
  induction qs with
  | nil => rfl
  | cons a t ih => exact ih
theorem runT_cut {qs : List Rc} {k : Nat} (h : runT (qs.take k) = none) : runT qs = none := by
  have h2 : runT qs = (qs.drop k).foldl (fun o r => o.bind fun rs => stepT rs r) (runT (qs.take k)) := by
    unfold runT
    rw [← List.foldl_append, List.take_append_drop]
  rw [h2, h, foldl_none]
theorem take_snoc {qs : List Rc} {k : Nat} {r : Rc} (h : qs[k]? = some r) : qs.take (k + 1) = qs.take k ++ [r] := by
  have hk : k < qs.length := by
    by_cases hk : k < qs.length
    · exact hk
    · rw [List.getElem?_eq_none (by omega)] at h; cases h
  rw [List.getElem?_eq_getElem hk] at h
  simp only [Option.some.injEq] at h
  rw [List.take_succ_eq_append_getElem hk, h]
theorem runT_bad {qs : List Rc} {k : Nat} {r : Rc} {rs : List R} (h : qs[k]? = some r) (hr : runT (qs.take k) = some rs) (hb : (rOk r && mayL rs r) = false) : runT qs = none := by
  refine runT_cut (k := k + 1) ?_
  rw [take_snoc h, runT_snoc, hr]
  show stepT rs r = none
  unfold stepT
  rw [hb]
  rfl
theorem runT_good {qs : List Rc} {k : Nat} {r : Rc} {rs : List R} (h : qs[k]? = some r) (hr : runT (qs.take k) = some rs) (hb : (rOk r && mayL rs r) = true) : runT (qs.take (k + 1)) = some (doL rs r) := by
  rw [take_snoc h, runT_snoc, hr]
  show stepT rs r = some _
  unfold stepT
  rw [hb]
  rfl
theorem runT_fit {qs : List Rc} {rs : List R} (h : runT qs = some rs) : Fit rs := by
  have key : ∀ k, k ≤ qs.length → ∀ rs, runT (qs.take k) = some rs → Fit rs := by
    intro k
    induction k with
    | zero => intro _ rs h; rw [List.take_zero, runT_nil] at h; cases h; exact Fit.nil
    | succ k ih =>
      intro hk rs h
      have hg : qs[k]? = some qs[k] := List.getElem?_eq_getElem (by omega)
      rw [take_snoc hg, runT_snoc] at h
      cases hr : runT (qs.take k) with
      | none => rw [hr] at h; cases h
      | some xs =>
        rw [hr] at h
        have h' : stepT xs qs[k] = some rs := h
        unfold stepT at h'
        split at h'
        · next hb =>
          simp only [Option.some.injEq] at h'
          subst h'
          simp only [Bool.and_eq_true] at hb
          exact (ih (by omega) xs hr).doL hb.1 hb.2
        · cases h'
  refine key qs.length (Nat.le_refl _) rs ?_
  rw [List.take_length]; exact h

end Go.Proofs.Ytfdcfomfghbpaaa.T

namespace Go.Proofs.Ytfdcfomfghbpaaa
open Go.RowKit

/-- An answer in form, of one of so many trips. -/
def ansOk (n : Int) (p : Wd) : Bool := Pl.wOk p.1 p.2.1 p.2.2.1 p.2.2.2 && decide (4 ≤ p.1) && decide (p.2.2.1 ≤ n)
def toldOk (n : Int) (ws : List Wd) : Bool := ws.all (ansOk n) && decide ws.Nodup

theorem wOk_parts {k h t m : Int} (h0 : Pl.wOk k h t m = true) : (1 ≤ k ∧ k ≤ 7) ∧ (1 ≤ h ∧ h ≤ 3) ∧ (1 ≤ t ∧ t ≤ 6) ∧ Pl.wMany k m = true := by
  have e1 : Pl.inB k 1 7 = true := by
    cases e : Pl.inB k 1 7
    · rw [Pl.wOk_k e] at h0; cases h0
    · rfl
  have e2 : Pl.inB h 1 3 = true := by
    cases e : Pl.inB h 1 3
    · rw [Pl.wOk_h e] at h0; cases h0
    · rfl
  have e3 : Pl.inB t 1 6 = true := by
    cases e : Pl.inB t 1 6
    · rw [Pl.wOk_t e] at h0; cases h0
    · rfl
  rw [Pl.wOk_m e1 e2 e3] at h0
  exact ⟨Pl.inB_true e1, Pl.inB_true e2, Pl.inB_true e3, h0⟩
theorem ansOk_parts {n : Int} {p : Wd} (h : ansOk n p = true) : (4 ≤ p.1 ∧ p.1 ≤ 7) ∧ (1 ≤ p.2.1 ∧ p.2.1 ≤ 3) ∧ (1 ≤ p.2.2.1 ∧ p.2.2.1 ≤ 6) ∧ p.2.2.2 = 0 ∧ p.2.2.1 ≤ n := by
  unfold ansOk at h
  simp only [Bool.and_eq_true, decide_eq_true_eq] at h
  obtain ⟨⟨h1, h2⟩, h3⟩ := h
  obtain ⟨k, hh, t, m⟩ := wOk_parts h1
  rw [Pl.wMany_0 p.2.2.2 (by omega)] at m
  exact ⟨⟨h2, k.2⟩, hh, t, by simpa using m, h3⟩

/-- So it was told. -/
def told (ws : List Wd) (k h t : Int) : Bool := ws.any fun p => decide (p.1 = k) && decide (p.2.1 = h) && decide (p.2.2.1 = t)
theorem told_nil (k h t : Int) : told [] k h t = false := rfl
theorem told_snoc (ws : List Wd) (p : Wd) (k h t : Int) : told (ws ++ [p]) k h t = (told ws k h t || (decide (p.1 = k) && decide (p.2.1 = h) && decide (p.2.2.1 = t))) := by simp [told]
theorem told_mem {n : Int} {ws : List Wd} {p : Wd} (ha : ws.all (ansOk n) = true) (hp : ansOk n p = true) : told ws p.1 p.2.1 p.2.2.1 = ws.contains p := by
  have hm := (ansOk_parts hp).2.2.2.1
  rw [Bool.eq_iff_iff]
  simp only [told, List.any_eq_true, List.contains_iff_mem, Bool.and_eq_true, decide_eq_true_eq]
  constructor
  · rintro ⟨q, hq, ⟨h1, h2⟩, h3⟩
    have hqm := (ansOk_parts (List.all_eq_true.1 ha q hq)).2.2.2.1
    have : q = p := by
      obtain ⟨q0, q1, q2, q3⟩ := q
      obtain ⟨p0, p1, p2, p3⟩ := p
      simp only at *
      subst h1 h2 h3 hm hqm
      rfl
    exact this ▸ hq
  · intro h
    exact ⟨p, h, ⟨rfl, rfl⟩, rfl⟩

theorem wget (ws : List Wd) (k : Nat) (h : k < ws.length) : ws.getD k (0, 0, 0, 0) = ws[k] := by
  rw [List.getD_eq_getElem?_getD, List.getElem?_eq_getElem h]; rfl
theorem toldOk_nil (n : Int) : toldOk n [] = true := rfl
theorem toldOk_bad {n : Int} {ws : List Wd} {k : Nat} (h : k < ws.length) (hb : ansOk n (ws.getD k (0, 0, 0, 0)) = false) : toldOk n ws = false := by
  have : ws.all (ansOk n) = false := by
    rw [List.all_eq_false]
    exact ⟨ws[k], List.getElem_mem h, by rw [← wget ws k h, hb]; decide⟩
  unfold toldOk
  rw [this]
  rfl
theorem toldOk_twice {n : Int} {ws : List Wd} {k : Nat} (h : k < ws.length) (hb : (ws.take k).contains (ws.getD k (0, 0, 0, 0)) = true) : toldOk n ws = false := by
  have hn : ¬ ws.Nodup := by
    intro hnd
    have h1 : (ws.take (k + 1)).Nodup := hnd.sublist (List.take_sublist _ _)
    rw [wtake ws k h, List.nodup_append] at h1
    have h2 := h1.2.2 _ (List.contains_iff_mem.1 hb) _ (List.mem_singleton.2 rfl)
    exact h2 rfl
  unfold toldOk
  rw [decide_eq_false hn]
  simp
theorem toldOk_more {n : Int} {ws : List Wd} {k : Nat} (h : k < ws.length) (h1 : toldOk n (ws.take k) = true) (h2 : ansOk n (ws.getD k (0, 0, 0, 0)) = true) (h3 : (ws.take k).contains (ws.getD k (0, 0, 0, 0)) = false) : toldOk n (ws.take (k + 1)) = true := by
  unfold toldOk at *
  simp only [Bool.and_eq_true, decide_eq_true_eq] at *
  rw [wtake ws k h]
  refine ⟨by simp only [List.all_append, h1.1, Bool.true_and]; simp only [List.all_cons, List.all_nil, Bool.and_true]; exact h2, ?_⟩
  rw [List.nodup_append]
  refine ⟨h1.2, by simp, fun a ha b hb => ?_⟩
  simp only [List.mem_singleton] at hb
  subst hb
  intro e
  subst e
  have := List.contains_iff_mem.2 ha
  rw [this] at h3
  cases h3
theorem toldOk_all {n : Int} {ws : List Wd} (h : toldOk n ws = true) : ws.all (ansOk n) = true := by
  unfold toldOk at h
  simp only [Bool.and_eq_true] at h
  exact h.1

/-- A desk is ok. -/
def dkOk (up : Bool) (rs : List R) (f : Int) (ws : List Wd) : Bool := logOk rs f && ((T.runT rs).isSome && (toldOk ((T.runT rs).getD []).length ws && (up || ws.isEmpty)))

end Go.Proofs.Ytfdcfomfghbpaaa

namespace Go.Proofs.Ytfdcfomfghbpaaa
open Go.RowKit
open Go.Maps

/-- What an element of the book reads as: the number of the block in which the set lies. -/
def refElem : Value → Option (DataW Unit × List MemPlace)
  | .map (some B) => some (.lit (.int .i64 (B : Nat)), [])
  | .map none => some (.nil, [])
  | _ => none
theorem refElem_none {v : Value} {ps : List MemPlace} (h : refElem v = some (.nil, ps)) : v = .map none := by
  unfold refElem at h
  split at h
  · simp at h
  · rfl
  · cases h
theorem refElem_some {v : Value} {ps : List MemPlace} {B : Nat} (h : refElem v = some (.lit (.int .i64 (B : Nat)), ps)) : v = .map (some B) := by
  unfold refElem at h
  split at h
  · rename_i C
    simp at h
    have e : C = B := by omega
    rw [e]
  · simp at h
  · cases h

/-- How an answer is told as a key. -/
def rkey (k h : Int) : Lit := .string (keyBytes [.int .i64 k, .int .i64 h])
abbrev replyV (k h : Int) : Value := .agg #[.int .i64 k, .int .i64 h]
theorem laidOut_ : laidOutB Try.prog = true := by kernel_rfl
theorem tripLaw : Keyed Try.prog 3 := int_keyed Try.underlying3
theorem i64_wf {a : Int} (h : 0 ≤ a) (h1 : a ≤ 1000) : (Lit.int .i64 a).wf = true := WalkArith.wf_i64 (by omega)
theorem typesMany : ∃ n, Try.prog.types.size = n + 3 := ⟨Try.prog.types.size - 3, by kernel_rfl⟩
theorem rkey_lit (k h : Int) : WideAt.IsKeyLit (rkey k h) := trivial
theorem tripKey {t : Int} (h : 0 ≤ t) (h1 : t ≤ 1000) : keyOf Try.prog 3 (.int .i64 t) = some (.int .i64 t) := keyOf_int_mk Try.underlying3 (i64_wf h h1)
theorem below_grown {W w' : World} (h : Below W.heap.size W w') (row : Option Nat) : W.grownBy w' row := ⟨h.os, h.tape, h.output, h.size, fun i hi _ => h.block i hi⟩

theorem atKey_empty (k : Lit) (z : DataW Unit) : (DataW.map []).atKey k z = z := rfl
theorem told_other {ws : List Wd} {p : Wd} {k h t : Int} (ht : p.2.2.1 ≠ t) : told (ws ++ [p]) k h t = told ws k h t := by
  rw [told_snoc, decide_eq_false ht]; simp
theorem tripLit_ne {t t' : Int} (h : t' ≠ t) : (Lit.int .i64 t' : Lit) ≠ .int .i64 t := fun e => h (by simpa using e)

theorem tripLit_key (t : Int) : WideAt.IsKeyLit (.int .i64 t) := trivial

end Go.Proofs.Ytfdcfomfghbpaaa

namespace Go.Proofs.Ytfdcfomfghbpaaa
open Go.RowKit
open Go.Maps

section
variable {P : Program} (w : World) {ops : Array Oper} {rest : List Oper} {o : Oper} {a : Act} {Q : Exit → Act → World → Prop}
/-- A look into a map whose answer is known. -/
theorem wpList_lookup_run (hg : o.guard = none) (m x : Operand) (t : TypeId) (c : Bool) (hop : o.op = Op.lookup t m x c) (M X v : Value) (hm : a.eval m = M) (hx : a.eval x = X)
    (hrun : (Instr.lookup t M X c).run P w = .ok v w) (hK : wpList P ops Q rest (a.put o.dst v) w) : wpList P ops Q (o :: rest) a w := by
  refine wpList_plain hg fun K' hK' => ?_
  unfold Oper.wp
  simp [execOp, hop, hm, hx, hrun, Result.andThen]
  exact hK' _ _ hK
end

theorem Blk.grown {w w' : World} {b : Nat} {cs : Array Value} {ty : TypeId} {row : Option Nat} (h : Blk w b cs ty) (hg : w.grownBy w' row) (hne : some b ≠ row) : Blk w' b cs ty := by
  unfold Blk; rw [hg.block b h.lt hne]; exact h

end Go.Proofs.Ytfdcfomfghbpaaa

namespace Go.Proofs.Ytfdcfomfghbpaaa
open Go.RowKit

/-- Each block of cells is as it was. -/
def Cel (w w' : World) : Prop := w.heap.size ≤ w'.heap.size ∧ w'.os = w.os ∧ w'.tape = w.tape ∧ w'.output = w.output ∧ ∀ (b : Nat) (cs : Array Value) (ty : TypeId) (fz : Nat × Nat), w.heap[b]? = some (.cells cs ty fz) → w'.heap[b]? = w.heap[b]?
theorem Cel.refl (w : World) : Cel w w := ⟨Nat.le_refl _, rfl, rfl, rfl, fun _ _ _ _ _ => rfl⟩
theorem Cel.trans {a b c : World} (h : Cel a b) (k : Cel b c) : Cel a c :=
  ⟨Nat.le_trans h.1 k.1, k.2.1.trans h.2.1, k.2.2.1.trans h.2.2.1, k.2.2.2.1.trans h.2.2.2.1, fun x cs ty fz hx => by have e := h.2.2.2.2 x cs ty fz hx; rw [k.2.2.2.2 x cs ty fz (by rw [e]; exact hx)]; exact e⟩
theorem Cel.of_below {w w' : World} (h : Below w.heap.size w w') : Cel w w' :=
  ⟨h.size, h.os, h.tape, h.output, fun b _ _ _ hb => h.block b (lt_of_heap hb)⟩
theorem Cel.of_grown {w w' : World} {row : Option Nat} (h : w.grownBy w' row) (hr : ∀ g, row = some g → ∃ m n, w.heap[g]? = some (.map m n)) : Cel w w' :=
  ⟨h.size, h.os, h.tape, h.output, fun b _ _ _ hb => h.block b (lt_of_heap hb) (fun e => by
    obtain ⟨m, n, hm⟩ := hr b e.symm
    rw [hb] at hm; cases hm)⟩
theorem Cel.blk {w w' : World} {b : Nat} {cs : Array Value} {ty : TypeId} (h : Cel w w') (hb : Blk w b cs ty) : Blk w' b cs ty := by
  unfold Blk at *; rw [h.2.2.2.2 b cs ty (0, 0) hb]; exact hb
theorem mapObj {H : Type} {P : Program} {k : TypeId} {R : Value → Option (DataW H × List MemPlace)} {w : World} {b n : Nat} {D : DataW H} (h : w.ownsMap P k R b n D) : ∃ es c, w.heap[b]? = some (.map es c) := by
  obtain ⟨es, c, hb, _⟩ := h
  exact ⟨es, c, hb⟩
theorem Cel.row {w w' : World} {base : Nat} {e : TypeId} {size n : Nat} {v : Value} {xs : List Value} (h : Cel w w') (hr : w.ownsRow base e size v n xs) : w'.ownsRow base e size v n xs := by
  refine ⟨hr.1, ?_⟩
  rcases hr.2 with h1 | ⟨g, cap, cur, h1, h2, h3, h4⟩
  · exact Or.inl h1
  · exact Or.inr ⟨g, cap, cur, h1, h2, by rw [h.2.2.2.2 g cur e (0, 0) h3]; exact h3, h4⟩
theorem Cel.inner {w w' : World} {lo hi : Nat} {ps : List (R × Value)} (h : Cel w w') (hi' : Inner w lo hi ps) : Inner w' lo hi ps :=
  ⟨Nat.le_trans hi'.1 h.1, fun p hp => ⟨h.row (hi'.2.1 p hp).1, (hi'.2.1 p hp).2⟩, hi'.2.2⟩
theorem Cel.own {w w' : World} {lo hi : Nat} {v : Value} {ps : List (R × Value)} (h : Cel w w') (ho : OwnRecs w lo hi v ps) : OwnRecs w' lo hi v ps :=
  ⟨h.row ho.1, ho.2.1, h.inner ho.2.2⟩
end Go.Proofs.Ytfdcfomfghbpaaa

namespace Go.Proofs.Ytfdcfomfghbpaaa
open Go.RowKit

theorem Blk.new3 (w : World) (o1 o2 : Obj) (cs : Array Value) (ty : TypeId) : Blk (((w.alloc o1).alloc o2).alloc (.cells cs ty)) (w.heap.size + 1 + 1) cs ty := by
  have h := Blk.new ((w.alloc o1).alloc o2) cs ty
  simpa using h

/-- An object that is cells of one of these types. -/
def Bad (ts : List TypeId) (o : Obj) : Prop := ∃ cs ty fz, o = .cells cs ty fz ∧ ty ∈ ts
/-- All but such objects is as it was. -/
structure Kept (ts : List TypeId) (w w' : World) : Prop where
  os : w'.os = w.os
  tape : w'.tape = w.tape
  output : w'.output = w.output
  size : w.heap.size ≤ w'.heap.size
  keep : ∀ (b : Nat) (o : Obj), w.heap[b]? = some o → ¬ Bad ts o → w'.heap[b]? = some o
theorem Kept.refl (ts : List TypeId) (w : World) : Kept ts w w := ⟨rfl, rfl, rfl, Nat.le_refl _, fun _ _ h _ => h⟩
theorem Kept.trans {ts : List TypeId} {a b c : World} (h : Kept ts a b) (k : Kept ts b c) : Kept ts a c :=
  ⟨k.os.trans h.os, k.tape.trans h.tape, k.output.trans h.output, Nat.le_trans h.size k.size, fun x o hx hb => k.keep x o (h.keep x o hx hb) hb⟩
theorem Kept.of_below {ts : List TypeId} {w w' : World} (h : Below w.heap.size w w') : Kept ts w w' :=
  ⟨h.os, h.tape, h.output, h.size, fun b o hb _ => by rw [h.block b (lt_of_heap hb)]; exact hb⟩
theorem Kept.of_grown {ts : List TypeId} {w w' : World} {row : Option Nat} (h : w.grownBy w' row) (hr : ∀ g, row = some g → ∃ o, w.heap[g]? = some o ∧ Bad ts o) : Kept ts w w' :=
  ⟨h.os, h.tape, h.output, h.size, fun b o hb hn => by
    rw [h.block b (lt_of_heap hb) (fun e => by
      obtain ⟨o', ho, hbad⟩ := hr b e.symm
      rw [hb] at ho
      simp only [Option.some.injEq] at ho
      subst ho
      exact hn hbad)]
    exact hb⟩
theorem Kept.mono {ts ts' : List TypeId} {w w' : World} (h : Kept ts w w') (hs : ∀ t ∈ ts, t ∈ ts') : Kept ts' w w' :=
  ⟨h.os, h.tape, h.output, h.size, fun b o hb hn => h.keep b o hb (fun ⟨cs, ty, fz, e, hm⟩ => hn ⟨cs, ty, fz, e, hs _ hm⟩)⟩
theorem bad_cells {ts : List TypeId} {w : World} {b : Nat} {cs : Array Value} {ty : TypeId} (h : Blk w b cs ty) (hm : ty ∈ ts) : ∃ o, w.heap[b]? = some o ∧ Bad ts o := ⟨_, h, cs, ty, (0, 0), rfl, hm⟩
theorem not_bad {ts : List TypeId} {cs : Array Value} {ty : TypeId} {fz : Nat × Nat} (h : ty ∉ ts) : ¬ Bad ts (.cells cs ty fz) := fun ⟨_, _, _, e, hm⟩ => by
  simp only [Obj.cells.injEq] at e
  rw [← e.2.1] at hm
  exact h hm
theorem Kept.set_ {ts : List TypeId} {w : World} {b i : Nat} {cs : Array Value} {ty : TypeId} (h : Blk w b cs ty) (hm : ty ∈ ts) (x : Value) : Kept ts w (w.setCell ⟨b, i, none⟩ x) :=
  Kept.of_grown (row := some b) ⟨rfl, rfl, rfl, by simp, fun k _ hk => Below.heap_setCell _ _ _ _ (by simp; intro e; exact hk (by rw [e]))⟩ (fun g hg => by
    simp only [Option.some.injEq] at hg; subst hg; exact bad_cells h hm)
/-- Four cells of a block are stored. -/
abbrev set4 (w : World) (b : Nat) (y0 y1 y2 y3 : Value) : World := (((w.setCell ⟨b, 0, none⟩ y0).setCell ⟨b, 1, none⟩ y1).setCell ⟨b, 2, none⟩ y2).setCell ⟨b, 3, none⟩ y3
theorem kept_set4 {w : World} {b : Nat} {x0 x1 x2 x3 : Value} {ty : TypeId} (h : Blk w b #[x0, x1, x2, x3] ty) (y0 y1 y2 y3 : Value) : Kept [ty] w (set4 w b y0 y1 y2 y3) ∧ Blk (set4 w b y0 y1 y2 y3) b #[y0, y1, y2, y3] ty :=
  ⟨(((Kept.set_ h (by simp) _).trans (Kept.set_ (h.set_ 0 y0) (by simp) _)).trans (Kept.set_ ((h.set_ 0 y0).set_ 1 y1) (by simp) _)).trans (Kept.set_ (((h.set_ 0 y0).set_ 1 y1).set_ 2 y2) (by simp) _), (((h.set_ 0 y0).set_ 1 y1).set_ 2 y2).set_ 3 y3⟩
theorem other_set4 {w : World} {b c : Nat} {cs : Array Value} {ty : TypeId} (h : Blk w c cs ty) (hn : c ≠ b) (y0 y1 y2 y3 : Value) : Blk (set4 w b y0 y1 y2 y3) c cs ty := (((h.other hn _).other hn _).other hn _).other hn _
theorem Kept.blk {ts : List TypeId} {w w' : World} {b : Nat} {cs : Array Value} {ty : TypeId} (h : Kept ts w w') (hb : Blk w b cs ty) (hn : ty ∉ ts) : Blk w' b cs ty := h.keep b _ hb (not_bad hn)
theorem Kept.row {ts : List TypeId} {w w' : World} {base : Nat} {e : TypeId} {size n : Nat} {v : Value} {xs : List Value} (h : Kept ts w w') (hr : w.ownsRow base e size v n xs) (hn : e ∉ ts) : w'.ownsRow base e size v n xs := by
  refine ⟨hr.1, ?_⟩
  rcases hr.2 with h1 | ⟨g, cap, cur, h1, h2, h3, h4⟩
  · exact Or.inl h1
  · exact Or.inr ⟨g, cap, cur, h1, h2, h.keep g _ h3 (not_bad hn), h4⟩
/-- A row grows, or turns: its block is of its type. -/
theorem Kept.of_row {ts : List TypeId} {w w' : World} {base : Nat} {e : TypeId} {size n : Nat} {v : Value} {xs : List Value} (hr : w.ownsRow base e size v n xs) (h : w.grownBy w' v.ownBlock) (hm : e ∈ ts) : Kept ts w w' :=
  Kept.of_grown h (fun g hg => by
    rcases hr.2 with ⟨h1, _⟩ | ⟨g', cap, cur, h1, h2, h3, h4⟩
    · rw [h1] at hg; simp [Value.ownBlock] at hg
    · rw [h1] at hg
      simp [Value.ownBlock] at hg
      subst hg
      exact ⟨_, h3, _, _, _, rfl, hm⟩)
theorem Kept.inner {ts : List TypeId} {w w' : World} {lo hi : Nat} {ps : List (R × Value)} (h : Kept ts w w') (hi' : Inner w lo hi ps) (hn : 3 ∉ ts) : Inner w' lo hi ps :=
  ⟨Nat.le_trans hi'.1 h.size, fun p hp => ⟨h.row (hi'.2.1 p hp).1 hn, (hi'.2.1 p hp).2⟩, hi'.2.2⟩
theorem Kept.own {ts : List TypeId} {w w' : World} {lo hi : Nat} {v : Value} {ps : List (R × Value)} (h : Kept ts w w') (ho : OwnRecs w lo hi v ps) (h1 : 72 ∉ ts) (hn : 3 ∉ ts) : OwnRecs w' lo hi v ps :=
  ⟨h.row ho.1 h1, ho.2.1, h.inner ho.2.2 hn⟩
theorem Kept.tinner {ts : List TypeId} {w w' : World} {lo hi : Nat} {ps : List (T.R × Value)} (h : Kept ts w w') (hi' : T.Inner w lo hi ps) (hn : 3 ∉ ts) : T.Inner w' lo hi ps :=
  ⟨Nat.le_trans hi'.1 h.size, fun p hp => ⟨h.row (hi'.2.1 p hp).1 hn, (hi'.2.1 p hp).2⟩, hi'.2.2⟩
/-- All blocks but those of S are as they were. -/
structure Turn (S : Nat → Prop) (w w' : World) : Prop where
  os : w'.os = w.os
  tape : w'.tape = w.tape
  output : w'.output = w.output
  size : w.heap.size ≤ w'.heap.size
  block : ∀ k, k < w.heap.size → ¬ S k → w'.heap[k]? = w.heap[k]?
theorem Turn.refl (S : Nat → Prop) (w : World) : Turn S w w := ⟨rfl, rfl, rfl, Nat.le_refl _, fun _ _ _ => rfl⟩
theorem Turn.trans {S : Nat → Prop} {a b c : World} (h : Turn S a b) (k : Turn S b c) : Turn S a c :=
  ⟨k.os.trans h.os, k.tape.trans h.tape, k.output.trans h.output, Nat.le_trans h.size k.size, fun x hx hn => by rw [k.block x (Nat.lt_of_lt_of_le hx h.size) hn]; exact h.block x hx hn⟩
theorem Turn.of_below {S : Nat → Prop} {w w' : World} (h : Below w.heap.size w w') : Turn S w w' := ⟨h.os, h.tape, h.output, h.size, fun k hk _ => h.block k hk⟩
theorem Turn.of_grown {S : Nat → Prop} {w w' : World} {row : Option Nat} (h : w.grownBy w' row) (hr : ∀ g, row = some g → S g) : Turn S w w' :=
  ⟨h.os, h.tape, h.output, h.size, fun k hk hn => h.block k hk (fun e => hn (hr k e.symm))⟩
theorem Turn.mono {S S' : Nat → Prop} {w w' : World} (h : Turn S w w') (hs : ∀ k, S k → S' k) : Turn S' w w' := ⟨h.os, h.tape, h.output, h.size, fun k hk hn => h.block k hk (fun e => hn (hs k e))⟩
/-- What is new may turn later. -/
theorem Turn.trans' {S S' : Nat → Prop} {a b c : World} (h : Turn S a b) (k : Turn S' b c) (hs : ∀ k, S' k → k < a.heap.size → S k) : Turn S a c :=
  ⟨k.os.trans h.os, k.tape.trans h.tape, k.output.trans h.output, Nat.le_trans h.size k.size, fun x hx hn => by rw [k.block x (Nat.lt_of_lt_of_le hx h.size) (fun e => hn (hs x e hx))]; exact h.block x hx hn⟩
theorem Turn.row {S : Nat → Prop} {w w' : World} {base : Nat} {e : TypeId} {size n : Nat} {v : Value} {xs : List Value} (h : Turn S w w') (hr : w.ownsRow base e size v n xs) (hn : ∀ g, v.ownBlock = some g → ¬ S g) : w'.ownsRow base e size v n xs := by
  refine ⟨hr.1, ?_⟩
  rcases hr.2 with h1 | ⟨g, cap, cur, h1, h2, h3, h4⟩
  · exact Or.inl h1
  · refine Or.inr ⟨g, cap, cur, h1, h2, ?_, h4⟩
    rw [h.block g (lt_of_heap h3) (hn g (by rw [h1]; rfl))]
    exact h3
theorem Turn.blk {S : Nat → Prop} {w w' : World} {b : Nat} {cs : Array Value} {ty : TypeId} (h : Turn S w w') (hb : Blk w b cs ty) (hn : ¬ S b) : Blk w' b cs ty := by
  unfold Blk; rw [h.block b hb.lt hn]; exact hb
theorem Turn.below {S : Nat → Prop} {w w' : World} {lo : Nat} (h : Turn S w w') (hs : ∀ k, S k → lo ≤ k) (hl : lo ≤ w.heap.size) : Below lo w w' := by
  refine (Below.refl lo w).trans ?_
  exact ⟨h.os, h.tape, h.output, h.size, fun k hk => h.block k (by omega) (fun e => by have := hs k e; omega)⟩
/-- A row of records, and their numbers in rows: a list of records. -/
theorem recs_of_rows {w : World} {base : Nat} {v : Value} {ps : List (R × Value)} (h : w.ownsRow base 72 3 v ps.length (flat ps)) (hi : ∀ p ∈ ps, Ints w p.2 p.1.2.2) : Recs w v (ps.map (·.1)) := by
  rcases h.2 with ⟨h1, h2⟩ | ⟨g, cap, cur, h1, h2, h3, h4, h5, h6, h7⟩
  · have : ps = [] := List.length_eq_zero_iff.1 h2
    subst this
    exact Or.inl ⟨rfl, none, 0, h1⟩
  · by_cases hne : ps = []
    · subst hne; exact Or.inl ⟨rfl, _, _, h1⟩
    · refine Or.inr ⟨g, 0, cap, by rw [h1]; simp, by simpa using hne, fun i r hir => ?_⟩
      simp only [List.getElem?_map, Option.map_eq_some_iff] at hir
      obtain ⟨p, hp, rfl⟩ := hir
      obtain ⟨f0, f1, f2⟩ := flat_get ps i p hp
      have cell : ∀ j x, (flat ps)[j]? = some x → w.cell? ⟨g, j, none⟩ = some x := fun j x hx => by
        rw [cell_of_row w _ _ _ _ _ h3]
        rw [← h7, List.getElem?_take] at hx
        split at hx
        · simpa using hx
        · cases hx
      exact ⟨p.2, by simpa using cell _ _ f0, by simpa using cell _ _ f1, by simpa using cell _ _ f2, hi p (List.mem_of_getElem? hp)⟩

end Go.Proofs.Ytfdcfomfghbpaaa

namespace Go.Proofs.Ytfdcfomfghbpaaa
open Go.RowKit

/-- A house as plain data: its number, whether it is up, how many it has, its records, how many of them are forced. -/
abbrev Hd := Int × Bool × Int × List R × Int
/-- Houses, as they lie in a row. -/
def hoflat : List (Hd × Value) → List Value
  | [] => []
  | p :: t => .int .i64 p.1.1 :: .bool p.1.2.1 :: .int .i64 p.1.2.2.1 :: p.2 :: .int .i64 p.1.2.2.2.2 :: hoflat t
theorem hoflat_length (ps : List (Hd × Value)) : (hoflat ps).length = ps.length * 5 := by
  induction ps with
  | nil => rfl
  | cons p t ih => simp only [hoflat, List.length_cons, ih]; omega
theorem hoflat_append (ps qs : List (Hd × Value)) : hoflat (ps ++ qs) = hoflat ps ++ hoflat qs := by
  induction ps with
  | nil => rfl
  | cons p t ih => simp [hoflat, ih]
theorem hoflat_get (ps : List (Hd × Value)) (i : Nat) (p : Hd × Value) (h : ps[i]? = some p) :
    (hoflat ps)[i * 5]? = some (.int .i64 p.1.1) ∧ (hoflat ps)[i * 5 + 1]? = some (.bool p.1.2.1) ∧ (hoflat ps)[i * 5 + 2]? = some (.int .i64 p.1.2.2.1) ∧ (hoflat ps)[i * 5 + 3]? = some p.2 ∧ (hoflat ps)[i * 5 + 4]? = some (.int .i64 p.1.2.2.2.2) := by
  induction ps generalizing i with
  | nil => simp at h
  | cons q t ih =>
    cases i with
    | zero => simp at h; subst h; simp [hoflat]
    | succ i =>
      have := ih i (by simpa using h)
      rw [show (i + 1) * 5 = i * 5 + 5 by omega]
      simpa [hoflat] using this
theorem hoflat_set (ps : List (Hd × Value)) (k : Nat) (p : Hd × Value) (h : k < ps.length) :
    (((((hoflat ps).set (k * 5) (.int .i64 p.1.1)).set (k * 5 + 1) (.bool p.1.2.1)).set (k * 5 + 2) (.int .i64 p.1.2.2.1)).set (k * 5 + 3) p.2).set (k * 5 + 4) (.int .i64 p.1.2.2.2.2) = hoflat (ps.set k p) := by
  induction ps generalizing k with
  | nil => simp at h
  | cons q t ih =>
    cases k with
    | zero => simp [hoflat]
    | succ k =>
      have := ih k (by simpa using h)
      rw [show (k + 1) * 5 = k * 5 + 5 by omega]
      simp only [hoflat, List.set_cons_succ]
      rw [this]

/-- A house lies at this place of a block. -/
def HCells (w : World) (b o : Nat) (h : Hd) (u : Value) : Prop :=
  w.cell? ⟨b, o, none⟩ = some (.int .i64 h.1) ∧ w.cell? ⟨b, o + 1, none⟩ = some (.bool h.2.1) ∧ w.cell? ⟨b, o + 2, none⟩ = some (.int .i64 h.2.2.1) ∧ w.cell? ⟨b, o + 3, none⟩ = some u ∧ w.cell? ⟨b, o + 4, none⟩ = some (.int .i64 h.2.2.2.2) ∧ Recs w u h.2.2.2.1
/-- The value v is a slice of just these houses in the world w. -/
def Houses (w : World) (v : Value) (hs : List Hd) : Prop :=
  (hs = [] ∧ ∃ ao cap, v = .slice ao 0 cap) ∨
  (∃ b off cap, v = .slice (some ⟨b, off, none⟩) hs.length cap ∧ hs ≠ [] ∧ ∀ i h, hs[i]? = some h → ∃ u, HCells w b (off + i * 5) h u)
theorem HCells.later {B : Nat} {w w' : World} {b o : Nat} {h : Hd} {u : Value} (hc : HCells w b o h u) (hb : Below B w w') (hB : w.heap.size ≤ B) : HCells w' b o h u := by
  obtain ⟨h0, h1, h2, h3, h4, h5⟩ := hc
  have hl : b < B := Nat.lt_of_lt_of_le (World.block_lt_of_cell? _ _ h0) hB
  exact ⟨by rw [hb.cell (p := ⟨b, o, none⟩) hl]; exact h0, by rw [hb.cell (p := ⟨b, o + 1, none⟩) hl]; exact h1, by rw [hb.cell (p := ⟨b, o + 2, none⟩) hl]; exact h2, by rw [hb.cell (p := ⟨b, o + 3, none⟩) hl]; exact h3, by rw [hb.cell (p := ⟨b, o + 4, none⟩) hl]; exact h4, h5.later hb hB⟩
theorem Houses.later {B : Nat} {w w' : World} {v : Value} {hs : List Hd} (h : Houses w v hs) (hb : Below B w w') (hB : w.heap.size ≤ B) : Houses w' v hs := by
  rcases h with h | ⟨b, off, cap, h1, h2, h3⟩
  · exact Or.inl h
  · exact Or.inr ⟨b, off, cap, h1, h2, fun i x hx => by obtain ⟨u, hu⟩ := h3 i x hx; exact ⟨u, hu.later hb hB⟩⟩
theorem Houses.shape {w : World} {v : Value} {hs : List Hd} (h : Houses w v hs) : ∃ ao cap, v = .slice ao hs.length cap := by
  rcases h with ⟨rfl, ao, cap, rfl⟩ | ⟨b, off, cap, rfl, _⟩
  · exact ⟨ao, cap, rfl⟩
  · exact ⟨_, _, rfl⟩
/-- Where a house of a list lies. -/
theorem Houses.at_ {w : World} {v : Value} {hs : List Hd} {i : Nat} {h : Hd} (hv : Houses w v hs) (hi : hs[i]? = some h) : ∃ b off cap u, v = .slice (some ⟨b, off, none⟩) hs.length cap ∧ HCells w b (off + i * 5) h u := by
  rcases hv with ⟨rfl, _⟩ | ⟨b, off, cap, h1, _, h3⟩
  · simp at hi
  · obtain ⟨u, hu⟩ := h3 i h hi
    exact ⟨b, off, cap, u, h1, hu⟩

/-- How great the first k houses are; all of them, and how many. -/
def hpre (hs : List Hd) (k : Nat) : Nat := ((hs.take k).map fun h => tot h.2.2.2.1).sum
def htot (hs : List Hd) : Nat := hs.length + hpre hs hs.length
theorem hpre_zero (hs : List Hd) : hpre hs 0 = 0 := by simp [hpre]
theorem hpre_succ (hs : List Hd) (k : Nat) (h : Hd) (hk : hs[k]? = some h) : hpre hs (k + 1) = hpre hs k + tot h.2.2.2.1 := by
  have hl : k < hs.length := by
    by_cases hl : k < hs.length
    · exact hl
    · rw [List.getElem?_eq_none (by omega)] at hk; cases hk
  rw [List.getElem?_eq_getElem hl] at hk
  simp only [Option.some.injEq] at hk
  unfold hpre
  rw [List.take_succ_eq_append_getElem hl, List.map_append, List.sum_append]
  simp [hk]
theorem hpre_le (hs : List Hd) (k : Nat) : hpre hs k ≤ hpre hs hs.length := by
  unfold hpre
  rw [List.take_length]
  conv => rhs; rw [← List.take_append_drop k hs]
  rw [List.map_append, List.sum_append]
  omega
theorem htot_len (hs : List Hd) : hs.length ≤ htot hs := by unfold htot; omega
theorem htot_mem (hs : List Hd) (h : Hd) (hm : h ∈ hs) : tot h.2.2.2.1 ≤ htot hs := by
  obtain ⟨k, hk, he⟩ := List.getElem_of_mem hm
  have h1 := hpre_succ hs k h (by rw [List.getElem?_eq_getElem hk, he])
  have h2 := hpre_le hs (k + 1)
  unfold htot
  omega

/-- The world behind five stores. -/
abbrev store5 (w : World) (g i : Nat) (p : Hd × Value) : World := ((((w.setCell ⟨g, i, none⟩ (.int .i64 p.1.1)).setCell ⟨g, i + 1, none⟩ (.bool p.1.2.1)).setCell ⟨g, i + 2, none⟩ (.int .i64 p.1.2.2.1)).setCell ⟨g, i + 3, none⟩ p.2).setCell ⟨g, i + 4, none⟩ (.int .i64 p.1.2.2.2.2)
theorem stored5 {w : World} {base g n cap : Nat} {ps : List (Hd × Value)} (h : w.ownsRow base 42 5 (.slice (some ⟨g, 0, none⟩) n cap) n (hoflat ps)) (k : Nat) (hk : k < ps.length) (p : Hd × Value) :
    (store5 w g (k * 5) p).ownsRow base 42 5 (.slice (some ⟨g, 0, none⟩) n cap) n (hoflat (ps.set k p)) ∧ w.grownBy (store5 w g (k * 5) p) (some g) := by
  have a1 := h.stored (k * 5) (.int .i64 p.1.1)
  have a2 := a1.1.stored (k * 5 + 1) (.bool p.1.2.1)
  have a3 := a2.1.stored (k * 5 + 2) (.int .i64 p.1.2.2.1)
  have a4 := a3.1.stored (k * 5 + 3) p.2
  have a5 := a4.1.stored (k * 5 + 4) (.int .i64 p.1.2.2.2.2)
  rw [hoflat_set ps k p hk] at a5
  exact ⟨a5.1, grownBy_trans (grownBy_trans (grownBy_trans (grownBy_trans a1.2 a2.2) a3.2) a4.2) a5.2⟩
theorem infoHouse : (Try.prog.info? 42).map (fun i => (i.zero, i.size, i.bytes)) = some (some (.agg #[.int .i64 0, .bool false, .int .i64 0, .slice none 0 0, .int .i64 0]), 5, 56) := by kernel_rfl
def zeroHo : Hd × Value := ((0, false, 0, [], 0), .slice none 0 0)
theorem made_five (n : Nat) : (madeCells #[.int .i64 0, .bool false, .int .i64 0, .slice none 0 0, .int .i64 0] (n * 5)).toList = hoflat (List.replicate n zeroHo) := by
  apply List.ext_getElem?
  intro i
  by_cases h : i < n * 5
  · have hq : i / 5 < n := by omega
    obtain ⟨f0, f1, f2, f3, f4⟩ := hoflat_get (List.replicate n zeroHo) (i / 5) zeroHo (by simp [hq])
    have hl : (madeCells #[.int .i64 0, .bool false, .int .i64 0, .slice none 0 0, .int .i64 0] (n * 5)).toList[i]? = some (#[Value.int .i64 0, .bool false, .int .i64 0, .slice none 0 0, .int .i64 0][i % 5]!) := by
      simp [madeCells, h]
    rw [hl]
    rcases (show i % 5 = 0 ∨ i % 5 = 1 ∨ i % 5 = 2 ∨ i % 5 = 3 ∨ i % 5 = 4 by omega) with h0 | h0 | h0 | h0 | h0
    · rw [show i / 5 * 5 = i by omega] at f0; rw [f0, h0]; rfl
    · rw [show i / 5 * 5 + 1 = i by omega] at f1; rw [f1, h0]; rfl
    · rw [show i / 5 * 5 + 2 = i by omega] at f2; rw [f2, h0]; rfl
    · rw [show i / 5 * 5 + 3 = i by omega] at f3; rw [f3, h0]; rfl
    · rw [show i / 5 * 5 + 4 = i by omega] at f4; rw [f4, h0]; rfl
  · rw [List.getElem?_eq_none (by simp [madeCells]; omega), List.getElem?_eq_none (by rw [hoflat_length]; simp; omega)]

/-- A list of houses of the call's own, from lo on: its row, and each house's records. -/
def HMade (w : World) (lo : Nat) (v : Value) (ps : List (Hd × Value)) : Prop :=
  w.ownsRow lo 42 5 v ps.length (hoflat ps) ∧ ∀ p ∈ ps, Made w lo p.2 p.1.2.2.2.1
theorem Made.keptH {w w' : World} {lo : Nat} {v : Value} {rs : List R} (h : Made w lo v rs) (hk : Kept [42] w w') : Made w' lo v rs := by
  obtain ⟨ps, hp, ho⟩ := h
  refine ⟨ps, hp, ?_⟩
  have := hk.own ho (by decide) (by decide)
  exact ⟨this.1, fun k hk' => Nat.lt_of_lt_of_le (this.2.1 k hk') hk.size, this.2.2.mono hk.size (Nat.le_refl _)⟩
theorem HMade.houses {w : World} {lo : Nat} {v : Value} {ps : List (Hd × Value)} (h : HMade w lo v ps) : Houses w v (ps.map (·.1)) := by
  obtain ⟨h1, h2⟩ := h
  by_cases hp : ps = []
  · subst hp
    rcases h1.2 with ⟨hv, _⟩ | ⟨g, cap, cur, hv, _⟩
    · exact Or.inl ⟨rfl, none, 0, hv⟩
    · exact Or.inl ⟨rfl, _, cap, hv⟩
  · rcases h1.2 with ⟨_, hn⟩ | ⟨g, cap, cur, hv, _⟩
    · exact absurd (List.length_eq_zero_iff.1 hn) hp
    · subst hv
      refine Or.inr ⟨g, 0, cap, by simp, by simpa using hp, fun i r hr => ?_⟩
      rw [List.getElem?_map] at hr
      cases hpi : ps[i]? with
      | none => rw [hpi] at hr; cases hr
      | some p =>
        rw [hpi] at hr
        simp at hr
        subst hr
        have hil : i < ps.length := by
          by_cases e : i < ps.length
          · exact e
          · rw [List.getElem?_eq_none (by omega)] at hpi; cases hpi
        obtain ⟨f0, f1, f2, f3, f4⟩ := hoflat_get ps i p hpi
        refine ⟨p.2, ?_, ?_, ?_, ?_, ?_, (h2 p (List.mem_of_getElem? hpi)).recs⟩
        · rw [Nat.zero_add, h1.cellAt _ (by omega)]; exact f0
        · rw [Nat.zero_add, h1.cellAt _ (by omega)]; exact f1
        · rw [Nat.zero_add, h1.cellAt _ (by omega)]; exact f2
        · rw [Nat.zero_add, h1.cellAt _ (by omega)]; exact f3
        · rw [Nat.zero_add, h1.cellAt _ (by omega)]; exact f4

set_option maxHeartbeats 2000000 in
theorem eqHouses_any (v1 v2 : Value) (hs : List Hd) (w : World) (h1 : Houses w v1 hs) (h2 : Houses w v2 hs) (hl : htot hs ≤ 1048576) :
    Calls Try.prog 18 #[v1, v2] w fun e w' => e = .returned (.bool true) ∧ Below w.heap.size w w' := by
  have H1 : Hid (∀ W, Below w.heap.size w W → Houses W v1 hs) := fun W h => h1.later h (Nat.le_refl _)
  have H2 : Hid (∀ W, Below w.heap.size w W → Houses W v2 hs) := fun W h => h2.later h (Nat.le_refl _)
  have HM : Hid (∀ h ∈ hs, tot h.2.2.2.1 ≤ 1048576) := fun h hh => Nat.le_trans (htot_mem hs h hh) hl
  have hlen := htot_len hs
  obtain ⟨a1, p1, rfl⟩ := h1.shape
  obtain ⟨a2, p2, rfl⟩ := h2.shape
  clear h1 h2
  go_enter Try.func18, Try.ntmps18
  go_wp2
  go_loopw [5] (fun i wr => ∃ k : Nat, k ≤ hs.length ∧ i = .int .i64 k ∧ Hid (Below w.heap.size w wr)) (fun i _ => hs.length - (intOf i).toNat)
  case atStart => exact ⟨0, Nat.zero_le _, rfl, Below.refl _ _⟩
  case round =>
    obtain ⟨k, hk, rfl, HB⟩ := hrel
    by_cases hlt : k < hs.length
    · obtain ⟨⟨id, up, room, rs, f⟩, hg⟩ : ∃ h, hs[k]? = some h := ⟨_, List.getElem?_eq_getElem hlt⟩
      obtain ⟨b, off, cap, u, hvv, c0, c1, c2, c3, c4, hR⟩ := (H1.out wr HB.out).at_ hg
      simp only [Value.slice.injEq] at hvv
      obtain ⟨rfl, -, rfl⟩ := hvv
      obtain ⟨b2, off2, cap2, u2, hvv, d0, d1, d2, d3, d4, hR2⟩ := (H2.out wr HB.out).at_ hg
      simp only [Value.slice.injEq] at hvv
      obtain ⟨rfl, -, rfl⟩ := hvv
      have HT := hide_it (fun (W : World) (hW : Below w.heap.size w W) => (show Recs W u rs → Recs W u2 rs → _ from fun a b => eqHouse_any id up room u u2 rs f W a b (HM.out _ (List.mem_of_getElem? hg))))
      have R1 := hide_it (hR.later (Below.refl _ _).drew (Nat.le_refl _))
      have R2 := hide_it (hR2.later (Below.refl _ _).drew (Nat.le_refl _))
      have BD : Hid (Below w.heap.size w wr.drew) := HB.out.drew
      obtain ⟨au, cu, rfl⟩ := hR.shape
      obtain ⟨au2, cu2, rfl⟩ := hR2.shape
      clear hR hR2 hg
      have hli : (k : Int) < (hs.length : Int) := by omega
      go_wp2
      go_region_with (go_at_call 31; refine (HT.out _ BD.out R1.out R2.out).mono ?_; rintro e w2 ⟨rfl, hb2⟩; have HB2 := hide_it (BD.out.trans (hb2.mono BD.out.size)); clear hb2)
      all_goals (try go_wp2)
      all_goals
        go_roundw
        case rel => exact ⟨k + 1, by omega, by go_num, HB2⟩
        case measure => simp [intOf]; omega
    · go_wp2
      go_ret
      exact ⟨rfl, HB.out⟩

end Go.Proofs.Ytfdcfomfghbpaaa

namespace Go.Proofs.Ytfdcfomfghbpaaa
open Go.RowKit

/-- Words, all marked. -/
def markW (n : Nat) (k : Int) : List Wd := (List.range n).map fun i => (k + 4 * (i : Nat), k + 4 * (i : Nat) + 1, k + 4 * (i : Nat) + 2, k + 4 * (i : Nat) + 3)
theorem markW_length (n : Nat) (k : Int) : (markW n k).length = n := by simp [markW]
theorem markW_get? (n : Nat) (k : Int) (i : Nat) (h : i < n) : (markW n k)[i]? = some (k + 4 * i, k + 4 * i + 1, k + 4 * i + 2, k + 4 * i + 3) := by simp [markW, h]
theorem markW_get (n : Nat) (k : Int) (i : Nat) (h : i < n) : (markW n k).getD i (0, 0, 0, 0) = (k + 4 * i, k + 4 * i + 1, k + 4 * i + 2, k + 4 * i + 3) := by
  rw [List.getD_eq_getElem?_getD, markW_get? n k i h]; rfl

theorem mixW_set (A xs : List Wd) (i : Nat) (hA : A.length = xs.length) (hi : i < xs.length) (x : Wd) (hx : A[i]? = some x) : (A.take i ++ xs.drop i).set i x = A.take (i + 1) ++ xs.drop (i + 1) := by
  have hi' : i < A.length := by omega
  rw [List.set_append_right _ _ (by simp; omega)]
  have h1 : i - (A.take i).length = 0 := by simp; omega
  rw [h1, List.drop_eq_getElem_cons hi, List.set_cons_zero, List.take_succ_eq_append_getElem hi']
  rw [List.getElem?_eq_getElem hi'] at hx
  simp only [Option.some.injEq] at hx
  rw [hx]; simp

set_option maxHeartbeats 2000000 in
theorem markWords_any (v : Value) (hs : List Wd) (k : Int) (lo n : Nat) (w : World) (hv : w.ownsRow lo 67 4 v n (wflat hs)) (hn : n ≤ 1048576) (hk0 : 0 ≤ k) (hk1 : k ≤ 1000000000) :
    Calls Try.prog 22 #[v, .int .i64 k] w fun e w' => e = .returned (.int .i64 (k + 4 * n)) ∧ w'.ownsRow lo 67 4 v n (wflat (markW n k)) ∧ w.grownBy w' v.ownBlock := by
  have hxl : hs.length = n := by have := hv.1; rw [wflat_length] at this; omega
  by_cases h0 : n = 0
  · subst h0
    obtain rfl : hs = [] := List.length_eq_zero_iff.1 hxl
    have HV : Hid (w.ownsRow lo 67 4 v 0 (wflat (markW 0 k))) := hv
    obtain ⟨ao, cap, rfl⟩ := row_shape hv
    clear hv hxl
    go_enter Try.func22, Try.ntmps22
    go_wp2
    refine wp_loop_rounds 1 ?_
    rw [rounds_succ]
    go_wp2
    go_ret
    exact ⟨by simp, HV.out, World.grownBy.refl _ _⟩
  obtain ⟨g, cap, rfl⟩ : ∃ g cap, v = .slice (some ⟨g, 0, none⟩) n cap := by
    rcases hv.2 with ⟨_, hn0⟩ | ⟨g, cap, cur, h, _⟩
    · exact absurd hn0 h0
    · exact ⟨g, cap, h⟩
  have HX : Hid (hs.length = n) := hxl
  have H0 : Hid (w.ownsRow lo 67 4 (.slice (some ⟨g, 0, none⟩) n cap) n (wflat ((markW n k).take 0 ++ hs.drop 0))) := by show World.ownsRow _ _ _ _ _ _ _; simpa using hv
  clear hv hxl
  go_enter Try.func22, Try.ntmps22
  go_wp2
  go_loopw [1, 5] (fun q i wr => ∃ j : Nat, j ≤ n ∧ i = .int .i64 j ∧ q = .int .i64 (k + 4 * j) ∧ Hid (wr.ownsRow lo 67 4 (.slice (some ⟨g, 0, none⟩) n cap) n (wflat ((markW n k).take j ++ hs.drop j))) ∧ Hid (w.grownBy wr (some g))) (fun _ i _ => n - (intOf i).toNat)
  case atStart => exact ⟨0, Nat.zero_le _, rfl, by simp, H0, World.grownBy.refl _ _⟩
  case round =>
    obtain ⟨j, hj, rfl, rfl, HO, HG⟩ := hrel
    by_cases hlt : j < n
    · have cellEx : ∀ i, i < n * 4 → ∃ x, wr.cell? ⟨g, i, none⟩ = some x := fun i hi => by
        have h1 := HO.out.cellAt i hi
        have h2 : i < (wflat ((markW n k).take j ++ hs.drop j)).length := by rw [HO.out.1]; exact hi
        exact ⟨_, by rw [h1, List.getElem?_eq_getElem h2]⟩
      obtain ⟨x0, hx0⟩ := cellEx (j * 4) (by omega)
      obtain ⟨x1, hx1⟩ := cellEx (j * 4 + 1) (by omega)
      obtain ⟨x2, hx2⟩ := cellEx (j * 4 + 2) (by omega)
      obtain ⟨x3, hx3⟩ := cellEx (j * 4 + 3) (by omega)
      have f0 := HO.out.frozenAt (j * 4)
      have f1 := HO.out.frozenAt (j * 4 + 1)
      have f2 := HO.out.frozenAt (j * 4 + 2)
      have f3 := HO.out.frozenAt (j * 4 + 3)
      have st := stored4 HO.out j (by rw [List.length_append, List.length_take, markW_length, List.length_drop, HX.out]; omega) (k + 4 * j, k + 4 * j + 1, k + 4 * j + 2, k + 4 * j + 3)
      have ST := hide_it st
      clear cellEx st
      go_wp2
      go_roundw
      case rel =>
        refine ⟨j + 1, by omega, by go_num, by go_num, ?_, ?_⟩
        · have h := ST.out.1
          rw [mixW_set _ _ j (by rw [markW_length, HX.out]) (by rw [HX.out]; omega) _ (markW_get? n k j hlt)] at h
          first | exact h | (simp only [store4] at h; simp only [Int.add_assoc] at h ⊢; exact h)
        · first | exact grownBy_trans HG.out ST.out.2 | (have h := ST.out.2; simp only [store4] at h; simp only [Int.add_assoc] at h ⊢; exact grownBy_trans HG.out h)
      case measure => simp [intOf]; omega
    · have HO2 : Hid (wr.ownsRow lo 67 4 (.slice (some ⟨g, 0, none⟩) n cap) n (wflat (markW n k))) := by
        have hje : j = n := by omega
        have := HO.out
        rw [hje, List.take_of_length_le (by rw [markW_length]; omega), List.drop_of_length_le (by rw [HX.out]; omega), List.append_nil] at this
        exact this
      have hje : (j : Int) = n := by omega
      go_wp2
      go_ret
      exact ⟨by simp [hje], HO2.out, HG.out⟩

set_option maxHeartbeats 2000000 in
theorem heldWords_any (v : Value) (n : Nat) (k : Int) (w : World) (hv : Words w v (markW n k)) (hn : n ≤ 1048576) (hk0 : 0 ≤ k) (hk1 : k ≤ 1000000000) :
    Calls Try.prog 25 #[v, .int .i64 k] w fun e w' => e = .returned (.int .i64 (k + 4 * n)) ∧ w' = w := by
  rcases hv with ⟨hz, ao, cap, rfl, -⟩ | ⟨b, off, cap, rfl, hz, hc⟩
  · have h0 : n = 0 := by have := congrArg List.length hz; rw [markW_length] at this; simpa using this
    subst h0
    clear hz
    go_enter Try.func25, Try.ntmps25
    go_wp2
    refine wp_loop_rounds 1 ?_
    rw [rounds_succ]
    go_wp2
    go_ret
    exact ⟨by simp, rfl⟩
  · rw [markW_length] at hc ⊢
    have HC : Hid (∀ j, j < n → w.cell? ⟨b, off + j * 4, none⟩ = some (.int .i64 (k + 4 * j)) ∧ w.cell? ⟨b, off + j * 4 + 1, none⟩ = some (.int .i64 (k + 4 * j + 1)) ∧ w.cell? ⟨b, off + j * 4 + 2, none⟩ = some (.int .i64 (k + 4 * j + 2)) ∧ w.cell? ⟨b, off + j * 4 + 3, none⟩ = some (.int .i64 (k + 4 * j + 3))) := fun j hj => by
      have := hc j hj
      rw [markW_get n k j hj] at this
      exact this
    clear hc hz
    go_enter Try.func25, Try.ntmps25
    go_wp2
    go_loop [1, 5] (fun q i => ∃ j : Nat, j ≤ n ∧ i = .int .i64 j ∧ q = .int .i64 (k + 4 * j)) (fun _ i => n - (intOf i).toNat)
    case atStart => exact ⟨0, Nat.zero_le _, rfl, by simp⟩
    case round =>
      obtain ⟨j, hj, rfl, rfl⟩ := hrel
      by_cases hlt : j < n
      · obtain ⟨c0, c1, c2, c3⟩ := HC.out j hlt
        go_wp2
        go_round
        case rel => exact ⟨j + 1, by omega, by go_num, by go_num⟩
        case measure => simp [intOf]; omega
      · have hje : (j : Int) = n := by omega
        go_wp2
        go_ret
        exact ⟨by simp, rfl⟩

end Go.Proofs.Ytfdcfomfghbpaaa

namespace Go.Proofs.Ytfdcfomfghbpaaa
open Go.RowKit

/-- A desk as a value: whether it is up, its log, what it was told. -/
abbrev deskV (up : Bool) (v : Value) (f : Int) (u : Value) : Value := .agg #[.bool up, v, .int .i64 f, u]

/-- The lists of a desk, as they lie. -/
def DkAt (w : World) (v u : Value) (rs : List R) (ws : List Wd) : Prop := Recs w v rs ∧ Words w u ws
theorem DkAt.later {B : Nat} {w w' : World} {v u : Value} {rs : List R} {ws : List Wd} (h : DkAt w v u rs ws) (hb : Below B w w') (hB : w.heap.size ≤ B) : DkAt w' v u rs ws := ⟨h.1.later hb hB, h.2.later hb hB⟩
theorem DkAt.shape {w : World} {v u : Value} {rs : List R} {ws : List Wd} (h : DkAt w v u rs ws) : ∃ a1 c1 a2 c2, v = .slice a1 rs.length c1 ∧ u = .slice a2 ws.length c2 := by
  obtain ⟨a1, c1, h1⟩ := h.1.shape
  obtain ⟨a2, c2, h2⟩ := h.2.shape
  exact ⟨a1, c1, a2, c2, h1, h2⟩

/-- The lists of a desk in memory of their own, from lo on and below hi, each apart from the other. -/
def DkOwn (w : World) (lo hi : Nat) (v u : Value) (ps : List (R × Value)) (ws : List Wd) : Prop :=
  hi ≤ w.heap.size ∧ ∃ l h, lo ≤ l ∧ h ≤ hi ∧ OwnRecs w l h v ps ∧ w.ownsRow lo 67 4 u ws.length (wflat ws) ∧ ∀ g, u.ownBlock = some g → g < hi ∧ (g < l ∨ h ≤ g)
theorem DkOwn.below {w w' : World} {lo hi B : Nat} {v u : Value} {ps : List (R × Value)} {ws : List Wd} (h : DkOwn w lo hi v u ps ws) (hb : Below B w w') (hB : hi ≤ B) : DkOwn w' lo hi v u ps ws := by
  obtain ⟨h0, l, t, h1, h2, h3, h4, h5⟩ := h
  exact ⟨Nat.le_trans h0 hb.size, l, t, h1, h2, h3.below hb (by omega), ownsRow_below h4 hb (fun g hg => by have := (h5 g hg).1; omega), h5⟩
theorem DkOwn.mid {w w' : World} {l0 h0 lo hi : Nat} {v u : Value} {ps : List (R × Value)} {ws : List Wd} (h : DkOwn w l0 h0 v u ps ws) (hb : Mid lo hi w w') (hB : hi ≤ l0) : DkOwn w' l0 h0 v u ps ws := by
  obtain ⟨h0, l, t, h1, h2, h3, h4, h5⟩ := h
  exact ⟨Nat.le_trans h0 hb.size, l, t, h1, h2, h3.mid hb (by omega), ownsRow_mid h4 hb (fun g hg => Or.inr (by have := (h4.lt g hg).1; omega)), h5⟩
theorem DkOwn.at_ {w : World} {lo hi : Nat} {v u : Value} {ps : List (R × Value)} {ws : List Wd} (h : DkOwn w lo hi v u ps ws) : DkAt w v u (ps.map (·.1)) ws := by
  obtain ⟨_, l, t, _, _, h3, h4, _⟩ := h
  exact ⟨h3.recs, words_of_row h4⟩
theorem DkOwn.at' {w : World} {lo hi : Nat} {v u : Value} {ps : List (R × Value)} {rs : List R} {ws : List Wd} (h : DkOwn w lo hi v u ps ws) (hp : ps.map (·.1) = rs) : DkAt w v u rs ws := hp ▸ h.at_
theorem DkOwn.lo {w : World} {lo lo' hi : Nat} {v u : Value} {ps : List (R × Value)} {ws : List Wd} (h : DkOwn w lo hi v u ps ws) (hl : lo' ≤ lo) : DkOwn w lo' hi v u ps ws := by
  obtain ⟨h0, l, t, h1, h2, h3, h4, h5⟩ := h
  exact ⟨h0, l, t, by omega, h2, h3, ownsRow_base h4 hl, h5⟩
theorem DkOwn.hi {w : World} {lo hi hi' : Nat} {v u : Value} {ps : List (R × Value)} {ws : List Wd} (h : DkOwn w lo hi v u ps ws) (hl : hi ≤ hi') (hs : hi' ≤ w.heap.size) : DkOwn w lo hi' v u ps ws := by
  obtain ⟨h0, l, t, h1, h2, h3, h4, h5⟩ := h
  exact ⟨hs, l, t, h1, by omega, h3, h4, fun g hg => ⟨by have := (h5 g hg).1; omega, (h5 g hg).2⟩⟩

theorem Mid.one {w : World} {b i : Nat} (x : Value) : Mid b (b + 1) w (w.setCell ⟨b, i, none⟩ x) := by
  refine ⟨rfl, rfl, rfl, by simp, fun k _ hk => ?_⟩
  exact Below.heap_setCell _ _ _ _ (by simp; omega)
theorem DkOwn.setBelow {w : World} {lo hi b i : Nat} {v u : Value} {ps : List (R × Value)} {ws : List Wd} (h : DkOwn w lo hi v u ps ws) (hb : b < lo) (x : Value) : DkOwn (w.setCell ⟨b, i, none⟩ x) lo hi v u ps ws := h.mid (Mid.one x) hb
/-- A log, and words in a row that lies behind it. -/
theorem DkOwn.mk_ {w w' : World} {lo : Nat} {v u : Value} {ps : List (R × Value)} {ws : List Wd} (h : OwnRecs w lo w.heap.size v ps) (hr : w'.ownsRow w.heap.size 67 4 u ws.length (wflat ws)) (hb : Below w.heap.size w w') (hl : lo ≤ w.heap.size) : DkOwn w' lo w'.heap.size v u ps ws :=
  ⟨Nat.le_refl _, lo, w.heap.size, Nat.le_refl _, hb.size, h.below hb (Nat.le_refl _), ownsRow_base hr hl, fun g hg => ⟨(hr.lt g hg).2, Or.inr (hr.lt g hg).1⟩⟩

/-- A desk comes back, in memory of the call's own. -/
def DkOut (w w' : World) (e : Ending) (up : Bool) (rs : List R) (f : Int) (ws : List Wd) : Prop :=
  ∃ ao cap au cu ps, e = .returned (deskV up (.slice ao rs.length cap) f (.slice au ws.length cu)) ∧ ps.map (·.1) = rs ∧ DkOwn w' w.heap.size w'.heap.size (.slice ao rs.length cap) (.slice au ws.length cu) ps ws ∧ Below w.heap.size w w'

set_option maxHeartbeats 2000000 in
theorem eqDesk_any (up : Bool) (v1 u1 v2 u2 : Value) (rs : List R) (f : Int) (ws : List Wd) (w : World) (h1 : DkAt w v1 u1 rs ws) (h2 : DkAt w v2 u2 rs ws) (hl : tot rs ≤ 1048576) (hlw : ws.length ≤ 1048576) :
    Calls Try.prog 17 #[deskV up v1 f u1, deskV up v2 f u2] w fun e w' => e = .returned (.bool true) ∧ Below w.heap.size w w' := by
  have H1 : Hid (∀ W, Below w.heap.size w W → DkAt W v1 u1 rs ws) := fun W h => h1.later h (Nat.le_refl _)
  have H2 : Hid (∀ W, Below w.heap.size w W → DkAt W v2 u2 rs ws) := fun W h => h2.later h (Nat.le_refl _)
  obtain ⟨a1, p1, b1, q1, rfl, rfl⟩ := h1.shape
  obtain ⟨a2, p2, b2, q2, rfl, rfl⟩ := h2.shape
  clear h1 h2
  obtain ⟨w0, hw0⟩ : ∃ W, Hid (W = (w.alloc (.cells #[.bool up, .slice a1 rs.length p1, .int .i64 f, .slice b1 ws.length q1] 28)).alloc (.cells #[.bool up, .slice a2 rs.length p2, .int .i64 f, .slice b2 ws.length q2] 28)) := ⟨_, rfl⟩
  have B0 : Hid (Below w.heap.size w w0) := by show Below _ _ _; rw [hw0.out]; exact below2 _ _ _
  have X0 : Hid (Blk w0 w.heap.size #[.bool up, .slice a1 rs.length p1, .int .i64 f, .slice b1 ws.length q1] 28) := by show Blk _ _ _ _; rw [hw0.out]; exact (Blk.new _ _ _).alloc _
  have Y0 : Hid (Blk w0 (w.heap.size + 1) #[.bool up, .slice a2 rs.length p2, .int .i64 f, .slice b2 ws.length q2] 28) := by show Blk _ _ _ _; rw [hw0.out]; exact Blk.new2 _ _ _ _
  cases up
  all_goals
    go_enter Try.func17, Try.ntmps17
    go_wp2_with fail
    rw [← hw0.out]
    refine (eqLog_any _ _ rs f _ (H1.out _ B0.out).1 (H2.out _ B0.out).1 hl).mono ?_
    rintro e w1 ⟨rfl, hb⟩
    have B1 := hide_it (B0.out.trans (hb.mono B0.out.size))
    obtain ⟨x0, x1, x2, x3⟩ := (X0.out.after hb).cells4
    obtain ⟨y0, y1, y2, y3⟩ := (Y0.out.after hb).cells4
    clear hb
    go_wp2_with fail
    refine (eqWords_any _ _ ws _ (H1.out _ B1.out).2 (H2.out _ B1.out).2 hlw).mono ?_
    rintro e w2 ⟨rfl, hb⟩
    have B2 := hide_it (B1.out.trans (hb.mono B1.out.size))
    clear hb
    go_wp2
    go_ret
    exact ⟨rfl, B2.out⟩

/-- How far the marks go over a desk. -/
def kDk (rs : List R) (k : Int) (n : Nat) : Int := kAt rs k rs.length + 4 * n

set_option maxHeartbeats 2000000 in
theorem markDesk_any (up : Bool) (v u : Value) (ps : List (R × Value)) (f : Int) (ws : List Wd) (k : Int) (lo hi : Nat) (w : World) (ho : DkOwn w lo hi v u ps ws) (hl : tot (ps.map (·.1)) ≤ 1048576) (hlw : ws.length ≤ 1048576) (hk0 : 0 ≤ k) (hk1 : k ≤ 1000) :
    Calls Try.prog 20 #[deskV up v f u, .int .i64 k] w fun e w' => e = .returned (.int .i64 (kDk (ps.map (·.1)) k ws.length)) ∧ DkAt w' v u (markAll (ps.map (·.1)) k) (markW ws.length (kAt (ps.map (·.1)) k ps.length)) ∧ Mid lo hi w w' := by
  obtain ⟨h0, l, t, h1, h2, h3, h4, h5⟩ := ho
  have hKb := kAt_bd (ps.map (·.1)) k ps.length (by simp) hl hk0 hk1
  have hll : (ps.map (·.1)).length = ps.length := by simp
  have hlo : ∀ g, u.ownBlock = some g → lo ≤ g := fun g hg => (h4.lt g hg).1
  have HS : Hid (∀ o, Calls Try.prog 33 #[.agg #[v, .int .i64 f], .int .i64 k] (w.alloc o) fun e w' => e = .returned (.int .i64 (kAt (ps.map (·.1)) k ps.length)) ∧ OwnRecs w' l t v (stg ps k ps.length) ∧ Mid l t (w.alloc o) w') := fun o =>
    markLog_any v ps f k l t (w.alloc o) (h3.below (alloc_below w o) (by omega)) hl hk0 hk1
  have HW : Hid (∀ w1, w1.ownsRow lo 67 4 u ws.length (wflat ws) → Calls Try.prog 22 #[u, .int .i64 (kAt (ps.map (·.1)) k ps.length)] w1 fun e w' => e = .returned (.int .i64 (kAt (ps.map (·.1)) k ps.length + 4 * ws.length)) ∧ w'.ownsRow lo 67 4 u ws.length (wflat (markW ws.length (kAt (ps.map (·.1)) k ps.length))) ∧ w1.grownBy w' u.ownBlock) := fun w1 h =>
    markWords_any u ws _ lo ws.length w1 h hlw hKb.1 (by omega)
  have HR : Hid (∀ o w1, Mid l t (w.alloc o) w1 → w1.ownsRow lo 67 4 u ws.length (wflat ws)) := fun o w1 hm =>
    ownsRow_mid (h4.alloc o) hm (fun g hg => (h5 g hg).2)
  have HF : Hid (∀ o w1 w2, Mid l t (w.alloc o) w1 → OwnRecs w1 l t v (stg ps k ps.length) → w1.grownBy w2 u.ownBlock → w2.ownsRow lo 67 4 u ws.length (wflat (markW ws.length (kAt (ps.map (·.1)) k ps.length))) →
      DkAt w2 v u (markAll (ps.map (·.1)) k) (markW ws.length (kAt (ps.map (·.1)) k ps.length)) ∧ Mid lo hi w w2) := fun o w1 w2 hm hw hg hr => by
    have hrow : ∀ x : Value, x.ownBlock = none ∨ x.ownBlock ≠ u.ownBlock ∨ x.ownBlock = u.ownBlock := fun x => by
      by_cases e : x.ownBlock = u.ownBlock
      · exact Or.inr (Or.inr e)
      · exact Or.inr (Or.inl e)
    have apart : ∀ (x : Value) (b : Nat), x.ownBlock = some b → l ≤ b → b < t → x.ownBlock ≠ u.ownBlock := fun x b hx hb1 hb2 e => by
      rw [hx] at e
      have := (h5 b e.symm).2
      omega
    have keep : OwnRecs w2 l t v (stg ps k ps.length) := by
      obtain ⟨q1, q2, q3⟩ := hw
      refine ⟨q1.kept hg ?_, q2, q3.kept hg fun p hp => ?_⟩
      · cases hv : v.ownBlock with
        | none => exact Or.inl rfl
        | some b => exact Or.inr (hv ▸ apart v b hv (q1.lt b hv).1 (q2 b hv))
      · cases hv : p.2.ownBlock with
        | none => exact Or.inl rfl
        | some b => exact Or.inr (hv ▸ apart p.2 b hv ((q3.2.1 p hp).1.lt b hv).1 ((q3.2.1 p hp).2 b hv))
    refine ⟨⟨?_, ?_⟩, ?_⟩
    · have := keep.recs
      rw [stg_all] at this
      exact this
    · have hlen : (markW ws.length (kAt (ps.map (·.1)) k ps.length)).length = ws.length := markW_length _ _
      have hr' : w2.ownsRow lo 67 4 u (markW ws.length (kAt (ps.map (·.1)) k ps.length)).length (wflat (markW ws.length (kAt (ps.map (·.1)) k ps.length))) := by rw [hlen]; exact hr
      exact words_of_row hr'
    · have m1 : Mid lo hi w (w.alloc o) := Mid.of_below (alloc_below w o) (Nat.le_refl _)
      have m2 : Mid lo hi (w.alloc o) w1 := ⟨hm.os, hm.tape, hm.output, hm.size, fun j hj hh => hm.block j hj (by omega)⟩
      have m3 : Mid lo hi w1 w2 := Mid.of_grown hg (fun j hj => ⟨hlo j hj, (h5 j hj).1⟩)
      exact (m1.trans m2).trans m3
  obtain ⟨av, cv, rfl⟩ := row_shape h3.1
  obtain ⟨au, cu, rfl⟩ := row_shape h4
  have HE : Hid (kDk (ps.map (·.1)) k ws.length = kAt (ps.map (·.1)) k ps.length + 4 * ws.length) := by show _ = _; unfold kDk; rw [hll]
  rw [HE.out]
  obtain ⟨K, hK⟩ : ∃ x, kAt (ps.map (·.1)) k ps.length = x := ⟨_, rfl⟩
  rw [hK] at HS HW HF hKb ⊢
  have X0 : Hid (∀ o, Blk (w.alloc (.cells #[.bool up, .slice av ps.length cv, .int .i64 f, .slice au ws.length cu] o)) w.heap.size #[.bool up, .slice av ps.length cv, .int .i64 f, .slice au ws.length cu] o) := fun o => Blk.new _ _ _
  have hwt : Hid (t ≤ w.heap.size) := by show _ ≤ _; omega
  clear h0 h1 h2 h3 h4 h5 hlo hll hK HE
  go_enter Try.func20, Try.ntmps20
  go_wp2_with fail
  refine (HS.out _).mono ?_
  rintro e w1 ⟨rfl, ho1, hm1⟩
  obtain ⟨x0, x1, x2, x3⟩ := ((X0.out 28).mid hm1 (Or.inr hwt.out)).cells4
  have R1 := hide_it (HR.out _ w1 hm1)
  have F1 := hide_it (fun w2 => HF.out _ w1 w2 hm1 ho1)
  clear ho1 hm1
  go_wp2_with fail
  refine (HW.out w1 R1.out).mono ?_
  rintro e w2 ⟨rfl, hr2, hg2⟩
  have G2 := hide_it (F1.out w2 hg2 hr2)
  clear hr2 hg2
  go_wp2
  go_ret
  exact ⟨rfl, G2.out.1, G2.out.2⟩

set_option maxHeartbeats 2000000 in
theorem heldDesk_any (up : Bool) (v u : Value) (rs : List R) (f : Int) (n : Nat) (k : Int) (w : World) (hv : DkAt w v u (markAll rs k) (markW n (kAt rs k rs.length))) (hl : tot rs ≤ 1048576) (hlw : n ≤ 1048576) (hk0 : 0 ≤ k) (hk1 : k ≤ 1000) :
    Calls Try.prog 23 #[deskV up v f u, .int .i64 k] w fun e w' => e = .returned (.int .i64 (kDk rs k n)) ∧ Below w.heap.size w w' := by
  have hKb := kAt_bd rs k rs.length (Nat.le_refl _) hl hk0 hk1
  have HS : Hid (∀ o, Calls Try.prog 35 #[.agg #[v, .int .i64 f], .int .i64 k] (w.alloc o) fun e w' => e = .returned (.int .i64 (kAt rs k rs.length)) ∧ Below (w.alloc o).heap.size (w.alloc o) w') := fun o =>
    heldLog_any v rs f k (w.alloc o) (hv.1.later (alloc_below w o) (Nat.le_refl _)) hl hk0 hk1
  have HW : Hid (∀ W, Below w.heap.size w W → Calls Try.prog 25 #[u, .int .i64 (kAt rs k rs.length)] W fun e w' => e = .returned (.int .i64 (kAt rs k rs.length + 4 * n)) ∧ w' = W) := fun W h =>
    heldWords_any u n _ W (hv.2.later h (Nat.le_refl _)) hlw hKb.1 (by omega)
  obtain ⟨av, cv, au, cu, rfl, rfl⟩ := hv.shape
  clear hv
  show Calls Try.prog 23 #[deskV up _ f _, .int .i64 k] w fun e w' => e = .returned (.int .i64 (kAt rs k rs.length + 4 * n)) ∧ Below w.heap.size w w'
  obtain ⟨K, hK⟩ : ∃ x, kAt rs k rs.length = x := ⟨_, rfl⟩
  rw [hK] at HS HW hKb ⊢
  clear hK
  generalize (markAll rs k).length = N1 at *
  generalize (markW n _).length = N2 at *
  have X0 : Hid (Blk (w.alloc (.cells #[.bool up, .slice av N1 cv, .int .i64 f, .slice au N2 cu] 28)) w.heap.size #[.bool up, .slice av N1 cv, .int .i64 f, .slice au N2 cu] 28) := Blk.new _ _ _
  go_enter Try.func23, Try.ntmps23
  go_wp2_with fail
  refine (HS.out _).mono ?_
  rintro e w1 ⟨rfl, hb⟩
  obtain ⟨x0, x1, x2, x3⟩ := (X0.out.after hb).cells4
  have B1 := hide_it (below_after hb)
  clear hb
  go_wp2_with fail
  refine (HW.out w1 B1.out).mono ?_
  rintro e w2 ⟨rfl, rfl⟩
  go_wp2
  go_ret
  exact ⟨rfl, B1.out⟩

end Go.Proofs.Ytfdcfomfghbpaaa

namespace Go.Proofs.Ytfdcfomfghbpaaa
open Go.RowKit

theorem wflat_one (hs : List Wd) : ∀ u ∈ wflat hs, u.oneCell' = true := by
  induction hs with
  | nil => intro u hu; simp [wflat] at hu
  | cons h t ih =>
    intro u hu
    simp only [wflat, List.mem_cons] at hu
    rcases hu with rfl | rfl | rfl | rfl | hu
    · rfl
    · rfl
    · rfl
    · rfl
    · exact ih u hu

theorem wflat_cells {w : World} {b off : Nat} {hs : List Wd} (hc : ∀ k, k < hs.length → w.cell? ⟨b, off + k * 4, none⟩ = some (.int .i64 (hs.getD k (0, 0, 0, 0)).1) ∧ w.cell? ⟨b, off + k * 4 + 1, none⟩ = some (.int .i64 (hs.getD k (0, 0, 0, 0)).2.1) ∧ w.cell? ⟨b, off + k * 4 + 2, none⟩ = some (.int .i64 (hs.getD k (0, 0, 0, 0)).2.2.1) ∧ w.cell? ⟨b, off + k * 4 + 3, none⟩ = some (.int .i64 (hs.getD k (0, 0, 0, 0)).2.2.2)) :
    ∀ j u, (wflat hs)[j]? = some u → w.cell? ((⟨b, off, none⟩ : Addr).add j) = some u := by
  intro j u hj
  have hjl : j < hs.length * 4 := by
    by_cases e : j < hs.length * 4
    · exact e
    · rw [List.getElem?_eq_none (by rw [wflat_length]; omega)] at hj; cases hj
  obtain ⟨f0, f1, f2, f3⟩ := wflat_get hs (j / 4) (by omega)
  obtain ⟨c0, c1, c2, c3⟩ := hc (j / 4) (by omega)
  rw [Go.WideShapes.add_plain]
  rcases (show j = j / 4 * 4 ∨ j = j / 4 * 4 + 1 ∨ j = j / 4 * 4 + 2 ∨ j = j / 4 * 4 + 3 by omega) with e | e | e | e
  · rw [← e] at f0 c0
    rw [c0, ← f0]; exact hj
  · rw [← e] at f1
    rw [show off + j = off + j / 4 * 4 + 1 by omega, c1, ← f1]; exact hj
  · rw [← e] at f2
    rw [show off + j = off + j / 4 * 4 + 2 by omega, c2, ← f2]; exact hj
  · rw [← e] at f3
    rw [show off + j = off + j / 4 * 4 + 3 by omega, c3, ← f3]; exact hj

/-- Words appended to a row of words of the call's own. -/
theorem run_append_words (w : World) (base ty : Nat) (v xv : Value) (n : Nat) (xs : List Value) (hs : List Wd) (hown : w.ownsRow base 67 4 v n xs) (hI : Words w xv hs) (hb : n + hs.length ≤ 4194304) (hbase : base ≤ w.heap.size) :
    ∃ v' w', (Builtin.append_ #[26, 26] ty #[v, xv]).run Try.prog w = .ok v' w' ∧ w'.ownsRow base 67 4 v' (n + hs.length) (xs ++ wflat hs) ∧ w.grownBy w' v.ownBlock ∧ (v'.ownBlock = v.ownBlock ∨ v'.ownBlock = some w.heap.size) := by
  obtain ⟨i0, hi, hz0, hz1, hz2⟩ := info_parts infoWord
  rcases hI with ⟨rfl, ao, cap, rfl, hao⟩ | ⟨b, off, cap, rfl, hz, hc⟩
  · cases ao with
    | none =>
      obtain rfl := hao rfl
      exact ⟨v, w, run_append_owned_none w base 26 ty 67 i0 4 Try.underlying26 hi v n xs hown, by simpa [wflat] using hown, World.grownBy.refl _ _, Or.inl rfl⟩
    | some a =>
      obtain ⟨v', w', h1, h2, h3, _, h5⟩ := run_append_own_at (P := Try.prog) w base 26 ty 67 i0 (.agg #[.int .i64 0, .int .i64 0, .int .i64 0, .int .i64 0]) 4 32 Try.underlying26 hi hz0 hz1 hz2 rfl (by decide) v n xs hown a 0 cap [] rfl (fun j u h => by simp at h) (fun u h => by simp at h) (by unfold maxLen; omega) (by simp at hb; omega) hbase
      exact ⟨v', w', h1, by simpa [wflat] using h2, h3, h5⟩
  · obtain ⟨v', w', h1, h2, h3, _, h5⟩ := run_append_own_at (P := Try.prog) w base 26 ty 67 i0 (.agg #[.int .i64 0, .int .i64 0, .int .i64 0, .int .i64 0]) 4 32 Try.underlying26 hi hz0 hz1 hz2 rfl (by decide) v n xs hown ⟨b, off, none⟩ hs.length cap (wflat hs) (wflat_length hs) (wflat_cells hc) (wflat_one hs) (by unfold maxLen; omega) (by omega) hbase
    exact ⟨v', w', h1, h2, h3, h5⟩

theorem step_append_words {ops : Array Oper} {o : Oper} {a : Act} {w : World} {K : Act → World → Prop} {Q : Exit → Act → World → Prop} {E : Prop} (hgd : o.guard = none) (s x : Operand)
    (ho : o.op = .call { callee := .builtin .append, args := #[s, x], argTypes := #[26, 26] })
    (base : Nat) (v xv : Value) (n : Nat) (xs : List Value) (hs : List Wd) (he : a.eval s = v) (hx : a.eval x = xv) (hown : w.ownsRow base 67 4 v n xs) (hI : Words w xv hs) (hb : n + hs.length ≤ 4194304) (hbase : base ≤ w.heap.size)
    (h : ∀ ao cap w', w'.ownsRow base 67 4 (.slice ao (n + hs.length) cap) (n + hs.length) (xs ++ wflat hs) → w.grownBy w' v.ownBlock → ((Value.slice ao (n + hs.length) cap).ownBlock = v.ownBlock ∨ (Value.slice ao (n + hs.length) cap).ownBlock = some w.heap.size) → K (a.put o.dst (.slice ao (n + hs.length) cap)) w') :
    if Region.wanted o (yielded ops a.tmps) = true then Oper.wp Try.prog o a w K Q else E := by
  have hw : Region.wanted o (yielded ops a.tmps) = true := by simp [Region.wanted, hgd]
  rw [if_pos hw]
  obtain ⟨v', w', hrun, r1, r2, r3⟩ := run_append_words w base o.type v xv n xs hs hown hI hb hbase
  obtain ⟨ao, cap, rfl⟩ := row_shape r1
  unfold Oper.wp
  simp [execOp, ho, resolve, invoke, builtin, he, hx, hrun, Result.andThen]
  exact h ao cap w' r1 r2 r3

end Go.Proofs.Ytfdcfomfghbpaaa

namespace Go.Proofs.Ytfdcfomfghbpaaa
open Go.RowKit
open Go.Maps

end Go.Proofs.Ytfdcfomfghbpaaa

namespace Go.Proofs.Ytfdcfomfghbpaaa.T
open Go.RowKit

/-- A node: where it lies, what is wanted, its state. -/
abbrev Nd := Nat × (Int × Int × Int) × Int
/-- Its trip. -/
def ndT (n : Nd) : R := ([n.2.1.1, n.2.1.2.1, n.2.1.2.2], n.2.2)
/-- Its cells. -/
def ndV (n : Nd) (nx : Value) : Array Value := #[.int .i64 n.2.1.1, .int .i64 n.2.1.2.1, .int .i64 n.2.1.2.2, .int .i64 n.2.2, nx]
abbrev ptr (b : Nat) : Value := .pointer (some ⟨b, 0, none⟩)
/-- A pointer to the node at a place; nil, if there is none. -/
def at_ (ns : List Nd) (i : Nat) : Value := match ns[i]? with
  | some n => ptr n.1
  | none => .pointer none

theorem at_some {ns : List Nd} {i : Nat} {n : Nd} (h : ns[i]? = some n) : at_ ns i = ptr n.1 := by unfold at_; rw [h]
theorem at_none {ns : List Nd} {i : Nat} (h : ns.length ≤ i) : at_ ns i = .pointer none := by unfold at_; rw [List.getElem?_eq_none h]
theorem at_shape (ns : List Nd) (i : Nat) : ∃ a, at_ ns i = .pointer a := by
  unfold at_
  split
  · exact ⟨_, rfl⟩
  · exact ⟨_, rfl⟩
theorem at_snoc_lt {ns : List Nd} {x : Nd} {i : Nat} (h : i < ns.length) : at_ (ns ++ [x]) i = at_ ns i := by unfold at_; rw [List.getElem?_append_left h]
theorem at_snoc_eq (ns : List Nd) (x : Nd) : at_ (ns ++ [x]) ns.length = ptr x.1 := at_some (by simp)
theorem at_set (ns : List Nd) (k : Nat) (m : Nd) (s : Int) (hk : ns[k]? = some m) (i : Nat) : at_ (ns.set k (m.1, m.2.1, s)) i = at_ ns i := by
  unfold at_
  rw [List.getElem?_set]
  by_cases h : k = i
  · subst h
    have hl : k < ns.length := by
      by_cases e : k < ns.length
      · exact e
      · rw [List.getElem?_eq_none (by omega)] at hk; cases hk
    rw [if_pos rfl, if_pos hl, hk]
  · rw [if_neg h]

theorem len_lt {α : Type} {xs : List α} {i : Nat} {x : α} (h : xs[i]? = some x) : i < xs.length := by
  by_cases e : i < xs.length
  · exact e
  · rw [List.getElem?_eq_none (by omega)] at h; cases h
theorem get_snoc {ns : List Nd} {x n : Nd} {i : Nat} (h : (ns ++ [x])[i]? = some n) : (i < ns.length ∧ ns[i]? = some n) ∨ (i = ns.length ∧ n = x) := by
  by_cases hi : i < ns.length
  · rw [List.getElem?_append_left hi] at h; exact Or.inl ⟨hi, h⟩
  · rw [List.getElem?_append_right (by omega)] at h
    have h0 : i - ns.length = 0 := by
      have := len_lt h
      simp at this; omega
    rw [h0] at h
    simp at h
    exact Or.inr ⟨by omega, h.symm⟩

end Go.Proofs.Ytfdcfomfghbpaaa.T

namespace Go.Proofs.Ytfdcfomfghbpaaa.T
open Go.RowKit

/-- A node's cells while what is wanted is put into it. -/
def part (z0 z1 z2 s : Int) (k : Nat) : Array Value := #[.int .i64 (if 0 < k then z0 else 0), .int .i64 (if 1 < k then z1 else 0), .int .i64 (if 2 < k then z2 else 0), .int .i64 s, .pointer none]

theorem list3 {zs : List Int} (h : zs.length = 3) : ∃ z0 z1 z2, zs = [z0, z1, z2] := by
  match zs, h with
  | [a, b, c], _ => exact ⟨a, b, c, rfl⟩

end Go.Proofs.Ytfdcfomfghbpaaa.T

namespace Go.Proofs.Ytfdcfomfghbpaaa.T
open Go.RowKit

theorem doL_begin {rs : List R} {r : Rc} (h4 : r.1 = 4) : doL rs r = rs ++ [(r.2.2, 1)] := by unfold doL; rw [if_pos h4]

theorem tripAt_nd {ns : List Nd} {t : Int} {n : Nd} (h : ns[(t - 1).toNat]? = some n) : tripAt (ns.map ndT) t = ndT n := tripAt_get (by rw [List.getElem?_map, h]; rfl)

end Go.Proofs.Ytfdcfomfghbpaaa.T

namespace Go.Proofs.Ytfdcfomfghbpaaa.T
open Go.RowKit

theorem news2 (w : World) (u : Value) (k : Int) (ty : TypeId) : ∀ (j : Nat) (x : Value), [u, Value.int .i64 k][j]? = some x → (w.alloc (.cells #[u, .int .i64 k] ty)).cell? ((⟨w.heap.size, 0, none⟩ : Addr).add j) = some x := by
  intro j x hj
  match j, hj with
  | 0, hj => simp at hj; subst hj; simp [Addr.add]
  | 1, hj => simp at hj; subst hj; simp [Addr.add]
theorem one2 (k : Int) (ao : Option Addr) {n c : Nat} : ∀ x ∈ [Value.slice ao n c, .int .i64 k], x.oneCell' = true := by
  intro x hx; simp at hx; rcases hx with rfl | rfl <;> rfl

theorem cellBelow {W w5 : World} {lo b o : Nat} {x : Value} (h : W.cell? ⟨b, o, none⟩ = some x) (hb : Below lo W w5) (hlo : b < lo) : w5.cell? ⟨b, o, none⟩ = some x := by
  rw [hb.cell (p := ⟨b, o, none⟩) hlo]; exact h

end Go.Proofs.Ytfdcfomfghbpaaa.T

namespace Go.Proofs.Ytfdcfomfghbpaaa.T
open Go.RowKit

/-- A chain as a value. -/
def chV (ns : List Nd) : Value := .agg #[at_ ns 0, at_ ns (ns.length - 1), .int .i64 ns.length]

theorem Fit.take {rs : List R} {r : R} {k : Nat} (h : Fit rs) (hr : rs[k]? = some r) : ∃ z0 z1 z2, r.1 = [z0, z1, z2] := list3 (h.2 r (List.mem_of_getElem? hr))

end Go.Proofs.Ytfdcfomfghbpaaa.T

namespace Go.Proofs.Ytfdcfomfghbpaaa.T
open Go.RowKit

def doO (rs : List R) (r : Rc) : List R := if tMay rs r = true then doL rs r else []
def ofO (qs : List Rc) : List R := (runT qs).getD []

theorem doO_fit (rs : List R) (r : Rc) : Fit (doO rs r) := by
  unfold doO
  split
  · next h =>
    unfold tMay at h
    simp only [Bool.and_eq_true] at h
    exact (fit_ok h.1).doL h.2.1 h.2.2
  · exact Fit.nil
theorem ofO_fit (qs : List Rc) : Fit (ofO qs) := by
  unfold ofO
  cases h : runT qs with
  | none => exact Fit.nil
  | some rs => exact runT_fit h

end Go.Proofs.Ytfdcfomfghbpaaa.T

namespace Go.Proofs.Ytfdcfomfghbpaaa
open Go.RowKit

theorem frozenAlloc {w : World} {b o : Nat} (h : w.frozen? ⟨b, o, none⟩ = false) (hb : b < w.heap.size) (x : Obj) : (w.alloc x).frozen? ⟨b, o, none⟩ = false := by
  rw [← h]
  exact ((Below.refl w.heap.size w).alloc (Nat.le_refl _) x).frozen (p := ⟨b, o, none⟩) hb

end Go.Proofs.Ytfdcfomfghbpaaa

namespace Go.Proofs.Ytfdcfomfghbpaaa
open Go.RowKit

/-- How many are left behind a fall. -/
def fallN (n : Nat) (f keep : Int) : Nat := (if keep ≤ 0 then f else if keep < n - f then f + keep else n).toNat

theorem fallN_le {n : Nat} {f keep : Int} (h0 : 0 ≤ f) (h1 : f ≤ n) : fallN n f keep ≤ n := by
  unfold fallN; split
  · omega
  · split <;> omega

theorem fallN_lo {n F : Nat} {keep : Int} (h : keep ≤ 0) : fallN n F keep = F := by unfold fallN; rw [if_pos h]; simp
theorem fallN_mid {n F K : Nat} (h0 : ¬ (K : Int) ≤ 0) (h : (K : Int) ≤ n - F) : fallN n F K = F + K := by
  unfold fallN; rw [if_neg h0]
  by_cases e : (K : Int) < n - F
  · rw [if_pos e]; omega
  · rw [if_neg e]; omega
theorem fallN_all {n F K : Nat} (h0 : ¬ (K : Int) ≤ 0) (h : ¬ (K : Int) ≤ n - F) : fallN n F K = n := by unfold fallN; rw [if_neg h0, if_neg (by omega)]; simp

theorem flat_take (ps : List (R × Value)) (N : Nat) : flat (ps.take N) = (flat ps).take (N * 3) := by
  induction ps generalizing N with
  | nil => simp [flat]
  | cons p t ih =>
    cases N with
    | zero => simp [flat]
    | succ N =>
      rw [show (N + 1) * 3 = N * 3 + 3 by omega]
      simp [flat, ih]

theorem Made.take {w : World} {lo N : Nat} {ao : Option Addr} {cap : Nat} {rs : List R} (h : Made w lo (.slice ao rs.length cap) rs) (hN : N ≤ rs.length) : Made w lo (.slice ao N cap) (rs.take N) := by
  obtain ⟨ps, hp, h1, h2, h3⟩ := h
  have hpl : ps.length = rs.length := by have := congrArg List.length hp; simpa using this
  refine ⟨ps.take N, by rw [List.map_take, hp], ?_, ?_, h3.1, fun p hp => h3.2.1 p (List.mem_of_mem_take hp), fun i j p q hi hj hij => ?_⟩
  · have hl : (ps.take N).length = N := by rw [List.length_take]; omega
    rw [hl, flat_take]
    refine ⟨by rw [List.length_take, h1.1]; rw [hpl]; omega, ?_⟩
    rcases h1.2 with ⟨hv, hn⟩ | ⟨g, cp, cur, hv, hg, hh, hnc, hcm, hcs, htk⟩
    · simp only [Value.slice.injEq] at hv
      obtain ⟨e1, e2, e3⟩ := hv
      exact Or.inl ⟨by rw [e1, e3, show N = 0 by omega], by omega⟩
    · simp only [Value.slice.injEq] at hv
      obtain ⟨e1, e2, e3⟩ := hv
      refine Or.inr ⟨g, cp, cur, by rw [e1, e3], hg, hh, by omega, hcm, hcs, ?_⟩
      rw [← htk, List.take_take, Nat.min_eq_left (by rw [hpl]; omega)]
  · intro k hk
    refine h2 k ?_
    cases ao with
    | none => cases hk
    | some a => exact hk
  · have hi' : i < N ∧ ps[i]? = some p := by
      rw [List.getElem?_take] at hi
      split at hi
      · exact ⟨by assumption, hi⟩
      · cases hi
    have hj' : j < N ∧ ps[j]? = some q := by
      rw [List.getElem?_take] at hj
      split at hj
      · exact ⟨by assumption, hj⟩
      · cases hj
    exact h3.2.2 i j p q hi'.2 hj'.2 hij

theorem Recs.take {w : World} {N cap : Nat} {ao : Option Addr} {rs : List R} (h : Recs w (.slice ao rs.length cap) rs) (hN : N ≤ rs.length) : Recs w (.slice ao N cap) (rs.take N) := by
  have hl : (rs.take N).length = N := by rw [List.length_take]; omega
  by_cases h0 : N = 0
  · subst h0
    exact Or.inl ⟨by simp, ao, cap, rfl⟩
  rcases h with ⟨hz, _⟩ | ⟨b, off, cp, hv, hz, hc⟩
  · rw [hz] at hN; simp at hN; omega
  · simp only [Value.slice.injEq] at hv
    obtain ⟨e1, _, e3⟩ := hv
    refine Or.inr ⟨b, off, cp, by rw [hl, e1, e3], by intro e; rw [e] at hl; simp at hl; omega, fun i r hr => ?_⟩
    rw [List.getElem?_take] at hr
    split at hr
    · exact hc i r hr
    · cases hr

theorem pre_take (rs : List R) (N : Nat) (hN : N ≤ rs.length) : tot (rs.take N) ≤ tot rs := by
  have h1 := pre_le rs N
  have h2 : pre (rs.take N) (rs.take N).length = pre rs N := by unfold pre; rw [List.take_length]
  unfold tot
  rw [h2, List.length_take]; omega

/-- What a fall leaves. -/
def fallR (rs : List R) (f keep : Int) : List R := if logOk rs f then rs.take (fallN rs.length f keep) else []
def fallF (rs : List R) (f keep : Int) : Int := if logOk rs f then fallN rs.length f keep else 0

theorem logOk_f {rs : List R} {f : Int} (h : logOk rs f = true) : 0 ≤ f ∧ f ≤ rs.length ∧ rs.length ≤ 40 := by
  unfold logOk at h
  simp only [Bool.and_eq_true, decide_eq_true_eq] at h
  have := Pl.inB_true h.2.2
  omega

end Go.Proofs.Ytfdcfomfghbpaaa

namespace Go.Proofs.Ytfdcfomfghbpaaa
open Go.RowKit

theorem Made.form {w : World} {lo cap : Nat} {ao : Option Addr} {rs : List R} (h : Made w lo (.slice ao rs.length cap) rs) : (ao = Option.none ∧ rs = [] ∧ cap = 0) ∨ ∃ g, ao = some ⟨g, 0, Option.none⟩ ∧ rs.length ≤ cap := by
  obtain ⟨ps, hp, h1, _, _⟩ := h
  have hpl : ps.length = rs.length := by have := congrArg List.length hp; simpa using this
  rcases h1.2 with ⟨hv, hn⟩ | ⟨g, cp, cur, hv, hg, hh, hnc, _⟩
  · simp only [Value.slice.injEq] at hv
    exact Or.inl ⟨hv.1, List.length_eq_zero_iff.1 hv.2.1, hv.2.2⟩
  · simp only [Value.slice.injEq] at hv
    exact Or.inr ⟨g, hv.1, by omega⟩

end Go.Proofs.Ytfdcfomfghbpaaa

namespace Go.Proofs.Ytfdcfomfghbpaaa
open Go.RowKit

/-- The slice of a list that the call itself has made, or nil. -/
def Form (v : Value) (n : Nat) : Prop := (v = .slice none 0 0 ∧ n = 0) ∨ ∃ g cap, v = .slice (some ⟨g, 0, none⟩) n cap ∧ n ≤ cap
theorem form_of_row {w : World} {base : Nat} {e : TypeId} {size : Nat} {v : Value} {n : Nat} {xs : List Value} (h : w.ownsRow base e size v n xs) : Form v n := by
  rcases h.2 with h | ⟨g, cap, cur, hv, _, _, hc, _⟩
  · exact Or.inl h
  · exact Or.inr ⟨g, cap, hv, hc⟩

end Go.Proofs.Ytfdcfomfghbpaaa

namespace Go.Proofs.Ytfdcfomfghbpaaa
open Go.RowKit
open Go.Maps

/-- A clerk as a value: the desk, its trips by all, by what was forced, and the block of its book. -/
abbrev clerkV (up : Bool) (v : Value) (f : Int) (u all forced : Value) (b : Nat) : Value := .agg #[.bool up, v, .int .i64 f, u, all, forced, .map (some b)]
abbrev clerkZ : Value := .agg #[.bool false, .slice none 0 0, .int .i64 0, .slice none 0 0, .slice none 0 0, .slice none 0 0, .map none]

theorem grown_set (w : World) (g i : Nat) (x : Value) : w.grownBy (w.setCell ⟨g, i, none⟩ x) (some g) :=
  ⟨rfl, rfl, rfl, by simp, fun k _ hk => Below.heap_setCell _ _ _ _ (fun e => hk (by simpa using e))⟩
theorem Blk.cells7 {w : World} {b : Nat} {x0 x1 x2 x3 x4 x5 x6 : Value} {ty : TypeId} (h : Blk w b #[x0, x1, x2, x3, x4, x5, x6] ty) :
    w.cell? ⟨b, 0, none⟩ = some x0 ∧ w.cell? ⟨b, 1, none⟩ = some x1 ∧ w.cell? ⟨b, 2, none⟩ = some x2 ∧ w.cell? ⟨b, 3, none⟩ = some x3 ∧ w.cell? ⟨b, 4, none⟩ = some x4 ∧ w.cell? ⟨b, 5, none⟩ = some x5 ∧ w.cell? ⟨b, 6, none⟩ = some x6 := by
  refine ⟨?_, ?_, ?_, ?_, ?_, ?_, ?_⟩ <;> (rw [h.cell]; rfl)
theorem Blk.free7 {w : World} {b : Nat} {cs : Array Value} {ty : TypeId} (h : Blk w b cs ty) :
    w.frozen? ⟨b, 0, none⟩ = false ∧ w.frozen? ⟨b, 1, none⟩ = false ∧ w.frozen? ⟨b, 2, none⟩ = false ∧ w.frozen? ⟨b, 3, none⟩ = false ∧ w.frozen? ⟨b, 4, none⟩ = false ∧ w.frozen? ⟨b, 5, none⟩ = false ∧ w.frozen? ⟨b, 6, none⟩ = false :=
  ⟨h.free 0, h.free 1, h.free 2, h.free 3, h.free 4, h.free 5, h.free 6⟩

end Go.Proofs.Ytfdcfomfghbpaaa

namespace Go.Proofs.Ytfdcfomfghbpaaa.T
open Go.RowKit

theorem mayL_4 {rs : List R} {t : Int} {zs : List Int} : mayL rs (4, t, zs) = decide (t = (rs.length : Int) + 1) := by unfold mayL; simp
theorem mayL_no {rs : List R} {k t : Int} {zs : List Int} (h4 : k ≠ 4) (ht : (rs.length : Int) < t) : mayL rs (k, t, zs) = false := by
  unfold mayL
  rw [if_neg h4]
  dsimp only
  rw [tripAt_none (List.getElem?_eq_none (by omega)), nextS_0]
  rfl
theorem mayL_at' {rs : List R} {k t : Int} {zs : List Int} {x : R} (h4 : k ≠ 4) (hx : rs[(t - 1).toNat]? = some x) : mayL rs (k, t, zs) = decide (nextS x.2 k ≠ 0) := by
  unfold mayL
  rw [if_neg h4]
  dsimp only
  rw [tripAt_get hx]

end Go.Proofs.Ytfdcfomfghbpaaa.T

namespace Go.Proofs.Ytfdcfomfghbpaaa.T
open Go.RowKit

theorem lit0 (W : World) (ty : TypeId) (sz : Nat) : (W.alloc (.cells #[] ty)).ownsRow W.heap.size ty sz (.slice (some ⟨W.heap.size, 0, none⟩) 0 0) 0 [] := by
  have h := World.ownsRow_lit (base := W.heap.size) (e := ty) (size := sz) W #[] 0 (by simp) (by unfold maxLen; omega) (by simp)
  exact h

theorem litBelow {wr W w4 : World} (h0 : Below wr.heap.size wr W) (hg : W.grownBy w4 (Value.slice (some ⟨wr.heap.size, 0, none⟩) 0 0).ownBlock) : Below wr.heap.size wr w4 :=
  h0.trans ((Below.refl _ _).grown hg h0.size (fun k hk => by simp [Value.ownBlock] at hk; omega))

end Go.Proofs.Ytfdcfomfghbpaaa.T

namespace Go.Proofs.Ytfdcfomfghbpaaa.T
open Go.RowKit

theorem pair_at {rs : List R} {ps : List (R × Value)} {i : Nat} {x : R} (hps : ps.map (·.1) = rs) (hx : rs[i]? = some x) : ∃ u, ps[i]? = some (x, u) := by
  rw [← hps, List.getElem?_map] at hx
  cases h : ps[i]? with
  | none => rw [h] at hx; cases hx
  | some p => rw [h] at hx; simp at hx; subst hx; exact ⟨p.2, rfl⟩

theorem doL_at {rs : List R} {k : Int} {i : Nat} {zs : List Int} {x : R} (h4 : k ≠ 4) (hx : rs[i]? = some x) : doL rs (k, (i : Int) + 1, zs) = rs.set i (x.1, nextS x.2 k) := by
  have e : ((i : Int) + 1 - 1).toNat = i := by omega
  unfold doL
  rw [if_neg h4]
  dsimp only
  rw [e, tripAt_get (by rw [e]; exact hx)]

end Go.Proofs.Ytfdcfomfghbpaaa.T

namespace Go.Proofs.Ytfdcfomfghbpaaa.T
open Go.RowKit

end Go.Proofs.Ytfdcfomfghbpaaa.T

namespace Go.Proofs.Ytfdcfomfghbpaaa.T
open Go.RowKit

end Go.Proofs.Ytfdcfomfghbpaaa.T

namespace Go.Proofs.Ytfdcfomfghbpaaa

/-- An operation is taken first, its slot written out. -/
theorem takeD {P : Program} {md : Region.Mode} {ops : Array Oper} {Q : Exit → Act → World → Prop} {S : World → Prop} {i : Nat} {oi : Oper} {v : Value} {fuel : Nat} {listed : Array Bool} {a : Act} {w : World} (d : Option Nat) (hi : ops[i]? = some oi) (hd : oi.dst = d)
    (hs : Region.noSelect ops = true) (hf : Region.free md ops listed i = true) (hr : (Region.ready md ops listed).contains i = true)
    (hQ : ∀ c a w, Q (.panic c) (a.put d v) w → Q (.panic c) a w) (hw : Region.wanted oi (yielded ops a.tmps) = true) (hS : S w) (hy : ∀ w, S w → (execOp a.eval oi).run P w = .ok (.value v) w)
    (h : wpAnyH P md ops Q S fuel (listed.setIfInBounds i true) (a.put d v) w) : wpAnyH P md ops Q S (fuel + 1) listed a w := by
  subst hd
  exact wpAnyH_take hi hs hf hr hQ (Or.inl ⟨hw, hy⟩) hS h

/-- An operation that its guard passes over is taken first, its slot written out. -/
theorem skipD {P : Program} {md : Region.Mode} {ops : Array Oper} {Q : Exit → Act → World → Prop} {S : World → Prop} {i : Nat} {oi : Oper} {fuel : Nat} {listed : Array Bool} {a : Act} {w : World} (d : Option Nat) (hi : ops[i]? = some oi) (hd : oi.dst = d)
    (hs : Region.noSelect ops = true) (hf : Region.free md ops listed i = true) (hr : (Region.ready md ops listed).contains i = true)
    (hQ : ∀ c a w, Q (.panic c) (a.put d undef) w → Q (.panic c) a w) (hw : Region.wanted oi (yielded ops a.tmps) = false) (hS : S w)
    (h : wpAnyH P md ops Q S fuel (listed.setIfInBounds i true) (a.put d undef) w) : wpAnyH P md ops Q S (fuel + 1) listed a w := by
  subst hd
  exact wpAnyH_take hi hs hf hr hQ (Or.inr ⟨hw, rfl⟩) hS h

/-- What holds behind every operation may be weakened. -/
theorem heldMono {P : Program} {md : Region.Mode} {ops : Array Oper} {Q : Exit → Act → World → Prop} {S S2 : World → Prop} (hS : ∀ w, S2 w → S w) :
    ∀ (fuel : Nat) (listed : Array Bool) (a : Act) (w : World), wpAnyH P md ops Q S2 fuel listed a w → wpAnyH P md ops Q S fuel listed a w
  | 0, _, _, _, h => h
  | fuel + 1, _, _, _, h => ⟨h.1, fun i hi => wpOp_mono (fun a' w' h' => ⟨hS _ h'.1, heldMono hS fuel _ a' w' h'.2⟩) (h.2 i hi)⟩

end Go.Proofs.Ytfdcfomfghbpaaa

namespace Go.Proofs.Ytfdcfomfghbpaaa
open Go.RowKit

theorem eqlWord (k h t m k' h' t' m' : Int) (w : World) : Sem.run Try.prog (binOp BinOp.eql 67 (wordV k h t m) (wordV k' h' t' m')) w = .ok (.bool (decide (k = k') && (decide (h = h') && (decide (t = t') && decide (m = m'))))) w := by
  by_cases e1 : k = k'
  · subst e1
    by_cases e2 : h = h'
    · subst e2
      by_cases e3 : t = t'
      · subst e3
        by_cases e4 : m = m'
        · subst e4
          go_simp
        · go_simp
      · go_simp
    · go_simp
  · go_simp

theorem not_contains {hs : List Wd} {k : Nat} {q p : Wd} (h : k < hs.length) (hp : hs.getD k (0, 0, 0, 0) = p) (h1 : (hs.take k).contains q = false) (h2 : p ≠ q) : (hs.take (k + 1)).contains q = false := by
  rw [wtake hs k h, hp]
  rw [Bool.eq_false_iff] at h1 ⊢
  intro h3
  have h4 := List.contains_iff_mem.1 h3
  rcases List.mem_append.1 h4 with h4 | h4
  · exact h1 (List.contains_iff_mem.2 h4)
  · simp only [List.mem_singleton] at h4
    exact h2 h4.symm
theorem yes_contains {hs : List Wd} {k : Nat} {p : Wd} (h : k < hs.length) (hp : hs.getD k (0, 0, 0, 0) = p) : hs.contains p = true := by
  rw [← hp, wget hs k h]
  exact List.contains_iff_mem.2 (List.getElem_mem h)
theorem word_ne {p q : Wd} (h : p ≠ q) : (decide (p.1 = q.1) && (decide (p.2.1 = q.2.1) && (decide (p.2.2.1 = q.2.2.1) && decide (p.2.2.2 = q.2.2.2)))) = false := by
  rw [Bool.eq_false_iff]
  intro e
  simp only [Bool.and_eq_true, decide_eq_true_eq] at e
  apply h
  obtain ⟨p0, p1, p2, p3⟩ := p
  obtain ⟨q0, q1, q2, q3⟩ := q
  simp only at e
  obtain ⟨rfl, rfl, rfl, rfl⟩ := e
  rfl

theorem Words.cut {w : World} {N cap : Nat} {ao : Option Addr} {hs : List Wd} (h : Words w (.slice ao hs.length cap) hs) (hN : N ≤ hs.length) : Words w (.slice ao N cap) (hs.take N) := by
  rcases h with ⟨rfl, ao', cap', e, hn⟩ | ⟨b, off, cap', e, hz, hc⟩
  · simp at hN
    subst hN
    simp at e
    obtain ⟨rfl, rfl⟩ := e
    exact Or.inl ⟨rfl, _, _, rfl, hn⟩
  · simp only [Value.slice.injEq] at e
    obtain ⟨rfl, -, rfl⟩ := e
    by_cases h0 : N = 0
    · subst h0
      exact Or.inl ⟨rfl, _, _, rfl, fun h => by cases h⟩
    · have hl : (hs.take N).length = N := by rw [List.length_take]; omega
      refine Or.inr ⟨b, off, cap, by rw [hl], by intro e; rw [e] at hl; simp at hl; omega, fun k hk => ?_⟩
      rw [hl] at hk
      have hg : (hs.take N).getD k (0, 0, 0, 0) = hs.getD k (0, 0, 0, 0) := by
        simp only [List.getD_eq_getElem?_getD, List.getElem?_take, hk, if_true]
      rw [hg]
      exact hc k (by omega)

end Go.Proofs.Ytfdcfomfghbpaaa

namespace Go.Proofs.Ytfdcfomfghbpaaa
open Go.RowKit

/-- A desk as plain data: whether it is up, its records, how many of them are forced, what it was told. -/
abbrev Dk := Bool × List R × Int × List Wd
def dkZ : Dk := (false, [], 0, [])
def dkRise (up : Bool) (rs : List R) (f : Int) (ws : List Wd) : Dk := if dkOk up rs f ws = true then (true, rs, f, ws) else dkZ
def dkForce (up : Bool) (rs : List R) (f : Int) (ws : List Wd) : Dk := if dkOk up rs f ws = true then (up, rs, if up = true then (rs.length : Int) else f, ws) else dkZ
def DkO (w w' : World) (e : Ending) (o : Dk) : Prop := DkOut w w' e o.1 o.2.1 o.2.2.1 o.2.2.2
theorem DkO.none_ {w w' : World} (h : Below w.heap.size w w') : DkO w w' (.returned (deskV false (.slice none 0 0) 0 (.slice none 0 0))) dkZ := by
  obtain ⟨ps, hp, ho⟩ := Made.none w' w.heap.size
  exact ⟨none, 0, none, 0, ps, rfl, hp, ⟨Nat.le_refl _, w.heap.size, w'.heap.size, Nat.le_refl _, Nat.le_refl _, ho, World.ownsRow_nil _ _ _ _, fun g hg => by simp [Value.ownBlock] at hg⟩, h⟩
theorem dkOk_log {up : Bool} {rs : List R} {f : Int} {ws : List Wd} (h : dkOk up rs f ws = true) : logOk rs f = true := by
  unfold dkOk at h
  simp only [Bool.and_eq_true] at h
  exact h.1
theorem dkRise_tot (up : Bool) (rs : List R) (f : Int) (ws : List Wd) (hl : tot rs ≤ 1048576) (hlw : ws.length ≤ 1048576) : tot (dkRise up rs f ws).2.1 ≤ 1048576 ∧ (dkRise up rs f ws).2.2.2.length ≤ 1048576 := by
  unfold dkRise; split
  · exact ⟨hl, hlw⟩
  · simp [dkZ, tot, pre]
theorem dkForce_tot (up : Bool) (rs : List R) (f : Int) (ws : List Wd) (hl : tot rs ≤ 1048576) (hlw : ws.length ≤ 1048576) : tot (dkForce up rs f ws).2.1 ≤ 1048576 ∧ (dkForce up rs f ws).2.2.2.length ≤ 1048576 := by
  unfold dkForce; split
  · exact ⟨hl, hlw⟩
  · simp [dkZ, tot, pre]
/-- What is set outside leaves a desk's lists. -/
theorem DkOwn.setAbove {w : World} {lo hi b i : Nat} {v u : Value} {ps : List (R × Value)} {ws : List Wd} (h : DkOwn w lo hi v u ps ws) (hb : hi ≤ b) (x : Value) : DkOwn (w.setCell ⟨b, i, none⟩ x) lo hi v u ps ws :=
  h.below ((Below.refl hi w).setCell hb x) (Nat.le_refl _)
/-- A log of its own in the place of the old one. -/
theorem DkOwn.newLog {w w' : World} {lo hi : Nat} {v v' u : Value} {ps ps' : List (R × Value)} {ws : List Wd} (h : DkOwn w lo hi v u ps ws) (hl : lo ≤ w.heap.size) (hm : OwnRecs w' w.heap.size w'.heap.size v' ps') (hb : Below w.heap.size w w') : DkOwn w' lo w'.heap.size v' u ps' ws := by
  obtain ⟨h0, l, t, h1, h2, h3, h4, h5⟩ := h
  exact ⟨Nat.le_refl _, w.heap.size, w'.heap.size, hl, Nat.le_refl _, hm, ownsRow_below h4 hb (fun g hg => by have := (h5 g hg).1; omega), fun g hg => ⟨by have := (h5 g hg).1; have := hb.size; omega, Or.inl (by have := (h5 g hg).1; omega)⟩⟩

/-- A log, and words in a row that was begun ahead of it. -/
theorem DkOwn.mk2 {w w' : World} {lo l b : Nat} {v u : Value} {ps : List (R × Value)} {ws : List Wd} (h : OwnRecs w l w.heap.size v ps) (hg : w.grownBy w' (some b)) (hbl : b < l) (hlo : lo ≤ l) (hr : w'.ownsRow lo 67 4 u ws.length (wflat ws)) (hloc : u.ownBlock = some b ∨ u.ownBlock = some w.heap.size) : DkOwn w' lo w'.heap.size v u ps ws := by
  refine ⟨Nat.le_refl _, l, w.heap.size, hlo, hg.size, h.mid (Mid.of_grown (lo := b) (hi := b + 1) hg (fun k e => by simp at e; omega)) hbl, hr, fun g hg' => ⟨(hr.lt g hg').2, ?_⟩⟩
  rcases hloc with e | e
  · rw [e] at hg'
    simp at hg'
    omega
  · rw [e] at hg'
    simp at hg'
    omega

end Go.Proofs.Ytfdcfomfghbpaaa

namespace Go.Proofs.Ytfdcfomfghbpaaa
open Go.RowKit

end Go.Proofs.Ytfdcfomfghbpaaa

namespace Go.Proofs.Ytfdcfomfghbpaaa
open Go.RowKit

/-- The lists of a desk as they came to a call: readable, each nil or a row with room. -/
def DkIn (w : World) (v u : Value) (rs : List R) (ws : List Wd) : Prop := DkAt w v u rs ws ∧ Form v rs.length ∧ Form u ws.length
theorem DkIn.later {B : Nat} {w w' : World} {v u : Value} {rs : List R} {ws : List Wd} (h : DkIn w v u rs ws) (hb : Below B w w') (hB : w.heap.size ≤ B) : DkIn w' v u rs ws := ⟨h.1.later hb hB, h.2⟩
theorem DkOwn.in_ {w : World} {lo hi : Nat} {v u : Value} {ps : List (R × Value)} {rs : List R} {ws : List Wd} (h : DkOwn w lo hi v u ps ws) (hp : ps.map (·.1) = rs) : DkIn w v u rs ws := by
  have hl : ps.length = rs.length := by have := congrArg List.length hp; simpa using this
  refine ⟨h.at' hp, ?_, ?_⟩
  · obtain ⟨_, l, t, _, _, h3, _, _⟩ := h
    have := form_of_row h3.1
    rw [hl] at this
    exact this
  · obtain ⟨_, l, t, _, _, _, h4, _⟩ := h
    exact form_of_row h4

theorem OwnRecs.setB {w : World} {lo hi b j : Nat} {v : Value} {ps : List (R × Value)} {cur : Array Value} {ty : TypeId} (h : OwnRecs w lo hi v ps) (hh : Blk w b cur ty) (h1 : 72 ≠ ty) (h2 : 3 ≠ ty) (x : Value) : OwnRecs (w.setCell ⟨b, j, Option.none⟩ x) lo hi v ps := by
  obtain ⟨q1, q2, q3⟩ := h
  have hs : (w.setCell ⟨b, j, Option.none⟩ x).heap.size = w.heap.size := by simp
  exact ⟨ownsRow_setCell_ne q1 (fun g hg => row_apart q1 hh h1 g hg) x, q2, by rw [hs]; exact q3.1, fun p hp => ⟨ownsRow_setCell_ne (q3.2.1 p hp).1 (fun g hg => row_apart (q3.2.1 p hp).1 hh h2 g hg) x, (q3.2.1 p hp).2⟩, q3.2.2⟩
theorem DkOwn.setB {w : World} {lo hi b j : Nat} {v u : Value} {ps : List (R × Value)} {ws : List Wd} {cur : Array Value} {ty : TypeId} (h : DkOwn w lo hi v u ps ws) (hh : Blk w b cur ty) (h1 : 72 ≠ ty) (h2 : 3 ≠ ty) (h3 : 67 ≠ ty) (x : Value) : DkOwn (w.setCell ⟨b, j, Option.none⟩ x) lo hi v u ps ws := by
  obtain ⟨q0, l, t, q1, q2, q3, q4, q5⟩ := h
  exact ⟨by simpa using q0, l, t, q1, q2, q3.setB hh h1 h2 x, ownsRow_setCell_ne q4 (fun g hg => row_apart q4 hh h3 g hg) x, q5⟩

def dkFall (up : Bool) (rs : List R) (f : Int) (ws : List Wd) (keep : Int) : Dk := if dkOk up rs f ws = true then (false, rs.take (fallN rs.length f keep), (fallN rs.length f keep : Int), []) else dkZ
theorem dkFall_tot (up : Bool) (rs : List R) (f : Int) (ws : List Wd) (keep : Int) (hl : tot rs ≤ 1048576) : tot (dkFall up rs f ws keep).2.1 ≤ 1048576 ∧ (dkFall up rs f ws keep).2.2.2.length ≤ 1048576 := by
  unfold dkFall; split
  · next h =>
    obtain ⟨h0, h1, _⟩ := logOk_f (dkOk_log h)
    exact ⟨Nat.le_trans (pre_take rs _ (fallN_le h0 h1)) hl, by simp⟩
  · simp [dkZ, tot, pre]

end Go.Proofs.Ytfdcfomfghbpaaa

namespace Go.Proofs.Ytfdcfomfghbpaaa
open Go.RowKit

/-- A world as a value: its desk, its houses, the words under way. -/
abbrev worldV (up : Bool) (v : Value) (f : Int) (u hv nv : Value) : Value := .agg #[.bool up, v, .int .i64 f, u, hv, nv]
/-- The lists of a world, as they lie. -/
def WdAt (w : World) (v u hv nv : Value) (rs : List R) (ws : List Wd) (hs : List Hd) (ns : List Wd) : Prop := DkAt w v u rs ws ∧ Houses w hv hs ∧ Words w nv ns
theorem WdAt.later {B : Nat} {w w' : World} {v u hv nv : Value} {rs : List R} {ws : List Wd} {hs : List Hd} {ns : List Wd} (h : WdAt w v u hv nv rs ws hs ns) (hb : Below B w w') (hB : w.heap.size ≤ B) : WdAt w' v u hv nv rs ws hs ns :=
  ⟨h.1.later hb hB, h.2.1.later hb hB, h.2.2.later hb hB⟩
theorem WdAt.shape {w : World} {v u hv nv : Value} {rs : List R} {ws : List Wd} {hs : List Hd} {ns : List Wd} (h : WdAt w v u hv nv rs ws hs ns) : ∃ a1 c1 a2 c2 a3 c3 a4 c4, v = .slice a1 rs.length c1 ∧ u = .slice a2 ws.length c2 ∧ hv = .slice a3 hs.length c3 ∧ nv = .slice a4 ns.length c4 := by
  obtain ⟨a1, c1, a2, c2, h1, h2⟩ := h.1.shape
  obtain ⟨a3, c3, h3⟩ := h.2.1.shape
  obtain ⟨a4, c4, h4⟩ := h.2.2.shape
  exact ⟨a1, c1, a2, c2, a3, c3, a4, c4, h1, h2, h3, h4⟩
/-- All that a world can be: small enough for the language's own lengths. -/
structure WdFit (rs : List R) (ws : List Wd) (hs : List Hd) (ns : List Wd) : Prop where
  r : (rs.length : Int) ≤ 9223372036854775807
  rr : ∀ r ∈ rs, (r.2.2.length : Int) ≤ 9223372036854775807
  w : (ws.length : Int) ≤ 9223372036854775807
  h : (hs.length : Int) ≤ 9223372036854775807
  hr : ∀ h ∈ hs, (h.2.2.2.1.length : Int) ≤ 9223372036854775807
  hrr : ∀ h ∈ hs, ∀ r ∈ h.2.2.2.1, (r.2.2.length : Int) ≤ 9223372036854775807
  n : (ns.length : Int) ≤ 9223372036854775807
def wdTot (rs : List R) (ws : List Wd) (hs : List Hd) (ns : List Wd) : Nat := tot rs + ws.length + htot hs + ns.length
theorem Blk.cells6 {w : World} {b : Nat} {x0 x1 x2 x3 x4 x5 : Value} {ty : TypeId} (h : Blk w b #[x0, x1, x2, x3, x4, x5] ty) :
    w.cell? ⟨b, 0, none⟩ = some x0 ∧ w.cell? ⟨b, 1, none⟩ = some x1 ∧ w.cell? ⟨b, 2, none⟩ = some x2 ∧ w.cell? ⟨b, 3, none⟩ = some x3 ∧ w.cell? ⟨b, 4, none⟩ = some x4 ∧ w.cell? ⟨b, 5, none⟩ = some x5 := by
  refine ⟨?_, ?_, ?_, ?_, ?_, ?_⟩ <;> (rw [h.cell]; rfl)

end Go.Proofs.Ytfdcfomfghbpaaa

namespace Go.Proofs.Ytfdcfomfghbpaaa
open Go.RowKit

theorem Blk.free6 {w : World} {b : Nat} {cs : Array Value} {ty : TypeId} (h : Blk w b cs ty) :
    w.frozen? ⟨b, 0, none⟩ = false ∧ w.frozen? ⟨b, 1, none⟩ = false ∧ w.frozen? ⟨b, 2, none⟩ = false ∧ w.frozen? ⟨b, 3, none⟩ = false ∧ w.frozen? ⟨b, 4, none⟩ = false ∧ w.frozen? ⟨b, 5, none⟩ = false :=
  ⟨h.free 0, h.free 1, h.free 2, h.free 3, h.free 4, h.free 5⟩
/-- A world comes back, in memory of the call's own: the desk's first, then the houses', then the words'. -/
def WdOut (w w' : World) (e : Ending) (up : Bool) (rs : List R) (f : Int) (ws : List Wd) (hs : List Hd) (ns : List Wd) : Prop :=
  ∃ a1 c1 a2 c2 a3 c3 a4 c4 ps hps, e = .returned (worldV up (.slice a1 rs.length c1) f (.slice a2 ws.length c2) (.slice a3 hs.length c3) (.slice a4 ns.length c4)) ∧ ps.map (·.1) = rs ∧ DkOwn w' w.heap.size w'.heap.size (.slice a1 rs.length c1) (.slice a2 ws.length c2) ps ws ∧ hps.map (·.1) = hs ∧ HMade w' w.heap.size (.slice a3 hs.length c3) hps ∧ w'.ownsRow w.heap.size 67 4 (.slice a4 ns.length c4) ns.length (wflat ns) ∧ Below w.heap.size w w'

theorem HMade.below {w w' : World} {lo : Nat} {v : Value} {ps : List (Hd × Value)} (h : HMade w lo v ps) (hb : Below w.heap.size w w') : HMade w' lo v ps :=
  ⟨ownsRow_below h.1 hb (fun k hk => (h.1.lt k hk).2), fun p hp => (h.2 p hp).below hb (Nat.le_refl _)⟩
theorem HMade.setBelow {w : World} {lo b i : Nat} {v : Value} {ps : List (Hd × Value)} (h : HMade w lo v ps) (hb : b < lo) (x : Value) : HMade (w.setCell ⟨b, i, none⟩ x) lo v ps :=
  ⟨ownsRow_setCell_below h.1 hb x, fun p hp => (h.2 p hp).setBelow hb x⟩
theorem HMade.lo {w : World} {lo lo' : Nat} {v : Value} {ps : List (Hd × Value)} (h : HMade w lo v ps) (hl : lo' ≤ lo) : HMade w lo' v ps :=
  ⟨ownsRow_base h.1 hl, fun p hp => (h.2 p hp).lo hl⟩

set_option maxHeartbeats 4000000 in
theorem eqWorld_any (up : Bool) (v1 u1 h1 n1 v2 u2 h2 n2 : Value) (rs : List R) (f : Int) (ws : List Wd) (hs : List Hd) (ns : List Wd) (w : World) (hw1 : WdAt w v1 u1 h1 n1 rs ws hs ns) (hw2 : WdAt w v2 u2 h2 n2 rs ws hs ns) (hl : wdTot rs ws hs ns ≤ 1048576) :
    Calls Try.prog 7 #[worldV up v1 f u1 h1 n1, worldV up v2 f u2 h2 n2] w fun e w' => e = .returned (.bool true) ∧ Below w.heap.size w w' := by
  have hl1 : tot rs ≤ 1048576 := by unfold wdTot at hl; omega
  have hl2 : ws.length ≤ 1048576 := by unfold wdTot at hl; omega
  have hl3 : htot hs ≤ 1048576 := by unfold wdTot at hl; omega
  have hl4 : ns.length ≤ 1048576 := by unfold wdTot at hl; omega
  have H1 : Hid (∀ W, Below w.heap.size w W → WdAt W v1 u1 h1 n1 rs ws hs ns) := fun W h => hw1.later h (Nat.le_refl _)
  have H2 : Hid (∀ W, Below w.heap.size w W → WdAt W v2 u2 h2 n2 rs ws hs ns) := fun W h => hw2.later h (Nat.le_refl _)
  obtain ⟨a1, c1, a2, c2, a3, c3, a4, c4, rfl, rfl, rfl, rfl⟩ := hw1.shape
  obtain ⟨b1, d1, b2, d2, b3, d3, b4, d4, rfl, rfl, rfl, rfl⟩ := hw2.shape
  clear hw1 hw2 hl
  obtain ⟨w0, hw0⟩ : ∃ W, Hid (W = (w.alloc (.cells #[.bool up, .slice a1 rs.length c1, .int .i64 f, .slice a2 ws.length c2, .slice a3 hs.length c3, .slice a4 ns.length c4] 31)).alloc (.cells #[.bool up, .slice b1 rs.length d1, .int .i64 f, .slice b2 ws.length d2, .slice b3 hs.length d3, .slice b4 ns.length d4] 31)) := ⟨_, rfl⟩
  have B0 : Hid (Below w.heap.size w w0) := by show Below _ _ _; rw [hw0.out]; exact below2 _ _ _
  have X0 : Hid (Blk w0 w.heap.size #[.bool up, .slice a1 rs.length c1, .int .i64 f, .slice a2 ws.length c2, .slice a3 hs.length c3, .slice a4 ns.length c4] 31) := by show Blk _ _ _ _; rw [hw0.out]; exact (Blk.new _ _ _).alloc _
  have Y0 : Hid (Blk w0 (w.heap.size + 1) #[.bool up, .slice b1 rs.length d1, .int .i64 f, .slice b2 ws.length d2, .slice b3 hs.length d3, .slice b4 ns.length d4] 31) := by show Blk _ _ _ _; rw [hw0.out]; exact Blk.new2 _ _ _ _
  have HD := hide_it (eqDesk_any up _ _ _ _ rs f ws w0 (H1.out _ B0.out).1 (H2.out _ B0.out).1 hl1 hl2)
  go_enter Try.func7, Try.ntmps7
  go_wp2_with fail
  rw [← hw0.out]
  refine HD.out.mono ?_
  rintro e w1 ⟨rfl, hb1⟩
  have X1 := hide_it (X0.out.after hb1)
  have Y1 := hide_it (Y0.out.after hb1)
  have B1 := hide_it (B0.out.trans (hb1.mono B0.out.size))
  clear hb1 HD
  obtain ⟨x0, x1, x2, x3, x4, x5⟩ := X1.out.cells6
  obtain ⟨y0, y1, y2, y3, y4, y5⟩ := Y1.out.cells6
  have HH := hide_it (eqHouses_any _ _ hs w1 (H1.out _ B1.out).2.1 (H2.out _ B1.out).2.1 hl3)
  go_wp2_with fail
  clear x0 x1 x2 x3 x4 x5 y0 y1 y2 y3 y4 y5
  refine HH.out.mono ?_
  rintro e w2 ⟨rfl, hb2⟩
  have X2 := hide_it (X1.out.after hb2)
  have Y2 := hide_it (Y1.out.after hb2)
  have B2 := hide_it (B1.out.trans (hb2.mono B1.out.size))
  clear hb2 HH
  obtain ⟨x0, x1, x2, x3, x4, x5⟩ := X2.out.cells6
  obtain ⟨y0, y1, y2, y3, y4, y5⟩ := Y2.out.cells6
  have HN := hide_it (eqWords_any _ _ ns w2 (H1.out _ B2.out).2.2 (H2.out _ B2.out).2.2 hl4)
  go_wp2_with fail
  clear x0 x1 x2 x3 x4 x5 y0 y1 y2 y3 y4 y5
  refine HN.out.mono ?_
  rintro e w3 ⟨rfl, hb3⟩
  have B3 := hide_it (B2.out.trans (hb3.mono B2.out.size))
  clear hb3 HN
  go_wp2
  go_ret
  exact ⟨rfl, B3.out⟩

end Go.Proofs.Ytfdcfomfghbpaaa

namespace Go.Proofs.Ytfdcfomfghbpaaa
open Go.RowKit

/-- A keeper as a value: its log, its number, whether it is up, how many it has. -/
abbrev keeperV (v : Value) (f id : Int) (up : Bool) (room : Int) : Value := .agg #[v, .int .i64 f, .int .i64 id, .bool up, .int .i64 room]

end Go.Proofs.Ytfdcfomfghbpaaa
