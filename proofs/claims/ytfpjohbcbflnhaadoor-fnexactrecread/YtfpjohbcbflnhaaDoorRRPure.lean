/- The plain mathematics of reading records: which record a text tells. No conditions. -/
import Derived.Test.YtfpjohbcbflnhaaDoorEInj
import Derived.Test.YtfpjohbcbflnhaaDoorWRPure
namespace Go.Proofs.YtfpjohbcbflnhaaDoor
namespace Pl

/-- What holds of all ok records. -/
theorem all_recs {p : Int → Int → List Int → Prop} (ph : ∀ t : Fin 7, ∀ z : Fin 4, p 1 t.val [(z.val : Int)]) (pb : ∀ t : Fin 7, ∀ a c d : Fin 4, p 4 t.val [(a.val : Int), (c.val : Int), (d.val : Int)])
    (p2 : ∀ t : Fin 7, p 2 t.val []) (p3 : ∀ t : Fin 7, p 3 t.val []) (p5 : ∀ t : Fin 7, p 5 t.val []) (p6 : ∀ t : Fin 7, p 6 t.val []) (p7 : ∀ t : Fin 7, p 7 t.val []) {k t : Int} {zs : List Int} (h : recOk k t zs = true) : p k t zs := by
  obtain ⟨_, ⟨t1, t6⟩, _, _⟩ := recOk_nums h
  have ht := inB_mk t1 t6
  obtain ⟨tn, rfl⟩ := Int.eq_ofNat_of_zero_le (show 0 ≤ t by omega)
  by_cases k1 : k = 1
  · subst k1
    rw [recOk_1 _ zs ht] at h
    simp only [holdOk, Bool.and_eq_true, beq_iff_eq] at h
    obtain ⟨z, e⟩ := List.length_eq_one_iff.1 h.1
    subst e
    have hz := inB_true h.2
    simp at hz
    obtain ⟨zn, rfl⟩ := Int.eq_ofNat_of_zero_le (show 0 ≤ z by omega)
    exact ph ⟨tn, by omega⟩ ⟨zn, by omega⟩
  by_cases k4 : k = 4
  · subst k4
    rw [recOk_4 _ zs ht] at h
    obtain ⟨a, c, d, rfl, ha, hc, hd⟩ := manyOk_three h
    obtain ⟨an, rfl⟩ := Int.eq_ofNat_of_zero_le ha.1
    obtain ⟨cn, rfl⟩ := Int.eq_ofNat_of_zero_le hc.1
    obtain ⟨dn, rfl⟩ := Int.eq_ofNat_of_zero_le hd.1
    exact pb ⟨tn, by omega⟩ ⟨an, by omega⟩ ⟨cn, by omega⟩ ⟨dn, by omega⟩
  · rw [recOk_p k _ zs ht k1 k4, Bool.and_eq_true] at h
    have hk := inB_true h.1
    obtain rfl : zs = [] := List.length_eq_zero_iff.1 (by simpa using h.2)
    have k5 : k = 2 ∨ k = 3 ∨ k = 5 ∨ k = 6 ∨ k = 7 := by omega
    rcases k5 with rfl | rfl | rfl | rfl | rfl
    · exact p2 ⟨tn, by omega⟩
    · exact p3 ⟨tn, by omega⟩
    · exact p5 ⟨tn, by omega⟩
    · exact p6 ⟨tn, by omega⟩
    · exact p7 ⟨tn, by omega⟩

/-- The numbers of pieces, if all are numbers. -/
def numO (b : ByteArray) : Option Int := match Go.Lib.atoiAll b.data.toList with | .ok v => some v | _ => none
def numsO : List ByteArray → Option (List Int)
  | [] => some []
  | b :: r => match numO b with | none => none | some v => (numsO r).map (v :: ·)
theorem numsO_snoc (l : List ByteArray) (b : ByteArray) (zs : List Int) (h : numsO l = some zs) (v : Int) (hv : numO b = some v) : numsO (l ++ [b]) = some (zs ++ [v]) := by
  induction l generalizing zs with
  | nil => simp [numsO] at h; subst h; simp [numsO, hv]
  | cons a r ih =>
    simp only [numsO] at h
    cases ha : numO a with
    | none => simp [ha] at h
    | some x =>
      simp only [ha, Option.map_eq_some_iff] at h
      obtain ⟨ys, hy, rfl⟩ := h
      simp [numsO, ha, ih ys hy]
theorem numsO_none (l : List ByteArray) (b : ByteArray) (hb : numO b = none) (r : List ByteArray) : numsO (l ++ b :: r) = none := by
  induction l with
  | nil => simp [numsO, hb]
  | cons a t ih =>
    rw [List.cons_append]
    simp only [numsO, ih]
    cases numO a <;> rfl
theorem numsO_length {l : List ByteArray} {zs : List Int} (h : numsO l = some zs) : zs.length = l.length := by
  induction l generalizing zs with
  | nil => simp [numsO] at h; subst h; rfl
  | cons a r ih =>
    simp only [numsO] at h
    cases ha : numO a with
    | none => simp [ha] at h
    | some x =>
      simp only [ha, Option.map_eq_some_iff] at h
      obtain ⟨ys, hy, rfl⟩ := h
      simp [ih hy]

/-- The kind of a name. -/
def rKind (s : ByteArray) : Int :=
  if s.data.toList = (rNm 1).data.toList then 1 else if s.data.toList = (rNm 2).data.toList then 2 else if s.data.toList = (rNm 3).data.toList then 3 else if s.data.toList = (rNm 4).data.toList then 4
  else if s.data.toList = (rNm 5).data.toList then 5 else if s.data.toList = (rNm 6).data.toList then 6 else if s.data.toList = (rNm 7).data.toList then 7 else 0

abbrev R3 := Int × Int × List Int
/-- The record that pieces make: the program's. -/
def rop : List ByteArray → Option R3
  | [] => none
  | a :: r => match numsO r with | some (t :: zs) => some (rKind a, t, zs) | _ => none
/-- The specification's. -/
def rsop : List ByteArray → Option R3
  | a :: b :: r => some (rKind a, decB b, r.map decB)
  | _ => none

def okR (k t : Int) (zs : List Int) : Bool :=
  decide (rop (cutB (rTail (rHead k t) zs)) = some (k, t, zs)) && decide (rsop (cutB (rTail (rHead k t) zs)) = some (k, t, zs)) && decide ((rTail (rHead k t) zs).size ≤ 14) && decide ((rTail (rHead k t) zs).data.toList.getLast? ≠ some 32) && decide ((rTail (rHead k t) zs).data.toList.head? ≠ some 32)
theorem okR_h : ∀ t : Fin 7, ∀ z : Fin 4, okR 1 t.val [(z.val : Int)] = true := by decide +kernel
theorem okR_b : ∀ t : Fin 7, ∀ a c d : Fin 4, okR 4 t.val [(a.val : Int), (c.val : Int), (d.val : Int)] = true := by decide +kernel
theorem okR_p2 : ∀ t : Fin 7, okR 2 t.val [] = true := by decide +kernel
theorem okR_p3 : ∀ t : Fin 7, okR 3 t.val [] = true := by decide +kernel
theorem okR_p5 : ∀ t : Fin 7, okR 5 t.val [] = true := by decide +kernel
theorem okR_p6 : ∀ t : Fin 7, okR 6 t.val [] = true := by decide +kernel
theorem okR_p7 : ∀ t : Fin 7, okR 7 t.val [] = true := by decide +kernel

theorem rec_read {k t : Int} {zs : List Int} (h : recOk k t zs = true) : rop (cutB (rTxt k t zs)) = some (k, t, zs) ∧ rsop (cutB (rTxt k t zs)) = some (k, t, zs) ∧ (rTxt k t zs).size ≤ 14 ∧ (rTxt k t zs).data.toList.getLast? ≠ some 32 ∧ (rTxt k t zs).data.toList.head? ≠ some 32 := by
  have := all_recs (p := fun k t zs => okR k t zs = true) okR_h okR_b okR_p2 okR_p3 okR_p5 okR_p6 okR_p7 h
  rw [rTxt_yes h]
  simp only [okR, Bool.and_eq_true, decide_eq_true_eq] at this
  exact ⟨this.1.1.1.1, this.1.1.1.2, this.1.1.2, this.1.2, this.2⟩

/-- What a text tells: an ok record whose text it is, or that there is none. -/
def RdR (s : ByteArray) (k t : Int) (zs : List Int) (b : Bool) : Prop :=
  (b = true ∧ recOk k t zs = true ∧ rTxt k t zs = s) ∨ (b = false ∧ (k = 0 ∧ t = 0 ∧ zs = []) ∧ ∀ k t zs, recOk k t zs = true → rTxt k t zs ≠ s)

theorem RdR.one {s : ByteArray} {k t k' t' : Int} {zs zs' : List Int} {b b' : Bool} (x : RdR s k t zs b) (y : RdR s k' t' zs' b') : b = b' ∧ k = k' ∧ t = t' ∧ zs = zs' := by
  rcases x with ⟨rfl, x1, x2⟩ | ⟨rfl, ⟨rfl, rfl, rfl⟩, x2⟩ <;> rcases y with ⟨rfl, y1, y2⟩ | ⟨rfl, ⟨rfl, rfl, rfl⟩, y2⟩
  · exact ⟨rfl, rTxt_inj x1 y1 (x2.trans y2.symm)⟩
  · exact absurd x2 (y2 _ _ _ x1)
  · exact absurd y2 (x2 _ _ _ y1)
  · exact ⟨rfl, rfl, rfl, rfl⟩

theorem RdR.len {s : ByteArray} {k t : Int} {zs : List Int} {b : Bool} (x : RdR s k t zs b) : zs.length ≤ 3 := by
  rcases x with ⟨_, x1, _⟩ | ⟨_, ⟨_, _, rfl⟩, _⟩
  · exact (recOk_nums x1).2.2.1
  · exact Nat.zero_le _

theorem RdR.long {s : ByteArray} (h : 14 < s.size) : RdR s 0 0 [] false := .inr ⟨rfl, ⟨rfl, rfl, rfl⟩, fun k t zs e he => by have := (rec_read e).2.2.1; rw [he] at this; omega⟩

/-- How the program reads. -/
theorem RdR.none_ {s : ByteArray} (e : rop (cutB s) = none) : RdR s 0 0 [] false := .inr ⟨rfl, ⟨rfl, rfl, rfl⟩, fun k t zs ok he => by
  have := (rec_read ok).1
  rw [he, e] at this; cases this⟩
theorem RdR.prog {s : ByteArray} {k t : Int} {zs : List Int} (e : rop (cutB s) = some (k, t, zs)) (hn : recOk k t zs = false ∨ rTxt k t zs ≠ s) : RdR s 0 0 [] false := .inr ⟨rfl, ⟨rfl, rfl, rfl⟩, fun k' t' zs' ok he => by
  have := (rec_read ok).1
  rw [he, e] at this
  simp only [Option.some.injEq, Prod.mk.injEq] at this
  obtain ⟨rfl, rfl, rfl⟩ := this
  rcases hn with hn | hn
  · rw [ok] at hn; cases hn
  · exact hn he⟩
/-- How the specification reads. -/
theorem RdR.snone {s : ByteArray} (e : rsop (cutB s) = none) : RdR s 0 0 [] false := .inr ⟨rfl, ⟨rfl, rfl, rfl⟩, fun k t zs ok he => by
  have := (rec_read ok).2.1
  rw [he, e] at this; cases this⟩
theorem RdR.spec {s : ByteArray} {k t : Int} {zs : List Int} (e : rsop (cutB s) = some (k, t, zs)) (hn : recOk k t zs = false ∨ rTxt k t zs ≠ s) : RdR s 0 0 [] false := .inr ⟨rfl, ⟨rfl, rfl, rfl⟩, fun k' t' zs' ok he => by
  have := (rec_read ok).2.1
  rw [he, e] at this
  simp only [Option.some.injEq, Prod.mk.injEq] at this
  obtain ⟨rfl, rfl, rfl⟩ := this
  rcases hn with hn | hn
  · rw [ok] at hn; cases hn
  · exact hn he⟩
theorem RdR.behind {s : ByteArray} {k t : Int} {zs : List Int} {b : Bool} (x : RdR (s ++ ⟨#[32]⟩) k t zs b) : b = false := by
  rcases x with ⟨_, x1, x2⟩ | ⟨h, _⟩
  · exfalso
    have := (rec_read x1).2.2.2.1
    rw [x2] at this
    simp at this
  · exact h
theorem RdR.ahead {s : ByteArray} {k t : Int} {zs : List Int} {b : Bool} (x : RdR (⟨#[32]⟩ ++ s) k t zs b) : b = false := by
  rcases x with ⟨_, x1, x2⟩ | ⟨h, _⟩
  · exfalso
    have := (rec_read x1).2.2.2.2
    rw [x2] at this
    simp at this
  · exact h

end Pl
end Go.Proofs.YtfpjohbcbflnhaaDoor
