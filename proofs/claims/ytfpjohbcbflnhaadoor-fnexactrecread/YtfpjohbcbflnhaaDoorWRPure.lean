/- The plain mathematics of reading words: a text cut at blanks, the kind of a name, the number of a piece, and which word a text tells. No conditions. -/
import Derived.Test.YtfpjohbcbflnhaaDoorWInj
import Derived.Lib.Bytealg
import Derived.Lib.AtoiAll
namespace Go.Proofs.YtfpjohbcbflnhaaDoor
namespace Pl

/-- A text cut at blanks. -/
def cut : List UInt8 → List (List UInt8)
  | [] => [[]]
  | c :: r => if c = 32 then [] :: cut r else match cut r with | [] => [[c]] | h :: t => (c :: h) :: t

theorem cut_ne (l : List UInt8) : cut l ≠ [] := by
  cases l with
  | nil => simp [cut]
  | cons c r =>
    simp only [cut]
    split
    · simp
    · split <;> simp

theorem cut_blank (r : List UInt8) : cut (32 :: r) = [] :: cut r := by simp [cut]
theorem cut_other {c : UInt8} (h : c ≠ 32) {r : List UInt8} {x : List UInt8} {t : List (List UInt8)} (e : cut r = x :: t) : cut (c :: r) = (c :: x) :: t := by simp [cut, h, e]
theorem cut_cons (l : List UInt8) : ∃ x t, cut l = x :: t := by
  cases h : cut l with
  | nil => exact absurd h (cut_ne l)
  | cons x t => exact ⟨x, t, rfl⟩

theorem cut_snoc_blank (l : List UInt8) : cut (l ++ [32]) = cut l ++ [[]] := by
  induction l with
  | nil => simp [cut]
  | cons c r ih =>
    by_cases h : c = 32
    · subst h; rw [List.cons_append, cut_blank, cut_blank, ih]; rfl
    · obtain ⟨x, t, e⟩ := cut_cons r
      rw [List.cons_append, cut_other h e, cut_other h (by rw [ih, e]; rfl)]; rfl

theorem cut_snoc_other {c : UInt8} (hc : c ≠ 32) (l : List UInt8) : ∃ a z, cut l = a ++ [z] ∧ cut (l ++ [c]) = a ++ [z ++ [c]] := by
  induction l with
  | nil => exact ⟨[], [], by simp [cut], by simp [cut, hc]⟩
  | cons d r ih =>
    obtain ⟨a, z, e1, e2⟩ := ih
    by_cases h : d = 32
    · subst h
      exact ⟨[] :: a, z, by rw [cut_blank, e1]; rfl, by rw [List.cons_append, cut_blank, e2]; rfl⟩
    · cases a with
      | nil => exact ⟨[], d :: z, by rw [cut_other h (by simpa using e1)]; rfl, by rw [List.cons_append, cut_other h (by simpa using e2)]; rfl⟩
      | cons y a => exact ⟨(d :: y) :: a, z, by rw [cut_other h (by simpa using e1)]; rfl, by rw [List.cons_append, cut_other h (by simpa using e2)]; rfl⟩

theorem cut_length (l : List UInt8) : 1 ≤ (cut l).length ∧ (cut l).length ≤ l.length + 1 := by
  induction l with
  | nil => simp [cut]
  | cons c r ih =>
    by_cases h : c = 32
    · subst h; rw [cut_blank]; simp; omega
    · obtain ⟨x, t, e⟩ := cut_cons r
      rw [cut_other h e]; rw [e] at ih; simp at ih ⊢; omega

open Go.Lib in
theorem cut_none (l : List UInt8) (h : indexByte l 32 = -1) : cut l = [l] := by
  induction l with
  | nil => simp [cut]
  | cons c r ih =>
    unfold indexByte at h
    by_cases hc : c = 32
    · subst hc; first | (simp at h; done) | exact absurd h (by decide)
    · have hr : indexByte r 32 = -1 := by
        have h2 : (c == 32) = false := by simpa using hc
        rw [h2] at h
        simp only [Bool.false_eq_true, if_false] at h
        have := indexByte_ge r 32
        split at h
        · rename_i h3; simpa using h3
        · omega
      rw [cut_other hc (ih hr)]

open Go.Lib in
theorem cut_at (l : List UInt8) (i : Nat) (h : indexByte l 32 = (i : Int)) : i < l.length ∧ cut l = l.take i :: cut (l.drop (i + 1)) := by
  induction l generalizing i with
  | nil => exact absurd h (by show ¬ ((-1 : Int) = (i : Int)); omega)
  | cons c r ih =>
    unfold indexByte at h
    by_cases hc : c = 32
    · subst hc
      simp at h
      obtain rfl : i = 0 := by omega
      exact ⟨by simp, by rw [cut_blank]; simp⟩
    · have h2 : (c == 32) = false := by simpa using hc
      rw [h2] at h
      simp only [Bool.false_eq_true, if_false] at h
      have hge := indexByte_ge r 32
      split at h
      · omega
      · rename_i h3
        have h4 : indexByte r 32 ≠ -1 := by simpa using h3
        obtain ⟨j, hj⟩ : ∃ j : Nat, indexByte r 32 = j := ⟨(indexByte r 32).toNat, by omega⟩
        obtain rfl : i = j + 1 := by omega
        obtain ⟨h4, h5⟩ := ih j hj
        exact ⟨by simp; omega, by rw [cut_other hc h5]; simp⟩

/-- The pieces of a text, as texts. -/
def bs (l : List UInt8) : ByteArray := ⟨l.toArray⟩
def cutB (s : ByteArray) : List ByteArray := (cut s.data.toList).map bs

theorem bs_data (s : ByteArray) : bs s.data.toList = s := by cases s; rfl

/-- The kind of a name. -/
def wKind (s : ByteArray) : Int :=
  if s.data.toList = (wNm 1).data.toList then 1 else if s.data.toList = (wNm 2).data.toList then 2 else if s.data.toList = (wNm 3).data.toList then 3 else if s.data.toList = (wNm 4).data.toList then 4
  else if s.data.toList = (wNm 5).data.toList then 5 else if s.data.toList = (wNm 6).data.toList then 6 else if s.data.toList = (wNm 7).data.toList then 7 else 0

/-- The number of a piece, as the program reads it. -/
def num (s : ByteArray) : Int := match Go.Lib.atoiAll s.data.toList with | .ok v => v | _ => 0

/-- The number of a piece, as the specification reads it. -/
def decN (l : List UInt8) : Int :=
  match l with
  | [a] => if 48 ≤ a.toNat ∧ a.toNat ≤ 57 then (a.toNat : Int) - 48 else -1
  | [a, b] => if (48 ≤ a.toNat ∧ a.toNat ≤ 57) ∧ 48 ≤ b.toNat ∧ b.toNat ≤ 57 then 10 * ((a.toNat : Int) - 48) + ((b.toNat : Int) - 48) else -1
  | _ => -1
def decB (s : ByteArray) : Int := decN s.data.toList

abbrev W4 := Int × Int × Int × Int
/-- The word that pieces make: the program's. -/
def wop : List ByteArray → W4
  | [a] => (wKind a, 0, 0, 0)
  | [a, b] => (wKind a, num b, 0, 0)
  | [a, b, c] => (wKind a, num b, num c, 0)
  | [a, b, c, d] => (wKind a, num b, num c, num d)
  | _ => (0, 0, 0, 0)
/-- The specification's. -/
def sop : List ByteArray → W4
  | [a, b, c] => (wKind a, decB b, decB c, 0)
  | [a, b, c, d] => (wKind a, decB b, decB c, decB d)
  | _ => (0, 0, 0, 0)

theorem wop_all : ∀ k : Fin 7, ∀ h : Fin 3, ∀ t : Fin 6, ∀ m : Fin 3, wop (cutB (wFull (k.val + 1) (h.val + 1) (t.val + 1) (if k.val = 0 then m.val + 1 else 0))) = ((k.val : Int) + 1, (h.val : Int) + 1, (t.val : Int) + 1, if k.val = 0 then (m.val : Int) + 1 else 0) := by
  decide +kernel
theorem sop_all : ∀ k : Fin 7, ∀ h : Fin 3, ∀ t : Fin 6, ∀ m : Fin 3, sop (cutB (wFull (k.val + 1) (h.val + 1) (t.val + 1) (if k.val = 0 then m.val + 1 else 0))) = ((k.val : Int) + 1, (h.val : Int) + 1, (t.val : Int) + 1, if k.val = 0 then (m.val : Int) + 1 else 0) ∧
    (cut (wFull (k.val + 1) (h.val + 1) (t.val + 1) (if k.val = 0 then m.val + 1 else 0)).data.toList).length = (if k.val = 0 then 4 else 3) := by
  decide +kernel

/-- What holds of all words in form. -/
theorem all_words {p : Int → Int → Int → Int → Prop} (hp : ∀ k : Fin 7, ∀ h : Fin 3, ∀ t : Fin 6, ∀ m : Fin 3, p (k.val + 1) (h.val + 1) (t.val + 1) (if k.val = 0 then m.val + 1 else 0)) {k h t m : Int} (e : wOk k h t m = true) : p k h t m := by
  obtain ⟨⟨k1, k2⟩, ⟨h1, h2⟩, ⟨t1, t2⟩, hm⟩ := wOk_parts e
  rcases wMany_parts hm with ⟨rfl, m1, m2⟩ | ⟨hk, rfl⟩
  · have := hp ⟨0, by omega⟩ ⟨(h - 1).toNat, by omega⟩ ⟨(t - 1).toNat, by omega⟩ ⟨(m - 1).toNat, by omega⟩
    have eh : (((h - 1).toNat : Nat) : Int) + 1 = h := by omega
    have et : (((t - 1).toNat : Nat) : Int) + 1 = t := by omega
    have em : (((m - 1).toNat : Nat) : Int) + 1 = m := by omega
    simp only [eh, et, em, if_true] at this
    simpa using this
  · have := hp ⟨(k - 1).toNat, by omega⟩ ⟨(h - 1).toNat, by omega⟩ ⟨(t - 1).toNat, by omega⟩ ⟨0, by omega⟩
    have ek : (((k - 1).toNat : Nat) : Int) + 1 = k := by omega
    have eh : (((h - 1).toNat : Nat) : Int) + 1 = h := by omega
    have et : (((t - 1).toNat : Nat) : Int) + 1 = t := by omega
    have e0 : ¬ (k - 1).toNat = 0 := by omega
    simp only [ek, eh, et, e0, if_false] at this
    exact this

theorem wop_full {k h t m : Int} (e : wOk k h t m = true) : wop (cutB (wFull k h t m)) = (k, h, t, m) :=
  all_words (p := fun k h t m => wop (cutB (wFull k h t m)) = (k, h, t, m)) (fun k h t m => by have := wop_all k h t m; split at this <;> simp_all) e
theorem sop_full {k h t m : Int} (e : wOk k h t m = true) : sop (cutB (wFull k h t m)) = (k, h, t, m) ∧ 3 ≤ (cutB (wFull k h t m)).length ∧ (cutB (wFull k h t m)).length ≤ 4 :=
  all_words (p := fun k h t m => sop (cutB (wFull k h t m)) = (k, h, t, m) ∧ 3 ≤ (cutB (wFull k h t m)).length ∧ (cutB (wFull k h t m)).length ≤ 4)
    (fun k h t m => by have := sop_all k h t m; rw [cutB, List.length_map]; split at this <;> simp_all [cutB] <;> omega) e

/-- What a text tells: a word in form whose text it is, or that there is none. -/
def RdW (s : ByteArray) (k h t m : Int) (b : Bool) : Prop :=
  (b = true ∧ wOk k h t m = true ∧ wTxt k h t m = s) ∨ (b = false ∧ (k = 0 ∧ h = 0 ∧ t = 0 ∧ m = 0) ∧ ∀ k h t m, wOk k h t m = true → wTxt k h t m ≠ s)

theorem RdW.one {s : ByteArray} {k h t m k' h' t' m' : Int} {b b' : Bool} (x : RdW s k h t m b) (y : RdW s k' h' t' m' b') : b = b' ∧ k = k' ∧ h = h' ∧ t = t' ∧ m = m' := by
  rcases x with ⟨rfl, x1, x2⟩ | ⟨rfl, ⟨rfl, rfl, rfl, rfl⟩, x2⟩ <;> rcases y with ⟨rfl, y1, y2⟩ | ⟨rfl, ⟨rfl, rfl, rfl, rfl⟩, y2⟩
  · exact ⟨rfl, wTxt_inj x1 y1 (x2.trans y2.symm)⟩
  · exact absurd x2 (y2 _ _ _ _ x1)
  · exact absurd y2 (x2 _ _ _ _ y1)
  · exact ⟨rfl, rfl, rfl, rfl, rfl⟩

theorem wTxt_size {k h t m : Int} (e : wOk k h t m = true) : 8 ≤ (wTxt k h t m).size ∧ (wTxt k h t m).size ≤ 10 := by
  rw [wTxt_yes e]; exact wFull_size (wOk_parts e).1

theorem RdW.long {s : ByteArray} (h : 10 < s.size) : RdW s 0 0 0 0 false := .inr ⟨rfl, ⟨rfl, rfl, rfl, rfl⟩, fun k h t m e he => by have := (wTxt_size e).2; rw [he] at this; omega⟩

/-- How the program reads. -/
theorem RdW.prog {s : ByteArray} {k h t m : Int} (e : wop (cutB s) = (k, h, t, m)) : (wOk k h t m = true ∧ wTxt k h t m = s → RdW s k h t m true) ∧ (wOk k h t m = false ∨ wTxt k h t m ≠ s → RdW s 0 0 0 0 false) := by
  refine ⟨fun ⟨a, b⟩ => .inl ⟨rfl, a, b⟩, fun hn => .inr ⟨rfl, ⟨rfl, rfl, rfl, rfl⟩, fun k' h' t' m' ok he => ?_⟩⟩
  have := wop_full ok
  rw [← wTxt_yes ok, he, e] at this
  simp only [Prod.mk.injEq] at this
  obtain ⟨rfl, rfl, rfl, rfl⟩ := this
  rcases hn with hn | hn
  · rw [ok] at hn; cases hn
  · exact hn he

/-- How the specification reads. -/
theorem RdW.spec {s : ByteArray} {k h t m : Int} (e : sop (cutB s) = (k, h, t, m)) : (wOk k h t m = true ∧ wTxt k h t m = s → RdW s k h t m true) ∧ (wOk k h t m = false ∨ wTxt k h t m ≠ s → RdW s 0 0 0 0 false) := by
  refine ⟨fun ⟨a, b⟩ => .inl ⟨rfl, a, b⟩, fun hn => .inr ⟨rfl, ⟨rfl, rfl, rfl, rfl⟩, fun k' h' t' m' ok he => ?_⟩⟩
  have := (sop_full ok).1
  rw [← wTxt_yes ok, he, e] at this
  simp only [Prod.mk.injEq] at this
  obtain ⟨rfl, rfl, rfl, rfl⟩ := this
  rcases hn with hn | hn
  · rw [ok] at hn; cases hn
  · exact hn he
theorem RdW.specLen {s : ByteArray} (e : (cutB s).length < 3 ∨ 4 < (cutB s).length) : RdW s 0 0 0 0 false :=
  .inr ⟨rfl, ⟨rfl, rfl, rfl, rfl⟩, fun k h t m ok he => by have := (sop_full ok).2; rw [← wTxt_yes ok, he] at this; omega⟩

end Pl
end Go.Proofs.YtfpjohbcbflnhaaDoor
