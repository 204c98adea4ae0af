/- The draw of a record, and which kinds of records are ok with the same numbers, over integers and lists alone. For codes of at most 1048576 bytes. -/
import Derived.Test.YtfpjohbcbflnhaaDoorDOpen
namespace Go.Proofs.YtfpjohbcbflnhaaDoor
open Go.RowKit

def plainK (k : Int) : Bool := decide (k ≠ 1) && decide (k ≠ 4)
theorem kinds_ok {k t : Int} {zs : List Int} (k' : Int) (h : Pl.recOk k t zs = true) (h1 : 1 ≤ k') (h7 : k' ≤ 7) : Pl.recOk k' t zs = (decide (k' = k) || (plainK k && plainK k')) := by
  by_cases hkk : k' = k
  · subst hkk; rw [h]; simp
  have ht : Pl.inB t 1 6 = true := by
    cases ht : Pl.inB t 1 6
    · rw [Pl.recOk_t k t zs ht] at h; cases h
    · rfl
  have hd : decide (k' = k) = false := by simp [hkk]
  rw [hd, Bool.false_or]
  by_cases k1 : k = 1
  · subst k1
    rw [Pl.recOk_1 t zs ht] at h
    have hl : zs.length = 1 := by simp [Pl.holdOk] at h; exact h.1
    have hp : plainK 1 = false := by decide
    rw [hp, Bool.false_and]
    by_cases k4 : k' = 4
    · subst k4; rw [Pl.recOk_4 t zs ht, Pl.manyOk_len zs (by omega)]
    · rw [Pl.recOk_p k' t zs ht hkk k4, hl]; simp
  by_cases k4 : k = 4
  · subst k4
    rw [Pl.recOk_4 t zs ht] at h
    have hl : zs.length = 3 := by
      by_cases e : zs.length = 3
      · exact e
      · rw [Pl.manyOk_len zs e] at h; cases h
    have hp : plainK 4 = false := by decide
    rw [hp, Bool.false_and]
    by_cases k1' : k' = 1
    · subst k1'; rw [Pl.recOk_1 t zs ht]; simp [Pl.holdOk, hl]
    · rw [Pl.recOk_p k' t zs ht k1' hkk, hl]; simp
  rw [Pl.recOk_p k t zs ht k1 k4] at h
  have hl : zs.length = 0 := by simp only [Bool.and_eq_true, beq_iff_eq] at h; exact h.2
  have hp : plainK k = true := by simp [plainK, k1, k4]
  rw [hp, Bool.true_and]
  by_cases k1' : k' = 1
  · subst k1'; rw [Pl.recOk_1 t zs ht]; simp [Pl.holdOk, hl, plainK]
  by_cases k4' : k' = 4
  · subst k4'; rw [Pl.recOk_4 t zs ht, Pl.manyOk_len zs (by omega)]; decide
  rw [Pl.recOk_p k' t zs ht k1' k4', hl, Pl.inB_mk (by omega) h7]
  simp [plainK, k1', k4']

end Go.Proofs.YtfpjohbcbflnhaaDoor
