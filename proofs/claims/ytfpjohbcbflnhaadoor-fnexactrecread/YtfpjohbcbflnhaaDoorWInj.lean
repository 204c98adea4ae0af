/- The plain mathematics of the texts of words: words in form have the same text just if they are the same. No conditions. -/
import Derived.Test.YtfpjohbcbflnhaaDoorWTextPure
namespace Go.Proofs.YtfpjohbcbflnhaaDoor
namespace Pl

/-- What a text of a word in form tells. -/
def unT (b : ByteArray) : Int × Int × Int × Int :=
  let g := fun i : Nat => ((b.data.getD i 0).toNat : Int)
  let n := b.data.size
  let k : Int := if g 0 = 104 then (if g 1 = 111 then 1 else 4) else if g 0 = 102 then 5 else if g 0 = 99 then (if n = 9 then 2 else 6) else (if n = 8 then 3 else 7)
  if k = 1 then (k, g (n - 5) - 48, g (n - 3) - 48, g (n - 1) - 48) else (k, g (n - 3) - 48, g (n - 1) - 48, 0)

theorem unT_all : ∀ k : Fin 7, ∀ h : Fin 3, ∀ t : Fin 6, ∀ m : Fin 3, unT (wFull (k.val + 1) (h.val + 1) (t.val + 1) (if k.val = 0 then m.val + 1 else 0)) = ((k.val : Int) + 1, (h.val : Int) + 1, (t.val : Int) + 1, if k.val = 0 then (m.val : Int) + 1 else 0) := by
  decide +kernel

theorem unT_full {k h t m : Int} (e : wOk k h t m = true) : unT (wFull k h t m) = (k, h, t, m) := by
  obtain ⟨⟨k1, k2⟩, ⟨h1, h2⟩, ⟨t1, t2⟩, hm⟩ := wOk_parts e
  rcases wMany_parts hm with ⟨rfl, m1, m2⟩ | ⟨hk, rfl⟩
  · have := unT_all ⟨0, by omega⟩ ⟨(h - 1).toNat, by omega⟩ ⟨(t - 1).toNat, by omega⟩ ⟨(m - 1).toNat, by omega⟩
    have eh : (((h - 1).toNat : Nat) : Int) + 1 = h := by omega
    have et : (((t - 1).toNat : Nat) : Int) + 1 = t := by omega
    have em : (((m - 1).toNat : Nat) : Int) + 1 = m := by omega
    simp only [eh, et, em, if_true] at this
    simpa using this
  · have := unT_all ⟨(k - 1).toNat, by omega⟩ ⟨(h - 1).toNat, by omega⟩ ⟨(t - 1).toNat, by omega⟩ ⟨0, by omega⟩
    have ek : (((k - 1).toNat : Nat) : Int) + 1 = k := by omega
    have eh : (((h - 1).toNat : Nat) : Int) + 1 = h := by omega
    have et : (((t - 1).toNat : Nat) : Int) + 1 = t := by omega
    have e0 : ¬ (k - 1).toNat = 0 := by omega
    simp only [ek, eh, et, e0, if_false] at this
    exact this

theorem wTxt_inj {k h t m k' h' t' m' : Int} (e : wOk k h t m = true) (e' : wOk k' h' t' m' = true) (he : wTxt k h t m = wTxt k' h' t' m') : k = k' ∧ h = h' ∧ t = t' ∧ m = m' := by
  rw [wTxt_yes e, wTxt_yes e'] at he
  have h1 := unT_full e
  rw [he, unT_full e'] at h1
  simp only [Prod.mk.injEq] at h1
  omega

theorem wFull_size {k h t m : Int} (hk : 1 ≤ k ∧ k ≤ 7) : 8 ≤ (wFull k h t m).size ∧ (wFull k h t m).size ≤ 10 := by
  rcases seven hk with rfl | rfl | rfl | rfl | rfl | rfl | rfl <;> simp [wFull, wHead, ByteArray.size_append, nmS1, nmS2, nmS3, nmS4, nmS5, nmS6, nmS7, dgS, show sp.size = 1 from rfl]

theorem wTxt_empty {k h t m : Int} (e : wOk k h t m = true) : wTxt k h t m ≠ ⟨#[]⟩ := by
  rw [wTxt_yes e]
  intro h0
  have := (wFull_size (h := h) (t := t) (m := m) (wOk_parts e).1).1
  rw [h0] at this
  exact absurd this (by decide)

end Pl
end Go.Proofs.YtfpjohbcbflnhaaDoor
