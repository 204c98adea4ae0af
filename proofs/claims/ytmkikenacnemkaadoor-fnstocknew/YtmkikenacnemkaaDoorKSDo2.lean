/- Contracts of the specification's l2Do and StockDo. For stocks of at most 1048576 holds and records of at most 1048576 numbers. -/
import Derived.Test.YtmkikenacnemkaaDoorKSDo
namespace Go.Proofs.YtmkikenacnemkaaDoor
open Go.RowKit

theorem setCell_mid (W : World) (b o : Nat) (x : Value) : Mid b (b + 1) W (W.setCell ⟨b, o, none⟩ x) :=
  ⟨rfl, rfl, rfl, by simp, fun k hk hh => Below.heap_setCell _ _ _ _ (by simp; omega)⟩
theorem Mid.then_below {lo hi : Nat} {w a b : World} (h : Mid lo hi w a) (hb : Below w.heap.size a b) : Mid lo hi w b :=
  ⟨hb.os.trans h.os, hb.tape.trans h.tape, hb.output.trans h.output, Nat.le_trans h.size hb.size, fun k hk hh => (hb.block k hk).trans (h.block k hk hh)⟩

/-- What a record that may come makes of its trip's hold, kind by kind. -/
theorem next_some {h : Pl.H} {m s k z F : Int} (e : Pl.next (m, s) k z F = some h) : (k = 1 ∧ h = (z, 1)) ∨ (k = 2 ∧ h = (m, 2)) ∨ (k = 3 ∧ h = (m, 3)) := by
  by_cases k1 : k = 1
  · subst k1
    rw [next_1] at e
    split at e
    · exact Or.inl ⟨rfl, (by simpa using e.symm)⟩
    · cases e
  by_cases k2 : k = 2
  · subst k2
    rw [next_2] at e
    split at e
    · exact Or.inr (Or.inl ⟨rfl, (by simpa using e.symm)⟩)
    · cases e
  by_cases k3 : k = 3
  · subst k3
    rw [next_3] at e
    split at e
    · exact Or.inr (Or.inr ⟨rfl, (by simpa using e.symm)⟩)
    · cases e
  · rw [next_x _ _ _ _ k1 k2 k3] at e; cases e
theorem behind_parts {room : Int} {hs : List Pl.H} {k t : Int} {zs : List Int} {h : Pl.H} (e : Pl.behind room hs k t zs = some h) : Pl.sOk room hs = true ∧ Pl.recOk k t zs = true ∧ Pl.next (Pl.hAt hs t) k (zs.headD 0) (Pl.free room hs) = some h := by
  cases hok : Pl.sOk room hs
  · rw [Pl.behind_stock k t zs hok] at e; cases e
  cases hr : Pl.recOk k t zs
  · rw [Pl.behind_rec room hs hr] at e; cases e
  · rw [Pl.behind_ok hok hr] at e; exact ⟨rfl, rfl, e⟩

theorem below4' (w : World) (o1 o2 o3 o4 : Obj) : Below w.heap.size w ((((w.alloc o1).alloc o2).alloc o3).alloc o4) := (below3 w o1 o2 o3).alloc (by simp; omega) o4

end Go.Proofs.YtmkikenacnemkaaDoor
