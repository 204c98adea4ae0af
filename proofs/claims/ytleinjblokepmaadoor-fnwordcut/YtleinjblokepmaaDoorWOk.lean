/- Contracts of the functions that say whether a word is in form: the specification's, the program's, and the law's own copy of a word. For every word. -/
import Derived.Test.YtleinjblokepmaaDoorSmall
import Derived.Test.YtleinjblokepmaaDoorWPure
namespace Go.Proofs.YtleinjblokepmaaDoor
open Go.RowKit

theorem hidden {p : Prop} (h : p) : Hid p := h

/-- Four cells lie in block b. -/
def Quad (w : World) (b : Nat) (x y z u : Value) : Prop := w.cell? ⟨b, 0, none⟩ = some x ∧ w.cell? ⟨b, 1, none⟩ = some y ∧ w.cell? ⟨b, 2, none⟩ = some z ∧ w.cell? ⟨b, 3, none⟩ = some u
theorem Quad.lt {w : World} {b : Nat} {x y z u : Value} (h : Quad w b x y z u) : b < w.heap.size := by simpa using World.block_lt_of_cell? _ _ h.1
theorem Quad.later {B : Nat} {w w' : World} {b : Nat} {x y z u : Value} (h : Quad w b x y z u) (hb : Below B w w') (hB : w.heap.size ≤ B) : Quad w' b x y z u := by
  have hlt := h.lt
  obtain ⟨h0, h1, h2, h3⟩ := h
  exact ⟨by rw [← h0]; exact hb.cell (p := ⟨b, 0, none⟩) (by simp; omega), by rw [← h1]; exact hb.cell (p := ⟨b, 1, none⟩) (by simp; omega), by rw [← h2]; exact hb.cell (p := ⟨b, 2, none⟩) (by simp; omega), by rw [← h3]; exact hb.cell (p := ⟨b, 3, none⟩) (by simp; omega)⟩
theorem Quad.new (w : World) (x y z u : Value) (ty : TypeId) : Quad (w.alloc (.cells #[x, y, z, u] ty)) w.heap.size x y z u := by
  refine ⟨?_, ?_, ?_, ?_⟩ <;> simp

abbrev wordV (k h t m : Int) : Value := .agg #[.int .i64 k, .int .i64 h, .int .i64 t, .int .i64 m]

set_option maxHeartbeats 1000000 in
theorem specWordOk_any (k h t m : Int) (w : World) :
    Calls Tryd.prog 18 #[wordV k h t m] w fun e w' => e = .returned (.bool (Pl.wOk k h t m)) ∧ Below w.heap.size w w' := by
  cases e1 : Pl.inB h 1 3
  · rw [Pl.wOk_h e1]
    go_enter Tryd.func18, Tryd.ntmps18
    go_wp2_with (go_at_call 26; refine (in_any _ _ _ _).mono ?_; rintro e w' ⟨rfl, rfl⟩)
    go_ret
    exact ⟨rfl, (Below.refl _ _).alloc (Nat.le_refl _) _⟩
  cases e2 : Pl.inB t 1 6
  · rw [Pl.wOk_t e2]
    go_enter Tryd.func18, Tryd.ntmps18
    go_wp2_with (go_at_call 26; refine (in_any _ _ _ _).mono ?_; rintro e w' ⟨rfl, rfl⟩)
    go_ret
    exact ⟨rfl, (Below.refl _ _).alloc (Nat.le_refl _) _⟩
  cases e3 : Pl.inB k 1 7
  · rw [Pl.wOk_k e3]
    go_enter Tryd.func18, Tryd.ntmps18
    go_wp2_with (go_at_call 26; refine (in_any _ _ _ _).mono ?_; rintro e w' ⟨rfl, rfl⟩)
    go_ret
    exact ⟨rfl, (Below.refl _ _).alloc (Nat.le_refl _) _⟩
  rw [Pl.wOk_m e3 e1 e2]
  by_cases hk : k = 1
  · subst hk
    rw [Pl.wMany_1]
    go_enter Tryd.func18, Tryd.ntmps18
    go_wp2_with (go_at_call 26; refine (in_any _ _ _ _).mono ?_; rintro e w' ⟨rfl, rfl⟩)
    go_ret
    exact ⟨rfl, (Below.refl _ _).alloc (Nat.le_refl _) _⟩
  · rw [Pl.wMany_0 m hk]
    go_enter Tryd.func18, Tryd.ntmps18
    go_wp2_with (go_at_call 26; refine (in_any _ _ _ _).mono ?_; rintro e w' ⟨rfl, rfl⟩)
    go_ret
    exact ⟨rfl, (Below.refl _ _).alloc (Nat.le_refl _) _⟩

theorem wordMany_any (k m : Int) (w : World) :
    Calls Tryd.prog 22 #[.int .i64 k, .int .i64 m] w fun e w' => e = .returned (.bool (Pl.wMany k m)) ∧ w' = w := by
  by_cases hk : k = 1
  · subst hk
    rw [Pl.wMany_1]
    by_cases h1 : 1 ≤ m
    · by_cases h2 : m ≤ 3
      all_goals
        go_enter Tryd.func22, Tryd.ntmps22
        go_wp2
        go_ret
        exact ⟨by simp [Pl.inB]; omega, rfl⟩
    · go_enter Tryd.func22, Tryd.ntmps22
      go_wp2
      go_ret
      exact ⟨by simp [Pl.inB]; omega, rfl⟩
  · rw [Pl.wMany_0 m hk]
    go_enter Tryd.func22, Tryd.ntmps22
    go_wp2
    go_ret
    exact ⟨rfl, rfl⟩

set_option maxHeartbeats 2000000 in
theorem implWordOk_any (k h t m : Int) (w : World) :
    Calls Tryd.prog 11 #[wordV k h t m] w fun e w' => e = .returned (.bool (Pl.wOk k h t m)) ∧ Below w.heap.size w w' := by
  by_cases k1n : ¬ 1 ≤ k
  · rw [Pl.wOk_k (Pl.inB_lo (by omega))]
    go_enter Tryd.func11, Tryd.ntmps11
    go_wp2
    go_ret
    exact ⟨rfl, (Below.refl _ _).alloc (Nat.le_refl _) _⟩
  have k1 : 1 ≤ k := Decidable.not_not.1 k1n
  clear k1n
  by_cases k2n : ¬ k ≤ 7
  · rw [Pl.wOk_k (Pl.inB_hi (by omega))]
    go_enter Tryd.func11, Tryd.ntmps11
    go_wp2
    go_ret
    exact ⟨rfl, (Below.refl _ _).alloc (Nat.le_refl _) _⟩
  have k2 : k ≤ 7 := Decidable.not_not.1 k2n
  clear k2n
  by_cases h1n : ¬ 1 ≤ h
  · rw [Pl.wOk_h (Pl.inB_lo (by omega))]
    go_enter Tryd.func11, Tryd.ntmps11
    go_wp2
    go_ret
    exact ⟨rfl, (Below.refl _ _).alloc (Nat.le_refl _) _⟩
  have h1 : 1 ≤ h := Decidable.not_not.1 h1n
  clear h1n
  by_cases h2n : ¬ h ≤ 3
  · rw [Pl.wOk_h (Pl.inB_hi (by omega))]
    go_enter Tryd.func11, Tryd.ntmps11
    go_wp2
    go_ret
    exact ⟨rfl, (Below.refl _ _).alloc (Nat.le_refl _) _⟩
  have h2 : h ≤ 3 := Decidable.not_not.1 h2n
  clear h2n
  by_cases t1n : ¬ 1 ≤ t
  · rw [Pl.wOk_t (Pl.inB_lo (by omega))]
    go_enter Tryd.func11, Tryd.ntmps11
    go_wp2
    go_ret
    exact ⟨rfl, (Below.refl _ _).alloc (Nat.le_refl _) _⟩
  have t1 : 1 ≤ t := Decidable.not_not.1 t1n
  clear t1n
  by_cases t2n : ¬ t ≤ 6
  · rw [Pl.wOk_t (Pl.inB_hi (by omega))]
    go_enter Tryd.func11, Tryd.ntmps11
    go_wp2
    go_ret
    exact ⟨rfl, (Below.refl _ _).alloc (Nat.le_refl _) _⟩
  have t2 : t ≤ 6 := Decidable.not_not.1 t2n
  clear t2n
  rw [Pl.wOk_m (Pl.inB_mk k1 k2) (Pl.inB_mk h1 h2) (Pl.inB_mk t1 t2)]
  go_enter Tryd.func11, Tryd.ntmps11
  go_wp2_with (go_at_call 22; refine (wordMany_any _ _ _).mono ?_; rintro e w' ⟨rfl, rfl⟩)
  go_ret
  exact ⟨rfl, (Below.refl _ _).alloc (Nat.le_refl _) _⟩

end Go.Proofs.YtleinjblokepmaaDoor
