/- The contract of the program's WordRead: the word whose text it is, or that there is none. For every text. -/
import Derived.Test.YtleinjblokepmaaDoorWRWop
import Derived.Test.YtleinjblokepmaaDoorWRDec
import Derived.Test.YtleinjblokepmaaDoorWSText
namespace Go.Proofs.YtleinjblokepmaaDoor
open Go.RowKit

theorem Names8.at_ {w : World} (h : Names8 w) : NamesAt w := ⟨h 1 (by omega), h 2 (by omega), h 3 (by omega), h 4 (by omega), h 5 (by omega), h 6 (by omega), h 7 (by omega)⟩

/-- What WordRead gives. -/
def RdO (s : ByteArray) (e : Ending) : Prop := ∃ k h t m b, e = .returned (.tuple #[wordV k h t m, .bool b]) ∧ Pl.RdW s k h t m b

theorem str_ne {a b : ByteArray} (h : a ≠ b) : (a.toList == b.toList) = false := by
  rw [ByteArray.toList_eq, ByteArray.toList_eq]
  cases e : (a.data.toList == b.data.toList) with
  | false => rfl
  | true =>
    exfalso
    apply h
    have := Array.toList_inj.1 (by simpa using e)
    exact ByteArray.ext this

/-- The result's block, as it was made. -/
def ZeroB (w W : World) : Prop := (W.cell? ⟨w.heap.size, 0, none⟩ = some (.int .i64 0) ∧ W.cell? ⟨w.heap.size, 1, none⟩ = some (.int .i64 0) ∧ W.cell? ⟨w.heap.size, 2, none⟩ = some (.int .i64 0) ∧ W.cell? ⟨w.heap.size, 3, none⟩ = some (.int .i64 0)) ∧ ∀ j, W.frozen? ⟨w.heap.size, j, none⟩ = false
theorem zeroB {w W w0 : World} (h0 : w0 = w.alloc (.cells #[.int .i64 0, .int .i64 0, .int .i64 0, .int .i64 0] 24)) (hb : Below w0.heap.size w0 W) : ZeroB w W := by
  subst h0
  have q2 : W.heap[w.heap.size]? = some (.cells #[.int .i64 0, .int .i64 0, .int .i64 0, .int .i64 0] 24 (0, 0)) := by
    rw [hb.block _ (by simp)]; exact heap_alloc_new w _
  refine ⟨⟨?_, ?_, ?_, ?_⟩, fun j => frozen_of_row _ _ _ _ _ q2⟩ <;> rw [cell_of_row _ _ _ _ _ _ q2] <;> rfl

set_option maxHeartbeats 4000000 in
theorem implRead_any (s : ByteArray) (w : World) (hN : Names8 w) (hE : ErrV w) :
    Calls Tryd.prog 10 #[.string s] w fun e w' => RdO s e ∧ Below w.heap.size w w' := by
  by_cases hs : 20 < s.size
  · have hsi : (20 : Int) < (s.size : Int) := by omega
    have HR := hidden (Pl.RdW.long (s := s) (by omega))
    go_enter Tryd.func10, Tryd.ntmps10
    go_wp2
    exact bodyPost_ret (v := .tuple #[wordV 0 0 0 0, .bool false]) (by simp [results, Tryd.results10, go_sem]) rfl ⟨⟨0, 0, 0, 0, false, rfl, HR.out⟩, (Below.refl _ _).alloc (Nat.le_refl _) _⟩
  · have hsi : ¬ (20 : Int) < (s.size : Int) := by omega
    have hs1 : s.size ≤ 1000 := by omega
    obtain ⟨w0, hw0⟩ : ∃ W, Hid (W = w.alloc (.cells #[.int .i64 0, .int .i64 0, .int .i64 0, .int .i64 0] 24)) := ⟨_, rfl⟩
    have B0 : Hid (Below w.heap.size w w0) := by show Below _ _ _; rw [hw0.out]; exact (Below.refl _ _).alloc (Nat.le_refl _) _
    have HN : Hid (∀ W, Below w0.heap.size w0 W → NamesAt W) := fun W hb => (hN.later (B0.out.trans (hb.mono B0.out.size)) (Nat.le_refl _)).at_
    have HW := hidden (wop_any s w0 hs1 (hN.later B0.out (Nat.le_refl _)) (hE.later B0.out (Nat.le_refl _)))
    clear hN hE
    go_enter Tryd.func10, Tryd.ntmps10
    go_wp2_with fail
    rw [← hw0.out]
    refine HW.out.mono ?_
    rintro e w1 ⟨k, h, t, m, rfl, hw, hb1⟩
    obtain ⟨R1, R2⟩ := Pl.RdW.prog hw
    have B1 := hidden hb1
    have H1 := hidden R1
    have H2 := hidden R2
    have HOK := hidden (implWordOk_any k h t m)
    obtain ⟨wb, hwb⟩ : ∃ W, Hid (W = w1.alloc (.cells #[.int .i64 k, .int .i64 h, .int .i64 t, .int .i64 m] 24)) := ⟨_, rfl⟩
    have BB : Hid (Below w0.heap.size w0 wb) := by show Below _ _ _; rw [hwb.out]; exact hb1.alloc hb1.size _
    have QB : Hid (Quad wb w1.heap.size (.int .i64 k) (.int .i64 h) (.int .i64 t) (.int .i64 m)) := by show Quad _ _ _ _ _ _; rw [hwb.out]; exact Quad.new _ _ _ _ _ _
    clear hb1 R1 R2 hw HW B1
    cases e1 : Pl.wOk k h t m
    · rw [e1] at HOK
      have H3 := hidden (H2.out (.inl e1))
      clear e1
      go_wp2_with fail
      rw [← hwb.out]
      refine (HOK.out _).mono ?_
      rintro e w2 ⟨rfl, hb2⟩
      have B2 := hidden (BB.out.trans (hb2.mono BB.out.size))
      clear hb2
      obtain ⟨⟨z0, z1, z2, z3⟩, zf⟩ := zeroB hw0.out B2.out
      go_wp2
      exact bodyPost_ret (v := .tuple #[wordV 0 0 0 0, .bool false]) (by simp [results, Tryd.results10, go_sem, z0, z1, z2, z3]) rfl ⟨⟨_, _, _, _, false, rfl, H3.out⟩, below4 (B0.out.trans (B2.out.mono B0.out.size)) (Nat.le_refl _) _ _ _ _⟩
    · rw [e1] at HOK
      have HT := hidden (implText_any k h t m)
      obtain ⟨T, hT⟩ : ∃ T, Hid (Pl.wTxt k h t m = T) := ⟨_, rfl⟩
      rw [hT.out] at HT
      by_cases hTs : T = s
      · have H3 := hidden (H1.out ⟨e1, hT.out.trans hTs⟩)
        clear e1
        subst hTs
        obtain ⟨q0, q1, q2, q3⟩ := QB.out
        go_wp2_with fail
        rw [← hwb.out]
        refine (HOK.out _).mono ?_
        rintro e w2 ⟨rfl, hb2⟩
        have B2 := hidden (BB.out.trans (hb2.mono BB.out.size))
        have Q2 := hidden (QB.out.later hb2 (Nat.le_refl _))
        clear hb2 q0 q1 q2 q3
        obtain ⟨q0, q1, q2, q3⟩ := Q2.out
        go_wp2_with fail
        refine (HT.out _ (HN.out _ B2.out)).mono ?_
        rintro e w3 ⟨rfl, hb3⟩
        have B3 := hidden (B2.out.trans (hb3.mono B2.out.size))
        have Q3 := hidden (Q2.out.later hb3 (Nat.le_refl _))
        clear hb3 q0 q1 q2 q3
        obtain ⟨q0, q1, q2, q3⟩ := Q3.out
        obtain ⟨⟨z0, z1, z2, z3⟩, zf⟩ := zeroB hw0.out B3.out
        go_wp2
        exact bodyPost_ret (v := .tuple #[wordV k h t m, .bool true]) (by simp [results, Tryd.results10, go_sem, z0, z1, z2, z3]) rfl ⟨⟨_, _, _, _, true, rfl, H3.out⟩, below4 (B0.out.trans (B3.out.mono B0.out.size)) (Nat.le_refl _) _ _ _ _⟩
      · have H3 := hidden (H2.out (.inr (by rw [hT.out]; exact hTs)))
        clear e1
        have hne := str_ne hTs
        clear hTs
        obtain ⟨q0, q1, q2, q3⟩ := QB.out
        go_wp2_with fail
        rw [← hwb.out]
        refine (HOK.out _).mono ?_
        rintro e w2 ⟨rfl, hb2⟩
        have B2 := hidden (BB.out.trans (hb2.mono BB.out.size))
        have Q2 := hidden (QB.out.later hb2 (Nat.le_refl _))
        clear hb2 q0 q1 q2 q3
        obtain ⟨q0, q1, q2, q3⟩ := Q2.out
        go_wp2_with fail
        refine (HT.out _ (HN.out _ B2.out)).mono ?_
        rintro e w3 ⟨rfl, hb3⟩
        have B3 := hidden (B2.out.trans (hb3.mono B2.out.size))
        have Q3 := hidden (Q2.out.later hb3 (Nat.le_refl _))
        clear hb3 q0 q1 q2 q3
        obtain ⟨q0, q1, q2, q3⟩ := Q3.out
        obtain ⟨⟨z0, z1, z2, z3⟩, zf⟩ := zeroB hw0.out B3.out
        go_wp2
        exact bodyPost_ret (v := .tuple #[wordV 0 0 0 0, .bool false]) (by simp [results, Tryd.results10, go_sem, z0, z1, z2, z3]) rfl ⟨⟨_, _, _, _, false, rfl, H3.out⟩, below4 (B0.out.trans (B3.out.mono B0.out.size)) (Nat.le_refl _) _ _ _ _⟩

end Go.Proofs.YtleinjblokepmaaDoor
