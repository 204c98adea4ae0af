/- Contract of the program's RecText. For every record whose numbers are at most 1048576, in a world in which the sentinel's variable holds a pointer to an errors.errorString and the other one the names of the kinds. -/
import Derived.Test.YtfpjohbcbflnhaaDoorEText2
namespace Go.Proofs.YtfpjohbcbflnhaaDoor
open Go.RowKit

/-- The entry of an ok record. -/
def entV (k t : Int) (zs : List Int) : Value := if k = 1 then holdV t (zs.headD 0) else if k = 4 then beginV t (zs.getD 0 0) (zs.getD 1 0) (zs.getD 2 0) else plainV k t

theorem manyOk_three {zs : List Int} (h : Pl.manyOk zs = true) : ∃ a c d, zs = [a, c, d] ∧ (0 ≤ a ∧ a ≤ 3) ∧ (0 ≤ c ∧ c ≤ 3) ∧ (0 ≤ d ∧ d ≤ 3) := by
  have h3 : zs.length = 3 := by
    by_cases e : zs.length = 3
    · exact e
    · rw [Pl.manyOk_len zs e] at h; cases h
  match zs, h3 with
  | [a, c, d], _ =>
    simp only [Pl.manyOk, List.all_cons, List.all_nil, Bool.and_true, Bool.and_eq_true] at h
    exact ⟨a, c, d, rfl, Pl.inB_true h.1.1.1, Pl.inB_true h.1.1.2.1, Pl.inB_true h.1.1.2.2⟩

set_option maxHeartbeats 2000000 in
theorem entryE (k t : Int) (v : Value) (zs : List Int) (w : World) (hv : Ints w v zs) (hr : Pl.recOk k t zs = true) :
    Calls Tryd.prog 23 #[.agg #[.int .i64 k, .int .i64 t, v]] w fun e w' => e = .returned (.tuple #[entV k t zs, .nilIface]) ∧ Below w.heap.size w w' := by
  have hv1 : Hid (∀ o, Ints (w.alloc o) v zs) := fun o => hv.later (alloc_below w o) (Nat.le_refl _)
  have ht : 1 ≤ t ∧ t ≤ 6 := by
    have h : Pl.inB t 1 6 = true := by
      simp only [Pl.recOk, Bool.and_eq_true] at hr; exact hr.1
    exact Pl.inB_true h
  obtain ⟨t1, t6⟩ := ht
  have hT := Pl.inB_mk t1 t6
  clear hv
  by_cases k1 : k = 1
  · subst k1
    rw [Pl.recOk_1 t zs hT] at hr
    obtain ⟨z, rfl, hz⟩ : ∃ z, zs = [z] ∧ Pl.inB z 1 3 = true := by
      simp only [Pl.holdOk, Bool.and_eq_true, beq_iff_eq] at hr
      obtain ⟨z, e⟩ := List.length_eq_one_iff.1 hr.1
      subst e; exact ⟨z, rfl, hr.2⟩
    have hz' := Pl.inB_true hz
    clear hT hr hz
    go_enter Tryd.func23, Tryd.ntmps23
    go_wp2_with (go_at_call 41; refine (holdE t z _ _ (hv1.out _) hz'.1 hz'.2).mono ?_; rintro e w' ⟨rfl, hb⟩)
    go_ret2
    exact ⟨rfl, below_after (by assumption)⟩
  by_cases k4 : k = 4
  · subst k4
    rw [Pl.recOk_4 t zs hT] at hr
    obtain ⟨a, c, d, rfl, -⟩ := manyOk_three hr
    clear hT
    go_enter Tryd.func23, Tryd.ntmps23
    go_wp2_with (go_at_call 42; refine (beginE t a c d _ _ (hv1.out _) hr).mono ?_; rintro e w' ⟨rfl, hb⟩)
    go_ret2
    exact ⟨rfl, below_after (by assumption)⟩
  · rw [Pl.recOk_p k t zs hT k1 k4, Bool.and_eq_true] at hr
    have hk := Pl.inB_true hr.1
    obtain rfl : zs = [] := List.length_eq_zero_iff.1 (by simpa using hr.2)
    have hE : Hid (entV k t [] = plainV k t) := by show _ = _; unfold entV; rw [if_neg k1, if_neg k4]
    rw [hE.out]
    clear hT hr hE
    have k5 : k = 2 ∨ k = 3 ∨ k = 5 ∨ k = 6 ∨ k = 7 := by omega
    rcases k5 with rfl | rfl | rfl | rfl | rfl
    all_goals
      go_enter Tryd.func23, Tryd.ntmps23
      go_wp2_with (go_at_call 43; refine (plainE _ t _ _ (hv1.out _)).mono ?_; rintro e w' ⟨rfl, hb⟩)
      go_ret2
      exact ⟨rfl, below_after (by assumption)⟩

theorem textE (k t : Int) (zs : List Int) (w : World) (hr : Pl.recOk k t zs = true) (hN : KindsAt w) :
    Calls Tryd.prog 25 #[entV k t zs] w fun e w' => e = .returned (.string (Pl.rTail (Pl.rHead k t) zs)) ∧ Below w.heap.size w w' := by
  have ht : 1 ≤ t ∧ t ≤ 6 := by
    have h : Pl.inB t 1 6 = true := by
      simp only [Pl.recOk, Bool.and_eq_true] at hr; exact hr.1
    exact Pl.inB_true h
  have hT := Pl.inB_mk ht.1 ht.2
  by_cases k1 : k = 1
  · subst k1
    rw [Pl.recOk_1 t zs hT] at hr
    obtain ⟨z, rfl, hz⟩ : ∃ z, zs = [z] ∧ Pl.inB z 1 3 = true := by
      simp only [Pl.holdOk, Bool.and_eq_true, beq_iff_eq] at hr
      obtain ⟨z, e⟩ := List.length_eq_one_iff.1 hr.1
      subst e; exact ⟨z, rfl, hr.2⟩
    have hz' := Pl.inB_true hz
    exact textH t z w (by omega) (by omega) (by omega) (by omega) hN
  by_cases k4 : k = 4
  · subst k4
    rw [Pl.recOk_4 t zs hT] at hr
    obtain ⟨a, c, d, rfl, ha, hc, hd⟩ := manyOk_three hr
    exact textB t a c d w (by omega) (by omega) (by omega) (by omega) (by omega) hN
  · rw [Pl.recOk_p k t zs hT k1 k4, Bool.and_eq_true] at hr
    have hk := Pl.inB_true hr.1
    obtain rfl : zs = [] := List.length_eq_zero_iff.1 (by simpa using hr.2)
    have hE : entV k t [] = plainV k t := by unfold entV; rw [if_neg k1, if_neg k4]
    rw [hE]
    have k5 : k = 2 ∨ k = 3 ∨ k = 5 ∨ k = 6 ∨ k = 7 := by omega
    rcases k5 with rfl | rfl | rfl | rfl | rfl
    · exact textP2 t w (by omega) (by omega) hN
    · exact textP3 t w (by omega) (by omega) hN
    · exact textP5 t w (by omega) (by omega) hN
    · exact textP6 t w (by omega) (by omega) hN
    · exact textP7 t w (by omega) (by omega) hN

set_option maxHeartbeats 2000000 in
theorem implRecText_any (k t : Int) (v : Value) (zs : List Int) (a : Addr) (w : World) (hv : Ints w v zs) (hl : zs.length ≤ 1048576) (ha : ErrAt w a) (hN : KindsAt w) :
    Calls Tryd.prog 9 #[.agg #[.int .i64 k, .int .i64 t, v]] w fun e w' => e = .returned (.string (Pl.rTxt k t zs)) ∧ Below w.heap.size w w' := by
  have hv1 : Hid (∀ o, Ints (w.alloc o) v zs) := fun o => hv.later (alloc_below w o) (Nat.le_refl _)
  have ha1 : Hid (∀ o, ErrAt (w.alloc o) a) := fun o => ha.later (alloc_below w o) (Nat.le_refl _)
  have hN1 : Hid (∀ o, KindsAt (w.alloc o)) := fun o => hN.later (alloc_below w o) (Nat.le_refl _)
  clear hv ha hN
  cases hr : Pl.recOk k t zs
  · rw [Pl.rTxt_no hr]
    have HR : Hid (Pl.recOk k t zs = false) := hr
    clear hr
    go_enter Tryd.func9, Tryd.ntmps9
    go_wp2_with (first
      | (go_at_call 23; refine (entry_no k t v zs a _ (hv1.out _) hl (ha1.out _) HR.out).mono ?_; rintro e w1 ⟨⟨ent, rfl⟩, hb⟩; have ha2 := (ha1.out _).later hb (Nat.le_refl _); unfold ErrAt at ha2)
      | (go_at_call 24; refine (is_same a _).mono ?_; rintro e w2 ⟨rfl, rfl⟩))
    go_ret
    exact ⟨rfl, below_after (by assumption)⟩
  · rw [Pl.rTxt_yes hr]
    have HR : Hid (Pl.recOk k t zs = true) := hr
    obtain ⟨E, hE⟩ : ∃ E, Hid (entV k t zs = E) := ⟨_, rfl⟩
    have HE : Hid (∀ W, Ints W v zs → Calls Tryd.prog 23 #[.agg #[.int .i64 k, .int .i64 t, v]] W fun e w' => e = .returned (.tuple #[E, .nilIface]) ∧ Below W.heap.size W w') := fun W hW => by rw [← hE.out]; exact entryE k t v zs W hW HR.out
    obtain ⟨X, hX⟩ : ∃ X, Hid (Pl.rTail (Pl.rHead k t) zs = X) := ⟨_, rfl⟩
    have HX : Hid (∀ W, KindsAt W → Calls Tryd.prog 25 #[E] W fun e w' => e = .returned (.string X) ∧ Below W.heap.size W w') := fun W hW => by rw [← hE.out, ← hX.out]; exact textE k t zs W HR.out hW
    rw [hX.out]
    clear hr hX hE
    go_enter Tryd.func9, Tryd.ntmps9
    go_wp2_with fail
    refine (HE.out _ (hv1.out _)).mono ?_
    rintro e w1 ⟨rfl, hb⟩
    have ha2 := (ha1.out (.cells #[.int .i64 k, .int .i64 t, v] 25)).later hb (Nat.le_refl _)
    have K2 := hidden ((hN1.out (.cells #[.int .i64 k, .int .i64 t, v] 25)).later hb (Nat.le_refl _))
    unfold ErrAt at ha2
    have B1 := hidden (below_after hb)
    clear hb
    go_wp2_with fail
    refine (is_nil a _).mono ?_
    rintro e w2 ⟨rfl, hw2⟩
    subst hw2
    go_wp2_with fail
    refine (HX.out _ K2.out).mono ?_
    rintro e w3 ⟨rfl, hb3⟩
    have B3 := hidden (B1.out.trans (hb3.mono B1.out.size))
    clear hb3 ha2
    go_wp2
    go_ret
    exact ⟨rfl, B3.out⟩

end Go.Proofs.YtfpjohbcbflnhaaDoor
