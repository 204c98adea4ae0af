/- The contract of the program's LogFall at whatever list a call itself has made, nil among them. For all that together has at most 1048576 records and numbers, in a world in which the sentinel's variable holds a pointer to an errors.errorString. -/
import Derived.Test.YtckafpmhhoeodaaDoorIFall
namespace Go.Proofs.YtckafpmhhoeodaaDoor
open Go.RowKit

/-- The slice of a list that the call itself has made, or nil. -/
def Form (v : Value) (n : Nat) : Prop := (v = .slice none 0 0 ∧ n = 0) ∨ ∃ g cap, v = .slice (some ⟨g, 0, none⟩) n cap ∧ n ≤ cap
theorem form_of_row {w : World} {base : Nat} {e : TypeId} {size : Nat} {v : Value} {n : Nat} {xs : List Value} (h : w.ownsRow base e size v n xs) : Form v n := by
  rcases h.2 with h | ⟨g, cap, cur, hv, _, _, hc, _⟩
  · exact Or.inl h
  · exact Or.inr ⟨g, cap, hv, hc⟩

set_option maxHeartbeats 4000000 in
theorem implFall_nil (f keep : Int) (a : Addr) (w : World) (ha : ErrAt w a) :
    Calls Tryd.prog 23 #[.agg #[.slice none 0 0, .int .i64 f], .int .i64 keep] w fun e w' => LogOut w w' e (fallR [] f keep) (fallF [] f keep) := by
  have hv : Recs w (.slice none 0 0) [] := Or.inl ⟨rfl, none, 0, rfl⟩
  have HV : Hid (∀ W, Below w.heap.size w W → Recs W (.slice none 0 0) []) := fun W h => hv.later h (Nat.le_refl _)
  have HA : Hid (∀ W, Below w.heap.size w W → ErrAt W a) := fun W h => ha.later h (Nat.le_refl _)
  have HT : Hid (∀ o, Two ((w.alloc (.cells #[.slice none 0 0, .int .i64 f] 25)).alloc o) w.heap.size (.slice none 0 0) (.int .i64 f)) := fun o => Two.later (show Two _ _ _ _ from box2 w _ _ _) (alloc_below _ o) (Nat.le_refl _)
  clear hv ha
  have HS : Hid (∀ o1 o2, Calls Tryd.prog 44 #[.agg #[.slice none 0 0, .int .i64 f]] ((w.alloc o1).alloc o2) fun e w' => e = .returned (.bool (logOk [] f)) ∧ Below ((w.alloc o1).alloc o2).heap.size ((w.alloc o1).alloc o2) w') := fun o1 o2 =>
    implLogOk_any _ [] f a _ (HV.out _ (below2 w o1 o2)) (by simp [tot, pre]) (HA.out _ (below2 w o1 o2))
  cases hok : logOk [] f
  · have HR : Hid (fallR [] f keep = [] ∧ fallF [] f keep = 0) := by constructor <;> simp [fallR, fallF, hok]
    rw [hok] at HS
    clear hok
    go_enter Tryd.func23, Tryd.ntmps23
    go_wp2_with fail
    refine (HS.out _ _).mono ?_
    rintro e w1 ⟨rfl, hb⟩
    obtain ⟨hc, hf⟩ := bcell hb
    have hz : w.heap.size + 2 ≤ w1.heap.size := by have := hb.size; rw [size2] at this; exact this
    rw [size2] at hc hf
    have HB := hide_it ((below2 w _ _).trans (hb.mono (by simp; omega)))
    clear hb
    go_wp2
    refine bodyPost_ret (v := .agg #[.slice none 0 0, .int .i64 0]) (by simp [results, Tryd.results23, go_sem, hc]) rfl ?_
    unfold LogOut
    rw [HR.out.1, HR.out.2]
    refine ⟨none, 0, rfl, Made.none _ _, ?_⟩
    exact (HB.out.setCell (by simp) _).setCell (by simp) _
  · obtain ⟨hf0, hfn, _⟩ := logOk_f hok
    obtain rfl : f = 0 := by simp at hfn; omega
    have HR : Hid (fallR [] 0 keep = [] ∧ fallF [] 0 keep = 0) := by
      constructor
      · simp [fallR]
      · simp only [fallF, hok, if_true]
        have := fallN_le (n := 0) (f := 0) (keep := keep) (by omega) (by omega)
        simp at this ⊢
        omega
    rw [hok] at HS
    clear hok hf0 hfn
    have HFC : Hid (∀ W, Below w.heap.size w W → Calls Tryd.prog 45 #[.slice none 0 0] W fun e w' => ∃ ao cap, e = .returned (.agg #[.slice ao 0 cap, .int .i64 0]) ∧ Made w' W.heap.size (.slice ao 0 cap) [] ∧ Below W.heap.size W w') := fun W h =>
      forced_any _ [] W (HV.out _ h) (by simp [tot, pre])
    by_cases hk : keep < 0
    · go_enter Tryd.func23, Tryd.ntmps23
      go_wp2_with fail
      refine (HS.out _ _).mono ?_
      rintro e w1 ⟨rfl, hb⟩
      have HB := hide_it ((below2 w _ _).trans (hb.mono (by simp; omega)))
      have HZ : Hid (Zero2 w1 (w.heap.size + 1)) := Zero2.later (by exact Zero2.new2 _ _ _) hb (by simp)
      obtain ⟨t0, t1⟩ := (HT.out _).later hb (Nat.le_refl _)
      have hz : w.heap.size + 2 ≤ w1.heap.size := by have := hb.size; rw [size2] at this; exact this
      clear hb
      go_wp2_with fail
      refine (HFC.out _ HB.out).mono ?_
      rintro e w2 ⟨ao, cap, rfl, hm, hb2⟩
      have HM := hide_it hm
      have HB2 := hide_it (HB.out.trans (hb2.mono HB.out.size))
      obtain ⟨r0, r1, z0, z1⟩ := HZ.out.later hb2 (by omega)
      clear hm hb2
      go_wp2
      refine bodyPost_ret (v := .agg #[.slice ao 0 cap, .int .i64 0]) (by simp [results, Tryd.results23, go_sem, r0, r1]) rfl ?_
      unfold LogOut
      rw [HR.out.1, HR.out.2]
      refine ⟨ao, cap, rfl, ?_, ?_⟩
      · exact ((HM.out.setBelow (by simp; omega) _).setBelow (by simp; omega) _).lo (by omega)
      · exact (HB2.out.setCell (by simp) _).setCell (by simp) _
    by_cases hk0 : keep = 0
    · subst hk0
      go_enter Tryd.func23, Tryd.ntmps23
      go_wp2_with fail
      refine (HS.out _ _).mono ?_
      rintro e w1 ⟨rfl, hb⟩
      have HB := hide_it ((below2 w _ _).trans (hb.mono (by simp; omega)))
      have HZ : Hid (Zero2 w1 (w.heap.size + 1)) := Zero2.later (by exact Zero2.new2 _ _ _) hb (by simp)
      obtain ⟨t0, t1⟩ := (HT.out _).later hb (Nat.le_refl _)
      have hz : w.heap.size + 2 ≤ w1.heap.size := by have := hb.size; rw [size2] at this; exact this
      clear hb
      go_wp2_with fail
      refine (HFC.out _ HB.out).mono ?_
      rintro e w2 ⟨ao, cap, rfl, hm, hb2⟩
      have HM := hide_it hm
      have HB2 := hide_it (HB.out.trans (hb2.mono HB.out.size))
      obtain ⟨r0, r1, z0, z1⟩ := HZ.out.later hb2 (by omega)
      clear hm hb2
      go_wp2
      refine bodyPost_ret (v := .agg #[.slice ao 0 cap, .int .i64 0]) (by simp [results, Tryd.results23, go_sem, r0, r1]) rfl ?_
      unfold LogOut
      rw [HR.out.1, HR.out.2]
      refine ⟨ao, cap, rfl, ?_, ?_⟩
      · exact ((HM.out.setBelow (by simp; omega) _).setBelow (by simp; omega) _).lo (by omega)
      · exact (HB2.out.setCell (by simp) _).setCell (by simp) _
    · have hk1 : 0 < keep := by omega
      go_enter Tryd.func23, Tryd.ntmps23
      go_wp2_with fail
      refine (HS.out _ _).mono ?_
      rintro e w1 ⟨rfl, hb⟩
      have HB := hide_it ((below2 w _ _).trans (hb.mono (by simp; omega)))
      have HZ : Hid (Zero2 w1 (w.heap.size + 1)) := Zero2.later (by exact Zero2.new2 _ _ _) hb (by simp)
      obtain ⟨t0, t1⟩ := (HT.out _).later hb (Nat.le_refl _)
      have hz : w.heap.size + 2 ≤ w1.heap.size := by have := hb.size; rw [size2] at this; exact this
      clear hb
      go_wp2_with fail
      refine (HFC.out _ HB.out).mono ?_
      rintro e w2 ⟨ao, cap, rfl, hm, hb2⟩
      have HM := hide_it hm
      have HB2 := hide_it (HB.out.trans (hb2.mono HB.out.size))
      obtain ⟨r0, r1, z0, z1⟩ := HZ.out.later hb2 (by omega)
      clear hm hb2
      go_wp2
      refine bodyPost_ret (v := .agg #[.slice ao 0 cap, .int .i64 0]) (by simp [results, Tryd.results23, go_sem, r0, r1]) rfl ?_
      unfold LogOut
      rw [HR.out.1, HR.out.2]
      refine ⟨ao, cap, rfl, ?_, ?_⟩
      · exact ((HM.out.setBelow (by simp; omega) _).setBelow (by simp; omega) _).lo (by omega)
      · exact (HB2.out.setCell (by simp) _).setCell (by simp) _

/-- Whatever list the call itself has made. -/
theorem implFall_form (v : Value) (rs : List R) (f keep : Int) (a : Addr) (w : World) (hv : Recs w v rs) (hf : Form v rs.length) (hl : tot rs ≤ 1048576) (ha : ErrAt w a) :
    Calls Tryd.prog 23 #[.agg #[v, .int .i64 f], .int .i64 keep] w fun e w' => LogOut w w' e (fallR rs f keep) (fallF rs f keep) := by
  rcases hf with ⟨rfl, hn⟩ | ⟨g, cap, rfl, hc⟩
  · obtain rfl : rs = [] := List.length_eq_zero_iff.1 hn
    exact implFall_nil f keep a w ha
  · exact implFall_any g 0 cap rs f keep a w hv hc hl ha

end Go.Proofs.YtckafpmhhoeodaaDoor
