/- What the last text of this claim stands on, part 5: plain facts and contracts; the last text says what is proved. -/
import Derived.Test.YtkkkdgpbmmjieaaGreatDoorWorldHoldsCardPart4
import Derived.Deep.RegionHeld
import Derived.Deep.RegionHeldLaw
import Derived.BigQuiet

namespace Go.Proofs.YtkkkdgpbmmjieaaGreatDoor
open Go.RowKit

theorem Made.form {w : World} {lo cap : Nat} {ao : Option Addr} {rs : List R} (h : Made w lo (.slice ao rs.length cap) rs) : (ao = Option.none ∧ rs = [] ∧ cap = 0) ∨ ∃ g, ao = some ⟨g, 0, Option.none⟩ ∧ rs.length ≤ cap := by
  obtain ⟨ps, hp, h1, _, _⟩ := h
  have hpl : ps.length = rs.length := by have := congrArg List.length hp; simpa using this
  rcases h1.2 with ⟨hv, hn⟩ | ⟨g, cp, cur, hv, hg, hh, hnc, _⟩
  · simp only [Value.slice.injEq] at hv
    exact Or.inl ⟨hv.1, List.length_eq_zero_iff.1 hv.2.1, hv.2.2⟩
  · simp only [Value.slice.injEq] at hv
    exact Or.inr ⟨g, hv.1, by omega⟩

set_option maxHeartbeats 4000000 in
theorem implFall_any (b off cv : Nat) (rs : List R) (f keep : Int) (a : Addr) (w : World) (hv : Recs w (.slice (some ⟨b, off, none⟩) rs.length cv) rs) (hcv : rs.length ≤ cv) (hl : tot rs ≤ 1048576) (ha : ErrAt w a) :
    Calls Tryz.prog 148 #[.agg #[.slice (some ⟨b, off, none⟩) rs.length cv, .int .i64 f], .int .i64 keep] w fun e w' => LogOut w w' e (fallR rs f keep) (fallF rs f keep) := by
  have hrl := tot_len rs
  have HV : Hid (∀ W, Below w.heap.size w W → Recs W (.slice (some ⟨b, off, none⟩) rs.length cv) rs) := fun W h => hv.later h (Nat.le_refl _)
  have HA : Hid (∀ W, Below w.heap.size w W → ErrAt W a) := fun W h => ha.later h (Nat.le_refl _)
  have HT : Hid (∀ o, Two ((w.alloc (.cells #[.slice (some ⟨b, off, none⟩) rs.length cv, .int .i64 f] 35)).alloc o) w.heap.size (.slice (some ⟨b, off, none⟩) rs.length cv) (.int .i64 f)) := fun o => Two.later (show Two _ _ _ _ from box2 w _ _ _) (alloc_below _ o) (Nat.le_refl _)
  clear hv ha
  have HS : Hid (∀ o1 o2, Calls Tryz.prog 123 #[.agg #[.slice (some ⟨b, off, none⟩) rs.length cv, .int .i64 f]] ((w.alloc o1).alloc o2) fun e w' => e = .returned (.bool (logOk rs f)) ∧ Below ((w.alloc o1).alloc o2).heap.size ((w.alloc o1).alloc o2) w') := fun o1 o2 =>
    implLogOk_any _ rs f a _ (HV.out _ (below2 w o1 o2)) hl (HA.out _ (below2 w o1 o2))
  cases hok : logOk rs f
  · have HR : Hid (fallR rs f keep = [] ∧ fallF rs f keep = 0) := by constructor <;> simp [fallR, fallF, hok]
    rw [hok] at HS
    clear hok
    go_enter Tryz.func148, Tryz.ntmps148
    go_wp2_with fail
    refine (HS.out _ _).mono ?_
    rintro e w1 ⟨rfl, hb⟩
    obtain ⟨hc, hf⟩ := bcell hb
    have hz : w.heap.size + 2 ≤ w1.heap.size := by have := hb.size; rw [size2] at this; exact this
    rw [size2] at hc hf
    have HB := hide_it ((below2 w _ _).trans (hb.mono (by simp; omega)))
    clear hb
    go_wp2
    refine bodyPost_ret (v := .agg #[.slice none 0 0, .int .i64 0]) (by simp [results, Tryz.results148, go_sem, hc]) rfl ?_
    unfold LogOut
    rw [HR.out.1, HR.out.2]
    refine ⟨none, 0, rfl, Made.none _ _, ?_⟩
    exact (HB.out.setCell (by simp) _).setCell (by simp) _
  · obtain ⟨hf0, hfn, _⟩ := logOk_f hok
    obtain ⟨N, hN⟩ : ∃ N, Hid (N = fallN rs.length f keep) := ⟨_, rfl⟩
    have hNl : N ≤ rs.length := by rw [hN.out]; exact fallN_le hf0 hfn
    have HR : Hid (fallR rs f keep = rs.take N ∧ fallF rs f keep = N) := by rw [hN.out]; constructor <;> simp [fallR, fallF, hok]
    rw [hok] at HS
    clear hok
    have HLN : Hid ((rs.take N).length = N) := by show _ = _; rw [List.length_take]; omega
    have HFC : Hid (∀ W, Below w.heap.size w W → Calls Tryz.prog 176 #[.slice (some ⟨b, off, none⟩) N cv] W fun e w' => ∃ ao cap, e = .returned (.agg #[.slice ao N cap, .int .i64 N]) ∧ Made w' W.heap.size (.slice ao N cap) (rs.take N) ∧ Below W.heap.size W w') := fun W h => by
      have h2 := forced_any _ (rs.take N) W ((HV.out _ h).take hNl) (Nat.le_trans (pre_take rs N hNl) hl)
      unfold LogOut at h2
      rw [HLN.out] at h2
      exact h2
    -- how many are left, in the walk's own words
    obtain ⟨F, rfl⟩ := Int.eq_ofNat_of_zero_le hf0
    by_cases hk : keep < 0
    · have hNF : N = F := by rw [hN.out, fallN_lo (by omega)]
      subst hNF
      go_enter Tryz.func148, Tryz.ntmps148
      go_wp2_with fail
      refine (HS.out _ _).mono ?_
      rintro e w1 ⟨rfl, hb⟩
      have HB := hide_it ((below2 w _ _).trans (hb.mono (by simp; omega)))
      have HZ : Hid (Zero2 w1 (w.heap.size + 1)) := Zero2.later (by exact Zero2.new2 _ _ _) hb (by simp)
      obtain ⟨t0, t1⟩ := (HT.out _).later hb (Nat.le_refl _)
      have hz : w.heap.size + 2 ≤ w1.heap.size := by have := hb.size; rw [size2] at this; exact this
      clear hb
      go_wp2_with fail
      refine (HFC.out _ HB.out).mono ?_
      rintro e w2 ⟨ao, cap, rfl, hm, hb2⟩
      have HM := hide_it hm
      have HB2 := hide_it (HB.out.trans (hb2.mono HB.out.size))
      obtain ⟨r0, r1, z0, z1⟩ := HZ.out.later hb2 (by omega)
      clear hm hb2
      go_wp2
      refine bodyPost_ret (v := .agg #[.slice ao N cap, .int .i64 ((N : Nat) : Int)]) (by simp [results, Tryz.results148, go_sem, r0, r1]) rfl ?_
      unfold LogOut
      rw [HR.out.1, HR.out.2, HLN.out]
      refine ⟨ao, cap, rfl, ?_, ?_⟩
      · exact ((HM.out.setBelow (by simp; omega) _).setBelow (by simp; omega) _).lo (by omega)
      · exact (HB2.out.setCell (by simp) _).setCell (by simp) _
    by_cases hk0 : keep = 0
    · subst hk0
      have hNF : N = F := by rw [hN.out, fallN_lo (by omega)]
      subst hNF
      go_enter Tryz.func148, Tryz.ntmps148
      go_wp2_with fail
      refine (HS.out _ _).mono ?_
      rintro e w1 ⟨rfl, hb⟩
      have HB := hide_it ((below2 w _ _).trans (hb.mono (by simp; omega)))
      have HZ : Hid (Zero2 w1 (w.heap.size + 1)) := Zero2.later (by exact Zero2.new2 _ _ _) hb (by simp)
      obtain ⟨t0, t1⟩ := (HT.out _).later hb (Nat.le_refl _)
      have hz : w.heap.size + 2 ≤ w1.heap.size := by have := hb.size; rw [size2] at this; exact this
      clear hb
      go_wp2_with fail
      refine (HFC.out _ HB.out).mono ?_
      rintro e w2 ⟨ao, cap, rfl, hm, hb2⟩
      have HM := hide_it hm
      have HB2 := hide_it (HB.out.trans (hb2.mono HB.out.size))
      obtain ⟨r0, r1, z0, z1⟩ := HZ.out.later hb2 (by omega)
      clear hm hb2
      go_wp2
      refine bodyPost_ret (v := .agg #[.slice ao N cap, .int .i64 ((N : Nat) : Int)]) (by simp [results, Tryz.results148, go_sem, r0, r1]) rfl ?_
      unfold LogOut
      rw [HR.out.1, HR.out.2, HLN.out]
      refine ⟨ao, cap, rfl, ?_, ?_⟩
      · exact ((HM.out.setBelow (by simp; omega) _).setBelow (by simp; omega) _).lo (by omega)
      · exact (HB2.out.setCell (by simp) _).setCell (by simp) _
    obtain ⟨K, rfl⟩ := Int.eq_ofNat_of_zero_le (show 0 ≤ keep by omega)
    by_cases hlt : (K : Int) ≤ rs.length - F
    · have hNF : N = F + K := by rw [hN.out, fallN_mid (by omega) hlt]
      subst hNF
      have hle : F + K ≤ rs.length := by omega
      go_enter Tryz.func148, Tryz.ntmps148
      go_wp2_with fail
      refine (HS.out _ _).mono ?_
      rintro e w1 ⟨rfl, hb⟩
      have HB := hide_it ((below2 w _ _).trans (hb.mono (by simp; omega)))
      have HZ : Hid (Zero2 w1 (w.heap.size + 1)) := Zero2.later (by exact Zero2.new2 _ _ _) hb (by simp)
      obtain ⟨t0, t1⟩ := (HT.out _).later hb (Nat.le_refl _)
      have hz : w.heap.size + 2 ≤ w1.heap.size := by have := hb.size; rw [size2] at this; exact this
      clear hb
      go_wp2_with fail
      refine (HFC.out _ HB.out).mono ?_
      rintro e w2 ⟨ao, cap, rfl, hm, hb2⟩
      have HM := hide_it hm
      have HB2 := hide_it (HB.out.trans (hb2.mono HB.out.size))
      obtain ⟨r0, r1, z0, z1⟩ := HZ.out.later hb2 (by omega)
      clear hm hb2
      go_wp2
      refine bodyPost_ret (v := .agg #[.slice ao (F + K) cap, .int .i64 (((F + K) : Nat) : Int)]) (by simp [results, Tryz.results148, go_sem, r0, r1]) rfl ?_
      unfold LogOut
      rw [HR.out.1, HR.out.2, HLN.out]
      refine ⟨ao, cap, rfl, ?_, ?_⟩
      · exact ((HM.out.setBelow (by simp; omega) _).setBelow (by simp; omega) _).lo (by omega)
      · exact (HB2.out.setCell (by simp) _).setCell (by simp) _
    · have hNF : N = rs.length := by rw [hN.out, fallN_all (by omega) hlt]
      subst hNF
      have HE : Hid ((F : Int) + ((rs.length : Int) - F) = rs.length) := by show _ = _; omega
      have HE2 : Hid (F + (rs.length - F) = rs.length) := by show _ = _; omega
      go_enter Tryz.func148, Tryz.ntmps148
      go_wp2_with fail
      refine (HS.out _ _).mono ?_
      rintro e w1 ⟨rfl, hb⟩
      have HB := hide_it ((below2 w _ _).trans (hb.mono (by simp; omega)))
      have HZ : Hid (Zero2 w1 (w.heap.size + 1)) := Zero2.later (by exact Zero2.new2 _ _ _) hb (by simp)
      obtain ⟨t0, t1⟩ := (HT.out _).later hb (Nat.le_refl _)
      have hz : w.heap.size + 2 ≤ w1.heap.size := by have := hb.size; rw [size2] at this; exact this
      clear hb
      go_wp2_with fail
      rw [HE.out, HE2.out]
      refine (HFC.out _ HB.out).mono ?_
      rintro e w2 ⟨ao, cap, rfl, hm, hb2⟩
      have HM := hide_it hm
      have HB2 := hide_it (HB.out.trans (hb2.mono HB.out.size))
      obtain ⟨r0, r1, z0, z1⟩ := HZ.out.later hb2 (by omega)
      clear hm hb2
      go_wp2
      refine bodyPost_ret (v := .agg #[.slice ao rs.length cap, .int .i64 ((rs.length : Nat) : Int)]) (by simp [results, Tryz.results148, go_sem, r0, r1]) rfl ?_
      unfold LogOut
      rw [HR.out.1, HR.out.2, HLN.out]
      refine ⟨ao, cap, rfl, ?_, ?_⟩
      · exact ((HM.out.setBelow (by simp; omega) _).setBelow (by simp; omega) _).lo (by omega)
      · exact (HB2.out.setCell (by simp) _).setCell (by simp) _

end Go.Proofs.YtkkkdgpbmmjieaaGreatDoor

namespace Go.Proofs.YtkkkdgpbmmjieaaGreatDoor
open Go.RowKit

/-- The slice of a list that the call itself has made, or nil. -/
def Form (v : Value) (n : Nat) : Prop := (v = .slice none 0 0 ∧ n = 0) ∨ ∃ g cap, v = .slice (some ⟨g, 0, none⟩) n cap ∧ n ≤ cap
theorem form_of_row {w : World} {base : Nat} {e : TypeId} {size : Nat} {v : Value} {n : Nat} {xs : List Value} (h : w.ownsRow base e size v n xs) : Form v n := by
  rcases h.2 with h | ⟨g, cap, cur, hv, _, _, hc, _⟩
  · exact Or.inl h
  · exact Or.inr ⟨g, cap, hv, hc⟩

set_option maxHeartbeats 4000000 in
theorem implFall_nil (f keep : Int) (a : Addr) (w : World) (ha : ErrAt w a) :
    Calls Tryz.prog 148 #[.agg #[.slice none 0 0, .int .i64 f], .int .i64 keep] w fun e w' => LogOut w w' e (fallR [] f keep) (fallF [] f keep) := by
  have hv : Recs w (.slice none 0 0) [] := Or.inl ⟨rfl, none, 0, rfl⟩
  have HV : Hid (∀ W, Below w.heap.size w W → Recs W (.slice none 0 0) []) := fun W h => hv.later h (Nat.le_refl _)
  have HA : Hid (∀ W, Below w.heap.size w W → ErrAt W a) := fun W h => ha.later h (Nat.le_refl _)
  have HT : Hid (∀ o, Two ((w.alloc (.cells #[.slice none 0 0, .int .i64 f] 35)).alloc o) w.heap.size (.slice none 0 0) (.int .i64 f)) := fun o => Two.later (show Two _ _ _ _ from box2 w _ _ _) (alloc_below _ o) (Nat.le_refl _)
  clear hv ha
  have HS : Hid (∀ o1 o2, Calls Tryz.prog 123 #[.agg #[.slice none 0 0, .int .i64 f]] ((w.alloc o1).alloc o2) fun e w' => e = .returned (.bool (logOk [] f)) ∧ Below ((w.alloc o1).alloc o2).heap.size ((w.alloc o1).alloc o2) w') := fun o1 o2 =>
    implLogOk_any _ [] f a _ (HV.out _ (below2 w o1 o2)) (by simp [tot, pre]) (HA.out _ (below2 w o1 o2))
  cases hok : logOk [] f
  · have HR : Hid (fallR [] f keep = [] ∧ fallF [] f keep = 0) := by constructor <;> simp [fallR, fallF, hok]
    rw [hok] at HS
    clear hok
    go_enter Tryz.func148, Tryz.ntmps148
    go_wp2_with fail
    refine (HS.out _ _).mono ?_
    rintro e w1 ⟨rfl, hb⟩
    obtain ⟨hc, hf⟩ := bcell hb
    have hz : w.heap.size + 2 ≤ w1.heap.size := by have := hb.size; rw [size2] at this; exact this
    rw [size2] at hc hf
    have HB := hide_it ((below2 w _ _).trans (hb.mono (by simp; omega)))
    clear hb
    go_wp2
    refine bodyPost_ret (v := .agg #[.slice none 0 0, .int .i64 0]) (by simp [results, Tryz.results148, go_sem, hc]) rfl ?_
    unfold LogOut
    rw [HR.out.1, HR.out.2]
    refine ⟨none, 0, rfl, Made.none _ _, ?_⟩
    exact (HB.out.setCell (by simp) _).setCell (by simp) _
  · obtain ⟨hf0, hfn, _⟩ := logOk_f hok
    obtain rfl : f = 0 := by simp at hfn; omega
    have HR : Hid (fallR [] 0 keep = [] ∧ fallF [] 0 keep = 0) := by
      constructor
      · simp [fallR]
      · simp only [fallF, hok, if_true]
        have := fallN_le (n := 0) (f := 0) (keep := keep) (by omega) (by omega)
        simp at this ⊢
        omega
    rw [hok] at HS
    clear hok hf0 hfn
    have HFC : Hid (∀ W, Below w.heap.size w W → Calls Tryz.prog 176 #[.slice none 0 0] W fun e w' => ∃ ao cap, e = .returned (.agg #[.slice ao 0 cap, .int .i64 0]) ∧ Made w' W.heap.size (.slice ao 0 cap) [] ∧ Below W.heap.size W w') := fun W h =>
      forced_any _ [] W (HV.out _ h) (by simp [tot, pre])
    by_cases hk : keep < 0
    · go_enter Tryz.func148, Tryz.ntmps148
      go_wp2_with fail
      refine (HS.out _ _).mono ?_
      rintro e w1 ⟨rfl, hb⟩
      have HB := hide_it ((below2 w _ _).trans (hb.mono (by simp; omega)))
      have HZ : Hid (Zero2 w1 (w.heap.size + 1)) := Zero2.later (by exact Zero2.new2 _ _ _) hb (by simp)
      obtain ⟨t0, t1⟩ := (HT.out _).later hb (Nat.le_refl _)
      have hz : w.heap.size + 2 ≤ w1.heap.size := by have := hb.size; rw [size2] at this; exact this
      clear hb
      go_wp2_with fail
      refine (HFC.out _ HB.out).mono ?_
      rintro e w2 ⟨ao, cap, rfl, hm, hb2⟩
      have HM := hide_it hm
      have HB2 := hide_it (HB.out.trans (hb2.mono HB.out.size))
      obtain ⟨r0, r1, z0, z1⟩ := HZ.out.later hb2 (by omega)
      clear hm hb2
      go_wp2
      refine bodyPost_ret (v := .agg #[.slice ao 0 cap, .int .i64 0]) (by simp [results, Tryz.results148, go_sem, r0, r1]) rfl ?_
      unfold LogOut
      rw [HR.out.1, HR.out.2]
      refine ⟨ao, cap, rfl, ?_, ?_⟩
      · exact ((HM.out.setBelow (by simp; omega) _).setBelow (by simp; omega) _).lo (by omega)
      · exact (HB2.out.setCell (by simp) _).setCell (by simp) _
    by_cases hk0 : keep = 0
    · subst hk0
      go_enter Tryz.func148, Tryz.ntmps148
      go_wp2_with fail
      refine (HS.out _ _).mono ?_
      rintro e w1 ⟨rfl, hb⟩
      have HB := hide_it ((below2 w _ _).trans (hb.mono (by simp; omega)))
      have HZ : Hid (Zero2 w1 (w.heap.size + 1)) := Zero2.later (by exact Zero2.new2 _ _ _) hb (by simp)
      obtain ⟨t0, t1⟩ := (HT.out _).later hb (Nat.le_refl _)
      have hz : w.heap.size + 2 ≤ w1.heap.size := by have := hb.size; rw [size2] at this; exact this
      clear hb
      go_wp2_with fail
      refine (HFC.out _ HB.out).mono ?_
      rintro e w2 ⟨ao, cap, rfl, hm, hb2⟩
      have HM := hide_it hm
      have HB2 := hide_it (HB.out.trans (hb2.mono HB.out.size))
      obtain ⟨r0, r1, z0, z1⟩ := HZ.out.later hb2 (by omega)
      clear hm hb2
      go_wp2
      refine bodyPost_ret (v := .agg #[.slice ao 0 cap, .int .i64 0]) (by simp [results, Tryz.results148, go_sem, r0, r1]) rfl ?_
      unfold LogOut
      rw [HR.out.1, HR.out.2]
      refine ⟨ao, cap, rfl, ?_, ?_⟩
      · exact ((HM.out.setBelow (by simp; omega) _).setBelow (by simp; omega) _).lo (by omega)
      · exact (HB2.out.setCell (by simp) _).setCell (by simp) _
    · have hk1 : 0 < keep := by omega
      go_enter Tryz.func148, Tryz.ntmps148
      go_wp2_with fail
      refine (HS.out _ _).mono ?_
      rintro e w1 ⟨rfl, hb⟩
      have HB := hide_it ((below2 w _ _).trans (hb.mono (by simp; omega)))
      have HZ : Hid (Zero2 w1 (w.heap.size + 1)) := Zero2.later (by exact Zero2.new2 _ _ _) hb (by simp)
      obtain ⟨t0, t1⟩ := (HT.out _).later hb (Nat.le_refl _)
      have hz : w.heap.size + 2 ≤ w1.heap.size := by have := hb.size; rw [size2] at this; exact this
      clear hb
      go_wp2_with fail
      refine (HFC.out _ HB.out).mono ?_
      rintro e w2 ⟨ao, cap, rfl, hm, hb2⟩
      have HM := hide_it hm
      have HB2 := hide_it (HB.out.trans (hb2.mono HB.out.size))
      obtain ⟨r0, r1, z0, z1⟩ := HZ.out.later hb2 (by omega)
      clear hm hb2
      go_wp2
      refine bodyPost_ret (v := .agg #[.slice ao 0 cap, .int .i64 0]) (by simp [results, Tryz.results148, go_sem, r0, r1]) rfl ?_
      unfold LogOut
      rw [HR.out.1, HR.out.2]
      refine ⟨ao, cap, rfl, ?_, ?_⟩
      · exact ((HM.out.setBelow (by simp; omega) _).setBelow (by simp; omega) _).lo (by omega)
      · exact (HB2.out.setCell (by simp) _).setCell (by simp) _

/-- Whatever list the call itself has made. -/
theorem implFall_form (v : Value) (rs : List R) (f keep : Int) (a : Addr) (w : World) (hv : Recs w v rs) (hf : Form v rs.length) (hl : tot rs ≤ 1048576) (ha : ErrAt w a) :
    Calls Tryz.prog 148 #[.agg #[v, .int .i64 f], .int .i64 keep] w fun e w' => LogOut w w' e (fallR rs f keep) (fallF rs f keep) := by
  rcases hf with ⟨rfl, hn⟩ | ⟨g, cap, rfl, hc⟩
  · obtain rfl : rs = [] := List.length_eq_zero_iff.1 hn
    exact implFall_nil f keep a w ha
  · exact implFall_any g 0 cap rs f keep a w hv hc hl ha

end Go.Proofs.YtkkkdgpbmmjieaaGreatDoor

namespace Go.Proofs.YtkkkdgpbmmjieaaGreatDoor
open Go.RowKit
open Go.Maps

/-- A clerk as a value: the desk, its trips by all, by what was forced, and the block of its book. -/
abbrev clerkV (up : Bool) (v : Value) (f : Int) (u all forced : Value) (b : Nat) : Value := .agg #[.bool up, v, .int .i64 f, u, all, forced, .map (some b)]
abbrev clerkZ : Value := .agg #[.bool false, .slice none 0 0, .int .i64 0, .slice none 0 0, .slice none 0 0, .slice none 0 0, .map none]

def ClOut (w w' : World) (e : Ending) (up : Bool) (rs : List R) (f : Int) (ws : List Wd) : Prop :=
  Below w.heap.size w w' ∧
  ((dkOk up rs f ws = false ∧ e = .returned (.tuple #[clerkZ, .bool false])) ∨
   (dkOk up rs f ws = true ∧ ∃ ao cap au cu aa ca af cf b ps, e = .returned (.tuple #[clerkV up (.slice ao rs.length cap) f (.slice au ws.length cu) (.slice aa (T.ofO rs).length ca) (.slice af (T.ofO (rs.take f.toNat)).length cf) b, .bool true]) ∧
      ps.map (·.1) = rs ∧ DkOwn w' w.heap.size w'.heap.size (.slice ao rs.length cap) (.slice au ws.length cu) ps ws ∧
      T.Made w' w.heap.size (.slice aa (T.ofO rs).length ca) (T.ofO rs) ∧ T.Made w' w.heap.size (.slice af (T.ofO (rs.take f.toNat)).length cf) (T.ofO (rs.take f.toNat)) ∧ BkN w' w.heap.size b (2 * ws.length) ws))

theorem grown_set (w : World) (g i : Nat) (x : Value) : w.grownBy (w.setCell ⟨g, i, none⟩ x) (some g) :=
  ⟨rfl, rfl, rfl, by simp, fun k _ hk => Below.heap_setCell _ _ _ _ (fun e => hk (by simpa using e))⟩
theorem BkN.set_ {W : World} {lo b N g i : Nat} {ws : List Wd} (h : BkN W lo b N ws) (hg : g < lo) (x : Value) : BkN (W.setCell ⟨g, i, none⟩ x) lo b N ws :=
  h.kept (grown_set W g i x) (fun k hk => by simp at hk; omega)
theorem BkN.lo {W : World} {lo lo' b N : Nat} {ws : List Wd} (h : BkN W lo b N ws) (hl : lo' ≤ lo) : BkN W lo' b N ws := by
  obtain ⟨D, h0, h1, h2, h3⟩ := h
  refine ⟨D, by omega, h1, fun t ht ht6 => ?_, h3⟩
  rcases h2 t ht ht6 with a | ⟨B, S, a1, a2, a3, a4, a5⟩
  · exact Or.inl a
  · exact Or.inr ⟨B, S, a1, by omega, a3, a4, a5⟩
theorem Blk.cells7 {w : World} {b : Nat} {x0 x1 x2 x3 x4 x5 x6 : Value} {ty : TypeId} (h : Blk w b #[x0, x1, x2, x3, x4, x5, x6] ty) :
    w.cell? ⟨b, 0, none⟩ = some x0 ∧ w.cell? ⟨b, 1, none⟩ = some x1 ∧ w.cell? ⟨b, 2, none⟩ = some x2 ∧ w.cell? ⟨b, 3, none⟩ = some x3 ∧ w.cell? ⟨b, 4, none⟩ = some x4 ∧ w.cell? ⟨b, 5, none⟩ = some x5 ∧ w.cell? ⟨b, 6, none⟩ = some x6 := by
  refine ⟨?_, ?_, ?_, ?_, ?_, ?_, ?_⟩ <;> (rw [h.cell]; rfl)
theorem Blk.free7 {w : World} {b : Nat} {cs : Array Value} {ty : TypeId} (h : Blk w b cs ty) :
    w.frozen? ⟨b, 0, none⟩ = false ∧ w.frozen? ⟨b, 1, none⟩ = false ∧ w.frozen? ⟨b, 2, none⟩ = false ∧ w.frozen? ⟨b, 3, none⟩ = false ∧ w.frozen? ⟨b, 4, none⟩ = false ∧ w.frozen? ⟨b, 5, none⟩ = false ∧ w.frozen? ⟨b, 6, none⟩ = false :=
  ⟨h.free 0, h.free 1, h.free 2, h.free 3, h.free 4, h.free 5, h.free 6⟩

set_option maxHeartbeats 8000000 in
set_option maxRecDepth 20000 in
theorem clerkOf_any (up : Bool) (v u : Value) (rs : List R) (f : Int) (ws : List Wd) (a : Addr) (w : World) (hv : DkAt w v u rs ws) (hl : tot rs ≤ 1048576) (hlw : ws.length ≤ 1048576) (hfv : Form v rs.length) (ha : ErrAt w a) :
    Calls Tryz.prog 76 #[deskV up v f u] w fun e w' => ClOut w w' e up rs f ws := by
  have HV : Hid (∀ W, Below w.heap.size w W → DkAt W v u rs ws) := fun W h => hv.later h (Nat.le_refl _)
  have HL : Hid (∀ W, Below w.heap.size w W → Calls Tryz.prog 123 #[.agg #[v, .int .i64 f]] W fun e w' => e = .returned (.bool (logOk rs f)) ∧ Below W.heap.size W w') := fun W h =>
    implLogOk_any v rs f a W (hv.1.later h (Nat.le_refl _)) hl (ha.later h (Nat.le_refl _))
  have HT : Hid (∀ W, Below w.heap.size w W → Calls Tryz.prog 124 #[v] W fun e w' => T.TrOut W w' e (T.ofO rs) (T.runT rs).isSome) := fun W h =>
    T.implOf_any v rs a W (hv.1.later h (Nat.le_refl _)) hl (ha.later h (Nat.le_refl _))
  have HB : Hid (∀ W, Below w.heap.size w W → Calls Tryz.prog 125 #[u, .int .i64 (T.ofO rs).length] W fun e w' => BkOut W w' e (T.ofO rs).length ws) := fun W h =>
    bookOf_any u ws _ W (hv.2.later h (Nat.le_refl _)) hlw
  have HC : Hid (∀ W, Below w.heap.size w W → Calls Tryz.prog 92 #[deskV up v f u] W fun e w' => DkOut W w' e up rs f ws) := fun W h =>
    copyDesk_any up v u rs f ws W (hv.later h (Nat.le_refl _)) hl hlw
  have HAe := hide_it ha
  obtain ⟨av, cv, au, cu, rfl, rfl⟩ := hv.shape
  clear hv ha
  have hcap : rs.length ≤ cv := by
    rcases hfv with ⟨e, h0⟩ | ⟨g, cap, e, h1⟩
    · omega
    · simp at e; omega
  clear hfv
  have HF : Hid (logOk rs f = true → (0 ≤ f ∧ f ≤ rs.length) ∧ ∀ W, Below w.heap.size w W → Calls Tryz.prog 124 #[.slice av f.toNat cv] W fun e w' => T.TrOut W w' e (T.ofO (rs.take f.toNat)) (T.runT (rs.take f.toNat)).isSome) := fun hok => by
    obtain ⟨h0, h1, _⟩ := logOk_f hok
    refine ⟨⟨h0, h1⟩, fun W h => ?_⟩
    have hN : f.toNat ≤ rs.length := by omega
    have hlen : (rs.take f.toNat).length = f.toNat := by rw [List.length_take]; omega
    exact T.implOf_any _ (rs.take f.toNat) a W (Recs.take (HV.out W h).1 hN) (Nat.le_trans (pre_take rs _ hN) hl) (HAe.out.later h (Nat.le_refl _))
  have HE : Hid (dkOk up rs f ws = (logOk rs f && ((T.runT rs).isSome && (toldOk (T.ofO rs).length ws && (up || ws.isEmpty))))) := rfl
  have HFA : Hid (∀ {w' : World} {e : Ending}, Below w.heap.size w w' → dkOk up rs f ws = false → e = .returned (.tuple #[clerkZ, .bool false]) → ClOut w w' e up rs f ws) := fun h1 h2 h3 => ⟨h1, Or.inl ⟨h2, h3⟩⟩
  have hO6 := (T.ofO_fit rs).1
  have hO6' := (T.ofO_fit (rs.take f.toNat)).1
  obtain ⟨LL, hLL⟩ : ∃ x, logOk rs f = x := ⟨_, rfl⟩
  obtain ⟨SS, hSS⟩ : ∃ x, (T.runT rs).isSome = x := ⟨_, rfl⟩
  rw [hLL] at HL HE HF
  rw [hSS] at HT HE
  clear hLL hSS HAe
  obtain ⟨w0, hw0⟩ : ∃ W, Hid (W = (w.alloc (.cells #[.bool up, .slice av rs.length cv, .int .i64 f, .slice au ws.length cu] 38)).alloc (.cells #[.bool false, .slice none 0 0, .int .i64 0, .slice none 0 0, .slice none 0 0, .slice none 0 0, .map none] 128)) := ⟨_, rfl⟩
  have B0 : Hid (Below w.heap.size w w0) := by show Below _ _ _; rw [hw0.out]; exact below2 _ _ _
  have X0 : Hid (Blk w0 w.heap.size #[.bool up, .slice av rs.length cv, .int .i64 f, .slice au ws.length cu] 38) := by show Blk _ _ _ _; rw [hw0.out]; exact (Blk.new _ _ _).alloc _
  have Y0 : Hid (Blk w0 (w.heap.size + 1) #[.bool false, .slice none 0 0, .int .i64 0, .slice none 0 0, .slice none 0 0, .slice none 0 0, .map none] 128) := by show Blk _ _ _ _; rw [hw0.out]; exact Blk.new2 _ _ _ _
  have hs0 : w0.heap.size = w.heap.size + 2 := by rw [hw0.out, size2]
  go_enter Tryz.func76, Tryz.ntmps76
  go_wp2_with fail
  rw [← hw0.out]
  refine (HL.out _ B0.out).mono ?_
  rintro e w1 ⟨rfl, hb1⟩
  have B1 := hide_it (B0.out.trans (hb1.mono B0.out.size))
  have X1 := hide_it (X0.out.after hb1)
  have Y1 := hide_it (Y0.out.after hb1)
  have hz1 : w.heap.size + 2 ≤ w1.heap.size := by have := hb1.size; omega
  clear hb1
  obtain ⟨x0, x1, x2, x3⟩ := X1.out.cells4
  obtain ⟨y0, y1, y2, y3, y4, y5, y6⟩ := Y1.out.cells7
  obtain ⟨yf0, yf1, yf2, yf3, yf4, yf5, yf6⟩ := Y1.out.free7
  cases LL
  · go_wp2
    refine bodyPost_ret (v := .tuple #[clerkZ, .bool false]) (by simp [results, Tryz.results76, go_sem, *]) rfl ?_
    refine HFA.out ?_ (by rw [HE.out]; rfl) rfl
    repeat (refine Below.setCell ?_ (by first | (simp; done) | (simp; omega)) _)
    exact B1.out
  have HF2 := hide_it (HF.out rfl)
  obtain ⟨hf0, hf1⟩ := HF2.out.1
  clear HF
  have HUE : Hid ((up || ws.isEmpty) = false ∨ (up || ws.isEmpty) = true) := by
    show _ ∨ _
    cases (up || ws.isEmpty)
    · exact Or.inl rfl
    · exact Or.inr rfl
  rcases HUE.out with hue | hue
  · have hu0 : up = false := by cases up <;> simp_all
    have hwl : 0 < ws.length := by
      rw [hu0] at hue
      simp at hue
      exact List.length_pos_iff.2 hue
    have HUEF := hide_it hue
    subst hu0
    clear hue
    go_wp2
    refine bodyPost_ret (v := .tuple #[clerkZ, .bool false]) (by simp [results, Tryz.results76, go_sem, *]) rfl ?_
    refine HFA.out ?_ (by rw [HE.out, HUEF.out]; simp) rfl
    repeat (refine Below.setCell ?_ (by first | (simp; done) | (simp; omega)) _)
    exact B1.out
  have HUT := hide_it hue
  -- on to the trips
  have huw : up = true ∨ up = false ∧ ws.length = 0 := by
    cases up
    · simp at hue; exact Or.inr ⟨rfl, by rw [hue]; rfl⟩
    · exact Or.inl rfl
  clear hue HUE
  rcases huw with rfl | ⟨rfl, huz⟩
  all_goals
    go_wp2_with fail
    try clear huz
    refine (HT.out w1 B1.out).mono ?_
    rintro e w2 ⟨aa, ca, rfl, hm2, hb2⟩
    have B2 := hide_it (B1.out.trans (hb2.mono B1.out.size))
    have X2 := hide_it (X1.out.after hb2)
    have Y2 := hide_it (Y1.out.after hb2)
    have A2 : Hid (T.Made w2 w0.heap.size (.slice aa (T.ofO rs).length ca) (T.ofO rs)) := hm2.lo (by omega)
    have hz2 : w.heap.size + 2 ≤ w2.heap.size := by have := hb2.size; omega
    clear hb2 hm2 x0 x1 x2 x3 y0 y1 y2 y3 y4 y5 y6 yf0 yf1 yf2 yf3 yf4 yf5 yf6
    obtain ⟨x0, x1, x2, x3⟩ := X2.out.cells4
    obtain ⟨y0, y1, y2, y3, y4, y5, y6⟩ := Y2.out.cells7
    obtain ⟨yf0, yf1, yf2, yf3, yf4, yf5, yf6⟩ := Y2.out.free7
    cases SS
    · go_wp2
      refine bodyPost_ret (v := .tuple #[clerkZ, .bool false]) (by simp [results, Tryz.results76, go_sem, *]) rfl ?_
      refine HFA.out ?_ (by rw [HE.out]; rfl) rfl
      repeat (refine Below.setCell ?_ (by first | (simp; done) | (simp; omega)) _)
      exact B2.out
    go_wp2_with fail
    refine (HB.out w2 B2.out).mono ?_
    rintro e w3 ⟨hbk, hb3⟩
    have B3 := hide_it (B2.out.trans (hb3.mono B2.out.size))
    have X3 := hide_it (X2.out.after hb3)
    have Y3 := hide_it (Y2.out.after hb3)
    have A3 : Hid (T.Made w3 w0.heap.size (.slice aa (T.ofO rs).length ca) (T.ofO rs)) := A2.out.below hb3 (Nat.le_refl _)
    have hz3 : w.heap.size + 2 ≤ w3.heap.size := by have := hb3.size; omega
    clear hb3 x0 x1 x2 x3 y0 y1 y2 y3 y4 y5 y6 yf0 yf1 yf2 yf3 yf4 yf5 yf6
    obtain ⟨x0, x1, x2, x3⟩ := X3.out.cells4
    obtain ⟨y0, y1, y2, y3, y4, y5, y6⟩ := Y3.out.cells7
    obtain ⟨yf0, yf1, yf2, yf3, yf4, yf5, yf6⟩ := Y3.out.free7
    rcases hbk with ⟨htk, rfl, hk3⟩ | ⟨htk, rfl⟩
    rotate_left
    · have HTK := hide_it htk
      clear htk
      go_wp2
      refine bodyPost_ret (v := .tuple #[clerkZ, .bool false]) (by simp [results, Tryz.results76, go_sem, *]) rfl ?_
      refine HFA.out ?_ (by rw [HE.out, HTK.out]; simp) rfl
      repeat (refine Below.setCell ?_ (by first | (simp; done) | (simp; omega)) _)
      exact B3.out
    have HTK := hide_it htk
    have K3 : Hid (BkN w3 w0.heap.size w2.heap.size (2 * ws.length) ws) := hk3.lo (by omega)
    clear htk hk3
    go_wp2_with fail
    refine (HF2.out.2 w3 B3.out).mono ?_
    rintro e w4 ⟨af, cf, rfl, hm4, hb4⟩
    have B4 := hide_it (B3.out.trans (hb4.mono B3.out.size))
    have X4 := hide_it (X3.out.after hb4)
    have Y4 := hide_it (Y3.out.after hb4)
    have A4 : Hid (T.Made w4 w0.heap.size (.slice aa (T.ofO rs).length ca) (T.ofO rs)) := A3.out.below hb4 (Nat.le_refl _)
    have F4 : Hid (T.Made w4 w0.heap.size (.slice af (T.ofO (rs.take f.toNat)).length cf) (T.ofO (rs.take f.toNat))) := hm4.lo (by omega)
    have K4 := hide_it (K3.out.after hb4)
    have hz4 : w.heap.size + 2 ≤ w4.heap.size := by have := hb4.size; omega
    clear hb4 hm4 x0 x1 x2 x3 y0 y1 y2 y3 y4 y5 y6 yf0 yf1 yf2 yf3 yf4 yf5 yf6
    obtain ⟨x0, x1, x2, x3⟩ := X4.out.cells4
    go_wp2_with fail
    refine (HC.out w4 B4.out).mono ?_
    rintro e w5 ⟨ao, cap, ad, cd, ps, rfl, hp5, ho5, hb5⟩
    have B5 := hide_it (B4.out.trans (hb5.mono B4.out.size))
    have Y5 := hide_it (Y4.out.after hb5)
    have A5 : Hid (T.Made w5 w0.heap.size (.slice aa (T.ofO rs).length ca) (T.ofO rs)) := A4.out.below hb5 (Nat.le_refl _)
    have F5 : Hid (T.Made w5 w0.heap.size (.slice af (T.ofO (rs.take f.toNat)).length cf) (T.ofO (rs.take f.toNat))) := F4.out.below hb5 (Nat.le_refl _)
    have K5 := hide_it (K4.out.after hb5)
    have O5 : Hid (DkOwn w5 w0.heap.size w5.heap.size (.slice ao rs.length cap) (.slice ad ws.length cd) ps ws) := ho5.lo (by omega)
    have P5 := hide_it hp5
    have hz5 : w.heap.size + 2 ≤ w5.heap.size := by have := hb5.size; omega
    clear hb5 hp5 ho5 x0 x1 x2 x3
    obtain ⟨y0, y1, y2, y3, y4, y5, y6⟩ := Y5.out.cells7
    obtain ⟨yf0, yf1, yf2, yf3, yf4, yf5, yf6⟩ := Y5.out.free7
    go_wp2
    first | (refine bodyPost_ret (v := .tuple #[clerkV true (.slice ao rs.length cap) f (.slice ad ws.length cd) (.slice aa (T.ofO rs).length ca) (.slice af (T.ofO (rs.take f.toNat)).length cf) w2.heap.size, .bool true]) ?hh rfl ?_; case hh => (simp [results, Tryz.results76, go_sem, *]; done)) | (refine bodyPost_ret (v := .tuple #[clerkV false (.slice ao rs.length cap) f (.slice ad ws.length cd) (.slice aa (T.ofO rs).length ca) (.slice af (T.ofO (rs.take f.toNat)).length cf) w2.heap.size, .bool true]) ?hh rfl ?_; case hh => (simp [results, Tryz.results76, go_sem, *]; done))
    refine ⟨?_, Or.inr ⟨?_, ao, cap, ad, cd, aa, ca, af, cf, w2.heap.size, ps, rfl, P5.out, ?_, ?_, ?_, ?_⟩⟩
    · repeat (refine Below.setCell ?_ (by first | (simp; done) | (simp; omega)) _)
      exact B5.out
    · rw [HE.out, HTK.out, HUT.out]; rfl
    · refine DkOwn.lo (lo := w0.heap.size) ?_ (by omega)
      repeat (refine DkOwn.setBelow ?_ (by omega) _)
      simpa using O5.out
    · refine T.Made.lo (lo := w0.heap.size) ?_ (by omega)
      repeat (refine T.Made.setBelow ?_ (by simp; omega) _)
      exact A5.out
    · refine T.Made.lo (lo := w0.heap.size) ?_ (by omega)
      repeat (refine T.Made.setBelow ?_ (by simp; omega) _)
      exact F5.out
    · refine BkN.lo (lo := w0.heap.size) ?_ (by omega)
      repeat (refine BkN.set_ ?_ (by omega) _)
      exact K5.out

end Go.Proofs.YtkkkdgpbmmjieaaGreatDoor

namespace Go.Proofs.YtkkkdgpbmmjieaaGreatDoor.T
open Go.RowKit

theorem mayL_4 {rs : List R} {t : Int} {zs : List Int} : mayL rs (4, t, zs) = decide (t = (rs.length : Int) + 1) := by unfold mayL; simp
theorem mayL_no {rs : List R} {k t : Int} {zs : List Int} (h4 : k ≠ 4) (ht : (rs.length : Int) < t) : mayL rs (k, t, zs) = false := by
  unfold mayL
  rw [if_neg h4]
  dsimp only
  rw [tripAt_none (List.getElem?_eq_none (by omega)), nextS_0]
  rfl
theorem mayL_at' {rs : List R} {k t : Int} {zs : List Int} {x : R} (h4 : k ≠ 4) (hx : rs[(t - 1).toNat]? = some x) : mayL rs (k, t, zs) = decide (nextS x.2 k ≠ 0) := by
  unfold mayL
  rw [if_neg h4]
  dsimp only
  rw [tripAt_get hx]

set_option maxHeartbeats 2000000 in
theorem l12May_any (v : Value) (rs : List R) (k t : Int) (u : Value) (zs : List Int) (w : World) (hv : Recs w v rs) (hl : tot rs ≤ 1048576) (hu : ∃ ao n cap, u = .slice ao n cap) (ht : 1 ≤ t) (ht6 : t ≤ 6) :
    Calls Tryz.prog 117 #[v, .agg #[.int .i64 k, .int .i64 t, u]] w fun e w' => e = .returned (.bool (mayL rs (k, t, zs))) ∧ Below w.heap.size w w' := by
  have hlen := tot_len rs
  obtain ⟨au, nu, cu, rfl⟩ := hu
  obtain ⟨av, cv, hvs⟩ := hv.shape
  by_cases h4 : k = 4
  · subst h4
    rw [mayL_4]
    subst hvs
    clear hv
    by_cases he : t = (rs.length : Int) + 1
    · have HE : Hid (decide (t = (rs.length : Int) + 1) = true) := by show _ = _; simp [he]
      rw [HE.out]
      have he2 : (t == (rs.length : Int) + 1) = true := by simp [he]
      clear he
      go_enter Tryz.func117, Tryz.ntmps117
      go_wp2
      go_ret
      exact ⟨by simp, alloc_below _ _⟩
    · have HE : Hid (decide (t = (rs.length : Int) + 1) = false) := by show _ = _; simp [he]
      rw [HE.out]
      have he2 : (t == (rs.length : Int) + 1) = false := by simp [he]
      go_enter Tryz.func117, Tryz.ntmps117
      go_wp2
      go_ret
      exact ⟨by simp, alloc_below _ _⟩
  by_cases hgt : (rs.length : Int) < t
  · have HE : Hid (mayL rs (k, t, zs) = false) := mayL_no h4 hgt
    subst hvs
    clear hv
    go_enter Tryz.func117, Tryz.ntmps117
    go_wp2
    go_ret
    exact ⟨by rw [HE.out]; rfl, alloc_below _ _⟩
  rcases hv with ⟨h0, _⟩ | ⟨b, off, cap, hvv, _, hcl⟩
  · rw [h0] at hgt; simp at hgt; omega
  subst hvs
  simp only [Value.slice.injEq] at hvv
  obtain ⟨rfl, -, rfl⟩ := hvv
  obtain ⟨i, hi⟩ : ∃ i : Nat, t = (i : Int) + 1 := ⟨(t - 1).toNat, by omega⟩
  subst hi
  have hil : i < rs.length := by omega
  obtain ⟨x, hx⟩ : ∃ x, Hid (rs[i]? = some x) := ⟨rs[i], by show _ = _; simp [hil]⟩
  obtain ⟨y, c0, c1, hI⟩ := hcl i x hx.out
  have HE : Hid (mayL rs (k, (i : Int) + 1, zs) = decide (nextS x.2 k ≠ 0)) := mayL_at' h4 (by rw [show ((i : Int) + 1 - 1).toNat = i by omega]; exact hx.out)
  have c1o : ∀ o, (w.alloc o).cell? ⟨b, off + i * 2 + 1, none⟩ = some (.int .i64 x.2) := fun o => cellAlloc c1 o
  have hbw : b < w.heap.size := World.block_lt_of_cell? _ _ c0
  clear hcl hI c0
  rw [HE.out]
  by_cases h5 : k = 5
  · subst h5
    by_cases hs : x.2 = 1
    · have HN : Hid (decide (nextS x.2 5 ≠ 0) = true) := by show _ = _; rw [hs]; rfl
      rw [HN.out]
      have hs2 : (x.2 == 1) = true := by simp [hs]
      clear hs
      go_enter Tryz.func117, Tryz.ntmps117
      go_wp2
      go_ret
      exact ⟨by simp, alloc_below _ _⟩
    · have HN : Hid (decide (nextS x.2 5 ≠ 0) = false) := by show _ = _; simp [nextS, hs]
      rw [HN.out]
      have hs2 : (x.2 == 1) = false := by simp [hs]
      go_enter Tryz.func117, Tryz.ntmps117
      go_wp2
      go_ret
      exact ⟨by simp, alloc_below _ _⟩
  by_cases h6 : k = 6
  · subst h6
    by_cases hs : x.2 = 1
    · have HN : Hid (decide (nextS x.2 6 ≠ 0) = true) := by show _ = _; rw [hs]; rfl
      rw [HN.out]
      have hs2 : (x.2 == 1) = true := by simp [hs]
      clear hs
      go_enter Tryz.func117, Tryz.ntmps117
      go_wp2
      go_ret
      exact ⟨by simp, alloc_below _ _⟩
    · have HN : Hid (decide (nextS x.2 6 ≠ 0) = false) := by show _ = _; simp [nextS, hs]
      rw [HN.out]
      have hs2 : (x.2 == 1) = false := by simp [hs]
      go_enter Tryz.func117, Tryz.ntmps117
      go_wp2
      go_ret
      exact ⟨by simp, alloc_below _ _⟩
  by_cases h7 : k = 7
  · subst h7
    by_cases hs : x.2 = 2
    · have HN : Hid (decide (nextS x.2 7 ≠ 0) = true) := by show _ = _; rw [hs]; rfl
      rw [HN.out]
      rw [hs] at c1 c1o
      clear hs
      go_enter Tryz.func117, Tryz.ntmps117
      go_wp2
      go_ret
      exact ⟨by simp, alloc_below _ _⟩
    by_cases hs3 : x.2 = 3
    · have HN : Hid (decide (nextS x.2 7 ≠ 0) = true) := by show _ = _; rw [hs3]; rfl
      rw [HN.out]
      rw [hs3] at c1 c1o
      clear hs hs3
      go_enter Tryz.func117, Tryz.ntmps117
      go_wp2
      go_ret
      exact ⟨by simp, alloc_below _ _⟩
    have HN : Hid (decide (nextS x.2 7 ≠ 0) = false) := by show _ = _; simp [nextS, hs, hs3]
    rw [HN.out]
    have e2 : (x.2 == 2) = false := by simp [hs]
    have e3 : (x.2 == 3) = false := by simp [hs3]
    go_enter Tryz.func117, Tryz.ntmps117
    go_wp2
    go_ret
    exact ⟨by simp, alloc_below _ _⟩
  have HN : Hid (decide (nextS x.2 k ≠ 0) = false) := by show _ = _; simp [nextS, h5, h6, h7]
  rw [HN.out]
  go_enter Tryz.func117, Tryz.ntmps117
  go_wp2
  go_ret
  exact ⟨rfl, alloc_below _ _⟩

end Go.Proofs.YtkkkdgpbmmjieaaGreatDoor.T

namespace Go.Proofs.YtkkkdgpbmmjieaaGreatDoor.T
open Go.RowKit

theorem lit0 (W : World) (ty : TypeId) (sz : Nat) : (W.alloc (.cells #[] ty)).ownsRow W.heap.size ty sz (.slice (some ⟨W.heap.size, 0, none⟩) 0 0) 0 [] := by
  have h := World.ownsRow_lit (base := W.heap.size) (e := ty) (size := sz) W #[] 0 (by simp) (by unfold maxLen; omega) (by simp)
  exact h

theorem litBelow {wr W w4 : World} (h0 : Below wr.heap.size wr W) (hg : W.grownBy w4 (Value.slice (some ⟨wr.heap.size, 0, none⟩) 0 0).ownBlock) : Below wr.heap.size wr w4 :=
  h0.trans ((Below.refl _ _).grown hg h0.size (fun k hk => by simp [Value.ownBlock] at hk; omega))

end Go.Proofs.YtkkkdgpbmmjieaaGreatDoor.T

namespace Go.Proofs.YtkkkdgpbmmjieaaGreatDoor.T
open Go.RowKit

theorem pair_at {rs : List R} {ps : List (R × Value)} {i : Nat} {x : R} (hps : ps.map (·.1) = rs) (hx : rs[i]? = some x) : ∃ u, ps[i]? = some (x, u) := by
  rw [← hps, List.getElem?_map] at hx
  cases h : ps[i]? with
  | none => rw [h] at hx; cases hx
  | some p => rw [h] at hx; simp at hx; subst hx; exact ⟨p.2, rfl⟩

/-- Another state of one trip of a list of the call's own. -/
theorem Made.turn {w : World} {lo g n cap i : Nat} {rs : List R} {x : R} (s : Int) (h : Made w lo (.slice (some ⟨g, 0, Option.none⟩) n cap) rs) (hn : rs.length = n) (hx : rs[i]? = some x) :
    Made (w.setCell ⟨g, i * 2 + 1, Option.none⟩ (.int .i64 s)) lo (.slice (some ⟨g, 0, Option.none⟩) n cap) (rs.set i (x.1, s)) ∧ Below lo w (w.setCell ⟨g, i * 2 + 1, Option.none⟩ (.int .i64 s)) := by
  obtain ⟨ps, hps, row, hgb, inn⟩ := h
  obtain ⟨u, hu⟩ := pair_at hps hx
  have hpn : ps.length = n := by rw [← hn, ← hps]; simp
  rw [hpn] at row
  have hgl := row.lt g rfl
  have hown : w.ownsRow lo 3 1 u x.1.length (x.1.map (Value.int .i64)) := (inn.2.1 (x, u) (List.mem_of_getElem? hu)).1
  have st := mark_step (lo := lo) (hi := w.heap.size) (r := (x.1, s)) (w2 := w) hu ⟨by rw [hpn]; exact row, hgb, inn⟩ hpn hown (World.grownBy.refl _ _) rfl
  have hs : (w.setCell ⟨g, i * 2 + 1, Option.none⟩ (.int .i64 s)).heap.size = w.heap.size := by simp
  refine ⟨⟨ps.set i ((x.1, s), u), by rw [List.map_set, hps], ?_⟩, (Below.refl _ _).setCell (by simpa using hgl.1) _⟩
  rw [hs]
  exact st.1

theorem Made.shape {w : World} {lo : Nat} {v : Value} {rs : List R} (h : Made w lo v rs) (hz : rs ≠ []) : ∃ g cap, v = .slice (some ⟨g, 0, Option.none⟩) rs.length cap ∧ (∀ j, j < rs.length * 2 → ∃ y, w.cell? ⟨g, j, Option.none⟩ = some y) ∧ (∀ j, w.frozen? ⟨g, j, Option.none⟩ = false) ∧ g < w.heap.size ∧ ∀ i x, rs[i]? = some x → w.cell? ⟨g, i * 2 + 1, Option.none⟩ = some (.int .i64 x.2) := by
  obtain ⟨ps, hps, row, hgb, inn⟩ := h
  have hpn : ps.length = rs.length := by rw [← hps]; simp
  rcases row.2 with ⟨_, hn0⟩ | ⟨g, cap, cur, hv, _⟩
  · refine absurd ?_ hz
    rw [← hps, List.length_eq_zero_iff.1 hn0]; rfl
  · rw [hv, hpn] at row
    refine ⟨g, cap, by rw [hv, hpn], fun j hj => ?_, fun j => row.frozenAt j, (row.lt g rfl).2, fun i x hx => ?_⟩
    · have h1 := row.cellAt j hj
      have h2 : j < (flat ps).length := by rw [row.1]; exact hj
      exact ⟨_, by rw [h1, List.getElem?_eq_getElem h2]⟩
    · obtain ⟨u, hu⟩ := pair_at hps hx
      have hl := len_lt hx
      rw [row.cellAt _ (by omega)]
      exact (flat_get ps i _ hu).2

theorem doL_at {rs : List R} {k : Int} {i : Nat} {zs : List Int} {x : R} (h4 : k ≠ 4) (hx : rs[i]? = some x) : doL rs (k, (i : Int) + 1, zs) = rs.set i (x.1, nextS x.2 k) := by
  have e : ((i : Int) + 1 - 1).toNat = i := by omega
  unfold doL
  rw [if_neg h4]
  dsimp only
  rw [e, tripAt_get (by rw [e]; exact hx)]

/-- What comes of a list of the call's own behind a record. -/
def DoOut (w w' : World) (e : Ending) (lo : Nat) (rs : List R) : Prop :=
  ∃ ao cap, e = .returned (.slice ao rs.length cap) ∧ Made w' lo (.slice ao rs.length cap) rs ∧ Below lo w w'

set_option maxRecDepth 100000 in
set_option maxHeartbeats 4000000 in
theorem l12Do_begin (v : Value) (rs : List R) (t : Int) (u : Value) (zs : List Int) (lo : Nat) (w : World) (hm : Made w lo v rs) (hn : rs.length ≤ 6) (hlo : lo ≤ w.heap.size) (hu : Ints w u zs) (h3 : zs.length = 3) :
    Calls Tryz.prog 118 #[v, .agg #[.int .i64 4, .int .i64 t, u]] w fun e w' => DoOut w w' e lo (rs ++ [(zs, 1)]) := by
  obtain ⟨i0, hi0, hz0, hz1, hz2⟩ := info_parts infoTrip
  have HU : Hid (∀ W, Below w.heap.size w W → Ints W u zs) := fun W h => hu.later h (Nat.le_refl _)
  have H3 := hide_it h3
  obtain ⟨ps, hps, ho⟩ := hm
  have HPS := hide_it hps
  have HPL : Hid (ps.length = rs.length) := by have := congrArg List.length hps; show _ = _; simpa using this
  obtain ⟨av, cv, hvs⟩ := row_shape ho.1
  obtain ⟨au, cu, hus⟩ := hu.shape
  rw [h3] at hus
  subst hvs hus
  have HO := hide_it ho
  clear ho hps hu h3
  obtain ⟨w0, hw0⟩ : ∃ W, Hid (W = (w.alloc (.cells #[.int .i64 4, .int .i64 t, .slice au 3 cu] 161)).alloc (.cells #[] 3)) := ⟨_, rfl⟩
  have B0 : Hid (Below w.heap.size w w0) := by show Below _ _ _; rw [hw0.out]; exact below2 _ _ _
  have L0 : Hid (w0.ownsRow (w.heap.size + 1) 3 1 (.slice (some ⟨w.heap.size + 1, 0, none⟩) 0 0) 0 []) := by
    have h := lit0 (w.alloc (.cells #[.int .i64 4, .int .i64 t, .slice au 3 cu] 161)) 3 1
    rw [size1] at h
    show World.ownsRow _ _ _ _ _ _ _
    rw [hw0.out]; exact h
  have hs0 : Hid (w0.heap.size = w.heap.size + 2) := by show _ = _; rw [hw0.out, size2]
  go_enter Tryz.func118, Tryz.ntmps118
  go_wp2_with (first
    | (at_builtin; refine wpList_append_ints rfl _ _ rfl (w.heap.size + 1) (.slice (some ⟨w.heap.size + 1, 0, none⟩) 0 0) (.slice au 3 cu) 0 [] zs rfl rfl (by rw [← hw0.out]; exact L0.out) (by rw [← hw0.out]; exact HU.out _ B0.out) (by rw [H3.out]; omega) (by simp) ?_; rw [← hw0.out, H3.out]; intro a4 cap4 w4 hown4 hgrow4; have hb4 : Below w.heap.size w w4 := B0.out.trans ((Below.refl _ _).grown hgrow4 B0.out.size (fun k hk => by simp [Value.ownBlock] at hk; omega)); have HB4 := hide_it hb4; have ROW4 : Hid (∀ o, (w4.alloc o).ownsRow lo 194 2 (.slice av ps.length cv) ps.length (flat ps)) := (fun o => (ownsRow_below HO.out.1 hb4 (fun j hj => (HO.out.1.lt j hj).2)).alloc o); have INN4 : Hid (∀ o, Inner (w4.alloc o) lo w.heap.size ps) := (fun o => (HO.out.2.2.below hb4 (Nat.le_refl _)).below (alloc_below _ o) hb4.size); have NEW4 : Hid (∀ o, (w4.alloc o).ownsRow lo 3 1 (.slice a4 3 cap4) zs.length (zs.map (Value.int .i64))) := (fun o => by rw [H3.out]; exact (ownsRow_base hown4 (by omega)).alloc o); have NEWB4 : Hid (∀ j, (Value.slice a4 3 cap4).ownBlock = some j → w.heap.size ≤ j ∧ j < (w4.alloc (.cells #[.slice a4 3 cap4, .int .i64 1] 194)).heap.size) := (fun j hj => by have h9 := hown4.lt j hj; simp; omega); have hz4 := hb4.size; clear hown4 hgrow4 hb4)
    | (at_builtin; refine wpList_append_lies _ rfl _ _ 114 rfl lo 194 i0 (.agg #[.slice none 0 0, .int .i64 0]) 2 32 Tryz.underlying114 hi0 hz0 hz1 hz2 rfl (by decide) (.slice av ps.length cv) ps.length (flat ps) rfl (by exact (ROW4.out _)) ⟨w4.heap.size, 0, none⟩ 1 1 [.slice a4 3 cap4, .int .i64 1] rfl rfl (by exact news2 _ _ _ _) (by exact one2 _ _) (by decide) (by have := HPL.out; unfold maxLen; omega) (by have := HPL.out; omega) (by simp; omega) _ rfl ?_; intro g5 cap5 w5 hown5 hgrow5 _ _; have O5 := hide_it hown5; have G5 := hide_it hgrow5; have LO5 := hide_it (addBelow (ROW4.out _) hgrow5 (by simp; omega)); clear hown5 hgrow5))
  have ST := append_step (r := (zs, 1)) (ROW4.out (.cells #[.slice a4 3 cap4, .int .i64 1] 194)) (INN4.out _) (by simp; omega) (NEW4.out _) (NEWB4.out) O5.out G5.out
  have M5 : Hid (Made w5 lo (.slice (some ⟨g5, 0, none⟩) (rs.length + 1) cap5) (rs ++ [(zs, 1)])) := by
    refine ⟨ps ++ [((zs, 1), .slice a4 3 cap4)], by rw [List.map_append, HPS.out]; rfl, ?_, fun k hk => ?_, ST.2⟩
    · have h := ST.1
      rw [← HPL.out]
      exact h
    · have h := ST.1
      rw [← HPL.out] at hk
      exact (h.lt k hk).2
  have B5 : Hid (Below lo w w5) := ((HB4.out.mono hlo).alloc (by omega) _).trans LO5.out
  clear ST
  have HLr : Hid ((rs ++ [(zs, (1 : Int))]).length = rs.length + 1) := by show _ = _; simp
  have HP2 := HPL.out
  rw [HP2]
  clear HP2
  go_wp2
  refine bodyPost_ret (v := .slice (some ⟨g5, 0, none⟩) (rs.length + 1) cap5) (by simp [results, Tryz.results118, go_sem]) rfl ?_
  unfold DoOut
  rw [HLr.out]
  exact ⟨_, cap5, rfl, M5.out, B5.out⟩

end Go.Proofs.YtkkkdgpbmmjieaaGreatDoor.T

namespace Go.Proofs.YtkkkdgpbmmjieaaGreatDoor.T
open Go.RowKit

theorem MDrew {w : World} {lo : Nat} {v : Value} {rs : List R} (h : Made w lo v rs) : Made w.drew lo v rs := h.below (Below.refl _ _).drew (Nat.le_refl _)

set_option maxRecDepth 100000 in
set_option maxHeartbeats 4000000 in
theorem l12Do_yes (v : Value) (rs : List R) (i : Nat) (x : R) (au : Option Addr) (nu cu lo : Nat) (w : World) (hm : Made w lo v rs) (hn : rs.length ≤ 6) (hx : rs[i]? = some x) (hs : x.2 = 1) :
    Calls Tryz.prog 118 #[v, .agg #[.int .i64 5, .int .i64 ((i : Int) + 1), .slice au nu cu]] w fun e w' => DoOut w w' e lo (rs.set i (x.1, 2)) := by
  have hil := len_lt hx
  have hz : rs ≠ [] := fun e => by rw [e] at hil; simp at hil
  obtain ⟨g, cap, rfl, hce, hfz, hgw, hst⟩ := hm.shape hz
  have c1 := hst i x hx
  rw [hs] at c1
  have f1 := hfz (i * 2 + 1)
  have hlw : lo ≤ w.heap.size := by
    obtain ⟨ps, hps, row, _, _⟩ := hm
    have := row.lt g rfl
    omega
  have MT : Hid (∀ o, Made ((w.setCell ⟨g, i * 2 + 1, none⟩ (.int .i64 2)).alloc o) lo (.slice (some ⟨g, 0, none⟩) rs.length cap) (rs.set i (x.1, 2)) ∧ Below lo w ((w.setCell ⟨g, i * 2 + 1, none⟩ (.int .i64 2)).alloc o)) := fun o => by
    have h := hm.turn 2 rfl hx
    exact ⟨h.1.below (alloc_below _ o) (Nat.le_refl _), h.2.alloc (by simpa using hlw) o⟩
  have c1o : ∀ o, (w.alloc o).cell? ⟨g, i * 2 + 1, none⟩ = some (.int .i64 1) := fun o => cellAlloc c1 o
  have f1o : ∀ o, (w.alloc o).frozen? ⟨g, i * 2 + 1, none⟩ = false := fun o => by
    rw [← f1]; exact (alloc_below w o).frozen (p := ⟨g, i * 2 + 1, none⟩) hgw
  clear hm hst hce hfz hs
  go_enter Tryz.func118, Tryz.ntmps118
  go_wp2
  refine bodyPost_ret (v := .slice (some ⟨g, 0, none⟩) rs.length cap) (by simp [results, Tryz.results118, go_sem]) rfl ?_
  unfold DoOut
  rw [List.length_set]
  refine ⟨_, cap, rfl, ?_, ?_⟩
  · first
      | exact (MT.out _).1
      | exact MDrew (MT.out _).1
  · first
      | exact (MT.out _).2
      | exact (MT.out _).2.drew

set_option maxRecDepth 100000 in
set_option maxHeartbeats 4000000 in
theorem l12Do_no (v : Value) (rs : List R) (i : Nat) (x : R) (au : Option Addr) (nu cu lo : Nat) (w : World) (hm : Made w lo v rs) (hn : rs.length ≤ 6) (hx : rs[i]? = some x) (hs : x.2 = 1) :
    Calls Tryz.prog 118 #[v, .agg #[.int .i64 6, .int .i64 ((i : Int) + 1), .slice au nu cu]] w fun e w' => DoOut w w' e lo (rs.set i (x.1, 3)) := by
  have hil := len_lt hx
  have hz : rs ≠ [] := fun e => by rw [e] at hil; simp at hil
  obtain ⟨g, cap, rfl, hce, hfz, hgw, hst⟩ := hm.shape hz
  have c1 := hst i x hx
  rw [hs] at c1
  have f1 := hfz (i * 2 + 1)
  have hlw : lo ≤ w.heap.size := by
    obtain ⟨ps, hps, row, _, _⟩ := hm
    have := row.lt g rfl
    omega
  have MT : Hid (∀ o, Made ((w.setCell ⟨g, i * 2 + 1, none⟩ (.int .i64 3)).alloc o) lo (.slice (some ⟨g, 0, none⟩) rs.length cap) (rs.set i (x.1, 3)) ∧ Below lo w ((w.setCell ⟨g, i * 2 + 1, none⟩ (.int .i64 3)).alloc o)) := fun o => by
    have h := hm.turn 3 rfl hx
    exact ⟨h.1.below (alloc_below _ o) (Nat.le_refl _), h.2.alloc (by simpa using hlw) o⟩
  have c1o : ∀ o, (w.alloc o).cell? ⟨g, i * 2 + 1, none⟩ = some (.int .i64 1) := fun o => cellAlloc c1 o
  have f1o : ∀ o, (w.alloc o).frozen? ⟨g, i * 2 + 1, none⟩ = false := fun o => by
    rw [← f1]; exact (alloc_below w o).frozen (p := ⟨g, i * 2 + 1, none⟩) hgw
  clear hm hst hce hfz hs
  go_enter Tryz.func118, Tryz.ntmps118
  go_wp2
  refine bodyPost_ret (v := .slice (some ⟨g, 0, none⟩) rs.length cap) (by simp [results, Tryz.results118, go_sem]) rfl ?_
  unfold DoOut
  rw [List.length_set]
  refine ⟨_, cap, rfl, ?_, ?_⟩
  · first
      | exact (MT.out _).1
      | exact MDrew (MT.out _).1
  · first
      | exact (MT.out _).2
      | exact (MT.out _).2.drew

set_option maxRecDepth 100000 in
set_option maxHeartbeats 4000000 in
theorem l12Do_kept (v : Value) (rs : List R) (i : Nat) (x : R) (au : Option Addr) (nu cu lo : Nat) (w : World) (hm : Made w lo v rs) (hn : rs.length ≤ 6) (hx : rs[i]? = some x) (hs : x.2 = 2) :
    Calls Tryz.prog 118 #[v, .agg #[.int .i64 7, .int .i64 ((i : Int) + 1), .slice au nu cu]] w fun e w' => DoOut w w' e lo (rs.set i (x.1, 4)) := by
  have hil := len_lt hx
  have hz : rs ≠ [] := fun e => by rw [e] at hil; simp at hil
  obtain ⟨g, cap, rfl, hce, hfz, hgw, hst⟩ := hm.shape hz
  have c1 := hst i x hx
  rw [hs] at c1
  have f1 := hfz (i * 2 + 1)
  have hlw : lo ≤ w.heap.size := by
    obtain ⟨ps, hps, row, _, _⟩ := hm
    have := row.lt g rfl
    omega
  have MT : Hid (∀ o, Made ((w.setCell ⟨g, i * 2 + 1, none⟩ (.int .i64 4)).alloc o) lo (.slice (some ⟨g, 0, none⟩) rs.length cap) (rs.set i (x.1, 4)) ∧ Below lo w ((w.setCell ⟨g, i * 2 + 1, none⟩ (.int .i64 4)).alloc o)) := fun o => by
    have h := hm.turn 4 rfl hx
    exact ⟨h.1.below (alloc_below _ o) (Nat.le_refl _), h.2.alloc (by simpa using hlw) o⟩
  have c1o : ∀ o, (w.alloc o).cell? ⟨g, i * 2 + 1, none⟩ = some (.int .i64 2) := fun o => cellAlloc c1 o
  have f1o : ∀ o, (w.alloc o).frozen? ⟨g, i * 2 + 1, none⟩ = false := fun o => by
    rw [← f1]; exact (alloc_below w o).frozen (p := ⟨g, i * 2 + 1, none⟩) hgw
  clear hm hst hce hfz hs
  go_enter Tryz.func118, Tryz.ntmps118
  go_wp2
  go_region
  go_wp2
  refine bodyPost_ret (v := .slice (some ⟨g, 0, none⟩) rs.length cap) (by simp [results, Tryz.results118, go_sem]) rfl ?_
  unfold DoOut
  rw [List.length_set]
  refine ⟨_, cap, rfl, ?_, ?_⟩
  · first
      | exact (MT.out _).1
      | exact MDrew (MT.out _).1
  · first
      | exact (MT.out _).2
      | exact (MT.out _).2.drew

set_option maxRecDepth 100000 in
set_option maxHeartbeats 4000000 in
theorem l12Do_left (v : Value) (rs : List R) (i : Nat) (x : R) (au : Option Addr) (nu cu lo : Nat) (w : World) (hm : Made w lo v rs) (hn : rs.length ≤ 6) (hx : rs[i]? = some x) (hs : x.2 = 3) :
    Calls Tryz.prog 118 #[v, .agg #[.int .i64 7, .int .i64 ((i : Int) + 1), .slice au nu cu]] w fun e w' => DoOut w w' e lo (rs.set i (x.1, 5)) := by
  have hil := len_lt hx
  have hz : rs ≠ [] := fun e => by rw [e] at hil; simp at hil
  obtain ⟨g, cap, rfl, hce, hfz, hgw, hst⟩ := hm.shape hz
  have c1 := hst i x hx
  rw [hs] at c1
  have f1 := hfz (i * 2 + 1)
  have hlw : lo ≤ w.heap.size := by
    obtain ⟨ps, hps, row, _, _⟩ := hm
    have := row.lt g rfl
    omega
  have MT : Hid (∀ o, Made ((w.setCell ⟨g, i * 2 + 1, none⟩ (.int .i64 5)).alloc o) lo (.slice (some ⟨g, 0, none⟩) rs.length cap) (rs.set i (x.1, 5)) ∧ Below lo w ((w.setCell ⟨g, i * 2 + 1, none⟩ (.int .i64 5)).alloc o)) := fun o => by
    have h := hm.turn 5 rfl hx
    exact ⟨h.1.below (alloc_below _ o) (Nat.le_refl _), h.2.alloc (by simpa using hlw) o⟩
  have c1o : ∀ o, (w.alloc o).cell? ⟨g, i * 2 + 1, none⟩ = some (.int .i64 3) := fun o => cellAlloc c1 o
  have f1o : ∀ o, (w.alloc o).frozen? ⟨g, i * 2 + 1, none⟩ = false := fun o => by
    rw [← f1]; exact (alloc_below w o).frozen (p := ⟨g, i * 2 + 1, none⟩) hgw
  clear hm hst hce hfz hs
  go_enter Tryz.func118, Tryz.ntmps118
  go_wp2
  go_region
  go_wp2
  refine bodyPost_ret (v := .slice (some ⟨g, 0, none⟩) rs.length cap) (by simp [results, Tryz.results118, go_sem]) rfl ?_
  unfold DoOut
  rw [List.length_set]
  refine ⟨_, cap, rfl, ?_, ?_⟩
  · first
      | exact (MT.out _).1
      | exact MDrew (MT.out _).1
  · first
      | exact (MT.out _).2
      | exact (MT.out _).2.drew

/-- l12Do of whatever may come. -/
theorem l12Do_any (v : Value) (rs : List R) (r : Rc) (u : Value) (lo : Nat) (w : World) (hm : Made w lo v rs) (hf : Fit rs) (hlo : lo ≤ w.heap.size) (hu : Ints w u r.2.2) (h1 : rOk r = true) (h2 : mayL rs r = true) :
    Calls Tryz.prog 118 #[v, .agg #[.int .i64 r.1, .int .i64 r.2.1, u]] w fun e w' => DoOut w w' e lo (doL rs r) := by
  obtain ⟨k, t, zs⟩ := r
  obtain ⟨ht1, ht6⟩ := rOk_trip h1
  dsimp only at ht1 ht6 hu
  by_cases h4 : k = 4
  · subst h4
    have h3 := manyOk_three (rOk_begin h1 rfl)
    rw [doL_begin rfl]
    exact l12Do_begin v rs t u zs lo w hm hf.1 hlo hu h3
  obtain ⟨i, hi⟩ : ∃ i : Nat, t = (i : Int) + 1 := ⟨(t - 1).toNat, by omega⟩
  subst hi
  have e : ((i : Int) + 1 - 1).toNat = i := by omega
  obtain ⟨x, hx⟩ := mayL_at h2 h4
  dsimp only at hx
  rw [e] at hx
  rw [mayL_at' h4 (by rw [e]; exact hx)] at h2
  simp only [decide_eq_true_eq] at h2
  rw [doL_at h4 hx]
  obtain ⟨au, cu, rfl⟩ := hu.shape
  by_cases h5 : k = 5 ∧ x.2 = 1
  · obtain ⟨rfl, hs⟩ := h5
    rw [show nextS x.2 5 = 2 by rw [hs]; rfl]
    exact l12Do_yes v rs i x au _ cu lo w hm hf.1 hx hs
  by_cases h6 : k = 6 ∧ x.2 = 1
  · obtain ⟨rfl, hs⟩ := h6
    rw [show nextS x.2 6 = 3 by rw [hs]; rfl]
    exact l12Do_no v rs i x au _ cu lo w hm hf.1 hx hs
  by_cases h7 : k = 7 ∧ x.2 = 2
  · obtain ⟨rfl, hs⟩ := h7
    rw [show nextS x.2 7 = 4 by rw [hs]; rfl]
    exact l12Do_kept v rs i x au _ cu lo w hm hf.1 hx hs
  by_cases h8 : k = 7 ∧ x.2 = 3
  · obtain ⟨rfl, hs⟩ := h8
    rw [show nextS x.2 7 = 5 by rw [hs]; rfl]
    exact l12Do_left v rs i x au _ cu lo w hm hf.1 hx hs
  refine absurd ?_ h2
  unfold nextS
  rw [if_neg h5, if_neg h6, if_neg h7, if_neg h8]

end Go.Proofs.YtkkkdgpbmmjieaaGreatDoor.T

namespace Go.Proofs.YtkkkdgpbmmjieaaGreatDoor.T
open Go.RowKit

theorem Made.lit (w : World) (lo : Nat) (h : lo ≤ w.heap.size) : Made (w.alloc (.cells #[] 194)) lo (.slice (some ⟨w.heap.size, 0, Option.none⟩) 0 0) [] :=
  ⟨[], rfl, ownsRow_base (lit0 w _ _) h, fun k hk => by simp [Value.ownBlock] at hk; simp; omega, Inner.nil _ _ _ (Nat.le_refl _)⟩

set_option maxHeartbeats 4000000 in
theorem l12Of_any (v : Value) (qs : List Rc) (w : World) (hv : _root_.Go.Proofs.YtkkkdgpbmmjieaaGreatDoor.Recs w v qs) (hl : _root_.Go.Proofs.YtkkkdgpbmmjieaaGreatDoor.tot qs ≤ 1048576) :
    Calls Tryz.prog 69 #[v] w fun e w' => TrOut w w' e (ofO qs) (runT qs).isSome := by
  have hlen := _root_.Go.Proofs.YtkkkdgpbmmjieaaGreatDoor.tot_len qs
  have HM : Hid (∀ r ∈ qs, r.2.2.length ≤ 1048576) := fun r hr => Nat.le_trans (_root_.Go.Proofs.YtkkkdgpbmmjieaaGreatDoor.tot_mem qs r hr) hl
  have HV : Hid (∀ W, Below w.heap.size w W → _root_.Go.Proofs.YtkkkdgpbmmjieaaGreatDoor.Recs W v qs) := fun W h => hv.later h (Nat.le_refl _)
  obtain ⟨av, cv, hvs⟩ := hv.shape
  subst hvs
  clear hv
  obtain ⟨w0, hw0⟩ : ∃ W, Hid (W = w.alloc (.cells #[] 194)) := ⟨_, rfl⟩
  have B0 : Hid (Below w.heap.size w w0) := by show Below _ _ _; rw [hw0.out]; exact alloc_below _ _
  have M0 : Hid (Made w0 w.heap.size (.slice (some ⟨w.heap.size, 0, none⟩) 0 0) []) := by show Made _ _ _ _; rw [hw0.out]; exact Made.lit w _ (Nat.le_refl _)
  obtain ⟨OO, hOO⟩ : ∃ x, ofO qs = x := ⟨_, rfl⟩
  obtain ⟨BB, hBB⟩ : ∃ x, (runT qs).isSome = x := ⟨_, rfl⟩
  rw [hOO, hBB]
  have HOO := hide_it hOO
  have HBB := hide_it hBB
  clear hOO hBB
  go_enter Tryz.func69, Tryz.ntmps69
  go_wp2
  rw [← hw0.out]
  go_loopw [4, 5] (fun vo i wr => ∃ (k : Nat) (rs : List R) (ao : Option Addr) (cp : Nat), k ≤ qs.length ∧ i = .int .i64 k ∧ vo = .slice ao rs.length cp ∧ Hid (runT (qs.take k) = some rs) ∧ Hid (Made wr w.heap.size (.slice ao rs.length cp) rs) ∧ Hid (Below w.heap.size w wr)) (fun _ i _ => qs.length - (intOf i).toNat)
  case atStart => exact ⟨0, [], _, _, Nat.zero_le _, rfl, rfl, rfl, M0, B0⟩
  case round =>
    obtain ⟨k, rs, ao, cp, hk, rfl, rfl, HR, HMd, HB⟩ := hrel
    have hfit := runT_fit HR.out
    have hn6 : rs.length ≤ 6 := hfit.1
    have HF := hide_it hfit
    have hwr := HB.out.size
    clear hfit
    by_cases hlt : k < qs.length
    · obtain ⟨q, hq⟩ : ∃ q, Hid (qs[k]? = some q) := ⟨qs[k], by show _ = _; simp [hlt]⟩
      have hrl : q.2.2.length ≤ 1048576 := HM.out q (List.mem_of_getElem? hq.out)
      rcases HV.out w (Below.refl _ _) with ⟨h0, _⟩ | ⟨b, off, cap, hvv, _, hcl⟩
      · rw [h0] at hlt; simp at hlt
      simp only [Value.slice.injEq] at hvv
      obtain ⟨rfl, -, rfl⟩ := hvv
      obtain ⟨x, d0, d1, d2, hI⟩ := hcl k q hq.out
      have hbw : b < w.heap.size := World.block_lt_of_cell? _ _ d0
      obtain ⟨ax, cx, hxs⟩ := hI.shape
      subst hxs
      have HI : Hid (∀ W, Below w.heap.size w W → Ints W (.slice ax q.2.2.length cx) q.2.2) := fun W h => hI.later h (Nat.le_refl _)
      have HCs : Hid (∀ W, Below w.heap.size w W → W.cell? ⟨b, off + k * 3, none⟩ = some (.int .i64 q.1) ∧ W.cell? ⟨b, off + k * 3 + 1, none⟩ = some (.int .i64 q.2.1) ∧ W.cell? ⟨b, off + k * 3 + 2, none⟩ = some (.slice ax q.2.2.length cx)) := fun W h =>
        ⟨cellBelow d0 h hbw, cellBelow d1 h hbw, cellBelow d2 h hbw⟩
      obtain ⟨c0, c1, c2⟩ := HCs.out wr HB.out
      have hli : (k : Int) < (qs.length : Int) := by omega
      have S0 : Calls Tryz.prog 116 #[.agg #[.int .i64 q.1, .int .i64 q.2.1, .slice ax q.2.2.length cx]] wr fun e w' => e = .returned (.bool (rOk q)) ∧ Below wr.heap.size wr w' := specOk_any q.1 q.2.1 _ q.2.2 wr (HI.out _ HB.out) hrl
      clear hI hcl d0 d1 d2
      cases hok : rOk q
      · rw [hok] at S0
        have HS := hide_it S0
        have HN : Hid (runT qs = none) := runT_bad hq.out HR.out (by rw [hok]; rfl)
        have HO1 : Hid (OO = []) := by show _ = _; rw [← HOO.out]; unfold ofO; rw [HN.out]; rfl
        have HB1 : Hid (BB = false) := by show _ = _; rw [← HBB.out, HN.out]; rfl
        clear S0 hok
        go_wp2_with fail
        refine HS.out.mono ?_
        rintro e w1 ⟨rfl, hb1⟩
        have B1 := hide_it (HB.out.trans (hb1.mono hwr))
        have hz1 := B1.out.size
        clear hb1
        go_wp2
        refine bodyPost_ret (v := .tuple #[.slice (some ⟨w1.heap.size, 0, none⟩) 0 0, .bool false]) (by simp [results, Tryz.results69, go_sem]) rfl ?_
        rw [HO1.out, HB1.out]
        exact ⟨_, 0, rfl, Made.lit w1 _ hz1, B1.out.alloc hz1 _⟩
      rw [hok] at S0
      have HS := hide_it S0
      have HOK := hide_it hok
      obtain ⟨ht1, ht6⟩ := rOk_trip hok
      have HT1 := hide_it ht1
      have HT6 := hide_it ht6
      clear S0 hok ht1 ht6
      go_wp2_with fail
      refine HS.out.mono ?_
      rintro e w1 ⟨rfl, hb1⟩
      have B1 := hide_it (HB.out.trans (hb1.mono hwr))
      have M1 := hide_it (HMd.out.below hb1 (Nat.le_refl _))
      have hz1 := B1.out.size
      clear hb1 c0 c1 c2
      obtain ⟨c0, c1, c2⟩ := HCs.out w1 B1.out
      have HQ : Hid (Calls Tryz.prog 117 #[.slice ao rs.length cp, .agg #[.int .i64 q.1, .int .i64 q.2.1, .slice ax q.2.2.length cx]] w1 fun e w' => e = .returned (.bool (mayL rs (q.1, q.2.1, q.2.2))) ∧ Below w1.heap.size w1 w') := l12May_any _ rs q.1 q.2.1 _ q.2.2 w1 M1.out.recs HF.out.tot ⟨_, _, _, rfl⟩ HT1.out HT6.out
      have eq0 : (q.1, q.2.1, q.2.2) = q := rfl
      rw [eq0] at HQ
      cases hmay : mayL rs q
      · rw [hmay] at HQ
        have HN : Hid (runT qs = none) := runT_bad hq.out HR.out (by rw [hmay, HOK.out]; rfl)
        have HO1 : Hid (OO = []) := by show _ = _; rw [← HOO.out]; unfold ofO; rw [HN.out]; rfl
        have HB1 : Hid (BB = false) := by show _ = _; rw [← HBB.out, HN.out]; rfl
        clear hmay eq0
        go_wp2_with fail
        refine HQ.out.mono ?_
        rintro e w2 ⟨rfl, hb2⟩
        have B2 := hide_it (B1.out.trans (hb2.mono hz1))
        have hz2 := B2.out.size
        clear hb2
        go_wp2
        refine bodyPost_ret (v := .tuple #[.slice (some ⟨w2.heap.size, 0, none⟩) 0 0, .bool false]) (by simp [results, Tryz.results69, go_sem]) rfl ?_
        rw [HO1.out, HB1.out]
        exact ⟨_, 0, rfl, Made.lit w2 _ hz2, B2.out.alloc hz2 _⟩
      · rw [hmay] at HQ
        have HMY := hide_it hmay
        have HR3 : Hid (runT (qs.take (k + 1)) = some (doL rs q)) := runT_good hq.out HR.out (by rw [hmay, HOK.out]; rfl)
        clear hmay eq0
        go_wp2_with fail
        refine HQ.out.mono ?_
        rintro e w2 ⟨rfl, hb2⟩
        have B2 := hide_it (B1.out.trans (hb2.mono hz1))
        have M2 := hide_it (M1.out.below hb2 (Nat.le_refl _))
        have hz2 := B2.out.size
        clear hb2 c0 c1 c2
        obtain ⟨c0, c1, c2⟩ := HCs.out w2 B2.out
        go_wp2_with fail
        refine (l12Do_any _ rs q _ w.heap.size w2 M2.out HF.out hz2 (HI.out _ B2.out) HOK.out HMY.out).mono ?_
        rintro e w3 ⟨a3, c3, rfl, hm3, hb3⟩
        have M3 := hide_it hm3
        have B3 := hide_it (B2.out.trans hb3)
        clear hm3 hb3
        go_wp2
        go_roundw
        case rel => exact ⟨k + 1, doL rs q, a3, c3, by omega, by go_num, rfl, HR3, M3, B3⟩
        case measure => simp [intOf]; omega
    · have HRq : Hid (runT qs = some rs) := by
        show _ = _
        have hke : k = qs.length := by omega
        have := HR.out
        rw [hke, List.take_length] at this
        exact this
      have HO1 : Hid (OO = rs) := by show _ = _; rw [← HOO.out]; unfold ofO; rw [HRq.out]; rfl
      have HB1 : Hid (BB = true) := by show _ = _; rw [← HBB.out, HRq.out]; rfl
      go_wp2
      refine bodyPost_ret (v := .tuple #[.slice ao rs.length cp, .bool true]) (by simp [results, Tryz.results69, go_sem]) rfl ?_
      rw [HO1.out, HB1.out]
      exact ⟨ao, cp, rfl, HMd.out, HB.out⟩

end Go.Proofs.YtkkkdgpbmmjieaaGreatDoor.T

namespace Go.Proofs.YtkkkdgpbmmjieaaGreatDoor

/-- An operation is taken first, its slot written out. -/
theorem takeD {P : Program} {md : Region.Mode} {ops : Array Oper} {Q : Exit → Act → World → Prop} {S : World → Prop} {i : Nat} {oi : Oper} {v : Value} {fuel : Nat} {listed : Array Bool} {a : Act} {w : World} (d : Option Nat) (hi : ops[i]? = some oi) (hd : oi.dst = d)
    (hs : Region.noSelect ops = true) (hf : Region.free md ops listed i = true) (hr : (Region.ready md ops listed).contains i = true)
    (hQ : ∀ c a w, Q (.panic c) (a.put d v) w → Q (.panic c) a w) (hw : Region.wanted oi (yielded ops a.tmps) = true) (hS : S w) (hy : ∀ w, S w → (execOp a.eval oi).run P w = .ok (.value v) w)
    (h : wpAnyH P md ops Q S fuel (listed.setIfInBounds i true) (a.put d v) w) : wpAnyH P md ops Q S (fuel + 1) listed a w := by
  subst hd
  exact wpAnyH_take hi hs hf hr hQ (Or.inl ⟨hw, hy⟩) hS h

/-- An operation that its guard passes over is taken first, its slot written out. -/
theorem skipD {P : Program} {md : Region.Mode} {ops : Array Oper} {Q : Exit → Act → World → Prop} {S : World → Prop} {i : Nat} {oi : Oper} {fuel : Nat} {listed : Array Bool} {a : Act} {w : World} (d : Option Nat) (hi : ops[i]? = some oi) (hd : oi.dst = d)
    (hs : Region.noSelect ops = true) (hf : Region.free md ops listed i = true) (hr : (Region.ready md ops listed).contains i = true)
    (hQ : ∀ c a w, Q (.panic c) (a.put d undef) w → Q (.panic c) a w) (hw : Region.wanted oi (yielded ops a.tmps) = false) (hS : S w)
    (h : wpAnyH P md ops Q S fuel (listed.setIfInBounds i true) (a.put d undef) w) : wpAnyH P md ops Q S (fuel + 1) listed a w := by
  subst hd
  exact wpAnyH_take hi hs hf hr hQ (Or.inr ⟨hw, rfl⟩) hS h

/-- What holds behind every operation may be weakened. -/
theorem heldMono {P : Program} {md : Region.Mode} {ops : Array Oper} {Q : Exit → Act → World → Prop} {S S2 : World → Prop} (hS : ∀ w, S2 w → S w) :
    ∀ (fuel : Nat) (listed : Array Bool) (a : Act) (w : World), wpAnyH P md ops Q S2 fuel listed a w → wpAnyH P md ops Q S fuel listed a w
  | 0, _, _, _, h => h
  | fuel + 1, _, _, _, h => ⟨h.1, fun i hi => wpOp_mono (fun a' w' h' => ⟨hS _ h'.1, heldMono hS fuel _ a' w' h'.2⟩) (h.2 i hi)⟩

end Go.Proofs.YtkkkdgpbmmjieaaGreatDoor

namespace Go.Proofs.YtkkkdgpbmmjieaaGreatDoor
open Go.RowKit

theorem eqlWord (k h t m k' h' t' m' : Int) (w : World) : Sem.run Tryz.prog (binOp BinOp.eql 82 (wordV k h t m) (wordV k' h' t' m')) w = .ok (.bool (decide (k = k') && (decide (h = h') && (decide (t = t') && decide (m = m'))))) w := by
  by_cases e1 : k = k'
  · subst e1
    by_cases e2 : h = h'
    · subst e2
      by_cases e3 : t = t'
      · subst e3
        by_cases e4 : m = m'
        · subst e4
          go_simp
        · go_simp
      · go_simp
    · go_simp
  · go_simp

theorem not_contains {hs : List Wd} {k : Nat} {q p : Wd} (h : k < hs.length) (hp : hs.getD k (0, 0, 0, 0) = p) (h1 : (hs.take k).contains q = false) (h2 : p ≠ q) : (hs.take (k + 1)).contains q = false := by
  rw [wtake hs k h, hp]
  rw [Bool.eq_false_iff] at h1 ⊢
  intro h3
  have h4 := List.contains_iff_mem.1 h3
  rcases List.mem_append.1 h4 with h4 | h4
  · exact h1 (List.contains_iff_mem.2 h4)
  · simp only [List.mem_singleton] at h4
    exact h2 h4.symm
theorem yes_contains {hs : List Wd} {k : Nat} {p : Wd} (h : k < hs.length) (hp : hs.getD k (0, 0, 0, 0) = p) : hs.contains p = true := by
  rw [← hp, wget hs k h]
  exact List.contains_iff_mem.2 (List.getElem_mem h)
theorem word_ne {p q : Wd} (h : p ≠ q) : (decide (p.1 = q.1) && (decide (p.2.1 = q.2.1) && (decide (p.2.2.1 = q.2.2.1) && decide (p.2.2.2 = q.2.2.2)))) = false := by
  rw [Bool.eq_false_iff]
  intro e
  simp only [Bool.and_eq_true, decide_eq_true_eq] at e
  apply h
  obtain ⟨p0, p1, p2, p3⟩ := p
  obtain ⟨q0, q1, q2, q3⟩ := q
  simp only at e
  obtain ⟨rfl, rfl, rfl, rfl⟩ := e
  rfl

set_option maxHeartbeats 2000000 in
theorem l13Told_any (v : Value) (hs : List Wd) (q : Wd) (w : World) (hv : Words w v hs) (hl : hs.length ≤ 1048576) :
    Calls Tryz.prog 71 #[v, wordV q.1 q.2.1 q.2.2.1 q.2.2.2] w fun e w' => e = .returned (.bool (hs.contains q)) ∧ Below w.heap.size w w' := by
  rcases hv with ⟨rfl, ao, cap, rfl, -⟩ | ⟨b, off, cap, rfl, hz, hc⟩
  · go_enter Tryz.func71, Tryz.ntmps71
    go_wp2
    refine wp_loop_rounds 1 ?_
    rw [rounds_succ]
    go_wp2
    go_ret
    exact ⟨rfl, alloc_below _ _⟩
  have HC : Hid (∀ k, k < hs.length → w.cell? ⟨b, off + k * 4, none⟩ = some (.int .i64 (hs.getD k (0, 0, 0, 0)).1) ∧ w.cell? ⟨b, off + k * 4 + 1, none⟩ = some (.int .i64 (hs.getD k (0, 0, 0, 0)).2.1) ∧ w.cell? ⟨b, off + k * 4 + 2, none⟩ = some (.int .i64 (hs.getD k (0, 0, 0, 0)).2.2.1) ∧ w.cell? ⟨b, off + k * 4 + 3, none⟩ = some (.int .i64 (hs.getD k (0, 0, 0, 0)).2.2.2)) := hc
  have hzl : 0 < hs.length := List.length_pos_iff.2 hz
  have hbw : b < w.heap.size := World.block_lt_of_cell? _ _ (hc 0 hzl).1
  clear hc hz
  obtain ⟨w0, hw0⟩ : ∃ W, Hid (W = w.alloc (.cells #[.int .i64 q.1, .int .i64 q.2.1, .int .i64 q.2.2.1, .int .i64 q.2.2.2] 82)) := ⟨_, rfl⟩
  have B0 : Hid (Below w.heap.size w w0) := by show Below _ _ _; rw [hw0.out]; exact alloc_below _ _
  have X0 : Hid (Blk w0 w.heap.size #[.int .i64 q.1, .int .i64 q.2.1, .int .i64 q.2.2.1, .int .i64 q.2.2.2] 82) := by show Blk _ _ _ _; rw [hw0.out]; exact Blk.new _ _ _
  go_enter Tryz.func71, Tryz.ntmps71
  go_wp2
  rw [← hw0.out]
  go_loopw [5] (fun i wr => ∃ k : Nat, k ≤ hs.length ∧ i = .int .i64 k ∧ Hid ((hs.take k).contains q = false) ∧ Hid (Below w0.heap.size w0 wr)) (fun i _ => hs.length - (intOf i).toNat)
  case atStart => exact ⟨0, Nat.zero_le _, rfl, by show _ = _; simp, Below.refl _ _⟩
  case round =>
    obtain ⟨k, hk, rfl, HN, HB⟩ := hrel
    have HBw := hide_it (B0.out.trans (HB.out.mono B0.out.size))
    by_cases hlt : k < hs.length
    · obtain ⟨p, HP⟩ : ∃ p, Hid (hs.getD k (0, 0, 0, 0) = p) := ⟨_, rfl⟩
      have hcl := HC.out k hlt
      rw [HP.out] at hcl
      obtain ⟨c0, c1, c2, c3⟩ := hcl
      replace c0 := T.cellBelow c0 HBw.out hbw
      replace c1 := T.cellBelow c1 HBw.out hbw
      replace c2 := T.cellBelow c2 HBw.out hbw
      replace c3 := T.cellBelow c3 HBw.out hbw
      obtain ⟨x0, x1, x2, x3⟩ := (X0.out.after HB.out).cells4
      have hli : (k : Int) < (hs.length : Int) := by omega
      by_cases heq : p = q
      · subst heq
        have HY : Hid (hs.contains p = true) := yes_contains hlt HP.out
        go_wp2
        go_quiet (fail)
        go_wp2
        go_ret
        exact ⟨by rw [HY.out]; rfl, below_drewN HBw.out _⟩
      · have HNN : Hid ((hs.take (k + 1)).contains q = false) := not_contains hlt HP.out HN.out heq
        have he : ∀ W : World, Sem.run Tryz.prog (binOp BinOp.eql 82 (wordV p.1 p.2.1 p.2.2.1 p.2.2.2) (wordV q.1 q.2.1 q.2.2.1 q.2.2.2)) W = .ok (.bool false) W := fun W => by
          rw [eqlWord, word_ne heq]
        clear heq
        go_wp2
        go_quiet (fail)
        go_wp2
        go_roundw
        case rel => exact ⟨k + 1, by omega, by go_num, HNN, below_drewN HB.out _⟩
        case measure => simp [intOf]; omega
    · have HNN : Hid (hs.contains q = false) := by
        have hke : k = hs.length := by omega
        have := HN.out
        rw [hke, List.take_length] at this
        exact this
      go_wp2
      go_ret
      exact ⟨by rw [HNN.out]; rfl, HBw.out⟩

theorem Words.cut {w : World} {N cap : Nat} {ao : Option Addr} {hs : List Wd} (h : Words w (.slice ao hs.length cap) hs) (hN : N ≤ hs.length) : Words w (.slice ao N cap) (hs.take N) := by
  rcases h with ⟨rfl, ao', cap', e, hn⟩ | ⟨b, off, cap', e, hz, hc⟩
  · simp at hN
    subst hN
    simp at e
    obtain ⟨rfl, rfl⟩ := e
    exact Or.inl ⟨rfl, _, _, rfl, hn⟩
  · simp only [Value.slice.injEq] at e
    obtain ⟨rfl, -, rfl⟩ := e
    by_cases h0 : N = 0
    · subst h0
      exact Or.inl ⟨rfl, _, _, rfl, fun h => by cases h⟩
    · have hl : (hs.take N).length = N := by rw [List.length_take]; omega
      refine Or.inr ⟨b, off, cap, by rw [hl], by intro e; rw [e] at hl; simp at hl; omega, fun k hk => ?_⟩
      rw [hl] at hk
      have hg : (hs.take N).getD k (0, 0, 0, 0) = hs.getD k (0, 0, 0, 0) := by
        simp only [List.getD_eq_getElem?_getD, List.getElem?_take, hk, if_true]
      rw [hg]
      exact hc k (by omega)

set_option maxHeartbeats 16000000 in
theorem specDeskOk_any (up : Bool) (v u : Value) (rs : List R) (f : Int) (ws : List Wd) (w : World) (hv : DkAt w v u rs ws) (hl : tot rs ≤ 1048576) (hlw : ws.length ≤ 1048576) (hfu : Form u ws.length) :
    Calls Tryz.prog 37 #[deskV up v f u] w fun e w' => e = .returned (.bool (dkOk up rs f ws)) ∧ Below w.heap.size w w' := by
  have HV : Hid (∀ W, Below w.heap.size w W → DkAt W v u rs ws) := fun W h => hv.later h (Nat.le_refl _)
  have HO : Hid (∀ o, Calls Tryz.prog 69 #[v] (w.alloc o) fun e w' => T.TrOut (w.alloc o) w' e (T.ofO rs) (T.runT rs).isSome) := fun o =>
    T.l12Of_any v rs (w.alloc o) (hv.1.later (alloc_below w o) (Nat.le_refl _)) hl
  have HL : Hid (∀ W, Below w.heap.size w W → Calls Tryz.prog 70 #[.agg #[v, .int .i64 f]] W fun e w' => e = .returned (.bool (logOk rs f)) ∧ Below W.heap.size W w') := fun W h =>
    specLogOk_any v rs f W (hv.1.later h (Nat.le_refl _)) hl
  obtain ⟨av, cv, au, cu, rfl, rfl⟩ := hv.shape
  clear hv
  have hfc : ∀ k : Nat, k ≤ ws.length → k ≤ cu := fun k hk => by
    rcases hfu with ⟨e, h0⟩ | ⟨g, cap, e, h1⟩
    · omega
    · simp at e; omega
  clear hfu
  have HE : Hid (dkOk up rs f ws = (logOk rs f && ((T.runT rs).isSome && (toldOk (T.ofO rs).length ws && (up || ws.isEmpty))))) := rfl
  have hfit := T.ofO_fit rs
  rw [HE.out]
  clear HE
  obtain ⟨LL, hLL⟩ : ∃ x, logOk rs f = x := ⟨_, rfl⟩
  obtain ⟨OO, hOO⟩ : ∃ x, T.ofO rs = x := ⟨_, rfl⟩
  obtain ⟨SS, hSS⟩ : ∃ x, (T.runT rs).isSome = x := ⟨_, rfl⟩
  rw [hLL] at HL
  rw [hOO, hSS] at HO
  rw [hOO] at hfit
  rw [hLL, hOO, hSS]
  clear hLL hOO hSS
  have hO6 : OO.length ≤ 6 := hfit.1
  clear hfit
  have X0 : Hid (Blk (w.alloc (.cells #[.bool up, .slice av rs.length cv, .int .i64 f, .slice au ws.length cu] 38)) w.heap.size #[.bool up, .slice av rs.length cv, .int .i64 f, .slice au ws.length cu] 38) := Blk.new _ _ _
  go_enter Tryz.func37, Tryz.ntmps37
  go_wp2_with fail
  refine (HO.out _).mono ?_
  rintro e w1 ⟨ao, co, rfl, -, hb1⟩
  have B1 := hide_it (below_after hb1)
  have X1 := hide_it (X0.out.after hb1)
  obtain ⟨x0, x1, x2, x3⟩ := X1.out.cells4
  clear hb1
  go_wp2_with fail
  refine (HL.out w1 B1.out).mono ?_
  rintro e w2 ⟨rfl, hb2⟩
  have B2 := hide_it (B1.out.trans (hb2.mono B1.out.size))
  have X2 := hide_it (X1.out.after hb2)
  clear hb2 x0 x1 x2 x3
  cases LL
  · go_wp2
    go_ret
    exact ⟨rfl, B2.out⟩
  cases SS
  · go_wp2
    go_ret
    exact ⟨rfl, B2.out⟩
  go_wp2
  go_loopw [5] (fun i wr => ∃ k : Nat, k ≤ ws.length ∧ i = .int .i64 k ∧ Hid (toldOk OO.length (ws.take k) = true) ∧ Hid (Below w2.heap.size w2 wr)) (fun i _ => ws.length - (intOf i).toNat)
  case atStart => exact ⟨0, Nat.zero_le _, rfl, rfl, Below.refl _ _⟩
  case round =>
    obtain ⟨k, hk, rfl, HT, HB⟩ := hrel
    have HBw := hide_it (B2.out.trans (HB.out.mono B2.out.size))
    have XR := hide_it (X2.out.after HB.out)
    have hwr : w.heap.size < wr.heap.size := XR.out.lt
    by_cases hlt : k < ws.length
    · obtain ⟨p, HP⟩ : ∃ p, Hid (ws.getD k (0, 0, 0, 0) = p) := ⟨_, rfl⟩
      rcases (HV.out wr HBw.out).2 with ⟨h0, _⟩ | ⟨b, off, cap, hvv, _, hcl⟩
      · rw [h0] at hlt; simp at hlt
      simp only [Value.slice.injEq] at hvv
      obtain ⟨rfl, -, rfl⟩ := hvv
      obtain ⟨c0, c1, c2, c3⟩ := hcl k hlt
      rw [HP.out] at c0 c1 c2 c3
      have hbw : b < wr.heap.size := World.block_lt_of_cell? _ _ c0
      clear hcl
      obtain ⟨-, -, -, x3⟩ := XR.out.cells4
      have HA : Hid (∀ W, Calls Tryz.prog 39 #[wordV p.1 p.2.1 p.2.2.1 p.2.2.2] W fun e w' => e = .returned (.bool (Pl.wOk p.1 p.2.1 p.2.2.1 p.2.2.2)) ∧ Below W.heap.size W w') := fun W => specWordOk_any _ _ _ _ W
      have HT2 : Hid (∀ W, Below w.heap.size w W → Calls Tryz.prog 71 #[.slice (some ⟨b, off, none⟩) k cu, wordV p.1 p.2.1 p.2.2.1 p.2.2.2] W fun e w' => e = .returned (.bool ((ws.take k).contains p)) ∧ Below W.heap.size W w') := fun W h => by
        have := l13Told_any _ (ws.take k) p W (Words.cut (HV.out W h).2 hk) (by rw [List.length_take]; omega)
        exact this
      obtain ⟨wB, hwB⟩ : ∃ W, Hid (W = wr.alloc (.cells #[.int .i64 p.1, .int .i64 p.2.1, .int .i64 p.2.2.1, .int .i64 p.2.2.2] 82)) := ⟨_, rfl⟩
      have D1 : Hid (Blk wB wr.heap.size #[.int .i64 p.1, .int .i64 p.2.1, .int .i64 p.2.2.1, .int .i64 p.2.2.2] 82) := by show Blk _ _ _ _; rw [hwB.out]; exact Blk.new _ _ _
      have XB : Hid (Blk wB w.heap.size #[.bool up, .slice av rs.length cv, .int .i64 f, .slice (some ⟨b, off, none⟩) ws.length cu] 38) := by show Blk _ _ _ _; rw [hwB.out]; exact XR.out.alloc _
      have LB : Hid (Below wr.heap.size wr wB) := by show Below _ _ _; rw [hwB.out]; exact alloc_below _ _
      have BW : Hid (∀ W, Below wB.heap.size wB W → Below w.heap.size w W) := fun W h => HBw.out.trans ((LB.out.trans (h.mono LB.out.size)).mono (by omega))
      have BW2 : Hid (∀ W, Below wB.heap.size wB W → Below w2.heap.size w2 W) := fun W h => HB.out.trans ((LB.out.trans (h.mono LB.out.size)).mono HB.out.size)
      have hcap := hfc k hk
      have HFC := hide_it hfc
      clear hfc
      go_wp2
      rw [← hwB.out]
      clear x3 c0 c1 c2 c3
      obtain ⟨d0, d1, d2, d3⟩ := D1.out.cells4
      obtain ⟨-, -, -, x3⟩ := XB.out.cells4
      obtain ⟨aa, haa⟩ : ∃ x, Pl.wOk p.1 p.2.1 p.2.2.1 p.2.2.2 = x := ⟨_, rfl⟩
      rw [haa] at HA
      cases aa
      · have HN : Hid (toldOk OO.length ws = false) := toldOk_bad hlt (by rw [HP.out]; unfold ansOk; rw [haa]; rfl)
        clear haa
        refine wp_region_held_drew (S := fun w' => (w'.cell? ⟨wr.heap.size, 0, none⟩ = some (.int .i64 p.1) ∧ w'.cell? ⟨wr.heap.size, 1, none⟩ = some (.int .i64 p.2.1) ∧ w'.cell? ⟨wr.heap.size, 2, none⟩ = some (.int .i64 p.2.2.1) ∧ w'.cell? ⟨wr.heap.size, 3, none⟩ = some (.int .i64 p.2.2.2)) ∧ w'.cell? ⟨w.heap.size, 3, none⟩ = some (.slice (some ⟨b, off, none⟩) ws.length cu)) (by kernel_rfl) ⟨⟨d0, d1, d2, d3⟩, x3⟩ (fun hHeld => ?_)
        clear d0 d1 d2 d3 x3
        refine takeD (i := 0) (v := ?_) (some 34) rfl rfl (by kernel_rfl) (by kernel_rfl) (by kernel_rfl) (fun _ _ _ h => h) (by rfl) hHeld ?_ ?_
        rotate_left
        · intro W hSw
          try dsimp only at hSw
          go_simp
          try with_reducible rfl
        try simp only [Act.put]
        try simp only [List.setIfInBounds_toArray]
        try simp only [List.set_cons_succ]
        try simp only [List.set_cons_zero]
        refine wpAnyH_ready (rs := [1]) (by kernel_rfl) (by simp) ?_
        refine AllReadyH.cons rfl (fun K hK => ?_) AllReadyH.nil
        go_simp
        refine (HA.out _).mono ?_
        rintro e w2 ⟨rfl, hb2⟩
        have L2 := hide_it ((Below.refl wB.heap.size wB).drew.trans hb2)
        clear hb2
        obtain ⟨d0, d1, d2, d3⟩ := (D1.out.after L2.out).cells4
        obtain ⟨-, -, -, x3⟩ := (XB.out.after L2.out).cells4
        try dsimp only
        refine hK.out _ _ ⟨⟨d0, d1, d2, d3⟩, x3⟩ (fun hHeld => ?_)
        clear hK K d0 d1 d2 d3 x3
        refine takeD (i := 2) (v := .bool true) (some 36) rfl rfl (by kernel_rfl) (by kernel_rfl) (by kernel_rfl) (fun _ _ _ h => h) (by rfl) hHeld ?_ ?_
        · intro W hSw
          try dsimp only at hSw
          first | (go_simp; done) | (go_simp; simp [*]; done) | (go_simp; simp; omega)
        try simp only [Act.put]
        try simp only [List.setIfInBounds_toArray]
        try simp only [List.set_cons_succ]
        try simp only [List.set_cons_zero]
        refine takeD (i := 3) (v := .bool true) (some 37) rfl rfl (by kernel_rfl) (by kernel_rfl) (by kernel_rfl) (fun _ _ _ h => h) (by rfl) hHeld ?_ ?_
        · intro W hSw
          try dsimp only at hSw
          first | (go_simp; done) | (go_simp; simp [*]; done) | (go_simp; simp; omega)
        try simp only [Act.put]
        try simp only [List.setIfInBounds_toArray]
        try simp only [List.set_cons_succ]
        try simp only [List.set_cons_zero]
        refine skipD (i := 4) (some 38) rfl rfl (by kernel_rfl) (by kernel_rfl) (by kernel_rfl) (fun _ _ _ h => h) (by rfl) hHeld ?_
        try simp only [Act.put]
        try simp only [List.setIfInBounds_toArray]
        try simp only [List.set_cons_succ]
        try simp only [List.set_cons_zero]
        refine skipD (i := 5) (some 39) rfl rfl (by kernel_rfl) (by kernel_rfl) (by kernel_rfl) (fun _ _ _ h => h) (by rfl) hHeld ?_
        try simp only [Act.put]
        try simp only [List.setIfInBounds_toArray]
        try simp only [List.set_cons_succ]
        try simp only [List.set_cons_zero]
        refine skipD (i := 6) (some 40) rfl rfl (by kernel_rfl) (by kernel_rfl) (by kernel_rfl) (fun _ _ _ h => h) (by rfl) hHeld ?_
        try simp only [Act.put]
        try simp only [List.setIfInBounds_toArray]
        try simp only [List.set_cons_succ]
        try simp only [List.set_cons_zero]
        refine takeD (i := 7) (v := .bool true) (some 41) rfl rfl (by kernel_rfl) (by kernel_rfl) (by kernel_rfl) (fun _ _ _ h => h) (by rfl) hHeld ?_ ?_
        · intro W hSw
          try dsimp only at hSw
          first | (go_simp; done) | (go_simp; simp [*]; done) | (go_simp; simp; omega)
        try simp only [Act.put]
        try simp only [List.setIfInBounds_toArray]
        try simp only [List.set_cons_succ]
        try simp only [List.set_cons_zero]
        refine takeD (i := 8) (v := .bool true) (some 42) rfl rfl (by kernel_rfl) (by kernel_rfl) (by kernel_rfl) (fun _ _ _ h => h) (by rfl) hHeld ?_ ?_
        · intro W hSw
          try dsimp only at hSw
          first | (go_simp; done) | (go_simp; simp [*]; done) | (go_simp; simp; omega)
        try simp only [Act.put]
        try simp only [List.setIfInBounds_toArray]
        try simp only [List.set_cons_succ]
        try simp only [List.set_cons_zero]
        refine skipD (i := 9) (some 43) rfl rfl (by kernel_rfl) (by kernel_rfl) (by kernel_rfl) (fun _ _ _ h => h) (by rfl) hHeld ?_
        try simp only [Act.put]
        try simp only [List.setIfInBounds_toArray]
        try simp only [List.set_cons_succ]
        try simp only [List.set_cons_zero]
        refine skipD (i := 10) (some 44) rfl rfl (by kernel_rfl) (by kernel_rfl) (by kernel_rfl) (fun _ _ _ h => h) (by rfl) hHeld ?_
        try simp only [Act.put]
        try simp only [List.setIfInBounds_toArray]
        try simp only [List.set_cons_succ]
        try simp only [List.set_cons_zero]
        refine skipD (i := 11) (some 45) rfl rfl (by kernel_rfl) (by kernel_rfl) (by kernel_rfl) (fun _ _ _ h => h) (by rfl) hHeld ?_
        try simp only [Act.put]
        try simp only [List.setIfInBounds_toArray]
        try simp only [List.set_cons_succ]
        try simp only [List.set_cons_zero]
        refine skipD (i := 12) (some 46) rfl rfl (by kernel_rfl) (by kernel_rfl) (by kernel_rfl) (fun _ _ _ h => h) (by rfl) hHeld ?_
        try simp only [Act.put]
        try simp only [List.setIfInBounds_toArray]
        try simp only [List.set_cons_succ]
        try simp only [List.set_cons_zero]
        refine skipD (i := 13) (some 47) rfl rfl (by kernel_rfl) (by kernel_rfl) (by kernel_rfl) (fun _ _ _ h => h) (by rfl) hHeld ?_
        try simp only [Act.put]
        try simp only [List.setIfInBounds_toArray]
        try simp only [List.set_cons_succ]
        try simp only [List.set_cons_zero]
        refine takeD (i := 14) (v := .bool true) (some 48) rfl rfl (by kernel_rfl) (by kernel_rfl) (by kernel_rfl) (fun _ _ _ h => h) (by rfl) hHeld ?_ ?_
        · intro W hSw
          try dsimp only at hSw
          first | (go_simp; done) | (go_simp; simp [*]; done) | (go_simp; simp; omega)
        try simp only [Act.put]
        try simp only [List.setIfInBounds_toArray]
        try simp only [List.set_cons_succ]
        try simp only [List.set_cons_zero]
        refine takeD (i := 15) (v := .bool true) (some 49) rfl rfl (by kernel_rfl) (by kernel_rfl) (by kernel_rfl) (fun _ _ _ h => h) (by rfl) hHeld ?_ ?_
        · intro W hSw
          try dsimp only at hSw
          first | (go_simp; done) | (go_simp; simp [*]; done) | (go_simp; simp; omega)
        try simp only [Act.put]
        try simp only [List.setIfInBounds_toArray]
        try simp only [List.set_cons_succ]
        try simp only [List.set_cons_zero]
        refine skipD (i := 16) (some 50) rfl rfl (by kernel_rfl) (by kernel_rfl) (by kernel_rfl) (fun _ _ _ h => h) (by rfl) hHeld ?_
        try simp only [Act.put]
        try simp only [List.setIfInBounds_toArray]
        try simp only [List.set_cons_succ]
        try simp only [List.set_cons_zero]
        refine skipD (i := 17) (some 51) rfl rfl (by kernel_rfl) (by kernel_rfl) (by kernel_rfl) (fun _ _ _ h => h) (by rfl) hHeld ?_
        try simp only [Act.put]
        try simp only [List.setIfInBounds_toArray]
        try simp only [List.set_cons_succ]
        try simp only [List.set_cons_zero]
        refine skipD (i := 18) (some 52) rfl rfl (by kernel_rfl) (by kernel_rfl) (by kernel_rfl) (fun _ _ _ h => h) (by rfl) hHeld ?_
        try simp only [Act.put]
        try simp only [List.setIfInBounds_toArray]
        try simp only [List.set_cons_succ]
        try simp only [List.set_cons_zero]
        refine skipD (i := 19) (some 53) rfl rfl (by kernel_rfl) (by kernel_rfl) (by kernel_rfl) (fun _ _ _ h => h) (by rfl) hHeld ?_
        try simp only [Act.put]
        try simp only [List.setIfInBounds_toArray]
        try simp only [List.set_cons_succ]
        try simp only [List.set_cons_zero]
        refine skipD (i := 20) (some 54) rfl rfl (by kernel_rfl) (by kernel_rfl) (by kernel_rfl) (fun _ _ _ h => h) (by rfl) hHeld ?_
        try simp only [Act.put]
        try simp only [List.setIfInBounds_toArray]
        try simp only [List.set_cons_succ]
        try simp only [List.set_cons_zero]
        refine skipD (i := 21) (some 55) rfl rfl (by kernel_rfl) (by kernel_rfl) (by kernel_rfl) (fun _ _ _ h => h) (by rfl) hHeld ?_
        try simp only [Act.put]
        try simp only [List.setIfInBounds_toArray]
        try simp only [List.set_cons_succ]
        try simp only [List.set_cons_zero]
        refine takeD (i := 22) (v := .bool true) (some 56) rfl rfl (by kernel_rfl) (by kernel_rfl) (by kernel_rfl) (fun _ _ _ h => h) (by rfl) hHeld ?_ ?_
        · intro W hSw
          try dsimp only at hSw
          first | (go_simp; done) | (go_simp; simp [*]; done) | (go_simp; simp; omega)
        try simp only [Act.put]
        try simp only [List.setIfInBounds_toArray]
        try simp only [List.set_cons_succ]
        try simp only [List.set_cons_zero]
        refine wpAnyH_done (by kernel_rfl) ?_ _
        go_wp2
        go_ret
        exact ⟨by rw [HN.out]; simp, BW.out _ L2.out⟩
      by_cases h4 : p.1 < 4
      · have HN : Hid (toldOk OO.length ws = false) := toldOk_bad hlt (by rw [HP.out]; unfold ansOk; rw [haa, decide_eq_false (by omega)]; rfl)
        clear haa
        refine wp_region_held_drew (S := fun w' => (w'.cell? ⟨wr.heap.size, 0, none⟩ = some (.int .i64 p.1) ∧ w'.cell? ⟨wr.heap.size, 1, none⟩ = some (.int .i64 p.2.1) ∧ w'.cell? ⟨wr.heap.size, 2, none⟩ = some (.int .i64 p.2.2.1) ∧ w'.cell? ⟨wr.heap.size, 3, none⟩ = some (.int .i64 p.2.2.2)) ∧ w'.cell? ⟨w.heap.size, 3, none⟩ = some (.slice (some ⟨b, off, none⟩) ws.length cu)) (by kernel_rfl) ⟨⟨d0, d1, d2, d3⟩, x3⟩ (fun hHeld => ?_)
        clear d0 d1 d2 d3 x3
        refine takeD (i := 0) (v := ?_) (some 34) rfl rfl (by kernel_rfl) (by kernel_rfl) (by kernel_rfl) (fun _ _ _ h => h) (by rfl) hHeld ?_ ?_
        rotate_left
        · intro W hSw
          try dsimp only at hSw
          go_simp
          try with_reducible rfl
        try simp only [Act.put]
        try simp only [List.setIfInBounds_toArray]
        try simp only [List.set_cons_succ]
        try simp only [List.set_cons_zero]
        refine wpAnyH_ready (rs := [1]) (by kernel_rfl) (by simp) ?_
        refine AllReadyH.cons rfl (fun K hK => ?_) AllReadyH.nil
        go_simp
        refine (HA.out _).mono ?_
        rintro e w2 ⟨rfl, hb2⟩
        have L2 := hide_it ((Below.refl wB.heap.size wB).drew.trans hb2)
        clear hb2
        obtain ⟨d0, d1, d2, d3⟩ := (D1.out.after L2.out).cells4
        obtain ⟨-, -, -, x3⟩ := (XB.out.after L2.out).cells4
        try dsimp only
        refine hK.out _ _ ⟨⟨d0, d1, d2, d3⟩, x3⟩ (fun hHeld => ?_)
        clear hK K d0 d1 d2 d3 x3
        refine takeD (i := 2) (v := .bool false) (some 36) rfl rfl (by kernel_rfl) (by kernel_rfl) (by kernel_rfl) (fun _ _ _ h => h) (by rfl) hHeld ?_ ?_
        · intro W hSw
          try dsimp only at hSw
          first | (go_simp; done) | (go_simp; simp [*]; done) | (go_simp; simp; omega)
        try simp only [Act.put]
        try simp only [List.setIfInBounds_toArray]
        try simp only [List.set_cons_succ]
        try simp only [List.set_cons_zero]
        refine takeD (i := 3) (v := .bool false) (some 37) rfl rfl (by kernel_rfl) (by kernel_rfl) (by kernel_rfl) (fun _ _ _ h => h) (by rfl) hHeld ?_ ?_
        · intro W hSw
          try dsimp only at hSw
          first | (go_simp; done) | (go_simp; simp [*]; done) | (go_simp; simp; omega)
        try simp only [Act.put]
        try simp only [List.setIfInBounds_toArray]
        try simp only [List.set_cons_succ]
        try simp only [List.set_cons_zero]
        refine takeD (i := 4) (v := ?_) (some 38) rfl rfl (by kernel_rfl) (by kernel_rfl) (by kernel_rfl) (fun _ _ _ h => h) (by rfl) hHeld ?_ ?_
        rotate_left
        · intro W hSw
          try dsimp only at hSw
          go_simp
          try with_reducible rfl
        try simp only [Act.put]
        try simp only [List.setIfInBounds_toArray]
        try simp only [List.set_cons_succ]
        try simp only [List.set_cons_zero]
        refine takeD (i := 5) (v := ?_) (some 39) rfl rfl (by kernel_rfl) (by kernel_rfl) (by kernel_rfl) (fun _ _ _ h => h) (by rfl) hHeld ?_ ?_
        rotate_left
        · intro W hSw
          try dsimp only at hSw
          go_simp
          try with_reducible rfl
        try simp only [Act.put]
        try simp only [List.setIfInBounds_toArray]
        try simp only [List.set_cons_succ]
        try simp only [List.set_cons_zero]
        refine takeD (i := 6) (v := .bool true) (some 40) rfl rfl (by kernel_rfl) (by kernel_rfl) (by kernel_rfl) (fun _ _ _ h => h) (by rfl) hHeld ?_ ?_
        · intro W hSw
          try dsimp only at hSw
          first | (go_simp; done) | (go_simp; simp [*]; done) | (go_simp; simp; omega)
        try simp only [Act.put]
        try simp only [List.setIfInBounds_toArray]
        try simp only [List.set_cons_succ]
        try simp only [List.set_cons_zero]
        refine takeD (i := 7) (v := .bool true) (some 41) rfl rfl (by kernel_rfl) (by kernel_rfl) (by kernel_rfl) (fun _ _ _ h => h) (by rfl) hHeld ?_ ?_
        · intro W hSw
          try dsimp only at hSw
          first | (go_simp; done) | (go_simp; simp [*]; done) | (go_simp; simp; omega)
        try simp only [Act.put]
        try simp only [List.setIfInBounds_toArray]
        try simp only [List.set_cons_succ]
        try simp only [List.set_cons_zero]
        refine takeD (i := 8) (v := .bool true) (some 42) rfl rfl (by kernel_rfl) (by kernel_rfl) (by kernel_rfl) (fun _ _ _ h => h) (by rfl) hHeld ?_ ?_
        · intro W hSw
          try dsimp only at hSw
          first | (go_simp; done) | (go_simp; simp [*]; done) | (go_simp; simp; omega)
        try simp only [Act.put]
        try simp only [List.setIfInBounds_toArray]
        try simp only [List.set_cons_succ]
        try simp only [List.set_cons_zero]
        refine skipD (i := 9) (some 43) rfl rfl (by kernel_rfl) (by kernel_rfl) (by kernel_rfl) (fun _ _ _ h => h) (by rfl) hHeld ?_
        try simp only [Act.put]
        try simp only [List.setIfInBounds_toArray]
        try simp only [List.set_cons_succ]
        try simp only [List.set_cons_zero]
        refine skipD (i := 10) (some 44) rfl rfl (by kernel_rfl) (by kernel_rfl) (by kernel_rfl) (fun _ _ _ h => h) (by rfl) hHeld ?_
        try simp only [Act.put]
        try simp only [List.setIfInBounds_toArray]
        try simp only [List.set_cons_succ]
        try simp only [List.set_cons_zero]
        refine skipD (i := 11) (some 45) rfl rfl (by kernel_rfl) (by kernel_rfl) (by kernel_rfl) (fun _ _ _ h => h) (by rfl) hHeld ?_
        try simp only [Act.put]
        try simp only [List.setIfInBounds_toArray]
        try simp only [List.set_cons_succ]
        try simp only [List.set_cons_zero]
        refine skipD (i := 12) (some 46) rfl rfl (by kernel_rfl) (by kernel_rfl) (by kernel_rfl) (fun _ _ _ h => h) (by rfl) hHeld ?_
        try simp only [Act.put]
        try simp only [List.setIfInBounds_toArray]
        try simp only [List.set_cons_succ]
        try simp only [List.set_cons_zero]
        refine skipD (i := 13) (some 47) rfl rfl (by kernel_rfl) (by kernel_rfl) (by kernel_rfl) (fun _ _ _ h => h) (by rfl) hHeld ?_
        try simp only [Act.put]
        try simp only [List.setIfInBounds_toArray]
        try simp only [List.set_cons_succ]
        try simp only [List.set_cons_zero]
        refine takeD (i := 14) (v := .bool true) (some 48) rfl rfl (by kernel_rfl) (by kernel_rfl) (by kernel_rfl) (fun _ _ _ h => h) (by rfl) hHeld ?_ ?_
        · intro W hSw
          try dsimp only at hSw
          first | (go_simp; done) | (go_simp; simp [*]; done) | (go_simp; simp; omega)
        try simp only [Act.put]
        try simp only [List.setIfInBounds_toArray]
        try simp only [List.set_cons_succ]
        try simp only [List.set_cons_zero]
        refine takeD (i := 15) (v := .bool true) (some 49) rfl rfl (by kernel_rfl) (by kernel_rfl) (by kernel_rfl) (fun _ _ _ h => h) (by rfl) hHeld ?_ ?_
        · intro W hSw
          try dsimp only at hSw
          first | (go_simp; done) | (go_simp; simp [*]; done) | (go_simp; simp; omega)
        try simp only [Act.put]
        try simp only [List.setIfInBounds_toArray]
        try simp only [List.set_cons_succ]
        try simp only [List.set_cons_zero]
        refine skipD (i := 16) (some 50) rfl rfl (by kernel_rfl) (by kernel_rfl) (by kernel_rfl) (fun _ _ _ h => h) (by rfl) hHeld ?_
        try simp only [Act.put]
        try simp only [List.setIfInBounds_toArray]
        try simp only [List.set_cons_succ]
        try simp only [List.set_cons_zero]
        refine skipD (i := 17) (some 51) rfl rfl (by kernel_rfl) (by kernel_rfl) (by kernel_rfl) (fun _ _ _ h => h) (by rfl) hHeld ?_
        try simp only [Act.put]
        try simp only [List.setIfInBounds_toArray]
        try simp only [List.set_cons_succ]
        try simp only [List.set_cons_zero]
        refine skipD (i := 18) (some 52) rfl rfl (by kernel_rfl) (by kernel_rfl) (by kernel_rfl) (fun _ _ _ h => h) (by rfl) hHeld ?_
        try simp only [Act.put]
        try simp only [List.setIfInBounds_toArray]
        try simp only [List.set_cons_succ]
        try simp only [List.set_cons_zero]
        refine skipD (i := 19) (some 53) rfl rfl (by kernel_rfl) (by kernel_rfl) (by kernel_rfl) (fun _ _ _ h => h) (by rfl) hHeld ?_
        try simp only [Act.put]
        try simp only [List.setIfInBounds_toArray]
        try simp only [List.set_cons_succ]
        try simp only [List.set_cons_zero]
        refine skipD (i := 20) (some 54) rfl rfl (by kernel_rfl) (by kernel_rfl) (by kernel_rfl) (fun _ _ _ h => h) (by rfl) hHeld ?_
        try simp only [Act.put]
        try simp only [List.setIfInBounds_toArray]
        try simp only [List.set_cons_succ]
        try simp only [List.set_cons_zero]
        refine skipD (i := 21) (some 55) rfl rfl (by kernel_rfl) (by kernel_rfl) (by kernel_rfl) (fun _ _ _ h => h) (by rfl) hHeld ?_
        try simp only [Act.put]
        try simp only [List.setIfInBounds_toArray]
        try simp only [List.set_cons_succ]
        try simp only [List.set_cons_zero]
        refine takeD (i := 22) (v := .bool true) (some 56) rfl rfl (by kernel_rfl) (by kernel_rfl) (by kernel_rfl) (fun _ _ _ h => h) (by rfl) hHeld ?_ ?_
        · intro W hSw
          try dsimp only at hSw
          first | (go_simp; done) | (go_simp; simp [*]; done) | (go_simp; simp; omega)
        try simp only [Act.put]
        try simp only [List.setIfInBounds_toArray]
        try simp only [List.set_cons_succ]
        try simp only [List.set_cons_zero]
        refine wpAnyH_done (by kernel_rfl) ?_ _
        go_wp2
        go_ret
        exact ⟨by rw [HN.out]; simp, BW.out _ L2.out⟩
      by_cases hn : (OO.length : Int) < p.2.2.1
      · have HN : Hid (toldOk OO.length ws = false) := toldOk_bad hlt (by rw [HP.out]; unfold ansOk; rw [haa, decide_eq_true (by omega), decide_eq_false (by omega)]; rfl)
        clear haa
        refine wp_region_held_drew (S := fun w' => (w'.cell? ⟨wr.heap.size, 0, none⟩ = some (.int .i64 p.1) ∧ w'.cell? ⟨wr.heap.size, 1, none⟩ = some (.int .i64 p.2.1) ∧ w'.cell? ⟨wr.heap.size, 2, none⟩ = some (.int .i64 p.2.2.1) ∧ w'.cell? ⟨wr.heap.size, 3, none⟩ = some (.int .i64 p.2.2.2)) ∧ w'.cell? ⟨w.heap.size, 3, none⟩ = some (.slice (some ⟨b, off, none⟩) ws.length cu)) (by kernel_rfl) ⟨⟨d0, d1, d2, d3⟩, x3⟩ (fun hHeld => ?_)
        clear d0 d1 d2 d3 x3
        refine takeD (i := 0) (v := ?_) (some 34) rfl rfl (by kernel_rfl) (by kernel_rfl) (by kernel_rfl) (fun _ _ _ h => h) (by rfl) hHeld ?_ ?_
        rotate_left
        · intro W hSw
          try dsimp only at hSw
          go_simp
          try with_reducible rfl
        try simp only [Act.put]
        try simp only [List.setIfInBounds_toArray]
        try simp only [List.set_cons_succ]
        try simp only [List.set_cons_zero]
        refine wpAnyH_ready (rs := [1]) (by kernel_rfl) (by simp) ?_
        refine AllReadyH.cons rfl (fun K hK => ?_) AllReadyH.nil
        go_simp
        refine (HA.out _).mono ?_
        rintro e w2 ⟨rfl, hb2⟩
        have L2 := hide_it ((Below.refl wB.heap.size wB).drew.trans hb2)
        clear hb2
        obtain ⟨d0, d1, d2, d3⟩ := (D1.out.after L2.out).cells4
        obtain ⟨-, -, -, x3⟩ := (XB.out.after L2.out).cells4
        try dsimp only
        refine hK.out _ _ ⟨⟨d0, d1, d2, d3⟩, x3⟩ (fun hHeld => ?_)
        clear hK K d0 d1 d2 d3 x3
        refine takeD (i := 2) (v := .bool false) (some 36) rfl rfl (by kernel_rfl) (by kernel_rfl) (by kernel_rfl) (fun _ _ _ h => h) (by rfl) hHeld ?_ ?_
        · intro W hSw
          try dsimp only at hSw
          first | (go_simp; done) | (go_simp; simp [*]; done) | (go_simp; simp; omega)
        try simp only [Act.put]
        try simp only [List.setIfInBounds_toArray]
        try simp only [List.set_cons_succ]
        try simp only [List.set_cons_zero]
        refine takeD (i := 3) (v := .bool false) (some 37) rfl rfl (by kernel_rfl) (by kernel_rfl) (by kernel_rfl) (fun _ _ _ h => h) (by rfl) hHeld ?_ ?_
        · intro W hSw
          try dsimp only at hSw
          first | (go_simp; done) | (go_simp; simp [*]; done) | (go_simp; simp; omega)
        try simp only [Act.put]
        try simp only [List.setIfInBounds_toArray]
        try simp only [List.set_cons_succ]
        try simp only [List.set_cons_zero]
        refine takeD (i := 4) (v := ?_) (some 38) rfl rfl (by kernel_rfl) (by kernel_rfl) (by kernel_rfl) (fun _ _ _ h => h) (by rfl) hHeld ?_ ?_
        rotate_left
        · intro W hSw
          try dsimp only at hSw
          go_simp
          try with_reducible rfl
        try simp only [Act.put]
        try simp only [List.setIfInBounds_toArray]
        try simp only [List.set_cons_succ]
        try simp only [List.set_cons_zero]
        refine takeD (i := 5) (v := ?_) (some 39) rfl rfl (by kernel_rfl) (by kernel_rfl) (by kernel_rfl) (fun _ _ _ h => h) (by rfl) hHeld ?_ ?_
        rotate_left
        · intro W hSw
          try dsimp only at hSw
          go_simp
          try with_reducible rfl
        try simp only [Act.put]
        try simp only [List.setIfInBounds_toArray]
        try simp only [List.set_cons_succ]
        try simp only [List.set_cons_zero]
        refine takeD (i := 6) (v := .bool false) (some 40) rfl rfl (by kernel_rfl) (by kernel_rfl) (by kernel_rfl) (fun _ _ _ h => h) (by rfl) hHeld ?_ ?_
        · intro W hSw
          try dsimp only at hSw
          first | (go_simp; done) | (go_simp; simp [*]; done) | (go_simp; simp; omega)
        try simp only [Act.put]
        try simp only [List.setIfInBounds_toArray]
        try simp only [List.set_cons_succ]
        try simp only [List.set_cons_zero]
        refine takeD (i := 7) (v := .bool false) (some 41) rfl rfl (by kernel_rfl) (by kernel_rfl) (by kernel_rfl) (fun _ _ _ h => h) (by rfl) hHeld ?_ ?_
        · intro W hSw
          try dsimp only at hSw
          first | (go_simp; done) | (go_simp; simp [*]; done) | (go_simp; simp; omega)
        try simp only [Act.put]
        try simp only [List.setIfInBounds_toArray]
        try simp only [List.set_cons_succ]
        try simp only [List.set_cons_zero]
        refine takeD (i := 8) (v := .bool false) (some 42) rfl rfl (by kernel_rfl) (by kernel_rfl) (by kernel_rfl) (fun _ _ _ h => h) (by rfl) hHeld ?_ ?_
        · intro W hSw
          try dsimp only at hSw
          first | (go_simp; done) | (go_simp; simp [*]; done) | (go_simp; simp; omega)
        try simp only [Act.put]
        try simp only [List.setIfInBounds_toArray]
        try simp only [List.set_cons_succ]
        try simp only [List.set_cons_zero]
        refine takeD (i := 9) (v := ?_) (some 43) rfl rfl (by kernel_rfl) (by kernel_rfl) (by kernel_rfl) (fun _ _ _ h => h) (by rfl) hHeld ?_ ?_
        rotate_left
        · intro W hSw
          try dsimp only at hSw
          go_simp
          try with_reducible rfl
        try simp only [Act.put]
        try simp only [List.setIfInBounds_toArray]
        try simp only [List.set_cons_succ]
        try simp only [List.set_cons_zero]
        refine takeD (i := 10) (v := ?_) (some 44) rfl rfl (by kernel_rfl) (by kernel_rfl) (by kernel_rfl) (fun _ _ _ h => h) (by rfl) hHeld ?_ ?_
        rotate_left
        · intro W hSw
          try dsimp only at hSw
          go_simp
          try with_reducible rfl
        try simp only [Act.put]
        try simp only [List.setIfInBounds_toArray]
        try simp only [List.set_cons_succ]
        try simp only [List.set_cons_zero]
        refine takeD (i := 11) (v := ?_) (some 45) rfl rfl (by kernel_rfl) (by kernel_rfl) (by kernel_rfl) (fun _ _ _ h => h) (by rfl) hHeld ?_ ?_
        rotate_left
        · intro W hSw
          try dsimp only at hSw
          go_simp
          try with_reducible rfl
        try simp only [Act.put]
        try simp only [List.setIfInBounds_toArray]
        try simp only [List.set_cons_succ]
        try simp only [List.set_cons_zero]
        refine takeD (i := 12) (v := ?_) (some 46) rfl rfl (by kernel_rfl) (by kernel_rfl) (by kernel_rfl) (fun _ _ _ h => h) (by rfl) hHeld ?_ ?_
        rotate_left
        · intro W hSw
          try dsimp only at hSw
          go_simp
          try with_reducible rfl
        try simp only [Act.put]
        try simp only [List.setIfInBounds_toArray]
        try simp only [List.set_cons_succ]
        try simp only [List.set_cons_zero]
        refine takeD (i := 13) (v := .bool true) (some 47) rfl rfl (by kernel_rfl) (by kernel_rfl) (by kernel_rfl) (fun _ _ _ h => h) (by rfl) hHeld ?_ ?_
        · intro W hSw
          try dsimp only at hSw
          first | (go_simp; done) | (go_simp; simp [*]; done) | (go_simp; simp; omega)
        try simp only [Act.put]
        try simp only [List.setIfInBounds_toArray]
        try simp only [List.set_cons_succ]
        try simp only [List.set_cons_zero]
        refine takeD (i := 14) (v := .bool true) (some 48) rfl rfl (by kernel_rfl) (by kernel_rfl) (by kernel_rfl) (fun _ _ _ h => h) (by rfl) hHeld ?_ ?_
        · intro W hSw
          try dsimp only at hSw
          first | (go_simp; done) | (go_simp; simp [*]; done) | (go_simp; simp; omega)
        try simp only [Act.put]
        try simp only [List.setIfInBounds_toArray]
        try simp only [List.set_cons_succ]
        try simp only [List.set_cons_zero]
        refine takeD (i := 15) (v := .bool true) (some 49) rfl rfl (by kernel_rfl) (by kernel_rfl) (by kernel_rfl) (fun _ _ _ h => h) (by rfl) hHeld ?_ ?_
        · intro W hSw
          try dsimp only at hSw
          first | (go_simp; done) | (go_simp; simp [*]; done) | (go_simp; simp; omega)
        try simp only [Act.put]
        try simp only [List.setIfInBounds_toArray]
        try simp only [List.set_cons_succ]
        try simp only [List.set_cons_zero]
        refine skipD (i := 16) (some 50) rfl rfl (by kernel_rfl) (by kernel_rfl) (by kernel_rfl) (fun _ _ _ h => h) (by rfl) hHeld ?_
        try simp only [Act.put]
        try simp only [List.setIfInBounds_toArray]
        try simp only [List.set_cons_succ]
        try simp only [List.set_cons_zero]
        refine skipD (i := 17) (some 51) rfl rfl (by kernel_rfl) (by kernel_rfl) (by kernel_rfl) (fun _ _ _ h => h) (by rfl) hHeld ?_
        try simp only [Act.put]
        try simp only [List.setIfInBounds_toArray]
        try simp only [List.set_cons_succ]
        try simp only [List.set_cons_zero]
        refine skipD (i := 18) (some 52) rfl rfl (by kernel_rfl) (by kernel_rfl) (by kernel_rfl) (fun _ _ _ h => h) (by rfl) hHeld ?_
        try simp only [Act.put]
        try simp only [List.setIfInBounds_toArray]
        try simp only [List.set_cons_succ]
        try simp only [List.set_cons_zero]
        refine skipD (i := 19) (some 53) rfl rfl (by kernel_rfl) (by kernel_rfl) (by kernel_rfl) (fun _ _ _ h => h) (by rfl) hHeld ?_
        try simp only [Act.put]
        try simp only [List.setIfInBounds_toArray]
        try simp only [List.set_cons_succ]
        try simp only [List.set_cons_zero]
        refine skipD (i := 20) (some 54) rfl rfl (by kernel_rfl) (by kernel_rfl) (by kernel_rfl) (fun _ _ _ h => h) (by rfl) hHeld ?_
        try simp only [Act.put]
        try simp only [List.setIfInBounds_toArray]
        try simp only [List.set_cons_succ]
        try simp only [List.set_cons_zero]
        refine skipD (i := 21) (some 55) rfl rfl (by kernel_rfl) (by kernel_rfl) (by kernel_rfl) (fun _ _ _ h => h) (by rfl) hHeld ?_
        try simp only [Act.put]
        try simp only [List.setIfInBounds_toArray]
        try simp only [List.set_cons_succ]
        try simp only [List.set_cons_zero]
        refine takeD (i := 22) (v := .bool true) (some 56) rfl rfl (by kernel_rfl) (by kernel_rfl) (by kernel_rfl) (fun _ _ _ h => h) (by rfl) hHeld ?_ ?_
        · intro W hSw
          try dsimp only at hSw
          first | (go_simp; done) | (go_simp; simp [*]; done) | (go_simp; simp; omega)
        try simp only [Act.put]
        try simp only [List.setIfInBounds_toArray]
        try simp only [List.set_cons_succ]
        try simp only [List.set_cons_zero]
        refine wpAnyH_done (by kernel_rfl) ?_ _
        go_wp2
        go_ret
        exact ⟨by rw [HN.out]; simp, BW.out _ L2.out⟩
      have HAN : Hid (ansOk OO.length p = true) := by show _ = _; unfold ansOk; rw [haa, decide_eq_true (by omega), decide_eq_true (by omega)]; rfl
      clear haa
      obtain ⟨cc, hcc⟩ : ∃ x, (ws.take k).contains p = x := ⟨_, rfl⟩
      rw [hcc] at HT2
      have HCC := hide_it hcc
      clear hcc
      refine wp_region_held_drew (S := fun w' => (w'.cell? ⟨wr.heap.size, 0, none⟩ = some (.int .i64 p.1) ∧ w'.cell? ⟨wr.heap.size, 1, none⟩ = some (.int .i64 p.2.1) ∧ w'.cell? ⟨wr.heap.size, 2, none⟩ = some (.int .i64 p.2.2.1) ∧ w'.cell? ⟨wr.heap.size, 3, none⟩ = some (.int .i64 p.2.2.2)) ∧ w'.cell? ⟨w.heap.size, 3, none⟩ = some (.slice (some ⟨b, off, none⟩) ws.length cu)) (by kernel_rfl) ⟨⟨d0, d1, d2, d3⟩, x3⟩ (fun hHeld => ?_)
      clear d0 d1 d2 d3 x3
      refine takeD (i := 0) (v := ?_) (some 34) rfl rfl (by kernel_rfl) (by kernel_rfl) (by kernel_rfl) (fun _ _ _ h => h) (by rfl) hHeld ?_ ?_
      rotate_left
      · intro W hSw
        try dsimp only at hSw
        go_simp
        try with_reducible rfl
      try simp only [Act.put]
      try simp only [List.setIfInBounds_toArray]
      try simp only [List.set_cons_succ]
      try simp only [List.set_cons_zero]
      refine wpAnyH_ready (rs := [1]) (by kernel_rfl) (by simp) ?_
      refine AllReadyH.cons rfl (fun K hK => ?_) AllReadyH.nil
      go_simp
      refine (HA.out _).mono ?_
      rintro e w2 ⟨rfl, hb2⟩
      have L2 := hide_it ((Below.refl wB.heap.size wB).drew.trans hb2)
      clear hb2
      obtain ⟨d0, d1, d2, d3⟩ := (D1.out.after L2.out).cells4
      obtain ⟨-, -, -, x3⟩ := (XB.out.after L2.out).cells4
      try dsimp only
      refine hK.out _ _ ⟨⟨d0, d1, d2, d3⟩, x3⟩ (fun hHeld => ?_)
      clear hK K d0 d1 d2 d3 x3
      refine takeD (i := 2) (v := .bool false) (some 36) rfl rfl (by kernel_rfl) (by kernel_rfl) (by kernel_rfl) (fun _ _ _ h => h) (by rfl) hHeld ?_ ?_
      · intro W hSw
        try dsimp only at hSw
        first | (go_simp; done) | (go_simp; simp [*]; done) | (go_simp; simp; omega)
      try simp only [Act.put]
      try simp only [List.setIfInBounds_toArray]
      try simp only [List.set_cons_succ]
      try simp only [List.set_cons_zero]
      refine takeD (i := 3) (v := .bool false) (some 37) rfl rfl (by kernel_rfl) (by kernel_rfl) (by kernel_rfl) (fun _ _ _ h => h) (by rfl) hHeld ?_ ?_
      · intro W hSw
        try dsimp only at hSw
        first | (go_simp; done) | (go_simp; simp [*]; done) | (go_simp; simp; omega)
      try simp only [Act.put]
      try simp only [List.setIfInBounds_toArray]
      try simp only [List.set_cons_succ]
      try simp only [List.set_cons_zero]
      refine takeD (i := 4) (v := ?_) (some 38) rfl rfl (by kernel_rfl) (by kernel_rfl) (by kernel_rfl) (fun _ _ _ h => h) (by rfl) hHeld ?_ ?_
      rotate_left
      · intro W hSw
        try dsimp only at hSw
        go_simp
        try with_reducible rfl
      try simp only [Act.put]
      try simp only [List.setIfInBounds_toArray]
      try simp only [List.set_cons_succ]
      try simp only [List.set_cons_zero]
      refine takeD (i := 5) (v := ?_) (some 39) rfl rfl (by kernel_rfl) (by kernel_rfl) (by kernel_rfl) (fun _ _ _ h => h) (by rfl) hHeld ?_ ?_
      rotate_left
      · intro W hSw
        try dsimp only at hSw
        go_simp
        try with_reducible rfl
      try simp only [Act.put]
      try simp only [List.setIfInBounds_toArray]
      try simp only [List.set_cons_succ]
      try simp only [List.set_cons_zero]
      refine takeD (i := 6) (v := .bool false) (some 40) rfl rfl (by kernel_rfl) (by kernel_rfl) (by kernel_rfl) (fun _ _ _ h => h) (by rfl) hHeld ?_ ?_
      · intro W hSw
        try dsimp only at hSw
        first | (go_simp; done) | (go_simp; simp [*]; done) | (go_simp; simp; omega)
      try simp only [Act.put]
      try simp only [List.setIfInBounds_toArray]
      try simp only [List.set_cons_succ]
      try simp only [List.set_cons_zero]
      refine takeD (i := 7) (v := .bool false) (some 41) rfl rfl (by kernel_rfl) (by kernel_rfl) (by kernel_rfl) (fun _ _ _ h => h) (by rfl) hHeld ?_ ?_
      · intro W hSw
        try dsimp only at hSw
        first | (go_simp; done) | (go_simp; simp [*]; done) | (go_simp; simp; omega)
      try simp only [Act.put]
      try simp only [List.setIfInBounds_toArray]
      try simp only [List.set_cons_succ]
      try simp only [List.set_cons_zero]
      refine takeD (i := 8) (v := .bool false) (some 42) rfl rfl (by kernel_rfl) (by kernel_rfl) (by kernel_rfl) (fun _ _ _ h => h) (by rfl) hHeld ?_ ?_
      · intro W hSw
        try dsimp only at hSw
        first | (go_simp; done) | (go_simp; simp [*]; done) | (go_simp; simp; omega)
      try simp only [Act.put]
      try simp only [List.setIfInBounds_toArray]
      try simp only [List.set_cons_succ]
      try simp only [List.set_cons_zero]
      refine takeD (i := 9) (v := ?_) (some 43) rfl rfl (by kernel_rfl) (by kernel_rfl) (by kernel_rfl) (fun _ _ _ h => h) (by rfl) hHeld ?_ ?_
      rotate_left
      · intro W hSw
        try dsimp only at hSw
        go_simp
        try with_reducible rfl
      try simp only [Act.put]
      try simp only [List.setIfInBounds_toArray]
      try simp only [List.set_cons_succ]
      try simp only [List.set_cons_zero]
      refine takeD (i := 10) (v := ?_) (some 44) rfl rfl (by kernel_rfl) (by kernel_rfl) (by kernel_rfl) (fun _ _ _ h => h) (by rfl) hHeld ?_ ?_
      rotate_left
      · intro W hSw
        try dsimp only at hSw
        go_simp
        try with_reducible rfl
      try simp only [Act.put]
      try simp only [List.setIfInBounds_toArray]
      try simp only [List.set_cons_succ]
      try simp only [List.set_cons_zero]
      refine takeD (i := 11) (v := ?_) (some 45) rfl rfl (by kernel_rfl) (by kernel_rfl) (by kernel_rfl) (fun _ _ _ h => h) (by rfl) hHeld ?_ ?_
      rotate_left
      · intro W hSw
        try dsimp only at hSw
        go_simp
        try with_reducible rfl
      try simp only [Act.put]
      try simp only [List.setIfInBounds_toArray]
      try simp only [List.set_cons_succ]
      try simp only [List.set_cons_zero]
      refine takeD (i := 12) (v := ?_) (some 46) rfl rfl (by kernel_rfl) (by kernel_rfl) (by kernel_rfl) (fun _ _ _ h => h) (by rfl) hHeld ?_ ?_
      rotate_left
      · intro W hSw
        try dsimp only at hSw
        go_simp
        try with_reducible rfl
      try simp only [Act.put]
      try simp only [List.setIfInBounds_toArray]
      try simp only [List.set_cons_succ]
      try simp only [List.set_cons_zero]
      refine takeD (i := 13) (v := .bool false) (some 47) rfl rfl (by kernel_rfl) (by kernel_rfl) (by kernel_rfl) (fun _ _ _ h => h) (by rfl) hHeld ?_ ?_
      · intro W hSw
        try dsimp only at hSw
        first | (go_simp; done) | (go_simp; simp [*]; done) | (go_simp; simp; omega)
      try simp only [Act.put]
      try simp only [List.setIfInBounds_toArray]
      try simp only [List.set_cons_succ]
      try simp only [List.set_cons_zero]
      refine takeD (i := 14) (v := .bool false) (some 48) rfl rfl (by kernel_rfl) (by kernel_rfl) (by kernel_rfl) (fun _ _ _ h => h) (by rfl) hHeld ?_ ?_
      · intro W hSw
        try dsimp only at hSw
        first | (go_simp; done) | (go_simp; simp [*]; done) | (go_simp; simp; omega)
      try simp only [Act.put]
      try simp only [List.setIfInBounds_toArray]
      try simp only [List.set_cons_succ]
      try simp only [List.set_cons_zero]
      refine takeD (i := 15) (v := .bool false) (some 49) rfl rfl (by kernel_rfl) (by kernel_rfl) (by kernel_rfl) (fun _ _ _ h => h) (by rfl) hHeld ?_ ?_
      · intro W hSw
        try dsimp only at hSw
        first | (go_simp; done) | (go_simp; simp [*]; done) | (go_simp; simp; omega)
      try simp only [Act.put]
      try simp only [List.setIfInBounds_toArray]
      try simp only [List.set_cons_succ]
      try simp only [List.set_cons_zero]
      refine takeD (i := 16) (v := ?_) (some 50) rfl rfl (by kernel_rfl) (by kernel_rfl) (by kernel_rfl) (fun _ _ _ h => h) (by rfl) hHeld ?_ ?_
      rotate_left
      · intro W hSw
        try dsimp only at hSw
        go_simp
        try with_reducible rfl
      try simp only [Act.put]
      try simp only [List.setIfInBounds_toArray]
      try simp only [List.set_cons_succ]
      try simp only [List.set_cons_zero]
      refine takeD (i := 17) (v := ?_) (some 51) rfl rfl (by kernel_rfl) (by kernel_rfl) (by kernel_rfl) (fun _ _ _ h => h) (by rfl) hHeld ?_ ?_
      rotate_left
      · intro W hSw
        try dsimp only at hSw
        go_simp
        try with_reducible rfl
      try simp only [Act.put]
      try simp only [List.setIfInBounds_toArray]
      try simp only [List.set_cons_succ]
      try simp only [List.set_cons_zero]
      refine takeD (i := 18) (v := ?_) (some 52) rfl rfl (by kernel_rfl) (by kernel_rfl) (by kernel_rfl) (fun _ _ _ h => h) (by rfl) hHeld ?_ ?_
      rotate_left
      · intro W hSw
        try dsimp only at hSw
        go_simp
        try with_reducible rfl
      try simp only [Act.put]
      try simp only [List.setIfInBounds_toArray]
      try simp only [List.set_cons_succ]
      try simp only [List.set_cons_zero]
      refine takeD (i := 19) (v := ?_) (some 53) rfl rfl (by kernel_rfl) (by kernel_rfl) (by kernel_rfl) (fun _ _ _ h => h) (by rfl) hHeld ?_ ?_
      rotate_left
      · intro W hSw
        try dsimp only at hSw
        go_simp
        try with_reducible rfl
      try simp only [Act.put]
      try simp only [List.setIfInBounds_toArray]
      try simp only [List.set_cons_succ]
      try simp only [List.set_cons_zero]
      refine takeD (i := 20) (v := ?_) (some 54) rfl rfl (by kernel_rfl) (by kernel_rfl) (by kernel_rfl) (fun _ _ _ h => h) (by rfl) hHeld ?_ ?_
      rotate_left
      · intro W hSw
        try dsimp only at hSw
        go_simp
        try with_reducible rfl
      try simp only [Act.put]
      try simp only [List.setIfInBounds_toArray]
      try simp only [List.set_cons_succ]
      try simp only [List.set_cons_zero]
      refine wpAnyH_ready (rs := [21]) (by kernel_rfl) (by simp) ?_
      refine AllReadyH.cons rfl (fun K hK => ?_) AllReadyH.nil
      go_simp
      refine (HT2.out _ (BW.out _ L2.out)).mono ?_
      rintro e w3 ⟨rfl, hb3⟩
      have L3 := hide_it (L2.out.trans (hb3.mono L2.out.size))
      clear hb3
      obtain ⟨d0, d1, d2, d3⟩ := (D1.out.after L3.out).cells4
      obtain ⟨-, -, -, x3⟩ := (XB.out.after L3.out).cells4
      try dsimp only
      refine hK.out _ _ ⟨⟨d0, d1, d2, d3⟩, x3⟩ (fun hHeld => ?_)
      clear hK K d0 d1 d2 d3 x3
      refine takeD (i := 22) (v := .bool cc) (some 56) rfl rfl (by kernel_rfl) (by kernel_rfl) (by kernel_rfl) (fun _ _ _ h => h) (by rfl) hHeld ?_ ?_
      · intro W hSw
        try dsimp only at hSw
        first | (go_simp; done) | (go_simp; simp [*]; done) | (go_simp; simp; omega)
      try simp only [Act.put]
      try simp only [List.setIfInBounds_toArray]
      try simp only [List.set_cons_succ]
      try simp only [List.set_cons_zero]
      refine wpAnyH_done (by kernel_rfl) ?_ _
      cases cc
      · have HTk : Hid (toldOk OO.length (ws.take (k + 1)) = true) := toldOk_more hlt HT.out (by rw [HP.out]; exact HAN.out) (by rw [HP.out]; exact HCC.out)
        have B3 := hide_it (BW2.out _ L3.out)
        go_wp2
        go_roundw
        case rel => exact ⟨k + 1, by omega, by go_num, HTk, B3⟩
        case measure => simp [intOf]; omega
      · have HN : Hid (toldOk OO.length ws = false) := toldOk_twice hlt (by rw [HP.out]; exact HCC.out)
        go_wp2
        go_ret
        exact ⟨by rw [HN.out]; simp, BW.out _ L3.out⟩
    · have hke : k = ws.length := by omega
      have HT2 : Hid (toldOk OO.length ws = true) := by have := HT.out; rw [hke, List.take_length] at this; exact this
      clear hke
      obtain ⟨x0, x1, x2, x3⟩ := XR.out.cells4
      cases up
      · by_cases hz : ws.length = 0
        · have hz' : ws = [] := List.length_eq_zero_iff.1 hz
          have HZ := hide_it hz'
          clear hz'
          go_wp2
          go_ret
          exact ⟨by rw [HT2.out, HZ.out]; rfl, HBw.out⟩
        · have HZ : Hid (ws.isEmpty = false) := by
            show _ = _
            rw [Bool.eq_false_iff]
            intro e
            rw [List.isEmpty_iff] at e
            rw [e] at hz
            simp at hz
          have HZ2 := hide_it hz
          go_wp2
          go_ret
          exact ⟨by rw [HT2.out, HZ.out]; have := HZ2.out; simp; intro e; rw [e] at this; simp at this, HBw.out⟩
      · go_wp2
        go_ret
        exact ⟨by rw [HT2.out]; rfl, HBw.out⟩


end Go.Proofs.YtkkkdgpbmmjieaaGreatDoor
