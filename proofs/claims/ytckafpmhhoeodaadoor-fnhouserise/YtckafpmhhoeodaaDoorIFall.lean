/- Contracts of the program's and the specification's LogFall. For all that together has at most 1048576 records and numbers, in a world in which the sentinel's variable holds a pointer to an errors.errorString. -/
import Derived.Test.YtckafpmhhoeodaaDoorFall
namespace Go.Proofs.YtckafpmhhoeodaaDoor
open Go.RowKit

theorem Made.form {w : World} {lo cap : Nat} {ao : Option Addr} {rs : List R} (h : Made w lo (.slice ao rs.length cap) rs) : (ao = Option.none ∧ rs = [] ∧ cap = 0) ∨ ∃ g, ao = some ⟨g, 0, Option.none⟩ ∧ rs.length ≤ cap := by
  obtain ⟨ps, hp, h1, _, _⟩ := h
  have hpl : ps.length = rs.length := by have := congrArg List.length hp; simpa using this
  rcases h1.2 with ⟨hv, hn⟩ | ⟨g, cp, cur, hv, hg, hh, hnc, _⟩
  · simp only [Value.slice.injEq] at hv
    exact Or.inl ⟨hv.1, List.length_eq_zero_iff.1 hv.2.1, hv.2.2⟩
  · simp only [Value.slice.injEq] at hv
    exact Or.inr ⟨g, hv.1, by omega⟩

set_option maxHeartbeats 4000000 in
theorem implFall_any (b off cv : Nat) (rs : List R) (f keep : Int) (a : Addr) (w : World) (hv : Recs w (.slice (some ⟨b, off, none⟩) rs.length cv) rs) (hcv : rs.length ≤ cv) (hl : tot rs ≤ 1048576) (ha : ErrAt w a) :
    Calls Tryd.prog 23 #[.agg #[.slice (some ⟨b, off, none⟩) rs.length cv, .int .i64 f], .int .i64 keep] w fun e w' => LogOut w w' e (fallR rs f keep) (fallF rs f keep) := by
  have hrl := tot_len rs
  have HV : Hid (∀ W, Below w.heap.size w W → Recs W (.slice (some ⟨b, off, none⟩) rs.length cv) rs) := fun W h => hv.later h (Nat.le_refl _)
  have HA : Hid (∀ W, Below w.heap.size w W → ErrAt W a) := fun W h => ha.later h (Nat.le_refl _)
  have HT : Hid (∀ o, Two ((w.alloc (.cells #[.slice (some ⟨b, off, none⟩) rs.length cv, .int .i64 f] 25)).alloc o) w.heap.size (.slice (some ⟨b, off, none⟩) rs.length cv) (.int .i64 f)) := fun o => Two.later (show Two _ _ _ _ from box2 w _ _ _) (alloc_below _ o) (Nat.le_refl _)
  clear hv ha
  have HS : Hid (∀ o1 o2, Calls Tryd.prog 44 #[.agg #[.slice (some ⟨b, off, none⟩) rs.length cv, .int .i64 f]] ((w.alloc o1).alloc o2) fun e w' => e = .returned (.bool (logOk rs f)) ∧ Below ((w.alloc o1).alloc o2).heap.size ((w.alloc o1).alloc o2) w') := fun o1 o2 =>
    implLogOk_any _ rs f a _ (HV.out _ (below2 w o1 o2)) hl (HA.out _ (below2 w o1 o2))
  cases hok : logOk rs f
  · have HR : Hid (fallR rs f keep = [] ∧ fallF rs f keep = 0) := by constructor <;> simp [fallR, fallF, hok]
    rw [hok] at HS
    clear hok
    go_enter Tryd.func23, Tryd.ntmps23
    go_wp2_with fail
    refine (HS.out _ _).mono ?_
    rintro e w1 ⟨rfl, hb⟩
    obtain ⟨hc, hf⟩ := bcell hb
    have hz : w.heap.size + 2 ≤ w1.heap.size := by have := hb.size; rw [size2] at this; exact this
    rw [size2] at hc hf
    have HB := hide_it ((below2 w _ _).trans (hb.mono (by simp; omega)))
    clear hb
    go_wp2
    refine bodyPost_ret (v := .agg #[.slice none 0 0, .int .i64 0]) (by simp [results, Tryd.results23, go_sem, hc]) rfl ?_
    unfold LogOut
    rw [HR.out.1, HR.out.2]
    refine ⟨none, 0, rfl, Made.none _ _, ?_⟩
    exact (HB.out.setCell (by simp) _).setCell (by simp) _
  · obtain ⟨hf0, hfn, _⟩ := logOk_f hok
    obtain ⟨N, hN⟩ : ∃ N, Hid (N = fallN rs.length f keep) := ⟨_, rfl⟩
    have hNl : N ≤ rs.length := by rw [hN.out]; exact fallN_le hf0 hfn
    have HR : Hid (fallR rs f keep = rs.take N ∧ fallF rs f keep = N) := by rw [hN.out]; constructor <;> simp [fallR, fallF, hok]
    rw [hok] at HS
    clear hok
    have HLN : Hid ((rs.take N).length = N) := by show _ = _; rw [List.length_take]; omega
    have HFC : Hid (∀ W, Below w.heap.size w W → Calls Tryd.prog 45 #[.slice (some ⟨b, off, none⟩) N cv] W fun e w' => ∃ ao cap, e = .returned (.agg #[.slice ao N cap, .int .i64 N]) ∧ Made w' W.heap.size (.slice ao N cap) (rs.take N) ∧ Below W.heap.size W w') := fun W h => by
      have h2 := forced_any _ (rs.take N) W ((HV.out _ h).take hNl) (Nat.le_trans (pre_take rs N hNl) hl)
      unfold LogOut at h2
      rw [HLN.out] at h2
      exact h2
    -- how many are left, in the walk's own words
    obtain ⟨F, rfl⟩ := Int.eq_ofNat_of_zero_le hf0
    by_cases hk : keep < 0
    · have hNF : N = F := by rw [hN.out, fallN_lo (by omega)]
      subst hNF
      go_enter Tryd.func23, Tryd.ntmps23
      go_wp2_with fail
      refine (HS.out _ _).mono ?_
      rintro e w1 ⟨rfl, hb⟩
      have HB := hide_it ((below2 w _ _).trans (hb.mono (by simp; omega)))
      have HZ : Hid (Zero2 w1 (w.heap.size + 1)) := Zero2.later (by exact Zero2.new2 _ _ _) hb (by simp)
      obtain ⟨t0, t1⟩ := (HT.out _).later hb (Nat.le_refl _)
      have hz : w.heap.size + 2 ≤ w1.heap.size := by have := hb.size; rw [size2] at this; exact this
      clear hb
      go_wp2_with fail
      refine (HFC.out _ HB.out).mono ?_
      rintro e w2 ⟨ao, cap, rfl, hm, hb2⟩
      have HM := hide_it hm
      have HB2 := hide_it (HB.out.trans (hb2.mono HB.out.size))
      obtain ⟨r0, r1, z0, z1⟩ := HZ.out.later hb2 (by omega)
      clear hm hb2
      go_wp2
      refine bodyPost_ret (v := .agg #[.slice ao N cap, .int .i64 ((N : Nat) : Int)]) (by simp [results, Tryd.results23, go_sem, r0, r1]) rfl ?_
      unfold LogOut
      rw [HR.out.1, HR.out.2, HLN.out]
      refine ⟨ao, cap, rfl, ?_, ?_⟩
      · exact ((HM.out.setBelow (by simp; omega) _).setBelow (by simp; omega) _).lo (by omega)
      · exact (HB2.out.setCell (by simp) _).setCell (by simp) _
    by_cases hk0 : keep = 0
    · subst hk0
      have hNF : N = F := by rw [hN.out, fallN_lo (by omega)]
      subst hNF
      go_enter Tryd.func23, Tryd.ntmps23
      go_wp2_with fail
      refine (HS.out _ _).mono ?_
      rintro e w1 ⟨rfl, hb⟩
      have HB := hide_it ((below2 w _ _).trans (hb.mono (by simp; omega)))
      have HZ : Hid (Zero2 w1 (w.heap.size + 1)) := Zero2.later (by exact Zero2.new2 _ _ _) hb (by simp)
      obtain ⟨t0, t1⟩ := (HT.out _).later hb (Nat.le_refl _)
      have hz : w.heap.size + 2 ≤ w1.heap.size := by have := hb.size; rw [size2] at this; exact this
      clear hb
      go_wp2_with fail
      refine (HFC.out _ HB.out).mono ?_
      rintro e w2 ⟨ao, cap, rfl, hm, hb2⟩
      have HM := hide_it hm
      have HB2 := hide_it (HB.out.trans (hb2.mono HB.out.size))
      obtain ⟨r0, r1, z0, z1⟩ := HZ.out.later hb2 (by omega)
      clear hm hb2
      go_wp2
      refine bodyPost_ret (v := .agg #[.slice ao N cap, .int .i64 ((N : Nat) : Int)]) (by simp [results, Tryd.results23, go_sem, r0, r1]) rfl ?_
      unfold LogOut
      rw [HR.out.1, HR.out.2, HLN.out]
      refine ⟨ao, cap, rfl, ?_, ?_⟩
      · exact ((HM.out.setBelow (by simp; omega) _).setBelow (by simp; omega) _).lo (by omega)
      · exact (HB2.out.setCell (by simp) _).setCell (by simp) _
    obtain ⟨K, rfl⟩ := Int.eq_ofNat_of_zero_le (show 0 ≤ keep by omega)
    by_cases hlt : (K : Int) ≤ rs.length - F
    · have hNF : N = F + K := by rw [hN.out, fallN_mid (by omega) hlt]
      subst hNF
      have hle : F + K ≤ rs.length := by omega
      go_enter Tryd.func23, Tryd.ntmps23
      go_wp2_with fail
      refine (HS.out _ _).mono ?_
      rintro e w1 ⟨rfl, hb⟩
      have HB := hide_it ((below2 w _ _).trans (hb.mono (by simp; omega)))
      have HZ : Hid (Zero2 w1 (w.heap.size + 1)) := Zero2.later (by exact Zero2.new2 _ _ _) hb (by simp)
      obtain ⟨t0, t1⟩ := (HT.out _).later hb (Nat.le_refl _)
      have hz : w.heap.size + 2 ≤ w1.heap.size := by have := hb.size; rw [size2] at this; exact this
      clear hb
      go_wp2_with fail
      refine (HFC.out _ HB.out).mono ?_
      rintro e w2 ⟨ao, cap, rfl, hm, hb2⟩
      have HM := hide_it hm
      have HB2 := hide_it (HB.out.trans (hb2.mono HB.out.size))
      obtain ⟨r0, r1, z0, z1⟩ := HZ.out.later hb2 (by omega)
      clear hm hb2
      go_wp2
      refine bodyPost_ret (v := .agg #[.slice ao (F + K) cap, .int .i64 (((F + K) : Nat) : Int)]) (by simp [results, Tryd.results23, go_sem, r0, r1]) rfl ?_
      unfold LogOut
      rw [HR.out.1, HR.out.2, HLN.out]
      refine ⟨ao, cap, rfl, ?_, ?_⟩
      · exact ((HM.out.setBelow (by simp; omega) _).setBelow (by simp; omega) _).lo (by omega)
      · exact (HB2.out.setCell (by simp) _).setCell (by simp) _
    · have hNF : N = rs.length := by rw [hN.out, fallN_all (by omega) hlt]
      subst hNF
      have HE : Hid ((F : Int) + ((rs.length : Int) - F) = rs.length) := by show _ = _; omega
      have HE2 : Hid (F + (rs.length - F) = rs.length) := by show _ = _; omega
      go_enter Tryd.func23, Tryd.ntmps23
      go_wp2_with fail
      refine (HS.out _ _).mono ?_
      rintro e w1 ⟨rfl, hb⟩
      have HB := hide_it ((below2 w _ _).trans (hb.mono (by simp; omega)))
      have HZ : Hid (Zero2 w1 (w.heap.size + 1)) := Zero2.later (by exact Zero2.new2 _ _ _) hb (by simp)
      obtain ⟨t0, t1⟩ := (HT.out _).later hb (Nat.le_refl _)
      have hz : w.heap.size + 2 ≤ w1.heap.size := by have := hb.size; rw [size2] at this; exact this
      clear hb
      go_wp2_with fail
      rw [HE.out, HE2.out]
      refine (HFC.out _ HB.out).mono ?_
      rintro e w2 ⟨ao, cap, rfl, hm, hb2⟩
      have HM := hide_it hm
      have HB2 := hide_it (HB.out.trans (hb2.mono HB.out.size))
      obtain ⟨r0, r1, z0, z1⟩ := HZ.out.later hb2 (by omega)
      clear hm hb2
      go_wp2
      refine bodyPost_ret (v := .agg #[.slice ao rs.length cap, .int .i64 ((rs.length : Nat) : Int)]) (by simp [results, Tryd.results23, go_sem, r0, r1]) rfl ?_
      unfold LogOut
      rw [HR.out.1, HR.out.2, HLN.out]
      refine ⟨ao, cap, rfl, ?_, ?_⟩
      · exact ((HM.out.setBelow (by simp; omega) _).setBelow (by simp; omega) _).lo (by omega)
      · exact (HB2.out.setCell (by simp) _).setCell (by simp) _

end Go.Proofs.YtckafpmhhoeodaaDoor
