/- The contract of the specification's LogFall. For all that together has at most 1048576 records and numbers. -/
import Derived.Test.YtgbikmcpcolcpaaDoorIFall
namespace Go.Proofs.YtgbikmcpcolcpaaDoor
open Go.RowKit

/-- A fall of a log that was just copied. -/
theorem l1Fall_made {W : World} {lo cap : Nat} {ao : Option Addr} {rs : List R} {f keep : Int} (hm : Made W lo (.slice ao rs.length cap) rs) (hl : rs.length ≤ 1048576) (h0 : 0 ≤ f) (h1 : f ≤ rs.length) :
    Calls Tryd.prog 39 #[.agg #[.slice ao rs.length cap, .int .i64 f], .int .i64 keep] W fun e w' => e = .returned (.agg #[.slice ao (fallN rs.length f keep) cap, .int .i64 (fallN rs.length f keep)]) ∧ Below W.heap.size W w' := by
  rcases hm.form with ⟨rfl, rfl, rfl⟩ | ⟨g, rfl, hc⟩
  · have hf : f = 0 := by simp at h1; omega
    subst hf
    have hN : fallN 0 0 keep = 0 := by have := fallN_le (n := 0) (f := 0) (keep := keep) (by omega) (by omega); omega
    have h := l1Fall_nil keep W
    simp only [List.length_nil, hN]
    exact h
  · exact l1Fall_some g 0 rs.length cap f keep W hc hl h0 h1

set_option maxHeartbeats 2000000 in
theorem specFall_any (v : Value) (rs : List R) (f keep : Int) (w : World) (hv : Recs w v rs) (hl : tot rs ≤ 1048576) :
    Calls Tryd.prog 23 #[.agg #[v, .int .i64 f], .int .i64 keep] w fun e w' => LogOut w w' e (fallR rs f keep) (fallF rs f keep) := by
  have hrl := tot_len rs
  have HV : Hid (∀ W, Below w.heap.size w W → Recs W v rs) := fun W h => hv.later h (Nat.le_refl _)
  obtain ⟨av, cv, hvs⟩ := hv.shape
  have HT : Hid (∀ o, Two ((w.alloc (.cells #[v, .int .i64 f] 25)).alloc o) w.heap.size v (.int .i64 f)) := fun o => Two.later (show Two _ _ _ _ from box2 w _ _ _) (alloc_below _ o) (Nat.le_refl _)
  clear hv
  subst hvs
  have HS : Hid (∀ o1 o2, Calls Tryd.prog 13 #[.agg #[.slice av rs.length cv, .int .i64 f]] ((w.alloc o1).alloc o2) fun e w' => e = .returned (.bool (logOk rs f)) ∧ Below ((w.alloc o1).alloc o2).heap.size ((w.alloc o1).alloc o2) w') := fun o1 o2 =>
    specLogOk_any _ rs f _ (HV.out _ (below2 w o1 o2)) hl
  cases hok : logOk rs f
  · have HR : Hid (fallR rs f keep = [] ∧ fallF rs f keep = 0) := by constructor <;> simp [fallR, fallF, hok]
    rw [hok] at HS
    clear hok
    go_enter Tryd.func23, Tryd.ntmps23
    go_wp2_with fail
    refine (HS.out _ _).mono ?_
    rintro e w1 ⟨rfl, hb⟩
    obtain ⟨hc, hf⟩ := bcell hb
    have hz : w.heap.size + 2 ≤ w1.heap.size := by have := hb.size; rw [size2] at this; exact this
    rw [size2] at hc hf
    have HB := hide_it ((below2 w _ _).trans (hb.mono (by simp; omega)))
    clear hb
    go_wp2
    refine bodyPost_ret (v := .agg #[.slice none 0 0, .int .i64 0]) (by simp [results, Tryd.results23, go_sem, hc]) rfl ?_
    unfold LogOut
    rw [HR.out.1, HR.out.2]
    refine ⟨none, 0, rfl, Made.none _ _, ?_⟩
    exact (HB.out.setCell (by simp) _).setCell (by simp) _
  · obtain ⟨hf0, hfn, _⟩ := logOk_f hok
    obtain ⟨N, hN⟩ : ∃ N, Hid (N = fallN rs.length f keep) := ⟨_, rfl⟩
    have hNl : N ≤ rs.length := by rw [hN.out]; exact fallN_le hf0 hfn
    have HR : Hid (fallR rs f keep = rs.take N ∧ fallF rs f keep = N) := by rw [hN.out]; constructor <;> simp [fallR, fallF, hok]
    have HLN : Hid ((rs.take N).length = N) := by show _ = _; rw [List.length_take]; omega
    rw [hok] at HS
    clear hok
    go_enter Tryd.func23, Tryd.ntmps23
    go_wp2_with fail
    refine (HS.out _ _).mono ?_
    rintro e w1 ⟨rfl, hb⟩
    have HB := hide_it ((below2 w _ _).trans (hb.mono (by simp; omega)))
    have HZ : Hid (Zero2 w1 (w.heap.size + 1)) := Zero2.later (by exact Zero2.new2 _ _ _) hb (by simp)
    obtain ⟨t0, t1⟩ := (HT.out _).later hb (Nat.le_refl _)
    have hz : w.heap.size + 2 ≤ w1.heap.size := by have := hb.size; rw [size2] at this; exact this
    clear hb
    go_wp2_with fail
    refine (l1Copy_any _ rs f w1 (HV.out _ HB.out) hl).mono ?_
    rintro e w2 ⟨ao, cap, rfl, hm, hb2⟩
    have HM := hide_it hm
    have HB2 := hide_it (HB.out.trans (hb2.mono HB.out.size))
    have HZ2 := hide_it (HZ.out.later hb2 (by omega))
    have hz2 : w.heap.size + 2 ≤ w2.heap.size := Nat.le_trans hz hb2.size
    have hcl := l1Fall_made (keep := keep) hm (by omega) hf0 hfn
    rw [← hN.out] at hcl
    have HCL := hide_it hcl
    clear hm hb2 hcl
    go_wp2_with fail
    refine HCL.out.mono ?_
    rintro e w3 ⟨rfl, hb3⟩
    have HM3 := hide_it ((HM.out.below hb3 (Nat.le_refl _)).take hNl)
    have HB3 := hide_it (HB2.out.trans (hb3.mono HB2.out.size))
    obtain ⟨r0, r1, z0, z1⟩ := HZ2.out.later hb3 (by omega)
    clear hb3
    go_wp2
    refine bodyPost_ret (v := .agg #[.slice ao N cap, .int .i64 N]) (by simp [results, Tryd.results23, go_sem, r0, r1]) rfl ?_
    unfold LogOut
    rw [HR.out.1, HR.out.2, HLN.out]
    refine ⟨ao, cap, rfl, ?_, ?_⟩
    · exact ((HM3.out.setBelow (by simp; omega) _).setBelow (by simp; omega) _).lo (by omega)
    · exact (HB3.out.setCell (by simp) _).setCell (by simp) _

end Go.Proofs.YtgbikmcpcolcpaaDoor
