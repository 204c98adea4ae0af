/- The contract of the specification's LogForce. For all that together has at most 1048576 records and numbers. -/
import Derived.Test.YtgbikmcpcolcpaaDoorSLog
namespace Go.Proofs.YtgbikmcpcolcpaaDoor
open Go.RowKit

theorem frozenAlloc {w : World} {b o : Nat} (h : w.frozen? ⟨b, o, none⟩ = false) (hb : b < w.heap.size) (x : Obj) : (w.alloc x).frozen? ⟨b, o, none⟩ = false := by
  rw [← h]
  exact ((Below.refl w.heap.size w).alloc (Nat.le_refl _) x).frozen (p := ⟨b, o, none⟩) hb

set_option maxHeartbeats 2000000 in
theorem specForce_any (v : Value) (rs : List R) (f : Int) (w : World) (hv : Recs w v rs) (hl : tot rs ≤ 1048576) :
    Calls Tryd.prog 20 #[.agg #[v, .int .i64 f]] w fun e w' => LogOut w w' e (forceR rs f) (forceF rs f) := by
  have hrl := tot_len rs
  have HV : Hid (∀ W, Below w.heap.size w W → Recs W v rs) := fun W h => hv.later h (Nat.le_refl _)
  obtain ⟨av, cv, hvs⟩ := hv.shape
  have HT : Hid (∀ o, Two ((w.alloc (.cells #[v, .int .i64 f] 25)).alloc o) w.heap.size v (.int .i64 f)) := fun o => Two.later (show Two _ _ _ _ from box2 w _ _ _) (alloc_below _ o) (Nat.le_refl _)
  clear hv
  subst hvs
  have HS : Hid (∀ o1 o2, Calls Tryd.prog 13 #[.agg #[.slice av rs.length cv, .int .i64 f]] ((w.alloc o1).alloc o2) fun e w' => e = .returned (.bool (logOk rs f)) ∧ Below ((w.alloc o1).alloc o2).heap.size ((w.alloc o1).alloc o2) w') := fun o1 o2 =>
    specLogOk_any _ rs f _ (HV.out _ (below2 w o1 o2)) hl
  cases hok : logOk rs f
  · have HR : Hid (forceR rs f = [] ∧ forceF rs f = 0) := by constructor <;> simp [forceR, forceF, hok]
    rw [hok] at HS
    clear hok
    go_enter Tryd.func20, Tryd.ntmps20
    go_wp2_with fail
    refine (HS.out _ _).mono ?_
    rintro e w1 ⟨rfl, hb⟩
    obtain ⟨hc, hf⟩ := bcell hb
    have hz : w.heap.size + 2 ≤ w1.heap.size := by have := hb.size; rw [size2] at this; exact this
    rw [size2] at hc hf
    have HB := hide_it ((below2 w _ _).trans (hb.mono (by simp; omega)))
    clear hb
    go_wp2
    refine bodyPost_ret (v := .agg #[.slice none 0 0, .int .i64 0]) (by simp [results, Tryd.results20, go_sem, hc]) rfl ?_
    unfold LogOut
    rw [HR.out.1, HR.out.2]
    refine ⟨none, 0, rfl, Made.none _ _, ?_⟩
    exact (HB.out.setCell (by simp) _).setCell (by simp) _
  · have HR : Hid (forceR rs f = rs ∧ forceF rs f = rs.length) := by constructor <;> simp [forceR, forceF, hok]
    rw [hok] at HS
    clear hok
    go_enter Tryd.func20, Tryd.ntmps20
    go_wp2_with fail
    refine (HS.out _ _).mono ?_
    rintro e w1 ⟨rfl, hb⟩
    have HB := hide_it ((below2 w _ _).trans (hb.mono (by simp; omega)))
    have HZ : Hid (Zero2 w1 (w.heap.size + 1)) := Zero2.later (by exact Zero2.new2 _ _ _) hb (by simp)
    obtain ⟨t0, t1⟩ := (HT.out _).later hb (Nat.le_refl _)
    have hz : w.heap.size + 2 ≤ w1.heap.size := by have := hb.size; rw [size2] at this; exact this
    clear hb
    go_wp2_with fail
    refine (l1Copy_any _ rs f w1 (HV.out _ HB.out) hl).mono ?_
    rintro e w2 ⟨ao, cap, rfl, hm, hb2⟩
    have HM := hide_it hm
    have HB2 := hide_it (HB.out.trans (hb2.mono HB.out.size))
    obtain ⟨r0, r1, z0, z1⟩ := HZ.out.later hb2 (by omega)
    have hz2 : w.heap.size + 2 ≤ w2.heap.size := Nat.le_trans hz hb2.size
    have r0o := fun x => cellAlloc r0 x
    have r1o := fun x => cellAlloc r1 x
    have z0o := fun x => frozenAlloc z0 (by omega) x
    have z1o := fun x => frozenAlloc z1 (by omega) x
    clear hm hb2
    go_wp2
    refine bodyPost_ret (v := .agg #[.slice ao rs.length cap, .int .i64 rs.length]) (by simp [results, Tryd.results20, go_sem, r0o, r1o]) rfl ?_
    unfold LogOut
    rw [HR.out.1, HR.out.2]
    refine ⟨ao, cap, rfl, ?_, ?_⟩
    · exact (((HM.out.below (alloc_below _ _) (Nat.le_refl _)).setBelow (by simp; omega) _).setBelow (by simp; omega) _).lo (by omega)
    · exact ((HB2.out.alloc (by omega) _).setCell (by simp) _).setCell (by simp) _

end Go.Proofs.YtgbikmcpcolcpaaDoor
