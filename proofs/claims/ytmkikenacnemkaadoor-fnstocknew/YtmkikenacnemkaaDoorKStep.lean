/- Contracts of the program's table of steps: what each kind of record makes of its trip's hold. No conditions. -/
import Derived.Test.YtmkikenacnemkaaDoorKMay
import Derived.Laws.EntriesVeiled
namespace Go.Proofs.YtmkikenacnemkaaDoor
open Go.RowKit

/-- What a step answers. -/
def StepOut (W w' : World) (e : Ending) (o : Option Pl.H) : Prop :=
  ∃ p q : Int, e = .returned (.tuple #[.agg #[.int .i64 p, .int .i64 q], .bool o.isSome]) ∧ (∀ h, o = some h → h = (p, q)) ∧ Below W.heap.size W w'

set_option maxHeartbeats 2000000 in
theorem noStep_any (m s k t : Int) (u : Value) (z F : Int) (w : World) (k1 : k ≠ 1) (k2 : k ≠ 2) (k3 : k ≠ 3) (hu : ∃ au n cu, u = .slice au n cu) :
    Calls Tryd.prog 23 #[.agg #[.int .i64 m, .int .i64 s], .agg #[.int .i64 k, .int .i64 t, u], .int .i64 F] w fun e w' => StepOut w w' e (Pl.next (m, s) k z F) := by
  obtain ⟨au, n, cu, rfl⟩ := hu
  rw [next_x _ _ _ _ k1 k2 k3]
  go_enter Tryd.func23, Tryd.ntmps23
  go_wp2
  refine bodyPost_ret (v := .tuple #[.agg #[.int .i64 m, .int .i64 s], .bool false]) (by simp [results, Tryd.results23, go_sem]) rfl ⟨m, s, rfl, (fun h hh => by cases hh), ?_⟩
  first | exact below3 w _ _ _ | exact (below3 w _ _ _).setCell (by simp) _ | exact ((below3 w _ _ _).setCell (by simp) _).setCell (by simp) _ | trace_state

theorem StepOut.mk {W w' : World} {p q : Int} {o : Option Pl.H} (h : ∀ x, o = some x → x = (p, q)) (hb : Below W.heap.size W w') : StepOut W w' (.returned (.tuple #[.agg #[.int .i64 p, .int .i64 q], .bool o.isSome])) o := ⟨p, q, rfl, h, hb⟩

set_option maxHeartbeats 2000000 in
theorem closeStep_any (m s t : Int) (u : Value) (z F : Int) (w : World) (hu : ∃ au n cu, u = .slice au n cu) :
    Calls Tryd.prog 25 #[.agg #[.int .i64 m, .int .i64 s], .agg #[.int .i64 2, .int .i64 t, u], .int .i64 F] w fun e w' => StepOut w w' e (Pl.next (m, s) 2 z F) := by
  obtain ⟨au, n, cu, rfl⟩ := hu
  rw [next_2]
  by_cases hs1 : s = 1
  · rw [if_pos hs1]
    subst hs1
    go_enter Tryd.func25, Tryd.ntmps25
    go_wp2
    go_region
    go_wp2
    exact bodyPost_ret (v := .tuple #[.agg #[.int .i64 m, .int .i64 2], .bool true]) (by simp [results, Tryd.results25, go_sem]) rfl (StepOut.mk (o := some (m, 2)) (fun h hh => by simpa using hh.symm) (below3 w _ _ _).drew)
  · rw [if_neg hs1]
    have e1 : (s == 1) = false := by simp [hs1]
    go_enter Tryd.func25, Tryd.ntmps25
    go_wp2
    go_region
    go_wp2
    exact bodyPost_ret (v := .tuple #[.agg #[.int .i64 m, .int .i64 2], .bool false]) (by simp [results, Tryd.results25, go_sem]) rfl (StepOut.mk (o := none) (fun h hh => by cases hh) (below3 w _ _ _).drew)

set_option maxHeartbeats 2000000 in
theorem undoStep_any (m s t : Int) (u : Value) (z F : Int) (w : World) (hu : ∃ au n cu, u = .slice au n cu) :
    Calls Tryd.prog 26 #[.agg #[.int .i64 m, .int .i64 s], .agg #[.int .i64 3, .int .i64 t, u], .int .i64 F] w fun e w' => StepOut w w' e (Pl.next (m, s) 3 z F) := by
  obtain ⟨au, n, cu, rfl⟩ := hu
  rw [next_3]
  by_cases hs1 : s = 1
  · rw [if_pos (Or.inl hs1)]
    subst hs1
    go_enter Tryd.func26, Tryd.ntmps26
    go_wp2
    go_region
    go_wp2
    exact bodyPost_ret (v := .tuple #[.agg #[.int .i64 m, .int .i64 3], .bool true]) (by simp [results, Tryd.results26, go_sem]) rfl (StepOut.mk (o := some (m, 3)) (fun h hh => by simpa using hh.symm) (below3 w _ _ _).drew)
  have e1 : (s == 1) = false := by simp [hs1]
  by_cases hs0 : s = 0
  · rw [if_pos (Or.inr hs0)]
    subst hs0
    clear e1 hs1
    go_enter Tryd.func26, Tryd.ntmps26
    go_wp2
    go_region
    go_wp2
    exact bodyPost_ret (v := .tuple #[.agg #[.int .i64 m, .int .i64 3], .bool true]) (by simp [results, Tryd.results26, go_sem]) rfl (StepOut.mk (o := some (m, 3)) (fun h hh => by simpa using hh.symm) (below3 w _ _ _).drew)
  · rw [if_neg (by omega)]
    have e0 : (s == 0) = false := by simp [hs0]
    go_enter Tryd.func26, Tryd.ntmps26
    go_wp2
    go_region
    go_wp2
    exact bodyPost_ret (v := .tuple #[.agg #[.int .i64 m, .int .i64 3], .bool false]) (by simp [results, Tryd.results26, go_sem]) rfl (StepOut.mk (o := none) (fun h hh => by cases hh) (below3 w _ _ _).drew)

set_option maxHeartbeats 2000000 in
theorem holdStep_any (m s t : Int) (b2 off2 cap2 : Nat) (z F : Int) (w : World) (d0 : w.cell? ⟨b2, off2, none⟩ = some (.int .i64 z)) :
    Calls Tryd.prog 24 #[.agg #[.int .i64 m, .int .i64 s], .agg #[.int .i64 1, .int .i64 t, .slice (some ⟨b2, off2, none⟩) 1 cap2], .int .i64 F] w fun e w' => StepOut w w' e (Pl.next (m, s) 1 z F) := by
  have hb2 : b2 < w.heap.size := World.block_lt_of_cell? _ _ d0
  have HQ : Hid (∀ o, (((w.alloc (.cells #[.int .i64 m, .int .i64 s] 40)).alloc (.cells #[.int .i64 1, .int .i64 t, .slice (some ⟨b2, off2, none⟩) 1 cap2] 44)).alloc o).drew.cell? ⟨w.heap.size, 1, none⟩ = some (.int .i64 s) ∧
      (((w.alloc (.cells #[.int .i64 m, .int .i64 s] 40)).alloc (.cells #[.int .i64 1, .int .i64 t, .slice (some ⟨b2, off2, none⟩) 1 cap2] 44)).alloc o).drew.cell? ⟨w.heap.size + 1, 2, none⟩ = some (.slice (some ⟨b2, off2, none⟩) 1 cap2) ∧
      (((w.alloc (.cells #[.int .i64 m, .int .i64 s] 40)).alloc (.cells #[.int .i64 1, .int .i64 t, .slice (some ⟨b2, off2, none⟩) 1 cap2] 44)).alloc o).drew.cell? ⟨b2, off2, none⟩ = some (.int .i64 z)) := fun o => by
    obtain ⟨hc, _⟩ := bcell (al_below ((w.alloc (.cells #[.int .i64 m, .int .i64 s] 40)).alloc (.cells #[.int .i64 1, .int .i64 t, .slice (some ⟨b2, off2, none⟩) 1 cap2] 44)) o).drew
    refine ⟨?_, ?_, ?_⟩
    · rw [hc _ _ (by simp; omega)]; simp [go_sem]
    · rw [hc _ _ (by simp)]; simp [go_sem]
    · rw [hc _ _ (by simp; omega)]; exact ((below2 w _ _).cell (p := ⟨b2, off2, none⟩) hb2).trans d0
  rw [next_1]
  by_cases hs0 : s = 0
  · subst hs0
    by_cases hzF : z ≤ F
    · rw [if_pos ⟨rfl, hzF⟩]
      go_enter Tryd.func24, Tryd.ntmps24
      go_wp2
      go_region_held (fun w' => w'.cell? ⟨w.heap.size, 1, none⟩ = some (.int .i64 0) ∧ w'.cell? ⟨w.heap.size + 1, 2, none⟩ = some (.slice (some ⟨b2, off2, none⟩) 1 cap2) ∧ w'.cell? ⟨b2, off2, none⟩ = some (.int .i64 z)) (first | (go_keep; done) | exact HQ.out _) (fail)
      go_wp2
      exact bodyPost_ret (v := .tuple #[.agg #[.int .i64 z, .int .i64 1], .bool true]) (by simp [results, Tryd.results24, go_sem]) rfl (StepOut.mk (o := some (z, 1)) (fun h hh => by simpa using hh.symm) (below3 w _ _ _).drew)
    · rw [if_neg (by omega)]
      go_enter Tryd.func24, Tryd.ntmps24
      go_wp2
      go_region_held (fun w' => w'.cell? ⟨w.heap.size, 1, none⟩ = some (.int .i64 0) ∧ w'.cell? ⟨w.heap.size + 1, 2, none⟩ = some (.slice (some ⟨b2, off2, none⟩) 1 cap2) ∧ w'.cell? ⟨b2, off2, none⟩ = some (.int .i64 z)) (first | (go_keep; done) | exact HQ.out _) (fail)
      go_wp2
      exact bodyPost_ret (v := .tuple #[.agg #[.int .i64 z, .int .i64 1], .bool false]) (by simp [results, Tryd.results24, go_sem]; try omega) rfl (StepOut.mk (o := none) (fun h hh => by cases hh) (below3 w _ _ _).drew)
  · rw [if_neg (by omega)]
    have e0 : (s == 0) = false := by simp [hs0]
    have hq : ∀ o1 o2 o3, (((w.alloc o1).alloc o2).alloc o3).cell? ⟨b2, off2, none⟩ = some (.int .i64 z) := fun o1 o2 o3 => ((below3 w o1 o2 o3).cell (p := ⟨b2, off2, none⟩) hb2).trans d0
    go_enter Tryd.func24, Tryd.ntmps24
    go_wp2
    go_region
    go_wp2
    exact bodyPost_ret (v := .tuple #[.agg #[.int .i64 z, .int .i64 1], .bool false]) (by simp [results, Tryd.results24, go_sem]) rfl (StepOut.mk (o := none) (fun h hh => by cases hh) (below3 w _ _ _).drew)

set_option maxHeartbeats 2000000 in
theorem steps_any (w : World) :
    Calls Tryd.prog 20 #[] w fun e w' => e = .returned (.agg #[.func (.func 23) #[] #[], .func (.func 24) #[] #[], .func (.func 25) #[] #[], .func (.func 26) #[] #[], .func (.func 23) #[] #[], .func (.func 23) #[] #[], .func (.func 23) #[] #[], .func (.func 23) #[] #[]]) ∧ Below w.heap.size w w' := by
  go_enter Tryd.func20, Tryd.ntmps20
  go_wp2
  exact bodyPost_ret (v := .agg #[.func (.func 23) #[] #[], .func (.func 24) #[] #[], .func (.func 25) #[] #[], .func (.func 26) #[] #[], .func (.func 23) #[] #[], .func (.func 23) #[] #[], .func (.func 23) #[] #[], .func (.func 23) #[] #[]]) (by simp [results, Tryd.results20, go_sem]) rfl ⟨rfl, al_below _ _⟩

end Go.Proofs.YtmkikenacnemkaaDoor
