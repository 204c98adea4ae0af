/- The draws of a log with how many are left, and of a log with a record. For codes of at most 1048576 bytes. -/
import Derived.Test.YtgbikmcpcolcpaaDoorDOpen
namespace Go.Proofs.YtgbikmcpcolcpaaDoor
open Go.RowKit

set_option maxHeartbeats 4000000 in
theorem drawFall_any (v : Value) (n : Nat) (w : World) (hv : CodeAt w v n) (hn : n ≤ 1048576) :
    Calls Tryd.prog 22 #[v] w fun e w' => ∃ u f rs keep, e = .returned (.tuple #[.agg #[u, .int .i64 f], .int .i64 keep]) ∧ -2 ≤ keep ∧ keep ≤ 5 ∧ GotLog w w' u rs := by
  have HO : Hid (∀ o, Calls Tryd.prog 25 #[v] (w.alloc o) fun e w' => e = .returned (.pointer (some ⟨w.heap.size + 1, 0, none⟩)) ∧ Rd w' (w.heap.size + 1) 0 ∧ w'.heap.size = w.heap.size + 2 ∧ Below (w.heap.size + 1) (w.alloc o) w') := fun o => by
    have := open_any v n (w.alloc o) (hv.later (alloc_below w o) (Nat.le_refl _)) hn
    rw [size1] at this
    exact this
  obtain ⟨ao, cap, rfl, _⟩ := hv
  go_enter Tryd.func22, Tryd.ntmps22
  go_wp2_with fail
  refine (HO.out _).mono ?_
  rintro e w1 ⟨rfl, hr1, hs1, hb1⟩
  have R1 := hide_it hr1
  have B1 := hide_it ((alloc_below w _).trans (hb1.mono (by omega)))
  have Z1 := hide_it (show w1.heap[w.heap.size]? = some (.cells #[.slice none 0 0, .int .i64 0] 25 (0, 0)) by rw [hb1.block _ (by omega)]; exact heap_alloc_new w _)
  clear hr1 hb1
  go_wp2_with fail
  refine (log_draw (w.heap.size + 1) 0 w1 R1.out (by omega)).mono ?_
  rintro e w2 ⟨u, f, ps, q, L, rfl, hl, -, hq, hs2⟩
  obtain ⟨au, cu, hus⟩ : ∃ ao cap, u = .slice ao ps.length cap := row_shape hs2.row
  subst hus
  have S2 := hide_it hs2
  clear hs2
  go_wp2_with fail
  refine (pick_any (w.heap.size + 1) q 6 _ S2.out.rd (by omega) (by omega) (by omega)).mono ?_
  rintro e w3 ⟨x, rfl, lx, ux, r3, m3⟩
  have S3 := hide_it (S2.out.step m3 r3)
  clear r3 m3 S2
  go_wp2_with fail
  refine (pick_any (w.heap.size + 1) (q + 1) 6 _ S3.out.rd (by omega) (by omega) (by omega)).mono ?_
  rintro e w4 ⟨y, rfl, ly, uy, r4, m4⟩
  have S4 := hide_it (S3.out.step m4 r4)
  clear r4 m4 S3
  have hZ4 : w4.heap[w.heap.size]? = some (.cells #[.slice none 0 0, .int .i64 0] 25 (0, 0)) := by
    rw [S4.out.mid.block _ (by omega) (Or.inl (by omega))]; exact Z1.out
  have z0 : w4.cell? ⟨w.heap.size, 0, none⟩ = some (.slice none 0 0) := by rw [cell_of_row w4 _ _ _ _ _ hZ4]; rfl
  have z1 : w4.cell? ⟨w.heap.size, 1, none⟩ = some (.int .i64 0) := by rw [cell_of_row w4 _ _ _ _ _ hZ4]; rfl
  have z2 := frozen_of_row w4 _ 0 _ _ hZ4
  have z3 := frozen_of_row w4 _ 1 _ _ hZ4
  clear hZ4
  rcases (show y = 0 ∨ y = 1 ∨ y = 2 ∨ y = 3 ∨ y = 4 ∨ y = 5 by omega) with rfl | rfl | rfl | rfl | rfl | rfl
  all_goals
    go_wp2
  · refine bodyPost_ret (v := .tuple #[.agg #[.slice au ps.length cu, .int .i64 f], .int .i64 x]) (by simp [results, Tryd.results22, go_sem, z0, z1]) rfl ⟨_, f, ps.map (·.1), x, rfl, by omega, by omega, ?_⟩
    exact GotLog.of B1.out (by omega) S4.out hl (set2_mid _ _ _ _) (by omega) (Nat.le_refl _)
  · refine bodyPost_ret (v := .tuple #[.agg #[.slice au ps.length cu, .int .i64 f], .int .i64 x]) (by simp [results, Tryd.results22, go_sem, z0, z1]) rfl ⟨_, f, ps.map (·.1), x, rfl, by omega, by omega, ?_⟩
    exact GotLog.of B1.out (by omega) S4.out hl (set2_mid _ _ _ _) (by omega) (Nat.le_refl _)
  · refine bodyPost_ret (v := .tuple #[.agg #[.slice au ps.length cu, .int .i64 f], .int .i64 x]) (by simp [results, Tryd.results22, go_sem, z0, z1]) rfl ⟨_, f, ps.map (·.1), x, rfl, by omega, by omega, ?_⟩
    exact GotLog.of B1.out (by omega) S4.out hl (set2_mid _ _ _ _) (by omega) (Nat.le_refl _)
  · refine bodyPost_ret (v := .tuple #[.agg #[.slice au ps.length cu, .int .i64 f], .int .i64 x]) (by simp [results, Tryd.results22, go_sem, z0, z1]) rfl ⟨_, f, ps.map (·.1), x, rfl, by omega, by omega, ?_⟩
    exact GotLog.of B1.out (by omega) S4.out hl (set2_mid _ _ _ _) (by omega) (Nat.le_refl _)
  · refine bodyPost_ret (v := .tuple #[.agg #[.slice au ps.length cu, .int .i64 f], .int .i64 x]) (by simp [results, Tryd.results22, go_sem, z0, z1]) rfl ⟨_, f, ps.map (·.1), x, rfl, by omega, by omega, ?_⟩
    exact GotLog.of B1.out (by omega) S4.out hl (set2_mid _ _ _ _) (by omega) (Nat.le_refl _)
  · refine bodyPost_ret (v := .tuple #[.agg #[.slice au ps.length cu, .int .i64 f], .int .i64 (x - 2)]) (by simp [results, Tryd.results22, go_sem, z0, z1]) rfl ⟨_, f, ps.map (·.1), x - 2, rfl, by omega, by omega, ?_⟩
    exact GotLog.of B1.out (by omega) S4.out hl (set2_mid _ _ _ _) (by omega) (Nat.le_refl _)

set_option maxHeartbeats 4000000 in
theorem drawAdd_any (v : Value) (n : Nat) (w : World) (hv : CodeAt w v n) (hn : n ≤ 1048576) :
    Calls Tryd.prog 9 #[v] w fun e w' => ∃ u f rs k t y zs, e = .returned (.tuple #[.agg #[u, .int .i64 f], .agg #[.int .i64 k, .int .i64 t, y]]) ∧ Ints w' y zs ∧ zs.length ≤ 4 ∧ GotLog w w' u rs := by
  have HO : Hid (∀ o1 o2, Calls Tryd.prog 25 #[v] ((w.alloc o1).alloc o2) fun e w' => e = .returned (.pointer (some ⟨w.heap.size + 2, 0, none⟩)) ∧ Rd w' (w.heap.size + 2) 0 ∧ w'.heap.size = w.heap.size + 3 ∧ Below (w.heap.size + 2) ((w.alloc o1).alloc o2) w') := fun o1 o2 => by
    have := open_any v n ((w.alloc o1).alloc o2) (hv.later (below2 w o1 o2) (Nat.le_refl _)) hn
    rw [size2] at this
    exact this
  obtain ⟨ao, cap, rfl, _⟩ := hv
  go_enter Tryd.func9, Tryd.ntmps9
  go_wp2_with fail
  refine (HO.out _ _).mono ?_
  rintro e w1 ⟨rfl, hr1, hs1, hb1⟩
  have R1 := hide_it hr1
  have B1 := hide_it ((below2 w _ _).trans (hb1.mono (by omega)))
  have Z1 := hide_it (show w1.heap[w.heap.size]? = some (.cells #[.slice none 0 0, .int .i64 0] 25 (0, 0)) by rw [hb1.block _ (by omega), Below.heap_alloc _ _ _ (by simp)]; exact heap_alloc_new w _)
  have Y1 := hide_it (show w1.heap[w.heap.size + 1]? = some (.cells #[.int .i64 0, .int .i64 0, .slice none 0 0] 28 (0, 0)) by
    rw [hb1.block _ (by omega)]
    have h := heap_alloc_new (w.alloc (.cells #[.slice none 0 0, .int .i64 0] 25)) (.cells #[.int .i64 0, .int .i64 0, .slice none 0 0] 28)
    rw [size1] at h
    exact h)
  clear hr1 hb1
  go_wp2_with fail
  refine (log_draw (w.heap.size + 2) 0 w1 R1.out (by omega)).mono ?_
  rintro e w2 ⟨u, f, ps, q, L, rfl, hl, -, hq, hs2⟩
  obtain ⟨au, cu, hus⟩ : ∃ ao cap, u = .slice ao ps.length cap := row_shape hs2.row
  subst hus
  have S2 := hide_it hs2
  clear hs2
  go_wp2_with fail
  refine (rec_draw (w.heap.size + 2) q _ S2.out.rd (by omega)).mono ?_
  rintro e w3 ⟨k, t, y, zs, q2, cp, rfl, hz, hF, -, -, r3, m3⟩
  have S3 := hide_it (S2.out.step m3 r3)
  have hsz : w.heap.size + 3 ≤ w2.heap.size := by have := S2.out.mid.size; omega
  have F3 := hide_it (hF.mono hsz)
  obtain ⟨g, off, hyy⟩ : ∃ g off, y = .slice (some ⟨g, off, none⟩) zs.length cp := by obtain ⟨g, off, cs, h, _⟩ := hF; exact ⟨g, off, h⟩
  subst hyy
  clear r3 m3 hF S2
  have hZ4 : w3.heap[w.heap.size]? = some (.cells #[.slice none 0 0, .int .i64 0] 25 (0, 0)) := by
    rw [S3.out.mid.block _ (by omega) (Or.inl (by omega))]; exact Z1.out
  have hY4 : w3.heap[w.heap.size + 1]? = some (.cells #[.int .i64 0, .int .i64 0, .slice none 0 0] 28 (0, 0)) := by
    rw [S3.out.mid.block _ (by omega) (Or.inl (by omega))]; exact Y1.out
  have z0 : w3.cell? ⟨w.heap.size, 0, none⟩ = some (.slice none 0 0) := by rw [cell_of_row w3 _ _ _ _ _ hZ4]; rfl
  have z1 : w3.cell? ⟨w.heap.size, 1, none⟩ = some (.int .i64 0) := by rw [cell_of_row w3 _ _ _ _ _ hZ4]; rfl
  have z2 := frozen_of_row w3 _ 0 _ _ hZ4
  have z3 := frozen_of_row w3 _ 1 _ _ hZ4
  have y0 : w3.cell? ⟨w.heap.size + 1, 0, none⟩ = some (.int .i64 0) := by rw [cell_of_row w3 _ _ _ _ _ hY4]; rfl
  have y1 : w3.cell? ⟨w.heap.size + 1, 1, none⟩ = some (.int .i64 0) := by rw [cell_of_row w3 _ _ _ _ _ hY4]; rfl
  have y2 : w3.cell? ⟨w.heap.size + 1, 2, none⟩ = some (.slice none 0 0) := by rw [cell_of_row w3 _ _ _ _ _ hY4]; rfl
  have y3 := frozen_of_row w3 _ 0 _ _ hY4
  have y4 := frozen_of_row w3 _ 1 _ _ hY4
  have y5 := frozen_of_row w3 _ 2 _ _ hY4
  clear hZ4 hY4
  have MM : Hid (∀ a b c d e, Mid w.heap.size (w.heap.size + 2) w3 (((((w3.setCell ⟨w.heap.size, 0, none⟩ a).setCell ⟨w.heap.size, 1, none⟩ b).setCell ⟨w.heap.size + 1, 0, none⟩ c).setCell ⟨w.heap.size + 1, 1, none⟩ d).setCell ⟨w.heap.size + 1, 2, none⟩ e)) := fun a b c d e => by
    refine ⟨rfl, rfl, rfl, by simp, fun j hj hh => ?_⟩
    rw [Below.heap_setCell _ _ _ _ (by simp; omega), Below.heap_setCell _ _ _ _ (by simp; omega), Below.heap_setCell _ _ _ _ (by simp; omega), Below.heap_setCell _ _ _ _ (by simp; omega), Below.heap_setCell _ _ _ _ (by simp; omega)]
  go_wp2
  refine bodyPost_ret (v := .tuple #[.agg #[.slice au ps.length cu, .int .i64 f], .agg #[.int .i64 k, .int .i64 t, .slice (some ⟨g, off, none⟩) zs.length cp]]) (by simp [results, Tryd.results9, go_sem, z0, z1, y0, y1, y2]) rfl ⟨_, f, ps.map (·.1), k, t, _, zs, rfl, ?_, hz, ?_⟩
  · have hm := MM.out (.slice au ps.length cu) (.int .i64 f) (.int .i64 k) (.int .i64 t) (.slice (some ⟨g, off, none⟩) zs.length cp)
    obtain ⟨g', off', cs, hu, hlo, hh, hc⟩ := F3.out
    have F4 : Fresh _ (w.heap.size + 3) (.slice (some ⟨g, off, none⟩) zs.length cp) zs cp := ⟨g', off', cs, hu, hlo, by rw [hm.block g' (heap_lt hh) (Or.inr (by omega))]; exact hh, hc⟩
    exact F4.ints
  · exact GotLog.of B1.out (by omega) S3.out hl (MM.out _ _ _ _ _) (by omega) (Nat.le_refl _)

end Go.Proofs.YtgbikmcpcolcpaaDoor
