/- The draw of a stock out of a code: DrawStockFree. For codes of at most 1048576 bytes. -/
import Derived.Test.YthmbdboljjdcaaaSStock
namespace Go.Proofs.Ythmbdboljjdcaaa
open Go.RowKit

set_option maxHeartbeats 2000000 in
theorem drawFree_any (v : Value) (n : Nat) (w : World) (hv : CodeAt w v n) (hn : n ≤ 1048576) :
    Calls Try.prog 4 #[v] w fun e w' => ∃ (room : Int) (u : Value) (hs : List Pl.H), e = .returned (.agg #[.int .i64 room, u]) ∧ -1 ≤ room ∧ room ≤ 10 ∧ hs.length ≤ 6 ∧ Holds w' u hs ∧ Below w.heap.size w w' := by
  have hv0 := hide_it (hv.later (alloc_below w (.cells #[.int .i64 0, .slice none 0 0] 25)) (Nat.le_refl _))
  have HO := hide_it (open_any v n _ hv0.out hn)
  obtain ⟨ao, cap, rfl, _⟩ := hv
  obtain ⟨w0, hw0⟩ : ∃ W, Hid (W = w.alloc (.cells #[.int .i64 0, .slice none 0 0] 25)) := ⟨_, rfl⟩
  have B0 : Hid (Below w.heap.size w w0) := by show Below _ _ _; rw [hw0.out]; exact alloc_below _ _
  have S0 : Hid (w0.heap[w.heap.size]? = some (.cells #[.int .i64 0, .slice none 0 0] 25 (0, 0))) := by show _ = _; rw [hw0.out]; exact heap_alloc_new _ _
  have Z0 : Hid (w0.heap.size = w.heap.size + 1) := by show _ = _; rw [hw0.out]; simp
  rw [← hw0.out] at HO
  clear hv0
  go_enter Try.func4, Try.ntmps4
  go_wp2_with fail
  rw [← hw0.out]
  refine HO.out.mono ?_
  rintro e w1 ⟨rfl, hr1, hs1, hb1⟩
  have R1 := hide_it hr1
  have B1 := hide_it (B0.out.trans (hb1.mono B0.out.size))
  have S1 := hide_it (rowS_later S0.out hb1 (Nat.le_refl _))
  have Z1 : Hid (w1.heap.size = w.heap.size + 2) := by show _ = _; rw [hs1, Z0.out]
  clear hr1 hb1 hs1
  go_wp2_with fail
  refine (stock_draw _ 0 _ R1.out (by omega)).mono ?_
  rintro e w2 ⟨room, u, hs, q, rfl, lr, ur, hl, hH, hown, hq, hr2, m2⟩
  have B2 := hide_it (B1.out.trans (m2.below (B := w.heap.size) (by rw [Z0.out]; omega) B1.out.size))
  have S2 : Hid (w2.heap[w.heap.size]? = some (.cells #[.int .i64 0, .slice none 0 0] 25 (0, 0))) := by
    show _ = _
    rw [m2.block _ (heap_lt S1.out) (Or.inl (by rw [Z0.out]; omega))]; exact S1.out
  have H2 := hide_it hH
  have hownw : Hid (∀ g, u.ownBlock = some g → g ≠ w.heap.size) := fun g hg => by have := hown g hg; rw [Z1.out] at this; omega
  obtain ⟨au, cu, rfl⟩ := hH.shape
  clear hr2 m2 hH hown
  have c0 : w2.cell? ⟨w.heap.size, 0, none⟩ = some (.int .i64 0) := by rw [cell_of_row w2 _ _ _ _ _ S2.out]; rfl
  have c1 : w2.cell? ⟨w.heap.size, 1, none⟩ = some (.slice none 0 0) := by rw [cell_of_row w2 _ _ _ _ _ S2.out]; rfl
  have f0 := frozen_of_row w2 _ 0 _ _ S2.out
  have f1 := frozen_of_row w2 _ 1 _ _ S2.out
  go_wp2
  refine bodyPost_ret (v := .agg #[.int .i64 room, .slice au hs.length cu]) (by simp [results, Try.results4, go_sem, *]) rfl ⟨room, _, hs, rfl, lr, ur, hl, ?_, (B2.out.setCell (by simp) _).setCell (by simp) _⟩
  refine (H2.out.keep (w' := w2.setCell ⟨w.heap.size, 0, none⟩ (.int .i64 room)) fun g hg => ?_).keep fun g hg => ?_
  · exact Below.heap_setCell _ _ _ _ (by simpa using hownw.out g hg)
  · exact Below.heap_setCell _ _ _ _ (by simpa using hownw.out g hg)

end Go.Proofs.Ythmbdboljjdcaaa
