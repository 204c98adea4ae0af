/- The draw of a record out of a code, in memory of its own, and the look at two records that are the same: for the laws of the texts of records. For codes of at most 1048576 bytes. -/
import Derived.Test.YtfpjohbcbflnhaaDoorEInj
import Derived.Test.YtfpjohbcbflnhaaDoorDRec
import Derived.Deep.RegionWith
namespace Go.Proofs.YtfpjohbcbflnhaaDoor
open Go.RowKit

/-- The value is a slice of n bytes, whatever they are. -/
def CodeAt (w : World) (v : Value) (n : Nat) : Prop :=
  ∃ ao cap, v = .slice ao n cap ∧ n ≤ cap ∧ (n ≠ 0 → ∃ g off, ao = some ⟨g, off, none⟩ ∧ ∀ k, k < n → ∃ z : Int, w.cell? ⟨g, off + k, none⟩ = some (.int .u8 z) ∧ 0 ≤ z ∧ z ≤ 255)
theorem CodeAt.later {B : Nat} {w w' : World} {v : Value} {n : Nat} (h : CodeAt w v n) (hb : Below B w w') (hB : w.heap.size ≤ B) : CodeAt w' v n := by
  obtain ⟨ao, cap, hv, hc, hk⟩ := h
  refine ⟨ao, cap, hv, hc, fun hn => ?_⟩
  obtain ⟨g, off, ha, hh⟩ := hk hn
  refine ⟨g, off, ha, fun k hkn => ?_⟩
  obtain ⟨z, h1, h2⟩ := hh k hkn
  have hl := World.block_lt_of_cell? _ _ h1
  simp at hl
  exact ⟨z, by rw [← h1]; exact hb.cell (p := ⟨g, off + k, none⟩) (by simp; omega), h2⟩

theorem code_bytes {w : World} {v : Value} {n : Nat} (h : CodeAt w v n) (m : Nat) (hm : m ≤ n) (ao : Option Addr) (cap : Nat) (hv : v = .slice ao n cap) (o : Obj) : Bytes (w.alloc o) w.heap.size (.slice ao m cap) m := by
  obtain ⟨ao', cap', hv', hc, hk⟩ := h
  rw [hv] at hv'
  simp only [Value.slice.injEq, true_and] at hv'
  obtain ⟨rfl, rfl⟩ := hv'
  refine ⟨ao, cap, rfl, fun hn => ?_⟩
  obtain ⟨g, off, ha, hh⟩ := hk (by omega)
  have hg : g < w.heap.size := by
    obtain ⟨z, h1, _⟩ := hh 0 (by omega)
    simpa using World.block_lt_of_cell? _ _ h1
  refine ⟨g, off, ha, hg, fun k hkm => ?_⟩
  obtain ⟨z, h1, h2⟩ := hh k (by omega)
  exact ⟨z, by rw [← h1]; exact (alloc_below w o).cell (p := ⟨g, off + k, none⟩) hg, h2⟩

set_option maxHeartbeats 1000000 in
theorem open_any (v : Value) (n : Nat) (w : World) (hv : CodeAt w v n) (hn : n ≤ 1048576) :
    Calls Tryd.prog 22 #[v] w fun e w' => e = .returned (.pointer (some ⟨w.heap.size, 0, none⟩)) ∧ Rd w' w.heap.size 0 ∧ w'.heap.size = w.heap.size + 1 ∧ Below w.heap.size w w' := by
  obtain ⟨ao, cap, rfl, hc, hk⟩ := id hv
  by_cases h2 : 2000 < (n : Int)
  · have RD : Hid (Rd (w.alloc (.cells #[.slice ao 2000 cap, .int .i64 0] 63)) w.heap.size 0) := ⟨_, 2000, by omega, heap_alloc_new w _, code_bytes hv 2000 (by omega) ao cap rfl _⟩
    obtain ⟨g, off, hao, _⟩ := hk (by omega)
    subst hao
    have hc2 : (2000 : Int) ≤ (cap : Int) := by omega
    clear hv hk
    go_enter Tryd.func22, Tryd.ntmps22
    go_wp2
    go_ret
    exact ⟨rfl, RD.out, by simp, alloc_below _ _⟩
  · have RD : Hid (Rd (w.alloc (.cells #[.slice ao n cap, .int .i64 0] 63)) w.heap.size 0) := ⟨_, n, by omega, heap_alloc_new w _, code_bytes hv n (Nat.le_refl _) ao cap rfl _⟩
    clear hv hk
    go_enter Tryd.func22, Tryd.ntmps22
    go_wp2
    go_ret
    exact ⟨rfl, RD.out, by simp, alloc_below _ _⟩

set_option maxHeartbeats 1000000 in
theorem lnInts_any (v1 v2 : Value) (zs : List Int) (w : World) (h1 : Ints w v1 zs) (h2 : Ints w v2 zs) (hl : zs.length ≤ 1048576) :
    Calls Tryd.prog 30 #[v1, v2] w fun e w' => e = .returned (.bool true) ∧ Below w.heap.size w w' := by
  rcases h1 with ⟨rfl, ao, cap, rfl, -⟩ | ⟨b, off, cap, rfl, hz, hc⟩
  · obtain ⟨ao2, cap2, rfl⟩ := h2.shape
    clear h2
    go_enter Tryd.func30, Tryd.ntmps30
    go_wp2
    refine wp_loop_rounds 1 ?_
    rw [rounds_succ]
    go_wp2
    go_ret
    exact ⟨rfl, Below.refl _ _⟩
  rcases h2 with ⟨h, _⟩ | ⟨b2, off2, cap2, rfl, _, hc2⟩
  · exact absurd h hz
  have HC : Hid (∀ k, k < zs.length → w.cell? ⟨b, off + k, none⟩ = some (.int .i64 (zs.getD k 0))) := hc
  have HC2 : Hid (∀ k, k < zs.length → w.cell? ⟨b2, off2 + k, none⟩ = some (.int .i64 (zs.getD k 0))) := hc2
  have hzl : 0 < zs.length := List.length_pos_iff.2 hz
  have hbw : b < w.heap.size := World.block_lt_of_cell? _ _ (hc 0 hzl)
  have hbw2 : b2 < w.heap.size := World.block_lt_of_cell? _ _ (hc2 0 hzl)
  clear hc hc2 hz
  go_enter Tryd.func30, Tryd.ntmps30
  go_wp2
  go_loopw [5] (fun i wr => ∃ k : Nat, k ≤ zs.length ∧ i = .int .i64 k ∧ Below w.heap.size w wr) (fun i _ => zs.length - (intOf i).toNat)
  case atStart => exact ⟨0, Nat.zero_le _, rfl, Below.refl _ _⟩
  case round =>
    obtain ⟨k, hk, rfl, hbe⟩ := hrel
    by_cases hlt : k < zs.length
    · obtain ⟨z, HZ⟩ : ∃ z, Hid (z = zs.getD k 0) := ⟨_, rfl⟩
      have hck : wr.cell? ⟨b, off + k, none⟩ = some (.int .i64 z) := by rw [HZ.out, hbe.cell (p := ⟨b, off + k, none⟩) hbw]; exact HC.out k hlt
      have hck2 : wr.cell? ⟨b2, off2 + k, none⟩ = some (.int .i64 z) := by rw [HZ.out, hbe.cell (p := ⟨b2, off2 + k, none⟩) hbw2]; exact HC2.out k hlt
      have hli : (k : Int) < (zs.length : Int) := by omega
      have HB : Hid (Below w.heap.size w wr) := hbe
      clear hbe
      go_wp2
      go_quiet (fail)
      go_wp2
      go_roundw
      case rel => exact ⟨k + 1, by omega, by go_num, below_drewN HB.out _⟩
      case measure => simp [intOf]; omega
    · go_wp2
      go_ret
      exact ⟨rfl, hbe⟩

set_option maxHeartbeats 1000000 in
theorem lnRec_any (k t : Int) (v1 v2 : Value) (zs : List Int) (w : World) (h1 : Ints w v1 zs) (h2 : Ints w v2 zs) (hl : zs.length ≤ 1048576) :
    Calls Tryd.prog 12 #[.agg #[.int .i64 k, .int .i64 t, v1], .agg #[.int .i64 k, .int .i64 t, v2]] w fun e w' => e = .returned (.bool true) ∧ Below w.heap.size w w' := by
  have H1 : Hid (∀ o1 o2, Ints ((w.alloc o1).alloc o2) v1 zs) := fun o1 o2 => h1.later (below2 w o1 o2) (Nat.le_refl _)
  have H2 : Hid (∀ o1 o2, Ints ((w.alloc o1).alloc o2) v2 zs) := fun o1 o2 => h2.later (below2 w o1 o2) (Nat.le_refl _)
  clear h1 h2
  go_enter Tryd.func12, Tryd.ntmps12
  go_wp2_with (go_at_call 30; refine (lnInts_any _ _ zs _ (H1.out _ _) (H2.out _ _) hl).mono ?_; rintro e w1 ⟨rfl, hb⟩)
  go_ret
  refine ⟨rfl, (below2 w _ _).trans (Below.mono (by assumption) ?_)⟩
  simp; omega

set_option maxHeartbeats 2000000 in
theorem drawRecText_any (v : Value) (n : Nat) (w : World) (hv : CodeAt w v n) (hn : n ≤ 1048576) :
    Calls Tryd.prog 8 #[v] w fun e w' => ∃ (k t : Int) (u : Value) (zs : List Int) (cap : Nat), e = .returned (.agg #[.int .i64 k, .int .i64 t, u]) ∧ zs.length ≤ 4 ∧ Fresh w' w.heap.size u zs cap ∧ Below w.heap.size w w' := by
  have hv0 := hidden (hv.later (alloc_below w (.cells #[.int .i64 0, .int .i64 0, .slice none 0 0] 25)) (Nat.le_refl _))
  have HO := hidden (open_any v n _ hv0.out hn)
  obtain ⟨ao, cap, rfl, _⟩ := hv
  obtain ⟨w0, hw0⟩ : ∃ W, Hid (W = w.alloc (.cells #[.int .i64 0, .int .i64 0, .slice none 0 0] 25)) := ⟨_, rfl⟩
  have B0 : Hid (Below w.heap.size w w0) := by show Below _ _ _; rw [hw0.out]; exact alloc_below _ _
  have S0 : Hid (w0.heap[w.heap.size]? = some (.cells #[.int .i64 0, .int .i64 0, .slice none 0 0] 25 (0, 0))) := by show _ = _; rw [hw0.out]; exact heap_alloc_new _ _
  have Z0 : Hid (w0.heap.size = w.heap.size + 1) := by show _ = _; rw [hw0.out]; simp
  rw [← hw0.out] at HO
  clear hv0
  go_enter Tryd.func8, Tryd.ntmps8
  go_wp2_with fail
  rw [← hw0.out]
  refine HO.out.mono ?_
  rintro e w1 ⟨rfl, hr1, hs1, hb1⟩
  have R1 := hidden hr1
  have B1 := hidden (B0.out.trans (hb1.mono B0.out.size))
  have S1 : Hid (w1.heap[w.heap.size]? = some (.cells #[.int .i64 0, .int .i64 0, .slice none 0 0] 25 (0, 0))) := by show _ = _; rw [hb1.block _ (heap_lt S0.out)]; exact S0.out
  have Z1 : Hid (w.heap.size ≤ w1.heap.size) := B1.out.size
  clear hr1 hb1 hs1
  go_wp2_with fail
  refine (rec_draw _ 0 _ R1.out (by omega)).mono ?_
  rintro e w2 ⟨k, t, u, zs, q, cap2, rfl, hz, hf, _, _, hr2, m2⟩
  have B2 := hidden (B1.out.trans (m2.below (B := w.heap.size) (by rw [Z0.out]; omega) B1.out.size))
  have S2 : Hid (w2.heap[w.heap.size]? = some (.cells #[.int .i64 0, .int .i64 0, .slice none 0 0] 25 (0, 0))) := by
    show _ = _
    rw [m2.block _ (heap_lt S1.out) (Or.inl (by rw [Z0.out]; omega))]; exact S1.out
  have F2 := hidden (hf.mono Z1.out)
  obtain ⟨g, off, hu⟩ : ∃ g off, u = .slice (some ⟨g, off, none⟩) zs.length cap2 := by
    obtain ⟨g, off, _, h, _⟩ := hf
    exact ⟨g, off, h⟩
  clear hr2 m2 hf
  subst hu
  have c0 : w2.cell? ⟨w.heap.size, 0, none⟩ = some (.int .i64 0) := by rw [cell_of_row w2 _ _ _ _ _ S2.out]; rfl
  have c1 : w2.cell? ⟨w.heap.size, 1, none⟩ = some (.int .i64 0) := by rw [cell_of_row w2 _ _ _ _ _ S2.out]; rfl
  have c2 : w2.cell? ⟨w.heap.size, 2, none⟩ = some (.slice none 0 0) := by rw [cell_of_row w2 _ _ _ _ _ S2.out]; rfl
  have f0 := frozen_of_row w2 _ 0 _ _ S2.out
  have f1 := frozen_of_row w2 _ 1 _ _ S2.out
  have f2 := frozen_of_row w2 _ 2 _ _ S2.out
  have FF : Hid (Fresh (((w2.setCell ⟨w.heap.size, 0, none⟩ (.int .i64 k)).setCell ⟨w.heap.size, 1, none⟩ (.int .i64 t)).setCell ⟨w.heap.size, 2, none⟩ (.slice (some ⟨g, off, none⟩) zs.length cap2)) w.heap.size (.slice (some ⟨g, off, none⟩) zs.length cap2) zs cap2) := by
    have h1 := heap_setCell_same w2 _ 0 _ _ (.int .i64 k) S2.out
    have h2 := heap_setCell_same _ _ 1 _ _ (.int .i64 t) h1
    exact ((F2.out.set S2.out (by decide) _).set h1 (by decide) _).set h2 (by decide) _
  go_wp2
  exact bodyPost_ret (v := .agg #[.int .i64 k, .int .i64 t, .slice (some ⟨g, off, none⟩) zs.length cap2]) (by simp [results, Tryd.results8, go_sem, *]) rfl ⟨k, t, _, zs, cap2, rfl, hz, FF.out, ((B2.out.setCell (by simp) _).setCell (by simp) _).setCell (by simp) _⟩

end Go.Proofs.YtfpjohbcbflnhaaDoor
