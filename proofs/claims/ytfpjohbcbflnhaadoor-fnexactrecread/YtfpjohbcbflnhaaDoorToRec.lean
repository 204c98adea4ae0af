/- Contracts of the law's helpers over records: how great one is, a copy of it, and whether two are the same. For lists of at most 1048576 numbers. -/
import Derived.Test.YtfpjohbcbflnhaaDoorTo
namespace Go.Proofs.YtfpjohbcbflnhaaDoor
open Go.RowKit

theorem bcell {W w1 : World} (hb : Below W.heap.size W w1) : (∀ b o, b < W.heap.size → w1.cell? ⟨b, o, none⟩ = W.cell? ⟨b, o, none⟩) ∧ (∀ b o, b < W.heap.size → w1.frozen? ⟨b, o, none⟩ = W.frozen? ⟨b, o, none⟩) :=
  ⟨fun b o h => hb.cell (p := ⟨b, o, none⟩) h, fun b o h => hb.frozen (p := ⟨b, o, none⟩) h⟩

theorem size3 (w : World) (o1 o2 o3 : Obj) : (((w.alloc o1).alloc o2).alloc o3).heap.size = w.heap.size + 3 := by simp
theorem below3 (w : World) (o1 o2 o3 : Obj) : Below w.heap.size w (((w.alloc o1).alloc o2).alloc o3) :=
  (((Below.refl _ _).alloc (Nat.le_refl _) _).alloc (by simp) _).alloc (by simp; omega) _
set_option maxHeartbeats 1000000 in
theorem eqInts_any (v1 v2 : Value) (zs : List Int) (w : World) (h1 : Ints w v1 zs) (h2 : Ints w v2 zs) (hl : zs.length ≤ 1048576) :
    Calls Tryd.prog 35 #[v1, v2] w fun e w' => e = .returned (.bool true) ∧ Below w.heap.size w w' := by
  rcases h1 with ⟨rfl, ao, cap, rfl, -⟩ | ⟨b, off, cap, rfl, hz, hc⟩
  · obtain ⟨ao2, cap2, rfl⟩ := h2.shape
    clear h2
    go_enter Tryd.func35, Tryd.ntmps35
    go_wp2
    refine wp_loop_rounds 1 ?_
    rw [rounds_succ]
    go_wp2
    go_ret
    exact ⟨rfl, Below.refl _ _⟩
  rcases h2 with ⟨h, _⟩ | ⟨b2, off2, cap2, rfl, _, hc2⟩
  · exact absurd h hz
  have HC : Hid (∀ k, k < zs.length → w.cell? ⟨b, off + k, none⟩ = some (.int .i64 (zs.getD k 0))) := hc
  have HC2 : Hid (∀ k, k < zs.length → w.cell? ⟨b2, off2 + k, none⟩ = some (.int .i64 (zs.getD k 0))) := hc2
  have hzl : 0 < zs.length := List.length_pos_iff.2 hz
  have hbw : b < w.heap.size := World.block_lt_of_cell? _ _ (hc 0 hzl)
  have hbw2 : b2 < w.heap.size := World.block_lt_of_cell? _ _ (hc2 0 hzl)
  clear hc hc2 hz
  go_enter Tryd.func35, Tryd.ntmps35
  go_wp2
  go_loopw [5] (fun i wr => ∃ k : Nat, k ≤ zs.length ∧ i = .int .i64 k ∧ Below w.heap.size w wr) (fun i _ => zs.length - (intOf i).toNat)
  case atStart => exact ⟨0, Nat.zero_le _, rfl, Below.refl _ _⟩
  case round =>
    obtain ⟨k, hk, rfl, hbe⟩ := hrel
    by_cases hlt : k < zs.length
    · obtain ⟨z, HZ⟩ : ∃ z, Hid (z = zs.getD k 0) := ⟨_, rfl⟩
      have hck : wr.cell? ⟨b, off + k, none⟩ = some (.int .i64 z) := by rw [HZ.out, hbe.cell (p := ⟨b, off + k, none⟩) hbw]; exact HC.out k hlt
      have hck2 : wr.cell? ⟨b2, off2 + k, none⟩ = some (.int .i64 z) := by rw [HZ.out, hbe.cell (p := ⟨b2, off2 + k, none⟩) hbw2]; exact HC2.out k hlt
      have hli : (k : Int) < (zs.length : Int) := by omega
      have HB : Hid (Below w.heap.size w wr) := hbe
      clear hbe
      go_wp2
      go_quiet (fail)
      go_wp2
      go_roundw
      case rel => exact ⟨k + 1, by omega, by go_num, below_drewN HB.out _⟩
      case measure => simp [intOf]; omega
    · go_wp2
      go_ret
      exact ⟨rfl, hbe⟩

theorem below2 (w : World) (o1 o2 : Obj) : Below w.heap.size w ((w.alloc o1).alloc o2) :=
  ((Below.refl _ _).alloc (Nat.le_refl _) _).alloc (by simp) _
theorem size2 (w : World) (o1 o2 : Obj) : ((w.alloc o1).alloc o2).heap.size = w.heap.size + 2 := by simp

set_option maxHeartbeats 1000000 in
theorem eqRec_any (k t : Int) (v1 v2 : Value) (zs : List Int) (w : World) (h1 : Ints w v1 zs) (h2 : Ints w v2 zs) (hl : zs.length ≤ 1048576) :
    Calls Tryd.prog 16 #[.agg #[.int .i64 k, .int .i64 t, v1], .agg #[.int .i64 k, .int .i64 t, v2]] w fun e w' => e = .returned (.bool true) ∧ Below w.heap.size w w' := by
  have H1 : Hid (∀ o1 o2, Ints ((w.alloc o1).alloc o2) v1 zs) := fun o1 o2 => h1.later (below2 w o1 o2) (Nat.le_refl _)
  have H2 : Hid (∀ o1 o2, Ints ((w.alloc o1).alloc o2) v2 zs) := fun o1 o2 => h2.later (below2 w o1 o2) (Nat.le_refl _)
  clear h1 h2
  go_enter Tryd.func16, Tryd.ntmps16
  go_wp2_with (go_at_call 35; refine (eqInts_any _ _ zs _ (H1.out _ _) (H2.out _ _) hl).mono ?_; rintro e w1 ⟨rfl, hb⟩)
  go_ret
  refine ⟨rfl, (below2 w _ _).trans (Below.mono (by assumption) ?_)⟩
  simp; omega

/-- A record lies at the head of this block. -/
def RecAt (w : World) (b : Nat) (k t : Int) (v : Value) : Prop :=
  w.cell? ⟨b, 0, none⟩ = some (.int .i64 k) ∧ w.cell? ⟨b, 1, none⟩ = some (.int .i64 t) ∧ w.cell? ⟨b, 2, none⟩ = some v
theorem RecAt.later {B : Nat} {w w' : World} {b : Nat} {k t : Int} {v : Value} (h : RecAt w b k t v) (hb : Below B w w') (hB : w.heap.size ≤ B) : RecAt w' b k t v := by
  obtain ⟨h0, h1, h2⟩ := h
  have hlt := World.block_lt_of_cell? _ _ h0
  simp at hlt
  exact ⟨by rw [← h0]; exact hb.cell (p := ⟨b, 0, none⟩) (by simp; omega), by rw [← h1]; exact hb.cell (p := ⟨b, 1, none⟩) (by simp; omega), by rw [← h2]; exact hb.cell (p := ⟨b, 2, none⟩) (by simp; omega)⟩
theorem RecAt.new (w : World) (k t : Int) (v : Value) (ty : TypeId) : RecAt (w.alloc (.cells #[.int .i64 k, .int .i64 t, v] ty)) w.heap.size k t v := by
  refine ⟨?_, ?_, ?_⟩ <;> simp

end Go.Proofs.YtfpjohbcbflnhaaDoor
