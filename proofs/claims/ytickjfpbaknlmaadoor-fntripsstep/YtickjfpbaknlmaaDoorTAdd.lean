/- Contracts of the chain's small functions: the state behind a record, one more trip, and the trip of a number. For chains of at most six trips. -/
import Derived.Test.YtickjfpbaknlmaaDoorTChain
namespace Go.Proofs.YtickjfpbaknlmaaDoor.T
open Go.RowKit

set_option maxHeartbeats 1000000 in
theorem stateBehind_any (s k : Int) (w : World) :
    Calls Tryd.prog 44 #[.int .i64 s, .int .i64 k] w fun e w' => e = .returned (.int .i64 (nextS s k)) ∧ w' = w := by
  by_cases h5 : k = 5
  · subst h5
    by_cases h1 : s = 1
    · subst h1
      go_enter Tryd.func44, Tryd.ntmps44
      go_wp2
      go_ret
      exact ⟨rfl, rfl⟩
    · have HE : Hid (nextS s 5 = 0) := by show _ = _; simp [nextS, h1]
      have e1 : (s == 1) = false := by simp [h1]
      go_enter Tryd.func44, Tryd.ntmps44
      go_wp2
      go_ret
      exact ⟨by rw [HE.out]; rfl, rfl⟩
  by_cases h6 : k = 6
  · subst h6
    by_cases h1 : s = 1
    · subst h1
      go_enter Tryd.func44, Tryd.ntmps44
      go_wp2
      go_ret
      exact ⟨rfl, rfl⟩
    · have HE : Hid (nextS s 6 = 0) := by show _ = _; simp [nextS, h1]
      have e1 : (s == 1) = false := by simp [h1]
      go_enter Tryd.func44, Tryd.ntmps44
      go_wp2
      go_ret
      exact ⟨by rw [HE.out]; rfl, rfl⟩
  by_cases h7 : k = 7
  · subst h7
    by_cases h2 : s = 2
    · subst h2
      go_enter Tryd.func44, Tryd.ntmps44
      go_wp2
      go_ret
      exact ⟨rfl, rfl⟩
    have e2 : (s == 2) = false := by simp [h2]
    by_cases h3 : s = 3
    · subst h3
      go_enter Tryd.func44, Tryd.ntmps44
      go_wp2
      go_ret
      exact ⟨rfl, rfl⟩
    have e3 : (s == 3) = false := by simp [h3]
    have HE : Hid (nextS s 7 = 0) := by show _ = _; simp [nextS, h2, h3]
    go_enter Tryd.func44, Tryd.ntmps44
    go_wp2
    go_ret
    exact ⟨by rw [HE.out]; rfl, rfl⟩
  have HE : Hid (nextS s k = 0) := by show _ = _; simp [nextS, h5, h6, h7]
  have e5 : (k == 5) = false := by simp [h5]
  have e6 : (k == 6) = false := by simp [h6]
  have e7 : (k == 7) = false := by simp [h7]
  go_enter Tryd.func44, Tryd.ntmps44
  go_wp2
  go_ret
  exact ⟨by rw [HE.out]; rfl, rfl⟩

set_option maxHeartbeats 1000000 in
theorem find_any (c lo : Nat) (ns : List Nd) (t : Int) (w : World) (hc : Chain w c lo ns) (hn : ns.length ≤ 6) (ht : 1 ≤ t) :
    Calls Tryd.prog 43 #[ptr c, .int .i64 t] w fun e w' => e = .returned (at_ ns (t - 1).toNat) ∧ w' = w := by
  obtain ⟨h0, h1, h2⟩ := hc.head.cells3
  have HN := hide_it hc.nodes
  clear hc h1 h2
  obtain ⟨a0, ha0⟩ := at_shape ns 0
  have HA0 := hide_it ha0
  rw [ha0] at h0
  clear ha0
  obtain ⟨I, hI⟩ : ∃ I, (t - 1).toNat = I := ⟨_, rfl⟩
  rw [hI]
  have HIq := hide_it hI
  clear hI
  go_enter Tryd.func43, Tryd.ntmps43
  go_wp2
  go_loop [5, 6] (fun q p => ∃ (i : Nat) (a : Option Addr), i ≤ ns.length ∧ q = .int .i64 ((i : Int) + 1) ∧ p = .pointer a ∧ Hid (at_ ns i = .pointer a) ∧ (i : Int) < t) (fun q _ => ns.length + 1 - (intOf q).toNat)
  case atStart => exact ⟨0, a0, Nat.zero_le _, rfl, rfl, HA0, by omega⟩
  case round =>
    obtain ⟨i, a, hi, rfl, rfl, HA, hit⟩ := hrel
    by_cases hlt : i < ns.length
    · obtain ⟨n, hg⟩ : ∃ n, Hid (ns[i]? = some n) := ⟨ns[i], by show _ = _; simp [hlt]⟩
      obtain rfl : a = some ⟨n.1, 0, none⟩ := by
        have := HA.out
        rw [at_some hg.out] at this
        simpa [ptr] using this.symm
      obtain ⟨-, -, -, -, c4⟩ := HN.out.cells hg.out
      obtain ⟨a', ha'⟩ := at_shape ns (i + 1)
      rw [ha'] at c4
      have HA' := hide_it ha'
      clear ha'
      by_cases he : (i : Int) + 1 = t
      · have HE : Hid (at_ ns I = ptr n.1) := by
          show _ = _
          rw [show I = i by have := HIq.out; omega, at_some hg.out]
        go_wp2
        go_ret
        exact ⟨by rw [HE.out]; rfl, rfl⟩
      · go_wp2
        go_round
        case rel => exact ⟨i + 1, a', by omega, by go_num, rfl, HA', by omega⟩
        case measure => simp [intOf]; omega
    · obtain rfl : a = none := by
        have := HA.out
        rw [at_none (by omega)] at this
        simpa using this.symm
      have HE : Hid (at_ ns I = .pointer none) := at_none (by have := HIq.out; omega)
      go_wp2
      go_ret
      exact ⟨by rw [HE.out]; rfl, rfl⟩

/-- A node's cells while what is wanted is put into it. -/
def part (z0 z1 z2 s : Int) (k : Nat) : Array Value := #[.int .i64 (if 0 < k then z0 else 0), .int .i64 (if 1 < k then z1 else 0), .int .i64 (if 2 < k then z2 else 0), .int .i64 s, .pointer none]

theorem list3 {zs : List Int} (h : zs.length = 3) : ∃ z0 z1 z2, zs = [z0, z1, z2] := by
  match zs, h with
  | [a, b, c], _ => exact ⟨a, b, c, rfl⟩

set_option maxHeartbeats 2000000 in
theorem add_any (c lo : Nat) (ns : List Nd) (v : Value) (z0 z1 z2 s : Int) (w : World) (hc : Chain w c lo ns) (hn : ns.length ≤ 6) (hv : Ints w v [z0, z1, z2]) :
    Calls Tryd.prog 40 #[ptr c, v, .int .i64 s] w fun e w' => e = .returned (.tuple #[]) ∧ Chain w' c lo (ns ++ [(w.heap.size, (z0, z1, z2), s)]) ∧ Below lo w w' := by
  rcases hv with ⟨h, _⟩ | ⟨b, off, cap, rfl, _, hcl⟩
  · simp at h
  have b0 := hcl 0 (by simp)
  have b1 := hcl 1 (by simp)
  have b2 := hcl 2 (by simp)
  have hbw : b < w.heap.size := World.block_lt_of_cell? _ _ b0
  simp at b0 b1 b2
  have HC := hide_it hc
  have HB0 := hide_it b0
  have HB1 := hide_it b1
  have HB2 := hide_it b2
  obtain ⟨w0, hw0⟩ : ∃ W, Hid (W = w.alloc (.cells #[.int .i64 0, .int .i64 0, .int .i64 0, .int .i64 s, .pointer none] 69)) := ⟨_, rfl⟩
  have X0 : Hid (Blk w0 w.heap.size (part z0 z1 z2 s 0) 69) := by show Blk _ _ _ _; rw [hw0.out]; exact Blk.new w _ _
  have B0 : Hid (Below w.heap.size w w0) := by show Below _ _ _; rw [hw0.out]; exact alloc_below _ _
  clear hc b0 b1 b2 hcl
  go_enter Tryd.func40, Tryd.ntmps40
  go_wp2
  rw [← hw0.out]
  go_loopw [14] (fun i wr => ∃ k : Nat, k ≤ 3 ∧ i = .int .i64 k ∧ Hid (Blk wr w.heap.size (part z0 z1 z2 s k) 69) ∧ Hid (Below w.heap.size w wr)) (fun i _ => 3 - (intOf i).toNat)
  case atStart => exact ⟨0, by omega, rfl, X0, B0⟩
  case round =>
    obtain ⟨k, hk, rfl, HX, HB⟩ := hrel
    have c0 : wr.cell? ⟨b, off, none⟩ = some (.int .i64 z0) := by rw [HB.out.cell (p := ⟨b, off, none⟩) hbw]; exact HB0.out
    have c1 : wr.cell? ⟨b, off + 1, none⟩ = some (.int .i64 z1) := by rw [HB.out.cell (p := ⟨b, off + 1, none⟩) hbw]; exact HB1.out
    have c2 : wr.cell? ⟨b, off + 2, none⟩ = some (.int .i64 z2) := by rw [HB.out.cell (p := ⟨b, off + 2, none⟩) hbw]; exact HB2.out
    obtain ⟨x0, x1, x2, x3, x4⟩ := HX.out.cells5
    obtain ⟨f0, f1, f2, f3, f4⟩ := HX.out.free5
    rcases (show k = 0 ∨ k = 1 ∨ k = 2 ∨ k = 3 by omega) with rfl | rfl | rfl | rfl
    · go_wp2
      go_roundw
      case rel => exact ⟨1, by omega, rfl, HX.out.set_ 0 _, HB.out.setCell (Nat.le_refl _) _⟩
      case measure => simp [intOf]
    · go_wp2
      go_roundw
      case rel => exact ⟨2, by omega, rfl, HX.out.set_ 1 _, HB.out.setCell (Nat.le_refl _) _⟩
      case measure => simp [intOf]
    · go_wp2
      go_roundw
      case rel => exact ⟨3, by omega, rfl, HX.out.set_ 2 _, HB.out.setCell (Nat.le_refl _) _⟩
      case measure => simp [intOf]
    · clear c0 c1 c2 x0 x1 x2 x3 x4 f0 f1 f2 f3 f4
      have HCr := hide_it (HC.out.after HB.out)
      obtain ⟨d0, d1, d2⟩ := HCr.out.head.cells3
      obtain ⟨e0, e1, e2, -, -⟩ := HCr.out.head.free5
      by_cases hz : ns = []
      · subst hz
        have q0 : wr.cell? ⟨c, 0, none⟩ = some (.pointer none) := d0
        have q1 : wr.cell? ⟨c, 1, none⟩ = some (.pointer none) := d1
        have q2 : wr.cell? ⟨c, 2, none⟩ = some (.int .i64 0) := d2
        clear d0 d1 d2
        go_wp2
        refine bodyPost_end (v := .tuple #[]) (by simp [results, Tryd.results40, go_sem]) rfl ?_
        have := HC.out.add0 (x := (w.heap.size, (z0, z1, z2), s)) rfl HB.out HX.out rfl
        exact ⟨rfl, this.1, this.2⟩
      · have hpos : 0 < ns.length := List.length_pos_iff.2 hz
        obtain ⟨m, hm⟩ : ∃ m, Hid (ns[ns.length - 1]? = some m) := ⟨ns[ns.length - 1], by show _ = _; rw [List.getElem?_eq_getElem (by omega)]⟩
        rw [at_some hm.out] at d1
        have HMn := hide_it (HCr.out.nodes.node _ m hm.out)
        obtain ⟨-, -, -, -, m4⟩ := HMn.out.cells5
        have fm4 := HMn.out.free 4
        have hmc : m.1 ≠ c := HMn.out.ne HCr.out.head (by decide)
        have hcm : c ≠ m.1 := fun e => hmc e.symm
        obtain ⟨a4, ha4⟩ := at_shape ns (ns.length - 1 + 1)
        rw [ha4] at m4
        clear ha4 hz
        go_wp2
        refine bodyPost_end (v := .tuple #[]) (by simp [results, Tryd.results40, go_sem]) rfl ?_
        have := HC.out.add1 (x := (w.heap.size, (z0, z1, z2), s)) hm.out rfl HB.out HX.out rfl
        exact ⟨rfl, this.1, this.2⟩

end Go.Proofs.YtickjfpbaknlmaaDoor.T
