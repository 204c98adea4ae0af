/- The reader of a draw, the number that it picks, and how it is opened; the frame 'nothing but blocks from lo on and below hi has turned'. For codes of at most 1048576 bytes, readers that picked at most 1000000 times. -/
import Derived.Test.YtleinjblokepmaaDoorSmall
import Derived.WalkSmall
import Derived.Laws.AppendOwnNone
namespace Go.Proofs.YtleinjblokepmaaDoor
open Go.RowKit

theorem alloc_below (w : World) (o : Obj) : Below w.heap.size w (w.alloc o) := (Below.refl _ _).alloc (Nat.le_refl _) o

/-- Nothing but blocks from lo on and below hi has turned; blocks may have come. -/
structure Mid (lo hi : Nat) (w w' : World) : Prop where
  os : w'.os = w.os
  tape : w'.tape = w.tape
  output : w'.output = w.output
  size : w.heap.size ≤ w'.heap.size
  block : ∀ k, k < w.heap.size → (k < lo ∨ hi ≤ k) → w'.heap[k]? = w.heap[k]?

theorem Mid.refl (lo hi : Nat) (w : World) : Mid lo hi w w := ⟨rfl, rfl, rfl, Nat.le_refl _, fun _ _ _ => rfl⟩

theorem Mid.trans {lo hi : Nat} {a b c : World} (h : Mid lo hi a b) (k : Mid lo hi b c) : Mid lo hi a c :=
  ⟨k.os.trans h.os, k.tape.trans h.tape, k.output.trans h.output, Nat.le_trans h.size k.size, fun i hi' hh => (k.block i (Nat.lt_of_lt_of_le hi' h.size) hh).trans (h.block i hi' hh)⟩

theorem Mid.of_grown {lo hi : Nat} {w w' : World} {row : Option Nat} (hg : w.grownBy w' row) (hr : ∀ k, row = some k → lo ≤ k ∧ k < hi) : Mid lo hi w w' :=
  ⟨hg.os, hg.tape, hg.output, hg.size, fun k hk hh => hg.block k hk (fun e => by have := hr k e.symm; omega)⟩

theorem Mid.of_below {lo hi B : Nat} {w w' : World} (hb : Below B w w') (hB : w.heap.size ≤ B) : Mid lo hi w w' :=
  ⟨hb.os, hb.tape, hb.output, hb.size, fun k hk _ => hb.block k (by omega)⟩

theorem Mid.below {lo hi B : Nat} {w w' : World} (h : Mid lo hi w w') (hB : B ≤ lo) (hs : B ≤ w.heap.size) : Below B w w' :=
  ⟨h.os, h.tape, h.output, h.size, fun k hk => h.block k (by omega) (Or.inl (by omega))⟩

/-- The value is a slice of n bytes, whatever they are, that lies below a block. -/
def Bytes (w : World) (b : Nat) (v : Value) (n : Nat) : Prop :=
  ∃ ao cap, v = .slice ao n cap ∧ (n ≠ 0 → ∃ g off, ao = some ⟨g, off, none⟩ ∧ g < b ∧ ∀ k, k < n → ∃ z : Int, w.cell? ⟨g, off + k, none⟩ = some (.int .u8 z) ∧ 0 ≤ z ∧ z ≤ 255)

/-- A reader lies in block b: its bytes, and how often it picked. -/
def Rd (w : World) (b p : Nat) : Prop :=
  ∃ v n, n ≤ 2000 ∧ w.heap[b]? = some (.cells #[v, .int .i64 p] 49 (0, 0)) ∧ Bytes w b v n

theorem Bytes.mid {w w' : World} {b : Nat} {v : Value} {n : Nat} (h : Bytes w b v n) (hb : ∀ k, k < b → w'.heap[k]? = w.heap[k]?) : Bytes w' b v n := by
  obtain ⟨ao, cap, hv, hc⟩ := h
  refine ⟨ao, cap, hv, fun hn => ?_⟩
  obtain ⟨g, off, ha, hg, hk⟩ := hc hn
  refine ⟨g, off, ha, hg, fun k hkn => ?_⟩
  obtain ⟨z, h1, h2⟩ := hk k hkn
  exact ⟨z, by rw [← h1]; simp [World.cell?, hb g hg], h2⟩

theorem Rd.lt {w : World} {b p : Nat} (h : Rd w b p) : b < w.heap.size := by
  obtain ⟨v, n, _, h, _⟩ := h
  by_cases e : b < w.heap.size
  · exact e
  · rw [Array.getElem?_eq_none (by omega)] at h; cases h

theorem Rd.later {B : Nat} {w w' : World} {b p : Nat} (h : Rd w b p) (hb : Below B w w') (hB : w.heap.size ≤ B) : Rd w' b p := by
  have hlt := h.lt
  obtain ⟨v, n, hn, h1, h2⟩ := h
  exact ⟨v, n, hn, by rw [hb.block b (by omega)]; exact h1, h2.mid (fun k hk => hb.block k (by omega))⟩

theorem Mid.set {w : World} {b i : Nat} (x : Value) : Mid b (b + 1) w (w.setCell ⟨b, i, none⟩ x) := by
  refine ⟨rfl, rfl, rfl, by simp, fun k _ hk => ?_⟩
  exact Below.heap_setCell _ _ _ _ (by simp; omega)

theorem rd_set {w : World} {b : Nat} {v : Value} {n p q : Nat} (hn : n ≤ 2000) (h : w.heap[b]? = some (.cells #[v, .int .i64 p] 49 (0, 0))) (hB : Bytes w b v n) : Rd (w.setCell ⟨b, 1, none⟩ (.int .i64 q)) b q := by
  refine ⟨v, n, hn, ?_, hB.mid (fun k hk => Below.heap_setCell _ _ _ _ (by simp; omega))⟩
  rw [heap_setCell_same w b 1 _ _ _ h]
  simp

theorem xor_nonneg (x y : Int) (hx0 : 0 ≤ x) (hx : x ≤ 1000000000000) (hy0 : 0 ≤ y) (hy : y ≤ 1000000000000) : 0 ≤ bits .xor .i64 x y := by
  obtain ⟨a, rfl⟩ := Int.eq_ofNat_of_zero_le hx0
  obtain ⟨c, rfl⟩ := Int.eq_ofNat_of_zero_le hy0
  have hlt : a ^^^ c < 2 ^ 62 := Nat.xor_lt_two_pow (by omega) (by omega)
  have h1 : (BitVec.ofInt 64 (a : Int)).toNat = a := by
    rw [BitVec.ofInt_natCast, BitVec.toNat_ofNat]; exact Nat.mod_eq_of_lt (by omega)
  have h2 : (BitVec.ofInt 64 (c : Int)).toNat = c := by
    rw [BitVec.ofInt_natCast, BitVec.toNat_ofNat]; exact Nat.mod_eq_of_lt (by omega)
  show 0 ≤ IntKind.i64.wrap ((BitVec.ofInt 64 (a : Int) ^^^ BitVec.ofInt 64 (c : Int)).toNat : Int)
  rw [BitVec.toNat_xor, h1, h2]
  simp [IntKind.wrap, IntKind.bits, IntKind.signed]
  omega

theorem Mid.drewN {lo hi : Nat} {w w' : World} (h : Mid lo hi w w') (n : Nat) : Mid lo hi w (w'.drewN n) := h.trans ⟨rfl, rfl, rfl, Nat.le_refl _, fun _ _ _ => rfl⟩

theorem Rd.drewN {w : World} {b p : Nat} (h : Rd w b p) (n : Nat) : Rd (w.drewN n) b p := h.later (below_drewN (Below.refl _ _) n) (Nat.le_refl _)

set_option maxRecDepth 100000 in
set_option maxHeartbeats 4000000 in
theorem pick_any (b p : Nat) (n : Int) (w : World) (h : Rd w b p) (hp : p ≤ 1000000) (hn : 1 ≤ n) (hn2 : n ≤ 1000000) :
    Calls Tryd.prog 23 #[.pointer (some ⟨b, 0, none⟩), .int .i64 n] w fun e w' => ∃ x : Int, e = .returned (.int .i64 x) ∧ 0 ≤ x ∧ x < n ∧ Rd w' b (p + 1) ∧ Mid b (b + 1) w w' := by
  have hblt := h.lt
  obtain ⟨v, m, hm, hh, hB⟩ := h
  have c0 : w.cell? ⟨b, 0, none⟩ = some v := by rw [cell_of_row w _ _ _ _ _ hh]; rfl
  have c1 : w.cell? ⟨b, 1, none⟩ = some (.int .i64 p) := by rw [cell_of_row w _ _ _ _ _ hh]; rfl
  have f1 : w.frozen? ⟨b, 1, none⟩ = false := frozen_of_row w _ _ _ _ hh
  have HR : Hid (Rd (w.setCell ⟨b, 1, none⟩ (.int .i64 ((p + 1 : Nat) : Int))) b (p + 1)) := rd_set hm hh hB
  obtain ⟨ao, cap, rfl, hc⟩ := hB
  clear hh
  by_cases h0 : m = 0
  · subst h0
    clear hc
    go_enter Tryd.func23, Tryd.ntmps23
    go_wp2
    go_ret
    exact ⟨0, rfl, by omega, by omega, HR.out, Mid.set _⟩
  obtain ⟨g, off, rfl, hg, hz⟩ := hc h0
  by_cases hlt : p < m
  · obtain ⟨z, hz1, hz2, hz3⟩ := hz p hlt
    clear hc hz
    have hgb : g ≠ b := by omega
    go_enter Tryd.func23, Tryd.ntmps23
    go_wp2
    · go_ret
      exact ⟨0, rfl, by omega, by omega, HR.out, Mid.set _⟩
    · go_ret
      exact ⟨z % n, rfl, Int.emod_nonneg _ (by omega), Int.emod_lt_of_pos _ (by omega), HR.out, Mid.set _⟩
  · have hm0 : 0 < m := by omega
    have hgb : g ≠ b := by omega
    obtain ⟨z, hz1, hz2, hz3⟩ := hz (p % m) (Nat.mod_lt _ hm0)
    obtain ⟨y, hy1, hy2, hy3⟩ := hz ((p * 7 + 3) % m) (Nat.mod_lt _ hm0)
    obtain ⟨a, HA⟩ : ∃ a : Nat, Hid (a = p % m) := ⟨_, rfl⟩
    obtain ⟨c, HC⟩ : ∃ c : Nat, Hid (c = (p * 7 + 3) % m) := ⟨_, rfl⟩
    have ha : a < m := by rw [HA.out]; exact Nat.mod_lt _ hm0
    have hcm : c < m := by rw [HC.out]; exact Nat.mod_lt _ hm0
    rw [← HA.out] at hz1
    rw [← HC.out] at hy1
    have hi1 : ((p : Int) % (m : Int)) = (a : Int) := by rw [HA.out]; simp
    have hi2 : (((p : Int) * 7 + 3) % (m : Int)) = (c : Int) := by rw [HC.out]; simp
    obtain ⟨d, HD⟩ : ∃ d : Int, Hid (d = (p : Int) / (m : Int)) := ⟨_, rfl⟩
    have hd0 : 0 ≤ d := by rw [HD.out]; exact Int.ediv_nonneg (by omega) (by omega)
    have hd1 : d ≤ 1000000 := by rw [HD.out]; exact Int.le_trans (Int.ediv_le_self _ (by omega)) (by omega)
    have hi3 : (p : Int) / (m : Int) = d := HD.out.symm
    clear hc hz
    go_enter Tryd.func23, Tryd.ntmps23
    go_wp2
    · go_ret
      exact ⟨0, rfl, by omega, by omega, HR.out, Mid.set _⟩
    · go_quiet (fail)
      go_wp2
      go_ret
      refine ⟨_, rfl, ?_, ?_, HR.out.drewN _, (Mid.set _).drewN _⟩
      · exact Int.tmod_nonneg _ (xor_nonneg _ _ (by omega) (by omega) (by omega) (by omega))
      · exact Int.tmod_lt_of_pos _ (by omega)

/-- The value is a slice of n bytes, whatever they are. -/
def CodeAt (w : World) (v : Value) (n : Nat) : Prop :=
  ∃ ao cap, v = .slice ao n cap ∧ n ≤ cap ∧ (n ≠ 0 → ∃ g off, ao = some ⟨g, off, none⟩ ∧ ∀ k, k < n → ∃ z : Int, w.cell? ⟨g, off + k, none⟩ = some (.int .u8 z) ∧ 0 ≤ z ∧ z ≤ 255)

theorem CodeAt.later {B : Nat} {w w' : World} {v : Value} {n : Nat} (h : CodeAt w v n) (hb : Below B w w') (hB : w.heap.size ≤ B) : CodeAt w' v n := by
  obtain ⟨ao, cap, hv, hc, hk⟩ := h
  refine ⟨ao, cap, hv, hc, fun hn => ?_⟩
  obtain ⟨g, off, ha, hh⟩ := hk hn
  refine ⟨g, off, ha, fun k hkn => ?_⟩
  obtain ⟨z, h1, h2⟩ := hh k hkn
  have hl := World.block_lt_of_cell? _ _ h1
  simp at hl
  exact ⟨z, by rw [← h1]; exact hb.cell (p := ⟨g, off + k, none⟩) (by simp; omega), h2⟩

theorem code_bytes {w : World} {v : Value} {n : Nat} (h : CodeAt w v n) (m : Nat) (hm : m ≤ n) (ao : Option Addr) (cap : Nat) (hv : v = .slice ao n cap) (o : Obj) : Bytes (w.alloc o) w.heap.size (.slice ao m cap) m := by
  obtain ⟨ao', cap', hv', hc, hk⟩ := h
  rw [hv] at hv'
  simp only [Value.slice.injEq, true_and] at hv'
  obtain ⟨rfl, rfl⟩ := hv'
  refine ⟨ao, cap, rfl, fun hn => ?_⟩
  obtain ⟨g, off, ha, hh⟩ := hk (by omega)
  have hg : g < w.heap.size := by
    obtain ⟨z, h1, _⟩ := hh 0 (by omega)
    simpa using World.block_lt_of_cell? _ _ h1
  refine ⟨g, off, ha, hg, fun k hkm => ?_⟩
  obtain ⟨z, h1, h2⟩ := hh k (by omega)
  exact ⟨z, by rw [← h1]; exact (alloc_below w o).cell (p := ⟨g, off + k, none⟩) hg, h2⟩

set_option maxHeartbeats 1000000 in
theorem open_any (v : Value) (n : Nat) (w : World) (hv : CodeAt w v n) (hn : n ≤ 1048576) :
    Calls Tryd.prog 16 #[v] w fun e w' => e = .returned (.pointer (some ⟨w.heap.size, 0, none⟩)) ∧ Rd w' w.heap.size 0 ∧ w'.heap.size = w.heap.size + 1 ∧ Below w.heap.size w w' := by
  obtain ⟨ao, cap, rfl, hc, hk⟩ := id hv
  by_cases h2 : 2000 < (n : Int)
  · have RD : Hid (Rd (w.alloc (.cells #[.slice ao 2000 cap, .int .i64 0] 49)) w.heap.size 0) := ⟨_, 2000, by omega, heap_alloc_new w _, code_bytes hv 2000 (by omega) ao cap rfl _⟩
    obtain ⟨g, off, hao, _⟩ := hk (by omega)
    subst hao
    have hc2 : (2000 : Int) ≤ (cap : Int) := by omega
    clear hv hk
    go_enter Tryd.func16, Tryd.ntmps16
    go_wp2
    go_ret
    exact ⟨rfl, RD.out, by simp, alloc_below _ _⟩
  · have RD : Hid (Rd (w.alloc (.cells #[.slice ao n cap, .int .i64 0] 49)) w.heap.size 0) := ⟨_, n, by omega, heap_alloc_new w _, code_bytes hv n (Nat.le_refl _) ao cap rfl _⟩
    clear hv hk
    go_enter Tryd.func16, Tryd.ntmps16
    go_wp2
    go_ret
    exact ⟨rfl, RD.out, by simp, alloc_below _ _⟩

theorem Mid.setNew {w W : World} {b g i : Nat} (h : Mid b (b + 1) w W) (hg : w.heap.size ≤ g) (x : Value) : Mid b (b + 1) w (W.setCell ⟨g, i, none⟩ x) :=
  ⟨h.os, h.tape, h.output, by simpa using h.size, fun k hk hh => by rw [Below.heap_setCell _ _ _ _ (by simp; omega)]; exact h.block k hk hh⟩

theorem Mid.alloc {w W : World} {b : Nat} (h : Mid b (b + 1) w W) (o : Obj) : Mid b (b + 1) w (W.alloc o) :=
  h.trans (Mid.of_below (alloc_below W o) (Nat.le_refl _))

theorem Rd.setApart {W : World} {b p g i : Nat} (h : Rd W b p) (hg : b < g) (x : Value) : Rd (W.setCell ⟨g, i, none⟩ x) b p := by
  obtain ⟨v, n, hn, h1, h2⟩ := h
  exact ⟨v, n, hn, by rw [Below.heap_setCell _ _ _ _ (by simp; omega)]; exact h1, h2.mid (fun k hk => Below.heap_setCell _ _ _ _ (by simp; omega))⟩

theorem Rd.alloc {W : World} {b p : Nat} (h : Rd W b p) (o : Obj) : Rd (W.alloc o) b p := h.later (alloc_below W o) (Nat.le_refl _)

end Go.Proofs.YtleinjblokepmaaDoor
