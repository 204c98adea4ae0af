/- What the last text of this claim stands on, part 1: plain facts and contracts; the last text says what is proved. -/
import Derived.WalkKit
import Derived.Test.YtaogachhmdmoaaaDoorChecked
import Derived.WalkLawsBesides
import Derived.BigQuiet
import Derived.Deep.QuietTactic
import Derived.Outline
import Derived.WalkSmall
import Derived.Deep.RegionWith
import Derived.Deep.RegionHeldLaw
import Derived.Laws.AppendOwnNone
import Derived.LaidEql
import Derived.RowKitTokens
import Derived.Deep.DeepCutAuto
import Derived.Deep.RegionLawGrows
import Derived.Deep.CutBlock
import Derived.Deep.RegionLaw
import Derived.Deep.AppendLies

namespace Go.Proofs.YtaogachhmdmoaaaDoor
namespace Pl

def inB (n lo hi : Int) : Bool := decide (lo ≤ n) && decide (n ≤ hi)
def manyOk (zs : List Int) : Bool := zs.all (fun z => inB z 0 3) && (zs.length == 3) && decide (0 < zs.sum)
def holdOk (zs : List Int) : Bool := (zs.length == 1) && inB (zs.headD 0) 1 3
def recOk (k t : Int) (zs : List Int) : Bool :=
  inB t 1 6 && (if k = 1 then holdOk zs else if k = 4 then manyOk zs else inB k 2 7 && (zs.length == 0))

theorem inB_true {n lo hi : Int} (h : inB n lo hi = true) : lo ≤ n ∧ n ≤ hi := by
  simpa [inB] using h
theorem inB_false {n lo hi : Int} (h : inB n lo hi = false) : n < lo ∨ hi < n := by
  simp [inB] at h; omega
theorem inB_mk {n lo hi : Int} (h1 : lo ≤ n) (h2 : n ≤ hi) : inB n lo hi = true := by
  simp [inB, h1, h2]
theorem inB_lo {n lo hi : Int} (h1 : n < lo) : inB n lo hi = false := by
  simp [inB]; omega
theorem inB_hi {n lo hi : Int} (h1 : hi < n) : inB n lo hi = false := by
  simp [inB]; omega

theorem take_snoc (zs : List Int) (k : Nat) (h : k < zs.length) : zs.take (k + 1) = zs.take k ++ [zs.getD k 0] := by
  rw [List.take_succ_eq_append_getElem h]; simp [List.getD_eq_getElem?_getD, h]
theorem sum_snoc (zs : List Int) (k : Nat) (h : k < zs.length) : (zs.take (k + 1)).sum = (zs.take k).sum + zs.getD k 0 := by
  rw [take_snoc zs k h]; simp
theorem all_snoc (p : Int → Bool) (zs : List Int) (k : Nat) (h : k < zs.length) : (zs.take (k + 1)).all p = ((zs.take k).all p && p (zs.getD k 0)) := by
  rw [take_snoc zs k h]; simp
theorem sum_bd (zs : List Int) (h : zs.all (fun z => inB z 0 3) = true) : 0 ≤ zs.sum ∧ zs.sum ≤ 3 * zs.length := by
  induction zs with
  | nil => simp
  | cons z zs ih =>
    simp only [List.all_cons, Bool.and_eq_true] at h
    have := inB_true h.1
    have := ih h.2
    simp; omega
theorem all_bad (p : Int → Bool) (zs : List Int) (k : Nat) (h : k < zs.length) (hp : p (zs.getD k 0) = false) : zs.all p = false := by
  rw [List.all_eq_false]
  refine ⟨zs.getD k 0, ?_, by rw [hp]; decide⟩
  simp [List.getD_eq_getElem?_getD, h]
theorem manyOk_bad (zs : List Int) (k : Nat) (h : k < zs.length) (hp : inB (zs.getD k 0) 0 3 = false) : manyOk zs = false := by
  have := all_bad (fun z => inB z 0 3) zs k h hp
  simp [manyOk, this]
theorem manyOk_end (zs : List Int) (h : zs.all (fun z => inB z 0 3) = true) : manyOk zs = ((zs.length == 3) && decide (0 < zs.sum)) := by
  simp [manyOk, h]
theorem manyOk_len (zs : List Int) (h : zs.length ≠ 3) : manyOk zs = false := by
  simp [manyOk, h]

theorem recOk_t (k t : Int) (zs : List Int) (h : inB t 1 6 = false) : recOk k t zs = false := by simp [recOk, h]
theorem recOk_1 (t : Int) (zs : List Int) (h : inB t 1 6 = true) : recOk 1 t zs = holdOk zs := by simp [recOk, h]
theorem recOk_4 (t : Int) (zs : List Int) (h : inB t 1 6 = true) : recOk 4 t zs = manyOk zs := by simp [recOk, h]
theorem recOk_p (k t : Int) (zs : List Int) (h : inB t 1 6 = true) (h1 : k ≠ 1) (h4 : k ≠ 4) : recOk k t zs = (inB k 2 7 && (zs.length == 0)) := by simp [recOk, h, h1, h4]
theorem recOk_plain (k t : Int) (zs : List Int) (h : inB t 1 6 = true) (h1 : k ≠ 1) (h4 : k ≠ 4) (hk : inB k 2 7 = true) : recOk k t zs = (zs.length == 0) := by rw [recOk_p k t zs h h1 h4, hk]; rfl
theorem recOk_none (k t : Int) (zs : List Int) (h : inB t 1 6 = true) (h1 : k ≠ 1) (h4 : k ≠ 4) (hk : inB k 2 7 = false) : recOk k t zs = false := by rw [recOk_p k t zs h h1 h4, hk]; rfl

def anyPos (zs : List Int) : Bool := zs.any (fun z => decide (0 < z))
theorem anyPos_snoc (zs : List Int) (k : Nat) (h : k < zs.length) : anyPos (zs.take (k + 1)) = (anyPos (zs.take k) || decide (0 < zs.getD k 0)) := by
  rw [take_snoc zs k h]; simp [anyPos]
theorem anyPos_sum (zs : List Int) (h : zs.all (fun z => inB z 0 3) = true) : decide (0 < zs.sum) = anyPos zs := by
  induction zs with
  | nil => rfl
  | cons z zs ih =>
    simp only [List.all_cons, Bool.and_eq_true] at h
    have h1 := inB_true h.1
    have h2 := sum_bd zs h.2
    have h3 := ih h.2
    have h4 : anyPos (z :: zs) = (decide (0 < z) || anyPos zs) := by simp [anyPos]
    have hs : (z :: zs).sum = z + zs.sum := by simp
    rw [h4, ← h3, hs]
    by_cases hz : 0 < z
    · have : 0 < z + zs.sum := by omega
      simp [hz, this]
    · have : z = 0 := by omega
      simp [this]
theorem manyOk_any (zs : List Int) (h : zs.all (fun z => inB z 0 3) = true) (h3 : zs.length = 3) : manyOk zs = anyPos zs := by
  rw [manyOk_end zs h, h3, anyPos_sum zs h]; rfl

end Pl
end Go.Proofs.YtaogachhmdmoaaaDoor

namespace Go.Proofs.YtaogachhmdmoaaaDoor
open Go.RowKit

/-- The value v is a slice of just these numbers in the world w. -/
def Ints (w : World) (v : Value) (zs : List Int) : Prop :=
  (zs = [] ∧ ∃ ao cap, v = .slice ao 0 cap ∧ (ao = none → cap = 0)) ∨
  (∃ b off cap, v = .slice (some ⟨b, off, none⟩) zs.length cap ∧ zs ≠ [] ∧ ∀ k, k < zs.length → w.cell? ⟨b, off + k, none⟩ = some (.int .i64 (zs.getD k 0)))

theorem Ints.later {B : Nat} {w w' : World} {v : Value} {zs : List Int} (h : Ints w v zs) (hb : Below B w w') (hB : w.heap.size ≤ B) : Ints w' v zs := by
  rcases h with h | ⟨b, off, cap, hv, hz, hc⟩
  · exact Or.inl h
  · refine Or.inr ⟨b, off, cap, hv, hz, fun k hk => ?_⟩
    have h1 := hc k hk
    have h2 := World.block_lt_of_cell? _ _ h1
    rw [← h1]
    exact hb.cell (p := ⟨b, off + k, none⟩) (by simp at h2 ⊢; omega)

theorem Ints.shape {w : World} {v : Value} {zs : List Int} (h : Ints w v zs) : ∃ ao cap, v = .slice ao zs.length cap := by
  rcases h with ⟨rfl, ao, cap, rfl, _⟩ | ⟨b, off, cap, rfl, _, _⟩
  · exact ⟨ao, cap, rfl⟩
  · exact ⟨_, cap, rfl⟩

theorem in_any (n lo hi : Int) (w : World) :
    Calls Tryd.prog 24 #[.int .i64 n, .int .i64 lo, .int .i64 hi] w fun e w' => e = .returned (.bool (Pl.inB n lo hi)) ∧ w' = w := by
  by_cases h1 : lo ≤ n
  · by_cases h2 : n ≤ hi
    all_goals
      go_enter Tryd.func24, Tryd.ntmps24
      go_wp2
      go_ret
      exact ⟨by simp [Pl.inB]; omega, rfl⟩
  · go_enter Tryd.func24, Tryd.ntmps24
    go_wp2
    go_ret
    exact ⟨by simp [Pl.inB]; omega, rfl⟩

set_option maxHeartbeats 400000 in
theorem many_any (v : Value) (zs : List Int) (w : World) (hv : Ints w v zs) (hl : zs.length ≤ 1048576) :
    Calls Tryd.prog 25 #[v] w fun e w' => e = .returned (.bool (Pl.manyOk zs)) ∧ w' = w := by
  rcases hv with ⟨rfl, ao, cap, rfl, -⟩ | ⟨b, off, cap, rfl, hz, hc⟩
  · go_enter Tryd.func25, Tryd.ntmps25
    go_wp2
    refine wp_loop_rounds 1 ?_
    rw [rounds_succ]
    go_wp2
    go_ret
    exact ⟨rfl, rfl⟩
  · have hz0 : 0 < zs.length := List.length_pos_iff.2 hz
    have HC : Hid (∀ k, k < zs.length → w.cell? ⟨b, off + k, none⟩ = some (.int .i64 (zs.getD k 0))) := hc
    clear hz hc
    go_enter Tryd.func25, Tryd.ntmps25
    go_wp2
    go_loop [3, 4] (fun s i => ∃ k : Nat, k ≤ zs.length ∧ i = .int .i64 k ∧ s = .int .i64 (zs.take k).sum ∧ Hid ((zs.take k).all (fun z => Pl.inB z 0 3) = true)) (fun _ i => zs.length - (intOf i).toNat)
    case atStart => exact ⟨0, Nat.zero_le _, rfl, rfl, rfl⟩
    case round =>
      obtain ⟨k, hk, rfl, rfl, hall⟩ := hrel
      have hbd := Pl.sum_bd _ hall.out
      have hlt' : (zs.take k).length ≤ 1048576 := by simp; omega
      by_cases hlt : k < zs.length
      · obtain ⟨z, HZ⟩ : ∃ z, Hid (z = zs.getD k 0) := ⟨_, rfl⟩
        have hck : w.cell? ⟨b, off + k, none⟩ = some (.int .i64 z) := by rw [HZ.out]; exact HC.out k hlt
        cases hin : Pl.inB z 0 3
        · have HB : Hid (Pl.manyOk zs = false) := Pl.manyOk_bad zs k hlt (by rw [← HZ.out]; exact hin)
          go_wp2_with (go_at_call 24; refine (in_any _ _ _ _).mono ?_; rintro e w' ⟨rfl, rfl⟩)
          go_ret
          exact ⟨by rw [HB.out]; rfl, rfl⟩
        · have hz := Pl.inB_true hin
          go_wp2_with (go_at_call 24; refine (in_any _ _ _ _).mono ?_; rintro e w' ⟨rfl, rfl⟩)
          go_round
          case rel => exact ⟨k + 1, by omega, by go_num, by rw [Pl.sum_snoc zs k hlt, ← HZ.out], by show _ = _; rw [Pl.all_snoc _ zs k hlt, hall.out, ← HZ.out, hin]; rfl⟩
          case measure => simp [intOf]; omega
      · have HE : Hid (Pl.manyOk zs = ((zs.length == 3) && decide (0 < (zs.take k).sum))) := by
          have hke : k = zs.length := by omega
          have := hall.out
          rw [hke, List.take_length] at this ⊢
          exact Pl.manyOk_end zs this
        by_cases h3 : (zs.length : Int) = 3
        · go_wp2
          go_ret
          exact ⟨by rw [HE.out]; simp; omega, rfl⟩
        · go_wp2
          go_ret
          exact ⟨by rw [HE.out]; simp; omega, rfl⟩

end Go.Proofs.YtaogachhmdmoaaaDoor

namespace Go.Proofs.YtaogachhmdmoaaaDoor
open Go.RowKit

theorem info3 : (Tryd.prog.info? 3).map (fun i => (i.zero, i.size, i.bytes)) = some (some (.int .i64 0), 1, 8) := by kernel_rfl

/-- What a copy holds when k numbers have been copied. -/
def part (zs : List Int) (k : Nat) : List Value := (zs.take k).map (Value.int .i64) ++ List.replicate (zs.length - k) (Value.int .i64 0)
theorem part_zero (zs : List Int) : part zs 0 = List.replicate zs.length (Value.int .i64 0) := by simp [part]
theorem part_all (zs : List Int) : part zs zs.length = zs.map (Value.int .i64) := by simp [part]
theorem part_set (zs : List Int) (k : Nat) (h : k < zs.length) : (part zs k).set k (Value.int .i64 (zs.getD k 0)) = part zs (k + 1) := by
  unfold part
  rw [Pl.take_snoc zs k h, List.set_append_right _ _ (by simp; omega)]
  simp only [List.length_map, List.length_take, List.map_append, List.map_cons, List.map_nil, List.append_assoc]
  rw [show k - min k zs.length = 0 by omega, show zs.length - k = (zs.length - (k + 1)) + 1 by omega, List.replicate_succ]
  rfl

theorem made_one (z : Value) (hz : z.cells = #[z]) (n : Nat) : (madeCells z.cells (n * 1)).toList = List.replicate n z := by
  rw [hz, Nat.mul_one]; exact toList_madeCells_one z n

/-- A row of numbers that the call owns is a list of them. -/
theorem ints_of_row {w : World} {base g cap : Nat} {zs : List Int} (h : w.ownsRow base 3 1 (.slice (some ⟨g, 0, none⟩) zs.length cap) zs.length (zs.map (Value.int .i64))) :
    Ints w (.slice (some ⟨g, 0, none⟩) zs.length cap) zs := by
  by_cases hz : zs = []
  · subst hz; exact Or.inl ⟨rfl, _, _, rfl, fun h => by cases h⟩
  · refine Or.inr ⟨g, 0, cap, rfl, hz, fun k hk => ?_⟩
    have := h.cellAt k (by omega)
    rw [Nat.zero_add, this]
    simp [List.getD_eq_getElem?_getD, hk]

end Go.Proofs.YtaogachhmdmoaaaDoor

namespace Go.Proofs.YtaogachhmdmoaaaDoor
open Go.RowKit

theorem bcell {W w1 : World} (hb : Below W.heap.size W w1) : (∀ b o, b < W.heap.size → w1.cell? ⟨b, o, none⟩ = W.cell? ⟨b, o, none⟩) ∧ (∀ b o, b < W.heap.size → w1.frozen? ⟨b, o, none⟩ = W.frozen? ⟨b, o, none⟩) :=
  ⟨fun b o h => hb.cell (p := ⟨b, o, none⟩) h, fun b o h => hb.frozen (p := ⟨b, o, none⟩) h⟩

theorem size3 (w : World) (o1 o2 o3 : Obj) : (((w.alloc o1).alloc o2).alloc o3).heap.size = w.heap.size + 3 := by simp
theorem below3 (w : World) (o1 o2 o3 : Obj) : Below w.heap.size w (((w.alloc o1).alloc o2).alloc o3) :=
  (((Below.refl _ _).alloc (Nat.le_refl _) _).alloc (by simp) _).alloc (by simp; omega) _
theorem below2 (w : World) (o1 o2 : Obj) : Below w.heap.size w ((w.alloc o1).alloc o2) :=
  ((Below.refl _ _).alloc (Nat.le_refl _) _).alloc (by simp) _
theorem size2 (w : World) (o1 o2 : Obj) : ((w.alloc o1).alloc o2).heap.size = w.heap.size + 2 := by simp

/-- A record lies at the head of this block. -/
def RecAt (w : World) (b : Nat) (k t : Int) (v : Value) : Prop :=
  w.cell? ⟨b, 0, none⟩ = some (.int .i64 k) ∧ w.cell? ⟨b, 1, none⟩ = some (.int .i64 t) ∧ w.cell? ⟨b, 2, none⟩ = some v
theorem RecAt.later {B : Nat} {w w' : World} {b : Nat} {k t : Int} {v : Value} (h : RecAt w b k t v) (hb : Below B w w') (hB : w.heap.size ≤ B) : RecAt w' b k t v := by
  obtain ⟨h0, h1, h2⟩ := h
  have hlt := World.block_lt_of_cell? _ _ h0
  simp at hlt
  exact ⟨by rw [← h0]; exact hb.cell (p := ⟨b, 0, none⟩) (by simp; omega), by rw [← h1]; exact hb.cell (p := ⟨b, 1, none⟩) (by simp; omega), by rw [← h2]; exact hb.cell (p := ⟨b, 2, none⟩) (by simp; omega)⟩
theorem RecAt.new (w : World) (k t : Int) (v : Value) (ty : TypeId) : RecAt (w.alloc (.cells #[.int .i64 k, .int .i64 t, v] ty)) w.heap.size k t v := by
  refine ⟨?_, ?_, ?_⟩ <;> simp

end Go.Proofs.YtaogachhmdmoaaaDoor

namespace Go.Proofs.YtaogachhmdmoaaaDoor
open Go.RowKit

theorem hide_it {p : Prop} (h : p) : Hid p := h

/-- A record as plain data: its kind, its trip, its numbers. -/
abbrev R := Int × Int × List Int

/-- A record lies at this place of a block. -/
def RecCells (w : World) (b o : Nat) (r : R) (u : Value) : Prop :=
  w.cell? ⟨b, o, none⟩ = some (.int .i64 r.1) ∧ w.cell? ⟨b, o + 1, none⟩ = some (.int .i64 r.2.1) ∧ w.cell? ⟨b, o + 2, none⟩ = some u ∧ Ints w u r.2.2

/-- The value v is a slice of just these records in the world w. -/
def Recs (w : World) (v : Value) (rs : List R) : Prop :=
  (rs = [] ∧ ∃ ao cap, v = .slice ao 0 cap) ∨
  (∃ b off cap, v = .slice (some ⟨b, off, none⟩) rs.length cap ∧ rs ≠ [] ∧ ∀ i r, rs[i]? = some r → ∃ u, RecCells w b (off + i * 3) r u)

/-- How many numbers the first k records have together; all of them, and the records. -/
def pre (rs : List R) (k : Nat) : Nat := ((rs.take k).map fun r => r.2.2.length).sum
def tot (rs : List R) : Nat := rs.length + pre rs rs.length
theorem pre_zero (rs : List R) : pre rs 0 = 0 := by simp [pre]
theorem pre_succ (rs : List R) (k : Nat) (r : R) (h : rs[k]? = some r) : pre rs (k + 1) = pre rs k + r.2.2.length := by
  have hk : k < rs.length := by
    by_cases hk : k < rs.length
    · exact hk
    · rw [List.getElem?_eq_none (by omega)] at h; cases h
  rw [List.getElem?_eq_getElem hk] at h
  simp only [Option.some.injEq] at h
  unfold pre
  rw [List.take_succ_eq_append_getElem hk, h]
  simp
theorem pre_le (rs : List R) (k : Nat) : pre rs k ≤ pre rs rs.length := by
  unfold pre
  rw [List.take_length]
  have h : (rs.map fun r : R => r.2.2.length).sum = ((rs.take k ++ rs.drop k).map fun r : R => r.2.2.length).sum := by rw [List.take_append_drop]
  rw [h, List.map_append, List.sum_append_nat]
  exact Nat.le_add_right _ _
theorem tot_len (rs : List R) : rs.length ≤ tot rs := by unfold tot; omega
theorem tot_mem (rs : List R) (r : R) (h : r ∈ rs) : r.2.2.length ≤ tot rs := by
  obtain ⟨i, hi, hr⟩ := List.mem_iff_getElem.1 h
  have h1 := pre_succ rs i r (by rw [List.getElem?_eq_getElem hi, hr])
  have h2 := pre_le rs (i + 1)
  unfold tot; omega

/-- What is left of a size behind so many; -1, if it is not enough. -/
def leftOf (left : Int) (n : Nat) : Int := if left - n < 0 then -1 else left - n
theorem leftOf_neg {left : Int} {n : Nat} (h : left - (n : Int) < 0) : leftOf left n = -1 := if_pos h
theorem leftOf_pos {left : Int} {n : Nat} (h : ¬ left - (n : Int) < 0) : leftOf left n = left - n := if_neg h

theorem RecCells.later {B : Nat} {w w' : World} {b o : Nat} {r : R} {u : Value} (h : RecCells w b o r u) (hb : Below B w w') (hB : w.heap.size ≤ B) : RecCells w' b o r u := by
  obtain ⟨h0, h1, h2, h3⟩ := h
  have hlt := World.block_lt_of_cell? _ _ h0
  simp at hlt
  exact ⟨by rw [← h0]; exact hb.cell (p := ⟨b, o, none⟩) (by simp; omega), by rw [← h1]; exact hb.cell (p := ⟨b, o + 1, none⟩) (by simp; omega), by rw [← h2]; exact hb.cell (p := ⟨b, o + 2, none⟩) (by simp; omega), h3.later hb hB⟩

theorem Recs.later {B : Nat} {w w' : World} {v : Value} {rs : List R} (h : Recs w v rs) (hb : Below B w w') (hB : w.heap.size ≤ B) : Recs w' v rs := by
  rcases h with h | ⟨b, off, cap, hv, hz, hc⟩
  · exact Or.inl h
  · refine Or.inr ⟨b, off, cap, hv, hz, fun i r hr => ?_⟩
    obtain ⟨u, hu⟩ := hc i r hr
    exact ⟨u, hu.later hb hB⟩

theorem Recs.shape {w : World} {v : Value} {rs : List R} (h : Recs w v rs) : ∃ ao cap, v = .slice ao rs.length cap := by
  rcases h with ⟨rfl, ao, cap, rfl⟩ | ⟨b, off, cap, rfl, _, _⟩
  · exact ⟨ao, cap, rfl⟩
  · exact ⟨_, cap, rfl⟩

end Go.Proofs.YtaogachhmdmoaaaDoor

namespace Go.Proofs.YtaogachhmdmoaaaDoor
open Go.RowKit

/-- Records, each with the slice that holds its numbers, as they lie in a row. -/
def flat : List (R × Value) → List Value
  | [] => []
  | p :: t => .int .i64 p.1.1 :: .int .i64 p.1.2.1 :: p.2 :: flat t

theorem flat_length (ps : List (R × Value)) : (flat ps).length = ps.length * 3 := by
  induction ps with
  | nil => rfl
  | cons p t ih => simp only [flat, List.length_cons, ih]; omega
theorem flat_append (ps qs : List (R × Value)) : flat (ps ++ qs) = flat ps ++ flat qs := by
  induction ps with
  | nil => rfl
  | cons p t ih => simp [flat, ih]
theorem flat_get (ps : List (R × Value)) (i : Nat) (p : R × Value) (h : ps[i]? = some p) :
    (flat ps)[i * 3]? = some (.int .i64 p.1.1) ∧ (flat ps)[i * 3 + 1]? = some (.int .i64 p.1.2.1) ∧ (flat ps)[i * 3 + 2]? = some p.2 := by
  induction ps generalizing i with
  | nil => simp at h
  | cons q t ih =>
    cases i with
    | zero => simp at h; subst h; simp [flat]
    | succ i =>
      have := ih i (by simpa using h)
      rw [show (i + 1) * 3 = i * 3 + 3 by omega]
      simpa [flat] using this
theorem flat_set (ps : List (R × Value)) (k : Nat) (r : R) (u : Value) (h : k < ps.length) :
    (((flat ps).set (k * 3) (.int .i64 r.1)).set (k * 3 + 1) (.int .i64 r.2.1)).set (k * 3 + 2) u = flat (ps.set k (r, u)) := by
  induction ps generalizing k with
  | nil => simp at h
  | cons q t ih =>
    cases k with
    | zero => simp [flat]
    | succ k =>
      have := ih k (by simpa using h)
      rw [show (k + 1) * 3 = k * 3 + 3 by omega]
      simp only [flat, List.set_cons_succ]
      rw [this]

/-- A row stays as it is where nothing below a number turns, and it lies below. -/
theorem ownsRow_below {w w' : World} {base B : Nat} {e : TypeId} {size : Nat} {v : Value} {n : Nat} {xs : List Value} (h : w.ownsRow base e size v n xs) (hb : Below B w w') (hB : ∀ k, v.ownBlock = some k → k < B) : w'.ownsRow base e size v n xs := by
  obtain ⟨h1, h2⟩ := h
  refine ⟨h1, ?_⟩
  rcases h2 with h2 | ⟨g, cap, cur, hv, hg, hh, r⟩
  · exact Or.inl h2
  · exact Or.inr ⟨g, cap, cur, hv, hg, by rw [hb.block g (hB g (by rw [hv]; rfl))]; exact hh, r⟩

/-- The numbers of these records lie in rows of the call's own, from lo on and below hi, each apart from the others. -/
def Inner (w : World) (lo hi : Nat) (ps : List (R × Value)) : Prop :=
  hi ≤ w.heap.size ∧
  (∀ p ∈ ps, w.ownsRow lo 3 1 p.2 p.1.2.2.length (p.1.2.2.map (Value.int .i64)) ∧ ∀ k, p.2.ownBlock = some k → k < hi) ∧
  (∀ (i j : Nat) (p q : R × Value), ps[i]? = some p → ps[j]? = some q → i ≠ j → p.2.ownBlock = none ∨ p.2.ownBlock ≠ q.2.ownBlock)

theorem Inner.nil (w : World) (lo hi : Nat) (h : hi ≤ w.heap.size) : Inner w lo hi [] :=
  ⟨h, fun p hp => by simp at hp, fun i j p q hp => by simp at hp⟩

theorem Inner.below {w w' : World} {lo hi B : Nat} {ps : List (R × Value)} (h : Inner w lo hi ps) (hb : Below B w w') (hB : hi ≤ B) : Inner w' lo hi ps :=
  ⟨Nat.le_trans h.1 hb.size, fun p hp => ⟨ownsRow_below (h.2.1 p hp).1 hb (fun k hk => by have := (h.2.1 p hp).2 k hk; omega), (h.2.1 p hp).2⟩, h.2.2⟩

theorem Inner.mono {w : World} {lo hi hi' : Nat} {ps : List (R × Value)} (h : Inner w lo hi ps) (h1 : hi ≤ hi') (h2 : hi' ≤ w.heap.size) : Inner w lo hi' ps :=
  ⟨h2, fun p hp => ⟨(h.2.1 p hp).1, fun k hk => by have := (h.2.1 p hp).2 k hk; omega⟩, h.2.2⟩

/-- A row of records lies in no row of numbers. -/
theorem Inner.apart {w : World} {lo hi : Nat} {ps : List (R × Value)} (h : Inner w lo hi ps) {g : Nat} {cur : Array Value} {ty : TypeId} {fz : Nat × Nat} (hg : w.heap[g]? = some (.cells cur ty fz)) (ht : ty ≠ 3) : ∀ p ∈ ps, p.2.ownBlock ≠ some g := by
  intro p hp e
  rcases (h.2.1 p hp).1.2 with ⟨hv, _⟩ | ⟨g', cap, cur', hv, _, hh, _⟩
  · rw [hv] at e; simp [Value.ownBlock] at e
  · rw [hv] at e
    simp [Value.ownBlock] at e
    subst e
    rw [hg] at hh
    simp at hh
    exact ht hh.2.1

theorem Inner.kept {w w' : World} {lo hi : Nat} {row : Option Nat} {ps : List (R × Value)} (h : Inner w lo hi ps) (hg : w.grownBy w' row) (hne : ∀ p ∈ ps, p.2.ownBlock = none ∨ p.2.ownBlock ≠ row) : Inner w' lo hi ps :=
  ⟨Nat.le_trans h.1 hg.size, fun p hp => ⟨(h.2.1 p hp).1.kept hg (hne p hp), (h.2.1 p hp).2⟩, h.2.2⟩

/-- One more record, its numbers in a row that lies behind all. -/
theorem Inner.snoc {w : World} {lo hi hi' : Nat} {ps : List (R × Value)} {p : R × Value} (h : Inner w lo hi ps) (h1 : hi ≤ hi') (h2 : hi' ≤ w.heap.size)
    (ho : w.ownsRow lo 3 1 p.2 p.1.2.2.length (p.1.2.2.map (Value.int .i64))) (hp : ∀ k, p.2.ownBlock = some k → hi ≤ k ∧ k < hi') : Inner w lo hi' (ps ++ [p]) := by
  refine ⟨h2, fun q hq => ?_, fun i j q r hq hr hij => ?_⟩
  · rcases List.mem_append.1 hq with hq | hq
    · exact ⟨(h.2.1 q hq).1, fun k hk => by have := (h.2.1 q hq).2 k hk; omega⟩
    · simp at hq; subst hq; exact ⟨ho, fun k hk => (hp k hk).2⟩
  · by_cases hi1 : i < ps.length
    · rw [List.getElem?_append_left hi1] at hq
      by_cases hj1 : j < ps.length
      · rw [List.getElem?_append_left hj1] at hr
        exact h.2.2 i j q r hq hr hij
      · rw [List.getElem?_append_right (by omega)] at hr
        have hj0 : j - ps.length = 0 := by
          by_cases e : j - ps.length = 0
          · exact e
          · rw [List.getElem?_eq_none (by simp; omega)] at hr; cases hr
        rw [hj0] at hr
        simp at hr
        subst hr
        cases hb : q.2.ownBlock with
        | none => exact Or.inl rfl
        | some k =>
          refine Or.inr fun e => ?_
          have h3 := (h.2.1 q (List.mem_of_getElem? hq)).2 k hb
          have h4 := (hp k e.symm).1
          omega
    · rw [List.getElem?_append_right (by omega)] at hq
      have hi0 : i - ps.length = 0 := by
        by_cases e : i - ps.length = 0
        · exact e
        · rw [List.getElem?_eq_none (by simp; omega)] at hq; cases hq
      rw [hi0] at hq
      simp at hq
      subst hq
      by_cases hj1 : j < ps.length
      · rw [List.getElem?_append_left hj1] at hr
        cases hb : p.2.ownBlock with
        | none => exact Or.inl rfl
        | some k =>
          refine Or.inr fun e => ?_
          have h3 := (h.2.1 r (List.mem_of_getElem? hr)).2 k e.symm
          have h4 := (hp k hb).1
          omega
      · rw [List.getElem?_append_right (by omega)] at hr
        have hj0 : j - ps.length = 0 := by
          by_cases e : j - ps.length = 0
          · exact e
          · rw [List.getElem?_eq_none (by simp; omega)] at hr; cases hr
        omega

/-- A list of records of the call's own: its row, and the rows of its numbers. -/
def OwnRecs (w : World) (lo hi : Nat) (v : Value) (ps : List (R × Value)) : Prop :=
  w.ownsRow lo 25 3 v ps.length (flat ps) ∧ (∀ k, v.ownBlock = some k → k < hi) ∧ Inner w lo hi ps

theorem OwnRecs.below {w w' : World} {lo hi B : Nat} {v : Value} {ps : List (R × Value)} (h : OwnRecs w lo hi v ps) (hb : Below B w w') (hB : hi ≤ B) : OwnRecs w' lo hi v ps :=
  ⟨ownsRow_below h.1 hb (fun k hk => by have := h.2.1 k hk; omega), h.2.1, h.2.2.below hb hB⟩

theorem ints_of_any {w : World} {base : Nat} {v : Value} {zs : List Int} (h : w.ownsRow base 3 1 v zs.length (zs.map (Value.int .i64))) : Ints w v zs := by
  rcases h.2 with ⟨hv, hn⟩ | ⟨g, cap, cur, hv, _⟩
  · have : zs = [] := List.length_eq_zero_iff.1 hn
    exact Or.inl ⟨this, none, 0, hv, fun _ => rfl⟩
  · subst hv; exact ints_of_row h

theorem OwnRecs.recs {w : World} {lo hi : Nat} {v : Value} {ps : List (R × Value)} (h : OwnRecs w lo hi v ps) : Recs w v (ps.map (·.1)) := by
  obtain ⟨h1, _, h3⟩ := h
  by_cases hp : ps = []
  · subst hp
    rcases h1.2 with ⟨hv, _⟩ | ⟨g, cap, cur, hv, _⟩
    · exact Or.inl ⟨rfl, none, 0, hv⟩
    · exact Or.inl ⟨rfl, _, cap, hv⟩
  · rcases h1.2 with ⟨_, hn⟩ | ⟨g, cap, cur, hv, _⟩
    · exact absurd (List.length_eq_zero_iff.1 hn) hp
    · subst hv
      refine Or.inr ⟨g, 0, cap, by simp, by simpa using hp, fun i r hr => ?_⟩
      rw [List.getElem?_map] at hr
      cases hpi : ps[i]? with
      | none => rw [hpi] at hr; cases hr
      | some p =>
        rw [hpi] at hr
        simp at hr
        subst hr
        have hil : i < ps.length := by
          by_cases e : i < ps.length
          · exact e
          · rw [List.getElem?_eq_none (by omega)] at hpi; cases hpi
        obtain ⟨f0, f1, f2⟩ := flat_get ps i p hpi
        refine ⟨p.2, ?_, ?_, ?_, ints_of_any (h3.2.1 p (List.mem_of_getElem? hpi)).1⟩
        · rw [Nat.zero_add, h1.cellAt _ (by omega)]; exact f0
        · rw [Nat.zero_add, h1.cellAt _ (by omega)]; exact f1
        · rw [Nat.zero_add, h1.cellAt _ (by omega)]; exact f2

end Go.Proofs.YtaogachhmdmoaaaDoor

namespace Go.Proofs.YtaogachhmdmoaaaDoor
open Go.RowKit

theorem infoRec : (Tryd.prog.info? 25).map (fun i => (i.zero, i.size, i.bytes)) = some (some (.agg #[.int .i64 0, .int .i64 0, .slice none 0 0]), 3, 40) := by kernel_rfl

def zeroP : R × Value := ((0, 0, []), .slice none 0 0)

theorem made_three (n : Nat) : (madeCells #[.int .i64 0, .int .i64 0, .slice none 0 0] (n * 3)).toList = flat (List.replicate n zeroP) := by
  apply List.ext_getElem?
  intro i
  by_cases h : i < n * 3
  · have hq : i / 3 < n := by omega
    have hget : (List.replicate n zeroP)[i / 3]? = some zeroP := by simp [hq]
    obtain ⟨f0, f1, f2⟩ := flat_get _ _ _ hget
    have hl : (madeCells #[.int .i64 0, .int .i64 0, .slice none 0 0] (n * 3)).toList[i]? = some (#[Value.int .i64 0, .int .i64 0, .slice none 0 0][i % 3]!) := by
      simp [madeCells, h]
    rw [hl]
    rcases (show i % 3 = 0 ∨ i % 3 = 1 ∨ i % 3 = 2 by omega) with h0 | h0 | h0
    · rw [show i / 3 * 3 = i by omega] at f0; rw [f0, h0]; rfl
    · rw [show i / 3 * 3 + 1 = i by omega] at f1; rw [f1, h0]; rfl
    · rw [show i / 3 * 3 + 2 = i by omega] at f2; rw [f2, h0]; rfl
  · rw [List.getElem?_eq_none (by simp [madeCells]; omega), List.getElem?_eq_none (by rw [flat_length]; simp; omega)]

theorem ownsRow_base {w : World} {base base' : Nat} {e : TypeId} {size : Nat} {v : Value} {n : Nat} {xs : List Value} (h : w.ownsRow base e size v n xs) (hb : base' ≤ base) : w.ownsRow base' e size v n xs := by
  obtain ⟨h1, h2⟩ := h
  refine ⟨h1, ?_⟩
  rcases h2 with h2 | ⟨g, cap, cur, hv, hg, r⟩
  · exact Or.inl h2
  · exact Or.inr ⟨g, cap, cur, hv, by omega, r⟩

/-- The value v is a list of just these records that the call itself has made, from lo on. -/
def Made (w : World) (lo : Nat) (v : Value) (rs : List R) : Prop := ∃ ps : List (R × Value), ps.map (·.1) = rs ∧ OwnRecs w lo w.heap.size v ps

theorem Made.recs {w : World} {lo : Nat} {v : Value} {rs : List R} (h : Made w lo v rs) : Recs w v rs := by
  obtain ⟨ps, rfl, ho⟩ := h
  exact ho.recs

/-- Three stores into a row of records. -/
theorem stored3 {w : World} {base g n cap : Nat} {ps : List (R × Value)} (h : w.ownsRow base 25 3 (.slice (some ⟨g, 0, none⟩) n cap) n (flat ps)) (k : Nat) (hk : k < ps.length) (r : R) (u : Value) :
    (((w.setCell ⟨g, k * 3, none⟩ (.int .i64 r.1)).setCell ⟨g, k * 3 + 1, none⟩ (.int .i64 r.2.1)).setCell ⟨g, k * 3 + 2, none⟩ u).ownsRow base 25 3 (.slice (some ⟨g, 0, none⟩) n cap) n (flat (ps.set k (r, u))) ∧
    w.grownBy (((w.setCell ⟨g, k * 3, none⟩ (.int .i64 r.1)).setCell ⟨g, k * 3 + 1, none⟩ (.int .i64 r.2.1)).setCell ⟨g, k * 3 + 2, none⟩ u) (some g) := by
  have a1 := h.stored (k * 3) (.int .i64 r.1)
  have a2 := a1.1.stored (k * 3 + 1) (.int .i64 r.2.1)
  have a3 := a2.1.stored (k * 3 + 2) u
  rw [flat_set ps k r u hk] at a3
  refine ⟨a3.1, ?_⟩
  refine ⟨rfl, rfl, rfl, by simp, fun j hj hne => ?_⟩
  rw [a3.2.block j (by simpa using hj) hne, a2.2.block j (by simpa using hj) hne, a1.2.block j hj hne]

theorem row_block {w : World} {base : Nat} {e : TypeId} {size g n cap : Nat} {xs : List Value} (h : w.ownsRow base e size (.slice (some ⟨g, 0, none⟩) n cap) n xs) : ∃ cur, w.heap[g]? = some (.cells cur e (0, 0)) := by
  rcases h.2 with ⟨h', _⟩ | ⟨g', cap', cur, h', _, hg, _⟩
  · simp at h'
  · simp only [Value.slice.injEq, Option.some.injEq, Addr.mk.injEq, and_true, true_and] at h'
    obtain ⟨rfl, rfl⟩ := h'
    exact ⟨cur, hg⟩

theorem rep_set (ps : List (R × Value)) (m : Nat) (p : R × Value) : (ps ++ List.replicate (m + 1) zeroP).set ps.length p = (ps ++ [p]) ++ List.replicate m zeroP := by
  rw [List.set_append_right _ _ (Nat.le_refl _), Nat.sub_self, List.replicate_succ]
  simp

/-- What one round of a copy does. -/
theorem toRecs_step {wr w2 : World} {W n k : Nat} {ps : List (R × Value)} {r : R} (hk : ps.length = k) (hkn : k < n)
    (hrow : wr.ownsRow W 25 3 (.slice (some ⟨W, 0, none⟩) n n) n (flat (ps ++ List.replicate (n - k) zeroP))) (hin : Inner wr W wr.heap.size ps) (hWr : W < wr.heap.size)
    (hb : Below wr.heap.size wr w2) (hown : w2.ownsRow (wr.heap.size + 3) 3 1 (.slice (some ⟨wr.heap.size + 3, 0, none⟩) r.2.2.length r.2.2.length) r.2.2.length (r.2.2.map (Value.int .i64))) :
    Hid ((((w2.setCell ⟨W, k * 3, none⟩ (.int .i64 r.1)).setCell ⟨W, k * 3 + 1, none⟩ (.int .i64 r.2.1)).setCell ⟨W, k * 3 + 2, none⟩ (.slice (some ⟨wr.heap.size + 3, 0, none⟩) r.2.2.length r.2.2.length)).ownsRow W 25 3 (.slice (some ⟨W, 0, none⟩) n n) n (flat ((ps ++ [(r, .slice (some ⟨wr.heap.size + 3, 0, none⟩) r.2.2.length r.2.2.length)]) ++ List.replicate (n - (k + 1)) zeroP)) ∧
    Inner (((w2.setCell ⟨W, k * 3, none⟩ (.int .i64 r.1)).setCell ⟨W, k * 3 + 1, none⟩ (.int .i64 r.2.1)).setCell ⟨W, k * 3 + 2, none⟩ (.slice (some ⟨wr.heap.size + 3, 0, none⟩) r.2.2.length r.2.2.length)) W
      (((w2.setCell ⟨W, k * 3, none⟩ (.int .i64 r.1)).setCell ⟨W, k * 3 + 1, none⟩ (.int .i64 r.2.1)).setCell ⟨W, k * 3 + 2, none⟩ (.slice (some ⟨wr.heap.size + 3, 0, none⟩) r.2.2.length r.2.2.length)).heap.size (ps ++ [(r, .slice (some ⟨wr.heap.size + 3, 0, none⟩) r.2.2.length r.2.2.length)])) := by
  have row2 := ownsRow_below hrow hb (fun j hj => by simp [Value.ownBlock] at hj; omega)
  have in2 := hin.below hb (Nat.le_refl _)
  obtain ⟨cur2, hc2⟩ := row_block hown
  have hlt : wr.heap.size + 3 < w2.heap.size := by
    by_cases h : wr.heap.size + 3 < w2.heap.size
    · exact h
    · rw [Array.getElem?_eq_none (by omega)] at hc2; cases hc2
  have in3 : Inner w2 W w2.heap.size (ps ++ [(r, .slice (some ⟨wr.heap.size + 3, 0, none⟩) r.2.2.length r.2.2.length)]) :=
    in2.snoc hb.size (Nat.le_refl _) (ownsRow_base hown (by omega)) (fun j hj => by simp [Value.ownBlock] at hj; omega)
  have st := stored3 row2 k (by simp; omega) r (.slice (some ⟨wr.heap.size + 3, 0, none⟩) r.2.2.length r.2.2.length)
  obtain ⟨cur, hcur⟩ := row_block row2
  refine ⟨?_, ?_⟩
  · have h := st.1
    rw [show n - k = (n - (k + 1)) + 1 by omega, ← hk, rep_set] at h
    rw [hk] at h
    rw [← hk, hk]
    exact h
  · have h := in3.kept st.2 (fun p hp => by
      have := in3.apart hcur (by decide) p hp
      exact Or.inr this)
    exact h.mono (by simp) (Nat.le_refl _)

end Go.Proofs.YtaogachhmdmoaaaDoor

namespace Go.Proofs.YtaogachhmdmoaaaDoor
open Go.RowKit

theorem Made.setBelow {w : World} {lo : Nat} {v : Value} {rs : List R} (h : Made w lo v rs) {a : Addr} (ha : a.block < lo) (x : Value) : Made (w.setCell a x) lo v rs := by
  obtain ⟨ps, hp, h1, h2, h3⟩ := h
  have hs : (w.setCell a x).heap.size = w.heap.size := by simp
  refine ⟨ps, hp, ownsRow_setCell_below h1 ha x, by rw [hs]; exact h2, ?_⟩
  rw [hs]
  exact ⟨by rw [hs]; exact h3.1, fun p hp => ⟨ownsRow_setCell_below (h3.2.1 p hp).1 ha x, (h3.2.1 p hp).2⟩, h3.2.2⟩

theorem Made.below {w w' : World} {lo B : Nat} {v : Value} {rs : List R} (h : Made w lo v rs) (hb : Below B w w') (hB : w.heap.size ≤ B) : Made w' lo v rs := by
  obtain ⟨ps, hp, ho⟩ := h
  obtain ⟨h1, h2, h3⟩ := ho.below hb hB
  exact ⟨ps, hp, h1, fun k hk => Nat.lt_of_lt_of_le (h2 k hk) hb.size, h3.mono hb.size (Nat.le_refl _)⟩

end Go.Proofs.YtaogachhmdmoaaaDoor

namespace Go.Proofs.YtaogachhmdmoaaaDoor
open Go.RowKit

theorem row_shape {w : World} {base : Nat} {e : TypeId} {size : Nat} {v : Value} {n : Nat} {xs : List Value} (h : w.ownsRow base e size v n xs) : ∃ ao cap, v = .slice ao n cap := by
  rcases h.2 with ⟨hv, hn⟩ | ⟨g, cap, cur, hv, _⟩
  · subst hn; exact ⟨none, 0, hv⟩
  · exact ⟨_, cap, hv⟩

/-- Numbers appended to a row of numbers of the call's own. -/
theorem run_append_ints (w : World) (base ty : Nat) (v xv : Value) (n : Nat) (xs : List Value) (zs : List Int) (hown : w.ownsRow base 3 1 v n xs) (hI : Ints w xv zs) (hb : n + zs.length ≤ 16777216) (hbase : base ≤ w.heap.size) :
    ∃ v' w', (Builtin.append_ #[23, 23] ty #[v, xv]).run Tryd.prog w = .ok v' w' ∧ w'.ownsRow base 3 1 v' (n + zs.length) (xs ++ zs.map (Value.int .i64)) ∧ w.grownBy w' v.ownBlock := by
  obtain ⟨i0, hi, hz0, hz1, hz2⟩ := info_parts info3
  rcases hI with ⟨rfl, ao, cap, rfl, hao⟩ | ⟨b, off, cap, rfl, hz, hc⟩
  · cases ao with
    | none =>
      obtain rfl := hao rfl
      exact ⟨v, w, run_append_owned_none w base 23 ty 3 i0 1 Tryd.underlying23 hi v n xs hown, by simpa using hown, World.grownBy.refl _ _⟩
    | some a =>
      obtain ⟨v', w', h1, h2, h3, _⟩ := run_append_own (P := Tryd.prog) w base 23 ty 3 i0 (.int .i64 0) 1 8 Tryd.underlying23 hi hz0 hz1 hz2 rfl (by decide) v n xs hown a 0 cap [] rfl (fun j u h => by simp at h) (fun u h => by simp at h) (by unfold maxLen; omega) (by simp at hb; omega) hbase
      exact ⟨v', w', h1, by simpa using h2, h3⟩
  · obtain ⟨v', w', h1, h2, h3, _⟩ := run_append_own (P := Tryd.prog) w base 23 ty 3 i0 (.int .i64 0) 1 8 Tryd.underlying23 hi hz0 hz1 hz2 rfl (by decide) v n xs hown ⟨b, off, none⟩ zs.length cap (zs.map (Value.int .i64)) (by simp) (fun j u h => by
        rw [List.getElem?_map] at h
        cases hj : zs[j]? with
        | none => rw [hj] at h; cases h
        | some z =>
          rw [hj] at h
          simp at h
          subst h
          have hjl : j < zs.length := by
            by_cases e : j < zs.length
            · exact e
            · rw [List.getElem?_eq_none (by omega)] at hj; cases hj
          have := hc j hjl
          rw [Go.WideShapes.add_plain, this]
          simp [List.getD_eq_getElem?_getD, hj]) (ints_oneCell _ _) (by unfold maxLen; omega) (by omega) hbase
    exact ⟨v', w', h1, h2, h3⟩

/-- The same as one step of a region that draws its order. -/
theorem step_append_ints {ops : Array Oper} {o : Oper} {a : Act} {w : World} {K : Act → World → Prop} {Q : Exit → Act → World → Prop} {E : Prop} (hgd : o.guard = none) (s x : Operand)
    (ho : o.op = .call { callee := .builtin .append, args := #[s, x], argTypes := #[23, 23] })
    (base : Nat) (v xv : Value) (n : Nat) (xs : List Value) (zs : List Int) (hs : a.eval s = v) (hx : a.eval x = xv) (hown : w.ownsRow base 3 1 v n xs) (hI : Ints w xv zs) (hb : n + zs.length ≤ 16777216) (hbase : base ≤ w.heap.size)
    (h : ∀ ao cap w', w'.ownsRow base 3 1 (.slice ao (n + zs.length) cap) (n + zs.length) (xs ++ zs.map (Value.int .i64)) → w.grownBy w' v.ownBlock → K (a.put o.dst (.slice ao (n + zs.length) cap)) w') :
    if Region.wanted o (yielded ops a.tmps) = true then Oper.wp Tryd.prog o a w K Q else E := by
  have hw : Region.wanted o (yielded ops a.tmps) = true := by simp [Region.wanted, hgd]
  rw [if_pos hw]
  obtain ⟨v', w', hrun, r1, r2⟩ := run_append_ints w base o.type v xv n xs zs hown hI hb hbase
  obtain ⟨ao, cap, rfl⟩ := row_shape r1
  unfold Oper.wp
  simp [execOp, ho, resolve, invoke, builtin, hs, hx, hrun, Result.andThen]
  exact h ao cap w' r1 r2

theorem grown_below {w w' : World} (h : w.grownBy w' none) : Below w.heap.size w w' := (Below.refl _ _).grown h (Nat.le_refl _) (fun k h => by cases h)

set_option maxHeartbeats 2000000 in
theorem copyRec_any (k t : Int) (u : Value) (zs : List Int) (w : World) (hI : Ints w u zs) (hl : zs.length ≤ 1048576) :
    Calls Tryd.prog 31 #[.agg #[.int .i64 k, .int .i64 t, u]] w fun e w' => ∃ ao cap, e = .returned (.agg #[.int .i64 k, .int .i64 t, .slice ao zs.length cap]) ∧
      w'.ownsRow (w.heap.size + 2) 3 1 (.slice ao zs.length cap) zs.length (zs.map (Value.int .i64)) ∧ Below w.heap.size w w' := by
  have HI : Hid (∀ W, Below w.heap.size w W → Ints W u zs) := fun W h => hI.later h (Nat.le_refl _)
  obtain ⟨au, cu, hus⟩ := hI.shape
  clear hI
  subst hus
  have HR : Hid (∀ o, RecAt ((w.alloc (.cells #[.int .i64 k, .int .i64 t, .slice au zs.length cu] 25)).alloc o).drew w.heap.size k t (.slice au zs.length cu)) := fun o => ((RecAt.new w k t _ 25).later ((Below.refl _ _).alloc (Nat.le_refl _) o).drew (Nat.le_refl _))
  go_enter Tryd.func31, Tryd.ntmps31
  go_wp2
  go_region_held_law (fun w' => w'.cell? ⟨w.heap.size, 0, none⟩ = some (.int .i64 k) ∧ w'.cell? ⟨w.heap.size, 1, none⟩ = some (.int .i64 t) ∧ w'.cell? ⟨w.heap.size, 2, none⟩ = some (.slice au zs.length cu)) (go_keep)
    ((refine step_append_ints rfl _ _ rfl (w.heap.size + 2) (.slice none 0 0) (.slice au zs.length cu) 0 [] zs rfl rfl (World.ownsRow_nil _ _ _ _) (HI.out _ (by exact (below2 w _ _).drew)) (by omega) (by simp) ?_; intro ao cap w1 hown hgrow; simp only [Nat.zero_add, List.nil_append] at hown; have hb1 := grown_below hgrow; obtain ⟨hc1, hf1⟩ := bcell hb1; obtain ⟨k0, k1, k2⟩ := (HR.out _).later hb1 (Nat.le_refl _); have HO := hide_it hown; have HB := hide_it ((below2 w _ _).drew.trans (hb1.mono (by simp; omega))); have hz1 : w.heap.size + 2 ≤ w1.heap.size := by (have := hb1.size; simp at this; omega)))
  go_wp2
  refine bodyPost_ret (v := .agg #[.int .i64 k, .int .i64 t, .slice ao zs.length cap]) (by simp [results, Tryd.results31, go_sem, hc1]) rfl ⟨ao, cap, rfl, ?_, ?_⟩
  · exact ownsRow_setCell_below (ownsRow_setCell_below (ownsRow_setCell_below HO.out (by simp) _) (by simp) _) (by simp) _
  · exact ((HB.out.setCell (by simp) _).setCell (by simp) _).setCell (by simp) _

end Go.Proofs.YtaogachhmdmoaaaDoor

namespace Go.Proofs.YtaogachhmdmoaaaDoor
open Go.RowKit

/-- One more record appended to a list of the call's own, as worlds and rows see it. -/
theorem append_step {w3 w4 : World} {W0 hi : Nat} {v v' : Value} {ps : List (R × Value)} {r : R} {u : Value}
    (hrow : w3.ownsRow W0 25 3 v ps.length (flat ps)) (hin : Inner w3 W0 hi ps) (hhi : hi ≤ w3.heap.size)
    (ho : w3.ownsRow W0 3 1 u r.2.2.length (r.2.2.map (Value.int .i64))) (hu : ∀ k, u.ownBlock = some k → hi ≤ k ∧ k < w3.heap.size)
    (hown : w4.ownsRow W0 25 3 v' (ps.length + 1) (flat ps ++ [.int .i64 r.1, .int .i64 r.2.1, u])) (hg : w3.grownBy w4 v.ownBlock) :
    w4.ownsRow W0 25 3 v' (ps ++ [(r, u)]).length (flat (ps ++ [(r, u)])) ∧ Inner w4 W0 w4.heap.size (ps ++ [(r, u)]) := by
  refine ⟨?_, ?_⟩
  · rw [flat_append, List.length_append]; exact hown
  · have in3 : Inner w3 W0 w3.heap.size (ps ++ [(r, u)]) := hin.snoc hhi (Nat.le_refl _) ho hu
    have h := in3.kept hg (fun p hp => by
      rcases hrow.2 with ⟨hv, _⟩ | ⟨g, cap, cur, hv, _, hh, _⟩
      · by_cases e : p.2.ownBlock = none
        · exact Or.inl e
        · exact Or.inr (by rw [hv]; simpa [Value.ownBlock] using e)
      · refine Or.inr ?_
        rw [hv]
        exact in3.apart hh (by decide) p hp)
    exact h.mono hg.size (Nat.le_refl _)

set_option maxHeartbeats 2000000 in
theorem copyRecs_any (v : Value) (rs : List R) (w : World) (hv : Recs w v rs) (hl : tot rs ≤ 1048576) :
    Calls Tryd.prog 30 #[v] w fun e w' => ∃ ao cap, e = .returned (.slice ao rs.length cap) ∧ Made w' w.heap.size (.slice ao rs.length cap) rs ∧ Below w.heap.size w w' := by
  obtain ⟨i0, hi, hz0, hz1, hz2⟩ := info_parts infoRec
  have hlen := tot_len rs
  have HM : Hid (∀ r ∈ rs, r.2.2.length ≤ 1048576) := fun r hr => Nat.le_trans (tot_mem rs r hr) hl
  rcases hv with ⟨rfl, ao, cap, rfl⟩ | ⟨b, off, cap, rfl, hz, hc⟩
  · go_enter Tryd.func30, Tryd.ntmps30
    go_wp2
    refine wp_loop_rounds 1 ?_
    rw [rounds_succ]
    go_wp2
    refine bodyPost_ret (v := .slice none 0 0) (by simp [results, Tryd.results30, go_sem]) rfl ⟨none, 0, rfl, ?_, Below.refl _ _⟩
    exact ⟨[], rfl, World.ownsRow_nil _ _ _ _, fun k hk => by simp [Value.ownBlock] at hk, Inner.nil _ _ _ (Nat.le_refl _)⟩
  have HC : Hid (∀ i r, rs[i]? = some r → ∃ u, RecCells w b (off + i * 3) r u) := hc
  have hzl : 0 < rs.length := List.length_pos_iff.2 hz
  clear hc hz
  go_enter Tryd.func30, Tryd.ntmps30
  go_wp2
  go_loopw [3, 8] (fun vo i wr => ∃ (k : Nat) (ps : List (R × Value)), k ≤ rs.length ∧ i = .int .i64 k ∧ Hid (ps.map (·.1) = rs.take k) ∧ Hid (wr.ownsRow w.heap.size 25 3 vo ps.length (flat ps)) ∧ Hid (Inner wr w.heap.size wr.heap.size ps) ∧ Hid (Below w.heap.size w wr)) (fun _ i _ => rs.length - (intOf i).toNat)
  case atStart => exact ⟨0, [], Nat.zero_le _, rfl, rfl, World.ownsRow_nil _ _ _ _, Inner.nil _ _ _ (Nat.le_refl _), Below.refl _ _⟩
  case round =>
    obtain ⟨k, ps, hk, rfl, HP, HO, HN, HB⟩ := hrel
    have HPL : Hid (ps.length = k) := by
      have := congrArg List.length HP.out
      simp at this
      show _ = _; omega
    by_cases hlt : k < rs.length
    · obtain ⟨r, hr⟩ : ∃ r, Hid (rs[k]? = some r) := ⟨rs[k], by show _ = _; simp [hlt]⟩
      have hrl : r.2.2.length ≤ 1048576 := HM.out r (List.mem_of_getElem? hr.out)
      obtain ⟨u, hu⟩ := HC.out k r hr.out
      obtain ⟨c0, c1, c2, hI⟩ := hu.later HB.out (Nat.le_refl _)
      have hbw : b < wr.heap.size := World.block_lt_of_cell? _ _ c0
      obtain ⟨au, cu, hus⟩ := hI.shape
      have HI : Hid (∀ o, Ints (wr.alloc o) u r.2.2) := fun o => hI.later ((Below.refl _ _).alloc (Nat.le_refl _) o) (Nat.le_refl _)
      clear hI hu
      subst hus
      go_wp2_with fail
      refine (copyRec_any r.1 r.2.1 _ r.2.2 _ (HI.out _) hrl).mono ?_
      rintro e w2 ⟨ao2, cap2, rfl, hown2, hb2⟩
      have hb2' : Below wr.heap.size wr w2 := ((Below.refl _ _).alloc (Nat.le_refl _) _).trans (hb2.mono (by simp))
      have hz2' : wr.heap.size + 1 ≤ w2.heap.size := by have := hb2.size; simp at this; exact this
      have ROW : Hid (∀ o, (w2.alloc o).ownsRow w.heap.size 25 3 u3 ps.length (flat ps)) := fun o => (ownsRow_below HO.out hb2' (fun j hj => (HO.out.lt j hj).2)).alloc o
      have INN : Hid (∀ o, Inner (w2.alloc o) w.heap.size wr.heap.size ps) := fun o => (HN.out.below hb2' (Nat.le_refl _)).below ((Below.refl _ _).alloc (Nat.le_refl _) o) (by omega)
      have NEW : Hid (∀ o, (w2.alloc o).ownsRow w.heap.size 3 1 (.slice ao2 r.2.2.length cap2) r.2.2.length (r.2.2.map (Value.int .i64))) := fun o => (ownsRow_base hown2 (by have := HB.out.size; simp; omega)).alloc o
      have NEWB : Hid (∀ j, (Value.slice ao2 r.2.2.length cap2).ownBlock = some j → wr.heap.size ≤ j ∧ j < w2.heap.size + 1) := fun j hj => by
        have := hown2.lt j hj
        simp at this
        omega
      have HB2 : Hid (Below w.heap.size w w2) := HB.out.trans (hb2'.mono HB.out.size)
      have hzw : w.heap.size ≤ w2.heap.size := HB2.out.size
      clear hown2 hb2 hb2'
      go_wp2_with (at_builtin; refine wpList_append_own _ rfl _ _ 29 rfl w.heap.size 25 i0 (.agg #[.int .i64 0, .int .i64 0, .slice none 0 0]) 3 40 Tryd.underlying29 hi hz0 hz1 hz2 rfl (by decide) u3 ps.length (flat ps) rfl (ROW.out _) ⟨w2.heap.size, 0, none⟩ 1 1 [.int .i64 r.1, .int .i64 r.2.1, .slice ao2 r.2.2.length cap2] rfl rfl ?c1 ?c2 ?c3 ?c4 ?c5 ?_)
      case c1 =>
        intro j x hj
        match j, hj with
        | 0, hj => simp at hj; subst hj; simp [Addr.add]
        | 1, hj => simp at hj; subst hj; simp [Addr.add]
        | 2, hj => simp at hj; subst hj; simp [Addr.add]
      case c2 => intro x hx; simp at hx; rcases hx with rfl | rfl | rfl <;> rfl
      case c3 => have := HPL.out; unfold maxLen; omega
      case c4 => have := HPL.out; omega
      case c5 => simp; omega
      · intro v' w4 hown4 hgrow4 _
        have ST := append_step (r := r) (ROW.out _) (INN.out _) (by simp; omega) (NEW.out _) (by simpa using NEWB.out) hown4 hgrow4
        have HO4 := hide_it ST.1
        have HN4 := hide_it ST.2
        have HB4 : Hid (Below w.heap.size w w4) := (HB2.out.alloc hzw _).grown hgrow4 (by simp; omega) (fun j hj => ((ROW.out default).lt j hj).1)
        clear ST hown4 hgrow4
        go_wp2
        go_roundw
        case rel =>
          refine ⟨k + 1, ps ++ [(r, .slice ao2 r.2.2.length cap2)], by omega, by go_num, ?_, HO4, HN4, HB4⟩
          show _ = _
          have hkl : k < rs.length := by omega
          have hrk : rs[k] = r := by have := hr.out; rw [List.getElem?_eq_getElem hkl] at this; simpa using this
          rw [List.map_append, HP.out, List.take_succ_eq_append_getElem hkl, hrk]
          rfl
        case measure => simp [intOf]; omega
    · have hke : Hid (k = rs.length) := by show _ = _; omega
      obtain ⟨ao, cp, hvo⟩ := row_shape HO.out
      have hpl : ps.length = rs.length := by rw [HPL.out, hke.out]
      rw [hpl] at hvo
      have HD : Hid (Made wr w.heap.size (.slice ao rs.length cp) rs) := by
        refine ⟨ps, by rw [HP.out, hke.out, List.take_length], ?_, fun j hj => ?_, HN.out⟩
        · have := HO.out; rw [hvo] at this; exact this
        · have := HO.out; rw [hvo] at this; exact (this.lt j hj).2
      subst hvo
      clear hpl
      go_wp2
      refine bodyPost_ret (v := .slice ao rs.length cp) (by simp [results, Tryd.results30, go_sem]) rfl ⟨ao, cp, rfl, HD.out, HB.out⟩

end Go.Proofs.YtaogachhmdmoaaaDoor

namespace Go.Proofs.YtaogachhmdmoaaaDoor
open Go.RowKit

/-- Nothing but blocks from lo on and below hi has turned; blocks may have come. -/
structure Mid (lo hi : Nat) (w w' : World) : Prop where
  os : w'.os = w.os
  tape : w'.tape = w.tape
  output : w'.output = w.output
  size : w.heap.size ≤ w'.heap.size
  block : ∀ k, k < w.heap.size → (k < lo ∨ hi ≤ k) → w'.heap[k]? = w.heap[k]?

theorem Mid.refl (lo hi : Nat) (w : World) : Mid lo hi w w := ⟨rfl, rfl, rfl, Nat.le_refl _, fun _ _ _ => rfl⟩
theorem Mid.trans {lo hi : Nat} {a b c : World} (h : Mid lo hi a b) (k : Mid lo hi b c) : Mid lo hi a c :=
  ⟨k.os.trans h.os, k.tape.trans h.tape, k.output.trans h.output, Nat.le_trans h.size k.size, fun i hi' hh => (k.block i (Nat.lt_of_lt_of_le hi' h.size) hh).trans (h.block i hi' hh)⟩
theorem Mid.of_grown {lo hi : Nat} {w w' : World} {row : Option Nat} (hg : w.grownBy w' row) (hr : ∀ k, row = some k → lo ≤ k ∧ k < hi) : Mid lo hi w w' :=
  ⟨hg.os, hg.tape, hg.output, hg.size, fun k hk hh => hg.block k hk (fun e => by have := hr k e.symm; omega)⟩
theorem Mid.of_below {lo hi B : Nat} {w w' : World} (hb : Below B w w') (hB : w.heap.size ≤ B) : Mid lo hi w w' :=
  ⟨hb.os, hb.tape, hb.output, hb.size, fun k hk _ => hb.block k (by omega)⟩
theorem Mid.below {lo hi B : Nat} {w w' : World} (h : Mid lo hi w w') (hB : B ≤ lo) (hs : B ≤ w.heap.size) : Below B w w' :=
  ⟨h.os, h.tape, h.output, h.size, fun k hk => h.block k (by omega) (Or.inl (by omega))⟩

theorem ownsRow_mid {w w' : World} {base lo hi : Nat} {e : TypeId} {size : Nat} {v : Value} {n : Nat} {xs : List Value} (h : w.ownsRow base e size v n xs) (hb : Mid lo hi w w') (hB : ∀ k, v.ownBlock = some k → k < lo ∨ hi ≤ k) : w'.ownsRow base e size v n xs := by
  have hlt := h.lt
  obtain ⟨h1, h2⟩ := h
  refine ⟨h1, ?_⟩
  rcases h2 with h2 | ⟨g, cap, cur, hv, hg, hh, r⟩
  · exact Or.inl h2
  · exact Or.inr ⟨g, cap, cur, hv, hg, by rw [hb.block g (hlt g (by rw [hv]; rfl)).2 (hB g (by rw [hv]; rfl))]; exact hh, r⟩

/-- A list that lies behind what has turned is as it was. -/
theorem OwnRecs.mid {w w' : World} {l0 h0 lo hi : Nat} {v : Value} {ps : List (R × Value)} (h : OwnRecs w l0 h0 v ps) (hb : Mid lo hi w w') (hB : hi ≤ l0) : OwnRecs w' l0 h0 v ps := by
  obtain ⟨h1, h2, h3⟩ := h
  refine ⟨ownsRow_mid h1 hb (fun k hk => Or.inr (by have := (h1.lt k hk).1; omega)), h2, Nat.le_trans h3.1 hb.size, fun p hp => ⟨?_, (h3.2.1 p hp).2⟩, h3.2.2⟩
  exact ownsRow_mid (h3.2.1 p hp).1 hb (fun k hk => Or.inr (by have := ((h3.2.1 p hp).1.lt k hk).1; omega))

theorem grownBy_trans {a b c : World} {row : Option Nat} (h : a.grownBy b row) (k : b.grownBy c row) : a.grownBy c row :=
  ⟨k.os.trans h.os, k.tape.trans h.tape, k.output.trans h.output, Nat.le_trans h.size k.size, fun i hi hh => (k.block i (Nat.lt_of_lt_of_le hi h.size) hh).trans (h.block i hi hh)⟩

def markI (n : Nat) (k : Int) : List Int := (List.range n).map fun i => k + (i : Nat)
theorem markI_length (n : Nat) (k : Int) : (markI n k).length = n := by simp [markI]
theorem markI_get (n : Nat) (k : Int) (i : Nat) (h : i < n) : (markI n k).getD i 0 = k + i := by simp [markI, List.getD_eq_getElem?_getD, h]

theorem mix_set (A xs : List Value) (i : Nat) (hA : A.length = xs.length) (hi : i < xs.length) (x : Value) (hx : A[i]? = some x) : (A.take i ++ xs.drop i).set i x = A.take (i + 1) ++ xs.drop (i + 1) := by
  have hi' : i < A.length := by omega
  rw [List.set_append_right _ _ (by simp; omega)]
  have h1 : i - (A.take i).length = 0 := by simp; omega
  rw [h1, List.drop_eq_getElem_cons hi, List.set_cons_zero, List.take_succ_eq_append_getElem hi']
  rw [List.getElem?_eq_getElem hi'] at hx
  simp only [Option.some.injEq] at hx
  rw [hx]; simp

end Go.Proofs.YtaogachhmdmoaaaDoor

namespace Go.Proofs.YtaogachhmdmoaaaDoor
open Go.RowKit

/-- The value is a slice of n bytes, whatever they are, that lies below a block. -/
def Bytes (w : World) (b : Nat) (v : Value) (n : Nat) : Prop :=
  ∃ ao cap, v = .slice ao n cap ∧ (n ≠ 0 → ∃ g off, ao = some ⟨g, off, none⟩ ∧ g < b ∧ ∀ k, k < n → ∃ z : Int, w.cell? ⟨g, off + k, none⟩ = some (.int .u8 z) ∧ 0 ≤ z ∧ z ≤ 255)

/-- A reader lies in block b: its bytes, and how often it picked. -/
def Rd (w : World) (b p : Nat) : Prop :=
  ∃ v n, n ≤ 2000 ∧ w.heap[b]? = some (.cells #[v, .int .i64 p] 61 (0, 0)) ∧ Bytes w b v n

theorem Bytes.mid {w w' : World} {b : Nat} {v : Value} {n : Nat} (h : Bytes w b v n) (hb : ∀ k, k < b → w'.heap[k]? = w.heap[k]?) : Bytes w' b v n := by
  obtain ⟨ao, cap, hv, hc⟩ := h
  refine ⟨ao, cap, hv, fun hn => ?_⟩
  obtain ⟨g, off, ha, hg, hk⟩ := hc hn
  refine ⟨g, off, ha, hg, fun k hkn => ?_⟩
  obtain ⟨z, h1, h2⟩ := hk k hkn
  exact ⟨z, by rw [← h1]; simp [World.cell?, hb g hg], h2⟩

theorem Rd.lt {w : World} {b p : Nat} (h : Rd w b p) : b < w.heap.size := by
  obtain ⟨v, n, _, h, _⟩ := h
  by_cases e : b < w.heap.size
  · exact e
  · rw [Array.getElem?_eq_none (by omega)] at h; cases h

theorem Rd.later {B : Nat} {w w' : World} {b p : Nat} (h : Rd w b p) (hb : Below B w w') (hB : w.heap.size ≤ B) : Rd w' b p := by
  have hlt := h.lt
  obtain ⟨v, n, hn, h1, h2⟩ := h
  exact ⟨v, n, hn, by rw [hb.block b (by omega)]; exact h1, h2.mid (fun k hk => hb.block k (by omega))⟩

theorem Mid.set {w : World} {b i : Nat} (x : Value) : Mid b (b + 1) w (w.setCell ⟨b, i, none⟩ x) := by
  refine ⟨rfl, rfl, rfl, by simp, fun k _ hk => ?_⟩
  exact Below.heap_setCell _ _ _ _ (by simp; omega)

theorem rd_set {w : World} {b : Nat} {v : Value} {n p q : Nat} (hn : n ≤ 2000) (h : w.heap[b]? = some (.cells #[v, .int .i64 p] 61 (0, 0))) (hB : Bytes w b v n) : Rd (w.setCell ⟨b, 1, none⟩ (.int .i64 q)) b q := by
  refine ⟨v, n, hn, ?_, hB.mid (fun k hk => Below.heap_setCell _ _ _ _ (by simp; omega))⟩
  rw [heap_setCell_same w b 1 _ _ _ h]
  simp

end Go.Proofs.YtaogachhmdmoaaaDoor

namespace Go.Proofs.YtaogachhmdmoaaaDoor
open Go.RowKit

theorem xor_nonneg (x y : Int) (hx0 : 0 ≤ x) (hx : x ≤ 1000000000000) (hy0 : 0 ≤ y) (hy : y ≤ 1000000000000) : 0 ≤ bits .xor .i64 x y := by
  obtain ⟨a, rfl⟩ := Int.eq_ofNat_of_zero_le hx0
  obtain ⟨c, rfl⟩ := Int.eq_ofNat_of_zero_le hy0
  have hlt : a ^^^ c < 2 ^ 62 := Nat.xor_lt_two_pow (by omega) (by omega)
  have h1 : (BitVec.ofInt 64 (a : Int)).toNat = a := by
    rw [BitVec.ofInt_natCast, BitVec.toNat_ofNat]; exact Nat.mod_eq_of_lt (by omega)
  have h2 : (BitVec.ofInt 64 (c : Int)).toNat = c := by
    rw [BitVec.ofInt_natCast, BitVec.toNat_ofNat]; exact Nat.mod_eq_of_lt (by omega)
  show 0 ≤ IntKind.i64.wrap ((BitVec.ofInt 64 (a : Int) ^^^ BitVec.ofInt 64 (c : Int)).toNat : Int)
  rw [BitVec.toNat_xor, h1, h2]
  simp [IntKind.wrap, IntKind.bits, IntKind.signed]
  omega

theorem Mid.drewN {lo hi : Nat} {w w' : World} (h : Mid lo hi w w') (n : Nat) : Mid lo hi w (w'.drewN n) := h.trans ⟨rfl, rfl, rfl, Nat.le_refl _, fun _ _ _ => rfl⟩
theorem Rd.drewN {w : World} {b p : Nat} (h : Rd w b p) (n : Nat) : Rd (w.drewN n) b p := h.later (below_drewN (Below.refl _ _) n) (Nat.le_refl _)

set_option maxRecDepth 100000 in
set_option maxHeartbeats 4000000 in
theorem pick_any (b p : Nat) (n : Int) (w : World) (h : Rd w b p) (hp : p ≤ 1000000) (hn : 1 ≤ n) (hn2 : n ≤ 1000000) :
    Calls Tryd.prog 21 #[.pointer (some ⟨b, 0, none⟩), .int .i64 n] w fun e w' => ∃ x : Int, e = .returned (.int .i64 x) ∧ 0 ≤ x ∧ x < n ∧ Rd w' b (p + 1) ∧ Mid b (b + 1) w w' := by
  have hblt := h.lt
  obtain ⟨v, m, hm, hh, hB⟩ := h
  have c0 : w.cell? ⟨b, 0, none⟩ = some v := by rw [cell_of_row w _ _ _ _ _ hh]; rfl
  have c1 : w.cell? ⟨b, 1, none⟩ = some (.int .i64 p) := by rw [cell_of_row w _ _ _ _ _ hh]; rfl
  have f1 : w.frozen? ⟨b, 1, none⟩ = false := frozen_of_row w _ _ _ _ hh
  have HR : Hid (Rd (w.setCell ⟨b, 1, none⟩ (.int .i64 ((p + 1 : Nat) : Int))) b (p + 1)) := rd_set hm hh hB
  obtain ⟨ao, cap, rfl, hc⟩ := hB
  clear hh
  by_cases h0 : m = 0
  · subst h0
    clear hc
    go_enter Tryd.func21, Tryd.ntmps21
    go_wp2
    go_ret
    exact ⟨0, rfl, by omega, by omega, HR.out, Mid.set _⟩
  obtain ⟨g, off, rfl, hg, hz⟩ := hc h0
  by_cases hlt : p < m
  · obtain ⟨z, hz1, hz2, hz3⟩ := hz p hlt
    clear hc hz
    have hgb : g ≠ b := by omega
    go_enter Tryd.func21, Tryd.ntmps21
    go_wp2
    · go_ret
      exact ⟨0, rfl, by omega, by omega, HR.out, Mid.set _⟩
    · go_ret
      exact ⟨z % n, rfl, Int.emod_nonneg _ (by omega), Int.emod_lt_of_pos _ (by omega), HR.out, Mid.set _⟩
  · have hm0 : 0 < m := by omega
    have hgb : g ≠ b := by omega
    obtain ⟨z, hz1, hz2, hz3⟩ := hz (p % m) (Nat.mod_lt _ hm0)
    obtain ⟨y, hy1, hy2, hy3⟩ := hz ((p * 7 + 3) % m) (Nat.mod_lt _ hm0)
    obtain ⟨a, HA⟩ : ∃ a : Nat, Hid (a = p % m) := ⟨_, rfl⟩
    obtain ⟨c, HC⟩ : ∃ c : Nat, Hid (c = (p * 7 + 3) % m) := ⟨_, rfl⟩
    have ha : a < m := by rw [HA.out]; exact Nat.mod_lt _ hm0
    have hcm : c < m := by rw [HC.out]; exact Nat.mod_lt _ hm0
    rw [← HA.out] at hz1
    rw [← HC.out] at hy1
    have hi1 : ((p : Int) % (m : Int)) = (a : Int) := by rw [HA.out]; simp
    have hi2 : (((p : Int) * 7 + 3) % (m : Int)) = (c : Int) := by rw [HC.out]; simp
    obtain ⟨d, HD⟩ : ∃ d : Int, Hid (d = (p : Int) / (m : Int)) := ⟨_, rfl⟩
    have hd0 : 0 ≤ d := by rw [HD.out]; exact Int.ediv_nonneg (by omega) (by omega)
    have hd1 : d ≤ 1000000 := by rw [HD.out]; exact Int.le_trans (Int.ediv_le_self _ (by omega)) (by omega)
    have hi3 : (p : Int) / (m : Int) = d := HD.out.symm
    clear hc hz
    go_enter Tryd.func21, Tryd.ntmps21
    go_wp2
    · go_ret
      exact ⟨0, rfl, by omega, by omega, HR.out, Mid.set _⟩
    · go_quiet (fail)
      go_wp2
      go_ret
      refine ⟨_, rfl, ?_, ?_, HR.out.drewN _, (Mid.set _).drewN _⟩
      · exact Int.tmod_nonneg _ (xor_nonneg _ _ (by omega) (by omega) (by omega) (by omega))
      · exact Int.tmod_lt_of_pos _ (by omega)

end Go.Proofs.YtaogachhmdmoaaaDoor

namespace Go.Proofs.YtaogachhmdmoaaaDoor
open Go.RowKit

set_option maxHeartbeats 600000 in
theorem wanted_any (v : Value) (zs : List Int) (w : World) (hv : Ints w v zs) (hl : zs.length ≤ 1048576) :
    Calls Tryd.prog 39 #[v] w fun e w' => e = .returned (.bool (Pl.manyOk zs)) ∧ w' = w := by
  by_cases h3 : zs.length = 3
  · rcases hv with ⟨rfl, ao, cap, rfl, -⟩ | ⟨b, off, cap, rfl, hz, hc⟩
    · simp at h3
    · have HC : Hid (∀ k, k < zs.length → w.cell? ⟨b, off + k, none⟩ = some (.int .i64 (zs.getD k 0))) := hc
      have H3 : Hid (zs.length = 3) := h3
      clear hz hc
      rw [h3]
      clear h3 hl
      go_enter Tryd.func39, Tryd.ntmps39
      go_wp2
      go_loop [3, 11] (fun s i => ∃ k : Nat, k ≤ 3 ∧ i = .int .i64 k ∧ s = .bool (Pl.anyPos (zs.take k)) ∧ Hid ((zs.take k).all (fun z => Pl.inB z 0 3) = true)) (fun _ i => 3 - (intOf i).toNat)
      case atStart => exact ⟨0, Nat.zero_le _, rfl, rfl, rfl⟩
      case round =>
        obtain ⟨k, hk, rfl, rfl, hall⟩ := hrel
        by_cases hlt : k < 3
        · have hlz : Hid (k < zs.length) := by show _ < _; rw [H3.out]; exact hlt
          obtain ⟨z, HZ⟩ : ∃ z, Hid (z = zs.getD k 0) := ⟨_, rfl⟩
          have hck : w.cell? ⟨b, off + k, none⟩ = some (.int .i64 z) := by rw [HZ.out]; exact HC.out k hlz.out
          by_cases h0 : z < 0
          · have HB : Hid (Pl.manyOk zs = false) := Pl.manyOk_bad zs k hlz.out (by rw [← HZ.out]; exact Pl.inB_lo h0)
            go_wp2
            go_ret
            exact ⟨by rw [HB.out]; rfl, rfl⟩
          by_cases h4 : 3 < z
          · have HB : Hid (Pl.manyOk zs = false) := Pl.manyOk_bad zs k hlz.out (by rw [← HZ.out]; exact Pl.inB_hi h4)
            go_wp2
            go_ret
            exact ⟨by rw [HB.out]; rfl, rfl⟩
          have HA : Hid ((zs.take (k + 1)).all (fun z => Pl.inB z 0 3) = true) := by
            show _ = _
            rw [Pl.all_snoc _ zs k hlz.out, hall.out, ← HZ.out, Pl.inB_mk (by omega) (by omega)]; rfl
          have HS : Hid (Pl.anyPos (zs.take (k + 1)) = (Pl.anyPos (zs.take k) || decide (0 < z))) := by
            show _ = _
            rw [Pl.anyPos_snoc zs k hlz.out, ← HZ.out]
          cases hs : Pl.anyPos (zs.take k)
          · by_cases hp : 0 < z
            all_goals
              go_wp2
              go_round
              case rel => exact ⟨k + 1, by omega, by go_num, by rw [HS.out, hs]; simp; omega, HA⟩
              case measure => simp [intOf]; omega
          · go_wp2
            go_round
            case rel => exact ⟨k + 1, by omega, by go_num, by rw [HS.out, hs]; rfl, HA⟩
            case measure => simp [intOf]; omega
        · have HE : Hid (Pl.manyOk zs = Pl.anyPos (zs.take k)) := by
            show _ = _
            have hke : k = zs.length := by rw [H3.out]; omega
            have := hall.out
            rw [hke, List.take_length] at this ⊢
            exact Pl.manyOk_any zs this H3.out
          go_wp2
          go_ret
          exact ⟨by rw [HE.out]; rfl, rfl⟩
  · have hne : ¬ (zs.length : Int) = 3 := by omega
    rw [Pl.manyOk_len zs h3]
    obtain ⟨ao, cap, rfl⟩ := hv.shape
    clear hv h3
    go_enter Tryd.func39, Tryd.ntmps39
    go_wp2
    go_ret
    exact ⟨rfl, rfl⟩

end Go.Proofs.YtaogachhmdmoaaaDoor

namespace Go.Proofs.YtaogachhmdmoaaaDoor
open Go.RowKit Go.Extern

theorem isTypeOf (v : Value) (w : World) : (Extern.ReflectliteType.typeOf #[.iface 88 v]).run Tryd.prog w = .ok (.iface 78 (.agg #[.pointer (some ⟨1, 88, none⟩)])) w := by kernel_rfl
theorem isComparable (w : World) : Sem.run Tryd.prog (callFunc 64 #[.agg #[.pointer (some ⟨1, 88, none⟩)]]) w = .ok (Next.value (.bool true)) w := by kernel_rfl
theorem isMethodComparable (v : Value) (w : World) : (Go.method 226 78 v "Comparable").run Tryd.prog w = .ok (64, v) w := by kernel_rfl
theorem isComp : (Tryd.prog.info? 88).map (·.comparable) = some true := by kernel_rfl
theorem isSize : (Tryd.prog.info? 114).map (·.size) = some 1 := by kernel_rfl

/-- errors.Is(x, x), x a pointer to an errors.errorString. -/
theorem is_same (a : Addr) (w : World) :
    Calls Tryd.prog 23 #[.iface 88 (.pointer (some a)), .iface 88 (.pointer (some a))] w fun e w' => e = .returned (.bool true) ∧ w' = w := by
  obtain ⟨i, hi, hcmp⟩ := Option.map_eq_some_iff.1 isComp
  obtain ⟨j, hj, hjs⟩ := Option.map_eq_some_iff.1 isSize
  have h8 := @run_callFunc_extern Tryd.prog 37 _ Extern.ReflectliteType.typeOf Tryd.func37 (by kernel_rfl) (by kernel_rfl) (by kernel_rfl) (by kernel_rfl)
  have tT := isTypeOf
  have cT := isComparable
  have mR := isMethodComparable
  have heq := run_eql_iface_ptr_same (P := Tryd.prog) w a Tryd.underlying49 Tryd.underlying88 hi hcmp hj
  go_enter Tryd.func23, Tryd.ntmps23
  go_wp2
  refine wp_loop_rounds 1 ?_
  rw [rounds_succ]
  go_wp2
  go_ret
  exact ⟨rfl, rfl⟩

/-- errors.Is(nil, x). -/
theorem is_nil (b : Addr) (w : World) :
    Calls Tryd.prog 23 #[.nilIface, .iface 88 (.pointer (some b))] w fun e w' => e = .returned (.bool false) ∧ w' = w := by
  have hn := run_eql_iface_nil_left (P := Tryd.prog) w 88 (.pointer (some b)) Tryd.underlying49
  go_enter Tryd.func23, Tryd.ntmps23
  go_wp2
  go_ret
  exact ⟨rfl, rfl⟩

end Go.Proofs.YtaogachhmdmoaaaDoor

namespace Go.Proofs.YtaogachhmdmoaaaDoor
open Go.RowKit

/-- What comes beside an entry: no error, or the sentinel. -/
def errV (ok : Bool) (a : Addr) : Value := if ok then .nilIface else .iface 88 (.pointer (some a))

/-- The sentinel's variable holds this pointer. -/
def ErrAt (w : World) (a : Addr) : Prop := w.cell? ⟨0, 0, none⟩ = some (.iface 88 (.pointer (some a)))

theorem ErrAt.later {B : Nat} {w w' : World} {a : Addr} (h : ErrAt w a) (hb : Below B w w') (hB : w.heap.size ≤ B) : ErrAt w' a := by
  have h2 := World.block_lt_of_cell? _ _ h
  unfold ErrAt at *
  rw [← h]
  exact hb.cell (p := ⟨0, 0, none⟩) (by simp at h2 ⊢; omega)

set_option maxHeartbeats 600000 in
theorem hold_any (t : Int) (v : Value) (zs : List Int) (a : Addr) (w : World) (hv : Ints w v zs) (ha : ErrAt w a) :
    Calls Tryd.prog 34 #[.int .i64 t, v] w fun e w' => (∃ ent, e = .returned (.tuple #[ent, errV (Pl.holdOk zs) a])) ∧ Below w.heap.size w w' := by
  unfold ErrAt at ha
  by_cases h1 : zs.length = 1
  · obtain ⟨z, rfl⟩ := List.length_eq_one_iff.1 h1
    rcases hv with ⟨h, _⟩ | ⟨b, off, cap, rfl, hz, hc⟩
    · simp at h
    have hc0 : w.cell? ⟨b, off, none⟩ = some (.int .i64 z) := hc 0 (by simp)
    clear hc hz h1
    by_cases hz1 : z < 1
    · have HE : Hid (errV (Pl.holdOk [z]) a = .iface 88 (.pointer (some a))) := by
        show _ = _; simp [Pl.holdOk, Pl.inB_lo hz1, errV]
      go_enter Tryd.func34, Tryd.ntmps34
      go_wp2
      go_quiet (fail)
      go_wp2
      go_ret2
      exact ⟨⟨_, by rw [HE.out]; rfl⟩, below_drewN (Below.refl _ _) _⟩
    by_cases hz3 : 3 < z
    · have HE : Hid (errV (Pl.holdOk [z]) a = .iface 88 (.pointer (some a))) := by
        show _ = _; simp [Pl.holdOk, Pl.inB_hi hz3, errV]
      go_enter Tryd.func34, Tryd.ntmps34
      go_wp2
      go_quiet (fail)
      go_wp2
      go_ret2
      exact ⟨⟨_, by rw [HE.out]; rfl⟩, below_drewN (Below.refl _ _) _⟩
    · have HE : Hid (errV (Pl.holdOk [z]) a = .nilIface) := by
        show _ = _; simp [Pl.holdOk, Pl.inB_mk (show 1 ≤ z by omega) (show z ≤ 3 by omega), errV]
      go_enter Tryd.func34, Tryd.ntmps34
      go_wp2
      go_ret2
      exact ⟨⟨_, by rw [HE.out]; rfl⟩, Below.refl _ _⟩
  · have HE : Hid (errV (Pl.holdOk zs) a = .iface 88 (.pointer (some a))) := by
      show _ = _; simp [Pl.holdOk, h1, errV]
    have hne : ¬ (zs.length : Int) = 1 := by omega
    obtain ⟨ao, cap, rfl⟩ := hv.shape
    clear hv h1
    go_enter Tryd.func34, Tryd.ntmps34
    go_wp2
    go_quiet (fail)
    go_wp2
    go_ret2
    exact ⟨⟨_, by rw [HE.out]; rfl⟩, below_drewN (Below.refl _ _) _⟩

set_option maxHeartbeats 600000 in
theorem plain_any (k t : Int) (v : Value) (zs : List Int) (a : Addr) (w : World) (hv : Ints w v zs) (ha : ErrAt w a) :
    Calls Tryd.prog 36 #[.int .i64 k, .int .i64 t, v] w fun e w' => (∃ ent, e = .returned (.tuple #[ent, errV (zs.length == 0) a])) ∧ Below w.heap.size w w' := by
  unfold ErrAt at ha
  obtain ⟨ao, cap, rfl⟩ := hv.shape
  clear hv
  by_cases h1 : (zs.length : Int) = 0
  · have HE : Hid (errV (zs.length == 0) a = .nilIface) := by
      have : zs.length = 0 := by omega
      show _ = _; simp [this, errV]
    go_enter Tryd.func36, Tryd.ntmps36
    go_wp2
    go_ret2
    exact ⟨⟨_, by rw [HE.out]; rfl⟩, Below.refl _ _⟩
  · have HE : Hid (errV (zs.length == 0) a = .iface 88 (.pointer (some a))) := by
      have : (zs.length == 0) = false := beq_eq_false_iff_ne.2 (by omega)
      show _ = _; rw [this]; rfl
    go_enter Tryd.func36, Tryd.ntmps36
    go_wp2
    go_quiet (fail)
    go_wp2
    go_ret2
    exact ⟨⟨_, by rw [HE.out]; rfl⟩, below_drewN (Below.refl _ _) _⟩

set_option maxHeartbeats 1000000 in
theorem begin_any (t : Int) (v : Value) (zs : List Int) (a : Addr) (w : World) (hv : Ints w v zs) (hl : zs.length ≤ 1048576) (ha : ErrAt w a) :
    Calls Tryd.prog 35 #[.int .i64 t, v] w fun e w' => (∃ ent, e = .returned (.tuple #[ent, errV (Pl.manyOk zs) a])) ∧ Below w.heap.size w w' := by
  unfold ErrAt at ha
  have hw := wanted_any v zs w hv hl
  cases hm : Pl.manyOk zs
  · have HE : Hid (errV false a = .iface 88 (.pointer (some a))) := rfl
    rw [hm] at hw
    have HW := hw
    clear hw
    obtain ⟨ao, cap, rfl⟩ := hv.shape
    clear hv hm
    go_enter Tryd.func35, Tryd.ntmps35
    go_wp2_with (go_at_call 39; refine HW.mono ?_; rintro e w' ⟨rfl, rfl⟩)
    go_quiet (fail)
    go_wp2
    go_ret2
    exact ⟨⟨_, by rw [HE.out]; rfl⟩, below_drewN (Below.refl _ _) _⟩
  · have HE : Hid (errV true a = .nilIface) := rfl
    rw [hm] at hw
    have HW := hw
    clear hw ha
    have h3 : zs.length = 3 := by
      by_cases h : zs.length = 3
      · exact h
      · rw [Pl.manyOk_len zs h] at hm; simp at hm
    obtain ⟨z0, z1, z2, rfl⟩ : ∃ z0 z1 z2, zs = [z0, z1, z2] := by
      match zs, h3 with
      | [z0, z1, z2], _ => exact ⟨z0, z1, z2, rfl⟩
    rcases hv with ⟨h, _⟩ | ⟨b, off, cap, rfl, hz, hc⟩
    · simp at h
    have hc0 : w.cell? ⟨b, off, none⟩ = some (.int .i64 z0) := hc 0 (by simp)
    have hc1 : w.cell? ⟨b, off + 1, none⟩ = some (.int .i64 z1) := hc 1 (by simp)
    have hc2 : w.cell? ⟨b, off + 2, none⟩ = some (.int .i64 z2) := hc 2 (by simp)
    have hbw : b < w.heap.size := World.block_lt_of_cell? _ _ hc0
    clear hc hz hm h3 hl
    go_enter Tryd.func35, Tryd.ntmps35
    go_wp2_with (go_at_call 39; refine HW.mono ?_; rintro e w' ⟨rfl, rfl⟩)
    refine wp_loop_rounds 4 ?_
    rw [rounds_succ]
    go_wp2
    rw [rounds_succ]
    go_wp2
    rw [rounds_succ]
    go_wp2
    rw [rounds_succ]
    go_wp2
    go_ret2
    exact ⟨⟨_, by rw [HE.out]; rfl⟩, (Below.refl _ _).alloc (Nat.le_refl _) _⟩

end Go.Proofs.YtaogachhmdmoaaaDoor

namespace Go.Proofs.YtaogachhmdmoaaaDoor
open Go.RowKit

theorem alloc_below (w : World) (o : Obj) : Below w.heap.size w (w.alloc o) := (Below.refl _ _).alloc (Nat.le_refl _) o
theorem below_after {w : World} {o : Obj} {w' : World} (h : Below (w.alloc o).heap.size (w.alloc o) w') : Below w.heap.size w w' :=
  (alloc_below w o).trans (h.mono (by simp))

set_option maxHeartbeats 2000000 in
theorem entry_any (k t : Int) (v : Value) (zs : List Int) (a : Addr) (w : World) (hv : Ints w v zs) (hl : zs.length ≤ 1048576) (ha : ErrAt w a) :
    Calls Tryd.prog 22 #[.agg #[.int .i64 k, .int .i64 t, v]] w fun e w' => (∃ ent, e = .returned (.tuple #[ent, errV (Pl.recOk k t zs) a])) ∧ Below w.heap.size w w' := by
  have hv1 : Hid (∀ o, Ints (w.alloc o) v zs) := fun o => hv.later (alloc_below w o) (Nat.le_refl _)
  have ha1 : Hid (∀ o, ErrAt (w.alloc o) a) := fun o => ha.later (alloc_below w o) (Nat.le_refl _)
  have hb0 : 0 < w.heap.size := World.block_lt_of_cell? _ _ ha
  unfold ErrAt at ha
  clear hv
  by_cases ht1 : t < 1
  · have HE : Hid (errV (Pl.recOk k t zs) a = .iface 88 (.pointer (some a))) := by
      show _ = _; rw [Pl.recOk_t k t zs (Pl.inB_lo ht1)]; rfl
    go_enter Tryd.func22, Tryd.ntmps22
    go_wp2
    go_quiet (fail)
    go_wp2
    go_ret2
    exact ⟨⟨_, by rw [HE.out]; rfl⟩, below_drewN (alloc_below _ _) _⟩
  by_cases ht6 : 6 < t
  · have HE : Hid (errV (Pl.recOk k t zs) a = .iface 88 (.pointer (some a))) := by
      show _ = _; rw [Pl.recOk_t k t zs (Pl.inB_hi ht6)]; rfl
    go_enter Tryd.func22, Tryd.ntmps22
    go_wp2
    go_quiet (fail)
    go_wp2
    go_ret2
    exact ⟨⟨_, by rw [HE.out]; rfl⟩, below_drewN (alloc_below _ _) _⟩
  have HT : Hid (Pl.inB t 1 6 = true) := Pl.inB_mk (by omega) (by omega)
  by_cases h1 : k = 1
  · subst h1
    have HE : Hid (Pl.recOk 1 t zs = Pl.holdOk zs) := Pl.recOk_1 t zs HT.out
    go_enter Tryd.func22, Tryd.ntmps22
    go_wp2_with (go_at_call 34; refine (hold_any _ _ zs a _ (hv1.out _) (ha1.out _)).mono ?_; rintro e w' ⟨⟨ent, rfl⟩, hb⟩)
    go_ret2
    exact ⟨⟨_, by rw [HE.out]; rfl⟩, below_after (by assumption)⟩
  by_cases h4 : k = 4
  · subst h4
    have HE : Hid (Pl.recOk 4 t zs = Pl.manyOk zs) := Pl.recOk_4 t zs HT.out
    go_enter Tryd.func22, Tryd.ntmps22
    go_wp2_with (go_at_call 35; refine (begin_any _ _ zs a _ (hv1.out _) hl (ha1.out _)).mono ?_; rintro e w' ⟨⟨ent, rfl⟩, hb⟩)
    go_ret2
    exact ⟨⟨_, by rw [HE.out]; rfl⟩, below_after (by assumption)⟩
  cases hk : Pl.inB k 2 7
  · have HE : Hid (errV (Pl.recOk k t zs) a = .iface 88 (.pointer (some a))) := by
      show _ = _; rw [Pl.recOk_none k t zs HT.out h1 h4 hk]; rfl
    have hk' := Pl.inB_false hk
    have h2 : ¬ k = 2 := by omega
    have h3 : ¬ k = 3 := by omega
    have h5 : ¬ k = 5 := by omega
    have h6 : ¬ k = 6 := by omega
    have h7 : ¬ k = 7 := by omega
    clear hk' hk
    go_enter Tryd.func22, Tryd.ntmps22
    go_wp2
    go_quiet (fail)
    go_wp2
    go_ret2
    exact ⟨⟨_, by rw [HE.out]; rfl⟩, below_drewN (alloc_below _ _) _⟩
  · have HE : Hid (Pl.recOk k t zs = (zs.length == 0)) := Pl.recOk_plain k t zs HT.out h1 h4 hk
    have hk' := Pl.inB_true hk
    clear hk
    rcases (show k = 2 ∨ k = 3 ∨ k = 5 ∨ k = 6 ∨ k = 7 by omega) with rfl | rfl | rfl | rfl | rfl
    all_goals
      clear hk' h1 h4
      go_enter Tryd.func22, Tryd.ntmps22
      go_wp2_with (go_at_call 36; refine (plain_any _ _ _ zs a _ (hv1.out _) (ha1.out _)).mono ?_; rintro e w' ⟨⟨ent, rfl⟩, hb⟩)
      go_ret2
      exact ⟨⟨_, by rw [HE.out]; rfl⟩, below_after (by assumption)⟩

theorem entry_yes (k t : Int) (v : Value) (zs : List Int) (a : Addr) (w : World) (hv : Ints w v zs) (hl : zs.length ≤ 1048576) (ha : ErrAt w a) (h : Pl.recOk k t zs = true) :
    Calls Tryd.prog 22 #[.agg #[.int .i64 k, .int .i64 t, v]] w fun e w' => (∃ ent, e = .returned (.tuple #[ent, .nilIface])) ∧ Below w.heap.size w w' := by
  have := entry_any k t v zs a w hv hl ha
  rw [h] at this
  exact this
theorem entry_no (k t : Int) (v : Value) (zs : List Int) (a : Addr) (w : World) (hv : Ints w v zs) (hl : zs.length ≤ 1048576) (ha : ErrAt w a) (h : Pl.recOk k t zs = false) :
    Calls Tryd.prog 22 #[.agg #[.int .i64 k, .int .i64 t, v]] w fun e w' => (∃ ent, e = .returned (.tuple #[ent, .iface 88 (.pointer (some a))])) ∧ Below w.heap.size w w' := by
  have := entry_any k t v zs a w hv hl ha
  rw [h] at this
  exact this

set_option maxHeartbeats 1000000 in
theorem implOk_any (k t : Int) (v : Value) (zs : List Int) (a : Addr) (w : World) (hv : Ints w v zs) (hl : zs.length ≤ 1048576) (ha : ErrAt w a) :
    Calls Tryd.prog 8 #[.agg #[.int .i64 k, .int .i64 t, v]] w fun e w' => e = .returned (.bool (Pl.recOk k t zs)) ∧ Below w.heap.size w w' := by
  have hv1 : Hid (∀ o, Ints (w.alloc o) v zs) := fun o => hv.later (alloc_below w o) (Nat.le_refl _)
  have ha1 : Hid (∀ o, ErrAt (w.alloc o) a) := fun o => ha.later (alloc_below w o) (Nat.le_refl _)
  clear hv ha
  cases hr : Pl.recOk k t zs
  · have HR : Hid (Pl.recOk k t zs = false) := hr
    clear hr
    go_enter Tryd.func8, Tryd.ntmps8
    go_wp2_with (first
      | (go_at_call 22; refine (entry_no k t v zs a _ (hv1.out _) hl (ha1.out _) HR.out).mono ?_; rintro e w1 ⟨⟨ent, rfl⟩, hb⟩; have ha2 := (ha1.out _).later hb (Nat.le_refl _); unfold ErrAt at ha2)
      | (go_at_call 23; refine (is_same a _).mono ?_; rintro e w2 ⟨rfl, rfl⟩))
    go_ret
    exact ⟨rfl, below_after (by assumption)⟩
  · have HR : Hid (Pl.recOk k t zs = true) := hr
    clear hr
    go_enter Tryd.func8, Tryd.ntmps8
    go_wp2_with (first
      | (go_at_call 22; refine (entry_yes k t v zs a _ (hv1.out _) hl (ha1.out _) HR.out).mono ?_; rintro e w1 ⟨⟨ent, rfl⟩, hb⟩; have ha2 := (ha1.out _).later hb (Nat.le_refl _); unfold ErrAt at ha2)
      | (go_at_call 23; refine (is_nil a _).mono ?_; rintro e w2 ⟨rfl, rfl⟩))
    go_ret
    exact ⟨rfl, below_after (by assumption)⟩

end Go.Proofs.YtaogachhmdmoaaaDoor

namespace Go.Proofs.YtaogachhmdmoaaaDoor
open Go.RowKit

/-- A list of numbers in a block of numbers from lo on. -/
def Fresh (W : World) (lo : Nat) (u : Value) (zs : List Int) (cap : Nat) : Prop :=
  ∃ g off cs, u = .slice (some ⟨g, off, none⟩) zs.length cap ∧ lo ≤ g ∧ W.heap[g]? = some (.cells cs 3 (0, 0)) ∧ ∀ k, k < zs.length → cs[off + k]? = some (.int .i64 (zs.getD k 0))

theorem Fresh.ints {W : World} {lo : Nat} {u : Value} {zs : List Int} {cap : Nat} (h : Fresh W lo u zs cap) : Ints W u zs := by
  obtain ⟨g, off, cs, hu, _, hh, hc⟩ := h
  by_cases hz : zs = []
  · subst hz
    exact Or.inl ⟨rfl, _, cap, hu, fun h => by cases h⟩
  · exact Or.inr ⟨g, off, cap, hu, hz, fun k hk => by rw [cell_of_row W _ _ _ _ _ hh]; exact hc k hk⟩
theorem Fresh.keep {W W' : World} {lo : Nat} {u : Value} {zs : List Int} {cap : Nat} (h : Fresh W lo u zs cap) (hk : ∀ (g : Nat) (cs : Array Value), W.heap[g]? = some (.cells cs 3 (0, 0)) → W'.heap[g]? = W.heap[g]?) : Fresh W' lo u zs cap := by
  obtain ⟨g, off, cs, hu, hl, hh, hc⟩ := h
  exact ⟨g, off, cs, hu, hl, by rw [hk g cs hh]; exact hh, hc⟩
theorem heap_lt {W : World} {g : Nat} {o : Obj} (h : W.heap[g]? = some o) : g < W.heap.size := by
  by_cases e : g < W.heap.size
  · exact e
  · rw [Array.getElem?_eq_none (by omega)] at h; cases h
theorem Fresh.later {W W' : World} {lo B : Nat} {u : Value} {zs : List Int} {cap : Nat} (h : Fresh W lo u zs cap) (hb : Below B W W') (hB : W.heap.size ≤ B) : Fresh W' lo u zs cap :=
  h.keep fun g _ hh => hb.block g (by have := heap_lt hh; omega)
theorem Fresh.mid {W W' : World} {lo b q : Nat} {u : Value} {zs : List Int} {cap : Nat} (h : Fresh W lo u zs cap) (hr : Rd W b q) (hb : Mid b (b + 1) W W') : Fresh W' lo u zs cap :=
  h.keep fun g cs hh => hb.block g (heap_lt hh) (by
    obtain ⟨v, n, _, h1, _⟩ := hr
    by_cases e : g = b
    · subst e; rw [hh] at h1; simp at h1
    · omega)
theorem Fresh.set {W : World} {lo X i : Nat} {cs : Array Value} {ty : TypeId} {u : Value} {zs : List Int} {cap : Nat} (h : Fresh W lo u zs cap) (hX : W.heap[X]? = some (.cells cs ty (0, 0))) (ht : ty ≠ 3) (x : Value) : Fresh (W.setCell ⟨X, i, none⟩ x) lo u zs cap :=
  h.keep fun g cs' hh => Below.heap_setCell _ _ _ _ (by
    intro e; simp at e; subst e; rw [hh] at hX; simp at hX; exact ht hX.2.symm)
theorem Fresh.mono {W : World} {lo lo' : Nat} {u : Value} {zs : List Int} {cap : Nat} (h : Fresh W lo u zs cap) (hl : lo' ≤ lo) : Fresh W lo' u zs cap := by
  obtain ⟨g, off, cs, hu, h1, r⟩ := h
  exact ⟨g, off, cs, hu, by omega, r⟩

/-- Three numbers fill a block. -/
def Row3 (W : World) (g : Nat) (a0 a1 a2 : Int) : Prop := W.heap[g]? = some (.cells #[.int .i64 a0, .int .i64 a1, .int .i64 a2] 3 (0, 0))

theorem Row3.lt {W : World} {g : Nat} {a0 a1 a2 : Int} (h : Row3 W g a0 a1 a2) : g < W.heap.size := by
  by_cases e : g < W.heap.size
  · exact e
  · unfold Row3 at h; rw [Array.getElem?_eq_none (by omega)] at h; cases h
theorem Row3.new (W : World) (a0 a1 a2 : Int) : Row3 (W.alloc (.cells #[.int .i64 a0, .int .i64 a1, .int .i64 a2] 3)) W.heap.size a0 a1 a2 := heap_alloc_new W _
theorem Row3.mid {W W' : World} {g b : Nat} {a0 a1 a2 : Int} (h : Row3 W g a0 a1 a2) (hb : Mid b (b + 1) W W') (hg : b < g) : Row3 W' g a0 a1 a2 := by
  have hl := h.lt
  unfold Row3
  rw [hb.block g hl (Or.inr (by omega))]; exact h
theorem Row3.later {W W' : World} {g B : Nat} {a0 a1 a2 : Int} (h : Row3 W g a0 a1 a2) (hb : Below B W W') (hB : W.heap.size ≤ B) : Row3 W' g a0 a1 a2 := by
  have hl := h.lt
  unfold Row3
  rw [hb.block g (by omega)]; exact h
theorem Row3.drewN {W : World} {g : Nat} {a0 a1 a2 : Int} (h : Row3 W g a0 a1 a2) (n : Nat) : Row3 (W.drewN n) g a0 a1 a2 := h
theorem Row3.cells {W : World} {g : Nat} {a0 a1 a2 : Int} (h : Row3 W g a0 a1 a2) :
    W.cell? ⟨g, 0, none⟩ = some (.int .i64 a0) ∧ W.cell? ⟨g, 1, none⟩ = some (.int .i64 a1) ∧ W.cell? ⟨g, 2, none⟩ = some (.int .i64 a2) ∧
    W.frozen? ⟨g, 0, none⟩ = false ∧ W.frozen? ⟨g, 1, none⟩ = false ∧ W.frozen? ⟨g, 2, none⟩ = false := by
  refine ⟨?_, ?_, ?_, frozen_of_row W _ _ _ _ h, frozen_of_row W _ _ _ _ h, frozen_of_row W _ _ _ _ h⟩
  all_goals (rw [cell_of_row W _ _ _ _ _ h]; rfl)
theorem Row3.set0 {W : World} {g : Nat} {a0 a1 a2 : Int} (h : Row3 W g a0 a1 a2) (x : Int) : Row3 (W.setCell ⟨g, 0, none⟩ (.int .i64 x)) g x a1 a2 := by
  unfold Row3; rw [heap_setCell_same W g 0 _ _ _ h]; simp
theorem Row3.set1 {W : World} {g : Nat} {a0 a1 a2 : Int} (h : Row3 W g a0 a1 a2) (x : Int) : Row3 (W.setCell ⟨g, 1, none⟩ (.int .i64 x)) g a0 x a2 := by
  unfold Row3; rw [heap_setCell_same W g 1 _ _ _ h]; simp
theorem Row3.set2 {W : World} {g : Nat} {a0 a1 a2 : Int} (h : Row3 W g a0 a1 a2) (x : Int) : Row3 (W.setCell ⟨g, 2, none⟩ (.int .i64 x)) g a0 a1 x := by
  unfold Row3; rw [heap_setCell_same W g 2 _ _ _ h]; simp
theorem Row3.fresh {W : World} {g lo : Nat} {a0 a1 a2 : Int} (h : Row3 W g a0 a1 a2) (hl : lo ≤ g) : Fresh W lo (.slice (some ⟨g, 0, none⟩) 3 3) [a0, a1, a2] 3 := by
  refine ⟨g, 0, _, rfl, hl, h, fun k hk => ?_⟩
  match k, hk with
  | 0, _ => rfl
  | 1, _ => rfl
  | 2, _ => rfl
theorem Row3.fresh1 {W : World} {g lo : Nat} {a0 a1 a2 : Int} (h : Row3 W g a0 a1 a2) (hl : lo ≤ g) : Fresh W lo (.slice (some ⟨g, 1, none⟩) 2 2) [a1, a2] 2 := by
  refine ⟨g, 1, _, rfl, hl, h, fun k hk => ?_⟩
  match k, hk with
  | 0, _ => rfl
  | 1, _ => rfl

theorem Mid.setNew {w W : World} {b g i : Nat} (h : Mid b (b + 1) w W) (hg : w.heap.size ≤ g) (x : Value) : Mid b (b + 1) w (W.setCell ⟨g, i, none⟩ x) :=
  ⟨h.os, h.tape, h.output, by simpa using h.size, fun k hk hh => by rw [Below.heap_setCell _ _ _ _ (by simp; omega)]; exact h.block k hk hh⟩
theorem Mid.alloc {w W : World} {b : Nat} (h : Mid b (b + 1) w W) (o : Obj) : Mid b (b + 1) w (W.alloc o) :=
  h.trans (Mid.of_below (alloc_below W o) (Nat.le_refl _))
theorem Rd.setApart {W : World} {b p g i : Nat} (h : Rd W b p) (hg : b < g) (x : Value) : Rd (W.setCell ⟨g, i, none⟩ x) b p := by
  obtain ⟨v, n, hn, h1, h2⟩ := h
  exact ⟨v, n, hn, by rw [Below.heap_setCell _ _ _ _ (by simp; omega)]; exact h1, h2.mid (fun k hk => Below.heap_setCell _ _ _ _ (by simp; omega))⟩
theorem Rd.alloc {W : World} {b p : Nat} (h : Rd W b p) (o : Obj) : Rd (W.alloc o) b p := h.later (alloc_below W o) (Nat.le_refl _)

/-- What lies there while the numbers are drawn. -/
def StM (w W : World) (b q g : Nat) (a0 a1 a2 : Int) : Prop := Row3 W g a0 a1 a2 ∧ w.heap.size ≤ g ∧ b < g ∧ Rd W b q ∧ Mid b (b + 1) w W

theorem three {x : Int} (h0 : 0 ≤ x) (h1 : x < 3) : x = 0 ∨ x = 1 ∨ x = 2 := by omega

end Go.Proofs.YtaogachhmdmoaaaDoor

namespace Go.Proofs.YtaogachhmdmoaaaDoor
open Go.RowKit

set_option maxRecDepth 100000 in
set_option maxHeartbeats 4000000 in
theorem many_draw (b p : Nat) (w : World) (h : Rd w b p) (hp : p ≤ 900000) :
    Calls Tryd.prog 33 #[.pointer (some ⟨b, 0, none⟩)] w fun e w' => ∃ u zs q, e = .returned u ∧ zs.length ≤ 3 ∧ Fresh w' w.heap.size u zs zs.length ∧ p ≤ q ∧ q ≤ p + 8 ∧ Rd w' b q ∧ Mid b (b + 1) w w' := by
  have hblt := h.lt
  have HR := hide_it h
  clear h
  go_enter Tryd.func33, Tryd.ntmps33
  go_wp2_with fail
  refine (pick_any b p 3 w HR.out (by omega) (by omega) (by omega)).mono ?_
  rintro e w1 ⟨x1, rfl, l1, u1, r1, m1⟩
  have HR1 := hide_it r1
  have HM1 := hide_it m1
  clear r1 m1
  go_wp2_with fail
  refine (pick_any b (p + 1) 3 w1 HR1.out (by omega) (by omega) (by omega)).mono ?_
  rintro e w2 ⟨x2, rfl, l2, u2, r2, m2⟩
  have HR2 := hide_it r2
  have HM2 := hide_it (HM1.out.trans m2)
  clear r2 m2 HR1 HM1
  go_wp2_with fail
  refine (pick_any b (p + 1 + 1) 3 w2 HR2.out (by omega) (by omega) (by omega)).mono ?_
  rintro e w3 ⟨x3, rfl, l3, u3, r3, m3⟩
  have HR3 := hide_it r3
  have HM3 := hide_it (HM2.out.trans m3)
  have hs3 : w.heap.size ≤ w3.heap.size := HM3.out.size
  clear r3 m3 HR2 HM2
  go_wp2_with fail
  go_quiet (fail)
  go_upto_if 22 with fail
  go_cut [3] (fun o W => ∃ g a0 a1 a2 q, o = .slice (some ⟨g, 0, none⟩) 3 3 ∧ p ≤ q ∧ q ≤ p + 4 ∧ Hid (StM w W b q g a0 a1 a2))
  case first =>
    go_wp2_with fail
    · refine (pick_any b (p + 1 + 1 + 1) 3 _ ((HR3.out.alloc _).drewN _) (by omega) (by omega) (by omega)).mono ?_
      rintro e w4 ⟨x4, rfl, l4, u4, r4, m4⟩
      have S4 : Hid (StM w w4 b (p + 4) w3.heap.size x1 x2 x3) := ⟨((Row3.new w3 x1 x2 x3).drewN _).mid m4 (by omega), hs3, by omega, r4, ((HM3.out.alloc _).drewN _).trans m4⟩
      clear r4 m4
      obtain ⟨c0, c1, c2, f0, f1, f2⟩ := S4.out.1.cells
      rcases three l4 u4 with rfl | rfl | rfl
      · go_wp2_with fail
        go_meet
        case rel => exact ⟨w3.heap.size, 1, x2, x3, p + 4, rfl, by omega, by omega, S4.out.1.set0 1, hs3, by omega, S4.out.2.2.2.1.setApart (by omega) _, S4.out.2.2.2.2.setNew hs3 _⟩
      · go_wp2_with fail
        go_meet
        case rel => exact ⟨w3.heap.size, x1, 1, x3, p + 4, rfl, by omega, by omega, S4.out.1.set1 1, hs3, by omega, S4.out.2.2.2.1.setApart (by omega) _, S4.out.2.2.2.2.setNew hs3 _⟩
      · go_wp2_with fail
        go_meet
        case rel => exact ⟨w3.heap.size, x1, x2, 1, p + 4, rfl, by omega, by omega, S4.out.1.set2 1, hs3, by omega, S4.out.2.2.2.1.setApart (by omega) _, S4.out.2.2.2.2.setNew hs3 _⟩
    · go_meet
      case rel => exact ⟨w3.heap.size, x1, x2, x3, p + 3, rfl, by omega, by omega, (Row3.new w3 x1 x2 x3).drewN _, hs3, by omega, (HR3.out.alloc _).drewN _, (HM3.out.alloc _).drewN _⟩
  case rest =>
    obtain ⟨g, a0, a1, a2, q, rfl, hq0, hq1, HS⟩ := hcut
    clear HR HR3 HM3 hs3 l1 l2 l3 u1 u2 u3
    have hgb : b < g := HS.out.2.2.1
    have hwg : w.heap.size ≤ g := HS.out.2.1
    go_wp2_with fail
    refine (pick_any b q 24 _ HS.out.2.2.2.1 (by omega) (by omega) (by omega)).mono ?_
    rintro e w5 ⟨y, rfl, ly, uy, r5, m5⟩
    have S5 : Hid (StM w w5 b (q + 1) g a0 a1 a2) := ⟨HS.out.1.mid m5 hgb, hwg, hgb, r5, HS.out.2.2.2.2.trans m5⟩
    clear r5 m5 HS
    obtain ⟨c0, c1, c2, f0, f1, f2⟩ := S5.out.1.cells
    by_cases y0 : y = 0
    · subst y0
      go_wp2_with fail
      refine (pick_any b (q + 1) 3 _ S5.out.2.2.2.1 (by omega) (by omega) (by omega)).mono ?_
      rintro e w6 ⟨z, rfl, lz, uz, r6, m6⟩
      have S6 : Hid (StM w w6 b (q + 2) g a0 a1 a2) := ⟨S5.out.1.mid m6 hgb, hwg, hgb, r6, S5.out.2.2.2.2.trans m6⟩
      clear r6 m6 S5 c0 c1 c2 f0 f1 f2
      have hs6 : g < w6.heap.size := S6.out.1.lt
      go_wp2_with fail
      refine (pick_any b (q + 2) 3 _ (S6.out.2.2.2.1.alloc _) (by omega) (by omega) (by omega)).mono ?_
      rintro e w7 ⟨t, rfl, lt, ut, r7, m7⟩
      have S7 : Hid (StM w w7 b (q + 3) g a0 a1 a2) := ⟨(S6.out.1.later (alloc_below _ _) (Nat.le_refl _)).mid m7 hgb, hwg, hgb, r7, (S6.out.2.2.2.2.alloc _).trans m7⟩
      have N7 : Hid (Row3 w7 w6.heap.size (-1) 3 4) := (Row3.new w6 (-1) 3 4).mid m7 (by omega)
      clear r7 m7 S6
      obtain ⟨c0, c1, c2, f0, f1, f2⟩ := S7.out.1.cells
      obtain ⟨d0, d1, d2, _, _, _⟩ := N7.out.cells
      rcases three lz uz with rfl | rfl | rfl
      · rcases three lt ut with rfl | rfl | rfl
        all_goals
          go_wp2
          go_ret
          exact ⟨_, [_, _, _], q + 3, rfl, by simp, (S7.out.1.set0 _).fresh hwg, by omega, by omega, S7.out.2.2.2.1.setApart (by omega) _, S7.out.2.2.2.2.setNew hwg _⟩
      · rcases three lt ut with rfl | rfl | rfl
        all_goals
          go_wp2
          go_ret
          exact ⟨_, [_, _, _], q + 3, rfl, by simp, (S7.out.1.set1 _).fresh hwg, by omega, by omega, S7.out.2.2.2.1.setApart (by omega) _, S7.out.2.2.2.2.setNew hwg _⟩
      · rcases three lt ut with rfl | rfl | rfl
        all_goals
          go_wp2
          go_ret
          exact ⟨_, [_, _, _], q + 3, rfl, by simp, (S7.out.1.set2 _).fresh hwg, by omega, by omega, S7.out.2.2.2.1.setApart (by omega) _, S7.out.2.2.2.2.setNew hwg _⟩
    by_cases y1 : y = 1
    · subst y1
      go_wp2
      go_ret
      exact ⟨_, [a1, a2], q + 1, rfl, by simp, S5.out.1.fresh1 hwg, by omega, by omega, S5.out.2.2.2.1, S5.out.2.2.2.2⟩
    by_cases y2 : y = 2
    · subst y2
      have hs5 : g < w5.heap.size := S5.out.1.lt
      go_wp2
      go_ret
      exact ⟨_, [0, 0, 0], q + 1, rfl, by simp, (Row3.new w5 0 0 0).fresh (by omega), by omega, by omega, S5.out.2.2.2.1.alloc _, S5.out.2.2.2.2.alloc _⟩
    go_wp2
    go_ret
    exact ⟨_, [a0, a1, a2], q + 1, rfl, by simp, S5.out.1.fresh hwg, by omega, by omega, S5.out.2.2.2.1, S5.out.2.2.2.2⟩

end Go.Proofs.YtaogachhmdmoaaaDoor

namespace Go.Proofs.YtaogachhmdmoaaaDoor
open Go.RowKit

/-- What lies there while a record is drawn: the result's block, the record's own, its numbers, the reader. -/
structure StR (w W : World) (b q X : Nat) (k t : Int) (u : Value) (zs : List Int) : Prop where
  own : W.heap[X]? = some (.cells #[.int .i64 k, .int .i64 t, u] 25 (0, 0))
  res : W.heap[w.heap.size]? = some (.cells #[.int .i64 0, .int .i64 0, .slice none 0 0] 25 (0, 0))
  lt : w.heap.size < X
  many : Fresh W w.heap.size u zs zs.length
  few : zs.length ≤ 3
  rd : Rd W b q
  mid : Mid b (b + 1) w W
  low : b < w.heap.size

theorem row_later {W W' : World} {X B : Nat} {o : Obj} (h : W.heap[X]? = some o) (hb : Below B W W') (hB : W.heap.size ≤ B) : W'.heap[X]? = some o := by
  rw [hb.block X (by have := heap_lt h; omega)]; exact h
theorem row_mid {W W' : World} {X b : Nat} {o : Obj} (h : W.heap[X]? = some o) (hb : Mid b (b + 1) W W') (hx : b < X) : W'.heap[X]? = some o := by
  rw [hb.block X (heap_lt h) (Or.inr (by omega))]; exact h

theorem StR.step {w W W' : World} {b q q' X : Nat} {k t : Int} {u : Value} {zs : List Int} (h : StR w W b q X k t u zs) (hb : Mid b (b + 1) W W') (hr : Rd W' b q') : StR w W' b q' X k t u zs :=
  ⟨row_mid h.own hb (by have := h.lt; have := h.low; omega), row_mid h.res hb h.low, h.lt, h.many.mid h.rd hb, h.few, hr, h.mid.trans hb, h.low⟩
theorem StR.later {w W W' : World} {b q X : Nat} {k t : Int} {u : Value} {zs : List Int} (h : StR w W b q X k t u zs) (hb : Below W.heap.size W W') : StR w W' b q X k t u zs :=
  h.step (Mid.of_below hb (Nat.le_refl _)) (h.rd.later hb (Nat.le_refl _))
theorem StR.cells {w W : World} {b q X : Nat} {k t : Int} {u : Value} {zs : List Int} (h : StR w W b q X k t u zs) :
    (W.cell? ⟨X, 0, none⟩ = some (.int .i64 k) ∧ W.cell? ⟨X, 1, none⟩ = some (.int .i64 t) ∧ W.cell? ⟨X, 2, none⟩ = some u ∧
    W.frozen? ⟨X, 0, none⟩ = false ∧ W.frozen? ⟨X, 1, none⟩ = false ∧ W.frozen? ⟨X, 2, none⟩ = false) ∧
    (W.cell? ⟨w.heap.size, 0, none⟩ = some (.int .i64 0) ∧ W.cell? ⟨w.heap.size, 1, none⟩ = some (.int .i64 0) ∧ W.cell? ⟨w.heap.size, 2, none⟩ = some (.slice none 0 0) ∧
    W.frozen? ⟨w.heap.size, 0, none⟩ = false ∧ W.frozen? ⟨w.heap.size, 1, none⟩ = false ∧ W.frozen? ⟨w.heap.size, 2, none⟩ = false) := by
  refine ⟨⟨?_, ?_, ?_, frozen_of_row W _ _ _ _ h.own, frozen_of_row W _ _ _ _ h.own, frozen_of_row W _ _ _ _ h.own⟩, ⟨?_, ?_, ?_, frozen_of_row W _ _ _ _ h.res, frozen_of_row W _ _ _ _ h.res, frozen_of_row W _ _ _ _ h.res⟩⟩
  · rw [cell_of_row W _ _ _ _ _ h.own]; rfl
  · rw [cell_of_row W _ _ _ _ _ h.own]; rfl
  · rw [cell_of_row W _ _ _ _ _ h.own]; rfl
  · rw [cell_of_row W _ _ _ _ _ h.res]; rfl
  · rw [cell_of_row W _ _ _ _ _ h.res]; rfl
  · rw [cell_of_row W _ _ _ _ _ h.res]; rfl
theorem StR.set0 {w W : World} {b q X : Nat} {k t : Int} {u : Value} {zs : List Int} (h : StR w W b q X k t u zs) (x : Int) : StR w (W.setCell ⟨X, 0, none⟩ (.int .i64 x)) b q X x t u zs :=
  have hl := h.lt
  have hw := h.low
  ⟨by rw [heap_setCell_same W X 0 _ _ _ h.own]; simp, by rw [Below.heap_setCell _ _ _ _ (by simp; omega)]; exact h.res, hl, h.many.set h.own (by decide) _, h.few, h.rd.setApart (by omega) _, h.mid.setNew (by omega) _, hw⟩
theorem StR.set1 {w W : World} {b q X : Nat} {k t : Int} {u : Value} {zs : List Int} (h : StR w W b q X k t u zs) (x : Int) : StR w (W.setCell ⟨X, 1, none⟩ (.int .i64 x)) b q X k x u zs :=
  have hl := h.lt
  have hw := h.low
  ⟨by rw [heap_setCell_same W X 1 _ _ _ h.own]; simp, by rw [Below.heap_setCell _ _ _ _ (by simp; omega)]; exact h.res, hl, h.many.set h.own (by decide) _, h.few, h.rd.setApart (by omega) _, h.mid.setNew (by omega) _, hw⟩
theorem StR.set2 {w W : World} {b q X : Nat} {k t : Int} {u u' : Value} {zs zs' : List Int} (h : StR w W b q X k t u zs) (hm : Fresh W w.heap.size u' zs' zs'.length) (hf : zs'.length ≤ 3) : StR w (W.setCell ⟨X, 2, none⟩ u') b q X k t u' zs' :=
  have hl := h.lt
  have hw := h.low
  ⟨by rw [heap_setCell_same W X 2 _ _ _ h.own]; simp, by rw [Below.heap_setCell _ _ _ _ (by simp; omega)]; exact h.res, hl, hm.set h.own (by decide) _, hf, h.rd.setApart (by omega) _, h.mid.setNew (by omega) _, hw⟩
theorem one_fresh (W : World) (lo : Nat) (x : Int) (h : lo ≤ W.heap.size) : Fresh (W.alloc (.cells #[.int .i64 x] 3)) lo (.slice (some ⟨W.heap.size, 0, none⟩) 1 1) [x] 1 :=
  ⟨W.heap.size, 0, _, rfl, h, heap_alloc_new W _, fun k hk => by match k, hk with | 0, _ => rfl⟩

theorem StR.new2 {w W : World} {b q X : Nat} {k t : Int} {u : Value} {zs : List Int} (h : StR w W b q X k t u zs) (x : Int) : StR w ((W.setCell ⟨X, 2, none⟩ (.slice (some ⟨W.heap.size, 0, none⟩) 1 1)).alloc (.cells #[.int .i64 x] 3)) b q X k t (.slice (some ⟨W.heap.size, 0, none⟩) 1 1) [x] := by
  have hl := h.lt
  have hw := h.low
  have hX := heap_lt h.own
  have hn := heap_alloc_new (W.setCell ⟨X, 2, none⟩ (.slice (some ⟨W.heap.size, 0, none⟩) 1 1)) (.cells #[.int .i64 x] 3)
  rw [show (W.setCell ⟨X, 2, none⟩ (.slice (some ⟨W.heap.size, 0, none⟩) 1 1)).heap.size = W.heap.size by simp] at hn
  refine ⟨?_, ?_, hl, ⟨W.heap.size, 0, _, rfl, by omega, hn, fun k hk => by match k, hk with | 0, _ => rfl⟩, by simp, (h.rd.setApart (by omega) _).alloc _, (h.mid.setNew (by omega) _).alloc _, hw⟩
  · rw [Below.heap_alloc _ _ _ (by simp; omega), heap_setCell_same W X 2 _ _ _ h.own]; simp
  · rw [Below.heap_alloc _ _ _ (by simp; omega), Below.heap_setCell _ _ _ _ (by simp; omega)]; exact h.res

/-- What is left of it when the record is handed back. -/
structure StO (w W : World) (b q : Nat) (u : Value) (zs : List Int) (cap : Nat) : Prop where
  res : ∃ cs, W.heap[w.heap.size]? = some (.cells cs 25 (0, 0))
  many : Fresh W w.heap.size u zs cap
  rd : Rd W b q
  mid : Mid b (b + 1) w W
  low : b < w.heap.size
theorem StR.out {w W : World} {b q X : Nat} {k t : Int} {u : Value} {zs : List Int} (h : StR w W b q X k t u zs) : StO w W b q u zs zs.length := ⟨⟨_, h.res⟩, h.many, h.rd, h.mid, h.low⟩
theorem StO.set {w W : World} {b q : Nat} {u : Value} {zs : List Int} {cap : Nat} (h : StO w W b q u zs cap) (i : Nat) (x : Value) : StO w (W.setCell ⟨w.heap.size, i, none⟩ x) b q u zs cap := by
  obtain ⟨cs, hr⟩ := h.res
  exact ⟨⟨_, heap_setCell_same W _ i _ _ _ hr⟩, h.many.set hr (by decide) _, h.rd.setApart h.low _, h.mid.setNew (Nat.le_refl _) _, h.low⟩

theorem own_fresh {W : World} {base lo n : Nat} {v : Value} {zs : List Int} (h : W.ownsRow base 3 1 v n (zs.map (Value.int .i64))) (hn : 0 < n) (hl : lo ≤ base) : ∃ g cap, v = .slice (some ⟨g, 0, none⟩) zs.length cap ∧ Fresh W lo v zs cap := by
  obtain ⟨h1, h2⟩ := h
  rcases h2 with ⟨_, h0⟩ | ⟨g, cap, cur, hv, hg, hh, _, _, hc, ht⟩
  · omega
  · have hzl : zs.length = n := by simpa using h1
    refine ⟨g, cap, by rw [hzl]; exact hv, g, 0, cur, by rw [hzl]; exact hv, by omega, hh, fun k hk => ?_⟩
    have e : (cur.toList.take (n * 1))[k]? = (zs.map (Value.int .i64))[k]? := by rw [ht]
    rw [List.getElem?_take, if_pos (by omega)] at e
    rw [Nat.zero_add, ← Array.getElem?_toList, e]
    simp [List.getD_eq_getElem?_getD, hk]
theorem StO.setX {w W : World} {b q X i : Nat} {cs : Array Value} {u : Value} {zs : List Int} {cap : Nat} (h : StO w W b q u zs cap) (hX : W.heap[X]? = some (.cells cs 25 (0, 0))) (hl : w.heap.size < X) (x : Value) : StO w (W.setCell ⟨X, i, none⟩ x) b q u zs cap := by
  obtain ⟨cr, hr⟩ := h.res
  have hw := h.low
  exact ⟨⟨cr, by rw [Below.heap_setCell _ _ _ _ (by simp; omega)]; exact hr⟩, h.many.set hX (by decide) _, h.rd.setApart (by omega) _, h.mid.setNew (by omega) _, hw⟩
theorem fresh_cells {W : World} {lo g off : Nat} {zs : List Int} {cap : Nat} (h : Fresh W lo (.slice (some ⟨g, off, none⟩) zs.length cap) zs cap) (j : Nat) (u : Value) (hj : (zs.map (Value.int .i64))[j]? = some u) : W.cell? ((⟨g, off, none⟩ : Addr).add j) = some u := by
  obtain ⟨g', off', cs, hu, _, hh, hc⟩ := h
  simp at hu
  obtain ⟨rfl, rfl⟩ := hu
  have hjl : j < zs.length := by
    by_cases e : j < zs.length
    · exact e
    · rw [List.getElem?_eq_none (by simp; omega)] at hj; cases hj
  rw [Go.WideShapes.add_plain, cell_of_row W _ _ _ _ _ hh, hc j hjl, ← hj]
  simp [List.getD_eq_getElem?_getD, hjl]

set_option maxRecDepth 100000 in
set_option maxHeartbeats 4000000 in
theorem rec_draw (b p : Nat) (w : World) (h : Rd w b p) (hp : p ≤ 800000) :
    Calls Tryd.prog 20 #[.pointer (some ⟨b, 0, none⟩)] w fun e w' => ∃ k t u zs q cap, e = .returned (.agg #[.int .i64 k, .int .i64 t, u]) ∧ zs.length ≤ 4 ∧ Fresh w' w.heap.size u zs cap ∧ p ≤ q ∧ q ≤ p + 14 ∧ Rd w' b q ∧ Mid b (b + 1) w w' := by
  have hblt := h.lt
  have HR := hide_it h
  clear h
  go_enter Tryd.func20, Tryd.ntmps20
  go_wp2_with fail
  refine (pick_any b p 7 _ (HR.out.alloc _) (by omega) (by omega) (by omega)).mono ?_
  rintro e w1 ⟨x1, rfl, l1, u1, r1, m1⟩
  have HR1 := hide_it r1
  have H01 := hide_it (row_mid (heap_alloc_new w _) m1 hblt)
  have HM1 := hide_it (((Mid.refl b (b + 1) w).alloc _).trans m1)
  clear r1 m1
  go_wp2_with fail
  refine (pick_any b (p + 1) 4 w1 HR1.out (by omega) (by omega) (by omega)).mono ?_
  rintro e w2 ⟨x2, rfl, l2, u2, r2, m2⟩
  have HR2 := hide_it r2
  have H02 := hide_it (row_mid H01.out m2 hblt)
  have HM2 := hide_it (HM1.out.trans m2)
  have hs2 : w.heap.size < w2.heap.size := heap_lt H02.out
  clear r2 m2 HR1 HM1 H01
  have S2 : Hid (StR w ((w2.alloc (.cells #[] 3)).alloc (.cells #[.int .i64 (1 + x1), .int .i64 (1 + x2), .slice (some ⟨w2.heap.size, 0, none⟩) 0 0] 25)) b (p + 2) (w2.heap.size + 1) (1 + x1) (1 + x2) (.slice (some ⟨w2.heap.size, 0, none⟩) 0 0) []) := by
    have e1 := heap_alloc_new (w2.alloc (.cells #[] 3)) (.cells #[.int .i64 (1 + x1), .int .i64 (1 + x2), .slice (some ⟨w2.heap.size, 0, none⟩) 0 0] 25)
    rw [show (w2.alloc (.cells #[] 3)).heap.size = w2.heap.size + 1 by simp] at e1
    refine ⟨e1, ?_, by omega, ?_, by simp, (HR2.out.alloc _).alloc _, (HM2.out.alloc _).alloc _, hblt⟩
    · rw [Below.heap_alloc _ _ _ (by simp; omega), Below.heap_alloc _ _ _ (by omega)]; exact H02.out
    · refine ⟨w2.heap.size, 0, #[], rfl, by omega, ?_, fun k hk => by simp at hk⟩
      rw [Below.heap_alloc _ _ _ (by simp)]; exact heap_alloc_new w2 _
  clear HR2 HM2 H02 HR
  go_upto_block 0 with fail
  go_cut [3] (fun o W => ∃ X k t u zs q, o = .pointer (some ⟨X, 0, none⟩) ∧ p ≤ q ∧ q ≤ p + 10 ∧ Hid (StR w W b q X k t u zs))
  case first =>
    go_wp2_with fail
    · refine (pick_any b (p + 2) 3 _ S2.out.rd (by omega) (by omega) (by omega)).mono ?_
      rintro e w3 ⟨x3, rfl, l3, u3, r3, m3⟩
      have S3 := hide_it (S2.out.step m3 r3)
      clear r3 m3 S2
      obtain ⟨⟨c0, c1, c2, f0, f1, f2⟩, _⟩ := S3.out.cells
      have hlt3 : w2.heap.size + 1 < w3.heap.size := heap_lt S3.out.own
      go_wp2_with fail
      go_meet
      case rel => exact ⟨_, _, _, _, [_], p + 3, rfl, by omega, by omega, S3.out.new2 _⟩
    · refine (many_draw b (p + 2) _ S2.out.rd (by omega)).mono ?_
      rintro e w3 ⟨u, zs, q, rfl, hz, hF, hq0, hq1, r3, m3⟩
      have S3 := hide_it (S2.out.step m3 r3)
      have F3 := hide_it (hF.mono (lo' := w.heap.size) (by simp; omega))
      obtain ⟨g, off, hu⟩ : ∃ g off, u = .slice (some ⟨g, off, none⟩) zs.length zs.length := by obtain ⟨g, off, cs, h, _⟩ := hF; exact ⟨g, off, h⟩
      subst hu
      clear r3 m3 S2 hF
      obtain ⟨⟨c0, c1, c2, f0, f1, f2⟩, _⟩ := S3.out.cells
      go_wp2_with fail
      go_meet
      case rel => exact ⟨_, _, _, _, zs, q, rfl, by omega, by omega, S3.out.set2 F3.out hz⟩
    · go_meet
      case rel => exact ⟨_, _, _, _, [], p + 2, rfl, by omega, by omega, S2.out⟩
  case rest =>
    obtain ⟨X, k, t, u, zs, q, rfl, hq0, hq1, HS⟩ := hcut
    clear S2 l1 l2 u1 u2 hs2
    have hX := HS.out.lt
    go_wp2_with fail
    refine (pick_any b q 20 _ HS.out.rd (by omega) (by omega) (by omega)).mono ?_
    rintro e w4 ⟨y, rfl, ly, uy, r4, m4⟩
    have S4 := hide_it (HS.out.step m4 r4)
    clear r4 m4 HS
    have hf : zs.length ≤ 3 := S4.out.few
    obtain ⟨g, off, hu⟩ : ∃ g off, u = .slice (some ⟨g, off, none⟩) zs.length zs.length := by obtain ⟨g, off, cs, h, _⟩ := S4.out.many; exact ⟨g, off, h⟩
    subst hu
    by_cases y0 : y = 0
    · subst y0
      go_wp2_with fail
      refine (pick_any b (q + 1) 9 _ S4.out.rd (by omega) (by omega) (by omega)).mono ?_
      rintro e w5 ⟨z, rfl, lz, uz, r5, m5⟩
      have S5 := hide_it (S4.out.step m5 r5)
      clear r5 m5 S4
      obtain ⟨⟨c0, c1, c2, f0, f1, f2⟩, ⟨d0, d1, d2, e0, e1, e2⟩⟩ := S5.out.cells
      have hXn : X ≠ w.heap.size := by omega
      go_wp2
      refine bodyPost_ret (v := .agg #[.int .i64 z, .int .i64 t, .slice (some ⟨g, off, none⟩) zs.length zs.length]) (by simp [results, Tryd.results20, go_sem, d0, d1, d2]) rfl ⟨z, t, _, zs, q + 2, zs.length, rfl, by omega, ?_⟩
      have R := (((S5.out.set0 z).out.set 0 (.int .i64 z)).set 1 (.int .i64 t)).set 2 (.slice (some ⟨g, off, none⟩) zs.length zs.length)
      exact ⟨R.many, by omega, by omega, R.rd, R.mid⟩
    by_cases y1 : y = 1
    · subst y1
      go_wp2_with fail
      refine (pick_any b (q + 1) 3 _ (S4.out.later (alloc_below _ _)).rd (by omega) (by omega) (by omega)).mono ?_
      rintro e w5 ⟨z, rfl, lz, uz, r5, m5⟩
      have S5 := hide_it ((S4.out.later (alloc_below _ _)).step m5 r5)
      have N5 : Hid (Row3 w5 w4.heap.size 0 6 7) := (Row3.new w4 0 6 7).mid m5 (by have := heap_lt S4.out.res; omega)
      clear r5 m5 S4
      obtain ⟨⟨c0, c1, c2, f0, f1, f2⟩, ⟨d0, d1, d2, e0, e1, e2⟩⟩ := S5.out.cells
      obtain ⟨n0, n1, n2, _, _, _⟩ := N5.out.cells
      have hXn : X ≠ w.heap.size := by omega
      rcases three lz uz with rfl | rfl | rfl
      · go_wp2
        refine bodyPost_ret (v := .agg #[.int .i64 k, .int .i64 0, .slice (some ⟨g, off, none⟩) zs.length zs.length]) (by simp [results, Tryd.results20, go_sem, d0, d1, d2]) rfl ⟨k, 0, _, zs, q + 2, zs.length, rfl, by omega, ?_⟩
        have R := (((S5.out.set1 0).out.set 0 (.int .i64 k)).set 1 (.int .i64 0)).set 2 (.slice (some ⟨g, off, none⟩) zs.length zs.length)
        exact ⟨R.many, by omega, by omega, R.rd, R.mid⟩
      · go_wp2
        refine bodyPost_ret (v := .agg #[.int .i64 k, .int .i64 6, .slice (some ⟨g, off, none⟩) zs.length zs.length]) (by simp [results, Tryd.results20, go_sem, d0, d1, d2]) rfl ⟨k, 6, _, zs, q + 2, zs.length, rfl, by omega, ?_⟩
        have R := (((S5.out.set1 6).out.set 0 (.int .i64 k)).set 1 (.int .i64 6)).set 2 (.slice (some ⟨g, off, none⟩) zs.length zs.length)
        exact ⟨R.many, by omega, by omega, R.rd, R.mid⟩
      · go_wp2
        refine bodyPost_ret (v := .agg #[.int .i64 k, .int .i64 7, .slice (some ⟨g, off, none⟩) zs.length zs.length]) (by simp [results, Tryd.results20, go_sem, d0, d1, d2]) rfl ⟨k, 7, _, zs, q + 2, zs.length, rfl, by omega, ?_⟩
        have R := (((S5.out.set1 7).out.set 0 (.int .i64 k)).set 1 (.int .i64 7)).set 2 (.slice (some ⟨g, off, none⟩) zs.length zs.length)
        exact ⟨R.many, by omega, by omega, R.rd, R.mid⟩
    have hXn : X ≠ w.heap.size := by omega
    by_cases y2 : y = 2
    · subst y2
      obtain ⟨⟨c0, c1, c2, f0, f1, f2⟩, ⟨d0, d1, d2, e0, e1, e2⟩⟩ := S4.out.cells
      obtain ⟨i0, hi, hz0, hz1, hz2⟩ := info_parts info3
      clear d0 d1 d2 e0 e1 e2
      go_wp2_with fail
      go_region_law
        (first
          | (go_simp; go_at_call 21; refine (pick_any b (q + 1) 5 _ (S4.out.later (by first | exact (Below.refl _ _).drew | exact (Below.refl _ _).drew.drew | exact (Below.refl _ _).drew.drew.drew)).rd (by omega) (by omega) (by omega)).mono ?_; rintro e w5 ⟨z, rfl, lz, uz, r5, m5⟩; have S5 := hide_it ((S4.out.later (by first | exact (Below.refl _ _).drew | exact (Below.refl _ _).drew.drew | exact (Below.refl _ _).drew.drew.drew)).step m5 r5); clear r5 m5 c0 c1 c2 f0 f1 f2; obtain ⟨⟨c0, c1, c2, f0, f1, f2⟩, _⟩ := S5.out.cells; have hs5 : w.heap.size < w5.heap.size := heap_lt S5.out.res; have c2a := ((S5.out.later (alloc_below w5 (.cells #[.int .i64 z] 3))).cells).1.2.2.1)
          | (refine step_append_grows rfl _ _ 23 rfl 3 i0 (.int .i64 0) 1 8 Tryd.underlying23 hi hz0 hz1 hz2 rfl (by decide) (some ⟨g, off, none⟩) zs.length zs.length (zs.map (Value.int .i64)) rfl (fun h => by cases h) (by simp) (fun a ha => by cases ha; exact fresh_cells (S5.out.later (alloc_below _ _)).many) ⟨w5.heap.size, 0, none⟩ 1 1 [.int .i64 z] rfl rfl (fun j u hj => by match j, hj with | 0, hj => simp at hj; subst hj; simp [Go.WideShapes.add_plain, go_sem]) (by simp [Value.oneCell']) (by omega) (by unfold maxLen; omega) (by omega) ?_; intro v6 w6 hown hgrow; have hown' := own_fresh (lo := w.heap.size) (zs := zs ++ [z]) (by simpa using hown) (by omega) (by first | omega | (simp; omega)); obtain ⟨g6, cap6, hv6, hF6⟩ := hown'; subst hv6; have F6 := hide_it hF6; have S6 := hide_it ((S5.out.later (alloc_below _ _)).later (grown_below hgrow)); clear hown hgrow hF6 c0 c1 c2 c2a f0 f1 f2; obtain ⟨⟨c0, c1, c2, f0, f1, f2⟩, ⟨d0, d1, d2, e0, e1, e2⟩⟩ := S6.out.cells))
      all_goals
       go_wp2
       refine bodyPost_ret (v := .agg #[.int .i64 k, .int .i64 t, .slice (some ⟨g6, 0, none⟩) (zs.length + 1) cap6]) (by simp [results, Tryd.results20, go_sem, d0, d1, d2]) rfl ⟨k, t, _, zs ++ [z], q + 2, cap6, rfl, by simp; omega, ?_⟩
       have F6' : Fresh w6 w.heap.size (.slice (some ⟨g6, 0, none⟩) (zs.length + 1) cap6) (zs ++ [z]) cap6 := by have h := F6.out; rwa [List.length_append, List.length_singleton] at h
       have R0 : StO w w6 b (q + 2) (.slice (some ⟨g6, 0, none⟩) (zs.length + 1) cap6) (zs ++ [z]) cap6 := ⟨⟨_, S6.out.res⟩, F6', S6.out.rd, S6.out.mid, S6.out.low⟩
       have R := (((R0.setX (i := 2) S6.out.own S6.out.lt (.slice (some ⟨g6, 0, none⟩) (zs.length + 1) cap6)).set 0 (.int .i64 k)).set 1 (.int .i64 t)).set 2 (.slice (some ⟨g6, 0, none⟩) (zs.length + 1) cap6)
       exact ⟨R.many, by omega, by omega, R.rd, R.mid⟩
    obtain ⟨⟨c0, c1, c2, f0, f1, f2⟩, ⟨d0, d1, d2, e0, e1, e2⟩⟩ := S4.out.cells
    go_wp2
    refine bodyPost_ret (v := .agg #[.int .i64 k, .int .i64 t, .slice (some ⟨g, off, none⟩) zs.length zs.length]) (by simp [results, Tryd.results20, go_sem, d0, d1, d2]) rfl ⟨k, t, _, zs, q + 1, zs.length, rfl, by omega, ?_⟩
    have R := ((S4.out.out.set 0 (.int .i64 k)).set 1 (.int .i64 t)).set 2 (.slice (some ⟨g, off, none⟩) zs.length zs.length)
    exact ⟨R.many, by omega, by omega, R.rd, R.mid⟩

end Go.Proofs.YtaogachhmdmoaaaDoor

namespace Go.Proofs.YtaogachhmdmoaaaDoor
open Go.RowKit

def markR (r : R) (k : Int) : R := (k, k + 1, markI r.2.2.length (k + 2))
/-- The number with which record i begins. -/
def kAt (rs : List R) (k : Int) (i : Nat) : Int := k + 2 * i + pre rs i
def dftP : R × Value := ((0, 0, []), .slice none 0 0)
/-- The list when i records have been marked. -/
def stg (ps : List (R × Value)) (k : Int) (i : Nat) : List (R × Value) :=
  (List.range ps.length).map fun j => if j < i then (markR (ps.getD j dftP).1 (kAt (ps.map (·.1)) k j), (ps.getD j dftP).2) else ps.getD j dftP
/-- Records, all marked. -/
def markAll (rs : List R) (k : Int) : List R := (List.range rs.length).map fun j => markR (rs.getD j (0, 0, [])) (kAt rs k j)

theorem stg_length (ps : List (R × Value)) (k : Int) (i : Nat) : (stg ps k i).length = ps.length := by simp [stg]
theorem stg_get (ps : List (R × Value)) (k : Int) (i j : Nat) (p : R × Value) (h : ps[j]? = some p) : (stg ps k i)[j]? = some (if j < i then (markR p.1 (kAt (ps.map (·.1)) k j), p.2) else p) := by
  have hj : j < ps.length := by
    by_cases e : j < ps.length
    · exact e
    · rw [List.getElem?_eq_none (by omega)] at h; cases h
  have hg : ps.getD j dftP = p := by rw [List.getD_eq_getElem?_getD, h]; rfl
  unfold stg
  rw [List.getElem?_map, List.getElem?_range hj]
  simp only [Option.map_some, hg]
theorem stg_zero (ps : List (R × Value)) (k : Int) : stg ps k 0 = ps := by
  apply List.ext_getElem?
  intro j
  by_cases hj : j < ps.length
  · rw [stg_get ps k 0 j ps[j] (by simp [hj])]; simp [hj]
  · rw [List.getElem?_eq_none (by rw [stg_length]; omega), List.getElem?_eq_none (by omega)]
theorem stg_succ (ps : List (R × Value)) (k : Int) (i : Nat) (p : R × Value) (h : ps[i]? = some p) : stg ps k (i + 1) = (stg ps k i).set i (markR p.1 (kAt (ps.map (·.1)) k i), p.2) := by
  have hil : i < ps.length := by
    by_cases e : i < ps.length
    · exact e
    · rw [List.getElem?_eq_none (by omega)] at h; cases h
  apply List.ext_getElem?
  intro j
  by_cases hj : j < ps.length
  · rw [stg_get ps k (i + 1) j ps[j] (by simp [hj]), List.getElem?_set]
    by_cases hij : i = j
    · subst hij
      have hp : ps[i] = p := by rw [List.getElem?_eq_getElem hj] at h; simpa using h
      rw [if_pos rfl, if_pos (show i < (stg ps k i).length by rw [stg_length]; exact hj), if_pos (show i < i + 1 by omega), hp]
    · rw [if_neg hij, stg_get ps k i j ps[j] (by simp [hj])]
      by_cases hji : j < i
      · rw [if_pos (by omega), if_pos hji]
      · rw [if_neg (by omega), if_neg hji]
  · rw [List.getElem?_eq_none (by rw [stg_length]; omega), List.getElem?_eq_none (by rw [List.length_set, stg_length]; omega)]
theorem stg_all (ps : List (R × Value)) (k : Int) : (stg ps k ps.length).map (·.1) = markAll (ps.map (·.1)) k := by
  apply List.ext_getElem?
  intro j
  by_cases hj : j < ps.length
  · rw [List.getElem?_map, stg_get ps k ps.length j ps[j] (by simp [hj]), if_pos hj]
    simp [markAll, hj, List.getD_eq_getElem?_getD]
  · rw [List.getElem?_eq_none (by rw [List.length_map, stg_length]; omega), List.getElem?_eq_none (by simp [markAll]; omega)]
theorem markAll_length (rs : List R) (k : Int) : (markAll rs k).length = rs.length := by simp [markAll]
theorem markAll_get (rs : List R) (k : Int) (i : Nat) (r : R) (h : rs[i]? = some r) : (markAll rs k)[i]? = some (markR r (kAt rs k i)) := by
  have hj : i < rs.length := by
    by_cases e : i < rs.length
    · exact e
    · rw [List.getElem?_eq_none (by omega)] at h; cases h
  unfold markAll
  rw [List.getElem?_map, List.getElem?_range hj]
  simp [List.getD_eq_getElem?_getD, h]
theorem kAt_zero (rs : List R) (k : Int) : kAt rs k 0 = k := by simp [kAt, pre_zero]
theorem kAt_succ (rs : List R) (k : Int) (i : Nat) (r : R) (h : rs[i]? = some r) : kAt rs k (i + 1) = kAt rs k i + 2 + r.2.2.length := by
  unfold kAt; rw [pre_succ rs i r h]; omega
theorem kAt_bd (rs : List R) (k : Int) (i : Nat) (hi : i ≤ rs.length) (h : tot rs ≤ 1048576) (hk : 0 ≤ k) (hk1 : k ≤ 1000) : 0 ≤ kAt rs k i ∧ kAt rs k i ≤ 900000000 := by
  have := pre_le rs i
  unfold kAt tot at *; omega

theorem flat_set2 (ps : List (R × Value)) (i : Nat) (p : R × Value) (r : R) (h : ps[i]? = some p) :
    ((flat ps).set (i * 3) (.int .i64 r.1)).set (i * 3 + 1) (.int .i64 r.2.1) = flat (ps.set i (r, p.2)) := by
  induction ps generalizing i with
  | nil => simp at h
  | cons q t ih =>
    cases i with
    | zero => simp at h; subst h; simp [flat]
    | succ i =>
      have := ih i (by simpa using h)
      rw [show (i + 1) * 3 = i * 3 + 3 by omega]
      simp only [flat, List.set_cons_succ]
      rw [this]

/-- One record marked: its two cells, then its numbers. -/
theorem mark_step {wr w2 w3 : World} {lo hi g n cap i : Nat} {qs : List (R × Value)} {r0 : R} {u : Value} {r : R} (hq : qs[i]? = some (r0, u))
    (ho : OwnRecs wr lo hi (.slice (some ⟨g, 0, none⟩) n cap) qs) (hqn : qs.length = n)
    (h2 : w2 = (wr.setCell ⟨g, i * 3, none⟩ (.int .i64 r.1)).setCell ⟨g, i * 3 + 1, none⟩ (.int .i64 r.2.1))
    (hown : w3.ownsRow lo 3 1 u r.2.2.length (r.2.2.map (Value.int .i64))) (hg : w2.grownBy w3 u.ownBlock) :
    OwnRecs w3 lo hi (.slice (some ⟨g, 0, none⟩) n cap) (qs.set i (r, u)) ∧ Mid lo hi wr w3 := by
  obtain ⟨row, hgb, inn⟩ := ho
  rw [hqn] at row
  have a1 := row.stored (i * 3) (.int .i64 r.1)
  have a2 := a1.1.stored (i * 3 + 1) (.int .i64 r.2.1)
  rw [flat_set2 qs i (r0, u) r hq] at a2
  rw [← h2] at a2
  have g12 : wr.grownBy w2 (some g) := by rw [h2]; exact grownBy_trans a1.2 (by rw [← h2]; exact a2.2)
  obtain ⟨cur, hcur⟩ := row_block row
  have ap := inn.apart hcur (by decide)
  have in2 : Inner w2 lo hi qs := inn.kept g12 (fun p hp => Or.inr (ap p hp))
  have hmem := List.mem_of_getElem? hq
  obtain ⟨cur2, hcur2⟩ := row_block a2.1
  have hug : u.ownBlock ≠ some g := ap (r0, u) hmem
  have row3 := a2.1.kept hg (Or.inr (fun e => hug e.symm))
  have hgl := row.lt g rfl
  have hgh := hgb g rfl
  refine ⟨⟨by rw [List.length_set, hqn]; exact row3, hgb, Nat.le_trans in2.1 hg.size, fun p hp => ?_, fun a b p q hp hq' hab => ?_⟩, ?_⟩
  · obtain ⟨j, hj, hpj⟩ := List.mem_iff_getElem.1 hp
    rw [List.length_set] at hj
    by_cases hij : i = j
    · subst hij
      simp at hpj
      subst hpj
      exact ⟨hown, (in2.2.1 (r0, u) hmem).2⟩
    · rw [List.getElem_set_ne hij] at hpj
      have hpm : p ∈ qs := by rw [← hpj]; exact List.getElem_mem hj
      refine ⟨(in2.2.1 p hpm).1.kept hg ?_, (in2.2.1 p hpm).2⟩
      exact in2.2.2 j i p (r0, u) (by rw [List.getElem?_eq_getElem hj, hpj]) hq (fun e => hij e.symm)
  · have same : ∀ (c : Nat) (x : R × Value), (qs.set i (r, u))[c]? = some x → ∃ y, qs[c]? = some y ∧ y.2 = x.2 := by
      intro c x hx
      rw [List.getElem?_set] at hx
      by_cases hic : i = c
      · subst hic
        rw [if_pos rfl] at hx
        split at hx
        · simp at hx; exact ⟨(r0, u), hq, by rw [← hx]⟩
        · cases hx
      · rw [if_neg hic] at hx; exact ⟨x, hx, rfl⟩
    obtain ⟨y, hy, e1⟩ := same a p hp
    obtain ⟨z, hz, e2⟩ := same b q hq'
    rw [← e1, ← e2]
    exact in2.2.2 a b y z hy hz hab
  · exact (Mid.of_grown g12 (fun k hk => by simp at hk; omega)).trans (Mid.of_grown hg (fun k hk => ⟨((in2.2.1 (r0, u) hmem).1.lt k hk).1, (in2.2.1 (r0, u) hmem).2 k hk⟩))

theorem mark_inner {wr : World} {lo hi g n cap i : Nat} {qs : List (R × Value)} {r0 : R} {u : Value} (hq : qs[i]? = some (r0, u)) (ho : OwnRecs wr lo hi (.slice (some ⟨g, 0, none⟩) n cap) qs) (hqn : qs.length = n) (a b : Nat) (x y : Value) :
    ((wr.setCell ⟨g, a, none⟩ x).setCell ⟨g, b, none⟩ y).ownsRow lo 3 1 u r0.2.2.length (r0.2.2.map (Value.int .i64)) := by
  obtain ⟨row, hgb, inn⟩ := ho
  rw [hqn] at row
  have a1 := row.stored a x
  have a2 := a1.1.stored b y
  obtain ⟨cur, hcur⟩ := row_block row
  have hug := inn.apart hcur (by decide) (r0, u) (List.mem_of_getElem? hq)
  exact ((inn.2.1 (r0, u) (List.mem_of_getElem? hq)).1.kept a1.2 (Or.inr hug)).kept a2.2 (Or.inr hug)

end Go.Proofs.YtaogachhmdmoaaaDoor

namespace Go.Proofs.YtaogachhmdmoaaaDoor
open Go.RowKit

set_option maxHeartbeats 2000000 in
theorem specOk_any (k t : Int) (v : Value) (zs : List Int) (w : World) (hv : Ints w v zs) (hl : zs.length ≤ 1048576) :
    Calls Tryd.prog 9 #[.agg #[.int .i64 k, .int .i64 t, v]] w fun e w' => e = .returned (.bool (Pl.recOk k t zs)) ∧ Below w.heap.size w w' := by
  have hv1 : Hid (∀ o, Ints (w.alloc o) v zs) := fun o => hv.later (alloc_below w o) (Nat.le_refl _)
  cases hT : Pl.inB t 1 6
  · have HE : Hid (Pl.recOk k t zs = false) := Pl.recOk_t k t zs hT
    clear hv
    go_enter Tryd.func9, Tryd.ntmps9
    go_wp2_with (go_at_call 24; refine (in_any _ _ _ _).mono ?_; rintro e w1 ⟨rfl, rfl⟩)
    go_ret
    exact ⟨by rw [HE.out]; rfl, alloc_below _ _⟩
  have HT : Hid (Pl.inB t 1 6 = true) := hT
  by_cases h1 : k = 1
  · subst h1
    have HE : Hid (Pl.recOk 1 t zs = Pl.holdOk zs) := Pl.recOk_1 t zs HT.out
    by_cases hz : zs.length = 1
    · obtain ⟨z, rfl⟩ := List.length_eq_one_iff.1 hz
      rcases hv with ⟨h, _⟩ | ⟨b, off, cap, rfl, hz, hc⟩
      · simp at h
      have hc0 : w.cell? ⟨b, off, none⟩ = some (.int .i64 z) := hc 0 (by simp)
      have hbw : b < w.heap.size := World.block_lt_of_cell? _ _ hc0
      have HH : Hid (Pl.holdOk [z] = Pl.inB z 1 3) := by show _ = _; simp [Pl.holdOk]
      clear hc hz hl
      go_enter Tryd.func9, Tryd.ntmps9
      go_wp2_with (go_at_call 24; refine (in_any _ _ _ _).mono ?_; rintro e w1 ⟨rfl, rfl⟩)
      go_ret
      exact ⟨by rw [HE.out, HH.out]; rfl, alloc_below _ _⟩
    · have HH : Hid (Pl.holdOk zs = false) := by show _ = _; simp [Pl.holdOk, hz]
      have hne : ¬ (zs.length : Int) = 1 := by omega
      obtain ⟨ao, cap, rfl⟩ := hv.shape
      clear hv hz
      go_enter Tryd.func9, Tryd.ntmps9
      go_wp2_with (go_at_call 24; refine (in_any _ _ _ _).mono ?_; rintro e w1 ⟨rfl, rfl⟩)
      go_ret
      exact ⟨by rw [HE.out, HH.out]; rfl, alloc_below _ _⟩
  by_cases h4 : k = 4
  · subst h4
    have HE : Hid (Pl.recOk 4 t zs = Pl.manyOk zs) := Pl.recOk_4 t zs HT.out
    clear hv
    go_enter Tryd.func9, Tryd.ntmps9
    go_wp2_with (first
      | (go_at_call 24; refine (in_any _ _ _ _).mono ?_; rintro e w1 ⟨rfl, rfl⟩)
      | (go_at_call 25; refine (many_any _ zs _ (hv1.out _) hl).mono ?_; rintro e w1 ⟨rfl, rfl⟩))
    go_ret
    exact ⟨by rw [HE.out]; rfl, alloc_below _ _⟩
  have HE : Hid (Pl.recOk k t zs = (Pl.inB k 2 7 && (zs.length == 0))) := Pl.recOk_p k t zs HT.out h1 h4
  obtain ⟨ao, cap, rfl⟩ := hv.shape
  clear hv
  cases hk : Pl.inB k 2 7
  · rw [hk] at HE
    go_enter Tryd.func9, Tryd.ntmps9
    go_wp2_with (go_at_call 24; refine (in_any _ _ _ _).mono ?_; rintro e w1 ⟨rfl, rfl⟩)
    go_ret
    exact ⟨by rw [HE.out]; rfl, alloc_below _ _⟩
  · rw [hk] at HE
    have HZ : Hid ((zs.length == 0) = ((zs.length : Int) == 0)) := by
      show _ = _
      rw [Bool.eq_iff_iff]; simp
    go_enter Tryd.func9, Tryd.ntmps9
    go_wp2_with (go_at_call 24; refine (in_any _ _ _ _).mono ?_; rintro e w1 ⟨rfl, rfl⟩)
    go_ret
    exact ⟨by rw [HE.out, HZ.out]; rfl, alloc_below _ _⟩

end Go.Proofs.YtaogachhmdmoaaaDoor

namespace Go.Proofs.YtaogachhmdmoaaaDoor
open Go.RowKit

def rOk (r : R) : Bool := Pl.recOk r.1 r.2.1 r.2.2
def logOk (rs : List R) (f : Int) : Bool := rs.all rOk && (decide (rs.length ≤ 40) && Pl.inB f 0 rs.length)

theorem all_snocR (rs : List R) (k : Nat) (r : R) (h : rs[k]? = some r) : (rs.take (k + 1)).all rOk = ((rs.take k).all rOk && rOk r) := by
  have hk : k < rs.length := by
    by_cases hk : k < rs.length
    · exact hk
    · rw [List.getElem?_eq_none (by omega)] at h; cases h
  rw [List.getElem?_eq_getElem hk] at h
  simp only [Option.some.injEq] at h
  rw [List.take_succ_eq_append_getElem hk, h]
  simp
theorem all_badR (rs : List R) (k : Nat) (r : R) (h : rs[k]? = some r) (hb : rOk r = false) : rs.all rOk = false := by
  rw [List.all_eq_false]
  exact ⟨r, List.mem_of_getElem? h, by rw [hb]; decide⟩

theorem box2 (w : World) (x y : Value) (ty : TypeId) : (w.alloc (.cells #[x, y] ty)).cell? ⟨w.heap.size, 0, none⟩ = some x ∧ (w.alloc (.cells #[x, y] ty)).cell? ⟨w.heap.size, 1, none⟩ = some y := by
  constructor <;> simp

/-- Two cells of one block, as they stay while nothing below turns. -/
def Two (w : World) (b : Nat) (x y : Value) : Prop := w.cell? ⟨b, 0, none⟩ = some x ∧ w.cell? ⟨b, 1, none⟩ = some y
theorem Two.later {B : Nat} {w w' : World} {b : Nat} {x y : Value} (h : Two w b x y) (hb : Below B w w') (hB : w.heap.size ≤ B) : Two w' b x y := by
  obtain ⟨h0, h1⟩ := h
  have hlt := World.block_lt_of_cell? _ _ h0
  simp at hlt
  exact ⟨by rw [← h0]; exact hb.cell (p := ⟨b, 0, none⟩) (by simp; omega), by rw [← h1]; exact hb.cell (p := ⟨b, 1, none⟩) (by simp; omega)⟩

set_option maxHeartbeats 1000000 in
theorem specLogOk_any (v : Value) (rs : List R) (f : Int) (w : World) (hv : Recs w v rs) (hl : tot rs ≤ 1048576) :
    Calls Tryd.prog 14 #[.agg #[v, .int .i64 f]] w fun e w' => e = .returned (.bool (logOk rs f)) ∧ Below w.heap.size w w' := by
  have hlen := tot_len rs
  have HM : Hid (∀ r ∈ rs, r.2.2.length ≤ 1048576) := fun r hr => Nat.le_trans (tot_mem rs r hr) hl
  have H0 : Hid (Two (w.alloc (.cells #[v, .int .i64 f] 31)) w.heap.size v (.int .i64 f)) := box2 w _ _ _
  rcases hv with ⟨rfl, ao, cap, rfl⟩ | ⟨b, off, cap, rfl, hz, hc⟩
  · have HE : Hid (logOk [] f = Pl.inB f 0 0) := by show _ = _; simp [logOk]
    go_enter Tryd.func14, Tryd.ntmps14
    go_wp2
    refine wp_loop_rounds 1 ?_
    rw [rounds_succ]
    go_wp2_with (go_at_call 24; refine (in_any _ _ _ _).mono ?_; rintro e w' ⟨rfl, rfl⟩)
    go_ret
    exact ⟨by rw [HE.out]; rfl, alloc_below _ _⟩
  have HC : Hid (∀ W, Below w.heap.size w W → ∀ i r, rs[i]? = some r → ∃ u, RecCells W b (off + i * 3) r u) := fun W h i r hr => by
    obtain ⟨u, hu⟩ := hc i r hr
    exact ⟨u, hu.later h (Nat.le_refl _)⟩
  have hzl : 0 < rs.length := List.length_pos_iff.2 hz
  clear hc hz
  go_enter Tryd.func14, Tryd.ntmps14
  go_wp2
  go_loopw [3] (fun i wr => ∃ k : Nat, k ≤ rs.length ∧ i = .int .i64 k ∧ Hid ((rs.take k).all rOk = true) ∧ Hid (Two wr w.heap.size (.slice (some ⟨b, off, none⟩) rs.length cap) (.int .i64 f)) ∧ Below w.heap.size w wr) (fun i _ => rs.length - (intOf i).toNat)
  case atStart => exact ⟨0, Nat.zero_le _, rfl, rfl, H0, alloc_below _ _⟩
  case round =>
    obtain ⟨k, hk, rfl, HA, HT, hbe⟩ := hrel
    obtain ⟨t0, t1⟩ := HT.out
    by_cases hlt : k < rs.length
    · obtain ⟨r, hr⟩ : ∃ r, Hid (rs[k]? = some r) := ⟨rs[k], by show _ = _; simp [hlt]⟩
      have hrl : r.2.2.length ≤ 1048576 := HM.out r (List.mem_of_getElem? hr.out)
      obtain ⟨u, c0, c1, c2, hI⟩ := HC.out wr hbe k r hr.out
      have HI : Hid (Ints wr u r.2.2) := hI
      have HB : Hid (Below w.heap.size w wr) := hbe
      clear hI hbe
      cases hok : rOk r
      · have HE : Hid (logOk rs f = false) := by show _ = _; unfold logOk; rw [all_badR rs k r hr.out hok]; rfl
        have hsp := specOk_any r.1 r.2.1 u r.2.2 wr HI.out hrl
        have hok' : Pl.recOk r.1 r.2.1 r.2.2 = false := hok
        rw [hok'] at hsp
        have HS := hsp
        clear hsp hok hok'
        go_wp2_with fail
        refine HS.mono ?_
        rintro e w2 ⟨rfl, hb2⟩
        go_wp2
        go_ret
        exact ⟨by rw [HE.out]; rfl, HB.out.trans (hb2.mono HB.out.size)⟩
      · have HA2 : Hid ((rs.take (k + 1)).all rOk = true) := by show _ = _; rw [all_snocR rs k r hr.out, HA.out, hok]; rfl
        have hsp := specOk_any r.1 r.2.1 u r.2.2 wr HI.out hrl
        have hok' : Pl.recOk r.1 r.2.1 r.2.2 = true := hok
        rw [hok'] at hsp
        have HS := hsp
        clear hsp hok hok'
        go_wp2_with fail
        refine HS.mono ?_
        rintro e w2 ⟨rfl, hb2⟩
        have HT2 := HT.out.later hb2 (Nat.le_refl _)
        have HB2 : Hid (Below w.heap.size w w2) := HB.out.trans (hb2.mono HB.out.size)
        have HT3 : Hid (Two w2 w.heap.size (.slice (some ⟨b, off, none⟩) rs.length cap) (.int .i64 f)) := HT2
        clear hb2 HT2
        go_wp2
        go_roundw
        case rel => exact ⟨k + 1, by omega, by go_num, HA2, HT3, HB2.out⟩
        case measure => simp [intOf]; omega
    · have HE : Hid (logOk rs f = (decide (rs.length ≤ 40) && Pl.inB f 0 rs.length)) := by
        show _ = _
        have hke : k = rs.length := by omega
        have := HA.out
        rw [hke, List.take_length] at this
        unfold logOk; rw [this]; rfl
      by_cases h40 : (rs.length : Int) ≤ 40
      · have HE2 : Hid (decide (rs.length ≤ 40) = true) := by show _ = _; simp; omega
        go_wp2_with (go_at_call 24; refine (in_any _ _ _ _).mono ?_; rintro e w' ⟨rfl, rfl⟩)
        go_ret
        exact ⟨by rw [HE.out, HE2.out]; rfl, hbe⟩
      · have HE2 : Hid (decide (rs.length ≤ 40) = false) := by show _ = _; simp; omega
        go_wp2_with (go_at_call 24; refine (in_any _ _ _ _).mono ?_; rintro e w' ⟨rfl, rfl⟩)
        go_ret
        exact ⟨by rw [HE.out, HE2.out]; rfl, hbe⟩

end Go.Proofs.YtaogachhmdmoaaaDoor

namespace Go.Proofs.YtaogachhmdmoaaaDoor
open Go.RowKit

theorem logOk_long {rs : List R} {f : Int} (h : 40 < (rs.length : Int)) : logOk rs f = false := by
  have : decide (rs.length ≤ 40) = false := by simp; omega
  unfold logOk; rw [this]; simp
theorem logOk_in {rs : List R} {f : Int} (h : Pl.inB f 0 rs.length = false) : logOk rs f = false := by
  unfold logOk; rw [h]; simp
theorem logOk_all {rs : List R} {f : Int} (h1 : (rs.length : Int) ≤ 40) (h2 : 0 ≤ f) (h3 : f ≤ rs.length) : logOk rs f = rs.all rOk := by
  have : decide (rs.length ≤ 40) = true := by simp; omega
  unfold logOk; rw [this, Pl.inB_mk h2 h3]; simp

set_option maxHeartbeats 2000000 in
theorem implLogOk_any (v : Value) (rs : List R) (f : Int) (a : Addr) (w : World) (hv : Recs w v rs) (hl : tot rs ≤ 1048576) (ha : ErrAt w a) :
    Calls Tryd.prog 17 #[.agg #[v, .int .i64 f]] w fun e w' => e = .returned (.bool (logOk rs f)) ∧ Below w.heap.size w w' := by
  have hlen := tot_len rs
  have HM : Hid (∀ r ∈ rs, r.2.2.length ≤ 1048576) := fun r hr => Nat.le_trans (tot_mem rs r hr) hl
  have HAe : Hid (∀ W, Below w.heap.size w W → ErrAt W a) := fun W h => ha.later h (Nat.le_refl _)
  clear ha
  by_cases h40 : 40 < (rs.length : Int)
  · have HE : Hid (logOk rs f = false) := logOk_long h40
    obtain ⟨ao, cap, rfl⟩ := hv.shape
    clear hv
    go_enter Tryd.func17, Tryd.ntmps17
    go_wp2
    go_ret
    exact ⟨by rw [HE.out]; rfl, alloc_below _ _⟩
  by_cases hf0 : f < 0
  · have HE : Hid (logOk rs f = false) := logOk_in (Pl.inB_lo hf0)
    obtain ⟨ao, cap, rfl⟩ := hv.shape
    clear hv
    go_enter Tryd.func17, Tryd.ntmps17
    go_wp2
    go_ret
    exact ⟨by rw [HE.out]; rfl, alloc_below _ _⟩
  by_cases hfn : (rs.length : Int) < f
  · have HE : Hid (logOk rs f = false) := logOk_in (Pl.inB_hi hfn)
    obtain ⟨ao, cap, rfl⟩ := hv.shape
    clear hv
    go_enter Tryd.func17, Tryd.ntmps17
    go_wp2
    go_ret
    exact ⟨by rw [HE.out]; rfl, alloc_below _ _⟩
  have HG : Hid (logOk rs f = rs.all rOk) := logOk_all (by omega) (by omega) (by omega)
  rcases hv with ⟨rfl, ao, cap, rfl⟩ | ⟨b, off, cap, rfl, hz, hc⟩
  · go_enter Tryd.func17, Tryd.ntmps17
    go_wp2
    refine wp_loop_rounds 1 ?_
    rw [rounds_succ]
    go_wp2
    go_ret
    exact ⟨by rw [HG.out]; rfl, alloc_below _ _⟩
  have HC : Hid (∀ W, Below w.heap.size w W → ∀ i r, rs[i]? = some r → ∃ u, RecCells W b (off + i * 3) r u) := fun W h i r hr => by
    obtain ⟨u, hu⟩ := hc i r hr
    exact ⟨u, hu.later h (Nat.le_refl _)⟩
  have hzl : 0 < rs.length := List.length_pos_iff.2 hz
  clear hc hz
  go_enter Tryd.func17, Tryd.ntmps17
  go_wp2
  go_loopw [25] (fun i wr => ∃ k : Nat, k ≤ rs.length ∧ i = .int .i64 k ∧ Hid ((rs.take k).all rOk = true) ∧ Below w.heap.size w wr) (fun i _ => rs.length - (intOf i).toNat)
  case atStart => exact ⟨0, Nat.zero_le _, rfl, rfl, alloc_below _ _⟩
  case round =>
    obtain ⟨k, hk, rfl, HA, hbe⟩ := hrel
    by_cases hlt : k < rs.length
    · obtain ⟨r, hr⟩ : ∃ r, Hid (rs[k]? = some r) := ⟨rs[k], by show _ = _; simp [hlt]⟩
      have hrl : r.2.2.length ≤ 1048576 := HM.out r (List.mem_of_getElem? hr.out)
      obtain ⟨u, c0, c1, c2, hI⟩ := HC.out wr hbe k r hr.out
      have hbw : b < wr.heap.size := World.block_lt_of_cell? _ _ c0
      have HI : Hid (∀ o, Ints (wr.alloc o) u r.2.2) := fun o => hI.later (alloc_below _ _) (Nat.le_refl _)
      have HB : Hid (∀ o, Below w.heap.size w (wr.alloc o)) := fun o => hbe.alloc hbe.size o
      have HAr : Hid (∀ o, ErrAt (wr.alloc o) a) := fun o => HAe.out _ (HB.out o)
      obtain ⟨ao, cp, rfl⟩ := hI.shape
      clear hI hbe
      cases hok : rOk r
      · have HE : Hid (rs.all rOk = false) := all_badR rs k r hr.out hok
        have HS : Hid (∀ o, Calls Tryd.prog 8 #[.agg #[.int .i64 r.1, .int .i64 r.2.1, .slice ao r.2.2.length cp]] (wr.alloc o) fun e w' => e = .returned (.bool false) ∧ Below (wr.alloc o).heap.size (wr.alloc o) w') := fun o => by
          have := implOk_any r.1 r.2.1 _ r.2.2 a (wr.alloc o) (HI.out o) hrl (HAr.out o)
          have hok' : Pl.recOk r.1 r.2.1 r.2.2 = false := hok
          rw [hok'] at this
          exact this
        clear hok
        go_wp2_with fail
        refine (HS.out _).mono ?_
        rintro e w2 ⟨rfl, hb2⟩
        have HB2 : Hid (Below w.heap.size w w2) := (HB.out _).trans (hb2.mono (HB.out _).size)
        clear hb2
        go_wp2
        go_ret
        exact ⟨by rw [HG.out, HE.out]; rfl, HB2.out⟩
      · have HA2 : Hid ((rs.take (k + 1)).all rOk = true) := by show _ = _; rw [all_snocR rs k r hr.out, HA.out, hok]; rfl
        have HS : Hid (∀ o, Calls Tryd.prog 8 #[.agg #[.int .i64 r.1, .int .i64 r.2.1, .slice ao r.2.2.length cp]] (wr.alloc o) fun e w' => e = .returned (.bool true) ∧ Below (wr.alloc o).heap.size (wr.alloc o) w') := fun o => by
          have := implOk_any r.1 r.2.1 _ r.2.2 a (wr.alloc o) (HI.out o) hrl (HAr.out o)
          have hok' : Pl.recOk r.1 r.2.1 r.2.2 = true := hok
          rw [hok'] at this
          exact this
        clear hok
        go_wp2_with fail
        refine (HS.out _).mono ?_
        rintro e w2 ⟨rfl, hb2⟩
        have HB2 : Hid (Below w.heap.size w w2) := (HB.out _).trans (hb2.mono (HB.out _).size)
        clear hb2
        go_wp2
        go_roundw
        case rel => exact ⟨k + 1, by omega, by go_num, HA2, HB2.out⟩
        case measure => simp [intOf]; omega
    · have HE : Hid (rs.all rOk = true) := by
        show _ = _
        have hke : k = rs.length := by omega
        have := HA.out
        rw [hke, List.take_length] at this
        exact this
      go_wp2
      go_ret
      exact ⟨by rw [HG.out, HE.out]; rfl, hbe⟩

end Go.Proofs.YtaogachhmdmoaaaDoor

namespace Go.Proofs.YtaogachhmdmoaaaDoor
open Go.RowKit

theorem size1 (w : World) (o : Obj) : (w.alloc o).heap.size = w.heap.size + 1 := by simp

/-- A result's block as it was laid: its two cells are there, and may be written. -/
def Zero2 (w : World) (b : Nat) : Prop := w.cell? ⟨b, 0, none⟩ = some (.slice none 0 0) ∧ w.cell? ⟨b, 1, none⟩ = some (.int .i64 0) ∧ w.frozen? ⟨b, 0, none⟩ = false ∧ w.frozen? ⟨b, 1, none⟩ = false
theorem Zero2.later {B : Nat} {w w' : World} {b : Nat} (h : Zero2 w b) (hb : Below B w w') (hB : b < B) : Zero2 w' b := by
  obtain ⟨h0, h1, h2, h3⟩ := h
  exact ⟨by rw [← h0]; exact hb.cell (p := ⟨b, 0, none⟩) hB, by rw [← h1]; exact hb.cell (p := ⟨b, 1, none⟩) hB, by rw [← h2]; exact hb.frozen (p := ⟨b, 0, none⟩) hB, by rw [← h3]; exact hb.frozen (p := ⟨b, 1, none⟩) hB⟩
theorem Zero2.new (w : World) (ty : TypeId) : Zero2 (w.alloc (.cells #[.slice none 0 0, .int .i64 0] ty)) w.heap.size := by
  refine ⟨?_, ?_, ?_, ?_⟩ <;> simp

theorem Zero2.new2 (w : World) (o : Obj) (ty : TypeId) : Zero2 ((w.alloc o).alloc (.cells #[.slice none 0 0, .int .i64 0] ty)) (w.heap.size + 1) := by
  have h := Zero2.new (w.alloc o) ty
  rw [size1] at h
  exact h

/-- A log comes back, in memory of the call's own. -/
def LogOut (w w' : World) (e : Ending) (rs : List R) (f : Int) : Prop :=
  ∃ ao cap, e = .returned (.agg #[.slice ao rs.length cap, .int .i64 f]) ∧ Made w' w.heap.size (.slice ao rs.length cap) rs ∧ Below w.heap.size w w'

theorem Made.lo {w : World} {lo lo' : Nat} {v : Value} {rs : List R} (h : Made w lo v rs) (hl : lo' ≤ lo) : Made w lo' v rs := by
  obtain ⟨ps, hp, h1, h2, h3⟩ := h
  exact ⟨ps, hp, ownsRow_base h1 hl, h2, h3.1, fun p hp => ⟨ownsRow_base (h3.2.1 p hp).1 hl, (h3.2.1 p hp).2⟩, h3.2.2⟩

theorem Made.none (w : World) (lo : Nat) : Made w lo (.slice none 0 0) [] :=
  ⟨[], rfl, World.ownsRow_nil _ _ _ _, fun k hk => by simp [Value.ownBlock] at hk, Inner.nil _ _ _ (Nat.le_refl _)⟩

/-- What a log is when all is forced. -/
def forceR (rs : List R) (f : Int) : List R := if logOk rs f then rs else []
def forceF (rs : List R) (f : Int) : Int := if logOk rs f then rs.length else 0

end Go.Proofs.YtaogachhmdmoaaaDoor

namespace Go.Proofs.YtaogachhmdmoaaaDoor
open Go.RowKit

theorem bcellB {B : Nat} {W w1 : World} (hb : Below B W w1) : (∀ b o, b < B → w1.cell? ⟨b, o, none⟩ = W.cell? ⟨b, o, none⟩) ∧ (∀ b o, b < B → w1.frozen? ⟨b, o, none⟩ = W.frozen? ⟨b, o, none⟩) :=
  ⟨fun b o h => hb.cell (p := ⟨b, o, none⟩) h, fun b o h => hb.frozen (p := ⟨b, o, none⟩) h⟩

theorem wpList_append_ints {ops : Array Oper} {rest : List Oper} {o : Oper} {a : Act} {w : World} {Q : Exit → Act → World → Prop} (hgd : o.guard = none) (s x : Operand)
    (ho : o.op = .call { callee := .builtin .append, args := #[s, x], argTypes := #[23, 23] })
    (base : Nat) (v xv : Value) (n : Nat) (xs : List Value) (zs : List Int) (hs : a.eval s = v) (hx : a.eval x = xv) (hown : w.ownsRow base 3 1 v n xs) (hI : Ints w xv zs) (hb : n + zs.length ≤ 16777216) (hbase : base ≤ w.heap.size)
    (h : ∀ ao cap w', w'.ownsRow base 3 1 (.slice ao (n + zs.length) cap) (n + zs.length) (xs ++ zs.map (Value.int .i64)) → w.grownBy w' v.ownBlock → wpList Tryd.prog ops Q rest (a.put o.dst (.slice ao (n + zs.length) cap)) w') :
    wpList Tryd.prog ops Q (o :: rest) a w := by
  refine wpList_plain hgd fun K hK' => ?_
  obtain ⟨v', w', hrun, r1, r2⟩ := run_append_ints w base o.type v xv n xs zs hown hI hb hbase
  obtain ⟨ao, cap, rfl⟩ := row_shape r1
  unfold Oper.wp
  simp [execOp, ho, resolve, invoke, builtin, hs, hx, hrun, Result.andThen]
  exact hK' _ _ (h ao cap w' r1 r2)

set_option maxHeartbeats 2000000 in
theorem specCopy_any (k t : Int) (u : Value) (zs : List Int) (w : World) (hI : Ints w u zs) (hl : zs.length ≤ 1048576) :
    Calls Tryd.prog 29 #[.agg #[.int .i64 k, .int .i64 t, u]] w fun e w' => ∃ ao cap, e = .returned (.agg #[.int .i64 k, .int .i64 t, .slice ao zs.length cap]) ∧
      w'.ownsRow (w.heap.size + 2) 3 1 (.slice ao zs.length cap) zs.length (zs.map (Value.int .i64)) ∧ Below w.heap.size w w' := by
  have HI : Hid (∀ W, Below w.heap.size w W → Ints W u zs) := fun W h => hI.later h (Nat.le_refl _)
  obtain ⟨au, cu, hus⟩ := hI.shape
  clear hI
  subst hus
  go_enter Tryd.func29, Tryd.ntmps29
  go_wp2_with (at_builtin; refine wpList_append_ints rfl _ _ rfl (w.heap.size + 2) (.slice (some ⟨w.heap.size + 2, 0, none⟩) 0 0) (.slice au zs.length cu) 0 [] zs rfl rfl ?c1 ?c2 ?c3 ?c4 ?_)
  case c1 =>
    have h := World.ownsRow_lit (base := w.heap.size + 2) (e := 3) (size := 1) ((w.alloc (.cells #[.int .i64 k, .int .i64 t, .slice au zs.length cu] 25)).alloc (.cells #[.int .i64 0, .int .i64 0, .slice none 0 0] 25)) #[] 0 (by simp) (by unfold maxLen; omega) rfl
    rw [size2] at h
    exact h
  case c2 => exact HI.out _ (below3 w _ _ _)
  case c3 => omega
  case c4 => simp
  · intro ao cap w1 hown hgrow
    try simp only [Nat.zero_add, List.nil_append] at hown
    have hb : Below (w.heap.size + 2) (((w.alloc (.cells #[.int .i64 k, .int .i64 t, .slice au zs.length cu] 25)).alloc (.cells #[.int .i64 0, .int .i64 0, .slice none 0 0] 25)).alloc (.cells #[] 3)) w1 :=
      (Below.refl _ _).grown hgrow (by simp) (fun j hj => by simp [Value.ownBlock] at hj; omega)
    obtain ⟨hc, hf⟩ := bcellB hb
    have hz : w.heap.size + 2 ≤ w1.heap.size := by have := hb.size; simp at this; omega
    have HO := hide_it hown
    have HB := hide_it ((below3 w _ _ _).trans (hb.mono (Nat.le_add_right _ _)))
    have e0 : w1.cell? ⟨w.heap.size, 0, none⟩ = some (.int .i64 k) := by rw [hc _ _ (by omega)]; simp [go_sem]
    have e1 : w1.cell? ⟨w.heap.size, 1, none⟩ = some (.int .i64 t) := by rw [hc _ _ (by omega)]; simp [go_sem]
    have e2 : w1.cell? ⟨w.heap.size, 2, none⟩ = some (.slice au zs.length cu) := by rw [hc _ _ (by omega)]; simp [go_sem]
    have e3 : w1.frozen? ⟨w.heap.size, 2, none⟩ = false := by rw [hf _ _ (by omega)]; simp [go_sem]
    have d0 : w1.cell? ⟨w.heap.size + 1, 0, none⟩ = some (.int .i64 0) := by rw [hc _ _ (by omega)]; simp [go_sem]
    have d1 : w1.cell? ⟨w.heap.size + 1, 1, none⟩ = some (.int .i64 0) := by rw [hc _ _ (by omega)]; simp [go_sem]
    have d2 : w1.cell? ⟨w.heap.size + 1, 2, none⟩ = some (.slice none 0 0) := by rw [hc _ _ (by omega)]; simp [go_sem]
    have z0 : w1.frozen? ⟨w.heap.size + 1, 0, none⟩ = false := by rw [hf _ _ (by omega)]; simp [go_sem]
    have z1 : w1.frozen? ⟨w.heap.size + 1, 1, none⟩ = false := by rw [hf _ _ (by omega)]; simp [go_sem]
    have z2 : w1.frozen? ⟨w.heap.size + 1, 2, none⟩ = false := by rw [hf _ _ (by omega)]; simp [go_sem]
    clear hown hgrow hb hc hf
    try simp only [Nat.zero_add]
    go_wp2
    refine bodyPost_ret (v := .agg #[.int .i64 k, .int .i64 t, .slice ao zs.length cap]) (by simp [results, Tryd.results29, go_sem, d0, d1, d2]) rfl ⟨ao, cap, rfl, ?_, ?_⟩
    · exact ownsRow_setCell_below (ownsRow_setCell_below (ownsRow_setCell_below (ownsRow_setCell_below HO.out (by simp) _) (by simp) _) (by simp) _) (by simp) _
    · exact (((HB.out.setCell (by simp) _).setCell (by simp) _).setCell (by simp) _).setCell (by simp) _

end Go.Proofs.YtaogachhmdmoaaaDoor

namespace Go.Proofs.YtaogachhmdmoaaaDoor
open Go.RowKit

/-- The blocks that the copy reads and writes: the log that came in, the result's, and the one that is made. -/
def Boxes (w : World) (B : Nat) (v vo : Value) (f : Int) : Prop :=
  w.heap[B]? = some (.cells #[v, .int .i64 f] 31 (0, 0)) ∧ w.heap[B + 1]? = some (.cells #[.slice none 0 0, .int .i64 0] 31 (0, 0)) ∧ w.heap[B + 3]? = some (.cells #[vo, .int .i64 f] 31 (0, 0))

theorem lt_of_heap {w : World} {k : Nat} {o : Obj} (h : w.heap[k]? = some o) : k < w.heap.size := by
  by_cases e : k < w.heap.size
  · exact e
  · rw [Array.getElem?_eq_none (by omega)] at h; cases h

theorem Boxes.size {w : World} {B : Nat} {v vo : Value} {f : Int} (h : Boxes w B v vo f) : B + 3 < w.heap.size := lt_of_heap h.2.2

theorem Boxes.later {w w' : World} {B : Nat} {v vo : Value} {f : Int} (h : Boxes w B v vo f) (hb : Below w.heap.size w w') : Boxes w' B v vo f := by
  have hs := h.size
  obtain ⟨h0, h1, h2⟩ := h
  exact ⟨by rw [hb.block B (by omega)]; exact h0, by rw [hb.block (B + 1) (by omega)]; exact h1, by rw [hb.block (B + 3) hs]; exact h2⟩

theorem Boxes.grown {w w' : World} {B : Nat} {v vo : Value} {f : Int} {row : Option Nat} (h : Boxes w B v vo f) (hg : w.grownBy w' row) (hr : ∀ k, row = some k → B + 2 ≤ k ∧ k ≠ B + 3) : Boxes w' B v vo f := by
  have hs := h.size
  obtain ⟨h0, h1, h2⟩ := h
  refine ⟨?_, ?_, ?_⟩
  · rw [hg.block B (by omega) (fun e => by have := hr _ e.symm; omega)]; exact h0
  · rw [hg.block (B + 1) (by omega) (fun e => by have := hr _ e.symm; omega)]; exact h1
  · rw [hg.block (B + 3) hs (fun e => by have := hr _ e.symm; omega)]; exact h2

theorem Boxes.set {w : World} {B : Nat} {v vo : Value} {f : Int} (h : Boxes w B v vo f) (x : Value) : Boxes (w.setCell ⟨B + 3, 0, none⟩ x) B v x f := by
  obtain ⟨h0, h1, h2⟩ := h
  refine ⟨?_, ?_, ?_⟩
  · rw [Below.heap_setCell _ _ _ _ (by simp)]; exact h0
  · rw [Below.heap_setCell _ _ _ _ (by simp)]; exact h1
  · rw [heap_setCell_same w (B + 3) 0 _ _ x h2]; simp

theorem Boxes.cells {w : World} {B : Nat} {v vo : Value} {f : Int} (h : Boxes w B v vo f) :
    w.cell? ⟨B, 0, none⟩ = some v ∧ w.cell? ⟨B, 1, none⟩ = some (.int .i64 f) ∧ w.cell? ⟨B + 3, 0, none⟩ = some vo ∧ w.cell? ⟨B + 3, 1, none⟩ = some (.int .i64 f) ∧ w.frozen? ⟨B + 3, 0, none⟩ = false ∧
    w.cell? ⟨B + 1, 0, none⟩ = some (.slice none 0 0) ∧ w.cell? ⟨B + 1, 1, none⟩ = some (.int .i64 0) ∧ w.frozen? ⟨B + 1, 0, none⟩ = false ∧ w.frozen? ⟨B + 1, 1, none⟩ = false := by
  obtain ⟨h0, h1, h2⟩ := h
  refine ⟨?_, ?_, ?_, ?_, frozen_of_row w _ _ _ _ h2, ?_, ?_, frozen_of_row w _ _ _ _ h1, frozen_of_row w _ _ _ _ h1⟩
  · rw [cell_of_row w _ _ _ _ _ h0]; rfl
  · rw [cell_of_row w _ _ _ _ _ h0]; rfl
  · rw [cell_of_row w _ _ _ _ _ h2]; rfl
  · rw [cell_of_row w _ _ _ _ _ h2]; rfl
  · rw [cell_of_row w _ _ _ _ _ h1]; rfl
  · rw [cell_of_row w _ _ _ _ _ h1]; rfl

theorem ownsRow_setCell_ne {w : World} {base : Nat} {e : TypeId} {size : Nat} {v : Value} {n : Nat} {xs : List Value} (h : w.ownsRow base e size v n xs) {a : Addr} (ha : ∀ g, v.ownBlock = some g → g ≠ a.block) (u : Value) : (w.setCell a u).ownsRow base e size v n xs := by
  obtain ⟨h1, h2⟩ := h
  refine ⟨h1, ?_⟩
  rcases h2 with h2 | ⟨g, cap, cur, hv, hg, hh, r⟩
  · exact Or.inl h2
  · exact Or.inr ⟨g, cap, cur, hv, hg, by rw [Below.heap_setCell _ _ _ _ (ha g (by rw [hv]; rfl))]; exact hh, r⟩

/-- A row of records is not the log's own block. -/
theorem Boxes.apart {w : World} {B base : Nat} {v vo : Value} {f : Int} {x : Value} {n : Nat} {xs : List Value} {ty : TypeId} {sz : Nat} (h : Boxes w B v vo f) (hr : w.ownsRow base ty sz x n xs) (ht : ty ≠ 31) : ∀ g, x.ownBlock = some g → g ≠ B + 3 := by
  intro g hg e
  subst e
  rcases hr.2 with ⟨hv, _⟩ | ⟨g', cap, cur', hv, _, hh, _⟩
  · rw [hv] at hg; simp [Value.ownBlock] at hg
  · rw [hv] at hg
    simp [Value.ownBlock] at hg
    subst hg
    rw [h.2.2] at hh
    simp at hh
    exact ht hh.2.symm

/-- What one round of the copy does. -/
theorem l1Copy_step {w wr w2 w4 : World} {B : Nat} {v vo : Value} {f : Int} {ps : List (R × Value)} {r : R} {ao2 : Option Addr} {cap2 g cap4 : Nat} {o : Obj} (hB : B = w.heap.size)
    (hrow : wr.ownsRow (B + 2) 25 3 vo ps.length (flat ps)) (hin : Inner wr (B + 2) wr.heap.size ps) (hbox : Boxes wr B v vo f) (hbe : Below w.heap.size w wr)
    (hb2 : Below wr.heap.size wr w2) (hown2 : w2.ownsRow (wr.heap.size + 2) 3 1 (.slice ao2 r.2.2.length cap2) r.2.2.length (r.2.2.map (Value.int .i64)))
    (hown4 : w4.ownsRow (B + 2) 25 3 (.slice (some ⟨g, 0, none⟩) (ps.length + 1) cap4) (ps.length + 1) (flat ps ++ [.int .i64 r.1, .int .i64 r.2.1, .slice ao2 r.2.2.length cap2]))
    (hg4 : (w2.alloc o).grownBy w4 vo.ownBlock) :
    Hid ((w4.setCell ⟨B + 3, 0, none⟩ (.slice (some ⟨g, 0, none⟩) (ps.length + 1) cap4)).ownsRow (B + 2) 25 3 (.slice (some ⟨g, 0, none⟩) (ps.length + 1) cap4) (ps ++ [(r, Value.slice ao2 r.2.2.length cap2)]).length (flat (ps ++ [(r, Value.slice ao2 r.2.2.length cap2)])) ∧
    Inner (w4.setCell ⟨B + 3, 0, none⟩ (.slice (some ⟨g, 0, none⟩) (ps.length + 1) cap4)) (B + 2) (w4.setCell ⟨B + 3, 0, none⟩ (.slice (some ⟨g, 0, none⟩) (ps.length + 1) cap4)).heap.size (ps ++ [(r, Value.slice ao2 r.2.2.length cap2)]) ∧
    Boxes (w4.setCell ⟨B + 3, 0, none⟩ (.slice (some ⟨g, 0, none⟩) (ps.length + 1) cap4)) B v (.slice (some ⟨g, 0, none⟩) (ps.length + 1) cap4) f ∧
    Below w.heap.size w (w4.setCell ⟨B + 3, 0, none⟩ (.slice (some ⟨g, 0, none⟩) (ps.length + 1) cap4))) ∧ Boxes w4 B v vo f := by
  have hsz := hbox.size
  have al := (Below.refl w2.heap.size w2).alloc (Nat.le_refl _) o
  have hs2 : (w2.alloc o).heap.size = w2.heap.size + 1 := by simp
  have hws := hb2.size
  have row3 : (w2.alloc o).ownsRow (B + 2) 25 3 vo ps.length (flat ps) := (ownsRow_below hrow hb2 (fun j hj => (hrow.lt j hj).2)).alloc o
  have in3 : Inner (w2.alloc o) (B + 2) wr.heap.size ps := (hin.below hb2 (Nat.le_refl _)).below al (by omega)
  have new3 := (ownsRow_base hown2 (show B + 2 ≤ wr.heap.size + 2 by omega)).alloc o
  have box3 : Boxes (w2.alloc o) B v vo f := (hbox.later hb2).later al
  have ap3 := box3.apart row3 (by decide)
  have box4 : Boxes w4 B v vo f := box3.grown hg4 (fun k hk => ⟨(row3.lt k hk).1, ap3 k hk⟩)
  have st := append_step (r := r) row3 in3 (by omega) new3 (fun k hk => by have := hown2.lt k hk; omega) hown4 hg4
  have ap4 := box4.apart hown4 (by decide)
  have be4 : Below w.heap.size w w4 := ((hbe.trans (hb2.mono hbe.size)).trans (al.mono (by have := hbe.size; omega))).grown hg4 (by have := hbe.size; omega) (fun k hk => by have := (row3.lt k hk).1; omega)
  refine ⟨⟨ownsRow_setCell_ne st.1 ap4 _, ?_, box4.set _, be4.setCell (by show w.heap.size ≤ B + 3; omega) _⟩, box4⟩
  obtain ⟨i1, i2, i3⟩ := st.2
  have hse : (w4.setCell ⟨B + 3, 0, none⟩ (.slice (some ⟨g, 0, none⟩) (ps.length + 1) cap4)).heap.size = w4.heap.size := by simp
  rw [hse]
  exact ⟨by rw [hse]; exact i1, fun p hp => ⟨ownsRow_setCell_ne (i2 p hp).1 (box4.apart (i2 p hp).1 (by decide)) _, (i2 p hp).2⟩, i3⟩

theorem boxes_new (w : World) (v : Value) (f : Int) (o : Obj) (vo : Value) : Boxes ((((w.alloc (.cells #[v, .int .i64 f] 31)).alloc (.cells #[.slice none 0 0, .int .i64 0] 31)).alloc o).alloc (.cells #[vo, .int .i64 f] 31)) w.heap.size v vo f := by
  refine ⟨?_, ?_, ?_⟩
  · rw [Below.heap_alloc _ _ _ (by simp; omega), Below.heap_alloc _ _ _ (by simp; omega), Below.heap_alloc _ _ _ (by simp)]; exact heap_alloc_new w _
  · rw [Below.heap_alloc _ _ _ (by simp), Below.heap_alloc _ _ _ (by simp)]
    have := heap_alloc_new (w.alloc (.cells #[v, .int .i64 f] 31)) (.cells #[.slice none 0 0, .int .i64 0] 31)
    rw [size1] at this
    exact this
  · have := heap_alloc_new (((w.alloc (.cells #[v, .int .i64 f] 31)).alloc (.cells #[.slice none 0 0, .int .i64 0] 31)).alloc o) (.cells #[vo, .int .i64 f] 31)
    rw [size3] at this
    exact this
theorem below4 (w : World) (o1 o2 o3 o4 : Obj) : Below w.heap.size w ((((w.alloc o1).alloc o2).alloc o3).alloc o4) := (below3 w o1 o2 o3).alloc (by simp; omega) _

theorem cellAlloc {w : World} {b o : Nat} {v : Value} (h : w.cell? ⟨b, o, none⟩ = some v) (x : Obj) : (w.alloc x).cell? ⟨b, o, none⟩ = some v := by
  rw [← h]
  exact ((Below.refl w.heap.size w).alloc (Nat.le_refl _) x).cell (p := ⟨b, o, none⟩) (World.block_lt_of_cell? _ _ h)
theorem news3 (w : World) (k t : Int) (u : Value) (ty : TypeId) : ∀ (j : Nat) (x : Value), [Value.int .i64 k, .int .i64 t, u][j]? = some x → (w.alloc (.cells #[.int .i64 k, .int .i64 t, u] ty)).cell? ((⟨w.heap.size, 0, none⟩ : Addr).add j) = some x := by
  intro j x hj
  match j, hj with
  | 0, hj => simp at hj; subst hj; simp [Addr.add]
  | 1, hj => simp at hj; subst hj; simp [Addr.add]
  | 2, hj => simp at hj; subst hj; simp [Addr.add]
theorem one3 (k t : Int) (ao : Option Addr) {n c : Nat} : ∀ x ∈ [Value.int .i64 k, .int .i64 t, .slice ao n c], x.oneCell' = true := by
  intro x hx; simp at hx; rcases hx with rfl | rfl | rfl <;> rfl

set_option maxRecDepth 100000 in
set_option maxHeartbeats 4000000 in
theorem l1Copy_any (v : Value) (rs : List R) (f : Int) (w : World) (hv : Recs w v rs) (hl : tot rs ≤ 1048576) :
    Calls Tryd.prog 28 #[.agg #[v, .int .i64 f]] w fun e w' => LogOut w w' e rs f := by
  obtain ⟨i0, hi, hz0, hz1, hz2⟩ := info_parts infoRec
  have hlen := tot_len rs
  have HM : Hid (∀ r ∈ rs, r.2.2.length ≤ 1048576) := fun r hr => Nat.le_trans (tot_mem rs r hr) hl
  have ROW0 : Hid (∀ o1 o2 o4, ((((w.alloc o1).alloc o2).alloc (.cells #[] 25)).alloc o4).ownsRow (w.heap.size + 2) 25 3 (.slice (some ⟨w.heap.size + 2, 0, none⟩) 0 0) 0 []) := fun o1 o2 o4 => by
    have h := World.ownsRow_lit (base := w.heap.size + 2) (e := 25) (size := 3) ((w.alloc o1).alloc o2) #[] 0 (by simp) (by unfold maxLen; omega) rfl
    rw [size2] at h
    exact h.alloc o4
  rcases hv with ⟨rfl, ao, cap, rfl⟩ | ⟨b, off, cap, rfl, hz, hc⟩
  · go_enter Tryd.func28, Tryd.ntmps28
    go_wp2
    refine wp_loop_rounds 1 ?_
    rw [rounds_succ]
    go_wp2
    refine bodyPost_ret (v := .agg #[.slice (some ⟨w.heap.size + 2, 0, none⟩) 0 0, .int .i64 f]) (by simp [results, Tryd.results28, go_sem]) rfl ?_
    refine ⟨_, _, rfl, ⟨[], rfl, ?_, ?_, Inner.nil _ _ _ (Nat.le_refl _)⟩, ?_⟩
    · exact ownsRow_base (ROW0.out _ _ _) (by omega)
    · intro k hk; simp [Value.ownBlock] at hk; simp; omega
    · exact below4 w _ _ _ _
  have HC : Hid (∀ W, Below w.heap.size w W → ∀ i r, rs[i]? = some r → ∃ u, RecCells W b (off + i * 3) r u) := fun W h i r hr => by
    obtain ⟨u, hu⟩ := hc i r hr
    exact ⟨u, hu.later h (Nat.le_refl _)⟩
  have hzl : 0 < rs.length := List.length_pos_iff.2 hz
  have BOX0 := hide_it (boxes_new w (.slice (some ⟨b, off, none⟩) rs.length cap) f (.cells #[] 25) (.slice (some ⟨w.heap.size + 2, 0, none⟩) 0 0))
  clear hc hz
  go_enter Tryd.func28, Tryd.ntmps28
  go_wp2
  go_loopw [4] (fun i wr => ∃ (k : Nat) (ps : List (R × Value)) (vo : Value), k ≤ rs.length ∧ i = .int .i64 k ∧ Hid (ps.map (·.1) = rs.take k) ∧ Hid (wr.ownsRow (w.heap.size + 2) 25 3 vo ps.length (flat ps)) ∧ Hid (Inner wr (w.heap.size + 2) wr.heap.size ps) ∧ Hid (Boxes wr w.heap.size (.slice (some ⟨b, off, none⟩) rs.length cap) vo f) ∧ Hid (Below w.heap.size w wr)) (fun i _ => rs.length - (intOf i).toNat)
  case atStart => exact ⟨0, [], _, Nat.zero_le _, rfl, rfl, ROW0.out _ _ _, Inner.nil _ _ _ (Nat.le_refl _), BOX0, below4 w _ _ _ _⟩
  case round =>
    obtain ⟨k, ps, vo, hk, rfl, HP, HO, HN, HX, HB⟩ := hrel
    have HPL : Hid (ps.length = k) := by
      have := congrArg List.length HP.out
      simp at this
      show _ = _; omega
    obtain ⟨x0, x1, y0, y1, y2, q0, q1, q2, q3⟩ := HX.out.cells
    by_cases hlt : k < rs.length
    · obtain ⟨r, hr⟩ : ∃ r, Hid (rs[k]? = some r) := ⟨rs[k], by show _ = _; simp [hlt]⟩
      have hrl : r.2.2.length ≤ 1048576 := HM.out r (List.mem_of_getElem? hr.out)
      obtain ⟨u, c0, c1, c2, hI⟩ := HC.out wr HB.out k r hr.out
      have HI : Hid (Ints wr.drew u r.2.2) := hI.later (Below.refl _ _).drew (Nat.le_refl _)
      clear hI
      go_wp2
      go_region_law (first
        | (refine step_append_lies _ rfl _ _ 29 rfl (w.heap.size + 2) 25 i0 (.agg #[.int .i64 0, .int .i64 0, .slice none 0 0]) 3 40 Tryd.underlying29 hi hz0 hz1 hz2 rfl (by decide) vo ps.length (flat ps) rfl (by exact (ROW2.out _)) ⟨w2.heap.size, 0, none⟩ 1 1 [.int .i64 r.1, .int .i64 r.2.1, .slice ao2 r.2.2.length cap2] rfl rfl (by exact news3 _ _ _ _ _) (by exact one3 _ _ _) (by decide) (by have := HPL.out; unfold maxLen; omega) (by have := HPL.out; omega) (by simp; omega) _ rfl ?_; intro g4 cap4 w4 hown4 hgrow4 _ _; have ST := l1Copy_step rfl HO.out HN.out HX.out HB.out HB2.out HW2.out hown4 hgrow4; obtain ⟨a0, a1, b0, b1, b2, e0, e1, e2, e3⟩ := ST.2.cells; have ST1 := ST.1; clear ST hown4 hgrow4)
        | (go_simp; go_at_call 29; refine (specCopy_any r.1 r.2.1 u r.2.2 _ ?_ hrl).mono ?_; exact HI.out; rintro e w2 ⟨ao2, cap2, rfl, hown2, hb2⟩; have HB2 := hide_it ((Below.refl wr.heap.size wr).drew.trans hb2); have HW2 := hide_it hown2; obtain ⟨a0, a1, b0, b1, b2, e0, e1, e2, e3⟩ := (HX.out.later HB2.out).cells; have hzz2 : w.heap.size + 4 ≤ w2.heap.size := (by have h1 := HB2.out.size; have h2 := HX.out.size; omega); have b0o := (fun x => cellAlloc b0 x); have ROW2 : Hid (∀ o, (w2.alloc o).ownsRow (w.heap.size + 2) 25 3 vo ps.length (flat ps)) := (fun o => (ownsRow_below HO.out HB2.out (fun j hj => (HO.out.lt j hj).2)).alloc o); clear hown2 hb2))
      all_goals
        go_wp2
        go_roundw
        case rel =>
          rw [show w.heap.size + 1 + 1 + 1 = w.heap.size + 3 from rfl]
          refine ⟨k + 1, ps ++ [(r, .slice ao2 r.2.2.length cap2)], .slice (some ⟨g4, 0, none⟩) (ps.length + 1) cap4, by omega, by go_num, ?_, hide_it ST1.out.1, hide_it ST1.out.2.1, hide_it ST1.out.2.2.1, hide_it ST1.out.2.2.2⟩
          show _ = _
          have hkl : k < rs.length := by omega
          have hrk : rs[k] = r := by have := hr.out; rw [List.getElem?_eq_getElem hkl] at this; simpa using this
          rw [List.map_append, HP.out, List.take_succ_eq_append_getElem hkl, hrk]
          rfl
        case measure => simp [intOf]; omega
    · have hke : Hid (k = rs.length) := by show _ = _; omega
      obtain ⟨ao, cp, hvo⟩ := row_shape HO.out
      have hpl : ps.length = rs.length := by rw [HPL.out, hke.out]
      rw [hpl] at hvo
      have HO2 : Hid (wr.ownsRow (w.heap.size + 2) 25 3 (.slice ao rs.length cp) ps.length (flat ps)) := by
        have := HO.out; rw [hvo] at this; exact this
      have HD : Hid (Made wr (w.heap.size + 2) (.slice ao rs.length cp) rs) :=
        ⟨ps, by rw [HP.out, hke.out, List.take_length], HO2.out, fun j hj => (HO2.out.lt j hj).2, HN.out⟩
      subst hvo
      clear hpl
      go_wp2
      refine bodyPost_ret (v := .agg #[.slice ao rs.length cp, .int .i64 f]) (by simp [results, Tryd.results28, go_sem, q0, q1]) rfl ⟨ao, cp, rfl, ?_, ?_⟩
      · exact ((HD.out.setBelow (by simp) _).setBelow (by simp) _).lo (by omega)
      · exact (HB.out.setCell (by simp) _).setCell (by simp) _

end Go.Proofs.YtaogachhmdmoaaaDoor

namespace Go.Proofs.YtaogachhmdmoaaaDoor
open Go.RowKit

/-- The numbers of a drawn record: a list of at most four, or none at all. -/
def Good (W : World) (lo : Nat) (p : R × Value) : Prop := p.1.2.2.length ≤ 4 ∧ ((∃ cap, Fresh W lo p.2 p.1.2.2 cap) ∨ (p.2 = .slice none 0 0 ∧ p.1.2.2 = []))

theorem Good.keep {W W' : World} {lo : Nat} {p : R × Value} (h : Good W lo p) (hk : ∀ (g : Nat) (cs : Array Value), W.heap[g]? = some (.cells cs 3 (0, 0)) → W'.heap[g]? = W.heap[g]?) : Good W' lo p := by
  obtain ⟨h1, h2⟩ := h
  refine ⟨h1, ?_⟩
  rcases h2 with ⟨cap, h2⟩ | h2
  · exact Or.inl ⟨cap, h2.keep hk⟩
  · exact Or.inr h2
theorem Good.ints {W : World} {lo : Nat} {p : R × Value} (h : Good W lo p) : Ints W p.2 p.1.2.2 := by
  obtain ⟨_, h2⟩ := h
  rcases h2 with ⟨cap, h2⟩ | ⟨h2, h3⟩
  · exact h2.ints
  · exact Or.inl ⟨h3, none, 0, h2, fun _ => rfl⟩

structure StL (w W : World) (b q L : Nat) (f : Int) (v : Value) (ps : List (R × Value)) : Prop where
  own : W.heap[L]? = some (.cells #[v, .int .i64 f] 31 (0, 0))
  res : ∃ ra rc, W.heap[w.heap.size]? = some (.cells #[ra, rc] 31 (0, 0))
  lt : w.heap.size < L
  row : W.ownsRow w.heap.size 25 3 v ps.length (flat ps)
  all : ∀ p ∈ ps, Good W w.heap.size p
  rd : Rd W b q
  mid : Mid b (b + 1) w W
  low : b < w.heap.size

theorem recrow_block {W : World} {base n : Nat} {v : Value} {xs : List Value} (h : W.ownsRow base 25 3 v n xs) (g : Nat) (hg : v.ownBlock = some g) : base ≤ g ∧ ∃ cs, W.heap[g]? = some (.cells cs 25 (0, 0)) := by
  rcases h.2 with ⟨hv, _⟩ | ⟨g', cap, cur, hv, hb, hh, _⟩
  · rw [hv] at hg; simp [Value.ownBlock] at hg
  · rw [hv] at hg; simp [Value.ownBlock] at hg; subst hg; exact ⟨hb, cur, hh⟩

theorem StL.step {w W W' : World} {b q q' L : Nat} {f : Int} {v : Value} {ps : List (R × Value)} (h : StL w W b q L f v ps) (hb : Mid b (b + 1) W W') (hr : Rd W' b q') : StL w W' b q' L f v ps :=
  ⟨row_mid h.own hb (by have := h.lt; have := h.low; omega), (by obtain ⟨ra, rc, hr⟩ := h.res; exact ⟨ra, rc, row_mid hr hb h.low⟩), h.lt,
    ownsRow_mid h.row hb (fun k hk => Or.inr (by have := (recrow_block h.row k hk).1; have := h.low; omega)),
    fun p hp => (h.all p hp).keep fun g cs hh => hb.block g (heap_lt hh) (by
      obtain ⟨x, n, _, h1, _⟩ := h.rd
      by_cases e : g = b
      · subst e; rw [hh] at h1; simp at h1
      · omega), hr, h.mid.trans hb, h.low⟩
theorem StL.later {w W W' : World} {b q L : Nat} {f : Int} {v : Value} {ps : List (R × Value)} (h : StL w W b q L f v ps) (hb : Below W.heap.size W W') : StL w W' b q L f v ps :=
  h.step (Mid.of_below hb (Nat.le_refl _)) (h.rd.later hb (Nat.le_refl _))
theorem StL.cells {w W : World} {b q L : Nat} {f : Int} {v : Value} {ps : List (R × Value)} (h : StL w W b q L f v ps) :
    (W.cell? ⟨L, 0, none⟩ = some v ∧ W.cell? ⟨L, 1, none⟩ = some (.int .i64 f) ∧ W.frozen? ⟨L, 0, none⟩ = false ∧ W.frozen? ⟨L, 1, none⟩ = false) ∧
    (∃ ra rc, W.cell? ⟨w.heap.size, 0, none⟩ = some ra ∧ W.cell? ⟨w.heap.size, 1, none⟩ = some rc ∧ W.frozen? ⟨w.heap.size, 0, none⟩ = false ∧ W.frozen? ⟨w.heap.size, 1, none⟩ = false) := by
  obtain ⟨ra, rc, hr⟩ := h.res
  refine ⟨⟨?_, ?_, frozen_of_row W _ _ _ _ h.own, frozen_of_row W _ _ _ _ h.own⟩, ⟨ra, rc, ?_, ?_, frozen_of_row W _ _ _ _ hr, frozen_of_row W _ _ _ _ hr⟩⟩
  · rw [cell_of_row W _ _ _ _ _ h.own]; rfl
  · rw [cell_of_row W _ _ _ _ _ h.own]; rfl
  · rw [cell_of_row W _ _ _ _ _ hr]; rfl
  · rw [cell_of_row W _ _ _ _ _ hr]; rfl

theorem ne_of_type {W : World} {g L : Nat} {cs cs' : Array Value} {t t' : TypeId} (h : W.heap[g]? = some (.cells cs t (0, 0))) (h' : W.heap[L]? = some (.cells cs' t' (0, 0))) (ht : t ≠ t') : g ≠ L := by
  intro e; subst e; rw [h] at h'; simp at h'; exact ht h'.2

theorem StL.setF {w W : World} {b q L : Nat} {f : Int} {v : Value} {ps : List (R × Value)} (h : StL w W b q L f v ps) (x : Int) : StL w (W.setCell ⟨L, 1, none⟩ (.int .i64 x)) b q L x v ps := by
  have hl := h.lt
  have hw := h.low
  refine ⟨by rw [heap_setCell_same W L 1 _ _ _ h.own]; simp, (by obtain ⟨ra, rc, hr⟩ := h.res; exact ⟨ra, rc, by rw [Below.heap_setCell _ _ _ _ (by simp; omega)]; exact hr⟩), hl, ?_, ?_, h.rd.setApart (by omega) _, h.mid.setNew (by omega) _, hw⟩
  · exact ownsRow_setCell_ne h.row (fun g hg => by obtain ⟨cs, hh⟩ := (recrow_block h.row g hg).2; exact ne_of_type hh h.own (by decide)) _
  · exact fun p hp => (h.all p hp).keep fun g cs hh => Below.heap_setCell _ _ _ _ (ne_of_type hh h.own (by decide))

/-- The result's two cells may be written. -/
theorem StL.setR0 {w W : World} {b q L : Nat} {f : Int} {v : Value} {ps : List (R × Value)} (h : StL w W b q L f v ps) (x : Value) : StL w (W.setCell ⟨w.heap.size, 0, none⟩ x) b q L f v ps := by
  have hl := h.lt
  have hw := h.low
  obtain ⟨ra, rc, hr⟩ := h.res
  refine ⟨by rw [Below.heap_setCell _ _ _ _ (by simp; omega)]; exact h.own, ⟨x, rc, by rw [heap_setCell_same W _ 0 _ _ _ hr]; simp⟩, hl, ?_, ?_, h.rd.setApart hw _, h.mid.setNew (Nat.le_refl _) _, hw⟩
  · exact ownsRow_setCell_ne h.row (fun g hg => by obtain ⟨cs, hh⟩ := (recrow_block h.row g hg).2; exact ne_of_type hh hr (by decide)) _
  · exact fun p hp => (h.all p hp).keep fun g cs hh => Below.heap_setCell _ _ _ _ (ne_of_type hh hr (by decide))
theorem StL.setR1 {w W : World} {b q L : Nat} {f : Int} {v : Value} {ps : List (R × Value)} (h : StL w W b q L f v ps) (x : Value) : StL w (W.setCell ⟨w.heap.size, 1, none⟩ x) b q L f v ps := by
  have hl := h.lt
  have hw := h.low
  obtain ⟨ra, rc, hr⟩ := h.res
  refine ⟨by rw [Below.heap_setCell _ _ _ _ (by simp; omega)]; exact h.own, ⟨ra, x, by rw [heap_setCell_same W _ 1 _ _ _ hr]; simp⟩, hl, ?_, ?_, h.rd.setApart hw _, h.mid.setNew (Nat.le_refl _) _, hw⟩
  · exact ownsRow_setCell_ne h.row (fun g hg => by obtain ⟨cs, hh⟩ := (recrow_block h.row g hg).2; exact ne_of_type hh hr (by decide)) _
  · exact fun p hp => (h.all p hp).keep fun g cs hh => Below.heap_setCell _ _ _ _ (ne_of_type hh hr (by decide))

/-- One more record appended, and the log told of it. -/
theorem StL.push {w W w4 : World} {b q L : Nat} {f : Int} {v v' : Value} {ps : List (R × Value)} {r : R} {u : Value} (h : StL w W b q L f v ps) (hg : Good W w.heap.size (r, u))
    (hown : w4.ownsRow w.heap.size 25 3 v' (ps.length + 1) (flat ps ++ [.int .i64 r.1, .int .i64 r.2.1, u])) (hgr : W.grownBy w4 v.ownBlock) :
    StL w (w4.setCell ⟨L, 0, none⟩ v') b q L f v' (ps ++ [(r, u)]) := by
  have hl := h.lt
  have hw := h.low
  have hblk : ∀ k, k < W.heap.size → (∀ cs, W.heap[k]? ≠ some (.cells cs 25 (0, 0))) → w4.heap[k]? = W.heap[k]? := fun k hk hn => hgr.block k hk (fun e => by
    obtain ⟨cs, hh⟩ := (recrow_block h.row k e.symm).2
    exact hn cs hh)
  have hlow : ∀ k, k < w.heap.size → w4.heap[k]? = W.heap[k]? := fun k hk => hgr.block k (by obtain ⟨_, _, hr⟩ := h.res; have := heap_lt hr; omega) (fun e => by have := (recrow_block h.row k e.symm).1; omega)
  have hL : w4.heap[L]? = some (.cells #[v, .int .i64 f] 31 (0, 0)) := by rw [hblk L (heap_lt h.own) (fun cs e => by rw [h.own] at e; simp at e)]; exact h.own
  have hR : ∃ ra rc, w4.heap[w.heap.size]? = some (.cells #[ra, rc] 31 (0, 0)) := by
    obtain ⟨ra, rc, hr⟩ := h.res
    exact ⟨ra, rc, by rw [hblk _ (heap_lt hr) (fun cs e => by rw [hr] at e; simp at e)]; exact hr⟩
  have hrd : Rd w4 b q := by
    obtain ⟨x, n, hn, h1, h2⟩ := h.rd
    exact ⟨x, n, hn, by rw [hlow b hw]; exact h1, h2.mid (fun k hk => hlow k (by omega))⟩
  have hmid : Mid b (b + 1) w w4 := ⟨hgr.os.trans h.mid.os, hgr.tape.trans h.mid.tape, hgr.output.trans h.mid.output, Nat.le_trans h.mid.size hgr.size, fun k hk hh => (hlow k hk).trans (h.mid.block k hk hh)⟩
  refine ⟨by rw [heap_setCell_same w4 L 0 _ _ _ hL]; simp, (by obtain ⟨ra, rc, hr⟩ := hR; exact ⟨ra, rc, by rw [Below.heap_setCell _ _ _ _ (by simp; omega)]; exact hr⟩), hl, ?_, ?_, hrd.setApart (by omega) _, hmid.setNew (by omega) _, hw⟩
  · refine ownsRow_setCell_ne ?_ (fun g hg => by obtain ⟨cs, hh⟩ := (recrow_block hown g hg).2; exact ne_of_type hh hL (by decide)) _
    rw [flat_append, List.length_append]; exact hown
  · intro p hp
    have hgood : Good W w.heap.size p := by
      rcases List.mem_append.1 hp with hp | hp
      · exact h.all p hp
      · simp at hp; subst hp; exact hg
    refine (hgood.keep (W' := w4) fun g cs hh => hblk g (heap_lt hh) (fun cs' e => by rw [hh] at e; simp at e)).keep fun g cs hh => Below.heap_setCell _ _ _ _ (ne_of_type hh hL (by decide))

/-- It is a list of records, small enough. -/
theorem StL.recs {w W : World} {b q L : Nat} {f : Int} {v : Value} {ps : List (R × Value)} (h : StL w W b q L f v ps) : Recs W v (ps.map (·.1)) := by
  rcases h.row.2 with ⟨hv, hn⟩ | ⟨g, cap, cur, hv, hg, hh, _, _, _, ht⟩
  · have : ps = [] := List.length_eq_zero_iff.1 hn
    subst this
    exact Or.inl ⟨rfl, none, 0, hv⟩
  · by_cases hp : ps = []
    · subst hp; exact Or.inl ⟨rfl, _, cap, hv⟩
    refine Or.inr ⟨g, 0, cap, by simpa using hv, by simpa using hp, fun i r hr => ?_⟩
    rw [List.getElem?_map] at hr
    cases hi : ps[i]? with
    | none => rw [hi] at hr; cases hr
    | some p =>
      rw [hi] at hr
      simp at hr
      subst hr
      have hil : i < ps.length := by
        by_cases e : i < ps.length
        · exact e
        · rw [List.getElem?_eq_none (by omega)] at hi; cases hi
      obtain ⟨f0, f1, f2⟩ := flat_get ps i p hi
      have get : ∀ j x, (flat ps)[j]? = some x → W.cell? ⟨g, j, none⟩ = some x := fun j x hj => by
        have hjl : j < ps.length * 3 := by
          by_cases e : j < ps.length * 3
          · exact e
          · rw [List.getElem?_eq_none (by rw [flat_length]; omega)] at hj; cases hj
        rw [cell_of_row W _ _ _ _ _ hh, ← hj, ← ht, List.getElem?_take, if_pos hjl, Array.getElem?_toList]
      exact ⟨p.2, by rw [Nat.zero_add]; exact get _ _ f0, by rw [Nat.zero_add]; exact get _ _ f1, by rw [Nat.zero_add]; exact get _ _ f2, (h.all p (List.mem_of_getElem? hi)).ints⟩

end Go.Proofs.YtaogachhmdmoaaaDoor

namespace Go.Proofs.YtaogachhmdmoaaaDoor
open Go.RowKit

/-- The log as it is begun. -/
theorem log_new (w : World) (b p : Nat) (h : Rd w b p) :
    StL w (((w.alloc (.cells #[.slice none 0 0, .int .i64 0] 31)).alloc (.cells #[] 25)).alloc (.cells #[.slice (some ⟨w.heap.size + 1, 0, none⟩) 0 0, .int .i64 0] 31)) b p (w.heap.size + 1 + 1) 0 (.slice (some ⟨w.heap.size + 1, 0, none⟩) 0 0) [] := by
  have e2 := heap_alloc_new ((w.alloc (.cells #[.slice none 0 0, .int .i64 0] 31)).alloc (.cells #[] 25)) (.cells #[.slice (some ⟨w.heap.size + 1, 0, none⟩) 0 0, .int .i64 0] 31)
  rw [size2] at e2
  have e1 := heap_alloc_new (w.alloc (.cells #[.slice none 0 0, .int .i64 0] 31)) (.cells #[] 25)
  rw [size1] at e1
  refine ⟨e2, ⟨.slice none 0 0, .int .i64 0, ?_⟩, by omega, ?_, fun p hp => by simp at hp, ((h.alloc _).alloc _).alloc _, (((Mid.refl _ _ _).alloc _).alloc _).alloc _, h.lt⟩
  · rw [Below.heap_alloc _ _ _ (by simp; omega), Below.heap_alloc _ _ _ (by simp)]; exact heap_alloc_new w _
  · refine ⟨rfl, Or.inr ⟨w.heap.size + 1, 0, #[], rfl, by omega, ?_, Nat.le_refl _, by unfold maxLen; omega, rfl, rfl⟩⟩
    rw [Below.heap_alloc _ _ _ (by simp)]; exact e1

theorem StL.grown {w W w4 : World} {b q L : Nat} {f : Int} {v : Value} {ps : List (R × Value)} (h : StL w W b q L f v ps) (hgr : W.grownBy w4 v.ownBlock) : w4.cell? ⟨L, 0, none⟩ = some v ∧ w4.frozen? ⟨L, 0, none⟩ = false := by
  have hL : w4.heap[L]? = some (.cells #[v, .int .i64 f] 31 (0, 0)) := by
    rw [hgr.block L (heap_lt h.own) (fun e => by
      obtain ⟨cs, hh⟩ := (recrow_block h.row L e.symm).2
      rw [h.own] at hh; simp at hh)]
    exact h.own
  exact ⟨by rw [cell_of_row w4 _ _ _ _ _ hL]; rfl, frozen_of_row w4 _ _ _ _ hL⟩

/-- One of two numbers. -/
theorem two_get (xn : Nat) (h : xn < 2) (a c : Int) : ∃ FF : Int, Hid ((#[Value.int .i64 a, .int .i64 c] : Array Value)[xn]? = some (.int .i64 FF)) := by
  match xn, h with
  | 0, _ => exact ⟨a, rfl⟩
  | 1, _ => exact ⟨c, rfl⟩
theorem two_cell (W : World) {xn : Nat} {a c FF : Int} (h : (#[Value.int .i64 a, .int .i64 c] : Array Value)[xn]? = some (.int .i64 FF)) : (W.alloc (.cells #[.int .i64 a, .int .i64 c] 3)).cell? ⟨W.heap.size, xn, none⟩ = some (.int .i64 FF) := by
  rw [cell_of_row _ _ _ _ _ _ (heap_alloc_new W _)]; exact h
theorem two_mid {W w7 : World} {b xn : Nat} {a c FF : Int} (h : (#[Value.int .i64 a, .int .i64 c] : Array Value)[xn]? = some (.int .i64 FF)) (m : Mid b (b + 1) (W.alloc (.cells #[.int .i64 a, .int .i64 c] 3)) w7) (hb : b < W.heap.size) : w7.cell? ⟨W.heap.size, xn, none⟩ = some (.int .i64 FF) := by
  rw [cell_of_row _ _ _ _ _ _ (row_mid (heap_alloc_new W _) m hb)]; exact h

/-- How long the list is that lies there. -/
def lenAt (W : World) (L : Nat) : Nat := match W.cell? ⟨L, 0, none⟩ with | some (.slice _ n _) => n | _ => 0

theorem StL.grown2 {w W w4 : World} {b q L : Nat} {f : Int} {v : Value} {ps : List (R × Value)} (h : StL w W b q L f v ps) (hgr : W.grownBy w4 v.ownBlock) : w4.cell? ⟨L, 0, none⟩ = some v ∧ w4.frozen? ⟨L, 0, none⟩ = false ∧ w4.cell? ⟨L, 1, none⟩ = some (.int .i64 f) ∧ w4.frozen? ⟨L, 1, none⟩ = false ∧
    (∃ ra, w4.cell? ⟨w.heap.size, 0, none⟩ = some ra) ∧ (∃ rc, w4.cell? ⟨w.heap.size, 1, none⟩ = some rc) ∧ w4.frozen? ⟨w.heap.size, 0, none⟩ = false ∧ w4.frozen? ⟨w.heap.size, 1, none⟩ = false := by
  have hL : w4.heap[L]? = some (.cells #[v, .int .i64 f] 31 (0, 0)) := by
    rw [hgr.block L (heap_lt h.own) (fun e => by
      obtain ⟨cs, hh⟩ := (recrow_block h.row L e.symm).2
      rw [h.own] at hh; simp at hh)]
    exact h.own
  obtain ⟨ra, rc, hr⟩ := h.res
  have hR : w4.heap[w.heap.size]? = some (.cells #[ra, rc] 31 (0, 0)) := by
    rw [hgr.block _ (heap_lt hr) (fun e => by
      obtain ⟨cs, hh⟩ := (recrow_block h.row _ e.symm).2
      rw [hr] at hh; simp at hh)]
    exact hr
  exact ⟨by rw [cell_of_row w4 _ _ _ _ _ hL]; rfl, frozen_of_row w4 _ _ _ _ hL, by rw [cell_of_row w4 _ _ _ _ _ hL]; rfl, frozen_of_row w4 _ _ _ _ hL,
    ⟨ra, by rw [cell_of_row w4 _ _ _ _ _ hR]; rfl⟩, ⟨rc, by rw [cell_of_row w4 _ _ _ _ _ hR]; rfl⟩, frozen_of_row w4 _ _ _ _ hR, frozen_of_row w4 _ _ _ _ hR⟩

/-- What a drawn log is: a list of at most 60 records that lies there. -/
def LogGot (w w' : World) (e : Ending) (b p : Nat) : Prop :=
  ∃ (v : Value) (f : Int) (ps : List (R × Value)) (q L : Nat), e = .returned (.agg #[v, .int .i64 f]) ∧ ps.length ≤ 60 ∧ p ≤ q ∧ q ≤ p + 400 ∧ StL w w' b q L f v ps

set_option maxRecDepth 100000 in
set_option maxHeartbeats 4000000 in
theorem log_draw (b p : Nat) (w : World) (h : Rd w b p) (hp : p ≤ 700000) :
    Calls Tryd.prog 26 #[.pointer (some ⟨b, 0, none⟩)] w fun e w' => LogGot w w' e b p := by
  obtain ⟨i0, hi, hz0, hz1, hz2⟩ := info_parts infoRec
  have hblt := h.lt
  have S0 := hide_it (log_new w b p h)
  clear h
  go_enter Tryd.func26, Tryd.ntmps26
  go_wp2_with fail
  refine (pick_any b p 9 _ S0.out.rd (by omega) (by omega) (by omega)).mono ?_
  rintro e w1 ⟨n, rfl, ln, un, r1, m1⟩
  have S1 := hide_it (S0.out.step m1 r1)
  clear r1 m1 S0
  obtain ⟨N, rfl⟩ := Int.eq_ofNat_of_zero_le ln
  go_wp2_with fail
  go_loopw [4] (fun i W => ∃ (m q : Nat) (v : Value) (ps : List (R × Value)), i = .int .i64 m ∧ ps.length + m ≤ 8 ∧ p ≤ q ∧ q + 14 * m ≤ p + 1 + 14 * 8 ∧ Hid (StL w W b q (w.heap.size + 1 + 1) 0 v ps)) (fun i _ => (intOf i).toNat)
  case atStart => exact ⟨N, p + 1, _, [], rfl, by simp; omega, by omega, by omega, S1⟩
  case round =>
    obtain ⟨m, q, v, ps, rfl, hm, hq0, hq1, HS⟩ := hrel
    by_cases hlt : 0 < m
    · obtain ⟨⟨c0, c1, f0, f1⟩, _⟩ := HS.out.cells
      have hws : w.heap.size ≤ wr.heap.size := HS.out.mid.size
      go_wp2_with fail
      refine (rec_draw b q _ HS.out.rd (by omega)).mono ?_
      rintro e w2 ⟨k, t, u, zs, q2, cap, rfl, hz, hF, hqa, hqb, r2, m2⟩
      have S2 := hide_it (HS.out.step m2 r2)
      have F2 := hide_it (hF.mono hws)
      obtain ⟨g, off, hu⟩ : ∃ g off, u = .slice (some ⟨g, off, none⟩) zs.length cap := by obtain ⟨g, off, cs, h, _⟩ := hF; exact ⟨g, off, h⟩
      subst hu
      clear r2 m2 hF HS c0 c1 f0 f1
      go_wp2_with fail
      refine (specOk_any k t _ zs _ (F2.out.later (alloc_below _ _) (Nat.le_refl _)).ints (by omega)).mono ?_
      rintro e w3 ⟨rfl, hb3⟩
      have S3 := hide_it ((S2.out.later (alloc_below _ _)).later hb3)
      have F3 := hide_it ((F2.out.later (alloc_below _ _) (Nat.le_refl _)).later hb3 (Nat.le_refl _))
      obtain ⟨x0, x1, x2⟩ := (RecAt.new w2 k t (.slice (some ⟨g, off, none⟩) zs.length cap) 25).later hb3 (Nat.le_refl _)
      have hw23 : w2.heap.size < w3.heap.size := by have := hb3.size; simp at this; omega
      have hw2s : w.heap.size + 1 + 1 < w2.heap.size := heap_lt S2.out.own
      clear hb3 S2 F2
      obtain ⟨⟨c0, c1, f0, f1⟩, _⟩ := S3.out.cells
      cases hok : Pl.recOk k t zs
      · go_wp2_with fail
        go_roundw
        case rel => exact ⟨m - 1, q2, v, ps, by go_num, by omega, by omega, by omega, S3⟩
        case measure => simp [intOf]; omega
      · have hpl : ps.length ≤ 8 := by omega
        have ROW : Hid (∀ o, (w3.alloc o).ownsRow w.heap.size 25 3 v ps.length (flat ps)) := fun o => (S3.out.later (alloc_below _ o)).row
        go_wp2_with (at_builtin; refine wpList_append_own _ rfl _ _ 29 rfl w.heap.size 25 i0 (.agg #[.int .i64 0, .int .i64 0, .slice none 0 0]) 3 40 Tryd.underlying29 hi hz0 hz1 hz2 rfl (by decide) v ps.length (flat ps) rfl (ROW.out _) ⟨w3.heap.size, 0, none⟩ 1 1 [.int .i64 k, .int .i64 t, .slice (some ⟨g, off, none⟩) zs.length cap] rfl rfl (news3 _ _ _ _ _) (one3 _ _ _) ?c3 ?c4 ?c5 ?_)
        case c3 => unfold maxLen; omega
        case c4 => omega
        case c5 => simp; omega
        intro v' w4 hown4 hgrow4 _
        obtain ⟨a4, cap4, hv4⟩ := row_shape hown4
        subst hv4
        have S4 := hide_it ((S3.out.later (alloc_below _ _)).push (r := (k, t, zs)) ⟨by simpa using hz, Or.inl ⟨cap, F3.out.later (alloc_below _ _) (Nat.le_refl _)⟩⟩ hown4 hgrow4)
        obtain ⟨k0, k1⟩ := (S3.out.later (alloc_below _ _)).grown hgrow4
        clear hown4 hgrow4 ROW S3 F3 c0 c1 f0 f1 x0 x1 x2
        go_wp2_with fail
        go_roundw
        case rel => exact ⟨m - 1, q2, _, _, by go_num, by simp; omega, by omega, by omega, S4⟩
        case measure => simp [intOf]; omega
    · obtain ⟨⟨c0, c1, f0, f1⟩, _⟩ := HS.out.cells
      obtain ⟨av, cv, hvs⟩ := row_shape HS.out.row
      subst hvs
      have hpl : ps.length ≤ 8 := by omega
      obtain rfl : m = 0 := by omega
      clear hlt hm S1 ln un
      go_wp2_with fail
      refine (pick_any b q ((ps.length : Int) + 1) _ HS.out.rd (by omega) (by omega) (by omega)).mono ?_
      rintro e w5 ⟨F, rfl, lF, uF, r5, m5⟩
      have S5 := hide_it (HS.out.step m5 r5)
      clear r5 m5 HS c0 c1 f0 f1
      obtain ⟨⟨c0, c1, f0, f1⟩, _⟩ := S5.out.cells
      go_wp2_with fail
      refine (pick_any b (q + 1) 20 _ (S5.out.setF F).rd (by omega) (by omega) (by omega)).mono ?_
      rintro e w6 ⟨y, rfl, ly, uy, r6, m6⟩
      have S6 := hide_it ((S5.out.setF F).step m6 r6)
      clear r6 m6 S5 c0 c1 f0 f1
      obtain ⟨⟨c0, c1, f0, f1⟩, ⟨ra, rc, d0, d1, e0, e1⟩⟩ := S6.out.cells
      by_cases y0 : y = 0
      · subst y0
        clear d0 d1 e0 e1
        go_wp2_with fail
        first | (go_region_with (go_at_call 21; refine (pick_any b (q + 1 + 1) 2 _ (S6.out.later (by first | exact (Below.refl _ _).drew | exact (Below.refl _ _).drew.alloc (by simp) _)).rd (by omega) (by omega) (by omega)).mono ?_; rintro e w7 ⟨x, rfl, lx, ux, r7, m7⟩; have S7 := hide_it ((S6.out.later (by first | exact (Below.refl _ _).drew | exact (Below.refl _ _).drew.alloc (by simp) _)).step m7 r7); clear c0 c1 f0 f1; obtain ⟨⟨c0, c1, f0, f1⟩, _⟩ := S7.out.cells; obtain ⟨xn, hxn⟩ := Int.eq_ofNat_of_zero_le lx; subst hxn; have hx2 : xn < 2 := (by omega); obtain ⟨FF, HFF⟩ := two_get xn hx2 (-1) (IntKind.i64.wrap ((ps.length : Int) + 1)); have hFB := two_cell w7 HFF.out; have hL7 : w.heap.size + 1 + 1 < w7.heap.size := heap_lt S7.out.own; (try have hFA : w7.cell? ⟨w6.heap.size, xn, none⟩ = some (.int .i64 FF) := two_mid (W := w6.drew) HFF.out m7 (Nat.lt_of_lt_of_le S6.out.low S6.out.mid.size)); clear r7 m7)) | fail
        · obtain ⟨W8, hW8⟩ : ∃ W, Hid (W = w7.setCell ⟨w.heap.size + 1 + 1, 1, none⟩ (.int .i64 FF)) := ⟨_, rfl⟩
          rw [← hW8.out]
          have S8 : Hid (StL w W8 b (q + 1 + 1 + 1) (w.heap.size + 1 + 1) FF (.slice av ps.length cv) ps) := by show StL _ _ _ _ _ _ _ _; rw [hW8.out]; exact S7.out.setF FF
          clear S7 S6 c0 c1 f0 f1
          obtain ⟨⟨c0, c1, f0, f1⟩, ⟨ra2, rc2, d0, d1, e0, e1⟩⟩ := S8.out.cells
          go_wp2
          refine bodyPost_ret (v := .agg #[.slice av ps.length cv, .int .i64 FF]) (by simp [results, Tryd.results26, go_sem, d0, d1]) rfl ?_
          have T := (S8.out.setR0 (.slice av ps.length cv)).setR1 (.int .i64 FF)
          exact ⟨_, FF, ps, q + 1 + 1 + 1, _, rfl, by omega, by omega, by omega, T⟩
        all_goals
          obtain ⟨W8, hW8⟩ : ∃ W, Hid (W = (w7.setCell ⟨w.heap.size + 1 + 1, 1, none⟩ (.int .i64 FF)).alloc (.cells #[.int .i64 (-1), .int .i64 (IntKind.i64.wrap ((ps.length : Int) + 1))] 3)) := ⟨_, rfl⟩
          rw [← hW8.out]
          have S8 : Hid (StL w W8 b (q + 1 + 1 + 1) (w.heap.size + 1 + 1) FF (.slice av ps.length cv) ps) := by show StL _ _ _ _ _ _ _ _; rw [hW8.out]; exact (S7.out.setF FF).later (alloc_below _ _)
          clear S7 S6 c0 c1 f0 f1
          obtain ⟨⟨c0, c1, f0, f1⟩, ⟨ra2, rc2, d0, d1, e0, e1⟩⟩ := S8.out.cells
          go_wp2
          refine bodyPost_ret (v := .agg #[.slice av ps.length cv, .int .i64 FF]) (by simp [results, Tryd.results26, go_sem, d0, d1]) rfl ?_
          have T := (S8.out.setR0 (.slice av ps.length cv)).setR1 (.int .i64 FF)
          exact ⟨_, FF, ps, q + 1 + 1 + 1, _, rfl, by omega, by omega, by omega, T⟩
      by_cases y1 : y = 1
      · subst y1
        have hw6 : w.heap.size + 1 + 1 < w6.heap.size := heap_lt S6.out.own
        have ROW : Hid (∀ o, (w6.alloc o).ownsRow w.heap.size 25 3 (.slice av ps.length cv) ps.length (flat ps)) := fun o => (S6.out.later (alloc_below _ o)).row
        go_wp2_with (at_builtin; refine wpList_append_own _ rfl _ _ 29 rfl w.heap.size 25 i0 (.agg #[.int .i64 0, .int .i64 0, .slice none 0 0]) 3 40 Tryd.underlying29 hi hz0 hz1 hz2 rfl (by decide) (.slice av ps.length cv) ps.length (flat ps) rfl (ROW.out _) ⟨w6.heap.size, 0, none⟩ 1 1 [.int .i64 9, .int .i64 0, .slice none 0 0] rfl rfl (news3 _ _ _ _ _) (one3 _ _ _) ?c3 ?c4 ?c5 ?_)
        case c3 => unfold maxLen; omega
        case c4 => omega
        case c5 => simp; omega
        intro v' w7 hown7 hgrow7 _
        obtain ⟨a7, cap7, hv7⟩ := row_shape hown7
        subst hv7
        have S7 := hide_it ((S6.out.later (alloc_below _ _)).push (r := (9, 0, [])) ⟨by simp, Or.inr ⟨rfl, rfl⟩⟩ hown7 hgrow7)
        obtain ⟨k0, k1, k2, k3, ⟨j0, g0⟩, ⟨j1, g1⟩, g2, g3⟩ := (S6.out.later (alloc_below _ _)).grown2 hgrow7
        clear hown7 hgrow7 ROW S6 c0 c1 f0 f1 d0 d1 e0 e1
        go_wp2
        refine bodyPost_ret (v := .agg #[.slice a7 (ps.length + 1) cap7, .int .i64 F]) (by simp [results, Tryd.results26, go_sem, g0, g1]) rfl ?_
        have T := (S7.out.setR0 (.slice a7 (ps.length + 1) cap7)).setR1 (.int .i64 F)
        exact ⟨_, F, ps ++ [((9, 0, []), .slice none 0 0)], q + 1 + 1, _, rfl, by simp; omega, by omega, by omega, T⟩
      by_cases y2 : y = 2
      · subst y2
        clear c0 c1 f0 f1 d0 d1 e0 e1
        go_wp2_with fail
        go_loopw [61] (fun _ W => ∃ (q' : Nat) (v : Value) (qs : List (R × Value)), qs.length ≤ 41 ∧ p ≤ q' ∧ q' + 2 * (41 - qs.length) ≤ p + 300 ∧ Hid (StL w W b q' (w.heap.size + 1 + 1) F v qs)) (fun _ W => 60 - lenAt W (w.heap.size + 1 + 1))
        case atStart => exact ⟨q + 1 + 1, _, ps, by omega, by omega, by omega, S6⟩
        case round =>
          obtain ⟨q', v, qs, hqs, hq2, hq3, HS⟩ := hrel
          obtain ⟨av2, cv2, hvs⟩ := row_shape HS.out.row
          subst hvs
          obtain ⟨⟨c0, c1, f0, f1⟩, _⟩ := HS.out.cells
          go_wp2_with fail
          go_region_held (fun w' => w'.cell? ⟨w.heap.size + 1 + 1, 0, none⟩ = some (.slice av2 qs.length cv2)) (go_keep)
            ((go_at_call 21; refine (pick_any b q' 2 _ (HS.out.later (Below.refl _ _).drew).rd (by omega) (by omega) (by omega)).mono ?_; rintro e w7 ⟨x, rfl, lx, ux, r7, m7⟩; have S7 := hide_it ((HS.out.later (Below.refl _ _).drew).step m7 r7); clear r7 m7 c0 c1 f0 f1; obtain ⟨⟨c0, c1, f0, f1⟩, _⟩ := S7.out.cells))
          have hwr : IntKind.i64.wrap (40 + x) = 40 + x := by simp [IntKind.wrap, IntKind.bits, IntKind.signed]; omega
          rw [hwr]
          by_cases hc : (qs.length : Int) < 40 + x
          · have hcb : decide ((qs.length : Int) < 40 + x) = true := decide_eq_true hc
            have hw7 : w.heap.size + 1 + 1 < w7.heap.size := heap_lt S7.out.own
            have ROW : Hid (∀ o, (w7.alloc o).ownsRow w.heap.size 25 3 (.slice av2 qs.length cv2) qs.length (flat qs)) := fun o => (S7.out.later (alloc_below _ o)).row
            go_wp2_with (at_builtin; refine wpList_append_own _ rfl _ _ 29 rfl w.heap.size 25 i0 (.agg #[.int .i64 0, .int .i64 0, .slice none 0 0]) 3 40 Tryd.underlying29 hi hz0 hz1 hz2 rfl (by decide) (.slice av2 qs.length cv2) qs.length (flat qs) rfl (ROW.out _) ⟨w7.heap.size, 0, none⟩ 1 1 [.int .i64 7, .int .i64 1, .slice none 0 0] rfl rfl (news3 _ _ _ _ _) (one3 _ _ _) ?c3 ?c4 ?c5 ?_)
            case c3 => unfold maxLen; omega
            case c4 => omega
            case c5 => simp; omega
            intro v' w8 hown8 hgrow8 _
            obtain ⟨a8, cap8, hv8⟩ := row_shape hown8
            subst hv8
            have S8 := hide_it ((S7.out.later (alloc_below _ _)).push (r := (7, 1, [])) ⟨by simp, Or.inr ⟨rfl, rfl⟩⟩ hown8 hgrow8)
            obtain ⟨k0, k1⟩ := (S7.out.later (alloc_below _ _)).grown hgrow8
            have L0 : Hid (lenAt wr (w.heap.size + 1 + 1) = qs.length) := by show _ = _; unfold lenAt; rw [HS.out.cells.1.1]
            have L1 : Hid (lenAt (w8.setCell ⟨w.heap.size + 1 + 1, 0, none⟩ (.slice a8 (qs.length + 1) cap8)) (w.heap.size + 1 + 1) = qs.length + 1) := by show _ = _; unfold lenAt; rw [S8.out.cells.1.1]
            clear hown8 hgrow8 ROW S7 HS c0 c1 f0 f1 S6
            go_wp2_with fail
            go_roundw
            case rel => exact ⟨q' + 1, _, qs ++ [((7, 1, []), .slice none 0 0)], by simp; omega, by omega, by simp; omega, S8⟩
            case measure => rw [L0.out, L1.out]; omega
          · have hcb : decide ((qs.length : Int) < 40 + x) = false := decide_eq_false hc
            obtain ⟨_, ⟨ra2, rc2, d0, d1, e0, e1⟩⟩ := S7.out.cells
            clear HS S6
            go_wp2
            refine bodyPost_ret (v := .agg #[.slice av2 qs.length cv2, .int .i64 F]) (by simp [results, Tryd.results26, go_sem, d0, d1]) rfl ?_
            have T := (S7.out.setR0 (.slice av2 qs.length cv2)).setR1 (.int .i64 F)
            exact ⟨_, F, qs, q' + 1, _, rfl, by omega, by omega, by omega, T⟩
      go_wp2
      refine bodyPost_ret (v := .agg #[.slice av ps.length cv, .int .i64 F]) (by simp [results, Tryd.results26, go_sem, d0, d1]) rfl ?_
      have T := (S6.out.setR0 (.slice av ps.length cv)).setR1 (.int .i64 F)
      exact ⟨_, F, ps, q + 1 + 1, _, rfl, by omega, by omega, by omega, T⟩

end Go.Proofs.YtaogachhmdmoaaaDoor

namespace Go.Proofs.YtaogachhmdmoaaaDoor
open Go.RowKit

theorem frozenAlloc {w : World} {b o : Nat} (h : w.frozen? ⟨b, o, none⟩ = false) (hb : b < w.heap.size) (x : Obj) : (w.alloc x).frozen? ⟨b, o, none⟩ = false := by
  rw [← h]
  exact ((Below.refl w.heap.size w).alloc (Nat.le_refl _) x).frozen (p := ⟨b, o, none⟩) hb

end Go.Proofs.YtaogachhmdmoaaaDoor

namespace Go.Proofs.YtaogachhmdmoaaaDoor
open Go.RowKit

/-- How many are left behind a fall. -/
def fallN (n : Nat) (f keep : Int) : Nat := (if keep ≤ 0 then f else if keep < n - f then f + keep else n).toNat

theorem fallN_le {n : Nat} {f keep : Int} (h0 : 0 ≤ f) (h1 : f ≤ n) : fallN n f keep ≤ n := by
  unfold fallN; split
  · omega
  · split <;> omega

theorem fallN_lo {n F : Nat} {keep : Int} (h : keep ≤ 0) : fallN n F keep = F := by unfold fallN; rw [if_pos h]; simp
theorem fallN_mid {n F K : Nat} (h0 : ¬ (K : Int) ≤ 0) (h : (K : Int) ≤ n - F) : fallN n F K = F + K := by
  unfold fallN; rw [if_neg h0]
  by_cases e : (K : Int) < n - F
  · rw [if_pos e]; omega
  · rw [if_neg e]; omega
theorem fallN_all {n F K : Nat} (h0 : ¬ (K : Int) ≤ 0) (h : ¬ (K : Int) ≤ n - F) : fallN n F K = n := by unfold fallN; rw [if_neg h0, if_neg (by omega)]; simp

theorem flat_take (ps : List (R × Value)) (N : Nat) : flat (ps.take N) = (flat ps).take (N * 3) := by
  induction ps generalizing N with
  | nil => simp [flat]
  | cons p t ih =>
    cases N with
    | zero => simp [flat]
    | succ N =>
      rw [show (N + 1) * 3 = N * 3 + 3 by omega]
      simp [flat, ih]

theorem Made.take {w : World} {lo N : Nat} {ao : Option Addr} {cap : Nat} {rs : List R} (h : Made w lo (.slice ao rs.length cap) rs) (hN : N ≤ rs.length) : Made w lo (.slice ao N cap) (rs.take N) := by
  obtain ⟨ps, hp, h1, h2, h3⟩ := h
  have hpl : ps.length = rs.length := by have := congrArg List.length hp; simpa using this
  refine ⟨ps.take N, by rw [List.map_take, hp], ?_, ?_, h3.1, fun p hp => h3.2.1 p (List.mem_of_mem_take hp), fun i j p q hi hj hij => ?_⟩
  · have hl : (ps.take N).length = N := by rw [List.length_take]; omega
    rw [hl, flat_take]
    refine ⟨by rw [List.length_take, h1.1]; rw [hpl]; omega, ?_⟩
    rcases h1.2 with ⟨hv, hn⟩ | ⟨g, cp, cur, hv, hg, hh, hnc, hcm, hcs, htk⟩
    · simp only [Value.slice.injEq] at hv
      obtain ⟨e1, e2, e3⟩ := hv
      exact Or.inl ⟨by rw [e1, e3, show N = 0 by omega], by omega⟩
    · simp only [Value.slice.injEq] at hv
      obtain ⟨e1, e2, e3⟩ := hv
      refine Or.inr ⟨g, cp, cur, by rw [e1, e3], hg, hh, by omega, hcm, hcs, ?_⟩
      rw [← htk, List.take_take, Nat.min_eq_left (by rw [hpl]; omega)]
  · intro k hk
    refine h2 k ?_
    cases ao with
    | none => cases hk
    | some a => exact hk
  · have hi' : i < N ∧ ps[i]? = some p := by
      rw [List.getElem?_take] at hi
      split at hi
      · exact ⟨by assumption, hi⟩
      · cases hi
    have hj' : j < N ∧ ps[j]? = some q := by
      rw [List.getElem?_take] at hj
      split at hj
      · exact ⟨by assumption, hj⟩
      · cases hj
    exact h3.2.2 i j p q hi'.2 hj'.2 hij

theorem Recs.take {w : World} {N cap : Nat} {ao : Option Addr} {rs : List R} (h : Recs w (.slice ao rs.length cap) rs) (hN : N ≤ rs.length) : Recs w (.slice ao N cap) (rs.take N) := by
  have hl : (rs.take N).length = N := by rw [List.length_take]; omega
  by_cases h0 : N = 0
  · subst h0
    exact Or.inl ⟨by simp, ao, cap, rfl⟩
  rcases h with ⟨hz, _⟩ | ⟨b, off, cp, hv, hz, hc⟩
  · rw [hz] at hN; simp at hN; omega
  · simp only [Value.slice.injEq] at hv
    obtain ⟨e1, _, e3⟩ := hv
    refine Or.inr ⟨b, off, cp, by rw [hl, e1, e3], by intro e; rw [e] at hl; simp at hl; omega, fun i r hr => ?_⟩
    rw [List.getElem?_take] at hr
    split at hr
    · exact hc i r hr
    · cases hr

theorem pre_take (rs : List R) (N : Nat) (hN : N ≤ rs.length) : tot (rs.take N) ≤ tot rs := by
  have h1 := pre_le rs N
  have h2 : pre (rs.take N) (rs.take N).length = pre rs N := by unfold pre; rw [List.take_length]
  unfold tot
  rw [h2, List.length_take]; omega

/-- What a fall leaves. -/
def fallR (rs : List R) (f keep : Int) : List R := if logOk rs f then rs.take (fallN rs.length f keep) else []
def fallF (rs : List R) (f keep : Int) : Int := if logOk rs f then fallN rs.length f keep else 0

theorem logOk_f {rs : List R} {f : Int} (h : logOk rs f = true) : 0 ≤ f ∧ f ≤ rs.length ∧ rs.length ≤ 40 := by
  unfold logOk at h
  simp only [Bool.and_eq_true, decide_eq_true_eq] at h
  have := Pl.inB_true h.2.2
  omega

end Go.Proofs.YtaogachhmdmoaaaDoor

namespace Go.Proofs.YtaogachhmdmoaaaDoor
open Go.RowKit

theorem Made.form {w : World} {lo cap : Nat} {ao : Option Addr} {rs : List R} (h : Made w lo (.slice ao rs.length cap) rs) : (ao = Option.none ∧ rs = [] ∧ cap = 0) ∨ ∃ g, ao = some ⟨g, 0, Option.none⟩ ∧ rs.length ≤ cap := by
  obtain ⟨ps, hp, h1, _, _⟩ := h
  have hpl : ps.length = rs.length := by have := congrArg List.length hp; simpa using this
  rcases h1.2 with ⟨hv, hn⟩ | ⟨g, cp, cur, hv, hg, hh, hnc, _⟩
  · simp only [Value.slice.injEq] at hv
    exact Or.inl ⟨hv.1, List.length_eq_zero_iff.1 hv.2.1, hv.2.2⟩
  · simp only [Value.slice.injEq] at hv
    exact Or.inr ⟨g, hv.1, by omega⟩

end Go.Proofs.YtaogachhmdmoaaaDoor

namespace Go.Proofs.YtaogachhmdmoaaaDoor
open Go.RowKit

end Go.Proofs.YtaogachhmdmoaaaDoor

namespace Go.Proofs.YtaogachhmdmoaaaDoor
open Go.RowKit

/-- The slice of a list that the call itself has made, or nil. -/
def Form (v : Value) (n : Nat) : Prop := (v = .slice none 0 0 ∧ n = 0) ∨ ∃ g cap, v = .slice (some ⟨g, 0, none⟩) n cap ∧ n ≤ cap
theorem form_of_row {w : World} {base : Nat} {e : TypeId} {size : Nat} {v : Value} {n : Nat} {xs : List Value} (h : w.ownsRow base e size v n xs) : Form v n := by
  rcases h.2 with h | ⟨g, cap, cur, hv, _, _, hc, _⟩
  · exact Or.inl h
  · exact Or.inr ⟨g, cap, hv, hc⟩

end Go.Proofs.YtaogachhmdmoaaaDoor

namespace Go.Proofs.YtaogachhmdmoaaaDoor
open Go.RowKit

theorem recs_rows {W : World} {lo base : Nat} {v : Value} {ps : List (R × Value)} (hrow : W.ownsRow base 25 3 v ps.length (flat ps)) (hall : ∀ p ∈ ps, Good W lo p) : Recs W v (ps.map (·.1)) := by
  rcases hrow.2 with ⟨hv, hn⟩ | ⟨g, cap, cur, hv, hg, hh, _, _, _, ht⟩
  · have : ps = [] := List.length_eq_zero_iff.1 hn
    subst this
    exact Or.inl ⟨rfl, none, 0, hv⟩
  · by_cases hp : ps = []
    · subst hp; exact Or.inl ⟨rfl, _, cap, hv⟩
    refine Or.inr ⟨g, 0, cap, by simpa using hv, by simpa using hp, fun i r hr => ?_⟩
    rw [List.getElem?_map] at hr
    cases hi : ps[i]? with
    | none => rw [hi] at hr; cases hr
    | some p =>
      rw [hi] at hr
      simp at hr
      subst hr
      have hil : i < ps.length := by
        by_cases e : i < ps.length
        · exact e
        · rw [List.getElem?_eq_none (by omega)] at hi; cases hi
      obtain ⟨f0, f1, f2⟩ := flat_get ps i p hi
      have get : ∀ j x, (flat ps)[j]? = some x → W.cell? ⟨g, j, none⟩ = some x := fun j x hj => by
        have hjl : j < ps.length * 3 := by
          by_cases e : j < ps.length * 3
          · exact e
          · rw [List.getElem?_eq_none (by rw [flat_length]; omega)] at hj; cases hj
        rw [cell_of_row W _ _ _ _ _ hh, ← hj, ← ht, List.getElem?_take, if_pos hjl, Array.getElem?_toList]
      exact ⟨p.2, by rw [Nat.zero_add]; exact get _ _ f0, by rw [Nat.zero_add]; exact get _ _ f1, by rw [Nat.zero_add]; exact get _ _ f2, (hall p (List.mem_of_getElem? hi)).ints⟩

/-- A drawn log stays where only a block below it turns. -/
theorem StL.recs_mid {w W W' : World} {b q L lo hi : Nat} {f : Int} {v : Value} {ps : List (R × Value)} (h : StL w W b q L f v ps) (hm : Mid lo hi W W') (hX : hi ≤ w.heap.size) : Recs W' v (ps.map (·.1)) := by
  refine recs_rows (lo := w.heap.size) (ownsRow_mid h.row hm (fun k hk => Or.inr (by have := (h.row.lt k hk).1; omega))) (fun p hp => ?_)
  obtain ⟨h1, h2⟩ := h.all p hp
  refine ⟨h1, ?_⟩
  rcases h2 with ⟨cap, g, off, cs, hu, hlo, hh, hc⟩ | h2
  · exact Or.inl ⟨cap, g, off, cs, hu, hlo, by rw [hm.block g (heap_lt hh) (Or.inr (by omega))]; exact hh, hc⟩
  · exact Or.inr h2
theorem set2_mid (W : World) (X : Nat) (x y : Value) : Mid X (X + 1) W ((W.setCell ⟨X, 0, none⟩ x).setCell ⟨X, 1, none⟩ y) := (Mid.set x).trans (Mid.set y)

/-- The value is a slice of n bytes, whatever they are. -/
def CodeAt (w : World) (v : Value) (n : Nat) : Prop :=
  ∃ ao cap, v = .slice ao n cap ∧ n ≤ cap ∧ (n ≠ 0 → ∃ g off, ao = some ⟨g, off, none⟩ ∧ ∀ k, k < n → ∃ z : Int, w.cell? ⟨g, off + k, none⟩ = some (.int .u8 z) ∧ 0 ≤ z ∧ z ≤ 255)
theorem CodeAt.later {B : Nat} {w w' : World} {v : Value} {n : Nat} (h : CodeAt w v n) (hb : Below B w w') (hB : w.heap.size ≤ B) : CodeAt w' v n := by
  obtain ⟨ao, cap, hv, hc, hk⟩ := h
  refine ⟨ao, cap, hv, hc, fun hn => ?_⟩
  obtain ⟨g, off, ha, hh⟩ := hk hn
  refine ⟨g, off, ha, fun k hkn => ?_⟩
  obtain ⟨z, h1, h2⟩ := hh k hkn
  have hl := World.block_lt_of_cell? _ _ h1
  simp at hl
  exact ⟨z, by rw [← h1]; exact hb.cell (p := ⟨g, off + k, none⟩) (by simp; omega), h2⟩

theorem code_bytes {w : World} {v : Value} {n : Nat} (h : CodeAt w v n) (m : Nat) (hm : m ≤ n) (ao : Option Addr) (cap : Nat) (hv : v = .slice ao n cap) (o : Obj) : Bytes (w.alloc o) w.heap.size (.slice ao m cap) m := by
  obtain ⟨ao', cap', hv', hc, hk⟩ := h
  rw [hv] at hv'
  simp only [Value.slice.injEq, true_and] at hv'
  obtain ⟨rfl, rfl⟩ := hv'
  refine ⟨ao, cap, rfl, fun hn => ?_⟩
  obtain ⟨g, off, ha, hh⟩ := hk (by omega)
  have hg : g < w.heap.size := by
    obtain ⟨z, h1, _⟩ := hh 0 (by omega)
    simpa using World.block_lt_of_cell? _ _ h1
  refine ⟨g, off, ha, hg, fun k hkm => ?_⟩
  obtain ⟨z, h1, h2⟩ := hh k (by omega)
  exact ⟨z, by rw [← h1]; exact (alloc_below w o).cell (p := ⟨g, off + k, none⟩) hg, h2⟩

set_option maxHeartbeats 1000000 in
theorem open_any (v : Value) (n : Nat) (w : World) (hv : CodeAt w v n) (hn : n ≤ 1048576) :
    Calls Tryd.prog 19 #[v] w fun e w' => e = .returned (.pointer (some ⟨w.heap.size, 0, none⟩)) ∧ Rd w' w.heap.size 0 ∧ w'.heap.size = w.heap.size + 1 ∧ Below w.heap.size w w' := by
  obtain ⟨ao, cap, rfl, hc, hk⟩ := id hv
  by_cases h2 : 2000 < (n : Int)
  · have RD : Hid (Rd (w.alloc (.cells #[.slice ao 2000 cap, .int .i64 0] 61)) w.heap.size 0) := ⟨_, 2000, by omega, heap_alloc_new w _, code_bytes hv 2000 (by omega) ao cap rfl _⟩
    obtain ⟨g, off, hao, _⟩ := hk (by omega)
    subst hao
    have hc2 : (2000 : Int) ≤ (cap : Int) := by omega
    clear hv hk
    go_enter Tryd.func19, Tryd.ntmps19
    go_wp2
    go_ret
    exact ⟨rfl, RD.out, by simp, alloc_below _ _⟩
  · have RD : Hid (Rd (w.alloc (.cells #[.slice ao n cap, .int .i64 0] 61)) w.heap.size 0) := ⟨_, n, by omega, heap_alloc_new w _, code_bytes hv n (Nat.le_refl _) ao cap rfl _⟩
    clear hv hk
    go_enter Tryd.func19, Tryd.ntmps19
    go_wp2
    go_ret
    exact ⟨rfl, RD.out, by simp, alloc_below _ _⟩

theorem Made.form' {w : World} {lo : Nat} {v : Value} {rs : List R} (h : Made w lo v rs) : Form v rs.length := by
  obtain ⟨ps, hp, h1, _, _⟩ := h
  have hpl : ps.length = rs.length := by have := congrArg List.length hp; simpa using this
  rw [← hpl]; exact form_of_row h1

theorem tot_small (ps : List (R × Value)) (h : ps.length ≤ 60) (hg : ∀ x ∈ ps, x.1.2.2.length ≤ 4) : tot (ps.map (·.1)) ≤ 1000 := by
  have hp : ∀ (l : List (R × Value)), (∀ x ∈ l, x.1.2.2.length ≤ 4) → ((l.map (·.1)).map fun r : R => r.2.2.length).sum ≤ 4 * l.length := by
    intro l
    induction l with
    | nil => intro _; simp
    | cons x t ih =>
      intro hx
      have h1 := ih (fun y hy => hx y (by simp [hy]))
      have h2 := hx x (by simp)
      simp at h1 ⊢
      omega
  have := hp ps hg
  unfold tot pre
  rw [List.take_length, List.length_map]
  omega

/-- What is drawn: a log that lies there, small, with nothing below turned. -/
def GotLog (w w' : World) (v : Value) (rs : List R) : Prop := Recs w' v rs ∧ Form v rs.length ∧ tot rs ≤ 1000 ∧ Below w.heap.size w w'

theorem GotLog.of {w w1 w2 w3 : World} {q L lo hi : Nat} {f : Int} {v : Value} {ps : List (R × Value)} {b : Nat} (hb : Below w.heap.size w w1) (hbb : w.heap.size ≤ b) (hs : StL w1 w2 b q L f v ps) (hl : ps.length ≤ 60) (hm : Mid lo hi w2 w3) (hX : hi ≤ w1.heap.size) (hwX : w.heap.size ≤ lo) : GotLog w w3 v (ps.map (·.1)) := by
  have hb2 := hb.trans (hs.mid.below hbb hb.size)
  exact ⟨hs.recs_mid hm hX, by rw [List.length_map]; exact form_of_row hs.row, tot_small ps hl (fun x hx => (hs.all x hx).1), hb2.trans (hm.below hwX hb2.size)⟩

end Go.Proofs.YtaogachhmdmoaaaDoor

namespace Go.Proofs.YtaogachhmdmoaaaDoor
open Go.RowKit

theorem fallN_same (n : Nat) (keep : Int) : fallN n n keep = n := by
  unfold fallN
  split
  · simp
  · split
    · rename_i h1 h2; omega
    · simp
theorem logOk_len {rs : List R} {f : Int} (h : logOk rs f = true) : logOk rs rs.length = true := by
  unfold logOk at h ⊢
  simp only [Bool.and_eq_true] at h ⊢
  exact ⟨h.1, h.2.1, Pl.inB_mk (by omega) (by omega)⟩
theorem fall_forced {rs : List R} {f : Int} (keep : Int) (h : logOk rs f = true) : fallR rs rs.length keep = rs ∧ fallF rs rs.length keep = rs.length := by
  have h1 := logOk_len h
  constructor
  · simp [fallR, h1, fallN_same]
  · simp [fallF, h1, fallN_same]
theorem force_forced {rs : List R} {f : Int} (h : logOk rs f = true) : forceR rs rs.length = rs ∧ forceF rs rs.length = rs.length := by
  have h1 := logOk_len h
  constructor <;> simp [forceR, forceF, h1]
theorem force_yes {rs : List R} {f : Int} (h : logOk rs f = true) : forceR rs f = rs ∧ forceF rs f = rs.length := by
  constructor <;> simp [forceR, forceF, h]
theorem forceR_len (rs : List R) (f : Int) (hl : tot rs ≤ 1000) : tot (forceR rs f) ≤ 1000 := by
  unfold forceR
  split
  · exact hl
  · simp [tot, pre]

end Go.Proofs.YtaogachhmdmoaaaDoor

namespace Go.Proofs.YtaogachhmdmoaaaDoor
open Go.RowKit

set_option maxHeartbeats 4000000 in
theorem drawAdd_any (v : Value) (n : Nat) (w : World) (hv : CodeAt w v n) (hn : n ≤ 1048576) :
    Calls Tryd.prog 10 #[v] w fun e w' => ∃ u f rs k t y zs, e = .returned (.tuple #[.agg #[u, .int .i64 f], .agg #[.int .i64 k, .int .i64 t, y]]) ∧ Ints w' y zs ∧ zs.length ≤ 4 ∧ GotLog w w' u rs := by
  have HO : Hid (∀ o1 o2, Calls Tryd.prog 19 #[v] ((w.alloc o1).alloc o2) fun e w' => e = .returned (.pointer (some ⟨w.heap.size + 2, 0, none⟩)) ∧ Rd w' (w.heap.size + 2) 0 ∧ w'.heap.size = w.heap.size + 3 ∧ Below (w.heap.size + 2) ((w.alloc o1).alloc o2) w') := fun o1 o2 => by
    have := open_any v n ((w.alloc o1).alloc o2) (hv.later (below2 w o1 o2) (Nat.le_refl _)) hn
    rw [size2] at this
    exact this
  obtain ⟨ao, cap, rfl, _⟩ := hv
  go_enter Tryd.func10, Tryd.ntmps10
  go_wp2_with fail
  refine (HO.out _ _).mono ?_
  rintro e w1 ⟨rfl, hr1, hs1, hb1⟩
  have R1 := hide_it hr1
  have B1 := hide_it ((below2 w _ _).trans (hb1.mono (by omega)))
  have Z1 := hide_it (show w1.heap[w.heap.size]? = some (.cells #[.slice none 0 0, .int .i64 0] 31 (0, 0)) by rw [hb1.block _ (by omega), Below.heap_alloc _ _ _ (by simp)]; exact heap_alloc_new w _)
  have Y1 := hide_it (show w1.heap[w.heap.size + 1]? = some (.cells #[.int .i64 0, .int .i64 0, .slice none 0 0] 25 (0, 0)) by
    rw [hb1.block _ (by omega)]
    have h := heap_alloc_new (w.alloc (.cells #[.slice none 0 0, .int .i64 0] 31)) (.cells #[.int .i64 0, .int .i64 0, .slice none 0 0] 25)
    rw [size1] at h
    exact h)
  clear hr1 hb1
  go_wp2_with fail
  refine (log_draw (w.heap.size + 2) 0 w1 R1.out (by omega)).mono ?_
  rintro e w2 ⟨u, f, ps, q, L, rfl, hl, -, hq, hs2⟩
  obtain ⟨au, cu, hus⟩ : ∃ ao cap, u = .slice ao ps.length cap := row_shape hs2.row
  subst hus
  have S2 := hide_it hs2
  clear hs2
  go_wp2_with fail
  refine (rec_draw (w.heap.size + 2) q _ S2.out.rd (by omega)).mono ?_
  rintro e w3 ⟨k, t, y, zs, q2, cp, rfl, hz, hF, -, -, r3, m3⟩
  have S3 := hide_it (S2.out.step m3 r3)
  have hsz : w.heap.size + 3 ≤ w2.heap.size := by have := S2.out.mid.size; omega
  have F3 := hide_it (hF.mono hsz)
  obtain ⟨g, off, hyy⟩ : ∃ g off, y = .slice (some ⟨g, off, none⟩) zs.length cp := by obtain ⟨g, off, cs, h, _⟩ := hF; exact ⟨g, off, h⟩
  subst hyy
  clear r3 m3 hF S2
  have hZ4 : w3.heap[w.heap.size]? = some (.cells #[.slice none 0 0, .int .i64 0] 31 (0, 0)) := by
    rw [S3.out.mid.block _ (by omega) (Or.inl (by omega))]; exact Z1.out
  have hY4 : w3.heap[w.heap.size + 1]? = some (.cells #[.int .i64 0, .int .i64 0, .slice none 0 0] 25 (0, 0)) := by
    rw [S3.out.mid.block _ (by omega) (Or.inl (by omega))]; exact Y1.out
  have z0 : w3.cell? ⟨w.heap.size, 0, none⟩ = some (.slice none 0 0) := by rw [cell_of_row w3 _ _ _ _ _ hZ4]; rfl
  have z1 : w3.cell? ⟨w.heap.size, 1, none⟩ = some (.int .i64 0) := by rw [cell_of_row w3 _ _ _ _ _ hZ4]; rfl
  have z2 := frozen_of_row w3 _ 0 _ _ hZ4
  have z3 := frozen_of_row w3 _ 1 _ _ hZ4
  have y0 : w3.cell? ⟨w.heap.size + 1, 0, none⟩ = some (.int .i64 0) := by rw [cell_of_row w3 _ _ _ _ _ hY4]; rfl
  have y1 : w3.cell? ⟨w.heap.size + 1, 1, none⟩ = some (.int .i64 0) := by rw [cell_of_row w3 _ _ _ _ _ hY4]; rfl
  have y2 : w3.cell? ⟨w.heap.size + 1, 2, none⟩ = some (.slice none 0 0) := by rw [cell_of_row w3 _ _ _ _ _ hY4]; rfl
  have y3 := frozen_of_row w3 _ 0 _ _ hY4
  have y4 := frozen_of_row w3 _ 1 _ _ hY4
  have y5 := frozen_of_row w3 _ 2 _ _ hY4
  clear hZ4 hY4
  have MM : Hid (∀ a b c d e, Mid w.heap.size (w.heap.size + 2) w3 (((((w3.setCell ⟨w.heap.size, 0, none⟩ a).setCell ⟨w.heap.size, 1, none⟩ b).setCell ⟨w.heap.size + 1, 0, none⟩ c).setCell ⟨w.heap.size + 1, 1, none⟩ d).setCell ⟨w.heap.size + 1, 2, none⟩ e)) := fun a b c d e => by
    refine ⟨rfl, rfl, rfl, by simp, fun j hj hh => ?_⟩
    rw [Below.heap_setCell _ _ _ _ (by simp; omega), Below.heap_setCell _ _ _ _ (by simp; omega), Below.heap_setCell _ _ _ _ (by simp; omega), Below.heap_setCell _ _ _ _ (by simp; omega), Below.heap_setCell _ _ _ _ (by simp; omega)]
  go_wp2
  refine bodyPost_ret (v := .tuple #[.agg #[.slice au ps.length cu, .int .i64 f], .agg #[.int .i64 k, .int .i64 t, .slice (some ⟨g, off, none⟩) zs.length cp]]) (by simp [results, Tryd.results10, go_sem, z0, z1, y0, y1, y2]) rfl ⟨_, f, ps.map (·.1), k, t, _, zs, rfl, ?_, hz, ?_⟩
  · have hm := MM.out (.slice au ps.length cu) (.int .i64 f) (.int .i64 k) (.int .i64 t) (.slice (some ⟨g, off, none⟩) zs.length cp)
    obtain ⟨g', off', cs, hu, hlo, hh, hc⟩ := F3.out
    have F4 : Fresh _ (w.heap.size + 3) (.slice (some ⟨g, off, none⟩) zs.length cp) zs cp := ⟨g', off', cs, hu, hlo, by rw [hm.block g' (heap_lt hh) (Or.inr (by omega))]; exact hh, hc⟩
    exact F4.ints
  · exact GotLog.of B1.out (by omega) S3.out hl (MM.out _ _ _ _ _) (by omega) (Nat.le_refl _)

end Go.Proofs.YtaogachhmdmoaaaDoor
