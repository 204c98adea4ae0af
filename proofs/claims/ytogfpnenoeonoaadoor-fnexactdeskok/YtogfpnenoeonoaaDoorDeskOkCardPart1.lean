/- What the last text of this claim stands on, part 1: plain facts and contracts; the last text says what is proved. -/
import Derived.WalkKit
import Derived.Test.YtogfpnenoeonoaaDoorChecked
import Derived.WalkLawsBesides
import Derived.BigQuiet
import Derived.Deep.QuietTactic
import Derived.Outline
import Derived.WalkSmall
import Derived.LaidEql
import Derived.RowKitTokens
import Derived.Test.YtogfpnenoeonoaaDoorCards
import Derived.Test.YtogfpnenoeonoaaDoorTie
import Derived.ProofKit
import Derived.LaidMore
import Derived.OpenShut
import Derived.Stop.Joined
import Derived.Stop.LaidErr
import Derived.Lib.SmallJoins
import Derived.Deep.RegionWith
import Derived.Deep.RegionHeldLaw
import Derived.Laws.AppendOwnNone
import Derived.Deep.RegionLaw
import Derived.Deep.AppendLies

namespace Go.Proofs.YtogfpnenoeonoaaDoor
namespace Pl

def inB (n lo hi : Int) : Bool := decide (lo ≤ n) && decide (n ≤ hi)
def manyOk (zs : List Int) : Bool := zs.all (fun z => inB z 0 3) && (zs.length == 3) && decide (0 < zs.sum)
def holdOk (zs : List Int) : Bool := (zs.length == 1) && inB (zs.headD 0) 1 3
def recOk (k t : Int) (zs : List Int) : Bool :=
  inB t 1 6 && (if k = 1 then holdOk zs else if k = 4 then manyOk zs else inB k 2 7 && (zs.length == 0))

theorem inB_true {n lo hi : Int} (h : inB n lo hi = true) : lo ≤ n ∧ n ≤ hi := by
  simpa [inB] using h
theorem inB_false {n lo hi : Int} (h : inB n lo hi = false) : n < lo ∨ hi < n := by
  simp [inB] at h; omega
theorem inB_mk {n lo hi : Int} (h1 : lo ≤ n) (h2 : n ≤ hi) : inB n lo hi = true := by
  simp [inB, h1, h2]
theorem inB_lo {n lo hi : Int} (h1 : n < lo) : inB n lo hi = false := by
  simp [inB]; omega
theorem inB_hi {n lo hi : Int} (h1 : hi < n) : inB n lo hi = false := by
  simp [inB]; omega

theorem take_snoc (zs : List Int) (k : Nat) (h : k < zs.length) : zs.take (k + 1) = zs.take k ++ [zs.getD k 0] := by
  rw [List.take_succ_eq_append_getElem h]; simp [List.getD_eq_getElem?_getD, h]
theorem sum_snoc (zs : List Int) (k : Nat) (h : k < zs.length) : (zs.take (k + 1)).sum = (zs.take k).sum + zs.getD k 0 := by
  rw [take_snoc zs k h]; simp
theorem all_snoc (p : Int → Bool) (zs : List Int) (k : Nat) (h : k < zs.length) : (zs.take (k + 1)).all p = ((zs.take k).all p && p (zs.getD k 0)) := by
  rw [take_snoc zs k h]; simp
theorem sum_bd (zs : List Int) (h : zs.all (fun z => inB z 0 3) = true) : 0 ≤ zs.sum ∧ zs.sum ≤ 3 * zs.length := by
  induction zs with
  | nil => simp
  | cons z zs ih =>
    simp only [List.all_cons, Bool.and_eq_true] at h
    have := inB_true h.1
    have := ih h.2
    simp; omega
theorem all_bad (p : Int → Bool) (zs : List Int) (k : Nat) (h : k < zs.length) (hp : p (zs.getD k 0) = false) : zs.all p = false := by
  rw [List.all_eq_false]
  refine ⟨zs.getD k 0, ?_, by rw [hp]; decide⟩
  simp [List.getD_eq_getElem?_getD, h]
theorem manyOk_bad (zs : List Int) (k : Nat) (h : k < zs.length) (hp : inB (zs.getD k 0) 0 3 = false) : manyOk zs = false := by
  have := all_bad (fun z => inB z 0 3) zs k h hp
  simp [manyOk, this]
theorem manyOk_end (zs : List Int) (h : zs.all (fun z => inB z 0 3) = true) : manyOk zs = ((zs.length == 3) && decide (0 < zs.sum)) := by
  simp [manyOk, h]
theorem manyOk_len (zs : List Int) (h : zs.length ≠ 3) : manyOk zs = false := by
  simp [manyOk, h]

theorem recOk_t (k t : Int) (zs : List Int) (h : inB t 1 6 = false) : recOk k t zs = false := by simp [recOk, h]
theorem recOk_1 (t : Int) (zs : List Int) (h : inB t 1 6 = true) : recOk 1 t zs = holdOk zs := by simp [recOk, h]
theorem recOk_4 (t : Int) (zs : List Int) (h : inB t 1 6 = true) : recOk 4 t zs = manyOk zs := by simp [recOk, h]
theorem recOk_p (k t : Int) (zs : List Int) (h : inB t 1 6 = true) (h1 : k ≠ 1) (h4 : k ≠ 4) : recOk k t zs = (inB k 2 7 && (zs.length == 0)) := by simp [recOk, h, h1, h4]
theorem recOk_plain (k t : Int) (zs : List Int) (h : inB t 1 6 = true) (h1 : k ≠ 1) (h4 : k ≠ 4) (hk : inB k 2 7 = true) : recOk k t zs = (zs.length == 0) := by rw [recOk_p k t zs h h1 h4, hk]; rfl
theorem recOk_none (k t : Int) (zs : List Int) (h : inB t 1 6 = true) (h1 : k ≠ 1) (h4 : k ≠ 4) (hk : inB k 2 7 = false) : recOk k t zs = false := by rw [recOk_p k t zs h h1 h4, hk]; rfl

def anyPos (zs : List Int) : Bool := zs.any (fun z => decide (0 < z))
theorem anyPos_snoc (zs : List Int) (k : Nat) (h : k < zs.length) : anyPos (zs.take (k + 1)) = (anyPos (zs.take k) || decide (0 < zs.getD k 0)) := by
  rw [take_snoc zs k h]; simp [anyPos]
theorem anyPos_sum (zs : List Int) (h : zs.all (fun z => inB z 0 3) = true) : decide (0 < zs.sum) = anyPos zs := by
  induction zs with
  | nil => rfl
  | cons z zs ih =>
    simp only [List.all_cons, Bool.and_eq_true] at h
    have h1 := inB_true h.1
    have h2 := sum_bd zs h.2
    have h3 := ih h.2
    have h4 : anyPos (z :: zs) = (decide (0 < z) || anyPos zs) := by simp [anyPos]
    have hs : (z :: zs).sum = z + zs.sum := by simp
    rw [h4, ← h3, hs]
    by_cases hz : 0 < z
    · have : 0 < z + zs.sum := by omega
      simp [hz, this]
    · have : z = 0 := by omega
      simp [this]
theorem manyOk_any (zs : List Int) (h : zs.all (fun z => inB z 0 3) = true) (h3 : zs.length = 3) : manyOk zs = anyPos zs := by
  rw [manyOk_end zs h, h3, anyPos_sum zs h]; rfl

end Pl
end Go.Proofs.YtogfpnenoeonoaaDoor

namespace Go.Proofs.YtogfpnenoeonoaaDoor
open Go.RowKit

/-- The value v is a slice of just these numbers in the world w. -/
def Ints (w : World) (v : Value) (zs : List Int) : Prop :=
  (zs = [] ∧ ∃ ao cap, v = .slice ao 0 cap ∧ (ao = none → cap = 0)) ∨
  (∃ b off cap, v = .slice (some ⟨b, off, none⟩) zs.length cap ∧ zs ≠ [] ∧ ∀ k, k < zs.length → w.cell? ⟨b, off + k, none⟩ = some (.int .i64 (zs.getD k 0)))

theorem Ints.later {B : Nat} {w w' : World} {v : Value} {zs : List Int} (h : Ints w v zs) (hb : Below B w w') (hB : w.heap.size ≤ B) : Ints w' v zs := by
  rcases h with h | ⟨b, off, cap, hv, hz, hc⟩
  · exact Or.inl h
  · refine Or.inr ⟨b, off, cap, hv, hz, fun k hk => ?_⟩
    have h1 := hc k hk
    have h2 := World.block_lt_of_cell? _ _ h1
    rw [← h1]
    exact hb.cell (p := ⟨b, off + k, none⟩) (by simp at h2 ⊢; omega)

theorem Ints.shape {w : World} {v : Value} {zs : List Int} (h : Ints w v zs) : ∃ ao cap, v = .slice ao zs.length cap := by
  rcases h with ⟨rfl, ao, cap, rfl, _⟩ | ⟨b, off, cap, rfl, _, _⟩
  · exact ⟨ao, cap, rfl⟩
  · exact ⟨_, cap, rfl⟩

theorem in_any (n lo hi : Int) (w : World) :
    Calls Tryd.prog 53 #[.int .i64 n, .int .i64 lo, .int .i64 hi] w fun e w' => e = .returned (.bool (Pl.inB n lo hi)) ∧ w' = w := by
  by_cases h1 : lo ≤ n
  · by_cases h2 : n ≤ hi
    all_goals
      go_enter Tryd.func53, Tryd.ntmps53
      go_wp2
      go_ret
      exact ⟨by simp [Pl.inB]; omega, rfl⟩
  · go_enter Tryd.func53, Tryd.ntmps53
    go_wp2
    go_ret
    exact ⟨by simp [Pl.inB]; omega, rfl⟩

theorem szInts_any (ao : Option Addr) (len cap : Nat) (left : Int) (w : World) (hl : (len : Int) ≤ 9223372036854775807) (h0 : 0 ≤ left) (h1 : left ≤ 1048576) :
    Calls Tryd.prog 79 #[.slice ao len cap, .int .i64 left] w fun e w' => e = .returned (.int .i64 (if left - len < 0 then -1 else left - len)) ∧ w' = w := by
  by_cases h : left - (len : Int) < 0
  · rw [if_pos h]
    go_enter Tryd.func79, Tryd.ntmps79
    go_wp2
    go_ret
    exact ⟨rfl, rfl⟩
  · rw [if_neg h]
    go_enter Tryd.func79, Tryd.ntmps79
    go_wp2
    go_ret
    exact ⟨rfl, rfl⟩

set_option maxHeartbeats 400000 in
theorem many_any (v : Value) (zs : List Int) (w : World) (hv : Ints w v zs) (hl : zs.length ≤ 1048576) :
    Calls Tryd.prog 69 #[v] w fun e w' => e = .returned (.bool (Pl.manyOk zs)) ∧ w' = w := by
  rcases hv with ⟨rfl, ao, cap, rfl, -⟩ | ⟨b, off, cap, rfl, hz, hc⟩
  · go_enter Tryd.func69, Tryd.ntmps69
    go_wp2
    refine wp_loop_rounds 1 ?_
    rw [rounds_succ]
    go_wp2
    go_ret
    exact ⟨rfl, rfl⟩
  · have hz0 : 0 < zs.length := List.length_pos_iff.2 hz
    have HC : Hid (∀ k, k < zs.length → w.cell? ⟨b, off + k, none⟩ = some (.int .i64 (zs.getD k 0))) := hc
    clear hz hc
    go_enter Tryd.func69, Tryd.ntmps69
    go_wp2
    go_loop [3, 4] (fun s i => ∃ k : Nat, k ≤ zs.length ∧ i = .int .i64 k ∧ s = .int .i64 (zs.take k).sum ∧ Hid ((zs.take k).all (fun z => Pl.inB z 0 3) = true)) (fun _ i => zs.length - (intOf i).toNat)
    case atStart => exact ⟨0, Nat.zero_le _, rfl, rfl, rfl⟩
    case round =>
      obtain ⟨k, hk, rfl, rfl, hall⟩ := hrel
      have hbd := Pl.sum_bd _ hall.out
      have hlt' : (zs.take k).length ≤ 1048576 := by simp; omega
      by_cases hlt : k < zs.length
      · obtain ⟨z, HZ⟩ : ∃ z, Hid (z = zs.getD k 0) := ⟨_, rfl⟩
        have hck : w.cell? ⟨b, off + k, none⟩ = some (.int .i64 z) := by rw [HZ.out]; exact HC.out k hlt
        cases hin : Pl.inB z 0 3
        · have HB : Hid (Pl.manyOk zs = false) := Pl.manyOk_bad zs k hlt (by rw [← HZ.out]; exact hin)
          go_wp2_with (go_at_call 53; refine (in_any _ _ _ _).mono ?_; rintro e w' ⟨rfl, rfl⟩)
          go_ret
          exact ⟨by rw [HB.out]; rfl, rfl⟩
        · have hz := Pl.inB_true hin
          go_wp2_with (go_at_call 53; refine (in_any _ _ _ _).mono ?_; rintro e w' ⟨rfl, rfl⟩)
          go_round
          case rel => exact ⟨k + 1, by omega, by go_num, by rw [Pl.sum_snoc zs k hlt, ← HZ.out], by show _ = _; rw [Pl.all_snoc _ zs k hlt, hall.out, ← HZ.out, hin]; rfl⟩
          case measure => simp [intOf]; omega
      · have HE : Hid (Pl.manyOk zs = ((zs.length == 3) && decide (0 < (zs.take k).sum))) := by
          have hke : k = zs.length := by omega
          have := hall.out
          rw [hke, List.take_length] at this ⊢
          exact Pl.manyOk_end zs this
        by_cases h3 : (zs.length : Int) = 3
        · go_wp2
          go_ret
          exact ⟨by rw [HE.out]; simp; omega, rfl⟩
        · go_wp2
          go_ret
          exact ⟨by rw [HE.out]; simp; omega, rfl⟩

end Go.Proofs.YtogfpnenoeonoaaDoor

namespace Go.Proofs.YtogfpnenoeonoaaDoor
open Go.RowKit

set_option maxHeartbeats 600000 in
theorem wanted_any (v : Value) (zs : List Int) (w : World) (hv : Ints w v zs) (hl : zs.length ≤ 1048576) :
    Calls Tryd.prog 97 #[v] w fun e w' => e = .returned (.bool (Pl.manyOk zs)) ∧ w' = w := by
  by_cases h3 : zs.length = 3
  · rcases hv with ⟨rfl, ao, cap, rfl, -⟩ | ⟨b, off, cap, rfl, hz, hc⟩
    · simp at h3
    · have HC : Hid (∀ k, k < zs.length → w.cell? ⟨b, off + k, none⟩ = some (.int .i64 (zs.getD k 0))) := hc
      have H3 : Hid (zs.length = 3) := h3
      clear hz hc
      rw [h3]
      clear h3 hl
      go_enter Tryd.func97, Tryd.ntmps97
      go_wp2
      go_loop [3, 11] (fun s i => ∃ k : Nat, k ≤ 3 ∧ i = .int .i64 k ∧ s = .bool (Pl.anyPos (zs.take k)) ∧ Hid ((zs.take k).all (fun z => Pl.inB z 0 3) = true)) (fun _ i => 3 - (intOf i).toNat)
      case atStart => exact ⟨0, Nat.zero_le _, rfl, rfl, rfl⟩
      case round =>
        obtain ⟨k, hk, rfl, rfl, hall⟩ := hrel
        by_cases hlt : k < 3
        · have hlz : Hid (k < zs.length) := by show _ < _; rw [H3.out]; exact hlt
          obtain ⟨z, HZ⟩ : ∃ z, Hid (z = zs.getD k 0) := ⟨_, rfl⟩
          have hck : w.cell? ⟨b, off + k, none⟩ = some (.int .i64 z) := by rw [HZ.out]; exact HC.out k hlz.out
          by_cases h0 : z < 0
          · have HB : Hid (Pl.manyOk zs = false) := Pl.manyOk_bad zs k hlz.out (by rw [← HZ.out]; exact Pl.inB_lo h0)
            go_wp2
            go_ret
            exact ⟨by rw [HB.out]; rfl, rfl⟩
          by_cases h4 : 3 < z
          · have HB : Hid (Pl.manyOk zs = false) := Pl.manyOk_bad zs k hlz.out (by rw [← HZ.out]; exact Pl.inB_hi h4)
            go_wp2
            go_ret
            exact ⟨by rw [HB.out]; rfl, rfl⟩
          have HA : Hid ((zs.take (k + 1)).all (fun z => Pl.inB z 0 3) = true) := by
            show _ = _
            rw [Pl.all_snoc _ zs k hlz.out, hall.out, ← HZ.out, Pl.inB_mk (by omega) (by omega)]; rfl
          have HS : Hid (Pl.anyPos (zs.take (k + 1)) = (Pl.anyPos (zs.take k) || decide (0 < z))) := by
            show _ = _
            rw [Pl.anyPos_snoc zs k hlz.out, ← HZ.out]
          cases hs : Pl.anyPos (zs.take k)
          · by_cases hp : 0 < z
            all_goals
              go_wp2
              go_round
              case rel => exact ⟨k + 1, by omega, by go_num, by rw [HS.out, hs]; simp; omega, HA⟩
              case measure => simp [intOf]; omega
          · go_wp2
            go_round
            case rel => exact ⟨k + 1, by omega, by go_num, by rw [HS.out, hs]; rfl, HA⟩
            case measure => simp [intOf]; omega
        · have HE : Hid (Pl.manyOk zs = Pl.anyPos (zs.take k)) := by
            show _ = _
            have hke : k = zs.length := by rw [H3.out]; omega
            have := hall.out
            rw [hke, List.take_length] at this ⊢
            exact Pl.manyOk_any zs this H3.out
          go_wp2
          go_ret
          exact ⟨by rw [HE.out]; rfl, rfl⟩
  · have hne : ¬ (zs.length : Int) = 3 := by omega
    rw [Pl.manyOk_len zs h3]
    obtain ⟨ao, cap, rfl⟩ := hv.shape
    clear hv h3
    go_enter Tryd.func97, Tryd.ntmps97
    go_wp2
    go_ret
    exact ⟨rfl, rfl⟩

end Go.Proofs.YtogfpnenoeonoaaDoor

namespace Go.Proofs.YtogfpnenoeonoaaDoor
open Go.RowKit Go.Extern

theorem isTypeOf (v : Value) (w : World) : (Extern.ReflectliteType.typeOf #[.iface 152 v]).run Tryd.prog w = .ok (.iface 141 (.agg #[.pointer (some ⟨1, 152, none⟩)])) w := by kernel_rfl
theorem isComparable (w : World) : Sem.run Tryd.prog (callFunc 123 #[.agg #[.pointer (some ⟨1, 152, none⟩)]]) w = .ok (Next.value (.bool true)) w := by kernel_rfl
theorem isMethodComparable (v : Value) (w : World) : (Go.method 290 141 v "Comparable").run Tryd.prog w = .ok (123, v) w := by kernel_rfl
theorem isComp : (Tryd.prog.info? 152).map (·.comparable) = some true := by kernel_rfl
theorem isSize : (Tryd.prog.info? 178).map (·.size) = some 1 := by kernel_rfl

/-- errors.Is(x, x), x a pointer to an errors.errorString. -/
theorem is_same (a : Addr) (w : World) :
    Calls Tryd.prog 82 #[.iface 152 (.pointer (some a)), .iface 152 (.pointer (some a))] w fun e w' => e = .returned (.bool true) ∧ w' = w := by
  obtain ⟨i, hi, hcmp⟩ := Option.map_eq_some_iff.1 isComp
  obtain ⟨j, hj, hjs⟩ := Option.map_eq_some_iff.1 isSize
  have h8 := @run_callFunc_extern Tryd.prog 92 _ Extern.ReflectliteType.typeOf Tryd.func92 (by kernel_rfl) (by kernel_rfl) (by kernel_rfl) (by kernel_rfl)
  have tT := isTypeOf
  have cT := isComparable
  have mR := isMethodComparable
  have heq := run_eql_iface_ptr_same (P := Tryd.prog) w a Tryd.underlying109 Tryd.underlying152 hi hcmp hj
  go_enter Tryd.func82, Tryd.ntmps82
  go_wp2
  refine wp_loop_rounds 1 ?_
  rw [rounds_succ]
  go_wp2
  go_ret
  exact ⟨rfl, rfl⟩

/-- errors.Is(nil, x). -/
theorem is_nil (b : Addr) (w : World) :
    Calls Tryd.prog 82 #[.nilIface, .iface 152 (.pointer (some b))] w fun e w' => e = .returned (.bool false) ∧ w' = w := by
  have hn := run_eql_iface_nil_left (P := Tryd.prog) w 152 (.pointer (some b)) Tryd.underlying109
  go_enter Tryd.func82, Tryd.ntmps82
  go_wp2
  go_ret
  exact ⟨rfl, rfl⟩

end Go.Proofs.YtogfpnenoeonoaaDoor

namespace Go.Proofs.YtogfpnenoeonoaaDoor
open Go.RowKit

/-- What comes beside an entry: no error, or the sentinel. -/
def errV (ok : Bool) (a : Addr) : Value := if ok then .nilIface else .iface 152 (.pointer (some a))

/-- The sentinel's variable holds this pointer. -/
def ErrAt (w : World) (a : Addr) : Prop := w.cell? ⟨0, 0, none⟩ = some (.iface 152 (.pointer (some a)))

theorem ErrAt.later {B : Nat} {w w' : World} {a : Addr} (h : ErrAt w a) (hb : Below B w w') (hB : w.heap.size ≤ B) : ErrAt w' a := by
  have h2 := World.block_lt_of_cell? _ _ h
  unfold ErrAt at *
  rw [← h]
  exact hb.cell (p := ⟨0, 0, none⟩) (by simp at h2 ⊢; omega)

set_option maxHeartbeats 600000 in
theorem hold_any (t : Int) (v : Value) (zs : List Int) (a : Addr) (w : World) (hv : Ints w v zs) (ha : ErrAt w a) :
    Calls Tryd.prog 89 #[.int .i64 t, v] w fun e w' => (∃ ent, e = .returned (.tuple #[ent, errV (Pl.holdOk zs) a])) ∧ Below w.heap.size w w' := by
  unfold ErrAt at ha
  by_cases h1 : zs.length = 1
  · obtain ⟨z, rfl⟩ := List.length_eq_one_iff.1 h1
    rcases hv with ⟨h, _⟩ | ⟨b, off, cap, rfl, hz, hc⟩
    · simp at h
    have hc0 : w.cell? ⟨b, off, none⟩ = some (.int .i64 z) := hc 0 (by simp)
    clear hc hz h1
    by_cases hz1 : z < 1
    · have HE : Hid (errV (Pl.holdOk [z]) a = .iface 152 (.pointer (some a))) := by
        show _ = _; simp [Pl.holdOk, Pl.inB_lo hz1, errV]
      go_enter Tryd.func89, Tryd.ntmps89
      go_wp2
      go_quiet (fail)
      go_wp2
      go_ret2
      exact ⟨⟨_, by rw [HE.out]; rfl⟩, below_drewN (Below.refl _ _) _⟩
    by_cases hz3 : 3 < z
    · have HE : Hid (errV (Pl.holdOk [z]) a = .iface 152 (.pointer (some a))) := by
        show _ = _; simp [Pl.holdOk, Pl.inB_hi hz3, errV]
      go_enter Tryd.func89, Tryd.ntmps89
      go_wp2
      go_quiet (fail)
      go_wp2
      go_ret2
      exact ⟨⟨_, by rw [HE.out]; rfl⟩, below_drewN (Below.refl _ _) _⟩
    · have HE : Hid (errV (Pl.holdOk [z]) a = .nilIface) := by
        show _ = _; simp [Pl.holdOk, Pl.inB_mk (show 1 ≤ z by omega) (show z ≤ 3 by omega), errV]
      go_enter Tryd.func89, Tryd.ntmps89
      go_wp2
      go_ret2
      exact ⟨⟨_, by rw [HE.out]; rfl⟩, Below.refl _ _⟩
  · have HE : Hid (errV (Pl.holdOk zs) a = .iface 152 (.pointer (some a))) := by
      show _ = _; simp [Pl.holdOk, h1, errV]
    have hne : ¬ (zs.length : Int) = 1 := by omega
    obtain ⟨ao, cap, rfl⟩ := hv.shape
    clear hv h1
    go_enter Tryd.func89, Tryd.ntmps89
    go_wp2
    go_quiet (fail)
    go_wp2
    go_ret2
    exact ⟨⟨_, by rw [HE.out]; rfl⟩, below_drewN (Below.refl _ _) _⟩

set_option maxHeartbeats 600000 in
theorem plain_any (k t : Int) (v : Value) (zs : List Int) (a : Addr) (w : World) (hv : Ints w v zs) (ha : ErrAt w a) :
    Calls Tryd.prog 91 #[.int .i64 k, .int .i64 t, v] w fun e w' => (∃ ent, e = .returned (.tuple #[ent, errV (zs.length == 0) a])) ∧ Below w.heap.size w w' := by
  unfold ErrAt at ha
  obtain ⟨ao, cap, rfl⟩ := hv.shape
  clear hv
  by_cases h1 : (zs.length : Int) = 0
  · have HE : Hid (errV (zs.length == 0) a = .nilIface) := by
      have : zs.length = 0 := by omega
      show _ = _; simp [this, errV]
    go_enter Tryd.func91, Tryd.ntmps91
    go_wp2
    go_ret2
    exact ⟨⟨_, by rw [HE.out]; rfl⟩, Below.refl _ _⟩
  · have HE : Hid (errV (zs.length == 0) a = .iface 152 (.pointer (some a))) := by
      have : (zs.length == 0) = false := beq_eq_false_iff_ne.2 (by omega)
      show _ = _; rw [this]; rfl
    go_enter Tryd.func91, Tryd.ntmps91
    go_wp2
    go_quiet (fail)
    go_wp2
    go_ret2
    exact ⟨⟨_, by rw [HE.out]; rfl⟩, below_drewN (Below.refl _ _) _⟩

set_option maxHeartbeats 1000000 in
theorem begin_any (t : Int) (v : Value) (zs : List Int) (a : Addr) (w : World) (hv : Ints w v zs) (hl : zs.length ≤ 1048576) (ha : ErrAt w a) :
    Calls Tryd.prog 90 #[.int .i64 t, v] w fun e w' => (∃ ent, e = .returned (.tuple #[ent, errV (Pl.manyOk zs) a])) ∧ Below w.heap.size w w' := by
  unfold ErrAt at ha
  have hw := wanted_any v zs w hv hl
  cases hm : Pl.manyOk zs
  · have HE : Hid (errV false a = .iface 152 (.pointer (some a))) := rfl
    rw [hm] at hw
    have HW := hw
    clear hw
    obtain ⟨ao, cap, rfl⟩ := hv.shape
    clear hv hm
    go_enter Tryd.func90, Tryd.ntmps90
    go_wp2_with (go_at_call 97; refine HW.mono ?_; rintro e w' ⟨rfl, rfl⟩)
    go_quiet (fail)
    go_wp2
    go_ret2
    exact ⟨⟨_, by rw [HE.out]; rfl⟩, below_drewN (Below.refl _ _) _⟩
  · have HE : Hid (errV true a = .nilIface) := rfl
    rw [hm] at hw
    have HW := hw
    clear hw ha
    have h3 : zs.length = 3 := by
      by_cases h : zs.length = 3
      · exact h
      · rw [Pl.manyOk_len zs h] at hm; simp at hm
    obtain ⟨z0, z1, z2, rfl⟩ : ∃ z0 z1 z2, zs = [z0, z1, z2] := by
      match zs, h3 with
      | [z0, z1, z2], _ => exact ⟨z0, z1, z2, rfl⟩
    rcases hv with ⟨h, _⟩ | ⟨b, off, cap, rfl, hz, hc⟩
    · simp at h
    have hc0 : w.cell? ⟨b, off, none⟩ = some (.int .i64 z0) := hc 0 (by simp)
    have hc1 : w.cell? ⟨b, off + 1, none⟩ = some (.int .i64 z1) := hc 1 (by simp)
    have hc2 : w.cell? ⟨b, off + 2, none⟩ = some (.int .i64 z2) := hc 2 (by simp)
    have hbw : b < w.heap.size := World.block_lt_of_cell? _ _ hc0
    clear hc hz hm h3 hl
    go_enter Tryd.func90, Tryd.ntmps90
    go_wp2_with (go_at_call 97; refine HW.mono ?_; rintro e w' ⟨rfl, rfl⟩)
    refine wp_loop_rounds 4 ?_
    rw [rounds_succ]
    go_wp2
    rw [rounds_succ]
    go_wp2
    rw [rounds_succ]
    go_wp2
    rw [rounds_succ]
    go_wp2
    go_ret2
    exact ⟨⟨_, by rw [HE.out]; rfl⟩, (Below.refl _ _).alloc (Nat.le_refl _) _⟩

end Go.Proofs.YtogfpnenoeonoaaDoor

namespace Go.Proofs.YtogfpnenoeonoaaDoor
open Go.ChangeShapes Go.WideShapes Go.ChangeAt Go.WideMaps Go.WideElems Go.RowKit

theorem own : ownKnob Tryd.prog.godebug = none := by kernel_rfl
theorem laidOut : laidOutB Tryd.prog = true := by kernel_rfl
theorem gErr : Tryd.prog.globalNamed "loop.example/concierge/impl.errNoRec" = some 0 := by kernel_rfl
theorem gErrType : (Tryd.prog.globals[0]?).map (·.type) = some 109 := by kernel_rfl
theorem cellsErrS : Tryd.prog.cellsOf 178 = 1 := by kernel_rfl
theorem cellsString : Tryd.prog.cellsOf 9 = 1 := by kernel_rfl
theorem cellsInt : Tryd.prog.cellsOf 3 = 1 := by kernel_rfl
theorem star : "*" ++ "errors.errorString" = "*errors.errorString" := by decide
theorem rowErr (u : TypeId) (h : Tryd.prog.typeName? 3 u = some "*errors.errorString") : u = 152 :=
  typeName_ptr_named (nm := "errors.errorString") (by rw [star]; kernel_rfl) (by kernel_rfl) (by decide) u (by rw [star]; exact h)

/-- The list that every row of this seat bears. -/
def laidErr : List (String × DataW Unit) := [("loop.example/concierge/impl.errNoRec", Rows.laid_loop_example_concierge_impl_errNoRec)]

theorem door_met (os : Os) (args : Array Value) : laidMetH Tryd.prog laidErr ((World.doorLaid Tryd.prog 28 os).forCall (fun _ _ => 0) ⟨#[], args, []⟩).memory :=
  laidMetH_of_parts3 (fuel := 8) (laidMet_of_run' 8 (by kernel_rfl) (by kernel_rfl)) (by kernel_rfl) (by kernel_rfl)

/-- What the list gives: the variable holds a pointer to an errors.errorString. -/
theorem of_laid {W : World} (h : laidMetH Tryd.prog laidErr W) : ∃ a, ErrAt W a ∧ W.var? Tryd.prog "loop.example/concierge/impl.errNoRec" = some #[.iface 152 (.pointer (some a))] := by
  rw [MakeChecks.laidMetH_plain _ _ _ (by kernel_rfl)] at h
  obtain ⟨a, s, hv, hc, _, _⟩ := laid_sentinel (r := []) h gErr gErrType Tryd.underlying109 rowErr Tryd.underlying152 Tryd.underlying178 rfl rfl Tryd.underlying9 cellsErrS cellsString
  refine ⟨a, ?_, hv⟩
  unfold ErrAt
  simpa using World.var?_cell gErr hv 0

end Go.Proofs.YtogfpnenoeonoaaDoor

namespace Go.Proofs.YtogfpnenoeonoaaDoor
open Go.RowKit

theorem info3 : (Tryd.prog.info? 3).map (fun i => (i.zero, i.size, i.bytes)) = some (some (.int .i64 0), 1, 8) := by kernel_rfl

/-- What a copy holds when k numbers have been copied. -/
def part (zs : List Int) (k : Nat) : List Value := (zs.take k).map (Value.int .i64) ++ List.replicate (zs.length - k) (Value.int .i64 0)
theorem part_zero (zs : List Int) : part zs 0 = List.replicate zs.length (Value.int .i64 0) := by simp [part]
theorem part_all (zs : List Int) : part zs zs.length = zs.map (Value.int .i64) := by simp [part]
theorem part_set (zs : List Int) (k : Nat) (h : k < zs.length) : (part zs k).set k (Value.int .i64 (zs.getD k 0)) = part zs (k + 1) := by
  unfold part
  rw [Pl.take_snoc zs k h, List.set_append_right _ _ (by simp; omega)]
  simp only [List.length_map, List.length_take, List.map_append, List.map_cons, List.map_nil, List.append_assoc]
  rw [show k - min k zs.length = 0 by omega, show zs.length - k = (zs.length - (k + 1)) + 1 by omega, List.replicate_succ]
  rfl

theorem made_one (z : Value) (hz : z.cells = #[z]) (n : Nat) : (madeCells z.cells (n * 1)).toList = List.replicate n z := by
  rw [hz, Nat.mul_one]; exact toList_madeCells_one z n

/-- A row of numbers that the call owns is a list of them. -/
theorem ints_of_row {w : World} {base g cap : Nat} {zs : List Int} (h : w.ownsRow base 3 1 (.slice (some ⟨g, 0, none⟩) zs.length cap) zs.length (zs.map (Value.int .i64))) :
    Ints w (.slice (some ⟨g, 0, none⟩) zs.length cap) zs := by
  by_cases hz : zs = []
  · subst hz; exact Or.inl ⟨rfl, _, _, rfl, fun h => by cases h⟩
  · refine Or.inr ⟨g, 0, cap, rfl, hz, fun k hk => ?_⟩
    have := h.cellAt k (by omega)
    rw [Nat.zero_add, this]
    simp [List.getD_eq_getElem?_getD, hk]

set_option maxHeartbeats 1000000 in
theorem toInts_any (v : Value) (zs : List Int) (w : World) (hv : Ints w v zs) (hl : zs.length ≤ 1048576) :
    Calls Tryd.prog 80 #[v] w fun e w' => e = .returned (.slice (some ⟨w.heap.size, 0, none⟩) zs.length zs.length) ∧
      w'.ownsRow w.heap.size 3 1 (.slice (some ⟨w.heap.size, 0, none⟩) zs.length zs.length) zs.length (zs.map (Value.int .i64)) ∧ Below w.heap.size w w' := by
  obtain ⟨i0, hi, hz0, hz1, hz2⟩ := info_parts info3
  have hbytes : i0.bytes * zs.length ≤ 281474976710656 := by rw [hz2]; omega
  have hmax : zs.length ≤ maxLen := by unfold maxLen; omega
  rcases hv with ⟨rfl, ao, cap, rfl, -⟩ | ⟨b, off, cap, rfl, hz, hc⟩
  · go_enter Tryd.func80, Tryd.ntmps80
    go_wp2_with (at_make; refine wpList_make_full _ rfl _ _ 68 rfl w.heap.size 3 i0 (.int .i64 0) 1 Tryd.underlying68 hi hz0 hz1 .i64 .i64 _ _ 0 rfl rfl rfl rfl hbytes hmax (Nat.le_refl _) ?_; intro w1 hown hgrow)
    refine wp_loop_rounds 1 ?_
    rw [rounds_succ]
    go_wp2
    go_ret
    exact ⟨rfl, by rw [made_one _ rfl] at hown; exact hown, (Below.refl _ _).grown hgrow (Nat.le_refl _) (fun k h => by cases h)⟩
  have HC : Hid (∀ k, k < zs.length → w.cell? ⟨b, off + k, none⟩ = some (.int .i64 (zs.getD k 0))) := hc
  have hzl : 0 < zs.length := List.length_pos_iff.2 hz
  have hbw : b < w.heap.size := World.block_lt_of_cell? _ _ (hc 0 hzl)
  clear hc hz
  go_enter Tryd.func80, Tryd.ntmps80
  go_wp2_with (at_make; refine wpList_make_full _ rfl _ _ 68 rfl w.heap.size 3 i0 (.int .i64 0) 1 Tryd.underlying68 hi hz0 hz1 .i64 .i64 _ _ zs.length rfl rfl rfl rfl hbytes hmax (Nat.le_refl _) ?_; intro w1 hown hgrow)
  have hown0 : w1.ownsRow w.heap.size 3 1 (.slice (some ⟨w.heap.size, 0, none⟩) zs.length zs.length) zs.length (part zs 0) := by
    rw [part_zero]; rw [made_one _ rfl] at hown; exact hown
  have hbel : Below w.heap.size w w1 := (Below.refl _ _).grown hgrow (Nat.le_refl _) (fun k h => by cases h)
  clear hown hgrow
  go_loopw [4] (fun i wr => ∃ k : Nat, k ≤ zs.length ∧ i = .int .i64 k ∧ wr.ownsRow w.heap.size 3 1 (.slice (some ⟨w.heap.size, 0, none⟩) zs.length zs.length) zs.length (part zs k) ∧ Below w.heap.size w wr) (fun i _ => zs.length - (intOf i).toNat)
  case atStart => exact ⟨0, Nat.zero_le _, rfl, hown0, hbel⟩
  case round =>
    obtain ⟨k, hk, rfl, hown, hbe⟩ := hrel
    by_cases hlt : k < zs.length
    · obtain ⟨z, HZ⟩ : ∃ z, Hid (z = zs.getD k 0) := ⟨_, rfl⟩
      have hck : wr.cell? ⟨b, off + k, none⟩ = some (.int .i64 z) := by rw [HZ.out, hbe.cell (p := ⟨b, off + k, none⟩) hbw]; exact HC.out k hlt
      obtain ⟨u, hcu⟩ : ∃ u, wr.cell? ⟨w.heap.size, k, none⟩ = some u := by
        have h1 := hown.cellAt k (by omega)
        have h2 : k < (part zs k).length := by rw [hown.1]; omega
        exact ⟨_, by rw [h1, List.getElem?_eq_getElem h2]⟩
      have hfr := hown.frozenAt k
      have HO : Hid (wr.ownsRow w.heap.size 3 1 (.slice (some ⟨w.heap.size, 0, none⟩) zs.length zs.length) zs.length (part zs k)) := hown
      have HB : Hid (Below w.heap.size w wr) := hbe
      clear hown hbe
      go_wp2
      go_roundw
      case rel =>
        refine ⟨k + 1, by omega, by go_num, ?_, ?_⟩
        · rw [← part_set zs k hlt, ← HZ.out]; exact (HO.out.stored k _).1
        · exact HB.out.setCell (Nat.le_refl _) _
      case measure => simp [intOf]; omega
    · have hke : Hid (k = zs.length) := by show _ = _; omega
      have HO : Hid (wr.ownsRow w.heap.size 3 1 (.slice (some ⟨w.heap.size, 0, none⟩) zs.length zs.length) zs.length (zs.map (Value.int .i64))) := by
        show World.ownsRow _ _ _ _ _ _ _
        rw [← part_all, ← hke.out]; rw [hke.out] at hown ⊢; exact hown
      clear hown
      go_wp2
      go_ret
      exact ⟨rfl, HO.out, hbe⟩

end Go.Proofs.YtogfpnenoeonoaaDoor

namespace Go.Proofs.YtogfpnenoeonoaaDoor
open Go.RowKit

theorem bcell {W w1 : World} (hb : Below W.heap.size W w1) : (∀ b o, b < W.heap.size → w1.cell? ⟨b, o, none⟩ = W.cell? ⟨b, o, none⟩) ∧ (∀ b o, b < W.heap.size → w1.frozen? ⟨b, o, none⟩ = W.frozen? ⟨b, o, none⟩) :=
  ⟨fun b o h => hb.cell (p := ⟨b, o, none⟩) h, fun b o h => hb.frozen (p := ⟨b, o, none⟩) h⟩

theorem szRec_any (k t : Int) (ao : Option Addr) (len cap : Nat) (left : Int) (w : World) (hl : (len : Int) ≤ 9223372036854775807) (h0 : 0 ≤ left) (h1 : left ≤ 1048576) :
    Calls Tryd.prog 68 #[.agg #[.int .i64 k, .int .i64 t, .slice ao len cap], .int .i64 left] w fun e w' => e = .returned (.int .i64 (if left - len < 0 then -1 else left - len)) ∧ Below w.heap.size w w' := by
  have hs := szInts_any ao len cap left
  by_cases h : left - (len : Int) < 0
  · rw [if_pos h]
    have HS : Hid (∀ w, Calls Tryd.prog 79 #[.slice ao len cap, .int .i64 left] w fun e w' => e = .returned (.int .i64 (-1)) ∧ w' = w) := fun w => by have := hs w hl h0 h1; rw [if_pos h] at this; exact this
    clear hs
    go_enter Tryd.func68, Tryd.ntmps68
    go_wp2_with (go_at_call 79; refine (HS.out _).mono ?_; rintro e w' ⟨rfl, rfl⟩)
    go_ret
    exact ⟨rfl, (Below.refl _ _).alloc (Nat.le_refl _) _⟩
  · rw [if_neg h]
    have HS : Hid (∀ w, Calls Tryd.prog 79 #[.slice ao len cap, .int .i64 left] w fun e w' => e = .returned (.int .i64 (left - len)) ∧ w' = w) := fun w => by have := hs w hl h0 h1; rw [if_neg h] at this; exact this
    clear hs
    go_enter Tryd.func68, Tryd.ntmps68
    go_wp2_with (go_at_call 79; refine (HS.out _).mono ?_; rintro e w' ⟨rfl, rfl⟩)
    go_ret
    exact ⟨rfl, (Below.refl _ _).alloc (Nat.le_refl _) _⟩

theorem size3 (w : World) (o1 o2 o3 : Obj) : (((w.alloc o1).alloc o2).alloc o3).heap.size = w.heap.size + 3 := by simp
theorem below3 (w : World) (o1 o2 o3 : Obj) : Below w.heap.size w (((w.alloc o1).alloc o2).alloc o3) :=
  (((Below.refl _ _).alloc (Nat.le_refl _) _).alloc (by simp) _).alloc (by simp; omega) _
theorem toInts3 (v : Value) (zs : List Int) (w : World) (o1 o2 o3 : Obj) (hv : Ints w v zs) (hl : zs.length ≤ 1048576) :
    Calls Tryd.prog 80 #[v] (((w.alloc o1).alloc o2).alloc o3) fun e w' => e = .returned (.slice (some ⟨w.heap.size + 3, 0, none⟩) zs.length zs.length) ∧
      w'.ownsRow (w.heap.size + 3) 3 1 (.slice (some ⟨w.heap.size + 3, 0, none⟩) zs.length zs.length) zs.length (zs.map (Value.int .i64)) ∧ Below (w.heap.size + 3) (((w.alloc o1).alloc o2).alloc o3) w' := by
  have h := toInts_any v zs (((w.alloc o1).alloc o2).alloc o3) (hv.later (below3 w o1 o2 o3) (Nat.le_refl _)) hl
  rw [size3] at h
  exact h

set_option maxHeartbeats 1000000 in
theorem toRec_any (k t : Int) (v : Value) (zs : List Int) (w : World) (hv : Ints w v zs) (hl : zs.length ≤ 1048576) :
    Calls Tryd.prog 70 #[.agg #[.int .i64 k, .int .i64 t, v]] w fun e w' => e = .returned (.agg #[.int .i64 k, .int .i64 t, .slice (some ⟨w.heap.size + 3, 0, none⟩) zs.length zs.length]) ∧
      w'.ownsRow (w.heap.size + 3) 3 1 (.slice (some ⟨w.heap.size + 3, 0, none⟩) zs.length zs.length) zs.length (zs.map (Value.int .i64)) ∧ Below w.heap.size w w' := by
  have HV : Hid (Ints w v zs) := hv
  clear hv
  go_enter Tryd.func70, Tryd.ntmps70
  go_wp2_with fail
  refine (toInts3 v zs w _ _ _ HV.out hl).mono ?_
  rintro e w1 ⟨rfl, hown, hb⟩
  have hc : ∀ b o, b < w.heap.size + 3 → w1.cell? ⟨b, o, none⟩ = _ := fun b o h => hb.cell (p := ⟨b, o, none⟩) h
  have hf : ∀ b o, b < w.heap.size + 3 → w1.frozen? ⟨b, o, none⟩ = _ := fun b o h => hb.frozen (p := ⟨b, o, none⟩) h
  have hz : w.heap.size + 3 ≤ w1.heap.size := by have := hb.size; rw [size3] at this; exact this
  have HO : Hid (w1.ownsRow (w.heap.size + 3) 3 1 (.slice (some ⟨w.heap.size + 3, 0, none⟩) zs.length zs.length) zs.length (zs.map (Value.int .i64))) := hown
  have HB : Hid (Below w.heap.size w w1) := (below3 w _ _ _).trans (hb.mono (by omega))
  clear hown hb
  go_wp2
  refine bodyPost_ret (v := .agg #[.int .i64 k, .int .i64 t, .slice (some ⟨w.heap.size + 3, 0, none⟩) zs.length zs.length]) (by simp [results, Tryd.results70, go_sem, hc]) rfl ⟨rfl, ?_, ?_⟩
  · exact ownsRow_setCell_below (ownsRow_setCell_below (ownsRow_setCell_below (ownsRow_setCell_below HO.out (by simp) _) (by simp) _) (by simp) _) (by simp) _
  · exact (((HB.out.setCell (by simp; omega) _).setCell (by simp) _).setCell (by simp) _).setCell (by simp) _

set_option maxHeartbeats 1000000 in
theorem eqInts_any (v1 v2 : Value) (zs : List Int) (w : World) (h1 : Ints w v1 zs) (h2 : Ints w v2 zs) (hl : zs.length ≤ 1048576) :
    Calls Tryd.prog 62 #[v1, v2] w fun e w' => e = .returned (.bool true) ∧ Below w.heap.size w w' := by
  rcases h1 with ⟨rfl, ao, cap, rfl, -⟩ | ⟨b, off, cap, rfl, hz, hc⟩
  · obtain ⟨ao2, cap2, rfl⟩ := h2.shape
    clear h2
    go_enter Tryd.func62, Tryd.ntmps62
    go_wp2
    refine wp_loop_rounds 1 ?_
    rw [rounds_succ]
    go_wp2
    go_ret
    exact ⟨rfl, Below.refl _ _⟩
  rcases h2 with ⟨h, _⟩ | ⟨b2, off2, cap2, rfl, _, hc2⟩
  · exact absurd h hz
  have HC : Hid (∀ k, k < zs.length → w.cell? ⟨b, off + k, none⟩ = some (.int .i64 (zs.getD k 0))) := hc
  have HC2 : Hid (∀ k, k < zs.length → w.cell? ⟨b2, off2 + k, none⟩ = some (.int .i64 (zs.getD k 0))) := hc2
  have hzl : 0 < zs.length := List.length_pos_iff.2 hz
  have hbw : b < w.heap.size := World.block_lt_of_cell? _ _ (hc 0 hzl)
  have hbw2 : b2 < w.heap.size := World.block_lt_of_cell? _ _ (hc2 0 hzl)
  clear hc hc2 hz
  go_enter Tryd.func62, Tryd.ntmps62
  go_wp2
  go_loopw [5] (fun i wr => ∃ k : Nat, k ≤ zs.length ∧ i = .int .i64 k ∧ Below w.heap.size w wr) (fun i _ => zs.length - (intOf i).toNat)
  case atStart => exact ⟨0, Nat.zero_le _, rfl, Below.refl _ _⟩
  case round =>
    obtain ⟨k, hk, rfl, hbe⟩ := hrel
    by_cases hlt : k < zs.length
    · obtain ⟨z, HZ⟩ : ∃ z, Hid (z = zs.getD k 0) := ⟨_, rfl⟩
      have hck : wr.cell? ⟨b, off + k, none⟩ = some (.int .i64 z) := by rw [HZ.out, hbe.cell (p := ⟨b, off + k, none⟩) hbw]; exact HC.out k hlt
      have hck2 : wr.cell? ⟨b2, off2 + k, none⟩ = some (.int .i64 z) := by rw [HZ.out, hbe.cell (p := ⟨b2, off2 + k, none⟩) hbw2]; exact HC2.out k hlt
      have hli : (k : Int) < (zs.length : Int) := by omega
      have HB : Hid (Below w.heap.size w wr) := hbe
      clear hbe
      go_wp2
      go_quiet (fail)
      go_wp2
      go_roundw
      case rel => exact ⟨k + 1, by omega, by go_num, below_drewN HB.out _⟩
      case measure => simp [intOf]; omega
    · go_wp2
      go_ret
      exact ⟨rfl, hbe⟩

theorem below2 (w : World) (o1 o2 : Obj) : Below w.heap.size w ((w.alloc o1).alloc o2) :=
  ((Below.refl _ _).alloc (Nat.le_refl _) _).alloc (by simp) _
theorem size2 (w : World) (o1 o2 : Obj) : ((w.alloc o1).alloc o2).heap.size = w.heap.size + 2 := by simp

set_option maxHeartbeats 1000000 in
theorem eqRec_any (k t : Int) (v1 v2 : Value) (zs : List Int) (w : World) (h1 : Ints w v1 zs) (h2 : Ints w v2 zs) (hl : zs.length ≤ 1048576) :
    Calls Tryd.prog 77 #[.agg #[.int .i64 k, .int .i64 t, v1], .agg #[.int .i64 k, .int .i64 t, v2]] w fun e w' => e = .returned (.bool true) ∧ Below w.heap.size w w' := by
  have H1 : Hid (∀ o1 o2, Ints ((w.alloc o1).alloc o2) v1 zs) := fun o1 o2 => h1.later (below2 w o1 o2) (Nat.le_refl _)
  have H2 : Hid (∀ o1 o2, Ints ((w.alloc o1).alloc o2) v2 zs) := fun o1 o2 => h2.later (below2 w o1 o2) (Nat.le_refl _)
  clear h1 h2
  go_enter Tryd.func77, Tryd.ntmps77
  go_wp2_with (go_at_call 62; refine (eqInts_any _ _ zs _ (H1.out _ _) (H2.out _ _) hl).mono ?_; rintro e w1 ⟨rfl, hb⟩)
  go_ret
  refine ⟨rfl, (below2 w _ _).trans (Below.mono (by assumption) ?_)⟩
  simp; omega

/-- A record lies at the head of this block. -/
def RecAt (w : World) (b : Nat) (k t : Int) (v : Value) : Prop :=
  w.cell? ⟨b, 0, none⟩ = some (.int .i64 k) ∧ w.cell? ⟨b, 1, none⟩ = some (.int .i64 t) ∧ w.cell? ⟨b, 2, none⟩ = some v
theorem RecAt.later {B : Nat} {w w' : World} {b : Nat} {k t : Int} {v : Value} (h : RecAt w b k t v) (hb : Below B w w') (hB : w.heap.size ≤ B) : RecAt w' b k t v := by
  obtain ⟨h0, h1, h2⟩ := h
  have hlt := World.block_lt_of_cell? _ _ h0
  simp at hlt
  exact ⟨by rw [← h0]; exact hb.cell (p := ⟨b, 0, none⟩) (by simp; omega), by rw [← h1]; exact hb.cell (p := ⟨b, 1, none⟩) (by simp; omega), by rw [← h2]; exact hb.cell (p := ⟨b, 2, none⟩) (by simp; omega)⟩
theorem RecAt.new (w : World) (k t : Int) (v : Value) (ty : TypeId) : RecAt (w.alloc (.cells #[.int .i64 k, .int .i64 t, v] ty)) w.heap.size k t v := by
  refine ⟨?_, ?_, ?_⟩ <;> simp

end Go.Proofs.YtogfpnenoeonoaaDoor

namespace Go.Proofs.YtogfpnenoeonoaaDoor
open Go.RowKit

theorem hide_it {p : Prop} (h : p) : Hid p := h

/-- A record as plain data: its kind, its trip, its numbers. -/
abbrev R := Int × Int × List Int

/-- A record lies at this place of a block. -/
def RecCells (w : World) (b o : Nat) (r : R) (u : Value) : Prop :=
  w.cell? ⟨b, o, none⟩ = some (.int .i64 r.1) ∧ w.cell? ⟨b, o + 1, none⟩ = some (.int .i64 r.2.1) ∧ w.cell? ⟨b, o + 2, none⟩ = some u ∧ Ints w u r.2.2

/-- The value v is a slice of just these records in the world w. -/
def Recs (w : World) (v : Value) (rs : List R) : Prop :=
  (rs = [] ∧ ∃ ao cap, v = .slice ao 0 cap) ∨
  (∃ b off cap, v = .slice (some ⟨b, off, none⟩) rs.length cap ∧ rs ≠ [] ∧ ∀ i r, rs[i]? = some r → ∃ u, RecCells w b (off + i * 3) r u)

/-- How many numbers the first k records have together; all of them, and the records. -/
def pre (rs : List R) (k : Nat) : Nat := ((rs.take k).map fun r => r.2.2.length).sum
def tot (rs : List R) : Nat := rs.length + pre rs rs.length
theorem pre_zero (rs : List R) : pre rs 0 = 0 := by simp [pre]
theorem pre_succ (rs : List R) (k : Nat) (r : R) (h : rs[k]? = some r) : pre rs (k + 1) = pre rs k + r.2.2.length := by
  have hk : k < rs.length := by
    by_cases hk : k < rs.length
    · exact hk
    · rw [List.getElem?_eq_none (by omega)] at h; cases h
  rw [List.getElem?_eq_getElem hk] at h
  simp only [Option.some.injEq] at h
  unfold pre
  rw [List.take_succ_eq_append_getElem hk, h]
  simp
theorem pre_le (rs : List R) (k : Nat) : pre rs k ≤ pre rs rs.length := by
  unfold pre
  rw [List.take_length]
  have h : (rs.map fun r : R => r.2.2.length).sum = ((rs.take k ++ rs.drop k).map fun r : R => r.2.2.length).sum := by rw [List.take_append_drop]
  rw [h, List.map_append, List.sum_append_nat]
  exact Nat.le_add_right _ _
theorem tot_len (rs : List R) : rs.length ≤ tot rs := by unfold tot; omega
theorem tot_mem (rs : List R) (r : R) (h : r ∈ rs) : r.2.2.length ≤ tot rs := by
  obtain ⟨i, hi, hr⟩ := List.mem_iff_getElem.1 h
  have h1 := pre_succ rs i r (by rw [List.getElem?_eq_getElem hi, hr])
  have h2 := pre_le rs (i + 1)
  unfold tot; omega

/-- What is left of a size behind so many; -1, if it is not enough. -/
def leftOf (left : Int) (n : Nat) : Int := if left - n < 0 then -1 else left - n
theorem leftOf_neg {left : Int} {n : Nat} (h : left - (n : Int) < 0) : leftOf left n = -1 := if_pos h
theorem leftOf_pos {left : Int} {n : Nat} (h : ¬ left - (n : Int) < 0) : leftOf left n = left - n := if_neg h

theorem RecCells.later {B : Nat} {w w' : World} {b o : Nat} {r : R} {u : Value} (h : RecCells w b o r u) (hb : Below B w w') (hB : w.heap.size ≤ B) : RecCells w' b o r u := by
  obtain ⟨h0, h1, h2, h3⟩ := h
  have hlt := World.block_lt_of_cell? _ _ h0
  simp at hlt
  exact ⟨by rw [← h0]; exact hb.cell (p := ⟨b, o, none⟩) (by simp; omega), by rw [← h1]; exact hb.cell (p := ⟨b, o + 1, none⟩) (by simp; omega), by rw [← h2]; exact hb.cell (p := ⟨b, o + 2, none⟩) (by simp; omega), h3.later hb hB⟩

theorem Recs.later {B : Nat} {w w' : World} {v : Value} {rs : List R} (h : Recs w v rs) (hb : Below B w w') (hB : w.heap.size ≤ B) : Recs w' v rs := by
  rcases h with h | ⟨b, off, cap, hv, hz, hc⟩
  · exact Or.inl h
  · refine Or.inr ⟨b, off, cap, hv, hz, fun i r hr => ?_⟩
    obtain ⟨u, hu⟩ := hc i r hr
    exact ⟨u, hu.later hb hB⟩

theorem Recs.shape {w : World} {v : Value} {rs : List R} (h : Recs w v rs) : ∃ ao cap, v = .slice ao rs.length cap := by
  rcases h with ⟨rfl, ao, cap, rfl⟩ | ⟨b, off, cap, rfl, _, _⟩
  · exact ⟨ao, cap, rfl⟩
  · exact ⟨_, cap, rfl⟩

set_option maxHeartbeats 1000000 in
theorem szRecs_any (v : Value) (rs : List R) (left : Int) (w : World) (hv : Recs w v rs) (hl : (rs.length : Int) ≤ 9223372036854775807) (hls : ∀ r ∈ rs, (r.2.2.length : Int) ≤ 9223372036854775807) (h0 : 0 ≤ left) (h1 : left ≤ 1048576) :
    Calls Tryd.prog 49 #[v, .int .i64 left] w fun e w' => e = .returned (.int .i64 (leftOf left (tot rs))) ∧ Below w.heap.size w w' := by
  have HL : Hid (∀ r ∈ rs, (r.2.2.length : Int) ≤ 9223372036854775807) := hls
  clear hls
  by_cases hg : left - (rs.length : Int) < 0
  · have HE : Hid (leftOf left (tot rs) = -1) := by exact leftOf_neg (by have := tot_len rs; omega)
    obtain ⟨ao, cap, rfl⟩ := hv.shape
    clear hv HL
    go_enter Tryd.func49, Tryd.ntmps49
    go_wp2
    go_ret
    exact ⟨by rw [HE.out]; rfl, Below.refl _ _⟩
  rcases hv with ⟨rfl, ao, cap, rfl⟩ | ⟨b, off, cap, rfl, hz, hc⟩
  · have HE : Hid (leftOf left (tot []) = left) := by show _ = _; rw [leftOf_pos (by simp [tot, pre]; omega)]; simp [tot, pre]
    clear HL hg
    go_enter Tryd.func49, Tryd.ntmps49
    go_wp2
    refine wp_loop_rounds 1 ?_
    rw [rounds_succ]
    go_wp2
    go_ret
    exact ⟨by rw [HE.out]; rfl, Below.refl _ _⟩
  · have HC : Hid (∀ i r, rs[i]? = some r → ∃ u, RecCells w b (off + i * 3) r u) := hc
    have hzl : 0 < rs.length := List.length_pos_iff.2 hz
    clear hc hz
    go_enter Tryd.func49, Tryd.ntmps49
    go_wp2
    go_loopw [1, 5] (fun l i wr => ∃ (k : Nat) (L : Int), k ≤ rs.length ∧ i = .int .i64 k ∧ l = .int .i64 L ∧ 0 ≤ L ∧ L ≤ 1048576 ∧ Hid (L = left - rs.length - pre rs k) ∧ Below w.heap.size w wr) (fun _ i _ => rs.length - (intOf i).toNat)
    case atStart => exact ⟨0, _, Nat.zero_le _, rfl, rfl, by omega, by omega, by show _ = _; rw [pre_zero]; simp, Below.refl _ _⟩
    case round =>
      obtain ⟨k, L, hk, rfl, rfl, hL0, hL1, HD, hbe⟩ := hrel
      by_cases hlt : k < rs.length
      · obtain ⟨r, hr⟩ : ∃ r, Hid (rs[k]? = some r) := ⟨rs[k], by show _ = _; simp [hlt]⟩
        have hrl : (r.2.2.length : Int) ≤ 9223372036854775807 := HL.out r (List.mem_of_getElem? hr.out)
        have HP : Hid (pre rs (k + 1) = pre rs k + r.2.2.length) := pre_succ rs k r hr.out
        have HP2 : Hid (pre rs (k + 1) ≤ pre rs rs.length) := pre_le rs (k + 1)
        obtain ⟨u, hu⟩ := HC.out k r hr.out
        obtain ⟨c0, c1, c2, hI⟩ := hu.later hbe (Nat.le_refl _)
        obtain ⟨ao, cp, rfl⟩ := hI.shape
        have HB : Hid (Below w.heap.size w wr) := hbe
        have hsz := szRec_any r.1 r.2.1 ao r.2.2.length cp L wr hrl hL0 hL1
        clear hI hu hbe
        by_cases hn : L - (r.2.2.length : Int) < 0
        · rw [if_pos hn] at hsz
          have HE : Hid (leftOf left (tot rs) = -1) := by
            exact leftOf_neg (by have := HD.out; have := HP.out; have := HP2.out; unfold tot; omega)
          have HS := hsz
          clear hsz
          go_wp2_with fail
          refine HS.mono ?_
          rintro e w2 ⟨rfl, hb2⟩
          go_wp2
          go_ret
          exact ⟨by rw [HE.out]; rfl, HB.out.trans (hb2.mono HB.out.size)⟩
        · rw [if_neg hn] at hsz
          have HS := hsz
          clear hsz
          go_wp2_with fail
          refine HS.mono ?_
          rintro e w2 ⟨rfl, hb2⟩
          have HB2 : Hid (Below w.heap.size w w2) := HB.out.trans (hb2.mono HB.out.size)
          clear hb2
          go_wp2
          go_roundw
          case rel => exact ⟨k + 1, _, by omega, by go_num, rfl, by omega, by omega, by show _ = _; have := HD.out; have := HP.out; omega, HB2.out⟩
          case measure => simp [intOf]; omega
      · have HE : Hid (leftOf left (tot rs) = L) := by
          show _ = _
          have hke : k = rs.length := by omega
          have := HD.out
          rw [hke] at this
          rw [leftOf_pos (by unfold tot; omega)]
          unfold tot; omega
        go_wp2
        go_ret
        exact ⟨by rw [HE.out]; rfl, hbe⟩

theorem szLog_any (v : Value) (rs : List R) (f : Int) (left : Int) (w : World) (hv : Recs w v rs) (hl : (rs.length : Int) ≤ 9223372036854775807) (hls : ∀ r ∈ rs, (r.2.2.length : Int) ≤ 9223372036854775807) (h0 : 0 ≤ left) (h1 : left ≤ 1048576) :
    Calls Tryd.prog 26 #[.agg #[v, .int .i64 f], .int .i64 left] w fun e w' => e = .returned (.int .i64 (leftOf left (tot rs))) ∧ Below w.heap.size w w' := by
  have HV : Hid (∀ o, Recs (w.alloc o) v rs) := fun o => hv.later ((Below.refl _ _).alloc (Nat.le_refl _) o) (Nat.le_refl _)
  have HS : Hid (∀ o, Calls Tryd.prog 49 #[v, .int .i64 left] (w.alloc o) fun e w' => e = .returned (.int .i64 (leftOf left (tot rs))) ∧ Below (w.alloc o).heap.size (w.alloc o) w') :=
    fun o => szRecs_any v rs left (w.alloc o) (HV.out o) hl hls h0 h1
  clear hv hl hls HV
  have fin : ∀ (o : Obj) (w' : World), Below (w.alloc o).heap.size (w.alloc o) w' → Below w.heap.size w w' := fun o w' h => ((Below.refl _ _).alloc (Nat.le_refl _) o).trans (h.mono (by simp))
  have FN := hide_it fin
  clear fin
  by_cases hn : left - (tot rs : Int) < 0
  · rw [leftOf_neg hn] at HS ⊢
    go_enter Tryd.func26, Tryd.ntmps26
    go_wp2_with (go_at_call 49; refine (HS.out _).mono ?_; rintro e w1 ⟨rfl, hb⟩)
    go_ret
    exact ⟨rfl, FN.out _ _ (by assumption)⟩
  · rw [leftOf_pos hn] at HS ⊢
    go_enter Tryd.func26, Tryd.ntmps26
    go_wp2_with (go_at_call 49; refine (HS.out _).mono ?_; rintro e w1 ⟨rfl, hb⟩)
    go_ret
    exact ⟨rfl, FN.out _ _ (by assumption)⟩

end Go.Proofs.YtogfpnenoeonoaaDoor

namespace Go.Proofs.YtogfpnenoeonoaaDoor
open Go.RowKit

/-- Records, each with the slice that holds its numbers, as they lie in a row. -/
def flat : List (R × Value) → List Value
  | [] => []
  | p :: t => .int .i64 p.1.1 :: .int .i64 p.1.2.1 :: p.2 :: flat t

theorem flat_length (ps : List (R × Value)) : (flat ps).length = ps.length * 3 := by
  induction ps with
  | nil => rfl
  | cons p t ih => simp only [flat, List.length_cons, ih]; omega
theorem flat_append (ps qs : List (R × Value)) : flat (ps ++ qs) = flat ps ++ flat qs := by
  induction ps with
  | nil => rfl
  | cons p t ih => simp [flat, ih]
theorem flat_get (ps : List (R × Value)) (i : Nat) (p : R × Value) (h : ps[i]? = some p) :
    (flat ps)[i * 3]? = some (.int .i64 p.1.1) ∧ (flat ps)[i * 3 + 1]? = some (.int .i64 p.1.2.1) ∧ (flat ps)[i * 3 + 2]? = some p.2 := by
  induction ps generalizing i with
  | nil => simp at h
  | cons q t ih =>
    cases i with
    | zero => simp at h; subst h; simp [flat]
    | succ i =>
      have := ih i (by simpa using h)
      rw [show (i + 1) * 3 = i * 3 + 3 by omega]
      simpa [flat] using this
theorem flat_set (ps : List (R × Value)) (k : Nat) (r : R) (u : Value) (h : k < ps.length) :
    (((flat ps).set (k * 3) (.int .i64 r.1)).set (k * 3 + 1) (.int .i64 r.2.1)).set (k * 3 + 2) u = flat (ps.set k (r, u)) := by
  induction ps generalizing k with
  | nil => simp at h
  | cons q t ih =>
    cases k with
    | zero => simp [flat]
    | succ k =>
      have := ih k (by simpa using h)
      rw [show (k + 1) * 3 = k * 3 + 3 by omega]
      simp only [flat, List.set_cons_succ]
      rw [this]

/-- A row stays as it is where nothing below a number turns, and it lies below. -/
theorem ownsRow_below {w w' : World} {base B : Nat} {e : TypeId} {size : Nat} {v : Value} {n : Nat} {xs : List Value} (h : w.ownsRow base e size v n xs) (hb : Below B w w') (hB : ∀ k, v.ownBlock = some k → k < B) : w'.ownsRow base e size v n xs := by
  obtain ⟨h1, h2⟩ := h
  refine ⟨h1, ?_⟩
  rcases h2 with h2 | ⟨g, cap, cur, hv, hg, hh, r⟩
  · exact Or.inl h2
  · exact Or.inr ⟨g, cap, cur, hv, hg, by rw [hb.block g (hB g (by rw [hv]; rfl))]; exact hh, r⟩

/-- The numbers of these records lie in rows of the call's own, from lo on and below hi, each apart from the others. -/
def Inner (w : World) (lo hi : Nat) (ps : List (R × Value)) : Prop :=
  hi ≤ w.heap.size ∧
  (∀ p ∈ ps, w.ownsRow lo 3 1 p.2 p.1.2.2.length (p.1.2.2.map (Value.int .i64)) ∧ ∀ k, p.2.ownBlock = some k → k < hi) ∧
  (∀ (i j : Nat) (p q : R × Value), ps[i]? = some p → ps[j]? = some q → i ≠ j → p.2.ownBlock = none ∨ p.2.ownBlock ≠ q.2.ownBlock)

theorem Inner.nil (w : World) (lo hi : Nat) (h : hi ≤ w.heap.size) : Inner w lo hi [] :=
  ⟨h, fun p hp => by simp at hp, fun i j p q hp => by simp at hp⟩

theorem Inner.below {w w' : World} {lo hi B : Nat} {ps : List (R × Value)} (h : Inner w lo hi ps) (hb : Below B w w') (hB : hi ≤ B) : Inner w' lo hi ps :=
  ⟨Nat.le_trans h.1 hb.size, fun p hp => ⟨ownsRow_below (h.2.1 p hp).1 hb (fun k hk => by have := (h.2.1 p hp).2 k hk; omega), (h.2.1 p hp).2⟩, h.2.2⟩

theorem Inner.mono {w : World} {lo hi hi' : Nat} {ps : List (R × Value)} (h : Inner w lo hi ps) (h1 : hi ≤ hi') (h2 : hi' ≤ w.heap.size) : Inner w lo hi' ps :=
  ⟨h2, fun p hp => ⟨(h.2.1 p hp).1, fun k hk => by have := (h.2.1 p hp).2 k hk; omega⟩, h.2.2⟩

/-- A row of records lies in no row of numbers. -/
theorem Inner.apart {w : World} {lo hi : Nat} {ps : List (R × Value)} (h : Inner w lo hi ps) {g : Nat} {cur : Array Value} {ty : TypeId} {fz : Nat × Nat} (hg : w.heap[g]? = some (.cells cur ty fz)) (ht : ty ≠ 3) : ∀ p ∈ ps, p.2.ownBlock ≠ some g := by
  intro p hp e
  rcases (h.2.1 p hp).1.2 with ⟨hv, _⟩ | ⟨g', cap, cur', hv, _, hh, _⟩
  · rw [hv] at e; simp [Value.ownBlock] at e
  · rw [hv] at e
    simp [Value.ownBlock] at e
    subst e
    rw [hg] at hh
    simp at hh
    exact ht hh.2.1

theorem Inner.kept {w w' : World} {lo hi : Nat} {row : Option Nat} {ps : List (R × Value)} (h : Inner w lo hi ps) (hg : w.grownBy w' row) (hne : ∀ p ∈ ps, p.2.ownBlock = none ∨ p.2.ownBlock ≠ row) : Inner w' lo hi ps :=
  ⟨Nat.le_trans h.1 hg.size, fun p hp => ⟨(h.2.1 p hp).1.kept hg (hne p hp), (h.2.1 p hp).2⟩, h.2.2⟩

/-- One more record, its numbers in a row that lies behind all. -/
theorem Inner.snoc {w : World} {lo hi hi' : Nat} {ps : List (R × Value)} {p : R × Value} (h : Inner w lo hi ps) (h1 : hi ≤ hi') (h2 : hi' ≤ w.heap.size)
    (ho : w.ownsRow lo 3 1 p.2 p.1.2.2.length (p.1.2.2.map (Value.int .i64))) (hp : ∀ k, p.2.ownBlock = some k → hi ≤ k ∧ k < hi') : Inner w lo hi' (ps ++ [p]) := by
  refine ⟨h2, fun q hq => ?_, fun i j q r hq hr hij => ?_⟩
  · rcases List.mem_append.1 hq with hq | hq
    · exact ⟨(h.2.1 q hq).1, fun k hk => by have := (h.2.1 q hq).2 k hk; omega⟩
    · simp at hq; subst hq; exact ⟨ho, fun k hk => (hp k hk).2⟩
  · by_cases hi1 : i < ps.length
    · rw [List.getElem?_append_left hi1] at hq
      by_cases hj1 : j < ps.length
      · rw [List.getElem?_append_left hj1] at hr
        exact h.2.2 i j q r hq hr hij
      · rw [List.getElem?_append_right (by omega)] at hr
        have hj0 : j - ps.length = 0 := by
          by_cases e : j - ps.length = 0
          · exact e
          · rw [List.getElem?_eq_none (by simp; omega)] at hr; cases hr
        rw [hj0] at hr
        simp at hr
        subst hr
        cases hb : q.2.ownBlock with
        | none => exact Or.inl rfl
        | some k =>
          refine Or.inr fun e => ?_
          have h3 := (h.2.1 q (List.mem_of_getElem? hq)).2 k hb
          have h4 := (hp k e.symm).1
          omega
    · rw [List.getElem?_append_right (by omega)] at hq
      have hi0 : i - ps.length = 0 := by
        by_cases e : i - ps.length = 0
        · exact e
        · rw [List.getElem?_eq_none (by simp; omega)] at hq; cases hq
      rw [hi0] at hq
      simp at hq
      subst hq
      by_cases hj1 : j < ps.length
      · rw [List.getElem?_append_left hj1] at hr
        cases hb : p.2.ownBlock with
        | none => exact Or.inl rfl
        | some k =>
          refine Or.inr fun e => ?_
          have h3 := (h.2.1 r (List.mem_of_getElem? hr)).2 k e.symm
          have h4 := (hp k hb).1
          omega
      · rw [List.getElem?_append_right (by omega)] at hr
        have hj0 : j - ps.length = 0 := by
          by_cases e : j - ps.length = 0
          · exact e
          · rw [List.getElem?_eq_none (by simp; omega)] at hr; cases hr
        omega

/-- A list of records of the call's own: its row, and the rows of its numbers. -/
def OwnRecs (w : World) (lo hi : Nat) (v : Value) (ps : List (R × Value)) : Prop :=
  w.ownsRow lo 79 3 v ps.length (flat ps) ∧ (∀ k, v.ownBlock = some k → k < hi) ∧ Inner w lo hi ps

theorem OwnRecs.below {w w' : World} {lo hi B : Nat} {v : Value} {ps : List (R × Value)} (h : OwnRecs w lo hi v ps) (hb : Below B w w') (hB : hi ≤ B) : OwnRecs w' lo hi v ps :=
  ⟨ownsRow_below h.1 hb (fun k hk => by have := h.2.1 k hk; omega), h.2.1, h.2.2.below hb hB⟩

theorem ints_of_any {w : World} {base : Nat} {v : Value} {zs : List Int} (h : w.ownsRow base 3 1 v zs.length (zs.map (Value.int .i64))) : Ints w v zs := by
  rcases h.2 with ⟨hv, hn⟩ | ⟨g, cap, cur, hv, _⟩
  · have : zs = [] := List.length_eq_zero_iff.1 hn
    exact Or.inl ⟨this, none, 0, hv, fun _ => rfl⟩
  · subst hv; exact ints_of_row h

theorem OwnRecs.recs {w : World} {lo hi : Nat} {v : Value} {ps : List (R × Value)} (h : OwnRecs w lo hi v ps) : Recs w v (ps.map (·.1)) := by
  obtain ⟨h1, _, h3⟩ := h
  by_cases hp : ps = []
  · subst hp
    rcases h1.2 with ⟨hv, _⟩ | ⟨g, cap, cur, hv, _⟩
    · exact Or.inl ⟨rfl, none, 0, hv⟩
    · exact Or.inl ⟨rfl, _, cap, hv⟩
  · rcases h1.2 with ⟨_, hn⟩ | ⟨g, cap, cur, hv, _⟩
    · exact absurd (List.length_eq_zero_iff.1 hn) hp
    · subst hv
      refine Or.inr ⟨g, 0, cap, by simp, by simpa using hp, fun i r hr => ?_⟩
      rw [List.getElem?_map] at hr
      cases hpi : ps[i]? with
      | none => rw [hpi] at hr; cases hr
      | some p =>
        rw [hpi] at hr
        simp at hr
        subst hr
        have hil : i < ps.length := by
          by_cases e : i < ps.length
          · exact e
          · rw [List.getElem?_eq_none (by omega)] at hpi; cases hpi
        obtain ⟨f0, f1, f2⟩ := flat_get ps i p hpi
        refine ⟨p.2, ?_, ?_, ?_, ints_of_any (h3.2.1 p (List.mem_of_getElem? hpi)).1⟩
        · rw [Nat.zero_add, h1.cellAt _ (by omega)]; exact f0
        · rw [Nat.zero_add, h1.cellAt _ (by omega)]; exact f1
        · rw [Nat.zero_add, h1.cellAt _ (by omega)]; exact f2

end Go.Proofs.YtogfpnenoeonoaaDoor

namespace Go.Proofs.YtogfpnenoeonoaaDoor
open Go.ChangeShapes Go.WideShapes Go.ChangeAt Go.WideMaps Go.WideElems Go.RowKit Go.Joins

theorem cellsRecL : Tryd.prog.cellsOf 94 = 3 := by kernel_rfl
theorem cellsLogL : Tryd.prog.cellsOf 24 = 2 := by kernel_rfl
theorem cellsInts : Tryd.prog.cellsOf 68 = 1 := by kernel_rfl

section
variable {H : Type} {enc : TypeId × Value → H} {W : World}

theorem ints_of_trod {fuel : Nat} {c : Value} {y : DataW H × List MemPlace} (h : DataW.trod enc Tryd.prog W 0 (fun _ => true) true fuel 68 [c] = some y) :
    ∃ zs : List Int, Ints W c zs ∧ (zs.length : Int) ≤ 9223372036854775807 := by
  rcases open_ints Tryd.underlying68 Tryd.underlying3 cellsInt h with ⟨hcs, hx⟩ | ⟨a, len, cap, zs, hcs, _, hl, hm, hz, hx, hcell, hwz⟩
  · simp at hcs
    subst hcs
    exact ⟨[], Or.inl ⟨rfl, _, _, rfl, fun _ => rfl⟩, by simp⟩
  · simp at hcs
    subst hcs
    simp only [if_pos] at hz
    have hlen : (zs.take len).length = len := by simp; omega
    refine ⟨zs.take len, ?_, by unfold maxLen at hm; omega⟩
    by_cases h0 : len = 0
    · subst h0
      exact Or.inl ⟨by simp, _, _, rfl, fun h => by cases h⟩
    · obtain ⟨b, off, rfl, hc⟩ := ints_at hcell (by omega)
      refine Or.inr ⟨b, off, cap, by rw [hlen], by intro e; rw [e] at hlen; simp at hlen; omega, fun j hj => ?_⟩
      rw [hc j (by omega)]
      rw [hlen] at hj
      simp [List.getD_eq_getElem?_getD, hj]

set_option maxRecDepth 100000 in
theorem rec_of_trod {fuel : Nat} {b o : Nat} {cs : List Value} {y : DataW H × List MemPlace} (hc : W.cells? 0 ⟨b, o, none⟩ 3 = some cs) (h : DataW.trod enc Tryd.prog W 0 (fun _ => true) true fuel 94 cs = some y) :
    ∃ (r : R) (u : Value), RecCells W b o r u ∧ (r.2.2.length : Int) ≤ 9223372036854775807 := by
  obtain ⟨y0, y1, y2, n, _, hl, h0, h1, h2⟩ := Deep.trod_struct3 Tryd.underlying94 h
  rw [cellsRecL] at hl
  match cs, hl with
  | [c0, c1, c2], _ =>
    simp only [cellsInt, cellsInts] at h0 h1 h2
    obtain ⟨k, e0, _, _⟩ := DataW.trod_int Tryd.underlying3 h0
    obtain ⟨t, e1, _, _⟩ := DataW.trod_int Tryd.underlying3 h1
    simp at e0 e1
    subst e0 e1
    obtain ⟨zs, hI, hz⟩ := ints_of_trod (c := c2) (y := y2) (by simpa using h2)
    obtain ⟨_, _, hcs⟩ := World.cells?_some hc
    refine ⟨(k, t, zs), c2, ⟨?_, ?_, ?_, hI⟩, hz⟩
    · simpa [Addr.add] using hcs 0 (by omega)
    · simpa [Addr.add] using hcs 1 (by omega)
    · simpa [Addr.add] using hcs 2 (by omega)

theorem recs_of_trod {fuel : Nat} {c : Value} {y : DataW H × List MemPlace} (h : DataW.trod enc Tryd.prog W 0 (fun _ => true) true fuel 22 [c] = some y) :
    ∃ rs : List R, Recs W c rs ∧ (rs.length : Int) ≤ 9223372036854775807 ∧ ∀ r ∈ rs, (r.2.2.length : Int) ≤ 9223372036854775807 := by
  rcases Deep.open_slice Tryd.underlying22 h with ⟨hcs, hx⟩ | ⟨a, len, cap, m, n, D, Pq, hcs, _, hl, hm, hmm, hx, hel⟩
  · simp at hcs
    subst hcs
    exact ⟨[], Or.inl ⟨rfl, _, _, rfl⟩, by simp, fun r hr => by simp at hr⟩
  · simp at hcs
    subst hcs
    simp only [if_pos] at hmm
    rw [cellsRecL] at hel
    by_cases h0 : len = 0
    · subst h0
      exact ⟨[], Or.inl ⟨rfl, _, _, rfl⟩, by simp, fun r hr => by simp at hr⟩
    · obtain ⟨b, off, spot⟩ := a
      have hspot : spot = none := by
        obtain ⟨cs', hc, _⟩ := hel 0 (by omega)
        obtain ⟨_, hlen', hcs⟩ := World.cells?_some hc
        have h1 := hcs 0 (by omega)
        rw [List.getElem?_eq_getElem (by omega)] at h1
        simpa [Addr.add] using World.cell?_spot h1
      subst hspot
      have each : ∀ i : Nat, ∃ p : R × Value, i < len → RecCells W b (off + i * 3) p.1 p.2 ∧ (p.1.2.2.length : Int) ≤ 9223372036854775807 := fun i => by
        by_cases hi : i < len
        · obtain ⟨cs', hc, ht⟩ := hel i (by omega)
          rw [add_plain] at hc
          obtain ⟨r, u, h1, h2⟩ := rec_of_trod hc ht
          exact ⟨(r, u), fun _ => ⟨h1, h2⟩⟩
        · exact ⟨((0, 0, []), .slice none 0 0), fun h => absurd h hi⟩
      obtain ⟨F, hF⟩ := Classical.axiomOfChoice each
      have hlen : ((List.range len).map fun i => (F i).1).length = len := by simp
      refine ⟨(List.range len).map fun i => (F i).1, Or.inr ⟨b, off, cap, by rw [hlen], by intro e; rw [e] at hlen; simp at hlen; omega, fun i r hr => ?_⟩, by rw [hlen]; unfold maxLen at hm; omega, fun r hr => ?_⟩
      · have hi : i < len := by
          by_cases e : i < len
          · exact e
          · rw [List.getElem?_eq_none (by rw [hlen]; omega)] at hr; cases hr
        simp [hi] at hr
        subst hr
        exact ⟨(F i).2, (hF i hi).1⟩
      · simp at hr
        obtain ⟨i, hi, rfl⟩ := hr
        exact (hF i hi).2

set_option maxRecDepth 100000 in
/-- A log that came in. -/
theorem open_log {base : Nat} {v : Value} {d : DataW H} {p : List MemPlace} (hval : Value.okWide Tryd.prog W .any base 24 v) (h : DataW.Trod enc Tryd.prog W 0 (fun _ => true) true 24 v d p) :
    ∃ (u : Value) (f : Int) (rs : List R), v = .agg #[u, .int .i64 f] ∧ Recs W u rs ∧ (rs.length : Int) ≤ 9223372036854775807 ∧ ∀ r ∈ rs, (r.2.2.length : Int) ≤ 9223372036854775807 := by
  obtain ⟨c0, c1, y0, y1, m, rfl, rfl, rfl, hy0, hy1⟩ := open_agg2 Tryd.underlying24 (by kernel_rfl) cellsLogL hval h
  obtain ⟨f, e1, _, _⟩ := DataW.trod_int Tryd.underlying3 hy1
  simp at e1
  subst e1
  obtain ⟨rs, h1, h2, h3⟩ := recs_of_trod hy0
  exact ⟨_, f, rs, rfl, h1, h2, h3⟩

set_option maxRecDepth 100000 in
/-- A record that came in. -/
theorem open_rec {base : Nat} {v : Value} {d : DataW H} {p : List MemPlace} (hval : Value.okWide Tryd.prog W .any base 94 v) (h : DataW.Trod enc Tryd.prog W 0 (fun _ => true) true 94 v d p) :
    ∃ (k t : Int) (u : Value) (zs : List Int), v = .agg #[.int .i64 k, .int .i64 t, u] ∧ Ints W u zs ∧ (zs.length : Int) ≤ 9223372036854775807 := by
  obtain ⟨c0, c1, c2, y0, y1, y2, m, rfl, rfl, rfl, hy0, hy1, hy2⟩ := open_agg3 Tryd.underlying94 (by kernel_rfl) cellsRecL hval h
  obtain ⟨k, e0, _, _⟩ := DataW.trod_int Tryd.underlying3 hy0
  obtain ⟨t, e1, _, _⟩ := DataW.trod_int Tryd.underlying3 hy1
  simp at e0 e1
  subst e0 e1
  obtain ⟨zs, h1, h2⟩ := ints_of_trod hy2
  exact ⟨k, t, _, zs, rfl, h1, h2⟩

end
end Go.Proofs.YtogfpnenoeonoaaDoor

namespace Go.Proofs.YtogfpnenoeonoaaDoor
open Go.RowKit

theorem infoRec : (Tryd.prog.info? 79).map (fun i => (i.zero, i.size, i.bytes)) = some (some (.agg #[.int .i64 0, .int .i64 0, .slice none 0 0]), 3, 40) := by kernel_rfl

def zeroP : R × Value := ((0, 0, []), .slice none 0 0)

theorem made_three (n : Nat) : (madeCells #[.int .i64 0, .int .i64 0, .slice none 0 0] (n * 3)).toList = flat (List.replicate n zeroP) := by
  apply List.ext_getElem?
  intro i
  by_cases h : i < n * 3
  · have hq : i / 3 < n := by omega
    have hget : (List.replicate n zeroP)[i / 3]? = some zeroP := by simp [hq]
    obtain ⟨f0, f1, f2⟩ := flat_get _ _ _ hget
    have hl : (madeCells #[.int .i64 0, .int .i64 0, .slice none 0 0] (n * 3)).toList[i]? = some (#[Value.int .i64 0, .int .i64 0, .slice none 0 0][i % 3]!) := by
      simp [madeCells, h]
    rw [hl]
    rcases (show i % 3 = 0 ∨ i % 3 = 1 ∨ i % 3 = 2 by omega) with h0 | h0 | h0
    · rw [show i / 3 * 3 = i by omega] at f0; rw [f0, h0]; rfl
    · rw [show i / 3 * 3 + 1 = i by omega] at f1; rw [f1, h0]; rfl
    · rw [show i / 3 * 3 + 2 = i by omega] at f2; rw [f2, h0]; rfl
  · rw [List.getElem?_eq_none (by simp [madeCells]; omega), List.getElem?_eq_none (by rw [flat_length]; simp; omega)]

theorem ownsRow_base {w : World} {base base' : Nat} {e : TypeId} {size : Nat} {v : Value} {n : Nat} {xs : List Value} (h : w.ownsRow base e size v n xs) (hb : base' ≤ base) : w.ownsRow base' e size v n xs := by
  obtain ⟨h1, h2⟩ := h
  refine ⟨h1, ?_⟩
  rcases h2 with h2 | ⟨g, cap, cur, hv, hg, r⟩
  · exact Or.inl h2
  · exact Or.inr ⟨g, cap, cur, hv, by omega, r⟩

/-- The value v is a list of just these records that the call itself has made, from lo on. -/
def Made (w : World) (lo : Nat) (v : Value) (rs : List R) : Prop := ∃ ps : List (R × Value), ps.map (·.1) = rs ∧ OwnRecs w lo w.heap.size v ps

theorem Made.recs {w : World} {lo : Nat} {v : Value} {rs : List R} (h : Made w lo v rs) : Recs w v rs := by
  obtain ⟨ps, rfl, ho⟩ := h
  exact ho.recs

/-- Three stores into a row of records. -/
theorem stored3 {w : World} {base g n cap : Nat} {ps : List (R × Value)} (h : w.ownsRow base 79 3 (.slice (some ⟨g, 0, none⟩) n cap) n (flat ps)) (k : Nat) (hk : k < ps.length) (r : R) (u : Value) :
    (((w.setCell ⟨g, k * 3, none⟩ (.int .i64 r.1)).setCell ⟨g, k * 3 + 1, none⟩ (.int .i64 r.2.1)).setCell ⟨g, k * 3 + 2, none⟩ u).ownsRow base 79 3 (.slice (some ⟨g, 0, none⟩) n cap) n (flat (ps.set k (r, u))) ∧
    w.grownBy (((w.setCell ⟨g, k * 3, none⟩ (.int .i64 r.1)).setCell ⟨g, k * 3 + 1, none⟩ (.int .i64 r.2.1)).setCell ⟨g, k * 3 + 2, none⟩ u) (some g) := by
  have a1 := h.stored (k * 3) (.int .i64 r.1)
  have a2 := a1.1.stored (k * 3 + 1) (.int .i64 r.2.1)
  have a3 := a2.1.stored (k * 3 + 2) u
  rw [flat_set ps k r u hk] at a3
  refine ⟨a3.1, ?_⟩
  refine ⟨rfl, rfl, rfl, by simp, fun j hj hne => ?_⟩
  rw [a3.2.block j (by simpa using hj) hne, a2.2.block j (by simpa using hj) hne, a1.2.block j hj hne]

theorem row_block {w : World} {base : Nat} {e : TypeId} {size g n cap : Nat} {xs : List Value} (h : w.ownsRow base e size (.slice (some ⟨g, 0, none⟩) n cap) n xs) : ∃ cur, w.heap[g]? = some (.cells cur e (0, 0)) := by
  rcases h.2 with ⟨h', _⟩ | ⟨g', cap', cur, h', _, hg, _⟩
  · simp at h'
  · simp only [Value.slice.injEq, Option.some.injEq, Addr.mk.injEq, and_true, true_and] at h'
    obtain ⟨rfl, rfl⟩ := h'
    exact ⟨cur, hg⟩

theorem rep_set (ps : List (R × Value)) (m : Nat) (p : R × Value) : (ps ++ List.replicate (m + 1) zeroP).set ps.length p = (ps ++ [p]) ++ List.replicate m zeroP := by
  rw [List.set_append_right _ _ (Nat.le_refl _), Nat.sub_self, List.replicate_succ]
  simp

/-- What one round of a copy does. -/
theorem toRecs_step {wr w2 : World} {W n k : Nat} {ps : List (R × Value)} {r : R} (hk : ps.length = k) (hkn : k < n)
    (hrow : wr.ownsRow W 79 3 (.slice (some ⟨W, 0, none⟩) n n) n (flat (ps ++ List.replicate (n - k) zeroP))) (hin : Inner wr W wr.heap.size ps) (hWr : W < wr.heap.size)
    (hb : Below wr.heap.size wr w2) (hown : w2.ownsRow (wr.heap.size + 3) 3 1 (.slice (some ⟨wr.heap.size + 3, 0, none⟩) r.2.2.length r.2.2.length) r.2.2.length (r.2.2.map (Value.int .i64))) :
    Hid ((((w2.setCell ⟨W, k * 3, none⟩ (.int .i64 r.1)).setCell ⟨W, k * 3 + 1, none⟩ (.int .i64 r.2.1)).setCell ⟨W, k * 3 + 2, none⟩ (.slice (some ⟨wr.heap.size + 3, 0, none⟩) r.2.2.length r.2.2.length)).ownsRow W 79 3 (.slice (some ⟨W, 0, none⟩) n n) n (flat ((ps ++ [(r, .slice (some ⟨wr.heap.size + 3, 0, none⟩) r.2.2.length r.2.2.length)]) ++ List.replicate (n - (k + 1)) zeroP)) ∧
    Inner (((w2.setCell ⟨W, k * 3, none⟩ (.int .i64 r.1)).setCell ⟨W, k * 3 + 1, none⟩ (.int .i64 r.2.1)).setCell ⟨W, k * 3 + 2, none⟩ (.slice (some ⟨wr.heap.size + 3, 0, none⟩) r.2.2.length r.2.2.length)) W
      (((w2.setCell ⟨W, k * 3, none⟩ (.int .i64 r.1)).setCell ⟨W, k * 3 + 1, none⟩ (.int .i64 r.2.1)).setCell ⟨W, k * 3 + 2, none⟩ (.slice (some ⟨wr.heap.size + 3, 0, none⟩) r.2.2.length r.2.2.length)).heap.size (ps ++ [(r, .slice (some ⟨wr.heap.size + 3, 0, none⟩) r.2.2.length r.2.2.length)])) := by
  have row2 := ownsRow_below hrow hb (fun j hj => by simp [Value.ownBlock] at hj; omega)
  have in2 := hin.below hb (Nat.le_refl _)
  obtain ⟨cur2, hc2⟩ := row_block hown
  have hlt : wr.heap.size + 3 < w2.heap.size := by
    by_cases h : wr.heap.size + 3 < w2.heap.size
    · exact h
    · rw [Array.getElem?_eq_none (by omega)] at hc2; cases hc2
  have in3 : Inner w2 W w2.heap.size (ps ++ [(r, .slice (some ⟨wr.heap.size + 3, 0, none⟩) r.2.2.length r.2.2.length)]) :=
    in2.snoc hb.size (Nat.le_refl _) (ownsRow_base hown (by omega)) (fun j hj => by simp [Value.ownBlock] at hj; omega)
  have st := stored3 row2 k (by simp; omega) r (.slice (some ⟨wr.heap.size + 3, 0, none⟩) r.2.2.length r.2.2.length)
  obtain ⟨cur, hcur⟩ := row_block row2
  refine ⟨?_, ?_⟩
  · have h := st.1
    rw [show n - k = (n - (k + 1)) + 1 by omega, ← hk, rep_set] at h
    rw [hk] at h
    rw [← hk, hk]
    exact h
  · have h := in3.kept st.2 (fun p hp => by
      have := in3.apart hcur (by decide) p hp
      exact Or.inr this)
    exact h.mono (by simp) (Nat.le_refl _)

set_option maxHeartbeats 1000000 in
theorem toRecs_any (v : Value) (rs : List R) (w : World) (hv : Recs w v rs) (hl : tot rs ≤ 1048576) :
    Calls Tryd.prog 54 #[v] w fun e w' => e = .returned (.slice (some ⟨w.heap.size, 0, none⟩) rs.length rs.length) ∧
      Made w' w.heap.size (.slice (some ⟨w.heap.size, 0, none⟩) rs.length rs.length) rs ∧ Below w.heap.size w w' := by
  obtain ⟨i0, hi, hz0, hz1, hz2⟩ := info_parts infoRec
  have hlen := tot_len rs
  have HM : Hid (∀ r ∈ rs, r.2.2.length ≤ 1048576) := fun r hr => Nat.le_trans (tot_mem rs r hr) hl
  have hbytes : i0.bytes * rs.length ≤ 281474976710656 := by rw [hz2]; omega
  have hmax : rs.length ≤ maxLen := by unfold maxLen; omega
  rcases hv with ⟨rfl, ao, cap, rfl⟩ | ⟨b, off, cap, rfl, hz, hc⟩
  · go_enter Tryd.func54, Tryd.ntmps54
    go_wp2_with (at_make; refine wpList_make_full _ rfl _ _ 30 rfl w.heap.size 79 i0 (.agg #[.int .i64 0, .int .i64 0, .slice none 0 0]) 3 Tryd.underlying30 hi hz0 hz1 .i64 .i64 _ _ 0 rfl rfl rfl rfl hbytes hmax (Nat.le_refl _) ?_; intro w1 hown hgrow)
    have hs : w.heap.size < w1.heap.size := by
      obtain ⟨cur, hcur⟩ := row_block hown
      by_cases h : w.heap.size < w1.heap.size
      · exact h
      · rw [Array.getElem?_eq_none (by omega)] at hcur; cases hcur
    have HM1 : Hid (Made w1 w.heap.size (.slice (some ⟨w.heap.size, 0, none⟩) 0 0) []) := ⟨[], rfl, by
      have := made_three 0
      rw [show (Value.agg #[.int .i64 0, .int .i64 0, .slice none 0 0]).cells = #[.int .i64 0, .int .i64 0, .slice none 0 0] from rfl, this] at hown
      exact hown, fun k hk => by simp [Value.ownBlock] at hk; omega, Inner.nil _ _ _ (Nat.le_refl _)⟩
    have HB1 : Hid (Below w.heap.size w w1) := (Below.refl _ _).grown hgrow (Nat.le_refl _) (fun k h => by cases h)
    clear hown hgrow
    refine wp_loop_rounds 1 ?_
    rw [rounds_succ]
    go_wp2
    go_ret
    exact ⟨rfl, HM1.out, HB1.out⟩
  have HC : Hid (∀ i r, rs[i]? = some r → ∃ u, RecCells w b (off + i * 3) r u) := hc
  have hzl : 0 < rs.length := List.length_pos_iff.2 hz
  clear hc hz
  go_enter Tryd.func54, Tryd.ntmps54
  go_wp2_with (at_make; refine wpList_make_full _ rfl _ _ 30 rfl w.heap.size 79 i0 (.agg #[.int .i64 0, .int .i64 0, .slice none 0 0]) 3 Tryd.underlying30 hi hz0 hz1 .i64 .i64 _ _ rs.length rfl rfl rfl rfl hbytes hmax (Nat.le_refl _) ?_; intro w1 hown hgrow)
  have hown0 : w1.ownsRow w.heap.size 79 3 (.slice (some ⟨w.heap.size, 0, none⟩) rs.length rs.length) rs.length (flat ([] ++ List.replicate (rs.length - 0) zeroP)) := by
    have := made_three rs.length
    rw [show (Value.agg #[.int .i64 0, .int .i64 0, .slice none 0 0]).cells = #[.int .i64 0, .int .i64 0, .slice none 0 0] from rfl, this] at hown
    exact hown
  have hbel : Below w.heap.size w w1 := (Below.refl _ _).grown hgrow (Nat.le_refl _) (fun k h => by cases h)
  clear hown hgrow
  go_loopw [4] (fun i wr => ∃ (k : Nat) (ps : List (R × Value)), k ≤ rs.length ∧ i = .int .i64 k ∧ Hid (ps.map (·.1) = rs.take k) ∧ wr.ownsRow w.heap.size 79 3 (.slice (some ⟨w.heap.size, 0, none⟩) rs.length rs.length) rs.length (flat (ps ++ List.replicate (rs.length - k) zeroP)) ∧ Inner wr w.heap.size wr.heap.size ps ∧ Below w.heap.size w wr) (fun i _ => rs.length - (intOf i).toNat)
  case atStart => exact ⟨0, [], Nat.zero_le _, rfl, rfl, hown0, Inner.nil _ _ _ (Nat.le_refl _), hbel⟩
  case round =>
    obtain ⟨k, ps, hk, rfl, HP, hown, hin, hbe⟩ := hrel
    have HPL : Hid (ps.length = k) := by
      have := congrArg List.length HP.out
      simp at this
      show _ = _; omega
    obtain ⟨cur, hcur⟩ := row_block hown
    have hws : w.heap.size < wr.heap.size := by
      by_cases h : w.heap.size < wr.heap.size
      · exact h
      · rw [Array.getElem?_eq_none (by omega)] at hcur; cases hcur
    clear hcur
    by_cases hlt : k < rs.length
    · obtain ⟨r, hr⟩ : ∃ r, Hid (rs[k]? = some r) := ⟨rs[k], by show _ = _; simp [hlt]⟩
      have hrl : r.2.2.length ≤ 1048576 := HM.out r (List.mem_of_getElem? hr.out)
      obtain ⟨u, hu⟩ := HC.out k r hr.out
      obtain ⟨c0, c1, c2, hI⟩ := hu.later hbe (Nat.le_refl _)
      have HI : Hid (Ints wr u r.2.2) := hI
      have HO : Hid (wr.ownsRow w.heap.size 79 3 (.slice (some ⟨w.heap.size, 0, none⟩) rs.length rs.length) rs.length (flat (ps ++ List.replicate (rs.length - k) zeroP))) := hown
      have HN : Hid (Inner wr w.heap.size wr.heap.size ps) := hin
      have HB : Hid (Below w.heap.size w wr) := hbe
      clear hI hu hown hin hbe
      go_wp2_with fail
      refine (toRec_any r.1 r.2.1 u r.2.2 wr HI.out hrl).mono ?_
      rintro e w2 ⟨rfl, hown2, hb2⟩
      have ST := toRecs_step HPL.out hlt HO.out HN.out hws hb2 hown2
      have row2 := ownsRow_below HO.out hb2 (fun j hj => by simp [Value.ownBlock] at hj; omega)
      have cellEx : ∀ j, j < rs.length * 3 → ∃ x, w2.cell? ⟨w.heap.size, j, none⟩ = some x := fun j hj => by
        have h1 := row2.cellAt j hj
        have h2 : j < (flat (ps ++ List.replicate (rs.length - k) zeroP)).length := by rw [row2.1]; exact hj
        exact ⟨_, by rw [h1, List.getElem?_eq_getElem h2]⟩
      obtain ⟨x0, hx0⟩ := cellEx (k * 3) (by omega)
      obtain ⟨x1, hx1⟩ := cellEx (k * 3 + 1) (by omega)
      obtain ⟨x2, hx2⟩ := cellEx (k * 3 + 2) (by omega)
      have f0 := row2.frozenAt (k * 3)
      have f1 := row2.frozenAt (k * 3 + 1)
      have f2 := row2.frozenAt (k * 3 + 2)
      have HB2 : Hid (Below w.heap.size w w2) := HB.out.trans (hb2.mono HB.out.size)
      clear cellEx row2 hb2 hown2
      go_wp2
      go_roundw
      case rel =>
        refine ⟨k + 1, ps ++ [(r, .slice (some ⟨wr.heap.size + 3, 0, none⟩) r.2.2.length r.2.2.length)], by omega, by go_num, ?_, ST.out.1, ST.out.2, ?_⟩
        · show _ = _
          have hkl : k < rs.length := by omega
          have hrk : rs[k] = r := by have := hr.out; rw [List.getElem?_eq_getElem hkl] at this; simpa using this
          rw [List.map_append, HP.out, List.take_succ_eq_append_getElem hkl, hrk]
          rfl
        · exact ((HB2.out.setCell (Nat.le_refl _) _).setCell (Nat.le_refl _) _).setCell (Nat.le_refl _) _
      case measure => simp [intOf]; omega
    · have HD : Hid (Made wr w.heap.size (.slice (some ⟨w.heap.size, 0, none⟩) rs.length rs.length) rs) := by
        have hke : k = rs.length := by omega
        refine ⟨ps, by rw [HP.out, hke, List.take_length], ?_, fun j hj => by simp [Value.ownBlock] at hj; omega, hin⟩
        rw [hke, Nat.sub_self] at hown
        simp only [List.replicate_zero, List.append_nil] at hown
        have hpl : ps.length = rs.length := by rw [HPL.out, hke]
        rw [hpl]
        exact hown
      clear hown hin
      go_wp2
      go_ret
      exact ⟨rfl, HD.out, hbe⟩

end Go.Proofs.YtogfpnenoeonoaaDoor

namespace Go.Proofs.YtogfpnenoeonoaaDoor
open Go.RowKit

theorem Made.setBelow {w : World} {lo : Nat} {v : Value} {rs : List R} (h : Made w lo v rs) {a : Addr} (ha : a.block < lo) (x : Value) : Made (w.setCell a x) lo v rs := by
  obtain ⟨ps, hp, h1, h2, h3⟩ := h
  have hs : (w.setCell a x).heap.size = w.heap.size := by simp
  refine ⟨ps, hp, ownsRow_setCell_below h1 ha x, by rw [hs]; exact h2, ?_⟩
  rw [hs]
  exact ⟨by rw [hs]; exact h3.1, fun p hp => ⟨ownsRow_setCell_below (h3.2.1 p hp).1 ha x, (h3.2.1 p hp).2⟩, h3.2.2⟩

theorem Made.below {w w' : World} {lo B : Nat} {v : Value} {rs : List R} (h : Made w lo v rs) (hb : Below B w w') (hB : w.heap.size ≤ B) : Made w' lo v rs := by
  obtain ⟨ps, hp, ho⟩ := h
  obtain ⟨h1, h2, h3⟩ := ho.below hb hB
  exact ⟨ps, hp, h1, fun k hk => Nat.lt_of_lt_of_le (h2 k hk) hb.size, h3.mono hb.size (Nat.le_refl _)⟩

theorem toRecs3 (v : Value) (rs : List R) (w : World) (o1 o2 o3 : Obj) (hv : Recs w v rs) (hl : tot rs ≤ 1048576) :
    Calls Tryd.prog 54 #[v] (((w.alloc o1).alloc o2).alloc o3) fun e w' => e = .returned (.slice (some ⟨w.heap.size + 3, 0, none⟩) rs.length rs.length) ∧
      Made w' (w.heap.size + 3) (.slice (some ⟨w.heap.size + 3, 0, none⟩) rs.length rs.length) rs ∧ Below (w.heap.size + 3) (((w.alloc o1).alloc o2).alloc o3) w' := by
  have h := toRecs_any v rs (((w.alloc o1).alloc o2).alloc o3) (hv.later (below3 w o1 o2 o3) (Nat.le_refl _)) hl
  rw [size3] at h
  exact h

set_option maxHeartbeats 1000000 in
theorem toLog_any (v : Value) (rs : List R) (f : Int) (w : World) (hv : Recs w v rs) (hl : tot rs ≤ 1048576) :
    Calls Tryd.prog 32 #[.agg #[v, .int .i64 f]] w fun e w' => e = .returned (.agg #[.slice (some ⟨w.heap.size + 3, 0, none⟩) rs.length rs.length, .int .i64 f]) ∧
      Made w' (w.heap.size + 3) (.slice (some ⟨w.heap.size + 3, 0, none⟩) rs.length rs.length) rs ∧ Below w.heap.size w w' := by
  have HV : Hid (Recs w v rs) := hv
  obtain ⟨ao, cap, rfl⟩ := hv.shape
  clear hv
  go_enter Tryd.func32, Tryd.ntmps32
  go_wp2_with fail
  refine (toRecs3 _ rs w _ _ _ HV.out hl).mono ?_
  rintro e w1 ⟨rfl, hown, hb⟩
  have hc : ∀ b o, b < w.heap.size + 3 → w1.cell? ⟨b, o, none⟩ = _ := fun b o h => hb.cell (p := ⟨b, o, none⟩) h
  have hf : ∀ b o, b < w.heap.size + 3 → w1.frozen? ⟨b, o, none⟩ = _ := fun b o h => hb.frozen (p := ⟨b, o, none⟩) h
  have hz : w.heap.size + 3 ≤ w1.heap.size := by have := hb.size; rw [size3] at this; exact this
  have HO : Hid (Made w1 (w.heap.size + 3) (.slice (some ⟨w.heap.size + 3, 0, none⟩) rs.length rs.length) rs) := hown
  have HB : Hid (Below w.heap.size w w1) := (below3 w _ _ _).trans (hb.mono (by omega))
  clear hown hb
  go_wp2
  refine bodyPost_ret (v := .agg #[.slice (some ⟨w.heap.size + 3, 0, none⟩) rs.length rs.length, .int .i64 f]) (by simp [results, Tryd.results32, go_sem, hc]) rfl ⟨rfl, ?_, ?_⟩
  · exact (((HO.out.setBelow (by simp) _).setBelow (by simp) _).setBelow (by simp) _).setBelow (by simp) _
  · exact (((HB.out.setCell (by simp; omega) _).setCell (by simp; omega) _).setCell (by simp) _).setCell (by simp) _

set_option maxHeartbeats 1000000 in
theorem eqRecs_any (v1 v2 : Value) (rs : List R) (w : World) (h1 : Recs w v1 rs) (h2 : Recs w v2 rs) (hl : tot rs ≤ 1048576) :
    Calls Tryd.prog 60 #[v1, v2] w fun e w' => e = .returned (.bool true) ∧ Below w.heap.size w w' := by
  have hlen := tot_len rs
  have HM : Hid (∀ r ∈ rs, r.2.2.length ≤ 1048576) := fun r hr => Nat.le_trans (tot_mem rs r hr) hl
  rcases h1 with ⟨rfl, ao, cap, rfl⟩ | ⟨b, off, cap, rfl, hz, hc⟩
  · obtain ⟨ao2, cap2, rfl⟩ := h2.shape
    clear h2
    go_enter Tryd.func60, Tryd.ntmps60
    go_wp2
    refine wp_loop_rounds 1 ?_
    rw [rounds_succ]
    go_wp2
    go_ret
    exact ⟨rfl, Below.refl _ _⟩
  rcases h2 with ⟨h, _⟩ | ⟨b2, off2, cap2, rfl, _, hc2⟩
  · exact absurd h hz
  have HC : Hid (∀ i r, rs[i]? = some r → ∃ u, RecCells w b (off + i * 3) r u) := hc
  have HC2 : Hid (∀ i r, rs[i]? = some r → ∃ u, RecCells w b2 (off2 + i * 3) r u) := hc2
  have hzl : 0 < rs.length := List.length_pos_iff.2 hz
  clear hc hc2 hz
  go_enter Tryd.func60, Tryd.ntmps60
  go_wp2
  go_loopw [5] (fun i wr => ∃ k : Nat, k ≤ rs.length ∧ i = .int .i64 k ∧ Below w.heap.size w wr) (fun i _ => rs.length - (intOf i).toNat)
  case atStart => exact ⟨0, Nat.zero_le _, rfl, Below.refl _ _⟩
  case round =>
    obtain ⟨k, hk, rfl, hbe⟩ := hrel
    by_cases hlt : k < rs.length
    · obtain ⟨r, hr⟩ : ∃ r, Hid (rs[k]? = some r) := ⟨rs[k], by show _ = _; simp [hlt]⟩
      have hrl : r.2.2.length ≤ 1048576 := HM.out r (List.mem_of_getElem? hr.out)
      obtain ⟨u, hu⟩ := HC.out k r hr.out
      obtain ⟨u', hu'⟩ := HC2.out k r hr.out
      obtain ⟨c0, c1, c2, hI⟩ := hu.later hbe (Nat.le_refl _)
      obtain ⟨d0, d1, d2, hJ⟩ := hu'.later hbe (Nat.le_refl _)
      have HI : Hid (Ints wr u r.2.2) := hI
      have HJ : Hid (Ints wr u' r.2.2) := hJ
      have hli : (k : Int) < (rs.length : Int) := by omega
      have HB : Hid (Below w.heap.size w wr) := hbe
      clear hbe hI hJ hu hu'
      go_wp2
      go_region_with (go_at_call 77; refine (eqRec_any _ _ _ _ r.2.2 _ ?_ ?_ hrl).mono ?_; exact HI.out.later (Below.refl _ _).drew (Nat.le_refl _); exact HJ.out.later (Below.refl _ _).drew (Nat.le_refl _); rintro e w2 ⟨rfl, hb2⟩; have HB2 := HB.out.drew.trans (hb2.mono HB.out.size); clear hb2)
      all_goals (try go_wp2)
      all_goals
        go_roundw
        case rel => exact ⟨k + 1, by omega, by go_num, HB2⟩
        case measure => simp [intOf]; omega
    · go_wp2
      go_ret
      exact ⟨rfl, hbe⟩

set_option maxHeartbeats 1000000 in
theorem eqLog_any (v1 v2 : Value) (rs : List R) (f : Int) (w : World) (h1 : Recs w v1 rs) (h2 : Recs w v2 rs) (hl : tot rs ≤ 1048576) :
    Calls Tryd.prog 35 #[.agg #[v1, .int .i64 f], .agg #[v2, .int .i64 f]] w fun e w' => e = .returned (.bool true) ∧ Below w.heap.size w w' := by
  have H1 : Hid (∀ o1 o2, Recs ((w.alloc o1).alloc o2) v1 rs) := fun o1 o2 => h1.later (below2 w o1 o2) (Nat.le_refl _)
  have H2 : Hid (∀ o1 o2, Recs ((w.alloc o1).alloc o2) v2 rs) := fun o1 o2 => h2.later (below2 w o1 o2) (Nat.le_refl _)
  obtain ⟨a1, p1, rfl⟩ := h1.shape
  obtain ⟨a2, p2, rfl⟩ := h2.shape
  clear h1 h2
  go_enter Tryd.func35, Tryd.ntmps35
  go_wp2_with fail
  refine (eqRecs_any _ _ rs _ (H1.out _ _) (H2.out _ _) hl).mono ?_
  rintro e w1 ⟨rfl, hb⟩
  obtain ⟨hc, _⟩ := bcell hb
  have HB : Hid (Below w.heap.size w w1) := (below2 w _ _).trans (hb.mono (by simp; omega))
  have hz : w.heap.size + 2 ≤ w1.heap.size := by have := hb.size; rw [size2] at this; exact this
  rw [size2] at hc
  clear hb
  go_wp2
  go_ret
  exact ⟨rfl, HB.out⟩

end Go.Proofs.YtogfpnenoeonoaaDoor

namespace Go.Proofs.YtogfpnenoeonoaaDoor
open Go.RowKit

theorem row_shape {w : World} {base : Nat} {e : TypeId} {size : Nat} {v : Value} {n : Nat} {xs : List Value} (h : w.ownsRow base e size v n xs) : ∃ ao cap, v = .slice ao n cap := by
  rcases h.2 with ⟨hv, hn⟩ | ⟨g, cap, cur, hv, _⟩
  · subst hn; exact ⟨none, 0, hv⟩
  · exact ⟨_, cap, hv⟩

/-- Numbers appended to a row of numbers of the call's own. -/
theorem run_append_ints (w : World) (base ty : Nat) (v xv : Value) (n : Nat) (xs : List Value) (zs : List Int) (hown : w.ownsRow base 3 1 v n xs) (hI : Ints w xv zs) (hb : n + zs.length ≤ 16777216) (hbase : base ≤ w.heap.size) :
    ∃ v' w', (Builtin.append_ #[68, 68] ty #[v, xv]).run Tryd.prog w = .ok v' w' ∧ w'.ownsRow base 3 1 v' (n + zs.length) (xs ++ zs.map (Value.int .i64)) ∧ w.grownBy w' v.ownBlock := by
  obtain ⟨i0, hi, hz0, hz1, hz2⟩ := info_parts info3
  rcases hI with ⟨rfl, ao, cap, rfl, hao⟩ | ⟨b, off, cap, rfl, hz, hc⟩
  · cases ao with
    | none =>
      obtain rfl := hao rfl
      exact ⟨v, w, run_append_owned_none w base 68 ty 3 i0 1 Tryd.underlying68 hi v n xs hown, by simpa using hown, World.grownBy.refl _ _⟩
    | some a =>
      obtain ⟨v', w', h1, h2, h3, _⟩ := run_append_own (P := Tryd.prog) w base 68 ty 3 i0 (.int .i64 0) 1 8 Tryd.underlying68 hi hz0 hz1 hz2 rfl (by decide) v n xs hown a 0 cap [] rfl (fun j u h => by simp at h) (fun u h => by simp at h) (by unfold maxLen; omega) (by simp at hb; omega) hbase
      exact ⟨v', w', h1, by simpa using h2, h3⟩
  · obtain ⟨v', w', h1, h2, h3, _⟩ := run_append_own (P := Tryd.prog) w base 68 ty 3 i0 (.int .i64 0) 1 8 Tryd.underlying68 hi hz0 hz1 hz2 rfl (by decide) v n xs hown ⟨b, off, none⟩ zs.length cap (zs.map (Value.int .i64)) (by simp) (fun j u h => by
        rw [List.getElem?_map] at h
        cases hj : zs[j]? with
        | none => rw [hj] at h; cases h
        | some z =>
          rw [hj] at h
          simp at h
          subst h
          have hjl : j < zs.length := by
            by_cases e : j < zs.length
            · exact e
            · rw [List.getElem?_eq_none (by omega)] at hj; cases hj
          have := hc j hjl
          rw [Go.WideShapes.add_plain, this]
          simp [List.getD_eq_getElem?_getD, hj]) (ints_oneCell _ _) (by unfold maxLen; omega) (by omega) hbase
    exact ⟨v', w', h1, h2, h3⟩

/-- The same as one step of a region that draws its order. -/
theorem step_append_ints {ops : Array Oper} {o : Oper} {a : Act} {w : World} {K : Act → World → Prop} {Q : Exit → Act → World → Prop} {E : Prop} (hgd : o.guard = none) (s x : Operand)
    (ho : o.op = .call { callee := .builtin .append, args := #[s, x], argTypes := #[68, 68] })
    (base : Nat) (v xv : Value) (n : Nat) (xs : List Value) (zs : List Int) (hs : a.eval s = v) (hx : a.eval x = xv) (hown : w.ownsRow base 3 1 v n xs) (hI : Ints w xv zs) (hb : n + zs.length ≤ 16777216) (hbase : base ≤ w.heap.size)
    (h : ∀ ao cap w', w'.ownsRow base 3 1 (.slice ao (n + zs.length) cap) (n + zs.length) (xs ++ zs.map (Value.int .i64)) → w.grownBy w' v.ownBlock → K (a.put o.dst (.slice ao (n + zs.length) cap)) w') :
    if Region.wanted o (yielded ops a.tmps) = true then Oper.wp Tryd.prog o a w K Q else E := by
  have hw : Region.wanted o (yielded ops a.tmps) = true := by simp [Region.wanted, hgd]
  rw [if_pos hw]
  obtain ⟨v', w', hrun, r1, r2⟩ := run_append_ints w base o.type v xv n xs zs hown hI hb hbase
  obtain ⟨ao, cap, rfl⟩ := row_shape r1
  unfold Oper.wp
  simp [execOp, ho, resolve, invoke, builtin, hs, hx, hrun, Result.andThen]
  exact h ao cap w' r1 r2

theorem grown_below {w w' : World} (h : w.grownBy w' none) : Below w.heap.size w w' := (Below.refl _ _).grown h (Nat.le_refl _) (fun k h => by cases h)

set_option maxHeartbeats 2000000 in
theorem copyRec_any (k t : Int) (u : Value) (zs : List Int) (w : World) (hI : Ints w u zs) (hl : zs.length ≤ 1048576) :
    Calls Tryd.prog 88 #[.agg #[.int .i64 k, .int .i64 t, u]] w fun e w' => ∃ ao cap, e = .returned (.agg #[.int .i64 k, .int .i64 t, .slice ao zs.length cap]) ∧
      w'.ownsRow (w.heap.size + 2) 3 1 (.slice ao zs.length cap) zs.length (zs.map (Value.int .i64)) ∧ Below w.heap.size w w' := by
  have HI : Hid (∀ W, Below w.heap.size w W → Ints W u zs) := fun W h => hI.later h (Nat.le_refl _)
  obtain ⟨au, cu, hus⟩ := hI.shape
  clear hI
  subst hus
  have HR : Hid (∀ o, RecAt ((w.alloc (.cells #[.int .i64 k, .int .i64 t, .slice au zs.length cu] 79)).alloc o).drew w.heap.size k t (.slice au zs.length cu)) := fun o => ((RecAt.new w k t _ 79).later ((Below.refl _ _).alloc (Nat.le_refl _) o).drew (Nat.le_refl _))
  go_enter Tryd.func88, Tryd.ntmps88
  go_wp2
  go_region_held_law (fun w' => w'.cell? ⟨w.heap.size, 0, none⟩ = some (.int .i64 k) ∧ w'.cell? ⟨w.heap.size, 1, none⟩ = some (.int .i64 t) ∧ w'.cell? ⟨w.heap.size, 2, none⟩ = some (.slice au zs.length cu)) (go_keep)
    ((refine step_append_ints rfl _ _ rfl (w.heap.size + 2) (.slice none 0 0) (.slice au zs.length cu) 0 [] zs rfl rfl (World.ownsRow_nil _ _ _ _) (HI.out _ (by exact (below2 w _ _).drew)) (by omega) (by simp) ?_; intro ao cap w1 hown hgrow; simp only [Nat.zero_add, List.nil_append] at hown; have hb1 := grown_below hgrow; obtain ⟨hc1, hf1⟩ := bcell hb1; obtain ⟨k0, k1, k2⟩ := (HR.out _).later hb1 (Nat.le_refl _); have HO := hide_it hown; have HB := hide_it ((below2 w _ _).drew.trans (hb1.mono (by simp; omega))); have hz1 : w.heap.size + 2 ≤ w1.heap.size := by (have := hb1.size; simp at this; omega)))
  go_wp2
  refine bodyPost_ret (v := .agg #[.int .i64 k, .int .i64 t, .slice ao zs.length cap]) (by simp [results, Tryd.results88, go_sem, hc1]) rfl ⟨ao, cap, rfl, ?_, ?_⟩
  · exact ownsRow_setCell_below (ownsRow_setCell_below (ownsRow_setCell_below HO.out (by simp) _) (by simp) _) (by simp) _
  · exact ((HB.out.setCell (by simp) _).setCell (by simp) _).setCell (by simp) _

end Go.Proofs.YtogfpnenoeonoaaDoor

namespace Go.Proofs.YtogfpnenoeonoaaDoor
open Go.RowKit

/-- One more record appended to a list of the call's own, as worlds and rows see it. -/
theorem append_step {w3 w4 : World} {W0 hi : Nat} {v v' : Value} {ps : List (R × Value)} {r : R} {u : Value}
    (hrow : w3.ownsRow W0 79 3 v ps.length (flat ps)) (hin : Inner w3 W0 hi ps) (hhi : hi ≤ w3.heap.size)
    (ho : w3.ownsRow W0 3 1 u r.2.2.length (r.2.2.map (Value.int .i64))) (hu : ∀ k, u.ownBlock = some k → hi ≤ k ∧ k < w3.heap.size)
    (hown : w4.ownsRow W0 79 3 v' (ps.length + 1) (flat ps ++ [.int .i64 r.1, .int .i64 r.2.1, u])) (hg : w3.grownBy w4 v.ownBlock) :
    w4.ownsRow W0 79 3 v' (ps ++ [(r, u)]).length (flat (ps ++ [(r, u)])) ∧ Inner w4 W0 w4.heap.size (ps ++ [(r, u)]) := by
  refine ⟨?_, ?_⟩
  · rw [flat_append, List.length_append]; exact hown
  · have in3 : Inner w3 W0 w3.heap.size (ps ++ [(r, u)]) := hin.snoc hhi (Nat.le_refl _) ho hu
    have h := in3.kept hg (fun p hp => by
      rcases hrow.2 with ⟨hv, _⟩ | ⟨g, cap, cur, hv, _, hh, _⟩
      · by_cases e : p.2.ownBlock = none
        · exact Or.inl e
        · exact Or.inr (by rw [hv]; simpa [Value.ownBlock] using e)
      · refine Or.inr ?_
        rw [hv]
        exact in3.apart hh (by decide) p hp)
    exact h.mono hg.size (Nat.le_refl _)

set_option maxHeartbeats 2000000 in
theorem copyRecs_any (v : Value) (rs : List R) (w : World) (hv : Recs w v rs) (hl : tot rs ≤ 1048576) :
    Calls Tryd.prog 76 #[v] w fun e w' => ∃ ao cap, e = .returned (.slice ao rs.length cap) ∧ Made w' w.heap.size (.slice ao rs.length cap) rs ∧ Below w.heap.size w w' := by
  obtain ⟨i0, hi, hz0, hz1, hz2⟩ := info_parts infoRec
  have hlen := tot_len rs
  have HM : Hid (∀ r ∈ rs, r.2.2.length ≤ 1048576) := fun r hr => Nat.le_trans (tot_mem rs r hr) hl
  rcases hv with ⟨rfl, ao, cap, rfl⟩ | ⟨b, off, cap, rfl, hz, hc⟩
  · go_enter Tryd.func76, Tryd.ntmps76
    go_wp2
    refine wp_loop_rounds 1 ?_
    rw [rounds_succ]
    go_wp2
    refine bodyPost_ret (v := .slice none 0 0) (by simp [results, Tryd.results76, go_sem]) rfl ⟨none, 0, rfl, ?_, Below.refl _ _⟩
    exact ⟨[], rfl, World.ownsRow_nil _ _ _ _, fun k hk => by simp [Value.ownBlock] at hk, Inner.nil _ _ _ (Nat.le_refl _)⟩
  have HC : Hid (∀ i r, rs[i]? = some r → ∃ u, RecCells w b (off + i * 3) r u) := hc
  have hzl : 0 < rs.length := List.length_pos_iff.2 hz
  clear hc hz
  go_enter Tryd.func76, Tryd.ntmps76
  go_wp2
  go_loopw [3, 8] (fun vo i wr => ∃ (k : Nat) (ps : List (R × Value)), k ≤ rs.length ∧ i = .int .i64 k ∧ Hid (ps.map (·.1) = rs.take k) ∧ Hid (wr.ownsRow w.heap.size 79 3 vo ps.length (flat ps)) ∧ Hid (Inner wr w.heap.size wr.heap.size ps) ∧ Hid (Below w.heap.size w wr)) (fun _ i _ => rs.length - (intOf i).toNat)
  case atStart => exact ⟨0, [], Nat.zero_le _, rfl, rfl, World.ownsRow_nil _ _ _ _, Inner.nil _ _ _ (Nat.le_refl _), Below.refl _ _⟩
  case round =>
    obtain ⟨k, ps, hk, rfl, HP, HO, HN, HB⟩ := hrel
    have HPL : Hid (ps.length = k) := by
      have := congrArg List.length HP.out
      simp at this
      show _ = _; omega
    by_cases hlt : k < rs.length
    · obtain ⟨r, hr⟩ : ∃ r, Hid (rs[k]? = some r) := ⟨rs[k], by show _ = _; simp [hlt]⟩
      have hrl : r.2.2.length ≤ 1048576 := HM.out r (List.mem_of_getElem? hr.out)
      obtain ⟨u, hu⟩ := HC.out k r hr.out
      obtain ⟨c0, c1, c2, hI⟩ := hu.later HB.out (Nat.le_refl _)
      have hbw : b < wr.heap.size := World.block_lt_of_cell? _ _ c0
      obtain ⟨au, cu, hus⟩ := hI.shape
      have HI : Hid (∀ o, Ints (wr.alloc o) u r.2.2) := fun o => hI.later ((Below.refl _ _).alloc (Nat.le_refl _) o) (Nat.le_refl _)
      clear hI hu
      subst hus
      go_wp2_with fail
      refine (copyRec_any r.1 r.2.1 _ r.2.2 _ (HI.out _) hrl).mono ?_
      rintro e w2 ⟨ao2, cap2, rfl, hown2, hb2⟩
      have hb2' : Below wr.heap.size wr w2 := ((Below.refl _ _).alloc (Nat.le_refl _) _).trans (hb2.mono (by simp))
      have hz2' : wr.heap.size + 1 ≤ w2.heap.size := by have := hb2.size; simp at this; exact this
      have ROW : Hid (∀ o, (w2.alloc o).ownsRow w.heap.size 79 3 u3 ps.length (flat ps)) := fun o => (ownsRow_below HO.out hb2' (fun j hj => (HO.out.lt j hj).2)).alloc o
      have INN : Hid (∀ o, Inner (w2.alloc o) w.heap.size wr.heap.size ps) := fun o => (HN.out.below hb2' (Nat.le_refl _)).below ((Below.refl _ _).alloc (Nat.le_refl _) o) (by omega)
      have NEW : Hid (∀ o, (w2.alloc o).ownsRow w.heap.size 3 1 (.slice ao2 r.2.2.length cap2) r.2.2.length (r.2.2.map (Value.int .i64))) := fun o => (ownsRow_base hown2 (by have := HB.out.size; simp; omega)).alloc o
      have NEWB : Hid (∀ j, (Value.slice ao2 r.2.2.length cap2).ownBlock = some j → wr.heap.size ≤ j ∧ j < w2.heap.size + 1) := fun j hj => by
        have := hown2.lt j hj
        simp at this
        omega
      have HB2 : Hid (Below w.heap.size w w2) := HB.out.trans (hb2'.mono HB.out.size)
      have hzw : w.heap.size ≤ w2.heap.size := HB2.out.size
      clear hown2 hb2 hb2'
      go_wp2_with (at_builtin; refine wpList_append_own _ rfl _ _ 30 rfl w.heap.size 79 i0 (.agg #[.int .i64 0, .int .i64 0, .slice none 0 0]) 3 40 Tryd.underlying30 hi hz0 hz1 hz2 rfl (by decide) u3 ps.length (flat ps) rfl (ROW.out _) ⟨w2.heap.size, 0, none⟩ 1 1 [.int .i64 r.1, .int .i64 r.2.1, .slice ao2 r.2.2.length cap2] rfl rfl ?c1 ?c2 ?c3 ?c4 ?c5 ?_)
      case c1 =>
        intro j x hj
        match j, hj with
        | 0, hj => simp at hj; subst hj; simp [Addr.add]
        | 1, hj => simp at hj; subst hj; simp [Addr.add]
        | 2, hj => simp at hj; subst hj; simp [Addr.add]
      case c2 => intro x hx; simp at hx; rcases hx with rfl | rfl | rfl <;> rfl
      case c3 => have := HPL.out; unfold maxLen; omega
      case c4 => have := HPL.out; omega
      case c5 => simp; omega
      · intro v' w4 hown4 hgrow4 _
        have ST := append_step (r := r) (ROW.out _) (INN.out _) (by simp; omega) (NEW.out _) (by simpa using NEWB.out) hown4 hgrow4
        have HO4 := hide_it ST.1
        have HN4 := hide_it ST.2
        have HB4 : Hid (Below w.heap.size w w4) := (HB2.out.alloc hzw _).grown hgrow4 (by simp; omega) (fun j hj => ((ROW.out default).lt j hj).1)
        clear ST hown4 hgrow4
        go_wp2
        go_roundw
        case rel =>
          refine ⟨k + 1, ps ++ [(r, .slice ao2 r.2.2.length cap2)], by omega, by go_num, ?_, HO4, HN4, HB4⟩
          show _ = _
          have hkl : k < rs.length := by omega
          have hrk : rs[k] = r := by have := hr.out; rw [List.getElem?_eq_getElem hkl] at this; simpa using this
          rw [List.map_append, HP.out, List.take_succ_eq_append_getElem hkl, hrk]
          rfl
        case measure => simp [intOf]; omega
    · have hke : Hid (k = rs.length) := by show _ = _; omega
      obtain ⟨ao, cp, hvo⟩ := row_shape HO.out
      have hpl : ps.length = rs.length := by rw [HPL.out, hke.out]
      rw [hpl] at hvo
      have HD : Hid (Made wr w.heap.size (.slice ao rs.length cp) rs) := by
        refine ⟨ps, by rw [HP.out, hke.out, List.take_length], ?_, fun j hj => ?_, HN.out⟩
        · have := HO.out; rw [hvo] at this; exact this
        · have := HO.out; rw [hvo] at this; exact (this.lt j hj).2
      subst hvo
      clear hpl
      go_wp2
      refine bodyPost_ret (v := .slice ao rs.length cp) (by simp [results, Tryd.results76, go_sem]) rfl ⟨ao, cp, rfl, HD.out, HB.out⟩

end Go.Proofs.YtogfpnenoeonoaaDoor

namespace Go.Proofs.YtogfpnenoeonoaaDoor
open Go.RowKit

/-- Nothing but blocks from lo on and below hi has turned; blocks may have come. -/
structure Mid (lo hi : Nat) (w w' : World) : Prop where
  os : w'.os = w.os
  tape : w'.tape = w.tape
  output : w'.output = w.output
  size : w.heap.size ≤ w'.heap.size
  block : ∀ k, k < w.heap.size → (k < lo ∨ hi ≤ k) → w'.heap[k]? = w.heap[k]?

theorem Mid.refl (lo hi : Nat) (w : World) : Mid lo hi w w := ⟨rfl, rfl, rfl, Nat.le_refl _, fun _ _ _ => rfl⟩
theorem Mid.trans {lo hi : Nat} {a b c : World} (h : Mid lo hi a b) (k : Mid lo hi b c) : Mid lo hi a c :=
  ⟨k.os.trans h.os, k.tape.trans h.tape, k.output.trans h.output, Nat.le_trans h.size k.size, fun i hi' hh => (k.block i (Nat.lt_of_lt_of_le hi' h.size) hh).trans (h.block i hi' hh)⟩
theorem Mid.of_grown {lo hi : Nat} {w w' : World} {row : Option Nat} (hg : w.grownBy w' row) (hr : ∀ k, row = some k → lo ≤ k ∧ k < hi) : Mid lo hi w w' :=
  ⟨hg.os, hg.tape, hg.output, hg.size, fun k hk hh => hg.block k hk (fun e => by have := hr k e.symm; omega)⟩
theorem Mid.of_below {lo hi B : Nat} {w w' : World} (hb : Below B w w') (hB : w.heap.size ≤ B) : Mid lo hi w w' :=
  ⟨hb.os, hb.tape, hb.output, hb.size, fun k hk _ => hb.block k (by omega)⟩
theorem Mid.below {lo hi B : Nat} {w w' : World} (h : Mid lo hi w w') (hB : B ≤ lo) (hs : B ≤ w.heap.size) : Below B w w' :=
  ⟨h.os, h.tape, h.output, h.size, fun k hk => h.block k (by omega) (Or.inl (by omega))⟩

theorem ownsRow_mid {w w' : World} {base lo hi : Nat} {e : TypeId} {size : Nat} {v : Value} {n : Nat} {xs : List Value} (h : w.ownsRow base e size v n xs) (hb : Mid lo hi w w') (hB : ∀ k, v.ownBlock = some k → k < lo ∨ hi ≤ k) : w'.ownsRow base e size v n xs := by
  have hlt := h.lt
  obtain ⟨h1, h2⟩ := h
  refine ⟨h1, ?_⟩
  rcases h2 with h2 | ⟨g, cap, cur, hv, hg, hh, r⟩
  · exact Or.inl h2
  · exact Or.inr ⟨g, cap, cur, hv, hg, by rw [hb.block g (hlt g (by rw [hv]; rfl)).2 (hB g (by rw [hv]; rfl))]; exact hh, r⟩

/-- A list that lies behind what has turned is as it was. -/
theorem OwnRecs.mid {w w' : World} {l0 h0 lo hi : Nat} {v : Value} {ps : List (R × Value)} (h : OwnRecs w l0 h0 v ps) (hb : Mid lo hi w w') (hB : hi ≤ l0) : OwnRecs w' l0 h0 v ps := by
  obtain ⟨h1, h2, h3⟩ := h
  refine ⟨ownsRow_mid h1 hb (fun k hk => Or.inr (by have := (h1.lt k hk).1; omega)), h2, Nat.le_trans h3.1 hb.size, fun p hp => ⟨?_, (h3.2.1 p hp).2⟩, h3.2.2⟩
  exact ownsRow_mid (h3.2.1 p hp).1 hb (fun k hk => Or.inr (by have := ((h3.2.1 p hp).1.lt k hk).1; omega))

theorem grownBy_trans {a b c : World} {row : Option Nat} (h : a.grownBy b row) (k : b.grownBy c row) : a.grownBy c row :=
  ⟨k.os.trans h.os, k.tape.trans h.tape, k.output.trans h.output, Nat.le_trans h.size k.size, fun i hi hh => (k.block i (Nat.lt_of_lt_of_le hi h.size) hh).trans (h.block i hi hh)⟩

def markI (n : Nat) (k : Int) : List Int := (List.range n).map fun i => k + (i : Nat)
theorem markI_length (n : Nat) (k : Int) : (markI n k).length = n := by simp [markI]
theorem markI_get (n : Nat) (k : Int) (i : Nat) (h : i < n) : (markI n k).getD i 0 = k + i := by simp [markI, List.getD_eq_getElem?_getD, h]

theorem mix_set (A xs : List Value) (i : Nat) (hA : A.length = xs.length) (hi : i < xs.length) (x : Value) (hx : A[i]? = some x) : (A.take i ++ xs.drop i).set i x = A.take (i + 1) ++ xs.drop (i + 1) := by
  have hi' : i < A.length := by omega
  rw [List.set_append_right _ _ (by simp; omega)]
  have h1 : i - (A.take i).length = 0 := by simp; omega
  rw [h1, List.drop_eq_getElem_cons hi, List.set_cons_zero, List.take_succ_eq_append_getElem hi']
  rw [List.getElem?_eq_getElem hi'] at hx
  simp only [Option.some.injEq] at hx
  rw [hx]; simp

set_option maxHeartbeats 1000000 in
theorem markInts_any (v : Value) (xs : List Value) (k : Int) (lo n : Nat) (w : World) (hv : w.ownsRow lo 3 1 v n xs) (hn : n ≤ 1048576) (hk0 : 0 ≤ k) (hk1 : k ≤ 1000000000) :
    Calls Tryd.prog 41 #[v, .int .i64 k] w fun e w' => e = .returned (.int .i64 (k + n)) ∧ w'.ownsRow lo 3 1 v n ((markI n k).map (Value.int .i64)) ∧ w.grownBy w' v.ownBlock := by
  have hxl : xs.length = n := by rw [hv.1]; omega
  by_cases h0 : n = 0
  · subst h0
    have HV : Hid (w.ownsRow lo 3 1 v 0 xs) := hv
    obtain ⟨ao, cap, rfl⟩ := row_shape hv
    have hx0 : xs = [] := List.length_eq_zero_iff.1 hxl
    clear hv hxl
    subst hx0
    go_enter Tryd.func41, Tryd.ntmps41
    go_wp2
    refine wp_loop_rounds 1 ?_
    rw [rounds_succ]
    go_wp2
    go_ret
    exact ⟨by simp, HV.out, World.grownBy.refl _ _⟩
  obtain ⟨g, cap, rfl⟩ : ∃ g cap, v = .slice (some ⟨g, 0, none⟩) n cap := by
    rcases hv.2 with ⟨_, hn0⟩ | ⟨g, cap, cur, h, _⟩
    · exact absurd hn0 h0
    · exact ⟨g, cap, h⟩
  have HX : Hid (xs.length = n) := hxl
  have H0 : Hid (w.ownsRow lo 3 1 (.slice (some ⟨g, 0, none⟩) n cap) n (((markI n k).map (Value.int .i64)).take 0 ++ xs.drop 0)) := by show World.ownsRow _ _ _ _ _ _ _; simpa using hv
  clear hv hxl
  go_enter Tryd.func41, Tryd.ntmps41
  go_wp2
  go_loopw [1, 5] (fun q i wr => ∃ j : Nat, j ≤ n ∧ i = .int .i64 j ∧ q = .int .i64 (k + j) ∧ Hid (wr.ownsRow lo 3 1 (.slice (some ⟨g, 0, none⟩) n cap) n (((markI n k).map (Value.int .i64)).take j ++ xs.drop j)) ∧ Hid (w.grownBy wr (some g))) (fun _ i _ => n - (intOf i).toNat)
  case atStart => exact ⟨0, Nat.zero_le _, rfl, by simp, H0, World.grownBy.refl _ _⟩
  case round =>
    obtain ⟨j, hj, rfl, rfl, HO, HG⟩ := hrel
    by_cases hlt : j < n
    · obtain ⟨x, hx⟩ : ∃ x, wr.cell? ⟨g, j, none⟩ = some x := by
        have h1 := HO.out.cellAt j (by omega)
        have h2 : j < (((markI n k).map (Value.int .i64)).take j ++ xs.drop j).length := by rw [HO.out.1]; omega
        exact ⟨_, by rw [h1, List.getElem?_eq_getElem h2]⟩
      have hfr := HO.out.frozenAt j
      go_wp2
      go_roundw
      case rel =>
        have st := HO.out.stored j (.int .i64 (k + j))
        refine ⟨j + 1, by omega, by go_num, by go_num, ?_, grownBy_trans HG.out st.2⟩
        have h := st.1
        rw [mix_set _ _ j (by rw [List.length_map, markI_length, HX.out]) (by rw [HX.out]; omega) _ (by
          rw [List.getElem?_map]
          have hl : j < (markI n k).length := by rw [markI_length]; omega
          have := markI_get n k j (by omega)
          rw [List.getD_eq_getElem?_getD, List.getElem?_eq_getElem hl] at this
          rw [List.getElem?_eq_getElem hl]
          simp at this ⊢
          exact this)] at h
        exact h
      case measure => simp [intOf]; omega
    · have HO2 : Hid (wr.ownsRow lo 3 1 (.slice (some ⟨g, 0, none⟩) n cap) n ((markI n k).map (Value.int .i64))) := by
        have hje : j = n := by omega
        have := HO.out
        rw [hje, List.take_of_length_le (by rw [List.length_map, markI_length]; omega), List.drop_of_length_le (by rw [HX.out]; omega), List.append_nil] at this
        exact this
      have hje : (j : Int) = n := by omega
      go_wp2
      go_ret
      exact ⟨by simp [hje], HO2.out, HG.out⟩

set_option maxHeartbeats 1000000 in
theorem heldInts_any (v : Value) (n : Nat) (k : Int) (w : World) (hv : Ints w v (markI n k)) (hn : n ≤ 1048576) (hk0 : 0 ≤ k) (hk1 : k ≤ 1000000000) :
    Calls Tryd.prog 42 #[v, .int .i64 k] w fun e w' => e = .returned (.int .i64 (k + n)) ∧ w' = w := by
  rcases hv with ⟨hz, ao, cap, rfl, -⟩ | ⟨b, off, cap, rfl, hz, hc⟩
  · have h0 : n = 0 := by have := congrArg List.length hz; rw [markI_length] at this; simpa using this
    subst h0
    clear hz
    go_enter Tryd.func42, Tryd.ntmps42
    go_wp2
    refine wp_loop_rounds 1 ?_
    rw [rounds_succ]
    go_wp2
    go_ret
    exact ⟨by simp, rfl⟩
  · rw [markI_length] at hc ⊢
    have HC : Hid (∀ j, j < n → w.cell? ⟨b, off + j, none⟩ = some (.int .i64 (k + j))) := fun j hj => by rw [hc j hj, markI_get n k j hj]
    clear hc hz
    go_enter Tryd.func42, Tryd.ntmps42
    go_wp2
    go_loop [1, 5] (fun q i => ∃ j : Nat, j ≤ n ∧ i = .int .i64 j ∧ q = .int .i64 (k + j)) (fun _ i => n - (intOf i).toNat)
    case atStart => exact ⟨0, Nat.zero_le _, rfl, by simp⟩
    case round =>
      obtain ⟨j, hj, rfl, rfl⟩ := hrel
      by_cases hlt : j < n
      · have hcj := HC.out j hlt
        go_wp2
        go_round
        case rel => exact ⟨j + 1, by omega, by go_num, by go_num⟩
        case measure => simp [intOf]; omega
      · have hje : (j : Int) = n := by omega
        go_wp2
        go_ret
        exact ⟨by simp, rfl⟩

end Go.Proofs.YtogfpnenoeonoaaDoor

namespace Go.Proofs.YtogfpnenoeonoaaDoor
open Go.RowKit

def markR (r : R) (k : Int) : R := (k, k + 1, markI r.2.2.length (k + 2))
/-- The number with which record i begins. -/
def kAt (rs : List R) (k : Int) (i : Nat) : Int := k + 2 * i + pre rs i
def dftP : R × Value := ((0, 0, []), .slice none 0 0)
/-- The list when i records have been marked. -/
def stg (ps : List (R × Value)) (k : Int) (i : Nat) : List (R × Value) :=
  (List.range ps.length).map fun j => if j < i then (markR (ps.getD j dftP).1 (kAt (ps.map (·.1)) k j), (ps.getD j dftP).2) else ps.getD j dftP
/-- Records, all marked. -/
def markAll (rs : List R) (k : Int) : List R := (List.range rs.length).map fun j => markR (rs.getD j (0, 0, [])) (kAt rs k j)

theorem stg_length (ps : List (R × Value)) (k : Int) (i : Nat) : (stg ps k i).length = ps.length := by simp [stg]
theorem stg_get (ps : List (R × Value)) (k : Int) (i j : Nat) (p : R × Value) (h : ps[j]? = some p) : (stg ps k i)[j]? = some (if j < i then (markR p.1 (kAt (ps.map (·.1)) k j), p.2) else p) := by
  have hj : j < ps.length := by
    by_cases e : j < ps.length
    · exact e
    · rw [List.getElem?_eq_none (by omega)] at h; cases h
  have hg : ps.getD j dftP = p := by rw [List.getD_eq_getElem?_getD, h]; rfl
  unfold stg
  rw [List.getElem?_map, List.getElem?_range hj]
  simp only [Option.map_some, hg]
theorem stg_zero (ps : List (R × Value)) (k : Int) : stg ps k 0 = ps := by
  apply List.ext_getElem?
  intro j
  by_cases hj : j < ps.length
  · rw [stg_get ps k 0 j ps[j] (by simp [hj])]; simp [hj]
  · rw [List.getElem?_eq_none (by rw [stg_length]; omega), List.getElem?_eq_none (by omega)]
theorem stg_succ (ps : List (R × Value)) (k : Int) (i : Nat) (p : R × Value) (h : ps[i]? = some p) : stg ps k (i + 1) = (stg ps k i).set i (markR p.1 (kAt (ps.map (·.1)) k i), p.2) := by
  have hil : i < ps.length := by
    by_cases e : i < ps.length
    · exact e
    · rw [List.getElem?_eq_none (by omega)] at h; cases h
  apply List.ext_getElem?
  intro j
  by_cases hj : j < ps.length
  · rw [stg_get ps k (i + 1) j ps[j] (by simp [hj]), List.getElem?_set]
    by_cases hij : i = j
    · subst hij
      have hp : ps[i] = p := by rw [List.getElem?_eq_getElem hj] at h; simpa using h
      rw [if_pos rfl, if_pos (show i < (stg ps k i).length by rw [stg_length]; exact hj), if_pos (show i < i + 1 by omega), hp]
    · rw [if_neg hij, stg_get ps k i j ps[j] (by simp [hj])]
      by_cases hji : j < i
      · rw [if_pos (by omega), if_pos hji]
      · rw [if_neg (by omega), if_neg hji]
  · rw [List.getElem?_eq_none (by rw [stg_length]; omega), List.getElem?_eq_none (by rw [List.length_set, stg_length]; omega)]
theorem stg_all (ps : List (R × Value)) (k : Int) : (stg ps k ps.length).map (·.1) = markAll (ps.map (·.1)) k := by
  apply List.ext_getElem?
  intro j
  by_cases hj : j < ps.length
  · rw [List.getElem?_map, stg_get ps k ps.length j ps[j] (by simp [hj]), if_pos hj]
    simp [markAll, hj, List.getD_eq_getElem?_getD]
  · rw [List.getElem?_eq_none (by rw [List.length_map, stg_length]; omega), List.getElem?_eq_none (by simp [markAll]; omega)]
theorem markAll_length (rs : List R) (k : Int) : (markAll rs k).length = rs.length := by simp [markAll]
theorem markAll_get (rs : List R) (k : Int) (i : Nat) (r : R) (h : rs[i]? = some r) : (markAll rs k)[i]? = some (markR r (kAt rs k i)) := by
  have hj : i < rs.length := by
    by_cases e : i < rs.length
    · exact e
    · rw [List.getElem?_eq_none (by omega)] at h; cases h
  unfold markAll
  rw [List.getElem?_map, List.getElem?_range hj]
  simp [List.getD_eq_getElem?_getD, h]
theorem kAt_zero (rs : List R) (k : Int) : kAt rs k 0 = k := by simp [kAt, pre_zero]
theorem kAt_succ (rs : List R) (k : Int) (i : Nat) (r : R) (h : rs[i]? = some r) : kAt rs k (i + 1) = kAt rs k i + 2 + r.2.2.length := by
  unfold kAt; rw [pre_succ rs i r h]; omega
theorem kAt_bd (rs : List R) (k : Int) (i : Nat) (hi : i ≤ rs.length) (h : tot rs ≤ 1048576) (hk : 0 ≤ k) (hk1 : k ≤ 1000) : 0 ≤ kAt rs k i ∧ kAt rs k i ≤ 900000000 := by
  have := pre_le rs i
  unfold kAt tot at *; omega

theorem flat_set2 (ps : List (R × Value)) (i : Nat) (p : R × Value) (r : R) (h : ps[i]? = some p) :
    ((flat ps).set (i * 3) (.int .i64 r.1)).set (i * 3 + 1) (.int .i64 r.2.1) = flat (ps.set i (r, p.2)) := by
  induction ps generalizing i with
  | nil => simp at h
  | cons q t ih =>
    cases i with
    | zero => simp at h; subst h; simp [flat]
    | succ i =>
      have := ih i (by simpa using h)
      rw [show (i + 1) * 3 = i * 3 + 3 by omega]
      simp only [flat, List.set_cons_succ]
      rw [this]

/-- One record marked: its two cells, then its numbers. -/
theorem mark_step {wr w2 w3 : World} {lo hi g n cap i : Nat} {qs : List (R × Value)} {r0 : R} {u : Value} {r : R} (hq : qs[i]? = some (r0, u))
    (ho : OwnRecs wr lo hi (.slice (some ⟨g, 0, none⟩) n cap) qs) (hqn : qs.length = n)
    (h2 : w2 = (wr.setCell ⟨g, i * 3, none⟩ (.int .i64 r.1)).setCell ⟨g, i * 3 + 1, none⟩ (.int .i64 r.2.1))
    (hown : w3.ownsRow lo 3 1 u r.2.2.length (r.2.2.map (Value.int .i64))) (hg : w2.grownBy w3 u.ownBlock) :
    OwnRecs w3 lo hi (.slice (some ⟨g, 0, none⟩) n cap) (qs.set i (r, u)) ∧ Mid lo hi wr w3 := by
  obtain ⟨row, hgb, inn⟩ := ho
  rw [hqn] at row
  have a1 := row.stored (i * 3) (.int .i64 r.1)
  have a2 := a1.1.stored (i * 3 + 1) (.int .i64 r.2.1)
  rw [flat_set2 qs i (r0, u) r hq] at a2
  rw [← h2] at a2
  have g12 : wr.grownBy w2 (some g) := by rw [h2]; exact grownBy_trans a1.2 (by rw [← h2]; exact a2.2)
  obtain ⟨cur, hcur⟩ := row_block row
  have ap := inn.apart hcur (by decide)
  have in2 : Inner w2 lo hi qs := inn.kept g12 (fun p hp => Or.inr (ap p hp))
  have hmem := List.mem_of_getElem? hq
  obtain ⟨cur2, hcur2⟩ := row_block a2.1
  have hug : u.ownBlock ≠ some g := ap (r0, u) hmem
  have row3 := a2.1.kept hg (Or.inr (fun e => hug e.symm))
  have hgl := row.lt g rfl
  have hgh := hgb g rfl
  refine ⟨⟨by rw [List.length_set, hqn]; exact row3, hgb, Nat.le_trans in2.1 hg.size, fun p hp => ?_, fun a b p q hp hq' hab => ?_⟩, ?_⟩
  · obtain ⟨j, hj, hpj⟩ := List.mem_iff_getElem.1 hp
    rw [List.length_set] at hj
    by_cases hij : i = j
    · subst hij
      simp at hpj
      subst hpj
      exact ⟨hown, (in2.2.1 (r0, u) hmem).2⟩
    · rw [List.getElem_set_ne hij] at hpj
      have hpm : p ∈ qs := by rw [← hpj]; exact List.getElem_mem hj
      refine ⟨(in2.2.1 p hpm).1.kept hg ?_, (in2.2.1 p hpm).2⟩
      exact in2.2.2 j i p (r0, u) (by rw [List.getElem?_eq_getElem hj, hpj]) hq (fun e => hij e.symm)
  · have same : ∀ (c : Nat) (x : R × Value), (qs.set i (r, u))[c]? = some x → ∃ y, qs[c]? = some y ∧ y.2 = x.2 := by
      intro c x hx
      rw [List.getElem?_set] at hx
      by_cases hic : i = c
      · subst hic
        rw [if_pos rfl] at hx
        split at hx
        · simp at hx; exact ⟨(r0, u), hq, by rw [← hx]⟩
        · cases hx
      · rw [if_neg hic] at hx; exact ⟨x, hx, rfl⟩
    obtain ⟨y, hy, e1⟩ := same a p hp
    obtain ⟨z, hz, e2⟩ := same b q hq'
    rw [← e1, ← e2]
    exact in2.2.2 a b y z hy hz hab
  · exact (Mid.of_grown g12 (fun k hk => by simp at hk; omega)).trans (Mid.of_grown hg (fun k hk => ⟨((in2.2.1 (r0, u) hmem).1.lt k hk).1, (in2.2.1 (r0, u) hmem).2 k hk⟩))

theorem mark_inner {wr : World} {lo hi g n cap i : Nat} {qs : List (R × Value)} {r0 : R} {u : Value} (hq : qs[i]? = some (r0, u)) (ho : OwnRecs wr lo hi (.slice (some ⟨g, 0, none⟩) n cap) qs) (hqn : qs.length = n) (a b : Nat) (x y : Value) :
    ((wr.setCell ⟨g, a, none⟩ x).setCell ⟨g, b, none⟩ y).ownsRow lo 3 1 u r0.2.2.length (r0.2.2.map (Value.int .i64)) := by
  obtain ⟨row, hgb, inn⟩ := ho
  rw [hqn] at row
  have a1 := row.stored a x
  have a2 := a1.1.stored b y
  obtain ⟨cur, hcur⟩ := row_block row
  have hug := inn.apart hcur (by decide) (r0, u) (List.mem_of_getElem? hq)
  exact ((inn.2.1 (r0, u) (List.mem_of_getElem? hq)).1.kept a1.2 (Or.inr hug)).kept a2.2 (Or.inr hug)

set_option maxHeartbeats 2000000 in
theorem markRecs_any (v : Value) (ps : List (R × Value)) (k : Int) (lo hi : Nat) (w : World) (ho : OwnRecs w lo hi v ps) (hl : tot (ps.map (·.1)) ≤ 1048576) (hk0 : 0 ≤ k) (hk1 : k ≤ 1000) :
    Calls Tryd.prog 63 #[v, .int .i64 k] w fun e w' => e = .returned (.int .i64 (kAt (ps.map (·.1)) k ps.length)) ∧ OwnRecs w' lo hi v (stg ps k ps.length) ∧ Mid lo hi w w' := by
  have hlen := tot_len (ps.map (·.1))
  rw [List.length_map] at hlen
  by_cases h0 : ps.length = 0
  · obtain rfl : ps = [] := List.length_eq_zero_iff.1 h0
    have HO : Hid (OwnRecs w lo hi v (stg [] k 0)) := by show OwnRecs _ _ _ _ _; rw [stg_zero]; exact ho
    obtain ⟨ao, cap, rfl⟩ := row_shape ho.1
    clear ho
    go_enter Tryd.func63, Tryd.ntmps63
    go_wp2
    refine wp_loop_rounds 1 ?_
    rw [rounds_succ]
    go_wp2
    go_ret
    exact ⟨by simp [kAt, pre], HO.out, Mid.refl _ _ _⟩
  obtain ⟨g, cap, rfl⟩ : ∃ g cap, v = .slice (some ⟨g, 0, none⟩) ps.length cap := by
    rcases ho.1.2 with ⟨_, hn0⟩ | ⟨g, cap, cur, h, _⟩
    · exact absurd hn0 h0
    · exact ⟨g, cap, h⟩
  have H0 : Hid (OwnRecs w lo hi (.slice (some ⟨g, 0, none⟩) ps.length cap) (stg ps k 0)) := by show OwnRecs _ _ _ _ _; rw [stg_zero]; exact ho
  clear ho
  go_enter Tryd.func63, Tryd.ntmps63
  go_wp2
  go_loopw [1, 5] (fun q i wr => ∃ (j : Nat) (K : Int), j ≤ ps.length ∧ i = .int .i64 j ∧ q = .int .i64 K ∧ Hid (K = kAt (ps.map (·.1)) k j) ∧ Hid (OwnRecs wr lo hi (.slice (some ⟨g, 0, none⟩) ps.length cap) (stg ps k j)) ∧ Hid (Mid lo hi w wr)) (fun _ i _ => ps.length - (intOf i).toNat)
  case atStart => exact ⟨0, k, Nat.zero_le _, rfl, rfl, (kAt_zero _ _).symm, H0, Mid.refl _ _ _⟩
  case round =>
    obtain ⟨j, K, hj, rfl, rfl, HK, HO, HM⟩ := hrel
    have hKb : 0 ≤ K ∧ K ≤ 900000000 := by rw [HK.out]; exact kAt_bd _ k j (by rw [List.length_map]; exact hj) hl hk0 hk1
    by_cases hlt : j < ps.length
    · obtain ⟨p, hp⟩ : ∃ p, Hid (ps[j]? = some p) := ⟨ps[j], by show _ = _; simp [hlt]⟩
      have HS : Hid ((stg ps k j)[j]? = some (p.1, p.2)) := by
        have := stg_get ps k j j p hp.out
        rw [if_neg (by omega)] at this
        exact this
      have HPM : Hid ((ps.map (·.1))[j]? = some p.1) := by show _ = _; rw [List.getElem?_map, hp.out]; rfl
      have hpl : p.1.2.2.length ≤ 1048576 := Nat.le_trans (tot_mem _ _ (List.mem_of_getElem? HPM.out)) hl
      have row := HO.out.1
      rw [stg_length] at row
      obtain ⟨f0, f1, f2⟩ := flat_get _ j _ HS.out
      have c0 : wr.cell? ⟨g, j * 3, none⟩ = some (.int .i64 p.1.1) := by rw [row.cellAt _ (by omega)]; exact f0
      have c1 : wr.cell? ⟨g, j * 3 + 1, none⟩ = some (.int .i64 p.1.2.1) := by rw [row.cellAt _ (by omega)]; exact f1
      have c2 : wr.cell? ⟨g, j * 3 + 2, none⟩ = some p.2 := by rw [row.cellAt _ (by omega)]; exact f2
      have z0 := row.frozenAt (j * 3)
      have z1 := row.frozenAt (j * 3 + 1)
      clear row f0 f1 f2
      go_wp2_with fail
      have INN := hide_it (mark_inner HS.out HO.out (stg_length ps k j) (j * 3) (j * 3 + 1) (.int .i64 K) (.int .i64 (K + 1)))
      refine (markInts_any p.2 _ (K + 1 + 1) lo p.1.2.2.length _ INN.out hpl (by omega) (by omega)).mono ?_
      rintro e w3 ⟨rfl, hown3, hg3⟩
      have ST := mark_step (r := markR p.1 K) (w3 := w3) HS.out HO.out (stg_length ps k j) rfl (by
        show World.ownsRow _ _ _ _ _ (markI p.1.2.2.length (K + 2)).length ((markI p.1.2.2.length (K + 2)).map (Value.int .i64))
        rw [markI_length, show K + 2 = K + 1 + 1 by omega]; exact hown3) hg3
      have HO3 : Hid (OwnRecs w3 lo hi (.slice (some ⟨g, 0, none⟩) ps.length cap) (stg ps k (j + 1))) := by
        show OwnRecs _ _ _ _ _
        rw [stg_succ ps k j p hp.out, ← HK.out]; exact ST.1
      have HM3 : Hid (Mid lo hi w w3) := HM.out.trans ST.2
      have HK3 : Hid (K + 1 + 1 + p.1.2.2.length = kAt (ps.map (·.1)) k (j + 1)) := by
        show _ = _
        rw [kAt_succ _ k j p.1 HPM.out, ← HK.out]; omega
      clear ST hown3 hg3
      go_wp2
      go_roundw
      case rel => exact ⟨j + 1, _, by omega, by go_num, rfl, HK3, HO3, HM3⟩
      case measure => simp [intOf]; omega
    · have HJ : Hid (j = ps.length) := by show _ = _; omega
      have HO2 : Hid (OwnRecs wr lo hi (.slice (some ⟨g, 0, none⟩) ps.length cap) (stg ps k ps.length)) := by
        have := HO.out; rw [HJ.out] at this; exact this
      have HK2 : Hid (kAt (ps.map (·.1)) k ps.length = K) := by show _ = _; rw [HK.out, HJ.out]
      go_wp2
      go_ret
      exact ⟨by rw [HK2.out]; rfl, HO2.out, HM.out⟩

theorem markLog_any (v : Value) (ps : List (R × Value)) (f k : Int) (lo hi : Nat) (w : World) (ho : OwnRecs w lo hi v ps) (hl : tot (ps.map (·.1)) ≤ 1048576) (hk0 : 0 ≤ k) (hk1 : k ≤ 1000) :
    Calls Tryd.prog 39 #[.agg #[v, .int .i64 f], .int .i64 k] w fun e w' => e = .returned (.int .i64 (kAt (ps.map (·.1)) k ps.length)) ∧ OwnRecs w' lo hi v (stg ps k ps.length) ∧ Mid lo hi w w' := by
  have HS : Hid (∀ o, Calls Tryd.prog 63 #[v, .int .i64 k] (w.alloc o) fun e w' => e = .returned (.int .i64 (kAt (ps.map (·.1)) k ps.length)) ∧ OwnRecs w' lo hi v (stg ps k ps.length) ∧ Mid lo hi w w') := fun o => by
    have hb := (Below.refl w.heap.size w).alloc (Nat.le_refl _) o
    refine (markRecs_any v ps k lo hi (w.alloc o) (ho.below hb ho.2.2.1) hl hk0 hk1).mono ?_
    rintro e w' ⟨h1, h2, h3⟩
    exact ⟨h1, h2, (Mid.of_below hb (Nat.le_refl _)).trans h3⟩
  obtain ⟨ao, cap, rfl⟩ := row_shape ho.1
  clear ho
  go_enter Tryd.func39, Tryd.ntmps39
  go_wp2_with (go_at_call 63; refine (HS.out _).mono ?_; rintro e w1 ⟨rfl, h2, h3⟩)
  go_ret
  exact ⟨rfl, by assumption, by assumption⟩

set_option maxHeartbeats 2000000 in
theorem heldRecs_any (v : Value) (rs : List R) (k : Int) (w : World) (hv : Recs w v (markAll rs k)) (hl : tot rs ≤ 1048576) (hk0 : 0 ≤ k) (hk1 : k ≤ 1000) :
    Calls Tryd.prog 66 #[v, .int .i64 k] w fun e w' => e = .returned (.int .i64 (kAt rs k rs.length)) ∧ w' = w := by
  have hlen := tot_len rs
  rcases hv with ⟨hz, ao, cap, rfl⟩ | ⟨b, off, cap, rfl, hz, hc⟩
  · have h0 : rs.length = 0 := by have := congrArg List.length hz; rw [markAll_length] at this; simpa using this
    obtain rfl : rs = [] := List.length_eq_zero_iff.1 h0
    clear hz h0
    go_enter Tryd.func66, Tryd.ntmps66
    go_wp2
    refine wp_loop_rounds 1 ?_
    rw [rounds_succ]
    go_wp2
    go_ret
    exact ⟨by simp [kAt, pre], rfl⟩
  rw [markAll_length]
  have HC : Hid (∀ i r, rs[i]? = some r → ∃ u, RecCells w b (off + i * 3) (markR r (kAt rs k i)) u) := fun i r hr => hc i _ (markAll_get rs k i r hr)
  clear hc hz
  go_enter Tryd.func66, Tryd.ntmps66
  go_wp2
  go_loop [1, 5] (fun q i => ∃ (j : Nat) (K : Int), j ≤ rs.length ∧ i = .int .i64 j ∧ q = .int .i64 K ∧ Hid (K = kAt rs k j)) (fun _ i => rs.length - (intOf i).toNat)
  case atStart => exact ⟨0, k, Nat.zero_le _, rfl, rfl, (kAt_zero _ _).symm⟩
  case round =>
    obtain ⟨j, K, hj, rfl, rfl, HK⟩ := hrel
    have hKb : 0 ≤ K ∧ K ≤ 900000000 := by rw [HK.out]; exact kAt_bd _ k j hj hl hk0 hk1
    by_cases hlt : j < rs.length
    · obtain ⟨r, hr⟩ : ∃ r, Hid (rs[j]? = some r) := ⟨rs[j], by show _ = _; simp [hlt]⟩
      have hrl : r.2.2.length ≤ 1048576 := Nat.le_trans (tot_mem _ _ (List.mem_of_getElem? hr.out)) hl
      obtain ⟨u, hu⟩ := HC.out j r hr.out
      rw [← HK.out] at hu
      obtain ⟨c0, c1, c2, hI⟩ := hu
      have d0 : w.cell? ⟨b, off + j * 3, none⟩ = some (.int .i64 K) := c0
      have d1 : w.cell? ⟨b, off + j * 3 + 1, none⟩ = some (.int .i64 (K + 1)) := c1
      have HI : Hid (Ints w u (markI r.2.2.length (K + 1 + 1))) := by
        have h : Ints w u (markI r.2.2.length (K + 2)) := hI
        rw [show K + 2 = K + 1 + 1 by omega] at h; exact h
      have HK3 : Hid (K + 1 + 1 + r.2.2.length = kAt rs k (j + 1)) := by
        show _ = _
        rw [kAt_succ _ k j r hr.out, ← HK.out]; omega
      clear c0 c1 hI
      go_wp2_with fail
      refine (heldInts_any u r.2.2.length (K + 1 + 1) w HI.out hrl (by omega) (by omega)).mono ?_
      rintro e w1 ⟨rfl, rfl⟩
      go_wp2
      go_round
      case rel => exact ⟨j + 1, _, by omega, by go_num, rfl, HK3⟩
      case measure => simp [intOf]; omega
    · have HK2 : Hid (kAt rs k rs.length = K) := by
        show _ = _
        have hje : j = rs.length := by omega
        rw [HK.out, hje]
      go_wp2
      go_ret
      exact ⟨by rw [HK2.out]; rfl, rfl⟩

theorem heldLog_any (v : Value) (rs : List R) (f k : Int) (w : World) (hv : Recs w v (markAll rs k)) (hl : tot rs ≤ 1048576) (hk0 : 0 ≤ k) (hk1 : k ≤ 1000) :
    Calls Tryd.prog 45 #[.agg #[v, .int .i64 f], .int .i64 k] w fun e w' => e = .returned (.int .i64 (kAt rs k rs.length)) ∧ Below w.heap.size w w' := by
  have hKb := kAt_bd rs k rs.length (Nat.le_refl _) hl hk0 hk1
  have HS : Hid (∀ o, Calls Tryd.prog 66 #[v, .int .i64 k] (w.alloc o) fun e w' => e = .returned (.int .i64 (kAt rs k rs.length)) ∧ w' = w.alloc o) := fun o =>
    heldRecs_any v rs k (w.alloc o) (hv.later ((Below.refl _ _).alloc (Nat.le_refl _) o) (Nat.le_refl _)) hl hk0 hk1
  obtain ⟨ao, cap, rfl⟩ := hv.shape
  clear hv
  go_enter Tryd.func45, Tryd.ntmps45
  go_wp2_with (go_at_call 66; refine (HS.out _).mono ?_; rintro e w1 ⟨rfl, rfl⟩)
  go_ret
  exact ⟨rfl, (Below.refl _ _).alloc (Nat.le_refl _) _⟩

end Go.Proofs.YtogfpnenoeonoaaDoor

namespace Go.Proofs.YtogfpnenoeonoaaDoor
open Go.RowKit

theorem alloc_below (w : World) (o : Obj) : Below w.heap.size w (w.alloc o) := (Below.refl _ _).alloc (Nat.le_refl _) o
theorem below_after {w : World} {o : Obj} {w' : World} (h : Below (w.alloc o).heap.size (w.alloc o) w') : Below w.heap.size w w' :=
  (alloc_below w o).trans (h.mono (by simp))

set_option maxHeartbeats 2000000 in
theorem entry_any (k t : Int) (v : Value) (zs : List Int) (a : Addr) (w : World) (hv : Ints w v zs) (hl : zs.length ≤ 1048576) (ha : ErrAt w a) :
    Calls Tryd.prog 81 #[.agg #[.int .i64 k, .int .i64 t, v]] w fun e w' => (∃ ent, e = .returned (.tuple #[ent, errV (Pl.recOk k t zs) a])) ∧ Below w.heap.size w w' := by
  have hv1 : Hid (∀ o, Ints (w.alloc o) v zs) := fun o => hv.later (alloc_below w o) (Nat.le_refl _)
  have ha1 : Hid (∀ o, ErrAt (w.alloc o) a) := fun o => ha.later (alloc_below w o) (Nat.le_refl _)
  have hb0 : 0 < w.heap.size := World.block_lt_of_cell? _ _ ha
  unfold ErrAt at ha
  clear hv
  by_cases ht1 : t < 1
  · have HE : Hid (errV (Pl.recOk k t zs) a = .iface 152 (.pointer (some a))) := by
      show _ = _; rw [Pl.recOk_t k t zs (Pl.inB_lo ht1)]; rfl
    go_enter Tryd.func81, Tryd.ntmps81
    go_wp2
    go_quiet (fail)
    go_wp2
    go_ret2
    exact ⟨⟨_, by rw [HE.out]; rfl⟩, below_drewN (alloc_below _ _) _⟩
  by_cases ht6 : 6 < t
  · have HE : Hid (errV (Pl.recOk k t zs) a = .iface 152 (.pointer (some a))) := by
      show _ = _; rw [Pl.recOk_t k t zs (Pl.inB_hi ht6)]; rfl
    go_enter Tryd.func81, Tryd.ntmps81
    go_wp2
    go_quiet (fail)
    go_wp2
    go_ret2
    exact ⟨⟨_, by rw [HE.out]; rfl⟩, below_drewN (alloc_below _ _) _⟩
  have HT : Hid (Pl.inB t 1 6 = true) := Pl.inB_mk (by omega) (by omega)
  by_cases h1 : k = 1
  · subst h1
    have HE : Hid (Pl.recOk 1 t zs = Pl.holdOk zs) := Pl.recOk_1 t zs HT.out
    go_enter Tryd.func81, Tryd.ntmps81
    go_wp2_with (go_at_call 89; refine (hold_any _ _ zs a _ (hv1.out _) (ha1.out _)).mono ?_; rintro e w' ⟨⟨ent, rfl⟩, hb⟩)
    go_ret2
    exact ⟨⟨_, by rw [HE.out]; rfl⟩, below_after (by assumption)⟩
  by_cases h4 : k = 4
  · subst h4
    have HE : Hid (Pl.recOk 4 t zs = Pl.manyOk zs) := Pl.recOk_4 t zs HT.out
    go_enter Tryd.func81, Tryd.ntmps81
    go_wp2_with (go_at_call 90; refine (begin_any _ _ zs a _ (hv1.out _) hl (ha1.out _)).mono ?_; rintro e w' ⟨⟨ent, rfl⟩, hb⟩)
    go_ret2
    exact ⟨⟨_, by rw [HE.out]; rfl⟩, below_after (by assumption)⟩
  cases hk : Pl.inB k 2 7
  · have HE : Hid (errV (Pl.recOk k t zs) a = .iface 152 (.pointer (some a))) := by
      show _ = _; rw [Pl.recOk_none k t zs HT.out h1 h4 hk]; rfl
    have hk' := Pl.inB_false hk
    have h2 : ¬ k = 2 := by omega
    have h3 : ¬ k = 3 := by omega
    have h5 : ¬ k = 5 := by omega
    have h6 : ¬ k = 6 := by omega
    have h7 : ¬ k = 7 := by omega
    clear hk' hk
    go_enter Tryd.func81, Tryd.ntmps81
    go_wp2
    go_quiet (fail)
    go_wp2
    go_ret2
    exact ⟨⟨_, by rw [HE.out]; rfl⟩, below_drewN (alloc_below _ _) _⟩
  · have HE : Hid (Pl.recOk k t zs = (zs.length == 0)) := Pl.recOk_plain k t zs HT.out h1 h4 hk
    have hk' := Pl.inB_true hk
    clear hk
    rcases (show k = 2 ∨ k = 3 ∨ k = 5 ∨ k = 6 ∨ k = 7 by omega) with rfl | rfl | rfl | rfl | rfl
    all_goals
      clear hk' h1 h4
      go_enter Tryd.func81, Tryd.ntmps81
      go_wp2_with (go_at_call 91; refine (plain_any _ _ _ zs a _ (hv1.out _) (ha1.out _)).mono ?_; rintro e w' ⟨⟨ent, rfl⟩, hb⟩)
      go_ret2
      exact ⟨⟨_, by rw [HE.out]; rfl⟩, below_after (by assumption)⟩

theorem entry_yes (k t : Int) (v : Value) (zs : List Int) (a : Addr) (w : World) (hv : Ints w v zs) (hl : zs.length ≤ 1048576) (ha : ErrAt w a) (h : Pl.recOk k t zs = true) :
    Calls Tryd.prog 81 #[.agg #[.int .i64 k, .int .i64 t, v]] w fun e w' => (∃ ent, e = .returned (.tuple #[ent, .nilIface])) ∧ Below w.heap.size w w' := by
  have := entry_any k t v zs a w hv hl ha
  rw [h] at this
  exact this
theorem entry_no (k t : Int) (v : Value) (zs : List Int) (a : Addr) (w : World) (hv : Ints w v zs) (hl : zs.length ≤ 1048576) (ha : ErrAt w a) (h : Pl.recOk k t zs = false) :
    Calls Tryd.prog 81 #[.agg #[.int .i64 k, .int .i64 t, v]] w fun e w' => (∃ ent, e = .returned (.tuple #[ent, .iface 152 (.pointer (some a))])) ∧ Below w.heap.size w w' := by
  have := entry_any k t v zs a w hv hl ha
  rw [h] at this
  exact this

set_option maxHeartbeats 1000000 in
theorem implOk_any (k t : Int) (v : Value) (zs : List Int) (a : Addr) (w : World) (hv : Ints w v zs) (hl : zs.length ≤ 1048576) (ha : ErrAt w a) :
    Calls Tryd.prog 71 #[.agg #[.int .i64 k, .int .i64 t, v]] w fun e w' => e = .returned (.bool (Pl.recOk k t zs)) ∧ Below w.heap.size w w' := by
  have hv1 : Hid (∀ o, Ints (w.alloc o) v zs) := fun o => hv.later (alloc_below w o) (Nat.le_refl _)
  have ha1 : Hid (∀ o, ErrAt (w.alloc o) a) := fun o => ha.later (alloc_below w o) (Nat.le_refl _)
  clear hv ha
  cases hr : Pl.recOk k t zs
  · have HR : Hid (Pl.recOk k t zs = false) := hr
    clear hr
    go_enter Tryd.func71, Tryd.ntmps71
    go_wp2_with (first
      | (go_at_call 81; refine (entry_no k t v zs a _ (hv1.out _) hl (ha1.out _) HR.out).mono ?_; rintro e w1 ⟨⟨ent, rfl⟩, hb⟩; have ha2 := (ha1.out _).later hb (Nat.le_refl _); unfold ErrAt at ha2)
      | (go_at_call 82; refine (is_same a _).mono ?_; rintro e w2 ⟨rfl, rfl⟩))
    go_ret
    exact ⟨rfl, below_after (by assumption)⟩
  · have HR : Hid (Pl.recOk k t zs = true) := hr
    clear hr
    go_enter Tryd.func71, Tryd.ntmps71
    go_wp2_with (first
      | (go_at_call 81; refine (entry_yes k t v zs a _ (hv1.out _) hl (ha1.out _) HR.out).mono ?_; rintro e w1 ⟨⟨ent, rfl⟩, hb⟩; have ha2 := (ha1.out _).later hb (Nat.le_refl _); unfold ErrAt at ha2)
      | (go_at_call 82; refine (is_nil a _).mono ?_; rintro e w2 ⟨rfl, rfl⟩))
    go_ret
    exact ⟨rfl, below_after (by assumption)⟩

end Go.Proofs.YtogfpnenoeonoaaDoor

namespace Go.Proofs.YtogfpnenoeonoaaDoor
open Go.RowKit

set_option maxHeartbeats 2000000 in
theorem specOk_any (k t : Int) (v : Value) (zs : List Int) (w : World) (hv : Ints w v zs) (hl : zs.length ≤ 1048576) :
    Calls Tryd.prog 50 #[.agg #[.int .i64 k, .int .i64 t, v]] w fun e w' => e = .returned (.bool (Pl.recOk k t zs)) ∧ Below w.heap.size w w' := by
  have hv1 : Hid (∀ o, Ints (w.alloc o) v zs) := fun o => hv.later (alloc_below w o) (Nat.le_refl _)
  cases hT : Pl.inB t 1 6
  · have HE : Hid (Pl.recOk k t zs = false) := Pl.recOk_t k t zs hT
    clear hv
    go_enter Tryd.func50, Tryd.ntmps50
    go_wp2_with (go_at_call 53; refine (in_any _ _ _ _).mono ?_; rintro e w1 ⟨rfl, rfl⟩)
    go_ret
    exact ⟨by rw [HE.out]; rfl, alloc_below _ _⟩
  have HT : Hid (Pl.inB t 1 6 = true) := hT
  by_cases h1 : k = 1
  · subst h1
    have HE : Hid (Pl.recOk 1 t zs = Pl.holdOk zs) := Pl.recOk_1 t zs HT.out
    by_cases hz : zs.length = 1
    · obtain ⟨z, rfl⟩ := List.length_eq_one_iff.1 hz
      rcases hv with ⟨h, _⟩ | ⟨b, off, cap, rfl, hz, hc⟩
      · simp at h
      have hc0 : w.cell? ⟨b, off, none⟩ = some (.int .i64 z) := hc 0 (by simp)
      have hbw : b < w.heap.size := World.block_lt_of_cell? _ _ hc0
      have HH : Hid (Pl.holdOk [z] = Pl.inB z 1 3) := by show _ = _; simp [Pl.holdOk]
      clear hc hz hl
      go_enter Tryd.func50, Tryd.ntmps50
      go_wp2_with (go_at_call 53; refine (in_any _ _ _ _).mono ?_; rintro e w1 ⟨rfl, rfl⟩)
      go_ret
      exact ⟨by rw [HE.out, HH.out]; rfl, alloc_below _ _⟩
    · have HH : Hid (Pl.holdOk zs = false) := by show _ = _; simp [Pl.holdOk, hz]
      have hne : ¬ (zs.length : Int) = 1 := by omega
      obtain ⟨ao, cap, rfl⟩ := hv.shape
      clear hv hz
      go_enter Tryd.func50, Tryd.ntmps50
      go_wp2_with (go_at_call 53; refine (in_any _ _ _ _).mono ?_; rintro e w1 ⟨rfl, rfl⟩)
      go_ret
      exact ⟨by rw [HE.out, HH.out]; rfl, alloc_below _ _⟩
  by_cases h4 : k = 4
  · subst h4
    have HE : Hid (Pl.recOk 4 t zs = Pl.manyOk zs) := Pl.recOk_4 t zs HT.out
    clear hv
    go_enter Tryd.func50, Tryd.ntmps50
    go_wp2_with (first
      | (go_at_call 53; refine (in_any _ _ _ _).mono ?_; rintro e w1 ⟨rfl, rfl⟩)
      | (go_at_call 69; refine (many_any _ zs _ (hv1.out _) hl).mono ?_; rintro e w1 ⟨rfl, rfl⟩))
    go_ret
    exact ⟨by rw [HE.out]; rfl, alloc_below _ _⟩
  have HE : Hid (Pl.recOk k t zs = (Pl.inB k 2 7 && (zs.length == 0))) := Pl.recOk_p k t zs HT.out h1 h4
  obtain ⟨ao, cap, rfl⟩ := hv.shape
  clear hv
  cases hk : Pl.inB k 2 7
  · rw [hk] at HE
    go_enter Tryd.func50, Tryd.ntmps50
    go_wp2_with (go_at_call 53; refine (in_any _ _ _ _).mono ?_; rintro e w1 ⟨rfl, rfl⟩)
    go_ret
    exact ⟨by rw [HE.out]; rfl, alloc_below _ _⟩
  · rw [hk] at HE
    have HZ : Hid ((zs.length == 0) = ((zs.length : Int) == 0)) := by
      show _ = _
      rw [Bool.eq_iff_iff]; simp
    go_enter Tryd.func50, Tryd.ntmps50
    go_wp2_with (go_at_call 53; refine (in_any _ _ _ _).mono ?_; rintro e w1 ⟨rfl, rfl⟩)
    go_ret
    exact ⟨by rw [HE.out, HZ.out]; rfl, alloc_below _ _⟩

end Go.Proofs.YtogfpnenoeonoaaDoor

namespace Go.Proofs.YtogfpnenoeonoaaDoor
open Go.RowKit

def rOk (r : R) : Bool := Pl.recOk r.1 r.2.1 r.2.2
def logOk (rs : List R) (f : Int) : Bool := rs.all rOk && (decide (rs.length ≤ 40) && Pl.inB f 0 rs.length)

theorem all_snocR (rs : List R) (k : Nat) (r : R) (h : rs[k]? = some r) : (rs.take (k + 1)).all rOk = ((rs.take k).all rOk && rOk r) := by
  have hk : k < rs.length := by
    by_cases hk : k < rs.length
    · exact hk
    · rw [List.getElem?_eq_none (by omega)] at h; cases h
  rw [List.getElem?_eq_getElem hk] at h
  simp only [Option.some.injEq] at h
  rw [List.take_succ_eq_append_getElem hk, h]
  simp
theorem all_badR (rs : List R) (k : Nat) (r : R) (h : rs[k]? = some r) (hb : rOk r = false) : rs.all rOk = false := by
  rw [List.all_eq_false]
  exact ⟨r, List.mem_of_getElem? h, by rw [hb]; decide⟩

theorem box2 (w : World) (x y : Value) (ty : TypeId) : (w.alloc (.cells #[x, y] ty)).cell? ⟨w.heap.size, 0, none⟩ = some x ∧ (w.alloc (.cells #[x, y] ty)).cell? ⟨w.heap.size, 1, none⟩ = some y := by
  constructor <;> simp

/-- Two cells of one block, as they stay while nothing below turns. -/
def Two (w : World) (b : Nat) (x y : Value) : Prop := w.cell? ⟨b, 0, none⟩ = some x ∧ w.cell? ⟨b, 1, none⟩ = some y
theorem Two.later {B : Nat} {w w' : World} {b : Nat} {x y : Value} (h : Two w b x y) (hb : Below B w w') (hB : w.heap.size ≤ B) : Two w' b x y := by
  obtain ⟨h0, h1⟩ := h
  have hlt := World.block_lt_of_cell? _ _ h0
  simp at hlt
  exact ⟨by rw [← h0]; exact hb.cell (p := ⟨b, 0, none⟩) (by simp; omega), by rw [← h1]; exact hb.cell (p := ⟨b, 1, none⟩) (by simp; omega)⟩

set_option maxHeartbeats 1000000 in
theorem specLogOk_any (v : Value) (rs : List R) (f : Int) (w : World) (hv : Recs w v rs) (hl : tot rs ≤ 1048576) :
    Calls Tryd.prog 29 #[.agg #[v, .int .i64 f]] w fun e w' => e = .returned (.bool (logOk rs f)) ∧ Below w.heap.size w w' := by
  have hlen := tot_len rs
  have HM : Hid (∀ r ∈ rs, r.2.2.length ≤ 1048576) := fun r hr => Nat.le_trans (tot_mem rs r hr) hl
  have H0 : Hid (Two (w.alloc (.cells #[v, .int .i64 f] 32)) w.heap.size v (.int .i64 f)) := box2 w _ _ _
  rcases hv with ⟨rfl, ao, cap, rfl⟩ | ⟨b, off, cap, rfl, hz, hc⟩
  · have HE : Hid (logOk [] f = Pl.inB f 0 0) := by show _ = _; simp [logOk]
    go_enter Tryd.func29, Tryd.ntmps29
    go_wp2
    refine wp_loop_rounds 1 ?_
    rw [rounds_succ]
    go_wp2_with (go_at_call 53; refine (in_any _ _ _ _).mono ?_; rintro e w' ⟨rfl, rfl⟩)
    go_ret
    exact ⟨by rw [HE.out]; rfl, alloc_below _ _⟩
  have HC : Hid (∀ W, Below w.heap.size w W → ∀ i r, rs[i]? = some r → ∃ u, RecCells W b (off + i * 3) r u) := fun W h i r hr => by
    obtain ⟨u, hu⟩ := hc i r hr
    exact ⟨u, hu.later h (Nat.le_refl _)⟩
  have hzl : 0 < rs.length := List.length_pos_iff.2 hz
  clear hc hz
  go_enter Tryd.func29, Tryd.ntmps29
  go_wp2
  go_loopw [3] (fun i wr => ∃ k : Nat, k ≤ rs.length ∧ i = .int .i64 k ∧ Hid ((rs.take k).all rOk = true) ∧ Hid (Two wr w.heap.size (.slice (some ⟨b, off, none⟩) rs.length cap) (.int .i64 f)) ∧ Below w.heap.size w wr) (fun i _ => rs.length - (intOf i).toNat)
  case atStart => exact ⟨0, Nat.zero_le _, rfl, rfl, H0, alloc_below _ _⟩
  case round =>
    obtain ⟨k, hk, rfl, HA, HT, hbe⟩ := hrel
    obtain ⟨t0, t1⟩ := HT.out
    by_cases hlt : k < rs.length
    · obtain ⟨r, hr⟩ : ∃ r, Hid (rs[k]? = some r) := ⟨rs[k], by show _ = _; simp [hlt]⟩
      have hrl : r.2.2.length ≤ 1048576 := HM.out r (List.mem_of_getElem? hr.out)
      obtain ⟨u, c0, c1, c2, hI⟩ := HC.out wr hbe k r hr.out
      have HI : Hid (Ints wr u r.2.2) := hI
      have HB : Hid (Below w.heap.size w wr) := hbe
      clear hI hbe
      cases hok : rOk r
      · have HE : Hid (logOk rs f = false) := by show _ = _; unfold logOk; rw [all_badR rs k r hr.out hok]; rfl
        have hsp := specOk_any r.1 r.2.1 u r.2.2 wr HI.out hrl
        have hok' : Pl.recOk r.1 r.2.1 r.2.2 = false := hok
        rw [hok'] at hsp
        have HS := hsp
        clear hsp hok hok'
        go_wp2_with fail
        refine HS.mono ?_
        rintro e w2 ⟨rfl, hb2⟩
        go_wp2
        go_ret
        exact ⟨by rw [HE.out]; rfl, HB.out.trans (hb2.mono HB.out.size)⟩
      · have HA2 : Hid ((rs.take (k + 1)).all rOk = true) := by show _ = _; rw [all_snocR rs k r hr.out, HA.out, hok]; rfl
        have hsp := specOk_any r.1 r.2.1 u r.2.2 wr HI.out hrl
        have hok' : Pl.recOk r.1 r.2.1 r.2.2 = true := hok
        rw [hok'] at hsp
        have HS := hsp
        clear hsp hok hok'
        go_wp2_with fail
        refine HS.mono ?_
        rintro e w2 ⟨rfl, hb2⟩
        have HT2 := HT.out.later hb2 (Nat.le_refl _)
        have HB2 : Hid (Below w.heap.size w w2) := HB.out.trans (hb2.mono HB.out.size)
        have HT3 : Hid (Two w2 w.heap.size (.slice (some ⟨b, off, none⟩) rs.length cap) (.int .i64 f)) := HT2
        clear hb2 HT2
        go_wp2
        go_roundw
        case rel => exact ⟨k + 1, by omega, by go_num, HA2, HT3, HB2.out⟩
        case measure => simp [intOf]; omega
    · have HE : Hid (logOk rs f = (decide (rs.length ≤ 40) && Pl.inB f 0 rs.length)) := by
        show _ = _
        have hke : k = rs.length := by omega
        have := HA.out
        rw [hke, List.take_length] at this
        unfold logOk; rw [this]; rfl
      by_cases h40 : (rs.length : Int) ≤ 40
      · have HE2 : Hid (decide (rs.length ≤ 40) = true) := by show _ = _; simp; omega
        go_wp2_with (go_at_call 53; refine (in_any _ _ _ _).mono ?_; rintro e w' ⟨rfl, rfl⟩)
        go_ret
        exact ⟨by rw [HE.out, HE2.out]; rfl, hbe⟩
      · have HE2 : Hid (decide (rs.length ≤ 40) = false) := by show _ = _; simp; omega
        go_wp2_with (go_at_call 53; refine (in_any _ _ _ _).mono ?_; rintro e w' ⟨rfl, rfl⟩)
        go_ret
        exact ⟨by rw [HE.out, HE2.out]; rfl, hbe⟩

end Go.Proofs.YtogfpnenoeonoaaDoor

namespace Go.Proofs.YtogfpnenoeonoaaDoor
open Go.RowKit

theorem logOk_long {rs : List R} {f : Int} (h : 40 < (rs.length : Int)) : logOk rs f = false := by
  have : decide (rs.length ≤ 40) = false := by simp; omega
  unfold logOk; rw [this]; simp
theorem logOk_in {rs : List R} {f : Int} (h : Pl.inB f 0 rs.length = false) : logOk rs f = false := by
  unfold logOk; rw [h]; simp
theorem logOk_all {rs : List R} {f : Int} (h1 : (rs.length : Int) ≤ 40) (h2 : 0 ≤ f) (h3 : f ≤ rs.length) : logOk rs f = rs.all rOk := by
  have : decide (rs.length ≤ 40) = true := by simp; omega
  unfold logOk; rw [this, Pl.inB_mk h2 h3]; simp

set_option maxHeartbeats 2000000 in
theorem implLogOk_any (v : Value) (rs : List R) (f : Int) (a : Addr) (w : World) (hv : Recs w v rs) (hl : tot rs ≤ 1048576) (ha : ErrAt w a) :
    Calls Tryd.prog 56 #[.agg #[v, .int .i64 f]] w fun e w' => e = .returned (.bool (logOk rs f)) ∧ Below w.heap.size w w' := by
  have hlen := tot_len rs
  have HM : Hid (∀ r ∈ rs, r.2.2.length ≤ 1048576) := fun r hr => Nat.le_trans (tot_mem rs r hr) hl
  have HAe : Hid (∀ W, Below w.heap.size w W → ErrAt W a) := fun W h => ha.later h (Nat.le_refl _)
  clear ha
  by_cases h40 : 40 < (rs.length : Int)
  · have HE : Hid (logOk rs f = false) := logOk_long h40
    obtain ⟨ao, cap, rfl⟩ := hv.shape
    clear hv
    go_enter Tryd.func56, Tryd.ntmps56
    go_wp2
    go_ret
    exact ⟨by rw [HE.out]; rfl, alloc_below _ _⟩
  by_cases hf0 : f < 0
  · have HE : Hid (logOk rs f = false) := logOk_in (Pl.inB_lo hf0)
    obtain ⟨ao, cap, rfl⟩ := hv.shape
    clear hv
    go_enter Tryd.func56, Tryd.ntmps56
    go_wp2
    go_ret
    exact ⟨by rw [HE.out]; rfl, alloc_below _ _⟩
  by_cases hfn : (rs.length : Int) < f
  · have HE : Hid (logOk rs f = false) := logOk_in (Pl.inB_hi hfn)
    obtain ⟨ao, cap, rfl⟩ := hv.shape
    clear hv
    go_enter Tryd.func56, Tryd.ntmps56
    go_wp2
    go_ret
    exact ⟨by rw [HE.out]; rfl, alloc_below _ _⟩
  have HG : Hid (logOk rs f = rs.all rOk) := logOk_all (by omega) (by omega) (by omega)
  rcases hv with ⟨rfl, ao, cap, rfl⟩ | ⟨b, off, cap, rfl, hz, hc⟩
  · go_enter Tryd.func56, Tryd.ntmps56
    go_wp2
    refine wp_loop_rounds 1 ?_
    rw [rounds_succ]
    go_wp2
    go_ret
    exact ⟨by rw [HG.out]; rfl, alloc_below _ _⟩
  have HC : Hid (∀ W, Below w.heap.size w W → ∀ i r, rs[i]? = some r → ∃ u, RecCells W b (off + i * 3) r u) := fun W h i r hr => by
    obtain ⟨u, hu⟩ := hc i r hr
    exact ⟨u, hu.later h (Nat.le_refl _)⟩
  have hzl : 0 < rs.length := List.length_pos_iff.2 hz
  clear hc hz
  go_enter Tryd.func56, Tryd.ntmps56
  go_wp2
  go_loopw [25] (fun i wr => ∃ k : Nat, k ≤ rs.length ∧ i = .int .i64 k ∧ Hid ((rs.take k).all rOk = true) ∧ Below w.heap.size w wr) (fun i _ => rs.length - (intOf i).toNat)
  case atStart => exact ⟨0, Nat.zero_le _, rfl, rfl, alloc_below _ _⟩
  case round =>
    obtain ⟨k, hk, rfl, HA, hbe⟩ := hrel
    by_cases hlt : k < rs.length
    · obtain ⟨r, hr⟩ : ∃ r, Hid (rs[k]? = some r) := ⟨rs[k], by show _ = _; simp [hlt]⟩
      have hrl : r.2.2.length ≤ 1048576 := HM.out r (List.mem_of_getElem? hr.out)
      obtain ⟨u, c0, c1, c2, hI⟩ := HC.out wr hbe k r hr.out
      have hbw : b < wr.heap.size := World.block_lt_of_cell? _ _ c0
      have HI : Hid (∀ o, Ints (wr.alloc o) u r.2.2) := fun o => hI.later (alloc_below _ _) (Nat.le_refl _)
      have HB : Hid (∀ o, Below w.heap.size w (wr.alloc o)) := fun o => hbe.alloc hbe.size o
      have HAr : Hid (∀ o, ErrAt (wr.alloc o) a) := fun o => HAe.out _ (HB.out o)
      obtain ⟨ao, cp, rfl⟩ := hI.shape
      clear hI hbe
      cases hok : rOk r
      · have HE : Hid (rs.all rOk = false) := all_badR rs k r hr.out hok
        have HS : Hid (∀ o, Calls Tryd.prog 71 #[.agg #[.int .i64 r.1, .int .i64 r.2.1, .slice ao r.2.2.length cp]] (wr.alloc o) fun e w' => e = .returned (.bool false) ∧ Below (wr.alloc o).heap.size (wr.alloc o) w') := fun o => by
          have := implOk_any r.1 r.2.1 _ r.2.2 a (wr.alloc o) (HI.out o) hrl (HAr.out o)
          have hok' : Pl.recOk r.1 r.2.1 r.2.2 = false := hok
          rw [hok'] at this
          exact this
        clear hok
        go_wp2_with fail
        refine (HS.out _).mono ?_
        rintro e w2 ⟨rfl, hb2⟩
        have HB2 : Hid (Below w.heap.size w w2) := (HB.out _).trans (hb2.mono (HB.out _).size)
        clear hb2
        go_wp2
        go_ret
        exact ⟨by rw [HG.out, HE.out]; rfl, HB2.out⟩
      · have HA2 : Hid ((rs.take (k + 1)).all rOk = true) := by show _ = _; rw [all_snocR rs k r hr.out, HA.out, hok]; rfl
        have HS : Hid (∀ o, Calls Tryd.prog 71 #[.agg #[.int .i64 r.1, .int .i64 r.2.1, .slice ao r.2.2.length cp]] (wr.alloc o) fun e w' => e = .returned (.bool true) ∧ Below (wr.alloc o).heap.size (wr.alloc o) w') := fun o => by
          have := implOk_any r.1 r.2.1 _ r.2.2 a (wr.alloc o) (HI.out o) hrl (HAr.out o)
          have hok' : Pl.recOk r.1 r.2.1 r.2.2 = true := hok
          rw [hok'] at this
          exact this
        clear hok
        go_wp2_with fail
        refine (HS.out _).mono ?_
        rintro e w2 ⟨rfl, hb2⟩
        have HB2 : Hid (Below w.heap.size w w2) := (HB.out _).trans (hb2.mono (HB.out _).size)
        clear hb2
        go_wp2
        go_roundw
        case rel => exact ⟨k + 1, by omega, by go_num, HA2, HB2.out⟩
        case measure => simp [intOf]; omega
    · have HE : Hid (rs.all rOk = true) := by
        show _ = _
        have hke : k = rs.length := by omega
        have := HA.out
        rw [hke, List.take_length] at this
        exact this
      go_wp2
      go_ret
      exact ⟨by rw [HG.out, HE.out]; rfl, hbe⟩

end Go.Proofs.YtogfpnenoeonoaaDoor

namespace Go.Proofs.YtogfpnenoeonoaaDoor
open Go.RowKit

theorem size1 (w : World) (o : Obj) : (w.alloc o).heap.size = w.heap.size + 1 := by simp

/-- A result's block as it was laid: its two cells are there, and may be written. -/
def Zero2 (w : World) (b : Nat) : Prop := w.cell? ⟨b, 0, none⟩ = some (.slice none 0 0) ∧ w.cell? ⟨b, 1, none⟩ = some (.int .i64 0) ∧ w.frozen? ⟨b, 0, none⟩ = false ∧ w.frozen? ⟨b, 1, none⟩ = false
theorem Zero2.later {B : Nat} {w w' : World} {b : Nat} (h : Zero2 w b) (hb : Below B w w') (hB : b < B) : Zero2 w' b := by
  obtain ⟨h0, h1, h2, h3⟩ := h
  exact ⟨by rw [← h0]; exact hb.cell (p := ⟨b, 0, none⟩) hB, by rw [← h1]; exact hb.cell (p := ⟨b, 1, none⟩) hB, by rw [← h2]; exact hb.frozen (p := ⟨b, 0, none⟩) hB, by rw [← h3]; exact hb.frozen (p := ⟨b, 1, none⟩) hB⟩
theorem Zero2.new (w : World) (ty : TypeId) : Zero2 (w.alloc (.cells #[.slice none 0 0, .int .i64 0] ty)) w.heap.size := by
  refine ⟨?_, ?_, ?_, ?_⟩ <;> simp

theorem Zero2.new2 (w : World) (o : Obj) (ty : TypeId) : Zero2 ((w.alloc o).alloc (.cells #[.slice none 0 0, .int .i64 0] ty)) (w.heap.size + 1) := by
  have h := Zero2.new (w.alloc o) ty
  rw [size1] at h
  exact h

/-- A log comes back, in memory of the call's own. -/
def LogOut (w w' : World) (e : Ending) (rs : List R) (f : Int) : Prop :=
  ∃ ao cap, e = .returned (.agg #[.slice ao rs.length cap, .int .i64 f]) ∧ Made w' w.heap.size (.slice ao rs.length cap) rs ∧ Below w.heap.size w w'

theorem Made.lo {w : World} {lo lo' : Nat} {v : Value} {rs : List R} (h : Made w lo v rs) (hl : lo' ≤ lo) : Made w lo' v rs := by
  obtain ⟨ps, hp, h1, h2, h3⟩ := h
  exact ⟨ps, hp, ownsRow_base h1 hl, h2, h3.1, fun p hp => ⟨ownsRow_base (h3.2.1 p hp).1 hl, (h3.2.1 p hp).2⟩, h3.2.2⟩

theorem Made.none (w : World) (lo : Nat) : Made w lo (.slice none 0 0) [] :=
  ⟨[], rfl, World.ownsRow_nil _ _ _ _, fun k hk => by simp [Value.ownBlock] at hk, Inner.nil _ _ _ (Nat.le_refl _)⟩

set_option maxHeartbeats 1000000 in
theorem forced_any (v : Value) (rs : List R) (w : World) (hv : Recs w v rs) (hl : tot rs ≤ 1048576) :
    Calls Tryd.prog 65 #[v] w fun e w' => LogOut w w' e rs rs.length := by
  have HS : Hid (∀ o, Calls Tryd.prog 76 #[v] (w.alloc o) fun e w' => ∃ ao cap, e = .returned (.slice ao rs.length cap) ∧ Made w' (w.alloc o).heap.size (.slice ao rs.length cap) rs ∧ Below (w.alloc o).heap.size (w.alloc o) w') := fun o =>
    copyRecs_any v rs (w.alloc o) (hv.later (alloc_below w o) (Nat.le_refl _)) hl
  obtain ⟨av, cv, rfl⟩ := hv.shape
  clear hv
  go_enter Tryd.func65, Tryd.ntmps65
  go_wp2_with fail
  refine (HS.out _).mono ?_
  rintro e w1 ⟨ao, cap, rfl, hm, hb⟩
  obtain ⟨hc, hf⟩ := bcell hb
  have hz : w.heap.size + 1 ≤ w1.heap.size := by have := hb.size; simp at this; exact this
  rw [size1] at hc hf
  have HM := hide_it hm
  have HB := hide_it (below_after hb)
  clear hm hb
  go_wp2
  refine bodyPost_ret (v := .agg #[.slice ao rs.length cap, .int .i64 rs.length]) (by simp [results, Tryd.results65, go_sem, hc]) rfl ⟨ao, cap, rfl, ?_, ?_⟩
  · exact ((HM.out.setBelow (by simp) _).setBelow (by simp) _).lo (by simp)
  · exact (HB.out.setCell (by simp) _).setCell (by simp) _

/-- What a log is when all is forced. -/
def forceR (rs : List R) (f : Int) : List R := if logOk rs f then rs else []
def forceF (rs : List R) (f : Int) : Int := if logOk rs f then rs.length else 0

set_option maxHeartbeats 1000000 in
theorem implForce_any (v : Value) (rs : List R) (f : Int) (a : Addr) (w : World) (hv : Recs w v rs) (hl : tot rs ≤ 1048576) (ha : ErrAt w a) :
    Calls Tryd.prog 44 #[.agg #[v, .int .i64 f]] w fun e w' => LogOut w w' e (forceR rs f) (forceF rs f) := by
  have hrl := tot_len rs
  have HV : Hid (∀ W, Below w.heap.size w W → Recs W v rs) := fun W h => hv.later h (Nat.le_refl _)
  have HA : Hid (∀ W, Below w.heap.size w W → ErrAt W a) := fun W h => ha.later h (Nat.le_refl _)
  obtain ⟨av, cv, hvs⟩ := hv.shape
  have HT : Hid (∀ o, Two ((w.alloc (.cells #[v, .int .i64 f] 32)).alloc o) w.heap.size v (.int .i64 f)) := fun o => Two.later (show Two _ _ _ _ from box2 w _ _ _) (alloc_below _ o) (Nat.le_refl _)
  clear hv ha
  subst hvs
  have HS : Hid (∀ o1 o2, Calls Tryd.prog 56 #[.agg #[.slice av rs.length cv, .int .i64 f]] ((w.alloc o1).alloc o2) fun e w' => e = .returned (.bool (logOk rs f)) ∧ Below ((w.alloc o1).alloc o2).heap.size ((w.alloc o1).alloc o2) w') := fun o1 o2 =>
    implLogOk_any _ rs f a _ (HV.out _ (below2 w o1 o2)) hl (HA.out _ (below2 w o1 o2))
  cases hok : logOk rs f
  · have HR : Hid (forceR rs f = [] ∧ forceF rs f = 0) := by constructor <;> simp [forceR, forceF, hok]
    rw [hok] at HS
    clear hok
    go_enter Tryd.func44, Tryd.ntmps44
    go_wp2_with fail
    refine (HS.out _ _).mono ?_
    rintro e w1 ⟨rfl, hb⟩
    obtain ⟨hc, hf⟩ := bcell hb
    have hz : w.heap.size + 2 ≤ w1.heap.size := by have := hb.size; rw [size2] at this; exact this
    rw [size2] at hc hf
    have HB := hide_it ((below2 w _ _).trans (hb.mono (by simp; omega)))
    clear hb
    go_wp2
    refine bodyPost_ret (v := .agg #[.slice none 0 0, .int .i64 0]) (by simp [results, Tryd.results44, go_sem, hc]) rfl ?_
    unfold LogOut
    rw [HR.out.1, HR.out.2]
    refine ⟨none, 0, rfl, Made.none _ _, ?_⟩
    exact (HB.out.setCell (by simp) _).setCell (by simp) _
  · have HR : Hid (forceR rs f = rs ∧ forceF rs f = rs.length) := by constructor <;> simp [forceR, forceF, hok]
    rw [hok] at HS
    clear hok
    go_enter Tryd.func44, Tryd.ntmps44
    go_wp2_with fail
    refine (HS.out _ _).mono ?_
    rintro e w1 ⟨rfl, hb⟩
    have HB := hide_it ((below2 w _ _).trans (hb.mono (by simp; omega)))
    have HZ : Hid (Zero2 w1 (w.heap.size + 1)) := Zero2.later (by exact Zero2.new2 _ _ _) hb (by simp)
    obtain ⟨t0, t1⟩ := (HT.out _).later hb (Nat.le_refl _)
    have hz : w.heap.size + 2 ≤ w1.heap.size := by have := hb.size; rw [size2] at this; exact this
    clear hb
    go_wp2_with fail
    refine (forced_any _ rs w1 (HV.out _ HB.out) hl).mono ?_
    rintro e w2 ⟨ao, cap, rfl, hm, hb2⟩
    have HM := hide_it hm
    have HB2 := hide_it (HB.out.trans (hb2.mono HB.out.size))
    obtain ⟨r0, r1, z0, z1⟩ := HZ.out.later hb2 (by omega)
    clear hm hb2
    go_wp2
    refine bodyPost_ret (v := .agg #[.slice ao rs.length cap, .int .i64 rs.length]) (by simp [results, Tryd.results44, go_sem, r0, r1]) rfl ?_
    unfold LogOut
    rw [HR.out.1, HR.out.2]
    refine ⟨ao, cap, rfl, ?_, ?_⟩
    · exact ((HM.out.setBelow (by simp; omega) _).setBelow (by simp; omega) _).lo (by omega)
    · exact (HB2.out.setCell (by simp) _).setCell (by simp) _

end Go.Proofs.YtogfpnenoeonoaaDoor

namespace Go.Proofs.YtogfpnenoeonoaaDoor
open Go.RowKit

theorem bcellB {B : Nat} {W w1 : World} (hb : Below B W w1) : (∀ b o, b < B → w1.cell? ⟨b, o, none⟩ = W.cell? ⟨b, o, none⟩) ∧ (∀ b o, b < B → w1.frozen? ⟨b, o, none⟩ = W.frozen? ⟨b, o, none⟩) :=
  ⟨fun b o h => hb.cell (p := ⟨b, o, none⟩) h, fun b o h => hb.frozen (p := ⟨b, o, none⟩) h⟩

theorem wpList_append_ints {ops : Array Oper} {rest : List Oper} {o : Oper} {a : Act} {w : World} {Q : Exit → Act → World → Prop} (hgd : o.guard = none) (s x : Operand)
    (ho : o.op = .call { callee := .builtin .append, args := #[s, x], argTypes := #[68, 68] })
    (base : Nat) (v xv : Value) (n : Nat) (xs : List Value) (zs : List Int) (hs : a.eval s = v) (hx : a.eval x = xv) (hown : w.ownsRow base 3 1 v n xs) (hI : Ints w xv zs) (hb : n + zs.length ≤ 16777216) (hbase : base ≤ w.heap.size)
    (h : ∀ ao cap w', w'.ownsRow base 3 1 (.slice ao (n + zs.length) cap) (n + zs.length) (xs ++ zs.map (Value.int .i64)) → w.grownBy w' v.ownBlock → wpList Tryd.prog ops Q rest (a.put o.dst (.slice ao (n + zs.length) cap)) w') :
    wpList Tryd.prog ops Q (o :: rest) a w := by
  refine wpList_plain hgd fun K hK' => ?_
  obtain ⟨v', w', hrun, r1, r2⟩ := run_append_ints w base o.type v xv n xs zs hown hI hb hbase
  obtain ⟨ao, cap, rfl⟩ := row_shape r1
  unfold Oper.wp
  simp [execOp, ho, resolve, invoke, builtin, hs, hx, hrun, Result.andThen]
  exact hK' _ _ (h ao cap w' r1 r2)

set_option maxHeartbeats 2000000 in
theorem specCopy_any (k t : Int) (u : Value) (zs : List Int) (w : World) (hI : Ints w u zs) (hl : zs.length ≤ 1048576) :
    Calls Tryd.prog 78 #[.agg #[.int .i64 k, .int .i64 t, u]] w fun e w' => ∃ ao cap, e = .returned (.agg #[.int .i64 k, .int .i64 t, .slice ao zs.length cap]) ∧
      w'.ownsRow (w.heap.size + 2) 3 1 (.slice ao zs.length cap) zs.length (zs.map (Value.int .i64)) ∧ Below w.heap.size w w' := by
  have HI : Hid (∀ W, Below w.heap.size w W → Ints W u zs) := fun W h => hI.later h (Nat.le_refl _)
  obtain ⟨au, cu, hus⟩ := hI.shape
  clear hI
  subst hus
  go_enter Tryd.func78, Tryd.ntmps78
  go_wp2_with (at_builtin; refine wpList_append_ints rfl _ _ rfl (w.heap.size + 2) (.slice (some ⟨w.heap.size + 2, 0, none⟩) 0 0) (.slice au zs.length cu) 0 [] zs rfl rfl ?c1 ?c2 ?c3 ?c4 ?_)
  case c1 =>
    have h := World.ownsRow_lit (base := w.heap.size + 2) (e := 3) (size := 1) ((w.alloc (.cells #[.int .i64 k, .int .i64 t, .slice au zs.length cu] 79)).alloc (.cells #[.int .i64 0, .int .i64 0, .slice none 0 0] 79)) #[] 0 (by simp) (by unfold maxLen; omega) rfl
    rw [size2] at h
    exact h
  case c2 => exact HI.out _ (below3 w _ _ _)
  case c3 => omega
  case c4 => simp
  · intro ao cap w1 hown hgrow
    try simp only [Nat.zero_add, List.nil_append] at hown
    have hb : Below (w.heap.size + 2) (((w.alloc (.cells #[.int .i64 k, .int .i64 t, .slice au zs.length cu] 79)).alloc (.cells #[.int .i64 0, .int .i64 0, .slice none 0 0] 79)).alloc (.cells #[] 3)) w1 :=
      (Below.refl _ _).grown hgrow (by simp) (fun j hj => by simp [Value.ownBlock] at hj; omega)
    obtain ⟨hc, hf⟩ := bcellB hb
    have hz : w.heap.size + 2 ≤ w1.heap.size := by have := hb.size; simp at this; omega
    have HO := hide_it hown
    have HB := hide_it ((below3 w _ _ _).trans (hb.mono (Nat.le_add_right _ _)))
    have e0 : w1.cell? ⟨w.heap.size, 0, none⟩ = some (.int .i64 k) := by rw [hc _ _ (by omega)]; simp [go_sem]
    have e1 : w1.cell? ⟨w.heap.size, 1, none⟩ = some (.int .i64 t) := by rw [hc _ _ (by omega)]; simp [go_sem]
    have e2 : w1.cell? ⟨w.heap.size, 2, none⟩ = some (.slice au zs.length cu) := by rw [hc _ _ (by omega)]; simp [go_sem]
    have e3 : w1.frozen? ⟨w.heap.size, 2, none⟩ = false := by rw [hf _ _ (by omega)]; simp [go_sem]
    have d0 : w1.cell? ⟨w.heap.size + 1, 0, none⟩ = some (.int .i64 0) := by rw [hc _ _ (by omega)]; simp [go_sem]
    have d1 : w1.cell? ⟨w.heap.size + 1, 1, none⟩ = some (.int .i64 0) := by rw [hc _ _ (by omega)]; simp [go_sem]
    have d2 : w1.cell? ⟨w.heap.size + 1, 2, none⟩ = some (.slice none 0 0) := by rw [hc _ _ (by omega)]; simp [go_sem]
    have z0 : w1.frozen? ⟨w.heap.size + 1, 0, none⟩ = false := by rw [hf _ _ (by omega)]; simp [go_sem]
    have z1 : w1.frozen? ⟨w.heap.size + 1, 1, none⟩ = false := by rw [hf _ _ (by omega)]; simp [go_sem]
    have z2 : w1.frozen? ⟨w.heap.size + 1, 2, none⟩ = false := by rw [hf _ _ (by omega)]; simp [go_sem]
    clear hown hgrow hb hc hf
    try simp only [Nat.zero_add]
    go_wp2
    refine bodyPost_ret (v := .agg #[.int .i64 k, .int .i64 t, .slice ao zs.length cap]) (by simp [results, Tryd.results78, go_sem, d0, d1, d2]) rfl ⟨ao, cap, rfl, ?_, ?_⟩
    · exact ownsRow_setCell_below (ownsRow_setCell_below (ownsRow_setCell_below (ownsRow_setCell_below HO.out (by simp) _) (by simp) _) (by simp) _) (by simp) _
    · exact (((HB.out.setCell (by simp) _).setCell (by simp) _).setCell (by simp) _).setCell (by simp) _

end Go.Proofs.YtogfpnenoeonoaaDoor

namespace Go.Proofs.YtogfpnenoeonoaaDoor
open Go.RowKit

/-- The blocks that the copy reads and writes: the log that came in, the result's, and the one that is made. -/
def Boxes (w : World) (B : Nat) (v vo : Value) (f : Int) : Prop :=
  w.heap[B]? = some (.cells #[v, .int .i64 f] 32 (0, 0)) ∧ w.heap[B + 1]? = some (.cells #[.slice none 0 0, .int .i64 0] 32 (0, 0)) ∧ w.heap[B + 3]? = some (.cells #[vo, .int .i64 f] 32 (0, 0))

theorem lt_of_heap {w : World} {k : Nat} {o : Obj} (h : w.heap[k]? = some o) : k < w.heap.size := by
  by_cases e : k < w.heap.size
  · exact e
  · rw [Array.getElem?_eq_none (by omega)] at h; cases h

theorem Boxes.size {w : World} {B : Nat} {v vo : Value} {f : Int} (h : Boxes w B v vo f) : B + 3 < w.heap.size := lt_of_heap h.2.2

theorem Boxes.later {w w' : World} {B : Nat} {v vo : Value} {f : Int} (h : Boxes w B v vo f) (hb : Below w.heap.size w w') : Boxes w' B v vo f := by
  have hs := h.size
  obtain ⟨h0, h1, h2⟩ := h
  exact ⟨by rw [hb.block B (by omega)]; exact h0, by rw [hb.block (B + 1) (by omega)]; exact h1, by rw [hb.block (B + 3) hs]; exact h2⟩

theorem Boxes.grown {w w' : World} {B : Nat} {v vo : Value} {f : Int} {row : Option Nat} (h : Boxes w B v vo f) (hg : w.grownBy w' row) (hr : ∀ k, row = some k → B + 2 ≤ k ∧ k ≠ B + 3) : Boxes w' B v vo f := by
  have hs := h.size
  obtain ⟨h0, h1, h2⟩ := h
  refine ⟨?_, ?_, ?_⟩
  · rw [hg.block B (by omega) (fun e => by have := hr _ e.symm; omega)]; exact h0
  · rw [hg.block (B + 1) (by omega) (fun e => by have := hr _ e.symm; omega)]; exact h1
  · rw [hg.block (B + 3) hs (fun e => by have := hr _ e.symm; omega)]; exact h2

theorem Boxes.set {w : World} {B : Nat} {v vo : Value} {f : Int} (h : Boxes w B v vo f) (x : Value) : Boxes (w.setCell ⟨B + 3, 0, none⟩ x) B v x f := by
  obtain ⟨h0, h1, h2⟩ := h
  refine ⟨?_, ?_, ?_⟩
  · rw [Below.heap_setCell _ _ _ _ (by simp)]; exact h0
  · rw [Below.heap_setCell _ _ _ _ (by simp)]; exact h1
  · rw [heap_setCell_same w (B + 3) 0 _ _ x h2]; simp

theorem Boxes.cells {w : World} {B : Nat} {v vo : Value} {f : Int} (h : Boxes w B v vo f) :
    w.cell? ⟨B, 0, none⟩ = some v ∧ w.cell? ⟨B, 1, none⟩ = some (.int .i64 f) ∧ w.cell? ⟨B + 3, 0, none⟩ = some vo ∧ w.cell? ⟨B + 3, 1, none⟩ = some (.int .i64 f) ∧ w.frozen? ⟨B + 3, 0, none⟩ = false ∧
    w.cell? ⟨B + 1, 0, none⟩ = some (.slice none 0 0) ∧ w.cell? ⟨B + 1, 1, none⟩ = some (.int .i64 0) ∧ w.frozen? ⟨B + 1, 0, none⟩ = false ∧ w.frozen? ⟨B + 1, 1, none⟩ = false := by
  obtain ⟨h0, h1, h2⟩ := h
  refine ⟨?_, ?_, ?_, ?_, frozen_of_row w _ _ _ _ h2, ?_, ?_, frozen_of_row w _ _ _ _ h1, frozen_of_row w _ _ _ _ h1⟩
  · rw [cell_of_row w _ _ _ _ _ h0]; rfl
  · rw [cell_of_row w _ _ _ _ _ h0]; rfl
  · rw [cell_of_row w _ _ _ _ _ h2]; rfl
  · rw [cell_of_row w _ _ _ _ _ h2]; rfl
  · rw [cell_of_row w _ _ _ _ _ h1]; rfl
  · rw [cell_of_row w _ _ _ _ _ h1]; rfl

theorem ownsRow_setCell_ne {w : World} {base : Nat} {e : TypeId} {size : Nat} {v : Value} {n : Nat} {xs : List Value} (h : w.ownsRow base e size v n xs) {a : Addr} (ha : ∀ g, v.ownBlock = some g → g ≠ a.block) (u : Value) : (w.setCell a u).ownsRow base e size v n xs := by
  obtain ⟨h1, h2⟩ := h
  refine ⟨h1, ?_⟩
  rcases h2 with h2 | ⟨g, cap, cur, hv, hg, hh, r⟩
  · exact Or.inl h2
  · exact Or.inr ⟨g, cap, cur, hv, hg, by rw [Below.heap_setCell _ _ _ _ (ha g (by rw [hv]; rfl))]; exact hh, r⟩

/-- A row of records is not the log's own block. -/
theorem Boxes.apart {w : World} {B base : Nat} {v vo : Value} {f : Int} {x : Value} {n : Nat} {xs : List Value} {ty : TypeId} {sz : Nat} (h : Boxes w B v vo f) (hr : w.ownsRow base ty sz x n xs) (ht : ty ≠ 32) : ∀ g, x.ownBlock = some g → g ≠ B + 3 := by
  intro g hg e
  subst e
  rcases hr.2 with ⟨hv, _⟩ | ⟨g', cap, cur', hv, _, hh, _⟩
  · rw [hv] at hg; simp [Value.ownBlock] at hg
  · rw [hv] at hg
    simp [Value.ownBlock] at hg
    subst hg
    rw [h.2.2] at hh
    simp at hh
    exact ht hh.2.symm

/-- What one round of the copy does. -/
theorem l1Copy_step {w wr w2 w4 : World} {B : Nat} {v vo : Value} {f : Int} {ps : List (R × Value)} {r : R} {ao2 : Option Addr} {cap2 g cap4 : Nat} {o : Obj} (hB : B = w.heap.size)
    (hrow : wr.ownsRow (B + 2) 79 3 vo ps.length (flat ps)) (hin : Inner wr (B + 2) wr.heap.size ps) (hbox : Boxes wr B v vo f) (hbe : Below w.heap.size w wr)
    (hb2 : Below wr.heap.size wr w2) (hown2 : w2.ownsRow (wr.heap.size + 2) 3 1 (.slice ao2 r.2.2.length cap2) r.2.2.length (r.2.2.map (Value.int .i64)))
    (hown4 : w4.ownsRow (B + 2) 79 3 (.slice (some ⟨g, 0, none⟩) (ps.length + 1) cap4) (ps.length + 1) (flat ps ++ [.int .i64 r.1, .int .i64 r.2.1, .slice ao2 r.2.2.length cap2]))
    (hg4 : (w2.alloc o).grownBy w4 vo.ownBlock) :
    Hid ((w4.setCell ⟨B + 3, 0, none⟩ (.slice (some ⟨g, 0, none⟩) (ps.length + 1) cap4)).ownsRow (B + 2) 79 3 (.slice (some ⟨g, 0, none⟩) (ps.length + 1) cap4) (ps ++ [(r, Value.slice ao2 r.2.2.length cap2)]).length (flat (ps ++ [(r, Value.slice ao2 r.2.2.length cap2)])) ∧
    Inner (w4.setCell ⟨B + 3, 0, none⟩ (.slice (some ⟨g, 0, none⟩) (ps.length + 1) cap4)) (B + 2) (w4.setCell ⟨B + 3, 0, none⟩ (.slice (some ⟨g, 0, none⟩) (ps.length + 1) cap4)).heap.size (ps ++ [(r, Value.slice ao2 r.2.2.length cap2)]) ∧
    Boxes (w4.setCell ⟨B + 3, 0, none⟩ (.slice (some ⟨g, 0, none⟩) (ps.length + 1) cap4)) B v (.slice (some ⟨g, 0, none⟩) (ps.length + 1) cap4) f ∧
    Below w.heap.size w (w4.setCell ⟨B + 3, 0, none⟩ (.slice (some ⟨g, 0, none⟩) (ps.length + 1) cap4))) ∧ Boxes w4 B v vo f := by
  have hsz := hbox.size
  have al := (Below.refl w2.heap.size w2).alloc (Nat.le_refl _) o
  have hs2 : (w2.alloc o).heap.size = w2.heap.size + 1 := by simp
  have hws := hb2.size
  have row3 : (w2.alloc o).ownsRow (B + 2) 79 3 vo ps.length (flat ps) := (ownsRow_below hrow hb2 (fun j hj => (hrow.lt j hj).2)).alloc o
  have in3 : Inner (w2.alloc o) (B + 2) wr.heap.size ps := (hin.below hb2 (Nat.le_refl _)).below al (by omega)
  have new3 := (ownsRow_base hown2 (show B + 2 ≤ wr.heap.size + 2 by omega)).alloc o
  have box3 : Boxes (w2.alloc o) B v vo f := (hbox.later hb2).later al
  have ap3 := box3.apart row3 (by decide)
  have box4 : Boxes w4 B v vo f := box3.grown hg4 (fun k hk => ⟨(row3.lt k hk).1, ap3 k hk⟩)
  have st := append_step (r := r) row3 in3 (by omega) new3 (fun k hk => by have := hown2.lt k hk; omega) hown4 hg4
  have ap4 := box4.apart hown4 (by decide)
  have be4 : Below w.heap.size w w4 := ((hbe.trans (hb2.mono hbe.size)).trans (al.mono (by have := hbe.size; omega))).grown hg4 (by have := hbe.size; omega) (fun k hk => by have := (row3.lt k hk).1; omega)
  refine ⟨⟨ownsRow_setCell_ne st.1 ap4 _, ?_, box4.set _, be4.setCell (by show w.heap.size ≤ B + 3; omega) _⟩, box4⟩
  obtain ⟨i1, i2, i3⟩ := st.2
  have hse : (w4.setCell ⟨B + 3, 0, none⟩ (.slice (some ⟨g, 0, none⟩) (ps.length + 1) cap4)).heap.size = w4.heap.size := by simp
  rw [hse]
  exact ⟨by rw [hse]; exact i1, fun p hp => ⟨ownsRow_setCell_ne (i2 p hp).1 (box4.apart (i2 p hp).1 (by decide)) _, (i2 p hp).2⟩, i3⟩

theorem boxes_new (w : World) (v : Value) (f : Int) (o : Obj) (vo : Value) : Boxes ((((w.alloc (.cells #[v, .int .i64 f] 32)).alloc (.cells #[.slice none 0 0, .int .i64 0] 32)).alloc o).alloc (.cells #[vo, .int .i64 f] 32)) w.heap.size v vo f := by
  refine ⟨?_, ?_, ?_⟩
  · rw [Below.heap_alloc _ _ _ (by simp; omega), Below.heap_alloc _ _ _ (by simp; omega), Below.heap_alloc _ _ _ (by simp)]; exact heap_alloc_new w _
  · rw [Below.heap_alloc _ _ _ (by simp), Below.heap_alloc _ _ _ (by simp)]
    have := heap_alloc_new (w.alloc (.cells #[v, .int .i64 f] 32)) (.cells #[.slice none 0 0, .int .i64 0] 32)
    rw [size1] at this
    exact this
  · have := heap_alloc_new (((w.alloc (.cells #[v, .int .i64 f] 32)).alloc (.cells #[.slice none 0 0, .int .i64 0] 32)).alloc o) (.cells #[vo, .int .i64 f] 32)
    rw [size3] at this
    exact this
theorem below4 (w : World) (o1 o2 o3 o4 : Obj) : Below w.heap.size w ((((w.alloc o1).alloc o2).alloc o3).alloc o4) := (below3 w o1 o2 o3).alloc (by simp; omega) _

theorem cellAlloc {w : World} {b o : Nat} {v : Value} (h : w.cell? ⟨b, o, none⟩ = some v) (x : Obj) : (w.alloc x).cell? ⟨b, o, none⟩ = some v := by
  rw [← h]
  exact ((Below.refl w.heap.size w).alloc (Nat.le_refl _) x).cell (p := ⟨b, o, none⟩) (World.block_lt_of_cell? _ _ h)
theorem news3 (w : World) (k t : Int) (u : Value) (ty : TypeId) : ∀ (j : Nat) (x : Value), [Value.int .i64 k, .int .i64 t, u][j]? = some x → (w.alloc (.cells #[.int .i64 k, .int .i64 t, u] ty)).cell? ((⟨w.heap.size, 0, none⟩ : Addr).add j) = some x := by
  intro j x hj
  match j, hj with
  | 0, hj => simp at hj; subst hj; simp [Addr.add]
  | 1, hj => simp at hj; subst hj; simp [Addr.add]
  | 2, hj => simp at hj; subst hj; simp [Addr.add]
theorem one3 (k t : Int) (ao : Option Addr) {n c : Nat} : ∀ x ∈ [Value.int .i64 k, .int .i64 t, .slice ao n c], x.oneCell' = true := by
  intro x hx; simp at hx; rcases hx with rfl | rfl | rfl <;> rfl

set_option maxRecDepth 100000 in
set_option maxHeartbeats 4000000 in
theorem l1Copy_any (v : Value) (rs : List R) (f : Int) (w : World) (hv : Recs w v rs) (hl : tot rs ≤ 1048576) :
    Calls Tryd.prog 64 #[.agg #[v, .int .i64 f]] w fun e w' => LogOut w w' e rs f := by
  obtain ⟨i0, hi, hz0, hz1, hz2⟩ := info_parts infoRec
  have hlen := tot_len rs
  have HM : Hid (∀ r ∈ rs, r.2.2.length ≤ 1048576) := fun r hr => Nat.le_trans (tot_mem rs r hr) hl
  have ROW0 : Hid (∀ o1 o2 o4, ((((w.alloc o1).alloc o2).alloc (.cells #[] 79)).alloc o4).ownsRow (w.heap.size + 2) 79 3 (.slice (some ⟨w.heap.size + 2, 0, none⟩) 0 0) 0 []) := fun o1 o2 o4 => by
    have h := World.ownsRow_lit (base := w.heap.size + 2) (e := 79) (size := 3) ((w.alloc o1).alloc o2) #[] 0 (by simp) (by unfold maxLen; omega) rfl
    rw [size2] at h
    exact h.alloc o4
  rcases hv with ⟨rfl, ao, cap, rfl⟩ | ⟨b, off, cap, rfl, hz, hc⟩
  · go_enter Tryd.func64, Tryd.ntmps64
    go_wp2
    refine wp_loop_rounds 1 ?_
    rw [rounds_succ]
    go_wp2
    refine bodyPost_ret (v := .agg #[.slice (some ⟨w.heap.size + 2, 0, none⟩) 0 0, .int .i64 f]) (by simp [results, Tryd.results64, go_sem]) rfl ?_
    refine ⟨_, _, rfl, ⟨[], rfl, ?_, ?_, Inner.nil _ _ _ (Nat.le_refl _)⟩, ?_⟩
    · exact ownsRow_base (ROW0.out _ _ _) (by omega)
    · intro k hk; simp [Value.ownBlock] at hk; simp; omega
    · exact below4 w _ _ _ _
  have HC : Hid (∀ W, Below w.heap.size w W → ∀ i r, rs[i]? = some r → ∃ u, RecCells W b (off + i * 3) r u) := fun W h i r hr => by
    obtain ⟨u, hu⟩ := hc i r hr
    exact ⟨u, hu.later h (Nat.le_refl _)⟩
  have hzl : 0 < rs.length := List.length_pos_iff.2 hz
  have BOX0 := hide_it (boxes_new w (.slice (some ⟨b, off, none⟩) rs.length cap) f (.cells #[] 79) (.slice (some ⟨w.heap.size + 2, 0, none⟩) 0 0))
  clear hc hz
  go_enter Tryd.func64, Tryd.ntmps64
  go_wp2
  go_loopw [4] (fun i wr => ∃ (k : Nat) (ps : List (R × Value)) (vo : Value), k ≤ rs.length ∧ i = .int .i64 k ∧ Hid (ps.map (·.1) = rs.take k) ∧ Hid (wr.ownsRow (w.heap.size + 2) 79 3 vo ps.length (flat ps)) ∧ Hid (Inner wr (w.heap.size + 2) wr.heap.size ps) ∧ Hid (Boxes wr w.heap.size (.slice (some ⟨b, off, none⟩) rs.length cap) vo f) ∧ Hid (Below w.heap.size w wr)) (fun i _ => rs.length - (intOf i).toNat)
  case atStart => exact ⟨0, [], _, Nat.zero_le _, rfl, rfl, ROW0.out _ _ _, Inner.nil _ _ _ (Nat.le_refl _), BOX0, below4 w _ _ _ _⟩
  case round =>
    obtain ⟨k, ps, vo, hk, rfl, HP, HO, HN, HX, HB⟩ := hrel
    have HPL : Hid (ps.length = k) := by
      have := congrArg List.length HP.out
      simp at this
      show _ = _; omega
    obtain ⟨x0, x1, y0, y1, y2, q0, q1, q2, q3⟩ := HX.out.cells
    by_cases hlt : k < rs.length
    · obtain ⟨r, hr⟩ : ∃ r, Hid (rs[k]? = some r) := ⟨rs[k], by show _ = _; simp [hlt]⟩
      have hrl : r.2.2.length ≤ 1048576 := HM.out r (List.mem_of_getElem? hr.out)
      obtain ⟨u, c0, c1, c2, hI⟩ := HC.out wr HB.out k r hr.out
      have HI : Hid (Ints wr.drew u r.2.2) := hI.later (Below.refl _ _).drew (Nat.le_refl _)
      clear hI
      go_wp2
      go_region_law (first
        | (refine step_append_lies _ rfl _ _ 30 rfl (w.heap.size + 2) 79 i0 (.agg #[.int .i64 0, .int .i64 0, .slice none 0 0]) 3 40 Tryd.underlying30 hi hz0 hz1 hz2 rfl (by decide) vo ps.length (flat ps) rfl (by exact (ROW2.out _)) ⟨w2.heap.size, 0, none⟩ 1 1 [.int .i64 r.1, .int .i64 r.2.1, .slice ao2 r.2.2.length cap2] rfl rfl (by exact news3 _ _ _ _ _) (by exact one3 _ _ _) (by decide) (by have := HPL.out; unfold maxLen; omega) (by have := HPL.out; omega) (by simp; omega) _ rfl ?_; intro g4 cap4 w4 hown4 hgrow4 _ _; have ST := l1Copy_step rfl HO.out HN.out HX.out HB.out HB2.out HW2.out hown4 hgrow4; obtain ⟨a0, a1, b0, b1, b2, e0, e1, e2, e3⟩ := ST.2.cells; have ST1 := ST.1; clear ST hown4 hgrow4)
        | (go_simp; go_at_call 78; refine (specCopy_any r.1 r.2.1 u r.2.2 _ ?_ hrl).mono ?_; exact HI.out; rintro e w2 ⟨ao2, cap2, rfl, hown2, hb2⟩; have HB2 := hide_it ((Below.refl wr.heap.size wr).drew.trans hb2); have HW2 := hide_it hown2; obtain ⟨a0, a1, b0, b1, b2, e0, e1, e2, e3⟩ := (HX.out.later HB2.out).cells; have hzz2 : w.heap.size + 4 ≤ w2.heap.size := (by have h1 := HB2.out.size; have h2 := HX.out.size; omega); have b0o := (fun x => cellAlloc b0 x); have ROW2 : Hid (∀ o, (w2.alloc o).ownsRow (w.heap.size + 2) 79 3 vo ps.length (flat ps)) := (fun o => (ownsRow_below HO.out HB2.out (fun j hj => (HO.out.lt j hj).2)).alloc o); clear hown2 hb2))
      all_goals
        go_wp2
        go_roundw
        case rel =>
          rw [show w.heap.size + 1 + 1 + 1 = w.heap.size + 3 from rfl]
          refine ⟨k + 1, ps ++ [(r, .slice ao2 r.2.2.length cap2)], .slice (some ⟨g4, 0, none⟩) (ps.length + 1) cap4, by omega, by go_num, ?_, hide_it ST1.out.1, hide_it ST1.out.2.1, hide_it ST1.out.2.2.1, hide_it ST1.out.2.2.2⟩
          show _ = _
          have hkl : k < rs.length := by omega
          have hrk : rs[k] = r := by have := hr.out; rw [List.getElem?_eq_getElem hkl] at this; simpa using this
          rw [List.map_append, HP.out, List.take_succ_eq_append_getElem hkl, hrk]
          rfl
        case measure => simp [intOf]; omega
    · have hke : Hid (k = rs.length) := by show _ = _; omega
      obtain ⟨ao, cp, hvo⟩ := row_shape HO.out
      have hpl : ps.length = rs.length := by rw [HPL.out, hke.out]
      rw [hpl] at hvo
      have HO2 : Hid (wr.ownsRow (w.heap.size + 2) 79 3 (.slice ao rs.length cp) ps.length (flat ps)) := by
        have := HO.out; rw [hvo] at this; exact this
      have HD : Hid (Made wr (w.heap.size + 2) (.slice ao rs.length cp) rs) :=
        ⟨ps, by rw [HP.out, hke.out, List.take_length], HO2.out, fun j hj => (HO2.out.lt j hj).2, HN.out⟩
      subst hvo
      clear hpl
      go_wp2
      refine bodyPost_ret (v := .agg #[.slice ao rs.length cp, .int .i64 f]) (by simp [results, Tryd.results64, go_sem, q0, q1]) rfl ⟨ao, cp, rfl, ?_, ?_⟩
      · exact ((HD.out.setBelow (by simp) _).setBelow (by simp) _).lo (by omega)
      · exact (HB.out.setCell (by simp) _).setCell (by simp) _

end Go.Proofs.YtogfpnenoeonoaaDoor

namespace Go.Proofs.YtogfpnenoeonoaaDoor
open Go.RowKit

/-- A record as plain data: its kind, its trip, its numbers. -/
abbrev Rc := R

/-- A block as it lies. -/
def Blk (w : World) (b : Nat) (cs : Array Value) (ty : TypeId) : Prop := w.heap[b]? = some (.cells cs ty (0, 0))
theorem Blk.new (w : World) (cs : Array Value) (ty : TypeId) : Blk (w.alloc (.cells cs ty)) w.heap.size cs ty := heap_alloc_new w _
theorem Blk.lt {w : World} {b : Nat} {cs : Array Value} {ty : TypeId} (h : Blk w b cs ty) : b < w.heap.size := lt_of_heap h
theorem Blk.later {w w' : World} {b L : Nat} {cs : Array Value} {ty : TypeId} (h : Blk w b cs ty) (hb : Below L w w') (hL : b < L) : Blk w' b cs ty := by
  unfold Blk; rw [hb.block b hL]; exact h
theorem Blk.after {w w' : World} {b : Nat} {cs : Array Value} {ty : TypeId} (h : Blk w b cs ty) (hb : Below w.heap.size w w') : Blk w' b cs ty := h.later hb h.lt
theorem Blk.mid {w w' : World} {b l h' : Nat} {cs : Array Value} {ty : TypeId} (h : Blk w b cs ty) (hm : Mid l h' w w') (hb : b < l ∨ h' ≤ b) : Blk w' b cs ty := by
  unfold Blk; rw [hm.block b h.lt hb]; exact h
theorem Blk.cell {w : World} {b : Nat} {cs : Array Value} {ty : TypeId} (h : Blk w b cs ty) (i : Nat) : w.cell? ⟨b, i, none⟩ = cs[i]? := cell_of_row w _ _ _ _ _ h
theorem Blk.free {w : World} {b : Nat} {cs : Array Value} {ty : TypeId} (h : Blk w b cs ty) (i : Nat) : w.frozen? ⟨b, i, none⟩ = false := frozen_of_row w _ _ _ _ h
theorem Blk.other {w : World} {b : Nat} {cs : Array Value} {ty : TypeId} (h : Blk w b cs ty) {a : Addr} (ha : b ≠ a.block) (x : Value) : Blk (w.setCell a x) b cs ty := by
  unfold Blk; rw [Below.heap_setCell _ _ _ _ ha]; exact h
theorem Blk.alloc {w : World} {b : Nat} {cs : Array Value} {ty : TypeId} (h : Blk w b cs ty) (o : Obj) : Blk (w.alloc o) b cs ty := h.after (alloc_below w o)
theorem Blk.cells5 {w : World} {b : Nat} {x0 x1 x2 x3 x4 : Value} {ty : TypeId} (h : Blk w b #[x0, x1, x2, x3, x4] ty) :
    w.cell? ⟨b, 0, none⟩ = some x0 ∧ w.cell? ⟨b, 1, none⟩ = some x1 ∧ w.cell? ⟨b, 2, none⟩ = some x2 ∧ w.cell? ⟨b, 3, none⟩ = some x3 ∧ w.cell? ⟨b, 4, none⟩ = some x4 := by
  refine ⟨?_, ?_, ?_, ?_, ?_⟩ <;> (rw [h.cell]; rfl)
theorem Blk.cells2 {w : World} {b : Nat} {x0 x1 : Value} {ty : TypeId} (h : Blk w b #[x0, x1] ty) :
    w.cell? ⟨b, 0, none⟩ = some x0 ∧ w.cell? ⟨b, 1, none⟩ = some x1 := by
  refine ⟨?_, ?_⟩ <;> (rw [h.cell]; rfl)
theorem Blk.free5 {w : World} {b : Nat} {cs : Array Value} {ty : TypeId} (h : Blk w b cs ty) :
    w.frozen? ⟨b, 0, none⟩ = false ∧ w.frozen? ⟨b, 1, none⟩ = false ∧ w.frozen? ⟨b, 2, none⟩ = false ∧ w.frozen? ⟨b, 3, none⟩ = false ∧ w.frozen? ⟨b, 4, none⟩ = false :=
  ⟨h.free 0, h.free 1, h.free 2, h.free 3, h.free 4⟩
theorem Blk.new2 (w : World) (o : Obj) (cs : Array Value) (ty : TypeId) : Blk ((w.alloc o).alloc (.cells cs ty)) (w.heap.size + 1) cs ty := by
  have h := Blk.new (w.alloc o) cs ty
  rw [size1] at h
  exact h
theorem Blk.set_ {w : World} {b : Nat} {cs : Array Value} {ty : TypeId} (h : Blk w b cs ty) (i : Nat) (x : Value) : Blk (w.setCell ⟨b, i, none⟩ x) b (cs.setIfInBounds i x) ty := by
  unfold Blk; rw [heap_setCell_same w b i _ _ x h]

theorem Blk.drew {w : World} {b : Nat} {cs : Array Value} {ty : TypeId} (h : Blk w b cs ty) : Blk w.drew b cs ty := h.after (Below.refl _ _).drew
/-- Blocks of unlike types are not one. -/
theorem Blk.ne {w : World} {b b' : Nat} {cs cs' : Array Value} {ty ty' : TypeId} (h : Blk w b cs ty) (h' : Blk w b' cs' ty') (ht : ty ≠ ty') : b ≠ b' := by
  intro e
  subst e
  unfold Blk at h h'
  rw [h] at h'
  simp at h'
  exact ht h'.2
theorem Blk.cells3 {w : World} {b : Nat} {x0 x1 x2 : Value} {ty : TypeId} (h : Blk w b #[x0, x1, x2] ty) :
    w.cell? ⟨b, 0, none⟩ = some x0 ∧ w.cell? ⟨b, 1, none⟩ = some x1 ∧ w.cell? ⟨b, 2, none⟩ = some x2 := by
  refine ⟨?_, ?_, ?_⟩ <;> (rw [h.cell]; rfl)
theorem row_apart {w : World} {base : Nat} {ty ty' : TypeId} {sz n g : Nat} {x : Value} {xs : List Value} {cur : Array Value} {fz : Nat × Nat} (hr : w.ownsRow base ty sz x n xs) (hh : w.heap[g]? = some (.cells cur ty' fz)) (ht : ty ≠ ty') : ∀ k, x.ownBlock = some k → k ≠ g := by
  intro k hk e
  subst e
  rcases hr.2 with ⟨hv, _⟩ | ⟨g', cap, cur', hv, _, h2, _⟩
  · rw [hv] at hk; simp [Value.ownBlock] at hk
  · rw [hv] at hk
    simp [Value.ownBlock] at hk
    subst hk
    rw [hh] at h2
    simp at h2
    exact ht h2.2.1.symm
/-- A row of the call's own is no such block. -/
theorem Blk.off {w : World} {b base sz n : Nat} {cs : Array Value} {ty ty' : TypeId} {v : Value} {xs : List Value} (h : Blk w b cs ty) (hr : w.ownsRow base ty' sz v n xs) (ht : ty' ≠ ty) : v.ownBlock ≠ some b := fun e => row_apart hr h ht b e rfl

end Go.Proofs.YtogfpnenoeonoaaDoor

namespace Go.Proofs.YtogfpnenoeonoaaDoor
namespace Pl

def wMany (k m : Int) : Bool := if k = 1 then inB m 1 3 else decide (m = 0)
def wOk (k h t m : Int) : Bool := inB k 1 7 && inB h 1 3 && inB t 1 6 && wMany k m

theorem wOk_k {k h t m : Int} (e : inB k 1 7 = false) : wOk k h t m = false := by simp [wOk, e]
theorem wOk_h {k h t m : Int} (e : inB h 1 3 = false) : wOk k h t m = false := by simp [wOk, e]
theorem wOk_t {k h t m : Int} (e : inB t 1 6 = false) : wOk k h t m = false := by simp [wOk, e]
theorem wOk_m {k h t m : Int} (e1 : inB k 1 7 = true) (e2 : inB h 1 3 = true) (e3 : inB t 1 6 = true) : wOk k h t m = wMany k m := by simp [wOk, e1, e2, e3]
theorem wMany_1 (m : Int) : wMany 1 m = inB m 1 3 := by simp [wMany]
theorem wMany_0 {k : Int} (m : Int) (h : k ≠ 1) : wMany k m = decide (m = 0) := by simp [wMany, h]
theorem wOk_parts {k h t m : Int} (e : wOk k h t m = true) : (1 ≤ k ∧ k ≤ 7) ∧ (1 ≤ h ∧ h ≤ 3) ∧ (1 ≤ t ∧ t ≤ 6) ∧ wMany k m = true := by
  simp only [wOk, Bool.and_eq_true] at e
  exact ⟨inB_true e.1.1.1, inB_true e.1.1.2, inB_true e.1.2, e.2⟩
theorem wMany_parts {k m : Int} (e : wMany k m = true) : (k = 1 ∧ 1 ≤ m ∧ m ≤ 3) ∨ (k ≠ 1 ∧ m = 0) := by
  by_cases h : k = 1
  · subst h; rw [wMany_1] at e; exact .inl ⟨rfl, inB_true e⟩
  · rw [wMany_0 m h] at e; exact .inr ⟨h, by simpa using e⟩

end Pl
end Go.Proofs.YtogfpnenoeonoaaDoor

namespace Go.Proofs.YtogfpnenoeonoaaDoor
open Go.RowKit

theorem hidden {p : Prop} (h : p) : Hid p := h

/-- Four cells lie in block b. -/
def Quad (w : World) (b : Nat) (x y z u : Value) : Prop := w.cell? ⟨b, 0, none⟩ = some x ∧ w.cell? ⟨b, 1, none⟩ = some y ∧ w.cell? ⟨b, 2, none⟩ = some z ∧ w.cell? ⟨b, 3, none⟩ = some u
theorem Quad.lt {w : World} {b : Nat} {x y z u : Value} (h : Quad w b x y z u) : b < w.heap.size := by simpa using World.block_lt_of_cell? _ _ h.1
theorem Quad.later {B : Nat} {w w' : World} {b : Nat} {x y z u : Value} (h : Quad w b x y z u) (hb : Below B w w') (hB : w.heap.size ≤ B) : Quad w' b x y z u := by
  have hlt := h.lt
  obtain ⟨h0, h1, h2, h3⟩ := h
  exact ⟨by rw [← h0]; exact hb.cell (p := ⟨b, 0, none⟩) (by simp; omega), by rw [← h1]; exact hb.cell (p := ⟨b, 1, none⟩) (by simp; omega), by rw [← h2]; exact hb.cell (p := ⟨b, 2, none⟩) (by simp; omega), by rw [← h3]; exact hb.cell (p := ⟨b, 3, none⟩) (by simp; omega)⟩
theorem Quad.new (w : World) (x y z u : Value) (ty : TypeId) : Quad (w.alloc (.cells #[x, y, z, u] ty)) w.heap.size x y z u := by
  refine ⟨?_, ?_, ?_, ?_⟩ <;> simp

abbrev wordV (k h t m : Int) : Value := .agg #[.int .i64 k, .int .i64 h, .int .i64 t, .int .i64 m]

set_option maxHeartbeats 1000000 in
theorem specWordOk_any (k h t m : Int) (w : World) :
    Calls Tryd.prog 30 #[wordV k h t m] w fun e w' => e = .returned (.bool (Pl.wOk k h t m)) ∧ Below w.heap.size w w' := by
  cases e1 : Pl.inB h 1 3
  · rw [Pl.wOk_h e1]
    go_enter Tryd.func30, Tryd.ntmps30
    go_wp2_with (go_at_call 53; refine (in_any _ _ _ _).mono ?_; rintro e w' ⟨rfl, rfl⟩)
    go_ret
    exact ⟨rfl, (Below.refl _ _).alloc (Nat.le_refl _) _⟩
  cases e2 : Pl.inB t 1 6
  · rw [Pl.wOk_t e2]
    go_enter Tryd.func30, Tryd.ntmps30
    go_wp2_with (go_at_call 53; refine (in_any _ _ _ _).mono ?_; rintro e w' ⟨rfl, rfl⟩)
    go_ret
    exact ⟨rfl, (Below.refl _ _).alloc (Nat.le_refl _) _⟩
  cases e3 : Pl.inB k 1 7
  · rw [Pl.wOk_k e3]
    go_enter Tryd.func30, Tryd.ntmps30
    go_wp2_with (go_at_call 53; refine (in_any _ _ _ _).mono ?_; rintro e w' ⟨rfl, rfl⟩)
    go_ret
    exact ⟨rfl, (Below.refl _ _).alloc (Nat.le_refl _) _⟩
  rw [Pl.wOk_m e3 e1 e2]
  by_cases hk : k = 1
  · subst hk
    rw [Pl.wMany_1]
    go_enter Tryd.func30, Tryd.ntmps30
    go_wp2_with (go_at_call 53; refine (in_any _ _ _ _).mono ?_; rintro e w' ⟨rfl, rfl⟩)
    go_ret
    exact ⟨rfl, (Below.refl _ _).alloc (Nat.le_refl _) _⟩
  · rw [Pl.wMany_0 m hk]
    go_enter Tryd.func30, Tryd.ntmps30
    go_wp2_with (go_at_call 53; refine (in_any _ _ _ _).mono ?_; rintro e w' ⟨rfl, rfl⟩)
    go_ret
    exact ⟨rfl, (Below.refl _ _).alloc (Nat.le_refl _) _⟩

theorem wordMany_any (k m : Int) (w : World) :
    Calls Tryd.prog 95 #[.int .i64 k, .int .i64 m] w fun e w' => e = .returned (.bool (Pl.wMany k m)) ∧ w' = w := by
  by_cases hk : k = 1
  · subst hk
    rw [Pl.wMany_1]
    by_cases h1 : 1 ≤ m
    · by_cases h2 : m ≤ 3
      all_goals
        go_enter Tryd.func95, Tryd.ntmps95
        go_wp2
        go_ret
        exact ⟨by simp [Pl.inB]; omega, rfl⟩
    · go_enter Tryd.func95, Tryd.ntmps95
      go_wp2
      go_ret
      exact ⟨by simp [Pl.inB]; omega, rfl⟩
  · rw [Pl.wMany_0 m hk]
    go_enter Tryd.func95, Tryd.ntmps95
    go_wp2
    go_ret
    exact ⟨rfl, rfl⟩

set_option maxHeartbeats 2000000 in
theorem implWordOk_any (k h t m : Int) (w : World) :
    Calls Tryd.prog 86 #[wordV k h t m] w fun e w' => e = .returned (.bool (Pl.wOk k h t m)) ∧ Below w.heap.size w w' := by
  by_cases k1n : ¬ 1 ≤ k
  · rw [Pl.wOk_k (Pl.inB_lo (by omega))]
    go_enter Tryd.func86, Tryd.ntmps86
    go_wp2
    go_ret
    exact ⟨rfl, (Below.refl _ _).alloc (Nat.le_refl _) _⟩
  have k1 : 1 ≤ k := Decidable.not_not.1 k1n
  clear k1n
  by_cases k2n : ¬ k ≤ 7
  · rw [Pl.wOk_k (Pl.inB_hi (by omega))]
    go_enter Tryd.func86, Tryd.ntmps86
    go_wp2
    go_ret
    exact ⟨rfl, (Below.refl _ _).alloc (Nat.le_refl _) _⟩
  have k2 : k ≤ 7 := Decidable.not_not.1 k2n
  clear k2n
  by_cases h1n : ¬ 1 ≤ h
  · rw [Pl.wOk_h (Pl.inB_lo (by omega))]
    go_enter Tryd.func86, Tryd.ntmps86
    go_wp2
    go_ret
    exact ⟨rfl, (Below.refl _ _).alloc (Nat.le_refl _) _⟩
  have h1 : 1 ≤ h := Decidable.not_not.1 h1n
  clear h1n
  by_cases h2n : ¬ h ≤ 3
  · rw [Pl.wOk_h (Pl.inB_hi (by omega))]
    go_enter Tryd.func86, Tryd.ntmps86
    go_wp2
    go_ret
    exact ⟨rfl, (Below.refl _ _).alloc (Nat.le_refl _) _⟩
  have h2 : h ≤ 3 := Decidable.not_not.1 h2n
  clear h2n
  by_cases t1n : ¬ 1 ≤ t
  · rw [Pl.wOk_t (Pl.inB_lo (by omega))]
    go_enter Tryd.func86, Tryd.ntmps86
    go_wp2
    go_ret
    exact ⟨rfl, (Below.refl _ _).alloc (Nat.le_refl _) _⟩
  have t1 : 1 ≤ t := Decidable.not_not.1 t1n
  clear t1n
  by_cases t2n : ¬ t ≤ 6
  · rw [Pl.wOk_t (Pl.inB_hi (by omega))]
    go_enter Tryd.func86, Tryd.ntmps86
    go_wp2
    go_ret
    exact ⟨rfl, (Below.refl _ _).alloc (Nat.le_refl _) _⟩
  have t2 : t ≤ 6 := Decidable.not_not.1 t2n
  clear t2n
  rw [Pl.wOk_m (Pl.inB_mk k1 k2) (Pl.inB_mk h1 h2) (Pl.inB_mk t1 t2)]
  go_enter Tryd.func86, Tryd.ntmps86
  go_wp2_with (go_at_call 95; refine (wordMany_any _ _ _).mono ?_; rintro e w' ⟨rfl, rfl⟩)
  go_ret
  exact ⟨rfl, (Below.refl _ _).alloc (Nat.le_refl _) _⟩

set_option maxHeartbeats 1000000 in
theorem toWord_any (k h t m : Int) (w : World) :
    Calls Tryd.prog 55 #[wordV k h t m] w fun e w' => e = .returned (wordV k h t m) ∧ Below w.heap.size w w' := by
  go_enter Tryd.func55, Tryd.ntmps55
  go_wp2
  exact bodyPost_ret (v := wordV k h t m) (by simp [results, Tryd.results55, go_sem]) rfl ⟨rfl, (((Below.refl _ _).alloc (Nat.le_refl _) _).alloc (by simp) _).alloc (by simp; omega) _⟩

end Go.Proofs.YtogfpnenoeonoaaDoor
