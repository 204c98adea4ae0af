/- What the last text of this claim stands on, part 1: plain facts and contracts; the last text says what is proved. -/
import Derived.WalkKit
import Derived.Test.YtkkkdgpbmmjieaaGreatDoorChecked
import Derived.WalkLawsBesides
import Derived.BigQuiet
import Derived.Deep.QuietTactic
import Derived.Outline
import Derived.WalkSmall
import Derived.LaidEql
import Derived.RowKitTokens
import Derived.Test.YtkkkdgpbmmjieaaGreatDoorCards
import Derived.Test.YtkkkdgpbmmjieaaGreatDoorTie
import Derived.ProofKit
import Derived.LaidMore
import Derived.OpenShut
import Derived.Stop.Joined
import Derived.Stop.LaidErr
import Derived.Lib.SmallJoins
import Derived.Deep.RegionWith
import Derived.Deep.RegionHeldLaw
import Derived.Laws.AppendOwnNone

namespace Go.Proofs.YtkkkdgpbmmjieaaGreatDoor
namespace Pl

def inB (n lo hi : Int) : Bool := decide (lo ≤ n) && decide (n ≤ hi)
def manyOk (zs : List Int) : Bool := zs.all (fun z => inB z 0 3) && (zs.length == 3) && decide (0 < zs.sum)
def holdOk (zs : List Int) : Bool := (zs.length == 1) && inB (zs.headD 0) 1 3
def recOk (k t : Int) (zs : List Int) : Bool :=
  inB t 1 6 && (if k = 1 then holdOk zs else if k = 4 then manyOk zs else inB k 2 7 && (zs.length == 0))

theorem inB_true {n lo hi : Int} (h : inB n lo hi = true) : lo ≤ n ∧ n ≤ hi := by
  simpa [inB] using h
theorem inB_false {n lo hi : Int} (h : inB n lo hi = false) : n < lo ∨ hi < n := by
  simp [inB] at h; omega
theorem inB_mk {n lo hi : Int} (h1 : lo ≤ n) (h2 : n ≤ hi) : inB n lo hi = true := by
  simp [inB, h1, h2]
theorem inB_lo {n lo hi : Int} (h1 : n < lo) : inB n lo hi = false := by
  simp [inB]; omega
theorem inB_hi {n lo hi : Int} (h1 : hi < n) : inB n lo hi = false := by
  simp [inB]; omega

theorem take_snoc (zs : List Int) (k : Nat) (h : k < zs.length) : zs.take (k + 1) = zs.take k ++ [zs.getD k 0] := by
  rw [List.take_succ_eq_append_getElem h]; simp [List.getD_eq_getElem?_getD, h]
theorem sum_snoc (zs : List Int) (k : Nat) (h : k < zs.length) : (zs.take (k + 1)).sum = (zs.take k).sum + zs.getD k 0 := by
  rw [take_snoc zs k h]; simp
theorem all_snoc (p : Int → Bool) (zs : List Int) (k : Nat) (h : k < zs.length) : (zs.take (k + 1)).all p = ((zs.take k).all p && p (zs.getD k 0)) := by
  rw [take_snoc zs k h]; simp
theorem sum_bd (zs : List Int) (h : zs.all (fun z => inB z 0 3) = true) : 0 ≤ zs.sum ∧ zs.sum ≤ 3 * zs.length := by
  induction zs with
  | nil => simp
  | cons z zs ih =>
    simp only [List.all_cons, Bool.and_eq_true] at h
    have := inB_true h.1
    have := ih h.2
    simp; omega
theorem all_bad (p : Int → Bool) (zs : List Int) (k : Nat) (h : k < zs.length) (hp : p (zs.getD k 0) = false) : zs.all p = false := by
  rw [List.all_eq_false]
  refine ⟨zs.getD k 0, ?_, by rw [hp]; decide⟩
  simp [List.getD_eq_getElem?_getD, h]
theorem manyOk_bad (zs : List Int) (k : Nat) (h : k < zs.length) (hp : inB (zs.getD k 0) 0 3 = false) : manyOk zs = false := by
  have := all_bad (fun z => inB z 0 3) zs k h hp
  simp [manyOk, this]
theorem manyOk_end (zs : List Int) (h : zs.all (fun z => inB z 0 3) = true) : manyOk zs = ((zs.length == 3) && decide (0 < zs.sum)) := by
  simp [manyOk, h]
theorem manyOk_len (zs : List Int) (h : zs.length ≠ 3) : manyOk zs = false := by
  simp [manyOk, h]

theorem recOk_t (k t : Int) (zs : List Int) (h : inB t 1 6 = false) : recOk k t zs = false := by simp [recOk, h]
theorem recOk_1 (t : Int) (zs : List Int) (h : inB t 1 6 = true) : recOk 1 t zs = holdOk zs := by simp [recOk, h]
theorem recOk_4 (t : Int) (zs : List Int) (h : inB t 1 6 = true) : recOk 4 t zs = manyOk zs := by simp [recOk, h]
theorem recOk_p (k t : Int) (zs : List Int) (h : inB t 1 6 = true) (h1 : k ≠ 1) (h4 : k ≠ 4) : recOk k t zs = (inB k 2 7 && (zs.length == 0)) := by simp [recOk, h, h1, h4]
theorem recOk_plain (k t : Int) (zs : List Int) (h : inB t 1 6 = true) (h1 : k ≠ 1) (h4 : k ≠ 4) (hk : inB k 2 7 = true) : recOk k t zs = (zs.length == 0) := by rw [recOk_p k t zs h h1 h4, hk]; rfl
theorem recOk_none (k t : Int) (zs : List Int) (h : inB t 1 6 = true) (h1 : k ≠ 1) (h4 : k ≠ 4) (hk : inB k 2 7 = false) : recOk k t zs = false := by rw [recOk_p k t zs h h1 h4, hk]; rfl

def anyPos (zs : List Int) : Bool := zs.any (fun z => decide (0 < z))
theorem anyPos_snoc (zs : List Int) (k : Nat) (h : k < zs.length) : anyPos (zs.take (k + 1)) = (anyPos (zs.take k) || decide (0 < zs.getD k 0)) := by
  rw [take_snoc zs k h]; simp [anyPos]
theorem anyPos_sum (zs : List Int) (h : zs.all (fun z => inB z 0 3) = true) : decide (0 < zs.sum) = anyPos zs := by
  induction zs with
  | nil => rfl
  | cons z zs ih =>
    simp only [List.all_cons, Bool.and_eq_true] at h
    have h1 := inB_true h.1
    have h2 := sum_bd zs h.2
    have h3 := ih h.2
    have h4 : anyPos (z :: zs) = (decide (0 < z) || anyPos zs) := by simp [anyPos]
    have hs : (z :: zs).sum = z + zs.sum := by simp
    rw [h4, ← h3, hs]
    by_cases hz : 0 < z
    · have : 0 < z + zs.sum := by omega
      simp [hz, this]
    · have : z = 0 := by omega
      simp [this]
theorem manyOk_any (zs : List Int) (h : zs.all (fun z => inB z 0 3) = true) (h3 : zs.length = 3) : manyOk zs = anyPos zs := by
  rw [manyOk_end zs h, h3, anyPos_sum zs h]; rfl

end Pl
end Go.Proofs.YtkkkdgpbmmjieaaGreatDoor

namespace Go.Proofs.YtkkkdgpbmmjieaaGreatDoor
open Go.RowKit

/-- The value v is a slice of just these numbers in the world w. -/
def Ints (w : World) (v : Value) (zs : List Int) : Prop :=
  (zs = [] ∧ ∃ ao cap, v = .slice ao 0 cap ∧ (ao = none → cap = 0)) ∨
  (∃ b off cap, v = .slice (some ⟨b, off, none⟩) zs.length cap ∧ zs ≠ [] ∧ ∀ k, k < zs.length → w.cell? ⟨b, off + k, none⟩ = some (.int .i64 (zs.getD k 0)))

theorem Ints.later {B : Nat} {w w' : World} {v : Value} {zs : List Int} (h : Ints w v zs) (hb : Below B w w') (hB : w.heap.size ≤ B) : Ints w' v zs := by
  rcases h with h | ⟨b, off, cap, hv, hz, hc⟩
  · exact Or.inl h
  · refine Or.inr ⟨b, off, cap, hv, hz, fun k hk => ?_⟩
    have h1 := hc k hk
    have h2 := World.block_lt_of_cell? _ _ h1
    rw [← h1]
    exact hb.cell (p := ⟨b, off + k, none⟩) (by simp at h2 ⊢; omega)

theorem Ints.shape {w : World} {v : Value} {zs : List Int} (h : Ints w v zs) : ∃ ao cap, v = .slice ao zs.length cap := by
  rcases h with ⟨rfl, ao, cap, rfl, _⟩ | ⟨b, off, cap, rfl, _, _⟩
  · exact ⟨ao, cap, rfl⟩
  · exact ⟨_, cap, rfl⟩

theorem in_any (n lo hi : Int) (w : World) :
    Calls Tryz.prog 49 #[.int .i64 n, .int .i64 lo, .int .i64 hi] w fun e w' => e = .returned (.bool (Pl.inB n lo hi)) ∧ w' = w := by
  by_cases h1 : lo ≤ n
  · by_cases h2 : n ≤ hi
    all_goals
      go_enter Tryz.func49, Tryz.ntmps49
      go_wp2
      go_ret
      exact ⟨by simp [Pl.inB]; omega, rfl⟩
  · go_enter Tryz.func49, Tryz.ntmps49
    go_wp2
    go_ret
    exact ⟨by simp [Pl.inB]; omega, rfl⟩

theorem szInts_any (ao : Option Addr) (len cap : Nat) (left : Int) (w : World) (hl : (len : Int) ≤ 9223372036854775807) (h0 : 0 ≤ left) (h1 : left ≤ 1048576) :
    Calls Tryz.prog 56 #[.slice ao len cap, .int .i64 left] w fun e w' => e = .returned (.int .i64 (if left - len < 0 then -1 else left - len)) ∧ w' = w := by
  by_cases h : left - (len : Int) < 0
  · rw [if_pos h]
    go_enter Tryz.func56, Tryz.ntmps56
    go_wp2
    go_ret
    exact ⟨rfl, rfl⟩
  · rw [if_neg h]
    go_enter Tryz.func56, Tryz.ntmps56
    go_wp2
    go_ret
    exact ⟨rfl, rfl⟩

set_option maxHeartbeats 400000 in
theorem many_any (v : Value) (zs : List Int) (w : World) (hv : Ints w v zs) (hl : zs.length ≤ 1048576) :
    Calls Tryz.prog 152 #[v] w fun e w' => e = .returned (.bool (Pl.manyOk zs)) ∧ w' = w := by
  rcases hv with ⟨rfl, ao, cap, rfl, -⟩ | ⟨b, off, cap, rfl, hz, hc⟩
  · go_enter Tryz.func152, Tryz.ntmps152
    go_wp2
    refine wp_loop_rounds 1 ?_
    rw [rounds_succ]
    go_wp2
    go_ret
    exact ⟨rfl, rfl⟩
  · have hz0 : 0 < zs.length := List.length_pos_iff.2 hz
    have HC : Hid (∀ k, k < zs.length → w.cell? ⟨b, off + k, none⟩ = some (.int .i64 (zs.getD k 0))) := hc
    clear hz hc
    go_enter Tryz.func152, Tryz.ntmps152
    go_wp2
    go_loop [3, 4] (fun s i => ∃ k : Nat, k ≤ zs.length ∧ i = .int .i64 k ∧ s = .int .i64 (zs.take k).sum ∧ Hid ((zs.take k).all (fun z => Pl.inB z 0 3) = true)) (fun _ i => zs.length - (intOf i).toNat)
    case atStart => exact ⟨0, Nat.zero_le _, rfl, rfl, rfl⟩
    case round =>
      obtain ⟨k, hk, rfl, rfl, hall⟩ := hrel
      have hbd := Pl.sum_bd _ hall.out
      have hlt' : (zs.take k).length ≤ 1048576 := by simp; omega
      by_cases hlt : k < zs.length
      · obtain ⟨z, HZ⟩ : ∃ z, Hid (z = zs.getD k 0) := ⟨_, rfl⟩
        have hck : w.cell? ⟨b, off + k, none⟩ = some (.int .i64 z) := by rw [HZ.out]; exact HC.out k hlt
        cases hin : Pl.inB z 0 3
        · have HB : Hid (Pl.manyOk zs = false) := Pl.manyOk_bad zs k hlt (by rw [← HZ.out]; exact hin)
          go_wp2_with (go_at_call 49; refine (in_any _ _ _ _).mono ?_; rintro e w' ⟨rfl, rfl⟩)
          go_ret
          exact ⟨by rw [HB.out]; rfl, rfl⟩
        · have hz := Pl.inB_true hin
          go_wp2_with (go_at_call 49; refine (in_any _ _ _ _).mono ?_; rintro e w' ⟨rfl, rfl⟩)
          go_round
          case rel => exact ⟨k + 1, by omega, by go_num, by rw [Pl.sum_snoc zs k hlt, ← HZ.out], by show _ = _; rw [Pl.all_snoc _ zs k hlt, hall.out, ← HZ.out, hin]; rfl⟩
          case measure => simp [intOf]; omega
      · have HE : Hid (Pl.manyOk zs = ((zs.length == 3) && decide (0 < (zs.take k).sum))) := by
          have hke : k = zs.length := by omega
          have := hall.out
          rw [hke, List.take_length] at this ⊢
          exact Pl.manyOk_end zs this
        by_cases h3 : (zs.length : Int) = 3
        · go_wp2
          go_ret
          exact ⟨by rw [HE.out]; simp; omega, rfl⟩
        · go_wp2
          go_ret
          exact ⟨by rw [HE.out]; simp; omega, rfl⟩

end Go.Proofs.YtkkkdgpbmmjieaaGreatDoor

namespace Go.Proofs.YtkkkdgpbmmjieaaGreatDoor
open Go.RowKit

set_option maxHeartbeats 600000 in
theorem wanted_any (v : Value) (zs : List Int) (w : World) (hv : Ints w v zs) (hl : zs.length ≤ 1048576) :
    Calls Tryz.prog 213 #[v] w fun e w' => e = .returned (.bool (Pl.manyOk zs)) ∧ w' = w := by
  by_cases h3 : zs.length = 3
  · rcases hv with ⟨rfl, ao, cap, rfl, -⟩ | ⟨b, off, cap, rfl, hz, hc⟩
    · simp at h3
    · have HC : Hid (∀ k, k < zs.length → w.cell? ⟨b, off + k, none⟩ = some (.int .i64 (zs.getD k 0))) := hc
      have H3 : Hid (zs.length = 3) := h3
      clear hz hc
      rw [h3]
      clear h3 hl
      go_enter Tryz.func213, Tryz.ntmps213
      go_wp2
      go_loop [3, 11] (fun s i => ∃ k : Nat, k ≤ 3 ∧ i = .int .i64 k ∧ s = .bool (Pl.anyPos (zs.take k)) ∧ Hid ((zs.take k).all (fun z => Pl.inB z 0 3) = true)) (fun _ i => 3 - (intOf i).toNat)
      case atStart => exact ⟨0, Nat.zero_le _, rfl, rfl, rfl⟩
      case round =>
        obtain ⟨k, hk, rfl, rfl, hall⟩ := hrel
        by_cases hlt : k < 3
        · have hlz : Hid (k < zs.length) := by show _ < _; rw [H3.out]; exact hlt
          obtain ⟨z, HZ⟩ : ∃ z, Hid (z = zs.getD k 0) := ⟨_, rfl⟩
          have hck : w.cell? ⟨b, off + k, none⟩ = some (.int .i64 z) := by rw [HZ.out]; exact HC.out k hlz.out
          by_cases h0 : z < 0
          · have HB : Hid (Pl.manyOk zs = false) := Pl.manyOk_bad zs k hlz.out (by rw [← HZ.out]; exact Pl.inB_lo h0)
            go_wp2
            go_ret
            exact ⟨by rw [HB.out]; rfl, rfl⟩
          by_cases h4 : 3 < z
          · have HB : Hid (Pl.manyOk zs = false) := Pl.manyOk_bad zs k hlz.out (by rw [← HZ.out]; exact Pl.inB_hi h4)
            go_wp2
            go_ret
            exact ⟨by rw [HB.out]; rfl, rfl⟩
          have HA : Hid ((zs.take (k + 1)).all (fun z => Pl.inB z 0 3) = true) := by
            show _ = _
            rw [Pl.all_snoc _ zs k hlz.out, hall.out, ← HZ.out, Pl.inB_mk (by omega) (by omega)]; rfl
          have HS : Hid (Pl.anyPos (zs.take (k + 1)) = (Pl.anyPos (zs.take k) || decide (0 < z))) := by
            show _ = _
            rw [Pl.anyPos_snoc zs k hlz.out, ← HZ.out]
          cases hs : Pl.anyPos (zs.take k)
          · by_cases hp : 0 < z
            all_goals
              go_wp2
              go_round
              case rel => exact ⟨k + 1, by omega, by go_num, by rw [HS.out, hs]; simp; omega, HA⟩
              case measure => simp [intOf]; omega
          · go_wp2
            go_round
            case rel => exact ⟨k + 1, by omega, by go_num, by rw [HS.out, hs]; rfl, HA⟩
            case measure => simp [intOf]; omega
        · have HE : Hid (Pl.manyOk zs = Pl.anyPos (zs.take k)) := by
            show _ = _
            have hke : k = zs.length := by rw [H3.out]; omega
            have := hall.out
            rw [hke, List.take_length] at this ⊢
            exact Pl.manyOk_any zs this H3.out
          go_wp2
          go_ret
          exact ⟨by rw [HE.out]; rfl, rfl⟩
  · have hne : ¬ (zs.length : Int) = 3 := by omega
    rw [Pl.manyOk_len zs h3]
    obtain ⟨ao, cap, rfl⟩ := hv.shape
    clear hv h3
    go_enter Tryz.func213, Tryz.ntmps213
    go_wp2
    go_ret
    exact ⟨rfl, rfl⟩

end Go.Proofs.YtkkkdgpbmmjieaaGreatDoor

namespace Go.Proofs.YtkkkdgpbmmjieaaGreatDoor
open Go.RowKit Go.Extern

theorem isTypeOf (v : Value) (w : World) : (Extern.ReflectliteType.typeOf #[.iface 283 v]).run Tryz.prog w = .ok (.iface 268 (.agg #[.pointer (some ⟨1, 283, none⟩)])) w := by kernel_rfl
theorem isComparable (w : World) : Sem.run Tryz.prog (callFunc 250 #[.agg #[.pointer (some ⟨1, 283, none⟩)]]) w = .ok (Next.value (.bool true)) w := by kernel_rfl
theorem isMethodComparable (v : Value) (w : World) : (Go.method 421 268 v "Comparable").run Tryz.prog w = .ok (250, v) w := by kernel_rfl
theorem isComp : (Tryz.prog.info? 283).map (·.comparable) = some true := by kernel_rfl
theorem isSize : (Tryz.prog.info? 309).map (·.size) = some 1 := by kernel_rfl

/-- errors.Is(x, x), x a pointer to an errors.errorString. -/
theorem is_same (a : Addr) (w : World) :
    Calls Tryz.prog 178 #[.iface 283 (.pointer (some a)), .iface 283 (.pointer (some a))] w fun e w' => e = .returned (.bool true) ∧ w' = w := by
  obtain ⟨i, hi, hcmp⟩ := Option.map_eq_some_iff.1 isComp
  obtain ⟨j, hj, hjs⟩ := Option.map_eq_some_iff.1 isSize
  have h8 := @run_callFunc_extern Tryz.prog 200 _ Extern.ReflectliteType.typeOf Tryz.func200 (by kernel_rfl) (by kernel_rfl) (by kernel_rfl) (by kernel_rfl)
  have tT := isTypeOf
  have cT := isComparable
  have mR := isMethodComparable
  have heq := run_eql_iface_ptr_same (P := Tryz.prog) w a Tryz.underlying220 Tryz.underlying283 hi hcmp hj
  go_enter Tryz.func178, Tryz.ntmps178
  go_wp2
  refine wp_loop_rounds 1 ?_
  rw [rounds_succ]
  go_wp2
  go_ret
  exact ⟨rfl, rfl⟩

/-- errors.Is(nil, x). -/
theorem is_nil (b : Addr) (w : World) :
    Calls Tryz.prog 178 #[.nilIface, .iface 283 (.pointer (some b))] w fun e w' => e = .returned (.bool false) ∧ w' = w := by
  have hn := run_eql_iface_nil_left (P := Tryz.prog) w 283 (.pointer (some b)) Tryz.underlying220
  go_enter Tryz.func178, Tryz.ntmps178
  go_wp2
  go_ret
  exact ⟨rfl, rfl⟩

end Go.Proofs.YtkkkdgpbmmjieaaGreatDoor

namespace Go.Proofs.YtkkkdgpbmmjieaaGreatDoor
open Go.RowKit

/-- What comes beside an entry: no error, or the sentinel. -/
def errV (ok : Bool) (a : Addr) : Value := if ok then .nilIface else .iface 283 (.pointer (some a))

/-- The sentinel's variable holds this pointer. -/
def ErrAt (w : World) (a : Addr) : Prop := w.cell? ⟨0, 0, none⟩ = some (.iface 283 (.pointer (some a)))

theorem ErrAt.later {B : Nat} {w w' : World} {a : Addr} (h : ErrAt w a) (hb : Below B w w') (hB : w.heap.size ≤ B) : ErrAt w' a := by
  have h2 := World.block_lt_of_cell? _ _ h
  unfold ErrAt at *
  rw [← h]
  exact hb.cell (p := ⟨0, 0, none⟩) (by simp at h2 ⊢; omega)

set_option maxHeartbeats 600000 in
theorem hold_any (t : Int) (v : Value) (zs : List Int) (a : Addr) (w : World) (hv : Ints w v zs) (ha : ErrAt w a) :
    Calls Tryz.prog 197 #[.int .i64 t, v] w fun e w' => (∃ ent, e = .returned (.tuple #[ent, errV (Pl.holdOk zs) a])) ∧ Below w.heap.size w w' := by
  unfold ErrAt at ha
  by_cases h1 : zs.length = 1
  · obtain ⟨z, rfl⟩ := List.length_eq_one_iff.1 h1
    rcases hv with ⟨h, _⟩ | ⟨b, off, cap, rfl, hz, hc⟩
    · simp at h
    have hc0 : w.cell? ⟨b, off, none⟩ = some (.int .i64 z) := hc 0 (by simp)
    clear hc hz h1
    by_cases hz1 : z < 1
    · have HE : Hid (errV (Pl.holdOk [z]) a = .iface 283 (.pointer (some a))) := by
        show _ = _; simp [Pl.holdOk, Pl.inB_lo hz1, errV]
      go_enter Tryz.func197, Tryz.ntmps197
      go_wp2
      go_quiet (fail)
      go_wp2
      go_ret2
      exact ⟨⟨_, by rw [HE.out]; rfl⟩, below_drewN (Below.refl _ _) _⟩
    by_cases hz3 : 3 < z
    · have HE : Hid (errV (Pl.holdOk [z]) a = .iface 283 (.pointer (some a))) := by
        show _ = _; simp [Pl.holdOk, Pl.inB_hi hz3, errV]
      go_enter Tryz.func197, Tryz.ntmps197
      go_wp2
      go_quiet (fail)
      go_wp2
      go_ret2
      exact ⟨⟨_, by rw [HE.out]; rfl⟩, below_drewN (Below.refl _ _) _⟩
    · have HE : Hid (errV (Pl.holdOk [z]) a = .nilIface) := by
        show _ = _; simp [Pl.holdOk, Pl.inB_mk (show 1 ≤ z by omega) (show z ≤ 3 by omega), errV]
      go_enter Tryz.func197, Tryz.ntmps197
      go_wp2
      go_ret2
      exact ⟨⟨_, by rw [HE.out]; rfl⟩, Below.refl _ _⟩
  · have HE : Hid (errV (Pl.holdOk zs) a = .iface 283 (.pointer (some a))) := by
      show _ = _; simp [Pl.holdOk, h1, errV]
    have hne : ¬ (zs.length : Int) = 1 := by omega
    obtain ⟨ao, cap, rfl⟩ := hv.shape
    clear hv h1
    go_enter Tryz.func197, Tryz.ntmps197
    go_wp2
    go_quiet (fail)
    go_wp2
    go_ret2
    exact ⟨⟨_, by rw [HE.out]; rfl⟩, below_drewN (Below.refl _ _) _⟩

set_option maxHeartbeats 600000 in
theorem plain_any (k t : Int) (v : Value) (zs : List Int) (a : Addr) (w : World) (hv : Ints w v zs) (ha : ErrAt w a) :
    Calls Tryz.prog 199 #[.int .i64 k, .int .i64 t, v] w fun e w' => (∃ ent, e = .returned (.tuple #[ent, errV (zs.length == 0) a])) ∧ Below w.heap.size w w' := by
  unfold ErrAt at ha
  obtain ⟨ao, cap, rfl⟩ := hv.shape
  clear hv
  by_cases h1 : (zs.length : Int) = 0
  · have HE : Hid (errV (zs.length == 0) a = .nilIface) := by
      have : zs.length = 0 := by omega
      show _ = _; simp [this, errV]
    go_enter Tryz.func199, Tryz.ntmps199
    go_wp2
    go_ret2
    exact ⟨⟨_, by rw [HE.out]; rfl⟩, Below.refl _ _⟩
  · have HE : Hid (errV (zs.length == 0) a = .iface 283 (.pointer (some a))) := by
      have : (zs.length == 0) = false := beq_eq_false_iff_ne.2 (by omega)
      show _ = _; rw [this]; rfl
    go_enter Tryz.func199, Tryz.ntmps199
    go_wp2
    go_quiet (fail)
    go_wp2
    go_ret2
    exact ⟨⟨_, by rw [HE.out]; rfl⟩, below_drewN (Below.refl _ _) _⟩

set_option maxHeartbeats 1000000 in
theorem begin_any (t : Int) (v : Value) (zs : List Int) (a : Addr) (w : World) (hv : Ints w v zs) (hl : zs.length ≤ 1048576) (ha : ErrAt w a) :
    Calls Tryz.prog 198 #[.int .i64 t, v] w fun e w' => (∃ ent, e = .returned (.tuple #[ent, errV (Pl.manyOk zs) a])) ∧ Below w.heap.size w w' := by
  unfold ErrAt at ha
  have hw := wanted_any v zs w hv hl
  cases hm : Pl.manyOk zs
  · have HE : Hid (errV false a = .iface 283 (.pointer (some a))) := rfl
    rw [hm] at hw
    have HW := hw
    clear hw
    obtain ⟨ao, cap, rfl⟩ := hv.shape
    clear hv hm
    go_enter Tryz.func198, Tryz.ntmps198
    go_wp2_with (go_at_call 213; refine HW.mono ?_; rintro e w' ⟨rfl, rfl⟩)
    go_quiet (fail)
    go_wp2
    go_ret2
    exact ⟨⟨_, by rw [HE.out]; rfl⟩, below_drewN (Below.refl _ _) _⟩
  · have HE : Hid (errV true a = .nilIface) := rfl
    rw [hm] at hw
    have HW := hw
    clear hw ha
    have h3 : zs.length = 3 := by
      by_cases h : zs.length = 3
      · exact h
      · rw [Pl.manyOk_len zs h] at hm; simp at hm
    obtain ⟨z0, z1, z2, rfl⟩ : ∃ z0 z1 z2, zs = [z0, z1, z2] := by
      match zs, h3 with
      | [z0, z1, z2], _ => exact ⟨z0, z1, z2, rfl⟩
    rcases hv with ⟨h, _⟩ | ⟨b, off, cap, rfl, hz, hc⟩
    · simp at h
    have hc0 : w.cell? ⟨b, off, none⟩ = some (.int .i64 z0) := hc 0 (by simp)
    have hc1 : w.cell? ⟨b, off + 1, none⟩ = some (.int .i64 z1) := hc 1 (by simp)
    have hc2 : w.cell? ⟨b, off + 2, none⟩ = some (.int .i64 z2) := hc 2 (by simp)
    have hbw : b < w.heap.size := World.block_lt_of_cell? _ _ hc0
    clear hc hz hm h3 hl
    go_enter Tryz.func198, Tryz.ntmps198
    go_wp2_with (go_at_call 213; refine HW.mono ?_; rintro e w' ⟨rfl, rfl⟩)
    refine wp_loop_rounds 4 ?_
    rw [rounds_succ]
    go_wp2
    rw [rounds_succ]
    go_wp2
    rw [rounds_succ]
    go_wp2
    rw [rounds_succ]
    go_wp2
    go_ret2
    exact ⟨⟨_, by rw [HE.out]; rfl⟩, (Below.refl _ _).alloc (Nat.le_refl _) _⟩

end Go.Proofs.YtkkkdgpbmmjieaaGreatDoor

namespace Go.Proofs.YtkkkdgpbmmjieaaGreatDoor
open Go.ChangeShapes Go.WideShapes Go.ChangeAt Go.WideMaps Go.WideElems Go.RowKit

theorem own : ownKnob Tryz.prog.godebug = none := by kernel_rfl
theorem laidOut : laidOutB Tryz.prog = true := by kernel_rfl
theorem gErr : Tryz.prog.globalNamed "loop.example/concierge/impl.errNoRec" = some 0 := by kernel_rfl
theorem gErrType : (Tryz.prog.globals[0]?).map (·.type) = some 220 := by kernel_rfl
theorem cellsErrS : Tryz.prog.cellsOf 309 = 1 := by kernel_rfl
theorem cellsString : Tryz.prog.cellsOf 9 = 1 := by kernel_rfl
theorem cellsInt : Tryz.prog.cellsOf 3 = 1 := by kernel_rfl
theorem star : "*" ++ "errors.errorString" = "*errors.errorString" := by decide
theorem rowErr (u : TypeId) (h : Tryz.prog.typeName? 3 u = some "*errors.errorString") : u = 283 :=
  typeName_ptr_named (nm := "errors.errorString") (by rw [star]; kernel_rfl) (by kernel_rfl) (by decide) u (by rw [star]; exact h)

/-- The list that every row of this seat bears. -/
def laidErr : List (String × DataW Unit) := [("loop.example/concierge/impl.errNoRec", Rows.laid_loop_example_concierge_impl_errNoRec)]

theorem door_met (os : Os) (args : Array Value) : laidMetH Tryz.prog laidErr ((World.doorLaid Tryz.prog 28 os).forCall (fun _ _ => 0) ⟨#[], args, []⟩).memory :=
  laidMetH_of_parts3 (fuel := 8) (laidMet_of_run' 8 (by kernel_rfl) (by kernel_rfl)) (by kernel_rfl) (by kernel_rfl)

/-- What the list gives: the variable holds a pointer to an errors.errorString. -/
theorem of_laid {W : World} (h : laidMetH Tryz.prog laidErr W) : ∃ a, ErrAt W a ∧ W.var? Tryz.prog "loop.example/concierge/impl.errNoRec" = some #[.iface 283 (.pointer (some a))] := by
  rw [MakeChecks.laidMetH_plain _ _ _ (by kernel_rfl)] at h
  obtain ⟨a, s, hv, hc, _, _⟩ := laid_sentinel (r := []) h gErr gErrType Tryz.underlying220 rowErr Tryz.underlying283 Tryz.underlying309 rfl rfl Tryz.underlying9 cellsErrS cellsString
  refine ⟨a, ?_, hv⟩
  unfold ErrAt
  simpa using World.var?_cell gErr hv 0

end Go.Proofs.YtkkkdgpbmmjieaaGreatDoor

namespace Go.Proofs.YtkkkdgpbmmjieaaGreatDoor
open Go.RowKit

theorem info3 : (Tryz.prog.info? 3).map (fun i => (i.zero, i.size, i.bytes)) = some (some (.int .i64 0), 1, 8) := by kernel_rfl

/-- What a copy holds when k numbers have been copied. -/
def part (zs : List Int) (k : Nat) : List Value := (zs.take k).map (Value.int .i64) ++ List.replicate (zs.length - k) (Value.int .i64 0)
theorem part_zero (zs : List Int) : part zs 0 = List.replicate zs.length (Value.int .i64 0) := by simp [part]
theorem part_all (zs : List Int) : part zs zs.length = zs.map (Value.int .i64) := by simp [part]
theorem part_set (zs : List Int) (k : Nat) (h : k < zs.length) : (part zs k).set k (Value.int .i64 (zs.getD k 0)) = part zs (k + 1) := by
  unfold part
  rw [Pl.take_snoc zs k h, List.set_append_right _ _ (by simp; omega)]
  simp only [List.length_map, List.length_take, List.map_append, List.map_cons, List.map_nil, List.append_assoc]
  rw [show k - min k zs.length = 0 by omega, show zs.length - k = (zs.length - (k + 1)) + 1 by omega, List.replicate_succ]
  rfl

theorem made_one (z : Value) (hz : z.cells = #[z]) (n : Nat) : (madeCells z.cells (n * 1)).toList = List.replicate n z := by
  rw [hz, Nat.mul_one]; exact toList_madeCells_one z n

/-- A row of numbers that the call owns is a list of them. -/
theorem ints_of_row {w : World} {base g cap : Nat} {zs : List Int} (h : w.ownsRow base 3 1 (.slice (some ⟨g, 0, none⟩) zs.length cap) zs.length (zs.map (Value.int .i64))) :
    Ints w (.slice (some ⟨g, 0, none⟩) zs.length cap) zs := by
  by_cases hz : zs = []
  · subst hz; exact Or.inl ⟨rfl, _, _, rfl, fun h => by cases h⟩
  · refine Or.inr ⟨g, 0, cap, rfl, hz, fun k hk => ?_⟩
    have := h.cellAt k (by omega)
    rw [Nat.zero_add, this]
    simp [List.getD_eq_getElem?_getD, hk]

set_option maxHeartbeats 1000000 in
theorem toInts_any (v : Value) (zs : List Int) (w : World) (hv : Ints w v zs) (hl : zs.length ≤ 1048576) :
    Calls Tryz.prog 27 #[v] w fun e w' => e = .returned (.slice (some ⟨w.heap.size, 0, none⟩) zs.length zs.length) ∧
      w'.ownsRow w.heap.size 3 1 (.slice (some ⟨w.heap.size, 0, none⟩) zs.length zs.length) zs.length (zs.map (Value.int .i64)) ∧ Below w.heap.size w w' := by
  obtain ⟨i0, hi, hz0, hz1, hz2⟩ := info_parts info3
  have hbytes : i0.bytes * zs.length ≤ 281474976710656 := by rw [hz2]; omega
  have hmax : zs.length ≤ maxLen := by unfold maxLen; omega
  rcases hv with ⟨rfl, ao, cap, rfl, -⟩ | ⟨b, off, cap, rfl, hz, hc⟩
  · go_enter Tryz.func27, Tryz.ntmps27
    go_wp2_with (at_make; refine wpList_make_full _ rfl _ _ 51 rfl w.heap.size 3 i0 (.int .i64 0) 1 Tryz.underlying51 hi hz0 hz1 .i64 .i64 _ _ 0 rfl rfl rfl rfl hbytes hmax (Nat.le_refl _) ?_; intro w1 hown hgrow)
    refine wp_loop_rounds 1 ?_
    rw [rounds_succ]
    go_wp2
    go_ret
    exact ⟨rfl, by rw [made_one _ rfl] at hown; exact hown, (Below.refl _ _).grown hgrow (Nat.le_refl _) (fun k h => by cases h)⟩
  have HC : Hid (∀ k, k < zs.length → w.cell? ⟨b, off + k, none⟩ = some (.int .i64 (zs.getD k 0))) := hc
  have hzl : 0 < zs.length := List.length_pos_iff.2 hz
  have hbw : b < w.heap.size := World.block_lt_of_cell? _ _ (hc 0 hzl)
  clear hc hz
  go_enter Tryz.func27, Tryz.ntmps27
  go_wp2_with (at_make; refine wpList_make_full _ rfl _ _ 51 rfl w.heap.size 3 i0 (.int .i64 0) 1 Tryz.underlying51 hi hz0 hz1 .i64 .i64 _ _ zs.length rfl rfl rfl rfl hbytes hmax (Nat.le_refl _) ?_; intro w1 hown hgrow)
  have hown0 : w1.ownsRow w.heap.size 3 1 (.slice (some ⟨w.heap.size, 0, none⟩) zs.length zs.length) zs.length (part zs 0) := by
    rw [part_zero]; rw [made_one _ rfl] at hown; exact hown
  have hbel : Below w.heap.size w w1 := (Below.refl _ _).grown hgrow (Nat.le_refl _) (fun k h => by cases h)
  clear hown hgrow
  go_loopw [4] (fun i wr => ∃ k : Nat, k ≤ zs.length ∧ i = .int .i64 k ∧ wr.ownsRow w.heap.size 3 1 (.slice (some ⟨w.heap.size, 0, none⟩) zs.length zs.length) zs.length (part zs k) ∧ Below w.heap.size w wr) (fun i _ => zs.length - (intOf i).toNat)
  case atStart => exact ⟨0, Nat.zero_le _, rfl, hown0, hbel⟩
  case round =>
    obtain ⟨k, hk, rfl, hown, hbe⟩ := hrel
    by_cases hlt : k < zs.length
    · obtain ⟨z, HZ⟩ : ∃ z, Hid (z = zs.getD k 0) := ⟨_, rfl⟩
      have hck : wr.cell? ⟨b, off + k, none⟩ = some (.int .i64 z) := by rw [HZ.out, hbe.cell (p := ⟨b, off + k, none⟩) hbw]; exact HC.out k hlt
      obtain ⟨u, hcu⟩ : ∃ u, wr.cell? ⟨w.heap.size, k, none⟩ = some u := by
        have h1 := hown.cellAt k (by omega)
        have h2 : k < (part zs k).length := by rw [hown.1]; omega
        exact ⟨_, by rw [h1, List.getElem?_eq_getElem h2]⟩
      have hfr := hown.frozenAt k
      have HO : Hid (wr.ownsRow w.heap.size 3 1 (.slice (some ⟨w.heap.size, 0, none⟩) zs.length zs.length) zs.length (part zs k)) := hown
      have HB : Hid (Below w.heap.size w wr) := hbe
      clear hown hbe
      go_wp2
      go_roundw
      case rel =>
        refine ⟨k + 1, by omega, by go_num, ?_, ?_⟩
        · rw [← part_set zs k hlt, ← HZ.out]; exact (HO.out.stored k _).1
        · exact HB.out.setCell (Nat.le_refl _) _
      case measure => simp [intOf]; omega
    · have hke : Hid (k = zs.length) := by show _ = _; omega
      have HO : Hid (wr.ownsRow w.heap.size 3 1 (.slice (some ⟨w.heap.size, 0, none⟩) zs.length zs.length) zs.length (zs.map (Value.int .i64))) := by
        show World.ownsRow _ _ _ _ _ _ _
        rw [← part_all, ← hke.out]; rw [hke.out] at hown ⊢; exact hown
      clear hown
      go_wp2
      go_ret
      exact ⟨rfl, HO.out, hbe⟩

end Go.Proofs.YtkkkdgpbmmjieaaGreatDoor

namespace Go.Proofs.YtkkkdgpbmmjieaaGreatDoor
open Go.RowKit

theorem bcell {W w1 : World} (hb : Below W.heap.size W w1) : (∀ b o, b < W.heap.size → w1.cell? ⟨b, o, none⟩ = W.cell? ⟨b, o, none⟩) ∧ (∀ b o, b < W.heap.size → w1.frozen? ⟨b, o, none⟩ = W.frozen? ⟨b, o, none⟩) :=
  ⟨fun b o h => hb.cell (p := ⟨b, o, none⟩) h, fun b o h => hb.frozen (p := ⟨b, o, none⟩) h⟩

theorem szRec_any (k t : Int) (ao : Option Addr) (len cap : Nat) (left : Int) (w : World) (hl : (len : Int) ≤ 9223372036854775807) (h0 : 0 ≤ left) (h1 : left ≤ 1048576) :
    Calls Tryz.prog 151 #[.agg #[.int .i64 k, .int .i64 t, .slice ao len cap], .int .i64 left] w fun e w' => e = .returned (.int .i64 (if left - len < 0 then -1 else left - len)) ∧ Below w.heap.size w w' := by
  have hs := szInts_any ao len cap left
  by_cases h : left - (len : Int) < 0
  · rw [if_pos h]
    have HS : Hid (∀ w, Calls Tryz.prog 56 #[.slice ao len cap, .int .i64 left] w fun e w' => e = .returned (.int .i64 (-1)) ∧ w' = w) := fun w => by have := hs w hl h0 h1; rw [if_pos h] at this; exact this
    clear hs
    go_enter Tryz.func151, Tryz.ntmps151
    go_wp2_with (go_at_call 56; refine (HS.out _).mono ?_; rintro e w' ⟨rfl, rfl⟩)
    go_ret
    exact ⟨rfl, (Below.refl _ _).alloc (Nat.le_refl _) _⟩
  · rw [if_neg h]
    have HS : Hid (∀ w, Calls Tryz.prog 56 #[.slice ao len cap, .int .i64 left] w fun e w' => e = .returned (.int .i64 (left - len)) ∧ w' = w) := fun w => by have := hs w hl h0 h1; rw [if_neg h] at this; exact this
    clear hs
    go_enter Tryz.func151, Tryz.ntmps151
    go_wp2_with (go_at_call 56; refine (HS.out _).mono ?_; rintro e w' ⟨rfl, rfl⟩)
    go_ret
    exact ⟨rfl, (Below.refl _ _).alloc (Nat.le_refl _) _⟩

theorem size3 (w : World) (o1 o2 o3 : Obj) : (((w.alloc o1).alloc o2).alloc o3).heap.size = w.heap.size + 3 := by simp
theorem below3 (w : World) (o1 o2 o3 : Obj) : Below w.heap.size w (((w.alloc o1).alloc o2).alloc o3) :=
  (((Below.refl _ _).alloc (Nat.le_refl _) _).alloc (by simp) _).alloc (by simp; omega) _
theorem toInts3 (v : Value) (zs : List Int) (w : World) (o1 o2 o3 : Obj) (hv : Ints w v zs) (hl : zs.length ≤ 1048576) :
    Calls Tryz.prog 27 #[v] (((w.alloc o1).alloc o2).alloc o3) fun e w' => e = .returned (.slice (some ⟨w.heap.size + 3, 0, none⟩) zs.length zs.length) ∧
      w'.ownsRow (w.heap.size + 3) 3 1 (.slice (some ⟨w.heap.size + 3, 0, none⟩) zs.length zs.length) zs.length (zs.map (Value.int .i64)) ∧ Below (w.heap.size + 3) (((w.alloc o1).alloc o2).alloc o3) w' := by
  have h := toInts_any v zs (((w.alloc o1).alloc o2).alloc o3) (hv.later (below3 w o1 o2 o3) (Nat.le_refl _)) hl
  rw [size3] at h
  exact h

set_option maxHeartbeats 1000000 in
theorem toRec_any (k t : Int) (v : Value) (zs : List Int) (w : World) (hv : Ints w v zs) (hl : zs.length ≤ 1048576) :
    Calls Tryz.prog 154 #[.agg #[.int .i64 k, .int .i64 t, v]] w fun e w' => e = .returned (.agg #[.int .i64 k, .int .i64 t, .slice (some ⟨w.heap.size + 3, 0, none⟩) zs.length zs.length]) ∧
      w'.ownsRow (w.heap.size + 3) 3 1 (.slice (some ⟨w.heap.size + 3, 0, none⟩) zs.length zs.length) zs.length (zs.map (Value.int .i64)) ∧ Below w.heap.size w w' := by
  have HV : Hid (Ints w v zs) := hv
  clear hv
  go_enter Tryz.func154, Tryz.ntmps154
  go_wp2_with fail
  refine (toInts3 v zs w _ _ _ HV.out hl).mono ?_
  rintro e w1 ⟨rfl, hown, hb⟩
  have hc : ∀ b o, b < w.heap.size + 3 → w1.cell? ⟨b, o, none⟩ = _ := fun b o h => hb.cell (p := ⟨b, o, none⟩) h
  have hf : ∀ b o, b < w.heap.size + 3 → w1.frozen? ⟨b, o, none⟩ = _ := fun b o h => hb.frozen (p := ⟨b, o, none⟩) h
  have hz : w.heap.size + 3 ≤ w1.heap.size := by have := hb.size; rw [size3] at this; exact this
  have HO : Hid (w1.ownsRow (w.heap.size + 3) 3 1 (.slice (some ⟨w.heap.size + 3, 0, none⟩) zs.length zs.length) zs.length (zs.map (Value.int .i64))) := hown
  have HB : Hid (Below w.heap.size w w1) := (below3 w _ _ _).trans (hb.mono (by omega))
  clear hown hb
  go_wp2
  refine bodyPost_ret (v := .agg #[.int .i64 k, .int .i64 t, .slice (some ⟨w.heap.size + 3, 0, none⟩) zs.length zs.length]) (by simp [results, Tryz.results154, go_sem, hc]) rfl ⟨rfl, ?_, ?_⟩
  · exact ownsRow_setCell_below (ownsRow_setCell_below (ownsRow_setCell_below (ownsRow_setCell_below HO.out (by simp) _) (by simp) _) (by simp) _) (by simp) _
  · exact (((HB.out.setCell (by simp; omega) _).setCell (by simp) _).setCell (by simp) _).setCell (by simp) _

set_option maxHeartbeats 1000000 in
theorem eqInts_any (v1 v2 : Value) (zs : List Int) (w : World) (h1 : Ints w v1 zs) (h2 : Ints w v2 zs) (hl : zs.length ≤ 1048576) :
    Calls Tryz.prog 30 #[v1, v2] w fun e w' => e = .returned (.bool true) ∧ Below w.heap.size w w' := by
  rcases h1 with ⟨rfl, ao, cap, rfl, -⟩ | ⟨b, off, cap, rfl, hz, hc⟩
  · obtain ⟨ao2, cap2, rfl⟩ := h2.shape
    clear h2
    go_enter Tryz.func30, Tryz.ntmps30
    go_wp2
    refine wp_loop_rounds 1 ?_
    rw [rounds_succ]
    go_wp2
    go_ret
    exact ⟨rfl, Below.refl _ _⟩
  rcases h2 with ⟨h, _⟩ | ⟨b2, off2, cap2, rfl, _, hc2⟩
  · exact absurd h hz
  have HC : Hid (∀ k, k < zs.length → w.cell? ⟨b, off + k, none⟩ = some (.int .i64 (zs.getD k 0))) := hc
  have HC2 : Hid (∀ k, k < zs.length → w.cell? ⟨b2, off2 + k, none⟩ = some (.int .i64 (zs.getD k 0))) := hc2
  have hzl : 0 < zs.length := List.length_pos_iff.2 hz
  have hbw : b < w.heap.size := World.block_lt_of_cell? _ _ (hc 0 hzl)
  have hbw2 : b2 < w.heap.size := World.block_lt_of_cell? _ _ (hc2 0 hzl)
  clear hc hc2 hz
  go_enter Tryz.func30, Tryz.ntmps30
  go_wp2
  go_loopw [5] (fun i wr => ∃ k : Nat, k ≤ zs.length ∧ i = .int .i64 k ∧ Below w.heap.size w wr) (fun i _ => zs.length - (intOf i).toNat)
  case atStart => exact ⟨0, Nat.zero_le _, rfl, Below.refl _ _⟩
  case round =>
    obtain ⟨k, hk, rfl, hbe⟩ := hrel
    by_cases hlt : k < zs.length
    · obtain ⟨z, HZ⟩ : ∃ z, Hid (z = zs.getD k 0) := ⟨_, rfl⟩
      have hck : wr.cell? ⟨b, off + k, none⟩ = some (.int .i64 z) := by rw [HZ.out, hbe.cell (p := ⟨b, off + k, none⟩) hbw]; exact HC.out k hlt
      have hck2 : wr.cell? ⟨b2, off2 + k, none⟩ = some (.int .i64 z) := by rw [HZ.out, hbe.cell (p := ⟨b2, off2 + k, none⟩) hbw2]; exact HC2.out k hlt
      have hli : (k : Int) < (zs.length : Int) := by omega
      have HB : Hid (Below w.heap.size w wr) := hbe
      clear hbe
      go_wp2
      go_quiet (fail)
      go_wp2
      go_roundw
      case rel => exact ⟨k + 1, by omega, by go_num, below_drewN HB.out _⟩
      case measure => simp [intOf]; omega
    · go_wp2
      go_ret
      exact ⟨rfl, hbe⟩

theorem below2 (w : World) (o1 o2 : Obj) : Below w.heap.size w ((w.alloc o1).alloc o2) :=
  ((Below.refl _ _).alloc (Nat.le_refl _) _).alloc (by simp) _
theorem size2 (w : World) (o1 o2 : Obj) : ((w.alloc o1).alloc o2).heap.size = w.heap.size + 2 := by simp

set_option maxHeartbeats 1000000 in
theorem eqRec_any (k t : Int) (v1 v2 : Value) (zs : List Int) (w : World) (h1 : Ints w v1 zs) (h2 : Ints w v2 zs) (hl : zs.length ≤ 1048576) :
    Calls Tryz.prog 162 #[.agg #[.int .i64 k, .int .i64 t, v1], .agg #[.int .i64 k, .int .i64 t, v2]] w fun e w' => e = .returned (.bool true) ∧ Below w.heap.size w w' := by
  have H1 : Hid (∀ o1 o2, Ints ((w.alloc o1).alloc o2) v1 zs) := fun o1 o2 => h1.later (below2 w o1 o2) (Nat.le_refl _)
  have H2 : Hid (∀ o1 o2, Ints ((w.alloc o1).alloc o2) v2 zs) := fun o1 o2 => h2.later (below2 w o1 o2) (Nat.le_refl _)
  clear h1 h2
  go_enter Tryz.func162, Tryz.ntmps162
  go_wp2_with (go_at_call 30; refine (eqInts_any _ _ zs _ (H1.out _ _) (H2.out _ _) hl).mono ?_; rintro e w1 ⟨rfl, hb⟩)
  go_ret
  refine ⟨rfl, (below2 w _ _).trans (Below.mono (by assumption) ?_)⟩
  simp; omega

/-- A record lies at the head of this block. -/
def RecAt (w : World) (b : Nat) (k t : Int) (v : Value) : Prop :=
  w.cell? ⟨b, 0, none⟩ = some (.int .i64 k) ∧ w.cell? ⟨b, 1, none⟩ = some (.int .i64 t) ∧ w.cell? ⟨b, 2, none⟩ = some v
theorem RecAt.later {B : Nat} {w w' : World} {b : Nat} {k t : Int} {v : Value} (h : RecAt w b k t v) (hb : Below B w w') (hB : w.heap.size ≤ B) : RecAt w' b k t v := by
  obtain ⟨h0, h1, h2⟩ := h
  have hlt := World.block_lt_of_cell? _ _ h0
  simp at hlt
  exact ⟨by rw [← h0]; exact hb.cell (p := ⟨b, 0, none⟩) (by simp; omega), by rw [← h1]; exact hb.cell (p := ⟨b, 1, none⟩) (by simp; omega), by rw [← h2]; exact hb.cell (p := ⟨b, 2, none⟩) (by simp; omega)⟩
theorem RecAt.new (w : World) (k t : Int) (v : Value) (ty : TypeId) : RecAt (w.alloc (.cells #[.int .i64 k, .int .i64 t, v] ty)) w.heap.size k t v := by
  refine ⟨?_, ?_, ?_⟩ <;> simp

end Go.Proofs.YtkkkdgpbmmjieaaGreatDoor

namespace Go.Proofs.YtkkkdgpbmmjieaaGreatDoor
open Go.RowKit

theorem hide_it {p : Prop} (h : p) : Hid p := h

/-- A record as plain data: its kind, its trip, its numbers. -/
abbrev R := Int × Int × List Int

/-- A record lies at this place of a block. -/
def RecCells (w : World) (b o : Nat) (r : R) (u : Value) : Prop :=
  w.cell? ⟨b, o, none⟩ = some (.int .i64 r.1) ∧ w.cell? ⟨b, o + 1, none⟩ = some (.int .i64 r.2.1) ∧ w.cell? ⟨b, o + 2, none⟩ = some u ∧ Ints w u r.2.2

/-- The value v is a slice of just these records in the world w. -/
def Recs (w : World) (v : Value) (rs : List R) : Prop :=
  (rs = [] ∧ ∃ ao cap, v = .slice ao 0 cap) ∨
  (∃ b off cap, v = .slice (some ⟨b, off, none⟩) rs.length cap ∧ rs ≠ [] ∧ ∀ i r, rs[i]? = some r → ∃ u, RecCells w b (off + i * 3) r u)

/-- How many numbers the first k records have together; all of them, and the records. -/
def pre (rs : List R) (k : Nat) : Nat := ((rs.take k).map fun r => r.2.2.length).sum
def tot (rs : List R) : Nat := rs.length + pre rs rs.length
theorem pre_zero (rs : List R) : pre rs 0 = 0 := by simp [pre]
theorem pre_succ (rs : List R) (k : Nat) (r : R) (h : rs[k]? = some r) : pre rs (k + 1) = pre rs k + r.2.2.length := by
  have hk : k < rs.length := by
    by_cases hk : k < rs.length
    · exact hk
    · rw [List.getElem?_eq_none (by omega)] at h; cases h
  rw [List.getElem?_eq_getElem hk] at h
  simp only [Option.some.injEq] at h
  unfold pre
  rw [List.take_succ_eq_append_getElem hk, h]
  simp
theorem pre_le (rs : List R) (k : Nat) : pre rs k ≤ pre rs rs.length := by
  unfold pre
  rw [List.take_length]
  have h : (rs.map fun r : R => r.2.2.length).sum = ((rs.take k ++ rs.drop k).map fun r : R => r.2.2.length).sum := by rw [List.take_append_drop]
  rw [h, List.map_append, List.sum_append_nat]
  exact Nat.le_add_right _ _
theorem tot_len (rs : List R) : rs.length ≤ tot rs := by unfold tot; omega
theorem tot_mem (rs : List R) (r : R) (h : r ∈ rs) : r.2.2.length ≤ tot rs := by
  obtain ⟨i, hi, hr⟩ := List.mem_iff_getElem.1 h
  have h1 := pre_succ rs i r (by rw [List.getElem?_eq_getElem hi, hr])
  have h2 := pre_le rs (i + 1)
  unfold tot; omega

/-- What is left of a size behind so many; -1, if it is not enough. -/
def leftOf (left : Int) (n : Nat) : Int := if left - n < 0 then -1 else left - n
theorem leftOf_neg {left : Int} {n : Nat} (h : left - (n : Int) < 0) : leftOf left n = -1 := if_pos h
theorem leftOf_pos {left : Int} {n : Nat} (h : ¬ left - (n : Int) < 0) : leftOf left n = left - n := if_neg h

theorem RecCells.later {B : Nat} {w w' : World} {b o : Nat} {r : R} {u : Value} (h : RecCells w b o r u) (hb : Below B w w') (hB : w.heap.size ≤ B) : RecCells w' b o r u := by
  obtain ⟨h0, h1, h2, h3⟩ := h
  have hlt := World.block_lt_of_cell? _ _ h0
  simp at hlt
  exact ⟨by rw [← h0]; exact hb.cell (p := ⟨b, o, none⟩) (by simp; omega), by rw [← h1]; exact hb.cell (p := ⟨b, o + 1, none⟩) (by simp; omega), by rw [← h2]; exact hb.cell (p := ⟨b, o + 2, none⟩) (by simp; omega), h3.later hb hB⟩

theorem Recs.later {B : Nat} {w w' : World} {v : Value} {rs : List R} (h : Recs w v rs) (hb : Below B w w') (hB : w.heap.size ≤ B) : Recs w' v rs := by
  rcases h with h | ⟨b, off, cap, hv, hz, hc⟩
  · exact Or.inl h
  · refine Or.inr ⟨b, off, cap, hv, hz, fun i r hr => ?_⟩
    obtain ⟨u, hu⟩ := hc i r hr
    exact ⟨u, hu.later hb hB⟩

theorem Recs.shape {w : World} {v : Value} {rs : List R} (h : Recs w v rs) : ∃ ao cap, v = .slice ao rs.length cap := by
  rcases h with ⟨rfl, ao, cap, rfl⟩ | ⟨b, off, cap, rfl, _, _⟩
  · exact ⟨ao, cap, rfl⟩
  · exact ⟨_, cap, rfl⟩

set_option maxHeartbeats 1000000 in
theorem szRecs_any (v : Value) (rs : List R) (left : Int) (w : World) (hv : Recs w v rs) (hl : (rs.length : Int) ≤ 9223372036854775807) (hls : ∀ r ∈ rs, (r.2.2.length : Int) ≤ 9223372036854775807) (h0 : 0 ≤ left) (h1 : left ≤ 1048576) :
    Calls Tryz.prog 115 #[v, .int .i64 left] w fun e w' => e = .returned (.int .i64 (leftOf left (tot rs))) ∧ Below w.heap.size w w' := by
  have HL : Hid (∀ r ∈ rs, (r.2.2.length : Int) ≤ 9223372036854775807) := hls
  clear hls
  by_cases hg : left - (rs.length : Int) < 0
  · have HE : Hid (leftOf left (tot rs) = -1) := by exact leftOf_neg (by have := tot_len rs; omega)
    obtain ⟨ao, cap, rfl⟩ := hv.shape
    clear hv HL
    go_enter Tryz.func115, Tryz.ntmps115
    go_wp2
    go_ret
    exact ⟨by rw [HE.out]; rfl, Below.refl _ _⟩
  rcases hv with ⟨rfl, ao, cap, rfl⟩ | ⟨b, off, cap, rfl, hz, hc⟩
  · have HE : Hid (leftOf left (tot []) = left) := by show _ = _; rw [leftOf_pos (by simp [tot, pre]; omega)]; simp [tot, pre]
    clear HL hg
    go_enter Tryz.func115, Tryz.ntmps115
    go_wp2
    refine wp_loop_rounds 1 ?_
    rw [rounds_succ]
    go_wp2
    go_ret
    exact ⟨by rw [HE.out]; rfl, Below.refl _ _⟩
  · have HC : Hid (∀ i r, rs[i]? = some r → ∃ u, RecCells w b (off + i * 3) r u) := hc
    have hzl : 0 < rs.length := List.length_pos_iff.2 hz
    clear hc hz
    go_enter Tryz.func115, Tryz.ntmps115
    go_wp2
    go_loopw [1, 5] (fun l i wr => ∃ (k : Nat) (L : Int), k ≤ rs.length ∧ i = .int .i64 k ∧ l = .int .i64 L ∧ 0 ≤ L ∧ L ≤ 1048576 ∧ Hid (L = left - rs.length - pre rs k) ∧ Below w.heap.size w wr) (fun _ i _ => rs.length - (intOf i).toNat)
    case atStart => exact ⟨0, _, Nat.zero_le _, rfl, rfl, by omega, by omega, by show _ = _; rw [pre_zero]; simp, Below.refl _ _⟩
    case round =>
      obtain ⟨k, L, hk, rfl, rfl, hL0, hL1, HD, hbe⟩ := hrel
      by_cases hlt : k < rs.length
      · obtain ⟨r, hr⟩ : ∃ r, Hid (rs[k]? = some r) := ⟨rs[k], by show _ = _; simp [hlt]⟩
        have hrl : (r.2.2.length : Int) ≤ 9223372036854775807 := HL.out r (List.mem_of_getElem? hr.out)
        have HP : Hid (pre rs (k + 1) = pre rs k + r.2.2.length) := pre_succ rs k r hr.out
        have HP2 : Hid (pre rs (k + 1) ≤ pre rs rs.length) := pre_le rs (k + 1)
        obtain ⟨u, hu⟩ := HC.out k r hr.out
        obtain ⟨c0, c1, c2, hI⟩ := hu.later hbe (Nat.le_refl _)
        obtain ⟨ao, cp, rfl⟩ := hI.shape
        have HB : Hid (Below w.heap.size w wr) := hbe
        have hsz := szRec_any r.1 r.2.1 ao r.2.2.length cp L wr hrl hL0 hL1
        clear hI hu hbe
        by_cases hn : L - (r.2.2.length : Int) < 0
        · rw [if_pos hn] at hsz
          have HE : Hid (leftOf left (tot rs) = -1) := by
            exact leftOf_neg (by have := HD.out; have := HP.out; have := HP2.out; unfold tot; omega)
          have HS := hsz
          clear hsz
          go_wp2_with fail
          refine HS.mono ?_
          rintro e w2 ⟨rfl, hb2⟩
          go_wp2
          go_ret
          exact ⟨by rw [HE.out]; rfl, HB.out.trans (hb2.mono HB.out.size)⟩
        · rw [if_neg hn] at hsz
          have HS := hsz
          clear hsz
          go_wp2_with fail
          refine HS.mono ?_
          rintro e w2 ⟨rfl, hb2⟩
          have HB2 : Hid (Below w.heap.size w w2) := HB.out.trans (hb2.mono HB.out.size)
          clear hb2
          go_wp2
          go_roundw
          case rel => exact ⟨k + 1, _, by omega, by go_num, rfl, by omega, by omega, by show _ = _; have := HD.out; have := HP.out; omega, HB2.out⟩
          case measure => simp [intOf]; omega
      · have HE : Hid (leftOf left (tot rs) = L) := by
          show _ = _
          have hke : k = rs.length := by omega
          have := HD.out
          rw [hke] at this
          rw [leftOf_pos (by unfold tot; omega)]
          unfold tot; omega
        go_wp2
        go_ret
        exact ⟨by rw [HE.out]; rfl, hbe⟩

theorem szLog_any (v : Value) (rs : List R) (f : Int) (left : Int) (w : World) (hv : Recs w v rs) (hl : (rs.length : Int) ≤ 9223372036854775807) (hls : ∀ r ∈ rs, (r.2.2.length : Int) ≤ 9223372036854775807) (h0 : 0 ≤ left) (h1 : left ≤ 1048576) :
    Calls Tryz.prog 67 #[.agg #[v, .int .i64 f], .int .i64 left] w fun e w' => e = .returned (.int .i64 (leftOf left (tot rs))) ∧ Below w.heap.size w w' := by
  have HV : Hid (∀ o, Recs (w.alloc o) v rs) := fun o => hv.later ((Below.refl _ _).alloc (Nat.le_refl _) o) (Nat.le_refl _)
  have HS : Hid (∀ o, Calls Tryz.prog 115 #[v, .int .i64 left] (w.alloc o) fun e w' => e = .returned (.int .i64 (leftOf left (tot rs))) ∧ Below (w.alloc o).heap.size (w.alloc o) w') :=
    fun o => szRecs_any v rs left (w.alloc o) (HV.out o) hl hls h0 h1
  clear hv hl hls HV
  have fin : ∀ (o : Obj) (w' : World), Below (w.alloc o).heap.size (w.alloc o) w' → Below w.heap.size w w' := fun o w' h => ((Below.refl _ _).alloc (Nat.le_refl _) o).trans (h.mono (by simp))
  have FN := hide_it fin
  clear fin
  by_cases hn : left - (tot rs : Int) < 0
  · rw [leftOf_neg hn] at HS ⊢
    go_enter Tryz.func67, Tryz.ntmps67
    go_wp2_with (go_at_call 115; refine (HS.out _).mono ?_; rintro e w1 ⟨rfl, hb⟩)
    go_ret
    exact ⟨rfl, FN.out _ _ (by assumption)⟩
  · rw [leftOf_pos hn] at HS ⊢
    go_enter Tryz.func67, Tryz.ntmps67
    go_wp2_with (go_at_call 115; refine (HS.out _).mono ?_; rintro e w1 ⟨rfl, hb⟩)
    go_ret
    exact ⟨rfl, FN.out _ _ (by assumption)⟩

end Go.Proofs.YtkkkdgpbmmjieaaGreatDoor

namespace Go.Proofs.YtkkkdgpbmmjieaaGreatDoor
open Go.RowKit

/-- Records, each with the slice that holds its numbers, as they lie in a row. -/
def flat : List (R × Value) → List Value
  | [] => []
  | p :: t => .int .i64 p.1.1 :: .int .i64 p.1.2.1 :: p.2 :: flat t

theorem flat_length (ps : List (R × Value)) : (flat ps).length = ps.length * 3 := by
  induction ps with
  | nil => rfl
  | cons p t ih => simp only [flat, List.length_cons, ih]; omega
theorem flat_append (ps qs : List (R × Value)) : flat (ps ++ qs) = flat ps ++ flat qs := by
  induction ps with
  | nil => rfl
  | cons p t ih => simp [flat, ih]
theorem flat_get (ps : List (R × Value)) (i : Nat) (p : R × Value) (h : ps[i]? = some p) :
    (flat ps)[i * 3]? = some (.int .i64 p.1.1) ∧ (flat ps)[i * 3 + 1]? = some (.int .i64 p.1.2.1) ∧ (flat ps)[i * 3 + 2]? = some p.2 := by
  induction ps generalizing i with
  | nil => simp at h
  | cons q t ih =>
    cases i with
    | zero => simp at h; subst h; simp [flat]
    | succ i =>
      have := ih i (by simpa using h)
      rw [show (i + 1) * 3 = i * 3 + 3 by omega]
      simpa [flat] using this
theorem flat_set (ps : List (R × Value)) (k : Nat) (r : R) (u : Value) (h : k < ps.length) :
    (((flat ps).set (k * 3) (.int .i64 r.1)).set (k * 3 + 1) (.int .i64 r.2.1)).set (k * 3 + 2) u = flat (ps.set k (r, u)) := by
  induction ps generalizing k with
  | nil => simp at h
  | cons q t ih =>
    cases k with
    | zero => simp [flat]
    | succ k =>
      have := ih k (by simpa using h)
      rw [show (k + 1) * 3 = k * 3 + 3 by omega]
      simp only [flat, List.set_cons_succ]
      rw [this]

/-- A row stays as it is where nothing below a number turns, and it lies below. -/
theorem ownsRow_below {w w' : World} {base B : Nat} {e : TypeId} {size : Nat} {v : Value} {n : Nat} {xs : List Value} (h : w.ownsRow base e size v n xs) (hb : Below B w w') (hB : ∀ k, v.ownBlock = some k → k < B) : w'.ownsRow base e size v n xs := by
  obtain ⟨h1, h2⟩ := h
  refine ⟨h1, ?_⟩
  rcases h2 with h2 | ⟨g, cap, cur, hv, hg, hh, r⟩
  · exact Or.inl h2
  · exact Or.inr ⟨g, cap, cur, hv, hg, by rw [hb.block g (hB g (by rw [hv]; rfl))]; exact hh, r⟩

/-- The numbers of these records lie in rows of the call's own, from lo on and below hi, each apart from the others. -/
def Inner (w : World) (lo hi : Nat) (ps : List (R × Value)) : Prop :=
  hi ≤ w.heap.size ∧
  (∀ p ∈ ps, w.ownsRow lo 3 1 p.2 p.1.2.2.length (p.1.2.2.map (Value.int .i64)) ∧ ∀ k, p.2.ownBlock = some k → k < hi) ∧
  (∀ (i j : Nat) (p q : R × Value), ps[i]? = some p → ps[j]? = some q → i ≠ j → p.2.ownBlock = none ∨ p.2.ownBlock ≠ q.2.ownBlock)

theorem Inner.nil (w : World) (lo hi : Nat) (h : hi ≤ w.heap.size) : Inner w lo hi [] :=
  ⟨h, fun p hp => by simp at hp, fun i j p q hp => by simp at hp⟩

theorem Inner.below {w w' : World} {lo hi B : Nat} {ps : List (R × Value)} (h : Inner w lo hi ps) (hb : Below B w w') (hB : hi ≤ B) : Inner w' lo hi ps :=
  ⟨Nat.le_trans h.1 hb.size, fun p hp => ⟨ownsRow_below (h.2.1 p hp).1 hb (fun k hk => by have := (h.2.1 p hp).2 k hk; omega), (h.2.1 p hp).2⟩, h.2.2⟩

theorem Inner.mono {w : World} {lo hi hi' : Nat} {ps : List (R × Value)} (h : Inner w lo hi ps) (h1 : hi ≤ hi') (h2 : hi' ≤ w.heap.size) : Inner w lo hi' ps :=
  ⟨h2, fun p hp => ⟨(h.2.1 p hp).1, fun k hk => by have := (h.2.1 p hp).2 k hk; omega⟩, h.2.2⟩

/-- A row of records lies in no row of numbers. -/
theorem Inner.apart {w : World} {lo hi : Nat} {ps : List (R × Value)} (h : Inner w lo hi ps) {g : Nat} {cur : Array Value} {ty : TypeId} {fz : Nat × Nat} (hg : w.heap[g]? = some (.cells cur ty fz)) (ht : ty ≠ 3) : ∀ p ∈ ps, p.2.ownBlock ≠ some g := by
  intro p hp e
  rcases (h.2.1 p hp).1.2 with ⟨hv, _⟩ | ⟨g', cap, cur', hv, _, hh, _⟩
  · rw [hv] at e; simp [Value.ownBlock] at e
  · rw [hv] at e
    simp [Value.ownBlock] at e
    subst e
    rw [hg] at hh
    simp at hh
    exact ht hh.2.1

theorem Inner.kept {w w' : World} {lo hi : Nat} {row : Option Nat} {ps : List (R × Value)} (h : Inner w lo hi ps) (hg : w.grownBy w' row) (hne : ∀ p ∈ ps, p.2.ownBlock = none ∨ p.2.ownBlock ≠ row) : Inner w' lo hi ps :=
  ⟨Nat.le_trans h.1 hg.size, fun p hp => ⟨(h.2.1 p hp).1.kept hg (hne p hp), (h.2.1 p hp).2⟩, h.2.2⟩

/-- One more record, its numbers in a row that lies behind all. -/
theorem Inner.snoc {w : World} {lo hi hi' : Nat} {ps : List (R × Value)} {p : R × Value} (h : Inner w lo hi ps) (h1 : hi ≤ hi') (h2 : hi' ≤ w.heap.size)
    (ho : w.ownsRow lo 3 1 p.2 p.1.2.2.length (p.1.2.2.map (Value.int .i64))) (hp : ∀ k, p.2.ownBlock = some k → hi ≤ k ∧ k < hi') : Inner w lo hi' (ps ++ [p]) := by
  refine ⟨h2, fun q hq => ?_, fun i j q r hq hr hij => ?_⟩
  · rcases List.mem_append.1 hq with hq | hq
    · exact ⟨(h.2.1 q hq).1, fun k hk => by have := (h.2.1 q hq).2 k hk; omega⟩
    · simp at hq; subst hq; exact ⟨ho, fun k hk => (hp k hk).2⟩
  · by_cases hi1 : i < ps.length
    · rw [List.getElem?_append_left hi1] at hq
      by_cases hj1 : j < ps.length
      · rw [List.getElem?_append_left hj1] at hr
        exact h.2.2 i j q r hq hr hij
      · rw [List.getElem?_append_right (by omega)] at hr
        have hj0 : j - ps.length = 0 := by
          by_cases e : j - ps.length = 0
          · exact e
          · rw [List.getElem?_eq_none (by simp; omega)] at hr; cases hr
        rw [hj0] at hr
        simp at hr
        subst hr
        cases hb : q.2.ownBlock with
        | none => exact Or.inl rfl
        | some k =>
          refine Or.inr fun e => ?_
          have h3 := (h.2.1 q (List.mem_of_getElem? hq)).2 k hb
          have h4 := (hp k e.symm).1
          omega
    · rw [List.getElem?_append_right (by omega)] at hq
      have hi0 : i - ps.length = 0 := by
        by_cases e : i - ps.length = 0
        · exact e
        · rw [List.getElem?_eq_none (by simp; omega)] at hq; cases hq
      rw [hi0] at hq
      simp at hq
      subst hq
      by_cases hj1 : j < ps.length
      · rw [List.getElem?_append_left hj1] at hr
        cases hb : p.2.ownBlock with
        | none => exact Or.inl rfl
        | some k =>
          refine Or.inr fun e => ?_
          have h3 := (h.2.1 r (List.mem_of_getElem? hr)).2 k e.symm
          have h4 := (hp k hb).1
          omega
      · rw [List.getElem?_append_right (by omega)] at hr
        have hj0 : j - ps.length = 0 := by
          by_cases e : j - ps.length = 0
          · exact e
          · rw [List.getElem?_eq_none (by simp; omega)] at hr; cases hr
        omega

/-- A list of records of the call's own: its row, and the rows of its numbers. -/
def OwnRecs (w : World) (lo hi : Nat) (v : Value) (ps : List (R × Value)) : Prop :=
  w.ownsRow lo 161 3 v ps.length (flat ps) ∧ (∀ k, v.ownBlock = some k → k < hi) ∧ Inner w lo hi ps

theorem OwnRecs.below {w w' : World} {lo hi B : Nat} {v : Value} {ps : List (R × Value)} (h : OwnRecs w lo hi v ps) (hb : Below B w w') (hB : hi ≤ B) : OwnRecs w' lo hi v ps :=
  ⟨ownsRow_below h.1 hb (fun k hk => by have := h.2.1 k hk; omega), h.2.1, h.2.2.below hb hB⟩

theorem ints_of_any {w : World} {base : Nat} {v : Value} {zs : List Int} (h : w.ownsRow base 3 1 v zs.length (zs.map (Value.int .i64))) : Ints w v zs := by
  rcases h.2 with ⟨hv, hn⟩ | ⟨g, cap, cur, hv, _⟩
  · have : zs = [] := List.length_eq_zero_iff.1 hn
    exact Or.inl ⟨this, none, 0, hv, fun _ => rfl⟩
  · subst hv; exact ints_of_row h

theorem OwnRecs.recs {w : World} {lo hi : Nat} {v : Value} {ps : List (R × Value)} (h : OwnRecs w lo hi v ps) : Recs w v (ps.map (·.1)) := by
  obtain ⟨h1, _, h3⟩ := h
  by_cases hp : ps = []
  · subst hp
    rcases h1.2 with ⟨hv, _⟩ | ⟨g, cap, cur, hv, _⟩
    · exact Or.inl ⟨rfl, none, 0, hv⟩
    · exact Or.inl ⟨rfl, _, cap, hv⟩
  · rcases h1.2 with ⟨_, hn⟩ | ⟨g, cap, cur, hv, _⟩
    · exact absurd (List.length_eq_zero_iff.1 hn) hp
    · subst hv
      refine Or.inr ⟨g, 0, cap, by simp, by simpa using hp, fun i r hr => ?_⟩
      rw [List.getElem?_map] at hr
      cases hpi : ps[i]? with
      | none => rw [hpi] at hr; cases hr
      | some p =>
        rw [hpi] at hr
        simp at hr
        subst hr
        have hil : i < ps.length := by
          by_cases e : i < ps.length
          · exact e
          · rw [List.getElem?_eq_none (by omega)] at hpi; cases hpi
        obtain ⟨f0, f1, f2⟩ := flat_get ps i p hpi
        refine ⟨p.2, ?_, ?_, ?_, ints_of_any (h3.2.1 p (List.mem_of_getElem? hpi)).1⟩
        · rw [Nat.zero_add, h1.cellAt _ (by omega)]; exact f0
        · rw [Nat.zero_add, h1.cellAt _ (by omega)]; exact f1
        · rw [Nat.zero_add, h1.cellAt _ (by omega)]; exact f2

end Go.Proofs.YtkkkdgpbmmjieaaGreatDoor

namespace Go.Proofs.YtkkkdgpbmmjieaaGreatDoor
open Go.ChangeShapes Go.WideShapes Go.ChangeAt Go.WideMaps Go.WideElems Go.RowKit Go.Joins

theorem cellsRecL : Tryz.prog.cellsOf 191 = 3 := by kernel_rfl
theorem cellsLogL : Tryz.prog.cellsOf 24 = 2 := by kernel_rfl
theorem cellsInts : Tryz.prog.cellsOf 51 = 1 := by kernel_rfl

section
variable {H : Type} {enc : TypeId × Value → H} {W : World}

theorem ints_of_trod {fuel : Nat} {c : Value} {y : DataW H × List MemPlace} (h : DataW.trod enc Tryz.prog W 0 (fun _ => true) true fuel 51 [c] = some y) :
    ∃ zs : List Int, Ints W c zs ∧ (zs.length : Int) ≤ 9223372036854775807 := by
  rcases open_ints Tryz.underlying51 Tryz.underlying3 cellsInt h with ⟨hcs, hx⟩ | ⟨a, len, cap, zs, hcs, _, hl, hm, hz, hx, hcell, hwz⟩
  · simp at hcs
    subst hcs
    exact ⟨[], Or.inl ⟨rfl, _, _, rfl, fun _ => rfl⟩, by simp⟩
  · simp at hcs
    subst hcs
    simp only [if_pos] at hz
    have hlen : (zs.take len).length = len := by simp; omega
    refine ⟨zs.take len, ?_, by unfold maxLen at hm; omega⟩
    by_cases h0 : len = 0
    · subst h0
      exact Or.inl ⟨by simp, _, _, rfl, fun h => by cases h⟩
    · obtain ⟨b, off, rfl, hc⟩ := ints_at hcell (by omega)
      refine Or.inr ⟨b, off, cap, by rw [hlen], by intro e; rw [e] at hlen; simp at hlen; omega, fun j hj => ?_⟩
      rw [hc j (by omega)]
      rw [hlen] at hj
      simp [List.getD_eq_getElem?_getD, hj]

set_option maxRecDepth 100000 in
theorem rec_of_trod {fuel : Nat} {b o : Nat} {cs : List Value} {y : DataW H × List MemPlace} (hc : W.cells? 0 ⟨b, o, none⟩ 3 = some cs) (h : DataW.trod enc Tryz.prog W 0 (fun _ => true) true fuel 191 cs = some y) :
    ∃ (r : R) (u : Value), RecCells W b o r u ∧ (r.2.2.length : Int) ≤ 9223372036854775807 := by
  obtain ⟨y0, y1, y2, n, _, hl, h0, h1, h2⟩ := Deep.trod_struct3 Tryz.underlying191 h
  rw [cellsRecL] at hl
  match cs, hl with
  | [c0, c1, c2], _ =>
    simp only [cellsInt, cellsInts] at h0 h1 h2
    obtain ⟨k, e0, _, _⟩ := DataW.trod_int Tryz.underlying3 h0
    obtain ⟨t, e1, _, _⟩ := DataW.trod_int Tryz.underlying3 h1
    simp at e0 e1
    subst e0 e1
    obtain ⟨zs, hI, hz⟩ := ints_of_trod (c := c2) (y := y2) (by simpa using h2)
    obtain ⟨_, _, hcs⟩ := World.cells?_some hc
    refine ⟨(k, t, zs), c2, ⟨?_, ?_, ?_, hI⟩, hz⟩
    · simpa [Addr.add] using hcs 0 (by omega)
    · simpa [Addr.add] using hcs 1 (by omega)
    · simpa [Addr.add] using hcs 2 (by omega)

theorem recs_of_trod {fuel : Nat} {c : Value} {y : DataW H × List MemPlace} (h : DataW.trod enc Tryz.prog W 0 (fun _ => true) true fuel 22 [c] = some y) :
    ∃ rs : List R, Recs W c rs ∧ (rs.length : Int) ≤ 9223372036854775807 ∧ ∀ r ∈ rs, (r.2.2.length : Int) ≤ 9223372036854775807 := by
  rcases Deep.open_slice Tryz.underlying22 h with ⟨hcs, hx⟩ | ⟨a, len, cap, m, n, D, Pq, hcs, _, hl, hm, hmm, hx, hel⟩
  · simp at hcs
    subst hcs
    exact ⟨[], Or.inl ⟨rfl, _, _, rfl⟩, by simp, fun r hr => by simp at hr⟩
  · simp at hcs
    subst hcs
    simp only [if_pos] at hmm
    rw [cellsRecL] at hel
    by_cases h0 : len = 0
    · subst h0
      exact ⟨[], Or.inl ⟨rfl, _, _, rfl⟩, by simp, fun r hr => by simp at hr⟩
    · obtain ⟨b, off, spot⟩ := a
      have hspot : spot = none := by
        obtain ⟨cs', hc, _⟩ := hel 0 (by omega)
        obtain ⟨_, hlen', hcs⟩ := World.cells?_some hc
        have h1 := hcs 0 (by omega)
        rw [List.getElem?_eq_getElem (by omega)] at h1
        simpa [Addr.add] using World.cell?_spot h1
      subst hspot
      have each : ∀ i : Nat, ∃ p : R × Value, i < len → RecCells W b (off + i * 3) p.1 p.2 ∧ (p.1.2.2.length : Int) ≤ 9223372036854775807 := fun i => by
        by_cases hi : i < len
        · obtain ⟨cs', hc, ht⟩ := hel i (by omega)
          rw [add_plain] at hc
          obtain ⟨r, u, h1, h2⟩ := rec_of_trod hc ht
          exact ⟨(r, u), fun _ => ⟨h1, h2⟩⟩
        · exact ⟨((0, 0, []), .slice none 0 0), fun h => absurd h hi⟩
      obtain ⟨F, hF⟩ := Classical.axiomOfChoice each
      have hlen : ((List.range len).map fun i => (F i).1).length = len := by simp
      refine ⟨(List.range len).map fun i => (F i).1, Or.inr ⟨b, off, cap, by rw [hlen], by intro e; rw [e] at hlen; simp at hlen; omega, fun i r hr => ?_⟩, by rw [hlen]; unfold maxLen at hm; omega, fun r hr => ?_⟩
      · have hi : i < len := by
          by_cases e : i < len
          · exact e
          · rw [List.getElem?_eq_none (by rw [hlen]; omega)] at hr; cases hr
        simp [hi] at hr
        subst hr
        exact ⟨(F i).2, (hF i hi).1⟩
      · simp at hr
        obtain ⟨i, hi, rfl⟩ := hr
        exact (hF i hi).2

set_option maxRecDepth 100000 in
/-- A log that came in. -/
theorem open_log {base : Nat} {v : Value} {d : DataW H} {p : List MemPlace} (hval : Value.okWide Tryz.prog W .any base 24 v) (h : DataW.Trod enc Tryz.prog W 0 (fun _ => true) true 24 v d p) :
    ∃ (u : Value) (f : Int) (rs : List R), v = .agg #[u, .int .i64 f] ∧ Recs W u rs ∧ (rs.length : Int) ≤ 9223372036854775807 ∧ ∀ r ∈ rs, (r.2.2.length : Int) ≤ 9223372036854775807 := by
  obtain ⟨c0, c1, y0, y1, m, rfl, rfl, rfl, hy0, hy1⟩ := open_agg2 Tryz.underlying24 (by kernel_rfl) cellsLogL hval h
  obtain ⟨f, e1, _, _⟩ := DataW.trod_int Tryz.underlying3 hy1
  simp at e1
  subst e1
  obtain ⟨rs, h1, h2, h3⟩ := recs_of_trod hy0
  exact ⟨_, f, rs, rfl, h1, h2, h3⟩

set_option maxRecDepth 100000 in
/-- A record that came in. -/
theorem open_rec {base : Nat} {v : Value} {d : DataW H} {p : List MemPlace} (hval : Value.okWide Tryz.prog W .any base 191 v) (h : DataW.Trod enc Tryz.prog W 0 (fun _ => true) true 191 v d p) :
    ∃ (k t : Int) (u : Value) (zs : List Int), v = .agg #[.int .i64 k, .int .i64 t, u] ∧ Ints W u zs ∧ (zs.length : Int) ≤ 9223372036854775807 := by
  obtain ⟨c0, c1, c2, y0, y1, y2, m, rfl, rfl, rfl, hy0, hy1, hy2⟩ := open_agg3 Tryz.underlying191 (by kernel_rfl) cellsRecL hval h
  obtain ⟨k, e0, _, _⟩ := DataW.trod_int Tryz.underlying3 hy0
  obtain ⟨t, e1, _, _⟩ := DataW.trod_int Tryz.underlying3 hy1
  simp at e0 e1
  subst e0 e1
  obtain ⟨zs, h1, h2⟩ := ints_of_trod hy2
  exact ⟨k, t, _, zs, rfl, h1, h2⟩

end
end Go.Proofs.YtkkkdgpbmmjieaaGreatDoor

namespace Go.Proofs.YtkkkdgpbmmjieaaGreatDoor
open Go.RowKit

theorem infoRec : (Tryz.prog.info? 161).map (fun i => (i.zero, i.size, i.bytes)) = some (some (.agg #[.int .i64 0, .int .i64 0, .slice none 0 0]), 3, 40) := by kernel_rfl

def zeroP : R × Value := ((0, 0, []), .slice none 0 0)

theorem made_three (n : Nat) : (madeCells #[.int .i64 0, .int .i64 0, .slice none 0 0] (n * 3)).toList = flat (List.replicate n zeroP) := by
  apply List.ext_getElem?
  intro i
  by_cases h : i < n * 3
  · have hq : i / 3 < n := by omega
    have hget : (List.replicate n zeroP)[i / 3]? = some zeroP := by simp [hq]
    obtain ⟨f0, f1, f2⟩ := flat_get _ _ _ hget
    have hl : (madeCells #[.int .i64 0, .int .i64 0, .slice none 0 0] (n * 3)).toList[i]? = some (#[Value.int .i64 0, .int .i64 0, .slice none 0 0][i % 3]!) := by
      simp [madeCells, h]
    rw [hl]
    rcases (show i % 3 = 0 ∨ i % 3 = 1 ∨ i % 3 = 2 by omega) with h0 | h0 | h0
    · rw [show i / 3 * 3 = i by omega] at f0; rw [f0, h0]; rfl
    · rw [show i / 3 * 3 + 1 = i by omega] at f1; rw [f1, h0]; rfl
    · rw [show i / 3 * 3 + 2 = i by omega] at f2; rw [f2, h0]; rfl
  · rw [List.getElem?_eq_none (by simp [madeCells]; omega), List.getElem?_eq_none (by rw [flat_length]; simp; omega)]

theorem ownsRow_base {w : World} {base base' : Nat} {e : TypeId} {size : Nat} {v : Value} {n : Nat} {xs : List Value} (h : w.ownsRow base e size v n xs) (hb : base' ≤ base) : w.ownsRow base' e size v n xs := by
  obtain ⟨h1, h2⟩ := h
  refine ⟨h1, ?_⟩
  rcases h2 with h2 | ⟨g, cap, cur, hv, hg, r⟩
  · exact Or.inl h2
  · exact Or.inr ⟨g, cap, cur, hv, by omega, r⟩

/-- The value v is a list of just these records that the call itself has made, from lo on. -/
def Made (w : World) (lo : Nat) (v : Value) (rs : List R) : Prop := ∃ ps : List (R × Value), ps.map (·.1) = rs ∧ OwnRecs w lo w.heap.size v ps

theorem Made.recs {w : World} {lo : Nat} {v : Value} {rs : List R} (h : Made w lo v rs) : Recs w v rs := by
  obtain ⟨ps, rfl, ho⟩ := h
  exact ho.recs

/-- Three stores into a row of records. -/
theorem stored3 {w : World} {base g n cap : Nat} {ps : List (R × Value)} (h : w.ownsRow base 161 3 (.slice (some ⟨g, 0, none⟩) n cap) n (flat ps)) (k : Nat) (hk : k < ps.length) (r : R) (u : Value) :
    (((w.setCell ⟨g, k * 3, none⟩ (.int .i64 r.1)).setCell ⟨g, k * 3 + 1, none⟩ (.int .i64 r.2.1)).setCell ⟨g, k * 3 + 2, none⟩ u).ownsRow base 161 3 (.slice (some ⟨g, 0, none⟩) n cap) n (flat (ps.set k (r, u))) ∧
    w.grownBy (((w.setCell ⟨g, k * 3, none⟩ (.int .i64 r.1)).setCell ⟨g, k * 3 + 1, none⟩ (.int .i64 r.2.1)).setCell ⟨g, k * 3 + 2, none⟩ u) (some g) := by
  have a1 := h.stored (k * 3) (.int .i64 r.1)
  have a2 := a1.1.stored (k * 3 + 1) (.int .i64 r.2.1)
  have a3 := a2.1.stored (k * 3 + 2) u
  rw [flat_set ps k r u hk] at a3
  refine ⟨a3.1, ?_⟩
  refine ⟨rfl, rfl, rfl, by simp, fun j hj hne => ?_⟩
  rw [a3.2.block j (by simpa using hj) hne, a2.2.block j (by simpa using hj) hne, a1.2.block j hj hne]

theorem row_block {w : World} {base : Nat} {e : TypeId} {size g n cap : Nat} {xs : List Value} (h : w.ownsRow base e size (.slice (some ⟨g, 0, none⟩) n cap) n xs) : ∃ cur, w.heap[g]? = some (.cells cur e (0, 0)) := by
  rcases h.2 with ⟨h', _⟩ | ⟨g', cap', cur, h', _, hg, _⟩
  · simp at h'
  · simp only [Value.slice.injEq, Option.some.injEq, Addr.mk.injEq, and_true, true_and] at h'
    obtain ⟨rfl, rfl⟩ := h'
    exact ⟨cur, hg⟩

theorem rep_set (ps : List (R × Value)) (m : Nat) (p : R × Value) : (ps ++ List.replicate (m + 1) zeroP).set ps.length p = (ps ++ [p]) ++ List.replicate m zeroP := by
  rw [List.set_append_right _ _ (Nat.le_refl _), Nat.sub_self, List.replicate_succ]
  simp

/-- What one round of a copy does. -/
theorem toRecs_step {wr w2 : World} {W n k : Nat} {ps : List (R × Value)} {r : R} (hk : ps.length = k) (hkn : k < n)
    (hrow : wr.ownsRow W 161 3 (.slice (some ⟨W, 0, none⟩) n n) n (flat (ps ++ List.replicate (n - k) zeroP))) (hin : Inner wr W wr.heap.size ps) (hWr : W < wr.heap.size)
    (hb : Below wr.heap.size wr w2) (hown : w2.ownsRow (wr.heap.size + 3) 3 1 (.slice (some ⟨wr.heap.size + 3, 0, none⟩) r.2.2.length r.2.2.length) r.2.2.length (r.2.2.map (Value.int .i64))) :
    Hid ((((w2.setCell ⟨W, k * 3, none⟩ (.int .i64 r.1)).setCell ⟨W, k * 3 + 1, none⟩ (.int .i64 r.2.1)).setCell ⟨W, k * 3 + 2, none⟩ (.slice (some ⟨wr.heap.size + 3, 0, none⟩) r.2.2.length r.2.2.length)).ownsRow W 161 3 (.slice (some ⟨W, 0, none⟩) n n) n (flat ((ps ++ [(r, .slice (some ⟨wr.heap.size + 3, 0, none⟩) r.2.2.length r.2.2.length)]) ++ List.replicate (n - (k + 1)) zeroP)) ∧
    Inner (((w2.setCell ⟨W, k * 3, none⟩ (.int .i64 r.1)).setCell ⟨W, k * 3 + 1, none⟩ (.int .i64 r.2.1)).setCell ⟨W, k * 3 + 2, none⟩ (.slice (some ⟨wr.heap.size + 3, 0, none⟩) r.2.2.length r.2.2.length)) W
      (((w2.setCell ⟨W, k * 3, none⟩ (.int .i64 r.1)).setCell ⟨W, k * 3 + 1, none⟩ (.int .i64 r.2.1)).setCell ⟨W, k * 3 + 2, none⟩ (.slice (some ⟨wr.heap.size + 3, 0, none⟩) r.2.2.length r.2.2.length)).heap.size (ps ++ [(r, .slice (some ⟨wr.heap.size + 3, 0, none⟩) r.2.2.length r.2.2.length)])) := by
  have row2 := ownsRow_below hrow hb (fun j hj => by simp [Value.ownBlock] at hj; omega)
  have in2 := hin.below hb (Nat.le_refl _)
  obtain ⟨cur2, hc2⟩ := row_block hown
  have hlt : wr.heap.size + 3 < w2.heap.size := by
    by_cases h : wr.heap.size + 3 < w2.heap.size
    · exact h
    · rw [Array.getElem?_eq_none (by omega)] at hc2; cases hc2
  have in3 : Inner w2 W w2.heap.size (ps ++ [(r, .slice (some ⟨wr.heap.size + 3, 0, none⟩) r.2.2.length r.2.2.length)]) :=
    in2.snoc hb.size (Nat.le_refl _) (ownsRow_base hown (by omega)) (fun j hj => by simp [Value.ownBlock] at hj; omega)
  have st := stored3 row2 k (by simp; omega) r (.slice (some ⟨wr.heap.size + 3, 0, none⟩) r.2.2.length r.2.2.length)
  obtain ⟨cur, hcur⟩ := row_block row2
  refine ⟨?_, ?_⟩
  · have h := st.1
    rw [show n - k = (n - (k + 1)) + 1 by omega, ← hk, rep_set] at h
    rw [hk] at h
    rw [← hk, hk]
    exact h
  · have h := in3.kept st.2 (fun p hp => by
      have := in3.apart hcur (by decide) p hp
      exact Or.inr this)
    exact h.mono (by simp) (Nat.le_refl _)

set_option maxHeartbeats 1000000 in
theorem toRecs_any (v : Value) (rs : List R) (w : World) (hv : Recs w v rs) (hl : tot rs ≤ 1048576) :
    Calls Tryz.prog 122 #[v] w fun e w' => e = .returned (.slice (some ⟨w.heap.size, 0, none⟩) rs.length rs.length) ∧
      Made w' w.heap.size (.slice (some ⟨w.heap.size, 0, none⟩) rs.length rs.length) rs ∧ Below w.heap.size w w' := by
  obtain ⟨i0, hi, hz0, hz1, hz2⟩ := info_parts infoRec
  have hlen := tot_len rs
  have HM : Hid (∀ r ∈ rs, r.2.2.length ≤ 1048576) := fun r hr => Nat.le_trans (tot_mem rs r hr) hl
  have hbytes : i0.bytes * rs.length ≤ 281474976710656 := by rw [hz2]; omega
  have hmax : rs.length ≤ maxLen := by unfold maxLen; omega
  rcases hv with ⟨rfl, ao, cap, rfl⟩ | ⟨b, off, cap, rfl, hz, hc⟩
  · go_enter Tryz.func122, Tryz.ntmps122
    go_wp2_with (at_make; refine wpList_make_full _ rfl _ _ 33 rfl w.heap.size 161 i0 (.agg #[.int .i64 0, .int .i64 0, .slice none 0 0]) 3 Tryz.underlying33 hi hz0 hz1 .i64 .i64 _ _ 0 rfl rfl rfl rfl hbytes hmax (Nat.le_refl _) ?_; intro w1 hown hgrow)
    have hs : w.heap.size < w1.heap.size := by
      obtain ⟨cur, hcur⟩ := row_block hown
      by_cases h : w.heap.size < w1.heap.size
      · exact h
      · rw [Array.getElem?_eq_none (by omega)] at hcur; cases hcur
    have HM1 : Hid (Made w1 w.heap.size (.slice (some ⟨w.heap.size, 0, none⟩) 0 0) []) := ⟨[], rfl, by
      have := made_three 0
      rw [show (Value.agg #[.int .i64 0, .int .i64 0, .slice none 0 0]).cells = #[.int .i64 0, .int .i64 0, .slice none 0 0] from rfl, this] at hown
      exact hown, fun k hk => by simp [Value.ownBlock] at hk; omega, Inner.nil _ _ _ (Nat.le_refl _)⟩
    have HB1 : Hid (Below w.heap.size w w1) := (Below.refl _ _).grown hgrow (Nat.le_refl _) (fun k h => by cases h)
    clear hown hgrow
    refine wp_loop_rounds 1 ?_
    rw [rounds_succ]
    go_wp2
    go_ret
    exact ⟨rfl, HM1.out, HB1.out⟩
  have HC : Hid (∀ i r, rs[i]? = some r → ∃ u, RecCells w b (off + i * 3) r u) := hc
  have hzl : 0 < rs.length := List.length_pos_iff.2 hz
  clear hc hz
  go_enter Tryz.func122, Tryz.ntmps122
  go_wp2_with (at_make; refine wpList_make_full _ rfl _ _ 33 rfl w.heap.size 161 i0 (.agg #[.int .i64 0, .int .i64 0, .slice none 0 0]) 3 Tryz.underlying33 hi hz0 hz1 .i64 .i64 _ _ rs.length rfl rfl rfl rfl hbytes hmax (Nat.le_refl _) ?_; intro w1 hown hgrow)
  have hown0 : w1.ownsRow w.heap.size 161 3 (.slice (some ⟨w.heap.size, 0, none⟩) rs.length rs.length) rs.length (flat ([] ++ List.replicate (rs.length - 0) zeroP)) := by
    have := made_three rs.length
    rw [show (Value.agg #[.int .i64 0, .int .i64 0, .slice none 0 0]).cells = #[.int .i64 0, .int .i64 0, .slice none 0 0] from rfl, this] at hown
    exact hown
  have hbel : Below w.heap.size w w1 := (Below.refl _ _).grown hgrow (Nat.le_refl _) (fun k h => by cases h)
  clear hown hgrow
  go_loopw [4] (fun i wr => ∃ (k : Nat) (ps : List (R × Value)), k ≤ rs.length ∧ i = .int .i64 k ∧ Hid (ps.map (·.1) = rs.take k) ∧ wr.ownsRow w.heap.size 161 3 (.slice (some ⟨w.heap.size, 0, none⟩) rs.length rs.length) rs.length (flat (ps ++ List.replicate (rs.length - k) zeroP)) ∧ Inner wr w.heap.size wr.heap.size ps ∧ Below w.heap.size w wr) (fun i _ => rs.length - (intOf i).toNat)
  case atStart => exact ⟨0, [], Nat.zero_le _, rfl, rfl, hown0, Inner.nil _ _ _ (Nat.le_refl _), hbel⟩
  case round =>
    obtain ⟨k, ps, hk, rfl, HP, hown, hin, hbe⟩ := hrel
    have HPL : Hid (ps.length = k) := by
      have := congrArg List.length HP.out
      simp at this
      show _ = _; omega
    obtain ⟨cur, hcur⟩ := row_block hown
    have hws : w.heap.size < wr.heap.size := by
      by_cases h : w.heap.size < wr.heap.size
      · exact h
      · rw [Array.getElem?_eq_none (by omega)] at hcur; cases hcur
    clear hcur
    by_cases hlt : k < rs.length
    · obtain ⟨r, hr⟩ : ∃ r, Hid (rs[k]? = some r) := ⟨rs[k], by show _ = _; simp [hlt]⟩
      have hrl : r.2.2.length ≤ 1048576 := HM.out r (List.mem_of_getElem? hr.out)
      obtain ⟨u, hu⟩ := HC.out k r hr.out
      obtain ⟨c0, c1, c2, hI⟩ := hu.later hbe (Nat.le_refl _)
      have HI : Hid (Ints wr u r.2.2) := hI
      have HO : Hid (wr.ownsRow w.heap.size 161 3 (.slice (some ⟨w.heap.size, 0, none⟩) rs.length rs.length) rs.length (flat (ps ++ List.replicate (rs.length - k) zeroP))) := hown
      have HN : Hid (Inner wr w.heap.size wr.heap.size ps) := hin
      have HB : Hid (Below w.heap.size w wr) := hbe
      clear hI hu hown hin hbe
      go_wp2_with fail
      refine (toRec_any r.1 r.2.1 u r.2.2 wr HI.out hrl).mono ?_
      rintro e w2 ⟨rfl, hown2, hb2⟩
      have ST := toRecs_step HPL.out hlt HO.out HN.out hws hb2 hown2
      have row2 := ownsRow_below HO.out hb2 (fun j hj => by simp [Value.ownBlock] at hj; omega)
      have cellEx : ∀ j, j < rs.length * 3 → ∃ x, w2.cell? ⟨w.heap.size, j, none⟩ = some x := fun j hj => by
        have h1 := row2.cellAt j hj
        have h2 : j < (flat (ps ++ List.replicate (rs.length - k) zeroP)).length := by rw [row2.1]; exact hj
        exact ⟨_, by rw [h1, List.getElem?_eq_getElem h2]⟩
      obtain ⟨x0, hx0⟩ := cellEx (k * 3) (by omega)
      obtain ⟨x1, hx1⟩ := cellEx (k * 3 + 1) (by omega)
      obtain ⟨x2, hx2⟩ := cellEx (k * 3 + 2) (by omega)
      have f0 := row2.frozenAt (k * 3)
      have f1 := row2.frozenAt (k * 3 + 1)
      have f2 := row2.frozenAt (k * 3 + 2)
      have HB2 : Hid (Below w.heap.size w w2) := HB.out.trans (hb2.mono HB.out.size)
      clear cellEx row2 hb2 hown2
      go_wp2
      go_roundw
      case rel =>
        refine ⟨k + 1, ps ++ [(r, .slice (some ⟨wr.heap.size + 3, 0, none⟩) r.2.2.length r.2.2.length)], by omega, by go_num, ?_, ST.out.1, ST.out.2, ?_⟩
        · show _ = _
          have hkl : k < rs.length := by omega
          have hrk : rs[k] = r := by have := hr.out; rw [List.getElem?_eq_getElem hkl] at this; simpa using this
          rw [List.map_append, HP.out, List.take_succ_eq_append_getElem hkl, hrk]
          rfl
        · exact ((HB2.out.setCell (Nat.le_refl _) _).setCell (Nat.le_refl _) _).setCell (Nat.le_refl _) _
      case measure => simp [intOf]; omega
    · have HD : Hid (Made wr w.heap.size (.slice (some ⟨w.heap.size, 0, none⟩) rs.length rs.length) rs) := by
        have hke : k = rs.length := by omega
        refine ⟨ps, by rw [HP.out, hke, List.take_length], ?_, fun j hj => by simp [Value.ownBlock] at hj; omega, hin⟩
        rw [hke, Nat.sub_self] at hown
        simp only [List.replicate_zero, List.append_nil] at hown
        have hpl : ps.length = rs.length := by rw [HPL.out, hke]
        rw [hpl]
        exact hown
      clear hown hin
      go_wp2
      go_ret
      exact ⟨rfl, HD.out, hbe⟩

end Go.Proofs.YtkkkdgpbmmjieaaGreatDoor

namespace Go.Proofs.YtkkkdgpbmmjieaaGreatDoor
open Go.RowKit

theorem Made.setBelow {w : World} {lo : Nat} {v : Value} {rs : List R} (h : Made w lo v rs) {a : Addr} (ha : a.block < lo) (x : Value) : Made (w.setCell a x) lo v rs := by
  obtain ⟨ps, hp, h1, h2, h3⟩ := h
  have hs : (w.setCell a x).heap.size = w.heap.size := by simp
  refine ⟨ps, hp, ownsRow_setCell_below h1 ha x, by rw [hs]; exact h2, ?_⟩
  rw [hs]
  exact ⟨by rw [hs]; exact h3.1, fun p hp => ⟨ownsRow_setCell_below (h3.2.1 p hp).1 ha x, (h3.2.1 p hp).2⟩, h3.2.2⟩

theorem Made.below {w w' : World} {lo B : Nat} {v : Value} {rs : List R} (h : Made w lo v rs) (hb : Below B w w') (hB : w.heap.size ≤ B) : Made w' lo v rs := by
  obtain ⟨ps, hp, ho⟩ := h
  obtain ⟨h1, h2, h3⟩ := ho.below hb hB
  exact ⟨ps, hp, h1, fun k hk => Nat.lt_of_lt_of_le (h2 k hk) hb.size, h3.mono hb.size (Nat.le_refl _)⟩

theorem toRecs3 (v : Value) (rs : List R) (w : World) (o1 o2 o3 : Obj) (hv : Recs w v rs) (hl : tot rs ≤ 1048576) :
    Calls Tryz.prog 122 #[v] (((w.alloc o1).alloc o2).alloc o3) fun e w' => e = .returned (.slice (some ⟨w.heap.size + 3, 0, none⟩) rs.length rs.length) ∧
      Made w' (w.heap.size + 3) (.slice (some ⟨w.heap.size + 3, 0, none⟩) rs.length rs.length) rs ∧ Below (w.heap.size + 3) (((w.alloc o1).alloc o2).alloc o3) w' := by
  have h := toRecs_any v rs (((w.alloc o1).alloc o2).alloc o3) (hv.later (below3 w o1 o2 o3) (Nat.le_refl _)) hl
  rw [size3] at h
  exact h

set_option maxHeartbeats 1000000 in
theorem toLog_any (v : Value) (rs : List R) (f : Int) (w : World) (hv : Recs w v rs) (hl : tot rs ≤ 1048576) :
    Calls Tryz.prog 73 #[.agg #[v, .int .i64 f]] w fun e w' => e = .returned (.agg #[.slice (some ⟨w.heap.size + 3, 0, none⟩) rs.length rs.length, .int .i64 f]) ∧
      Made w' (w.heap.size + 3) (.slice (some ⟨w.heap.size + 3, 0, none⟩) rs.length rs.length) rs ∧ Below w.heap.size w w' := by
  have HV : Hid (Recs w v rs) := hv
  obtain ⟨ao, cap, rfl⟩ := hv.shape
  clear hv
  go_enter Tryz.func73, Tryz.ntmps73
  go_wp2_with fail
  refine (toRecs3 _ rs w _ _ _ HV.out hl).mono ?_
  rintro e w1 ⟨rfl, hown, hb⟩
  have hc : ∀ b o, b < w.heap.size + 3 → w1.cell? ⟨b, o, none⟩ = _ := fun b o h => hb.cell (p := ⟨b, o, none⟩) h
  have hf : ∀ b o, b < w.heap.size + 3 → w1.frozen? ⟨b, o, none⟩ = _ := fun b o h => hb.frozen (p := ⟨b, o, none⟩) h
  have hz : w.heap.size + 3 ≤ w1.heap.size := by have := hb.size; rw [size3] at this; exact this
  have HO : Hid (Made w1 (w.heap.size + 3) (.slice (some ⟨w.heap.size + 3, 0, none⟩) rs.length rs.length) rs) := hown
  have HB : Hid (Below w.heap.size w w1) := (below3 w _ _ _).trans (hb.mono (by omega))
  clear hown hb
  go_wp2
  refine bodyPost_ret (v := .agg #[.slice (some ⟨w.heap.size + 3, 0, none⟩) rs.length rs.length, .int .i64 f]) (by simp [results, Tryz.results73, go_sem, hc]) rfl ⟨rfl, ?_, ?_⟩
  · exact (((HO.out.setBelow (by simp) _).setBelow (by simp) _).setBelow (by simp) _).setBelow (by simp) _
  · exact (((HB.out.setCell (by simp; omega) _).setCell (by simp; omega) _).setCell (by simp) _).setCell (by simp) _

set_option maxHeartbeats 1000000 in
theorem eqRecs_any (v1 v2 : Value) (rs : List R) (w : World) (h1 : Recs w v1 rs) (h2 : Recs w v2 rs) (hl : tot rs ≤ 1048576) :
    Calls Tryz.prog 129 #[v1, v2] w fun e w' => e = .returned (.bool true) ∧ Below w.heap.size w w' := by
  have hlen := tot_len rs
  have HM : Hid (∀ r ∈ rs, r.2.2.length ≤ 1048576) := fun r hr => Nat.le_trans (tot_mem rs r hr) hl
  rcases h1 with ⟨rfl, ao, cap, rfl⟩ | ⟨b, off, cap, rfl, hz, hc⟩
  · obtain ⟨ao2, cap2, rfl⟩ := h2.shape
    clear h2
    go_enter Tryz.func129, Tryz.ntmps129
    go_wp2
    refine wp_loop_rounds 1 ?_
    rw [rounds_succ]
    go_wp2
    go_ret
    exact ⟨rfl, Below.refl _ _⟩
  rcases h2 with ⟨h, _⟩ | ⟨b2, off2, cap2, rfl, _, hc2⟩
  · exact absurd h hz
  have HC : Hid (∀ i r, rs[i]? = some r → ∃ u, RecCells w b (off + i * 3) r u) := hc
  have HC2 : Hid (∀ i r, rs[i]? = some r → ∃ u, RecCells w b2 (off2 + i * 3) r u) := hc2
  have hzl : 0 < rs.length := List.length_pos_iff.2 hz
  clear hc hc2 hz
  go_enter Tryz.func129, Tryz.ntmps129
  go_wp2
  go_loopw [5] (fun i wr => ∃ k : Nat, k ≤ rs.length ∧ i = .int .i64 k ∧ Below w.heap.size w wr) (fun i _ => rs.length - (intOf i).toNat)
  case atStart => exact ⟨0, Nat.zero_le _, rfl, Below.refl _ _⟩
  case round =>
    obtain ⟨k, hk, rfl, hbe⟩ := hrel
    by_cases hlt : k < rs.length
    · obtain ⟨r, hr⟩ : ∃ r, Hid (rs[k]? = some r) := ⟨rs[k], by show _ = _; simp [hlt]⟩
      have hrl : r.2.2.length ≤ 1048576 := HM.out r (List.mem_of_getElem? hr.out)
      obtain ⟨u, hu⟩ := HC.out k r hr.out
      obtain ⟨u', hu'⟩ := HC2.out k r hr.out
      obtain ⟨c0, c1, c2, hI⟩ := hu.later hbe (Nat.le_refl _)
      obtain ⟨d0, d1, d2, hJ⟩ := hu'.later hbe (Nat.le_refl _)
      have HI : Hid (Ints wr u r.2.2) := hI
      have HJ : Hid (Ints wr u' r.2.2) := hJ
      have hli : (k : Int) < (rs.length : Int) := by omega
      have HB : Hid (Below w.heap.size w wr) := hbe
      clear hbe hI hJ hu hu'
      go_wp2
      go_region_with (go_at_call 162; refine (eqRec_any _ _ _ _ r.2.2 _ ?_ ?_ hrl).mono ?_; exact HI.out.later (Below.refl _ _).drew (Nat.le_refl _); exact HJ.out.later (Below.refl _ _).drew (Nat.le_refl _); rintro e w2 ⟨rfl, hb2⟩; have HB2 := HB.out.drew.trans (hb2.mono HB.out.size); clear hb2)
      all_goals (try go_wp2)
      all_goals
        go_roundw
        case rel => exact ⟨k + 1, by omega, by go_num, HB2⟩
        case measure => simp [intOf]; omega
    · go_wp2
      go_ret
      exact ⟨rfl, hbe⟩

set_option maxHeartbeats 1000000 in
theorem eqLog_any (v1 v2 : Value) (rs : List R) (f : Int) (w : World) (h1 : Recs w v1 rs) (h2 : Recs w v2 rs) (hl : tot rs ≤ 1048576) :
    Calls Tryz.prog 79 #[.agg #[v1, .int .i64 f], .agg #[v2, .int .i64 f]] w fun e w' => e = .returned (.bool true) ∧ Below w.heap.size w w' := by
  have H1 : Hid (∀ o1 o2, Recs ((w.alloc o1).alloc o2) v1 rs) := fun o1 o2 => h1.later (below2 w o1 o2) (Nat.le_refl _)
  have H2 : Hid (∀ o1 o2, Recs ((w.alloc o1).alloc o2) v2 rs) := fun o1 o2 => h2.later (below2 w o1 o2) (Nat.le_refl _)
  obtain ⟨a1, p1, rfl⟩ := h1.shape
  obtain ⟨a2, p2, rfl⟩ := h2.shape
  clear h1 h2
  go_enter Tryz.func79, Tryz.ntmps79
  go_wp2_with fail
  refine (eqRecs_any _ _ rs _ (H1.out _ _) (H2.out _ _) hl).mono ?_
  rintro e w1 ⟨rfl, hb⟩
  obtain ⟨hc, _⟩ := bcell hb
  have HB : Hid (Below w.heap.size w w1) := (below2 w _ _).trans (hb.mono (by simp; omega))
  have hz : w.heap.size + 2 ≤ w1.heap.size := by have := hb.size; rw [size2] at this; exact this
  rw [size2] at hc
  clear hb
  go_wp2
  go_ret
  exact ⟨rfl, HB.out⟩

end Go.Proofs.YtkkkdgpbmmjieaaGreatDoor

namespace Go.Proofs.YtkkkdgpbmmjieaaGreatDoor
open Go.RowKit

theorem row_shape {w : World} {base : Nat} {e : TypeId} {size : Nat} {v : Value} {n : Nat} {xs : List Value} (h : w.ownsRow base e size v n xs) : ∃ ao cap, v = .slice ao n cap := by
  rcases h.2 with ⟨hv, hn⟩ | ⟨g, cap, cur, hv, _⟩
  · subst hn; exact ⟨none, 0, hv⟩
  · exact ⟨_, cap, hv⟩

/-- Numbers appended to a row of numbers of the call's own. -/
theorem run_append_ints (w : World) (base ty : Nat) (v xv : Value) (n : Nat) (xs : List Value) (zs : List Int) (hown : w.ownsRow base 3 1 v n xs) (hI : Ints w xv zs) (hb : n + zs.length ≤ 16777216) (hbase : base ≤ w.heap.size) :
    ∃ v' w', (Builtin.append_ #[51, 51] ty #[v, xv]).run Tryz.prog w = .ok v' w' ∧ w'.ownsRow base 3 1 v' (n + zs.length) (xs ++ zs.map (Value.int .i64)) ∧ w.grownBy w' v.ownBlock := by
  obtain ⟨i0, hi, hz0, hz1, hz2⟩ := info_parts info3
  rcases hI with ⟨rfl, ao, cap, rfl, hao⟩ | ⟨b, off, cap, rfl, hz, hc⟩
  · cases ao with
    | none =>
      obtain rfl := hao rfl
      exact ⟨v, w, run_append_owned_none w base 51 ty 3 i0 1 Tryz.underlying51 hi v n xs hown, by simpa using hown, World.grownBy.refl _ _⟩
    | some a =>
      obtain ⟨v', w', h1, h2, h3, _⟩ := run_append_own (P := Tryz.prog) w base 51 ty 3 i0 (.int .i64 0) 1 8 Tryz.underlying51 hi hz0 hz1 hz2 rfl (by decide) v n xs hown a 0 cap [] rfl (fun j u h => by simp at h) (fun u h => by simp at h) (by unfold maxLen; omega) (by simp at hb; omega) hbase
      exact ⟨v', w', h1, by simpa using h2, h3⟩
  · obtain ⟨v', w', h1, h2, h3, _⟩ := run_append_own (P := Tryz.prog) w base 51 ty 3 i0 (.int .i64 0) 1 8 Tryz.underlying51 hi hz0 hz1 hz2 rfl (by decide) v n xs hown ⟨b, off, none⟩ zs.length cap (zs.map (Value.int .i64)) (by simp) (fun j u h => by
        rw [List.getElem?_map] at h
        cases hj : zs[j]? with
        | none => rw [hj] at h; cases h
        | some z =>
          rw [hj] at h
          simp at h
          subst h
          have hjl : j < zs.length := by
            by_cases e : j < zs.length
            · exact e
            · rw [List.getElem?_eq_none (by omega)] at hj; cases hj
          have := hc j hjl
          rw [Go.WideShapes.add_plain, this]
          simp [List.getD_eq_getElem?_getD, hj]) (ints_oneCell _ _) (by unfold maxLen; omega) (by omega) hbase
    exact ⟨v', w', h1, h2, h3⟩

/-- The same as one step of a region that draws its order. -/
theorem step_append_ints {ops : Array Oper} {o : Oper} {a : Act} {w : World} {K : Act → World → Prop} {Q : Exit → Act → World → Prop} {E : Prop} (hgd : o.guard = none) (s x : Operand)
    (ho : o.op = .call { callee := .builtin .append, args := #[s, x], argTypes := #[51, 51] })
    (base : Nat) (v xv : Value) (n : Nat) (xs : List Value) (zs : List Int) (hs : a.eval s = v) (hx : a.eval x = xv) (hown : w.ownsRow base 3 1 v n xs) (hI : Ints w xv zs) (hb : n + zs.length ≤ 16777216) (hbase : base ≤ w.heap.size)
    (h : ∀ ao cap w', w'.ownsRow base 3 1 (.slice ao (n + zs.length) cap) (n + zs.length) (xs ++ zs.map (Value.int .i64)) → w.grownBy w' v.ownBlock → K (a.put o.dst (.slice ao (n + zs.length) cap)) w') :
    if Region.wanted o (yielded ops a.tmps) = true then Oper.wp Tryz.prog o a w K Q else E := by
  have hw : Region.wanted o (yielded ops a.tmps) = true := by simp [Region.wanted, hgd]
  rw [if_pos hw]
  obtain ⟨v', w', hrun, r1, r2⟩ := run_append_ints w base o.type v xv n xs zs hown hI hb hbase
  obtain ⟨ao, cap, rfl⟩ := row_shape r1
  unfold Oper.wp
  simp [execOp, ho, resolve, invoke, builtin, hs, hx, hrun, Result.andThen]
  exact h ao cap w' r1 r2

theorem grown_below {w w' : World} (h : w.grownBy w' none) : Below w.heap.size w w' := (Below.refl _ _).grown h (Nat.le_refl _) (fun k h => by cases h)

set_option maxHeartbeats 2000000 in
theorem copyRec_any (k t : Int) (u : Value) (zs : List Int) (w : World) (hI : Ints w u zs) (hl : zs.length ≤ 1048576) :
    Calls Tryz.prog 167 #[.agg #[.int .i64 k, .int .i64 t, u]] w fun e w' => ∃ ao cap, e = .returned (.agg #[.int .i64 k, .int .i64 t, .slice ao zs.length cap]) ∧
      w'.ownsRow (w.heap.size + 2) 3 1 (.slice ao zs.length cap) zs.length (zs.map (Value.int .i64)) ∧ Below w.heap.size w w' := by
  have HI : Hid (∀ W, Below w.heap.size w W → Ints W u zs) := fun W h => hI.later h (Nat.le_refl _)
  obtain ⟨au, cu, hus⟩ := hI.shape
  clear hI
  subst hus
  have HR : Hid (∀ o, RecAt ((w.alloc (.cells #[.int .i64 k, .int .i64 t, .slice au zs.length cu] 161)).alloc o).drew w.heap.size k t (.slice au zs.length cu)) := fun o => ((RecAt.new w k t _ 161).later ((Below.refl _ _).alloc (Nat.le_refl _) o).drew (Nat.le_refl _))
  go_enter Tryz.func167, Tryz.ntmps167
  go_wp2
  go_region_held_law (fun w' => w'.cell? ⟨w.heap.size, 0, none⟩ = some (.int .i64 k) ∧ w'.cell? ⟨w.heap.size, 1, none⟩ = some (.int .i64 t) ∧ w'.cell? ⟨w.heap.size, 2, none⟩ = some (.slice au zs.length cu)) (go_keep)
    ((refine step_append_ints rfl _ _ rfl (w.heap.size + 2) (.slice none 0 0) (.slice au zs.length cu) 0 [] zs rfl rfl (World.ownsRow_nil _ _ _ _) (HI.out _ (by exact (below2 w _ _).drew)) (by omega) (by simp) ?_; intro ao cap w1 hown hgrow; simp only [Nat.zero_add, List.nil_append] at hown; have hb1 := grown_below hgrow; obtain ⟨hc1, hf1⟩ := bcell hb1; obtain ⟨k0, k1, k2⟩ := (HR.out _).later hb1 (Nat.le_refl _); have HO := hide_it hown; have HB := hide_it ((below2 w _ _).drew.trans (hb1.mono (by simp; omega))); have hz1 : w.heap.size + 2 ≤ w1.heap.size := by (have := hb1.size; simp at this; omega)))
  go_wp2
  refine bodyPost_ret (v := .agg #[.int .i64 k, .int .i64 t, .slice ao zs.length cap]) (by simp [results, Tryz.results167, go_sem, hc1]) rfl ⟨ao, cap, rfl, ?_, ?_⟩
  · exact ownsRow_setCell_below (ownsRow_setCell_below (ownsRow_setCell_below HO.out (by simp) _) (by simp) _) (by simp) _
  · exact ((HB.out.setCell (by simp) _).setCell (by simp) _).setCell (by simp) _

end Go.Proofs.YtkkkdgpbmmjieaaGreatDoor

namespace Go.Proofs.YtkkkdgpbmmjieaaGreatDoor
open Go.RowKit

/-- One more record appended to a list of the call's own, as worlds and rows see it. -/
theorem append_step {w3 w4 : World} {W0 hi : Nat} {v v' : Value} {ps : List (R × Value)} {r : R} {u : Value}
    (hrow : w3.ownsRow W0 161 3 v ps.length (flat ps)) (hin : Inner w3 W0 hi ps) (hhi : hi ≤ w3.heap.size)
    (ho : w3.ownsRow W0 3 1 u r.2.2.length (r.2.2.map (Value.int .i64))) (hu : ∀ k, u.ownBlock = some k → hi ≤ k ∧ k < w3.heap.size)
    (hown : w4.ownsRow W0 161 3 v' (ps.length + 1) (flat ps ++ [.int .i64 r.1, .int .i64 r.2.1, u])) (hg : w3.grownBy w4 v.ownBlock) :
    w4.ownsRow W0 161 3 v' (ps ++ [(r, u)]).length (flat (ps ++ [(r, u)])) ∧ Inner w4 W0 w4.heap.size (ps ++ [(r, u)]) := by
  refine ⟨?_, ?_⟩
  · rw [flat_append, List.length_append]; exact hown
  · have in3 : Inner w3 W0 w3.heap.size (ps ++ [(r, u)]) := hin.snoc hhi (Nat.le_refl _) ho hu
    have h := in3.kept hg (fun p hp => by
      rcases hrow.2 with ⟨hv, _⟩ | ⟨g, cap, cur, hv, _, hh, _⟩
      · by_cases e : p.2.ownBlock = none
        · exact Or.inl e
        · exact Or.inr (by rw [hv]; simpa [Value.ownBlock] using e)
      · refine Or.inr ?_
        rw [hv]
        exact in3.apart hh (by decide) p hp)
    exact h.mono hg.size (Nat.le_refl _)

set_option maxHeartbeats 2000000 in
theorem copyRecs_any (v : Value) (rs : List R) (w : World) (hv : Recs w v rs) (hl : tot rs ≤ 1048576) :
    Calls Tryz.prog 140 #[v] w fun e w' => ∃ ao cap, e = .returned (.slice ao rs.length cap) ∧ Made w' w.heap.size (.slice ao rs.length cap) rs ∧ Below w.heap.size w w' := by
  obtain ⟨i0, hi, hz0, hz1, hz2⟩ := info_parts infoRec
  have hlen := tot_len rs
  have HM : Hid (∀ r ∈ rs, r.2.2.length ≤ 1048576) := fun r hr => Nat.le_trans (tot_mem rs r hr) hl
  rcases hv with ⟨rfl, ao, cap, rfl⟩ | ⟨b, off, cap, rfl, hz, hc⟩
  · go_enter Tryz.func140, Tryz.ntmps140
    go_wp2
    refine wp_loop_rounds 1 ?_
    rw [rounds_succ]
    go_wp2
    refine bodyPost_ret (v := .slice none 0 0) (by simp [results, Tryz.results140, go_sem]) rfl ⟨none, 0, rfl, ?_, Below.refl _ _⟩
    exact ⟨[], rfl, World.ownsRow_nil _ _ _ _, fun k hk => by simp [Value.ownBlock] at hk, Inner.nil _ _ _ (Nat.le_refl _)⟩
  have HC : Hid (∀ i r, rs[i]? = some r → ∃ u, RecCells w b (off + i * 3) r u) := hc
  have hzl : 0 < rs.length := List.length_pos_iff.2 hz
  clear hc hz
  go_enter Tryz.func140, Tryz.ntmps140
  go_wp2
  go_loopw [3, 8] (fun vo i wr => ∃ (k : Nat) (ps : List (R × Value)), k ≤ rs.length ∧ i = .int .i64 k ∧ Hid (ps.map (·.1) = rs.take k) ∧ Hid (wr.ownsRow w.heap.size 161 3 vo ps.length (flat ps)) ∧ Hid (Inner wr w.heap.size wr.heap.size ps) ∧ Hid (Below w.heap.size w wr)) (fun _ i _ => rs.length - (intOf i).toNat)
  case atStart => exact ⟨0, [], Nat.zero_le _, rfl, rfl, World.ownsRow_nil _ _ _ _, Inner.nil _ _ _ (Nat.le_refl _), Below.refl _ _⟩
  case round =>
    obtain ⟨k, ps, hk, rfl, HP, HO, HN, HB⟩ := hrel
    have HPL : Hid (ps.length = k) := by
      have := congrArg List.length HP.out
      simp at this
      show _ = _; omega
    by_cases hlt : k < rs.length
    · obtain ⟨r, hr⟩ : ∃ r, Hid (rs[k]? = some r) := ⟨rs[k], by show _ = _; simp [hlt]⟩
      have hrl : r.2.2.length ≤ 1048576 := HM.out r (List.mem_of_getElem? hr.out)
      obtain ⟨u, hu⟩ := HC.out k r hr.out
      obtain ⟨c0, c1, c2, hI⟩ := hu.later HB.out (Nat.le_refl _)
      have hbw : b < wr.heap.size := World.block_lt_of_cell? _ _ c0
      obtain ⟨au, cu, hus⟩ := hI.shape
      have HI : Hid (∀ o, Ints (wr.alloc o) u r.2.2) := fun o => hI.later ((Below.refl _ _).alloc (Nat.le_refl _) o) (Nat.le_refl _)
      clear hI hu
      subst hus
      go_wp2_with fail
      refine (copyRec_any r.1 r.2.1 _ r.2.2 _ (HI.out _) hrl).mono ?_
      rintro e w2 ⟨ao2, cap2, rfl, hown2, hb2⟩
      have hb2' : Below wr.heap.size wr w2 := ((Below.refl _ _).alloc (Nat.le_refl _) _).trans (hb2.mono (by simp))
      have hz2' : wr.heap.size + 1 ≤ w2.heap.size := by have := hb2.size; simp at this; exact this
      have ROW : Hid (∀ o, (w2.alloc o).ownsRow w.heap.size 161 3 u3 ps.length (flat ps)) := fun o => (ownsRow_below HO.out hb2' (fun j hj => (HO.out.lt j hj).2)).alloc o
      have INN : Hid (∀ o, Inner (w2.alloc o) w.heap.size wr.heap.size ps) := fun o => (HN.out.below hb2' (Nat.le_refl _)).below ((Below.refl _ _).alloc (Nat.le_refl _) o) (by omega)
      have NEW : Hid (∀ o, (w2.alloc o).ownsRow w.heap.size 3 1 (.slice ao2 r.2.2.length cap2) r.2.2.length (r.2.2.map (Value.int .i64))) := fun o => (ownsRow_base hown2 (by have := HB.out.size; simp; omega)).alloc o
      have NEWB : Hid (∀ j, (Value.slice ao2 r.2.2.length cap2).ownBlock = some j → wr.heap.size ≤ j ∧ j < w2.heap.size + 1) := fun j hj => by
        have := hown2.lt j hj
        simp at this
        omega
      have HB2 : Hid (Below w.heap.size w w2) := HB.out.trans (hb2'.mono HB.out.size)
      have hzw : w.heap.size ≤ w2.heap.size := HB2.out.size
      clear hown2 hb2 hb2'
      go_wp2_with (at_builtin; refine wpList_append_own _ rfl _ _ 33 rfl w.heap.size 161 i0 (.agg #[.int .i64 0, .int .i64 0, .slice none 0 0]) 3 40 Tryz.underlying33 hi hz0 hz1 hz2 rfl (by decide) u3 ps.length (flat ps) rfl (ROW.out _) ⟨w2.heap.size, 0, none⟩ 1 1 [.int .i64 r.1, .int .i64 r.2.1, .slice ao2 r.2.2.length cap2] rfl rfl ?c1 ?c2 ?c3 ?c4 ?c5 ?_)
      case c1 =>
        intro j x hj
        match j, hj with
        | 0, hj => simp at hj; subst hj; simp [Addr.add]
        | 1, hj => simp at hj; subst hj; simp [Addr.add]
        | 2, hj => simp at hj; subst hj; simp [Addr.add]
      case c2 => intro x hx; simp at hx; rcases hx with rfl | rfl | rfl <;> rfl
      case c3 => have := HPL.out; unfold maxLen; omega
      case c4 => have := HPL.out; omega
      case c5 => simp; omega
      · intro v' w4 hown4 hgrow4 _
        have ST := append_step (r := r) (ROW.out _) (INN.out _) (by simp; omega) (NEW.out _) (by simpa using NEWB.out) hown4 hgrow4
        have HO4 := hide_it ST.1
        have HN4 := hide_it ST.2
        have HB4 : Hid (Below w.heap.size w w4) := (HB2.out.alloc hzw _).grown hgrow4 (by simp; omega) (fun j hj => ((ROW.out default).lt j hj).1)
        clear ST hown4 hgrow4
        go_wp2
        go_roundw
        case rel =>
          refine ⟨k + 1, ps ++ [(r, .slice ao2 r.2.2.length cap2)], by omega, by go_num, ?_, HO4, HN4, HB4⟩
          show _ = _
          have hkl : k < rs.length := by omega
          have hrk : rs[k] = r := by have := hr.out; rw [List.getElem?_eq_getElem hkl] at this; simpa using this
          rw [List.map_append, HP.out, List.take_succ_eq_append_getElem hkl, hrk]
          rfl
        case measure => simp [intOf]; omega
    · have hke : Hid (k = rs.length) := by show _ = _; omega
      obtain ⟨ao, cp, hvo⟩ := row_shape HO.out
      have hpl : ps.length = rs.length := by rw [HPL.out, hke.out]
      rw [hpl] at hvo
      have HD : Hid (Made wr w.heap.size (.slice ao rs.length cp) rs) := by
        refine ⟨ps, by rw [HP.out, hke.out, List.take_length], ?_, fun j hj => ?_, HN.out⟩
        · have := HO.out; rw [hvo] at this; exact this
        · have := HO.out; rw [hvo] at this; exact (this.lt j hj).2
      subst hvo
      clear hpl
      go_wp2
      refine bodyPost_ret (v := .slice ao rs.length cp) (by simp [results, Tryz.results140, go_sem]) rfl ⟨ao, cp, rfl, HD.out, HB.out⟩

end Go.Proofs.YtkkkdgpbmmjieaaGreatDoor

namespace Go.Proofs.YtkkkdgpbmmjieaaGreatDoor
open Go.RowKit

/-- Nothing but blocks from lo on and below hi has turned; blocks may have come. -/
structure Mid (lo hi : Nat) (w w' : World) : Prop where
  os : w'.os = w.os
  tape : w'.tape = w.tape
  output : w'.output = w.output
  size : w.heap.size ≤ w'.heap.size
  block : ∀ k, k < w.heap.size → (k < lo ∨ hi ≤ k) → w'.heap[k]? = w.heap[k]?

theorem Mid.refl (lo hi : Nat) (w : World) : Mid lo hi w w := ⟨rfl, rfl, rfl, Nat.le_refl _, fun _ _ _ => rfl⟩
theorem Mid.trans {lo hi : Nat} {a b c : World} (h : Mid lo hi a b) (k : Mid lo hi b c) : Mid lo hi a c :=
  ⟨k.os.trans h.os, k.tape.trans h.tape, k.output.trans h.output, Nat.le_trans h.size k.size, fun i hi' hh => (k.block i (Nat.lt_of_lt_of_le hi' h.size) hh).trans (h.block i hi' hh)⟩
theorem Mid.of_grown {lo hi : Nat} {w w' : World} {row : Option Nat} (hg : w.grownBy w' row) (hr : ∀ k, row = some k → lo ≤ k ∧ k < hi) : Mid lo hi w w' :=
  ⟨hg.os, hg.tape, hg.output, hg.size, fun k hk hh => hg.block k hk (fun e => by have := hr k e.symm; omega)⟩
theorem Mid.of_below {lo hi B : Nat} {w w' : World} (hb : Below B w w') (hB : w.heap.size ≤ B) : Mid lo hi w w' :=
  ⟨hb.os, hb.tape, hb.output, hb.size, fun k hk _ => hb.block k (by omega)⟩
theorem Mid.below {lo hi B : Nat} {w w' : World} (h : Mid lo hi w w') (hB : B ≤ lo) (hs : B ≤ w.heap.size) : Below B w w' :=
  ⟨h.os, h.tape, h.output, h.size, fun k hk => h.block k (by omega) (Or.inl (by omega))⟩

theorem ownsRow_mid {w w' : World} {base lo hi : Nat} {e : TypeId} {size : Nat} {v : Value} {n : Nat} {xs : List Value} (h : w.ownsRow base e size v n xs) (hb : Mid lo hi w w') (hB : ∀ k, v.ownBlock = some k → k < lo ∨ hi ≤ k) : w'.ownsRow base e size v n xs := by
  have hlt := h.lt
  obtain ⟨h1, h2⟩ := h
  refine ⟨h1, ?_⟩
  rcases h2 with h2 | ⟨g, cap, cur, hv, hg, hh, r⟩
  · exact Or.inl h2
  · exact Or.inr ⟨g, cap, cur, hv, hg, by rw [hb.block g (hlt g (by rw [hv]; rfl)).2 (hB g (by rw [hv]; rfl))]; exact hh, r⟩

/-- A list that lies behind what has turned is as it was. -/
theorem OwnRecs.mid {w w' : World} {l0 h0 lo hi : Nat} {v : Value} {ps : List (R × Value)} (h : OwnRecs w l0 h0 v ps) (hb : Mid lo hi w w') (hB : hi ≤ l0) : OwnRecs w' l0 h0 v ps := by
  obtain ⟨h1, h2, h3⟩ := h
  refine ⟨ownsRow_mid h1 hb (fun k hk => Or.inr (by have := (h1.lt k hk).1; omega)), h2, Nat.le_trans h3.1 hb.size, fun p hp => ⟨?_, (h3.2.1 p hp).2⟩, h3.2.2⟩
  exact ownsRow_mid (h3.2.1 p hp).1 hb (fun k hk => Or.inr (by have := ((h3.2.1 p hp).1.lt k hk).1; omega))

theorem grownBy_trans {a b c : World} {row : Option Nat} (h : a.grownBy b row) (k : b.grownBy c row) : a.grownBy c row :=
  ⟨k.os.trans h.os, k.tape.trans h.tape, k.output.trans h.output, Nat.le_trans h.size k.size, fun i hi hh => (k.block i (Nat.lt_of_lt_of_le hi h.size) hh).trans (h.block i hi hh)⟩

def markI (n : Nat) (k : Int) : List Int := (List.range n).map fun i => k + (i : Nat)
theorem markI_length (n : Nat) (k : Int) : (markI n k).length = n := by simp [markI]
theorem markI_get (n : Nat) (k : Int) (i : Nat) (h : i < n) : (markI n k).getD i 0 = k + i := by simp [markI, List.getD_eq_getElem?_getD, h]

theorem mix_set (A xs : List Value) (i : Nat) (hA : A.length = xs.length) (hi : i < xs.length) (x : Value) (hx : A[i]? = some x) : (A.take i ++ xs.drop i).set i x = A.take (i + 1) ++ xs.drop (i + 1) := by
  have hi' : i < A.length := by omega
  rw [List.set_append_right _ _ (by simp; omega)]
  have h1 : i - (A.take i).length = 0 := by simp; omega
  rw [h1, List.drop_eq_getElem_cons hi, List.set_cons_zero, List.take_succ_eq_append_getElem hi']
  rw [List.getElem?_eq_getElem hi'] at hx
  simp only [Option.some.injEq] at hx
  rw [hx]; simp

set_option maxHeartbeats 1000000 in
theorem markInts_any (v : Value) (xs : List Value) (k : Int) (lo n : Nat) (w : World) (hv : w.ownsRow lo 3 1 v n xs) (hn : n ≤ 1048576) (hk0 : 0 ≤ k) (hk1 : k ≤ 1000000000) :
    Calls Tryz.prog 32 #[v, .int .i64 k] w fun e w' => e = .returned (.int .i64 (k + n)) ∧ w'.ownsRow lo 3 1 v n ((markI n k).map (Value.int .i64)) ∧ w.grownBy w' v.ownBlock := by
  have hxl : xs.length = n := by rw [hv.1]; omega
  by_cases h0 : n = 0
  · subst h0
    have HV : Hid (w.ownsRow lo 3 1 v 0 xs) := hv
    obtain ⟨ao, cap, rfl⟩ := row_shape hv
    have hx0 : xs = [] := List.length_eq_zero_iff.1 hxl
    clear hv hxl
    subst hx0
    go_enter Tryz.func32, Tryz.ntmps32
    go_wp2
    refine wp_loop_rounds 1 ?_
    rw [rounds_succ]
    go_wp2
    go_ret
    exact ⟨by simp, HV.out, World.grownBy.refl _ _⟩
  obtain ⟨g, cap, rfl⟩ : ∃ g cap, v = .slice (some ⟨g, 0, none⟩) n cap := by
    rcases hv.2 with ⟨_, hn0⟩ | ⟨g, cap, cur, h, _⟩
    · exact absurd hn0 h0
    · exact ⟨g, cap, h⟩
  have HX : Hid (xs.length = n) := hxl
  have H0 : Hid (w.ownsRow lo 3 1 (.slice (some ⟨g, 0, none⟩) n cap) n (((markI n k).map (Value.int .i64)).take 0 ++ xs.drop 0)) := by show World.ownsRow _ _ _ _ _ _ _; simpa using hv
  clear hv hxl
  go_enter Tryz.func32, Tryz.ntmps32
  go_wp2
  go_loopw [1, 5] (fun q i wr => ∃ j : Nat, j ≤ n ∧ i = .int .i64 j ∧ q = .int .i64 (k + j) ∧ Hid (wr.ownsRow lo 3 1 (.slice (some ⟨g, 0, none⟩) n cap) n (((markI n k).map (Value.int .i64)).take j ++ xs.drop j)) ∧ Hid (w.grownBy wr (some g))) (fun _ i _ => n - (intOf i).toNat)
  case atStart => exact ⟨0, Nat.zero_le _, rfl, by simp, H0, World.grownBy.refl _ _⟩
  case round =>
    obtain ⟨j, hj, rfl, rfl, HO, HG⟩ := hrel
    by_cases hlt : j < n
    · obtain ⟨x, hx⟩ : ∃ x, wr.cell? ⟨g, j, none⟩ = some x := by
        have h1 := HO.out.cellAt j (by omega)
        have h2 : j < (((markI n k).map (Value.int .i64)).take j ++ xs.drop j).length := by rw [HO.out.1]; omega
        exact ⟨_, by rw [h1, List.getElem?_eq_getElem h2]⟩
      have hfr := HO.out.frozenAt j
      go_wp2
      go_roundw
      case rel =>
        have st := HO.out.stored j (.int .i64 (k + j))
        refine ⟨j + 1, by omega, by go_num, by go_num, ?_, grownBy_trans HG.out st.2⟩
        have h := st.1
        rw [mix_set _ _ j (by rw [List.length_map, markI_length, HX.out]) (by rw [HX.out]; omega) _ (by
          rw [List.getElem?_map]
          have hl : j < (markI n k).length := by rw [markI_length]; omega
          have := markI_get n k j (by omega)
          rw [List.getD_eq_getElem?_getD, List.getElem?_eq_getElem hl] at this
          rw [List.getElem?_eq_getElem hl]
          simp at this ⊢
          exact this)] at h
        exact h
      case measure => simp [intOf]; omega
    · have HO2 : Hid (wr.ownsRow lo 3 1 (.slice (some ⟨g, 0, none⟩) n cap) n ((markI n k).map (Value.int .i64))) := by
        have hje : j = n := by omega
        have := HO.out
        rw [hje, List.take_of_length_le (by rw [List.length_map, markI_length]; omega), List.drop_of_length_le (by rw [HX.out]; omega), List.append_nil] at this
        exact this
      have hje : (j : Int) = n := by omega
      go_wp2
      go_ret
      exact ⟨by simp [hje], HO2.out, HG.out⟩

set_option maxHeartbeats 1000000 in
theorem heldInts_any (v : Value) (n : Nat) (k : Int) (w : World) (hv : Ints w v (markI n k)) (hn : n ≤ 1048576) (hk0 : 0 ≤ k) (hk1 : k ≤ 1000000000) :
    Calls Tryz.prog 149 #[v, .int .i64 k] w fun e w' => e = .returned (.int .i64 (k + n)) ∧ w' = w := by
  rcases hv with ⟨hz, ao, cap, rfl, -⟩ | ⟨b, off, cap, rfl, hz, hc⟩
  · have h0 : n = 0 := by have := congrArg List.length hz; rw [markI_length] at this; simpa using this
    subst h0
    clear hz
    go_enter Tryz.func149, Tryz.ntmps149
    go_wp2
    refine wp_loop_rounds 1 ?_
    rw [rounds_succ]
    go_wp2
    go_ret
    exact ⟨by simp, rfl⟩
  · rw [markI_length] at hc ⊢
    have HC : Hid (∀ j, j < n → w.cell? ⟨b, off + j, none⟩ = some (.int .i64 (k + j))) := fun j hj => by rw [hc j hj, markI_get n k j hj]
    clear hc hz
    go_enter Tryz.func149, Tryz.ntmps149
    go_wp2
    go_loop [1, 5] (fun q i => ∃ j : Nat, j ≤ n ∧ i = .int .i64 j ∧ q = .int .i64 (k + j)) (fun _ i => n - (intOf i).toNat)
    case atStart => exact ⟨0, Nat.zero_le _, rfl, by simp⟩
    case round =>
      obtain ⟨j, hj, rfl, rfl⟩ := hrel
      by_cases hlt : j < n
      · have hcj := HC.out j hlt
        go_wp2
        go_round
        case rel => exact ⟨j + 1, by omega, by go_num, by go_num⟩
        case measure => simp [intOf]; omega
      · have hje : (j : Int) = n := by omega
        go_wp2
        go_ret
        exact ⟨by simp, rfl⟩

end Go.Proofs.YtkkkdgpbmmjieaaGreatDoor
