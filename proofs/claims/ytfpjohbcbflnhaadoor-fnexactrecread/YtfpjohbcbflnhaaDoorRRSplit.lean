/- Contracts of strings.Split at a blank, and of the program's kindOf. For texts of at most 1000 bytes. -/
import Derived.Test.YtfpjohbcbflnhaaDoorRRPure
import Derived.Test.YtfpjohbcbflnhaaDoorWRSh
import Derived.Test.YtfpjohbcbflnhaaDoorEText
import Derived.Shelf.Strings.SplitCore
import Derived.Lib.SplitLaws
import Derived.Lib.IndexBytes
import Derived.Lib.IndexLaws
namespace Go.Proofs.YtfpjohbcbflnhaaDoor
open Go.RowKit

abbrev spB : ByteArray := ⟨#[32]⟩
theorem indexB_sp (s : ByteArray) : Lib.indexB s spB = Lib.indexByte s.data.toList 32 := Lib.index_one s.data.toList 32

theorem splitB_cut (k : Nat) (s : ByteArray) (h : s.data.toList.count 32 ≤ k) : Lib.splitB spB 0 k s = Pl.cutB s := by
  induction k generalizing s with
  | zero =>
    have h0 : s.data.toList.count 32 = 0 := by omega
    rw [Lib.splitB_zero]
    rcases Lib.indexB_cases s spB with hi | ⟨i, hi, _⟩
    · rw [indexB_sp] at hi; rw [cutB_none hi]
    · exfalso
      rw [indexB_sp] at hi
      have h1 := (Lib.indexByte_some hi).1
      have h2 : (32 : UInt8) ∈ s.data.toList := List.mem_of_getElem? h1
      exact absurd (List.count_pos_iff.2 h2) (by omega)
  | succ k ih =>
    rcases Lib.indexB_cases s spB with hi | ⟨i, hi, _⟩
    · rw [Lib.splitB_miss _ _ _ _ hi]
      rw [indexB_sp] at hi; rw [cutB_none hi]
    · rw [Lib.splitB_hit _ _ _ _ _ hi]
      rw [indexB_sp] at hi
      obtain ⟨h1, h2⟩ := cutB_at hi
      have h3 := (Lib.indexByte_some hi).1
      have hl : i < s.data.toList.length := by simpa using h1
      have h4 : s.data.toList = s.data.toList.take i ++ 32 :: s.data.toList.drop (i + 1) := by
        have e1 : s.data.toList[i] = 32 := by rw [List.getElem?_eq_getElem hl] at h3; exact Option.some.inj h3
        rw [← e1, ← List.drop_eq_getElem_cons hl, List.take_append_drop]
      have h5 : (s.extract (i + 1) s.size).data.toList = s.data.toList.drop (i + 1) := by
        rw [extract_list]
        have : s.size = s.data.toList.length := by simp
        rw [this, List.take_length]
      rw [h2, ih]
      · rfl
      · show (s.extract (i + 1) s.size).data.toList.count 32 ≤ k
        rw [h5]
        rw [h4, List.count_append, List.count_cons_self] at h
        omega

theorem countB_sp (s : ByteArray) : Lib.countB s spB = s.data.toList.count 32 := Lib.count_one 32 s.data.toList

/-- Texts that lie in a block. -/
def StrsAt (w : World) (g off : Nat) (l : List ByteArray) : Prop := ∀ j, j < l.length → w.cell? ⟨g, off + j, none⟩ = some (.string (l.getD j ⟨#[]⟩))

set_option maxHeartbeats 1000000 in
theorem split_any (s : ByteArray) (w : World) (hs : s.size ≤ 1000) :
    Calls Tryd.prog 47 #[.string s, .string spB] w fun e w' => e = .returned (.slice (some ⟨w.heap.size, 0, none⟩) (Pl.cutB s).length (Pl.cutB s).length) ∧ StrsAt w' w.heap.size 0 (Pl.cutB s) ∧ Below w.heap.size w w' := by
  have hcb := countB_sp s
  have hle : s.data.toList.count 32 ≤ s.size := by have := List.count_le_length (a := (32 : UInt8)) (l := s.data.toList); simpa using this
  have hlen := Lib.splitB_all spB (by decide) 0 _ s hcb
  rw [splitB_cut _ s (Nat.le_refl _)] at hlen
  have c := Any.strings_genSplit_core Tryd.lays221 (by kernel_rfl) s spB 0 (-1) ((Pl.cutB s).length) w (by omega) (by decide) (Nat.zero_le _)
    (fun x c hx => by have := Any.strings_Index_one Tryd.lays143 x 32 (w.alloc (.cells c 9)); rw [indexB_sp]; exact this)
    (by have := Any.strings_Count_one Tryd.lays138 s 32 w; rw [hcb]; exact this) (by decide) (by decide) (by rw [if_pos (by decide), hcb]; omega)
  rw [show (Pl.cutB s).length - 1 = s.data.toList.count 32 by omega, splitB_cut _ s (Nat.le_refl _), Lib.cellsOf_full] at c
  have HC := hidden c
  clear c hcb hle hlen
  go_enter Tryd.func47, Tryd.ntmps47
  go_wp2_with fail
  refine HC.out.mono ?_
  rintro e w' ⟨rfl, hw⟩
  have HW : Hid (w' = w.alloc (.cells ((Pl.cutB s).map Value.string).toArray 9)) := hw
  clear hw HC
  go_wp2
  go_ret
  refine ⟨rfl, fun j hj => ?_, by rw [HW.out]; exact alloc_below _ _⟩
  rw [HW.out]
  have h := heap_alloc_new w (.cells ((Pl.cutB s).map Value.string).toArray 9)
  rw [cell_of_row _ _ _ _ _ _ h]
  simp [List.getD_eq_getElem?_getD, hj]

/-- The program's names of kinds of records lie in their variable, all eight. -/
def Kinds8 (w : World) : Prop := ∀ j : Nat, j < 8 → w.cell? ⟨1, j, none⟩ = some (.string (Pl.rNm j))
theorem Kinds8.later {B : Nat} {w w' : World} (h : Kinds8 w) (hb : Below B w w') (hB : w.heap.size ≤ B) : Kinds8 w' := fun j hj => by
  have hlt := World.block_lt_of_cell? _ _ (h 0 (by omega))
  simp at hlt
  rw [← h j hj]; exact hb.cell (p := ⟨1, j, none⟩) (by simp; omega)
theorem Kinds8.at_ {w : World} (h : Kinds8 w) : KindsAt w := ⟨h 1 (by omega), h 2 (by omega), h 3 (by omega), h 4 (by omega), h 5 (by omega), h 6 (by omega), h 7 (by omega)⟩

theorem rKind_range (s : ByteArray) : 0 ≤ Pl.rKind s ∧ Pl.rKind s ≤ 7 := by
  unfold Pl.rKind
  repeat' split
  all_goals decide
theorem rKind_eq (s : ByteArray) (j : Nat) (h1 : 1 ≤ j) (h7 : j ≤ 7) : ((Pl.rNm j).toList == s.toList) = decide (Pl.rKind s = j) := by
  rw [ByteArray.toList_eq, ByteArray.toList_eq]
  have key : ∀ a b : List UInt8, (a == b) = decide (b = a) := fun a b => by
    by_cases h : b = a
    · subst h; simp
    · have : ¬ a = b := fun e => h e.symm
      simp [h, this]
  rw [key]
  congr 1
  unfold Pl.rKind
  rcases Pl.seven (k := j) (by omega) with e | e | e | e | e | e | e
  all_goals
    obtain rfl : j = _ := Int.ofNat.inj e
    apply propext
    constructor
    · intro h; rw [h]; decide
    · intro h
      repeat (split at h; first | (rename_i h2; exact h2) | (exact absurd h (by decide)))
      exact absurd h (by decide)

theorem rKind_none (s : ByteArray) (h : ((Pl.rNm 0).toList == s.toList) = true) : Pl.rKind s = 0 := by
  rw [ByteArray.toList_eq, ByteArray.toList_eq] at h
  have : (Pl.rNm 0).data.toList = s.data.toList := by simpa using h
  unfold Pl.rKind
  rw [← this]; decide

set_option maxRecDepth 100000 in
set_option maxHeartbeats 4000000 in
theorem rkind_any (s : ByteArray) (w : World) (hN : Kinds8 w) :
    Calls Tryd.prog 49 #[.string s] w fun e w' => e = .returned (.int .i64 (Pl.rKind s)) ∧ w' = w := by
  have c0 := hN 0 (by omega)
  have c1 := hN 1 (by omega)
  have c2 := hN 2 (by omega)
  have c3 := hN 3 (by omega)
  have c4 := hN 4 (by omega)
  have c5 := hN 5 (by omega)
  have c6 := hN 6 (by omega)
  have c7 := hN 7 (by omega)
  have e1 := rKind_eq s 1 (by omega) (by omega)
  have e2 := rKind_eq s 2 (by omega) (by omega)
  have e3 := rKind_eq s 3 (by omega) (by omega)
  have e4 := rKind_eq s 4 (by omega) (by omega)
  have e5 := rKind_eq s 5 (by omega) (by omega)
  have e6 := rKind_eq s 6 (by omega) (by omega)
  have e7 := rKind_eq s 7 (by omega) (by omega)
  have e0 := rKind_none s
  have hr := rKind_range s
  clear hN
  generalize Pl.rKind s = k at *
  generalize Pl.rNm (0 : Nat) = n0 at *
  generalize Pl.rNm (1 : Nat) = n1 at *
  generalize Pl.rNm (2 : Nat) = n2 at *
  generalize Pl.rNm (3 : Nat) = n3 at *
  generalize Pl.rNm (4 : Nat) = n4 at *
  generalize Pl.rNm (5 : Nat) = n5 at *
  generalize Pl.rNm (6 : Nat) = n6 at *
  generalize Pl.rNm (7 : Nat) = n7 at *
  have i0 : ∀ W, Sem.run Tryd.prog (Instr.index 71 (.agg #[.string n0, .string n1, .string n2, .string n3, .string n4, .string n5, .string n6, .string n7]) (.int .i64 0)) W = .ok (.string n0) W := fun _ => by kernel_rfl
  have i1 : ∀ W, Sem.run Tryd.prog (Instr.index 71 (.agg #[.string n0, .string n1, .string n2, .string n3, .string n4, .string n5, .string n6, .string n7]) (.int .i64 1)) W = .ok (.string n1) W := fun _ => by kernel_rfl
  have i2 : ∀ W, Sem.run Tryd.prog (Instr.index 71 (.agg #[.string n0, .string n1, .string n2, .string n3, .string n4, .string n5, .string n6, .string n7]) (.int .i64 2)) W = .ok (.string n2) W := fun _ => by kernel_rfl
  have i3 : ∀ W, Sem.run Tryd.prog (Instr.index 71 (.agg #[.string n0, .string n1, .string n2, .string n3, .string n4, .string n5, .string n6, .string n7]) (.int .i64 3)) W = .ok (.string n3) W := fun _ => by kernel_rfl
  have i4 : ∀ W, Sem.run Tryd.prog (Instr.index 71 (.agg #[.string n0, .string n1, .string n2, .string n3, .string n4, .string n5, .string n6, .string n7]) (.int .i64 4)) W = .ok (.string n4) W := fun _ => by kernel_rfl
  have i5 : ∀ W, Sem.run Tryd.prog (Instr.index 71 (.agg #[.string n0, .string n1, .string n2, .string n3, .string n4, .string n5, .string n6, .string n7]) (.int .i64 5)) W = .ok (.string n5) W := fun _ => by kernel_rfl
  have i6 : ∀ W, Sem.run Tryd.prog (Instr.index 71 (.agg #[.string n0, .string n1, .string n2, .string n3, .string n4, .string n5, .string n6, .string n7]) (.int .i64 6)) W = .ok (.string n6) W := fun _ => by kernel_rfl
  have i7 : ∀ W, Sem.run Tryd.prog (Instr.index 71 (.agg #[.string n0, .string n1, .string n2, .string n3, .string n4, .string n5, .string n6, .string n7]) (.int .i64 7)) W = .ok (.string n7) W := fun _ => by kernel_rfl
  cases h0 : (n0.toList == s.toList)
  · clear e0
    have hc : k = 0 ∨ k = 1 ∨ k = 2 ∨ k = 3 ∨ k = 4 ∨ k = 5 ∨ k = 6 ∨ k = 7 := by omega
    rcases hc with rfl | rfl | rfl | rfl | rfl | rfl | rfl | rfl
    all_goals
      first | replace e1 := e1.trans (show _ = true by decide) | replace e1 := e1.trans (show _ = false by decide)
      first | replace e2 := e2.trans (show _ = true by decide) | replace e2 := e2.trans (show _ = false by decide)
      first | replace e3 := e3.trans (show _ = true by decide) | replace e3 := e3.trans (show _ = false by decide)
      first | replace e4 := e4.trans (show _ = true by decide) | replace e4 := e4.trans (show _ = false by decide)
      first | replace e5 := e5.trans (show _ = true by decide) | replace e5 := e5.trans (show _ = false by decide)
      first | replace e6 := e6.trans (show _ = true by decide) | replace e6 := e6.trans (show _ = false by decide)
      first | replace e7 := e7.trans (show _ = true by decide) | replace e7 := e7.trans (show _ = false by decide)
      go_enter Tryd.func49, Tryd.ntmps49
      go_wp2
      refine wp_loop_rounds 9 ?_
      iterate 9 (try (rw [rounds_succ]; go_wp2))
      go_ret
      exact ⟨rfl, rfl⟩
  · obtain rfl := e0 h0
    clear e1 e2 e3 e4 e5 e6 e7
    go_enter Tryd.func49, Tryd.ntmps49
    go_wp2
    refine wp_loop_rounds 9 ?_
    rw [rounds_succ]
    go_wp2
    go_ret
    exact ⟨rfl, rfl⟩

end Go.Proofs.YtfpjohbcbflnhaaDoor
