/- Contracts of the program's wordKindOf, and of the specification's l1Dec. For texts of at most 1000 bytes. -/
import Derived.Test.YtleinjblokepmaaDoorWRSh
namespace Go.Proofs.YtleinjblokepmaaDoor
open Go.RowKit

/-- The program's names of kinds lie in their variable, all eight. -/
def Names8 (w : World) : Prop := ∀ j : Nat, j < 8 → w.cell? ⟨0, j, none⟩ = some (.string (Pl.wNm j))
theorem Names8.later {B : Nat} {w w' : World} (h : Names8 w) (hb : Below B w w') (hB : w.heap.size ≤ B) : Names8 w' := fun j hj => by
  have hlt := World.block_lt_of_cell? _ _ (h 0 (by omega))
  simp at hlt
  rw [← h j hj]; exact hb.cell (p := ⟨0, j, none⟩) (by simp; omega)

theorem wKind_range (s : ByteArray) : 0 ≤ Pl.wKind s ∧ Pl.wKind s ≤ 7 := by
  unfold Pl.wKind
  repeat' split
  all_goals decide
theorem wKind_eq (s : ByteArray) (j : Nat) (h1 : 1 ≤ j) (h7 : j ≤ 7) : ((Pl.wNm j).toList == s.toList) = decide (Pl.wKind s = j) := by
  rw [ByteArray.toList_eq, ByteArray.toList_eq]
  have key : ∀ a b : List UInt8, (a == b) = decide (b = a) := fun a b => by
    by_cases h : b = a
    · subst h; simp
    · have : ¬ a = b := fun e => h e.symm
      simp [h, this]
  rw [key]
  congr 1
  unfold Pl.wKind
  rcases Pl.seven (k := j) (by omega) with e | e | e | e | e | e | e
  all_goals
    obtain rfl : j = _ := Int.ofNat.inj e
    apply propext
    constructor
    · intro h; rw [h]; decide
    · intro h
      repeat (split at h; first | (rename_i h2; exact h2) | (exact absurd h (by decide)))
      exact absurd h (by decide)

theorem wKind_none (s : ByteArray) (h : ((Pl.wNm 0).toList == s.toList) = true) : Pl.wKind s = 0 := by
  rw [ByteArray.toList_eq, ByteArray.toList_eq] at h
  have : (Pl.wNm 0).data.toList = s.data.toList := by simpa using h
  unfold Pl.wKind
  rw [← this]; decide

set_option maxRecDepth 100000 in
set_option maxHeartbeats 4000000 in
theorem wkind_any (s : ByteArray) (w : World) (hN : Names8 w) :
    Calls Tryd.prog 30 #[.string s] w fun e w' => e = .returned (.int .i64 (Pl.wKind s)) ∧ w' = w := by
  have c0 := hN 0 (by omega)
  have c1 := hN 1 (by omega)
  have c2 := hN 2 (by omega)
  have c3 := hN 3 (by omega)
  have c4 := hN 4 (by omega)
  have c5 := hN 5 (by omega)
  have c6 := hN 6 (by omega)
  have c7 := hN 7 (by omega)
  have e1 := wKind_eq s 1 (by omega) (by omega)
  have e2 := wKind_eq s 2 (by omega) (by omega)
  have e3 := wKind_eq s 3 (by omega) (by omega)
  have e4 := wKind_eq s 4 (by omega) (by omega)
  have e5 := wKind_eq s 5 (by omega) (by omega)
  have e6 := wKind_eq s 6 (by omega) (by omega)
  have e7 := wKind_eq s 7 (by omega) (by omega)
  have e0 := wKind_none s
  have hr := wKind_range s
  clear hN
  generalize Pl.wKind s = k at *
  generalize Pl.wNm (0 : Nat) = n0 at *
  generalize Pl.wNm (1 : Nat) = n1 at *
  generalize Pl.wNm (2 : Nat) = n2 at *
  generalize Pl.wNm (3 : Nat) = n3 at *
  generalize Pl.wNm (4 : Nat) = n4 at *
  generalize Pl.wNm (5 : Nat) = n5 at *
  generalize Pl.wNm (6 : Nat) = n6 at *
  generalize Pl.wNm (7 : Nat) = n7 at *
  have i0 : ∀ W, Sem.run Tryd.prog (Instr.index 37 (.agg #[.string n0, .string n1, .string n2, .string n3, .string n4, .string n5, .string n6, .string n7]) (.int .i64 0)) W = .ok (.string n0) W := fun _ => by kernel_rfl
  have i1 : ∀ W, Sem.run Tryd.prog (Instr.index 37 (.agg #[.string n0, .string n1, .string n2, .string n3, .string n4, .string n5, .string n6, .string n7]) (.int .i64 1)) W = .ok (.string n1) W := fun _ => by kernel_rfl
  have i2 : ∀ W, Sem.run Tryd.prog (Instr.index 37 (.agg #[.string n0, .string n1, .string n2, .string n3, .string n4, .string n5, .string n6, .string n7]) (.int .i64 2)) W = .ok (.string n2) W := fun _ => by kernel_rfl
  have i3 : ∀ W, Sem.run Tryd.prog (Instr.index 37 (.agg #[.string n0, .string n1, .string n2, .string n3, .string n4, .string n5, .string n6, .string n7]) (.int .i64 3)) W = .ok (.string n3) W := fun _ => by kernel_rfl
  have i4 : ∀ W, Sem.run Tryd.prog (Instr.index 37 (.agg #[.string n0, .string n1, .string n2, .string n3, .string n4, .string n5, .string n6, .string n7]) (.int .i64 4)) W = .ok (.string n4) W := fun _ => by kernel_rfl
  have i5 : ∀ W, Sem.run Tryd.prog (Instr.index 37 (.agg #[.string n0, .string n1, .string n2, .string n3, .string n4, .string n5, .string n6, .string n7]) (.int .i64 5)) W = .ok (.string n5) W := fun _ => by kernel_rfl
  have i6 : ∀ W, Sem.run Tryd.prog (Instr.index 37 (.agg #[.string n0, .string n1, .string n2, .string n3, .string n4, .string n5, .string n6, .string n7]) (.int .i64 6)) W = .ok (.string n6) W := fun _ => by kernel_rfl
  have i7 : ∀ W, Sem.run Tryd.prog (Instr.index 37 (.agg #[.string n0, .string n1, .string n2, .string n3, .string n4, .string n5, .string n6, .string n7]) (.int .i64 7)) W = .ok (.string n7) W := fun _ => by kernel_rfl
  cases h0 : (n0.toList == s.toList)
  · clear e0
    have hc : k = 0 ∨ k = 1 ∨ k = 2 ∨ k = 3 ∨ k = 4 ∨ k = 5 ∨ k = 6 ∨ k = 7 := by omega
    rcases hc with rfl | rfl | rfl | rfl | rfl | rfl | rfl | rfl
    all_goals
      first | replace e1 := e1.trans (show _ = true by decide) | replace e1 := e1.trans (show _ = false by decide)
      first | replace e2 := e2.trans (show _ = true by decide) | replace e2 := e2.trans (show _ = false by decide)
      first | replace e3 := e3.trans (show _ = true by decide) | replace e3 := e3.trans (show _ = false by decide)
      first | replace e4 := e4.trans (show _ = true by decide) | replace e4 := e4.trans (show _ = false by decide)
      first | replace e5 := e5.trans (show _ = true by decide) | replace e5 := e5.trans (show _ = false by decide)
      first | replace e6 := e6.trans (show _ = true by decide) | replace e6 := e6.trans (show _ = false by decide)
      first | replace e7 := e7.trans (show _ = true by decide) | replace e7 := e7.trans (show _ = false by decide)
      go_enter Tryd.func30, Tryd.ntmps30
      go_wp2
      refine wp_loop_rounds 9 ?_
      iterate 9 (try (rw [rounds_succ]; go_wp2))
      go_ret
      exact ⟨rfl, rfl⟩
  · obtain rfl := e0 h0
    clear e1 e2 e3 e4 e5 e6 e7
    go_enter Tryd.func30, Tryd.ntmps30
    go_wp2
    refine wp_loop_rounds 9 ?_
    rw [rounds_succ]
    go_wp2
    go_ret
    exact ⟨rfl, rfl⟩

end Go.Proofs.YtleinjblokepmaaDoor
