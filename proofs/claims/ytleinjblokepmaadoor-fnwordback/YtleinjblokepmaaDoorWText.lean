/- Contracts of the functions that write words: strconv.Itoa and the specification's own decimals at a figure, WordText of the program and of the specification. For every word. -/
import Derived.Test.YtleinjblokepmaaDoorWOk
import Derived.Test.YtleinjblokepmaaDoorWTextPure
import Derived.Deep.RegionHeld
import Derived.WalkSmall
import Derived.Laws.BytesArg
namespace Go.Proofs.YtleinjblokepmaaDoor
open Go.RowKit

theorem small_any (n : Int) (h0 : 0 ≤ n) (h9 : n ≤ 9) (w : World) :
    Calls Tryd.prog 36 #[.int .i64 n] w fun e w' => e = .returned (.string (Pl.dg n)) ∧ w' = w := by
  rcases Pl.ten h0 h9 with rfl | rfl | rfl | rfl | rfl | rfl | rfl | rfl | rfl | rfl
  all_goals
    go_enter Tryd.func36, Tryd.ntmps36
    go_wp2
    go_ret
    exact ⟨rfl, rfl⟩

theorem fmtInt_any (n : Int) (h0 : 0 ≤ n) (h9 : n ≤ 9) (w : World) :
    Calls Tryd.prog 32 #[.int .i64 n, .int .i64 10] w fun e w' => e = .returned (.string (Pl.dg n)) ∧ w' = w := by
  have h100 : n < 100 := by omega
  go_enter Tryd.func32, Tryd.ntmps32
  go_wp2_with (go_at_call 36; refine (small_any n h0 h9 _).mono ?_; rintro e w' ⟨rfl, rfl⟩)
  go_ret
  exact ⟨rfl, rfl⟩

theorem iItoa_any (n : Int) (h0 : 0 ≤ n) (h9 : n ≤ 9) (w : World) :
    Calls Tryd.prog 28 #[.int .i64 n] w fun e w' => e = .returned (.string (Pl.dg n)) ∧ w' = w := by
  go_enter Tryd.func28, Tryd.ntmps28
  go_wp2_with (go_at_call 32; refine (fmtInt_any n h0 h9 _).mono ?_; rintro e w' ⟨rfl, rfl⟩)
  go_ret
  exact ⟨rfl, rfl⟩

theorem itoa_any (n : Int) (h0 : 0 ≤ n) (h9 : n ≤ 9) (w : World) :
    Calls Tryd.prog 17 #[.int .i64 n] w fun e w' => e = .returned (.string (Pl.dg n)) ∧ w' = w := by
  go_enter Tryd.func17, Tryd.ntmps17
  go_wp2_with (go_at_call 28; refine (iItoa_any n h0 h9 _).mono ?_; rintro e w' ⟨rfl, rfl⟩)
  go_ret
  exact ⟨rfl, rfl⟩

theorem conv1 (w : World) (z : Int) : Sem.run Tryd.prog (convert 22 9 (.slice (some ⟨w.heap.size, 0, none⟩) 1 1)) (w.alloc (.cells #[.int .u8 z] 5)) = .ok (.string (strOfNums [z])) (w.alloc (.cells #[.int .u8 z] 5)) :=
  run_convert_bytes_arg (w.alloc (.cells #[.int .u8 z] 5)) 22 5 Tryd.underlying22 Tryd.underlying5 w.heap.size 0 1 1 [z] rfl (fun i hi => by
    obtain rfl : i = 0 := by omega
    simp) 9 Tryd.underlying9

set_option maxHeartbeats 1000000 in
theorem dec_any (n : Int) (h0 : 0 ≤ n) (h9 : n ≤ 9) (w : World) :
    Calls Tryd.prog 20 #[.int .i64 n] w fun e w' => e = .returned (.string (Pl.dg n)) ∧ Below w.heap.size w w' := by
  have hcv := conv1 w
  rcases Pl.ten h0 h9 with rfl | rfl | rfl | rfl | rfl | rfl | rfl | rfl | rfl | rfl
  all_goals
    go_enter Tryd.func20, Tryd.ntmps20
    go_wp2
    go_ret
    exact ⟨rfl, (Below.refl _ _).alloc (Nat.le_refl _) _⟩

/-- The program's names of kinds lie in their variable. -/
def NamesAt (w : World) : Prop := w.cell? ⟨0, 1, none⟩ = some (.string (Pl.wNm 1)) ∧ w.cell? ⟨0, 2, none⟩ = some (.string (Pl.wNm 2)) ∧ w.cell? ⟨0, 3, none⟩ = some (.string (Pl.wNm 3)) ∧
  w.cell? ⟨0, 4, none⟩ = some (.string (Pl.wNm 4)) ∧ w.cell? ⟨0, 5, none⟩ = some (.string (Pl.wNm 5)) ∧ w.cell? ⟨0, 6, none⟩ = some (.string (Pl.wNm 6)) ∧ w.cell? ⟨0, 7, none⟩ = some (.string (Pl.wNm 7))
theorem NamesAt.later {B : Nat} {w w' : World} (h : NamesAt w) (hb : Below B w w') (hB : w.heap.size ≤ B) : NamesAt w' := by
  have hlt := World.block_lt_of_cell? _ _ h.1
  simp at hlt
  have f : ∀ j x, w.cell? ⟨0, j, none⟩ = some x → w'.cell? ⟨0, j, none⟩ = some x := fun j x e => by rw [← e]; exact hb.cell (p := ⟨0, j, none⟩) (by simp; omega)
  obtain ⟨h1, h2, h3, h4, h5, h6, h7⟩ := h
  exact ⟨f _ _ h1, f _ _ h2, f _ _ h3, f _ _ h4, f _ _ h5, f _ _ h6, f _ _ h7⟩

theorem app_str {a b : ByteArray} (h : a = b) : Ending.returned (.string a) = .returned (.string b) := by rw [h]

set_option maxHeartbeats 4000000 in
theorem implText_any (k h t m : Int) (w : World) (hN : NamesAt w) :
    Calls Tryd.prog 8 #[wordV k h t m] w fun e w' => e = .returned (.string (Pl.wTxt k h t m)) ∧ Below w.heap.size w w' := by
  have Q0 := hidden (Quad.new w (.int .i64 k) (.int .i64 h) (.int .i64 t) (.int .i64 m) 24)
  obtain ⟨w0, hw0⟩ : ∃ W, Hid (W = w.alloc (.cells #[.int .i64 k, .int .i64 h, .int .i64 t, .int .i64 m] 24)) := ⟨_, rfl⟩
  have B0 : Hid (Below w.heap.size w w0) := by show Below _ _ _; rw [hw0.out]; exact (Below.refl _ _).alloc (Nat.le_refl _) _
  have N0 := hidden (hN.later B0.out (Nat.le_refl _))
  rw [← hw0.out] at Q0
  have HOK := hidden (implWordOk_any k h t m)
  cases e1 : Pl.wOk k h t m
  · rw [Pl.wTxt_no e1]
    rw [e1] at HOK
    go_enter Tryd.func8, Tryd.ntmps8
    go_wp2_with fail
    rw [← hw0.out]
    refine (HOK.out _).mono ?_
    rintro e w1 ⟨rfl, hb1⟩
    have B1 := hidden (B0.out.trans (hb1.mono B0.out.size))
    clear hb1
    go_wp2
    go_ret
    exact ⟨rfl, B1.out⟩
  · rw [Pl.wTxt_yes e1]
    have hp := Pl.wOk_parts e1
    rw [e1] at HOK
    have hh : 0 ≤ h ∧ h ≤ 9 := by omega
    have ht : 0 ≤ t ∧ t ≤ 9 := by omega
    have hm := Pl.wMany_parts hp.2.2.2
    have hk := Pl.seven hp.1
    have hm9 : 0 ≤ m ∧ m ≤ 9 := by omega
    clear e1 hp
    obtain ⟨DH, hDH⟩ : ∃ x, Hid (Pl.dg h = x) := ⟨_, rfl⟩
    obtain ⟨DT, hDT⟩ : ∃ x, Hid (Pl.dg t = x) := ⟨_, rfl⟩
    obtain ⟨DM, hDM⟩ : ∃ x, Hid (Pl.dg m = x) := ⟨_, rfl⟩
    have HH : Hid (∀ W, Calls Tryd.prog 17 #[.int .i64 h] W fun e w' => e = .returned (.string DH) ∧ w' = W) := fun W => by rw [← hDH.out]; exact itoa_any h hh.1 hh.2 W
    have HT : Hid (∀ W, Calls Tryd.prog 17 #[.int .i64 t] W fun e w' => e = .returned (.string DT) ∧ w' = W) := fun W => by rw [← hDT.out]; exact itoa_any t ht.1 ht.2 W
    have HM : Hid (∀ W, Calls Tryd.prog 17 #[.int .i64 m] W fun e w' => e = .returned (.string DM) ∧ w' = W) := fun W => by rw [← hDM.out]; exact itoa_any m hm9.1 hm9.2 W
    have HF : Hid (∀ k, Pl.wFull k h t m = if k = 1 then Pl.wNm k ++ Pl.sp ++ DH ++ Pl.sp ++ DT ++ Pl.sp ++ DM else Pl.wNm k ++ Pl.sp ++ DH ++ Pl.sp ++ DT) := fun k => by rw [← hDH.out, ← hDT.out, ← hDM.out]; rfl
    have sH : DH.size = 1 := by rw [← hDH.out]; rfl
    have sT : DT.size = 1 := by rw [← hDT.out]; rfl
    have sM : DM.size = 1 := by rw [← hDM.out]; rfl
    have s1 := Pl.nmS1
    have s2 := Pl.nmS2
    have s3 := Pl.nmS3
    have s4 := Pl.nmS4
    have s5 := Pl.nmS5
    have s6 := Pl.nmS6
    have s7 := Pl.nmS7
    clear hh ht hm9 hDH hDT hDM
    rcases hk with rfl | rfl | rfl | rfl | rfl | rfl | rfl
    all_goals
      go_enter Tryd.func8, Tryd.ntmps8
      go_wp2_with fail
      rw [← hw0.out]
      refine (HOK.out _).mono ?_
      rintro e w1 ⟨rfl, hb1⟩
      have B1 := hidden (B0.out.trans (hb1.mono B0.out.size))
      obtain ⟨q0, q1, q2, q3⟩ := Q0.out.later hb1 (Nat.le_refl _)
      obtain ⟨n1, n2, n3, n4, n5, n6, n7⟩ := N0.out.later hb1 (Nat.le_refl _)
      clear hb1
      go_wp2_with fail
      go_quiet ((go_at_call 17; first | exact Calls.quiet_of_same (HH.out _) | exact Calls.quiet_of_same (HT.out _)))
      go_wp2_with (go_at_call 17; refine (HM.out _).mono ?_; rintro e w' ⟨rfl, rfl⟩)
      go_ret
      exact ⟨app_str (by rw [HF.out]; first | rfl | simp [Pl.sp, ByteArray.append_assoc]), below_drewN B1.out _⟩

end Go.Proofs.YtleinjblokepmaaDoor
