/- The law FnExactStockOf, walked: at every number and list of records it answers true, and nothing that was there before has turned. In a world in which the sentinel's variable holds a pointer to an errors.errorString. -/
import Derived.Test.YthmbdboljjdcaaaDoorKSOf2
import Derived.Test.YthmbdboljjdcaaaDoorToLog
import Derived.Test.YthmbdboljjdcaaaDoorMarkRecs
namespace Go.Proofs.YthmbdboljjdcaaaDoor
open Go.RowKit

set_option maxHeartbeats 1000000 in
theorem specOf_any (room : Int) (v : Value) (rs : List R) (w : World) (hv : Recs w v rs) (hl : tot rs ≤ 1048576) :
    Calls Tryd.prog 12 #[.int .i64 room, v] w fun e w' => StOut w w' e (oR room (Pl.sOf room rs)) (oH (Pl.sOf room rs)) (Pl.sOf room rs).isSome := by
  obtain ⟨RR, hRR⟩ : ∃ x, oR room (Pl.sOf room rs) = x := ⟨_, rfl⟩
  obtain ⟨HS, hHS⟩ : ∃ x, oH (Pl.sOf room rs) = x := ⟨_, rfl⟩
  obtain ⟨BB, hBB⟩ : ∃ x, (Pl.sOf room rs).isSome = x := ⟨_, rfl⟩
  have HL : Hid (∀ o, Calls Tryd.prog 29 #[.int .i64 room, v] (w.alloc o) fun e w' => StOut (w.alloc o) w' e RR HS BB) := fun o => by
    rw [← hRR, ← hHS, ← hBB]
    exact l2Of_any room v rs (w.alloc o) (hv.later (al_below w o) (Nat.le_refl _)) hl
  rw [hRR, hHS, hBB]
  obtain ⟨av, cv, rfl⟩ := hv.shape
  clear hv hRR hHS hBB
  go_enter Tryd.func12, Tryd.ntmps12
  go_wp2_with fail
  refine (HL.out _).mono ?_
  rintro e w1 ⟨a1, c1, rfl, ho1, hb1⟩
  have Z1 := hide_it ((SB.new w (.int .i64 0) (.slice none 0 0)).later hb1 (by simp))
  have B1 := hide_it ((al_below w _).trans (hb1.mono (by simp)))
  rw [World.size_alloc] at ho1
  have O1 := hide_it ho1
  have hz1 := Z1.out.lt
  obtain ⟨z0, z1, z2, z3⟩ := Z1.out.cells
  clear ho1 hb1
  go_wp2
  refine bodyPost_ret (v := .tuple #[.agg #[.int .i64 RR, .slice a1 HS.length c1], .bool BB]) (by simp [results, Tryd.results12, go_sem, z0, z1]) rfl ⟨a1, c1, rfl, ?_, ?_⟩
  · exact ownsRow_base (ownsRow_setCell_below (ownsRow_setCell_below O1.out (by simp) _) (by simp) _) (by omega)
  · exact (B1.out.setCell (by simp) _).setCell (by simp) _

theorem sOf_len (room : Int) (rs : List R) : (oH (Pl.sOf room rs)).length ≤ 6 := by
  unfold Pl.sOf
  split
  · have h : ∀ (rs : List R) (hs : List Pl.H), hs.length = 6 → (oH (Pl.sRun room rs hs)).length ≤ 6 := by
      intro rs
      induction rs with
      | nil => intro hs h; simp [Pl.sRun, oH]; omega
      | cons r t ih =>
        intro hs h
        cases hd : Pl.sDo room hs r.1 r.2.1 r.2.2 with
        | none => rw [sRun_no room r t hs hd]; simp [oH]
        | some h' => rw [sRun_yes room r t hs h' hd]; exact ih h' (by rw [Pl.sDo_len hd]; exact h)
    exact h rs _ rfl
  · simp [oH]

theorem duo_mid {lo hi : Nat} {w w' : World} {b : Nat} {x y : Value} (h : Duo w b x y) (hm : Mid lo hi w w') (hb : b < lo ∨ hi ≤ b) : Duo w' b x y := by
  have hlt := h.lt
  have e := hm.block b hlt hb
  exact ⟨by rw [← h.1]; exact World.cell?_of_block (a := ⟨b, 0, none⟩) e, by rw [← h.2]; exact World.cell?_of_block (a := ⟨b, 1, none⟩) e⟩

end Go.Proofs.YthmbdboljjdcaaaDoor
