/- The numbers that a draw makes of a beginning. -/
import Derived.Test.YtfpjohbcbflnhaaDoorDFresh
import Derived.Deep.DeepCutAuto
namespace Go.Proofs.YtfpjohbcbflnhaaDoor
open Go.RowKit

set_option maxRecDepth 100000 in
set_option maxHeartbeats 4000000 in
theorem many_draw (b p : Nat) (w : World) (h : Rd w b p) (hp : p ≤ 900000) :
    Calls Tryd.prog 40 #[.pointer (some ⟨b, 0, none⟩)] w fun e w' => ∃ u zs q, e = .returned u ∧ zs.length ≤ 3 ∧ Fresh w' w.heap.size u zs zs.length ∧ p ≤ q ∧ q ≤ p + 8 ∧ Rd w' b q ∧ Mid b (b + 1) w w' := by
  have hblt := h.lt
  have HR := hide_it h
  clear h
  go_enter Tryd.func40, Tryd.ntmps40
  go_wp2_with fail
  refine (pick_any b p 3 w HR.out (by omega) (by omega) (by omega)).mono ?_
  rintro e w1 ⟨x1, rfl, l1, u1, r1, m1⟩
  have HR1 := hide_it r1
  have HM1 := hide_it m1
  clear r1 m1
  go_wp2_with fail
  refine (pick_any b (p + 1) 3 w1 HR1.out (by omega) (by omega) (by omega)).mono ?_
  rintro e w2 ⟨x2, rfl, l2, u2, r2, m2⟩
  have HR2 := hide_it r2
  have HM2 := hide_it (HM1.out.trans m2)
  clear r2 m2 HR1 HM1
  go_wp2_with fail
  refine (pick_any b (p + 1 + 1) 3 w2 HR2.out (by omega) (by omega) (by omega)).mono ?_
  rintro e w3 ⟨x3, rfl, l3, u3, r3, m3⟩
  have HR3 := hide_it r3
  have HM3 := hide_it (HM2.out.trans m3)
  have hs3 : w.heap.size ≤ w3.heap.size := HM3.out.size
  clear r3 m3 HR2 HM2
  go_wp2_with fail
  go_quiet (fail)
  go_upto_if 22 with fail
  go_cut [3] (fun o W => ∃ g a0 a1 a2 q, o = .slice (some ⟨g, 0, none⟩) 3 3 ∧ p ≤ q ∧ q ≤ p + 4 ∧ Hid (StM w W b q g a0 a1 a2))
  case first =>
    go_wp2_with fail
    · refine (pick_any b (p + 1 + 1 + 1) 3 _ ((HR3.out.alloc _).drewN _) (by omega) (by omega) (by omega)).mono ?_
      rintro e w4 ⟨x4, rfl, l4, u4, r4, m4⟩
      have S4 : Hid (StM w w4 b (p + 4) w3.heap.size x1 x2 x3) := ⟨((Row3.new w3 x1 x2 x3).drewN _).mid m4 (by omega), hs3, by omega, r4, ((HM3.out.alloc _).drewN _).trans m4⟩
      clear r4 m4
      obtain ⟨c0, c1, c2, f0, f1, f2⟩ := S4.out.1.cells
      rcases three l4 u4 with rfl | rfl | rfl
      · go_wp2_with fail
        go_meet
        case rel => exact ⟨w3.heap.size, 1, x2, x3, p + 4, rfl, by omega, by omega, S4.out.1.set0 1, hs3, by omega, S4.out.2.2.2.1.setApart (by omega) _, S4.out.2.2.2.2.setNew hs3 _⟩
      · go_wp2_with fail
        go_meet
        case rel => exact ⟨w3.heap.size, x1, 1, x3, p + 4, rfl, by omega, by omega, S4.out.1.set1 1, hs3, by omega, S4.out.2.2.2.1.setApart (by omega) _, S4.out.2.2.2.2.setNew hs3 _⟩
      · go_wp2_with fail
        go_meet
        case rel => exact ⟨w3.heap.size, x1, x2, 1, p + 4, rfl, by omega, by omega, S4.out.1.set2 1, hs3, by omega, S4.out.2.2.2.1.setApart (by omega) _, S4.out.2.2.2.2.setNew hs3 _⟩
    · go_meet
      case rel => exact ⟨w3.heap.size, x1, x2, x3, p + 3, rfl, by omega, by omega, (Row3.new w3 x1 x2 x3).drewN _, hs3, by omega, (HR3.out.alloc _).drewN _, (HM3.out.alloc _).drewN _⟩
  case rest =>
    obtain ⟨g, a0, a1, a2, q, rfl, hq0, hq1, HS⟩ := hcut
    clear HR HR3 HM3 hs3 l1 l2 l3 u1 u2 u3
    have hgb : b < g := HS.out.2.2.1
    have hwg : w.heap.size ≤ g := HS.out.2.1
    go_wp2_with fail
    refine (pick_any b q 24 _ HS.out.2.2.2.1 (by omega) (by omega) (by omega)).mono ?_
    rintro e w5 ⟨y, rfl, ly, uy, r5, m5⟩
    have S5 : Hid (StM w w5 b (q + 1) g a0 a1 a2) := ⟨HS.out.1.mid m5 hgb, hwg, hgb, r5, HS.out.2.2.2.2.trans m5⟩
    clear r5 m5 HS
    obtain ⟨c0, c1, c2, f0, f1, f2⟩ := S5.out.1.cells
    by_cases y0 : y = 0
    · subst y0
      go_wp2_with fail
      refine (pick_any b (q + 1) 3 _ S5.out.2.2.2.1 (by omega) (by omega) (by omega)).mono ?_
      rintro e w6 ⟨z, rfl, lz, uz, r6, m6⟩
      have S6 : Hid (StM w w6 b (q + 2) g a0 a1 a2) := ⟨S5.out.1.mid m6 hgb, hwg, hgb, r6, S5.out.2.2.2.2.trans m6⟩
      clear r6 m6 S5 c0 c1 c2 f0 f1 f2
      have hs6 : g < w6.heap.size := S6.out.1.lt
      go_wp2_with fail
      refine (pick_any b (q + 2) 3 _ (S6.out.2.2.2.1.alloc _) (by omega) (by omega) (by omega)).mono ?_
      rintro e w7 ⟨t, rfl, lt, ut, r7, m7⟩
      have S7 : Hid (StM w w7 b (q + 3) g a0 a1 a2) := ⟨(S6.out.1.later (alloc_below _ _) (Nat.le_refl _)).mid m7 hgb, hwg, hgb, r7, (S6.out.2.2.2.2.alloc _).trans m7⟩
      have N7 : Hid (Row3 w7 w6.heap.size (-1) 3 4) := (Row3.new w6 (-1) 3 4).mid m7 (by omega)
      clear r7 m7 S6
      obtain ⟨c0, c1, c2, f0, f1, f2⟩ := S7.out.1.cells
      obtain ⟨d0, d1, d2, _, _, _⟩ := N7.out.cells
      rcases three lz uz with rfl | rfl | rfl
      · rcases three lt ut with rfl | rfl | rfl
        all_goals
          go_wp2
          go_ret
          exact ⟨_, [_, _, _], q + 3, rfl, by simp, (S7.out.1.set0 _).fresh hwg, by omega, by omega, S7.out.2.2.2.1.setApart (by omega) _, S7.out.2.2.2.2.setNew hwg _⟩
      · rcases three lt ut with rfl | rfl | rfl
        all_goals
          go_wp2
          go_ret
          exact ⟨_, [_, _, _], q + 3, rfl, by simp, (S7.out.1.set1 _).fresh hwg, by omega, by omega, S7.out.2.2.2.1.setApart (by omega) _, S7.out.2.2.2.2.setNew hwg _⟩
      · rcases three lt ut with rfl | rfl | rfl
        all_goals
          go_wp2
          go_ret
          exact ⟨_, [_, _, _], q + 3, rfl, by simp, (S7.out.1.set2 _).fresh hwg, by omega, by omega, S7.out.2.2.2.1.setApart (by omega) _, S7.out.2.2.2.2.setNew hwg _⟩
    by_cases y1 : y = 1
    · subst y1
      go_wp2
      go_ret
      exact ⟨_, [a1, a2], q + 1, rfl, by simp, S5.out.1.fresh1 hwg, by omega, by omega, S5.out.2.2.2.1, S5.out.2.2.2.2⟩
    by_cases y2 : y = 2
    · subst y2
      have hs5 : g < w5.heap.size := S5.out.1.lt
      go_wp2
      go_ret
      exact ⟨_, [0, 0, 0], q + 1, rfl, by simp, (Row3.new w5 0 0 0).fresh (by omega), by omega, by omega, S5.out.2.2.2.1.alloc _, S5.out.2.2.2.2.alloc _⟩
    go_wp2
    go_ret
    exact ⟨_, [a0, a1, a2], q + 1, rfl, by simp, S5.out.1.fresh hwg, by omega, by omega, S5.out.2.2.2.1, S5.out.2.2.2.2⟩

end Go.Proofs.YtfpjohbcbflnhaaDoor
