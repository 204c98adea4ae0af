/- Contracts of the two StockMay. For stocks of at most 1048576 holds and records of at most 1048576 numbers, in a world in which the sentinel's variable holds a pointer to an errors.errorString. -/
import Derived.Test.YtckafpmhhoeodaaDoorKBehind
namespace Go.Proofs.YtckafpmhhoeodaaDoor
open Go.RowKit

set_option maxHeartbeats 2000000 in
theorem specMay_any (room : Int) (v : Value) (hs : List Pl.H) (k t : Int) (u : Value) (zs : List Int) (w : World) (hv : Holds w v hs) (hl : hs.length ≤ 1048576) (hu : Ints w u zs) (hzl : zs.length ≤ 1048576) :
    Calls Tryd.prog 78 #[.agg #[.int .i64 room, v], .agg #[.int .i64 k, .int .i64 t, u]] w fun e w' => e = .returned (.bool (Pl.sMay room hs k t zs)) ∧ Below w.heap.size w w' := by
  have HV : Hid (∀ W, Below w.heap.size w W → Holds W v hs) := fun W h => hv.later h (Nat.le_refl _)
  have HU : Hid (∀ W, Below w.heap.size w W → Ints W u zs) := fun W h => hu.later h (Nat.le_refl _)
  have hsh := hv.shape
  obtain ⟨av, cv, rfl⟩ := hsh
  obtain ⟨au, cu, rfl⟩ := hu.shape
  have D0 := hide_it ((Duo.new w (.int .i64 room) (.slice av hs.length cv) 43).later (al_below _ (.cells #[.int .i64 k, .int .i64 t, .slice au zs.length cu] 73)) (Nat.le_refl _))
  have R0 := hide_it (RecAt.new (w.alloc (.cells #[.int .i64 room, .slice av hs.length cv] 43)) k t (.slice au zs.length cu) 73)
  rw [World.size_alloc] at R0
  unfold Pl.sMay
  clear hv hu
  cases hok : Pl.sOk room hs
  · rw [Pl.behind_stock k t zs hok]
    go_enter Tryd.func78, Tryd.ntmps78
    go_wp2_with fail
    refine (specStockOk_any room _ hs _ (HV.out _ (below2 w _ _)) hl).mono ?_
    rintro e w1 ⟨rfl, hb1⟩
    rw [hok]
    have B1 := hide_it ((below2 w _ _).trans (hb1.mono (by simp; omega)))
    clear hb1
    go_wp2
    go_ret
    exact ⟨rfl, B1.out⟩
  cases hrec : Pl.recOk k t zs
  · rw [Pl.behind_rec room hs hrec]
    go_enter Tryd.func78, Tryd.ntmps78
    go_wp2_with fail
    refine (specStockOk_any room _ hs _ (HV.out _ (below2 w _ _)) hl).mono ?_
    rintro e w1 ⟨rfl, hb1⟩
    rw [hok]
    have B1 := hide_it ((below2 w _ _).trans (hb1.mono (by simp; omega)))
    obtain ⟨d0, d1⟩ := D0.out.later hb1 (Nat.le_refl _)
    obtain ⟨r0, r1, r2⟩ := R0.out.later hb1 (Nat.le_refl _)
    clear hb1
    go_wp2_with fail
    refine (specOk_any k t _ zs w1 (HU.out _ B1.out) hzl).mono ?_
    rintro e w2 ⟨rfl, hb2⟩
    rw [hrec]
    have B2 := hide_it (B1.out.trans (hb2.mono B1.out.size))
    clear hb2 d0 d1 r0 r1 r2
    go_wp2
    go_ret
    exact ⟨rfl, B2.out⟩
  · rw [Pl.behind_ok hok hrec]
    have HM : Hid (∀ W, Below w.heap.size w W → Calls Tryd.prog 63 #[.agg #[.int .i64 room, .slice av hs.length cv], .agg #[.int .i64 k, .int .i64 t, .slice au zs.length cu]] W fun e w' => e = .returned (.bool (Pl.next (Pl.hAt hs t) k (zs.headD 0) (Pl.free room hs)).isSome) ∧ Below W.heap.size W w') := fun W h =>
      l2May_any room _ hs k t _ zs W (HV.out W h) (HU.out W h) hok hrec
    obtain ⟨o, ho⟩ : ∃ o, Pl.next (Pl.hAt hs t) k (zs.headD 0) (Pl.free room hs) = o := ⟨_, rfl⟩
    rw [ho] at HM ⊢
    clear ho
    go_enter Tryd.func78, Tryd.ntmps78
    go_wp2_with fail
    refine (specStockOk_any room _ hs _ (HV.out _ (below2 w _ _)) hl).mono ?_
    rintro e w1 ⟨rfl, hb1⟩
    rw [hok]
    have B1 := hide_it ((below2 w _ _).trans (hb1.mono (by simp; omega)))
    have D1 := hide_it (D0.out.later hb1 (Nat.le_refl _))
    have R1 := hide_it (R0.out.later hb1 (Nat.le_refl _))
    obtain ⟨d0, d1⟩ := D1.out
    obtain ⟨r0, r1, r2⟩ := R1.out
    clear hb1
    go_wp2_with fail
    refine (specOk_any k t _ zs w1 (HU.out _ B1.out) hzl).mono ?_
    rintro e w2 ⟨rfl, hb2⟩
    rw [hrec]
    have B2 := hide_it (B1.out.trans (hb2.mono B1.out.size))
    clear d0 d1 r0 r1 r2
    obtain ⟨d0, d1⟩ := D1.out.later hb2 (Nat.le_refl _)
    obtain ⟨r0, r1, r2⟩ := R1.out.later hb2 (Nat.le_refl _)
    clear hb2
    go_wp2_with fail
    refine (HM.out w2 B2.out).mono ?_
    rintro e w3 ⟨rfl, hb3⟩
    have B3 := hide_it (B2.out.trans (hb3.mono B2.out.size))
    clear hb3 d0 d1 r0 r1 r2
    go_wp2
    go_ret
    exact ⟨rfl, B3.out⟩

end Go.Proofs.YtckafpmhhoeodaaDoor
