/- Contracts of HouseStock: the specification's, and the program's. For all that together has at most 1048576 records and numbers, in a world in which the sentinel's variable holds a pointer to an errors.errorString. -/
import Derived.Test.YtclcehfaoeoipaaDoorHStock2
namespace Go.Proofs.YtclcehfaoeoipaaDoor
open Go.RowKit

set_option maxHeartbeats 4000000 in
theorem specHStock_any (id : Int) (up : Bool) (room : Int) (v : Value) (rs : List R) (f : Int) (forced : Bool) (w : World) (hv : Recs w v rs) (hfm : Form v rs.length) (hl : tot rs ≤ 1048576) :
    Calls Tryd.prog 12 #[houseV id up room v f, .bool forced] w fun e w' => SkOut w w' e (oR room (hsO id room rs f forced)) (oH (hsO id room rs f forced)) := by
  have hrl := tot_len rs
  have HV : Hid (∀ W, Below w.heap.size w W → Recs W v rs) := fun W h => hv.later h (Nat.le_refl _)
  have HOK : Hid (∀ W, Below w.heap.size w W → Calls Tryd.prog 8 #[houseV id up room v f] W fun e w' => e = .returned (.bool (hoOk id room rs f)) ∧ Below W.heap.size W w') := fun W h =>
    specHouseOk_any id up room v rs f W (HV.out W h) hl
  obtain ⟨av, cv, rfl⟩ := hv.shape
  have HFM := hide_it hfm
  clear hv hfm
  obtain ⟨w0, hw0⟩ : ∃ W, Hid (W = (w.alloc (.cells #[.int .i64 id, .bool up, .int .i64 room, .slice av rs.length cv, .int .i64 f] 33)).alloc (.cells #[.int .i64 0, .slice none 0 0] 39)) := ⟨_, rfl⟩
  have B0 : Hid (Below w.heap.size w w0) := by show Below _ _ _; rw [hw0.out]; exact below2 _ _ _
  have X0 : Hid (Blk w0 w.heap.size #[.int .i64 id, .bool up, .int .i64 room, .slice av rs.length cv, .int .i64 f] 33) := by show Blk _ _ _ _; rw [hw0.out]; exact (Blk.new _ _ _).alloc _
  have Z0 : Hid (Blk w0 (w.heap.size + 1) #[.int .i64 0, .slice none 0 0] 39) := by show Blk _ _ _ _; rw [hw0.out]; exact Blk.new2 _ _ _ _
  have hs0 : w0.heap.size = w.heap.size + 2 := by rw [hw0.out, size2]
  cases hok : hoOk id room rs f
  · have HR : Hid (hsO id room rs f forced = none) := by show _ = _; simp [hsO, hok]
    rw [hok] at HOK
    rw [HR.out]
    clear hok
    go_enter Tryd.func12, Tryd.ntmps12
    go_wp2_with fail
    rw [← hw0.out]
    refine (HOK.out _ B0.out).mono ?_
    rintro e w1 ⟨rfl, hb⟩
    obtain ⟨z0, z1⟩ := (Z0.out.after hb).cells2
    obtain ⟨zf0, zf1, -, -, -⟩ := (Z0.out.after hb).free5
    have HB := hide_it (B0.out.trans (hb.mono B0.out.size))
    clear hb
    go_wp2
    refine bodyPost_ret (v := .agg #[.int .i64 0, .slice none 0 0]) (by simp [results, Tryd.results12, go_sem, *]) rfl (SkOut.none_ ?_)
    exact (HB.out.setCell (by simp) _).setCell (by simp) _
  · have HR : Hid (hsO id room rs f forced = Pl.sOf room (cutR rs f forced)) := by show _ = _; simp [hsO, hok]
    obtain ⟨lf0, lf1, -⟩ := logOk_f (hoOk_parts hok).2.1
    rw [hok] at HOK
    rw [HR.out]
    clear HR
    obtain ⟨RR, hRR⟩ : ∃ x, Hid (oR room (Pl.sOf room (cutR rs f forced)) = x) := ⟨_, rfl⟩
    obtain ⟨HS, hHS⟩ : ∃ x, Hid (oH (Pl.sOf room (cutR rs f forced)) = x) := ⟨_, rfl⟩
    rw [hRR.out, hHS.out]
    have SK : Hid (∀ W, Below w.heap.size w W → Calls Tryd.prog 32 #[houseV id up room (.slice av rs.length cv) f, .bool forced] W fun e w' => SkOut W w' e RR HS) := fun W h => by
      have := l11Stock_any id up room _ rs f forced W (HV.out W h) HFM.out hl lf0 lf1
      rw [hRR.out, hHS.out] at this; exact this
    go_enter Tryd.func12, Tryd.ntmps12
    go_wp2_with fail
    rw [← hw0.out]
    refine (HOK.out _ B0.out).mono ?_
    rintro e w1 ⟨rfl, hb1⟩
    have X1 := hide_it (X0.out.after hb1)
    have Z1 := hide_it (Z0.out.after hb1)
    have B1 := hide_it (B0.out.trans (hb1.mono B0.out.size))
    have hs1 : w.heap.size + 2 ≤ w1.heap.size := by have := hb1.size; omega
    obtain ⟨x0, x1, x2, x3, x4⟩ := X1.out.cells5
    clear hb1
    go_wp2_with fail
    refine (SK.out _ B1.out).mono ?_
    rintro e w2 ⟨a9, c9, rfl, ho, hb⟩
    have Z2 := hide_it (Z1.out.after hb)
    have O2 := hide_it ho
    have B2 := hide_it (B1.out.trans (hb.mono B1.out.size))
    have hsn : w.heap.size + 2 ≤ w1.heap.size := by omega
    obtain ⟨z0, z1⟩ := Z2.out.cells2
    obtain ⟨zf0, zf1, -, -, -⟩ := Z2.out.free5
    clear ho hb
    go_wp2
    refine bodyPost_ret (v := .agg #[.int .i64 RR, .slice a9 HS.length c9]) (by simp [results, Tryd.results12, go_sem, *]) rfl ?_
    refine ⟨a9, c9, rfl, ?_, ?_⟩
    · exact row_low (row_set (row_set O2.out Z2.out (by decide) _ _) (Z2.out.set_ 0 _) (by decide) _ _) (by omega)
    · exact (B2.out.setCell (by simp) _).setCell (by simp) _

set_option maxHeartbeats 4000000 in
theorem implHStock_any (id : Int) (up : Bool) (room : Int) (v : Value) (rs : List R) (f : Int) (forced : Bool) (a : Addr) (w : World) (hv : Recs w v rs) (hfm : Form v rs.length) (hl : tot rs ≤ 1048576) (ha : ErrAt w a) :
    Calls Tryd.prog 13 #[houseV id up room v f, .bool forced] w fun e w' => SkOut w w' e (oR room (hsO id room rs f forced)) (oH (hsO id room rs f forced)) := by
  have hrl := tot_len rs
  have HV : Hid (∀ W, Below w.heap.size w W → Recs W v rs) := fun W h => hv.later h (Nat.le_refl _)
  have HA : Hid (∀ W, Below w.heap.size w W → ErrAt W a) := fun W h => ha.later h (Nat.le_refl _)
  have HOK : Hid (∀ W, Below w.heap.size w W → Calls Tryd.prog 10 #[houseV id up room v f] W fun e w' => e = .returned (.bool (hoOk id room rs f)) ∧ Below W.heap.size W w') := fun W h =>
    implHouseOk_any id up room v rs f a W (HV.out W h) hl (HA.out W h)
  obtain ⟨av, cv, rfl⟩ := hv.shape
  have HFM := hide_it hfm
  clear hv hfm ha
  obtain ⟨w0, hw0⟩ : ∃ W, Hid (W = (w.alloc (.cells #[.int .i64 id, .bool up, .int .i64 room, .slice av rs.length cv, .int .i64 f] 33)).alloc (.cells #[.int .i64 0, .slice none 0 0] 39)) := ⟨_, rfl⟩
  have B0 : Hid (Below w.heap.size w w0) := by show Below _ _ _; rw [hw0.out]; exact below2 _ _ _
  have X0 : Hid (Blk w0 w.heap.size #[.int .i64 id, .bool up, .int .i64 room, .slice av rs.length cv, .int .i64 f] 33) := by show Blk _ _ _ _; rw [hw0.out]; exact (Blk.new _ _ _).alloc _
  have Z0 : Hid (Blk w0 (w.heap.size + 1) #[.int .i64 0, .slice none 0 0] 39) := by show Blk _ _ _ _; rw [hw0.out]; exact Blk.new2 _ _ _ _
  have hs0 : w0.heap.size = w.heap.size + 2 := by rw [hw0.out, size2]
  cases hok : hoOk id room rs f
  · have HR : Hid (hsO id room rs f forced = none) := by show _ = _; simp [hsO, hok]
    rw [hok] at HOK
    rw [HR.out]
    clear hok
    go_enter Tryd.func13, Tryd.ntmps13
    go_wp2_with fail
    rw [← hw0.out]
    refine (HOK.out _ B0.out).mono ?_
    rintro e w1 ⟨rfl, hb⟩
    obtain ⟨z0, z1⟩ := (Z0.out.after hb).cells2
    obtain ⟨zf0, zf1, -, -, -⟩ := (Z0.out.after hb).free5
    have HB := hide_it (B0.out.trans (hb.mono B0.out.size))
    clear hb
    go_wp2
    refine bodyPost_ret (v := .agg #[.int .i64 0, .slice none 0 0]) (by simp [results, Tryd.results13, go_sem, *]) rfl (SkOut.none_ ?_)
    exact (HB.out.setCell (by simp) _).setCell (by simp) _
  · have HR : Hid (hsO id room rs f forced = Pl.sOf room (cutR rs f forced)) := by show _ = _; simp [hsO, hok]
    obtain ⟨lf0, lf1, -⟩ := logOk_f (hoOk_parts hok).2.1
    rw [hok] at HOK
    rw [HR.out]
    clear HR
    obtain ⟨RR, hRR⟩ : ∃ x, Hid (oR room (Pl.sOf room (cutR rs f forced)) = x) := ⟨_, rfl⟩
    obtain ⟨HS, hHS⟩ : ∃ x, Hid (oH (Pl.sOf room (cutR rs f forced)) = x) := ⟨_, rfl⟩
    rw [hRR.out, hHS.out]
    have SK : Hid (∀ W, Below w.heap.size w W → (forced = true → Calls Tryd.prog 34 #[keeperV (.slice av rs.length cv) f id up room] W fun e w' => SkOut W w' e RR HS) ∧ (forced = false → Calls Tryd.prog 35 #[keeperV (.slice av rs.length cv) f id up room] W fun e w' => SkOut W w' e RR HS)) := fun W h => by
      refine ⟨fun hf => ?_, fun hf => ?_⟩
      · have := forcedStock_any id up room _ rs f a W (HV.out W h) HFM.out hl lf0 lf1 (HA.out W h)
        rw [show rs.take f.toNat = cutR rs f forced by simp [cutR, hf]] at this
        rw [hRR.out, hHS.out] at this; exact this
      · have := allStock_any id up room _ rs f a W (HV.out W h) hl (HA.out W h)
        rw [show Pl.sOf room rs = Pl.sOf room (cutR rs f forced) by simp [cutR, hf]] at this
        rw [hRR.out, hHS.out] at this; exact this
    go_enter Tryd.func13, Tryd.ntmps13
    go_wp2_with fail
    rw [← hw0.out]
    refine (HOK.out _ B0.out).mono ?_
    rintro e w1 ⟨rfl, hb1⟩
    have X1 := hide_it (X0.out.after hb1)
    have Z1 := hide_it (Z0.out.after hb1)
    have B1 := hide_it (B0.out.trans (hb1.mono B0.out.size))
    have hs1 : w.heap.size + 2 ≤ w1.heap.size := by have := hb1.size; omega
    obtain ⟨x0, x1, x2, x3, x4⟩ := X1.out.cells5
    clear hb1
    go_wp2_with fail
    refine (keeperOf_any id up room av rs.length cv f w1).mono ?_
    rintro e w2 ⟨rfl, hb2⟩
    have Z2 := hide_it (Z1.out.after hb2)
    have B2 := hide_it (B1.out.trans (hb2.mono B1.out.size))
    have hs2 : w.heap.size + 2 ≤ w2.heap.size := by have := hb2.size; omega
    clear hb2 x0 x1 x2 x3 x4
    obtain ⟨w3, hw3⟩ : ∃ W, Hid (W = w2.alloc (.cells #[.slice av rs.length cv, .int .i64 f, .int .i64 id, .bool up, .int .i64 room] 57)) := ⟨_, rfl⟩
    have al3 : Hid (Below w2.heap.size w2 w3) := by show Below _ _ _; rw [hw3.out]; exact alloc_below _ _
    have hs3 : w3.heap.size = w2.heap.size + 1 := by rw [hw3.out]; simp
    have Z3 := hide_it (Z2.out.after al3.out)
    have B3 := hide_it (B2.out.trans (al3.out.mono B2.out.size))
    obtain ⟨SF, SA⟩ := SK.out w3 B3.out
    have HSF := hide_it SF
    have HSA := hide_it SA
    clear SF SA SK
    cases forced
    · go_wp2_with fail
      rw [← hw3.out]
      refine (HSA.out (by simp)).mono ?_
      rintro e w4 ⟨a9, c9, rfl, ho, hb⟩
      have Z4 := hide_it (Z3.out.after hb)
      have O4 := hide_it ho
      have B4 := hide_it (B3.out.trans (hb.mono B3.out.size))
      have hsn : w.heap.size + 2 ≤ w3.heap.size := by omega
      obtain ⟨z0, z1⟩ := Z4.out.cells2
      obtain ⟨zf0, zf1, -, -, -⟩ := Z4.out.free5
      clear ho hb
      go_wp2
      refine bodyPost_ret (v := .agg #[.int .i64 RR, .slice a9 HS.length c9]) (by simp [results, Tryd.results13, go_sem, *]) rfl ?_
      refine ⟨a9, c9, rfl, ?_, ?_⟩
      · exact row_low (row_set (row_set O4.out Z4.out (by decide) _ _) (Z4.out.set_ 0 _) (by decide) _ _) (by omega)
      · exact (B4.out.setCell (by simp) _).setCell (by simp) _
    · go_wp2_with fail
      rw [← hw3.out]
      refine (HSF.out (by simp)).mono ?_
      rintro e w4 ⟨a9, c9, rfl, ho, hb⟩
      have Z4 := hide_it (Z3.out.after hb)
      have O4 := hide_it ho
      have B4 := hide_it (B3.out.trans (hb.mono B3.out.size))
      have hsn : w.heap.size + 2 ≤ w3.heap.size := by omega
      obtain ⟨z0, z1⟩ := Z4.out.cells2
      obtain ⟨zf0, zf1, -, -, -⟩ := Z4.out.free5
      clear ho hb
      go_wp2
      refine bodyPost_ret (v := .agg #[.int .i64 RR, .slice a9 HS.length c9]) (by simp [results, Tryd.results13, go_sem, *]) rfl ?_
      refine ⟨a9, c9, rfl, ?_, ?_⟩
      · exact row_low (row_set (row_set O4.out Z4.out (by decide) _ _) (Z4.out.set_ 0 _) (by decide) _ _) (by omega)
      · exact (B4.out.setCell (by simp) _).setCell (by simp) _

end Go.Proofs.YtclcehfaoeoipaaDoor
