/- FnExactWorldNew answers true at every list of rooms, and the rooms read afterwards as they read before: WorldNew answers as its model, and its answer owns its memory. No conditions. -/
import Derived.Test.YtfdcfomfghbpaaaWorldNewSaidPart3
import Derived.Test.YtfdcfomfghbpaaaRows
import Derived.ProofKit
import Derived.Lib.SmallJoins
import Derived.Deep.Slices

namespace Go.Proofs.Ytfdcfomfghbpaaa
open Go.RowKit

/-- What the program's WorldNew hands back, in one. -/
def WnU (w w' : World) (e : Ending) (zs : List Int) : Prop :=
  ∃ ao co n ps, n ≤ 3 ∧ e = .returned (.tuple #[worldV (wnB zs) (.slice none 0 0) 0 (.slice none 0 0) (.slice ao n co) (.slice none 0 0), .bool (wnB zs)]) ∧ HRow w' w.heap.size n (.slice ao n co) ps ∧ ps.map (·.1) = wnHs zs ∧ Bare ps ∧ Below w.heap.size w w'
theorem implWNew_u (v : Value) (zs : List Int) (w : World) (hv : Ints w v zs) : Calls Try.prog 6 #[v] w fun e w' => WnU w w' e zs := by
  refine (implWNew_any v zs w hv).mono ?_
  rintro e w' (⟨h, he, hb⟩ | ⟨h, g3, c3, hps, he, hr, hm, hbr, hb⟩)
  · exact ⟨none, 0, 0, [], by omega, by rw [h]; exact he, Or.inl ⟨rfl, rfl, rfl⟩, by unfold wnHs; rw [h]; rfl, fun p hp => by simp at hp, hb⟩
  · exact ⟨_, _, 3, hps, by omega, by rw [h]; exact he, Or.inr ⟨g3, c3, rfl, hr⟩, hm, hbr, hb⟩
theorem wnHs_bare (zs : List Int) : ∀ h ∈ wnHs zs, h.2.2.2.1 = [] := by
  unfold wnHs
  split
  · exact wnH_bare zs 3
  · intro h hh; simp at hh
theorem HRow.world {w : World} {lo n : Nat} {v : Value} {ps : List (Hd × Value)} {zs : List Int} (h : HRow w lo n v ps) (hm : ps.map (·.1) = wnHs zs) (hb : Bare ps) : WdAt w (.slice none 0 0) (.slice none 0 0) v (.slice none 0 0) [] [] (wnHs zs) [] := by
  refine ⟨⟨Or.inl ⟨rfl, _, _, rfl⟩, Or.inl ⟨rfl, _, _, rfl, fun _ => rfl⟩⟩, ?_, Or.inl ⟨rfl, _, _, rfl, fun _ => rfl⟩⟩
  rcases h with ⟨rfl, rfl, rfl⟩ | ⟨g, cap, rfl, h2⟩
  · rw [← hm]; exact Or.inl ⟨rfl, _, _, rfl⟩
  · exact bare_houses h2 hm hb (wnHs_bare zs)
theorem HRow.kept {ts : List TypeId} {w w' : World} {lo n : Nat} {v : Value} {ps : List (Hd × Value)} (h : HRow w lo n v ps) (hk : Kept ts w w') (hn : 42 ∉ ts) : HRow w' lo n v ps := by
  rcases h with h | ⟨g, cap, h1, h2⟩
  · exact Or.inl h
  · exact Or.inr ⟨g, cap, h1, hk.row h2 hn⟩
theorem wnHs_tot (zs : List Int) : wdTot [] [] (wnHs zs) [] ≤ 1048576 := by
  have h0 : ∀ k, hpre (wnHs zs) k ≤ 0 := by
    intro k
    induction k with
    | zero => rw [hpre_zero]; exact Nat.le_refl _
    | succ k ih =>
      by_cases hk : k < (wnHs zs).length
      · rw [hpre_succ (wnHs zs) k _ (List.getElem?_eq_getElem hk), wnHs_bare zs _ (List.getElem_mem hk)]
        simpa [tot, pre] using ih
      · have : hpre (wnHs zs) (k + 1) = hpre (wnHs zs) k := by unfold hpre; rw [List.take_of_length_le (by omega), List.take_of_length_le (by omega)]
        rw [this]; exact ih
  have h1 : (wnHs zs).length ≤ 3 := by unfold wnHs; split; rw [wnH_length]; exact Nat.le_refl _; simp
  have h2 := h0 (wnHs zs).length
  unfold wdTot htot
  simp [tot, pre]
  omega
theorem ints_row' {w : World} {base b : Nat} {zs : List Int} (h : w.ownsRow base 3 1 (.slice (some ⟨b, 0, none⟩) zs.length zs.length) zs.length (zs.map (Value.int .i64))) : Ints w (.slice (some ⟨b, 0, none⟩) zs.length zs.length) zs := by
  by_cases hz : zs = []
  · subst hz; exact Or.inl ⟨rfl, _, _, rfl, fun e => by cases e⟩
  · refine Or.inr ⟨b, 0, zs.length, rfl, hz, fun k hk => ?_⟩
    rw [Nat.zero_add, h.cellAt _ (by simpa using hk)]
    simp [hk]

set_option maxRecDepth 100000 in
set_option maxHeartbeats 4000000 in
theorem lawWNew_any (v : Value) (zs : List Int) (w : World) (hv : Ints w v zs) :
    Calls Try.prog 3 #[v] w fun e w' => e = .returned (.bool true) ∧ Below w.heap.size w w' := by
  have HI : Hid (∀ W, Below w.heap.size w W → Ints W v zs) := fun W h => hv.later h (Nat.le_refl _)
  obtain ⟨av, cv, rfl⟩ := hv.shape
  clear hv
  by_cases hle : zs.length ≤ 1048576
  · have hgt : ¬ (1048576 : Int) < (zs.length : Int) := by omega
    have HLE := hide_it hle
    have HT : Hid (∀ W, Below w.heap.size w W → Calls Try.prog 5 #[.slice av zs.length cv] W fun e w' => e = .returned (.slice (some ⟨W.heap.size, 0, none⟩) zs.length zs.length) ∧
      w'.ownsRow W.heap.size 3 1 (.slice (some ⟨W.heap.size, 0, none⟩) zs.length zs.length) zs.length (zs.map (Value.int .i64)) ∧ Below W.heap.size W w') := fun W h => toInts_any _ zs W (HI.out W h) hle
    obtain ⟨BB, hBB⟩ : ∃ b, wnB zs = b := ⟨_, rfl⟩
    have HBB := hide_it hBB
    have SP : Hid (∀ (W : World) (u : Value), Ints W u zs → Calls Try.prog 4 #[u] W fun e w' => ∃ a1 c1 a2 c2 a3 c3 a4 c4, e = .returned (.tuple #[worldV BB (.slice a1 0 c1) 0 (.slice a2 0 c2) (.slice a3 (wnHs zs).length c3) (.slice a4 0 c4), .bool BB]) ∧ WdAt w' (.slice a1 0 c1) (.slice a2 0 c2) (.slice a3 (wnHs zs).length c3) (.slice a4 0 c4) [] [] (wnHs zs) [] ∧ Below W.heap.size W w') := fun W u h => by
      have := specWNew_any u zs W h
      unfold WnO at this
      rw [hBB] at this
      exact this
    have IM : Hid (∀ (W : World) (u : Value), Ints W u zs → Calls Try.prog 6 #[u] W fun e w' => ∃ ao co n ps, n ≤ 3 ∧ e = .returned (.tuple #[worldV BB (.slice none 0 0) 0 (.slice none 0 0) (.slice ao n co) (.slice none 0 0), .bool BB]) ∧ HRow w' W.heap.size n (.slice ao n co) ps ∧ ps.map (·.1) = wnHs zs ∧ Bare ps ∧ Below W.heap.size W w') := fun W u h => by
      have := implWNew_u u zs W h
      unfold WnU at this
      rw [hBB] at this
      exact this
    have HNE : Hid ((BB != BB) = false) := by show _ = _; simp
    clear hBB hle
    go_enter Try.func3, Try.ntmps3
    go_wp2_with fail
    refine (HT.out _ (Below.refl _ _)).mono ?_
    rintro e w1 ⟨rfl, hr1, hb1⟩
    have I1 := hide_it (ints_row' hr1)
    have B1 := hide_it hb1
    clear hr1 hb1
    go_wp2_with fail
    refine (SP.out _ _ I1.out).mono ?_
    rintro e w2 ⟨a1, c1, a2, c2, a3, c3, a4, c4, rfl, hw2, hb2⟩
    have B2 := hide_it (B1.out.trans (hb2.mono B1.out.size))
    have EW : Hid (∀ W, Below w2.heap.size w2 W → WdAt W (.slice a1 0 c1) (.slice a2 0 c2) (.slice a3 (wnHs zs).length c3) (.slice a4 0 c4) [] [] (wnHs zs) []) := fun W h => hw2.later h (Nat.le_refl _)
    have L2 : Hid (Below w2.heap.size w2 w2) := Below.refl _ _
    clear hw2 hb2 I1
    obtain ⟨w3, hw3⟩ : ∃ W, Hid (W = w2.alloc (.cells #[.bool BB, .slice a1 0 c1, .int .i64 0, .slice a2 0 c2, .slice a3 (wnHs zs).length c3, .slice a4 0 c4] 31)) := ⟨_, rfl⟩
    have al3 : Below w2.heap.size w2 w3 := by rw [hw3.out]; exact alloc_below _ _
    have B3 := hide_it (B2.out.trans (al3.mono B2.out.size))
    have L3 := hide_it (L2.out.trans (al3.mono L2.out.size))
    clear al3
    have Z3 : Hid (Blk w3 w2.heap.size #[.bool BB, .slice a1 0 c1, .int .i64 0, .slice a2 0 c2, .slice a3 (wnHs zs).length c3, .slice a4 0 c4] 31) := by show Blk _ _ _ _; rw [hw3.out]; exact Blk.new _ _ _
    go_wp2_with fail
    rw [← hw3.out]
    refine (HT.out _ B3.out).mono ?_
    rintro e w4 ⟨rfl, hr4, hb4⟩
    have B4 := hide_it (B3.out.trans (hb4.mono B3.out.size))
    have L4 := hide_it (L3.out.trans (hb4.mono L3.out.size))
    have Z4 := hide_it (Z3.out.after hb4)
    have I4 := hide_it (ints_row' hr4)
    have X4 := hide_it hr4
    have hw34 : w2.heap.size < w3.heap.size := Z3.out.lt
    clear hr4 hb4
    go_wp2_with fail
    refine (IM.out _ _ I4.out).mono ?_
    rintro e w5 ⟨ga, gc, n, ps, hn3, rfl, hr5, hm5, hbr5, hb5⟩
    have B5 := hide_it (B4.out.trans (hb5.mono B4.out.size))
    have L5 := hide_it (L4.out.trans (hb5.mono L4.out.size))
    have Z5 := hide_it (Z4.out.after hb5)
    have X5 := hide_it (ownsRow_below X4.out hb5 (fun k hk => (X4.out.lt k hk).2))
    have R5 := hide_it hr5
    have HM := hide_it hm5
    have HBR := hide_it hbr5
    have HPL := hide_it hr5.len
    have hx4 : w2.heap.size ≤ w4.heap.size := L4.out.size
    have Y5 : Hid (w4.heap.size ≤ w5.heap.size) := hb5.size
    have HN3 := hide_it hn3
    clear hr5 hm5 hbr5 hb5 I4
    have EQ : Hid (∀ W, HRow W w4.heap.size n (.slice ga n gc) ps → Below w2.heap.size w2 W → Calls Try.prog 7 #[worldV BB (.slice none 0 0) 0 (.slice none 0 0) (.slice ga n gc) (.slice none 0 0), worldV BB (.slice a1 0 c1) 0 (.slice a2 0 c2) (.slice a3 (wnHs zs).length c3) (.slice a4 0 c4)] W fun e w' => e = .returned (.bool true) ∧ Below W.heap.size W w') := fun W h1 h2 =>
      eqWorld_any BB _ _ _ _ _ _ _ _ [] 0 [] (wnHs zs) [] W (h1.world HM.out HBR.out) (EW.out W h2) (wnHs_tot zs)
    obtain ⟨z0, z1, z2, z3, z4, z5⟩ := Z5.out.cells6
    have k0 := fun x => cellAlloc z0 x
    have k1 := fun x => cellAlloc z1 x
    have k2 := fun x => cellAlloc z2 x
    have k3 := fun x => cellAlloc z3 x
    have k4 := fun x => cellAlloc z4 x
    have k5 := fun x => cellAlloc z5 x
    obtain ⟨w6, hw6⟩ : ∃ W, Hid (W = w5.alloc (.cells #[.bool BB, .slice none 0 0, .int .i64 0, .slice none 0 0, .slice ga n gc, .slice none 0 0] 31)) := ⟨_, rfl⟩
    have al6 : Below w5.heap.size w5 w6 := by rw [hw6.out]; exact alloc_below _ _
    have B6 := hide_it (B5.out.trans (al6.mono B5.out.size))
    have L6 := hide_it (L5.out.trans (al6.mono L5.out.size))
    have Z6 := hide_it (Z5.out.after al6)
    have R6 := hide_it (R5.out.later al6)
    have Y6 : Hid (w4.heap.size ≤ w6.heap.size) := Nat.le_trans Y5.out al6.size
    have X6 := hide_it (ownsRow_below X5.out al6 (fun k hk => (X5.out.lt k hk).2))
    clear al6
    have G6 : Hid (Blk w6 w5.heap.size #[.bool BB, .slice none 0 0, .int .i64 0, .slice none 0 0, .slice ga n gc, .slice none 0 0] 31) := by show Blk _ _ _ _; rw [hw6.out]; exact Blk.new _ _ _
    have hz5 : w2.heap.size < w5.heap.size := Z5.out.lt
    go_wp2_with fail
    rw [← hw6.out]
    refine (EQ.out _ R6.out L6.out).mono ?_
    rintro e w7 ⟨rfl, hb7⟩
    have B7 := hide_it (B6.out.trans (hb7.mono B6.out.size))
    have L7 := hide_it (L6.out.trans (hb7.mono L6.out.size))
    have Z7 := hide_it (Z6.out.after hb7)
    have G7 := hide_it (G6.out.after hb7)
    have R7 := hide_it (R6.out.later hb7)
    have Y7 : Hid (w4.heap.size ≤ w7.heap.size) := Nat.le_trans Y6.out hb7.size
    have X7 := hide_it (ownsRow_below X6.out hb7 (fun k hk => (X6.out.lt k hk).2))
    clear hb7
    clear k0 k1 k2 k3 k4 k5 z0 z1 z2 z3 z4 z5
    go_wp2_with fail
    refine (HT.out _ B7.out).mono ?_
    rintro e w8 ⟨rfl, hr8, hb8⟩
    have B8 := hide_it (B7.out.trans (hb8.mono B7.out.size))
    have L8 := hide_it (L7.out.trans (hb8.mono L7.out.size))
    have Z8 := hide_it (Z7.out.after hb8)
    have G8 := hide_it (G7.out.after hb8)
    have R8 := hide_it (R7.out.later hb8)
    have Y8 : Hid (w4.heap.size ≤ w8.heap.size) := Nat.le_trans Y7.out hb8.size
    have X8 := hide_it (ownsRow_below X7.out hb8 (fun k hk => (X7.out.lt k hk).2))
    have I8 := hide_it (ints_row' hr8)
    have IX8 := hide_it (ints_row' X8.out)
    clear hr8 hb8
    go_wp2_with fail
    refine (eqInts_any _ _ zs _ IX8.out I8.out HLE.out).mono ?_
    rintro e w9 ⟨rfl, hb9⟩
    have B9 := hide_it (B8.out.trans (hb9.mono B8.out.size))
    have L9 := hide_it (L8.out.trans (hb9.mono L8.out.size))
    have Z9 := hide_it (Z8.out.after hb9)
    have G9 := hide_it (G8.out.after hb9)
    have R9 := hide_it (R8.out.later hb9)
    have Y9 : Hid (w4.heap.size ≤ w9.heap.size) := Nat.le_trans Y8.out hb9.size
    have X9 := hide_it (ownsRow_below X8.out hb9 (fun k hk => (X8.out.lt k hk).2))
    clear hb9 I8 IX8
    go_wp2_with fail
    refine (markInts_any _ _ 1 _ _ _ X9.out HLE.out (by omega) (by omega)).mono ?_
    rintro e w10 ⟨rfl, -, hg10⟩
    have k10 : Kept [3] w9 w10 := Kept.of_row X9.out hg10 (by decide)
    have lx : Below w3.heap.size w9 w10 := (Below.refl w3.heap.size w9).grown hg10 (Nat.le_trans (Nat.le_of_lt (X9.out.lt _ rfl).2) (Nat.le_refl _)) (fun j hj => (X9.out.lt j hj).1)
    have B10 := hide_it (B9.out.trans (lx.mono B3.out.size))
    have L10 := hide_it (L9.out.trans (lx.mono (Nat.le_of_lt hw34)))
    have Z10 := hide_it (k10.blk Z9.out (by decide))
    have G10 := hide_it (k10.blk G9.out (by decide))
    have R10 := hide_it (R9.out.kept k10 (by decide))
    have Y10 : Hid (w4.heap.size ≤ w10.heap.size) := Nat.le_trans Y9.out lx.size
    have hk10 : (1 : Int) + (zs.length : Int) ≤ 2000000 ∧ ¬ ((1 : Int) + (zs.length : Int) < 0) := by have := HLE.out; omega
    clear hg10 k10 lx
    obtain ⟨z0, z1, z2, z3, z4, z5⟩ := Z10.out.cells6
    obtain ⟨g0, g1, g2, g3, g4, g5⟩ := G10.out.cells6
    go_wp2_with fail
    refine (EQ.out _ R10.out L10.out).mono ?_
    rintro e w11 ⟨rfl, hb11⟩
    have B11 := hide_it (B10.out.trans (hb11.mono B10.out.size))
    have L11 := hide_it (L10.out.trans (hb11.mono L10.out.size))
    have Z11 := hide_it (Z10.out.after hb11)
    have G11 := hide_it (G10.out.after hb11)
    have R11 := hide_it (R10.out.later hb11)
    have Y11 : Hid (w4.heap.size ≤ w11.heap.size) := Nat.le_trans Y10.out hb11.size
    clear hb11
    clear g0 g1 g2 g3 g4 g5 z0 z1 z2 z3 z4 z5
    obtain ⟨g0, g1, g2, g3, g4, g5⟩ := G11.out.cells6
    go_wp2_with fail
    refine (markWorld0_any BB (.slice ga n gc) n w4.heap.size ps _ R11.out HBR.out Y11.out (by have := HN3.out; omega)).mono ?_
    rintro e w12 ⟨rfl, hr12, hb12, k12⟩
    have B12 := hide_it (B11.out.trans (hb12.mono B4.out.size))
    have L12 := hide_it (L11.out.trans (hb12.mono hx4))
    have Z12 := hide_it (k12.blk Z11.out (by decide))
    have G12 := hide_it (k12.blk G11.out (by decide))
    have R12 := hide_it hr12
    have Y12 : Hid (w4.heap.size ≤ w12.heap.size) := Nat.le_trans Y11.out hb12.size
    clear hr12 hb12 k12
    clear g0 g1 g2 g3 g4 g5
    obtain ⟨g0, g1, g2, g3, g4, g5⟩ := G12.out.cells6
    go_wp2_with fail
    refine (heldWorld0_any BB (.slice ga n gc) n w4.heap.size ps _ R12.out HBR.out HPL.out (by have := HN3.out; omega)).mono ?_
    rintro e w13 ⟨rfl, hb13⟩
    have B13 := hide_it (B12.out.trans (hb13.mono B12.out.size))
    have L13 := hide_it (L12.out.trans (hb13.mono L12.out.size))
    have Z13 := hide_it (Z12.out.after hb13)
    have G13 := hide_it (G12.out.after hb13)
    have R13 := hide_it (R12.out.later hb13)
    have Y13 : Hid (w4.heap.size ≤ w13.heap.size) := Nat.le_trans Y12.out hb13.size
    clear hb13
    clear g0 g1 g2 g3 g4 g5
    go_wp2_with fail
    refine (HT.out _ B13.out).mono ?_
    rintro e w14 ⟨rfl, hr14, hb14⟩
    have B14 := hide_it (B13.out.trans (hb14.mono B13.out.size))
    have L14 := hide_it (L13.out.trans (hb14.mono L13.out.size))
    have Z14 := hide_it (Z13.out.after hb14)
    have G14 := hide_it (G13.out.after hb14)
    have R14 := hide_it (R13.out.later hb14)
    have Y14 : Hid (w4.heap.size ≤ w14.heap.size) := Nat.le_trans Y13.out hb14.size
    have I14 := hide_it (ints_row' hr14)
    clear hr14 hb14
    go_wp2_with fail
    refine (IM.out _ _ I14.out).mono ?_
    rintro e w15 ⟨ha, hc, n2, ps2, hn2, rfl, hr15, hm15, hbr15, hb15⟩
    have B15 := hide_it (B14.out.trans (hb15.mono B14.out.size))
    have L15 := hide_it (L14.out.trans (hb15.mono L14.out.size))
    have Z15 := hide_it (Z14.out.after hb15)
    have G15 := hide_it (G14.out.after hb15)
    have R15 := hide_it (R14.out.later hb15)
    have Y15 : Hid (w4.heap.size ≤ w15.heap.size) := Nat.le_trans Y14.out hb15.size
    have HW15 := hide_it (hr15.world hm15 hbr15)
    have HNN := hide_it hn2
    clear hr15 hm15 hbr15 hb15 I14 hn2
    obtain ⟨z0, z1, z2, z3, z4, z5⟩ := Z15.out.cells6
    have k0 := fun x => cellAlloc z0 x
    have k1 := fun x => cellAlloc z1 x
    have k2 := fun x => cellAlloc z2 x
    have k3 := fun x => cellAlloc z3 x
    have k4 := fun x => cellAlloc z4 x
    have k5 := fun x => cellAlloc z5 x
    have hz15 : w2.heap.size < w15.heap.size := Z15.out.lt
    obtain ⟨w16, hw16⟩ : ∃ W, Hid (W = w15.alloc (.cells #[.bool BB, .slice none 0 0, .int .i64 0, .slice none 0 0, .slice ha n2 hc, .slice none 0 0] 31)) := ⟨_, rfl⟩
    have al16 : Below w15.heap.size w15 w16 := by rw [hw16.out]; exact alloc_below _ _
    have B16 := hide_it (B15.out.trans (al16.mono B15.out.size))
    have L16 := hide_it (L15.out.trans (al16.mono L15.out.size))
    have Z16 := hide_it (Z15.out.after al16)
    have G16 := hide_it (G15.out.after al16)
    have R16 := hide_it (R15.out.later al16)
    have Y16 : Hid (w4.heap.size ≤ w16.heap.size) := Nat.le_trans Y15.out al16.size
    clear al16
    have HW16 := hide_it (HW15.out.later (show Below w15.heap.size w15 w16 by rw [hw16.out]; exact alloc_below _ _) (Nat.le_refl _))
    go_wp2_with fail
    rw [← hw16.out]
    refine (eqWorld_any BB _ _ _ _ _ _ _ _ [] 0 [] (wnHs zs) [] _ HW16.out (EW.out _ L16.out) (wnHs_tot zs)).mono ?_
    rintro e w17 ⟨rfl, hb17⟩
    have B17 := hide_it (B16.out.trans (hb17.mono B16.out.size))
    have L17 := hide_it (L16.out.trans (hb17.mono L16.out.size))
    have Z17 := hide_it (Z16.out.after hb17)
    have G17 := hide_it (G16.out.after hb17)
    have R17 := hide_it (R16.out.later hb17)
    have Y17 : Hid (w4.heap.size ≤ w17.heap.size) := Nat.le_trans Y16.out hb17.size
    clear hb17
    clear k0 k1 k2 k3 k4 k5 z0 z1 z2 z3 z4 z5
    obtain ⟨g0, g1, g2, g3, g4, g5⟩ := G17.out.cells6
    go_wp2_with fail
    refine (heldWorld0_any BB (.slice ga n gc) n w4.heap.size ps _ R17.out HBR.out HPL.out (by have := HN3.out; omega)).mono ?_
    rintro e w18 ⟨rfl, hb18⟩
    have B18 := hide_it (B17.out.trans (hb18.mono B17.out.size))
    have L18 := hide_it (L17.out.trans (hb18.mono L17.out.size))
    have Z18 := hide_it (Z17.out.after hb18)
    have G18 := hide_it (G17.out.after hb18)
    have R18 := hide_it (R17.out.later hb18)
    have Y18 : Hid (w4.heap.size ≤ w18.heap.size) := Nat.le_trans Y17.out hb18.size
    clear hb18
    go_wp2
    go_ret
    exact ⟨rfl, B18.out⟩
  · have hgt : (1048576 : Int) < (zs.length : Int) := by omega
    clear hle
    go_enter Try.func3, Try.ntmps3
    go_wp2
    go_ret
    exact ⟨rfl, Below.refl _ _⟩

end Go.Proofs.Ytfdcfomfghbpaaa

namespace Go.Proofs.Ytfdcfomfghbpaaa
open Go.ChangeShapes Go.WideShapes Go.ChangeAt Go.WideMaps Go.WideElems Go.RowKit Go.Joins

theorem cellsIntW : Try.prog.cellsOf 3 = 1 := by kernel_rfl

section
variable {H : Type} {enc : TypeId × Value → H} {W : World}
theorem ints_of_trod {fuel : Nat} {c : Value} {y : DataW H × List MemPlace} (h : DataW.trod enc Try.prog W 0 (fun _ => true) true fuel 22 [c] = some y) :
    ∃ zs : List Int, Ints W c zs ∧ (zs.length : Int) ≤ 9223372036854775807 := by
  rcases open_ints Try.underlying22 Try.underlying3 cellsIntW h with ⟨hcs, hx⟩ | ⟨a, len, cap, zs, hcs, _, hl, hm, hz, hx, hcell, hwz⟩
  · simp at hcs
    subst hcs
    exact ⟨[], Or.inl ⟨rfl, _, _, rfl, fun _ => rfl⟩, by simp⟩
  · simp at hcs
    subst hcs
    simp only [if_pos] at hz
    have hlen : (zs.take len).length = len := by simp; omega
    refine ⟨zs.take len, ?_, by unfold maxLen at hm; omega⟩
    by_cases h0 : len = 0
    · subst h0
      exact Or.inl ⟨by simp, _, _, rfl, fun h => by cases h⟩
    · obtain ⟨b, off, rfl, hc⟩ := ints_at hcell (by omega)
      refine Or.inr ⟨b, off, cap, by rw [hlen], by intro e; rw [e] at hlen; simp at hlen; omega, fun j hj => ?_⟩
      rw [hc j (by omega)]
      rw [hlen] at hj
      simp [List.getD_eq_getElem?_getD, hj]


end

set_option maxRecDepth 100000 in
theorem worldNew_lifted (os : Os) (started : os.Started) (H : Type) (enc : TypeId × Value → H) :
    ReturnsInHanded {} Try.checked os 3 .any (Rows.fnExactWorldNewSpec.pre6 enc Try.prog Try.f3 Rows.fnExactWorldNewRow.domain false) (Rows.fnExactWorldNewSpec.post enc Try.prog Try.f3 false true false false) := by
  refine returnsInHanded_of_change (C := Try.checked) own started (by kernel_rfl) Try.func3
    (ChangeSpec.witness6 (enc := enc) (C := Try.checked) false ⟨#[], #[.slice none 0 0], []⟩ 8 (by kernel_rfl) (by kernel_rfl) (by kernel_rfl) (by kernel_rfl)) ?_
  intro W base args ds gs before hval0 hW hcnd _
  have hval : ∀ (j : Nat) t v, Try.f3.params[j]? = some t → args[j]? = some v → Value.okWide Try.prog W .any base t v := hval0
  have hW' := hW
  obtain ⟨p, q, hA0, hV, rfl, hfz, hnd⟩ := hW
  have hA : DataW.TrodAll enc Try.prog W 0 (fun _ => true) true Try.f3.params.toList args.toList ds p := hA0
  rw [Try.params3] at hA hval
  obtain ⟨v0, d0, rfl, rfl, h0⟩ := trodAll_one hA
  obtain ⟨rfl, rfl⟩ := trodVars_none hV
  clear hA0 hval0
  obtain ⟨a, len, cap, rfl⟩ := okWide_slice Try.underlying22 (hval 0 22 v0 rfl rfl)
  have h0' := h0
  obtain ⟨fuel, hf⟩ := h0'
  obtain ⟨zs, hI, _⟩ := ints_of_trod hf
  refine (lawWNew_any _ zs W hI).mono fun e W' ⟨he, hb⟩ => ?_
  subst he
  have hlt : ∀ x ∈ p, x.block < W.heap.size := fun x hx => hW'.lt x (by simp [hx])
  refine ⟨_, rfl, _, _, _, [], p, [], hW', ?_, ?_, ?_, hb.frame _, fun h => by cases h⟩
  · exact trodAll_mk1 (shut_bool Try.underlying4 true)
  · exact trodAll_mk1 (Below.trod laidOut (by kernel_rfl) (of_decide_eq_true (by kernel_rfl)) h0 hb hlt)
  · exact rfl

theorem worldNew_said : Rows.FnExactWorldNewSaid :=
  OpenClaim.holds_of_wide 3 Try.f3 rfl rfl rfl rfl rfl rfl rfl ⟨rfl, rfl, rfl, rfl, rfl⟩ rfl rfl rfl rfl rfl (by kernel_rfl) Try.func3 (by kernel_rfl)
    (of_decide_eq_true (by kernel_rfl)) (by unfold Func.isWrapper; first | (rw [if_pos (by decide +kernel)]; kernel_rfl) | (rw [if_neg (by decide +kernel)]; exact ⟨rfl, rfl⟩))
    (fun os started H enc _ => worldNew_lifted os started H enc)
#print axioms worldNew_said

end Go.Proofs.Ytfdcfomfghbpaaa
