/- What the last text of this claim stands on, part 6: plain facts and contracts; the last text says what is proved. -/
import Derived.Test.YthllcffmpeopcaaGreatDoorHouseHearCardPart5

namespace Go.Proofs.YthllcffmpeopcaaGreatDoor
open Go.RowKit

theorem Four.mid {w w' : World} {s lo hi : Nat} {id : Int} {up : Bool} {room : Int} {v : Value} {f k h t m : Int} (x : Four w s id up room v f k h t m) (hm : Mid lo hi w w') (hs : hi ≤ s) : Four w' s id up room v f k h t m :=
  ⟨x.ho.mid hm (Or.inr (by omega)), x.wo.mid hm (Or.inr (by omega)), x.zo.mid hm (Or.inr (by omega)), x.zw.mid hm (Or.inr (by omega))⟩
theorem stockS {w : World} {room : Int} {v : Value} {rs rs' : List R} {f : Int} {hs : List Pl.H} {b : Bool} (hv : Recs w v rs) (hfm : Form v rs.length) (hl : tot rs ≤ 1048576) (h0 : 0 ≤ f) (h1 : f ≤ rs.length) (hc : cutR rs f b = rs') (he : Pl.sOf room rs' = some hs) (id : Int) (up : Bool) :
    Calls Tryz.prog 60 #[houseV id up room v f, .bool b] w fun e w' => ∃ ao cap, e = .returned (.agg #[.int .i64 room, .slice ao 6 cap]) ∧ Holds w' (.slice ao 6 cap) hs ∧ Below w.heap.size w w' ∧ ∀ b off, ao = some ⟨b, off, none⟩ → w.heap.size ≤ b := by
  have h6 := (Pl.sOf_ok he).2
  refine (l11Stock_any id up room v rs f b w hv hfm hl h0 h1).mono ?_
  rintro e w' ⟨ao, cap, h, ho, hb⟩
  rw [hc, he] at h ho
  have e1 : oH (some hs) = hs := rfl
  have e2 : oR room (some hs) = room := rfl
  rw [e1, h6] at ho
  rw [e1, e2, h6] at h
  exact ⟨ao, cap, h, holds_of_row (base := w.heap.size) (by rw [h6]; exact ho), hb, fun b off e => (ho.lt b (by rw [e]; rfl)).1⟩

theorem field_stock (room : Int) (a : Option Addr) (n c : Nat) (W : World) : Sem.run Tryz.prog (Instr.field 50 (.agg #[.int .i64 room, .slice a n c]) 1) W = .ok (.slice a n c) W := by kernel_rfl
theorem wrap_small (i : Nat) (h : i < 6) : IntKind.i64.wrap ((i : Nat) : Int) = (i : Int) := by
  have : i = 0 ∨ i = 1 ∨ i = 2 ∨ i = 3 ∨ i = 4 ∨ i = 5 := by omega
  rcases this with rfl | rfl | rfl | rfl | rfl | rfl <;> decide

theorem ks4 (w : World) (b2 : Nat) (x y z u : Value) {b o : Nat} (h : b ≠ b2) : ((((w.setCell ⟨b2, 0, none⟩ x).setCell ⟨b2, 1, none⟩ y).setCell ⟨b2, 2, none⟩ z).setCell ⟨b2, 3, none⟩ u).cell? ⟨b, o, none⟩ = w.cell? ⟨b, o, none⟩ := by
  rw [World.cell?_of_block (w := ((w.setCell ⟨b2, 0, none⟩ x).setCell ⟨b2, 1, none⟩ y).setCell ⟨b2, 2, none⟩ z) (a := ⟨b, o, none⟩) (Below.heap_setCell _ _ _ _ h), World.cell?_of_block (w := (w.setCell ⟨b2, 0, none⟩ x).setCell ⟨b2, 1, none⟩ y) (a := ⟨b, o, none⟩) (Below.heap_setCell _ _ _ _ h), World.cell?_of_block (w := w.setCell ⟨b2, 0, none⟩ x) (a := ⟨b, o, none⟩) (Below.heap_setCell _ _ _ _ h), World.cell?_of_block (w := w) (a := ⟨b, o, none⟩) (Below.heap_setCell _ _ _ _ h)]
theorem bset4 {B b : Nat} {a w : World} (h : Below B a w) (hb : B ≤ b) (x y z u : Value) : Below B a ((((w.setCell ⟨b, 0, none⟩ x).setCell ⟨b, 1, none⟩ y).setCell ⟨b, 2, none⟩ z).setCell ⟨b, 3, none⟩ u) := (((h.setCell hb _).setCell hb _).setCell hb _).setCell hb _

set_option maxRecDepth 100000 in
set_option maxHeartbeats 1000000 in
theorem l11Hear_yes (room : Int) (v : Value) (rs : List R) (f k h m : Int) (i : Nat) (hs hf : List Pl.H) (lo : Nat) (w : World) (hm : Made w lo v rs) (hsh : ∃ ao cap, v = .slice ao rs.length cap) (hfm : Form v rs.length) (hlo : lo ≤ w.heap.size) (hl : tot rs ≤ 1048576)
    (lf0 : 0 ≤ f) (lf1 : f ≤ rs.length) (h12 : rs.length ≤ 12) (eA : Pl.sOf room rs = some hs) (eF : Pl.sOf room (rs.take f.toNat) = some hf) (hhb : Pl.hearB h true k h ((i : Int) + 1) m = true) (hi : i < 6) :
    Calls Tryz.prog 27 #[houseV h true room v f, wordV k h ((i : Int) + 1) m] w fun e w' => HeOutL lo w w' e (hearO' h true room rs f k h ((i : Int) + 1) m hs hf) := by
  obtain ⟨av, cv, rfl⟩ := hsh
  obtain ⟨-, -, hk, -, hrec⟩ := Pl.hearB_parts hhb
  have hwk : Pl.wOk k h ((i : Int) + 1) m = true := by
    simp only [Pl.hearB, Bool.and_eq_true] at hhb
    exact hhb.1.1.2
  have hk3 : k ≤ 3 := by omega
  have HW : Hid (∀ W, Calls Tryz.prog 59 #[wordV k h ((i : Int) + 1) m] W fun e w' => e = .returned (.bool true) ∧ Below W.heap.size W w') := fun W => by
    have := specWordOk_any k h ((i : Int) + 1) m W; rw [hwk] at this; exact this
  have SA : Hid (∀ W, Below w.heap.size w W → Calls Tryz.prog 60 #[houseV h true room (.slice av rs.length cv) f, .bool false] W fun e w' => ∃ ao cap, e = .returned (.agg #[.int .i64 room, .slice ao 6 cap]) ∧ Holds w' (.slice ao 6 cap) hs ∧ Below W.heap.size W w' ∧ ∀ b off, ao = some ⟨b, off, none⟩ → W.heap.size ≤ b) := fun W hb =>
    stockS (hm.recs.later hb (Nat.le_refl _)) hfm hl lf0 lf1 (by simp [cutR]) eA h true
  have SF : Hid (∀ W, Below w.heap.size w W → Calls Tryz.prog 60 #[houseV h true room (.slice av rs.length cv) f, .bool true] W fun e w' => ∃ ao cap, e = .returned (.agg #[.int .i64 room, .slice ao 6 cap]) ∧ Holds w' (.slice ao 6 cap) hf ∧ Below W.heap.size W w' ∧ ∀ b off, ao = some ⟨b, off, none⟩ → W.heap.size ≤ b) := fun W hb =>
    stockS (hm.recs.later hb (Nat.le_refl _)) hfm hl lf0 lf1 (by simp [cutR]) eF h true
  obtain ⟨ZS, hZS⟩ : ∃ z, Hid (Pl.zsW k m = z) := ⟨_, rfl⟩
  have HRC : Hid (∀ W, Calls Tryz.prog 61 #[wordV k h ((i : Int) + 1) m] W fun e w' => RcOut W w' e k ((i : Int) + 1) ZS) := fun W => by
    have := l11Rec_any k h ((i : Int) + 1) m W hk; rw [hZS.out] at this; exact this
  obtain ⟨sok, h6a⟩ := Pl.sOf_ok eA
  have h6f := (Pl.sOf_ok eF).2
  obtain ⟨MAY, hMAY⟩ : ∃ b, Hid (Pl.sMay room hs k ((i : Int) + 1) ZS = b) := ⟨_, rfl⟩
  have HMY : Hid (∀ (x u : Value) (W : World), Holds W x hs → Ints W u ZS → Calls Tryz.prog 62 #[.agg #[.int .i64 room, x], .agg #[.int .i64 k, .int .i64 ((i : Int) + 1), u]] W fun e w' => e = .returned (.bool MAY) ∧ Below W.heap.size W w') := fun x u W h1 h2 => by
    have hr2 : Pl.recOk k ((i : Int) + 1) ZS = true := by rw [← hZS.out]; exact hrec
    have := l2May_any room x hs k ((i : Int) + 1) u ZS W h1 h2 sok hr2
    have e1 : (Pl.next (Pl.hAt hs ((i : Int) + 1)) k (ZS.headD 0) (Pl.free room hs)).isSome = MAY := by
      rw [← hMAY.out]; unfold Pl.sMay; rw [Pl.behind_ok sok hr2]
    rw [e1] at this; exact this
  have HAN : Hid (∀ (s : Int) (W : World), Calls Tryz.prog 64 #[houseV h true room (.slice av rs.length cv) f, wordV k h ((i : Int) + 1) m, .int .i64 s] W fun e w' => e = .returned (.tuple #[wordV (awW (Pl.ansK k s) h ((i : Int) + 1)).1 (awW (Pl.ansK k s) h ((i : Int) + 1)).2.1 (awW (Pl.ansK k s) h ((i : Int) + 1)).2.2 0, .bool (awB (Pl.ansK k s))]) ∧ Below W.heap.size W w') := fun s W =>
    l11Answer_any h true room av rs.length cv f k h ((i : Int) + 1) m s W hk
  obtain ⟨OO, hOO⟩ : ∃ o, Hid (hearO' h true room rs f k h ((i : Int) + 1) m hs hf = o) := ⟨_, rfl⟩
  rw [hOO.out]
  have HM := hide_it hm
  have HHB := hide_it hhb
  have H6A := hide_it h6a
  have H6F := hide_it h6f
  clear hm hhb hrec hwk sok h6a h6f eA eF
  obtain ⟨w0, hw0⟩ : ∃ W, Hid (W = (((w.alloc (.cells #[.int .i64 h, .bool true, .int .i64 room, .slice av rs.length cv, .int .i64 f] 34)).alloc (.cells #[.int .i64 k, .int .i64 h, .int .i64 ((i : Int) + 1), .int .i64 m] 35)).alloc (.cells #[.int .i64 0, .bool false, .int .i64 0, .slice none 0 0, .int .i64 0] 34)).alloc (.cells #[.int .i64 0, .int .i64 0, .int .i64 0, .int .i64 0] 35)) := ⟨_, rfl⟩
  have B0 : Hid (Below w.heap.size w w0) := by show Below _ _ _; rw [hw0.out]; exact below4 _ _ _ _ _
  have Q0 : Hid (Four w0 w.heap.size h true room (.slice av rs.length cv) f k h ((i : Int) + 1) m) := by show Four _ _ _ _ _ _ _ _ _ _ _; rw [hw0.out]; exact Four.new _ _ _ _ _ _ _ _ _ _
  have hs0 : w0.heap.size = w.heap.size + 4 := by rw [hw0.out, size4]
  go_enter Tryz.func27, Tryz.ntmps27
  go_wp2_with fail
  rw [← hw0.out]
  refine (HW.out _).mono ?_
  rintro e w1 ⟨rfl, hb1⟩
  have Q1 := hide_it (Q0.out.after hb1)
  have B1 := hide_it (B0.out.trans (hb1.mono B0.out.size))
  have hs1 : w.heap.size + 4 ≤ w1.heap.size := by have := hb1.size; omega
  obtain ⟨x0, x1, x2, x3, x4⟩ := Q1.out.ho.cells5
  obtain ⟨y0, y1, y2, y3⟩ := Q1.out.wo.cells4
  clear hb1
  go_wp2_with fail
  refine (SA.out _ B1.out).mono ?_
  rintro e w2 ⟨a2, c2, rfl, hH2, hb2, -⟩
  have Q2 := hide_it (Q1.out.after hb2)
  have B2 := hide_it (B1.out.trans (hb2.mono B1.out.size))
  have H2 := hide_it hH2
  have hs2 : w.heap.size + 4 ≤ w2.heap.size := by have := hb2.size; omega
  clear hb2 hH2 x0 x1 x2 x3 x4 y0 y1 y2 y3
  obtain ⟨w3, hw3⟩ : ∃ W, Hid (W = w2.alloc (.cells #[.int .i64 room, .slice a2 6 c2] 50)) := ⟨_, rfl⟩
  have al3 : Hid (Below w2.heap.size w2 w3) := by show Below _ _ _; rw [hw3.out]; exact alloc_below _ _
  have S3 : Hid (Blk w3 w2.heap.size #[.int .i64 room, .slice a2 6 c2] 50) := by show Blk _ _ _ _; rw [hw3.out]; exact Blk.new _ _ _
  have Q3 := hide_it (Q2.out.after al3.out)
  have B3 := hide_it (B2.out.trans (al3.out.mono B2.out.size))
  have H3 := hide_it (H2.out.later al3.out (Nat.le_refl _))
  obtain ⟨y0, y1, y2, y3⟩ := Q2.out.wo.cells4
  have k0 := fun x => cellAlloc y0 x
  have k1 := fun x => cellAlloc y1 x
  have k2 := fun x => cellAlloc y2 x
  have k3 := fun x => cellAlloc y3 x
  go_wp2_with fail
  rw [← hw3.out]
  refine (HRC.out _).mono ?_
  rintro e w4 ⟨au, cu, rfl, hrow, hb4⟩
  have Q4 := hide_it (Q3.out.after hb4)
  have B4 := hide_it (B3.out.trans (hb4.mono B3.out.size))
  have S4 := hide_it (S3.out.after hb4)
  have H4 := hide_it (H3.out.later hb4 (Nat.le_refl _))
  have R4 := hide_it hrow
  have hz3 : w.heap.size ≤ w3.heap.size := B3.out.size
  have hs4 : w2.heap.size < w4.heap.size := S4.out.lt
  clear hb4 hrow k0 k1 k2 k3 y0 y1 y2 y3
  obtain ⟨w5, hw5⟩ : ∃ W, Hid (W = w4.alloc (.cells #[.int .i64 k, .int .i64 ((i : Int) + 1), .slice au ZS.length cu] 62)) := ⟨_, rfl⟩
  have al5 : Hid (Below w4.heap.size w4 w5) := by show Below _ _ _; rw [hw5.out]; exact alloc_below _ _
  have T5 : Hid (Blk w5 w4.heap.size #[.int .i64 k, .int .i64 ((i : Int) + 1), .slice au ZS.length cu] 62) := by show Blk _ _ _ _; rw [hw5.out]; exact Blk.new _ _ _
  have Q5 := hide_it (Q4.out.after al5.out)
  have B5 := hide_it (B4.out.trans (al5.out.mono B4.out.size))
  have S5 := hide_it (S4.out.after al5.out)
  have H5 := hide_it (H4.out.later al5.out (Nat.le_refl _))
  have R5 := hide_it (ownsRow_below R4.out al5.out (fun j hj => (R4.out.lt j hj).2))
  have I5 := hide_it (ints_row R5.out)
  obtain ⟨s0, s1⟩ := S4.out.cells2
  have k0 := fun x => cellAlloc s0 x
  have k1 := fun x => cellAlloc s1 x
  go_wp2_with fail
  rw [← hw5.out]
  refine (HMY.out _ _ _ H5.out I5.out).mono ?_
  rintro e w6 ⟨rfl, hb6⟩
  have Q6 := hide_it (Q5.out.after hb6)
  have B6 := hide_it (B5.out.trans (hb6.mono B5.out.size))
  have S6 := hide_it (S5.out.after hb6)
  have T6 := hide_it (T5.out.after hb6)
  have H6 := hide_it (H5.out.later hb6 (Nat.le_refl _))
  have R6 := hide_it (ownsRow_below R5.out hb6 (fun j hj => (R5.out.lt j hj).2))
  have M6 := hide_it (HM.out.below B6.out (Nat.le_refl _))
  clear hb6 k0 k1 s0 s1
  have hmy := hMAY.out
  rw [← hZS.out] at hmy
  have HMY2 := hide_it hmy
  clear hmy
  cases MAY
  · -- it may not come
    obtain ⟨sa, hsa⟩ : ∃ s, Hid ((Pl.hAt hs ((i : Int) + 1)).2 = s) := ⟨_, rfl⟩
    obtain ⟨sf, hsf⟩ : ∃ s, Hid ((Pl.hAt hf ((i : Int) + 1)).2 = s) := ⟨_, rfl⟩
    obtain ⟨bb, off, cap, hv2, c1, hbb⟩ := state_at H6.out H6A.out hi
    simp only [Value.slice.injEq, true_and] at hv2
    obtain ⟨rfl, rfl⟩ := hv2
    rw [hsa.out] at c1
    obtain ⟨s0, s1⟩ := S6.out.cells2
    obtain ⟨x0, x1, x2, x3, x4⟩ := Q6.out.ho.cells5
    obtain ⟨y0, y1, y2, y3⟩ := Q6.out.wo.cells4
    by_cases hfull : k = 1 ∧ sa = 0
    · obtain ⟨rfl, rfl⟩ := hfull
      have hO1 : OO = ((h, true, room, rs, f), (5, h, (i : Int) + 1), true) := by
        rw [← hOO.out]; exact hearO'_some HHB.out HMY2.out (by rw [hsa.out]; rfl)
      subst hO1
      have L6 := hide_it (B6.out.mono hlo)
      obtain ⟨z0, z1, z2, z3, z4⟩ := Q6.out.zo.cells5
      obtain ⟨zf0, zf1, zf2, zf3, zf4⟩ := Q6.out.zo.free5
      obtain ⟨q0, q1, q2, q3⟩ := Q6.out.zw.cells4
      obtain ⟨qf0, qf1, qf2, qf3, -⟩ := Q6.out.zw.free5
      go_wp2_with fail
      go_region_held (fun w' => (w'.cell? ⟨w.heap.size, 0, none⟩ = some (.int .i64 h) ∧ w'.cell? ⟨w.heap.size, 1, none⟩ = some (.bool true) ∧ w'.cell? ⟨w.heap.size, 2, none⟩ = some (.int .i64 room) ∧ w'.cell? ⟨w.heap.size, 3, none⟩ = some (.slice av rs.length cv) ∧ w'.cell? ⟨w.heap.size, 4, none⟩ = some (.int .i64 f)) ∧ (w'.cell? ⟨w.heap.size + 1, 0, none⟩ = some (.int .i64 1) ∧ w'.cell? ⟨w.heap.size + 1, 1, none⟩ = some (.int .i64 h) ∧ w'.cell? ⟨w.heap.size + 1, 2, none⟩ = some (.int .i64 ((i : Int) + 1)) ∧ w'.cell? ⟨w.heap.size + 1, 3, none⟩ = some (.int .i64 m))) (first | (go_keep; done) | (refine ⟨⟨?_, ?_, ?_, ?_, ?_⟩, ?_, ?_, ?_, ?_⟩ <;> simp [go_sem, *])) (fail)
      all_goals
        go_wp2
        refine bodyPost_ret (v := .tuple #[houseV h true room (.slice av rs.length cv) f, wordV 5 h ((i : Int) + 1) 0, .bool true]) (by simp [results, Tryz.results27, go_sem, *]) rfl ?_
        exact ⟨av, cv, rfl, (Made.handed M6.out Q6.out _ _ _ _ _ _ _ _ _).below (Below.refl _ _).drew (Nat.le_refl _), (Below.handed L6.out hlo _ _ _ _ _ _ _ _ _).drew⟩
    · have HNF := hide_it hfull
      clear hfull
      obtain ⟨X1, X2, X3, YB, hX⟩ : ∃ X1 X2 X3 YB, Hid (awW (Pl.ansK k sf) h ((i : Int) + 1) = (X1, X2, X3) ∧ awB (Pl.ansK k sf) = YB) := ⟨_, _, _, _, rfl, rfl⟩
      have HAN2 : Hid (∀ (W : World), Calls Tryz.prog 64 #[houseV h true room (.slice av rs.length cv) f, wordV k h ((i : Int) + 1) m, .int .i64 sf] W fun e w' => e = .returned (.tuple #[wordV X1 X2 X3 0, .bool YB]) ∧ Below W.heap.size W w') := fun W => by
        have := HAN.out sf W; rw [hX.out.1, hX.out.2] at this; exact this
      have hO1 : OO = ((h, true, room, rs, f), (X1, X2, X3), YB) := by
        have hA : Pl.hearA k sa sf = Pl.ansK k sf := by unfold Pl.hearA; rw [if_neg HNF.out]
        rw [← hOO.out, ← hX.out.1, ← hX.out.2]
        cases he : Pl.ansK k sf with
        | none => exact hearO'_none HHB.out HMY2.out (by rw [hsa.out, hsf.out, hA, he])
        | some x => exact hearO'_some HHB.out HMY2.out (by rw [hsa.out, hsf.out, hA, he])
      subst hO1
      have hwi := wrap_small i hi
      have hii : (i : Int) < 6 := by omega
      have hk1 : k ≠ 1 ∨ (k = 1 ∧ sa ≠ 0) := by have := HNF.out; omega
      rcases hk1 with hk1 | ⟨rfl, hk1⟩
      · have ek : (k == 1) = false := by simpa using hk1
        go_wp2_with fail
        go_cut [11, 12] (fun p b W => ∃ bw, p = .pointer (some ⟨bw, 0, none⟩) ∧ b = .bool YB ∧ Hid (Below w6.heap.size w6 W ∧ Blk W bw #[.int .i64 X1, .int .i64 X2, .int .i64 X3, .int .i64 0] 35 ∧ w6.heap.size ≤ bw))
        case first =>
          refine wp_region_held_drew (S := (fun w' => (w'.cell? ⟨w.heap.size, 0, none⟩ = some (.int .i64 h) ∧ w'.cell? ⟨w.heap.size, 1, none⟩ = some (.bool true) ∧ w'.cell? ⟨w.heap.size, 2, none⟩ = some (.int .i64 room) ∧ w'.cell? ⟨w.heap.size, 3, none⟩ = some (.slice av rs.length cv) ∧ w'.cell? ⟨w.heap.size, 4, none⟩ = some (.int .i64 f)) ∧ (w'.cell? ⟨w.heap.size + 1, 0, none⟩ = some (.int .i64 k) ∧ w'.cell? ⟨w.heap.size + 1, 1, none⟩ = some (.int .i64 h) ∧ w'.cell? ⟨w.heap.size + 1, 2, none⟩ = some (.int .i64 ((i : Int) + 1)) ∧ w'.cell? ⟨w.heap.size + 1, 3, none⟩ = some (.int .i64 m)))) (by kernel_rfl) ⟨⟨x0, x1, x2, x3, x4⟩, y0, y1, y2, y3⟩ (fun hHeld => ?_)
          clear x0 x1 x2 x3 x4 y0 y1 y2 y3
          refine takeD (i := 0) (v := ?_) (some 74) rfl rfl (by kernel_rfl) (by kernel_rfl) (by kernel_rfl) (fun _ _ _ h => h) (by rfl) hHeld ?_ ?_
          rotate_left
          · intro W hSw
            try dsimp only at hSw
            go_simp
            try with_reducible rfl
          try simp only [Act.put]
          try simp only [List.setIfInBounds_toArray]
          try simp only [List.set_cons_succ]
          try simp only [List.set_cons_zero]
          refine takeD (i := 1) (v := ?_) (some 75) rfl rfl (by kernel_rfl) (by kernel_rfl) (by kernel_rfl) (fun _ _ _ h => h) (by rfl) hHeld ?_ ?_
          rotate_left
          · intro W hSw
            try dsimp only at hSw
            go_simp
            try with_reducible rfl
          try simp only [Act.put]
          try simp only [List.setIfInBounds_toArray]
          try simp only [List.set_cons_succ]
          try simp only [List.set_cons_zero]
          refine takeD (i := 2) (v := ?_) (some 76) rfl rfl (by kernel_rfl) (by kernel_rfl) (by kernel_rfl) (fun _ _ _ h => h) (by rfl) hHeld ?_ ?_
          rotate_left
          · intro W hSw
            try dsimp only at hSw
            go_simp
            try with_reducible rfl
          try simp only [Act.put]
          try simp only [List.setIfInBounds_toArray]
          try simp only [List.set_cons_succ]
          try simp only [List.set_cons_zero]
          refine takeD (i := 5) (v := ?_) (some 79) rfl rfl (by kernel_rfl) (by kernel_rfl) (by kernel_rfl) (fun _ _ _ h => h) (by rfl) hHeld ?_ ?_
          rotate_left
          · intro W hSw
            try dsimp only at hSw
            go_simp
            try with_reducible rfl
          try simp only [Act.put]
          try simp only [List.setIfInBounds_toArray]
          try simp only [List.set_cons_succ]
          try simp only [List.set_cons_zero]
          refine takeD (i := 6) (v := ?_) (some 80) rfl rfl (by kernel_rfl) (by kernel_rfl) (by kernel_rfl) (fun _ _ _ h => h) (by rfl) hHeld ?_ ?_
          rotate_left
          · intro W hSw
            try dsimp only at hSw
            go_simp
            try with_reducible rfl
          try simp only [Act.put]
          try simp only [List.setIfInBounds_toArray]
          try simp only [List.set_cons_succ]
          try simp only [List.set_cons_zero]
          refine takeD (i := 7) (v := ?_) (some 81) rfl rfl (by kernel_rfl) (by kernel_rfl) (by kernel_rfl) (fun _ _ _ h => h) (by rfl) hHeld ?_ ?_
          rotate_left
          · intro W hSw
            try dsimp only at hSw
            go_simp
            try with_reducible rfl
          try simp only [Act.put]
          try simp only [List.setIfInBounds_toArray]
          try simp only [List.set_cons_succ]
          try simp only [List.set_cons_zero]
          refine wpAnyH_ready (rs := [3, 15]) (by kernel_rfl) (by simp) ?_
          refine AllReadyH.cons rfl (fun K hK => ?_) (AllReadyH.cons rfl (fun K hK => ?_) AllReadyH.nil)
          · go_simp
            refine (SF.out _ B6.out.drew).mono ?_
            rintro e w7 ⟨a7, c7, rfl, hH7, hb7, hrow7⟩
            have N7 := hide_it ((Below.refl w6.heap.size w6).drew.trans hb7)
            obtain ⟨b7, o7, cc7, hv7, st7, hlt7⟩ := state_at hH7 H6F.out hi
            simp only [Value.slice.injEq, true_and] at hv7
            obtain ⟨rfl, rfl⟩ := hv7
            have hge7 := hrow7 _ _ rfl
            clear hrow7
            rw [hsf.out] at st7
            clear hb7 hH7
            have hfs := fun W => field_stock room (some ⟨b7, o7, none⟩) 6 c7 W
            obtain ⟨x0, x1, x2, x3, x4⟩ := (Q6.out.after N7.out).ho.cells5
            obtain ⟨y0, y1, y2, y3⟩ := (Q6.out.after N7.out).wo.cells4
            try dsimp only
            refine hK.out _ _ ⟨⟨x0, x1, x2, x3, x4⟩, y0, y1, y2, y3⟩ (fun hHeld => ?_)
            clear hK K x0 x1 x2 x3 x4 y0 y1 y2 y3
            refine heldMono (S2 := (fun w' => w'.cell? ⟨b7, o7 + i * 2 + 1, none⟩ = some (.int .i64 sf) ∧ (w'.cell? ⟨w.heap.size, 0, none⟩ = some (.int .i64 h) ∧ w'.cell? ⟨w.heap.size, 1, none⟩ = some (.bool true) ∧ w'.cell? ⟨w.heap.size, 2, none⟩ = some (.int .i64 room) ∧ w'.cell? ⟨w.heap.size, 3, none⟩ = some (.slice av rs.length cv) ∧ w'.cell? ⟨w.heap.size, 4, none⟩ = some (.int .i64 f)) ∧ (w'.cell? ⟨w.heap.size + 1, 0, none⟩ = some (.int .i64 k) ∧ w'.cell? ⟨w.heap.size + 1, 1, none⟩ = some (.int .i64 h) ∧ w'.cell? ⟨w.heap.size + 1, 2, none⟩ = some (.int .i64 ((i : Int) + 1)) ∧ w'.cell? ⟨w.heap.size + 1, 3, none⟩ = some (.int .i64 m)))) (fun _ h => h.2) _ _ _ _ ?_
            replace hHeld := And.intro st7 hHeld
            refine takeD (i := 4) (v := ?_) (some 78) rfl rfl (by kernel_rfl) (by kernel_rfl) (by kernel_rfl) (fun _ _ _ h => h) (by rfl) hHeld ?_ ?_
            rotate_left
            · intro W hSw
              try dsimp only at hSw
              go_simp
              try with_reducible rfl
            try simp only [Act.put]
            try simp only [List.setIfInBounds_toArray]
            try simp only [List.set_cons_succ]
            try simp only [List.set_cons_zero]
            refine takeD (i := 8) (v := ?_) (some 82) rfl rfl (by kernel_rfl) (by kernel_rfl) (by kernel_rfl) (fun _ _ _ h => h) (by rfl) hHeld ?_ ?_
            rotate_left
            · intro W hSw
              try dsimp only at hSw
              go_simp
              try with_reducible rfl
            try simp only [Act.put]
            try simp only [List.setIfInBounds_toArray]
            try simp only [List.set_cons_succ]
            try simp only [List.set_cons_zero]
            refine takeD (i := 9) (v := ?_) (some 83) rfl rfl (by kernel_rfl) (by kernel_rfl) (by kernel_rfl) (fun _ _ _ h => h) (by rfl) hHeld ?_ ?_
            rotate_left
            · intro W hSw
              try dsimp only at hSw
              go_simp
              try with_reducible rfl
            try simp only [Act.put]
            try simp only [List.setIfInBounds_toArray]
            try simp only [List.set_cons_succ]
            try simp only [List.set_cons_zero]
            refine takeD (i := 10) (v := ?_) (some 84) rfl rfl (by kernel_rfl) (by kernel_rfl) (by kernel_rfl) (fun _ _ _ h => h) (by rfl) hHeld ?_ ?_
            rotate_left
            · intro W hSw
              try dsimp only at hSw
              go_simp
              try with_reducible rfl
            try simp only [Act.put]
            try simp only [List.setIfInBounds_toArray]
            try simp only [List.set_cons_succ]
            try simp only [List.set_cons_zero]
            refine wpAnyH_ready (rs := [11, 15]) (by kernel_rfl) (by simp) ?_
            refine AllReadyH.cons rfl (fun K hK => ?_) (AllReadyH.cons rfl (fun K hK => ?_) AllReadyH.nil)
            · go_simp
              refine (HAN2.out _).mono ?_
              rintro e w8 ⟨rfl, hb8⟩
              have N8 := hide_it (N7.out.trans (hb8.mono N7.out.size))
              have st8 : w8.cell? ⟨b7, o7 + i * 2 + 1, none⟩ = some (.int .i64 sf) := by rw [← st7]; exact hb8.cell (p := ⟨b7, o7 + i * 2 + 1, none⟩) (by simpa using hlt7)
              clear hb8
              obtain ⟨x0, x1, x2, x3, x4⟩ := (Q6.out.after N8.out).ho.cells5
              obtain ⟨y0, y1, y2, y3⟩ := (Q6.out.after N8.out).wo.cells4
              try dsimp only
              refine hK.out _ _ ⟨st8, ⟨x0, x1, x2, x3, x4⟩, y0, y1, y2, y3⟩ (fun hHeld => ?_)
              clear hK K x0 x1 x2 x3 x4 y0 y1 y2 y3
              refine takeD (i := 12) (v := ?_) (some 73) rfl rfl (by kernel_rfl) (by kernel_rfl) (by kernel_rfl) (fun _ _ _ h => h) (by rfl) hHeld ?_ ?_
              rotate_left
              · intro W hSw
                try dsimp only at hSw
                go_simp
                try with_reducible rfl
              try simp only [Act.put]
              try simp only [List.setIfInBounds_toArray]
              try simp only [List.set_cons_succ]
              try simp only [List.set_cons_zero]
              refine takeD (i := 13) (v := ?_) (some 86) rfl rfl (by kernel_rfl) (by kernel_rfl) (by kernel_rfl) (fun _ _ _ h => h) (by rfl) hHeld ?_ ?_
              rotate_left
              · intro W hSw
                try dsimp only at hSw
                go_simp
                try with_reducible rfl
              try simp only [Act.put]
              try simp only [List.setIfInBounds_toArray]
              try simp only [List.set_cons_succ]
              try simp only [List.set_cons_zero]
              refine takeD (i := 14) (v := ?_) (some 87) rfl rfl (by kernel_rfl) (by kernel_rfl) (by kernel_rfl) (fun _ _ _ h => h) (by rfl) hHeld ?_ ?_
              rotate_left
              · intro W hSw
                try dsimp only at hSw
                go_simp
                try with_reducible rfl
              try simp only [Act.put]
              try simp only [List.setIfInBounds_toArray]
              try simp only [List.set_cons_succ]
              try simp only [List.set_cons_zero]
              refine wpAnyH_ready (rs := [15]) (by kernel_rfl) (by simp) ?_
              refine AllReadyH.cons rfl (fun K hK => ?_) AllReadyH.nil
              go_simp
              try dsimp only
              refine hK.out _ _ ?_ (fun hHeld => ?_)
              · exact ⟨cellAlloc st8 _, (Q6.out.after (N8.out.alloc N8.out.size _)).ho.cells5, (Q6.out.after (N8.out.alloc N8.out.size _)).wo.cells4⟩
              clear hK K
              refine wpAnyH_ready (rs := [16]) (by kernel_rfl) (by simp) ?_
              refine AllReadyH.cons rfl (fun K hK => ?_) AllReadyH.nil
              go_simp
              try dsimp only
              refine hK.out _ _ ?_ (fun hHeld => ?_)
              · exact ⟨cellAlloc st8 _, (Q6.out.after (N8.out.alloc N8.out.size _)).ho.cells5, (Q6.out.after (N8.out.alloc N8.out.size _)).wo.cells4⟩
              clear hK K
              refine takeD (i := 17) (v := ?_) (some 12) rfl rfl (by kernel_rfl) (by kernel_rfl) (by kernel_rfl) (fun _ _ _ h => h) (by rfl) hHeld ?_ ?_
              rotate_left
              · intro W hSw
                try dsimp only at hSw
                go_simp
                try with_reducible rfl
              try simp only [Act.put]
              try simp only [List.setIfInBounds_toArray]
              try simp only [List.set_cons_succ]
              try simp only [List.set_cons_zero]
              refine wpAnyH_done (by kernel_rfl) ?_ _
              go_wp2_with fail
              go_meet
              case rel => exact ⟨_, rfl, rfl, hide_it ⟨N8.out.alloc N8.out.size _, Blk.new _ _ _, N8.out.size⟩⟩
            · go_simp
              try dsimp only
              refine hK.out _ _ ?_ (fun hHeld => ?_)
              · exact ⟨cellAlloc st7 _, (Q6.out.after (N7.out.alloc N7.out.size _)).ho.cells5, (Q6.out.after (N7.out.alloc N7.out.size _)).wo.cells4⟩
              clear hK K
              refine wpAnyH_ready (rs := [11]) (by kernel_rfl) (by simp) ?_
              refine AllReadyH.cons rfl (fun K hK => ?_) AllReadyH.nil
              go_simp
              refine (HAN2.out _).mono ?_
              rintro e w8 ⟨rfl, hb8⟩
              have N8 := hide_it ((N7.out.alloc N7.out.size _).trans (hb8.mono (by have := N7.out.size; simp; omega)))
              have st8 : w8.cell? ⟨b7, o7 + i * 2 + 1, none⟩ = some (.int .i64 sf) := by rw [← cellAlloc st7 (.cells #[.int .i64 0, .int .i64 0, .int .i64 0, .int .i64 0] 35)]; exact hb8.cell (p := ⟨b7, o7 + i * 2 + 1, none⟩) (by simp; omega)
              have Y8 := hide_it ((Blk.new w7 #[.int .i64 0, .int .i64 0, .int .i64 0, .int .i64 0] 35).after hb8)
              have hge8 : w6.heap.size ≤ w7.heap.size := N7.out.size
              clear hb8
              obtain ⟨x0, x1, x2, x3, x4⟩ := (Q6.out.after N8.out).ho.cells5
              obtain ⟨y0, y1, y2, y3⟩ := (Q6.out.after N8.out).wo.cells4
              try dsimp only
              refine hK.out _ _ ⟨st8, ⟨x0, x1, x2, x3, x4⟩, y0, y1, y2, y3⟩ (fun hHeld => ?_)
              clear hK K x0 x1 x2 x3 x4 y0 y1 y2 y3
              refine takeD (i := 12) (v := ?_) (some 73) rfl rfl (by kernel_rfl) (by kernel_rfl) (by kernel_rfl) (fun _ _ _ h => h) (by rfl) hHeld ?_ ?_
              rotate_left
              · intro W hSw
                try dsimp only at hSw
                go_simp
                try with_reducible rfl
              try simp only [Act.put]
              try simp only [List.setIfInBounds_toArray]
              try simp only [List.set_cons_succ]
              try simp only [List.set_cons_zero]
              refine takeD (i := 13) (v := ?_) (some 86) rfl rfl (by kernel_rfl) (by kernel_rfl) (by kernel_rfl) (fun _ _ _ h => h) (by rfl) hHeld ?_ ?_
              rotate_left
              · intro W hSw
                try dsimp only at hSw
                go_simp
                try with_reducible rfl
              try simp only [Act.put]
              try simp only [List.setIfInBounds_toArray]
              try simp only [List.set_cons_succ]
              try simp only [List.set_cons_zero]
              refine takeD (i := 14) (v := ?_) (some 87) rfl rfl (by kernel_rfl) (by kernel_rfl) (by kernel_rfl) (fun _ _ _ h => h) (by rfl) hHeld ?_ ?_
              rotate_left
              · intro W hSw
                try dsimp only at hSw
                go_simp
                try with_reducible rfl
              try simp only [Act.put]
              try simp only [List.setIfInBounds_toArray]
              try simp only [List.set_cons_succ]
              try simp only [List.set_cons_zero]
              obtain ⟨u0, u1, u2, u3⟩ := Y8.out.cells4
              obtain ⟨uf0, uf1, uf2, uf3, -⟩ := Y8.out.free5
              refine wpAnyH_ready (rs := [16]) (by kernel_rfl) (by simp) ?_
              refine AllReadyH.cons rfl (fun K hK => ?_) AllReadyH.nil
              go_simp
              try dsimp only
              refine hK.out _ _ ?_ (fun hHeld => ?_)
              · exact ⟨(ks4 _ _ _ _ _ _ (by omega)).trans st8, (Q6.out.after (bset4 N8.out hge8 _ _ _ _)).ho.cells5, (Q6.out.after (bset4 N8.out hge8 _ _ _ _)).wo.cells4⟩
              clear hK K
              refine takeD (i := 17) (v := ?_) (some 12) rfl rfl (by kernel_rfl) (by kernel_rfl) (by kernel_rfl) (fun _ _ _ h => h) (by rfl) hHeld ?_ ?_
              rotate_left
              · intro W hSw
                try dsimp only at hSw
                go_simp
                try with_reducible rfl
              try simp only [Act.put]
              try simp only [List.setIfInBounds_toArray]
              try simp only [List.set_cons_succ]
              try simp only [List.set_cons_zero]
              refine wpAnyH_done (by kernel_rfl) ?_ _
              go_wp2_with fail
              go_meet
              case rel => exact ⟨_, rfl, rfl, hide_it ⟨bset4 N8.out hge8 _ _ _ _, (((Y8.out.set_ 0 _).set_ 1 _).set_ 2 _).set_ 3 _, hge8⟩⟩
          · go_simp
            try dsimp only
            refine hK.out _ _ ?_ (fun hHeld => ?_)
            · exact ⟨(Q6.out.after ((alloc_below w6 _).drew)).ho.cells5, (Q6.out.after ((alloc_below w6 _).drew)).wo.cells4⟩
            clear hK K
            refine wpAnyH_ready (rs := [3]) (by kernel_rfl) (by simp) ?_
            refine AllReadyH.cons rfl (fun K hK => ?_) AllReadyH.nil
            go_simp
            refine (SF.out _ (B6.out.alloc B6.out.size _).drew).mono ?_
            rintro e w7 ⟨a7, c7, rfl, hH7, hb7, hrow7⟩
            have N7 := hide_it (b_alloc_drew hb7)
            have Y7 := hide_it (z_alloc_drew hb7)
            obtain ⟨b7, o7, cc7, hv7, st7, hlt7⟩ := state_at hH7 H6F.out hi
            simp only [Value.slice.injEq, true_and] at hv7
            obtain ⟨rfl, rfl⟩ := hv7
            have hge7 := hrow7 _ _ rfl
            clear hrow7
            rw [hsf.out] at st7
            clear hb7 hH7
            have hfs := fun W => field_stock room (some ⟨b7, o7, none⟩) 6 c7 W
            obtain ⟨x0, x1, x2, x3, x4⟩ := (Q6.out.after N7.out).ho.cells5
            obtain ⟨y0, y1, y2, y3⟩ := (Q6.out.after N7.out).wo.cells4
            try dsimp only
            refine hK.out _ _ ⟨⟨x0, x1, x2, x3, x4⟩, y0, y1, y2, y3⟩ (fun hHeld => ?_)
            clear hK K x0 x1 x2 x3 x4 y0 y1 y2 y3
            refine heldMono (S2 := (fun w' => w'.cell? ⟨b7, o7 + i * 2 + 1, none⟩ = some (.int .i64 sf) ∧ (w'.cell? ⟨w.heap.size, 0, none⟩ = some (.int .i64 h) ∧ w'.cell? ⟨w.heap.size, 1, none⟩ = some (.bool true) ∧ w'.cell? ⟨w.heap.size, 2, none⟩ = some (.int .i64 room) ∧ w'.cell? ⟨w.heap.size, 3, none⟩ = some (.slice av rs.length cv) ∧ w'.cell? ⟨w.heap.size, 4, none⟩ = some (.int .i64 f)) ∧ (w'.cell? ⟨w.heap.size + 1, 0, none⟩ = some (.int .i64 k) ∧ w'.cell? ⟨w.heap.size + 1, 1, none⟩ = some (.int .i64 h) ∧ w'.cell? ⟨w.heap.size + 1, 2, none⟩ = some (.int .i64 ((i : Int) + 1)) ∧ w'.cell? ⟨w.heap.size + 1, 3, none⟩ = some (.int .i64 m)))) (fun _ h => h.2) _ _ _ _ ?_
            replace hHeld := And.intro st7 hHeld
            refine takeD (i := 4) (v := ?_) (some 78) rfl rfl (by kernel_rfl) (by kernel_rfl) (by kernel_rfl) (fun _ _ _ h => h) (by rfl) hHeld ?_ ?_
            rotate_left
            · intro W hSw
              try dsimp only at hSw
              go_simp
              try with_reducible rfl
            try simp only [Act.put]
            try simp only [List.setIfInBounds_toArray]
            try simp only [List.set_cons_succ]
            try simp only [List.set_cons_zero]
            refine takeD (i := 8) (v := ?_) (some 82) rfl rfl (by kernel_rfl) (by kernel_rfl) (by kernel_rfl) (fun _ _ _ h => h) (by rfl) hHeld ?_ ?_
            rotate_left
            · intro W hSw
              try dsimp only at hSw
              go_simp
              try with_reducible rfl
            try simp only [Act.put]
            try simp only [List.setIfInBounds_toArray]
            try simp only [List.set_cons_succ]
            try simp only [List.set_cons_zero]
            refine takeD (i := 9) (v := ?_) (some 83) rfl rfl (by kernel_rfl) (by kernel_rfl) (by kernel_rfl) (fun _ _ _ h => h) (by rfl) hHeld ?_ ?_
            rotate_left
            · intro W hSw
              try dsimp only at hSw
              go_simp
              try with_reducible rfl
            try simp only [Act.put]
            try simp only [List.setIfInBounds_toArray]
            try simp only [List.set_cons_succ]
            try simp only [List.set_cons_zero]
            refine takeD (i := 10) (v := ?_) (some 84) rfl rfl (by kernel_rfl) (by kernel_rfl) (by kernel_rfl) (fun _ _ _ h => h) (by rfl) hHeld ?_ ?_
            rotate_left
            · intro W hSw
              try dsimp only at hSw
              go_simp
              try with_reducible rfl
            try simp only [Act.put]
            try simp only [List.setIfInBounds_toArray]
            try simp only [List.set_cons_succ]
            try simp only [List.set_cons_zero]
            have hne7 : b7 ≠ w6.heap.size := by simp at hge7; omega
            clear hge7
            refine wpAnyH_ready (rs := [11]) (by kernel_rfl) (by simp) ?_
            refine AllReadyH.cons rfl (fun K hK => ?_) AllReadyH.nil
            go_simp
            refine (HAN2.out _).mono ?_
            rintro e w8 ⟨rfl, hb8⟩
            have N8 := hide_it (N7.out.trans (hb8.mono N7.out.size))
            have st8 : w8.cell? ⟨b7, o7 + i * 2 + 1, none⟩ = some (.int .i64 sf) := by rw [← st7]; exact hb8.cell (p := ⟨b7, o7 + i * 2 + 1, none⟩) (by simpa using hlt7)
            have Y8 := hide_it (Y7.out.after hb8)
            clear hb8
            obtain ⟨x0, x1, x2, x3, x4⟩ := (Q6.out.after N8.out).ho.cells5
            obtain ⟨y0, y1, y2, y3⟩ := (Q6.out.after N8.out).wo.cells4
            try dsimp only
            refine hK.out _ _ ⟨st8, ⟨x0, x1, x2, x3, x4⟩, y0, y1, y2, y3⟩ (fun hHeld => ?_)
            clear hK K x0 x1 x2 x3 x4 y0 y1 y2 y3
            refine takeD (i := 12) (v := ?_) (some 73) rfl rfl (by kernel_rfl) (by kernel_rfl) (by kernel_rfl) (fun _ _ _ h => h) (by rfl) hHeld ?_ ?_
            rotate_left
            · intro W hSw
              try dsimp only at hSw
              go_simp
              try with_reducible rfl
            try simp only [Act.put]
            try simp only [List.setIfInBounds_toArray]
            try simp only [List.set_cons_succ]
            try simp only [List.set_cons_zero]
            refine takeD (i := 13) (v := ?_) (some 86) rfl rfl (by kernel_rfl) (by kernel_rfl) (by kernel_rfl) (fun _ _ _ h => h) (by rfl) hHeld ?_ ?_
            rotate_left
            · intro W hSw
              try dsimp only at hSw
              go_simp
              try with_reducible rfl
            try simp only [Act.put]
            try simp only [List.setIfInBounds_toArray]
            try simp only [List.set_cons_succ]
            try simp only [List.set_cons_zero]
            refine takeD (i := 14) (v := ?_) (some 87) rfl rfl (by kernel_rfl) (by kernel_rfl) (by kernel_rfl) (fun _ _ _ h => h) (by rfl) hHeld ?_ ?_
            rotate_left
            · intro W hSw
              try dsimp only at hSw
              go_simp
              try with_reducible rfl
            try simp only [Act.put]
            try simp only [List.setIfInBounds_toArray]
            try simp only [List.set_cons_succ]
            try simp only [List.set_cons_zero]
            obtain ⟨u0, u1, u2, u3⟩ := Y8.out.cells4
            obtain ⟨uf0, uf1, uf2, uf3, -⟩ := Y8.out.free5
            refine wpAnyH_ready (rs := [16]) (by kernel_rfl) (by simp) ?_
            refine AllReadyH.cons rfl (fun K hK => ?_) AllReadyH.nil
            go_simp
            try dsimp only
            refine hK.out _ _ ?_ (fun hHeld => ?_)
            · exact ⟨(ks4 _ _ _ _ _ _ hne7).trans st8, (Q6.out.after (bset4 N8.out (Nat.le_refl _) _ _ _ _)).ho.cells5, (Q6.out.after (bset4 N8.out (Nat.le_refl _) _ _ _ _)).wo.cells4⟩
            clear hK K
            refine takeD (i := 17) (v := ?_) (some 12) rfl rfl (by kernel_rfl) (by kernel_rfl) (by kernel_rfl) (fun _ _ _ h => h) (by rfl) hHeld ?_ ?_
            rotate_left
            · intro W hSw
              try dsimp only at hSw
              go_simp
              try with_reducible rfl
            try simp only [Act.put]
            try simp only [List.setIfInBounds_toArray]
            try simp only [List.set_cons_succ]
            try simp only [List.set_cons_zero]
            refine wpAnyH_done (by kernel_rfl) ?_ _
            go_wp2_with fail
            go_meet
            case rel => exact ⟨_, rfl, rfl, hide_it ⟨bset4 N8.out (Nat.le_refl _) _ _ _ _, (((Y8.out.set_ 0 _).set_ 1 _).set_ 2 _).set_ 3 _, Nat.le_refl _⟩⟩
        case rest =>
          obtain ⟨bw, rfl, rfl, HMET⟩ := hcut
          have NW := hide_it HMET.out.1
          have YW := hide_it HMET.out.2.1
          have hge : w6.heap.size ≤ bw := HMET.out.2.2
          clear HMET x0 x1 x2 x3 x4 y0 y1 y2 y3 s0 s1 c1
          have QW := hide_it (Q6.out.after NW.out)
          have MW := hide_it (M6.out.below NW.out (Nat.le_refl _))
          have LW := hide_it ((B6.out.trans (NW.out.mono B6.out.size)).mono hlo)
          have h63 := Q6.out.lt
          have n1 : bw ≠ w.heap.size + 1 + 1 := by omega
          have n2 : bw ≠ w.heap.size + 1 + 1 + 1 := by omega
          have n3 : w.heap.size + 1 + 1 ≠ bw := by omega
          have n4 : w.heap.size + 1 + 1 + 1 ≠ bw := by omega
          clear hge h63
          obtain ⟨x0, x1, x2, x3, x4⟩ := QW.out.ho.cells5
          obtain ⟨p0, p1, p2, p3⟩ := YW.out.cells4
          obtain ⟨z0, z1, z2, z3, z4⟩ := QW.out.zo.cells5
          obtain ⟨zf0, zf1, zf2, zf3, zf4⟩ := QW.out.zo.free5
          obtain ⟨q0, q1, q2, q3⟩ := QW.out.zw.cells4
          obtain ⟨qf0, qf1, qf2, qf3, -⟩ := QW.out.zw.free5
          go_wp2_with fail
          go_region_held (fun w' => (w'.cell? ⟨w.heap.size, 0, none⟩ = some (.int .i64 h) ∧ w'.cell? ⟨w.heap.size, 1, none⟩ = some (.bool true) ∧ w'.cell? ⟨w.heap.size, 2, none⟩ = some (.int .i64 room) ∧ w'.cell? ⟨w.heap.size, 3, none⟩ = some (.slice av rs.length cv) ∧ w'.cell? ⟨w.heap.size, 4, none⟩ = some (.int .i64 f)) ∧ (w'.cell? ⟨bw, 0, none⟩ = some (.int .i64 X1) ∧ w'.cell? ⟨bw, 1, none⟩ = some (.int .i64 X2) ∧ w'.cell? ⟨bw, 2, none⟩ = some (.int .i64 X3) ∧ w'.cell? ⟨bw, 3, none⟩ = some (.int .i64 0))) (first | (go_keep; done) | (refine ⟨⟨?_, ?_, ?_, ?_, ?_⟩, ?_, ?_, ?_, ?_⟩ <;> simp [go_sem, *])) (fail)
          all_goals
            go_wp2
            refine bodyPost_ret (v := .tuple #[houseV h true room (.slice av rs.length cv) f, wordV X1 X2 X3 0, .bool YB]) (by simp [results, Tryz.results27, go_sem, *]) rfl ?_
            exact ⟨av, cv, rfl, (Made.handed MW.out QW.out _ _ _ _ _ _ _ _ _).below (Below.refl _ _).drew (Nat.le_refl _), (Below.handed LW.out hlo _ _ _ _ _ _ _ _ _).drew⟩
      · have es : (sa == 0) = false := by simpa using hk1
        go_wp2_with fail
        go_cut [11, 12] (fun p b W => ∃ bw, p = .pointer (some ⟨bw, 0, none⟩) ∧ b = .bool YB ∧ Hid (Below w6.heap.size w6 W ∧ Blk W bw #[.int .i64 X1, .int .i64 X2, .int .i64 X3, .int .i64 0] 35 ∧ w6.heap.size ≤ bw))
        case first =>
          refine wp_region_held_drew (S := (fun w' => (w'.cell? ⟨w.heap.size, 0, none⟩ = some (.int .i64 h) ∧ w'.cell? ⟨w.heap.size, 1, none⟩ = some (.bool true) ∧ w'.cell? ⟨w.heap.size, 2, none⟩ = some (.int .i64 room) ∧ w'.cell? ⟨w.heap.size, 3, none⟩ = some (.slice av rs.length cv) ∧ w'.cell? ⟨w.heap.size, 4, none⟩ = some (.int .i64 f)) ∧ (w'.cell? ⟨w.heap.size + 1, 0, none⟩ = some (.int .i64 1) ∧ w'.cell? ⟨w.heap.size + 1, 1, none⟩ = some (.int .i64 h) ∧ w'.cell? ⟨w.heap.size + 1, 2, none⟩ = some (.int .i64 ((i : Int) + 1)) ∧ w'.cell? ⟨w.heap.size + 1, 3, none⟩ = some (.int .i64 m)))) (by kernel_rfl) ⟨⟨x0, x1, x2, x3, x4⟩, y0, y1, y2, y3⟩ (fun hHeld => ?_)
          clear x0 x1 x2 x3 x4 y0 y1 y2 y3
          refine takeD (i := 0) (v := ?_) (some 74) rfl rfl (by kernel_rfl) (by kernel_rfl) (by kernel_rfl) (fun _ _ _ h => h) (by rfl) hHeld ?_ ?_
          rotate_left
          · intro W hSw
            try dsimp only at hSw
            go_simp
            try with_reducible rfl
          try simp only [Act.put]
          try simp only [List.setIfInBounds_toArray]
          try simp only [List.set_cons_succ]
          try simp only [List.set_cons_zero]
          refine takeD (i := 1) (v := ?_) (some 75) rfl rfl (by kernel_rfl) (by kernel_rfl) (by kernel_rfl) (fun _ _ _ h => h) (by rfl) hHeld ?_ ?_
          rotate_left
          · intro W hSw
            try dsimp only at hSw
            go_simp
            try with_reducible rfl
          try simp only [Act.put]
          try simp only [List.setIfInBounds_toArray]
          try simp only [List.set_cons_succ]
          try simp only [List.set_cons_zero]
          refine takeD (i := 2) (v := ?_) (some 76) rfl rfl (by kernel_rfl) (by kernel_rfl) (by kernel_rfl) (fun _ _ _ h => h) (by rfl) hHeld ?_ ?_
          rotate_left
          · intro W hSw
            try dsimp only at hSw
            go_simp
            try with_reducible rfl
          try simp only [Act.put]
          try simp only [List.setIfInBounds_toArray]
          try simp only [List.set_cons_succ]
          try simp only [List.set_cons_zero]
          refine takeD (i := 5) (v := ?_) (some 79) rfl rfl (by kernel_rfl) (by kernel_rfl) (by kernel_rfl) (fun _ _ _ h => h) (by rfl) hHeld ?_ ?_
          rotate_left
          · intro W hSw
            try dsimp only at hSw
            go_simp
            try with_reducible rfl
          try simp only [Act.put]
          try simp only [List.setIfInBounds_toArray]
          try simp only [List.set_cons_succ]
          try simp only [List.set_cons_zero]
          refine takeD (i := 6) (v := ?_) (some 80) rfl rfl (by kernel_rfl) (by kernel_rfl) (by kernel_rfl) (fun _ _ _ h => h) (by rfl) hHeld ?_ ?_
          rotate_left
          · intro W hSw
            try dsimp only at hSw
            go_simp
            try with_reducible rfl
          try simp only [Act.put]
          try simp only [List.setIfInBounds_toArray]
          try simp only [List.set_cons_succ]
          try simp only [List.set_cons_zero]
          refine takeD (i := 7) (v := ?_) (some 81) rfl rfl (by kernel_rfl) (by kernel_rfl) (by kernel_rfl) (fun _ _ _ h => h) (by rfl) hHeld ?_ ?_
          rotate_left
          · intro W hSw
            try dsimp only at hSw
            go_simp
            try with_reducible rfl
          try simp only [Act.put]
          try simp only [List.setIfInBounds_toArray]
          try simp only [List.set_cons_succ]
          try simp only [List.set_cons_zero]
          refine wpAnyH_ready (rs := [3, 15]) (by kernel_rfl) (by simp) ?_
          refine AllReadyH.cons rfl (fun K hK => ?_) (AllReadyH.cons rfl (fun K hK => ?_) AllReadyH.nil)
          · go_simp
            refine (SF.out _ B6.out.drew).mono ?_
            rintro e w7 ⟨a7, c7, rfl, hH7, hb7, hrow7⟩
            have N7 := hide_it ((Below.refl w6.heap.size w6).drew.trans hb7)
            obtain ⟨b7, o7, cc7, hv7, st7, hlt7⟩ := state_at hH7 H6F.out hi
            simp only [Value.slice.injEq, true_and] at hv7
            obtain ⟨rfl, rfl⟩ := hv7
            have hge7 := hrow7 _ _ rfl
            clear hrow7
            rw [hsf.out] at st7
            clear hb7 hH7
            have hfs := fun W => field_stock room (some ⟨b7, o7, none⟩) 6 c7 W
            obtain ⟨x0, x1, x2, x3, x4⟩ := (Q6.out.after N7.out).ho.cells5
            obtain ⟨y0, y1, y2, y3⟩ := (Q6.out.after N7.out).wo.cells4
            try dsimp only
            refine hK.out _ _ ⟨⟨x0, x1, x2, x3, x4⟩, y0, y1, y2, y3⟩ (fun hHeld => ?_)
            clear hK K x0 x1 x2 x3 x4 y0 y1 y2 y3
            refine heldMono (S2 := (fun w' => w'.cell? ⟨b7, o7 + i * 2 + 1, none⟩ = some (.int .i64 sf) ∧ (w'.cell? ⟨w.heap.size, 0, none⟩ = some (.int .i64 h) ∧ w'.cell? ⟨w.heap.size, 1, none⟩ = some (.bool true) ∧ w'.cell? ⟨w.heap.size, 2, none⟩ = some (.int .i64 room) ∧ w'.cell? ⟨w.heap.size, 3, none⟩ = some (.slice av rs.length cv) ∧ w'.cell? ⟨w.heap.size, 4, none⟩ = some (.int .i64 f)) ∧ (w'.cell? ⟨w.heap.size + 1, 0, none⟩ = some (.int .i64 1) ∧ w'.cell? ⟨w.heap.size + 1, 1, none⟩ = some (.int .i64 h) ∧ w'.cell? ⟨w.heap.size + 1, 2, none⟩ = some (.int .i64 ((i : Int) + 1)) ∧ w'.cell? ⟨w.heap.size + 1, 3, none⟩ = some (.int .i64 m)))) (fun _ h => h.2) _ _ _ _ ?_
            replace hHeld := And.intro st7 hHeld
            refine takeD (i := 4) (v := ?_) (some 78) rfl rfl (by kernel_rfl) (by kernel_rfl) (by kernel_rfl) (fun _ _ _ h => h) (by rfl) hHeld ?_ ?_
            rotate_left
            · intro W hSw
              try dsimp only at hSw
              go_simp
              try with_reducible rfl
            try simp only [Act.put]
            try simp only [List.setIfInBounds_toArray]
            try simp only [List.set_cons_succ]
            try simp only [List.set_cons_zero]
            refine takeD (i := 8) (v := ?_) (some 82) rfl rfl (by kernel_rfl) (by kernel_rfl) (by kernel_rfl) (fun _ _ _ h => h) (by rfl) hHeld ?_ ?_
            rotate_left
            · intro W hSw
              try dsimp only at hSw
              go_simp
              try with_reducible rfl
            try simp only [Act.put]
            try simp only [List.setIfInBounds_toArray]
            try simp only [List.set_cons_succ]
            try simp only [List.set_cons_zero]
            refine takeD (i := 9) (v := ?_) (some 83) rfl rfl (by kernel_rfl) (by kernel_rfl) (by kernel_rfl) (fun _ _ _ h => h) (by rfl) hHeld ?_ ?_
            rotate_left
            · intro W hSw
              try dsimp only at hSw
              go_simp
              try with_reducible rfl
            try simp only [Act.put]
            try simp only [List.setIfInBounds_toArray]
            try simp only [List.set_cons_succ]
            try simp only [List.set_cons_zero]
            refine takeD (i := 10) (v := ?_) (some 84) rfl rfl (by kernel_rfl) (by kernel_rfl) (by kernel_rfl) (fun _ _ _ h => h) (by rfl) hHeld ?_ ?_
            rotate_left
            · intro W hSw
              try dsimp only at hSw
              go_simp
              try with_reducible rfl
            try simp only [Act.put]
            try simp only [List.setIfInBounds_toArray]
            try simp only [List.set_cons_succ]
            try simp only [List.set_cons_zero]
            refine wpAnyH_ready (rs := [11, 15]) (by kernel_rfl) (by simp) ?_
            refine AllReadyH.cons rfl (fun K hK => ?_) (AllReadyH.cons rfl (fun K hK => ?_) AllReadyH.nil)
            · go_simp
              refine (HAN2.out _).mono ?_
              rintro e w8 ⟨rfl, hb8⟩
              have N8 := hide_it (N7.out.trans (hb8.mono N7.out.size))
              have st8 : w8.cell? ⟨b7, o7 + i * 2 + 1, none⟩ = some (.int .i64 sf) := by rw [← st7]; exact hb8.cell (p := ⟨b7, o7 + i * 2 + 1, none⟩) (by simpa using hlt7)
              clear hb8
              obtain ⟨x0, x1, x2, x3, x4⟩ := (Q6.out.after N8.out).ho.cells5
              obtain ⟨y0, y1, y2, y3⟩ := (Q6.out.after N8.out).wo.cells4
              try dsimp only
              refine hK.out _ _ ⟨st8, ⟨x0, x1, x2, x3, x4⟩, y0, y1, y2, y3⟩ (fun hHeld => ?_)
              clear hK K x0 x1 x2 x3 x4 y0 y1 y2 y3
              refine takeD (i := 12) (v := ?_) (some 73) rfl rfl (by kernel_rfl) (by kernel_rfl) (by kernel_rfl) (fun _ _ _ h => h) (by rfl) hHeld ?_ ?_
              rotate_left
              · intro W hSw
                try dsimp only at hSw
                go_simp
                try with_reducible rfl
              try simp only [Act.put]
              try simp only [List.setIfInBounds_toArray]
              try simp only [List.set_cons_succ]
              try simp only [List.set_cons_zero]
              refine takeD (i := 13) (v := ?_) (some 86) rfl rfl (by kernel_rfl) (by kernel_rfl) (by kernel_rfl) (fun _ _ _ h => h) (by rfl) hHeld ?_ ?_
              rotate_left
              · intro W hSw
                try dsimp only at hSw
                go_simp
                try with_reducible rfl
              try simp only [Act.put]
              try simp only [List.setIfInBounds_toArray]
              try simp only [List.set_cons_succ]
              try simp only [List.set_cons_zero]
              refine takeD (i := 14) (v := ?_) (some 87) rfl rfl (by kernel_rfl) (by kernel_rfl) (by kernel_rfl) (fun _ _ _ h => h) (by rfl) hHeld ?_ ?_
              rotate_left
              · intro W hSw
                try dsimp only at hSw
                go_simp
                try with_reducible rfl
              try simp only [Act.put]
              try simp only [List.setIfInBounds_toArray]
              try simp only [List.set_cons_succ]
              try simp only [List.set_cons_zero]
              refine wpAnyH_ready (rs := [15]) (by kernel_rfl) (by simp) ?_
              refine AllReadyH.cons rfl (fun K hK => ?_) AllReadyH.nil
              go_simp
              try dsimp only
              refine hK.out _ _ ?_ (fun hHeld => ?_)
              · exact ⟨cellAlloc st8 _, (Q6.out.after (N8.out.alloc N8.out.size _)).ho.cells5, (Q6.out.after (N8.out.alloc N8.out.size _)).wo.cells4⟩
              clear hK K
              refine wpAnyH_ready (rs := [16]) (by kernel_rfl) (by simp) ?_
              refine AllReadyH.cons rfl (fun K hK => ?_) AllReadyH.nil
              go_simp
              try dsimp only
              refine hK.out _ _ ?_ (fun hHeld => ?_)
              · exact ⟨cellAlloc st8 _, (Q6.out.after (N8.out.alloc N8.out.size _)).ho.cells5, (Q6.out.after (N8.out.alloc N8.out.size _)).wo.cells4⟩
              clear hK K
              refine takeD (i := 17) (v := ?_) (some 12) rfl rfl (by kernel_rfl) (by kernel_rfl) (by kernel_rfl) (fun _ _ _ h => h) (by rfl) hHeld ?_ ?_
              rotate_left
              · intro W hSw
                try dsimp only at hSw
                go_simp
                try with_reducible rfl
              try simp only [Act.put]
              try simp only [List.setIfInBounds_toArray]
              try simp only [List.set_cons_succ]
              try simp only [List.set_cons_zero]
              refine wpAnyH_done (by kernel_rfl) ?_ _
              go_wp2_with fail
              go_meet
              case rel => exact ⟨_, rfl, rfl, hide_it ⟨N8.out.alloc N8.out.size _, Blk.new _ _ _, N8.out.size⟩⟩
            · go_simp
              try dsimp only
              refine hK.out _ _ ?_ (fun hHeld => ?_)
              · exact ⟨cellAlloc st7 _, (Q6.out.after (N7.out.alloc N7.out.size _)).ho.cells5, (Q6.out.after (N7.out.alloc N7.out.size _)).wo.cells4⟩
              clear hK K
              refine wpAnyH_ready (rs := [11]) (by kernel_rfl) (by simp) ?_
              refine AllReadyH.cons rfl (fun K hK => ?_) AllReadyH.nil
              go_simp
              refine (HAN2.out _).mono ?_
              rintro e w8 ⟨rfl, hb8⟩
              have N8 := hide_it ((N7.out.alloc N7.out.size _).trans (hb8.mono (by have := N7.out.size; simp; omega)))
              have st8 : w8.cell? ⟨b7, o7 + i * 2 + 1, none⟩ = some (.int .i64 sf) := by rw [← cellAlloc st7 (.cells #[.int .i64 0, .int .i64 0, .int .i64 0, .int .i64 0] 35)]; exact hb8.cell (p := ⟨b7, o7 + i * 2 + 1, none⟩) (by simp; omega)
              have Y8 := hide_it ((Blk.new w7 #[.int .i64 0, .int .i64 0, .int .i64 0, .int .i64 0] 35).after hb8)
              have hge8 : w6.heap.size ≤ w7.heap.size := N7.out.size
              clear hb8
              obtain ⟨x0, x1, x2, x3, x4⟩ := (Q6.out.after N8.out).ho.cells5
              obtain ⟨y0, y1, y2, y3⟩ := (Q6.out.after N8.out).wo.cells4
              try dsimp only
              refine hK.out _ _ ⟨st8, ⟨x0, x1, x2, x3, x4⟩, y0, y1, y2, y3⟩ (fun hHeld => ?_)
              clear hK K x0 x1 x2 x3 x4 y0 y1 y2 y3
              refine takeD (i := 12) (v := ?_) (some 73) rfl rfl (by kernel_rfl) (by kernel_rfl) (by kernel_rfl) (fun _ _ _ h => h) (by rfl) hHeld ?_ ?_
              rotate_left
              · intro W hSw
                try dsimp only at hSw
                go_simp
                try with_reducible rfl
              try simp only [Act.put]
              try simp only [List.setIfInBounds_toArray]
              try simp only [List.set_cons_succ]
              try simp only [List.set_cons_zero]
              refine takeD (i := 13) (v := ?_) (some 86) rfl rfl (by kernel_rfl) (by kernel_rfl) (by kernel_rfl) (fun _ _ _ h => h) (by rfl) hHeld ?_ ?_
              rotate_left
              · intro W hSw
                try dsimp only at hSw
                go_simp
                try with_reducible rfl
              try simp only [Act.put]
              try simp only [List.setIfInBounds_toArray]
              try simp only [List.set_cons_succ]
              try simp only [List.set_cons_zero]
              refine takeD (i := 14) (v := ?_) (some 87) rfl rfl (by kernel_rfl) (by kernel_rfl) (by kernel_rfl) (fun _ _ _ h => h) (by rfl) hHeld ?_ ?_
              rotate_left
              · intro W hSw
                try dsimp only at hSw
                go_simp
                try with_reducible rfl
              try simp only [Act.put]
              try simp only [List.setIfInBounds_toArray]
              try simp only [List.set_cons_succ]
              try simp only [List.set_cons_zero]
              obtain ⟨u0, u1, u2, u3⟩ := Y8.out.cells4
              obtain ⟨uf0, uf1, uf2, uf3, -⟩ := Y8.out.free5
              refine wpAnyH_ready (rs := [16]) (by kernel_rfl) (by simp) ?_
              refine AllReadyH.cons rfl (fun K hK => ?_) AllReadyH.nil
              go_simp
              try dsimp only
              refine hK.out _ _ ?_ (fun hHeld => ?_)
              · exact ⟨(ks4 _ _ _ _ _ _ (by omega)).trans st8, (Q6.out.after (bset4 N8.out hge8 _ _ _ _)).ho.cells5, (Q6.out.after (bset4 N8.out hge8 _ _ _ _)).wo.cells4⟩
              clear hK K
              refine takeD (i := 17) (v := ?_) (some 12) rfl rfl (by kernel_rfl) (by kernel_rfl) (by kernel_rfl) (fun _ _ _ h => h) (by rfl) hHeld ?_ ?_
              rotate_left
              · intro W hSw
                try dsimp only at hSw
                go_simp
                try with_reducible rfl
              try simp only [Act.put]
              try simp only [List.setIfInBounds_toArray]
              try simp only [List.set_cons_succ]
              try simp only [List.set_cons_zero]
              refine wpAnyH_done (by kernel_rfl) ?_ _
              go_wp2_with fail
              go_meet
              case rel => exact ⟨_, rfl, rfl, hide_it ⟨bset4 N8.out hge8 _ _ _ _, (((Y8.out.set_ 0 _).set_ 1 _).set_ 2 _).set_ 3 _, hge8⟩⟩
          · go_simp
            try dsimp only
            refine hK.out _ _ ?_ (fun hHeld => ?_)
            · exact ⟨(Q6.out.after ((alloc_below w6 _).drew)).ho.cells5, (Q6.out.after ((alloc_below w6 _).drew)).wo.cells4⟩
            clear hK K
            refine wpAnyH_ready (rs := [3]) (by kernel_rfl) (by simp) ?_
            refine AllReadyH.cons rfl (fun K hK => ?_) AllReadyH.nil
            go_simp
            refine (SF.out _ (B6.out.alloc B6.out.size _).drew).mono ?_
            rintro e w7 ⟨a7, c7, rfl, hH7, hb7, hrow7⟩
            have N7 := hide_it (b_alloc_drew hb7)
            have Y7 := hide_it (z_alloc_drew hb7)
            obtain ⟨b7, o7, cc7, hv7, st7, hlt7⟩ := state_at hH7 H6F.out hi
            simp only [Value.slice.injEq, true_and] at hv7
            obtain ⟨rfl, rfl⟩ := hv7
            have hge7 := hrow7 _ _ rfl
            clear hrow7
            rw [hsf.out] at st7
            clear hb7 hH7
            have hfs := fun W => field_stock room (some ⟨b7, o7, none⟩) 6 c7 W
            obtain ⟨x0, x1, x2, x3, x4⟩ := (Q6.out.after N7.out).ho.cells5
            obtain ⟨y0, y1, y2, y3⟩ := (Q6.out.after N7.out).wo.cells4
            try dsimp only
            refine hK.out _ _ ⟨⟨x0, x1, x2, x3, x4⟩, y0, y1, y2, y3⟩ (fun hHeld => ?_)
            clear hK K x0 x1 x2 x3 x4 y0 y1 y2 y3
            refine heldMono (S2 := (fun w' => w'.cell? ⟨b7, o7 + i * 2 + 1, none⟩ = some (.int .i64 sf) ∧ (w'.cell? ⟨w.heap.size, 0, none⟩ = some (.int .i64 h) ∧ w'.cell? ⟨w.heap.size, 1, none⟩ = some (.bool true) ∧ w'.cell? ⟨w.heap.size, 2, none⟩ = some (.int .i64 room) ∧ w'.cell? ⟨w.heap.size, 3, none⟩ = some (.slice av rs.length cv) ∧ w'.cell? ⟨w.heap.size, 4, none⟩ = some (.int .i64 f)) ∧ (w'.cell? ⟨w.heap.size + 1, 0, none⟩ = some (.int .i64 1) ∧ w'.cell? ⟨w.heap.size + 1, 1, none⟩ = some (.int .i64 h) ∧ w'.cell? ⟨w.heap.size + 1, 2, none⟩ = some (.int .i64 ((i : Int) + 1)) ∧ w'.cell? ⟨w.heap.size + 1, 3, none⟩ = some (.int .i64 m)))) (fun _ h => h.2) _ _ _ _ ?_
            replace hHeld := And.intro st7 hHeld
            refine takeD (i := 4) (v := ?_) (some 78) rfl rfl (by kernel_rfl) (by kernel_rfl) (by kernel_rfl) (fun _ _ _ h => h) (by rfl) hHeld ?_ ?_
            rotate_left
            · intro W hSw
              try dsimp only at hSw
              go_simp
              try with_reducible rfl
            try simp only [Act.put]
            try simp only [List.setIfInBounds_toArray]
            try simp only [List.set_cons_succ]
            try simp only [List.set_cons_zero]
            refine takeD (i := 8) (v := ?_) (some 82) rfl rfl (by kernel_rfl) (by kernel_rfl) (by kernel_rfl) (fun _ _ _ h => h) (by rfl) hHeld ?_ ?_
            rotate_left
            · intro W hSw
              try dsimp only at hSw
              go_simp
              try with_reducible rfl
            try simp only [Act.put]
            try simp only [List.setIfInBounds_toArray]
            try simp only [List.set_cons_succ]
            try simp only [List.set_cons_zero]
            refine takeD (i := 9) (v := ?_) (some 83) rfl rfl (by kernel_rfl) (by kernel_rfl) (by kernel_rfl) (fun _ _ _ h => h) (by rfl) hHeld ?_ ?_
            rotate_left
            · intro W hSw
              try dsimp only at hSw
              go_simp
              try with_reducible rfl
            try simp only [Act.put]
            try simp only [List.setIfInBounds_toArray]
            try simp only [List.set_cons_succ]
            try simp only [List.set_cons_zero]
            refine takeD (i := 10) (v := ?_) (some 84) rfl rfl (by kernel_rfl) (by kernel_rfl) (by kernel_rfl) (fun _ _ _ h => h) (by rfl) hHeld ?_ ?_
            rotate_left
            · intro W hSw
              try dsimp only at hSw
              go_simp
              try with_reducible rfl
            try simp only [Act.put]
            try simp only [List.setIfInBounds_toArray]
            try simp only [List.set_cons_succ]
            try simp only [List.set_cons_zero]
            have hne7 : b7 ≠ w6.heap.size := by simp at hge7; omega
            clear hge7
            refine wpAnyH_ready (rs := [11]) (by kernel_rfl) (by simp) ?_
            refine AllReadyH.cons rfl (fun K hK => ?_) AllReadyH.nil
            go_simp
            refine (HAN2.out _).mono ?_
            rintro e w8 ⟨rfl, hb8⟩
            have N8 := hide_it (N7.out.trans (hb8.mono N7.out.size))
            have st8 : w8.cell? ⟨b7, o7 + i * 2 + 1, none⟩ = some (.int .i64 sf) := by rw [← st7]; exact hb8.cell (p := ⟨b7, o7 + i * 2 + 1, none⟩) (by simpa using hlt7)
            have Y8 := hide_it (Y7.out.after hb8)
            clear hb8
            obtain ⟨x0, x1, x2, x3, x4⟩ := (Q6.out.after N8.out).ho.cells5
            obtain ⟨y0, y1, y2, y3⟩ := (Q6.out.after N8.out).wo.cells4
            try dsimp only
            refine hK.out _ _ ⟨st8, ⟨x0, x1, x2, x3, x4⟩, y0, y1, y2, y3⟩ (fun hHeld => ?_)
            clear hK K x0 x1 x2 x3 x4 y0 y1 y2 y3
            refine takeD (i := 12) (v := ?_) (some 73) rfl rfl (by kernel_rfl) (by kernel_rfl) (by kernel_rfl) (fun _ _ _ h => h) (by rfl) hHeld ?_ ?_
            rotate_left
            · intro W hSw
              try dsimp only at hSw
              go_simp
              try with_reducible rfl
            try simp only [Act.put]
            try simp only [List.setIfInBounds_toArray]
            try simp only [List.set_cons_succ]
            try simp only [List.set_cons_zero]
            refine takeD (i := 13) (v := ?_) (some 86) rfl rfl (by kernel_rfl) (by kernel_rfl) (by kernel_rfl) (fun _ _ _ h => h) (by rfl) hHeld ?_ ?_
            rotate_left
            · intro W hSw
              try dsimp only at hSw
              go_simp
              try with_reducible rfl
            try simp only [Act.put]
            try simp only [List.setIfInBounds_toArray]
            try simp only [List.set_cons_succ]
            try simp only [List.set_cons_zero]
            refine takeD (i := 14) (v := ?_) (some 87) rfl rfl (by kernel_rfl) (by kernel_rfl) (by kernel_rfl) (fun _ _ _ h => h) (by rfl) hHeld ?_ ?_
            rotate_left
            · intro W hSw
              try dsimp only at hSw
              go_simp
              try with_reducible rfl
            try simp only [Act.put]
            try simp only [List.setIfInBounds_toArray]
            try simp only [List.set_cons_succ]
            try simp only [List.set_cons_zero]
            obtain ⟨u0, u1, u2, u3⟩ := Y8.out.cells4
            obtain ⟨uf0, uf1, uf2, uf3, -⟩ := Y8.out.free5
            refine wpAnyH_ready (rs := [16]) (by kernel_rfl) (by simp) ?_
            refine AllReadyH.cons rfl (fun K hK => ?_) AllReadyH.nil
            go_simp
            try dsimp only
            refine hK.out _ _ ?_ (fun hHeld => ?_)
            · exact ⟨(ks4 _ _ _ _ _ _ hne7).trans st8, (Q6.out.after (bset4 N8.out (Nat.le_refl _) _ _ _ _)).ho.cells5, (Q6.out.after (bset4 N8.out (Nat.le_refl _) _ _ _ _)).wo.cells4⟩
            clear hK K
            refine takeD (i := 17) (v := ?_) (some 12) rfl rfl (by kernel_rfl) (by kernel_rfl) (by kernel_rfl) (fun _ _ _ h => h) (by rfl) hHeld ?_ ?_
            rotate_left
            · intro W hSw
              try dsimp only at hSw
              go_simp
              try with_reducible rfl
            try simp only [Act.put]
            try simp only [List.setIfInBounds_toArray]
            try simp only [List.set_cons_succ]
            try simp only [List.set_cons_zero]
            refine wpAnyH_done (by kernel_rfl) ?_ _
            go_wp2_with fail
            go_meet
            case rel => exact ⟨_, rfl, rfl, hide_it ⟨bset4 N8.out (Nat.le_refl _) _ _ _ _, (((Y8.out.set_ 0 _).set_ 1 _).set_ 2 _).set_ 3 _, Nat.le_refl _⟩⟩
        case rest =>
          obtain ⟨bw, rfl, rfl, HMET⟩ := hcut
          have NW := hide_it HMET.out.1
          have YW := hide_it HMET.out.2.1
          have hge : w6.heap.size ≤ bw := HMET.out.2.2
          clear HMET x0 x1 x2 x3 x4 y0 y1 y2 y3 s0 s1 c1
          have QW := hide_it (Q6.out.after NW.out)
          have MW := hide_it (M6.out.below NW.out (Nat.le_refl _))
          have LW := hide_it ((B6.out.trans (NW.out.mono B6.out.size)).mono hlo)
          have h63 := Q6.out.lt
          have n1 : bw ≠ w.heap.size + 1 + 1 := by omega
          have n2 : bw ≠ w.heap.size + 1 + 1 + 1 := by omega
          have n3 : w.heap.size + 1 + 1 ≠ bw := by omega
          have n4 : w.heap.size + 1 + 1 + 1 ≠ bw := by omega
          clear hge h63
          obtain ⟨x0, x1, x2, x3, x4⟩ := QW.out.ho.cells5
          obtain ⟨p0, p1, p2, p3⟩ := YW.out.cells4
          obtain ⟨z0, z1, z2, z3, z4⟩ := QW.out.zo.cells5
          obtain ⟨zf0, zf1, zf2, zf3, zf4⟩ := QW.out.zo.free5
          obtain ⟨q0, q1, q2, q3⟩ := QW.out.zw.cells4
          obtain ⟨qf0, qf1, qf2, qf3, -⟩ := QW.out.zw.free5
          go_wp2_with fail
          go_region_held (fun w' => (w'.cell? ⟨w.heap.size, 0, none⟩ = some (.int .i64 h) ∧ w'.cell? ⟨w.heap.size, 1, none⟩ = some (.bool true) ∧ w'.cell? ⟨w.heap.size, 2, none⟩ = some (.int .i64 room) ∧ w'.cell? ⟨w.heap.size, 3, none⟩ = some (.slice av rs.length cv) ∧ w'.cell? ⟨w.heap.size, 4, none⟩ = some (.int .i64 f)) ∧ (w'.cell? ⟨bw, 0, none⟩ = some (.int .i64 X1) ∧ w'.cell? ⟨bw, 1, none⟩ = some (.int .i64 X2) ∧ w'.cell? ⟨bw, 2, none⟩ = some (.int .i64 X3) ∧ w'.cell? ⟨bw, 3, none⟩ = some (.int .i64 0))) (first | (go_keep; done) | (refine ⟨⟨?_, ?_, ?_, ?_, ?_⟩, ?_, ?_, ?_, ?_⟩ <;> simp [go_sem, *])) (fail)
          all_goals
            go_wp2
            refine bodyPost_ret (v := .tuple #[houseV h true room (.slice av rs.length cv) f, wordV X1 X2 X3 0, .bool YB]) (by simp [results, Tryz.results27, go_sem, *]) rfl ?_
            exact ⟨av, cv, rfl, (Made.handed MW.out QW.out _ _ _ _ _ _ _ _ _).below (Below.refl _ _).drew (Nat.le_refl _), (Below.handed LW.out hlo _ _ _ _ _ _ _ _ _).drew⟩
  · -- it may come
    obtain ⟨RS, hRS⟩ : ∃ x, Hid (rs ++ [(k, (i : Int) + 1, ZS)] = x) := ⟨_, rfl⟩
    have hRl : Hid (RS.length = rs.length + 1) := by show _ = _; rw [← hRS.out]; simp
    have hO1 : OO = ((h, true, room, RS, f), (0, 0, 0), false) := by
      rw [← hRS.out, ← hOO.out, ← hZS.out]; exact hearO'_may HHB.out HMY2.out
    subst hO1
    have LA : Hid (Calls Tryz.prog 63 #[.agg #[.slice av rs.length cv, .int .i64 f], .agg #[.int .i64 k, .int .i64 ((i : Int) + 1), .slice au ZS.length cu]] w6 fun e w' => ∃ g cap', e = .returned (.tuple #[.agg #[.slice (some ⟨g, 0, none⟩) RS.length cap', .int .i64 f], .bool true]) ∧ Made w' lo (.slice (some ⟨g, 0, none⟩) RS.length cap') RS ∧ Below lo w6 w' ∧ Mid lo w.heap.size w6 w') := by
      obtain ⟨ps, hp, ho⟩ := HM.out
      have hpl : ps.length = rs.length := by have := congrArg List.length hp; simpa using this
      have ho6 := ho.below B6.out (Nat.le_refl _)
      rw [← hpl] at ho6
      have h := l1Add_mid av cv ps f (k, (i : Int) + 1, ZS) au cu lo w.heap.size w6 ho6 (Nat.le_trans hlo B6.out.size) (ownsRow_base R6.out (by omega)) (fun j hj => by have := (R6.out.lt j hj).1; omega) (by omega)
      rw [hp, hRS.out, hpl, ← hRl.out] at h
      exact h
    obtain ⟨x0, x1, x2, x3, x4⟩ := Q6.out.ho.cells5
    obtain ⟨t0, t1, t2⟩ := T6.out.cells3
    go_wp2_with fail
    refine LA.out.mono ?_
    rintro e w7 ⟨g, c7, rfl, hm7, hb7, hmid⟩
    have Q7 := hide_it (Q6.out.mid hmid (Nat.le_refl _))
    have M7 := hide_it hm7
    have L7 := hide_it ((B6.out.mono hlo).trans hb7)
    have hs7 : w.heap.size + 3 < w7.heap.size := Q7.out.lt
    clear hm7 hb7 hmid x0 x1 x2 x3 x4 t0 t1 t2
    obtain ⟨x0, x1, x2, x3, x4⟩ := Q7.out.ho.cells5
    obtain ⟨xf0, xf1, xf2, xf3, xf4⟩ := Q7.out.ho.free5
    obtain ⟨z0, z1, z2, z3, z4⟩ := Q7.out.zo.cells5
    obtain ⟨zf0, zf1, zf2, zf3, zf4⟩ := Q7.out.zo.free5
    obtain ⟨q0, q1, q2, q3⟩ := Q7.out.zw.cells4
    obtain ⟨qf0, qf1, qf2, qf3, -⟩ := Q7.out.zw.free5
    have n0 : w.heap.size < w7.heap.size := by omega
    have n2 : w.heap.size + 1 + 1 < w7.heap.size := by omega
    have n3 : w.heap.size + 1 + 1 + 1 < w7.heap.size := by omega
    go_wp2
    obtain ⟨w8, hw8⟩ : ∃ W, Hid (W = (w7.setCell ⟨w.heap.size, 3, none⟩ (.slice (some ⟨g, 0, none⟩) RS.length c7)).setCell ⟨w.heap.size, 4, none⟩ (.int .i64 f)) := ⟨_, rfl⟩
    have M8 : Hid (Made w8 lo (.slice (some ⟨g, 0, none⟩) RS.length c7) RS) := by
      show Made _ _ _ _
      rw [hw8.out]
      exact (M7.out.setBlk (j := 3) Q7.out.ho (by decide) (by decide) _).setBlk (j := 4) (Q7.out.ho.set_ 3 _) (by decide) (by decide) _
    have Q8 : Hid (Four w8 w.heap.size h true room (.slice (some ⟨g, 0, none⟩) RS.length c7) f k h ((i : Int) + 1) m) := by
      show Four _ _ _ _ _ _ _ _ _ _ _
      rw [hw8.out]
      exact ⟨(Q7.out.ho.set_ 3 _).set_ 4 _, (Q7.out.wo.other (by simp) _).other (by simp) _, (Q7.out.zo.other (by simp) _).other (by simp) _, (Q7.out.zw.other (by simp) _).other (by simp) _⟩
    have L8 : Hid (Below lo w w8) := by
      show Below _ _ _
      rw [hw8.out]
      exact (L7.out.setCell (by simp; omega) _).setCell (by simp; omega) _
    have hs8 : Hid (w8.heap.size = w7.heap.size) := by show _ = _; rw [hw8.out]; simp
    rw [← hw8.out]
    clear x0 x1 x2 x3 x4 xf0 xf1 xf2 xf3 xf4 z0 z1 z2 z3 z4 zf0 zf1 zf2 zf3 zf4 q0 q1 q2 q3 qf0 qf1 qf2 qf3 n0 n2 n3
    obtain ⟨w9, hw9⟩ : ∃ W, Hid (W = ((((((((w8.setCell ⟨w.heap.size + 1 + 1, 0, none⟩ (.int .i64 h)).setCell ⟨w.heap.size + 1 + 1, 1, none⟩ (.bool true)).setCell ⟨w.heap.size + 1 + 1, 2, none⟩ (.int .i64 room)).setCell ⟨w.heap.size + 1 + 1, 3, none⟩ (.slice (some ⟨g, 0, none⟩) RS.length c7)).setCell ⟨w.heap.size + 1 + 1, 4, none⟩ (.int .i64 f)).setCell ⟨w.heap.size + 1 + 1 + 1, 0, none⟩ (.int .i64 0)).setCell ⟨w.heap.size + 1 + 1 + 1, 1, none⟩ (.int .i64 0)).setCell ⟨w.heap.size + 1 + 1 + 1, 2, none⟩ (.int .i64 0)).setCell ⟨w.heap.size + 1 + 1 + 1, 3, none⟩ (.int .i64 0)) := ⟨_, rfl⟩
    have M9 : Hid (Made w9 lo (.slice (some ⟨g, 0, none⟩) RS.length c7) RS) := by show Made _ _ _ _; rw [hw9.out]; exact Made.handed M8.out Q8.out _ _ _ _ _ _ _ _ _
    have L9 : Hid (Below lo w w9) := by show Below _ _ _; rw [hw9.out]; exact Below.handed L8.out hlo _ _ _ _ _ _ _ _ _
    have Z9 : Hid (Blk w9 (w.heap.size + 1 + 1) #[.int .i64 h, .bool true, .int .i64 room, .slice (some ⟨g, 0, none⟩) RS.length c7, .int .i64 f] 34) := by
      show Blk _ _ _ _
      rw [hw9.out]
      refine Blk.other (Blk.other (Blk.other (Blk.other ?_ (by simp) _) (by simp) _) (by simp) _) (by simp) _
      exact ((((Q8.out.zo.set_ 0 _).set_ 1 _).set_ 2 _).set_ 3 _).set_ 4 _
    have W9 : Hid (Blk w9 (w.heap.size + 1 + 1 + 1) #[.int .i64 0, .int .i64 0, .int .i64 0, .int .i64 0] 35) := by
      show Blk _ _ _ _
      rw [hw9.out]
      refine Blk.set_ (Blk.set_ (Blk.set_ (Blk.set_ (cs := #[.int .i64 0, .int .i64 0, .int .i64 0, .int .i64 0]) ?_ 0 _) 1 _) 2 _) 3 _
      exact Blk.other (Blk.other (Blk.other (Blk.other (Blk.other Q8.out.zw (by simp) _) (by simp) _) (by simp) _) (by simp) _) (by simp) _
    have hs9 : w9.heap.size = w7.heap.size := by rw [hw9.out]; simp [hs8.out]
    rw [← hw9.out]
    obtain ⟨z0, z1, z2, z3, z4⟩ := (Z9.out.alloc (.cells #[.slice (some ⟨g, 0, none⟩) RS.length c7, .int .i64 f] 32)).cells5
    obtain ⟨q0, q1, q2, q3⟩ := (W9.out.alloc (.cells #[.slice (some ⟨g, 0, none⟩) RS.length c7, .int .i64 f] 32)).cells4
    refine bodyPost_ret (v := .tuple #[houseV h true room (.slice (some ⟨g, 0, none⟩) RS.length c7) f, wordV 0 0 0 0, .bool false]) (by simp only [results, Tryz.results27]; simp [go_sem, z0, z1, z2, z3, z4, q0, q1, q2, q3]) rfl ?_
    exact ⟨some ⟨g, 0, none⟩, c7, rfl, M9.out.below (alloc_below _ _) (Nat.le_refl _), L9.out.alloc (by have := L9.out.size; omega) _⟩

end Go.Proofs.YthllcffmpeopcaaGreatDoor

namespace Go.Proofs.YthllcffmpeopcaaGreatDoor
open Go.RowKit

theorem form_made {w : World} {lo cap : Nat} {ao : Option Addr} {rs : List R} (h : Made w lo (.slice ao rs.length cap) rs) : Form (.slice ao rs.length cap) rs.length := by
  rcases h.form with ⟨rfl, rfl, rfl⟩ | ⟨g, rfl, hc⟩
  · exact Or.inl ⟨rfl, rfl⟩
  · exact Or.inr ⟨g, cap, rfl, hc⟩

end Go.Proofs.YthllcffmpeopcaaGreatDoor

namespace Go.Proofs.YthllcffmpeopcaaGreatDoor
open Go.RowKit

theorem l11Hear_any (id : Int) (up : Bool) (room : Int) (rs : List R) (f k h t m : Int) (hs hf : List Pl.H) (ao : Option Addr) (cap lo : Nat) (W : World) (hm : Made W lo (.slice ao rs.length cap) rs) (hlo : lo ≤ W.heap.size) (hl : tot rs ≤ 1048576)
    (lf0 : 0 ≤ f) (lf1 : f ≤ rs.length) (h12 : rs.length ≤ 12) (eA : Pl.sOf room rs = some hs) (eF : Pl.sOf room (rs.take f.toNat) = some hf) :
    Calls Tryz.prog 27 #[houseV id up room (.slice ao rs.length cap) f, wordV k h t m] W fun e w' => HeOutL lo W w' e (hearO' id up room rs f k h t m hs hf) := by
  cases hhb : Pl.hearB id up k h t m
  · rw [hearO'_not hhb]
    exact l11Hear_not id up room _ rs f k h t m lo W hm ⟨ao, cap, rfl⟩ hlo hhb
  · obtain ⟨rfl, rfl, hk, ht, hrec⟩ := Pl.hearB_parts hhb
    obtain ⟨i, hi, rfl, _⟩ := trip_at hrec
    exact l11Hear_yes room _ rs f k h m i hs hf lo W hm ⟨ao, cap, rfl⟩ (form_made hm) hlo hl lf0 lf1 h12 eA eF hhb hi

set_option maxRecDepth 100000 in
set_option maxHeartbeats 8000000 in
theorem specHear_any (id : Int) (up : Bool) (room : Int) (v : Value) (rs : List R) (f k h t m : Int) (w : World) (hv : Recs w v rs) (hl : tot rs ≤ 1048576) :
    Calls Tryz.prog 9 #[houseV id up room v f, wordV k h t m] w fun e w' => HeOut w w' e (hearO id up room rs f k h t m) := by
  have hrl := tot_len rs
  have HV : Hid (∀ W, Below w.heap.size w W → Recs W v rs) := fun W h => hv.later h (Nat.le_refl _)
  have HOK : Hid (∀ W, Below w.heap.size w W → Calls Tryz.prog 19 #[houseV id up room v f] W fun e w' => e = .returned (.bool (hoOk id room rs f)) ∧ Below W.heap.size W w') := fun W h =>
    specHouseOk_any id up room v rs f W (HV.out W h) hl
  obtain ⟨av, cv, rfl⟩ := hv.shape
  clear hv
  obtain ⟨w0, hw0⟩ : ∃ W, Hid (W = (((w.alloc (.cells #[.int .i64 id, .bool up, .int .i64 room, .slice av rs.length cv, .int .i64 f] 34)).alloc (.cells #[.int .i64 k, .int .i64 h, .int .i64 t, .int .i64 m] 35)).alloc (.cells #[.int .i64 0, .bool false, .int .i64 0, .slice none 0 0, .int .i64 0] 34)).alloc (.cells #[.int .i64 0, .int .i64 0, .int .i64 0, .int .i64 0] 35)) := ⟨_, rfl⟩
  have B0 : Hid (Below w.heap.size w w0) := by show Below _ _ _; rw [hw0.out]; exact below4 _ _ _ _ _
  have Q0 : Hid (Four w0 w.heap.size id up room (.slice av rs.length cv) f k h t m) := by show Four _ _ _ _ _ _ _ _ _ _ _; rw [hw0.out]; exact Four.new _ _ _ _ _ _ _ _ _ _
  have hs0 : w0.heap.size = w.heap.size + 4 := by rw [hw0.out, size4]
  cases hok : hoOk id room rs f
  · rw [hearO_no hok]
    rw [hok] at HOK
    clear hok
    go_enter Tryz.func9, Tryz.ntmps9
    go_wp2_with fail
    rw [← hw0.out]
    refine (HOK.out _ B0.out).mono ?_
    rintro e w1 ⟨rfl, hb⟩
    have Q1 := hide_it (Q0.out.after hb)
    have HB := hide_it (B0.out.trans (hb.mono B0.out.size))
    clear hb
    obtain ⟨z0, z1, z2, z3, z4⟩ := Q1.out.zo.cells5
    obtain ⟨zf0, zf1, zf2, zf3, zf4⟩ := Q1.out.zo.free5
    obtain ⟨q0, q1, q2, q3⟩ := Q1.out.zw.cells4
    obtain ⟨qf0, qf1, qf2, qf3, -⟩ := Q1.out.zw.free5
    go_wp2
    refine bodyPost_ret (v := .tuple #[houseV 0 false 0 (.slice none 0 0) 0, wordV 0 0 0 0, .bool false]) (by simp [results, Tryz.results9, go_sem, *]) rfl (HeOut.none_ ?_)
    repeat (refine Below.setCell ?_ (by first | (simp; done) | (simp; omega)) _)
    exact HB.out
  obtain ⟨hs, hf, eA, eF, h12, lf0, lf1, hlog⟩ := hear_ready hok
  rw [hearO_ok hok eA eF]
  rw [hok] at HOK
  obtain ⟨⟨⟨ID, UP, ROOM, RS, F⟩, ⟨X1, X2, X3⟩, YB⟩, hOO⟩ : ∃ o : He, Hid (hearO' id up room rs f k h t m hs hf = o) := ⟨_, rfl⟩
  have HLH : Hid (∀ (ao : Option Addr) (cap lo : Nat) (W : World), Made W lo (.slice ao rs.length cap) rs → lo ≤ W.heap.size → Calls Tryz.prog 27 #[houseV id up room (.slice ao rs.length cap) f, wordV k h t m] W fun e w' => ∃ ao' cap', e = .returned (.tuple #[houseV ID UP ROOM (.slice ao' RS.length cap') F, wordV X1 X2 X3 0, .bool YB]) ∧ Made w' lo (.slice ao' RS.length cap') RS ∧ Below lo W w') := fun ao cap lo W h1 h2 => by
    have := l11Hear_any id up room rs f k h t m hs hf ao cap lo W h1 h2 hl lf0 lf1 h12 eA eF
    rw [hOO.out] at this; exact this
  rw [hOO.out]
  clear hok eA eF hlog
  go_enter Tryz.func9, Tryz.ntmps9
  go_wp2_with fail
  rw [← hw0.out]
  refine (HOK.out _ B0.out).mono ?_
  rintro e w1 ⟨rfl, hb1⟩
  have Q1 := hide_it (Q0.out.after hb1)
  have B1 := hide_it (B0.out.trans (hb1.mono B0.out.size))
  have hs1 : w.heap.size + 4 ≤ w1.heap.size := by have := hb1.size; omega
  obtain ⟨x0, x1, x2, x3, x4⟩ := Q1.out.ho.cells5
  obtain ⟨y0, y1, y2, y3⟩ := Q1.out.wo.cells4
  clear hb1
  go_wp2_with fail
  go_region_held (fun w' => (w'.cell? ⟨w.heap.size, 0, none⟩ = some (.int .i64 id) ∧ w'.cell? ⟨w.heap.size, 1, none⟩ = some (.bool up) ∧ w'.cell? ⟨w.heap.size, 2, none⟩ = some (.int .i64 room) ∧ w'.cell? ⟨w.heap.size, 3, none⟩ = some (.slice av rs.length cv) ∧ w'.cell? ⟨w.heap.size, 4, none⟩ = some (.int .i64 f)) ∧ (w'.cell? ⟨w.heap.size + 1, 0, none⟩ = some (.int .i64 k) ∧ w'.cell? ⟨w.heap.size + 1, 1, none⟩ = some (.int .i64 h) ∧ w'.cell? ⟨w.heap.size + 1, 2, none⟩ = some (.int .i64 t) ∧ w'.cell? ⟨w.heap.size + 1, 3, none⟩ = some (.int .i64 m))) (first | (go_keep; done) | (refine ⟨⟨?_, ?_, ?_, ?_, ?_⟩, ?_, ?_, ?_, ?_⟩ <;> simp [go_sem, *]))
    (first
    | (go_at_call 28; refine (l11Copy_any id up room _ rs f _ (HV.out _ B1.out.drew) hl).mono ?_; rintro e w2 ⟨a2, c2, rfl, hm2, hb2⟩; have N2 := hide_it ((Below.refl w1.heap.size w1).drew.trans hb2); have M2 : Hid (Made w2 w1.heap.size (.slice a2 rs.length c2) rs) := hide_it hm2; have Q2 := hide_it (Q1.out.after N2.out); obtain ⟨d0, d1, d2, d3, d4⟩ := Q2.out.ho.cells5; obtain ⟨j0, j1, j2, j3⟩ := Q2.out.wo.cells4; have hz2 : w1.heap.size ≤ w2.heap.size := N2.out.size; clear hm2 hb2)
    | (go_at_call 27; refine (HLH.out _ _ _ _ M2.out hz2).mono ?_; rintro e w3 ⟨ao, cap, rfl, hm3, hb3⟩; have Q3 := hide_it (Q2.out.later hb3 hs1); have M3 := hide_it hm3; have L3 := hide_it (N2.out.trans hb3); have HB := hide_it (B1.out.trans (L3.out.mono B1.out.size)); obtain ⟨p0, p1, p2, p3, p4⟩ := Q3.out.ho.cells5; obtain ⟨r0, r1, r2, r3⟩ := Q3.out.wo.cells4; obtain ⟨z0, z1, z2, z3, z4⟩ := Q3.out.zo.cells5; obtain ⟨zf0, zf1, zf2, zf3, zf4⟩ := Q3.out.zo.free5; obtain ⟨q0, q1, q2, q3⟩ := Q3.out.zw.cells4; obtain ⟨qf0, qf1, qf2, qf3, -⟩ := Q3.out.zw.free5; clear hm3 hb3))
  all_goals
    go_wp2
    refine bodyPost_ret (v := .tuple #[houseV ID UP ROOM (.slice ao RS.length cap) F, wordV X1 X2 X3 0, .bool YB]) (by simp [results, Tryz.results9, go_sem, *]) rfl ?_
    exact ⟨ao, cap, rfl, (Made.handed M3.out Q3.out _ _ _ _ _ _ _ _ _).lo (by omega), Below.handed HB.out (Nat.le_refl _) _ _ _ _ _ _ _ _ _⟩

end Go.Proofs.YthllcffmpeopcaaGreatDoor

namespace Go.Proofs.YthllcffmpeopcaaGreatDoor
open Go.RowKit

/-- A store into a block that is neither of records nor of numbers leaves records that a call made. -/
theorem OwnRecs.setBlk {w : World} {lo hi b j : Nat} {v : Value} {ps : List (R × Value)} {cur : Array Value} {ty : TypeId} (h : OwnRecs w lo hi v ps) (hh : Blk w b cur ty) (h1 : 62 ≠ ty) (h2 : 3 ≠ ty) (x : Value) : OwnRecs (w.setCell ⟨b, j, Option.none⟩ x) lo hi v ps := by
  obtain ⟨r1, r2, r3⟩ := h
  have hs : (w.setCell ⟨b, j, Option.none⟩ x).heap.size = w.heap.size := by simp
  have ap : ∀ {e : TypeId} {sz n : Nat} {y : Value} {xs : List Value}, w.ownsRow lo e sz y n xs → e ≠ ty → ∀ g, y.ownBlock = some g → g ≠ b := fun hr he g hg => by
    rcases hr.2 with ⟨hv, _⟩ | ⟨g', cap, cur', hv, _, hc, _⟩
    · rw [hv] at hg; simp [Value.ownBlock] at hg
    · rw [hv] at hg
      simp [Value.ownBlock] at hg
      subst hg
      intro e2
      subst e2
      unfold Blk at hh
      rw [hh] at hc
      simp at hc
      exact he hc.2.symm
  refine ⟨ownsRow_setCell_ne r1 (ap r1 h1) x, r2, ?_⟩
  exact ⟨by rw [hs]; exact r3.1, fun p hp => ⟨ownsRow_setCell_ne (r3.2.1 p hp).1 (ap (r3.2.1 p hp).1 h2) x, (r3.2.1 p hp).2⟩, r3.2.2⟩

/-- Behind such a statement: a block with the house, one with the word, the records in memory of the call's own, apart from both. -/
structure MetE (w0 W : World) (bh bw : Nat) (ID : Int) (UP : Bool) (ROOM : Int) (v : Value) (F X1 X2 X3 : Int) (ps : List (R × Value)) (lo hi : Nat) : Prop where
  be : Below w0.heap.size w0 W
  ho : Blk W bh #[.int .i64 ID, .bool UP, .int .i64 ROOM, v, .int .i64 F] 34
  wo : Blk W bw #[.int .i64 X1, .int .i64 X2, .int .i64 X3, .int .i64 0] 35
  ow : OwnRecs W lo hi v ps
  hh : w0.heap.size ≤ bh
  hw : w0.heap.size ≤ bw
  ah : bh < lo ∨ hi ≤ bh
  aw : bw < lo ∨ hi ≤ bw
  hl : w0.heap.size ≤ lo
  hz : hi ≤ W.heap.size
section
variable {w0 w5 : World} {bh bw lo : Nat} {ID : Int} {UP : Bool} {ROOM : Int} {v : Value} {F X1 X2 X3 : Int} {ps : List (R × Value)}
theorem met_hw (hb : Below w0.heap.size w0 w5) (hm : OwnRecs w5 lo w5.heap.size v ps) (hl : w0.heap.size ≤ lo) : MetE w0 ((w5.alloc (.cells #[.int .i64 ID, .bool UP, .int .i64 ROOM, v, .int .i64 F] 34)).alloc (.cells #[.int .i64 X1, .int .i64 X2, .int .i64 X3, .int .i64 0] 35)) w5.heap.size (w5.heap.size + 1) ID UP ROOM v F X1 X2 X3 ps lo w5.heap.size :=
  ⟨(hb.alloc hb.size _).alloc (by have := hb.size; simp; omega) _, (Blk.new _ _ _).alloc _, Blk.new2 _ _ _ _, (hm.below (alloc_below _ _) (Nat.le_refl _)).below (alloc_below _ _) (by simp), hb.size, by have := hb.size; omega, Or.inr (Nat.le_refl _), Or.inr (by omega), hl, by simp; omega⟩
theorem met_wh (hb : Below w0.heap.size w0 w5) (hm : OwnRecs w5 lo w5.heap.size v ps) (hl : w0.heap.size ≤ lo) : MetE w0 ((w5.alloc (.cells #[.int .i64 X1, .int .i64 X2, .int .i64 X3, .int .i64 0] 35)).alloc (.cells #[.int .i64 ID, .bool UP, .int .i64 ROOM, v, .int .i64 F] 34)) (w5.heap.size + 1) w5.heap.size ID UP ROOM v F X1 X2 X3 ps lo w5.heap.size :=
  ⟨(hb.alloc hb.size _).alloc (by have := hb.size; simp; omega) _, Blk.new2 _ _ _ _, (Blk.new _ _ _).alloc _, (hm.below (alloc_below _ _) (Nat.le_refl _)).below (alloc_below _ _) (by simp), by have := hb.size; omega, hb.size, Or.inr (by omega), Or.inr (Nat.le_refl _), hl, by simp; omega⟩
theorem own_h5 {hi : Nat} (hm : OwnRecs w5 lo hi v ps) (hy : Blk w5 bh #[.int .i64 0, .bool false, .int .i64 0, .slice none 0 0, .int .i64 0] 34) : OwnRecs (((((w5.setCell ⟨bh, 0, none⟩ (.int .i64 ID)).setCell ⟨bh, 1, none⟩ (.bool UP)).setCell ⟨bh, 2, none⟩ (.int .i64 ROOM)).setCell ⟨bh, 3, none⟩ v).setCell ⟨bh, 4, none⟩ (.int .i64 F)) lo hi v ps := by
  have e0 := hy.set_ 0 (.int .i64 ID)
  have e1 := e0.set_ 1 (.bool UP)
  have e2 := e1.set_ 2 (.int .i64 ROOM)
  have e3 := e2.set_ 3 v
  exact ((((hm.setBlk (j := 0) hy (by decide) (by decide) _).setBlk (j := 1) e0 (by decide) (by decide) _).setBlk (j := 2) e1 (by decide) (by decide) _).setBlk (j := 3) e2 (by decide) (by decide) _).setBlk (j := 4) e3 (by decide) (by decide) _
theorem own_w4 {hi : Nat} (hm : OwnRecs w5 lo hi v ps) (hy : Blk w5 bw #[.int .i64 0, .int .i64 0, .int .i64 0, .int .i64 0] 35) : OwnRecs ((((w5.setCell ⟨bw, 0, none⟩ (.int .i64 X1)).setCell ⟨bw, 1, none⟩ (.int .i64 X2)).setCell ⟨bw, 2, none⟩ (.int .i64 X3)).setCell ⟨bw, 3, none⟩ (.int .i64 0)) lo hi v ps := by
  have e0 := hy.set_ 0 (.int .i64 X1)
  have e1 := e0.set_ 1 (.int .i64 X2)
  have e2 := e1.set_ 2 (.int .i64 X3)
  exact (((hm.setBlk (j := 0) hy (by decide) (by decide) _).setBlk (j := 1) e0 (by decide) (by decide) _).setBlk (j := 2) e1 (by decide) (by decide) _).setBlk (j := 3) e2 (by decide) (by decide) _
theorem blk_h5 (hy : Blk w5 bh #[.int .i64 0, .bool false, .int .i64 0, .slice none 0 0, .int .i64 0] 34) : Blk (((((w5.setCell ⟨bh, 0, none⟩ (.int .i64 ID)).setCell ⟨bh, 1, none⟩ (.bool UP)).setCell ⟨bh, 2, none⟩ (.int .i64 ROOM)).setCell ⟨bh, 3, none⟩ v).setCell ⟨bh, 4, none⟩ (.int .i64 F)) bh #[.int .i64 ID, .bool UP, .int .i64 ROOM, v, .int .i64 F] 34 := ((((hy.set_ 0 _).set_ 1 _).set_ 2 _).set_ 3 _).set_ 4 _
theorem blk_w4 (hy : Blk w5 bw #[.int .i64 0, .int .i64 0, .int .i64 0, .int .i64 0] 35) : Blk ((((w5.setCell ⟨bw, 0, none⟩ (.int .i64 X1)).setCell ⟨bw, 1, none⟩ (.int .i64 X2)).setCell ⟨bw, 2, none⟩ (.int .i64 X3)).setCell ⟨bw, 3, none⟩ (.int .i64 0)) bw #[.int .i64 X1, .int .i64 X2, .int .i64 X3, .int .i64 0] 35 := (((hy.set_ 0 _).set_ 1 _).set_ 2 _).set_ 3 _
theorem blk_h5o {b : Nat} {cs : Array Value} {ty : TypeId} (hy : Blk w5 b cs ty) (hn : b ≠ bh) : Blk (((((w5.setCell ⟨bh, 0, none⟩ (.int .i64 ID)).setCell ⟨bh, 1, none⟩ (.bool UP)).setCell ⟨bh, 2, none⟩ (.int .i64 ROOM)).setCell ⟨bh, 3, none⟩ v).setCell ⟨bh, 4, none⟩ (.int .i64 F)) b cs ty := ((((hy.other hn _).other hn _).other hn _).other hn _).other hn _
theorem blk_w4o {b : Nat} {cs : Array Value} {ty : TypeId} (hy : Blk w5 b cs ty) (hn : b ≠ bw) : Blk ((((w5.setCell ⟨bw, 0, none⟩ (.int .i64 X1)).setCell ⟨bw, 1, none⟩ (.int .i64 X2)).setCell ⟨bw, 2, none⟩ (.int .i64 X3)).setCell ⟨bw, 3, none⟩ (.int .i64 0)) b cs ty := (((hy.other hn _).other hn _).other hn _).other hn _
theorem bel_h5 (hb : Below w0.heap.size w0 w5) (hh : w0.heap.size ≤ bh) : Below w0.heap.size w0 (((((w5.setCell ⟨bh, 0, none⟩ (.int .i64 ID)).setCell ⟨bh, 1, none⟩ (.bool UP)).setCell ⟨bh, 2, none⟩ (.int .i64 ROOM)).setCell ⟨bh, 3, none⟩ v).setCell ⟨bh, 4, none⟩ (.int .i64 F)) := ((((hb.setCell hh _).setCell hh _).setCell hh _).setCell hh _).setCell hh _
theorem bel_w4 (hb : Below w0.heap.size w0 w5) (hh : w0.heap.size ≤ bw) : Below w0.heap.size w0 ((((w5.setCell ⟨bw, 0, none⟩ (.int .i64 X1)).setCell ⟨bw, 1, none⟩ (.int .i64 X2)).setCell ⟨bw, 2, none⟩ (.int .i64 X3)).setCell ⟨bw, 3, none⟩ (.int .i64 0)) := (((hb.setCell hh _).setCell hh _).setCell hh _).setCell hh _
theorem ne_hw {W : World} (h1 : Blk W bh #[.int .i64 0, .bool false, .int .i64 0, .slice none 0 0, .int .i64 0] 34) (h2 : Blk W bw #[.int .i64 0, .int .i64 0, .int .i64 0, .int .i64 0] 35) : bh ≠ bw := by
  intro e; subst e; unfold Blk at h1 h2; rw [h1] at h2; simp at h2
theorem met_ss (hb : Below w0.heap.size w0 w5) (hm : OwnRecs w5 lo w5.heap.size v ps) (hl : w0.heap.size ≤ lo) (yh : Blk w5 bh #[.int .i64 0, .bool false, .int .i64 0, .slice none 0 0, .int .i64 0] 34) (yw : Blk w5 bw #[.int .i64 0, .int .i64 0, .int .i64 0, .int .i64 0] 35) (hh : w0.heap.size ≤ bh) (hw : w0.heap.size ≤ bw) (ah : bh < lo) (aw : bw < lo) : MetE w0 (((((((((w5.setCell ⟨bh, 0, none⟩ (.int .i64 ID)).setCell ⟨bh, 1, none⟩ (.bool UP)).setCell ⟨bh, 2, none⟩ (.int .i64 ROOM)).setCell ⟨bh, 3, none⟩ v).setCell ⟨bh, 4, none⟩ (.int .i64 F)).setCell ⟨bw, 0, none⟩ (.int .i64 X1)).setCell ⟨bw, 1, none⟩ (.int .i64 X2)).setCell ⟨bw, 2, none⟩ (.int .i64 X3)).setCell ⟨bw, 3, none⟩ (.int .i64 0)) bh bw ID UP ROOM v F X1 X2 X3 ps lo w5.heap.size := by
  have hn := ne_hw yh yw
  have yw2 := blk_h5o (ID := ID) (UP := UP) (ROOM := ROOM) (v := v) (F := F) yw (fun e => hn e.symm)
  exact ⟨bel_w4 (bel_h5 hb hh) hw, blk_w4o (blk_h5 yh) hn, blk_w4 yw2, own_w4 (own_h5 hm yh) yw2, hh, hw, Or.inl ah, Or.inl aw, hl, by simp⟩
theorem met_sw (hb : Below w0.heap.size w0 w5) (hm : OwnRecs w5 lo w5.heap.size v ps) (hl : w0.heap.size ≤ lo) (yh : Blk w5 bh #[.int .i64 0, .bool false, .int .i64 0, .slice none 0 0, .int .i64 0] 34) (hh : w0.heap.size ≤ bh) (ah : bh < lo) : MetE w0 ((((((w5.setCell ⟨bh, 0, none⟩ (.int .i64 ID)).setCell ⟨bh, 1, none⟩ (.bool UP)).setCell ⟨bh, 2, none⟩ (.int .i64 ROOM)).setCell ⟨bh, 3, none⟩ v).setCell ⟨bh, 4, none⟩ (.int .i64 F)).alloc (.cells #[.int .i64 X1, .int .i64 X2, .int .i64 X3, .int .i64 0] 35)) bh w5.heap.size ID UP ROOM v F X1 X2 X3 ps lo w5.heap.size := by
  have hz : (((((w5.setCell ⟨bh, 0, none⟩ (.int .i64 ID)).setCell ⟨bh, 1, none⟩ (.bool UP)).setCell ⟨bh, 2, none⟩ (.int .i64 ROOM)).setCell ⟨bh, 3, none⟩ v).setCell ⟨bh, 4, none⟩ (.int .i64 F)).heap.size = w5.heap.size := by simp
  have hB := bel_h5 (ID := ID) (UP := UP) (ROOM := ROOM) (v := v) (F := F) hb hh
  refine ⟨hB.alloc hB.size _, (blk_h5 yh).alloc _, ?_, (own_h5 hm yh).below (alloc_below _ _) (by rw [hz]; exact Nat.le_refl _), hh, hb.size, Or.inl ah, Or.inr (Nat.le_refl _), hl, by simp⟩
  have h := Blk.new (((((w5.setCell ⟨bh, 0, none⟩ (.int .i64 ID)).setCell ⟨bh, 1, none⟩ (.bool UP)).setCell ⟨bh, 2, none⟩ (.int .i64 ROOM)).setCell ⟨bh, 3, none⟩ v).setCell ⟨bh, 4, none⟩ (.int .i64 F)) #[.int .i64 X1, .int .i64 X2, .int .i64 X3, .int .i64 0] 35
  rw [hz] at h
  exact h
theorem met_sh (hb : Below w0.heap.size w0 w5) (hm : OwnRecs w5 lo w5.heap.size v ps) (hl : w0.heap.size ≤ lo) (yw : Blk w5 bw #[.int .i64 0, .int .i64 0, .int .i64 0, .int .i64 0] 35) (hw : w0.heap.size ≤ bw) (aw : bw < lo) : MetE w0 (((((w5.setCell ⟨bw, 0, none⟩ (.int .i64 X1)).setCell ⟨bw, 1, none⟩ (.int .i64 X2)).setCell ⟨bw, 2, none⟩ (.int .i64 X3)).setCell ⟨bw, 3, none⟩ (.int .i64 0)).alloc (.cells #[.int .i64 ID, .bool UP, .int .i64 ROOM, v, .int .i64 F] 34)) w5.heap.size bw ID UP ROOM v F X1 X2 X3 ps lo w5.heap.size := by
  have hz : ((((w5.setCell ⟨bw, 0, none⟩ (.int .i64 X1)).setCell ⟨bw, 1, none⟩ (.int .i64 X2)).setCell ⟨bw, 2, none⟩ (.int .i64 X3)).setCell ⟨bw, 3, none⟩ (.int .i64 0)).heap.size = w5.heap.size := by simp
  have hB := bel_w4 (X1 := X1) (X2 := X2) (X3 := X3) hb hw
  refine ⟨hB.alloc hB.size _, ?_, (blk_w4 yw).alloc _, (own_w4 hm yw).below (alloc_below _ _) (by rw [hz]; exact Nat.le_refl _), hb.size, hw, Or.inr (Nat.le_refl _), Or.inl aw, hl, by simp⟩
  have h := Blk.new ((((w5.setCell ⟨bw, 0, none⟩ (.int .i64 X1)).setCell ⟨bw, 1, none⟩ (.int .i64 X2)).setCell ⟨bw, 2, none⟩ (.int .i64 X3)).setCell ⟨bw, 3, none⟩ (.int .i64 0)) #[.int .i64 ID, .bool UP, .int .i64 ROOM, v, .int .i64 F] 34
  rw [hz] at h
  exact h
theorem met_swb (hb : Below w0.heap.size w0 w5) (hm : OwnRecs w5 lo w5.heap.size v ps) (hl : w0.heap.size ≤ lo) (yh : Blk w5 bh #[.int .i64 0, .bool false, .int .i64 0, .slice none 0 0, .int .i64 0] 34) (hh : w0.heap.size ≤ bh) (ah : bh < lo) : MetE w0 ((((((w5.alloc (.cells #[.int .i64 X1, .int .i64 X2, .int .i64 X3, .int .i64 0] 35)).setCell ⟨bh, 0, none⟩ (.int .i64 ID)).setCell ⟨bh, 1, none⟩ (.bool UP)).setCell ⟨bh, 2, none⟩ (.int .i64 ROOM)).setCell ⟨bh, 3, none⟩ v).setCell ⟨bh, 4, none⟩ (.int .i64 F)) bh w5.heap.size ID UP ROOM v F X1 X2 X3 ps lo w5.heap.size := by
  have hb' := hb.alloc hb.size (.cells #[.int .i64 X1, .int .i64 X2, .int .i64 X3, .int .i64 0] 35)
  have hlt := yh.lt
  exact ⟨bel_h5 hb' hh, blk_h5 (yh.alloc _), blk_h5o (Blk.new _ _ _) (by omega), own_h5 (hm.below (alloc_below _ _) (Nat.le_refl _)) (yh.alloc _), hh, hb.size, Or.inl ah, Or.inr (Nat.le_refl _), hl, by simp⟩
theorem met_shb (hb : Below w0.heap.size w0 w5) (hm : OwnRecs w5 lo w5.heap.size v ps) (hl : w0.heap.size ≤ lo) (yw : Blk w5 bw #[.int .i64 0, .int .i64 0, .int .i64 0, .int .i64 0] 35) (hw : w0.heap.size ≤ bw) (aw : bw < lo) : MetE w0 (((((w5.alloc (.cells #[.int .i64 ID, .bool UP, .int .i64 ROOM, v, .int .i64 F] 34)).setCell ⟨bw, 0, none⟩ (.int .i64 X1)).setCell ⟨bw, 1, none⟩ (.int .i64 X2)).setCell ⟨bw, 2, none⟩ (.int .i64 X3)).setCell ⟨bw, 3, none⟩ (.int .i64 0)) w5.heap.size bw ID UP ROOM v F X1 X2 X3 ps lo w5.heap.size := by
  have hb' := hb.alloc hb.size (.cells #[.int .i64 ID, .bool UP, .int .i64 ROOM, v, .int .i64 F] 34)
  have hlt := yw.lt
  exact ⟨bel_w4 hb' hw, blk_w4o (Blk.new _ _ _) (by omega), blk_w4 (yw.alloc _), own_w4 (hm.below (alloc_below _ _) (Nat.le_refl _)) (yw.alloc _), hb.size, hw, Or.inr (Nat.le_refl _), Or.inl aw, hl, by simp⟩
end
theorem a1 {w w' : World} {o : Obj} (h : Below (w.alloc o).heap.size (w.alloc o) w') : Below w.heap.size w w' := (alloc_below w o).trans (h.mono (by simp))
theorem a2 {w w' : World} {o o' : Obj} (h : Below ((w.alloc o).alloc o').heap.size ((w.alloc o).alloc o') w') : Below w.heap.size w w' := a1 (a1 h)
theorem d0 {w w' : World} (h : Below w.drew.heap.size w.drew w') : Below w.heap.size w w' := (Below.refl w.heap.size w).drew.trans h
theorem d1 {w w' : World} {o : Obj} (h : Below (w.alloc o).drew.heap.size (w.alloc o).drew w') : Below w.heap.size w w' := a1 (d0 h)
theorem d2 {w w' : World} {o o' : Obj} (h : Below ((w.alloc o).alloc o').drew.heap.size ((w.alloc o).alloc o').drew w') : Below w.heap.size w w' := a2 (d0 h)
theorem n1 {w w' : World} {cs : Array Value} {ty : TypeId} (h : Below (w.alloc (.cells cs ty)).heap.size (w.alloc (.cells cs ty)) w') : Blk w' w.heap.size cs ty := (Blk.new w cs ty).after h
theorem n2 {w w' : World} {cs cs' : Array Value} {ty ty' : TypeId} (h : Below ((w.alloc (.cells cs ty)).alloc (.cells cs' ty')).heap.size ((w.alloc (.cells cs ty)).alloc (.cells cs' ty')) w') : Blk w' w.heap.size cs ty ∧ Blk w' (w.heap.size + 1) cs' ty' :=
  ⟨((Blk.new w cs ty).alloc _).after h, (Blk.new2 w _ cs' ty').after h⟩

theorem ks5 (w : World) (b2 : Nat) (x0 x1 x2 x3 x4 : Value) {b o : Nat} (h : b ≠ b2) : (((((w.setCell ⟨b2, 0, none⟩ x0).setCell ⟨b2, 1, none⟩ x1).setCell ⟨b2, 2, none⟩ x2).setCell ⟨b2, 3, none⟩ x3).setCell ⟨b2, 4, none⟩ x4).cell? ⟨b, o, none⟩ = w.cell? ⟨b, o, none⟩ := by
  rw [World.cell?_of_block (w := ((((w.setCell ⟨b2, 0, none⟩ x0).setCell ⟨b2, 1, none⟩ x1).setCell ⟨b2, 2, none⟩ x2).setCell ⟨b2, 3, none⟩ x3)) (a := ⟨b, o, none⟩) (Below.heap_setCell _ _ _ _ h), World.cell?_of_block (w := (((w.setCell ⟨b2, 0, none⟩ x0).setCell ⟨b2, 1, none⟩ x1).setCell ⟨b2, 2, none⟩ x2)) (a := ⟨b, o, none⟩) (Below.heap_setCell _ _ _ _ h), World.cell?_of_block (w := ((w.setCell ⟨b2, 0, none⟩ x0).setCell ⟨b2, 1, none⟩ x1)) (a := ⟨b, o, none⟩) (Below.heap_setCell _ _ _ _ h), World.cell?_of_block (w := (w.setCell ⟨b2, 0, none⟩ x0)) (a := ⟨b, o, none⟩) (Below.heap_setCell _ _ _ _ h), World.cell?_of_block (w := w) (a := ⟨b, o, none⟩) (Below.heap_setCell _ _ _ _ h)]

end Go.Proofs.YthllcffmpeopcaaGreatDoor
