/- What the last text of this claim stands on, part 8: plain facts and contracts; the last text says what is proved. -/
import Derived.Test.YthllcffmpeopcaaGreatDoorBase7

namespace Go.Proofs.YthllcffmpeopcaaGreatDoor
open Go.RowKit

theorem Four.mid {w w' : World} {s lo hi : Nat} {id : Int} {up : Bool} {room : Int} {v : Value} {f k h t m : Int} (x : Four w s id up room v f k h t m) (hm : Mid lo hi w w') (hs : hi ≤ s) : Four w' s id up room v f k h t m :=
  ⟨x.ho.mid hm (Or.inr (by omega)), x.wo.mid hm (Or.inr (by omega)), x.zo.mid hm (Or.inr (by omega)), x.zw.mid hm (Or.inr (by omega))⟩
theorem stockS {w : World} {room : Int} {v : Value} {rs rs' : List R} {f : Int} {hs : List Pl.H} {b : Bool} (hv : Recs w v rs) (hfm : Form v rs.length) (hl : tot rs ≤ 1048576) (h0 : 0 ≤ f) (h1 : f ≤ rs.length) (hc : cutR rs f b = rs') (he : Pl.sOf room rs' = some hs) (id : Int) (up : Bool) :
    Calls Tryz.prog 60 #[houseV id up room v f, .bool b] w fun e w' => ∃ ao cap, e = .returned (.agg #[.int .i64 room, .slice ao 6 cap]) ∧ Holds w' (.slice ao 6 cap) hs ∧ Below w.heap.size w w' ∧ ∀ b off, ao = some ⟨b, off, none⟩ → w.heap.size ≤ b := by
  have h6 := (Pl.sOf_ok he).2
  refine (l11Stock_any id up room v rs f b w hv hfm hl h0 h1).mono ?_
  rintro e w' ⟨ao, cap, h, ho, hb⟩
  rw [hc, he] at h ho
  have e1 : oH (some hs) = hs := rfl
  have e2 : oR room (some hs) = room := rfl
  rw [e1, h6] at ho
  rw [e1, e2, h6] at h
  exact ⟨ao, cap, h, holds_of_row (base := w.heap.size) (by rw [h6]; exact ho), hb, fun b off e => (ho.lt b (by rw [e]; rfl)).1⟩

theorem field_stock (room : Int) (a : Option Addr) (n c : Nat) (W : World) : Sem.run Tryz.prog (Instr.field 50 (.agg #[.int .i64 room, .slice a n c]) 1) W = .ok (.slice a n c) W := by kernel_rfl
theorem wrap_small (i : Nat) (h : i < 6) : IntKind.i64.wrap ((i : Nat) : Int) = (i : Int) := by
  have : i = 0 ∨ i = 1 ∨ i = 2 ∨ i = 3 ∨ i = 4 ∨ i = 5 := by omega
  rcases this with rfl | rfl | rfl | rfl | rfl | rfl <;> decide

theorem ks4 (w : World) (b2 : Nat) (x y z u : Value) {b o : Nat} (h : b ≠ b2) : ((((w.setCell ⟨b2, 0, none⟩ x).setCell ⟨b2, 1, none⟩ y).setCell ⟨b2, 2, none⟩ z).setCell ⟨b2, 3, none⟩ u).cell? ⟨b, o, none⟩ = w.cell? ⟨b, o, none⟩ := by
  rw [World.cell?_of_block (w := ((w.setCell ⟨b2, 0, none⟩ x).setCell ⟨b2, 1, none⟩ y).setCell ⟨b2, 2, none⟩ z) (a := ⟨b, o, none⟩) (Below.heap_setCell _ _ _ _ h), World.cell?_of_block (w := (w.setCell ⟨b2, 0, none⟩ x).setCell ⟨b2, 1, none⟩ y) (a := ⟨b, o, none⟩) (Below.heap_setCell _ _ _ _ h), World.cell?_of_block (w := w.setCell ⟨b2, 0, none⟩ x) (a := ⟨b, o, none⟩) (Below.heap_setCell _ _ _ _ h), World.cell?_of_block (w := w) (a := ⟨b, o, none⟩) (Below.heap_setCell _ _ _ _ h)]
theorem bset4 {B b : Nat} {a w : World} (h : Below B a w) (hb : B ≤ b) (x y z u : Value) : Below B a ((((w.setCell ⟨b, 0, none⟩ x).setCell ⟨b, 1, none⟩ y).setCell ⟨b, 2, none⟩ z).setCell ⟨b, 3, none⟩ u) := (((h.setCell hb _).setCell hb _).setCell hb _).setCell hb _

set_option maxRecDepth 100000 in
set_option maxHeartbeats 1000000 in
theorem l11Hear_yes (room : Int) (v : Value) (rs : List R) (f k h m : Int) (i : Nat) (hs hf : List Pl.H) (lo : Nat) (w : World) (hm : Made w lo v rs) (hsh : ∃ ao cap, v = .slice ao rs.length cap) (hfm : Form v rs.length) (hlo : lo ≤ w.heap.size) (hl : tot rs ≤ 1048576)
    (lf0 : 0 ≤ f) (lf1 : f ≤ rs.length) (h12 : rs.length ≤ 12) (eA : Pl.sOf room rs = some hs) (eF : Pl.sOf room (rs.take f.toNat) = some hf) (hhb : Pl.hearB h true k h ((i : Int) + 1) m = true) (hi : i < 6) :
    Calls Tryz.prog 27 #[houseV h true room v f, wordV k h ((i : Int) + 1) m] w fun e w' => HeOutL lo w w' e (hearO' h true room rs f k h ((i : Int) + 1) m hs hf) := by
  obtain ⟨av, cv, rfl⟩ := hsh
  obtain ⟨-, -, hk, -, hrec⟩ := Pl.hearB_parts hhb
  have hwk : Pl.wOk k h ((i : Int) + 1) m = true := by
    simp only [Pl.hearB, Bool.and_eq_true] at hhb
    exact hhb.1.1.2
  have hk3 : k ≤ 3 := by omega
  have HW : Hid (∀ W, Calls Tryz.prog 59 #[wordV k h ((i : Int) + 1) m] W fun e w' => e = .returned (.bool true) ∧ Below W.heap.size W w') := fun W => by
    have := specWordOk_any k h ((i : Int) + 1) m W; rw [hwk] at this; exact this
  have SA : Hid (∀ W, Below w.heap.size w W → Calls Tryz.prog 60 #[houseV h true room (.slice av rs.length cv) f, .bool false] W fun e w' => ∃ ao cap, e = .returned (.agg #[.int .i64 room, .slice ao 6 cap]) ∧ Holds w' (.slice ao 6 cap) hs ∧ Below W.heap.size W w' ∧ ∀ b off, ao = some ⟨b, off, none⟩ → W.heap.size ≤ b) := fun W hb =>
    stockS (hm.recs.later hb (Nat.le_refl _)) hfm hl lf0 lf1 (by simp [cutR]) eA h true
  have SF : Hid (∀ W, Below w.heap.size w W → Calls Tryz.prog 60 #[houseV h true room (.slice av rs.length cv) f, .bool true] W fun e w' => ∃ ao cap, e = .returned (.agg #[.int .i64 room, .slice ao 6 cap]) ∧ Holds w' (.slice ao 6 cap) hf ∧ Below W.heap.size W w' ∧ ∀ b off, ao = some ⟨b, off, none⟩ → W.heap.size ≤ b) := fun W hb =>
    stockS (hm.recs.later hb (Nat.le_refl _)) hfm hl lf0 lf1 (by simp [cutR]) eF h true
  obtain ⟨ZS, hZS⟩ : ∃ z, Hid (Pl.zsW k m = z) := ⟨_, rfl⟩
  have HRC : Hid (∀ W, Calls Tryz.prog 61 #[wordV k h ((i : Int) + 1) m] W fun e w' => RcOut W w' e k ((i : Int) + 1) ZS) := fun W => by
    have := l11Rec_any k h ((i : Int) + 1) m W hk; rw [hZS.out] at this; exact this
  obtain ⟨sok, h6a⟩ := Pl.sOf_ok eA
  have h6f := (Pl.sOf_ok eF).2
  obtain ⟨MAY, hMAY⟩ : ∃ b, Hid (Pl.sMay room hs k ((i : Int) + 1) ZS = b) := ⟨_, rfl⟩
  have HMY : Hid (∀ (x u : Value) (W : World), Holds W x hs → Ints W u ZS → Calls Tryz.prog 62 #[.agg #[.int .i64 room, x], .agg #[.int .i64 k, .int .i64 ((i : Int) + 1), u]] W fun e w' => e = .returned (.bool MAY) ∧ Below W.heap.size W w') := fun x u W h1 h2 => by
    have hr2 : Pl.recOk k ((i : Int) + 1) ZS = true := by rw [← hZS.out]; exact hrec
    have := l2May_any room x hs k ((i : Int) + 1) u ZS W h1 h2 sok hr2
    have e1 : (Pl.next (Pl.hAt hs ((i : Int) + 1)) k (ZS.headD 0) (Pl.free room hs)).isSome = MAY := by
      rw [← hMAY.out]; unfold Pl.sMay; rw [Pl.behind_ok sok hr2]
    rw [e1] at this; exact this
  have HAN : Hid (∀ (s : Int) (W : World), Calls Tryz.prog 64 #[houseV h true room (.slice av rs.length cv) f, wordV k h ((i : Int) + 1) m, .int .i64 s] W fun e w' => e = .returned (.tuple #[wordV (awW (Pl.ansK k s) h ((i : Int) + 1)).1 (awW (Pl.ansK k s) h ((i : Int) + 1)).2.1 (awW (Pl.ansK k s) h ((i : Int) + 1)).2.2 0, .bool (awB (Pl.ansK k s))]) ∧ Below W.heap.size W w') := fun s W =>
    l11Answer_any h true room av rs.length cv f k h ((i : Int) + 1) m s W hk
  obtain ⟨OO, hOO⟩ : ∃ o, Hid (hearO' h true room rs f k h ((i : Int) + 1) m hs hf = o) := ⟨_, rfl⟩
  rw [hOO.out]
  have HM := hide_it hm
  have HHB := hide_it hhb
  have H6A := hide_it h6a
  have H6F := hide_it h6f
  clear hm hhb hrec hwk sok h6a h6f eA eF
  obtain ⟨w0, hw0⟩ : ∃ W, Hid (W = (((w.alloc (.cells #[.int .i64 h, .bool true, .int .i64 room, .slice av rs.length cv, .int .i64 f] 34)).alloc (.cells #[.int .i64 k, .int .i64 h, .int .i64 ((i : Int) + 1), .int .i64 m] 35)).alloc (.cells #[.int .i64 0, .bool false, .int .i64 0, .slice none 0 0, .int .i64 0] 34)).alloc (.cells #[.int .i64 0, .int .i64 0, .int .i64 0, .int .i64 0] 35)) := ⟨_, rfl⟩
  have B0 : Hid (Below w.heap.size w w0) := by show Below _ _ _; rw [hw0.out]; exact below4 _ _ _ _ _
  have Q0 : Hid (Four w0 w.heap.size h true room (.slice av rs.length cv) f k h ((i : Int) + 1) m) := by show Four _ _ _ _ _ _ _ _ _ _ _; rw [hw0.out]; exact Four.new _ _ _ _ _ _ _ _ _ _
  have hs0 : w0.heap.size = w.heap.size + 4 := by rw [hw0.out, size4]
  go_enter Tryz.func27, Tryz.ntmps27
  go_wp2_with fail
  rw [← hw0.out]
  refine (HW.out _).mono ?_
  rintro e w1 ⟨rfl, hb1⟩
  have Q1 := hide_it (Q0.out.after hb1)
  have B1 := hide_it (B0.out.trans (hb1.mono B0.out.size))
  have hs1 : w.heap.size + 4 ≤ w1.heap.size := by have := hb1.size; omega
  obtain ⟨x0, x1, x2, x3, x4⟩ := Q1.out.ho.cells5
  obtain ⟨y0, y1, y2, y3⟩ := Q1.out.wo.cells4
  clear hb1
  go_wp2_with fail
  refine (SA.out _ B1.out).mono ?_
  rintro e w2 ⟨a2, c2, rfl, hH2, hb2, -⟩
  have Q2 := hide_it (Q1.out.after hb2)
  have B2 := hide_it (B1.out.trans (hb2.mono B1.out.size))
  have H2 := hide_it hH2
  have hs2 : w.heap.size + 4 ≤ w2.heap.size := by have := hb2.size; omega
  clear hb2 hH2 x0 x1 x2 x3 x4 y0 y1 y2 y3
  obtain ⟨w3, hw3⟩ : ∃ W, Hid (W = w2.alloc (.cells #[.int .i64 room, .slice a2 6 c2] 50)) := ⟨_, rfl⟩
  have al3 : Hid (Below w2.heap.size w2 w3) := by show Below _ _ _; rw [hw3.out]; exact alloc_below _ _
  have S3 : Hid (Blk w3 w2.heap.size #[.int .i64 room, .slice a2 6 c2] 50) := by show Blk _ _ _ _; rw [hw3.out]; exact Blk.new _ _ _
  have Q3 := hide_it (Q2.out.after al3.out)
  have B3 := hide_it (B2.out.trans (al3.out.mono B2.out.size))
  have H3 := hide_it (H2.out.later al3.out (Nat.le_refl _))
  obtain ⟨y0, y1, y2, y3⟩ := Q2.out.wo.cells4
  have k0 := fun x => cellAlloc y0 x
  have k1 := fun x => cellAlloc y1 x
  have k2 := fun x => cellAlloc y2 x
  have k3 := fun x => cellAlloc y3 x
  go_wp2_with fail
  rw [← hw3.out]
  refine (HRC.out _).mono ?_
  rintro e w4 ⟨au, cu, rfl, hrow, hb4⟩
  have Q4 := hide_it (Q3.out.after hb4)
  have B4 := hide_it (B3.out.trans (hb4.mono B3.out.size))
  have S4 := hide_it (S3.out.after hb4)
  have H4 := hide_it (H3.out.later hb4 (Nat.le_refl _))
  have R4 := hide_it hrow
  have hz3 : w.heap.size ≤ w3.heap.size := B3.out.size
  have hs4 : w2.heap.size < w4.heap.size := S4.out.lt
  clear hb4 hrow k0 k1 k2 k3 y0 y1 y2 y3
  obtain ⟨w5, hw5⟩ : ∃ W, Hid (W = w4.alloc (.cells #[.int .i64 k, .int .i64 ((i : Int) + 1), .slice au ZS.length cu] 62)) := ⟨_, rfl⟩
  have al5 : Hid (Below w4.heap.size w4 w5) := by show Below _ _ _; rw [hw5.out]; exact alloc_below _ _
  have T5 : Hid (Blk w5 w4.heap.size #[.int .i64 k, .int .i64 ((i : Int) + 1), .slice au ZS.length cu] 62) := by show Blk _ _ _ _; rw [hw5.out]; exact Blk.new _ _ _
  have Q5 := hide_it (Q4.out.after al5.out)
  have B5 := hide_it (B4.out.trans (al5.out.mono B4.out.size))
  have S5 := hide_it (S4.out.after al5.out)
  have H5 := hide_it (H4.out.later al5.out (Nat.le_refl _))
  have R5 := hide_it (ownsRow_below R4.out al5.out (fun j hj => (R4.out.lt j hj).2))
  have I5 := hide_it (ints_row R5.out)
  obtain ⟨s0, s1⟩ := S4.out.cells2
  have k0 := fun x => cellAlloc s0 x
  have k1 := fun x => cellAlloc s1 x
  go_wp2_with fail
  rw [← hw5.out]
  refine (HMY.out _ _ _ H5.out I5.out).mono ?_
  rintro e w6 ⟨rfl, hb6⟩
  have Q6 := hide_it (Q5.out.after hb6)
  have B6 := hide_it (B5.out.trans (hb6.mono B5.out.size))
  have S6 := hide_it (S5.out.after hb6)
  have T6 := hide_it (T5.out.after hb6)
  have H6 := hide_it (H5.out.later hb6 (Nat.le_refl _))
  have R6 := hide_it (ownsRow_below R5.out hb6 (fun j hj => (R5.out.lt j hj).2))
  have M6 := hide_it (HM.out.below B6.out (Nat.le_refl _))
  clear hb6 k0 k1 s0 s1
  have hmy := hMAY.out
  rw [← hZS.out] at hmy
  have HMY2 := hide_it hmy
  clear hmy
  cases MAY
  · -- it may not come
    obtain ⟨sa, hsa⟩ : ∃ s, Hid ((Pl.hAt hs ((i : Int) + 1)).2 = s) := ⟨_, rfl⟩
    obtain ⟨sf, hsf⟩ : ∃ s, Hid ((Pl.hAt hf ((i : Int) + 1)).2 = s) := ⟨_, rfl⟩
    obtain ⟨bb, off, cap, hv2, c1, hbb⟩ := state_at H6.out H6A.out hi
    simp only [Value.slice.injEq, true_and] at hv2
    obtain ⟨rfl, rfl⟩ := hv2
    rw [hsa.out] at c1
    obtain ⟨s0, s1⟩ := S6.out.cells2
    obtain ⟨x0, x1, x2, x3, x4⟩ := Q6.out.ho.cells5
    obtain ⟨y0, y1, y2, y3⟩ := Q6.out.wo.cells4
    by_cases hfull : k = 1 ∧ sa = 0
    · obtain ⟨rfl, rfl⟩ := hfull
      have hO1 : OO = ((h, true, room, rs, f), (5, h, (i : Int) + 1), true) := by
        rw [← hOO.out]; exact hearO'_some HHB.out HMY2.out (by rw [hsa.out]; rfl)
      subst hO1
      have L6 := hide_it (B6.out.mono hlo)
      obtain ⟨z0, z1, z2, z3, z4⟩ := Q6.out.zo.cells5
      obtain ⟨zf0, zf1, zf2, zf3, zf4⟩ := Q6.out.zo.free5
      obtain ⟨q0, q1, q2, q3⟩ := Q6.out.zw.cells4
      obtain ⟨qf0, qf1, qf2, qf3, -⟩ := Q6.out.zw.free5
      go_wp2_with fail
      go_region_held (fun w' => (w'.cell? ⟨w.heap.size, 0, none⟩ = some (.int .i64 h) ∧ w'.cell? ⟨w.heap.size, 1, none⟩ = some (.bool true) ∧ w'.cell? ⟨w.heap.size, 2, none⟩ = some (.int .i64 room) ∧ w'.cell? ⟨w.heap.size, 3, none⟩ = some (.slice av rs.length cv) ∧ w'.cell? ⟨w.heap.size, 4, none⟩ = some (.int .i64 f)) ∧ (w'.cell? ⟨w.heap.size + 1, 0, none⟩ = some (.int .i64 1) ∧ w'.cell? ⟨w.heap.size + 1, 1, none⟩ = some (.int .i64 h) ∧ w'.cell? ⟨w.heap.size + 1, 2, none⟩ = some (.int .i64 ((i : Int) + 1)) ∧ w'.cell? ⟨w.heap.size + 1, 3, none⟩ = some (.int .i64 m))) (first | (go_keep; done) | (refine ⟨⟨?_, ?_, ?_, ?_, ?_⟩, ?_, ?_, ?_, ?_⟩ <;> simp [go_sem, *])) (fail)
      all_goals
        go_wp2
        refine bodyPost_ret (v := .tuple #[houseV h true room (.slice av rs.length cv) f, wordV 5 h ((i : Int) + 1) 0, .bool true]) (by simp [results, Tryz.results27, go_sem, *]) rfl ?_
        exact ⟨av, cv, rfl, (Made.handed M6.out Q6.out _ _ _ _ _ _ _ _ _).below (Below.refl _ _).drew (Nat.le_refl _), (Below.handed L6.out hlo _ _ _ _ _ _ _ _ _).drew⟩
    · have HNF := hide_it hfull
      clear hfull
      obtain ⟨X1, X2, X3, YB, hX⟩ : ∃ X1 X2 X3 YB, Hid (awW (Pl.ansK k sf) h ((i : Int) + 1) = (X1, X2, X3) ∧ awB (Pl.ansK k sf) = YB) := ⟨_, _, _, _, rfl, rfl⟩
      have HAN2 : Hid (∀ (W : World), Calls Tryz.prog 64 #[houseV h true room (.slice av rs.length cv) f, wordV k h ((i : Int) + 1) m, .int .i64 sf] W fun e w' => e = .returned (.tuple #[wordV X1 X2 X3 0, .bool YB]) ∧ Below W.heap.size W w') := fun W => by
        have := HAN.out sf W; rw [hX.out.1, hX.out.2] at this; exact this
      have hO1 : OO = ((h, true, room, rs, f), (X1, X2, X3), YB) := by
        have hA : Pl.hearA k sa sf = Pl.ansK k sf := by unfold Pl.hearA; rw [if_neg HNF.out]
        rw [← hOO.out, ← hX.out.1, ← hX.out.2]
        cases he : Pl.ansK k sf with
        | none => exact hearO'_none HHB.out HMY2.out (by rw [hsa.out, hsf.out, hA, he])
        | some x => exact hearO'_some HHB.out HMY2.out (by rw [hsa.out, hsf.out, hA, he])
      subst hO1
      have hwi := wrap_small i hi
      have hii : (i : Int) < 6 := by omega
      have hk1 : k ≠ 1 ∨ (k = 1 ∧ sa ≠ 0) := by have := HNF.out; omega
      rcases hk1 with hk1 | ⟨rfl, hk1⟩
      · have ek : (k == 1) = false := by simpa using hk1
        go_wp2_with fail
        go_cut [11, 12] (fun p b W => ∃ bw, p = .pointer (some ⟨bw, 0, none⟩) ∧ b = .bool YB ∧ Hid (Below w6.heap.size w6 W ∧ Blk W bw #[.int .i64 X1, .int .i64 X2, .int .i64 X3, .int .i64 0] 35 ∧ w6.heap.size ≤ bw))
        case first =>
          refine wp_region_held_drew (S := (fun w' => (w'.cell? ⟨w.heap.size, 0, none⟩ = some (.int .i64 h) ∧ w'.cell? ⟨w.heap.size, 1, none⟩ = some (.bool true) ∧ w'.cell? ⟨w.heap.size, 2, none⟩ = some (.int .i64 room) ∧ w'.cell? ⟨w.heap.size, 3, none⟩ = some (.slice av rs.length cv) ∧ w'.cell? ⟨w.heap.size, 4, none⟩ = some (.int .i64 f)) ∧ (w'.cell? ⟨w.heap.size + 1, 0, none⟩ = some (.int .i64 k) ∧ w'.cell? ⟨w.heap.size + 1, 1, none⟩ = some (.int .i64 h) ∧ w'.cell? ⟨w.heap.size + 1, 2, none⟩ = some (.int .i64 ((i : Int) + 1)) ∧ w'.cell? ⟨w.heap.size + 1, 3, none⟩ = some (.int .i64 m)))) (by kernel_rfl) ⟨⟨x0, x1, x2, x3, x4⟩, y0, y1, y2, y3⟩ (fun hHeld => ?_)
          clear x0 x1 x2 x3 x4 y0 y1 y2 y3
          refine takeD (i := 0) (v := ?_) (some 74) rfl rfl (by kernel_rfl) (by kernel_rfl) (by kernel_rfl) (fun _ _ _ h => h) (by rfl) hHeld ?_ ?_
          rotate_left
          · intro W hSw
            try dsimp only at hSw
            go_simp
            try with_reducible rfl
          try simp only [Act.put]
          try simp only [List.setIfInBounds_toArray]
          try simp only [List.set_cons_succ]
          try simp only [List.set_cons_zero]
          refine takeD (i := 1) (v := ?_) (some 75) rfl rfl (by kernel_rfl) (by kernel_rfl) (by kernel_rfl) (fun _ _ _ h => h) (by rfl) hHeld ?_ ?_
          rotate_left
          · intro W hSw
            try dsimp only at hSw
            go_simp
            try with_reducible rfl
          try simp only [Act.put]
          try simp only [List.setIfInBounds_toArray]
          try simp only [List.set_cons_succ]
          try simp only [List.set_cons_zero]
          refine takeD (i := 2) (v := ?_) (some 76) rfl rfl (by kernel_rfl) (by kernel_rfl) (by kernel_rfl) (fun _ _ _ h => h) (by rfl) hHeld ?_ ?_
          rotate_left
          · intro W hSw
            try dsimp only at hSw
            go_simp
            try with_reducible rfl
          try simp only [Act.put]
          try simp only [List.setIfInBounds_toArray]
          try simp only [List.set_cons_succ]
          try simp only [List.set_cons_zero]
          refine takeD (i := 5) (v := ?_) (some 79) rfl rfl (by kernel_rfl) (by kernel_rfl) (by kernel_rfl) (fun _ _ _ h => h) (by rfl) hHeld ?_ ?_
          rotate_left
          · intro W hSw
            try dsimp only at hSw
            go_simp
            try with_reducible rfl
          try simp only [Act.put]
          try simp only [List.setIfInBounds_toArray]
          try simp only [List.set_cons_succ]
          try simp only [List.set_cons_zero]
          refine takeD (i := 6) (v := ?_) (some 80) rfl rfl (by kernel_rfl) (by kernel_rfl) (by kernel_rfl) (fun _ _ _ h => h) (by rfl) hHeld ?_ ?_
          rotate_left
          · intro W hSw
            try dsimp only at hSw
            go_simp
            try with_reducible rfl
          try simp only [Act.put]
          try simp only [List.setIfInBounds_toArray]
          try simp only [List.set_cons_succ]
          try simp only [List.set_cons_zero]
          refine takeD (i := 7) (v := ?_) (some 81) rfl rfl (by kernel_rfl) (by kernel_rfl) (by kernel_rfl) (fun _ _ _ h => h) (by rfl) hHeld ?_ ?_
          rotate_left
          · intro W hSw
            try dsimp only at hSw
            go_simp
            try with_reducible rfl
          try simp only [Act.put]
          try simp only [List.setIfInBounds_toArray]
          try simp only [List.set_cons_succ]
          try simp only [List.set_cons_zero]
          refine wpAnyH_ready (rs := [3, 15]) (by kernel_rfl) (by simp) ?_
          refine AllReadyH.cons rfl (fun K hK => ?_) (AllReadyH.cons rfl (fun K hK => ?_) AllReadyH.nil)
          · go_simp
            refine (SF.out _ B6.out.drew).mono ?_
            rintro e w7 ⟨a7, c7, rfl, hH7, hb7, hrow7⟩
            have N7 := hide_it ((Below.refl w6.heap.size w6).drew.trans hb7)
            obtain ⟨b7, o7, cc7, hv7, st7, hlt7⟩ := state_at hH7 H6F.out hi
            simp only [Value.slice.injEq, true_and] at hv7
            obtain ⟨rfl, rfl⟩ := hv7
            have hge7 := hrow7 _ _ rfl
            clear hrow7
            rw [hsf.out] at st7
            clear hb7 hH7
            have hfs := fun W => field_stock room (some ⟨b7, o7, none⟩) 6 c7 W
            obtain ⟨x0, x1, x2, x3, x4⟩ := (Q6.out.after N7.out).ho.cells5
            obtain ⟨y0, y1, y2, y3⟩ := (Q6.out.after N7.out).wo.cells4
            try dsimp only
            refine hK.out _ _ ⟨⟨x0, x1, x2, x3, x4⟩, y0, y1, y2, y3⟩ (fun hHeld => ?_)
            clear hK K x0 x1 x2 x3 x4 y0 y1 y2 y3
            refine heldMono (S2 := (fun w' => w'.cell? ⟨b7, o7 + i * 2 + 1, none⟩ = some (.int .i64 sf) ∧ (w'.cell? ⟨w.heap.size, 0, none⟩ = some (.int .i64 h) ∧ w'.cell? ⟨w.heap.size, 1, none⟩ = some (.bool true) ∧ w'.cell? ⟨w.heap.size, 2, none⟩ = some (.int .i64 room) ∧ w'.cell? ⟨w.heap.size, 3, none⟩ = some (.slice av rs.length cv) ∧ w'.cell? ⟨w.heap.size, 4, none⟩ = some (.int .i64 f)) ∧ (w'.cell? ⟨w.heap.size + 1, 0, none⟩ = some (.int .i64 k) ∧ w'.cell? ⟨w.heap.size + 1, 1, none⟩ = some (.int .i64 h) ∧ w'.cell? ⟨w.heap.size + 1, 2, none⟩ = some (.int .i64 ((i : Int) + 1)) ∧ w'.cell? ⟨w.heap.size + 1, 3, none⟩ = some (.int .i64 m)))) (fun _ h => h.2) _ _ _ _ ?_
            replace hHeld := And.intro st7 hHeld
            refine takeD (i := 4) (v := ?_) (some 78) rfl rfl (by kernel_rfl) (by kernel_rfl) (by kernel_rfl) (fun _ _ _ h => h) (by rfl) hHeld ?_ ?_
            rotate_left
            · intro W hSw
              try dsimp only at hSw
              go_simp
              try with_reducible rfl
            try simp only [Act.put]
            try simp only [List.setIfInBounds_toArray]
            try simp only [List.set_cons_succ]
            try simp only [List.set_cons_zero]
            refine takeD (i := 8) (v := ?_) (some 82) rfl rfl (by kernel_rfl) (by kernel_rfl) (by kernel_rfl) (fun _ _ _ h => h) (by rfl) hHeld ?_ ?_
            rotate_left
            · intro W hSw
              try dsimp only at hSw
              go_simp
              try with_reducible rfl
            try simp only [Act.put]
            try simp only [List.setIfInBounds_toArray]
            try simp only [List.set_cons_succ]
            try simp only [List.set_cons_zero]
            refine takeD (i := 9) (v := ?_) (some 83) rfl rfl (by kernel_rfl) (by kernel_rfl) (by kernel_rfl) (fun _ _ _ h => h) (by rfl) hHeld ?_ ?_
            rotate_left
            · intro W hSw
              try dsimp only at hSw
              go_simp
              try with_reducible rfl
            try simp only [Act.put]
            try simp only [List.setIfInBounds_toArray]
            try simp only [List.set_cons_succ]
            try simp only [List.set_cons_zero]
            refine takeD (i := 10) (v := ?_) (some 84) rfl rfl (by kernel_rfl) (by kernel_rfl) (by kernel_rfl) (fun _ _ _ h => h) (by rfl) hHeld ?_ ?_
            rotate_left
            · intro W hSw
              try dsimp only at hSw
              go_simp
              try with_reducible rfl
            try simp only [Act.put]
            try simp only [List.setIfInBounds_toArray]
            try simp only [List.set_cons_succ]
            try simp only [List.set_cons_zero]
            refine wpAnyH_ready (rs := [11, 15]) (by kernel_rfl) (by simp) ?_
            refine AllReadyH.cons rfl (fun K hK => ?_) (AllReadyH.cons rfl (fun K hK => ?_) AllReadyH.nil)
            · go_simp
              refine (HAN2.out _).mono ?_
              rintro e w8 ⟨rfl, hb8⟩
              have N8 := hide_it (N7.out.trans (hb8.mono N7.out.size))
              have st8 : w8.cell? ⟨b7, o7 + i * 2 + 1, none⟩ = some (.int .i64 sf) := by rw [← st7]; exact hb8.cell (p := ⟨b7, o7 + i * 2 + 1, none⟩) (by simpa using hlt7)
              clear hb8
              obtain ⟨x0, x1, x2, x3, x4⟩ := (Q6.out.after N8.out).ho.cells5
              obtain ⟨y0, y1, y2, y3⟩ := (Q6.out.after N8.out).wo.cells4
              try dsimp only
              refine hK.out _ _ ⟨st8, ⟨x0, x1, x2, x3, x4⟩, y0, y1, y2, y3⟩ (fun hHeld => ?_)
              clear hK K x0 x1 x2 x3 x4 y0 y1 y2 y3
              refine takeD (i := 12) (v := ?_) (some 73) rfl rfl (by kernel_rfl) (by kernel_rfl) (by kernel_rfl) (fun _ _ _ h => h) (by rfl) hHeld ?_ ?_
              rotate_left
              · intro W hSw
                try dsimp only at hSw
                go_simp
                try with_reducible rfl
              try simp only [Act.put]
              try simp only [List.setIfInBounds_toArray]
              try simp only [List.set_cons_succ]
              try simp only [List.set_cons_zero]
              refine takeD (i := 13) (v := ?_) (some 86) rfl rfl (by kernel_rfl) (by kernel_rfl) (by kernel_rfl) (fun _ _ _ h => h) (by rfl) hHeld ?_ ?_
              rotate_left
              · intro W hSw
                try dsimp only at hSw
                go_simp
                try with_reducible rfl
              try simp only [Act.put]
              try simp only [List.setIfInBounds_toArray]
              try simp only [List.set_cons_succ]
              try simp only [List.set_cons_zero]
              refine takeD (i := 14) (v := ?_) (some 87) rfl rfl (by kernel_rfl) (by kernel_rfl) (by kernel_rfl) (fun _ _ _ h => h) (by rfl) hHeld ?_ ?_
              rotate_left
              · intro W hSw
                try dsimp only at hSw
                go_simp
                try with_reducible rfl
              try simp only [Act.put]
              try simp only [List.setIfInBounds_toArray]
              try simp only [List.set_cons_succ]
              try simp only [List.set_cons_zero]
              refine wpAnyH_ready (rs := [15]) (by kernel_rfl) (by simp) ?_
              refine AllReadyH.cons rfl (fun K hK => ?_) AllReadyH.nil
              go_simp
              try dsimp only
              refine hK.out _ _ ?_ (fun hHeld => ?_)
              · exact ⟨cellAlloc st8 _, (Q6.out.after (N8.out.alloc N8.out.size _)).ho.cells5, (Q6.out.after (N8.out.alloc N8.out.size _)).wo.cells4⟩
              clear hK K
              refine wpAnyH_ready (rs := [16]) (by kernel_rfl) (by simp) ?_
              refine AllReadyH.cons rfl (fun K hK => ?_) AllReadyH.nil
              go_simp
              try dsimp only
              refine hK.out _ _ ?_ (fun hHeld => ?_)
              · exact ⟨cellAlloc st8 _, (Q6.out.after (N8.out.alloc N8.out.size _)).ho.cells5, (Q6.out.after (N8.out.alloc N8.out.size _)).wo.cells4⟩
              clear hK K
              refine takeD (i := 17) (v := ?_) (some 12) rfl rfl (by kernel_rfl) (by kernel_rfl) (by kernel_rfl) (fun _ _ _ h => h) (by rfl) hHeld ?_ ?_
              rotate_left
              · intro W hSw
                try dsimp only at hSw
                go_simp
                try with_reducible rfl
              try simp only [Act.put]
              try simp only [List.setIfInBounds_toArray]
              try simp only [List.set_cons_succ]
              try simp only [List.set_cons_zero]
              refine wpAnyH_done (by kernel_rfl) ?_ _
              go_wp2_with fail
              go_meet
              case rel => exact ⟨_, rfl, rfl, hide_it ⟨N8.out.alloc N8.out.size _, Blk.new _ _ _, N8.out.size⟩⟩
            · go_simp
              try dsimp only
              refine hK.out _ _ ?_ (fun hHeld => ?_)
              · exact ⟨cellAlloc st7 _, (Q6.out.after (N7.out.alloc N7.out.size _)).ho.cells5, (Q6.out.after (N7.out.alloc N7.out.size _)).wo.cells4⟩
              clear hK K
              refine wpAnyH_ready (rs := [11]) (by kernel_rfl) (by simp) ?_
              refine AllReadyH.cons rfl (fun K hK => ?_) AllReadyH.nil
              go_simp
              refine (HAN2.out _).mono ?_
              rintro e w8 ⟨rfl, hb8⟩
              have N8 := hide_it ((N7.out.alloc N7.out.size _).trans (hb8.mono (by have := N7.out.size; simp; omega)))
              have st8 : w8.cell? ⟨b7, o7 + i * 2 + 1, none⟩ = some (.int .i64 sf) := by rw [← cellAlloc st7 (.cells #[.int .i64 0, .int .i64 0, .int .i64 0, .int .i64 0] 35)]; exact hb8.cell (p := ⟨b7, o7 + i * 2 + 1, none⟩) (by simp; omega)
              have Y8 := hide_it ((Blk.new w7 #[.int .i64 0, .int .i64 0, .int .i64 0, .int .i64 0] 35).after hb8)
              have hge8 : w6.heap.size ≤ w7.heap.size := N7.out.size
              clear hb8
              obtain ⟨x0, x1, x2, x3, x4⟩ := (Q6.out.after N8.out).ho.cells5
              obtain ⟨y0, y1, y2, y3⟩ := (Q6.out.after N8.out).wo.cells4
              try dsimp only
              refine hK.out _ _ ⟨st8, ⟨x0, x1, x2, x3, x4⟩, y0, y1, y2, y3⟩ (fun hHeld => ?_)
              clear hK K x0 x1 x2 x3 x4 y0 y1 y2 y3
              refine takeD (i := 12) (v := ?_) (some 73) rfl rfl (by kernel_rfl) (by kernel_rfl) (by kernel_rfl) (fun _ _ _ h => h) (by rfl) hHeld ?_ ?_
              rotate_left
              · intro W hSw
                try dsimp only at hSw
                go_simp
                try with_reducible rfl
              try simp only [Act.put]
              try simp only [List.setIfInBounds_toArray]
              try simp only [List.set_cons_succ]
              try simp only [List.set_cons_zero]
              refine takeD (i := 13) (v := ?_) (some 86) rfl rfl (by kernel_rfl) (by kernel_rfl) (by kernel_rfl) (fun _ _ _ h => h) (by rfl) hHeld ?_ ?_
              rotate_left
              · intro W hSw
                try dsimp only at hSw
                go_simp
                try with_reducible rfl
              try simp only [Act.put]
              try simp only [List.setIfInBounds_toArray]
              try simp only [List.set_cons_succ]
              try simp only [List.set_cons_zero]
              refine takeD (i := 14) (v := ?_) (some 87) rfl rfl (by kernel_rfl) (by kernel_rfl) (by kernel_rfl) (fun _ _ _ h => h) (by rfl) hHeld ?_ ?_
              rotate_left
              · intro W hSw
                try dsimp only at hSw
                go_simp
                try with_reducible rfl
              try simp only [Act.put]
              try simp only [List.setIfInBounds_toArray]
              try simp only [List.set_cons_succ]
              try simp only [List.set_cons_zero]
              obtain ⟨u0, u1, u2, u3⟩ := Y8.out.cells4
              obtain ⟨uf0, uf1, uf2, uf3, -⟩ := Y8.out.free5
              refine wpAnyH_ready (rs := [16]) (by kernel_rfl) (by simp) ?_
              refine AllReadyH.cons rfl (fun K hK => ?_) AllReadyH.nil
              go_simp
              try dsimp only
              refine hK.out _ _ ?_ (fun hHeld => ?_)
              · exact ⟨(ks4 _ _ _ _ _ _ (by omega)).trans st8, (Q6.out.after (bset4 N8.out hge8 _ _ _ _)).ho.cells5, (Q6.out.after (bset4 N8.out hge8 _ _ _ _)).wo.cells4⟩
              clear hK K
              refine takeD (i := 17) (v := ?_) (some 12) rfl rfl (by kernel_rfl) (by kernel_rfl) (by kernel_rfl) (fun _ _ _ h => h) (by rfl) hHeld ?_ ?_
              rotate_left
              · intro W hSw
                try dsimp only at hSw
                go_simp
                try with_reducible rfl
              try simp only [Act.put]
              try simp only [List.setIfInBounds_toArray]
              try simp only [List.set_cons_succ]
              try simp only [List.set_cons_zero]
              refine wpAnyH_done (by kernel_rfl) ?_ _
              go_wp2_with fail
              go_meet
              case rel => exact ⟨_, rfl, rfl, hide_it ⟨bset4 N8.out hge8 _ _ _ _, (((Y8.out.set_ 0 _).set_ 1 _).set_ 2 _).set_ 3 _, hge8⟩⟩
          · go_simp
            try dsimp only
            refine hK.out _ _ ?_ (fun hHeld => ?_)
            · exact ⟨(Q6.out.after ((alloc_below w6 _).drew)).ho.cells5, (Q6.out.after ((alloc_below w6 _).drew)).wo.cells4⟩
            clear hK K
            refine wpAnyH_ready (rs := [3]) (by kernel_rfl) (by simp) ?_
            refine AllReadyH.cons rfl (fun K hK => ?_) AllReadyH.nil
            go_simp
            refine (SF.out _ (B6.out.alloc B6.out.size _).drew).mono ?_
            rintro e w7 ⟨a7, c7, rfl, hH7, hb7, hrow7⟩
            have N7 := hide_it (b_alloc_drew hb7)
            have Y7 := hide_it (z_alloc_drew hb7)
            obtain ⟨b7, o7, cc7, hv7, st7, hlt7⟩ := state_at hH7 H6F.out hi
            simp only [Value.slice.injEq, true_and] at hv7
            obtain ⟨rfl, rfl⟩ := hv7
            have hge7 := hrow7 _ _ rfl
            clear hrow7
            rw [hsf.out] at st7
            clear hb7 hH7
            have hfs := fun W => field_stock room (some ⟨b7, o7, none⟩) 6 c7 W
            obtain ⟨x0, x1, x2, x3, x4⟩ := (Q6.out.after N7.out).ho.cells5
            obtain ⟨y0, y1, y2, y3⟩ := (Q6.out.after N7.out).wo.cells4
            try dsimp only
            refine hK.out _ _ ⟨⟨x0, x1, x2, x3, x4⟩, y0, y1, y2, y3⟩ (fun hHeld => ?_)
            clear hK K x0 x1 x2 x3 x4 y0 y1 y2 y3
            refine heldMono (S2 := (fun w' => w'.cell? ⟨b7, o7 + i * 2 + 1, none⟩ = some (.int .i64 sf) ∧ (w'.cell? ⟨w.heap.size, 0, none⟩ = some (.int .i64 h) ∧ w'.cell? ⟨w.heap.size, 1, none⟩ = some (.bool true) ∧ w'.cell? ⟨w.heap.size, 2, none⟩ = some (.int .i64 room) ∧ w'.cell? ⟨w.heap.size, 3, none⟩ = some (.slice av rs.length cv) ∧ w'.cell? ⟨w.heap.size, 4, none⟩ = some (.int .i64 f)) ∧ (w'.cell? ⟨w.heap.size + 1, 0, none⟩ = some (.int .i64 k) ∧ w'.cell? ⟨w.heap.size + 1, 1, none⟩ = some (.int .i64 h) ∧ w'.cell? ⟨w.heap.size + 1, 2, none⟩ = some (.int .i64 ((i : Int) + 1)) ∧ w'.cell? ⟨w.heap.size + 1, 3, none⟩ = some (.int .i64 m)))) (fun _ h => h.2) _ _ _ _ ?_
            replace hHeld := And.intro st7 hHeld
            refine takeD (i := 4) (v := ?_) (some 78) rfl rfl (by kernel_rfl) (by kernel_rfl) (by kernel_rfl) (fun _ _ _ h => h) (by rfl) hHeld ?_ ?_
            rotate_left
            · intro W hSw
              try dsimp only at hSw
              go_simp
              try with_reducible rfl
            try simp only [Act.put]
            try simp only [List.setIfInBounds_toArray]
            try simp only [List.set_cons_succ]
            try simp only [List.set_cons_zero]
            refine takeD (i := 8) (v := ?_) (some 82) rfl rfl (by kernel_rfl) (by kernel_rfl) (by kernel_rfl) (fun _ _ _ h => h) (by rfl) hHeld ?_ ?_
            rotate_left
            · intro W hSw
              try dsimp only at hSw
              go_simp
              try with_reducible rfl
            try simp only [Act.put]
            try simp only [List.setIfInBounds_toArray]
            try simp only [List.set_cons_succ]
            try simp only [List.set_cons_zero]
            refine takeD (i := 9) (v := ?_) (some 83) rfl rfl (by kernel_rfl) (by kernel_rfl) (by kernel_rfl) (fun _ _ _ h => h) (by rfl) hHeld ?_ ?_
            rotate_left
            · intro W hSw
              try dsimp only at hSw
              go_simp
              try with_reducible rfl
            try simp only [Act.put]
            try simp only [List.setIfInBounds_toArray]
            try simp only [List.set_cons_succ]
            try simp only [List.set_cons_zero]
            refine takeD (i := 10) (v := ?_) (some 84) rfl rfl (by kernel_rfl) (by kernel_rfl) (by kernel_rfl) (fun _ _ _ h => h) (by rfl) hHeld ?_ ?_
            rotate_left
            · intro W hSw
              try dsimp only at hSw
              go_simp
              try with_reducible rfl
            try simp only [Act.put]
            try simp only [List.setIfInBounds_toArray]
            try simp only [List.set_cons_succ]
            try simp only [List.set_cons_zero]
            have hne7 : b7 ≠ w6.heap.size := by simp at hge7; omega
            clear hge7
            refine wpAnyH_ready (rs := [11]) (by kernel_rfl) (by simp) ?_
            refine AllReadyH.cons rfl (fun K hK => ?_) AllReadyH.nil
            go_simp
            refine (HAN2.out _).mono ?_
            rintro e w8 ⟨rfl, hb8⟩
            have N8 := hide_it (N7.out.trans (hb8.mono N7.out.size))
            have st8 : w8.cell? ⟨b7, o7 + i * 2 + 1, none⟩ = some (.int .i64 sf) := by rw [← st7]; exact hb8.cell (p := ⟨b7, o7 + i * 2 + 1, none⟩) (by simpa using hlt7)
            have Y8 := hide_it (Y7.out.after hb8)
            clear hb8
            obtain ⟨x0, x1, x2, x3, x4⟩ := (Q6.out.after N8.out).ho.cells5
            obtain ⟨y0, y1, y2, y3⟩ := (Q6.out.after N8.out).wo.cells4
            try dsimp only
            refine hK.out _ _ ⟨st8, ⟨x0, x1, x2, x3, x4⟩, y0, y1, y2, y3⟩ (fun hHeld => ?_)
            clear hK K x0 x1 x2 x3 x4 y0 y1 y2 y3
            refine takeD (i := 12) (v := ?_) (some 73) rfl rfl (by kernel_rfl) (by kernel_rfl) (by kernel_rfl) (fun _ _ _ h => h) (by rfl) hHeld ?_ ?_
            rotate_left
            · intro W hSw
              try dsimp only at hSw
              go_simp
              try with_reducible rfl
            try simp only [Act.put]
            try simp only [List.setIfInBounds_toArray]
            try simp only [List.set_cons_succ]
            try simp only [List.set_cons_zero]
            refine takeD (i := 13) (v := ?_) (some 86) rfl rfl (by kernel_rfl) (by kernel_rfl) (by kernel_rfl) (fun _ _ _ h => h) (by rfl) hHeld ?_ ?_
            rotate_left
            · intro W hSw
              try dsimp only at hSw
              go_simp
              try with_reducible rfl
            try simp only [Act.put]
            try simp only [List.setIfInBounds_toArray]
            try simp only [List.set_cons_succ]
            try simp only [List.set_cons_zero]
            refine takeD (i := 14) (v := ?_) (some 87) rfl rfl (by kernel_rfl) (by kernel_rfl) (by kernel_rfl) (fun _ _ _ h => h) (by rfl) hHeld ?_ ?_
            rotate_left
            · intro W hSw
              try dsimp only at hSw
              go_simp
              try with_reducible rfl
            try simp only [Act.put]
            try simp only [List.setIfInBounds_toArray]
            try simp only [List.set_cons_succ]
            try simp only [List.set_cons_zero]
            obtain ⟨u0, u1, u2, u3⟩ := Y8.out.cells4
            obtain ⟨uf0, uf1, uf2, uf3, -⟩ := Y8.out.free5
            refine wpAnyH_ready (rs := [16]) (by kernel_rfl) (by simp) ?_
            refine AllReadyH.cons rfl (fun K hK => ?_) AllReadyH.nil
            go_simp
            try dsimp only
            refine hK.out _ _ ?_ (fun hHeld => ?_)
            · exact ⟨(ks4 _ _ _ _ _ _ hne7).trans st8, (Q6.out.after (bset4 N8.out (Nat.le_refl _) _ _ _ _)).ho.cells5, (Q6.out.after (bset4 N8.out (Nat.le_refl _) _ _ _ _)).wo.cells4⟩
            clear hK K
            refine takeD (i := 17) (v := ?_) (some 12) rfl rfl (by kernel_rfl) (by kernel_rfl) (by kernel_rfl) (fun _ _ _ h => h) (by rfl) hHeld ?_ ?_
            rotate_left
            · intro W hSw
              try dsimp only at hSw
              go_simp
              try with_reducible rfl
            try simp only [Act.put]
            try simp only [List.setIfInBounds_toArray]
            try simp only [List.set_cons_succ]
            try simp only [List.set_cons_zero]
            refine wpAnyH_done (by kernel_rfl) ?_ _
            go_wp2_with fail
            go_meet
            case rel => exact ⟨_, rfl, rfl, hide_it ⟨bset4 N8.out (Nat.le_refl _) _ _ _ _, (((Y8.out.set_ 0 _).set_ 1 _).set_ 2 _).set_ 3 _, Nat.le_refl _⟩⟩
        case rest =>
          obtain ⟨bw, rfl, rfl, HMET⟩ := hcut
          have NW := hide_it HMET.out.1
          have YW := hide_it HMET.out.2.1
          have hge : w6.heap.size ≤ bw := HMET.out.2.2
          clear HMET x0 x1 x2 x3 x4 y0 y1 y2 y3 s0 s1 c1
          have QW := hide_it (Q6.out.after NW.out)
          have MW := hide_it (M6.out.below NW.out (Nat.le_refl _))
          have LW := hide_it ((B6.out.trans (NW.out.mono B6.out.size)).mono hlo)
          have h63 := Q6.out.lt
          have n1 : bw ≠ w.heap.size + 1 + 1 := by omega
          have n2 : bw ≠ w.heap.size + 1 + 1 + 1 := by omega
          have n3 : w.heap.size + 1 + 1 ≠ bw := by omega
          have n4 : w.heap.size + 1 + 1 + 1 ≠ bw := by omega
          clear hge h63
          obtain ⟨x0, x1, x2, x3, x4⟩ := QW.out.ho.cells5
          obtain ⟨p0, p1, p2, p3⟩ := YW.out.cells4
          obtain ⟨z0, z1, z2, z3, z4⟩ := QW.out.zo.cells5
          obtain ⟨zf0, zf1, zf2, zf3, zf4⟩ := QW.out.zo.free5
          obtain ⟨q0, q1, q2, q3⟩ := QW.out.zw.cells4
          obtain ⟨qf0, qf1, qf2, qf3, -⟩ := QW.out.zw.free5
          go_wp2_with fail
          go_region_held (fun w' => (w'.cell? ⟨w.heap.size, 0, none⟩ = some (.int .i64 h) ∧ w'.cell? ⟨w.heap.size, 1, none⟩ = some (.bool true) ∧ w'.cell? ⟨w.heap.size, 2, none⟩ = some (.int .i64 room) ∧ w'.cell? ⟨w.heap.size, 3, none⟩ = some (.slice av rs.length cv) ∧ w'.cell? ⟨w.heap.size, 4, none⟩ = some (.int .i64 f)) ∧ (w'.cell? ⟨bw, 0, none⟩ = some (.int .i64 X1) ∧ w'.cell? ⟨bw, 1, none⟩ = some (.int .i64 X2) ∧ w'.cell? ⟨bw, 2, none⟩ = some (.int .i64 X3) ∧ w'.cell? ⟨bw, 3, none⟩ = some (.int .i64 0))) (first | (go_keep; done) | (refine ⟨⟨?_, ?_, ?_, ?_, ?_⟩, ?_, ?_, ?_, ?_⟩ <;> simp [go_sem, *])) (fail)
          all_goals
            go_wp2
            refine bodyPost_ret (v := .tuple #[houseV h true room (.slice av rs.length cv) f, wordV X1 X2 X3 0, .bool YB]) (by simp [results, Tryz.results27, go_sem, *]) rfl ?_
            exact ⟨av, cv, rfl, (Made.handed MW.out QW.out _ _ _ _ _ _ _ _ _).below (Below.refl _ _).drew (Nat.le_refl _), (Below.handed LW.out hlo _ _ _ _ _ _ _ _ _).drew⟩
      · have es : (sa == 0) = false := by simpa using hk1
        go_wp2_with fail
        go_cut [11, 12] (fun p b W => ∃ bw, p = .pointer (some ⟨bw, 0, none⟩) ∧ b = .bool YB ∧ Hid (Below w6.heap.size w6 W ∧ Blk W bw #[.int .i64 X1, .int .i64 X2, .int .i64 X3, .int .i64 0] 35 ∧ w6.heap.size ≤ bw))
        case first =>
          refine wp_region_held_drew (S := (fun w' => (w'.cell? ⟨w.heap.size, 0, none⟩ = some (.int .i64 h) ∧ w'.cell? ⟨w.heap.size, 1, none⟩ = some (.bool true) ∧ w'.cell? ⟨w.heap.size, 2, none⟩ = some (.int .i64 room) ∧ w'.cell? ⟨w.heap.size, 3, none⟩ = some (.slice av rs.length cv) ∧ w'.cell? ⟨w.heap.size, 4, none⟩ = some (.int .i64 f)) ∧ (w'.cell? ⟨w.heap.size + 1, 0, none⟩ = some (.int .i64 1) ∧ w'.cell? ⟨w.heap.size + 1, 1, none⟩ = some (.int .i64 h) ∧ w'.cell? ⟨w.heap.size + 1, 2, none⟩ = some (.int .i64 ((i : Int) + 1)) ∧ w'.cell? ⟨w.heap.size + 1, 3, none⟩ = some (.int .i64 m)))) (by kernel_rfl) ⟨⟨x0, x1, x2, x3, x4⟩, y0, y1, y2, y3⟩ (fun hHeld => ?_)
          clear x0 x1 x2 x3 x4 y0 y1 y2 y3
          refine takeD (i := 0) (v := ?_) (some 74) rfl rfl (by kernel_rfl) (by kernel_rfl) (by kernel_rfl) (fun _ _ _ h => h) (by rfl) hHeld ?_ ?_
          rotate_left
          · intro W hSw
            try dsimp only at hSw
            go_simp
            try with_reducible rfl
          try simp only [Act.put]
          try simp only [List.setIfInBounds_toArray]
          try simp only [List.set_cons_succ]
          try simp only [List.set_cons_zero]
          refine takeD (i := 1) (v := ?_) (some 75) rfl rfl (by kernel_rfl) (by kernel_rfl) (by kernel_rfl) (fun _ _ _ h => h) (by rfl) hHeld ?_ ?_
          rotate_left
          · intro W hSw
            try dsimp only at hSw
            go_simp
            try with_reducible rfl
          try simp only [Act.put]
          try simp only [List.setIfInBounds_toArray]
          try simp only [List.set_cons_succ]
          try simp only [List.set_cons_zero]
          refine takeD (i := 2) (v := ?_) (some 76) rfl rfl (by kernel_rfl) (by kernel_rfl) (by kernel_rfl) (fun _ _ _ h => h) (by rfl) hHeld ?_ ?_
          rotate_left
          · intro W hSw
            try dsimp only at hSw
            go_simp
            try with_reducible rfl
          try simp only [Act.put]
          try simp only [List.setIfInBounds_toArray]
          try simp only [List.set_cons_succ]
          try simp only [List.set_cons_zero]
          refine takeD (i := 5) (v := ?_) (some 79) rfl rfl (by kernel_rfl) (by kernel_rfl) (by kernel_rfl) (fun _ _ _ h => h) (by rfl) hHeld ?_ ?_
          rotate_left
          · intro W hSw
            try dsimp only at hSw
            go_simp
            try with_reducible rfl
          try simp only [Act.put]
          try simp only [List.setIfInBounds_toArray]
          try simp only [List.set_cons_succ]
          try simp only [List.set_cons_zero]
          refine takeD (i := 6) (v := ?_) (some 80) rfl rfl (by kernel_rfl) (by kernel_rfl) (by kernel_rfl) (fun _ _ _ h => h) (by rfl) hHeld ?_ ?_
          rotate_left
          · intro W hSw
            try dsimp only at hSw
            go_simp
            try with_reducible rfl
          try simp only [Act.put]
          try simp only [List.setIfInBounds_toArray]
          try simp only [List.set_cons_succ]
          try simp only [List.set_cons_zero]
          refine takeD (i := 7) (v := ?_) (some 81) rfl rfl (by kernel_rfl) (by kernel_rfl) (by kernel_rfl) (fun _ _ _ h => h) (by rfl) hHeld ?_ ?_
          rotate_left
          · intro W hSw
            try dsimp only at hSw
            go_simp
            try with_reducible rfl
          try simp only [Act.put]
          try simp only [List.setIfInBounds_toArray]
          try simp only [List.set_cons_succ]
          try simp only [List.set_cons_zero]
          refine wpAnyH_ready (rs := [3, 15]) (by kernel_rfl) (by simp) ?_
          refine AllReadyH.cons rfl (fun K hK => ?_) (AllReadyH.cons rfl (fun K hK => ?_) AllReadyH.nil)
          · go_simp
            refine (SF.out _ B6.out.drew).mono ?_
            rintro e w7 ⟨a7, c7, rfl, hH7, hb7, hrow7⟩
            have N7 := hide_it ((Below.refl w6.heap.size w6).drew.trans hb7)
            obtain ⟨b7, o7, cc7, hv7, st7, hlt7⟩ := state_at hH7 H6F.out hi
            simp only [Value.slice.injEq, true_and] at hv7
            obtain ⟨rfl, rfl⟩ := hv7
            have hge7 := hrow7 _ _ rfl
            clear hrow7
            rw [hsf.out] at st7
            clear hb7 hH7
            have hfs := fun W => field_stock room (some ⟨b7, o7, none⟩) 6 c7 W
            obtain ⟨x0, x1, x2, x3, x4⟩ := (Q6.out.after N7.out).ho.cells5
            obtain ⟨y0, y1, y2, y3⟩ := (Q6.out.after N7.out).wo.cells4
            try dsimp only
            refine hK.out _ _ ⟨⟨x0, x1, x2, x3, x4⟩, y0, y1, y2, y3⟩ (fun hHeld => ?_)
            clear hK K x0 x1 x2 x3 x4 y0 y1 y2 y3
            refine heldMono (S2 := (fun w' => w'.cell? ⟨b7, o7 + i * 2 + 1, none⟩ = some (.int .i64 sf) ∧ (w'.cell? ⟨w.heap.size, 0, none⟩ = some (.int .i64 h) ∧ w'.cell? ⟨w.heap.size, 1, none⟩ = some (.bool true) ∧ w'.cell? ⟨w.heap.size, 2, none⟩ = some (.int .i64 room) ∧ w'.cell? ⟨w.heap.size, 3, none⟩ = some (.slice av rs.length cv) ∧ w'.cell? ⟨w.heap.size, 4, none⟩ = some (.int .i64 f)) ∧ (w'.cell? ⟨w.heap.size + 1, 0, none⟩ = some (.int .i64 1) ∧ w'.cell? ⟨w.heap.size + 1, 1, none⟩ = some (.int .i64 h) ∧ w'.cell? ⟨w.heap.size + 1, 2, none⟩ = some (.int .i64 ((i : Int) + 1)) ∧ w'.cell? ⟨w.heap.size + 1, 3, none⟩ = some (.int .i64 m)))) (fun _ h => h.2) _ _ _ _ ?_
            replace hHeld := And.intro st7 hHeld
            refine takeD (i := 4) (v := ?_) (some 78) rfl rfl (by kernel_rfl) (by kernel_rfl) (by kernel_rfl) (fun _ _ _ h => h) (by rfl) hHeld ?_ ?_
            rotate_left
            · intro W hSw
              try dsimp only at hSw
              go_simp
              try with_reducible rfl
            try simp only [Act.put]
            try simp only [List.setIfInBounds_toArray]
            try simp only [List.set_cons_succ]
            try simp only [List.set_cons_zero]
            refine takeD (i := 8) (v := ?_) (some 82) rfl rfl (by kernel_rfl) (by kernel_rfl) (by kernel_rfl) (fun _ _ _ h => h) (by rfl) hHeld ?_ ?_
            rotate_left
            · intro W hSw
              try dsimp only at hSw
              go_simp
              try with_reducible rfl
            try simp only [Act.put]
            try simp only [List.setIfInBounds_toArray]
            try simp only [List.set_cons_succ]
            try simp only [List.set_cons_zero]
            refine takeD (i := 9) (v := ?_) (some 83) rfl rfl (by kernel_rfl) (by kernel_rfl) (by kernel_rfl) (fun _ _ _ h => h) (by rfl) hHeld ?_ ?_
            rotate_left
            · intro W hSw
              try dsimp only at hSw
              go_simp
              try with_reducible rfl
            try simp only [Act.put]
            try simp only [List.setIfInBounds_toArray]
            try simp only [List.set_cons_succ]
            try simp only [List.set_cons_zero]
            refine takeD (i := 10) (v := ?_) (some 84) rfl rfl (by kernel_rfl) (by kernel_rfl) (by kernel_rfl) (fun _ _ _ h => h) (by rfl) hHeld ?_ ?_
            rotate_left
            · intro W hSw
              try dsimp only at hSw
              go_simp
              try with_reducible rfl
            try simp only [Act.put]
            try simp only [List.setIfInBounds_toArray]
            try simp only [List.set_cons_succ]
            try simp only [List.set_cons_zero]
            refine wpAnyH_ready (rs := [11, 15]) (by kernel_rfl) (by simp) ?_
            refine AllReadyH.cons rfl (fun K hK => ?_) (AllReadyH.cons rfl (fun K hK => ?_) AllReadyH.nil)
            · go_simp
              refine (HAN2.out _).mono ?_
              rintro e w8 ⟨rfl, hb8⟩
              have N8 := hide_it (N7.out.trans (hb8.mono N7.out.size))
              have st8 : w8.cell? ⟨b7, o7 + i * 2 + 1, none⟩ = some (.int .i64 sf) := by rw [← st7]; exact hb8.cell (p := ⟨b7, o7 + i * 2 + 1, none⟩) (by simpa using hlt7)
              clear hb8
              obtain ⟨x0, x1, x2, x3, x4⟩ := (Q6.out.after N8.out).ho.cells5
              obtain ⟨y0, y1, y2, y3⟩ := (Q6.out.after N8.out).wo.cells4
              try dsimp only
              refine hK.out _ _ ⟨st8, ⟨x0, x1, x2, x3, x4⟩, y0, y1, y2, y3⟩ (fun hHeld => ?_)
              clear hK K x0 x1 x2 x3 x4 y0 y1 y2 y3
              refine takeD (i := 12) (v := ?_) (some 73) rfl rfl (by kernel_rfl) (by kernel_rfl) (by kernel_rfl) (fun _ _ _ h => h) (by rfl) hHeld ?_ ?_
              rotate_left
              · intro W hSw
                try dsimp only at hSw
                go_simp
                try with_reducible rfl
              try simp only [Act.put]
              try simp only [List.setIfInBounds_toArray]
              try simp only [List.set_cons_succ]
              try simp only [List.set_cons_zero]
              refine takeD (i := 13) (v := ?_) (some 86) rfl rfl (by kernel_rfl) (by kernel_rfl) (by kernel_rfl) (fun _ _ _ h => h) (by rfl) hHeld ?_ ?_
              rotate_left
              · intro W hSw
                try dsimp only at hSw
                go_simp
                try with_reducible rfl
              try simp only [Act.put]
              try simp only [List.setIfInBounds_toArray]
              try simp only [List.set_cons_succ]
              try simp only [List.set_cons_zero]
              refine takeD (i := 14) (v := ?_) (some 87) rfl rfl (by kernel_rfl) (by kernel_rfl) (by kernel_rfl) (fun _ _ _ h => h) (by rfl) hHeld ?_ ?_
              rotate_left
              · intro W hSw
                try dsimp only at hSw
                go_simp
                try with_reducible rfl
              try simp only [Act.put]
              try simp only [List.setIfInBounds_toArray]
              try simp only [List.set_cons_succ]
              try simp only [List.set_cons_zero]
              refine wpAnyH_ready (rs := [15]) (by kernel_rfl) (by simp) ?_
              refine AllReadyH.cons rfl (fun K hK => ?_) AllReadyH.nil
              go_simp
              try dsimp only
              refine hK.out _ _ ?_ (fun hHeld => ?_)
              · exact ⟨cellAlloc st8 _, (Q6.out.after (N8.out.alloc N8.out.size _)).ho.cells5, (Q6.out.after (N8.out.alloc N8.out.size _)).wo.cells4⟩
              clear hK K
              refine wpAnyH_ready (rs := [16]) (by kernel_rfl) (by simp) ?_
              refine AllReadyH.cons rfl (fun K hK => ?_) AllReadyH.nil
              go_simp
              try dsimp only
              refine hK.out _ _ ?_ (fun hHeld => ?_)
              · exact ⟨cellAlloc st8 _, (Q6.out.after (N8.out.alloc N8.out.size _)).ho.cells5, (Q6.out.after (N8.out.alloc N8.out.size _)).wo.cells4⟩
              clear hK K
              refine takeD (i := 17) (v := ?_) (some 12) rfl rfl (by kernel_rfl) (by kernel_rfl) (by kernel_rfl) (fun _ _ _ h => h) (by rfl) hHeld ?_ ?_
              rotate_left
              · intro W hSw
                try dsimp only at hSw
                go_simp
                try with_reducible rfl
              try simp only [Act.put]
              try simp only [List.setIfInBounds_toArray]
              try simp only [List.set_cons_succ]
              try simp only [List.set_cons_zero]
              refine wpAnyH_done (by kernel_rfl) ?_ _
              go_wp2_with fail
              go_meet
              case rel => exact ⟨_, rfl, rfl, hide_it ⟨N8.out.alloc N8.out.size _, Blk.new _ _ _, N8.out.size⟩⟩
            · go_simp
              try dsimp only
              refine hK.out _ _ ?_ (fun hHeld => ?_)
              · exact ⟨cellAlloc st7 _, (Q6.out.after (N7.out.alloc N7.out.size _)).ho.cells5, (Q6.out.after (N7.out.alloc N7.out.size _)).wo.cells4⟩
              clear hK K
              refine wpAnyH_ready (rs := [11]) (by kernel_rfl) (by simp) ?_
              refine AllReadyH.cons rfl (fun K hK => ?_) AllReadyH.nil
              go_simp
              refine (HAN2.out _).mono ?_
              rintro e w8 ⟨rfl, hb8⟩
              have N8 := hide_it ((N7.out.alloc N7.out.size _).trans (hb8.mono (by have := N7.out.size; simp; omega)))
              have st8 : w8.cell? ⟨b7, o7 + i * 2 + 1, none⟩ = some (.int .i64 sf) := by rw [← cellAlloc st7 (.cells #[.int .i64 0, .int .i64 0, .int .i64 0, .int .i64 0] 35)]; exact hb8.cell (p := ⟨b7, o7 + i * 2 + 1, none⟩) (by simp; omega)
              have Y8 := hide_it ((Blk.new w7 #[.int .i64 0, .int .i64 0, .int .i64 0, .int .i64 0] 35).after hb8)
              have hge8 : w6.heap.size ≤ w7.heap.size := N7.out.size
              clear hb8
              obtain ⟨x0, x1, x2, x3, x4⟩ := (Q6.out.after N8.out).ho.cells5
              obtain ⟨y0, y1, y2, y3⟩ := (Q6.out.after N8.out).wo.cells4
              try dsimp only
              refine hK.out _ _ ⟨st8, ⟨x0, x1, x2, x3, x4⟩, y0, y1, y2, y3⟩ (fun hHeld => ?_)
              clear hK K x0 x1 x2 x3 x4 y0 y1 y2 y3
              refine takeD (i := 12) (v := ?_) (some 73) rfl rfl (by kernel_rfl) (by kernel_rfl) (by kernel_rfl) (fun _ _ _ h => h) (by rfl) hHeld ?_ ?_
              rotate_left
              · intro W hSw
                try dsimp only at hSw
                go_simp
                try with_reducible rfl
              try simp only [Act.put]
              try simp only [List.setIfInBounds_toArray]
              try simp only [List.set_cons_succ]
              try simp only [List.set_cons_zero]
              refine takeD (i := 13) (v := ?_) (some 86) rfl rfl (by kernel_rfl) (by kernel_rfl) (by kernel_rfl) (fun _ _ _ h => h) (by rfl) hHeld ?_ ?_
              rotate_left
              · intro W hSw
                try dsimp only at hSw
                go_simp
                try with_reducible rfl
              try simp only [Act.put]
              try simp only [List.setIfInBounds_toArray]
              try simp only [List.set_cons_succ]
              try simp only [List.set_cons_zero]
              refine takeD (i := 14) (v := ?_) (some 87) rfl rfl (by kernel_rfl) (by kernel_rfl) (by kernel_rfl) (fun _ _ _ h => h) (by rfl) hHeld ?_ ?_
              rotate_left
              · intro W hSw
                try dsimp only at hSw
                go_simp
                try with_reducible rfl
              try simp only [Act.put]
              try simp only [List.setIfInBounds_toArray]
              try simp only [List.set_cons_succ]
              try simp only [List.set_cons_zero]
              obtain ⟨u0, u1, u2, u3⟩ := Y8.out.cells4
              obtain ⟨uf0, uf1, uf2, uf3, -⟩ := Y8.out.free5
              refine wpAnyH_ready (rs := [16]) (by kernel_rfl) (by simp) ?_
              refine AllReadyH.cons rfl (fun K hK => ?_) AllReadyH.nil
              go_simp
              try dsimp only
              refine hK.out _ _ ?_ (fun hHeld => ?_)
              · exact ⟨(ks4 _ _ _ _ _ _ (by omega)).trans st8, (Q6.out.after (bset4 N8.out hge8 _ _ _ _)).ho.cells5, (Q6.out.after (bset4 N8.out hge8 _ _ _ _)).wo.cells4⟩
              clear hK K
              refine takeD (i := 17) (v := ?_) (some 12) rfl rfl (by kernel_rfl) (by kernel_rfl) (by kernel_rfl) (fun _ _ _ h => h) (by rfl) hHeld ?_ ?_
              rotate_left
              · intro W hSw
                try dsimp only at hSw
                go_simp
                try with_reducible rfl
              try simp only [Act.put]
              try simp only [List.setIfInBounds_toArray]
              try simp only [List.set_cons_succ]
              try simp only [List.set_cons_zero]
              refine wpAnyH_done (by kernel_rfl) ?_ _
              go_wp2_with fail
              go_meet
              case rel => exact ⟨_, rfl, rfl, hide_it ⟨bset4 N8.out hge8 _ _ _ _, (((Y8.out.set_ 0 _).set_ 1 _).set_ 2 _).set_ 3 _, hge8⟩⟩
          · go_simp
            try dsimp only
            refine hK.out _ _ ?_ (fun hHeld => ?_)
            · exact ⟨(Q6.out.after ((alloc_below w6 _).drew)).ho.cells5, (Q6.out.after ((alloc_below w6 _).drew)).wo.cells4⟩
            clear hK K
            refine wpAnyH_ready (rs := [3]) (by kernel_rfl) (by simp) ?_
            refine AllReadyH.cons rfl (fun K hK => ?_) AllReadyH.nil
            go_simp
            refine (SF.out _ (B6.out.alloc B6.out.size _).drew).mono ?_
            rintro e w7 ⟨a7, c7, rfl, hH7, hb7, hrow7⟩
            have N7 := hide_it (b_alloc_drew hb7)
            have Y7 := hide_it (z_alloc_drew hb7)
            obtain ⟨b7, o7, cc7, hv7, st7, hlt7⟩ := state_at hH7 H6F.out hi
            simp only [Value.slice.injEq, true_and] at hv7
            obtain ⟨rfl, rfl⟩ := hv7
            have hge7 := hrow7 _ _ rfl
            clear hrow7
            rw [hsf.out] at st7
            clear hb7 hH7
            have hfs := fun W => field_stock room (some ⟨b7, o7, none⟩) 6 c7 W
            obtain ⟨x0, x1, x2, x3, x4⟩ := (Q6.out.after N7.out).ho.cells5
            obtain ⟨y0, y1, y2, y3⟩ := (Q6.out.after N7.out).wo.cells4
            try dsimp only
            refine hK.out _ _ ⟨⟨x0, x1, x2, x3, x4⟩, y0, y1, y2, y3⟩ (fun hHeld => ?_)
            clear hK K x0 x1 x2 x3 x4 y0 y1 y2 y3
            refine heldMono (S2 := (fun w' => w'.cell? ⟨b7, o7 + i * 2 + 1, none⟩ = some (.int .i64 sf) ∧ (w'.cell? ⟨w.heap.size, 0, none⟩ = some (.int .i64 h) ∧ w'.cell? ⟨w.heap.size, 1, none⟩ = some (.bool true) ∧ w'.cell? ⟨w.heap.size, 2, none⟩ = some (.int .i64 room) ∧ w'.cell? ⟨w.heap.size, 3, none⟩ = some (.slice av rs.length cv) ∧ w'.cell? ⟨w.heap.size, 4, none⟩ = some (.int .i64 f)) ∧ (w'.cell? ⟨w.heap.size + 1, 0, none⟩ = some (.int .i64 1) ∧ w'.cell? ⟨w.heap.size + 1, 1, none⟩ = some (.int .i64 h) ∧ w'.cell? ⟨w.heap.size + 1, 2, none⟩ = some (.int .i64 ((i : Int) + 1)) ∧ w'.cell? ⟨w.heap.size + 1, 3, none⟩ = some (.int .i64 m)))) (fun _ h => h.2) _ _ _ _ ?_
            replace hHeld := And.intro st7 hHeld
            refine takeD (i := 4) (v := ?_) (some 78) rfl rfl (by kernel_rfl) (by kernel_rfl) (by kernel_rfl) (fun _ _ _ h => h) (by rfl) hHeld ?_ ?_
            rotate_left
            · intro W hSw
              try dsimp only at hSw
              go_simp
              try with_reducible rfl
            try simp only [Act.put]
            try simp only [List.setIfInBounds_toArray]
            try simp only [List.set_cons_succ]
            try simp only [List.set_cons_zero]
            refine takeD (i := 8) (v := ?_) (some 82) rfl rfl (by kernel_rfl) (by kernel_rfl) (by kernel_rfl) (fun _ _ _ h => h) (by rfl) hHeld ?_ ?_
            rotate_left
            · intro W hSw
              try dsimp only at hSw
              go_simp
              try with_reducible rfl
            try simp only [Act.put]
            try simp only [List.setIfInBounds_toArray]
            try simp only [List.set_cons_succ]
            try simp only [List.set_cons_zero]
            refine takeD (i := 9) (v := ?_) (some 83) rfl rfl (by kernel_rfl) (by kernel_rfl) (by kernel_rfl) (fun _ _ _ h => h) (by rfl) hHeld ?_ ?_
            rotate_left
            · intro W hSw
              try dsimp only at hSw
              go_simp
              try with_reducible rfl
            try simp only [Act.put]
            try simp only [List.setIfInBounds_toArray]
            try simp only [List.set_cons_succ]
            try simp only [List.set_cons_zero]
            refine takeD (i := 10) (v := ?_) (some 84) rfl rfl (by kernel_rfl) (by kernel_rfl) (by kernel_rfl) (fun _ _ _ h => h) (by rfl) hHeld ?_ ?_
            rotate_left
            · intro W hSw
              try dsimp only at hSw
              go_simp
              try with_reducible rfl
            try simp only [Act.put]
            try simp only [List.setIfInBounds_toArray]
            try simp only [List.set_cons_succ]
            try simp only [List.set_cons_zero]
            have hne7 : b7 ≠ w6.heap.size := by simp at hge7; omega
            clear hge7
            refine wpAnyH_ready (rs := [11]) (by kernel_rfl) (by simp) ?_
            refine AllReadyH.cons rfl (fun K hK => ?_) AllReadyH.nil
            go_simp
            refine (HAN2.out _).mono ?_
            rintro e w8 ⟨rfl, hb8⟩
            have N8 := hide_it (N7.out.trans (hb8.mono N7.out.size))
            have st8 : w8.cell? ⟨b7, o7 + i * 2 + 1, none⟩ = some (.int .i64 sf) := by rw [← st7]; exact hb8.cell (p := ⟨b7, o7 + i * 2 + 1, none⟩) (by simpa using hlt7)
            have Y8 := hide_it (Y7.out.after hb8)
            clear hb8
            obtain ⟨x0, x1, x2, x3, x4⟩ := (Q6.out.after N8.out).ho.cells5
            obtain ⟨y0, y1, y2, y3⟩ := (Q6.out.after N8.out).wo.cells4
            try dsimp only
            refine hK.out _ _ ⟨st8, ⟨x0, x1, x2, x3, x4⟩, y0, y1, y2, y3⟩ (fun hHeld => ?_)
            clear hK K x0 x1 x2 x3 x4 y0 y1 y2 y3
            refine takeD (i := 12) (v := ?_) (some 73) rfl rfl (by kernel_rfl) (by kernel_rfl) (by kernel_rfl) (fun _ _ _ h => h) (by rfl) hHeld ?_ ?_
            rotate_left
            · intro W hSw
              try dsimp only at hSw
              go_simp
              try with_reducible rfl
            try simp only [Act.put]
            try simp only [List.setIfInBounds_toArray]
            try simp only [List.set_cons_succ]
            try simp only [List.set_cons_zero]
            refine takeD (i := 13) (v := ?_) (some 86) rfl rfl (by kernel_rfl) (by kernel_rfl) (by kernel_rfl) (fun _ _ _ h => h) (by rfl) hHeld ?_ ?_
            rotate_left
            · intro W hSw
              try dsimp only at hSw
              go_simp
              try with_reducible rfl
            try simp only [Act.put]
            try simp only [List.setIfInBounds_toArray]
            try simp only [List.set_cons_succ]
            try simp only [List.set_cons_zero]
            refine takeD (i := 14) (v := ?_) (some 87) rfl rfl (by kernel_rfl) (by kernel_rfl) (by kernel_rfl) (fun _ _ _ h => h) (by rfl) hHeld ?_ ?_
            rotate_left
            · intro W hSw
              try dsimp only at hSw
              go_simp
              try with_reducible rfl
            try simp only [Act.put]
            try simp only [List.setIfInBounds_toArray]
            try simp only [List.set_cons_succ]
            try simp only [List.set_cons_zero]
            obtain ⟨u0, u1, u2, u3⟩ := Y8.out.cells4
            obtain ⟨uf0, uf1, uf2, uf3, -⟩ := Y8.out.free5
            refine wpAnyH_ready (rs := [16]) (by kernel_rfl) (by simp) ?_
            refine AllReadyH.cons rfl (fun K hK => ?_) AllReadyH.nil
            go_simp
            try dsimp only
            refine hK.out _ _ ?_ (fun hHeld => ?_)
            · exact ⟨(ks4 _ _ _ _ _ _ hne7).trans st8, (Q6.out.after (bset4 N8.out (Nat.le_refl _) _ _ _ _)).ho.cells5, (Q6.out.after (bset4 N8.out (Nat.le_refl _) _ _ _ _)).wo.cells4⟩
            clear hK K
            refine takeD (i := 17) (v := ?_) (some 12) rfl rfl (by kernel_rfl) (by kernel_rfl) (by kernel_rfl) (fun _ _ _ h => h) (by rfl) hHeld ?_ ?_
            rotate_left
            · intro W hSw
              try dsimp only at hSw
              go_simp
              try with_reducible rfl
            try simp only [Act.put]
            try simp only [List.setIfInBounds_toArray]
            try simp only [List.set_cons_succ]
            try simp only [List.set_cons_zero]
            refine wpAnyH_done (by kernel_rfl) ?_ _
            go_wp2_with fail
            go_meet
            case rel => exact ⟨_, rfl, rfl, hide_it ⟨bset4 N8.out (Nat.le_refl _) _ _ _ _, (((Y8.out.set_ 0 _).set_ 1 _).set_ 2 _).set_ 3 _, Nat.le_refl _⟩⟩
        case rest =>
          obtain ⟨bw, rfl, rfl, HMET⟩ := hcut
          have NW := hide_it HMET.out.1
          have YW := hide_it HMET.out.2.1
          have hge : w6.heap.size ≤ bw := HMET.out.2.2
          clear HMET x0 x1 x2 x3 x4 y0 y1 y2 y3 s0 s1 c1
          have QW := hide_it (Q6.out.after NW.out)
          have MW := hide_it (M6.out.below NW.out (Nat.le_refl _))
          have LW := hide_it ((B6.out.trans (NW.out.mono B6.out.size)).mono hlo)
          have h63 := Q6.out.lt
          have n1 : bw ≠ w.heap.size + 1 + 1 := by omega
          have n2 : bw ≠ w.heap.size + 1 + 1 + 1 := by omega
          have n3 : w.heap.size + 1 + 1 ≠ bw := by omega
          have n4 : w.heap.size + 1 + 1 + 1 ≠ bw := by omega
          clear hge h63
          obtain ⟨x0, x1, x2, x3, x4⟩ := QW.out.ho.cells5
          obtain ⟨p0, p1, p2, p3⟩ := YW.out.cells4
          obtain ⟨z0, z1, z2, z3, z4⟩ := QW.out.zo.cells5
          obtain ⟨zf0, zf1, zf2, zf3, zf4⟩ := QW.out.zo.free5
          obtain ⟨q0, q1, q2, q3⟩ := QW.out.zw.cells4
          obtain ⟨qf0, qf1, qf2, qf3, -⟩ := QW.out.zw.free5
          go_wp2_with fail
          go_region_held (fun w' => (w'.cell? ⟨w.heap.size, 0, none⟩ = some (.int .i64 h) ∧ w'.cell? ⟨w.heap.size, 1, none⟩ = some (.bool true) ∧ w'.cell? ⟨w.heap.size, 2, none⟩ = some (.int .i64 room) ∧ w'.cell? ⟨w.heap.size, 3, none⟩ = some (.slice av rs.length cv) ∧ w'.cell? ⟨w.heap.size, 4, none⟩ = some (.int .i64 f)) ∧ (w'.cell? ⟨bw, 0, none⟩ = some (.int .i64 X1) ∧ w'.cell? ⟨bw, 1, none⟩ = some (.int .i64 X2) ∧ w'.cell? ⟨bw, 2, none⟩ = some (.int .i64 X3) ∧ w'.cell? ⟨bw, 3, none⟩ = some (.int .i64 0))) (first | (go_keep; done) | (refine ⟨⟨?_, ?_, ?_, ?_, ?_⟩, ?_, ?_, ?_, ?_⟩ <;> simp [go_sem, *])) (fail)
          all_goals
            go_wp2
            refine bodyPost_ret (v := .tuple #[houseV h true room (.slice av rs.length cv) f, wordV X1 X2 X3 0, .bool YB]) (by simp [results, Tryz.results27, go_sem, *]) rfl ?_
            exact ⟨av, cv, rfl, (Made.handed MW.out QW.out _ _ _ _ _ _ _ _ _).below (Below.refl _ _).drew (Nat.le_refl _), (Below.handed LW.out hlo _ _ _ _ _ _ _ _ _).drew⟩
  · -- it may come
    obtain ⟨RS, hRS⟩ : ∃ x, Hid (rs ++ [(k, (i : Int) + 1, ZS)] = x) := ⟨_, rfl⟩
    have hRl : Hid (RS.length = rs.length + 1) := by show _ = _; rw [← hRS.out]; simp
    have hO1 : OO = ((h, true, room, RS, f), (0, 0, 0), false) := by
      rw [← hRS.out, ← hOO.out, ← hZS.out]; exact hearO'_may HHB.out HMY2.out
    subst hO1
    have LA : Hid (Calls Tryz.prog 63 #[.agg #[.slice av rs.length cv, .int .i64 f], .agg #[.int .i64 k, .int .i64 ((i : Int) + 1), .slice au ZS.length cu]] w6 fun e w' => ∃ g cap', e = .returned (.tuple #[.agg #[.slice (some ⟨g, 0, none⟩) RS.length cap', .int .i64 f], .bool true]) ∧ Made w' lo (.slice (some ⟨g, 0, none⟩) RS.length cap') RS ∧ Below lo w6 w' ∧ Mid lo w.heap.size w6 w') := by
      obtain ⟨ps, hp, ho⟩ := HM.out
      have hpl : ps.length = rs.length := by have := congrArg List.length hp; simpa using this
      have ho6 := ho.below B6.out (Nat.le_refl _)
      rw [← hpl] at ho6
      have h := l1Add_mid av cv ps f (k, (i : Int) + 1, ZS) au cu lo w.heap.size w6 ho6 (Nat.le_trans hlo B6.out.size) (ownsRow_base R6.out (by omega)) (fun j hj => by have := (R6.out.lt j hj).1; omega) (by omega)
      rw [hp, hRS.out, hpl, ← hRl.out] at h
      exact h
    obtain ⟨x0, x1, x2, x3, x4⟩ := Q6.out.ho.cells5
    obtain ⟨t0, t1, t2⟩ := T6.out.cells3
    go_wp2_with fail
    refine LA.out.mono ?_
    rintro e w7 ⟨g, c7, rfl, hm7, hb7, hmid⟩
    have Q7 := hide_it (Q6.out.mid hmid (Nat.le_refl _))
    have M7 := hide_it hm7
    have L7 := hide_it ((B6.out.mono hlo).trans hb7)
    have hs7 : w.heap.size + 3 < w7.heap.size := Q7.out.lt
    clear hm7 hb7 hmid x0 x1 x2 x3 x4 t0 t1 t2
    obtain ⟨x0, x1, x2, x3, x4⟩ := Q7.out.ho.cells5
    obtain ⟨xf0, xf1, xf2, xf3, xf4⟩ := Q7.out.ho.free5
    obtain ⟨z0, z1, z2, z3, z4⟩ := Q7.out.zo.cells5
    obtain ⟨zf0, zf1, zf2, zf3, zf4⟩ := Q7.out.zo.free5
    obtain ⟨q0, q1, q2, q3⟩ := Q7.out.zw.cells4
    obtain ⟨qf0, qf1, qf2, qf3, -⟩ := Q7.out.zw.free5
    have n0 : w.heap.size < w7.heap.size := by omega
    have n2 : w.heap.size + 1 + 1 < w7.heap.size := by omega
    have n3 : w.heap.size + 1 + 1 + 1 < w7.heap.size := by omega
    go_wp2
    obtain ⟨w8, hw8⟩ : ∃ W, Hid (W = (w7.setCell ⟨w.heap.size, 3, none⟩ (.slice (some ⟨g, 0, none⟩) RS.length c7)).setCell ⟨w.heap.size, 4, none⟩ (.int .i64 f)) := ⟨_, rfl⟩
    have M8 : Hid (Made w8 lo (.slice (some ⟨g, 0, none⟩) RS.length c7) RS) := by
      show Made _ _ _ _
      rw [hw8.out]
      exact (M7.out.setBlk (j := 3) Q7.out.ho (by decide) (by decide) _).setBlk (j := 4) (Q7.out.ho.set_ 3 _) (by decide) (by decide) _
    have Q8 : Hid (Four w8 w.heap.size h true room (.slice (some ⟨g, 0, none⟩) RS.length c7) f k h ((i : Int) + 1) m) := by
      show Four _ _ _ _ _ _ _ _ _ _ _
      rw [hw8.out]
      exact ⟨(Q7.out.ho.set_ 3 _).set_ 4 _, (Q7.out.wo.other (by simp) _).other (by simp) _, (Q7.out.zo.other (by simp) _).other (by simp) _, (Q7.out.zw.other (by simp) _).other (by simp) _⟩
    have L8 : Hid (Below lo w w8) := by
      show Below _ _ _
      rw [hw8.out]
      exact (L7.out.setCell (by simp; omega) _).setCell (by simp; omega) _
    have hs8 : Hid (w8.heap.size = w7.heap.size) := by show _ = _; rw [hw8.out]; simp
    rw [← hw8.out]
    clear x0 x1 x2 x3 x4 xf0 xf1 xf2 xf3 xf4 z0 z1 z2 z3 z4 zf0 zf1 zf2 zf3 zf4 q0 q1 q2 q3 qf0 qf1 qf2 qf3 n0 n2 n3
    obtain ⟨w9, hw9⟩ : ∃ W, Hid (W = ((((((((w8.setCell ⟨w.heap.size + 1 + 1, 0, none⟩ (.int .i64 h)).setCell ⟨w.heap.size + 1 + 1, 1, none⟩ (.bool true)).setCell ⟨w.heap.size + 1 + 1, 2, none⟩ (.int .i64 room)).setCell ⟨w.heap.size + 1 + 1, 3, none⟩ (.slice (some ⟨g, 0, none⟩) RS.length c7)).setCell ⟨w.heap.size + 1 + 1, 4, none⟩ (.int .i64 f)).setCell ⟨w.heap.size + 1 + 1 + 1, 0, none⟩ (.int .i64 0)).setCell ⟨w.heap.size + 1 + 1 + 1, 1, none⟩ (.int .i64 0)).setCell ⟨w.heap.size + 1 + 1 + 1, 2, none⟩ (.int .i64 0)).setCell ⟨w.heap.size + 1 + 1 + 1, 3, none⟩ (.int .i64 0)) := ⟨_, rfl⟩
    have M9 : Hid (Made w9 lo (.slice (some ⟨g, 0, none⟩) RS.length c7) RS) := by show Made _ _ _ _; rw [hw9.out]; exact Made.handed M8.out Q8.out _ _ _ _ _ _ _ _ _
    have L9 : Hid (Below lo w w9) := by show Below _ _ _; rw [hw9.out]; exact Below.handed L8.out hlo _ _ _ _ _ _ _ _ _
    have Z9 : Hid (Blk w9 (w.heap.size + 1 + 1) #[.int .i64 h, .bool true, .int .i64 room, .slice (some ⟨g, 0, none⟩) RS.length c7, .int .i64 f] 34) := by
      show Blk _ _ _ _
      rw [hw9.out]
      refine Blk.other (Blk.other (Blk.other (Blk.other ?_ (by simp) _) (by simp) _) (by simp) _) (by simp) _
      exact ((((Q8.out.zo.set_ 0 _).set_ 1 _).set_ 2 _).set_ 3 _).set_ 4 _
    have W9 : Hid (Blk w9 (w.heap.size + 1 + 1 + 1) #[.int .i64 0, .int .i64 0, .int .i64 0, .int .i64 0] 35) := by
      show Blk _ _ _ _
      rw [hw9.out]
      refine Blk.set_ (Blk.set_ (Blk.set_ (Blk.set_ (cs := #[.int .i64 0, .int .i64 0, .int .i64 0, .int .i64 0]) ?_ 0 _) 1 _) 2 _) 3 _
      exact Blk.other (Blk.other (Blk.other (Blk.other (Blk.other Q8.out.zw (by simp) _) (by simp) _) (by simp) _) (by simp) _) (by simp) _
    have hs9 : w9.heap.size = w7.heap.size := by rw [hw9.out]; simp [hs8.out]
    rw [← hw9.out]
    obtain ⟨z0, z1, z2, z3, z4⟩ := (Z9.out.alloc (.cells #[.slice (some ⟨g, 0, none⟩) RS.length c7, .int .i64 f] 32)).cells5
    obtain ⟨q0, q1, q2, q3⟩ := (W9.out.alloc (.cells #[.slice (some ⟨g, 0, none⟩) RS.length c7, .int .i64 f] 32)).cells4
    refine bodyPost_ret (v := .tuple #[houseV h true room (.slice (some ⟨g, 0, none⟩) RS.length c7) f, wordV 0 0 0 0, .bool false]) (by simp only [results, Tryz.results27]; simp [go_sem, z0, z1, z2, z3, z4, q0, q1, q2, q3]) rfl ?_
    exact ⟨some ⟨g, 0, none⟩, c7, rfl, M9.out.below (alloc_below _ _) (Nat.le_refl _), L9.out.alloc (by have := L9.out.size; omega) _⟩

end Go.Proofs.YthllcffmpeopcaaGreatDoor

namespace Go.Proofs.YthllcffmpeopcaaGreatDoor
open Go.RowKit

theorem form_made {w : World} {lo cap : Nat} {ao : Option Addr} {rs : List R} (h : Made w lo (.slice ao rs.length cap) rs) : Form (.slice ao rs.length cap) rs.length := by
  rcases h.form with ⟨rfl, rfl, rfl⟩ | ⟨g, rfl, hc⟩
  · exact Or.inl ⟨rfl, rfl⟩
  · exact Or.inr ⟨g, cap, rfl, hc⟩

end Go.Proofs.YthllcffmpeopcaaGreatDoor

namespace Go.Proofs.YthllcffmpeopcaaGreatDoor
open Go.RowKit

theorem l11Hear_any (id : Int) (up : Bool) (room : Int) (rs : List R) (f k h t m : Int) (hs hf : List Pl.H) (ao : Option Addr) (cap lo : Nat) (W : World) (hm : Made W lo (.slice ao rs.length cap) rs) (hlo : lo ≤ W.heap.size) (hl : tot rs ≤ 1048576)
    (lf0 : 0 ≤ f) (lf1 : f ≤ rs.length) (h12 : rs.length ≤ 12) (eA : Pl.sOf room rs = some hs) (eF : Pl.sOf room (rs.take f.toNat) = some hf) :
    Calls Tryz.prog 27 #[houseV id up room (.slice ao rs.length cap) f, wordV k h t m] W fun e w' => HeOutL lo W w' e (hearO' id up room rs f k h t m hs hf) := by
  cases hhb : Pl.hearB id up k h t m
  · rw [hearO'_not hhb]
    exact l11Hear_not id up room _ rs f k h t m lo W hm ⟨ao, cap, rfl⟩ hlo hhb
  · obtain ⟨rfl, rfl, hk, ht, hrec⟩ := Pl.hearB_parts hhb
    obtain ⟨i, hi, rfl, _⟩ := trip_at hrec
    exact l11Hear_yes room _ rs f k h m i hs hf lo W hm ⟨ao, cap, rfl⟩ (form_made hm) hlo hl lf0 lf1 h12 eA eF hhb hi

set_option maxRecDepth 100000 in
set_option maxHeartbeats 8000000 in
theorem specHear_any (id : Int) (up : Bool) (room : Int) (v : Value) (rs : List R) (f k h t m : Int) (w : World) (hv : Recs w v rs) (hl : tot rs ≤ 1048576) :
    Calls Tryz.prog 9 #[houseV id up room v f, wordV k h t m] w fun e w' => HeOut w w' e (hearO id up room rs f k h t m) := by
  have hrl := tot_len rs
  have HV : Hid (∀ W, Below w.heap.size w W → Recs W v rs) := fun W h => hv.later h (Nat.le_refl _)
  have HOK : Hid (∀ W, Below w.heap.size w W → Calls Tryz.prog 19 #[houseV id up room v f] W fun e w' => e = .returned (.bool (hoOk id room rs f)) ∧ Below W.heap.size W w') := fun W h =>
    specHouseOk_any id up room v rs f W (HV.out W h) hl
  obtain ⟨av, cv, rfl⟩ := hv.shape
  clear hv
  obtain ⟨w0, hw0⟩ : ∃ W, Hid (W = (((w.alloc (.cells #[.int .i64 id, .bool up, .int .i64 room, .slice av rs.length cv, .int .i64 f] 34)).alloc (.cells #[.int .i64 k, .int .i64 h, .int .i64 t, .int .i64 m] 35)).alloc (.cells #[.int .i64 0, .bool false, .int .i64 0, .slice none 0 0, .int .i64 0] 34)).alloc (.cells #[.int .i64 0, .int .i64 0, .int .i64 0, .int .i64 0] 35)) := ⟨_, rfl⟩
  have B0 : Hid (Below w.heap.size w w0) := by show Below _ _ _; rw [hw0.out]; exact below4 _ _ _ _ _
  have Q0 : Hid (Four w0 w.heap.size id up room (.slice av rs.length cv) f k h t m) := by show Four _ _ _ _ _ _ _ _ _ _ _; rw [hw0.out]; exact Four.new _ _ _ _ _ _ _ _ _ _
  have hs0 : w0.heap.size = w.heap.size + 4 := by rw [hw0.out, size4]
  cases hok : hoOk id room rs f
  · rw [hearO_no hok]
    rw [hok] at HOK
    clear hok
    go_enter Tryz.func9, Tryz.ntmps9
    go_wp2_with fail
    rw [← hw0.out]
    refine (HOK.out _ B0.out).mono ?_
    rintro e w1 ⟨rfl, hb⟩
    have Q1 := hide_it (Q0.out.after hb)
    have HB := hide_it (B0.out.trans (hb.mono B0.out.size))
    clear hb
    obtain ⟨z0, z1, z2, z3, z4⟩ := Q1.out.zo.cells5
    obtain ⟨zf0, zf1, zf2, zf3, zf4⟩ := Q1.out.zo.free5
    obtain ⟨q0, q1, q2, q3⟩ := Q1.out.zw.cells4
    obtain ⟨qf0, qf1, qf2, qf3, -⟩ := Q1.out.zw.free5
    go_wp2
    refine bodyPost_ret (v := .tuple #[houseV 0 false 0 (.slice none 0 0) 0, wordV 0 0 0 0, .bool false]) (by simp [results, Tryz.results9, go_sem, *]) rfl (HeOut.none_ ?_)
    repeat (refine Below.setCell ?_ (by first | (simp; done) | (simp; omega)) _)
    exact HB.out
  obtain ⟨hs, hf, eA, eF, h12, lf0, lf1, hlog⟩ := hear_ready hok
  rw [hearO_ok hok eA eF]
  rw [hok] at HOK
  obtain ⟨⟨⟨ID, UP, ROOM, RS, F⟩, ⟨X1, X2, X3⟩, YB⟩, hOO⟩ : ∃ o : He, Hid (hearO' id up room rs f k h t m hs hf = o) := ⟨_, rfl⟩
  have HLH : Hid (∀ (ao : Option Addr) (cap lo : Nat) (W : World), Made W lo (.slice ao rs.length cap) rs → lo ≤ W.heap.size → Calls Tryz.prog 27 #[houseV id up room (.slice ao rs.length cap) f, wordV k h t m] W fun e w' => ∃ ao' cap', e = .returned (.tuple #[houseV ID UP ROOM (.slice ao' RS.length cap') F, wordV X1 X2 X3 0, .bool YB]) ∧ Made w' lo (.slice ao' RS.length cap') RS ∧ Below lo W w') := fun ao cap lo W h1 h2 => by
    have := l11Hear_any id up room rs f k h t m hs hf ao cap lo W h1 h2 hl lf0 lf1 h12 eA eF
    rw [hOO.out] at this; exact this
  rw [hOO.out]
  clear hok eA eF hlog
  go_enter Tryz.func9, Tryz.ntmps9
  go_wp2_with fail
  rw [← hw0.out]
  refine (HOK.out _ B0.out).mono ?_
  rintro e w1 ⟨rfl, hb1⟩
  have Q1 := hide_it (Q0.out.after hb1)
  have B1 := hide_it (B0.out.trans (hb1.mono B0.out.size))
  have hs1 : w.heap.size + 4 ≤ w1.heap.size := by have := hb1.size; omega
  obtain ⟨x0, x1, x2, x3, x4⟩ := Q1.out.ho.cells5
  obtain ⟨y0, y1, y2, y3⟩ := Q1.out.wo.cells4
  clear hb1
  go_wp2_with fail
  go_region_held (fun w' => (w'.cell? ⟨w.heap.size, 0, none⟩ = some (.int .i64 id) ∧ w'.cell? ⟨w.heap.size, 1, none⟩ = some (.bool up) ∧ w'.cell? ⟨w.heap.size, 2, none⟩ = some (.int .i64 room) ∧ w'.cell? ⟨w.heap.size, 3, none⟩ = some (.slice av rs.length cv) ∧ w'.cell? ⟨w.heap.size, 4, none⟩ = some (.int .i64 f)) ∧ (w'.cell? ⟨w.heap.size + 1, 0, none⟩ = some (.int .i64 k) ∧ w'.cell? ⟨w.heap.size + 1, 1, none⟩ = some (.int .i64 h) ∧ w'.cell? ⟨w.heap.size + 1, 2, none⟩ = some (.int .i64 t) ∧ w'.cell? ⟨w.heap.size + 1, 3, none⟩ = some (.int .i64 m))) (first | (go_keep; done) | (refine ⟨⟨?_, ?_, ?_, ?_, ?_⟩, ?_, ?_, ?_, ?_⟩ <;> simp [go_sem, *]))
    (first
    | (go_at_call 28; refine (l11Copy_any id up room _ rs f _ (HV.out _ B1.out.drew) hl).mono ?_; rintro e w2 ⟨a2, c2, rfl, hm2, hb2⟩; have N2 := hide_it ((Below.refl w1.heap.size w1).drew.trans hb2); have M2 : Hid (Made w2 w1.heap.size (.slice a2 rs.length c2) rs) := hide_it hm2; have Q2 := hide_it (Q1.out.after N2.out); obtain ⟨d0, d1, d2, d3, d4⟩ := Q2.out.ho.cells5; obtain ⟨j0, j1, j2, j3⟩ := Q2.out.wo.cells4; have hz2 : w1.heap.size ≤ w2.heap.size := N2.out.size; clear hm2 hb2)
    | (go_at_call 27; refine (HLH.out _ _ _ _ M2.out hz2).mono ?_; rintro e w3 ⟨ao, cap, rfl, hm3, hb3⟩; have Q3 := hide_it (Q2.out.later hb3 hs1); have M3 := hide_it hm3; have L3 := hide_it (N2.out.trans hb3); have HB := hide_it (B1.out.trans (L3.out.mono B1.out.size)); obtain ⟨p0, p1, p2, p3, p4⟩ := Q3.out.ho.cells5; obtain ⟨r0, r1, r2, r3⟩ := Q3.out.wo.cells4; obtain ⟨z0, z1, z2, z3, z4⟩ := Q3.out.zo.cells5; obtain ⟨zf0, zf1, zf2, zf3, zf4⟩ := Q3.out.zo.free5; obtain ⟨q0, q1, q2, q3⟩ := Q3.out.zw.cells4; obtain ⟨qf0, qf1, qf2, qf3, -⟩ := Q3.out.zw.free5; clear hm3 hb3))
  all_goals
    go_wp2
    refine bodyPost_ret (v := .tuple #[houseV ID UP ROOM (.slice ao RS.length cap) F, wordV X1 X2 X3 0, .bool YB]) (by simp [results, Tryz.results9, go_sem, *]) rfl ?_
    exact ⟨ao, cap, rfl, (Made.handed M3.out Q3.out _ _ _ _ _ _ _ _ _).lo (by omega), Below.handed HB.out (Nat.le_refl _) _ _ _ _ _ _ _ _ _⟩

end Go.Proofs.YthllcffmpeopcaaGreatDoor

namespace Go.Proofs.YthllcffmpeopcaaGreatDoor
open Go.RowKit

namespace Pl
theorem next_kinds' {h x : H} {k m fr : Int} (hn : next h k m fr = some x) : (k = 1 ∧ h.2 = 0 ∧ m ≤ fr ∧ x = (m, 1)) ∨ (k = 2 ∧ h.2 = 1 ∧ x = (h.1, 2)) ∨ (k = 3 ∧ (h.2 = 1 ∨ h.2 = 0) ∧ x = (h.1, 3)) := by
  unfold next at hn
  by_cases k1 : k = 1
  · rw [if_pos k1] at hn
    by_cases c : h.2 = 0 ∧ m ≤ fr
    · rw [if_pos c] at hn
      exact Or.inl ⟨k1, c.1, c.2, by simpa using hn.symm⟩
    · rw [if_neg c] at hn; cases hn
  rw [if_neg k1] at hn
  by_cases k2 : k = 2
  · rw [if_pos k2] at hn
    by_cases c : h.2 = 1
    · rw [if_pos c] at hn
      exact Or.inr (Or.inl ⟨k2, c, by simpa using hn.symm⟩)
    · rw [if_neg c] at hn; cases hn
  rw [if_neg k2] at hn
  by_cases k3 : k = 3
  · rw [if_pos k3] at hn
    by_cases c : h.2 = 1 ∨ h.2 = 0
    · rw [if_pos c] at hn
      exact Or.inr (Or.inr ⟨k3, c, by simpa using hn.symm⟩)
    · rw [if_neg c] at hn; cases hn
  · rw [if_neg k3] at hn; cases hn
theorem sDo_some' {room : Int} {hs hs' : List H} {k t : Int} {zs : List Int} (h : sDo room hs k t zs = some hs') :
    ∃ x, next (hAt hs t) k (zs.headD 0) (free room hs) = some x ∧ hs' = hs.set (at_ t) x ∧ sOk room hs = true ∧ recOk k t zs = true ∧ sOk room hs' = true := by
  have hk := sDo_keeps h
  unfold sDo at h
  cases hb : behind room hs k t zs with
  | none => rw [hb] at h; cases h
  | some x =>
    rw [hb] at h
    simp only [Option.map_some, Option.some.injEq] at h
    have hb2 := hb
    unfold behind at hb2
    by_cases hc : sOk room hs = true ∧ recOk k t zs = true
    · rw [if_pos hc] at hb2
      exact ⟨x, hb2, h.symm, hc.1, hc.2, hk⟩
    · rw [if_neg hc] at hb2; cases hb2
theorem hAt_set' {hs : List H} {t : Int} {x : H} (h : at_ t < hs.length) : hAt (hs.set (at_ t) x) t = x := by
  unfold hAt
  simp [List.getD_eq_getElem?_getD, h]
theorem hAt_set_ne' {hs : List H} {t t2 : Int} {x : H} (h : at_ t ≠ at_ t2) : hAt (hs.set (at_ t) x) t2 = hAt hs t2 := by
  unfold hAt
  simp [List.getD_eq_getElem?_getD, List.getElem?_set_ne h]
theorem may_no' {room : Int} {hs : List H} {k t : Int} {zs : List Int} (h : next (hAt hs t) k (zs.headD 0) (free room hs) = none) : sMay room hs k t zs = false := by
  unfold sMay behind
  split
  · rw [h]; rfl
  · rfl
/-- The trip's hold behind a record that came. -/
theorem did {room : Int} {hs hs' : List H} {k t : Int} {zs : List Int} (h : sDo room hs k t zs = some hs') :
    ∃ x, next (hAt hs t) k (zs.headD 0) (free room hs) = some x ∧ hAt hs' t = x ∧ (∀ t2, 1 ≤ t2 → t2 ≠ t → hAt hs' t2 = hAt hs t2) ∧ sOk room hs' = true ∧ hs'.length = 6 ∧ recOk k t zs = true := by
  obtain ⟨x, hn, hset, ok0, rok, ok1⟩ := sDo_some' h
  have hat : at_ t < hs.length := by rw [(sOk_parts ok0).2.2.1]; exact at_lt rok
  refine ⟨x, hn, by rw [hset]; exact hAt_set' hat, fun t2 h2 hne => ?_, ok1, (sOk_parts ok1).2.2.1, rok⟩
  rw [hset]
  have := recOk_trip rok
  exact hAt_set_ne' (by unfold at_; omega)
/-- What came does not come again. -/
theorem may_not {room : Int} {hs hs' : List H} {k t : Int} {zs : List Int} (h : sDo room hs k t zs = some hs') : sMay room hs' k t zs = false := by
  obtain ⟨x, hn, e, _⟩ := did h
  refine may_no' ?_
  rw [e]
  rcases next_kinds' hn with ⟨rfl, h0, hm, rfl⟩ | ⟨rfl, h1, rfl⟩ | ⟨rfl, h1, rfl⟩ <;> simp [next]
end Pl

theorem logOk_more {rs : List R} {f : Int} {r : R} (h : logOk rs f = true) (hr : rOk r = true) (h12 : rs.length ≤ 12) : logOk (rs ++ [r]) f = true := by
  have h40 := logOk_f h
  simp only [logOk, Bool.and_eq_true] at h ⊢
  refine ⟨by rw [List.all_append, h.1]; simp [hr], ?_, ?_⟩
  · have := h.2.1
    simp at this ⊢
    omega
  · simp
    exact Pl.inB_mk (by omega) (by omega)

/-- Behind a word that was heard a house is as it was, or has a record more that might come. -/
theorem hear_house {id room : Int} {up : Bool} {rs : List R} {f k h t m : Int} (hok : hoOk id room rs f = true) :
    ((hearO id up room rs f k h t m).1 = (id, up, room, rs, f)) ∨
    (∃ hs hs', (hearO id up room rs f k h t m) = ((id, up, room, rs ++ [(k, t, Pl.zsW k m)], f), (0, 0, 0), false) ∧ Pl.hearB id up k h t m = true ∧ Pl.sOf room rs = some hs ∧ Pl.sDo room hs k t (Pl.zsW k m) = some hs' ∧ Pl.sOf room (rs ++ [(k, t, Pl.zsW k m)]) = some hs' ∧ hoOk id room (rs ++ [(k, t, Pl.zsW k m)]) f = true) := by
  obtain ⟨hs, hf, eA, eF, h12, lf0, lf1, hlog⟩ := hear_ready hok
  rw [hearO_ok hok eA eF]
  cases hb : Pl.hearB id up k h t m
  · left; rw [hearO'_not hb]
  · cases hm : Pl.sMay room hs k t (Pl.zsW k m)
    · left
      cases ha : Pl.hearA k (Pl.hAt hs t).2 (Pl.hAt hf t).2 with
      | none => rw [hearO'_none hb hm ha]
      | some x => rw [hearO'_some hb hm ha]
    · right
      obtain ⟨hs', e⟩ : ∃ hs', Pl.sDo room hs k t (Pl.zsW k m) = some hs' := by
        unfold Pl.sMay at hm
        obtain ⟨x, hx⟩ := Option.isSome_iff_exists.1 hm
        exact ⟨_, by unfold Pl.sDo; rw [hx]; rfl⟩
      have e2 : Pl.sOf room (rs ++ [(k, t, Pl.zsW k m)]) = some hs' := by rw [Pl.sOf_snoc _ eA]; exact e
      obtain ⟨h1, h2, _⟩ := hoOk_parts hok
      obtain ⟨_, _, _, _, hrec⟩ := Pl.hearB_parts hb
      exact ⟨hs, hs', hearO'_may hb hm, rfl, eA, e, e2, by rw [hoOk_of h1 (logOk_more (r := (k, t, Pl.zsW k m)) h2 hrec h12), e2]; rfl⟩

/-- What is told twice is told once. -/
theorem hear_twice {id room : Int} {up : Bool} {rs : List R} {f k h t m : Int} {ID ROOM F : Int} {UP : Bool} {RS : List R} {x : Int × Int × Int} {y : Bool} (hok : hoOk id room rs f = true) (e : hearO id up room rs f k h t m = ((ID, UP, ROOM, RS, F), x, y)) :
    (hearO ID UP ROOM RS F k h t m).1 = (ID, UP, ROOM, RS, F) := by
  rcases hear_house (up := up) (k := k) (h := h) (t := t) (m := m) hok with h1 | ⟨hs, hs', h1, hb, eA, d, e2, ok2⟩
  · rw [e] at h1
    simp only [Prod.mk.injEq] at h1
    obtain ⟨rfl, rfl, rfl, rfl, rfl⟩ := h1
    rw [e]
  · rw [e] at h1
    simp only [Prod.mk.injEq] at h1
    obtain ⟨⟨rfl, rfl, rfl, rfl, rfl⟩, -, -⟩ := h1
    obtain ⟨hs2, hf2, eA2, eF2, _⟩ := hear_ready ok2
    rw [hearO_ok ok2 eA2 eF2]
    rw [e2] at eA2
    simp only [Option.some.injEq] at eA2
    subst eA2
    have hm := Pl.may_not d
    cases ha : Pl.hearA k (Pl.hAt hs' t).2 (Pl.hAt hf2 t).2 with
    | none => rw [hearO'_none hb hm ha]
    | some x => rw [hearO'_some hb hm ha]

end Go.Proofs.YthllcffmpeopcaaGreatDoor

namespace Go.Proofs.YthllcffmpeopcaaGreatDoor
open Go.RowKit

theorem hsO_all {id room : Int} {rs : List R} {f : Int} {hs : List Pl.H} (hok : hoOk id room rs f = true) (e : Pl.sOf room rs = some hs) : hsO id room rs f false = some hs := by
  unfold hsO; rw [if_pos hok]; exact e
theorem hsO_forced {id room : Int} {rs : List R} {f : Int} {hs : List Pl.H} (hok : hoOk id room rs f = true) (e : Pl.sOf room (rs.take f.toNat) = some hs) : hsO id room rs f true = some hs := by
  unfold hsO; rw [if_pos hok]; exact e

/-- What is heard of one trip does nothing to another one. -/
theorem hear_apart {id room : Int} {up : Bool} {rs : List R} {f k h t m : Int} {ID ROOM F : Int} {UP : Bool} {RS : List R} {x : Int × Int × Int} {y : Bool} (hok : hoOk id room rs f = true) (e : hearO id up room rs f k h t m = ((ID, UP, ROOM, RS, F), x, y)) :
    id = ID ∧ up = UP ∧ room = ROOM ∧ f = F ∧ ∃ hs hs' hf, hsO id room rs f false = some hs ∧ hsO id room RS f false = some hs' ∧ hsO id room rs f true = some hf ∧ hsO id room RS f true = some hf ∧ hs.length = 6 ∧ hs'.length = 6 ∧ hf.length = 6 ∧ ∀ q : Nat, q < 6 → (q : Int) + 1 ≠ t → hs'.getD q (0, 0) = hs.getD q (0, 0) := by
  obtain ⟨hs0, hf, eA, eF, _, lf0, lf1, _⟩ := hear_ready hok
  have l0 := (Pl.sOf_ok eA).2
  have lf := (Pl.sOf_ok eF).2
  rcases hear_house (up := up) (k := k) (h := h) (t := t) (m := m) hok with h1 | ⟨hs, hs', h1, hb, eA2, d, e2, ok2⟩
  · rw [e] at h1
    simp only [Prod.mk.injEq] at h1
    obtain ⟨rfl, rfl, rfl, rfl, rfl⟩ := h1
    exact ⟨rfl, rfl, rfl, rfl, hs0, hs0, hf, hsO_all hok eA, hsO_all hok eA, hsO_forced hok eF, hsO_forced hok eF, l0, l0, lf, fun _ _ _ => rfl⟩
  · rw [e] at h1
    simp only [Prod.mk.injEq] at h1
    obtain ⟨⟨rfl, rfl, rfl, rfl, rfl⟩, -, -⟩ := h1
    rw [eA] at eA2
    simp only [Option.some.injEq] at eA2
    subst eA2
    obtain ⟨z, hn, hz, hother, _, l6, _⟩ := Pl.did d
    refine ⟨rfl, rfl, rfl, rfl, hs0, hs', hf, hsO_all hok eA, hsO_all ok2 e2, hsO_forced hok eF, hsO_forced ok2 ?_, l0, l6, lf, fun q hq hne => ?_⟩
    · rw [List.take_append_of_le_length (by omega)]; exact eF
    · have := hother ((q : Int) + 1) (by omega) hne
      unfold Pl.hAt Pl.at_ at this
      simpa using this

theorem hOk_state {x : Pl.H} (h : Pl.hOk x = true) : 0 ≤ x.2 ∧ x.2 ≤ 3 := by
  by_cases h0 : x.2 = 0
  · omega
  by_cases h1 : x.2 = 1
  · omega
  by_cases h2 : x.2 = 2
  · omega
  by_cases h3 : x.2 = 3
  · omega
  · obtain ⟨a, b⟩ := x
    rw [Pl.hOk_x a b h0 h1 h2 h3] at h; cases h
theorem hAt_state {room : Int} {hs : List Pl.H} {t : Int} (h : Pl.sOk room hs = true) (ht : 1 ≤ t ∧ t ≤ 6) : 0 ≤ (Pl.hAt hs t).2 ∧ (Pl.hAt hs t).2 ≤ 3 := by
  obtain ⟨h1, _, h3, _⟩ := Pl.sOk_parts h
  have hlt : Pl.at_ t < hs.length := by unfold Pl.at_; omega
  have : Pl.hAt hs t = hs[Pl.at_ t] := by unfold Pl.hAt; rw [List.getD_eq_getElem?_getD, List.getElem?_eq_getElem hlt]; rfl
  rw [this]
  exact hOk_state (List.all_eq_true.1 h1 _ (List.getElem_mem hlt))
theorem wOk_word {k id t m : Int} (hid : Pl.inB id 1 3 = true) (ht : 1 ≤ t ∧ t ≤ 6) (hk : 1 ≤ k ∧ k ≤ 7) (hm : Pl.wMany k m = true) : Pl.wOk k id t m = true := by
  rw [Pl.wOk_m (Pl.inB_mk hk.1 hk.2) hid (Pl.inB_mk ht.1 ht.2)]; exact hm
theorem may_no2 {room : Int} {hs : List Pl.H} {k t : Int} {zs : List Int} (h : Pl.next (Pl.hAt hs t) k (zs.headD 0) (Pl.free room hs) = none) : Pl.sMay room hs k t zs = false := Pl.may_no' h

/-- Who finds no room is told so. -/
theorem hear_full {id room : Int} {rs : List R} {f t many : Int} {hs : List Pl.H} (hok : hoOk id room rs f = true) (eA : hsO id room rs f false = some hs) (ht : 1 ≤ t ∧ t ≤ 6) (hm : many = Pl.sFree room hs + 1) (hm3 : many ≤ 3) :
    ∃ X1 X2 X3 YB, hearO id true room rs f 1 id t many = ((id, true, room, rs, f), (X1, X2, X3), YB) ∧ ((Pl.hAt hs t).2 = 0 → X1 = 5 ∧ X2 = id ∧ X3 = t ∧ YB = true) ∧ (YB = true → X1 = 5 ∨ X1 = 4) := by
  obtain ⟨hs0, hf, eA0, eF, _⟩ := hear_ready hok
  have := hsO_all hok eA0
  rw [this] at eA
  simp only [Option.some.injEq] at eA
  subst eA
  have ok := (Pl.sOf_ok eA0).1
  rw [Pl.sFree_yes ok] at hm
  have h0 := (Pl.sOk_parts ok).2.2.2
  have hid := (hoOk_parts hok).1
  have hb : Pl.hearB id true 1 id t many = true := by
    have hw : Pl.wOk 1 id t many = true := wOk_word hid ht (by omega) (by rw [Pl.wMany_1]; exact Pl.inB_mk (by omega) hm3)
    simp [Pl.hearB, hw]
  have hmay : Pl.sMay room hs0 1 t (Pl.zsW 1 many) = false := by
    refine may_no2 ?_
    have : (Pl.zsW 1 many).headD 0 = many := rfl
    rw [this]
    unfold Pl.next
    rw [if_pos rfl, if_neg (by omega)]
  rw [hearO_ok hok eA0 eF]
  cases ha : Pl.hearA 1 (Pl.hAt hs0 t).2 (Pl.hAt hf t).2 with
  | none =>
    refine ⟨0, 0, 0, false, hearO'_none hb hmay ha, fun h => ?_, fun h => by cases h⟩
    unfold Pl.hearA at ha
    rw [if_pos ⟨rfl, h⟩] at ha
    cases ha
  | some x =>
    refine ⟨x, id, t, true, hearO'_some hb hmay ha, fun h => ?_, fun _ => ?_⟩
    · unfold Pl.hearA at ha
      rw [if_pos ⟨rfl, h⟩] at ha
      simp only [Option.some.injEq] at ha
      exact ⟨ha.symm, rfl, rfl, rfl⟩
    · unfold Pl.hearA at ha
      by_cases c : (Pl.hAt hs0 t).2 = 0
      · rw [if_pos ⟨rfl, c⟩] at ha
        simp only [Option.some.injEq] at ha
        exact Or.inl ha.symm
      · rw [if_neg (fun h => c h.2)] at ha
        unfold Pl.ansK at ha
        rw [if_pos rfl] at ha
        by_cases c1 : (Pl.hAt hf t).2 = 1 ∨ (Pl.hAt hf t).2 = 2
        · rw [if_pos c1] at ha
          simp only [Option.some.injEq] at ha
          exact Or.inr ha.symm
        · rw [if_neg c1] at ha
          by_cases c3 : (Pl.hAt hf t).2 = 3
          · rw [if_pos c3] at ha
            simp only [Option.some.injEq] at ha
            exact Or.inl ha.symm
          · rw [if_neg c3] at ha; cases ha

/-- What is undone, and forced, stays so. -/
theorem hear_undo {id room : Int} {rs : List R} {f t : Int} (hok : hoOk id room rs f = true) (ht : 1 ≤ t ∧ t ≤ 6) :
    ∃ hs hs' RS X1 X2 X3 YB, hearO id true room rs f 3 id t 0 = ((id, true, room, RS, f), (X1, X2, X3), YB) ∧ hsO id room rs f false = some hs ∧ hs.length = 6 ∧ hoOk id room RS f = true ∧ hoOk id room RS (RS.length : Int) = true ∧ hsO id room RS (RS.length : Int) true = some hs' ∧ hs'.length = 6 ∧
      ((Pl.hAt hs t).2 = 2 → (Pl.hAt hs' t).2 = 2) ∧
      ((Pl.hAt hs t).2 ≠ 2 → (Pl.hAt hs' t).2 = 3 ∧ hearO id true room RS (RS.length : Int) 1 id t 1 = ((id, true, room, RS, (RS.length : Int)), (5, id, t), true) ∧ hearO id true room RS (RS.length : Int) 2 id t 0 = ((id, true, room, RS, (RS.length : Int)), (0, 0, 0), false)) := by
  obtain ⟨hs, hf, eA, eF, h12, lf0, lf1, hlog⟩ := hear_ready hok
  have hid := (hoOk_parts hok).1
  have l6 := (Pl.sOf_ok eA).2
  have ok := (Pl.sOf_ok eA).1
  have hb : ∀ k m : Int, (k = 1 ∧ m = 1) ∨ (k = 2 ∧ m = 0) ∨ (k = 3 ∧ m = 0) → Pl.hearB id true k id t m = true := fun k m hk => by
    have hw : Pl.wOk k id t m = true := by
      rcases hk with ⟨rfl, rfl⟩ | ⟨rfl, rfl⟩ | ⟨rfl, rfl⟩
      · exact wOk_word hid ht (by omega) (by rw [Pl.wMany_1]; decide)
      · exact wOk_word hid ht (by omega) (by rw [Pl.wMany_0 _ (by omega)]; decide)
      · exact wOk_word hid ht (by omega) (by rw [Pl.wMany_0 _ (by omega)]; decide)
    rcases hk with ⟨rfl, rfl⟩ | ⟨rfl, rfl⟩ | ⟨rfl, rfl⟩ <;> simp [Pl.hearB, hw]
  -- what follows from a list of records whose stock has the trip undone
  have fin : ∀ (RS : List R) (hs' : List Pl.H), hoOk id room RS f = true → Pl.sOf room RS = some hs' → hoOk id room RS (RS.length : Int) = true ∧ hsO id room RS (RS.length : Int) true = some hs' ∧ hs'.length = 6 ∧
      ((Pl.hAt hs' t).2 = 3 → hearO id true room RS (RS.length : Int) 1 id t 1 = ((id, true, room, RS, (RS.length : Int)), (5, id, t), true) ∧ hearO id true room RS (RS.length : Int) 2 id t 0 = ((id, true, room, RS, (RS.length : Int)), (0, 0, 0), false)) := by
    intro RS hs' hok' e'
    have lok : logOk RS (RS.length : Int) = true := by
      have := (hoOk_parts hok').2.1
      simp only [logOk, Bool.and_eq_true] at this ⊢
      exact ⟨this.1, this.2.1, Pl.inB_mk (by omega) (by omega)⟩
    have ok2 : hoOk id room RS (RS.length : Int) = true := by rw [hoOk_of hid lok, e']; rfl
    have eT : Pl.sOf room (RS.take (RS.length : Int).toNat) = some hs' := by rw [Int.toNat_natCast, List.take_length]; exact e'
    refine ⟨ok2, hsO_forced ok2 eT, (Pl.sOf_ok e').2, fun h3 => ?_⟩
    rw [hearO_ok ok2 e' eT, hearO_ok ok2 e' eT]
    constructor
    · refine hearO'_some (hb 1 1 (Or.inl ⟨rfl, rfl⟩)) (may_no2 ?_) ?_
      · simp [Pl.next, h3]
      · simp [Pl.hearA, Pl.ansK, h3]
    · refine hearO'_none (hb 2 0 (Or.inr (Or.inl ⟨rfl, rfl⟩))) (may_no2 ?_) ?_
      · simp [Pl.next, h3]
      · simp [Pl.hearA, Pl.ansK, h3]
  rcases hear_house (up := true) (k := 3) (h := id) (t := t) (m := 0) hok with h1 | ⟨hs1, hs', h1, _, eA2, d, e2, ok2⟩
  · obtain ⟨⟨⟨ID, UP, ROOM, RS, F⟩, ⟨X1, X2, X3⟩, YB⟩, HO⟩ : ∃ o : He, hearO id true room rs f 3 id t 0 = o := ⟨_, rfl⟩
    rw [HO] at h1
    simp only [Prod.mk.injEq] at h1
    obtain ⟨rfl, rfl, rfl, rfl, rfl⟩ := h1
    obtain ⟨q1, q2, q3, q4⟩ := fin RS hs hok eA
    have hst := hAt_state ok ht
    have h23 : (Pl.hAt hs t).2 = 2 ∨ (Pl.hAt hs t).2 = 3 := by
      rw [hearO_ok hok eA eF] at HO
      cases hm : Pl.sMay ROOM hs 3 t (Pl.zsW 3 0)
      · by_cases c : (Pl.hAt hs t).2 = 1 ∨ (Pl.hAt hs t).2 = 0
        · exfalso
          have hrec := (Pl.hearB_parts (hb 3 0 (Or.inr (Or.inr ⟨rfl, rfl⟩)))).2.2.2.2
          unfold Pl.sMay at hm
          rw [Pl.behind_ok ok hrec] at hm
          simp [Pl.next, c] at hm
        · omega
      · rw [hearO'_may (hb 3 0 (Or.inr (Or.inr ⟨rfl, rfl⟩))) hm] at HO
        simp only [Prod.mk.injEq] at HO
        have := congrArg List.length HO.1.2.2.2.1
        simp at this
    exact ⟨hs, hs, RS, X1, X2, X3, YB, HO, hsO_all hok eA, l6, hok, q1, q2, l6, fun h => h, fun h => ⟨by omega, q4 (by omega)⟩⟩
  · rw [eA] at eA2
    simp only [Option.some.injEq] at eA2
    subst eA2
    obtain ⟨q1, q2, q3, q4⟩ := fin _ hs' ok2 e2
    obtain ⟨z, hn, hz, _, _, _, _⟩ := Pl.did d
    have h3 : (Pl.hAt hs' t).2 = 3 ∧ (Pl.hAt hs t).2 ≠ 2 := by
      rcases Pl.next_kinds' hn with ⟨h0, _⟩ | ⟨h0, _⟩ | ⟨_, h1, rfl⟩
      · omega
      · omega
      · rw [hz]; exact ⟨rfl, by rcases h1 with h1 | h1 <;> omega⟩
    exact ⟨hs, hs', _, 0, 0, 0, false, h1, hsO_all hok eA, l6, ok2, q1, q2, q3, fun h => absurd h h3.2, fun _ => ⟨h3.1, q4 h3.1⟩⟩

end Go.Proofs.YthllcffmpeopcaaGreatDoor

namespace Go.Proofs.YthllcffmpeopcaaGreatDoor
open Go.RowKit

set_option maxHeartbeats 4000000 in
theorem implHStock_any (id : Int) (up : Bool) (room : Int) (v : Value) (rs : List R) (f : Int) (forced : Bool) (a : Addr) (w : World) (hv : Recs w v rs) (hfm : Form v rs.length) (hl : tot rs ≤ 1048576) (ha : ErrAt w a) :
    Calls Tryz.prog 20 #[houseV id up room v f, .bool forced] w fun e w' => SkOut w w' e (oR room (hsO id room rs f forced)) (oH (hsO id room rs f forced)) := by
  have hrl := tot_len rs
  have HV : Hid (∀ W, Below w.heap.size w W → Recs W v rs) := fun W h => hv.later h (Nat.le_refl _)
  have HA : Hid (∀ W, Below w.heap.size w W → ErrAt W a) := fun W h => ha.later h (Nat.le_refl _)
  have HOK : Hid (∀ W, Below w.heap.size w W → Calls Tryz.prog 25 #[houseV id up room v f] W fun e w' => e = .returned (.bool (hoOk id room rs f)) ∧ Below W.heap.size W w') := fun W h =>
    implHouseOk_any id up room v rs f a W (HV.out W h) hl (HA.out W h)
  obtain ⟨av, cv, rfl⟩ := hv.shape
  have HFM := hide_it hfm
  clear hv hfm ha
  obtain ⟨w0, hw0⟩ : ∃ W, Hid (W = (w.alloc (.cells #[.int .i64 id, .bool up, .int .i64 room, .slice av rs.length cv, .int .i64 f] 34)).alloc (.cells #[.int .i64 0, .slice none 0 0] 50)) := ⟨_, rfl⟩
  have B0 : Hid (Below w.heap.size w w0) := by show Below _ _ _; rw [hw0.out]; exact below2 _ _ _
  have X0 : Hid (Blk w0 w.heap.size #[.int .i64 id, .bool up, .int .i64 room, .slice av rs.length cv, .int .i64 f] 34) := by show Blk _ _ _ _; rw [hw0.out]; exact (Blk.new _ _ _).alloc _
  have Z0 : Hid (Blk w0 (w.heap.size + 1) #[.int .i64 0, .slice none 0 0] 50) := by show Blk _ _ _ _; rw [hw0.out]; exact Blk.new2 _ _ _ _
  have hs0 : w0.heap.size = w.heap.size + 2 := by rw [hw0.out, size2]
  cases hok : hoOk id room rs f
  · have HR : Hid (hsO id room rs f forced = none) := by show _ = _; simp [hsO, hok]
    rw [hok] at HOK
    rw [HR.out]
    clear hok
    go_enter Tryz.func20, Tryz.ntmps20
    go_wp2_with fail
    rw [← hw0.out]
    refine (HOK.out _ B0.out).mono ?_
    rintro e w1 ⟨rfl, hb⟩
    obtain ⟨z0, z1⟩ := (Z0.out.after hb).cells2
    obtain ⟨zf0, zf1, -, -, -⟩ := (Z0.out.after hb).free5
    have HB := hide_it (B0.out.trans (hb.mono B0.out.size))
    clear hb
    go_wp2
    refine bodyPost_ret (v := .agg #[.int .i64 0, .slice none 0 0]) (by simp [results, Tryz.results20, go_sem, *]) rfl (SkOut.none_ ?_)
    exact (HB.out.setCell (by simp) _).setCell (by simp) _
  · have HR : Hid (hsO id room rs f forced = Pl.sOf room (cutR rs f forced)) := by show _ = _; simp [hsO, hok]
    obtain ⟨lf0, lf1, -⟩ := logOk_f (hoOk_parts hok).2.1
    rw [hok] at HOK
    rw [HR.out]
    clear HR
    obtain ⟨RR, hRR⟩ : ∃ x, Hid (oR room (Pl.sOf room (cutR rs f forced)) = x) := ⟨_, rfl⟩
    obtain ⟨HS, hHS⟩ : ∃ x, Hid (oH (Pl.sOf room (cutR rs f forced)) = x) := ⟨_, rfl⟩
    rw [hRR.out, hHS.out]
    have SK : Hid (∀ W, Below w.heap.size w W → (forced = true → Calls Tryz.prog 49 #[keeperV (.slice av rs.length cv) f id up room] W fun e w' => SkOut W w' e RR HS) ∧ (forced = false → Calls Tryz.prog 35 #[keeperV (.slice av rs.length cv) f id up room] W fun e w' => SkOut W w' e RR HS)) := fun W h => by
      refine ⟨fun hf => ?_, fun hf => ?_⟩
      · have := forcedStock_any id up room _ rs f a W (HV.out W h) HFM.out hl lf0 lf1 (HA.out W h)
        rw [show rs.take f.toNat = cutR rs f forced by simp [cutR, hf]] at this
        rw [hRR.out, hHS.out] at this; exact this
      · have := allStock_any id up room _ rs f a W (HV.out W h) hl (HA.out W h)
        rw [show Pl.sOf room rs = Pl.sOf room (cutR rs f forced) by simp [cutR, hf]] at this
        rw [hRR.out, hHS.out] at this; exact this
    go_enter Tryz.func20, Tryz.ntmps20
    go_wp2_with fail
    rw [← hw0.out]
    refine (HOK.out _ B0.out).mono ?_
    rintro e w1 ⟨rfl, hb1⟩
    have X1 := hide_it (X0.out.after hb1)
    have Z1 := hide_it (Z0.out.after hb1)
    have B1 := hide_it (B0.out.trans (hb1.mono B0.out.size))
    have hs1 : w.heap.size + 2 ≤ w1.heap.size := by have := hb1.size; omega
    obtain ⟨x0, x1, x2, x3, x4⟩ := X1.out.cells5
    clear hb1
    go_wp2_with fail
    refine (keeperOf_any id up room av rs.length cv f w1).mono ?_
    rintro e w2 ⟨rfl, hb2⟩
    have Z2 := hide_it (Z1.out.after hb2)
    have B2 := hide_it (B1.out.trans (hb2.mono B1.out.size))
    have hs2 : w.heap.size + 2 ≤ w2.heap.size := by have := hb2.size; omega
    clear hb2 x0 x1 x2 x3 x4
    obtain ⟨w3, hw3⟩ : ∃ W, Hid (W = w2.alloc (.cells #[.slice av rs.length cv, .int .i64 f, .int .i64 id, .bool up, .int .i64 room] 66)) := ⟨_, rfl⟩
    have al3 : Hid (Below w2.heap.size w2 w3) := by show Below _ _ _; rw [hw3.out]; exact alloc_below _ _
    have hs3 : w3.heap.size = w2.heap.size + 1 := by rw [hw3.out]; simp
    have Z3 := hide_it (Z2.out.after al3.out)
    have B3 := hide_it (B2.out.trans (al3.out.mono B2.out.size))
    obtain ⟨SF, SA⟩ := SK.out w3 B3.out
    have HSF := hide_it SF
    have HSA := hide_it SA
    clear SF SA SK
    cases forced
    · go_wp2_with fail
      rw [← hw3.out]
      refine (HSA.out (by simp)).mono ?_
      rintro e w4 ⟨a9, c9, rfl, ho, hb⟩
      have Z4 := hide_it (Z3.out.after hb)
      have O4 := hide_it ho
      have B4 := hide_it (B3.out.trans (hb.mono B3.out.size))
      have hsn : w.heap.size + 2 ≤ w3.heap.size := by omega
      obtain ⟨z0, z1⟩ := Z4.out.cells2
      obtain ⟨zf0, zf1, -, -, -⟩ := Z4.out.free5
      clear ho hb
      go_wp2
      refine bodyPost_ret (v := .agg #[.int .i64 RR, .slice a9 HS.length c9]) (by simp [results, Tryz.results20, go_sem, *]) rfl ?_
      refine ⟨a9, c9, rfl, ?_, ?_⟩
      · exact row_low (row_set (row_set O4.out Z4.out (by decide) _ _) (Z4.out.set_ 0 _) (by decide) _ _) (by omega)
      · exact (B4.out.setCell (by simp) _).setCell (by simp) _
    · go_wp2_with fail
      rw [← hw3.out]
      refine (HSF.out (by simp)).mono ?_
      rintro e w4 ⟨a9, c9, rfl, ho, hb⟩
      have Z4 := hide_it (Z3.out.after hb)
      have O4 := hide_it ho
      have B4 := hide_it (B3.out.trans (hb.mono B3.out.size))
      have hsn : w.heap.size + 2 ≤ w3.heap.size := by omega
      obtain ⟨z0, z1⟩ := Z4.out.cells2
      obtain ⟨zf0, zf1, -, -, -⟩ := Z4.out.free5
      clear ho hb
      go_wp2
      refine bodyPost_ret (v := .agg #[.int .i64 RR, .slice a9 HS.length c9]) (by simp [results, Tryz.results20, go_sem, *]) rfl ?_
      refine ⟨a9, c9, rfl, ?_, ?_⟩
      · exact row_low (row_set (row_set O4.out Z4.out (by decide) _ _) (Z4.out.set_ 0 _) (by decide) _ _) (by omega)
      · exact (B4.out.setCell (by simp) _).setCell (by simp) _

end Go.Proofs.YthllcffmpeopcaaGreatDoor

namespace Go.Proofs.YthllcffmpeopcaaGreatDoor
open Go.RowKit

set_option maxHeartbeats 2000000 in
theorem lnStock_any (room : Int) (v1 v2 : Value) (hs : List Pl.H) (w : World) (h1 : Holds w v1 hs) (h2 : Holds w v2 hs) (hl : hs.length ≤ 1048576) :
    Calls Tryz.prog 23 #[.agg #[.int .i64 room, v1], .agg #[.int .i64 room, v2]] w fun e w' => e = .returned (.bool true) ∧ Below w.heap.size w w' := by
  rcases h1 with ⟨rfl, ao, cap, rfl, -⟩ | ⟨b, off, cap, rfl, hz, hc⟩
  · obtain ⟨ao2, cap2, rfl⟩ := h2.shape
    clear h2
    go_enter Tryz.func23, Tryz.ntmps23
    go_wp2
    refine wp_loop_rounds 1 ?_
    rw [rounds_succ]
    go_wp2
    go_ret
    exact ⟨rfl, below2 w _ _⟩
  rcases h2 with ⟨h, _⟩ | ⟨b2, off2, cap2, rfl, _, hc2⟩
  · exact absurd h hz
  have HC : Hid (∀ k, k < hs.length → w.cell? ⟨b, off + k * 2, none⟩ = some (.int .i64 (hs.getD k (0, 0)).1) ∧ w.cell? ⟨b, off + k * 2 + 1, none⟩ = some (.int .i64 (hs.getD k (0, 0)).2)) := hc
  have HC2 : Hid (∀ k, k < hs.length → w.cell? ⟨b2, off2 + k * 2, none⟩ = some (.int .i64 (hs.getD k (0, 0)).1) ∧ w.cell? ⟨b2, off2 + k * 2 + 1, none⟩ = some (.int .i64 (hs.getD k (0, 0)).2)) := hc2
  have hzl : 0 < hs.length := List.length_pos_iff.2 hz
  have hbw : b < w.heap.size := World.block_lt_of_cell? _ _ (hc 0 hzl).1
  have hbw2 : b2 < w.heap.size := World.block_lt_of_cell? _ _ (hc2 0 hzl).1
  have DA := hide_it ((Duo.new w (.int .i64 room) (.slice (some ⟨b, off, none⟩) hs.length cap) 50).later (al_below _ (.cells #[.int .i64 room, .slice (some ⟨b2, off2, none⟩) hs.length cap2] 50)) (Nat.le_refl _))
  have DB := hide_it (Duo.new (w.alloc (.cells #[.int .i64 room, .slice (some ⟨b, off, none⟩) hs.length cap] 50)) (.int .i64 room) (.slice (some ⟨b2, off2, none⟩) hs.length cap2) 50)
  rw [World.size_alloc] at DB
  clear hc hc2 hz
  go_enter Tryz.func23, Tryz.ntmps23
  go_wp2
  go_loopw [5] (fun i wr => ∃ k : Nat, k ≤ hs.length ∧ i = .int .i64 k ∧ Hid (Below (w.heap.size + 2) ((w.alloc (.cells #[.int .i64 room, .slice (some ⟨b, off, none⟩) hs.length cap] 50)).alloc (.cells #[.int .i64 room, .slice (some ⟨b2, off2, none⟩) hs.length cap2] 50)) wr)) (fun i _ => hs.length - (intOf i).toNat)
  case atStart => exact ⟨0, Nat.zero_le _, rfl, Below.refl _ _⟩
  case round =>
    obtain ⟨k, hk, rfl, HB⟩ := hrel
    obtain ⟨a0, a1⟩ := DA.out.later HB.out (by simp)
    obtain ⟨e0, e1⟩ := DB.out.later HB.out (by simp)
    by_cases hlt : k < hs.length
    · obtain ⟨m, s, HZ⟩ : ∃ m s, Hid (hs.getD k (0, 0) = (m, s)) := ⟨_, _, rfl⟩
      have HBw := (below2 w (.cells #[.int .i64 room, .slice (some ⟨b, off, none⟩) hs.length cap] 50) (.cells #[.int .i64 room, .slice (some ⟨b2, off2, none⟩) hs.length cap2] 50)).trans (HB.out.mono (by omega))
      have c0 : wr.cell? ⟨b, off + k * 2, none⟩ = some (.int .i64 m) := by rw [HBw.cell (p := ⟨b, off + k * 2, none⟩) hbw, (HC.out k hlt).1, HZ.out]
      have c1 : wr.cell? ⟨b, off + k * 2 + 1, none⟩ = some (.int .i64 s) := by rw [HBw.cell (p := ⟨b, off + k * 2 + 1, none⟩) hbw, (HC.out k hlt).2, HZ.out]
      have d0 : wr.cell? ⟨b2, off2 + k * 2, none⟩ = some (.int .i64 m) := by rw [HBw.cell (p := ⟨b2, off2 + k * 2, none⟩) hbw2, (HC2.out k hlt).1, HZ.out]
      have d1 : wr.cell? ⟨b2, off2 + k * 2 + 1, none⟩ = some (.int .i64 s) := by rw [HBw.cell (p := ⟨b2, off2 + k * 2 + 1, none⟩) hbw2, (HC2.out k hlt).2, HZ.out]
      have hli : (k : Int) < (hs.length : Int) := by omega
      clear HBw
      go_wp2
      go_quiet (fail)
      go_wp2
      go_roundw
      case rel => exact ⟨k + 1, by omega, by go_num, below_drewN HB.out _⟩
      case measure => simp [intOf]; omega
    · go_wp2
      go_ret
      exact ⟨rfl, (below2 w _ _).trans (HB.out.mono (by omega))⟩

end Go.Proofs.YthllcffmpeopcaaGreatDoor
