/- The law FnExactRecRead, walked: at every text it answers true, and nothing that was there before has turned. In a world in which the listed variables hold what they hold at the start. -/
import Derived.Test.YtfpjohbcbflnhaaDoorRRSRead
import Derived.Test.YtfpjohbcbflnhaaDoorRRBack
import Derived.Test.YtfpjohbcbflnhaaDoorMark
namespace Go.Proofs.YtfpjohbcbflnhaaDoor
open Go.RowKit

theorem grown_ofBelow {w w' W : World} {row : Option Nat} (hb : Below w.heap.size w w') (h : w'.grownBy W row) : w.grownBy W row :=
  ⟨h.os.trans hb.os, h.tape.trans hb.tape, h.output.trans hb.output, Nat.le_trans hb.size h.size, fun i hi hh => (h.block i (Nat.lt_of_lt_of_le hi hb.size) hh).trans (hb.block i hi)⟩
theorem RecAt.midR {lo hi : Nat} {w w' : World} {b : Nat} {k t : Int} {u : Value} (h : RecAt w b k t u) (hm : Mid lo hi w w') (hb : b < lo ∨ hi ≤ b) : RecAt w' b k t u := by
  have hlt := World.block_lt_of_cell? _ _ h.1
  simp at hlt
  have e := hm.block b hlt hb
  obtain ⟨h0, h1, h2⟩ := h
  refine ⟨?_, ?_, ?_⟩
  · rw [← h0]; simp [World.cell?, e]
  · rw [← h1]; simp [World.cell?, e]
  · rw [← h2]; simp [World.cell?, e]

set_option maxHeartbeats 400000 in
theorem markRec_any (k t : Int) (av : Option Addr) (cv : Nat) (xs : List Value) (m : Int) (lo n : Nat) (w : World) (hv : w.ownsRow lo 3 1 (.slice av n cv) n xs) (hn : n ≤ 1048576) (hk0 : 0 ≤ m) (hk1 : m ≤ 1000000000) :
    Calls Tryd.prog 17 #[.agg #[.int .i64 k, .int .i64 t, .slice av n cv], .int .i64 m] w fun e w' => e = .returned (.int .i64 (m + n)) ∧ w'.ownsRow lo 3 1 (.slice av n cv) n ((markI n m).map (Value.int .i64)) ∧ w.grownBy w' (Value.slice av n cv).ownBlock := by
  have HM := hide_it (fun o => markInts_any (.slice av n cv) xs m lo n (w.alloc o) (hv.alloc o) hn hk0 hk1)
  clear hv
  go_enter Tryd.func17, Tryd.ntmps17
  go_wp2_with fail
  refine (HM.out _).mono ?_
  rintro e w1 ⟨rfl, ho, hg⟩
  have HO := hide_it ho
  have HG := hide_it (grown_ofBelow (alloc_below w _) hg)
  clear ho hg HM
  go_wp2
  go_ret
  exact ⟨rfl, HO.out, HG.out⟩

set_option maxHeartbeats 400000 in
theorem heldRec_any (k t : Int) (v : Value) (m : Int) (n : Nat) (w : World) (hv : Ints w v (markI n m)) (hn : n ≤ 1048576) (hk0 : 0 ≤ m) (hk1 : m ≤ 1000000000) :
    Calls Tryd.prog 18 #[.agg #[.int .i64 k, .int .i64 t, v], .int .i64 m] w fun e w' => e = .returned (.int .i64 (m + n)) ∧ Below w.heap.size w w' := by
  have HM := hide_it (fun o => heldInts_any v n m (w.alloc o) (hv.later (alloc_below w o) (Nat.le_refl _)) hn hk0 hk1)
  clear hv
  have hmn : ¬ m + (n : Int) < 0 := by omega
  go_enter Tryd.func18, Tryd.ntmps18
  go_wp2_with fail
  refine (HM.out _).mono ?_
  rintro e w1 ⟨rfl, rfl⟩
  clear HM
  go_wp2
  go_ret
  exact ⟨rfl, alloc_below w _⟩

set_option maxRecDepth 100000 in
set_option maxHeartbeats 4000000 in
theorem lawRecRead_any (s : ByteArray) (a : Addr) (w : World) (ha : ErrAt w a) (hN : Kinds8 w) (hE : ErrV w) :
    Calls Tryd.prog 6 #[.string s] w fun e w' => e = .returned (.bool true) ∧ Below w.heap.size w w' := by
  by_cases hs : 1048576 < s.size
  · have hsi : (1048576 : Int) < (s.size : Int) := by omega
    go_enter Tryd.func6, Tryd.ntmps6
    go_wp2
    go_ret
    exact ⟨rfl, Below.refl _ _⟩
  have hsi : ¬ (1048576 : Int) < (s.size : Int) := by omega
  have HS := hide_it (specRecRead_any s)
  have HR : Hid (∀ W, Below w.heap.size w W → Calls Tryd.prog 11 #[.string s] W fun e w' => RdRO s W.heap.size e w' ∧ Below W.heap.size W w') := fun W hb => implRecRead_any s a W (hE.later hb (Nat.le_refl _)) (ha.later hb (Nat.le_refl _)) (hN.later hb (Nat.le_refl _))
  clear hN hE ha
  go_enter Tryd.func6, Tryd.ntmps6
  go_wp2_with fail
  refine (HS.out _).mono ?_
  rintro e w1 ⟨⟨k, t, zs, b, v, rfl, hr, ho⟩, hb1⟩
  obtain ⟨av, cv, rfl⟩ := row_shape ho
  have B1 := hide_it hb1
  have O1 := hide_it ho
  have R1 := hide_it hr
  have HZ : Hid (zs.length ≤ 3) := hr.len
  clear hb1 hr HS ho
  obtain ⟨n, hn⟩ : ∃ n, Hid (zs.length = n) := ⟨_, rfl⟩
  have hn3 : n ≤ 3 := by rw [← hn.out]; exact HZ.out
  rw [hn.out] at O1 ⊢
  obtain ⟨w2, hw2⟩ : ∃ W, Hid (W = w1.alloc (.cells #[.int .i64 k, .int .i64 t, .slice av n cv] 25)) := ⟨_, rfl⟩
  have al2 : Below w1.heap.size w1 w2 := by rw [hw2.out]; exact alloc_below _ _
  have B2 := hide_it (B1.out.trans (al2.mono B1.out.size))
  have s2 : w2.heap.size = w1.heap.size + 1 := by rw [hw2.out]; simp
  have Q2 : Hid (RecAt w2 w1.heap.size k t (.slice av n cv)) := by show RecAt _ _ _ _ _; rw [hw2.out]; exact RecAt.new _ _ _ _ _
  have O2 := hide_it (show w2.ownsRow w.heap.size 3 1 (.slice av n cv) n (zs.map (Value.int .i64)) by rw [hw2.out]; exact O1.out.alloc _)
  have K1 := hide_it (fun j hj => (O1.out.lt j hj).2)
  clear al2
  go_wp2_with fail
  rw [← hw2.out]
  refine (HR.out _ B2.out).mono ?_
  rintro e w3 ⟨⟨k', t', ys, b', v', rfl, hr, ho⟩, hb3⟩
  obtain ⟨rfl, rfl, rfl, rfl⟩ := R1.out.one hr
  obtain ⟨aw, cw, rfl⟩ := row_shape ho
  have N3 := hide_it hb3
  have O3 := hide_it ho
  clear hb3 hr ho
  rw [hn.out] at O3 ⊢
  have K3 := hide_it (fun j hj => O3.out.lt j hj)
  obtain ⟨w4, hw4⟩ : ∃ W, Hid (W = w3.alloc (.cells #[.int .i64 k, .int .i64 t, .slice aw n cw] 25)) := ⟨_, rfl⟩
  have al4 : Below w3.heap.size w3 w4 := by rw [hw4.out]; exact alloc_below _ _
  have N4 := hide_it (N3.out.trans (al4.mono N3.out.size))
  have P4 : Hid (RecAt w4 w3.heap.size k t (.slice aw n cw)) := by show RecAt _ _ _ _ _; rw [hw4.out]; exact RecAt.new _ _ _ _ _
  have O4 := hide_it (show w4.ownsRow w2.heap.size 3 1 (.slice aw n cw) n (zs.map (Value.int .i64)) by rw [hw4.out]; exact O3.out.alloc _)
  have Q4 := hide_it (Q2.out.later N4.out (Nat.le_refl _))
  have I4 := hide_it ((ints_of_any (by rw [hn.out]; exact O2.out)).later N4.out (Nat.le_refl _))
  have J4 := hide_it (ints_of_any (by rw [hn.out]; exact O4.out))
  have s3 := N3.out.size
  clear al4
  cases b
  all_goals
    obtain ⟨q0, q1, q2⟩ := Q2.out.later N3.out (Nat.le_refl _)
    have q0a := fun o => cellA3 q0 o
    have q1a := fun o => cellA3 q1 o
    have q2a := fun o => cellA3 q2 o
    have HZ2 : zs.length ≤ 1048576 := by have := HZ.out; omega
    go_wp2_with fail
    rw [← hw4.out]
    refine (eqRec_any k t _ _ zs w4 J4.out I4.out HZ2).mono ?_
    rintro e w5 ⟨rfl, hb5⟩
    have M5 := hide_it hb5
    have P5 := hide_it (P4.out.later hb5 (Nat.le_refl _))
    have Q5 := hide_it (Q4.out.later hb5 (Nat.le_refl _))
    clear hb5 q0 q1 q2 q0a q1a q2a
    obtain ⟨p0, p1, p2⟩ := P5.out
    go_wp2_with fail
    refine (markRec_any k t aw cw _ 1 w2.heap.size n w5 (ownsRow_below O4.out M5.out (fun j hj => (O4.out.lt j hj).2)) (by omega) (by omega) (by omega)).mono ?_
    rintro e w6 ⟨rfl, ho6, hg6⟩
    have MD : Hid (Mid w2.heap.size w3.heap.size w5 w6) := Mid.of_grown hg6 (fun j hj => K3.out j hj)
    have J6 := hide_it (ints_of_any (zs := markI n 1) (by rw [markI_length]; exact ho6))
    have P6 := hide_it (P5.out.midR MD.out (Or.inr (Nat.le_refl _)))
    have Q6 := hide_it (Q5.out.midR MD.out (Or.inl (by omega)))
    have hrow1 : ∀ j, (Value.slice av n cv).ownBlock = some j → j < w2.heap.size := fun j hj => by have := K1.out j hj; omega
    have OV := hide_it (ownsRow_mid (ownsRow_below (ownsRow_below O2.out N4.out hrow1) M5.out (fun j hj => by have := hrow1 j hj; have := N4.out.size; omega)) MD.out (fun j hj => Or.inl (hrow1 j hj)))
    have B6 : Hid (Below w.heap.size w w6) := B2.out.trans ((N4.out.trans (M5.out.mono N4.out.size)).mono B2.out.size |>.trans (MD.out.below (by have := B2.out.size; omega) (by have := B2.out.size; have := N4.out.size; have := M5.out.size; omega)))
    clear ho6 hg6 p0 p1 p2
    obtain ⟨p0, p1, p2⟩ := P6.out
    go_wp2_with fail
    refine (heldRec_any k t _ 1 n w6 J6.out (by omega) (by omega) (by omega)).mono ?_
    rintro e w7 ⟨rfl, hb7⟩
    have M7 := hide_it hb7
    have B7 := hide_it (B6.out.trans (hb7.mono B6.out.size))
    clear hb7 p0 p1 p2
    have hq0 : ¬ (1 : Int) + (n : Int) < 0 := by omega
    go_wp2_with fail
    refine (HR.out _ B7.out).mono ?_
    rintro e w8 ⟨⟨k', t', ys, b', v', rfl, hr, ho⟩, hb8⟩
    obtain ⟨rfl, rfl, rfl, rfl⟩ := R1.out.one hr
    obtain ⟨ax, cx, rfl⟩ := row_shape ho
    have M8 := hide_it (M7.out.trans (hb8.mono M7.out.size))
    have B8 := hide_it (B7.out.trans (hb8.mono B7.out.size))
    have O8 := hide_it ho
    clear hb8 hr ho
    rw [hn.out] at O8 ⊢
    obtain ⟨w9, hw9⟩ : ∃ W, Hid (W = w8.alloc (.cells #[.int .i64 k, .int .i64 t, .slice ax n cx] 25)) := ⟨_, rfl⟩
    have al9 : Below w8.heap.size w8 w9 := by rw [hw9.out]; exact alloc_below _ _
    have M9 := hide_it (M8.out.trans (al9.mono M8.out.size))
    have B9 := hide_it (B8.out.trans (al9.mono B8.out.size))
    have Y9 := hide_it (show Ints w9 (.slice ax n cx) zs by rw [hw9.out]; exact ints_of_any (by rw [hn.out]; exact O8.out.alloc _))
    have V9 := hide_it ((ints_of_any (by rw [hn.out]; exact OV.out)).later M9.out (Nat.le_refl _))
    have P9 := hide_it (P6.out.later M9.out (Nat.le_refl _))
    have J9 := hide_it (J6.out.later M9.out (Nat.le_refl _))
    obtain ⟨q0, q1, q2⟩ := Q6.out.later M8.out (Nat.le_refl _)
    have q0a := fun o => cellA3 q0 o
    have q1a := fun o => cellA3 q1 o
    have q2a := fun o => cellA3 q2 o
    clear al9
    go_wp2_with fail
    rw [← hw9.out]
    refine (eqRec_any k t _ _ zs w9 Y9.out V9.out HZ2).mono ?_
    rintro e w10 ⟨rfl, hb10⟩
    have M10 := hide_it hb10
    have B10 := hide_it (B9.out.trans (hb10.mono B9.out.size))
    have P10 := hide_it (P9.out.later hb10 (Nat.le_refl _))
    have J10 := hide_it (J9.out.later hb10 (Nat.le_refl _))
    clear hb10 q0 q1 q2 q0a q1a q2a
    obtain ⟨p0, p1, p2⟩ := P10.out
    go_wp2_with fail
    refine (heldRec_any k t _ 1 n w10 J10.out (by omega) (by omega) (by omega)).mono ?_
    rintro e w11 ⟨rfl, hb11⟩
    have B11 := hide_it (B10.out.trans (hb11.mono B10.out.size))
    clear hb11 p0 p1 p2
    go_wp2
    go_ret
    exact ⟨rfl, B11.out⟩

end Go.Proofs.YtfpjohbcbflnhaaDoor
