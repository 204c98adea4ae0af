/- The law FnRecCut, walked: whatever the code, it answers true, and nothing that was there before has turned. For codes of at most 1048576 bytes, in a world in which the listed variables hold what they hold at the start. -/
import Derived.Test.YtfpjohbcbflnhaaDoorRRRead
import Derived.Test.YtfpjohbcbflnhaaDoorEDraw
import Derived.Test.YtfpjohbcbflnhaaDoorRRBack
namespace Go.Proofs.YtfpjohbcbflnhaaDoor
open Go.RowKit

set_option maxRecDepth 100000 in
set_option maxHeartbeats 4000000 in
theorem lawRecCut_small (vc : Value) (nc : Nat) (a : Addr) (w : World) (hc : CodeAt w vc nc) (hcn : nc ≤ 1048576) (ha : ErrAt w a) (hN : Kinds8 w) (hE : ErrV w) :
    Calls Tryd.prog 5 #[vc] w fun e w' => e = .returned (.bool true) ∧ Below w.heap.size w w' := by
  have HD := hidden (drawRecText_any vc nc w hc hcn)
  have HN := hidden (fun W (hb : Below w.heap.size w W) => (hN.later hb (Nat.le_refl _)).at_)
  have HA := hidden (fun W (hb : Below w.heap.size w W) => ha.later hb (Nat.le_refl _))
  have HR : Hid (∀ s W, Below w.heap.size w W → Calls Tryd.prog 11 #[.string s] W fun e w' => RdRO s W.heap.size e w' ∧ Below W.heap.size W w') := fun s W hb => implRecRead_any s a W (hE.later hb (Nat.le_refl _)) (ha.later hb (Nat.le_refl _)) (hN.later hb (Nat.le_refl _))
  obtain ⟨ac, cc, rfl, _⟩ := hc
  have hci : (nc : Int) ≤ 1048576 := by omega
  clear hcn hN ha hE
  go_enter Tryd.func5, Tryd.ntmps5
  go_wp2_with fail
  refine HD.out.mono ?_
  rintro e w1 ⟨k, t, u, zs, cap, rfl, hz, hf, hb1⟩
  have B1 := hidden hb1
  have I1 := hidden hf.ints
  obtain ⟨g, off, hu⟩ := fresh_formR hf
  clear hb1 hf
  obtain ⟨n, hn⟩ : ∃ n, Hid (zs.length = n) := ⟨_, rfl⟩
  rw [hn.out] at hu
  subst hu
  obtain ⟨w2, hw2⟩ : ∃ W, Hid (W = w1.alloc (.cells #[.int .i64 k, .int .i64 t, .slice (some ⟨g, off, none⟩) n cap] 25)) := ⟨_, rfl⟩
  have B2 : Hid (Below w.heap.size w w2) := by show Below _ _ _; rw [hw2.out]; exact B1.out.alloc (B1.out.size) _
  have Q2 : Hid (RecAt w2 w1.heap.size k t (.slice (some ⟨g, off, none⟩) n cap)) := by show RecAt _ _ _ _ _; rw [hw2.out]; exact RecAt.new _ _ _ _ _
  have I2 : Hid (Ints w2 (.slice (some ⟨g, off, none⟩) n cap) zs) := by show Ints _ _ _; rw [hw2.out]; exact I1.out.later (alloc_below _ _) (Nat.le_refl _)
  have hz2 : zs.length ≤ 1048576 := by omega
  have HZ := hidden hz2
  clear hz hz2
  obtain ⟨T, hT⟩ : ∃ x, Hid (Pl.rTxt k t zs = x) := ⟨_, rfl⟩
  have HSP := hidden (fun W (h : Below w2.heap.size w2 W) => specRecText_any k t _ zs W (I2.out.later h (Nat.le_refl _)) HZ.out)
  have HIM := hidden (fun W (h : Below w2.heap.size w2 W) => implRecText_any k t _ zs a W (I2.out.later h (Nat.le_refl _)) HZ.out)
  have HOK := hidden (fun W (h : Below w2.heap.size w2 W) => implOk_any k t _ zs a W (I2.out.later h (Nat.le_refl _)) HZ.out)
  simp only [hT.out] at HSP HIM
  have D2 : Hid (Below w2.heap.size w2 w2) := Below.refl _ _
  go_wp2_with fail
  rw [← hw2.out]
  refine (HIM.out _ D2.out (HA.out _ B2.out) (HN.out _ B2.out)).mono ?_
  rintro e w3 ⟨rfl, hb3⟩
  have B3 := hidden (B2.out.trans (hb3.mono B2.out.size))
  have D3 := hidden (D2.out.trans (hb3.mono D2.out.size))
  have Q3 := hidden (Q2.out.later hb3 (Nat.le_refl _))
  clear hb3
  obtain ⟨q0, q1, q2⟩ := Q3.out
  go_wp2_with fail
  refine (HSP.out _ D3.out).mono ?_
  rintro e w4 ⟨rfl, hb4⟩
  have B4 := hidden (B3.out.trans (hb4.mono B3.out.size))
  have D4 := hidden (D3.out.trans (hb4.mono D3.out.size))
  have Q4 := hidden (Q3.out.later hb4 (Nat.le_refl _))
  clear hb4 q0 q1 q2
  obtain ⟨q0, q1, q2⟩ := Q4.out
  cases e1 : Pl.recOk k t zs
  · obtain rfl : T = ⟨#[]⟩ := by rw [← hT.out, Pl.rTxt_no e1]
    have em := emptyR
    clear e1
    go_wp2_with fail
    refine (HSP.out _ D4.out).mono ?_
    rintro e w5 ⟨rfl, hb5⟩
    have B5 := hidden (B4.out.trans (hb5.mono B4.out.size))
    clear hb5 q0 q1 q2
    go_wp2
    go_ret
    exact ⟨rfl, B5.out⟩
  · have hne : T ≠ ⟨#[]⟩ := by rw [← hT.out]; exact (rTxt_full e1).1
    have em := full_neR hne
    have hsz : 1 ≤ T.size ∧ T.size ≤ 14 := by rw [← hT.out]; exact ⟨(rTxt_full e1).2, (Pl.rec_read e1).2.2.1⟩
    clear hne e1 HSP HIM HOK
    obtain ⟨m, hm⟩ : ∃ m : Nat, T.size = m + 1 := ⟨T.size - 1, by omega⟩
    have hw1 : IntKind.i64.wrap ((m : Int) + 1 - 1) = (m : Int) := by simp [IntKind.wrap, IntKind.bits, IntKind.signed]; omega
    have hm13 : m ≤ 13 := by omega
    go_wp2_with fail
    refine (HR.out _ _ B4.out).mono ?_
    rintro e w5 ⟨⟨k1, t1, ys, b1, v1, rfl, hr1, ho1⟩, hb5⟩
    obtain ⟨av, cv, rfl⟩ := row_shape ho1
    have J5 := hidden (ints_of_any ho1)
    have B5 := hidden (B4.out.trans (hb5.mono B4.out.size))
    have D5 := hidden (D4.out.trans (hb5.mono D4.out.size))
    have Q5 := hidden (Q4.out.later hb5 (Nat.le_refl _))
    have hab : Hid (b1 = true → ¬ (k1 = k ∧ t1 = t ∧ ys = zs)) := fun hb he => by
      obtain ⟨rfl, rfl, rfl⟩ := he
      rcases hr1 with ⟨_, _, x2⟩ | ⟨x, _⟩
      · have h2 := congrArg ByteArray.size (hT.out.symm.trans x2)
        simp at h2
        omega
      · rw [hb] at x; cases x
    have YL := hidden (show ys.length ≤ 1048576 by have := hr1.len; omega)
    clear hb5 hr1 q0 q1 q2 ho1
    obtain ⟨ny, hny⟩ : ∃ n, Hid (ys.length = n) := ⟨_, rfl⟩
    rw [hny.out] at J5 ⊢
    obtain ⟨w6, hw6⟩ : ∃ W, Hid (W = w5.alloc (.cells #[.int .i64 k1, .int .i64 t1, .slice av ny cv] 25)) := ⟨_, rfl⟩
    have B6 : Hid (Below w.heap.size w w6) := by show Below _ _ _; rw [hw6.out]; exact B5.out.alloc (B5.out.size) _
    have D6 : Hid (Below w2.heap.size w2 w6) := by show Below _ _ _; rw [hw6.out]; exact D5.out.alloc (D5.out.size) _
    have J6 : Hid (Ints w6 (.slice av ny cv) ys) := by show Ints _ _ _; rw [hw6.out]; exact J5.out.later (alloc_below _ _) (Nat.le_refl _)
    have Q6 : Hid (RecAt w6 w1.heap.size k t (.slice (some ⟨g, off, none⟩) n cap)) := by show RecAt _ _ _ _ _; rw [hw6.out]; exact Q5.out.later (alloc_below _ _) (Nat.le_refl _)
    have P6 : Hid (RecAt w6 w5.heap.size k1 t1 (.slice av ny cv)) := by show RecAt _ _ _ _ _; rw [hw6.out]; exact RecAt.new _ _ _ _ _
    have hz1 : ¬ 9223372036854775807 < m + 1 + 1 := by omega
    have hz2 : ¬ 9223372036854775807 < 1 + (m + 1) := by omega
    go_wp2_with fail
    rw [← hw6.out]
    refine (HR.out _ _ B6.out).mono ?_
    rintro e w7 ⟨⟨k2, t2, y2, b2, v2, rfl, hr2, ho2⟩, hb7⟩
    obtain rfl : b2 = false := hr2.behind
    obtain ⟨av2, cv2, rfl⟩ := row_shape ho2
    obtain ⟨n2, hn2⟩ : ∃ n, y2.length = n := ⟨_, rfl⟩
    rw [hn2]
    have B7 := hidden (B6.out.trans (hb7.mono B6.out.size))
    have D7 := hidden (D6.out.trans (hb7.mono D6.out.size))
    have Q7 := hidden (Q6.out.later hb7 (Nat.le_refl _))
    have P7 := hidden (P6.out.later hb7 (Nat.le_refl _))
    have J7 := hidden (J6.out.later hb7 (Nat.le_refl _))
    clear hb7 hr2 ho2 hn2
    obtain ⟨w8, hw8⟩ : ∃ W, Hid (W = w7.alloc (.cells #[.int .i64 k2, .int .i64 t2, .slice av2 n2 cv2] 25)) := ⟨_, rfl⟩
    have al8 : Below w7.heap.size w7 w8 := by rw [hw8.out]; exact alloc_below _ _
    have B8 := hidden (B7.out.trans (al8.mono B7.out.size))
    have D8 := hidden (D7.out.trans (al8.mono D7.out.size))
    have Q8 := hidden (Q7.out.later al8 (Nat.le_refl _))
    have P8 := hidden (P7.out.later al8 (Nat.le_refl _))
    have J8 := hidden (J7.out.later al8 (Nat.le_refl _))
    clear al8
    go_wp2_with fail
    rw [← hw8.out]
    refine (HR.out _ _ B8.out).mono ?_
    rintro e w9 ⟨⟨k3, t3, y3, b3, v3, rfl, hr3, ho3⟩, hb9⟩
    obtain rfl : b3 = false := hr3.ahead
    obtain ⟨av3, cv3, rfl⟩ := row_shape ho3
    obtain ⟨n3, hn3⟩ : ∃ n, y3.length = n := ⟨_, rfl⟩
    rw [hn3]
    have B9 := hidden (B8.out.trans (hb9.mono B8.out.size))
    have D9 := hidden (D8.out.trans (hb9.mono D8.out.size))
    have Q9 := hidden (Q8.out.later hb9 (Nat.le_refl _))
    have P9 := hidden (P8.out.later hb9 (Nat.le_refl _))
    have J9 := hidden (J8.out.later hb9 (Nat.le_refl _))
    clear hb9 hr3 ho3 hn3
    obtain ⟨w10, hw10⟩ : ∃ W, Hid (W = w9.alloc (.cells #[.int .i64 k3, .int .i64 t3, .slice av3 n3 cv3] 25)) := ⟨_, rfl⟩
    have al10 : Below w9.heap.size w9 w10 := by rw [hw10.out]; exact alloc_below _ _
    have B10 := hidden (B9.out.trans (al10.mono B9.out.size))
    have D10 := hidden (D9.out.trans (al10.mono D9.out.size))
    have J10 := hidden (J9.out.later al10 (Nat.le_refl _))
    clear al10
    obtain ⟨q0, q1, q2⟩ := Q9.out
    obtain ⟨p0, p1, p2⟩ := P9.out
    have q0b := fun o => cellA3 q0 o
    have q1b := fun o => cellA3 q1 o
    have q2b := fun o => cellA3 q2 o
    have p0b := fun o => cellA3 p0 o
    have p1b := fun o => cellA3 p1 o
    have p2b := fun o => cellA3 p2 o
    cases b1
    · clear hab
      go_wp2
      go_ret
      exact ⟨rfl, by rw [← hw10.out]; exact B10.out⟩
    · have LN := hidden (lnRec_no k1 t1 k t (.slice av ny cv) (.slice (some ⟨g, off, none⟩) n cap) ys zs w10 J10.out (I2.out.later D10.out (Nat.le_refl _)) YL.out HZ.out (hab.out rfl))
      clear hab
      go_wp2_with fail
      rw [← hw10.out]
      refine LN.out.mono ?_
      rintro e w11 ⟨rfl, hb11⟩
      have B11 := hidden (B10.out.trans (hb11.mono B10.out.size))
      clear hb11
      go_wp2
      go_ret
      exact ⟨rfl, B11.out⟩

end Go.Proofs.YtfpjohbcbflnhaaDoor
