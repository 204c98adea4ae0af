/- The law FnRecStrict, walked: whatever the code, it answers true, and nothing that was there before has turned. For codes of at most 1048576 bytes, in a world in which the listed variables hold what they hold at the start. -/
import Derived.Test.YtfpjohbcbflnhaaDoorRRSRead
import Derived.Test.YtfpjohbcbflnhaaDoorRRDraw
namespace Go.Proofs.YtfpjohbcbflnhaaDoor
open Go.RowKit

set_option maxRecDepth 100000 in
set_option maxHeartbeats 4000000 in
theorem lawRecStrict_small (vc : Value) (nc : Nat) (a : Addr) (w : World) (hc : CodeAt w vc nc) (hcn : nc ≤ 1048576) (ha : ErrAt w a) (hN : Kinds8 w) (hE : ErrV w) :
    Calls Tryd.prog 4 #[vc] w fun e w' => e = .returned (.bool true) ∧ Below w.heap.size w w' := by
  have HD := hidden (drawRecRead_any vc nc w hc hcn)
  have HN := hidden (fun W (hb : Below w.heap.size w W) => (hN.later hb (Nat.le_refl _)).at_)
  have HA := hidden (fun W (hb : Below w.heap.size w W) => ha.later hb (Nat.le_refl _))
  have HR : Hid (∀ s W, Below w.heap.size w W → Calls Tryd.prog 11 #[.string s] W fun e w' => RdRO s W.heap.size e w' ∧ Below W.heap.size W w') := fun s W hb => implRecRead_any s a W (hE.later hb (Nat.le_refl _)) (ha.later hb (Nat.le_refl _)) (hN.later hb (Nat.le_refl _))
  obtain ⟨ac, cc, rfl, _⟩ := hc
  have hci : (nc : Int) ≤ 1048576 := by omega
  clear hcn hN ha hE
  go_enter Tryd.func4, Tryd.ntmps4
  go_wp2_with fail
  refine HD.out.mono ?_
  rintro e w1 ⟨s, rfl, -, hb1⟩
  have B1 := hidden hb1
  clear hb1 HD
  have HS := hidden (specRecRead_any s)
  go_wp2_with fail
  refine (HS.out _).mono ?_
  rintro e w2 ⟨⟨k, t, zs, b, v, rfl, hr, ho⟩, hb2⟩
  obtain ⟨av, cv, rfl⟩ := row_shape ho
  have I2 := hidden (ints_of_any ho)
  have B2 := hidden (B1.out.trans (hb2.mono B1.out.size))
  have R2 := hidden hr
  have HZ := hidden (show zs.length ≤ 1048576 by have := hr.len; omega)
  clear hb2 hr HS ho
  obtain ⟨n, hn⟩ : ∃ n, Hid (zs.length = n) := ⟨_, rfl⟩
  rw [hn.out] at I2 ⊢
  obtain ⟨w3, hw3⟩ : ∃ W, Hid (W = w2.alloc (.cells #[.int .i64 k, .int .i64 t, .slice av n cv] 25)) := ⟨_, rfl⟩
  have B3 : Hid (Below w.heap.size w w3) := by show Below _ _ _; rw [hw3.out]; exact B2.out.alloc (B2.out.size) _
  have Q3 : Hid (RecAt w3 w2.heap.size k t (.slice av n cv)) := by show RecAt _ _ _ _ _; rw [hw3.out]; exact RecAt.new _ _ _ _ _
  have I3 : Hid (Ints w3 (.slice av n cv) zs) := by show Ints _ _ _; rw [hw3.out]; exact I2.out.later (alloc_below _ _) (Nat.le_refl _)
  go_wp2_with fail
  rw [← hw3.out]
  refine (HR.out _ _ B3.out).mono ?_
  rintro e w4 ⟨⟨k', t', ys, b', v', rfl, hr, ho⟩, hb4⟩
  obtain ⟨rfl, rfl, rfl, rfl⟩ := R2.out.one hr
  obtain ⟨av4, cv4, rfl⟩ := row_shape ho
  have J4 := hidden (ints_of_any ho)
  have B4 := hidden (B3.out.trans (hb4.mono B3.out.size))
  have Q4 := hidden (Q3.out.later hb4 (Nat.le_refl _))
  have I4 := hidden (I3.out.later hb4 (Nat.le_refl _))
  clear hb4 hr HR ho
  rw [hn.out] at J4 ⊢
  obtain ⟨w5, hw5⟩ : ∃ W, Hid (W = w4.alloc (.cells #[.int .i64 k, .int .i64 t, .slice av4 n cv4] 25)) := ⟨_, rfl⟩
  have al5 : Below w4.heap.size w4 w5 := by rw [hw5.out]; exact alloc_below _ _
  have B5 := hidden (B4.out.trans (al5.mono B4.out.size))
  have P5 : Hid (RecAt w5 w4.heap.size k t (.slice av4 n cv4)) := by show RecAt _ _ _ _ _; rw [hw5.out]; exact RecAt.new _ _ _ _ _
  have Q5 := hidden (Q4.out.later al5 (Nat.le_refl _))
  have I5 := hidden (I4.out.later al5 (Nat.le_refl _))
  have J5 := hidden (J4.out.later al5 (Nat.le_refl _))
  clear al5
  have LN := hidden (fun W (h : Below w5.heap.size w5 W) => lnRec_any k t (.slice av4 n cv4) (.slice av n cv) zs W (J5.out.later h (Nat.le_refl _)) (I5.out.later h (Nat.le_refl _)) HZ.out)
  obtain ⟨q0, q1, q2⟩ := Q4.out
  have q0b := fun o => cellA3 q0 o
  have q1b := fun o => cellA3 q1 o
  have q2b := fun o => cellA3 q2 o
  have D5 : Hid (Below w5.heap.size w5 w5) := Below.refl _ _
  go_wp2_with fail
  rw [← hw5.out]
  refine (LN.out _ D5.out).mono ?_
  rintro e w6 ⟨rfl, hb6⟩
  have B6 := hidden (B5.out.trans (hb6.mono B5.out.size))
  have D6 := hidden (D5.out.trans (hb6.mono D5.out.size))
  have P6 := hidden (P5.out.later hb6 (Nat.le_refl _))
  have Q6 := hidden (Q5.out.later hb6 (Nat.le_refl _))
  clear hb6 q0 q1 q2 q0b q1b q2b
  obtain ⟨p0, p1, p2⟩ := P6.out
  cases b
  · obtain ⟨q0, q1, q2⟩ := Q6.out
    go_wp2_with fail
    refine (LN.out _ D6.out).mono ?_
    rintro e w7 ⟨rfl, hb7⟩
    have B7 := hidden (B6.out.trans (hb7.mono B6.out.size))
    clear hb7
    go_wp2
    go_ret
    exact ⟨rfl, B7.out⟩
  · obtain ⟨e1, e2⟩ : Pl.recOk k t zs = true ∧ Pl.rTxt k t zs = s := by
      rcases R2.out with ⟨_, a, b⟩ | ⟨a, _⟩
      · exact ⟨a, b⟩
      · cases a
    have HIM := hidden (fun W (h : Below w5.heap.size w5 W) => implRecText_any k t _ zs a W (J5.out.later h (Nat.le_refl _)) HZ.out)
    have HOK := hidden (fun W (h : Below w5.heap.size w5 W) => implOk_any k t _ zs a W (J5.out.later h (Nat.le_refl _)) HZ.out)
    simp only [e1] at HOK
    simp only [e2] at HIM
    clear e1 e2 R2
    go_wp2_with fail
    refine (HOK.out _ D6.out (HA.out _ B6.out)).mono ?_
    rintro e w7 ⟨rfl, hb7⟩
    have B7 := hidden (B6.out.trans (hb7.mono B6.out.size))
    have D7 := hidden (D6.out.trans (hb7.mono D6.out.size))
    have P7 := hidden (P6.out.later hb7 (Nat.le_refl _))
    clear hb7 p0 p1 p2
    obtain ⟨p0, p1, p2⟩ := P7.out
    go_wp2_with fail
    refine (HIM.out _ D7.out (HA.out _ B7.out) (HN.out _ B7.out)).mono ?_
    rintro e w8 ⟨rfl, hb8⟩
    have B8 := hidden (B7.out.trans (hb8.mono B7.out.size))
    clear hb8
    go_wp2
    go_ret
    exact ⟨rfl, B8.out⟩

end Go.Proofs.YtfpjohbcbflnhaaDoor
