/- The law FnWordForm, walked: whatever the codes, it answers true, and nothing that was there before has turned. For codes of at most 1048576 bytes. -/
import Derived.Test.YtkeakaphafmkdaaWDraw
import Derived.Deep.RegionHeld
namespace Go.Proofs.Ytkeakaphafmkdaa
open Go.RowKit

theorem Quad.mid {lo hi : Nat} {w w' : World} {b : Nat} {x y z u : Value} (h : Quad w b x y z u) (hm : Mid lo hi w w') (hb : b < lo ∨ hi ≤ b) : Quad w' b x y z u := by
  have e := hm.block b h.lt hb
  obtain ⟨h0, h1, h2, h3⟩ := h
  exact ⟨by rw [← h0]; exact World.cell?_of_block (a := ⟨b, 0, none⟩) e, by rw [← h1]; exact World.cell?_of_block (a := ⟨b, 1, none⟩) e, by rw [← h2]; exact World.cell?_of_block (a := ⟨b, 2, none⟩) e, by rw [← h3]; exact World.cell?_of_block (a := ⟨b, 3, none⟩) e⟩

set_option maxHeartbeats 8000000 in
theorem lawForm_small (vc vm : Value) (nc nm : Nat) (w : World) (hc : CodeAt w vc nc) (hcn : nc ≤ 1048576) (hm : CodeAt w vm nm) (hmn : nm ≤ 1048576) :
    Calls Try.prog 4 #[vc, vm] w fun e w' => e = .returned (.bool true) ∧ Below w.heap.size w w' := by
  have HD := hidden (drawWordOk_any vc nc w hc hcn)
  obtain ⟨ac, cc, rfl, _⟩ := hc
  obtain ⟨am, cm, rfl, _⟩ := hm
  have hci : (nc : Int) ≤ 1048576 := by omega
  have hmi : (nm : Int) ≤ 1048576 := by omega
  clear hcn hmn
  go_enter Try.func4, Try.ntmps4
  go_wp2_with fail
  refine HD.out.mono ?_
  rintro e w1 ⟨k, h, t, m, rfl, hS, hb1⟩
  have B1 := hidden hb1
  clear hb1
  obtain ⟨w2, hw2⟩ : ∃ W, Hid (W = w1.alloc (.cells #[.int .i64 k, .int .i64 h, .int .i64 t, .int .i64 m] 25)) := ⟨_, rfl⟩
  have B2 : Hid (Below w.heap.size w w2) := by show Below _ _ _; rw [hw2.out]; exact B1.out.alloc (B1.out.size) _
  have Q2 : Hid (Quad w2 w1.heap.size (.int .i64 k) (.int .i64 h) (.int .i64 t) (.int .i64 m)) := by show Quad _ _ _ _ _ _; rw [hw2.out]; exact Quad.new _ _ _ _ _ _
  go_wp2_with fail
  rw [← hw2.out]
  refine (implWordOk_any k h t m _).mono ?_
  rintro e w3 ⟨rfl, hb3⟩
  have B3 := hidden (B2.out.trans (hb3.mono B2.out.size))
  have Q3 := hidden (Q2.out.later hb3 (Nat.le_refl _))
  clear hb3
  obtain ⟨BB, hBB⟩ : ∃ x, Hid (Pl.wOk k h t m = x) := ⟨_, rfl⟩
  have HSP := hidden (specWordOk_any k h t m)
  rw [hBB.out] at HSP ⊢
  obtain ⟨q0, q1, q2, q3⟩ := Q3.out
  go_wp2_with fail
  refine (HSP.out _).mono ?_
  rintro e w4 ⟨rfl, hb4⟩
  have B4 := hidden (B3.out.trans (hb4.mono B3.out.size))
  have Q4 := hidden (Q3.out.later hb4 (Nat.le_refl _))
  clear hb4 q0 q1 q2 q3
  obtain ⟨q0, q1, q2, q3⟩ := Q4.out
  have lq := Q4.out.lt
  cases BB
  · go_wp2_with fail
    refine (HSP.out _).mono ?_
    rintro e w5 ⟨rfl, hb5⟩
    have B5 := hidden (B4.out.trans (hb5.mono B4.out.size))
    clear hb5 q0 q1 q2 q3
    go_wp2
    go_ret
    exact ⟨rfl, B5.out⟩
  · have hp := Pl.wOk_parts hBB.out
    have hx1 : Pl.wOk k (1 + (nm : Int) % 3) (1 + (nm : Int) % 6) m = true := by
      rw [Pl.wOk_m (Pl.inB_mk hp.1.1 hp.1.2) (Pl.inB_mk (by omega) (by omega)) (Pl.inB_mk (by omega) (by omega))]; exact hp.2.2.2
    have HX := hidden (fun W => (by have := implWordOk_any k (1 + (nm : Int) % 3) (1 + (nm : Int) % 6) m W; rw [hx1] at this; exact this : Calls Try.prog 7 #[wordV k (1 + (nm : Int) % 3) (1 + (nm : Int) % 6) m] W fun e w' => e = .returned (.bool true) ∧ Below W.heap.size W w'))
    have hy1 : Pl.wOk k 4 t m = false := Pl.wOk_h (Pl.inB_hi (by omega))
    have HY := hidden (fun W => (by have := implWordOk_any k 4 t m W; rw [hy1] at this; exact this : Calls Try.prog 7 #[wordV k 4 t m] W fun e w' => e = .returned (.bool false) ∧ Below W.heap.size W w'))
    have hz1 : Pl.wOk k h t 4 = false := by
      rw [Pl.wOk_m (Pl.inB_mk hp.1.1 hp.1.2) (Pl.inB_mk hp.2.1.1 hp.2.1.2) (Pl.inB_mk hp.2.2.1.1 hp.2.2.1.2)]
      by_cases hk : k = 1
      · subst hk; rw [Pl.wMany_1]; exact Pl.inB_hi (by omega)
      · rw [Pl.wMany_0 4 hk]; rfl
    have HZ := hidden (fun W => (by have := implWordOk_any k h t 4 W; rw [hz1] at this; exact this : Calls Try.prog 7 #[wordV k h t 4] W fun e w' => e = .returned (.bool false) ∧ Below W.heap.size W w'))
    have hlast := hidden (Pl.wMany_parts hp.2.2.2)
    clear hp hx1 hy1 hz1 hS
    obtain ⟨w5, hw5⟩ : ∃ W, Hid (W = ((w4.alloc (.cells #[.int .i64 k, .int .i64 (1 + (nm : Int) % 3), .int .i64 (1 + (nm : Int) % 6), .int .i64 m] 25)).alloc (.cells #[.int .i64 k, .int .i64 4, .int .i64 t, .int .i64 m] 25)).alloc (.cells #[.int .i64 k, .int .i64 h, .int .i64 t, .int .i64 4] 25)) := ⟨_, rfl⟩
    have E5 : Hid (Below w4.heap.size w4 w5) := by show Below _ _ _; rw [hw5.out]; exact (((Below.refl _ _).alloc (Nat.le_refl _) _).alloc (by simp) _).alloc (by simp; omega) _
    have QW := hidden (Q4.out.later E5.out (Nat.le_refl _))
    have QY : Hid (Quad w5 (w4.heap.size + 1) (.int .i64 k) (.int .i64 4) (.int .i64 t) (.int .i64 m)) := by
      show Quad _ _ _ _ _ _
      have := Quad.new (w4.alloc (.cells #[.int .i64 k, .int .i64 (1 + (nm : Int) % 3), .int .i64 (1 + (nm : Int) % 6), .int .i64 m] 25)) (.int .i64 k) (.int .i64 4) (.int .i64 t) (.int .i64 m) 25
      rw [World.size_alloc] at this
      rw [hw5.out]; exact this.later (alloc_below _ _) (Nat.le_refl _)
    have QZ : Hid (Quad w5 (w4.heap.size + 1 + 1) (.int .i64 k) (.int .i64 h) (.int .i64 t) (.int .i64 4)) := by
      show Quad _ _ _ _ _ _
      have := Quad.new ((w4.alloc (.cells #[.int .i64 k, .int .i64 (1 + (nm : Int) % 3), .int .i64 (1 + (nm : Int) % 6), .int .i64 m] 25)).alloc (.cells #[.int .i64 k, .int .i64 4, .int .i64 t, .int .i64 m] 25)) (.int .i64 k) (.int .i64 h) (.int .i64 t) (.int .i64 4) 25
      rw [World.size_alloc, World.size_alloc] at this
      rw [hw5.out]; exact this
    go_wp2_with fail
    rw [← hw5.out]
    clear q0 q1 q2 q3 lq
    refine (HX.out _).mono ?_
    rintro e w6 ⟨rfl, hb6⟩
    have E6 := hidden (E5.out.trans (hb6.mono E5.out.size))
    obtain ⟨y0, y1, y2, y3⟩ := QY.out.later hb6 (Nat.le_refl _)
    have QZ6 := hidden (QZ.out.later hb6 (Nat.le_refl _))
    have QW6 := hidden (QW.out.later hb6 (Nat.le_refl _))
    clear hb6
    go_wp2_with fail
    refine (HY.out _).mono ?_
    rintro e w7 ⟨rfl, hb7⟩
    have E7 := hidden (E6.out.trans (hb7.mono E6.out.size))
    obtain ⟨z0, z1, z2, z3⟩ := QZ6.out.later hb7 (Nat.le_refl _)
    have QW7 := hidden (QW6.out.later hb7 (Nat.le_refl _))
    clear hb7 y0 y1 y2 y3
    go_wp2_with fail
    refine (HZ.out _).mono ?_
    rintro e w8 ⟨rfl, hb8⟩
    have E8 := hidden (E7.out.trans (hb8.mono E7.out.size))
    have B8 := hidden (B4.out.trans (E8.out.mono B4.out.size))
    obtain ⟨q0, q1, q2, q3⟩ := QW7.out.later hb8 (Nat.le_refl _)
    clear hb8 z0 z1 z2 z3
    rcases hlast.out with ⟨rfl, hm1, hm3⟩ | ⟨hk1, rfl⟩
    · have hpos : 0 < m := by omega
      go_wp2
      go_ret
      exact ⟨by simp, B8.out⟩
    · go_wp2
      go_ret
      exact ⟨by simp [hk1], B8.out⟩

end Go.Proofs.Ytkeakaphafmkdaa
