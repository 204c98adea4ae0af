/- The law FnWordStrict, walked: whatever the code, it answers true, and nothing that was there before has turned. For codes of at most 1048576 bytes, in a world in which the variable holds the names of the kinds, and strconv's two sentinels some errors. -/
import Derived.Test.YtleinjblokepmaaDoorWRSRead
import Derived.Test.YtleinjblokepmaaDoorWRBack
import Derived.Test.YtleinjblokepmaaDoorWRDraw
namespace Go.Proofs.YtleinjblokepmaaDoor
open Go.RowKit

set_option maxHeartbeats 4000000 in
theorem lawStrict_small (vc : Value) (nc : Nat) (w : World) (hc : CodeAt w vc nc) (hcn : nc ≤ 1048576) (hN : Names8 w) (hE : ErrV w) :
    Calls Tryd.prog 4 #[vc] w fun e w' => e = .returned (.bool true) ∧ Below w.heap.size w w' := by
  have HD := hidden (drawRead_any vc nc w hc hcn)
  have HN := hidden (fun W (hb : Below w.heap.size w W) => (hN.later hb (Nat.le_refl _)).at_)
  have HR : Hid (∀ s W, Below w.heap.size w W → Calls Tryd.prog 10 #[.string s] W fun e w' => RdO s e ∧ Below W.heap.size W w') := fun s W hb => implRead_any s W (hN.later hb (Nat.le_refl _)) (hE.later hb (Nat.le_refl _))
  obtain ⟨ac, cc, rfl, _⟩ := hc
  have hci : (nc : Int) ≤ 1048576 := by omega
  clear hcn hN hE
  go_enter Tryd.func4, Tryd.ntmps4
  go_wp2_with fail
  refine HD.out.mono ?_
  rintro e w1 ⟨s, rfl, -, hb1⟩
  have B1 := hidden hb1
  clear hb1 HD
  have HS := hidden (specRead_any s)
  go_wp2_with fail
  refine (HS.out _).mono ?_
  rintro e w2 ⟨⟨k, h, t, m, b, rfl, hr⟩, hb2⟩
  have B2 := hidden (B1.out.trans (hb2.mono B1.out.size))
  have R2 := hidden hr
  clear hb2 hr HS
  obtain ⟨w3, hw3⟩ : ∃ W, Hid (W = w2.alloc (.cells #[.int .i64 k, .int .i64 h, .int .i64 t, .int .i64 m] 24)) := ⟨_, rfl⟩
  have B3 : Hid (Below w.heap.size w w3) := by show Below _ _ _; rw [hw3.out]; exact B2.out.alloc (B2.out.size) _
  have Q3 : Hid (Quad w3 w2.heap.size (.int .i64 k) (.int .i64 h) (.int .i64 t) (.int .i64 m)) := by show Quad _ _ _ _ _ _; rw [hw3.out]; exact Quad.new _ _ _ _ _ _
  go_wp2_with fail
  rw [← hw3.out]
  refine (HR.out _ _ B3.out).mono ?_
  rintro e w4 ⟨⟨k', h', t', m', b', rfl, hr⟩, hb4⟩
  obtain ⟨rfl, rfl, rfl, rfl, rfl⟩ := R2.out.one hr
  have B4 := hidden (B3.out.trans (hb4.mono B3.out.size))
  have Q4 := hidden (Q3.out.later hb4 (Nat.le_refl _))
  clear hb4 hr HR
  obtain ⟨w5, hw5⟩ : ∃ W, Hid (W = w4.alloc (.cells #[.int .i64 k, .int .i64 h, .int .i64 t, .int .i64 m] 24)) := ⟨_, rfl⟩
  have B5 : Hid (Below w.heap.size w w5) := by show Below _ _ _; rw [hw5.out]; exact B4.out.alloc (B4.out.size) _
  have P5 : Hid (Quad w5 w4.heap.size (.int .i64 k) (.int .i64 h) (.int .i64 t) (.int .i64 m)) := by show Quad _ _ _ _ _ _; rw [hw5.out]; exact Quad.new _ _ _ _ _ _
  obtain ⟨q0, q1, q2, q3⟩ := Q4.out
  have q0b := fun o => cellA2 q0 o
  have q1b := fun o => cellA2 q1 o
  have q2b := fun o => cellA2 q2 o
  have q3b := fun o => cellA2 q3 o
  cases b
  · go_wp2
    go_ret
    exact ⟨rfl, by rw [← hw5.out]; exact B5.out⟩
  · obtain ⟨e1, e2⟩ : Pl.wOk k h t m = true ∧ Pl.wTxt k h t m = s := by
      rcases R2.out with ⟨_, a, b⟩ | ⟨a, _⟩
      · exact ⟨a, b⟩
      · cases a
    have HOK := hidden (implWordOk_any k h t m)
    have HIM := hidden (implText_any k h t m)
    rw [e1] at HOK
    rw [e2] at HIM
    clear e1 e2 R2
    go_wp2_with fail
    rw [← hw5.out]
    refine (HOK.out _).mono ?_
    rintro e w6 ⟨rfl, hb6⟩
    have B6 := hidden (B5.out.trans (hb6.mono B5.out.size))
    have P6 := hidden (P5.out.later hb6 (Nat.le_refl _))
    clear hb6 q0 q1 q2 q3 q0b q1b q2b q3b
    obtain ⟨p0, p1, p2, p3⟩ := P6.out
    go_wp2_with fail
    refine (HIM.out _ (HN.out _ B6.out)).mono ?_
    rintro e w7 ⟨rfl, hb7⟩
    have B7 := hidden (B6.out.trans (hb7.mono B6.out.size))
    clear hb7
    go_wp2
    go_ret
    exact ⟨rfl, B7.out⟩

end Go.Proofs.YtleinjblokepmaaDoor
