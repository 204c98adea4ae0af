/- The law FnWordBack, walked: whatever the code, it answers true, and nothing that was there before has turned. For codes of at most 1048576 bytes, in a world in which the variable holds the names of the kinds, and strconv's two sentinels some errors. -/
import Derived.Test.YtleinjblokepmaaDoorWRRead
import Derived.Test.YtleinjblokepmaaDoorWDraw
namespace Go.Proofs.YtleinjblokepmaaDoor
open Go.RowKit

theorem cellA2 {w : World} {b o : Nat} {v : Value} (h : w.cell? ⟨b, o, none⟩ = some v) (x : Obj) : (w.alloc x).cell? ⟨b, o, none⟩ = some v := by
  have hl := World.block_lt_of_cell? _ _ h
  rw [← h]
  exact ((Below.refl w.heap.size w).alloc (Nat.le_refl _) x).cell (p := ⟨b, o, none⟩) hl

theorem emptyS : (⟨#[]⟩ : ByteArray).toList.isEmpty = true := by rw [ByteArray.toList_eq]; rfl
theorem full_ne {T : ByteArray} (h : T ≠ ⟨#[]⟩) : T.toList.isEmpty = false := by
  cases e : T.toList.isEmpty with
  | false => rfl
  | true =>
    exfalso
    apply h
    rw [ByteArray.toList_eq] at e
    have h1 : T.data.toList = [] := by simpa using e
    exact ByteArray.ext (Array.toList_inj.1 h1)

set_option maxHeartbeats 4000000 in
theorem lawBack_small (vc : Value) (nc : Nat) (w : World) (hc : CodeAt w vc nc) (hcn : nc ≤ 1048576) (hN : Names8 w) (hE : ErrV w) :
    Calls Tryd.prog 3 #[vc] w fun e w' => e = .returned (.bool true) ∧ Below w.heap.size w w' := by
  have HD := hidden (drawWordText_any vc nc w hc hcn)
  have HN := hidden (fun W (hb : Below w.heap.size w W) => (hN.later hb (Nat.le_refl _)).at_)
  have HR : Hid (∀ s W, Below w.heap.size w W → Calls Tryd.prog 10 #[.string s] W fun e w' => RdO s e ∧ Below W.heap.size W w') := fun s W hb => implRead_any s W (hN.later hb (Nat.le_refl _)) (hE.later hb (Nat.le_refl _))
  obtain ⟨ac, cc, rfl, _⟩ := hc
  have hci : (nc : Int) ≤ 1048576 := by omega
  clear hcn hN hE
  go_enter Tryd.func3, Tryd.ntmps3
  go_wp2_with fail
  refine HD.out.mono ?_
  rintro e w1 ⟨k, h, t, m, rfl, -, hb1⟩
  have B1 := hidden hb1
  clear hb1
  obtain ⟨w2, hw2⟩ : ∃ W, Hid (W = w1.alloc (.cells #[.int .i64 k, .int .i64 h, .int .i64 t, .int .i64 m] 24)) := ⟨_, rfl⟩
  have B2 : Hid (Below w.heap.size w w2) := by show Below _ _ _; rw [hw2.out]; exact B1.out.alloc (B1.out.size) _
  have Q2 : Hid (Quad w2 w1.heap.size (.int .i64 k) (.int .i64 h) (.int .i64 t) (.int .i64 m)) := by show Quad _ _ _ _ _ _; rw [hw2.out]; exact Quad.new _ _ _ _ _ _
  obtain ⟨T, hT⟩ : ∃ x, Hid (Pl.wTxt k h t m = x) := ⟨_, rfl⟩
  have HSP := hidden (specText_any k h t m)
  have HIM := hidden (implText_any k h t m)
  have HOK := hidden (implWordOk_any k h t m)
  rw [hT.out] at HSP HIM
  go_wp2_with fail
  rw [← hw2.out]
  refine (HIM.out _ (HN.out _ B2.out)).mono ?_
  rintro e w3 ⟨rfl, hb3⟩
  have B3 := hidden (B2.out.trans (hb3.mono B2.out.size))
  have Q3 := hidden (Q2.out.later hb3 (Nat.le_refl _))
  clear hb3
  obtain ⟨q0, q1, q2, q3⟩ := Q3.out
  go_wp2_with fail
  refine (HSP.out _).mono ?_
  rintro e w4 ⟨rfl, hb4⟩
  have B4 := hidden (B3.out.trans (hb4.mono B3.out.size))
  have Q4 := hidden (Q3.out.later hb4 (Nat.le_refl _))
  clear hb4 q0 q1 q2 q3
  obtain ⟨q0, q1, q2, q3⟩ := Q4.out
  cases e1 : Pl.wOk k h t m
  · obtain rfl : T = ⟨#[]⟩ := by rw [← hT.out, Pl.wTxt_no e1]
    have em := emptyS
    clear e1
    go_wp2_with fail
    refine (HSP.out _).mono ?_
    rintro e w5 ⟨rfl, hb5⟩
    have B5 := hidden (B4.out.trans (hb5.mono B4.out.size))
    clear hb5 q0 q1 q2 q3
    go_wp2
    go_ret
    exact ⟨rfl, B5.out⟩
  · have hne : T ≠ ⟨#[]⟩ := by rw [← hT.out]; exact Pl.wTxt_empty e1
    have em := full_ne hne
    rw [e1] at HOK
    have RT := hidden (show Pl.RdW T k h t m true from .inl ⟨rfl, e1, hT.out⟩)
    clear hne e1
    go_wp2_with fail
    refine (HR.out _ _ B4.out).mono ?_
    rintro e w5 ⟨⟨k', h', t', m', b', rfl, hr⟩, hb5⟩
    obtain ⟨rfl, rfl, rfl, rfl, rfl⟩ := RT.out.one hr
    have B5 := hidden (B4.out.trans (hb5.mono B4.out.size))
    have Q5 := hidden (Q4.out.later hb5 (Nat.le_refl _))
    clear hb5 hr q0 q1 q2 q3 RT
    obtain ⟨w6, hw6⟩ : ∃ W, Hid (W = w5.alloc (.cells #[.int .i64 k, .int .i64 h, .int .i64 t, .int .i64 m] 24)) := ⟨_, rfl⟩
    have B6 : Hid (Below w.heap.size w w6) := by show Below _ _ _; rw [hw6.out]; exact B5.out.alloc (B5.out.size) _
    obtain ⟨q0, q1, q2, q3⟩ := Q5.out
    have q0a := fun o p => cellA2 (cellA2 q0 o) p
    have q0b := fun o => cellA2 q0 o
    have q1b := fun o => cellA2 q1 o
    have q2b := fun o => cellA2 q2 o
    have q3b := fun o => cellA2 q3 o
    go_wp2_with fail
    rw [← hw6.out]
    refine (HOK.out _).mono ?_
    rintro e w7 ⟨rfl, hb7⟩
    have B7 := hidden (B6.out.trans (hb7.mono B6.out.size))
    clear hb7
    go_wp2
    go_ret
    exact ⟨rfl, B7.out⟩

end Go.Proofs.YtleinjblokepmaaDoor
