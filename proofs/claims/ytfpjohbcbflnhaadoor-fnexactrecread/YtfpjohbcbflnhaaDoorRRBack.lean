/- The law FnRecBack, walked: whatever the code, it answers true, and nothing that was there before has turned. For codes of at most 1048576 bytes, in a world in which the listed variables hold what they hold at the start. -/
import Derived.Test.YtfpjohbcbflnhaaDoorRRRead
import Derived.Test.YtfpjohbcbflnhaaDoorEDraw
namespace Go.Proofs.YtfpjohbcbflnhaaDoor
open Go.RowKit

theorem emptyR : (⟨#[]⟩ : ByteArray).toList.isEmpty = true := by rw [ByteArray.toList_eq]; rfl
theorem full_neR {T : ByteArray} (h : T ≠ ⟨#[]⟩) : T.toList.isEmpty = false := by
  cases e : T.toList.isEmpty with
  | false => rfl
  | true =>
    exfalso
    apply h
    rw [ByteArray.toList_eq] at e
    have h1 : T.data.toList = [] := by simpa using e
    exact ByteArray.ext (Array.toList_inj.1 h1)
theorem cellA3 {w : World} {b o : Nat} {v : Value} (h : w.cell? ⟨b, o, none⟩ = some v) (x : Obj) : (w.alloc x).cell? ⟨b, o, none⟩ = some v := by
  have hl := World.block_lt_of_cell? _ _ h
  rw [← h]
  exact ((Below.refl w.heap.size w).alloc (Nat.le_refl _) x).cell (p := ⟨b, o, none⟩) hl
theorem fresh_formR {W : World} {lo : Nat} {v : Value} {zs : List Int} {cap : Nat} (h : Fresh W lo v zs cap) : ∃ g off, v = .slice (some ⟨g, off, none⟩) zs.length cap := by
  obtain ⟨g, off, _, h, _⟩ := h
  exact ⟨g, off, h⟩
theorem rTxt_full {k t : Int} {zs : List Int} (e : Pl.recOk k t zs = true) : Pl.rTxt k t zs ≠ ⟨#[]⟩ ∧ 1 ≤ (Pl.rTxt k t zs).size := by
  have h := Pl.unR_txt e
  have h2 : Pl.rTxt k t zs ≠ ⟨#[]⟩ := fun h0 => by
    rw [h0] at h
    have h3 : Pl.unR ⟨#[]⟩ = (7, -48, []) := by decide
    rw [h3] at h
    have := (Pl.recOk_nums e).2.1.1
    simp only [Prod.mk.injEq] at h
    omega
  refine ⟨h2, ?_⟩
  by_cases h0 : (Pl.rTxt k t zs).size = 0
  · exact absurd (ByteArray.ext (Array.toList_inj.1 (List.length_eq_zero_iff.1 (by simpa using h0)))) h2
  · omega

set_option maxRecDepth 100000 in
set_option maxHeartbeats 4000000 in
theorem lawRecBack_small (vc : Value) (nc : Nat) (a : Addr) (w : World) (hc : CodeAt w vc nc) (hcn : nc ≤ 1048576) (ha : ErrAt w a) (hN : Kinds8 w) (hE : ErrV w) :
    Calls Tryd.prog 3 #[vc] w fun e w' => e = .returned (.bool true) ∧ Below w.heap.size w w' := by
  have HD := hidden (drawRecText_any vc nc w hc hcn)
  have HN := hidden (fun W (hb : Below w.heap.size w W) => (hN.later hb (Nat.le_refl _)).at_)
  have HA := hidden (fun W (hb : Below w.heap.size w W) => ha.later hb (Nat.le_refl _))
  have HR : Hid (∀ s W, Below w.heap.size w W → Calls Tryd.prog 11 #[.string s] W fun e w' => RdRO s W.heap.size e w' ∧ Below W.heap.size W w') := fun s W hb => implRecRead_any s a W (hE.later hb (Nat.le_refl _)) (ha.later hb (Nat.le_refl _)) (hN.later hb (Nat.le_refl _))
  obtain ⟨ac, cc, rfl, _⟩ := hc
  have hci : (nc : Int) ≤ 1048576 := by omega
  clear hcn hN ha hE
  go_enter Tryd.func3, Tryd.ntmps3
  go_wp2_with fail
  refine HD.out.mono ?_
  rintro e w1 ⟨k, t, u, zs, cap, rfl, hz, hf, hb1⟩
  have B1 := hidden hb1
  have I1 := hidden hf.ints
  obtain ⟨g, off, hu⟩ := fresh_formR hf
  clear hb1 hf
  obtain ⟨n, hn⟩ : ∃ n, Hid (zs.length = n) := ⟨_, rfl⟩
  rw [hn.out] at hu
  subst hu
  obtain ⟨w2, hw2⟩ : ∃ W, Hid (W = w1.alloc (.cells #[.int .i64 k, .int .i64 t, .slice (some ⟨g, off, none⟩) n cap] 25)) := ⟨_, rfl⟩
  have B2 : Hid (Below w.heap.size w w2) := by show Below _ _ _; rw [hw2.out]; exact B1.out.alloc (B1.out.size) _
  have Q2 : Hid (RecAt w2 w1.heap.size k t (.slice (some ⟨g, off, none⟩) n cap)) := by show RecAt _ _ _ _ _; rw [hw2.out]; exact RecAt.new _ _ _ _ _
  have I2 : Hid (Ints w2 (.slice (some ⟨g, off, none⟩) n cap) zs) := by show Ints _ _ _; rw [hw2.out]; exact I1.out.later (alloc_below _ _) (Nat.le_refl _)
  have hz2 : zs.length ≤ 1048576 := by omega
  have HZ := hidden hz2
  clear hz hz2
  obtain ⟨T, hT⟩ : ∃ x, Hid (Pl.rTxt k t zs = x) := ⟨_, rfl⟩
  have HSP := hidden (fun W (h : Below w2.heap.size w2 W) => specRecText_any k t _ zs W (I2.out.later h (Nat.le_refl _)) HZ.out)
  have HIM := hidden (fun W (h : Below w2.heap.size w2 W) => implRecText_any k t _ zs a W (I2.out.later h (Nat.le_refl _)) HZ.out)
  have HOK := hidden (fun W (h : Below w2.heap.size w2 W) => implOk_any k t _ zs a W (I2.out.later h (Nat.le_refl _)) HZ.out)
  simp only [hT.out] at HSP HIM
  have D2 : Hid (Below w2.heap.size w2 w2) := Below.refl _ _
  go_wp2_with fail
  rw [← hw2.out]
  refine (HIM.out _ D2.out (HA.out _ B2.out) (HN.out _ B2.out)).mono ?_
  rintro e w3 ⟨rfl, hb3⟩
  have B3 := hidden (B2.out.trans (hb3.mono B2.out.size))
  have D3 := hidden (D2.out.trans (hb3.mono D2.out.size))
  have Q3 := hidden (Q2.out.later hb3 (Nat.le_refl _))
  clear hb3
  obtain ⟨q0, q1, q2⟩ := Q3.out
  go_wp2_with fail
  refine (HSP.out _ D3.out).mono ?_
  rintro e w4 ⟨rfl, hb4⟩
  have B4 := hidden (B3.out.trans (hb4.mono B3.out.size))
  have D4 := hidden (D3.out.trans (hb4.mono D3.out.size))
  have Q4 := hidden (Q3.out.later hb4 (Nat.le_refl _))
  clear hb4 q0 q1 q2
  obtain ⟨q0, q1, q2⟩ := Q4.out
  cases e1 : Pl.recOk k t zs
  · obtain rfl : T = ⟨#[]⟩ := by rw [← hT.out, Pl.rTxt_no e1]
    have em := emptyR
    clear e1
    go_wp2_with fail
    refine (HSP.out _ D4.out).mono ?_
    rintro e w5 ⟨rfl, hb5⟩
    have B5 := hidden (B4.out.trans (hb5.mono B4.out.size))
    clear hb5 q0 q1 q2
    go_wp2
    go_ret
    exact ⟨rfl, B5.out⟩
  · have hne : T ≠ ⟨#[]⟩ := by rw [← hT.out]; exact (rTxt_full e1).1
    have em := full_neR hne
    simp only [e1] at HOK
    have RT := hidden (show Pl.RdR T k t zs true from .inl ⟨rfl, e1, hT.out⟩)
    clear hne e1
    go_wp2_with fail
    refine (HR.out _ _ B4.out).mono ?_
    rintro e w5 ⟨⟨k', t', ys, b', v, rfl, hr, ho⟩, hb5⟩
    obtain ⟨rfl, rfl, rfl, rfl⟩ := RT.out.one hr
    obtain ⟨av, cv, rfl⟩ := row_shape ho
    have J5 := hidden (ints_of_any ho)
    have B5 := hidden (B4.out.trans (hb5.mono B4.out.size))
    have D5 := hidden (D4.out.trans (hb5.mono D4.out.size))
    have Q5 := hidden (Q4.out.later hb5 (Nat.le_refl _))
    clear hb5 hr q0 q1 q2 RT ho
    rw [hn.out] at J5 ⊢
    obtain ⟨w6, hw6⟩ : ∃ W, Hid (W = w5.alloc (.cells #[.int .i64 k, .int .i64 t, .slice av n cv] 25)) := ⟨_, rfl⟩
    have B6 : Hid (Below w.heap.size w w6) := by show Below _ _ _; rw [hw6.out]; exact B5.out.alloc (B5.out.size) _
    have D6 : Hid (Below w2.heap.size w2 w6) := by show Below _ _ _; rw [hw6.out]; exact D5.out.alloc (D5.out.size) _
    have J6 : Hid (Ints w6 (.slice av n cv) zs) := by show Ints _ _ _; rw [hw6.out]; exact J5.out.later (alloc_below _ _) (Nat.le_refl _)
    have Q6 : Hid (RecAt w6 w1.heap.size k t (.slice (some ⟨g, off, none⟩) n cap)) := by show RecAt _ _ _ _ _; rw [hw6.out]; exact Q5.out.later (alloc_below _ _) (Nat.le_refl _)
    have LN := hidden (lnRec_any k t (.slice av n cv) (.slice (some ⟨g, off, none⟩) n cap) zs w6 J6.out (I2.out.later D6.out (Nat.le_refl _)) HZ.out)
    obtain ⟨q0, q1, q2⟩ := Q5.out
    have q0b := fun o => cellA3 q0 o
    have q1b := fun o => cellA3 q1 o
    have q2b := fun o => cellA3 q2 o
    go_wp2_with fail
    rw [← hw6.out]
    refine LN.out.mono ?_
    rintro e w7 ⟨rfl, hb7⟩
    have B7 := hidden (B6.out.trans (hb7.mono B6.out.size))
    have D7 := hidden (D6.out.trans (hb7.mono D6.out.size))
    have Q7 := hidden (Q6.out.later hb7 (Nat.le_refl _))
    clear hb7 q0 q1 q2 q0b q1b q2b
    obtain ⟨q0, q1, q2⟩ := Q7.out
    go_wp2_with fail
    refine (HOK.out _ D7.out (HA.out _ B7.out)).mono ?_
    rintro e w8 ⟨rfl, hb8⟩
    have B8 := hidden (B7.out.trans (hb8.mono B7.out.size))
    clear hb8
    go_wp2
    go_ret
    exact ⟨rfl, B8.out⟩

end Go.Proofs.YtfpjohbcbflnhaaDoor
