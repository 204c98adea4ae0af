/- FnLogAdd answers true whatever the code, and it reads afterwards as it read before: promise 5 at every drawn log. The card: the sentinel's variable starts as the program's text lays it. -/
import Derived.Test.YtaogachhmdmoaaaDoorBase2

namespace Go.Proofs.YtaogachhmdmoaaaDoor
open Go.RowKit

set_option maxRecDepth 100000 in
set_option maxHeartbeats 8000000 in
theorem lawP5_small (vc : Value) (nc : Nat) (a : Addr) (w : World) (hc : CodeAt w vc nc) (hnc : nc ≤ 1048576) (ha : ErrAt w a) :
    Calls Tryd.prog 4 #[vc] w fun e w' => e = .returned (.bool true) ∧ Below w.heap.size w w' := by
  have HA : Hid (∀ W, Below w.heap.size w W → ErrAt W a) := fun W h => ha.later h (Nat.le_refl _)
  have HD := hide_it (drawAdd_any vc nc w hc hnc)
  obtain ⟨ac, cc, rfl, _⟩ := hc
  clear ha
  go_enter Tryd.func4, Tryd.ntmps4
  go_wp2_with fail
  refine HD.out.mono ?_
  rintro e w1 ⟨u, f, rs, k, t, y, zs, rfl, hy, hzl4, hu, hform, htot, hb1⟩
  obtain ⟨au, cu, hus⟩ := hu.shape
  subst hus
  obtain ⟨ay, cy, hys⟩ := hy.shape
  subst hys
  have hl : tot rs ≤ 1048576 := by omega
  have hzl : zs.length ≤ 1048576 := by omega
  obtain ⟨RS, hRS⟩ : ∃ RS, addR rs f (k, t, zs) = RS := ⟨_, rfl⟩
  obtain ⟨F, hF⟩ : ∃ F, addF rs f (k, t, zs) = F := ⟨_, rfl⟩
  obtain ⟨BB, hBB⟩ : ∃ b, addB rs f (k, t, zs) = b := ⟨_, rfl⟩
  have hRl : tot RS ≤ 1048576 := by rw [← hRS]; have := addR_small rs f (k, t, zs) htot hzl4; omega
  have HSP : Hid (∀ (x z : Value) (W : World), Recs W x rs → Ints W z zs → Calls Tryd.prog 11 #[.agg #[x, .int .i64 f], .agg #[.int .i64 k, .int .i64 t, z]] W fun e w' => LogOut2 W w' e RS F BB) := fun x z W h h2 => by rw [← hRS, ← hF, ← hBB]; exact specAdd_any x rs f (k, t, zs) z W h hl h2 hzl
  have HIM : Hid (∀ (x z : Value) (W : World), Recs W x rs → Ints W z zs → ErrAt W a → Calls Tryd.prog 12 #[.agg #[x, .int .i64 f], .agg #[.int .i64 k, .int .i64 t, z]] W fun e w' => LogOut2 W w' e RS F BB) := fun x z W h h2 h3 => by rw [← hRS, ← hF, ← hBB]; exact implAdd_any x rs f (k, t, zs) z a W h hl h2 hzl h3
  have HBB := hide_it hBB
  have HRS := hide_it hRS
  have HF := hide_it hF
  have B1 := hide_it hb1
  have U1 := hide_it hu
  have Y1 := hide_it hy
  have FU := hide_it hform
  clear hb1 hu hy hform hRS hF hBB
  -- l, r
  obtain ⟨w2, hw2⟩ : ∃ W, Hid (W = (w1.alloc (.cells #[.slice au rs.length cu, .int .i64 f] 31)).alloc (.cells #[.int .i64 k, .int .i64 t, .slice ay zs.length cy] 25)) := ⟨_, rfl⟩
  have al2 := hide_it (show Below w1.heap.size w1 w2 by rw [hw2.out]; exact below2 _ _ _)
  have B2 := hide_it (B1.out.trans (al2.out.mono B1.out.size))
  have U2 := hide_it (U1.out.later al2.out (Nat.le_refl _))
  have Y2 := hide_it (Y1.out.later al2.out (Nat.le_refl _))
  have L2 : Hid (Two w2 w1.heap.size (.slice au rs.length cu) (.int .i64 f)) := by show Two _ _ _ _; rw [hw2.out]; exact Two.later (show Two _ _ _ _ from box2 w1 _ _ _) (alloc_below _ _) (Nat.le_refl _)
  have Q2 : Hid (RecAt w2 (w1.heap.size + 1) k t (.slice ay zs.length cy)) := by
    show RecAt _ _ _ _ _
    rw [hw2.out]
    have h := RecAt.new (w1.alloc (.cells #[.slice au rs.length cu, .int .i64 f] 31)) k t (.slice ay zs.length cy) 25
    rw [size1] at h
    exact h
  go_wp2_with fail
  rw [← hw2.out]
  refine (HSP.out _ _ w2 U2.out Y2.out).mono ?_
  rintro e w3 ⟨a3, c3, rfl, hm3, hb3⟩
  -- want
  obtain ⟨w4, hw4⟩ : ∃ W, Hid (W = w3.alloc (.cells #[.slice a3 RS.length c3, .int .i64 F] 31)) := ⟨_, rfl⟩
  have al4 := hide_it (show Below w3.heap.size w3 w4 by rw [hw4.out]; exact alloc_below _ _)
  have N4 := hide_it (hb3.trans (al4.out.mono hb3.size))
  have B4 := hide_it (B2.out.trans (N4.out.mono B2.out.size))
  have U4 := hide_it (U2.out.later N4.out (Nat.le_refl _))
  have Y4 := hide_it (Y2.out.later N4.out (Nat.le_refl _))
  have L4 := hide_it (L2.out.later N4.out (Nat.le_refl _))
  have Q4 := hide_it (Q2.out.later N4.out (Nat.le_refl _))
  have V4 := hide_it (hm3.below al4.out (Nat.le_refl _)).recs
  have W4 : Hid (Two w4 w3.heap.size (.slice a3 RS.length c3) (.int .i64 F)) := by show Two _ _ _ _; rw [hw4.out]; exact box2 w3 _ _ _
  have L3 := L2.out.later hb3 (Nat.le_refl _)
  have Q3 := Q2.out.later hb3 (Nat.le_refl _)
  obtain ⟨l0, l1⟩ := Two.later L3 (alloc_below w3 (.cells #[.slice a3 RS.length c3, .int .i64 F] 31)) (Nat.le_refl _)
  obtain ⟨q0, q1, q2⟩ := Q3.later (alloc_below w3 (.cells #[.slice a3 RS.length c3, .int .i64 F] 31)) (Nat.le_refl _)
  clear hm3 hb3 L3 Q3
  go_wp2_with fail
  rw [← hw4.out]
  clear l0 l1 q0 q1 q2
  refine (HIM.out _ _ w4 U4.out Y4.out (HA.out _ B4.out)).mono ?_
  rintro e w5 ⟨a5, c5, rfl, hm5, hb5⟩
  -- x
  obtain ⟨w6, hw6⟩ : ∃ W, Hid (W = w5.alloc (.cells #[.slice a5 RS.length c5, .int .i64 F] 31)) := ⟨_, rfl⟩
  have al6 := hide_it (show Below w5.heap.size w5 w6 by rw [hw6.out]; exact alloc_below _ _)
  have N6 := hide_it (hb5.trans (al6.out.mono hb5.size))
  have B6 := hide_it (B4.out.trans (N6.out.mono B4.out.size))
  have U6 := hide_it (U4.out.later N6.out (Nat.le_refl _))
  have Y6 := hide_it (Y4.out.later N6.out (Nat.le_refl _))
  have L6 := hide_it (L4.out.later N6.out (Nat.le_refl _))
  have Q6 := hide_it (Q4.out.later N6.out (Nat.le_refl _))
  have V6 := hide_it (V4.out.later N6.out (Nat.le_refl _))
  have W6 := hide_it (W4.out.later N6.out (Nat.le_refl _))
  have M6 := hide_it (hm5.below al6.out (Nat.le_refl _))
  have X6 : Hid (Two w6 w5.heap.size (.slice a5 RS.length c5) (.int .i64 F)) := by show Two _ _ _ _; rw [hw6.out]; exact box2 w5 _ _ _
  have FX := hide_it M6.out.form'
  have R6 := hide_it M6.out.recs
  have W5 := W4.out.later hb5 (Nat.le_refl _)
  obtain ⟨v0, v1⟩ := Two.later W5 (alloc_below w5 (.cells #[.slice a5 RS.length c5, .int .i64 F] 31)) (Nat.le_refl _)
  clear hm5 hb5 W5
  go_wp2_with fail
  rw [← hw6.out]
  clear v0 v1
  obtain ⟨BO, HBO⟩ : ∃ b, Hid (logOk rs f = b) := ⟨_, rfl⟩
  obtain ⟨BR, HBR⟩ : ∃ b, Hid (rOk (k, t, zs) = b) := ⟨_, rfl⟩
  have SLO : Hid (∀ v W, Recs W v rs → Calls Tryd.prog 14 #[.agg #[v, .int .i64 f]] W fun e w' => e = .returned (.bool BO) ∧ Below W.heap.size W w') := fun v W h => by
    have := specLogOk_any v rs f W h hl; rw [HBO.out] at this; exact this
  have SRO : Hid (∀ v W, Ints W v zs → Calls Tryd.prog 9 #[.agg #[.int .i64 k, .int .i64 t, v]] W fun e w' => e = .returned (.bool BR) ∧ Below W.heap.size W w') := fun v W h => by
    have := specOk_any k t v zs W h hzl; rw [show Pl.recOk k t zs = BR from HBR.out] at this; exact this
  obtain ⟨l0, l1⟩ := L6.out
  refine (lnLog_any _ _ RS F _ R6.out V6.out hRl).mono ?_
  rintro e w7 ⟨rfl, hb⟩
  clear l0 l1
  replace U6 := hide_it (U6.out.later hb (Nat.le_refl _))
  replace Y6 := hide_it (Y6.out.later hb (Nat.le_refl _))
  replace L6 := hide_it (L6.out.later hb (Nat.le_refl _))
  replace Q6 := hide_it (Q6.out.later hb (Nat.le_refl _))
  replace V6 := hide_it (V6.out.later hb (Nat.le_refl _))
  replace W6 := hide_it (W6.out.later hb (Nat.le_refl _))
  replace X6 := hide_it (X6.out.later hb (Nat.le_refl _))
  replace R6 := hide_it (R6.out.later hb (Nat.le_refl _))
  replace B6 := hide_it (B6.out.trans (hb.mono B6.out.size))
  clear hb
  obtain ⟨l0, l1⟩ := L6.out
  go_wp2_with fail
  refine (SLO.out _ _ U6.out).mono ?_
  rintro e w8 ⟨rfl, hb⟩
  clear l0 l1
  replace U6 := hide_it (U6.out.later hb (Nat.le_refl _))
  replace Y6 := hide_it (Y6.out.later hb (Nat.le_refl _))
  replace L6 := hide_it (L6.out.later hb (Nat.le_refl _))
  replace Q6 := hide_it (Q6.out.later hb (Nat.le_refl _))
  replace V6 := hide_it (V6.out.later hb (Nat.le_refl _))
  replace W6 := hide_it (W6.out.later hb (Nat.le_refl _))
  replace X6 := hide_it (X6.out.later hb (Nat.le_refl _))
  replace R6 := hide_it (R6.out.later hb (Nat.le_refl _))
  replace B6 := hide_it (B6.out.trans (hb.mono B6.out.size))
  clear hb
  cases BO
  · obtain rfl : BB = false := by have := HBB.out; unfold addB addOk at this; rw [HBO.out] at this; simpa using this.symm
    obtain ⟨x0, x1⟩ := X6.out
    obtain ⟨v0, v1⟩ := W6.out
    go_wp2_with fail
    refine (lnLog_any _ _ RS F _ R6.out V6.out hRl).mono ?_
    rintro e w9 ⟨rfl, hb⟩
    clear x0 x1 v0 v1
    replace U6 := hide_it (U6.out.later hb (Nat.le_refl _))
    replace Y6 := hide_it (Y6.out.later hb (Nat.le_refl _))
    replace L6 := hide_it (L6.out.later hb (Nat.le_refl _))
    replace Q6 := hide_it (Q6.out.later hb (Nat.le_refl _))
    replace V6 := hide_it (V6.out.later hb (Nat.le_refl _))
    replace W6 := hide_it (W6.out.later hb (Nat.le_refl _))
    replace X6 := hide_it (X6.out.later hb (Nat.le_refl _))
    replace R6 := hide_it (R6.out.later hb (Nat.le_refl _))
    replace B6 := hide_it (B6.out.trans (hb.mono B6.out.size))
    clear hb
    go_wp2
    go_ret
    exact ⟨rfl, B6.out⟩
  · skip
    obtain ⟨q0, q1, q2⟩ := Q6.out
    go_wp2_with fail
    refine (SRO.out _ _ Y6.out).mono ?_
    rintro e w9 ⟨rfl, hb⟩
    clear q0 q1 q2
    replace U6 := hide_it (U6.out.later hb (Nat.le_refl _))
    replace Y6 := hide_it (Y6.out.later hb (Nat.le_refl _))
    replace L6 := hide_it (L6.out.later hb (Nat.le_refl _))
    replace Q6 := hide_it (Q6.out.later hb (Nat.le_refl _))
    replace V6 := hide_it (V6.out.later hb (Nat.le_refl _))
    replace W6 := hide_it (W6.out.later hb (Nat.le_refl _))
    replace X6 := hide_it (X6.out.later hb (Nat.le_refl _))
    replace R6 := hide_it (R6.out.later hb (Nat.le_refl _))
    replace B6 := hide_it (B6.out.trans (hb.mono B6.out.size))
    clear hb
    cases BR
    · obtain rfl : BB = false := by have := HBB.out; unfold addB addOk at this; rw [HBR.out] at this; simpa using this.symm
      obtain ⟨x0, x1⟩ := X6.out
      obtain ⟨v0, v1⟩ := W6.out
      go_wp2_with fail
      refine (lnLog_any _ _ RS F _ R6.out V6.out hRl).mono ?_
      rintro e w10 ⟨rfl, hb⟩
      clear x0 x1 v0 v1
      replace U6 := hide_it (U6.out.later hb (Nat.le_refl _))
      replace Y6 := hide_it (Y6.out.later hb (Nat.le_refl _))
      replace L6 := hide_it (L6.out.later hb (Nat.le_refl _))
      replace Q6 := hide_it (Q6.out.later hb (Nat.le_refl _))
      replace V6 := hide_it (V6.out.later hb (Nat.le_refl _))
      replace W6 := hide_it (W6.out.later hb (Nat.le_refl _))
      replace X6 := hide_it (X6.out.later hb (Nat.le_refl _))
      replace R6 := hide_it (R6.out.later hb (Nat.le_refl _))
      replace B6 := hide_it (B6.out.trans (hb.mono B6.out.size))
      clear hb
      go_wp2
      go_ret
      exact ⟨rfl, B6.out⟩
    · skip
      cases BB
      · skip
        have hfull : rs.length = 40 := by have := HBB.out; unfold addB addOk at this; rw [HBO.out, HBR.out] at this; simpa using this
        have e1 : RS = rs ∧ F = f := by rw [← HRS.out, ← HF.out]; constructor <;> simp [addR, addF, addOk, HBO.out, HBR.out, hfull]
        have hfz : ((rs.length : Int) == 40) = true := by rw [hfull]; rfl
        obtain ⟨e1, e2⟩ := e1
        subst e1 e2
        clear hfull
        obtain ⟨x0, x1⟩ := X6.out
        obtain ⟨l0, l1⟩ := L6.out
        go_wp2_with fail
        refine (lnLog_any _ _ RS F _ R6.out U6.out hRl).mono ?_
        rintro e w10 ⟨rfl, hb⟩
        clear x0 x1 l0 l1
        replace U6 := hide_it (U6.out.later hb (Nat.le_refl _))
        replace Y6 := hide_it (Y6.out.later hb (Nat.le_refl _))
        replace L6 := hide_it (L6.out.later hb (Nat.le_refl _))
        replace Q6 := hide_it (Q6.out.later hb (Nat.le_refl _))
        replace V6 := hide_it (V6.out.later hb (Nat.le_refl _))
        replace W6 := hide_it (W6.out.later hb (Nat.le_refl _))
        replace X6 := hide_it (X6.out.later hb (Nat.le_refl _))
        replace R6 := hide_it (R6.out.later hb (Nat.le_refl _))
        replace B6 := hide_it (B6.out.trans (hb.mono B6.out.size))
        clear hb
        go_wp2
        go_ret
        exact ⟨rfl, B6.out⟩
      · skip
        obtain ⟨hok, hrk, hn40⟩ := addB_parts HBB.out
        obtain ⟨hf0, hfn, h40⟩ := logOk_f hok
        have e1 := addR_yes HBB.out
        obtain rfl : RS = rs ++ [(k, t, zs)] := by rw [← HRS.out]; exact e1.1
        obtain rfl : F = f := by rw [← HF.out]; exact e1.2
        have hok2 := logOk_more HBB.out
        have hLn : (rs ++ [(k, t, zs)]).length = rs.length + 1 := by simp
        have HLn := hide_it hLn
        rw [hLn] at X6 R6 FX ⊢
        obtain ⟨b, off, uu, hsl, hRC⟩ : ∃ b off uu, a5 = some ⟨b, off, none⟩ ∧ RecCells w9 b (off + rs.length * 3) (k, t, zs) uu := by
          rcases R6.out with ⟨h, _⟩ | ⟨b, off, cap, hv, _, hcs⟩
          · simp at h
          · simp only [Value.slice.injEq] at hv
            obtain ⟨uu, hu⟩ := hcs rs.length (k, t, zs) (by rw [List.getElem?_append_right (Nat.le_refl _)]; simp)
            exact ⟨b, off, uu, hv.1, hu⟩
        subst hsl
        obtain ⟨au2, cu2, hus2⟩ := hRC.2.2.2.shape
        subst hus2
        have EB := hide_it hRC
        have hn40i : (rs.length : Int) < 40 := by omega
        have hw1 : IntKind.i64.wrap ((rs.length : Int) + 1) = (rs.length : Int) + 1 := by simp [IntKind.wrap, IntKind.bits, IntKind.signed]; omega
        have RT : Hid (Recs w9 (.slice (some ⟨b, off, none⟩) rs.length c5) rs) := by
          have h0 : Recs w9 (.slice (some ⟨b, off, none⟩) (rs ++ [(k, t, zs)]).length c5) (rs ++ [(k, t, zs)]) := by rw [HLn.out]; exact R6.out
          have := h0.take (N := rs.length) (by rw [HLn.out]; omega)
          rwa [List.take_left'] at this; rfl
        have hidx : (rs.length : Int) < (rs.length : Int) + 1 := by omega
        have hw3 : IntKind.i64.wrap (rs.length : Int) = (rs.length : Int) := by simp [IntKind.wrap, IntKind.bits, IntKind.signed]; omega
        have hNc : (rs.length : Int) ≤ (c5 : Int) := by
          rcases FX.out with ⟨h, _⟩ | ⟨g, cp, h, hc⟩
          · simp at h
          · simp only [Value.slice.injEq] at h; omega
        have IOK : Hid (∀ W, Recs W (.slice (some ⟨b, off, none⟩) (rs.length + 1) c5) (rs ++ [(k, t, zs)]) → ErrAt W a → Calls Tryd.prog 17 #[.agg #[.slice (some ⟨b, off, none⟩) (rs.length + 1) c5, .int .i64 F]] W fun e w' => e = .returned (.bool true) ∧ Below W.heap.size W w') := fun W h h2 => by
          have := implLogOk_any _ _ F a W h hRl h2; rw [hok2] at this; exact this
        clear hRC hLn hok2 e1 hok hrk hf0 hfn h40 hn40
        obtain ⟨x0, x1⟩ := X6.out
        obtain ⟨l0, l1⟩ := L6.out
        obtain ⟨q0, q1, q2⟩ := Q6.out
        obtain ⟨e0, e1, e2, e3⟩ := EB.out
        have I3 := hide_it e3
        clear e3
        go_wp2_with fail
        have KB : Hid (∀ W, Below w9.heap.size w9 W → (W.cell? ⟨w5.heap.size, 0, none⟩ = some (.slice (some ⟨b, off, none⟩) (rs.length + 1) c5) ∧ W.cell? ⟨w5.heap.size, 1, none⟩ = some (.int .i64 F)) ∧ (W.cell? ⟨w1.heap.size, 0, none⟩ = some (.slice au rs.length cu) ∧ W.cell? ⟨w1.heap.size, 1, none⟩ = some (.int .i64 F)) ∧ (W.cell? ⟨w1.heap.size + 1, 0, none⟩ = some (.int .i64 k) ∧ W.cell? ⟨w1.heap.size + 1, 1, none⟩ = some (.int .i64 t) ∧ W.cell? ⟨w1.heap.size + 1, 2, none⟩ = some (.slice ay zs.length cy)) ∧ (W.cell? ⟨b, off + rs.length * 3, none⟩ = some (.int .i64 k) ∧ W.cell? ⟨b, off + rs.length * 3 + 1, none⟩ = some (.int .i64 t) ∧ W.cell? ⟨b, off + rs.length * 3 + 2, none⟩ = some (.slice au2 zs.length cu2))) := fun W hb => ⟨(X6.out.later hb (Nat.le_refl _)), (L6.out.later hb (Nat.le_refl _)), (Q6.out.later hb (Nat.le_refl _)), ⟨(EB.out.later hb (Nat.le_refl _)).1, (EB.out.later hb (Nat.le_refl _)).2.1, (EB.out.later hb (Nat.le_refl _)).2.2.1⟩⟩
        clear x0 x1 l0 l1 q0 q1 q2 e0 e1 e2
        have LB : Hid (Below w9.heap.size w9 w9) := Below.refl _ _
        have hdr : Below w9.heap.size w9 w9.drew := (Below.refl _ _).drew
        replace U6 := hide_it (U6.out.later hdr (Nat.le_refl _))
        replace Y6 := hide_it (Y6.out.later hdr (Nat.le_refl _))
        replace L6 := hide_it (L6.out.later hdr (Nat.le_refl _))
        replace Q6 := hide_it (Q6.out.later hdr (Nat.le_refl _))
        replace V6 := hide_it (V6.out.later hdr (Nat.le_refl _))
        replace W6 := hide_it (W6.out.later hdr (Nat.le_refl _))
        replace X6 := hide_it (X6.out.later hdr (Nat.le_refl _))
        replace R6 := hide_it (R6.out.later hdr (Nat.le_refl _))
        replace B6 := hide_it (B6.out.trans (hdr.mono B6.out.size))
        replace EB := hide_it (EB.out.later hdr (Nat.le_refl _))
        replace RT := hide_it (RT.out.later hdr (Nat.le_refl _))
        replace I3 := hide_it (I3.out.later hdr (Nat.le_refl _))
        replace LB := hide_it (LB.out.trans (hdr.mono LB.out.size))
        clear hdr
        refine wp_region_held_drew (S := fun w' => (w'.cell? ⟨w5.heap.size, 0, none⟩ = some (.slice (some ⟨b, off, none⟩) (rs.length + 1) c5) ∧ w'.cell? ⟨w5.heap.size, 1, none⟩ = some (.int .i64 F)) ∧ (w'.cell? ⟨w1.heap.size, 0, none⟩ = some (.slice au rs.length cu) ∧ w'.cell? ⟨w1.heap.size, 1, none⟩ = some (.int .i64 F)) ∧ (w'.cell? ⟨w1.heap.size + 1, 0, none⟩ = some (.int .i64 k) ∧ w'.cell? ⟨w1.heap.size + 1, 1, none⟩ = some (.int .i64 t) ∧ w'.cell? ⟨w1.heap.size + 1, 2, none⟩ = some (.slice ay zs.length cy)) ∧ (w'.cell? ⟨b, off + rs.length * 3, none⟩ = some (.int .i64 k) ∧ w'.cell? ⟨b, off + rs.length * 3 + 1, none⟩ = some (.int .i64 t) ∧ w'.cell? ⟨b, off + rs.length * 3 + 2, none⟩ = some (.slice au2 zs.length cu2))) (by kernel_rfl) (KB.out _ (Below.refl _ _).drew) (fun hHeld => ?_)
        refine takeD (i := 0) (v := ?_) (some 69) rfl rfl (by kernel_rfl) (by kernel_rfl) (by kernel_rfl) (fun _ _ _ h => h) (by rfl) hHeld ?_ ?_
        rotate_left
        · intro W hSw
          try dsimp only at hSw
          go_simp
          try with_reducible rfl
        try simp only [Act.put]
        try simp only [List.setIfInBounds_toArray]
        try simp only [List.set_cons_succ]
        try simp only [List.set_cons_zero]
        refine takeD (i := 1) (v := ?_) (some 70) rfl rfl (by kernel_rfl) (by kernel_rfl) (by kernel_rfl) (fun _ _ _ h => h) (by rfl) hHeld ?_ ?_
        rotate_left
        · intro W hSw
          try dsimp only at hSw
          go_simp
          try with_reducible rfl
        try simp only [Act.put]
        try simp only [List.setIfInBounds_toArray]
        try simp only [List.set_cons_succ]
        try simp only [List.set_cons_zero]
        refine takeD (i := 2) (v := ?_) (some 71) rfl rfl (by kernel_rfl) (by kernel_rfl) (by kernel_rfl) (fun _ _ _ h => h) (by rfl) hHeld ?_ ?_
        rotate_left
        · intro W hSw
          try dsimp only at hSw
          go_simp
          try with_reducible rfl
        try simp only [Act.put]
        try simp only [List.setIfInBounds_toArray]
        try simp only [List.set_cons_succ]
        try simp only [List.set_cons_zero]
        refine takeD (i := 3) (v := ?_) (some 72) rfl rfl (by kernel_rfl) (by kernel_rfl) (by kernel_rfl) (fun _ _ _ h => h) (by rfl) hHeld ?_ ?_
        rotate_left
        · intro W hSw
          try dsimp only at hSw
          go_simp
          try with_reducible rfl
        try simp only [Act.put]
        try simp only [List.setIfInBounds_toArray]
        try simp only [List.set_cons_succ]
        try simp only [List.set_cons_zero]
        refine takeD (i := 4) (v := ?_) (some 73) rfl rfl (by kernel_rfl) (by kernel_rfl) (by kernel_rfl) (fun _ _ _ h => h) (by rfl) hHeld ?_ ?_
        rotate_left
        · intro W hSw
          try dsimp only at hSw
          go_simp
          try with_reducible rfl
        try simp only [Act.put]
        try simp only [List.setIfInBounds_toArray]
        try simp only [List.set_cons_succ]
        try simp only [List.set_cons_zero]
        refine takeD (i := 5) (v := ?_) (some 74) rfl rfl (by kernel_rfl) (by kernel_rfl) (by kernel_rfl) (fun _ _ _ h => h) (by rfl) hHeld ?_ ?_
        rotate_left
        · intro W hSw
          try dsimp only at hSw
          go_simp
          try with_reducible rfl
        try simp only [Act.put]
        try simp only [List.setIfInBounds_toArray]
        try simp only [List.set_cons_succ]
        try simp only [List.set_cons_zero]
        refine takeD (i := 6) (v := ?_) (some 75) rfl rfl (by kernel_rfl) (by kernel_rfl) (by kernel_rfl) (fun _ _ _ h => h) (by rfl) hHeld ?_ ?_
        rotate_left
        · intro W hSw
          try dsimp only at hSw
          go_simp
          try with_reducible rfl
        try simp only [Act.put]
        try simp only [List.setIfInBounds_toArray]
        try simp only [List.set_cons_succ]
        try simp only [List.set_cons_zero]
        refine takeD (i := 7) (v := ?_) (some 76) rfl rfl (by kernel_rfl) (by kernel_rfl) (by kernel_rfl) (fun _ _ _ h => h) (by rfl) hHeld ?_ ?_
        rotate_left
        · intro W hSw
          try dsimp only at hSw
          go_simp
          try with_reducible rfl
        try simp only [Act.put]
        try simp only [List.setIfInBounds_toArray]
        try simp only [List.set_cons_succ]
        try simp only [List.set_cons_zero]
        refine takeD (i := 8) (v := ?_) (some 77) rfl rfl (by kernel_rfl) (by kernel_rfl) (by kernel_rfl) (fun _ _ _ h => h) (by rfl) hHeld ?_ ?_
        rotate_left
        · intro W hSw
          try dsimp only at hSw
          go_simp
          try with_reducible rfl
        try simp only [Act.put]
        try simp only [List.setIfInBounds_toArray]
        try simp only [List.set_cons_succ]
        try simp only [List.set_cons_zero]
        refine takeD (i := 9) (v := ?_) (some 78) rfl rfl (by kernel_rfl) (by kernel_rfl) (by kernel_rfl) (fun _ _ _ h => h) (by rfl) hHeld ?_ ?_
        rotate_left
        · intro W hSw
          try dsimp only at hSw
          go_simp
          try with_reducible rfl
        try simp only [Act.put]
        try simp only [List.setIfInBounds_toArray]
        try simp only [List.set_cons_succ]
        try simp only [List.set_cons_zero]
        refine takeD (i := 10) (v := ?_) (some 79) rfl rfl (by kernel_rfl) (by kernel_rfl) (by kernel_rfl) (fun _ _ _ h => h) (by rfl) hHeld ?_ ?_
        rotate_left
        · intro W hSw
          try dsimp only at hSw
          go_simp
          try with_reducible rfl
        try simp only [Act.put]
        try simp only [List.setIfInBounds_toArray]
        try simp only [List.set_cons_succ]
        try simp only [List.set_cons_zero]
        refine takeD (i := 11) (v := ?_) (some 80) rfl rfl (by kernel_rfl) (by kernel_rfl) (by kernel_rfl) (fun _ _ _ h => h) (by rfl) hHeld ?_ ?_
        rotate_left
        · intro W hSw
          try dsimp only at hSw
          go_simp
          try with_reducible rfl
        try simp only [Act.put]
        try simp only [List.setIfInBounds_toArray]
        try simp only [List.set_cons_succ]
        try simp only [List.set_cons_zero]
        refine takeD (i := 12) (v := ?_) (some 81) rfl rfl (by kernel_rfl) (by kernel_rfl) (by kernel_rfl) (fun _ _ _ h => h) (by rfl) hHeld ?_ ?_
        rotate_left
        · intro W hSw
          try dsimp only at hSw
          go_simp
          try with_reducible rfl
        try simp only [Act.put]
        try simp only [List.setIfInBounds_toArray]
        try simp only [List.set_cons_succ]
        try simp only [List.set_cons_zero]
        refine takeD (i := 13) (v := ?_) (some 82) rfl rfl (by kernel_rfl) (by kernel_rfl) (by kernel_rfl) (fun _ _ _ h => h) (by rfl) hHeld ?_ ?_
        rotate_left
        · intro W hSw
          try dsimp only at hSw
          go_simp
          try with_reducible rfl
        try simp only [Act.put]
        try simp only [List.setIfInBounds_toArray]
        try simp only [List.set_cons_succ]
        try simp only [List.set_cons_zero]
        refine takeD (i := 14) (v := ?_) (some 83) rfl rfl (by kernel_rfl) (by kernel_rfl) (by kernel_rfl) (fun _ _ _ h => h) (by rfl) hHeld ?_ ?_
        rotate_left
        · intro W hSw
          try dsimp only at hSw
          go_simp
          try with_reducible rfl
        try simp only [Act.put]
        try simp only [List.setIfInBounds_toArray]
        try simp only [List.set_cons_succ]
        try simp only [List.set_cons_zero]
        refine takeD (i := 15) (v := ?_) (some 84) rfl rfl (by kernel_rfl) (by kernel_rfl) (by kernel_rfl) (fun _ _ _ h => h) (by rfl) hHeld ?_ ?_
        rotate_left
        · intro W hSw
          try dsimp only at hSw
          go_simp
          try with_reducible rfl
        try simp only [Act.put]
        try simp only [List.setIfInBounds_toArray]
        try simp only [List.set_cons_succ]
        try simp only [List.set_cons_zero]
        refine takeD (i := 16) (v := ?_) (some 85) rfl rfl (by kernel_rfl) (by kernel_rfl) (by kernel_rfl) (fun _ _ _ h => h) (by rfl) hHeld ?_ ?_
        rotate_left
        · intro W hSw
          try dsimp only at hSw
          go_simp
          try with_reducible rfl
        try simp only [Act.put]
        try simp only [List.setIfInBounds_toArray]
        try simp only [List.set_cons_succ]
        try simp only [List.set_cons_zero]
        refine wpAnyH_ready (rs := [17]) (by kernel_rfl) (by simp) ?_
        refine AllReadyH.cons rfl (fun K hK => ?_) AllReadyH.nil
        go_simp
        refine (lnRec_any k t _ _ zs _ I3.out Y6.out hzl).mono ?_
        rintro e w10 ⟨rfl, hb⟩
        replace U6 := hide_it (U6.out.later hb (Nat.le_refl _))
        replace Y6 := hide_it (Y6.out.later hb (Nat.le_refl _))
        replace L6 := hide_it (L6.out.later hb (Nat.le_refl _))
        replace Q6 := hide_it (Q6.out.later hb (Nat.le_refl _))
        replace V6 := hide_it (V6.out.later hb (Nat.le_refl _))
        replace W6 := hide_it (W6.out.later hb (Nat.le_refl _))
        replace X6 := hide_it (X6.out.later hb (Nat.le_refl _))
        replace R6 := hide_it (R6.out.later hb (Nat.le_refl _))
        replace B6 := hide_it (B6.out.trans (hb.mono B6.out.size))
        replace EB := hide_it (EB.out.later hb (Nat.le_refl _))
        replace RT := hide_it (RT.out.later hb (Nat.le_refl _))
        replace I3 := hide_it (I3.out.later hb (Nat.le_refl _))
        replace LB := hide_it (LB.out.trans (hb.mono LB.out.size))
        clear hb
        try dsimp only
        refine hK.out _ _ (KB.out _ LB.out) (fun hHeld => ?_)
        clear hK K
        refine takeD (i := 18) (v := ?_) (some 87) rfl rfl (by kernel_rfl) (by kernel_rfl) (by kernel_rfl) (fun _ _ _ h => h) (by rfl) hHeld ?_ ?_
        rotate_left
        · intro W hSw
          try dsimp only at hSw
          go_simp
          try with_reducible rfl
        try simp only [Act.put]
        try simp only [List.setIfInBounds_toArray]
        try simp only [List.set_cons_succ]
        try simp only [List.set_cons_zero]
        refine takeD (i := 19) (v := ?_) (some 88) rfl rfl (by kernel_rfl) (by kernel_rfl) (by kernel_rfl) (fun _ _ _ h => h) (by rfl) hHeld ?_ ?_
        rotate_left
        · intro W hSw
          try dsimp only at hSw
          go_simp
          try with_reducible rfl
        try simp only [Act.put]
        try simp only [List.setIfInBounds_toArray]
        try simp only [List.set_cons_succ]
        try simp only [List.set_cons_zero]
        refine takeD (i := 20) (v := ?_) (some 89) rfl rfl (by kernel_rfl) (by kernel_rfl) (by kernel_rfl) (fun _ _ _ h => h) (by rfl) hHeld ?_ ?_
        rotate_left
        · intro W hSw
          try dsimp only at hSw
          go_simp
          try with_reducible rfl
        try simp only [Act.put]
        try simp only [List.setIfInBounds_toArray]
        try simp only [List.set_cons_succ]
        try simp only [List.set_cons_zero]
        refine takeD (i := 21) (v := ?_) (some 90) rfl rfl (by kernel_rfl) (by kernel_rfl) (by kernel_rfl) (fun _ _ _ h => h) (by rfl) hHeld ?_ ?_
        rotate_left
        · intro W hSw
          try dsimp only at hSw
          go_simp
          try with_reducible rfl
        try simp only [Act.put]
        try simp only [List.setIfInBounds_toArray]
        try simp only [List.set_cons_succ]
        try simp only [List.set_cons_zero]
        refine takeD (i := 22) (v := ?_) (some 91) rfl rfl (by kernel_rfl) (by kernel_rfl) (by kernel_rfl) (fun _ _ _ h => h) (by rfl) hHeld ?_ ?_
        rotate_left
        · intro W hSw
          try dsimp only at hSw
          go_simp
          try with_reducible rfl
        try simp only [Act.put]
        try simp only [List.setIfInBounds_toArray]
        try simp only [List.set_cons_succ]
        try simp only [List.set_cons_zero]
        refine takeD (i := 23) (v := ?_) (some 92) rfl rfl (by kernel_rfl) (by kernel_rfl) (by kernel_rfl) (fun _ _ _ h => h) (by rfl) hHeld ?_ ?_
        rotate_left
        · intro W hSw
          try dsimp only at hSw
          go_simp
          try with_reducible rfl
        try simp only [Act.put]
        try simp only [List.setIfInBounds_toArray]
        try simp only [List.set_cons_succ]
        try simp only [List.set_cons_zero]
        refine takeD (i := 24) (v := ?_) (some 93) rfl rfl (by kernel_rfl) (by kernel_rfl) (by kernel_rfl) (fun _ _ _ h => h) (by rfl) hHeld ?_ ?_
        rotate_left
        · intro W hSw
          try dsimp only at hSw
          go_simp
          try with_reducible rfl
        try simp only [Act.put]
        try simp only [List.setIfInBounds_toArray]
        try simp only [List.set_cons_succ]
        try simp only [List.set_cons_zero]
        refine takeD (i := 25) (v := ?_) (some 94) rfl rfl (by kernel_rfl) (by kernel_rfl) (by kernel_rfl) (fun _ _ _ h => h) (by rfl) hHeld ?_ ?_
        rotate_left
        · intro W hSw
          try dsimp only at hSw
          go_simp
          try with_reducible rfl
        try simp only [Act.put]
        try simp only [List.setIfInBounds_toArray]
        try simp only [List.set_cons_succ]
        try simp only [List.set_cons_zero]
        refine wpAnyH_ready (rs := [26]) (by kernel_rfl) (by simp) ?_
        refine AllReadyH.cons rfl (fun K hK => ?_) AllReadyH.nil
        go_simp
        refine (lnRecs_any _ _ rs _ RT.out U6.out hl).mono ?_
        rintro e w11 ⟨rfl, hb⟩
        replace U6 := hide_it (U6.out.later hb (Nat.le_refl _))
        replace Y6 := hide_it (Y6.out.later hb (Nat.le_refl _))
        replace L6 := hide_it (L6.out.later hb (Nat.le_refl _))
        replace Q6 := hide_it (Q6.out.later hb (Nat.le_refl _))
        replace V6 := hide_it (V6.out.later hb (Nat.le_refl _))
        replace W6 := hide_it (W6.out.later hb (Nat.le_refl _))
        replace X6 := hide_it (X6.out.later hb (Nat.le_refl _))
        replace R6 := hide_it (R6.out.later hb (Nat.le_refl _))
        replace B6 := hide_it (B6.out.trans (hb.mono B6.out.size))
        replace EB := hide_it (EB.out.later hb (Nat.le_refl _))
        replace RT := hide_it (RT.out.later hb (Nat.le_refl _))
        replace I3 := hide_it (I3.out.later hb (Nat.le_refl _))
        replace LB := hide_it (LB.out.trans (hb.mono LB.out.size))
        clear hb
        try dsimp only
        refine hK.out _ _ (KB.out _ LB.out) (fun hHeld => ?_)
        clear hK K
        refine takeD (i := 27) (v := ?_) (some 96) rfl rfl (by kernel_rfl) (by kernel_rfl) (by kernel_rfl) (fun _ _ _ h => h) (by rfl) hHeld ?_ ?_
        rotate_left
        · intro W hSw
          try dsimp only at hSw
          go_simp
          try with_reducible rfl
        try simp only [Act.put]
        try simp only [List.setIfInBounds_toArray]
        try simp only [List.set_cons_succ]
        try simp only [List.set_cons_zero]
        refine takeD (i := 28) (v := ?_) (some 97) rfl rfl (by kernel_rfl) (by kernel_rfl) (by kernel_rfl) (fun _ _ _ h => h) (by rfl) hHeld ?_ ?_
        rotate_left
        · intro W hSw
          try dsimp only at hSw
          go_simp
          try with_reducible rfl
        try simp only [Act.put]
        try simp only [List.setIfInBounds_toArray]
        try simp only [List.set_cons_succ]
        try simp only [List.set_cons_zero]
        refine takeD (i := 29) (v := ?_) (some 98) rfl rfl (by kernel_rfl) (by kernel_rfl) (by kernel_rfl) (fun _ _ _ h => h) (by rfl) hHeld ?_ ?_
        rotate_left
        · intro W hSw
          try dsimp only at hSw
          go_simp
          try with_reducible rfl
        try simp only [Act.put]
        try simp only [List.setIfInBounds_toArray]
        try simp only [List.set_cons_succ]
        try simp only [List.set_cons_zero]
        refine takeD (i := 30) (v := ?_) (some 99) rfl rfl (by kernel_rfl) (by kernel_rfl) (by kernel_rfl) (fun _ _ _ h => h) (by rfl) hHeld ?_ ?_
        rotate_left
        · intro W hSw
          try dsimp only at hSw
          go_simp
          try with_reducible rfl
        try simp only [Act.put]
        try simp only [List.setIfInBounds_toArray]
        try simp only [List.set_cons_succ]
        try simp only [List.set_cons_zero]
        refine takeD (i := 31) (v := ?_) (some 100) rfl rfl (by kernel_rfl) (by kernel_rfl) (by kernel_rfl) (fun _ _ _ h => h) (by rfl) hHeld ?_ ?_
        rotate_left
        · intro W hSw
          try dsimp only at hSw
          go_simp
          try with_reducible rfl
        try simp only [Act.put]
        try simp only [List.setIfInBounds_toArray]
        try simp only [List.set_cons_succ]
        try simp only [List.set_cons_zero]
        refine takeD (i := 32) (v := ?_) (some 101) rfl rfl (by kernel_rfl) (by kernel_rfl) (by kernel_rfl) (fun _ _ _ h => h) (by rfl) hHeld ?_ ?_
        rotate_left
        · intro W hSw
          try dsimp only at hSw
          go_simp
          try with_reducible rfl
        try simp only [Act.put]
        try simp only [List.setIfInBounds_toArray]
        try simp only [List.set_cons_succ]
        try simp only [List.set_cons_zero]
        refine takeD (i := 33) (v := ?_) (some 102) rfl rfl (by kernel_rfl) (by kernel_rfl) (by kernel_rfl) (fun _ _ _ h => h) (by rfl) hHeld ?_ ?_
        rotate_left
        · intro W hSw
          try dsimp only at hSw
          go_simp
          try with_reducible rfl
        try simp only [Act.put]
        try simp only [List.setIfInBounds_toArray]
        try simp only [List.set_cons_succ]
        try simp only [List.set_cons_zero]
        refine takeD (i := 34) (v := ?_) (some 103) rfl rfl (by kernel_rfl) (by kernel_rfl) (by kernel_rfl) (fun _ _ _ h => h) (by rfl) hHeld ?_ ?_
        rotate_left
        · intro W hSw
          try dsimp only at hSw
          go_simp
          try with_reducible rfl
        try simp only [Act.put]
        try simp only [List.setIfInBounds_toArray]
        try simp only [List.set_cons_succ]
        try simp only [List.set_cons_zero]
        refine takeD (i := 35) (v := ?_) (some 104) rfl rfl (by kernel_rfl) (by kernel_rfl) (by kernel_rfl) (fun _ _ _ h => h) (by rfl) hHeld ?_ ?_
        rotate_left
        · intro W hSw
          try dsimp only at hSw
          go_simp
          try with_reducible rfl
        try simp only [Act.put]
        try simp only [List.setIfInBounds_toArray]
        try simp only [List.set_cons_succ]
        try simp only [List.set_cons_zero]
        refine takeD (i := 36) (v := ?_) (some 105) rfl rfl (by kernel_rfl) (by kernel_rfl) (by kernel_rfl) (fun _ _ _ h => h) (by rfl) hHeld ?_ ?_
        rotate_left
        · intro W hSw
          try dsimp only at hSw
          go_simp
          try with_reducible rfl
        try simp only [Act.put]
        try simp only [List.setIfInBounds_toArray]
        try simp only [List.set_cons_succ]
        try simp only [List.set_cons_zero]
        refine wpAnyH_ready (rs := [37]) (by kernel_rfl) (by simp) ?_
        refine AllReadyH.cons rfl (fun K hK => ?_) AllReadyH.nil
        go_simp
        refine (IOK.out _ R6.out (HA.out _ B6.out)).mono ?_
        rintro e w12 ⟨rfl, hb⟩
        replace U6 := hide_it (U6.out.later hb (Nat.le_refl _))
        replace Y6 := hide_it (Y6.out.later hb (Nat.le_refl _))
        replace L6 := hide_it (L6.out.later hb (Nat.le_refl _))
        replace Q6 := hide_it (Q6.out.later hb (Nat.le_refl _))
        replace V6 := hide_it (V6.out.later hb (Nat.le_refl _))
        replace W6 := hide_it (W6.out.later hb (Nat.le_refl _))
        replace X6 := hide_it (X6.out.later hb (Nat.le_refl _))
        replace R6 := hide_it (R6.out.later hb (Nat.le_refl _))
        replace B6 := hide_it (B6.out.trans (hb.mono B6.out.size))
        replace EB := hide_it (EB.out.later hb (Nat.le_refl _))
        replace RT := hide_it (RT.out.later hb (Nat.le_refl _))
        replace I3 := hide_it (I3.out.later hb (Nat.le_refl _))
        replace LB := hide_it (LB.out.trans (hb.mono LB.out.size))
        clear hb
        try dsimp only
        refine hK.out _ _ (KB.out _ LB.out) (fun hHeld => ?_)
        clear hK K
        refine takeD (i := 38) (v := ?_) (some 107) rfl rfl (by kernel_rfl) (by kernel_rfl) (by kernel_rfl) (fun _ _ _ h => h) (by rfl) hHeld ?_ ?_
        rotate_left
        · intro W hSw
          try dsimp only at hSw
          go_simp
          try with_reducible rfl
        try simp only [Act.put]
        try simp only [List.setIfInBounds_toArray]
        try simp only [List.set_cons_succ]
        try simp only [List.set_cons_zero]
        refine takeD (i := 39) (v := ?_) (some 2) rfl rfl (by kernel_rfl) (by kernel_rfl) (by kernel_rfl) (fun _ _ _ h => h) (by rfl) hHeld ?_ ?_
        rotate_left
        · intro W hSw
          try dsimp only at hSw
          go_simp
          try with_reducible rfl
        try simp only [Act.put]
        try simp only [List.setIfInBounds_toArray]
        try simp only [List.set_cons_succ]
        try simp only [List.set_cons_zero]
        refine wpAnyH_done (by kernel_rfl) ?_ _
        clear KB LB
        go_wp2
        go_ret
        exact ⟨rfl, B6.out⟩

end Go.Proofs.YtaogachhmdmoaaaDoor

namespace Go.Proofs.YtaogachhmdmoaaaDoor
open Go.ChangeShapes Go.WideShapes Go.ChangeAt Go.WideMaps Go.WideElems Go.RowKit Go.Joins

set_option maxRecDepth 100000 in
set_option maxHeartbeats 2000000 in
theorem lawP5_great (ac : Option Addr) (nc cc : Nat) (w : World) (h : 1048576 < (nc : Int)) :
    Calls Tryd.prog 4 #[.slice ac nc cc] w fun e w' => e = .returned (.bool true) ∧ Below w.heap.size w w' := by
  go_enter Tryd.func4, Tryd.ntmps4
  go_wp2
  go_ret
  exact ⟨rfl, Below.refl _ _⟩

theorem lawP5_any (vc : Value) (nc : Nat) (a : Addr) (w : World) (hc : CodeAt w vc nc) (ha : ErrAt w a) :
    Calls Tryd.prog 4 #[vc] w fun e w' => e = .returned (.bool true) ∧ Below w.heap.size w w' := by
  by_cases h1 : nc ≤ 1048576
  · exact lawP5_small vc nc a w hc h1 ha
  · obtain ⟨ac, cc, rfl, _⟩ := hc
    exact lawP5_great ac nc cc w (by omega)

set_option maxRecDepth 100000 in
theorem p5_lifted (os : Os) (started : os.Started) (H : Type) (enc : TypeId × Value → H) :
    ReturnsInHanded {} Tryd.checked os 4 .any (fun w args => (Rows.fnLogAddSpec.pre enc Tryd.prog Tryd.f4 [] false w args ∧ laidMetH Tryd.prog laidErr w) ∧ sizedMet enc Tryd.prog Tryd.f4 (OpenSpec.ofChange Rows.fnLogAddSpec) false w args)
      (Rows.fnLogAddSpec.post enc Tryd.prog Tryd.f4 false true false false) := by
  refine returnsInHanded_of_change_and (C := Tryd.checked) (X := fun w _ => laidMetH Tryd.prog laidErr w) (fun _ _ _ hh h => h.of_heap hh) own started (by kernel_rfl) Tryd.func4
    (ChangeSpec.witness_shaped (enc := enc) (C := Tryd.checked) (os := os) (X := fun w _ => laidMetH Tryd.prog laidErr w) false (World.doorLaid Tryd.prog 28 os) #[.slice none 0 0] 8 rfl (World.shaped_of_RefB (by kernel_rfl) (by kernel_rfl)) (by kernel_rfl) (by kernel_rfl) (by kernel_rfl) (door_met os _)) ?_
  intro W base args ds gs before hval0 hW _ _ hL _
  have hval : ∀ (j : Nat) t v, Tryd.f4.params[j]? = some t → args[j]? = some v → Value.okWide Tryd.prog W .any base t v := hval0
  have hW' := hW
  obtain ⟨p, q, hA0, hV0, rfl, hfz, hnd⟩ := hW
  have hA : DataW.TrodAll enc Tryd.prog W 0 (fun _ => true) true Tryd.f4.params.toList args.toList ds p := hA0
  have hV : DataW.TrodVars enc Tryd.prog W (fun _ => true) ["loop.example/concierge/impl.errNoRec"] gs q := hV0
  rw [Tryd.params4] at hA hval
  obtain ⟨v0, d0, rfl, rfl, h0⟩ := trodAll_one hA
  obtain ⟨a, hErr, hvar⟩ := of_laid hL
  have vr : ∀ {X : World}, X.var? Tryd.prog "loop.example/concierge/impl.errNoRec" = some #[.iface 88 (.pointer (some a))] → ∀ sp : Nat → Bool,
      DataW.TrodVars enc Tryd.prog X sp ["loop.example/concierge/impl.errNoRec"] [tok enc (.iface 88 (.pointer (some a)))] [.cell 0 0] :=
    fun x0 sp => vars_read1 enc gErr gErrType Tryd.underlying49 x0 trivial sp
  obtain ⟨rfl, rfl⟩ := hV.unique (vr hvar _)
  clear hA0 hV0 hval0
  obtain ⟨nc, hC, _⟩ := open_code (hval 0 22 v0 rfl rfl) h0
  refine (lawP5_any v0 nc a W hC hErr).mono fun e W' ⟨he, hb⟩ => ?_
  subst he
  have hlt : ∀ x ∈ p, x.block < W.heap.size := fun x hx => hW'.lt x (by simp [hx])
  refine ⟨_, rfl, _, _, _, [], p, [.cell 0 0], hW', ?_, ?_, ?_, hb.frame _, fun h => by cases h⟩
  · exact trodAll_mk1 (shut_bool Tryd.underlying4 true)
  · exact trodAll_mk1 (Below.trod laidOut (by kernel_rfl) (of_decide_eq_true (by kernel_rfl)) h0 hb hlt)
  · exact vr (var?_below hb gErr (World.block_lt_of_cell? _ _ hErr) hvar) _

theorem p5_said : Rows.FnLogAddSaid :=
  OpenClaim.holds_of_wide 4 Tryd.f4 rfl rfl rfl rfl rfl rfl rfl ⟨rfl, rfl, rfl, rfl, rfl⟩ rfl rfl rfl rfl rfl (by kernel_rfl) Tryd.func4 (by kernel_rfl)
    (of_decide_eq_true (by kernel_rfl)) (by unfold Func.isWrapper; first | (rw [if_pos (by decide +kernel)]; kernel_rfl) | (rw [if_neg (by decide +kernel)]; exact ⟨rfl, rfl⟩))
    (fun os started H enc _ => p5_lifted os started H enc)

theorem p5_plain (f : FuncId) (fn : Func) (hf : Tryd.pinned.checked.prog.funcNamed "loop.example/concierge/laws.FnLogAdd" = some f) (hfn : Tryd.pinned.checked.prog.funcs[f]? = some fn) :
    true = Tryd.pinned.checked.prog.looks [] ∧ ∀ (j : Nat) t, fn.params[j]? = some t → Tryd.pinned.checked.prog.wantsStandIn t = false := by
  obtain rfl : f = 4 := Option.some.inj ((show Tryd.prog.funcNamed "loop.example/concierge/laws.FnLogAdd" = some 4 by kernel_rfl).symm.trans hf) |>.symm
  obtain rfl : fn = Tryd.f4 := (Option.some.inj (Tryd.func4.symm.trans hfn)).symm
  refine ⟨by kernel_rfl, fun j t ht => ?_⟩
  rw [Tryd.params4] at ht
  obtain rfl : t = 22 := by simpa using Array.mem_of_getElem? ht
  exact (show Tryd.prog.wantsStandIn 22 = false by kernel_rfl)

theorem p5_card : Rows.FnLogAddCardSaid :=
  Claim7.holds_tied_plain_at .later [] _ _ _ _ p5_said (fun _ h => by cases h) (by kernel_rfl) (fun _ h => by cases h) fnLogAdd_row_tie rfl ⟨rfl, rfl⟩ (by kernel_rfl) rfl p5_plain (by kernel_rfl)
#print axioms p5_card

end Go.Proofs.YtaogachhmdmoaaaDoor
