/- The law FnLogAddFall, walked: whatever the code, it answers true, and nothing that was there before has turned. In a world in which the sentinel's variable holds a pointer to an errors.errorString. -/
import Derived.Test.YtgbikmcpcolcpaaDoorDFall
import Derived.Test.YtgbikmcpcolcpaaDoorDOpen2
import Derived.Test.YtgbikmcpcolcpaaDoorLn
import Derived.Test.YtgbikmcpcolcpaaDoorSLogAdd
import Derived.Deep.RegionHeld
namespace Go.Proofs.YtgbikmcpcolcpaaDoor
open Go.RowKit

theorem d_drew3 {w2 w3 : World} (hb : Below w2.drew.heap.size w2.drew w3) : Below w2.heap.size w2 w3 := (Below.refl w2.heap.size w2).drew.trans hb

theorem addB_parts {rs : List R} {f : Int} {r : R} (h : addB rs f r = true) : logOk rs f = true ∧ rOk r = true ∧ rs.length ≠ 40 := by
  unfold addB addOk at h
  simp only [Bool.and_eq_true, decide_eq_true_eq] at h
  exact ⟨h.1.1, h.1.2, h.2⟩
theorem addR_yes {rs : List R} {f : Int} {r : R} (h : addB rs f r = true) : addR rs f r = rs ++ [r] ∧ addF rs f r = f := by
  obtain ⟨h1, h2, h3⟩ := addB_parts h
  constructor <;> simp [addR, addF, addOk, h1, h2, h3]
theorem logOk_take {rs : List R} {fN : Nat} (h : logOk rs fN = true) : logOk (rs.take fN) fN = true := by
  obtain ⟨h0, h1, h2⟩ := logOk_f h
  unfold logOk at h ⊢
  simp only [Bool.and_eq_true, decide_eq_true_eq] at h ⊢
  have hl : (rs.take fN).length = fN := by rw [List.length_take]; omega
  refine ⟨?_, by omega, Pl.inB_mk (by omega) (by rw [hl]; omega)⟩
  rw [List.all_eq_true] at h ⊢
  exact fun x hx => h.1 x (List.mem_of_mem_take hx)
theorem addB_take {rs : List R} {fN : Nat} {r : R} (h : addB rs fN r = true) : addB (rs.take fN) fN r = true := by
  obtain ⟨h1, h2, h3⟩ := addB_parts h
  obtain ⟨_, h4, h5⟩ := logOk_f h1
  have hl : (rs.take fN).length = fN := by rw [List.length_take]; omega
  unfold addB addOk
  rw [logOk_take h1, h2, hl]
  have : fN ≠ 40 := by omega
  simp [this]
theorem logOk_more {rs : List R} {f : Int} {r : R} (h : addB rs f r = true) : logOk (rs ++ [r]) f = true := by
  obtain ⟨h1, h2, h3⟩ := addB_parts h
  obtain ⟨h4, h5, h6⟩ := logOk_f h1
  unfold logOk at h1 ⊢
  simp only [Bool.and_eq_true, decide_eq_true_eq] at h1 ⊢
  refine ⟨by rw [List.all_append, h1.1]; simp [h2], by simp; omega, Pl.inB_mk h4 (by simp; omega)⟩
theorem fall_zero {rs : List R} {fN : Nat} (h : logOk rs fN = true) : fallR rs fN 0 = rs.take fN ∧ fallF rs fN 0 = fN := by
  have e : fallN rs.length fN 0 = fN := by simp [fallN]
  constructor <;> simp [fallR, fallF, h, e]
theorem tot_snoc (rs : List R) (r : R) : tot (rs ++ [r]) ≤ tot rs + 1 + r.2.2.length := by
  unfold tot pre
  rw [List.take_length, List.take_length]
  simp
  omega
theorem addR_small (rs : List R) (f : Int) (r : R) (hl : tot rs ≤ 1000) (hr : r.2.2.length ≤ 4) : tot (addR rs f r) ≤ 2000 := by
  have h1 := tot_snoc rs r
  unfold addR
  split
  · split
    · omega
    · omega
  · simp [tot, pre]

set_option maxRecDepth 100000 in
set_option maxHeartbeats 8000000 in
theorem lawP11_small (vc : Value) (nc : Nat) (a : Addr) (w : World) (hc : CodeAt w vc nc) (hnc : nc ≤ 1048576) (ha : ErrAt w a) :
    Calls Tryd.prog 8 #[vc] w fun e w' => e = .returned (.bool true) ∧ Below w.heap.size w w' := by
  have HA : Hid (∀ W, Below w.heap.size w W → ErrAt W a) := fun W h => ha.later h (Nat.le_refl _)
  have HD := hide_it (drawAdd_any vc nc w hc hnc)
  obtain ⟨ac, cc, rfl, _⟩ := hc
  clear ha
  go_enter Tryd.func8, Tryd.ntmps8
  go_wp2_with fail
  refine HD.out.mono ?_
  rintro e w1 ⟨u, f, rs, k, t, y, zs, rfl, hy, hzl4, hu, hform, htot, hb1⟩
  obtain ⟨au, cu, hus⟩ := hu.shape
  subst hus
  obtain ⟨ay, cy, hys⟩ := hy.shape
  subst hys
  have hl : tot rs ≤ 1048576 := by omega
  have hzl : zs.length ≤ 1048576 := by omega
  obtain ⟨RS, hRS⟩ : ∃ RS, addR rs f (k, t, zs) = RS := ⟨_, rfl⟩
  obtain ⟨F, hF⟩ : ∃ F, addF rs f (k, t, zs) = F := ⟨_, rfl⟩
  obtain ⟨BB, hBB⟩ : ∃ b, addB rs f (k, t, zs) = b := ⟨_, rfl⟩
  have hRl : tot RS ≤ 1048576 := by rw [← hRS]; have := addR_small rs f (k, t, zs) htot hzl4; omega
  have HSP : Hid (∀ (x z : Value) (W : World), Recs W x rs → Ints W z zs → Calls Tryd.prog 10 #[.agg #[x, .int .i64 f], .agg #[.int .i64 k, .int .i64 t, z]] W fun e w' => LogOut2 W w' e RS F BB) := fun x z W h h2 => by rw [← hRS, ← hF, ← hBB]; exact specAdd_any x rs f (k, t, zs) z W h hl h2 hzl
  have HIM : Hid (∀ (x z : Value) (W : World), Recs W x rs → Ints W z zs → ErrAt W a → Calls Tryd.prog 11 #[.agg #[x, .int .i64 f], .agg #[.int .i64 k, .int .i64 t, z]] W fun e w' => LogOut2 W w' e RS F BB) := fun x z W h h2 h3 => by rw [← hRS, ← hF, ← hBB]; exact implAdd_any x rs f (k, t, zs) z a W h hl h2 hzl h3
  have HBB := hide_it hBB
  have HRS := hide_it hRS
  have HF := hide_it hF
  have B1 := hide_it hb1
  have U1 := hide_it hu
  have Y1 := hide_it hy
  have FU := hide_it hform
  clear hb1 hu hy hform hRS hF hBB
  -- l, r
  obtain ⟨w2, hw2⟩ : ∃ W, Hid (W = (w1.alloc (.cells #[.slice au rs.length cu, .int .i64 f] 25)).alloc (.cells #[.int .i64 k, .int .i64 t, .slice ay zs.length cy] 28)) := ⟨_, rfl⟩
  have al2 := hide_it (show Below w1.heap.size w1 w2 by rw [hw2.out]; exact below2 _ _ _)
  have B2 := hide_it (B1.out.trans (al2.out.mono B1.out.size))
  have U2 := hide_it (U1.out.later al2.out (Nat.le_refl _))
  have Y2 := hide_it (Y1.out.later al2.out (Nat.le_refl _))
  have L2 : Hid (Two w2 w1.heap.size (.slice au rs.length cu) (.int .i64 f)) := by show Two _ _ _ _; rw [hw2.out]; exact Two.later (show Two _ _ _ _ from box2 w1 _ _ _) (alloc_below _ _) (Nat.le_refl _)
  have Q2 : Hid (RecAt w2 (w1.heap.size + 1) k t (.slice ay zs.length cy)) := by
    show RecAt _ _ _ _ _
    rw [hw2.out]
    have h := RecAt.new (w1.alloc (.cells #[.slice au rs.length cu, .int .i64 f] 25)) k t (.slice ay zs.length cy) 28
    rw [size1] at h
    exact h
  go_wp2_with fail
  rw [← hw2.out]
  refine (HSP.out _ _ w2 U2.out Y2.out).mono ?_
  rintro e w3 ⟨a3, c3, rfl, hm3, hb3⟩
  -- want
  obtain ⟨w4, hw4⟩ : ∃ W, Hid (W = w3.alloc (.cells #[.slice a3 RS.length c3, .int .i64 F] 25)) := ⟨_, rfl⟩
  have al4 := hide_it (show Below w3.heap.size w3 w4 by rw [hw4.out]; exact alloc_below _ _)
  have N4 := hide_it (hb3.trans (al4.out.mono hb3.size))
  have B4 := hide_it (B2.out.trans (N4.out.mono B2.out.size))
  have U4 := hide_it (U2.out.later N4.out (Nat.le_refl _))
  have Y4 := hide_it (Y2.out.later N4.out (Nat.le_refl _))
  have L4 := hide_it (L2.out.later N4.out (Nat.le_refl _))
  have Q4 := hide_it (Q2.out.later N4.out (Nat.le_refl _))
  have V4 := hide_it (hm3.below al4.out (Nat.le_refl _)).recs
  have W4 : Hid (Two w4 w3.heap.size (.slice a3 RS.length c3) (.int .i64 F)) := by show Two _ _ _ _; rw [hw4.out]; exact box2 w3 _ _ _
  have L3 := L2.out.later hb3 (Nat.le_refl _)
  have Q3 := Q2.out.later hb3 (Nat.le_refl _)
  obtain ⟨l0, l1⟩ := Two.later L3 (alloc_below w3 (.cells #[.slice a3 RS.length c3, .int .i64 F] 25)) (Nat.le_refl _)
  obtain ⟨q0, q1, q2⟩ := Q3.later (alloc_below w3 (.cells #[.slice a3 RS.length c3, .int .i64 F] 25)) (Nat.le_refl _)
  clear hm3 hb3 L3 Q3
  go_wp2_with fail
  rw [← hw4.out]
  clear l0 l1 q0 q1 q2
  refine (HIM.out _ _ w4 U4.out Y4.out (HA.out _ B4.out)).mono ?_
  rintro e w5 ⟨a5, c5, rfl, hm5, hb5⟩
  -- x
  obtain ⟨w6, hw6⟩ : ∃ W, Hid (W = w5.alloc (.cells #[.slice a5 RS.length c5, .int .i64 F] 25)) := ⟨_, rfl⟩
  have al6 := hide_it (show Below w5.heap.size w5 w6 by rw [hw6.out]; exact alloc_below _ _)
  have N6 := hide_it (hb5.trans (al6.out.mono hb5.size))
  have B6 := hide_it (B4.out.trans (N6.out.mono B4.out.size))
  have U6 := hide_it (U4.out.later N6.out (Nat.le_refl _))
  have Y6 := hide_it (Y4.out.later N6.out (Nat.le_refl _))
  have L6 := hide_it (L4.out.later N6.out (Nat.le_refl _))
  have Q6 := hide_it (Q4.out.later N6.out (Nat.le_refl _))
  have V6 := hide_it (V4.out.later N6.out (Nat.le_refl _))
  have W6 := hide_it (W4.out.later N6.out (Nat.le_refl _))
  have M6 := hide_it (hm5.below al6.out (Nat.le_refl _))
  have X6 : Hid (Two w6 w5.heap.size (.slice a5 RS.length c5) (.int .i64 F)) := by show Two _ _ _ _; rw [hw6.out]; exact box2 w5 _ _ _
  have FX := hide_it M6.out.form'
  have R6 := hide_it M6.out.recs
  have W5 := W4.out.later hb5 (Nat.le_refl _)
  obtain ⟨v0, v1⟩ := Two.later W5 (alloc_below w5 (.cells #[.slice a5 RS.length c5, .int .i64 F] 25)) (Nat.le_refl _)
  clear hm5 hb5 W5
  go_wp2_with fail
  rw [← hw6.out]
  clear v0 v1
  refine (lnLog_any _ _ RS F w6 R6.out V6.out hRl).mono ?_
  rintro e w7 ⟨rfl, hb7⟩
  have N7 := hide_it hb7
  have B7 := hide_it (B6.out.trans (hb7.mono B6.out.size))
  have X7 := hide_it (X6.out.later hb7 (Nat.le_refl _))
  have W7 := hide_it (W6.out.later hb7 (Nat.le_refl _))
  have L7 := hide_it (L6.out.later hb7 (Nat.le_refl _))
  have Q7 := hide_it (Q6.out.later hb7 (Nat.le_refl _))
  have U7 := hide_it (U6.out.later hb7 (Nat.le_refl _))
  have Y7 := hide_it (Y6.out.later hb7 (Nat.le_refl _))
  have R7 := hide_it (R6.out.later hb7 (Nat.le_refl _))
  have V7 := hide_it (V6.out.later hb7 (Nat.le_refl _))
  clear hb7
  cases BB
  · obtain ⟨x0, x1⟩ := X7.out
    obtain ⟨v0, v1⟩ := W7.out
    go_wp2_with fail
    refine (lnLog_any _ _ RS F w7 R7.out V7.out hRl).mono ?_
    rintro e w8 ⟨rfl, hb8⟩
    have B8 := hide_it (B7.out.trans (hb8.mono B7.out.size))
    clear hb8
    go_wp2
    go_ret
    exact ⟨rfl, B8.out⟩
  · obtain ⟨hok, hrk, hn40⟩ := addB_parts HBB.out
    obtain ⟨hf0, hfn, h40⟩ := logOk_f hok
    have e1 := addR_yes HBB.out
    obtain rfl : RS = rs ++ [(k, t, zs)] := by rw [← HRS.out]; exact e1.1
    obtain rfl : F = f := by rw [← HF.out]; exact e1.2
    obtain ⟨fN, rfl⟩ := Int.eq_ofNat_of_zero_le hf0
    have hLn : (rs ++ [(k, t, zs)]).length = rs.length + 1 := by simp
    have HLn := hide_it hLn
    rw [hLn] at X7 R7 FX ⊢
    clear hLn
    have hfl : fN ≤ rs.length := by omega
    have HT := hide_it (show (rs.take fN).length = fN by rw [List.length_take]; omega)
    have HT2 := hide_it (show (rs ++ [(k, t, zs)]).take fN = rs.take fN by rw [List.take_append_of_le_length hfl])
    have hRt : tot (rs.take fN) ≤ 1048576 := Nat.le_trans (pre_take rs fN hfl) hl
    have HF0 : Hid (∀ (W : World), Below w7.heap.size w7 W → Calls Tryd.prog 21 #[.agg #[.slice au rs.length cu, .int .i64 fN], .int .i64 0] W fun e w' => ∃ ao cp, e = .returned (.agg #[.slice ao fN cp, .int .i64 fN]) ∧ Made w' W.heap.size (.slice ao fN cp) (rs.take fN) ∧ Below W.heap.size W w') := fun W h => by
      have := implFall_form _ rs fN 0 a W (U7.out.later h (Nat.le_refl _)) FU.out hl (HA.out _ (B7.out.trans (h.mono B7.out.size)))
      rw [(fall_zero hok).1, (fall_zero hok).2] at this
      unfold LogOut at this
      rw [HT.out] at this
      exact this
    have HX0 : Hid (∀ (W : World), Below w7.heap.size w7 W → Calls Tryd.prog 21 #[.agg #[.slice a5 (rs.length + 1) c5, .int .i64 fN], .int .i64 0] W fun e w' => ∃ ao cp, e = .returned (.agg #[.slice ao fN cp, .int .i64 fN]) ∧ Made w' W.heap.size (.slice ao fN cp) (rs.take fN) ∧ Below W.heap.size W w') := fun W h => by
      have := implFall_form _ (rs ++ [(k, t, zs)]) fN 0 a W (R7.out.later h (Nat.le_refl _)) (by rw [HLn.out]; exact FX.out) hRl (HA.out _ (B7.out.trans (h.mono B7.out.size)))
      rw [(fall_zero (logOk_more HBB.out)).1, (fall_zero (logOk_more HBB.out)).2, HT2.out] at this
      unfold LogOut at this
      rw [HT.out] at this
      exact this
    have HAD : Hid (∀ (x : Value) (W : World), Below w7.heap.size w7 W → Recs W x (rs.take fN) → Calls Tryd.prog 11 #[.agg #[x, .int .i64 fN], .agg #[.int .i64 k, .int .i64 t, .slice ay zs.length cy]] W fun e w' => ∃ ao cp, e = .returned (.tuple #[.agg #[.slice ao (fN + 1) cp, .int .i64 fN], .bool true]) ∧ Made w' W.heap.size (.slice ao (fN + 1) cp) (rs.take fN ++ [(k, t, zs)]) ∧ Below W.heap.size W w') := fun x W h hx => by
      have := implAdd_any x (rs.take fN) fN (k, t, zs) _ a W hx hRt (Y7.out.later h (Nat.le_refl _)) hzl (HA.out _ (B7.out.trans (h.mono B7.out.size)))
      have e2 := addR_yes (addB_take HBB.out)
      have hln : (rs.take fN ++ [(k, t, zs)]).length = fN + 1 := by rw [List.length_append, HT.out]; rfl
      rw [e2.1, e2.2, addB_take HBB.out] at this
      unfold LogOut2 at this
      rw [hln] at this
      exact this
    have hkI : (fN : Int) ≤ 40 := by omega
    clear e1 hok hrk
    obtain ⟨l0, l1⟩ := L7.out
    -- f
    go_wp2_with fail
    refine (HF0.out w7 (Below.refl _ _)).mono ?_
    rintro e w8 ⟨a8, c8, rfl, hm8, hb8⟩
    obtain ⟨w9, hw9⟩ : ∃ W, Hid (W = w8.alloc (.cells #[.slice a8 fN c8, .int .i64 fN] 25)) := ⟨_, rfl⟩
    have al9 := hide_it (show Below w8.heap.size w8 w9 by rw [hw9.out]; exact alloc_below _ _)
    have N9 := hide_it (hb8.trans (al9.out.mono hb8.size))
    have M9 := hide_it (hm8.below al9.out (Nat.le_refl _))
    have F9 : Hid (Two w9 w8.heap.size (.slice a8 fN c8) (.int .i64 fN)) := by show Two _ _ _ _; rw [hw9.out]; exact box2 w8 _ _ _
    have Q8 := Q7.out.later hb8 (Nat.le_refl _)
    have hq8 : w1.heap.size + 1 < w8.heap.size := World.block_lt_of_cell? _ _ Q8.1
    obtain ⟨q0, q1, q2⟩ := Q8.later (alloc_below w8 (.cells #[.slice a8 fN c8, .int .i64 fN] 25)) (Nat.le_refl _)
    clear hm8 hb8 l0 l1 Q8
    go_wp2_with fail
    rw [← hw9.out]
    clear q0 q1 q2
    refine (HAD.out _ w9 N9.out M9.out.recs).mono ?_
    rintro e wA ⟨aA, cA, rfl, hmA, hbA⟩
    -- y
    obtain ⟨wB, hwB⟩ : ∃ W, Hid (W = wA.alloc (.cells #[.slice aA (fN + 1) cA, .int .i64 fN] 25)) := ⟨_, rfl⟩
    have alB := hide_it (show Below wA.heap.size wA wB by rw [hwB.out]; exact alloc_below _ _)
    have NB9 := hide_it (hbA.trans (alB.out.mono hbA.size))
    have NB := hide_it (N9.out.trans (NB9.out.mono N9.out.size))
    have MB := hide_it (hmA.below alB.out (Nat.le_refl _))
    have YB : Hid (Two wB wA.heap.size (.slice aA (fN + 1) cA) (.int .i64 fN)) := by show Two _ _ _ _; rw [hwB.out]; exact box2 wA _ _ _
    have FB := hide_it (F9.out.later NB9.out (Nat.le_refl _))
    have RF := hide_it (M9.out.recs.later NB9.out (Nat.le_refl _))
    have LB := hide_it (L7.out.later NB.out (Nat.le_refl _))
    have QB := hide_it (Q7.out.later NB.out (Nat.le_refl _))
    have XB := hide_it (X7.out.later NB.out (Nat.le_refl _))
    have IB := hide_it (Y7.out.later NB.out (Nat.le_refl _))
    have BB' := hide_it (B7.out.trans (NB.out.mono B7.out.size))
    obtain ⟨b, off, uu, hsl, hRC⟩ : ∃ b off uu, aA = some ⟨b, off, none⟩ ∧ RecCells wB b (off + fN * 3) (k, t, zs) uu := by
      rcases MB.out.recs with ⟨h, _⟩ | ⟨b, off, cap, hv, _, hcs⟩
      · simp at h
      · simp only [Value.slice.injEq] at hv
        obtain ⟨uu, hu⟩ := hcs fN (k, t, zs) (by rw [List.getElem?_append_right (by rw [HT.out]; exact Nat.le_refl _), HT.out]; simp)
        exact ⟨b, off, uu, hv.1, hu⟩
    subst hsl
    obtain ⟨au2, cu2, hus2⟩ := hRC.2.2.2.shape
    subst hus2
    have EB := hide_it hRC
    clear hmA hbA hRC
    go_wp2_with fail
    rw [← hwB.out]
    obtain ⟨x0, x1⟩ := XB.out
    obtain ⟨f0, f1⟩ := FB.out
    obtain ⟨l0, l1⟩ := LB.out
    obtain ⟨y0, y1⟩ := YB.out
    obtain ⟨q0, q1, q2⟩ := QB.out
    obtain ⟨e0, e1, e2, e3⟩ := EB.out
    have hw1 : IntKind.i64.wrap ((fN : Int) + 1) = (fN : Int) + 1 := by simp [IntKind.wrap, IntKind.bits, IntKind.signed]; omega
    have hw2 : IntKind.i64.wrap ((fN : Int) + 1 - 1) = (fN : Int) := by simp [IntKind.wrap, IntKind.bits, IntKind.signed]; omega
    have hw3 : IntKind.i64.wrap (fN : Int) = (fN : Int) := by simp [IntKind.wrap, IntKind.bits, IntKind.signed]; omega
    have hidx : (fN : Int) < ((fN + 1 : Nat) : Int) := by omega
    have I3 := hide_it e3
    clear e3
    first | (go_region_held (fun w' => w'.cell? ⟨w5.heap.size, 0, none⟩ = some (.slice a5 (rs.length + 1) c5) ∧ w'.cell? ⟨w5.heap.size, 1, none⟩ = some (.int .i64 fN) ∧ w'.cell? ⟨w8.heap.size, 0, none⟩ = some (.slice a8 fN c8) ∧ w'.cell? ⟨w8.heap.size, 1, none⟩ = some (.int .i64 fN) ∧ w'.cell? ⟨w1.heap.size, 1, none⟩ = some (.int .i64 fN) ∧ w'.cell? ⟨wA.heap.size, 0, none⟩ = some (.slice (some ⟨b, off, none⟩) (fN + 1) cA) ∧ w'.cell? ⟨w1.heap.size + 1, 0, none⟩ = some (.int .i64 k) ∧ w'.cell? ⟨w1.heap.size + 1, 1, none⟩ = some (.int .i64 t) ∧ w'.cell? ⟨w1.heap.size + 1, 2, none⟩ = some (.slice ay zs.length cy) ∧ w'.cell? ⟨b, off + fN * 3, none⟩ = some (.int .i64 k) ∧ w'.cell? ⟨b, off + fN * 3 + 1, none⟩ = some (.int .i64 t) ∧ w'.cell? ⟨b, off + fN * 3 + 2, none⟩ = some (.slice au2 zs.length cu2)) (go_keep) (first
      | (go_at_call 21; refine (HX0.out _ (NB.out.drew)).mono ?_; rintro e wC ⟨aC, cC, rfl, hmC, hbC⟩; have NC := hide_it (d_drew3 hbC); have VC := hide_it hmC.recs; obtain ⟨xC0, xC1⟩ := XB.out.later NC.out (Nat.le_refl _); obtain ⟨fC0, fC1⟩ := FB.out.later NC.out (Nat.le_refl _); obtain ⟨lC0, lC1⟩ := LB.out.later NC.out (Nat.le_refl _); obtain ⟨yC0, yC1⟩ := YB.out.later NC.out (Nat.le_refl _); obtain ⟨qC0, qC1, qC2⟩ := QB.out.later NC.out (Nat.le_refl _); obtain ⟨eC0, eC1, eC2, _⟩ := EB.out.later NC.out (Nat.le_refl _); clear hmC hbC)
      | (go_at_call 12; refine (lnLog_any _ _ (rs.take fN) fN _ VC.out (RF.out.later NC.out (Nat.le_refl _)) hRt).mono ?_; rintro e wD ⟨rfl, hbD⟩; have ND := hide_it (NC.out.trans (hbD.mono NC.out.size)); obtain ⟨xD0, xD1⟩ := XB.out.later ND.out (Nat.le_refl _); obtain ⟨fD0, fD1⟩ := FB.out.later ND.out (Nat.le_refl _); obtain ⟨lD0, lD1⟩ := LB.out.later ND.out (Nat.le_refl _); obtain ⟨yD0, yD1⟩ := YB.out.later ND.out (Nat.le_refl _); obtain ⟨qD0, qD1, qD2⟩ := QB.out.later ND.out (Nat.le_refl _); obtain ⟨eD0, eD1, eD2, _⟩ := EB.out.later ND.out (Nat.le_refl _); clear hbD)
      | (go_at_call 15; refine (lnRec_any k t _ _ zs _ (I3.out.later ND.out (Nat.le_refl _)) (IB.out.later ND.out (Nat.le_refl _)) hzl).mono ?_; rintro e wE ⟨rfl, hbE⟩; have NE := hide_it (ND.out.trans (hbE.mono ND.out.size)); obtain ⟨xE0, xE1⟩ := XB.out.later NE.out (Nat.le_refl _); obtain ⟨fE0, fE1⟩ := FB.out.later NE.out (Nat.le_refl _); obtain ⟨lE0, lE1⟩ := LB.out.later NE.out (Nat.le_refl _); obtain ⟨yE0, yE1⟩ := YB.out.later NE.out (Nat.le_refl _); obtain ⟨qE0, qE1, qE2⟩ := QB.out.later NE.out (Nat.le_refl _); obtain ⟨eE0, eE1, eE2, _⟩ := EB.out.later NE.out (Nat.le_refl _); clear hbE))) | fail
    all_goals
      have BE := hide_it (BB'.out.trans (NE.out.mono BB'.out.size))
      go_wp2
      go_ret
      exact ⟨rfl, BE.out⟩

end Go.Proofs.YtgbikmcpcolcpaaDoor
