/- FnHouseStock answers true whatever the code, and it reads afterwards as it read before: promise 31 at every drawn house. The card: the sentinel's variable starts as the program's text lays it. -/
import Derived.Test.YtgeagfglkgpoiaaDoorBase3
import Derived.Deep.RegionHeld

namespace Go.Proofs.YtgeagfglkgpoiaaDoor
open Go.RowKit

theorem sOf_len (room : Int) (rs : List R) : (oH (Pl.sOf room rs)).length ≤ 6 := by
  unfold Pl.sOf
  split
  · have h : ∀ (rs : List R) (hs : List Pl.H), hs.length = 6 → (oH (Pl.sRun room rs hs)).length ≤ 6 := by
      intro rs
      induction rs with
      | nil => intro hs h; simp [Pl.sRun, oH]; omega
      | cons r t ih =>
        intro hs h
        cases hd : Pl.sDo room hs r.1 r.2.1 r.2.2 with
        | none => rw [sRun_no room r t hs hd]; simp [oH]
        | some h' => rw [sRun_yes room r t hs h' hd]; exact ih h' (by rw [Pl.sDo_len hd]; exact h)
    exact h rs _ rfl
  · simp [oH]

theorem duo_mid {lo hi : Nat} {w w' : World} {b : Nat} {x y : Value} (h : Duo w b x y) (hm : Mid lo hi w w') (hb : b < lo ∨ hi ≤ b) : Duo w' b x y := by
  have hlt := h.lt
  have e := hm.block b hlt hb
  exact ⟨by rw [← h.1]; exact World.cell?_of_block (a := ⟨b, 0, none⟩) e, by rw [← h.2]; exact World.cell?_of_block (a := ⟨b, 1, none⟩) e⟩

end Go.Proofs.YtgeagfglkgpoiaaDoor

namespace Go.Proofs.YtgeagfglkgpoiaaDoor
open Go.RowKit

theorem logOk_cut {rs : List R} {f : Int} {n : Nat} (h : logOk rs f = true) (hn : n ≤ rs.length) : logOk (rs.take n) (min (n : Int) f) = true := by
  have h40 := logOk_f h
  simp only [logOk, Bool.and_eq_true] at h ⊢
  have hl : (rs.take n).length = n := by rw [List.length_take]; omega
  refine ⟨?_, ?_, ?_⟩
  · rw [List.all_eq_true] at h ⊢
    exact fun x hx => h.1 x (List.mem_of_mem_take hx)
  · rw [hl]
    have := h.2.1
    simp at this ⊢
    omega
  · rw [hl]
    exact Pl.inB_mk (by omega) (by omega)
/-- A beginning of a house's records makes a stock, and with the others left out the house is ok. -/
theorem house_cut {id room : Int} {rs : List R} {f : Int} {n : Nat} (h : hoOk id room rs f = true) (hn : n ≤ rs.length) :
    ∃ hs, Pl.sOf room (rs.take n) = some hs ∧ Pl.sOk room hs = true ∧ hs.length = 6 ∧ hoOk id room (rs.take n) (min (n : Int) f) = true := by
  obtain ⟨h1, h2, h3⟩ := hoOk_parts h
  obtain ⟨hs, e⟩ := Option.isSome_iff_exists.1 h3
  obtain ⟨h4, e4⟩ := Pl.sOf_take n e
  obtain ⟨o1, o2⟩ := Pl.sOf_ok e4
  exact ⟨h4, e4, o1, o2, by rw [hoOk_of h1 (logOk_cut h2 hn), e4]; rfl⟩
theorem form_cap {o : Option Addr} {n m cap : Nat} (h : Form (.slice o n cap) m) : n ≤ cap := by
  rcases h with ⟨e, h0⟩ | ⟨g, c, e, h1⟩
  · simp at e; omega
  · simp at e; omega

theorem Holds.setApart' {W : World} {u : Value} {hs : List Pl.H} {a : Addr} (h : Holds W u hs) (ha : ∀ g, u.ownBlock = some g → a.block ≠ g) (x : Value) : Holds (W.setCell a x) u hs := by
  rcases h with h | ⟨b, off, cap, rfl, hz, hc⟩
  · exact Or.inl h
  · have hne : b ≠ a.block := fun e => ha b rfl e.symm
    have e : (W.setCell a x).heap[b]? = W.heap[b]? := Below.heap_setCell _ _ _ _ hne
    refine Or.inr ⟨b, off, cap, rfl, hz, fun k hk => ⟨?_, ?_⟩⟩
    · rw [← (hc k hk).1]; exact World.cell?_of_block (a := ⟨b, _, none⟩) e
    · rw [← (hc k hk).2]; exact World.cell?_of_block (a := ⟨b, _, none⟩) e

end Go.Proofs.YtgeagfglkgpoiaaDoor

namespace Go.Proofs.YtgeagfglkgpoiaaDoor
open Go.RowKit

theorem sk_drew {w0 w1 : World} (h : Below w0.drew.heap.size w0.drew w1) : Below w0.heap.size w0 w1 := (Below.refl w0.heap.size w0).drew.trans h
theorem cutR_pre {rs : List R} {f : Int} (fc : Bool) (h0 : 0 ≤ f) (h1 : f ≤ rs.length) : ∃ n : Nat, n ≤ rs.length ∧ cutR rs f fc = rs.take n ∧ (fc = true → (n : Int) = f) ∧ (fc = false → n = rs.length) := by
  cases fc
  · exact ⟨rs.length, Nat.le_refl _, by simp [cutR], ⟨fun h => Bool.noConfusion h, fun _ => rfl⟩⟩
  · exact ⟨f.toNat, by omega, by simp [cutR], ⟨fun _ => by omega, fun h => Bool.noConfusion h⟩⟩
/-- A house that is all forced holds, as forced, all that it holds. -/

theorem hoOk_full {id room : Int} {rs : List R} {f : Int} (h : hoOk id room rs f = true) : hoOk id room rs rs.length = true := by
  obtain ⟨h1, h2, h3⟩ := hoOk_parts h
  have h4 : logOk rs rs.length = true := by
    have h40 := (logOk_f h2).2.2
    simp only [logOk, Bool.and_eq_true] at h2 ⊢
    exact ⟨h2.1, h2.2.1, Pl.inB_mk (by omega) (by omega)⟩
  rw [hoOk_of h1 h4]; exact h3
theorem hsO_full {id room : Int} {rs : List R} {f : Int} (h : hoOk id room rs f = true) : hsO id room rs rs.length true = hsO id room rs f false := by
  unfold hsO
  rw [if_pos h, if_pos (hoOk_full h)]
  simp [cutR]

set_option maxRecDepth 100000 in
set_option maxHeartbeats 8000000 in
theorem lawP31_small (vc : Value) (nc : Nat) (a : Addr) (w : World) (hc : CodeAt w vc nc) (hcn : nc ≤ 1048576) (ha : ErrAt w a) :
    Calls Tryd.prog 3 #[vc] w fun e w' => e = .returned (.bool true) ∧ Below w.heap.size w w' := by
  have HD := hide_it (drawHouseStock_any vc nc w hc hcn)
  have HA : Hid (∀ W, Below w.heap.size w W → ErrAt W a) := fun W hb => ha.later hb (Nat.le_refl _)
  obtain ⟨ac, cc, rfl, _⟩ := hc
  have hci : (nc : Int) ≤ 1048576 := by omega
  clear hcn ha
  go_enter Tryd.func3, Tryd.ntmps3
  go_wp2_with fail
  refine HD.out.mono ?_
  rintro e w1 ⟨id, up, room, o, f, rs, fc, rfl, hl9, hR, hfm, -, hb1⟩
  have hl : tot rs ≤ 1048576 := by omega
  have B1 := hide_it hb1
  have R1 := hide_it hR
  have FM := hide_it hfm
  obtain ⟨ao, co, rfl⟩ := hR.shape
  clear hb1 hR HD hfm
  obtain ⟨BB, hBB⟩ : ∃ b, Hid (hoOk id room rs f = b) := ⟨_, rfl⟩
  obtain ⟨QH, hQH⟩ : ∃ o : Option (List Pl.H), Hid (hsO id room rs f fc = o) := ⟨_, rfl⟩
  obtain ⟨QR, hQR⟩ : ∃ o : Int, Hid (oR room QH = o) := ⟨_, rfl⟩
  obtain ⟨QS, hQS⟩ : ∃ o : List Pl.H, Hid (oH QH = o) := ⟨_, rfl⟩
  have QL : Hid (QS.length ≤ 6) := by show _ ≤ _; rw [← hQS.out, ← hQH.out]; exact hsO_len _ _ _ _ _
  have HSP : Hid (∀ W, Below w1.heap.size w1 W → Calls Tryd.prog 8 #[houseV id up room (.slice ao rs.length co) f, .bool fc] W fun e w' => SkOut W w' e QR QS) := fun W hb => by
    have := specHStock_any id up room _ rs f fc W (R1.out.later hb (Nat.le_refl _)) FM.out hl; rw [hQH.out, hQR.out, hQS.out] at this; exact this
  have HIM : Hid (∀ W, Below w1.heap.size w1 W → Calls Tryd.prog 6 #[houseV id up room (.slice ao rs.length co) f, .bool fc] W fun e w' => SkOut W w' e QR QS) := fun W hb => by
    have := implHStock_any id up room _ rs f fc a W (R1.out.later hb (Nat.le_refl _)) FM.out hl (HA.out _ (B1.out.trans (hb.mono B1.out.size))); rw [hQH.out, hQR.out, hQS.out] at this; exact this
  have HOK : Hid (∀ W, Below w1.heap.size w1 W → Calls Tryd.prog 9 #[houseV id up room (.slice ao rs.length co) f] W fun e w' => e = .returned (.bool BB) ∧ Below W.heap.size W w') := fun W hb => by
    have := specHouseOk_any id up room _ rs f W (R1.out.later hb (Nat.le_refl _)) hl; rw [hBB.out] at this; exact this
  have E1 : Hid (Below w1.heap.size w1 w1) := Below.refl _ _
  obtain ⟨w2, hw2⟩ : ∃ W, Hid (W = w1.alloc (.cells #[.int .i64 id, .bool up, .int .i64 room, .slice ao rs.length co, .int .i64 f] 27)) := ⟨_, rfl⟩
  have alw2 : Below w1.heap.size w1 w2 := by rw [hw2.out]; exact alloc_below _ _
  replace B1 := hide_it (B1.out.trans (alw2.mono B1.out.size))
  replace R1 := hide_it (R1.out.later alw2 (Nat.le_refl _))
  replace E1 := hide_it (E1.out.trans (alw2.mono E1.out.size))
  have L : Hid (Blk w2 (w1.heap.size) #[.int .i64 id, .bool up, .int .i64 room, .slice ao rs.length co, .int .i64 f] 27) := by show Blk _ _ _ _; rw [hw2.out]; exact Blk.new _ _ _
  clear alw2
  go_wp2_with fail
  rw [← hw2.out]
  refine (HIM.out _ E1.out).mono ?_
  rintro e w3 ⟨a3, c3, rfl, ho3, hb⟩
  replace B1 := hide_it (B1.out.trans (hb.mono B1.out.size))
  replace R1 := hide_it (R1.out.later hb (Nat.le_refl _))
  replace E1 := hide_it (E1.out.trans (hb.mono E1.out.size))
  replace L := hide_it (L.out.after hb)
  have V3 := hide_it (holds_of_row ho3)
  clear ho3
  clear hb
  obtain ⟨L_0, L_1, L_2, L_3, L_4⟩ := L.out.cells5
  have L_0a := fun o => cellAlloc L_0 o
  have L_1a := fun o => cellAlloc L_1 o
  have L_2a := fun o => cellAlloc L_2 o
  have L_3a := fun o => cellAlloc L_3 o
  have L_4a := fun o => cellAlloc L_4 o
  have L_lt := L.out.lt
  obtain ⟨w4, hw4⟩ : ∃ W, Hid (W = w3.alloc (.cells #[.int .i64 QR, .slice a3 QS.length c3] 32)) := ⟨_, rfl⟩
  have alw4 : Below w3.heap.size w3 w4 := by rw [hw4.out]; exact alloc_below _ _
  replace B1 := hide_it (B1.out.trans (alw4.mono B1.out.size))
  replace R1 := hide_it (R1.out.later alw4 (Nat.le_refl _))
  replace E1 := hide_it (E1.out.trans (alw4.mono E1.out.size))
  replace L := hide_it (L.out.after alw4)
  replace V3 := hide_it (V3.out.later alw4 (Nat.le_refl _))
  have X : Hid (Blk w4 (w3.heap.size) #[.int .i64 QR, .slice a3 QS.length c3] 32) := by show Blk _ _ _ _; rw [hw4.out]; exact Blk.new _ _ _
  clear alw4
  obtain ⟨L_0, L_1, L_2, L_3, L_4⟩ := L.out.cells5
  obtain ⟨X_0, X_1⟩ := X.out.cells2
  go_wp2_with fail
  rw [← hw4.out]
  clear L_0 L_1 L_2 L_3 L_4 L_0a L_1a L_2a L_3a L_4a L_lt X_0 X_1
  obtain ⟨L_0, L_1, L_2, L_3, L_4⟩ := L.out.cells5
  obtain ⟨X_0, X_1⟩ := X.out.cells2
  go_cut [31] (fun b W => b = .bool (!BB) ∧ Hid (Below w4.heap.size w4 W))
  case first =>
    first | (go_region_held (fun w' => (w'.cell? ⟨w1.heap.size, 0, none⟩ = some (.int .i64 id) ∧ w'.cell? ⟨w1.heap.size, 1, none⟩ = some (.bool up) ∧ w'.cell? ⟨w1.heap.size, 2, none⟩ = some (.int .i64 room) ∧ w'.cell? ⟨w1.heap.size, 3, none⟩ = some (.slice ao rs.length co) ∧ w'.cell? ⟨w1.heap.size, 4, none⟩ = some (.int .i64 f)) ∧ (w'.cell? ⟨w3.heap.size, 0, none⟩ = some (.int .i64 QR) ∧ w'.cell? ⟨w3.heap.size, 1, none⟩ = some (.slice a3 QS.length c3))) (go_keep)
      (first
      | (go_at_call 8; refine (HSP.out _ E1.out.drew).mono ?_; rintro e w5 ⟨a5, c5, rfl, ho5, hb5⟩; have N5 := hide_it (sk_drew hb5); have V5 := hide_it (holds_of_row ho5); obtain ⟨l50, l51, l52, l53, l54⟩ := (L.out.after N5.out).cells5; obtain ⟨x50, x51⟩ := (X.out.after N5.out).cells2; clear ho5 hb5)
      | (go_at_call 7; refine (lnStock_any QR _ _ QS _ (V3.out.later N5.out (Nat.le_refl _)) V5.out (by have := QL.out; omega)).mono ?_; rintro e w6 ⟨rfl, hb6⟩; have N6 := hide_it (N5.out.trans (hb6.mono N5.out.size)); obtain ⟨l60, l61, l62, l63, l64⟩ := (L.out.after N6.out).cells5; obtain ⟨x60, x61⟩ := (X.out.after N6.out).cells2; clear hb6)
      | (go_at_call 9; refine (HOK.out _ (E1.out.trans (N6.out.mono E1.out.size))).mono ?_; rintro e w7 ⟨rfl, hb7⟩; have N7 := hide_it (N6.out.trans (hb7.mono N6.out.size)); obtain ⟨l70, l71, l72, l73, l74⟩ := (L.out.after N7.out).cells5; obtain ⟨x70, x71⟩ := (X.out.after N7.out).cells2; clear hb7))) | fail
    all_goals
      go_wp2_with fail
      go_meet
      case rel => exact ⟨by first | rfl | simp, N7⟩
  case rest =>
    obtain ⟨rfl, N8⟩ := hcut
    rename World => wb
    clear L_0 L_1 L_2 L_3 L_4 X_0 X_1
    replace B1 := hide_it (B1.out.trans (N8.out.mono B1.out.size))
    replace R1 := hide_it (R1.out.later N8.out (Nat.le_refl _))
    replace E1 := hide_it (E1.out.trans (N8.out.mono E1.out.size))
    replace L := hide_it (L.out.after N8.out)
    replace V3 := hide_it (V3.out.later N8.out (Nat.le_refl _))
    replace X := hide_it (X.out.after N8.out)
    clear N8
    have E8 : Hid (Below wb.heap.size wb wb) := Below.refl _ _
    obtain ⟨L_0, L_1, L_2, L_3, L_4⟩ := L.out.cells5
    obtain ⟨X_0, X_1⟩ := X.out.cells2
    cases BB
    · go_wp2_with fail
      first | (go_region_held (fun w' => (w'.cell? ⟨w1.heap.size, 0, none⟩ = some (.int .i64 id) ∧ w'.cell? ⟨w1.heap.size, 1, none⟩ = some (.bool up) ∧ w'.cell? ⟨w1.heap.size, 2, none⟩ = some (.int .i64 room) ∧ w'.cell? ⟨w1.heap.size, 3, none⟩ = some (.slice ao rs.length co) ∧ w'.cell? ⟨w1.heap.size, 4, none⟩ = some (.int .i64 f)) ∧ (w'.cell? ⟨w3.heap.size, 0, none⟩ = some (.int .i64 QR) ∧ w'.cell? ⟨w3.heap.size, 1, none⟩ = some (.slice a3 QS.length c3))) (go_keep)
        (first
        | (go_at_call 8; refine (HSP.out _ E1.out.drew).mono ?_; rintro e w5 ⟨a5, c5, rfl, ho5, hb5⟩; have N5 := hide_it (sk_drew hb5); have V5 := hide_it (holds_of_row ho5); obtain ⟨l50, l51, l52, l53, l54⟩ := (L.out.after N5.out).cells5; obtain ⟨x50, x51⟩ := (X.out.after N5.out).cells2; clear ho5 hb5)
        | (go_at_call 7; refine (lnStock_any QR _ _ QS _ (V3.out.later N5.out (Nat.le_refl _)) V5.out (by have := QL.out; omega)).mono ?_; rintro e w6 ⟨rfl, hb6⟩; have N6 := hide_it (N5.out.trans (hb6.mono N5.out.size)); obtain ⟨l60, l61, l62, l63, l64⟩ := (L.out.after N6.out).cells5; obtain ⟨x60, x61⟩ := (X.out.after N6.out).cells2; clear hb6))) | fail
      all_goals
        go_wp2
        go_ret
        exact ⟨rfl, B1.out.trans (N6.out.mono B1.out.size)⟩
    · have hbb := hBB.out
      obtain ⟨ll0, ll1, ll2⟩ := logOk_f (hoOk_parts hbb).2.1
      obtain ⟨hsA, eA⟩ : ∃ hs, Pl.sOf room rs = some hs := by have := (hoOk_parts hbb).2.2; cases e : Pl.sOf room rs with | none => rw [e] at this; cases this | some hs => exact ⟨hs, rfl⟩
      obtain ⟨N, hN, hcut, hNt, hNf⟩ := cutR_pre fc ll0 ll1
      obtain ⟨hsN, eN⟩ := Pl.sOf_take N eA
      have eQ : QH = some hsN := by rw [← hQH.out]; unfold hsO; rw [if_pos hbb, hcut]; exact eN
      subst eQ
      obtain rfl : room = QR := hQR.out
      obtain rfl : hsN = QS := hQS.out
      have OKN : Pl.sOk room hsN = true := (Pl.sOf_ok eN).1
      have SO1 : Hid (∀ W, Below wb.heap.size wb W → Calls Tryd.prog 10 #[.int .i64 room, .slice ao N co] W fun e w' => StOut W w' e room hsN true) := fun W hb => by
        have := implOf_any room _ (rs.take N) a W ((R1.out.take hN).later hb (Nat.le_refl _)) (Nat.le_trans (pre_take rs N hN) hl) (HA.out _ (B1.out.trans (hb.mono B1.out.size)))
        rw [eN] at this; exact this
      have SO2 : Hid (∀ x y W, Holds W (.slice x hsN.length y) hsN → Calls Tryd.prog 12 #[.agg #[.int .i64 room, .slice x hsN.length y]] W fun e w' => e = .returned (.bool true) ∧ Below W.heap.size W w') := fun x y W h => by
        have := implStockOk_any room _ hsN W h (by have := QL.out; omega); rw [OKN] at this; exact this
      obtain ⟨F2, hF2⟩ : ∃ x : Int, Hid ((rs.length : Int) = x) := ⟨_, rfl⟩
      have SO3 : Hid (∀ W, Below wb.heap.size wb W → Calls Tryd.prog 11 #[houseV id true room (.slice ao rs.length co) f] W fun e w' => HoOut W w' e id true room rs F2) := fun W hb => by
        have := implHForce_any id true room _ rs f a W (R1.out.later hb (Nat.le_refl _)) hl (HA.out _ (B1.out.trans (hb.mono B1.out.size)))
        rw [show hoForce id true room rs f = (id, true, room, rs, F2) by simp [hoForce, hbb, hF2.out]] at this; exact this
      have eF2 : hsO id room rs F2 true = some hsA := by rw [← hF2.out, hsO_full hbb]; unfold hsO; rw [if_pos hbb]; exact eA
      have LA : Hid (hsA.length ≤ 6) := by show _ ≤ _; rw [(Pl.sOf_ok eA).2]; omega
      have SO4 : Hid (∀ x y W, Below wb.heap.size wb W → Recs W (.slice x rs.length y) rs → Form (.slice x rs.length y) rs.length → Calls Tryd.prog 6 #[houseV id true room (.slice x rs.length y) F2, .bool true] W fun e w' => SkOut W w' e room hsA) := fun x y W hb hR hf => by
        have := implHStock_any id true room _ rs F2 true a W hR hf hl (HA.out _ (B1.out.trans (hb.mono B1.out.size))); rw [eF2] at this; exact this
      have eF0 : hsO id room rs f false = some hsA := by unfold hsO; rw [if_pos hbb]; exact eA
      have SO5 : Hid (∀ W, Below wb.heap.size wb W → Calls Tryd.prog 6 #[houseV id up room (.slice ao rs.length co) f, .bool false] W fun e w' => SkOut W w' e room hsA) := fun W hb => by
        have := implHStock_any id up room _ rs f false a W (R1.out.later hb (Nat.le_refl _)) FM.out hl (HA.out _ (B1.out.trans (hb.mono B1.out.size))); rw [eF0] at this; exact this
      have hNt := hide_it hNt
      have hNf := hide_it hNf
      clear hbb ll0 ll1 ll2 eA hcut eN eF2 eF0 OKN hQH hBB HSP HIM HOK hQR hQS
      cases fc
      · have hNe := hNf.out rfl
        subst hNe
        clear hNt hNf
        have hco : rs.length ≤ co := by rcases FM.out with ⟨h, h2⟩ | ⟨g, cap, h, hc⟩ <;> simp only [Value.slice.injEq] at h <;> omega
        have hNc : (rs.length : Int) ≤ (co : Int) := by omega
        clear hco
        go_wp2_with fail
        clear L_0 L_1 L_2 L_3 L_4 X_0 X_1
        have KK : Hid (∀ W, Below wb.heap.size wb W → (W.cell? ⟨w1.heap.size, 0, none⟩ = some (.int .i64 id) ∧ W.cell? ⟨w1.heap.size, 1, none⟩ = some (.bool up) ∧ W.cell? ⟨w1.heap.size, 2, none⟩ = some (.int .i64 room) ∧ W.cell? ⟨w1.heap.size, 3, none⟩ = some (.slice ao rs.length co) ∧ W.cell? ⟨w1.heap.size, 4, none⟩ = some (.int .i64 f))) := fun W hb => (L.out.after hb).cells5
        obtain ⟨wd, hwd⟩ : ∃ W, Hid (W = wb.drew) := ⟨_, rfl⟩
        have Ld : Hid (Below wb.heap.size wb wd) := by show Below _ _ _; rw [hwd.out]; exact (Below.refl _ _).drew
        go_cut [7, 8] (fun p b W => ∃ (X : Nat) (a5 : Option Addr) (c5 : Nat), p = .pointer (some ⟨X, 0, none⟩) ∧ b = .bool true ∧ Hid (Blk W X #[.int .i64 room, .slice a5 hsN.length c5] 32) ∧ Hid (Holds W (.slice a5 hsN.length c5) hsN) ∧ Hid (Below wb.heap.size wb W))
        case first =>
          refine wp_region_held_drew (S := fun w' => (w'.cell? ⟨w1.heap.size, 0, none⟩ = some (.int .i64 id) ∧ w'.cell? ⟨w1.heap.size, 1, none⟩ = some (.bool up) ∧ w'.cell? ⟨w1.heap.size, 2, none⟩ = some (.int .i64 room) ∧ w'.cell? ⟨w1.heap.size, 3, none⟩ = some (.slice ao rs.length co) ∧ w'.cell? ⟨w1.heap.size, 4, none⟩ = some (.int .i64 f))) (by kernel_rfl) (KK.out _ (Below.refl _ _).drew) (fun hHeld => ?_)
          rw [← hwd.out] at hHeld ⊢
          refine takeD (i := 0) (v := ?_) (some 46) rfl rfl (by kernel_rfl) (by kernel_rfl) (by kernel_rfl) (fun _ _ _ h => h) (by rfl) hHeld ?_ ?_
          rotate_left
          · intro W hSw
            try dsimp only at hSw
            go_simp
            try with_reducible rfl
          try simp only [Act.put]
          try simp only [List.setIfInBounds_toArray]
          try simp only [List.set_cons_succ]
          try simp only [List.set_cons_zero]
          refine takeD (i := 1) (v := ?_) (some 47) rfl rfl (by kernel_rfl) (by kernel_rfl) (by kernel_rfl) (fun _ _ _ h => h) (by rfl) hHeld ?_ ?_
          rotate_left
          · intro W hSw
            try dsimp only at hSw
            go_simp
            try with_reducible rfl
          try simp only [Act.put]
          try simp only [List.setIfInBounds_toArray]
          try simp only [List.set_cons_succ]
          try simp only [List.set_cons_zero]
          refine takeD (i := 2) (v := ?_) (some 48) rfl rfl (by kernel_rfl) (by kernel_rfl) (by kernel_rfl) (fun _ _ _ h => h) (by rfl) hHeld ?_ ?_
          rotate_left
          · intro W hSw
            try dsimp only at hSw
            go_simp
            try with_reducible rfl
          try simp only [Act.put]
          try simp only [List.setIfInBounds_toArray]
          try simp only [List.set_cons_succ]
          try simp only [List.set_cons_zero]
          refine takeD (i := 3) (v := ?_) (some 49) rfl rfl (by kernel_rfl) (by kernel_rfl) (by kernel_rfl) (fun _ _ _ h => h) (by rfl) hHeld ?_ ?_
          rotate_left
          · intro W hSw
            try dsimp only at hSw
            go_simp
            try with_reducible rfl
          try simp only [Act.put]
          try simp only [List.setIfInBounds_toArray]
          try simp only [List.set_cons_succ]
          try simp only [List.set_cons_zero]
          refine takeD (i := 4) (v := ?_) (some 50) rfl rfl (by kernel_rfl) (by kernel_rfl) (by kernel_rfl) (fun _ _ _ h => h) (by rfl) hHeld ?_ ?_
          rotate_left
          · intro W hSw
            try dsimp only at hSw
            go_simp
            try with_reducible rfl
          try simp only [Act.put]
          try simp only [List.setIfInBounds_toArray]
          try simp only [List.set_cons_succ]
          try simp only [List.set_cons_zero]
          refine takeD (i := 5) (v := ?_) (some 51) rfl rfl (by kernel_rfl) (by kernel_rfl) (by kernel_rfl) (fun _ _ _ h => h) (by rfl) hHeld ?_ ?_
          rotate_left
          · intro W hSw
            try dsimp only at hSw
            go_simp
            try with_reducible rfl
          try simp only [Act.put]
          try simp only [List.setIfInBounds_toArray]
          try simp only [List.set_cons_succ]
          try simp only [List.set_cons_zero]
          refine takeD (i := 6) (v := ?_) (some 52) rfl rfl (by kernel_rfl) (by kernel_rfl) (by kernel_rfl) (fun _ _ _ h => h) (by rfl) hHeld ?_ ?_
          rotate_left
          · intro W hSw
            try dsimp only at hSw
            go_simp
            try with_reducible rfl
          try simp only [Act.put]
          try simp only [List.setIfInBounds_toArray]
          try simp only [List.set_cons_succ]
          try simp only [List.set_cons_zero]
          refine wpAnyH_ready (rs := [7, 11]) (by kernel_rfl) (by simp) ?_
          refine AllReadyH.cons rfl (fun K hK => ?_) (AllReadyH.cons rfl (fun K hK => ?_) AllReadyH.nil)
          · go_simp
            refine (SO1.out _ Ld.out).mono ?_
            rintro e wr1 ⟨a5, c5, rfl, ho5, hb5⟩
            have V1 : Hid (Holds wr1 (.slice a5 hsN.length c5) hsN) := hide_it (holds_of_row ho5)
            have O1 : Hid (∀ g, (Value.slice a5 hsN.length c5).ownBlock = some g → wd.heap.size ≤ g ∧ g < wr1.heap.size) := fun g hg => ho5.lt g hg
            have L1 : Hid (Below wb.heap.size wb wr1) := Ld.out.trans (hb5.mono Ld.out.size)
            clear ho5 hb5
            try dsimp only
            refine hK.out _ _ (KK.out _ L1.out) (fun hHeld => ?_)
            clear hK K
            refine takeD (i := 8) (v := ?_) (some 45) rfl rfl (by kernel_rfl) (by kernel_rfl) (by kernel_rfl) (fun _ _ _ h => h) (by rfl) hHeld ?_ ?_
            rotate_left
            · intro W hSw
              try dsimp only at hSw
              go_simp
              try with_reducible rfl
            try simp only [Act.put]
            try simp only [List.setIfInBounds_toArray]
            try simp only [List.set_cons_succ]
            try simp only [List.set_cons_zero]
            refine takeD (i := 9) (v := ?_) (some 54) rfl rfl (by kernel_rfl) (by kernel_rfl) (by kernel_rfl) (fun _ _ _ h => h) (by rfl) hHeld ?_ ?_
            rotate_left
            · intro W hSw
              try dsimp only at hSw
              go_simp
              try with_reducible rfl
            try simp only [Act.put]
            try simp only [List.setIfInBounds_toArray]
            try simp only [List.set_cons_succ]
            try simp only [List.set_cons_zero]
            refine takeD (i := 10) (v := ?_) (some 55) rfl rfl (by kernel_rfl) (by kernel_rfl) (by kernel_rfl) (fun _ _ _ h => h) (by rfl) hHeld ?_ ?_
            rotate_left
            · intro W hSw
              try dsimp only at hSw
              go_simp
              try with_reducible rfl
            try simp only [Act.put]
            try simp only [List.setIfInBounds_toArray]
            try simp only [List.set_cons_succ]
            try simp only [List.set_cons_zero]
            refine wpAnyH_ready (rs := [11]) (by kernel_rfl) (by simp) ?_
            refine AllReadyH.cons rfl (fun K hK => ?_) AllReadyH.nil
            go_simp
            obtain ⟨wr2, hwr2⟩ : ∃ W, Hid (W = wr1.alloc (.cells #[.int .i64 0, .slice none 0 0] 32)) := ⟨_, rfl⟩
            have al2 : Below wr1.heap.size wr1 wr2 := by rw [hwr2.out]; exact alloc_below _ _
            have L2 : Hid (Below wb.heap.size wb wr2) := L1.out.trans (al2.mono L1.out.size)
            have X2 : Hid (Blk wr2 wr1.heap.size #[.int .i64 0, .slice none 0 0] 32) := by show Blk _ _ _ _; rw [hwr2.out]; exact Blk.new _ _ _
            have V2 := hide_it (V1.out.later al2 (Nat.le_refl _))
            clear al2
            rw [← hwr2.out]
            try dsimp only
            refine hK.out _ _ (KK.out _ L2.out) (fun hHeld => ?_)
            clear hK K
            refine wpAnyH_ready (rs := [12]) (by kernel_rfl) (by simp) ?_
            refine AllReadyH.cons rfl (fun K hK => ?_) AllReadyH.nil
            go_simp
            obtain ⟨c0, c1⟩ := X2.out.cells2
            have cf0 := X2.out.free 0
            have cf1 := X2.out.free 1
            go_simp
            obtain ⟨wr3, hwr3⟩ : ∃ W, Hid (W = (wr2.setCell ⟨wr1.heap.size, 0, none⟩ (.int .i64 room)).setCell ⟨wr1.heap.size, 1, none⟩ (.slice a5 hsN.length c5)) := ⟨_, rfl⟩
            have XZ3 : Hid (Blk wr3 wr1.heap.size #[.int .i64 room, .slice a5 hsN.length c5] 32) := by
              show Blk _ _ _ _
              rw [hwr3.out]
              have := (X2.out.set_ 0 (.int .i64 room)).set_ 1 (.slice a5 hsN.length c5)
              simpa using this
            have NE3 : Hid (∀ g, (Value.slice a5 hsN.length c5).ownBlock = some g → wr1.heap.size ≠ g) := fun g hg => by have := O1.out g hg; omega
            have VZ3 : Hid (Holds wr3 (.slice a5 hsN.length c5) hsN) := by show Holds _ _ _; rw [hwr3.out]; exact (V2.out.setApart' (a := ⟨wr1.heap.size, 0, none⟩) NE3.out _).setApart' (a := ⟨wr1.heap.size, 1, none⟩) NE3.out _
            have hle3 : wb.heap.size ≤ wr1.heap.size := (L1.out.size)
            have L3 : Hid (Below wb.heap.size wb wr3) := by show Below _ _ _; rw [hwr3.out]; exact (L2.out.setCell (by simpa using hle3) _).setCell (by simpa using hle3) _
            rw [← hwr3.out]
            clear c0 c1 cf0 cf1
            try dsimp only
            refine hK.out _ _ (KK.out _ L3.out) (fun hHeld => ?_)
            clear hK K
            refine takeD (i := 13) (v := ?_) (some 8) rfl rfl (by kernel_rfl) (by kernel_rfl) (by kernel_rfl) (fun _ _ _ h => h) (by rfl) hHeld ?_ ?_
            rotate_left
            · intro W hSw
              try dsimp only at hSw
              go_simp
              try with_reducible rfl
            try simp only [Act.put]
            try simp only [List.setIfInBounds_toArray]
            try simp only [List.set_cons_succ]
            try simp only [List.set_cons_zero]
            refine wpAnyH_done (by kernel_rfl) ?_ _
            go_wp2_with fail
            go_meet
            case rel => exact ⟨_, a5, c5, rfl, rfl, XZ3, VZ3, L3⟩
          · go_simp
            obtain ⟨wr4, hwr4⟩ : ∃ W, Hid (W = wd.alloc (.cells #[.int .i64 0, .slice none 0 0] 32)) := ⟨_, rfl⟩
            have al4 : Below wd.heap.size wd wr4 := by rw [hwr4.out]; exact alloc_below _ _
            have L4 : Hid (Below wb.heap.size wb wr4) := Ld.out.trans (al4.mono Ld.out.size)
            have X4 : Hid (Blk wr4 wd.heap.size #[.int .i64 0, .slice none 0 0] 32) := by show Blk _ _ _ _; rw [hwr4.out]; exact Blk.new _ _ _
            clear al4
            rw [← hwr4.out]
            try dsimp only
            refine hK.out _ _ (KK.out _ L4.out) (fun hHeld => ?_)
            clear hK K
            refine wpAnyH_ready (rs := [7]) (by kernel_rfl) (by simp) ?_
            refine AllReadyH.cons rfl (fun K hK => ?_) AllReadyH.nil
            go_simp
            refine (SO1.out _ L4.out).mono ?_
            rintro e wr5 ⟨a5, c5, rfl, ho5, hb5⟩
            have V5 : Hid (Holds wr5 (.slice a5 hsN.length c5) hsN) := hide_it (holds_of_row ho5)
            have O5 : Hid (∀ g, (Value.slice a5 hsN.length c5).ownBlock = some g → wr4.heap.size ≤ g ∧ g < wr5.heap.size) := fun g hg => ho5.lt g hg
            have L5 : Hid (Below wb.heap.size wb wr5) := L4.out.trans (hb5.mono L4.out.size)
            have X5 := hide_it (X4.out.after hb5)
            have XL5 : Hid (wd.heap.size < wr4.heap.size) := X4.out.lt
            clear ho5 hb5
            try dsimp only
            refine hK.out _ _ (KK.out _ L5.out) (fun hHeld => ?_)
            clear hK K
            refine takeD (i := 8) (v := ?_) (some 45) rfl rfl (by kernel_rfl) (by kernel_rfl) (by kernel_rfl) (fun _ _ _ h => h) (by rfl) hHeld ?_ ?_
            rotate_left
            · intro W hSw
              try dsimp only at hSw
              go_simp
              try with_reducible rfl
            try simp only [Act.put]
            try simp only [List.setIfInBounds_toArray]
            try simp only [List.set_cons_succ]
            try simp only [List.set_cons_zero]
            refine takeD (i := 9) (v := ?_) (some 54) rfl rfl (by kernel_rfl) (by kernel_rfl) (by kernel_rfl) (fun _ _ _ h => h) (by rfl) hHeld ?_ ?_
            rotate_left
            · intro W hSw
              try dsimp only at hSw
              go_simp
              try with_reducible rfl
            try simp only [Act.put]
            try simp only [List.setIfInBounds_toArray]
            try simp only [List.set_cons_succ]
            try simp only [List.set_cons_zero]
            refine takeD (i := 10) (v := ?_) (some 55) rfl rfl (by kernel_rfl) (by kernel_rfl) (by kernel_rfl) (fun _ _ _ h => h) (by rfl) hHeld ?_ ?_
            rotate_left
            · intro W hSw
              try dsimp only at hSw
              go_simp
              try with_reducible rfl
            try simp only [Act.put]
            try simp only [List.setIfInBounds_toArray]
            try simp only [List.set_cons_succ]
            try simp only [List.set_cons_zero]
            refine wpAnyH_ready (rs := [12]) (by kernel_rfl) (by simp) ?_
            refine AllReadyH.cons rfl (fun K hK => ?_) AllReadyH.nil
            go_simp
            obtain ⟨c0, c1⟩ := X5.out.cells2
            have cf0 := X5.out.free 0
            have cf1 := X5.out.free 1
            go_simp
            obtain ⟨wr6, hwr6⟩ : ∃ W, Hid (W = (wr5.setCell ⟨wd.heap.size, 0, none⟩ (.int .i64 room)).setCell ⟨wd.heap.size, 1, none⟩ (.slice a5 hsN.length c5)) := ⟨_, rfl⟩
            have XZ6 : Hid (Blk wr6 wd.heap.size #[.int .i64 room, .slice a5 hsN.length c5] 32) := by
              show Blk _ _ _ _
              rw [hwr6.out]
              have := (X5.out.set_ 0 (.int .i64 room)).set_ 1 (.slice a5 hsN.length c5)
              simpa using this
            have NE6 : Hid (∀ g, (Value.slice a5 hsN.length c5).ownBlock = some g → wd.heap.size ≠ g) := fun g hg => by have := O5.out g hg; have := XL5.out; omega
            have VZ6 : Hid (Holds wr6 (.slice a5 hsN.length c5) hsN) := by show Holds _ _ _; rw [hwr6.out]; exact (V5.out.setApart' (a := ⟨wd.heap.size, 0, none⟩) NE6.out _).setApart' (a := ⟨wd.heap.size, 1, none⟩) NE6.out _
            have hle6 : wb.heap.size ≤ wd.heap.size := (Ld.out.size)
            have L6 : Hid (Below wb.heap.size wb wr6) := by show Below _ _ _; rw [hwr6.out]; exact (L5.out.setCell (by simpa using hle6) _).setCell (by simpa using hle6) _
            rw [← hwr6.out]
            clear c0 c1 cf0 cf1
            try dsimp only
            refine hK.out _ _ (KK.out _ L6.out) (fun hHeld => ?_)
            clear hK K
            refine takeD (i := 13) (v := ?_) (some 8) rfl rfl (by kernel_rfl) (by kernel_rfl) (by kernel_rfl) (fun _ _ _ h => h) (by rfl) hHeld ?_ ?_
            rotate_left
            · intro W hSw
              try dsimp only at hSw
              go_simp
              try with_reducible rfl
            try simp only [Act.put]
            try simp only [List.setIfInBounds_toArray]
            try simp only [List.set_cons_succ]
            try simp only [List.set_cons_zero]
            refine wpAnyH_done (by kernel_rfl) ?_ _
            go_wp2_with fail
            go_meet
            case rel => exact ⟨_, a5, c5, rfl, rfl, XZ6, VZ6, L6⟩
        case rest =>
          obtain ⟨X9, a9, c9, rfl, rfl, XB, VB, LB0⟩ := hcut
          replace B1 := hide_it (B1.out.trans (LB0.out.mono B1.out.size))
          replace R1 := hide_it (R1.out.later LB0.out (Nat.le_refl _))
          replace E1 := hide_it (E1.out.trans (LB0.out.mono E1.out.size))
          replace L := hide_it (L.out.after LB0.out)
          replace V3 := hide_it (V3.out.later LB0.out (Nat.le_refl _))
          replace X := hide_it (X.out.after LB0.out)
          replace E8 := hide_it (E8.out.trans (LB0.out.mono E8.out.size))
          clear LB0
          obtain ⟨L_0, L_1, L_2, L_3, L_4⟩ := L.out.cells5
          have L_0a := fun o => cellAlloc L_0 o
          have L_1a := fun o => cellAlloc L_1 o
          have L_2a := fun o => cellAlloc L_2 o
          have L_3a := fun o => cellAlloc L_3 o
          have L_4a := fun o => cellAlloc L_4 o
          have L_lt := L.out.lt
          have p_B1 := B1
          have p_R1 := R1
          have p_E1 := E1
          have p_L := L
          have p_V3 := V3
          have p_X := X
          have p_E8 := E8
          have p_XB := XB
          have p_VB := VB
          have PB : Hid (Below wc.heap.size wc wc) := Below.refl _ _
          obtain ⟨w42, hw42⟩ : ∃ W, Hid (W = wc.alloc (.cells #[.int .i64 id, .bool true, .int .i64 room, .slice ao rs.length co, .int .i64 f] 27)) := ⟨_, rfl⟩
          have alw42 : Below wc.heap.size wc w42 := by rw [hw42.out]; exact alloc_below _ _
          replace B1 := hide_it (B1.out.trans (alw42.mono B1.out.size))
          replace R1 := hide_it (R1.out.later alw42 (Nat.le_refl _))
          replace E1 := hide_it (E1.out.trans (alw42.mono E1.out.size))
          replace L := hide_it (L.out.after alw42)
          replace V3 := hide_it (V3.out.later alw42 (Nat.le_refl _))
          replace X := hide_it (X.out.after alw42)
          replace E8 := hide_it (E8.out.trans (alw42.mono E8.out.size))
          replace XB := hide_it (XB.out.after alw42)
          replace VB := hide_it (VB.out.later alw42 (Nat.le_refl _))
          replace PB := hide_it (PB.out.trans (alw42.mono PB.out.size))
          have Y : Hid (Blk w42 (wc.heap.size) #[.int .i64 id, .bool true, .int .i64 room, .slice ao rs.length co, .int .i64 f] 27) := by show Blk _ _ _ _; rw [hw42.out]; exact Blk.new _ _ _
          clear alw42
          obtain ⟨Y_0, Y_1, Y_2, Y_3, Y_4⟩ := Y.out.cells5
          obtain ⟨L_0, L_1, L_2, L_3, L_4⟩ := L.out.cells5
          go_wp2_with fail
          rw [← hw42.out]
          refine (SO3.out _ E8.out).mono ?_
          rintro e w43 ⟨a10, c10, rfl, hm10, hb⟩
          clear L_0 L_1 L_2 L_3 L_4 L_0a L_1a L_2a L_3a L_4a L_lt Y_0 Y_1 Y_2 Y_3 Y_4
          replace B1 := hide_it (B1.out.trans (hb.mono B1.out.size))
          replace R1 := hide_it (R1.out.later hb (Nat.le_refl _))
          replace E1 := hide_it (E1.out.trans (hb.mono E1.out.size))
          replace L := hide_it (L.out.after hb)
          replace V3 := hide_it (V3.out.later hb (Nat.le_refl _))
          replace X := hide_it (X.out.after hb)
          replace E8 := hide_it (E8.out.trans (hb.mono E8.out.size))
          replace XB := hide_it (XB.out.after hb)
          replace VB := hide_it (VB.out.later hb (Nat.le_refl _))
          replace PB := hide_it (PB.out.trans (hb.mono PB.out.size))
          replace Y := hide_it (Y.out.after hb)
          have M10 := hide_it hm10
          clear hm10
          clear hb
          obtain ⟨Y_0, Y_1, Y_2, Y_3, Y_4⟩ := Y.out.cells5
          have Y_f0 := Y.out.free 0
          have Y_f1 := Y.out.free 1
          have Y_f2 := Y.out.free 2
          have Y_f3 := Y.out.free 3
          have Y_f4 := Y.out.free 4
          go_wp2_with fail
          obtain ⟨w44, hw44⟩ : ∃ W, Hid (W = ((((w43.setCell ⟨wc.heap.size, 0, none⟩ (.int .i64 id)).setCell ⟨wc.heap.size, 1, none⟩ (.bool true)).setCell ⟨wc.heap.size, 2, none⟩ (.int .i64 room)).setCell ⟨wc.heap.size, 3, none⟩ (.slice a10 rs.length c10)).setCell ⟨wc.heap.size, 4, none⟩ (.int .i64 F2)) := ⟨_, rfl⟩
          have hmw44 : Below wc.heap.size wc w44 := by rw [hw44.out]; exact ((((PB.out.setCell (by simp) _).setCell (by simp) _).setCell (by simp) _).setCell (by simp) _).setCell (by simp) _
          have MM : Hid (Made w44 w42.heap.size (.slice a10 rs.length c10) rs) := by show Made _ _ _ _; rw [hw44.out]; exact (((((M10.out.setHouse Y.out (.int .i64 id)).setHouse (Y.out.set_ 0 (.int .i64 id)) (.bool true)).setHouse ((Y.out.set_ 0 (.int .i64 id)).set_ 1 (.bool true)) (.int .i64 room)).setHouse (((Y.out.set_ 0 (.int .i64 id)).set_ 1 (.bool true)).set_ 2 (.int .i64 room)) (.slice a10 rs.length c10)).setHouse ((((Y.out.set_ 0 (.int .i64 id)).set_ 1 (.bool true)).set_ 2 (.int .i64 room)).set_ 3 (.slice a10 rs.length c10)) (.int .i64 F2))
          have R10 := hide_it MM.out.recs
          have F10 := hide_it (form_made MM.out)
          clear MM M10
          have Yn : Hid (Blk w44 wc.heap.size #[.int .i64 id, .bool true, .int .i64 room, .slice a10 rs.length c10, .int .i64 F2] 27) := by have := (((((Y.out.set_ 0 (.int .i64 id)).set_ 1 (.bool true)).set_ 2 (.int .i64 room)).set_ 3 (.slice a10 rs.length c10)).set_ 4 (.int .i64 F2)); show Blk _ _ _ _; rw [hw44.out]; simpa using this
          clear Y_0 Y_1 Y_2 Y_3 Y_4 Y_f0 Y_f1 Y_f2 Y_f3 Y_f4
          replace B1 := hide_it (p_B1.out.trans (hmw44.mono p_B1.out.size))
          replace R1 := hide_it (p_R1.out.later hmw44 (Nat.le_refl _))
          replace E1 := hide_it (p_E1.out.trans (hmw44.mono p_E1.out.size))
          replace L := hide_it (p_L.out.after hmw44)
          replace V3 := hide_it (p_V3.out.later hmw44 (Nat.le_refl _))
          replace X := hide_it (p_X.out.after hmw44)
          replace E8 := hide_it (p_E8.out.trans (hmw44.mono p_E8.out.size))
          replace XB := hide_it (p_XB.out.after hmw44)
          replace VB := hide_it (p_VB.out.later hmw44 (Nat.le_refl _))
          replace Y := Yn
          clear Yn hmw44 PB p_B1 p_R1 p_E1 p_L p_V3 p_X p_E8 p_XB p_VB
          rw [← hw44.out]
          obtain ⟨L_0, L_1, L_2, L_3, L_4⟩ := L.out.cells5
          obtain ⟨X_0, X_1⟩ := X.out.cells2
          obtain ⟨XB_0, XB_1⟩ := XB.out.cells2
          obtain ⟨Y_0, Y_1, Y_2, Y_3, Y_4⟩ := Y.out.cells5
          go_wp2_with fail
          have KB : Hid (∀ W, Below w44.heap.size w44 W → (W.cell? ⟨X9, 0, none⟩ = some (.int .i64 room) ∧ W.cell? ⟨X9, 1, none⟩ = some (.slice a9 hsN.length c9)) ∧ (W.cell? ⟨w3.heap.size, 0, none⟩ = some (.int .i64 room) ∧ W.cell? ⟨w3.heap.size, 1, none⟩ = some (.slice a3 hsN.length c3)) ∧ (W.cell? ⟨wc.heap.size, 0, none⟩ = some (.int .i64 id) ∧ W.cell? ⟨wc.heap.size, 1, none⟩ = some (.bool true) ∧ W.cell? ⟨wc.heap.size, 2, none⟩ = some (.int .i64 room) ∧ W.cell? ⟨wc.heap.size, 3, none⟩ = some (.slice a10 rs.length c10) ∧ W.cell? ⟨wc.heap.size, 4, none⟩ = some (.int .i64 F2)) ∧ (W.cell? ⟨w1.heap.size, 0, none⟩ = some (.int .i64 id) ∧ W.cell? ⟨w1.heap.size, 1, none⟩ = some (.bool up) ∧ W.cell? ⟨w1.heap.size, 2, none⟩ = some (.int .i64 room) ∧ W.cell? ⟨w1.heap.size, 3, none⟩ = some (.slice ao rs.length co) ∧ W.cell? ⟨w1.heap.size, 4, none⟩ = some (.int .i64 f))) := fun W hb => ⟨(XB.out.after hb).cells2, (X.out.after hb).cells2, (Y.out.after hb).cells5, (L.out.after hb).cells5⟩
          clear L_0 L_1 L_2 L_3 L_4 X_0 X_1 XB_0 XB_1 Y_0 Y_1 Y_2 Y_3 Y_4
          have LB : Hid (Below w44.heap.size w44 w44) := Below.refl _ _
          have hdr : Below w44.heap.size w44 w44.drew := (Below.refl _ _).drew
          replace B1 := hide_it (B1.out.trans (hdr.mono B1.out.size))
          replace R1 := hide_it (R1.out.later hdr (Nat.le_refl _))
          replace E1 := hide_it (E1.out.trans (hdr.mono E1.out.size))
          replace L := hide_it (L.out.after hdr)
          replace V3 := hide_it (V3.out.later hdr (Nat.le_refl _))
          replace X := hide_it (X.out.after hdr)
          replace E8 := hide_it (E8.out.trans (hdr.mono E8.out.size))
          replace XB := hide_it (XB.out.after hdr)
          replace VB := hide_it (VB.out.later hdr (Nat.le_refl _))
          replace Y := hide_it (Y.out.after hdr)
          replace R10 := hide_it (R10.out.later hdr (Nat.le_refl _))
          replace LB := hide_it (LB.out.trans (hdr.mono LB.out.size))
          clear hdr
          refine wp_region_held_drew (S := fun w' => (w'.cell? ⟨X9, 0, none⟩ = some (.int .i64 room) ∧ w'.cell? ⟨X9, 1, none⟩ = some (.slice a9 hsN.length c9)) ∧ (w'.cell? ⟨w3.heap.size, 0, none⟩ = some (.int .i64 room) ∧ w'.cell? ⟨w3.heap.size, 1, none⟩ = some (.slice a3 hsN.length c3)) ∧ (w'.cell? ⟨wc.heap.size, 0, none⟩ = some (.int .i64 id) ∧ w'.cell? ⟨wc.heap.size, 1, none⟩ = some (.bool true) ∧ w'.cell? ⟨wc.heap.size, 2, none⟩ = some (.int .i64 room) ∧ w'.cell? ⟨wc.heap.size, 3, none⟩ = some (.slice a10 rs.length c10) ∧ w'.cell? ⟨wc.heap.size, 4, none⟩ = some (.int .i64 F2)) ∧ (w'.cell? ⟨w1.heap.size, 0, none⟩ = some (.int .i64 id) ∧ w'.cell? ⟨w1.heap.size, 1, none⟩ = some (.bool up) ∧ w'.cell? ⟨w1.heap.size, 2, none⟩ = some (.int .i64 room) ∧ w'.cell? ⟨w1.heap.size, 3, none⟩ = some (.slice ao rs.length co) ∧ w'.cell? ⟨w1.heap.size, 4, none⟩ = some (.int .i64 f))) (by kernel_rfl) (KB.out _ (Below.refl _ _).drew) (fun hHeld => ?_)
          refine takeD (i := 0) (v := ?_) (some 60) rfl rfl (by kernel_rfl) (by kernel_rfl) (by kernel_rfl) (fun _ _ _ h => h) (by rfl) hHeld ?_ ?_
          rotate_left
          · intro W hSw
            try dsimp only at hSw
            go_simp
            try with_reducible rfl
          try simp only [Act.put]
          try simp only [List.setIfInBounds_toArray]
          try simp only [List.set_cons_succ]
          try simp only [List.set_cons_zero]
          refine takeD (i := 1) (v := ?_) (some 61) rfl rfl (by kernel_rfl) (by kernel_rfl) (by kernel_rfl) (fun _ _ _ h => h) (by rfl) hHeld ?_ ?_
          rotate_left
          · intro W hSw
            try dsimp only at hSw
            go_simp
            try with_reducible rfl
          try simp only [Act.put]
          try simp only [List.setIfInBounds_toArray]
          try simp only [List.set_cons_succ]
          try simp only [List.set_cons_zero]
          refine takeD (i := 2) (v := ?_) (some 62) rfl rfl (by kernel_rfl) (by kernel_rfl) (by kernel_rfl) (fun _ _ _ h => h) (by rfl) hHeld ?_ ?_
          rotate_left
          · intro W hSw
            try dsimp only at hSw
            go_simp
            try with_reducible rfl
          try simp only [Act.put]
          try simp only [List.setIfInBounds_toArray]
          try simp only [List.set_cons_succ]
          try simp only [List.set_cons_zero]
          refine takeD (i := 3) (v := ?_) (some 63) rfl rfl (by kernel_rfl) (by kernel_rfl) (by kernel_rfl) (fun _ _ _ h => h) (by rfl) hHeld ?_ ?_
          rotate_left
          · intro W hSw
            try dsimp only at hSw
            go_simp
            try with_reducible rfl
          try simp only [Act.put]
          try simp only [List.setIfInBounds_toArray]
          try simp only [List.set_cons_succ]
          try simp only [List.set_cons_zero]
          refine wpAnyH_ready (rs := [4]) (by kernel_rfl) (by simp) ?_
          refine AllReadyH.cons rfl (fun K hK => ?_) AllReadyH.nil
          go_simp
          refine (lnStock_any room _ _ hsN _ VB.out V3.out (by have := QL.out; omega)).mono ?_
          rintro e w45 ⟨rfl, hb⟩
          replace B1 := hide_it (B1.out.trans (hb.mono B1.out.size))
          replace R1 := hide_it (R1.out.later hb (Nat.le_refl _))
          replace E1 := hide_it (E1.out.trans (hb.mono E1.out.size))
          replace L := hide_it (L.out.after hb)
          replace V3 := hide_it (V3.out.later hb (Nat.le_refl _))
          replace X := hide_it (X.out.after hb)
          replace E8 := hide_it (E8.out.trans (hb.mono E8.out.size))
          replace XB := hide_it (XB.out.after hb)
          replace VB := hide_it (VB.out.later hb (Nat.le_refl _))
          replace Y := hide_it (Y.out.after hb)
          replace R10 := hide_it (R10.out.later hb (Nat.le_refl _))
          replace LB := hide_it (LB.out.trans (hb.mono LB.out.size))
          clear hb
          try dsimp only
          refine hK.out _ _ (KB.out _ LB.out) (fun hHeld => ?_)
          clear hK K
          refine takeD (i := 5) (v := ?_) (some 65) rfl rfl (by kernel_rfl) (by kernel_rfl) (by kernel_rfl) (fun _ _ _ h => h) (by rfl) hHeld ?_ ?_
          rotate_left
          · intro W hSw
            try dsimp only at hSw
            go_simp
            try with_reducible rfl
          try simp only [Act.put]
          try simp only [List.setIfInBounds_toArray]
          try simp only [List.set_cons_succ]
          try simp only [List.set_cons_zero]
          refine takeD (i := 6) (v := ?_) (some 66) rfl rfl (by kernel_rfl) (by kernel_rfl) (by kernel_rfl) (fun _ _ _ h => h) (by rfl) hHeld ?_ ?_
          rotate_left
          · intro W hSw
            try dsimp only at hSw
            go_simp
            try with_reducible rfl
          try simp only [Act.put]
          try simp only [List.setIfInBounds_toArray]
          try simp only [List.set_cons_succ]
          try simp only [List.set_cons_zero]
          refine takeD (i := 7) (v := ?_) (some 67) rfl rfl (by kernel_rfl) (by kernel_rfl) (by kernel_rfl) (fun _ _ _ h => h) (by rfl) hHeld ?_ ?_
          rotate_left
          · intro W hSw
            try dsimp only at hSw
            go_simp
            try with_reducible rfl
          try simp only [Act.put]
          try simp only [List.setIfInBounds_toArray]
          try simp only [List.set_cons_succ]
          try simp only [List.set_cons_zero]
          refine wpAnyH_ready (rs := [8]) (by kernel_rfl) (by simp) ?_
          refine AllReadyH.cons rfl (fun K hK => ?_) AllReadyH.nil
          go_simp
          refine (SO2.out _ _ _ V3.out).mono ?_
          rintro e w46 ⟨rfl, hb⟩
          replace B1 := hide_it (B1.out.trans (hb.mono B1.out.size))
          replace R1 := hide_it (R1.out.later hb (Nat.le_refl _))
          replace E1 := hide_it (E1.out.trans (hb.mono E1.out.size))
          replace L := hide_it (L.out.after hb)
          replace V3 := hide_it (V3.out.later hb (Nat.le_refl _))
          replace X := hide_it (X.out.after hb)
          replace E8 := hide_it (E8.out.trans (hb.mono E8.out.size))
          replace XB := hide_it (XB.out.after hb)
          replace VB := hide_it (VB.out.later hb (Nat.le_refl _))
          replace Y := hide_it (Y.out.after hb)
          replace R10 := hide_it (R10.out.later hb (Nat.le_refl _))
          replace LB := hide_it (LB.out.trans (hb.mono LB.out.size))
          clear hb
          try dsimp only
          refine hK.out _ _ (KB.out _ LB.out) (fun hHeld => ?_)
          clear hK K
          refine takeD (i := 9) (v := ?_) (some 69) rfl rfl (by kernel_rfl) (by kernel_rfl) (by kernel_rfl) (fun _ _ _ h => h) (by rfl) hHeld ?_ ?_
          rotate_left
          · intro W hSw
            try dsimp only at hSw
            go_simp
            try with_reducible rfl
          try simp only [Act.put]
          try simp only [List.setIfInBounds_toArray]
          try simp only [List.set_cons_succ]
          try simp only [List.set_cons_zero]
          refine takeD (i := 10) (v := ?_) (some 70) rfl rfl (by kernel_rfl) (by kernel_rfl) (by kernel_rfl) (fun _ _ _ h => h) (by rfl) hHeld ?_ ?_
          rotate_left
          · intro W hSw
            try dsimp only at hSw
            go_simp
            try with_reducible rfl
          try simp only [Act.put]
          try simp only [List.setIfInBounds_toArray]
          try simp only [List.set_cons_succ]
          try simp only [List.set_cons_zero]
          refine takeD (i := 11) (v := ?_) (some 71) rfl rfl (by kernel_rfl) (by kernel_rfl) (by kernel_rfl) (fun _ _ _ h => h) (by rfl) hHeld ?_ ?_
          rotate_left
          · intro W hSw
            try dsimp only at hSw
            go_simp
            try with_reducible rfl
          try simp only [Act.put]
          try simp only [List.setIfInBounds_toArray]
          try simp only [List.set_cons_succ]
          try simp only [List.set_cons_zero]
          refine takeD (i := 13) (v := ?_) (some 73) rfl rfl (by kernel_rfl) (by kernel_rfl) (by kernel_rfl) (fun _ _ _ h => h) (by rfl) hHeld ?_ ?_
          rotate_left
          · intro W hSw
            try dsimp only at hSw
            go_simp
            try with_reducible rfl
          try simp only [Act.put]
          try simp only [List.setIfInBounds_toArray]
          try simp only [List.set_cons_succ]
          try simp only [List.set_cons_zero]
          refine wpAnyH_ready (rs := [12]) (by kernel_rfl) (by simp) ?_
          refine AllReadyH.cons rfl (fun K hK => ?_) AllReadyH.nil
          go_simp
          refine (SO4.out _ _ _ E8.out R10.out F10.out).mono ?_
          rintro e w47 ⟨a12, c12, rfl, ho12, hb⟩
          replace B1 := hide_it (B1.out.trans (hb.mono B1.out.size))
          replace R1 := hide_it (R1.out.later hb (Nat.le_refl _))
          replace E1 := hide_it (E1.out.trans (hb.mono E1.out.size))
          replace L := hide_it (L.out.after hb)
          replace V3 := hide_it (V3.out.later hb (Nat.le_refl _))
          replace X := hide_it (X.out.after hb)
          replace E8 := hide_it (E8.out.trans (hb.mono E8.out.size))
          replace XB := hide_it (XB.out.after hb)
          replace VB := hide_it (VB.out.later hb (Nat.le_refl _))
          replace Y := hide_it (Y.out.after hb)
          replace R10 := hide_it (R10.out.later hb (Nat.le_refl _))
          replace LB := hide_it (LB.out.trans (hb.mono LB.out.size))
          have H12 := hide_it (holds_of_row ho12)
          clear ho12
          clear hb
          try dsimp only
          refine hK.out _ _ (KB.out _ LB.out) (fun hHeld => ?_)
          clear hK K
          refine wpAnyH_ready (rs := [14]) (by kernel_rfl) (by simp) ?_
          refine AllReadyH.cons rfl (fun K hK => ?_) AllReadyH.nil
          go_simp
          refine (SO5.out _ E8.out).mono ?_
          rintro e w48 ⟨a14, c14, rfl, ho14, hb⟩
          replace B1 := hide_it (B1.out.trans (hb.mono B1.out.size))
          replace R1 := hide_it (R1.out.later hb (Nat.le_refl _))
          replace E1 := hide_it (E1.out.trans (hb.mono E1.out.size))
          replace L := hide_it (L.out.after hb)
          replace V3 := hide_it (V3.out.later hb (Nat.le_refl _))
          replace X := hide_it (X.out.after hb)
          replace E8 := hide_it (E8.out.trans (hb.mono E8.out.size))
          replace XB := hide_it (XB.out.after hb)
          replace VB := hide_it (VB.out.later hb (Nat.le_refl _))
          replace Y := hide_it (Y.out.after hb)
          replace R10 := hide_it (R10.out.later hb (Nat.le_refl _))
          replace LB := hide_it (LB.out.trans (hb.mono LB.out.size))
          have H14 := hide_it (holds_of_row ho14)
          have J12 := hide_it (H12.out.later hb (Nat.le_refl _))
          clear ho14
          clear hb
          try dsimp only
          refine hK.out _ _ (KB.out _ LB.out) (fun hHeld => ?_)
          clear hK K
          refine wpAnyH_ready (rs := [15]) (by kernel_rfl) (by simp) ?_
          refine AllReadyH.cons rfl (fun K hK => ?_) AllReadyH.nil
          go_simp
          refine (lnStock_any room _ _ hsA _ J12.out H14.out (by have := LA.out; omega)).mono ?_
          rintro e w49 ⟨rfl, hb⟩
          replace B1 := hide_it (B1.out.trans (hb.mono B1.out.size))
          replace R1 := hide_it (R1.out.later hb (Nat.le_refl _))
          replace E1 := hide_it (E1.out.trans (hb.mono E1.out.size))
          replace L := hide_it (L.out.after hb)
          replace V3 := hide_it (V3.out.later hb (Nat.le_refl _))
          replace X := hide_it (X.out.after hb)
          replace E8 := hide_it (E8.out.trans (hb.mono E8.out.size))
          replace XB := hide_it (XB.out.after hb)
          replace VB := hide_it (VB.out.later hb (Nat.le_refl _))
          replace Y := hide_it (Y.out.after hb)
          replace R10 := hide_it (R10.out.later hb (Nat.le_refl _))
          replace LB := hide_it (LB.out.trans (hb.mono LB.out.size))
          clear hb
          try dsimp only
          refine hK.out _ _ (KB.out _ LB.out) (fun hHeld => ?_)
          clear hK K
          refine takeD (i := 16) (v := ?_) (some 76) rfl rfl (by kernel_rfl) (by kernel_rfl) (by kernel_rfl) (fun _ _ _ h => h) (by rfl) hHeld ?_ ?_
          rotate_left
          · intro W hSw
            try dsimp only at hSw
            go_simp
            try with_reducible rfl
          try simp only [Act.put]
          try simp only [List.setIfInBounds_toArray]
          try simp only [List.set_cons_succ]
          try simp only [List.set_cons_zero]
          refine takeD (i := 17) (v := ?_) (some 2) rfl rfl (by kernel_rfl) (by kernel_rfl) (by kernel_rfl) (fun _ _ _ h => h) (by rfl) hHeld ?_ ?_
          rotate_left
          · intro W hSw
            try dsimp only at hSw
            go_simp
            try with_reducible rfl
          try simp only [Act.put]
          try simp only [List.setIfInBounds_toArray]
          try simp only [List.set_cons_succ]
          try simp only [List.set_cons_zero]
          refine wpAnyH_done (by kernel_rfl) ?_ _
          clear KB LB
          go_wp2
          go_ret
          exact ⟨rfl, B1.out⟩
      · have hNe := hNt.out rfl
        obtain rfl : f = (N : Int) := hNe.symm
        clear hNt hNf
        have hco : rs.length ≤ co := by rcases FM.out with ⟨h, h2⟩ | ⟨g, cap, h, hc⟩ <;> simp only [Value.slice.injEq] at h <;> omega
        have hNc : (N : Int) ≤ (co : Int) := by omega
        clear hco
        go_wp2_with fail
        clear L_0 L_1 L_2 L_3 L_4 X_0 X_1
        have KK : Hid (∀ W, Below wb.heap.size wb W → (W.cell? ⟨w1.heap.size, 0, none⟩ = some (.int .i64 id) ∧ W.cell? ⟨w1.heap.size, 1, none⟩ = some (.bool up) ∧ W.cell? ⟨w1.heap.size, 2, none⟩ = some (.int .i64 room) ∧ W.cell? ⟨w1.heap.size, 3, none⟩ = some (.slice ao rs.length co) ∧ W.cell? ⟨w1.heap.size, 4, none⟩ = some (.int .i64 N))) := fun W hb => (L.out.after hb).cells5
        obtain ⟨wd, hwd⟩ : ∃ W, Hid (W = wb.drew) := ⟨_, rfl⟩
        have Ld : Hid (Below wb.heap.size wb wd) := by show Below _ _ _; rw [hwd.out]; exact (Below.refl _ _).drew
        go_cut [7, 8] (fun p b W => ∃ (X : Nat) (a5 : Option Addr) (c5 : Nat), p = .pointer (some ⟨X, 0, none⟩) ∧ b = .bool true ∧ Hid (Blk W X #[.int .i64 room, .slice a5 hsN.length c5] 32) ∧ Hid (Holds W (.slice a5 hsN.length c5) hsN) ∧ Hid (Below wb.heap.size wb W))
        case first =>
          refine wp_region_held_drew (S := fun w' => (w'.cell? ⟨w1.heap.size, 0, none⟩ = some (.int .i64 id) ∧ w'.cell? ⟨w1.heap.size, 1, none⟩ = some (.bool up) ∧ w'.cell? ⟨w1.heap.size, 2, none⟩ = some (.int .i64 room) ∧ w'.cell? ⟨w1.heap.size, 3, none⟩ = some (.slice ao rs.length co) ∧ w'.cell? ⟨w1.heap.size, 4, none⟩ = some (.int .i64 N))) (by kernel_rfl) (KK.out _ (Below.refl _ _).drew) (fun hHeld => ?_)
          rw [← hwd.out] at hHeld ⊢
          refine takeD (i := 0) (v := ?_) (some 46) rfl rfl (by kernel_rfl) (by kernel_rfl) (by kernel_rfl) (fun _ _ _ h => h) (by rfl) hHeld ?_ ?_
          rotate_left
          · intro W hSw
            try dsimp only at hSw
            go_simp
            try with_reducible rfl
          try simp only [Act.put]
          try simp only [List.setIfInBounds_toArray]
          try simp only [List.set_cons_succ]
          try simp only [List.set_cons_zero]
          refine takeD (i := 1) (v := ?_) (some 47) rfl rfl (by kernel_rfl) (by kernel_rfl) (by kernel_rfl) (fun _ _ _ h => h) (by rfl) hHeld ?_ ?_
          rotate_left
          · intro W hSw
            try dsimp only at hSw
            go_simp
            try with_reducible rfl
          try simp only [Act.put]
          try simp only [List.setIfInBounds_toArray]
          try simp only [List.set_cons_succ]
          try simp only [List.set_cons_zero]
          refine takeD (i := 2) (v := ?_) (some 48) rfl rfl (by kernel_rfl) (by kernel_rfl) (by kernel_rfl) (fun _ _ _ h => h) (by rfl) hHeld ?_ ?_
          rotate_left
          · intro W hSw
            try dsimp only at hSw
            go_simp
            try with_reducible rfl
          try simp only [Act.put]
          try simp only [List.setIfInBounds_toArray]
          try simp only [List.set_cons_succ]
          try simp only [List.set_cons_zero]
          refine takeD (i := 3) (v := ?_) (some 49) rfl rfl (by kernel_rfl) (by kernel_rfl) (by kernel_rfl) (fun _ _ _ h => h) (by rfl) hHeld ?_ ?_
          rotate_left
          · intro W hSw
            try dsimp only at hSw
            go_simp
            try with_reducible rfl
          try simp only [Act.put]
          try simp only [List.setIfInBounds_toArray]
          try simp only [List.set_cons_succ]
          try simp only [List.set_cons_zero]
          refine takeD (i := 4) (v := ?_) (some 50) rfl rfl (by kernel_rfl) (by kernel_rfl) (by kernel_rfl) (fun _ _ _ h => h) (by rfl) hHeld ?_ ?_
          rotate_left
          · intro W hSw
            try dsimp only at hSw
            go_simp
            try with_reducible rfl
          try simp only [Act.put]
          try simp only [List.setIfInBounds_toArray]
          try simp only [List.set_cons_succ]
          try simp only [List.set_cons_zero]
          refine takeD (i := 5) (v := ?_) (some 51) rfl rfl (by kernel_rfl) (by kernel_rfl) (by kernel_rfl) (fun _ _ _ h => h) (by rfl) hHeld ?_ ?_
          rotate_left
          · intro W hSw
            try dsimp only at hSw
            go_simp
            try with_reducible rfl
          try simp only [Act.put]
          try simp only [List.setIfInBounds_toArray]
          try simp only [List.set_cons_succ]
          try simp only [List.set_cons_zero]
          refine takeD (i := 6) (v := ?_) (some 52) rfl rfl (by kernel_rfl) (by kernel_rfl) (by kernel_rfl) (fun _ _ _ h => h) (by rfl) hHeld ?_ ?_
          rotate_left
          · intro W hSw
            try dsimp only at hSw
            go_simp
            try with_reducible rfl
          try simp only [Act.put]
          try simp only [List.setIfInBounds_toArray]
          try simp only [List.set_cons_succ]
          try simp only [List.set_cons_zero]
          refine wpAnyH_ready (rs := [7, 11]) (by kernel_rfl) (by simp) ?_
          refine AllReadyH.cons rfl (fun K hK => ?_) (AllReadyH.cons rfl (fun K hK => ?_) AllReadyH.nil)
          · go_simp
            refine (SO1.out _ Ld.out).mono ?_
            rintro e wr1 ⟨a5, c5, rfl, ho5, hb5⟩
            have V1 : Hid (Holds wr1 (.slice a5 hsN.length c5) hsN) := hide_it (holds_of_row ho5)
            have O1 : Hid (∀ g, (Value.slice a5 hsN.length c5).ownBlock = some g → wd.heap.size ≤ g ∧ g < wr1.heap.size) := fun g hg => ho5.lt g hg
            have L1 : Hid (Below wb.heap.size wb wr1) := Ld.out.trans (hb5.mono Ld.out.size)
            clear ho5 hb5
            try dsimp only
            refine hK.out _ _ (KK.out _ L1.out) (fun hHeld => ?_)
            clear hK K
            refine takeD (i := 8) (v := ?_) (some 45) rfl rfl (by kernel_rfl) (by kernel_rfl) (by kernel_rfl) (fun _ _ _ h => h) (by rfl) hHeld ?_ ?_
            rotate_left
            · intro W hSw
              try dsimp only at hSw
              go_simp
              try with_reducible rfl
            try simp only [Act.put]
            try simp only [List.setIfInBounds_toArray]
            try simp only [List.set_cons_succ]
            try simp only [List.set_cons_zero]
            refine takeD (i := 9) (v := ?_) (some 54) rfl rfl (by kernel_rfl) (by kernel_rfl) (by kernel_rfl) (fun _ _ _ h => h) (by rfl) hHeld ?_ ?_
            rotate_left
            · intro W hSw
              try dsimp only at hSw
              go_simp
              try with_reducible rfl
            try simp only [Act.put]
            try simp only [List.setIfInBounds_toArray]
            try simp only [List.set_cons_succ]
            try simp only [List.set_cons_zero]
            refine takeD (i := 10) (v := ?_) (some 55) rfl rfl (by kernel_rfl) (by kernel_rfl) (by kernel_rfl) (fun _ _ _ h => h) (by rfl) hHeld ?_ ?_
            rotate_left
            · intro W hSw
              try dsimp only at hSw
              go_simp
              try with_reducible rfl
            try simp only [Act.put]
            try simp only [List.setIfInBounds_toArray]
            try simp only [List.set_cons_succ]
            try simp only [List.set_cons_zero]
            refine wpAnyH_ready (rs := [11]) (by kernel_rfl) (by simp) ?_
            refine AllReadyH.cons rfl (fun K hK => ?_) AllReadyH.nil
            go_simp
            obtain ⟨wr2, hwr2⟩ : ∃ W, Hid (W = wr1.alloc (.cells #[.int .i64 0, .slice none 0 0] 32)) := ⟨_, rfl⟩
            have al2 : Below wr1.heap.size wr1 wr2 := by rw [hwr2.out]; exact alloc_below _ _
            have L2 : Hid (Below wb.heap.size wb wr2) := L1.out.trans (al2.mono L1.out.size)
            have X2 : Hid (Blk wr2 wr1.heap.size #[.int .i64 0, .slice none 0 0] 32) := by show Blk _ _ _ _; rw [hwr2.out]; exact Blk.new _ _ _
            have V2 := hide_it (V1.out.later al2 (Nat.le_refl _))
            clear al2
            rw [← hwr2.out]
            try dsimp only
            refine hK.out _ _ (KK.out _ L2.out) (fun hHeld => ?_)
            clear hK K
            refine wpAnyH_ready (rs := [12]) (by kernel_rfl) (by simp) ?_
            refine AllReadyH.cons rfl (fun K hK => ?_) AllReadyH.nil
            go_simp
            obtain ⟨c0, c1⟩ := X2.out.cells2
            have cf0 := X2.out.free 0
            have cf1 := X2.out.free 1
            go_simp
            obtain ⟨wr3, hwr3⟩ : ∃ W, Hid (W = (wr2.setCell ⟨wr1.heap.size, 0, none⟩ (.int .i64 room)).setCell ⟨wr1.heap.size, 1, none⟩ (.slice a5 hsN.length c5)) := ⟨_, rfl⟩
            have XZ3 : Hid (Blk wr3 wr1.heap.size #[.int .i64 room, .slice a5 hsN.length c5] 32) := by
              show Blk _ _ _ _
              rw [hwr3.out]
              have := (X2.out.set_ 0 (.int .i64 room)).set_ 1 (.slice a5 hsN.length c5)
              simpa using this
            have NE3 : Hid (∀ g, (Value.slice a5 hsN.length c5).ownBlock = some g → wr1.heap.size ≠ g) := fun g hg => by have := O1.out g hg; omega
            have VZ3 : Hid (Holds wr3 (.slice a5 hsN.length c5) hsN) := by show Holds _ _ _; rw [hwr3.out]; exact (V2.out.setApart' (a := ⟨wr1.heap.size, 0, none⟩) NE3.out _).setApart' (a := ⟨wr1.heap.size, 1, none⟩) NE3.out _
            have hle3 : wb.heap.size ≤ wr1.heap.size := (L1.out.size)
            have L3 : Hid (Below wb.heap.size wb wr3) := by show Below _ _ _; rw [hwr3.out]; exact (L2.out.setCell (by simpa using hle3) _).setCell (by simpa using hle3) _
            rw [← hwr3.out]
            clear c0 c1 cf0 cf1
            try dsimp only
            refine hK.out _ _ (KK.out _ L3.out) (fun hHeld => ?_)
            clear hK K
            refine takeD (i := 13) (v := ?_) (some 8) rfl rfl (by kernel_rfl) (by kernel_rfl) (by kernel_rfl) (fun _ _ _ h => h) (by rfl) hHeld ?_ ?_
            rotate_left
            · intro W hSw
              try dsimp only at hSw
              go_simp
              try with_reducible rfl
            try simp only [Act.put]
            try simp only [List.setIfInBounds_toArray]
            try simp only [List.set_cons_succ]
            try simp only [List.set_cons_zero]
            refine wpAnyH_done (by kernel_rfl) ?_ _
            go_wp2_with fail
            go_meet
            case rel => exact ⟨_, a5, c5, rfl, rfl, XZ3, VZ3, L3⟩
          · go_simp
            obtain ⟨wr4, hwr4⟩ : ∃ W, Hid (W = wd.alloc (.cells #[.int .i64 0, .slice none 0 0] 32)) := ⟨_, rfl⟩
            have al4 : Below wd.heap.size wd wr4 := by rw [hwr4.out]; exact alloc_below _ _
            have L4 : Hid (Below wb.heap.size wb wr4) := Ld.out.trans (al4.mono Ld.out.size)
            have X4 : Hid (Blk wr4 wd.heap.size #[.int .i64 0, .slice none 0 0] 32) := by show Blk _ _ _ _; rw [hwr4.out]; exact Blk.new _ _ _
            clear al4
            rw [← hwr4.out]
            try dsimp only
            refine hK.out _ _ (KK.out _ L4.out) (fun hHeld => ?_)
            clear hK K
            refine wpAnyH_ready (rs := [7]) (by kernel_rfl) (by simp) ?_
            refine AllReadyH.cons rfl (fun K hK => ?_) AllReadyH.nil
            go_simp
            refine (SO1.out _ L4.out).mono ?_
            rintro e wr5 ⟨a5, c5, rfl, ho5, hb5⟩
            have V5 : Hid (Holds wr5 (.slice a5 hsN.length c5) hsN) := hide_it (holds_of_row ho5)
            have O5 : Hid (∀ g, (Value.slice a5 hsN.length c5).ownBlock = some g → wr4.heap.size ≤ g ∧ g < wr5.heap.size) := fun g hg => ho5.lt g hg
            have L5 : Hid (Below wb.heap.size wb wr5) := L4.out.trans (hb5.mono L4.out.size)
            have X5 := hide_it (X4.out.after hb5)
            have XL5 : Hid (wd.heap.size < wr4.heap.size) := X4.out.lt
            clear ho5 hb5
            try dsimp only
            refine hK.out _ _ (KK.out _ L5.out) (fun hHeld => ?_)
            clear hK K
            refine takeD (i := 8) (v := ?_) (some 45) rfl rfl (by kernel_rfl) (by kernel_rfl) (by kernel_rfl) (fun _ _ _ h => h) (by rfl) hHeld ?_ ?_
            rotate_left
            · intro W hSw
              try dsimp only at hSw
              go_simp
              try with_reducible rfl
            try simp only [Act.put]
            try simp only [List.setIfInBounds_toArray]
            try simp only [List.set_cons_succ]
            try simp only [List.set_cons_zero]
            refine takeD (i := 9) (v := ?_) (some 54) rfl rfl (by kernel_rfl) (by kernel_rfl) (by kernel_rfl) (fun _ _ _ h => h) (by rfl) hHeld ?_ ?_
            rotate_left
            · intro W hSw
              try dsimp only at hSw
              go_simp
              try with_reducible rfl
            try simp only [Act.put]
            try simp only [List.setIfInBounds_toArray]
            try simp only [List.set_cons_succ]
            try simp only [List.set_cons_zero]
            refine takeD (i := 10) (v := ?_) (some 55) rfl rfl (by kernel_rfl) (by kernel_rfl) (by kernel_rfl) (fun _ _ _ h => h) (by rfl) hHeld ?_ ?_
            rotate_left
            · intro W hSw
              try dsimp only at hSw
              go_simp
              try with_reducible rfl
            try simp only [Act.put]
            try simp only [List.setIfInBounds_toArray]
            try simp only [List.set_cons_succ]
            try simp only [List.set_cons_zero]
            refine wpAnyH_ready (rs := [12]) (by kernel_rfl) (by simp) ?_
            refine AllReadyH.cons rfl (fun K hK => ?_) AllReadyH.nil
            go_simp
            obtain ⟨c0, c1⟩ := X5.out.cells2
            have cf0 := X5.out.free 0
            have cf1 := X5.out.free 1
            go_simp
            obtain ⟨wr6, hwr6⟩ : ∃ W, Hid (W = (wr5.setCell ⟨wd.heap.size, 0, none⟩ (.int .i64 room)).setCell ⟨wd.heap.size, 1, none⟩ (.slice a5 hsN.length c5)) := ⟨_, rfl⟩
            have XZ6 : Hid (Blk wr6 wd.heap.size #[.int .i64 room, .slice a5 hsN.length c5] 32) := by
              show Blk _ _ _ _
              rw [hwr6.out]
              have := (X5.out.set_ 0 (.int .i64 room)).set_ 1 (.slice a5 hsN.length c5)
              simpa using this
            have NE6 : Hid (∀ g, (Value.slice a5 hsN.length c5).ownBlock = some g → wd.heap.size ≠ g) := fun g hg => by have := O5.out g hg; have := XL5.out; omega
            have VZ6 : Hid (Holds wr6 (.slice a5 hsN.length c5) hsN) := by show Holds _ _ _; rw [hwr6.out]; exact (V5.out.setApart' (a := ⟨wd.heap.size, 0, none⟩) NE6.out _).setApart' (a := ⟨wd.heap.size, 1, none⟩) NE6.out _
            have hle6 : wb.heap.size ≤ wd.heap.size := (Ld.out.size)
            have L6 : Hid (Below wb.heap.size wb wr6) := by show Below _ _ _; rw [hwr6.out]; exact (L5.out.setCell (by simpa using hle6) _).setCell (by simpa using hle6) _
            rw [← hwr6.out]
            clear c0 c1 cf0 cf1
            try dsimp only
            refine hK.out _ _ (KK.out _ L6.out) (fun hHeld => ?_)
            clear hK K
            refine takeD (i := 13) (v := ?_) (some 8) rfl rfl (by kernel_rfl) (by kernel_rfl) (by kernel_rfl) (fun _ _ _ h => h) (by rfl) hHeld ?_ ?_
            rotate_left
            · intro W hSw
              try dsimp only at hSw
              go_simp
              try with_reducible rfl
            try simp only [Act.put]
            try simp only [List.setIfInBounds_toArray]
            try simp only [List.set_cons_succ]
            try simp only [List.set_cons_zero]
            refine wpAnyH_done (by kernel_rfl) ?_ _
            go_wp2_with fail
            go_meet
            case rel => exact ⟨_, a5, c5, rfl, rfl, XZ6, VZ6, L6⟩
        case rest =>
          obtain ⟨X9, a9, c9, rfl, rfl, XB, VB, LB0⟩ := hcut
          replace B1 := hide_it (B1.out.trans (LB0.out.mono B1.out.size))
          replace R1 := hide_it (R1.out.later LB0.out (Nat.le_refl _))
          replace E1 := hide_it (E1.out.trans (LB0.out.mono E1.out.size))
          replace L := hide_it (L.out.after LB0.out)
          replace V3 := hide_it (V3.out.later LB0.out (Nat.le_refl _))
          replace X := hide_it (X.out.after LB0.out)
          replace E8 := hide_it (E8.out.trans (LB0.out.mono E8.out.size))
          clear LB0
          obtain ⟨L_0, L_1, L_2, L_3, L_4⟩ := L.out.cells5
          have L_0a := fun o => cellAlloc L_0 o
          have L_1a := fun o => cellAlloc L_1 o
          have L_2a := fun o => cellAlloc L_2 o
          have L_3a := fun o => cellAlloc L_3 o
          have L_4a := fun o => cellAlloc L_4 o
          have L_lt := L.out.lt
          have p_B1 := B1
          have p_R1 := R1
          have p_E1 := E1
          have p_L := L
          have p_V3 := V3
          have p_X := X
          have p_E8 := E8
          have p_XB := XB
          have p_VB := VB
          have PB : Hid (Below wc.heap.size wc wc) := Below.refl _ _
          obtain ⟨w22, hw22⟩ : ∃ W, Hid (W = wc.alloc (.cells #[.int .i64 id, .bool true, .int .i64 room, .slice ao rs.length co, .int .i64 N] 27)) := ⟨_, rfl⟩
          have alw22 : Below wc.heap.size wc w22 := by rw [hw22.out]; exact alloc_below _ _
          replace B1 := hide_it (B1.out.trans (alw22.mono B1.out.size))
          replace R1 := hide_it (R1.out.later alw22 (Nat.le_refl _))
          replace E1 := hide_it (E1.out.trans (alw22.mono E1.out.size))
          replace L := hide_it (L.out.after alw22)
          replace V3 := hide_it (V3.out.later alw22 (Nat.le_refl _))
          replace X := hide_it (X.out.after alw22)
          replace E8 := hide_it (E8.out.trans (alw22.mono E8.out.size))
          replace XB := hide_it (XB.out.after alw22)
          replace VB := hide_it (VB.out.later alw22 (Nat.le_refl _))
          replace PB := hide_it (PB.out.trans (alw22.mono PB.out.size))
          have Y : Hid (Blk w22 (wc.heap.size) #[.int .i64 id, .bool true, .int .i64 room, .slice ao rs.length co, .int .i64 N] 27) := by show Blk _ _ _ _; rw [hw22.out]; exact Blk.new _ _ _
          clear alw22
          obtain ⟨Y_0, Y_1, Y_2, Y_3, Y_4⟩ := Y.out.cells5
          obtain ⟨L_0, L_1, L_2, L_3, L_4⟩ := L.out.cells5
          go_wp2_with fail
          rw [← hw22.out]
          refine (SO3.out _ E8.out).mono ?_
          rintro e w23 ⟨a10, c10, rfl, hm10, hb⟩
          clear L_0 L_1 L_2 L_3 L_4 L_0a L_1a L_2a L_3a L_4a L_lt Y_0 Y_1 Y_2 Y_3 Y_4
          replace B1 := hide_it (B1.out.trans (hb.mono B1.out.size))
          replace R1 := hide_it (R1.out.later hb (Nat.le_refl _))
          replace E1 := hide_it (E1.out.trans (hb.mono E1.out.size))
          replace L := hide_it (L.out.after hb)
          replace V3 := hide_it (V3.out.later hb (Nat.le_refl _))
          replace X := hide_it (X.out.after hb)
          replace E8 := hide_it (E8.out.trans (hb.mono E8.out.size))
          replace XB := hide_it (XB.out.after hb)
          replace VB := hide_it (VB.out.later hb (Nat.le_refl _))
          replace PB := hide_it (PB.out.trans (hb.mono PB.out.size))
          replace Y := hide_it (Y.out.after hb)
          have M10 := hide_it hm10
          clear hm10
          clear hb
          obtain ⟨Y_0, Y_1, Y_2, Y_3, Y_4⟩ := Y.out.cells5
          have Y_f0 := Y.out.free 0
          have Y_f1 := Y.out.free 1
          have Y_f2 := Y.out.free 2
          have Y_f3 := Y.out.free 3
          have Y_f4 := Y.out.free 4
          go_wp2_with fail
          obtain ⟨w24, hw24⟩ : ∃ W, Hid (W = ((((w23.setCell ⟨wc.heap.size, 0, none⟩ (.int .i64 id)).setCell ⟨wc.heap.size, 1, none⟩ (.bool true)).setCell ⟨wc.heap.size, 2, none⟩ (.int .i64 room)).setCell ⟨wc.heap.size, 3, none⟩ (.slice a10 rs.length c10)).setCell ⟨wc.heap.size, 4, none⟩ (.int .i64 F2)) := ⟨_, rfl⟩
          have hmw24 : Below wc.heap.size wc w24 := by rw [hw24.out]; exact ((((PB.out.setCell (by simp) _).setCell (by simp) _).setCell (by simp) _).setCell (by simp) _).setCell (by simp) _
          have MM : Hid (Made w24 w22.heap.size (.slice a10 rs.length c10) rs) := by show Made _ _ _ _; rw [hw24.out]; exact (((((M10.out.setHouse Y.out (.int .i64 id)).setHouse (Y.out.set_ 0 (.int .i64 id)) (.bool true)).setHouse ((Y.out.set_ 0 (.int .i64 id)).set_ 1 (.bool true)) (.int .i64 room)).setHouse (((Y.out.set_ 0 (.int .i64 id)).set_ 1 (.bool true)).set_ 2 (.int .i64 room)) (.slice a10 rs.length c10)).setHouse ((((Y.out.set_ 0 (.int .i64 id)).set_ 1 (.bool true)).set_ 2 (.int .i64 room)).set_ 3 (.slice a10 rs.length c10)) (.int .i64 F2))
          have R10 := hide_it MM.out.recs
          have F10 := hide_it (form_made MM.out)
          clear MM M10
          have Yn : Hid (Blk w24 wc.heap.size #[.int .i64 id, .bool true, .int .i64 room, .slice a10 rs.length c10, .int .i64 F2] 27) := by have := (((((Y.out.set_ 0 (.int .i64 id)).set_ 1 (.bool true)).set_ 2 (.int .i64 room)).set_ 3 (.slice a10 rs.length c10)).set_ 4 (.int .i64 F2)); show Blk _ _ _ _; rw [hw24.out]; simpa using this
          clear Y_0 Y_1 Y_2 Y_3 Y_4 Y_f0 Y_f1 Y_f2 Y_f3 Y_f4
          replace B1 := hide_it (p_B1.out.trans (hmw24.mono p_B1.out.size))
          replace R1 := hide_it (p_R1.out.later hmw24 (Nat.le_refl _))
          replace E1 := hide_it (p_E1.out.trans (hmw24.mono p_E1.out.size))
          replace L := hide_it (p_L.out.after hmw24)
          replace V3 := hide_it (p_V3.out.later hmw24 (Nat.le_refl _))
          replace X := hide_it (p_X.out.after hmw24)
          replace E8 := hide_it (p_E8.out.trans (hmw24.mono p_E8.out.size))
          replace XB := hide_it (p_XB.out.after hmw24)
          replace VB := hide_it (p_VB.out.later hmw24 (Nat.le_refl _))
          replace Y := Yn
          clear Yn hmw24 PB p_B1 p_R1 p_E1 p_L p_V3 p_X p_E8 p_XB p_VB
          rw [← hw24.out]
          obtain ⟨L_0, L_1, L_2, L_3, L_4⟩ := L.out.cells5
          obtain ⟨X_0, X_1⟩ := X.out.cells2
          obtain ⟨XB_0, XB_1⟩ := XB.out.cells2
          obtain ⟨Y_0, Y_1, Y_2, Y_3, Y_4⟩ := Y.out.cells5
          go_wp2_with fail
          have KB : Hid (∀ W, Below w24.heap.size w24 W → (W.cell? ⟨X9, 0, none⟩ = some (.int .i64 room) ∧ W.cell? ⟨X9, 1, none⟩ = some (.slice a9 hsN.length c9)) ∧ (W.cell? ⟨w3.heap.size, 0, none⟩ = some (.int .i64 room) ∧ W.cell? ⟨w3.heap.size, 1, none⟩ = some (.slice a3 hsN.length c3)) ∧ (W.cell? ⟨wc.heap.size, 0, none⟩ = some (.int .i64 id) ∧ W.cell? ⟨wc.heap.size, 1, none⟩ = some (.bool true) ∧ W.cell? ⟨wc.heap.size, 2, none⟩ = some (.int .i64 room) ∧ W.cell? ⟨wc.heap.size, 3, none⟩ = some (.slice a10 rs.length c10) ∧ W.cell? ⟨wc.heap.size, 4, none⟩ = some (.int .i64 F2)) ∧ (W.cell? ⟨w1.heap.size, 0, none⟩ = some (.int .i64 id) ∧ W.cell? ⟨w1.heap.size, 1, none⟩ = some (.bool up) ∧ W.cell? ⟨w1.heap.size, 2, none⟩ = some (.int .i64 room) ∧ W.cell? ⟨w1.heap.size, 3, none⟩ = some (.slice ao rs.length co) ∧ W.cell? ⟨w1.heap.size, 4, none⟩ = some (.int .i64 N))) := fun W hb => ⟨(XB.out.after hb).cells2, (X.out.after hb).cells2, (Y.out.after hb).cells5, (L.out.after hb).cells5⟩
          clear L_0 L_1 L_2 L_3 L_4 X_0 X_1 XB_0 XB_1 Y_0 Y_1 Y_2 Y_3 Y_4
          have LB : Hid (Below w24.heap.size w24 w24) := Below.refl _ _
          have hdr : Below w24.heap.size w24 w24.drew := (Below.refl _ _).drew
          replace B1 := hide_it (B1.out.trans (hdr.mono B1.out.size))
          replace R1 := hide_it (R1.out.later hdr (Nat.le_refl _))
          replace E1 := hide_it (E1.out.trans (hdr.mono E1.out.size))
          replace L := hide_it (L.out.after hdr)
          replace V3 := hide_it (V3.out.later hdr (Nat.le_refl _))
          replace X := hide_it (X.out.after hdr)
          replace E8 := hide_it (E8.out.trans (hdr.mono E8.out.size))
          replace XB := hide_it (XB.out.after hdr)
          replace VB := hide_it (VB.out.later hdr (Nat.le_refl _))
          replace Y := hide_it (Y.out.after hdr)
          replace R10 := hide_it (R10.out.later hdr (Nat.le_refl _))
          replace LB := hide_it (LB.out.trans (hdr.mono LB.out.size))
          clear hdr
          refine wp_region_held_drew (S := fun w' => (w'.cell? ⟨X9, 0, none⟩ = some (.int .i64 room) ∧ w'.cell? ⟨X9, 1, none⟩ = some (.slice a9 hsN.length c9)) ∧ (w'.cell? ⟨w3.heap.size, 0, none⟩ = some (.int .i64 room) ∧ w'.cell? ⟨w3.heap.size, 1, none⟩ = some (.slice a3 hsN.length c3)) ∧ (w'.cell? ⟨wc.heap.size, 0, none⟩ = some (.int .i64 id) ∧ w'.cell? ⟨wc.heap.size, 1, none⟩ = some (.bool true) ∧ w'.cell? ⟨wc.heap.size, 2, none⟩ = some (.int .i64 room) ∧ w'.cell? ⟨wc.heap.size, 3, none⟩ = some (.slice a10 rs.length c10) ∧ w'.cell? ⟨wc.heap.size, 4, none⟩ = some (.int .i64 F2)) ∧ (w'.cell? ⟨w1.heap.size, 0, none⟩ = some (.int .i64 id) ∧ w'.cell? ⟨w1.heap.size, 1, none⟩ = some (.bool up) ∧ w'.cell? ⟨w1.heap.size, 2, none⟩ = some (.int .i64 room) ∧ w'.cell? ⟨w1.heap.size, 3, none⟩ = some (.slice ao rs.length co) ∧ w'.cell? ⟨w1.heap.size, 4, none⟩ = some (.int .i64 N))) (by kernel_rfl) (KB.out _ (Below.refl _ _).drew) (fun hHeld => ?_)
          refine takeD (i := 0) (v := ?_) (some 60) rfl rfl (by kernel_rfl) (by kernel_rfl) (by kernel_rfl) (fun _ _ _ h => h) (by rfl) hHeld ?_ ?_
          rotate_left
          · intro W hSw
            try dsimp only at hSw
            go_simp
            try with_reducible rfl
          try simp only [Act.put]
          try simp only [List.setIfInBounds_toArray]
          try simp only [List.set_cons_succ]
          try simp only [List.set_cons_zero]
          refine takeD (i := 1) (v := ?_) (some 61) rfl rfl (by kernel_rfl) (by kernel_rfl) (by kernel_rfl) (fun _ _ _ h => h) (by rfl) hHeld ?_ ?_
          rotate_left
          · intro W hSw
            try dsimp only at hSw
            go_simp
            try with_reducible rfl
          try simp only [Act.put]
          try simp only [List.setIfInBounds_toArray]
          try simp only [List.set_cons_succ]
          try simp only [List.set_cons_zero]
          refine takeD (i := 2) (v := ?_) (some 62) rfl rfl (by kernel_rfl) (by kernel_rfl) (by kernel_rfl) (fun _ _ _ h => h) (by rfl) hHeld ?_ ?_
          rotate_left
          · intro W hSw
            try dsimp only at hSw
            go_simp
            try with_reducible rfl
          try simp only [Act.put]
          try simp only [List.setIfInBounds_toArray]
          try simp only [List.set_cons_succ]
          try simp only [List.set_cons_zero]
          refine takeD (i := 3) (v := ?_) (some 63) rfl rfl (by kernel_rfl) (by kernel_rfl) (by kernel_rfl) (fun _ _ _ h => h) (by rfl) hHeld ?_ ?_
          rotate_left
          · intro W hSw
            try dsimp only at hSw
            go_simp
            try with_reducible rfl
          try simp only [Act.put]
          try simp only [List.setIfInBounds_toArray]
          try simp only [List.set_cons_succ]
          try simp only [List.set_cons_zero]
          refine wpAnyH_ready (rs := [4]) (by kernel_rfl) (by simp) ?_
          refine AllReadyH.cons rfl (fun K hK => ?_) AllReadyH.nil
          go_simp
          refine (lnStock_any room _ _ hsN _ VB.out V3.out (by have := QL.out; omega)).mono ?_
          rintro e w25 ⟨rfl, hb⟩
          replace B1 := hide_it (B1.out.trans (hb.mono B1.out.size))
          replace R1 := hide_it (R1.out.later hb (Nat.le_refl _))
          replace E1 := hide_it (E1.out.trans (hb.mono E1.out.size))
          replace L := hide_it (L.out.after hb)
          replace V3 := hide_it (V3.out.later hb (Nat.le_refl _))
          replace X := hide_it (X.out.after hb)
          replace E8 := hide_it (E8.out.trans (hb.mono E8.out.size))
          replace XB := hide_it (XB.out.after hb)
          replace VB := hide_it (VB.out.later hb (Nat.le_refl _))
          replace Y := hide_it (Y.out.after hb)
          replace R10 := hide_it (R10.out.later hb (Nat.le_refl _))
          replace LB := hide_it (LB.out.trans (hb.mono LB.out.size))
          clear hb
          try dsimp only
          refine hK.out _ _ (KB.out _ LB.out) (fun hHeld => ?_)
          clear hK K
          refine takeD (i := 5) (v := ?_) (some 65) rfl rfl (by kernel_rfl) (by kernel_rfl) (by kernel_rfl) (fun _ _ _ h => h) (by rfl) hHeld ?_ ?_
          rotate_left
          · intro W hSw
            try dsimp only at hSw
            go_simp
            try with_reducible rfl
          try simp only [Act.put]
          try simp only [List.setIfInBounds_toArray]
          try simp only [List.set_cons_succ]
          try simp only [List.set_cons_zero]
          refine takeD (i := 6) (v := ?_) (some 66) rfl rfl (by kernel_rfl) (by kernel_rfl) (by kernel_rfl) (fun _ _ _ h => h) (by rfl) hHeld ?_ ?_
          rotate_left
          · intro W hSw
            try dsimp only at hSw
            go_simp
            try with_reducible rfl
          try simp only [Act.put]
          try simp only [List.setIfInBounds_toArray]
          try simp only [List.set_cons_succ]
          try simp only [List.set_cons_zero]
          refine takeD (i := 7) (v := ?_) (some 67) rfl rfl (by kernel_rfl) (by kernel_rfl) (by kernel_rfl) (fun _ _ _ h => h) (by rfl) hHeld ?_ ?_
          rotate_left
          · intro W hSw
            try dsimp only at hSw
            go_simp
            try with_reducible rfl
          try simp only [Act.put]
          try simp only [List.setIfInBounds_toArray]
          try simp only [List.set_cons_succ]
          try simp only [List.set_cons_zero]
          refine wpAnyH_ready (rs := [8]) (by kernel_rfl) (by simp) ?_
          refine AllReadyH.cons rfl (fun K hK => ?_) AllReadyH.nil
          go_simp
          refine (SO2.out _ _ _ V3.out).mono ?_
          rintro e w26 ⟨rfl, hb⟩
          replace B1 := hide_it (B1.out.trans (hb.mono B1.out.size))
          replace R1 := hide_it (R1.out.later hb (Nat.le_refl _))
          replace E1 := hide_it (E1.out.trans (hb.mono E1.out.size))
          replace L := hide_it (L.out.after hb)
          replace V3 := hide_it (V3.out.later hb (Nat.le_refl _))
          replace X := hide_it (X.out.after hb)
          replace E8 := hide_it (E8.out.trans (hb.mono E8.out.size))
          replace XB := hide_it (XB.out.after hb)
          replace VB := hide_it (VB.out.later hb (Nat.le_refl _))
          replace Y := hide_it (Y.out.after hb)
          replace R10 := hide_it (R10.out.later hb (Nat.le_refl _))
          replace LB := hide_it (LB.out.trans (hb.mono LB.out.size))
          clear hb
          try dsimp only
          refine hK.out _ _ (KB.out _ LB.out) (fun hHeld => ?_)
          clear hK K
          refine takeD (i := 9) (v := ?_) (some 69) rfl rfl (by kernel_rfl) (by kernel_rfl) (by kernel_rfl) (fun _ _ _ h => h) (by rfl) hHeld ?_ ?_
          rotate_left
          · intro W hSw
            try dsimp only at hSw
            go_simp
            try with_reducible rfl
          try simp only [Act.put]
          try simp only [List.setIfInBounds_toArray]
          try simp only [List.set_cons_succ]
          try simp only [List.set_cons_zero]
          refine takeD (i := 10) (v := ?_) (some 70) rfl rfl (by kernel_rfl) (by kernel_rfl) (by kernel_rfl) (fun _ _ _ h => h) (by rfl) hHeld ?_ ?_
          rotate_left
          · intro W hSw
            try dsimp only at hSw
            go_simp
            try with_reducible rfl
          try simp only [Act.put]
          try simp only [List.setIfInBounds_toArray]
          try simp only [List.set_cons_succ]
          try simp only [List.set_cons_zero]
          refine takeD (i := 11) (v := ?_) (some 71) rfl rfl (by kernel_rfl) (by kernel_rfl) (by kernel_rfl) (fun _ _ _ h => h) (by rfl) hHeld ?_ ?_
          rotate_left
          · intro W hSw
            try dsimp only at hSw
            go_simp
            try with_reducible rfl
          try simp only [Act.put]
          try simp only [List.setIfInBounds_toArray]
          try simp only [List.set_cons_succ]
          try simp only [List.set_cons_zero]
          refine takeD (i := 13) (v := ?_) (some 73) rfl rfl (by kernel_rfl) (by kernel_rfl) (by kernel_rfl) (fun _ _ _ h => h) (by rfl) hHeld ?_ ?_
          rotate_left
          · intro W hSw
            try dsimp only at hSw
            go_simp
            try with_reducible rfl
          try simp only [Act.put]
          try simp only [List.setIfInBounds_toArray]
          try simp only [List.set_cons_succ]
          try simp only [List.set_cons_zero]
          refine wpAnyH_ready (rs := [12]) (by kernel_rfl) (by simp) ?_
          refine AllReadyH.cons rfl (fun K hK => ?_) AllReadyH.nil
          go_simp
          refine (SO4.out _ _ _ E8.out R10.out F10.out).mono ?_
          rintro e w27 ⟨a12, c12, rfl, ho12, hb⟩
          replace B1 := hide_it (B1.out.trans (hb.mono B1.out.size))
          replace R1 := hide_it (R1.out.later hb (Nat.le_refl _))
          replace E1 := hide_it (E1.out.trans (hb.mono E1.out.size))
          replace L := hide_it (L.out.after hb)
          replace V3 := hide_it (V3.out.later hb (Nat.le_refl _))
          replace X := hide_it (X.out.after hb)
          replace E8 := hide_it (E8.out.trans (hb.mono E8.out.size))
          replace XB := hide_it (XB.out.after hb)
          replace VB := hide_it (VB.out.later hb (Nat.le_refl _))
          replace Y := hide_it (Y.out.after hb)
          replace R10 := hide_it (R10.out.later hb (Nat.le_refl _))
          replace LB := hide_it (LB.out.trans (hb.mono LB.out.size))
          have H12 := hide_it (holds_of_row ho12)
          clear ho12
          clear hb
          try dsimp only
          refine hK.out _ _ (KB.out _ LB.out) (fun hHeld => ?_)
          clear hK K
          refine wpAnyH_ready (rs := [14]) (by kernel_rfl) (by simp) ?_
          refine AllReadyH.cons rfl (fun K hK => ?_) AllReadyH.nil
          go_simp
          refine (SO5.out _ E8.out).mono ?_
          rintro e w28 ⟨a14, c14, rfl, ho14, hb⟩
          replace B1 := hide_it (B1.out.trans (hb.mono B1.out.size))
          replace R1 := hide_it (R1.out.later hb (Nat.le_refl _))
          replace E1 := hide_it (E1.out.trans (hb.mono E1.out.size))
          replace L := hide_it (L.out.after hb)
          replace V3 := hide_it (V3.out.later hb (Nat.le_refl _))
          replace X := hide_it (X.out.after hb)
          replace E8 := hide_it (E8.out.trans (hb.mono E8.out.size))
          replace XB := hide_it (XB.out.after hb)
          replace VB := hide_it (VB.out.later hb (Nat.le_refl _))
          replace Y := hide_it (Y.out.after hb)
          replace R10 := hide_it (R10.out.later hb (Nat.le_refl _))
          replace LB := hide_it (LB.out.trans (hb.mono LB.out.size))
          have H14 := hide_it (holds_of_row ho14)
          have J12 := hide_it (H12.out.later hb (Nat.le_refl _))
          clear ho14
          clear hb
          try dsimp only
          refine hK.out _ _ (KB.out _ LB.out) (fun hHeld => ?_)
          clear hK K
          refine wpAnyH_ready (rs := [15]) (by kernel_rfl) (by simp) ?_
          refine AllReadyH.cons rfl (fun K hK => ?_) AllReadyH.nil
          go_simp
          refine (lnStock_any room _ _ hsA _ J12.out H14.out (by have := LA.out; omega)).mono ?_
          rintro e w29 ⟨rfl, hb⟩
          replace B1 := hide_it (B1.out.trans (hb.mono B1.out.size))
          replace R1 := hide_it (R1.out.later hb (Nat.le_refl _))
          replace E1 := hide_it (E1.out.trans (hb.mono E1.out.size))
          replace L := hide_it (L.out.after hb)
          replace V3 := hide_it (V3.out.later hb (Nat.le_refl _))
          replace X := hide_it (X.out.after hb)
          replace E8 := hide_it (E8.out.trans (hb.mono E8.out.size))
          replace XB := hide_it (XB.out.after hb)
          replace VB := hide_it (VB.out.later hb (Nat.le_refl _))
          replace Y := hide_it (Y.out.after hb)
          replace R10 := hide_it (R10.out.later hb (Nat.le_refl _))
          replace LB := hide_it (LB.out.trans (hb.mono LB.out.size))
          clear hb
          try dsimp only
          refine hK.out _ _ (KB.out _ LB.out) (fun hHeld => ?_)
          clear hK K
          refine takeD (i := 16) (v := ?_) (some 76) rfl rfl (by kernel_rfl) (by kernel_rfl) (by kernel_rfl) (fun _ _ _ h => h) (by rfl) hHeld ?_ ?_
          rotate_left
          · intro W hSw
            try dsimp only at hSw
            go_simp
            try with_reducible rfl
          try simp only [Act.put]
          try simp only [List.setIfInBounds_toArray]
          try simp only [List.set_cons_succ]
          try simp only [List.set_cons_zero]
          refine takeD (i := 17) (v := ?_) (some 2) rfl rfl (by kernel_rfl) (by kernel_rfl) (by kernel_rfl) (fun _ _ _ h => h) (by rfl) hHeld ?_ ?_
          rotate_left
          · intro W hSw
            try dsimp only at hSw
            go_simp
            try with_reducible rfl
          try simp only [Act.put]
          try simp only [List.setIfInBounds_toArray]
          try simp only [List.set_cons_succ]
          try simp only [List.set_cons_zero]
          refine wpAnyH_done (by kernel_rfl) ?_ _
          clear KB LB
          go_wp2
          go_ret
          exact ⟨rfl, B1.out⟩

end Go.Proofs.YtgeagfglkgpoiaaDoor

namespace Go.Proofs.YtgeagfglkgpoiaaDoor
open Go.ChangeShapes Go.WideShapes Go.ChangeAt Go.WideMaps Go.WideElems Go.RowKit Go.Joins

set_option maxRecDepth 100000 in
set_option maxHeartbeats 2000000 in
theorem lawP31_great (ac : Option Addr) (nc cc : Nat) (w : World) (h : 1048576 < (nc : Int)) :
    Calls Tryd.prog 3 #[.slice ac nc cc] w fun e w' => e = .returned (.bool true) ∧ Below w.heap.size w w' := by
  go_enter Tryd.func3, Tryd.ntmps3
  go_wp2
  go_ret
  exact ⟨rfl, Below.refl _ _⟩

theorem lawP31_any (vc : Value) (nc : Nat) (a : Addr) (w : World) (hc : CodeAt w vc nc) (ha : ErrAt w a) :
    Calls Tryd.prog 3 #[vc] w fun e w' => e = .returned (.bool true) ∧ Below w.heap.size w w' := by
  by_cases h1 : nc ≤ 1048576
  · exact lawP31_small vc nc a w hc h1 ha
  · obtain ⟨ac, cc, rfl, _⟩ := hc
    exact lawP31_great ac nc cc w (by omega)

set_option maxRecDepth 100000 in
theorem p31_lifted (os : Os) (started : os.Started) (H : Type) (enc : TypeId × Value → H) :
    ReturnsInHanded {} Tryd.checked os 3 .any (fun w args => (Rows.fnHouseStockSpec.pre enc Tryd.prog Tryd.f3 [] false w args ∧ laidMetH Tryd.prog laidErr w) ∧ sizedMet enc Tryd.prog Tryd.f3 (OpenSpec.ofChange Rows.fnHouseStockSpec) false w args)
      (Rows.fnHouseStockSpec.post enc Tryd.prog Tryd.f3 false true false false) := by
  refine returnsInHanded_of_change_and (C := Tryd.checked) (X := fun w _ => laidMetH Tryd.prog laidErr w) (fun _ _ _ hh h => h.of_heap hh) own started (by kernel_rfl) Tryd.func3
    (ChangeSpec.witness_shaped (enc := enc) (C := Tryd.checked) (os := os) (X := fun w _ => laidMetH Tryd.prog laidErr w) false (World.doorLaid Tryd.prog 28 os) #[.slice none 0 0] 8 rfl (World.shaped_of_RefB (by kernel_rfl) (by kernel_rfl)) (by kernel_rfl) (by kernel_rfl) (by kernel_rfl) (door_met os _)) ?_
  intro W base args ds gs before hval0 hW _ _ hL _
  have hval : ∀ (j : Nat) t v, Tryd.f3.params[j]? = some t → args[j]? = some v → Value.okWide Tryd.prog W .any base t v := hval0
  have hW' := hW
  obtain ⟨p, q, hA0, hV0, rfl, hfz, hnd⟩ := hW
  have hA : DataW.TrodAll enc Tryd.prog W 0 (fun _ => true) true Tryd.f3.params.toList args.toList ds p := hA0
  have hV : DataW.TrodVars enc Tryd.prog W (fun _ => true) ["loop.example/concierge/impl.errNoRec"] gs q := hV0
  rw [Tryd.params3] at hA hval
  obtain ⟨v0, d0, rfl, rfl, h0⟩ := trodAll_one hA
  obtain ⟨a, hErr, hvar⟩ := of_laid hL
  have vr : ∀ {X : World}, X.var? Tryd.prog "loop.example/concierge/impl.errNoRec" = some #[.iface 125 (.pointer (some a))] → ∀ sp : Nat → Bool,
      DataW.TrodVars enc Tryd.prog X sp ["loop.example/concierge/impl.errNoRec"] [tok enc (.iface 125 (.pointer (some a)))] [.cell 0 0] :=
    fun x0 sp => vars_read1 enc gErr gErrType Tryd.underlying94 x0 trivial sp
  obtain ⟨rfl, rfl⟩ := hV.unique (vr hvar _)
  clear hA0 hV0 hval0
  obtain ⟨nc, hC, _⟩ := open_code (hval 0 22 v0 rfl rfl) h0
  refine (lawP31_any v0 nc a W hC hErr).mono fun e W' ⟨he, hb⟩ => ?_
  subst he
  have hlt : ∀ x ∈ p, x.block < W.heap.size := fun x hx => hW'.lt x (by simp [hx])
  refine ⟨_, rfl, _, _, _, [], p, [.cell 0 0], hW', ?_, ?_, ?_, hb.frame _, fun h => by cases h⟩
  · exact trodAll_mk1 (shut_bool Tryd.underlying4 true)
  · exact trodAll_mk1 (Below.trod laidOut (by kernel_rfl) (of_decide_eq_true (by kernel_rfl)) h0 hb hlt)
  · exact vr (var?_below hb gErr (World.block_lt_of_cell? _ _ hErr) hvar) _

theorem p31_said : Rows.FnHouseStockSaid :=
  OpenClaim.holds_of_wide 3 Tryd.f3 rfl rfl rfl rfl rfl rfl rfl ⟨rfl, rfl, rfl, rfl, rfl⟩ rfl rfl rfl rfl rfl (by kernel_rfl) Tryd.func3 (by kernel_rfl)
    (of_decide_eq_true (by kernel_rfl)) (by unfold Func.isWrapper; first | (rw [if_pos (by decide +kernel)]; kernel_rfl) | (rw [if_neg (by decide +kernel)]; exact ⟨rfl, rfl⟩))
    (fun os started H enc _ => p31_lifted os started H enc)

theorem p31_plain (f : FuncId) (fn : Func) (hf : Tryd.pinned.checked.prog.funcNamed "loop.example/concierge/laws.FnHouseStock" = some f) (hfn : Tryd.pinned.checked.prog.funcs[f]? = some fn) :
    true = Tryd.pinned.checked.prog.looks [] ∧ ∀ (j : Nat) t, fn.params[j]? = some t → Tryd.pinned.checked.prog.wantsStandIn t = false := by
  obtain rfl : f = 3 := Option.some.inj ((show Tryd.prog.funcNamed "loop.example/concierge/laws.FnHouseStock" = some 3 by kernel_rfl).symm.trans hf) |>.symm
  obtain rfl : fn = Tryd.f3 := (Option.some.inj (Tryd.func3.symm.trans hfn)).symm
  refine ⟨by kernel_rfl, fun j t ht => ?_⟩
  rw [Tryd.params3] at ht
  obtain rfl : t = 22 := by simpa using Array.mem_of_getElem? ht
  exact (show Tryd.prog.wantsStandIn 22 = false by kernel_rfl)

theorem p31_card : Rows.FnHouseStockCardSaid :=
  Claim7.holds_tied_plain_at .later [] _ _ _ _ p31_said (fun _ h => by cases h) (by kernel_rfl) (fun _ h => by cases h) fnHouseStock_row_tie rfl ⟨rfl, rfl⟩ (by kernel_rfl) rfl p31_plain (by kernel_rfl)
#print axioms p31_card

end Go.Proofs.YtgeagfglkgpoiaaDoor
