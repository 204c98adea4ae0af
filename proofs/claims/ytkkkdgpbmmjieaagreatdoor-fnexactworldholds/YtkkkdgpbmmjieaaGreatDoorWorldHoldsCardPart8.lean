/- What the last text of this claim stands on, part 8: plain facts and contracts; the last text says what is proved. -/
import Derived.Test.YtkkkdgpbmmjieaaGreatDoorWorldHoldsCardPart7
import Derived.Deep.LoopGhost
import Derived.Deep.RegionHeld

namespace Go.Proofs.YtkkkdgpbmmjieaaGreatDoor
open Go.RowKit

def hOkAt (h : Hd) (i : Nat) : Bool := hoOk h.1 h.2.2.1 h.2.2.2.1 h.2.2.2.2 && decide (h.1 = (i : Int) + 1)
def hsOkK (hs : List Hd) (k : Nat) : Bool := (List.range k).all fun i => hOkAt (hs.getD i (0, false, 0, [], 0)) i
def nsOkK (ns : List Wd) (k : Nat) : Bool := (ns.take k).all fun p => Pl.wOk p.1 p.2.1 p.2.2.1 p.2.2.2
def hsOk (hs : List Hd) : Bool := decide (hs.length = 3) && hsOkK hs hs.length
def nsOk (ns : List Wd) : Bool := decide (ns.length ≤ 14) && nsOkK ns ns.length
def wdOk (up : Bool) (rs : List R) (f : Int) (ws : List Wd) (hs : List Hd) (ns : List Wd) : Bool := dkOk up rs f ws && hsOk hs && nsOk ns
theorem hsOkK_zero (hs : List Hd) : hsOkK hs 0 = true := rfl
theorem hsOkK_succ {hs : List Hd} {k : Nat} {h : Hd} (hk : hs[k]? = some h) : hsOkK hs (k + 1) = (hsOkK hs k && hOkAt h k) := by
  unfold hsOkK
  rw [List.range_succ, List.all_append]
  simp [List.getD_eq_getElem?_getD, hk]
theorem hsOkK_no {hs : List Hd} {k n : Nat} (hk : k ≤ n) (h : hsOkK hs k = false) : hsOkK hs n = false := by
  unfold hsOkK at *
  rw [List.all_eq_false] at *
  obtain ⟨x, hx, hy⟩ := h
  exact ⟨x, by simp at hx ⊢; omega, hy⟩
theorem nsOkK_zero (ns : List Wd) : nsOkK ns 0 = true := by simp [nsOkK]
theorem nsOkK_succ {ns : List Wd} {k : Nat} (hk : k < ns.length) : nsOkK ns (k + 1) = (nsOkK ns k && Pl.wOk (ns.getD k (0, 0, 0, 0)).1 (ns.getD k (0, 0, 0, 0)).2.1 (ns.getD k (0, 0, 0, 0)).2.2.1 (ns.getD k (0, 0, 0, 0)).2.2.2) := by
  unfold nsOkK
  rw [wtake ns k hk, List.all_append]
  simp
theorem nsOkK_no {ns : List Wd} {k n : Nat} (hk : k ≤ n) (h : nsOkK ns k = false) : nsOkK ns n = false := by
  unfold nsOkK at *
  rw [List.all_eq_false] at *
  obtain ⟨x, hx, hy⟩ := h
  exact ⟨x, (List.take_sublist_take_left hk).subset hx, hy⟩

/-- Where a word of a list lies. -/
theorem Words.at_ {w : World} {v : Value} {ns : List Wd} {i : Nat} (hv : Words w v ns) (hi : i < ns.length) : ∃ b off cap, v = .slice (some ⟨b, off, none⟩) ns.length cap ∧ w.cell? ⟨b, off + i * 4, none⟩ = some (.int .i64 (ns.getD i (0, 0, 0, 0)).1) ∧ w.cell? ⟨b, off + i * 4 + 1, none⟩ = some (.int .i64 (ns.getD i (0, 0, 0, 0)).2.1) ∧ w.cell? ⟨b, off + i * 4 + 2, none⟩ = some (.int .i64 (ns.getD i (0, 0, 0, 0)).2.2.1) ∧ w.cell? ⟨b, off + i * 4 + 3, none⟩ = some (.int .i64 (ns.getD i (0, 0, 0, 0)).2.2.2) := by
  rcases hv with ⟨rfl, _⟩ | ⟨b, off, cap, h1, _, h3⟩
  · simp at hi
  · exact ⟨b, off, cap, h1, h3 i hi⟩

set_option maxHeartbeats 4000000 in
theorem implNetsOk_any (v : Value) (ns : List Wd) (w : World) (hv : Words w v ns) (hl : ns.length ≤ 1048576) :
    Calls Tryz.prog 45 #[v] w fun e w' => e = .returned (.bool (nsOk ns)) ∧ Below w.heap.size w w' := by
  have HV : Hid (∀ W, Below w.heap.size w W → Words W v ns) := fun W h => hv.later h (Nat.le_refl _)
  obtain ⟨av, cv, rfl⟩ := hv.shape
  clear hv
  by_cases h14 : ns.length ≤ 14
  · have HE : Hid (nsOk ns = nsOkK ns ns.length) := by show _ = _; unfold nsOk; simp [h14]
    go_enter Tryz.func45, Tryz.ntmps45
    go_wp2
    go_loopw [10] (fun i wr => ∃ k : Nat, k ≤ ns.length ∧ i = .int .i64 k ∧ Hid (nsOkK ns k = true) ∧ Hid (Below w.heap.size w wr)) (fun i _ => ns.length - (intOf i).toNat)
    case atStart => exact ⟨0, Nat.zero_le _, rfl, nsOkK_zero ns, Below.refl _ _⟩
    case round =>
      obtain ⟨k, hk, rfl, HK, HB⟩ := hrel
      by_cases hlt : k < ns.length
      · obtain ⟨b, off, cap, hvv, c0, c1, c2, c3⟩ := (HV.out wr HB.out).at_ hlt
        simp only [Value.slice.injEq] at hvv
        obtain ⟨rfl, -, rfl⟩ := hvv
        have HS := hide_it (nsOkK_succ hlt)
        obtain ⟨p0, p1, p2, p3, hp⟩ : ∃ p0 p1 p2 p3, ns.getD k (0, 0, 0, 0) = (p0, p1, p2, p3) := ⟨_, _, _, _, rfl⟩
        rw [hp] at c0 c1 c2 c3 HS
        simp only at c0 c1 c2 c3 HS
        obtain ⟨bb, hbb⟩ : ∃ x, Pl.wOk p0 p1 p2 p3 = x := ⟨_, rfl⟩
        rw [hbb] at HS
        obtain ⟨w1, hw1⟩ : ∃ W, Hid (W = wr.alloc (.cells #[.int .i64 p0, .int .i64 p1, .int .i64 p2, .int .i64 p3] 82)) := ⟨_, rfl⟩
        have A1 : Hid (Below w.heap.size w w1) := by show Below _ _ _; rw [hw1.out]; exact HB.out.trans ((alloc_below _ _).mono HB.out.size)
        have HT := hide_it (implWordOk_any p0 p1 p2 p3 w1)
        rw [hbb] at HT
        clear hp hbb
        cases bb
        · have HF : Hid (nsOk ns = false) := by show _ = _; rw [HE.out]; exact nsOkK_no (k := k + 1) (by omega) (by rw [HS.out, Bool.and_false])
          go_wp2_with fail
          rw [← hw1.out]
          refine HT.out.mono ?_
          rintro e w2 ⟨rfl, hb2⟩
          have B2 := hide_it (A1.out.trans (hb2.mono A1.out.size))
          clear hb2
          go_wp2
          go_ret
          exact ⟨by rw [HF.out]; rfl, B2.out⟩
        · have HK2 : Hid (nsOkK ns (k + 1) = true) := by show _ = _; rw [HS.out, HK.out]; rfl
          go_wp2_with fail
          rw [← hw1.out]
          refine HT.out.mono ?_
          rintro e w2 ⟨rfl, hb2⟩
          have B2 := hide_it (A1.out.trans (hb2.mono A1.out.size))
          clear hb2
          go_wp2
          go_roundw
          case rel => exact ⟨k + 1, by omega, by go_num, HK2, B2⟩
          case measure => simp [intOf]; omega
      · have hke : k = ns.length := by omega
        subst hke
        have HF : Hid (nsOk ns = true) := HE.out.trans HK.out
        go_wp2
        go_ret
        exact ⟨by rw [HF.out]; rfl, HB.out⟩
  · have HE : Hid (nsOk ns = false) := by show _ = _; unfold nsOk; simp [h14]
    have h15 : (14 : Int) < (ns.length : Int) := by omega
    go_enter Tryz.func45, Tryz.ntmps45
    go_wp2
    go_ret
    exact ⟨by rw [HE.out]; rfl, Below.refl _ _⟩

set_option maxHeartbeats 4000000 in
theorem implHousesOk_any (v : Value) (hs : List Hd) (a : Addr) (w : World) (hv : Houses w v hs) (hl : htot hs ≤ 1048576) (ha : ErrAt w a) :
    Calls Tryz.prog 44 #[v] w fun e w' => e = .returned (.bool (hsOk hs)) ∧ Below w.heap.size w w' := by
  have HV : Hid (∀ W, Below w.heap.size w W → Houses W v hs) := fun W h => hv.later h (Nat.le_refl _)
  have HA : Hid (∀ W, Below w.heap.size w W → ErrAt W a) := fun W h => ha.later h (Nat.le_refl _)
  obtain ⟨av, cv, rfl⟩ := hv.shape
  clear hv ha
  by_cases h3 : hs.length = 3
  · have HE : Hid (hsOk hs = hsOkK hs hs.length) := by show _ = _; unfold hsOk; simp [h3]
    have h3b : ((hs.length : Int) == 3) = true := by simp; omega
    go_enter Tryz.func44, Tryz.ntmps44
    go_wp2
    have H3 := hide_it h3
    clear h3 h3b
    go_loopg [10] 3 (fun g i wr => ∃ k : Nat, k ≤ 3 ∧ g = 3 - k ∧ i = .int .i64 k ∧ Hid (hsOkK hs k = true) ∧ Hid (Below w.heap.size w wr))
    case atStart => exact ⟨0, Nat.zero_le _, rfl, rfl, hsOkK_zero hs, Below.refl _ _⟩
    case round =>
      obtain ⟨k, hk, rfl, rfl, HK, HB⟩ := hrel
      by_cases hlt3 : k < 3
      · have hlt : k < hs.length := by rw [H3.out]; exact hlt3
        obtain ⟨⟨id, up, room, rs, f⟩, hg⟩ : ∃ h, hs[k]? = some h := ⟨_, List.getElem?_eq_getElem hlt⟩
        obtain ⟨b, off, cap, u, hvv, c0, c1, c2, c3, c4, hR⟩ := (HV.out wr HB.out).at_ hg
        simp only [Value.slice.injEq] at hvv
        obtain ⟨rfl, -, rfl⟩ := hvv
        have hrl : tot rs ≤ 1048576 := Nat.le_trans (htot_mem hs _ (List.mem_of_getElem? hg)) hl
        have HS := hide_it (hsOkK_succ hg)
        obtain ⟨au, cu, rfl⟩ := hR.shape
        obtain ⟨w1, hw1⟩ : ∃ W, Hid (W = wr.alloc (.cells #[.int .i64 id, .bool up, .int .i64 room, .slice au rs.length cu, .int .i64 f] 79)) := ⟨_, rfl⟩
        have A0 : Hid (Below wr.heap.size wr w1) := by show Below _ _ _; rw [hw1.out]; exact alloc_below _ _
        have A1 : Hid (Below w.heap.size w w1) := HB.out.trans (A0.out.mono HB.out.size)
        have HT := hide_it (implHouseOk_any id up room (.slice au rs.length cu) rs f a w1 (hR.later A0.out (Nat.le_refl _)) hrl (HA.out _ A1.out))
        clear hR hg
        by_cases hid : id = (k : Int) + 1
        · obtain ⟨bb, hbb⟩ : ∃ x, hoOk id room rs f = x := ⟨_, rfl⟩
          have HS2 : Hid (hsOkK hs (k + 1) = bb) := by show _ = _; rw [HS.out, HK.out]; unfold hOkAt; simp only; rw [hbb]; simp [hid]
          rw [hbb] at HT
          clear hbb
          have hidb : (id != (k : Int) + 1) = false := by simpa using hid
          have HC : Hid (bb = true → hsOkK hs (k + 1) = true) := fun e => HS2.out.trans e
          have HD : Hid (bb = false → hsOk hs = false) := fun e => by rw [HE.out]; exact hsOkK_no (k := k + 1) hlt (HS2.out.trans e)
          clear hid HS2
          cases bb
          · have HF := hide_it (HD.out rfl)
            go_wp2_with fail
            rw [← hw1.out]
            refine HT.out.mono ?_
            rintro e w2 ⟨rfl, hb2⟩
            have B2 := hide_it (A1.out.trans (hb2.mono A1.out.size))
            clear hb2
            go_wp2
            go_ret
            exact ⟨by rw [HF.out]; rfl, B2.out⟩
          · have HK2 := hide_it (HC.out rfl)
            go_wp2_with fail
            rw [← hw1.out]
            refine HT.out.mono ?_
            rintro e w2 ⟨rfl, hb2⟩
            have B2 := hide_it (A1.out.trans (hb2.mono A1.out.size))
            clear hb2
            go_wp2
            go_roundg (3 - (k + 1))
            case measure => omega
            case rel => exact ⟨k + 1, by omega, rfl, by go_num, HK2, B2⟩
        · have HF : Hid (hsOk hs = false) := by show _ = _; rw [HE.out]; exact hsOkK_no (k := k + 1) hlt (by rw [HS.out]; unfold hOkAt; simp only; simp [hid])
          have hidb : (id != (k : Int) + 1) = true := by simpa using hid
          clear hid HT
          go_wp2
          go_ret
          rw [← hw1.out]
          exact ⟨by rw [HF.out]; rfl, A1.out⟩
      · have hke : k = 3 := by omega
        subst hke
        have HF : Hid (hsOk hs = true) := HE.out.trans (by rw [H3.out]; exact HK.out)
        go_wp2
        go_ret
        exact ⟨by rw [HF.out]; rfl, HB.out⟩
  · have HE : Hid (hsOk hs = false) := by show _ = _; unfold hsOk; simp [h3]
    have h3b : ((hs.length : Int) == 3) = false := by simp; omega
    go_enter Tryz.func44, Tryz.ntmps44
    go_wp2
    go_ret
    exact ⟨by rw [HE.out]; rfl, Below.refl _ _⟩

set_option maxHeartbeats 4000000 in
theorem specWorldOk_any (up : Bool) (v u hv nv : Value) (rs : List R) (f : Int) (ws : List Wd) (hs : List Hd) (ns : List Wd) (w : World) (hw : WdAt w v u hv nv rs ws hs ns) (hfu : Form u ws.length) (hl : wdTot rs ws hs ns ≤ 1048576) :
    Calls Tryz.prog 8 #[worldV up v f u hv nv] w fun e w' => e = .returned (.bool (wdOk up rs f ws hs ns)) ∧ Below w.heap.size w w' := by
  have hl1 : tot rs ≤ 1048576 := by unfold wdTot at hl; omega
  have hl2 : ws.length ≤ 1048576 := by unfold wdTot at hl; omega
  have hl3 : htot hs ≤ 1048576 := by unfold wdTot at hl; omega
  have hl4 : ns.length ≤ 1048576 := by unfold wdTot at hl; omega
  have HW : Hid (∀ W, Below w.heap.size w W → WdAt W v u hv nv rs ws hs ns) := fun W h => hw.later h (Nat.le_refl _)
  have HDK : Hid (∀ W, Below w.heap.size w W → Calls Tryz.prog 37 #[deskV up v f u] W fun e w' => e = .returned (.bool (dkOk up rs f ws)) ∧ Below W.heap.size W w') := fun W h =>
    specDeskOk_any up v u rs f ws W (HW.out W h).1 hl1 hl2 hfu
  obtain ⟨av, cv, au, cu, ah, ch, an, cn, rfl, rfl, rfl, rfl⟩ := hw.shape
  have hlh := htot_len hs
  clear hw hl hfu
  obtain ⟨w0, hw0⟩ : ∃ W, Hid (W = w.alloc (.cells #[.bool up, .slice av rs.length cv, .int .i64 f, .slice au ws.length cu, .slice ah hs.length ch, .slice an ns.length cn] 41)) := ⟨_, rfl⟩
  have B0 : Hid (Below w.heap.size w w0) := by show Below _ _ _; rw [hw0.out]; exact alloc_below _ _
  have X0 : Hid (Blk w0 w.heap.size #[.bool up, .slice av rs.length cv, .int .i64 f, .slice au ws.length cu, .slice ah hs.length ch, .slice an ns.length cn] 41) := by show Blk _ _ _ _; rw [hw0.out]; exact Blk.new _ _ _
  have HD := hide_it (HDK.out w0 B0.out)
  cases hok : dkOk up rs f ws
  · have HE : Hid (wdOk up rs f ws hs ns = false) := by show _ = _; unfold wdOk; rw [hok]; rfl
    rw [hok] at HD
    clear hok
    go_enter Tryz.func8, Tryz.ntmps8
    go_wp2_with fail
    rw [← hw0.out]
    refine HD.out.mono ?_
    rintro e w1 ⟨rfl, hb⟩
    have B1 := hide_it (B0.out.trans (hb.mono B0.out.size))
    clear hb
    go_wp2
    go_ret
    exact ⟨by rw [HE.out]; rfl, B1.out⟩
  rw [hok] at HD
  have HE : Hid (wdOk up rs f ws hs ns = (hsOk hs && nsOk ns)) := by show _ = _; unfold wdOk; rw [hok]; rfl
  clear hok
  go_enter Tryz.func8, Tryz.ntmps8
  go_wp2_with fail
  rw [← hw0.out]
  refine HD.out.mono ?_
  rintro e w1 ⟨rfl, hb⟩
  have X1 := hide_it (X0.out.after hb)
  have B1 := hide_it (B0.out.trans (hb.mono B0.out.size))
  clear hb
  obtain ⟨x0, x1, x2, x3, x4, x5⟩ := X1.out.cells6
  by_cases h3 : hs.length = 3
  · have h3b : ((hs.length : Int) != 3) = false := by simp; omega
    by_cases h14 : ns.length ≤ 14
    · have h14b : ¬ (14 : Int) < (ns.length : Int) := by omega
      have HE1 : Hid (hsOk hs = hsOkK hs hs.length) := by show _ = _; unfold hsOk; simp [h3]
      have HE2 : Hid (nsOk ns = nsOkK ns ns.length) := by show _ = _; unfold nsOk; simp [h14]
      have H3 := hide_it h3
      go_wp2
      clear x0 x1 x2 x3 x4 x5 h3 h3b
      go_loopg [3] hs.length (fun g i wr => ∃ k : Nat, k ≤ hs.length ∧ g = hs.length - k ∧ i = .int .i64 k ∧ Hid (hsOkK hs k = true) ∧ Hid (Below w1.heap.size w1 wr))
      case atStart => exact ⟨0, Nat.zero_le _, rfl, rfl, hsOkK_zero hs, Below.refl _ _⟩
      case round =>
        obtain ⟨k, hk, rfl, rfl, HK, HB⟩ := hrel
        have X2 := hide_it (X1.out.after HB.out)
        have B2 := hide_it (B1.out.trans (HB.out.mono B1.out.size))
        obtain ⟨x0, x1, x2, x3, x4, x5⟩ := X2.out.cells6
        by_cases hlt : k < hs.length
        · obtain ⟨⟨id, up', room, rs', f'⟩, hg⟩ : ∃ h, hs[k]? = some h := ⟨_, List.getElem?_eq_getElem hlt⟩
          obtain ⟨b, off, cap, u', hvv, hcx⟩ := (HW.out wr B2.out).2.1.at_ hg
          simp only [Value.slice.injEq] at hvv
          obtain ⟨rfl, -, rfl⟩ := hvv
          have CX := hide_it hcx
          obtain ⟨c0, c1, c2, c3, c4, hR⟩ := hcx
          have hrl : tot rs' ≤ 1048576 := Nat.le_trans (htot_mem hs _ (List.mem_of_getElem? hg)) hl3
          have HS := hide_it (hsOkK_succ hg)
          have HG := hide_it hg
          have HT := hide_it (specHouseOk_any id up' room u' rs' f' wr hR hrl)
          obtain ⟨au', cu', rfl⟩ := hR.shape
          clear hR hg
          obtain ⟨bb, hbb⟩ : ∃ x, hoOk id room rs' f' = x := ⟨_, rfl⟩
          rw [hbb] at HT
          have HV : Hid (hsOkK hs (k + 1) = (bb && decide (id = (k : Int) + 1))) := by show _ = _; rw [HS.out, HK.out]; unfold hOkAt; simp only; rw [hbb]; simp
          have HN : Hid (hsOkK hs (k + 1) = false → wdOk up rs f ws hs ns = false) := fun e => by rw [HE.out, HE1.out, hsOkK_no (k := k + 1) (by omega) e]; rfl
          clear hbb HS
          cases bb
          · have HF := hide_it (HN.out HV.out)
            go_wp2_with fail
            refine HT.out.mono ?_
            rintro e w2 ⟨rfl, hb2⟩
            have B3 := hide_it (B2.out.trans (hb2.mono B2.out.size))
            clear hb2
            go_wp2
            go_ret
            exact ⟨by rw [HF.out]; rfl, B3.out⟩
          · go_wp2_with fail
            refine HT.out.mono ?_
            rintro e w2 ⟨rfl, hb2⟩
            have B3 := hide_it (B2.out.trans (hb2.mono B2.out.size))
            have L3 := hide_it (HB.out.trans (hb2.mono HB.out.size))
            have X3 := hide_it (X2.out.after hb2)
            clear x0 x1 x2 x3 x4 x5 c0 c1 c2 c3 c4
            obtain ⟨x0, x1, x2, x3, x4, x5⟩ := X3.out.cells6
            obtain ⟨c0, c1, c2, c3, c4, hR⟩ := CX.out.later hb2 (Nat.le_refl _)
            clear hR hb2
            by_cases hid : id = (k : Int) + 1
            · have hidb : (id != (k : Int) + 1) = false := by simpa using hid
              have HK2 : Hid (hsOkK hs (k + 1) = true) := by show _ = _; rw [HV.out]; simp [hid]
              clear hid
              go_wp2
              go_roundg (hs.length - (k + 1))
              case measure => omega
              case rel => exact ⟨k + 1, by omega, rfl, by go_num, HK2, L3⟩
            · have hidb : (id != (k : Int) + 1) = true := by simpa using hid
              have HF := hide_it (HN.out (by rw [HV.out]; simp [hid]))
              clear hid
              go_wp2
              go_ret
              exact ⟨by rw [HF.out]; rfl, B3.out⟩
        · have hke : k = hs.length := by omega
          subst hke
          have HF1 : Hid (hsOk hs = true) := HE1.out.trans HK.out
          have HNT : Hid (nsOk ns = false → wdOk up rs f ws hs ns = false) := fun e => by rw [HE.out, e, Bool.and_false]
          have HYT : Hid (nsOk ns = true → wdOk up rs f ws hs ns = true) := fun e => by rw [HE.out, HF1.out, e]; rfl
          go_wp2
          clear x0 x1 x2 x3 x4 x5
          rename World => w3
          go_loopg [4] ns.length (fun g i wr => ∃ k : Nat, k ≤ ns.length ∧ g = ns.length - k ∧ i = .int .i64 k ∧ Hid (nsOkK ns k = true) ∧ Hid (Below w3.heap.size w3 wr))
          case atStart => exact ⟨0, Nat.zero_le _, rfl, rfl, nsOkK_zero ns, Below.refl _ _⟩
          case round =>
            obtain ⟨k, hk, rfl, rfl, HK3, HB3⟩ := hrel
            rename World => wq
            have X4 := hide_it (X2.out.after HB3.out)
            have B4 := hide_it (B2.out.trans (HB3.out.mono B2.out.size))
            obtain ⟨x0, x1, x2, x3, x4, x5⟩ := X4.out.cells6
            by_cases hlt : k < ns.length
            · obtain ⟨b, off, cap, hvv, c0, c1, c2, c3⟩ := (HW.out wq B4.out).2.2.at_ hlt
              simp only [Value.slice.injEq] at hvv
              obtain ⟨rfl, -, rfl⟩ := hvv
              have HS := hide_it (nsOkK_succ hlt)
              obtain ⟨p0, p1, p2, p3, hp⟩ : ∃ p0 p1 p2 p3, ns.getD k (0, 0, 0, 0) = (p0, p1, p2, p3) := ⟨_, _, _, _, rfl⟩
              rw [hp] at c0 c1 c2 c3 HS
              simp only at c0 c1 c2 c3 HS
              obtain ⟨bb, hbb⟩ : ∃ x, Pl.wOk p0 p1 p2 p3 = x := ⟨_, rfl⟩
              rw [hbb] at HS
              have HT := hide_it (specWordOk_any p0 p1 p2 p3 wq)
              rw [hbb] at HT
              clear hp hbb
              cases bb
              · have HF := hide_it (HNT.out (by rw [HE2.out]; exact nsOkK_no (k := k + 1) (by omega) (by rw [HS.out, Bool.and_false])))
                go_wp2_with fail
                refine HT.out.mono ?_
                rintro e w4 ⟨rfl, hb4⟩
                have B5 := hide_it (B4.out.trans (hb4.mono B4.out.size))
                clear hb4
                go_wp2
                go_ret
                exact ⟨by rw [HF.out]; rfl, B5.out⟩
              · have HK4 : Hid (nsOkK ns (k + 1) = true) := by show _ = _; rw [HS.out, HK3.out]; rfl
                go_wp2_with fail
                refine HT.out.mono ?_
                rintro e w4 ⟨rfl, hb4⟩
                have L5 := hide_it (HB3.out.trans (hb4.mono HB3.out.size))
                clear hb4
                go_wp2
                go_roundg (ns.length - (k + 1))
                case measure => omega
                case rel => exact ⟨k + 1, by omega, rfl, by go_num, HK4, L5⟩
            · have hke : k = ns.length := by omega
              subst hke
              have HF := hide_it (HYT.out (HE2.out.trans HK3.out))
              go_wp2
              go_ret
              exact ⟨by rw [HF.out]; rfl, B4.out⟩
    · have HF : Hid (wdOk up rs f ws hs ns = false) := by show _ = _; rw [HE.out]; unfold nsOk; simp [h14]
      have h14b : (14 : Int) < (ns.length : Int) := by omega
      go_wp2
      go_ret
      exact ⟨by rw [HF.out]; rfl, B1.out⟩
  · have HF : Hid (wdOk up rs f ws hs ns = false) := by show _ = _; rw [HE.out]; unfold hsOk; simp [h3]
    have h3b : ((hs.length : Int) != 3) = true := by simp; omega
    go_wp2
    go_ret
    exact ⟨by rw [HF.out]; rfl, B1.out⟩

set_option maxHeartbeats 4000000 in
theorem implWorldOk_any (up : Bool) (v u hv nv : Value) (rs : List R) (f : Int) (ws : List Wd) (hs : List Hd) (ns : List Wd) (a : Addr) (w : World) (hw : WdAt w v u hv nv rs ws hs ns) (hfv : Form v rs.length) (hl : wdTot rs ws hs ns ≤ 1048576) (ha : ErrAt w a) :
    Calls Tryz.prog 10 #[worldV up v f u hv nv] w fun e w' => e = .returned (.bool (wdOk up rs f ws hs ns)) ∧ Below w.heap.size w w' := by
  have hl1 : tot rs ≤ 1048576 := by unfold wdTot at hl; omega
  have hl2 : ws.length ≤ 1048576 := by unfold wdTot at hl; omega
  have hl3 : htot hs ≤ 1048576 := by unfold wdTot at hl; omega
  have hl4 : ns.length ≤ 1048576 := by unfold wdTot at hl; omega
  have HW : Hid (∀ W, Below w.heap.size w W → WdAt W v u hv nv rs ws hs ns) := fun W h => hw.later h (Nat.le_refl _)
  have HA : Hid (∀ W, Below w.heap.size w W → ErrAt W a) := fun W h => ha.later h (Nat.le_refl _)
  have HDK : Hid (∀ W, Below w.heap.size w W → Calls Tryz.prog 43 #[deskV up v f u] W fun e w' => e = .returned (.bool (dkOk up rs f ws)) ∧ Below W.heap.size W w') := fun W h =>
    implDeskOk_any up v u rs f ws a W (HW.out W h).1 hl1 hl2 hfv (HA.out W h)
  have HHS : Hid (∀ W, Below w.heap.size w W → Calls Tryz.prog 44 #[hv] W fun e w' => e = .returned (.bool (hsOk hs)) ∧ Below W.heap.size W w') := fun W h =>
    implHousesOk_any hv hs a W (HW.out W h).2.1 hl3 (HA.out W h)
  have HNS : Hid (∀ W, Below w.heap.size w W → Calls Tryz.prog 45 #[nv] W fun e w' => e = .returned (.bool (nsOk ns)) ∧ Below W.heap.size W w') := fun W h =>
    implNetsOk_any nv ns W (HW.out W h).2.2 hl4
  obtain ⟨av, cv, au, cu, ah, ch, an, cn, rfl, rfl, rfl, rfl⟩ := hw.shape
  clear hw hl hfv ha
  obtain ⟨w0, hw0⟩ : ∃ W, Hid (W = w.alloc (.cells #[.bool up, .slice av rs.length cv, .int .i64 f, .slice au ws.length cu, .slice ah hs.length ch, .slice an ns.length cn] 41)) := ⟨_, rfl⟩
  have B0 : Hid (Below w.heap.size w w0) := by show Below _ _ _; rw [hw0.out]; exact alloc_below _ _
  have X0 : Hid (Blk w0 w.heap.size #[.bool up, .slice av rs.length cv, .int .i64 f, .slice au ws.length cu, .slice ah hs.length ch, .slice an ns.length cn] 41) := by show Blk _ _ _ _; rw [hw0.out]; exact Blk.new _ _ _
  have HD := hide_it (HDK.out w0 B0.out)
  obtain ⟨DD, hDD⟩ : ∃ x, dkOk up rs f ws = x := ⟨_, rfl⟩
  obtain ⟨HH, hHH⟩ : ∃ x, hsOk hs = x := ⟨_, rfl⟩
  obtain ⟨NN, hNN⟩ : ∃ x, nsOk ns = x := ⟨_, rfl⟩
  have HE : Hid (wdOk up rs f ws hs ns = (DD && HH && NN)) := by show _ = _; unfold wdOk; rw [hDD, hHH, hNN]
  rw [hDD] at HD
  rw [hHH] at HHS
  rw [hNN] at HNS
  clear hDD hHH hNN
  go_enter Tryz.func10, Tryz.ntmps10
  go_wp2_with fail
  rw [← hw0.out]
  refine HD.out.mono ?_
  rintro e w1 ⟨rfl, hb⟩
  have X1 := hide_it (X0.out.after hb)
  have B1 := hide_it (B0.out.trans (hb.mono B0.out.size))
  clear hb HD
  cases DD
  · have HF : Hid (wdOk up rs f ws hs ns = false) := HE.out
    go_wp2
    go_ret
    exact ⟨by rw [HF.out]; rfl, B1.out⟩
  obtain ⟨x0, x1, x2, x3, x4, x5⟩ := X1.out.cells6
  have HH1 := hide_it (HHS.out w1 B1.out)
  go_wp2_with fail
  refine HH1.out.mono ?_
  rintro e w2 ⟨rfl, hb⟩
  have X2 := hide_it (X1.out.after hb)
  have B2 := hide_it (B1.out.trans (hb.mono B1.out.size))
  clear hb HH1 x0 x1 x2 x3 x4 x5
  cases HH
  · have HF : Hid (wdOk up rs f ws hs ns = false) := HE.out
    go_wp2
    go_ret
    exact ⟨by rw [HF.out]; rfl, B2.out⟩
  obtain ⟨x0, x1, x2, x3, x4, x5⟩ := X2.out.cells6
  have HN1 := hide_it (HNS.out w2 B2.out)
  have HF : Hid (wdOk up rs f ws hs ns = NN) := by show _ = _; rw [HE.out]; rfl
  go_wp2_with fail
  refine HN1.out.mono ?_
  rintro e w3 ⟨rfl, hb⟩
  have B3 := hide_it (B2.out.trans (hb.mono B2.out.size))
  clear hb HN1 x0 x1 x2 x3 x4 x5
  go_wp2
  go_ret
  exact ⟨by rw [HF.out]; rfl, B3.out⟩

end Go.Proofs.YtkkkdgpbmmjieaaGreatDoor

namespace Go.Proofs.YtkkkdgpbmmjieaaGreatDoor
open Go.RowKit

/-- A keeper as a value: its log, its number, whether it is up, how many it has. -/
abbrev keeperV (v : Value) (f id : Int) (up : Bool) (room : Int) : Value := .agg #[v, .int .i64 f, .int .i64 id, .bool up, .int .i64 room]

set_option maxHeartbeats 1000000 in
theorem keeperOf_any (id : Int) (up : Bool) (room : Int) (ao : Option Addr) (n cap : Nat) (f : Int) (w : World) :
    Calls Tryz.prog 82 #[houseV id up room (.slice ao n cap) f] w fun e w' => e = .returned (keeperV (.slice ao n cap) f id up room) ∧ Below w.heap.size w w' := by
  go_enter Tryz.func82, Tryz.ntmps82
  go_wp2
  refine bodyPost_ret (v := keeperV (.slice ao n cap) f id up room) (by simp [results, Tryz.results82, go_sem]) rfl ⟨rfl, ?_⟩
  exact below2 w _ _

set_option maxHeartbeats 2000000 in
theorem l11Copy_any (id : Int) (up : Bool) (room : Int) (v : Value) (rs : List R) (f : Int) (w : World) (hv : Recs w v rs) (hl : tot rs ≤ 1048576) :
    Calls Tryz.prog 91 #[houseV id up room v f] w fun e w' => HoOut w w' e id up room rs f := by
  have HS : Hid (∀ W, Below w.heap.size w W → Calls Tryz.prog 139 #[.agg #[v, .int .i64 f]] W fun e w' => LogOut W w' e rs f) := fun W h => l1Copy_any v rs f W (hv.later h (Nat.le_refl _)) hl
  obtain ⟨av, cv, rfl⟩ := hv.shape
  clear hv
  obtain ⟨w0, hw0⟩ : ∃ W, Hid (W = (w.alloc (.cells #[.int .i64 id, .bool up, .int .i64 room, .slice av rs.length cv, .int .i64 f] 79)).alloc (.cells #[.int .i64 0, .bool false, .int .i64 0, .slice none 0 0, .int .i64 0] 79)) := ⟨_, rfl⟩
  have B0 : Hid (Below w.heap.size w w0) := by show Below _ _ _; rw [hw0.out]; exact below2 _ _ _
  have X0 : Hid (Blk w0 w.heap.size #[.int .i64 id, .bool up, .int .i64 room, .slice av rs.length cv, .int .i64 f] 79) := by show Blk _ _ _ _; rw [hw0.out]; exact (Blk.new _ _ _).alloc _
  have Z0 : Hid (Blk w0 (w.heap.size + 1) #[.int .i64 0, .bool false, .int .i64 0, .slice none 0 0, .int .i64 0] 79) := by show Blk _ _ _ _; rw [hw0.out]; exact Blk.new2 _ _ _ _
  have hs0 : w0.heap.size = w.heap.size + 2 := by rw [hw0.out, size2]
  go_enter Tryz.func91, Tryz.ntmps91
  go_wp2_with fail
  rw [← hw0.out]
  refine (HS.out _ B0.out).mono ?_
  rintro e w1 ⟨ao, cap, rfl, hm, hb⟩
  obtain ⟨x0, x1, x2, x3, x4⟩ := (X0.out.after hb).cells5
  obtain ⟨z0, z1, z2, z3, z4⟩ := (Z0.out.after hb).cells5
  obtain ⟨xf0, xf1, xf2, xf3, xf4⟩ := (X0.out.after hb).free5
  obtain ⟨zf0, zf1, zf2, zf3, zf4⟩ := (Z0.out.after hb).free5
  have HM := hide_it hm
  have HB := hide_it (B0.out.trans (hb.mono B0.out.size))
  have hz : w.heap.size + 2 ≤ w1.heap.size := by have := hb.size; omega
  clear hm hb
  go_wp2
  refine bodyPost_ret (v := houseV id up room (.slice ao rs.length cap) f) (by simp [results, Tryz.results91, go_sem, *]) rfl ?_
  refine ⟨ao, cap, rfl, ?_, ?_⟩
  · refine Made.lo ?_ (show w.heap.size ≤ w0.heap.size by omega)
    repeat (refine Made.setBelow ?_ (by simp; omega) _)
    exact HM.out
  · repeat (refine Below.setCell ?_ (by first | (simp; done) | (simp; omega)) _)
    exact HB.out

set_option maxHeartbeats 4000000 in
theorem keeperHouse_any (id : Int) (up : Bool) (room : Int) (v : Value) (rs : List R) (f : Int) (w : World) (hv : Recs w v rs) (hl : tot rs ≤ 1048576) :
    Calls Tryz.prog 93 #[keeperV v f id up room] w fun e w' => HoOut w w' e id up room rs f := by
  have HS : Hid (∀ W, Below w.heap.size w W → Calls Tryz.prog 140 #[v] W fun e w' => ∃ ao cap, e = .returned (.slice ao rs.length cap) ∧ Made w' W.heap.size (.slice ao rs.length cap) rs ∧ Below W.heap.size W w') := fun W h =>
    copyRecs_any v rs W (hv.later h (Nat.le_refl _)) hl
  obtain ⟨av, cv, rfl⟩ := hv.shape
  clear hv
  obtain ⟨w0, hw0⟩ : ∃ W, Hid (W = (w.alloc (.cells #[.slice av rs.length cv, .int .i64 f, .int .i64 id, .bool up, .int .i64 room] 135)).alloc (.cells #[.int .i64 0, .bool false, .int .i64 0, .slice none 0 0, .int .i64 0] 79)) := ⟨_, rfl⟩
  have B0 : Hid (Below w.heap.size w w0) := by show Below _ _ _; rw [hw0.out]; exact below2 _ _ _
  have X0 : Hid (Blk w0 w.heap.size #[.slice av rs.length cv, .int .i64 f, .int .i64 id, .bool up, .int .i64 room] 135) := by show Blk _ _ _ _; rw [hw0.out]; exact (Blk.new _ _ _).alloc _
  have Z0 : Hid (Blk w0 (w.heap.size + 1) #[.int .i64 0, .bool false, .int .i64 0, .slice none 0 0, .int .i64 0] 79) := by show Blk _ _ _ _; rw [hw0.out]; exact Blk.new2 _ _ _ _
  have hs0 : w0.heap.size = w.heap.size + 2 := by rw [hw0.out, size2]
  obtain ⟨x0, x1, x2, x3, x4⟩ := X0.out.cells5
  go_enter Tryz.func93, Tryz.ntmps93
  go_wp2_with fail
  rw [← hw0.out]
  go_region_held (fun w' => w'.cell? ⟨w.heap.size, 0, none⟩ = some (.slice av rs.length cv) ∧ w'.cell? ⟨w.heap.size, 1, none⟩ = some (.int .i64 f) ∧ w'.cell? ⟨w.heap.size, 2, none⟩ = some (.int .i64 id) ∧ w'.cell? ⟨w.heap.size, 3, none⟩ = some (.bool up) ∧ w'.cell? ⟨w.heap.size, 4, none⟩ = some (.int .i64 room)) (go_keep)
    ((go_at_call 140; refine (HS.out _ B0.out.drew).mono ?_; rintro e w1 ⟨ao, cap, rfl, hm, hb⟩; have hb' := (Below.refl w0.heap.size w0).drew.trans hb; obtain ⟨y0, y1, y2, y3, y4⟩ := (X0.out.after hb').cells5; obtain ⟨z0, z1, z2, z3, z4⟩ := (Z0.out.after hb').cells5; obtain ⟨zf0, zf1, zf2, zf3, zf4⟩ := (Z0.out.after hb').free5; have HM := hide_it hm; have HB := hide_it (B0.out.trans (hb'.mono B0.out.size)); have hz : w.heap.size + 2 ≤ w1.heap.size := (by have := hb'.size; omega); clear hm hb hb'))
  all_goals
    go_wp2
    refine bodyPost_ret (v := houseV id up room (.slice ao rs.length cap) f) (by simp [results, Tryz.results93, go_sem, *]) rfl ?_
    refine ⟨ao, cap, rfl, ?_, ?_⟩
    · refine Made.lo ?_ (show w.heap.size ≤ w0.heap.size by omega)
      repeat (refine Made.setBelow ?_ (by simp; omega) _)
      exact HM.out
    · repeat (refine Below.setCell ?_ (by first | (simp; done) | (simp; omega)) _)
      exact HB.out

end Go.Proofs.YtkkkdgpbmmjieaaGreatDoor

namespace Go.Proofs.YtkkkdgpbmmjieaaGreatDoor
open Go.RowKit

/-- A house as plain data: its number, whether it is up, how many it has, its records, how many of them are forced. -/
abbrev Ho := Int × Bool × Int × List R × Int
def hoZ : Ho := (0, false, 0, [], 0)
def hoForce (id : Int) (up : Bool) (room : Int) (rs : List R) (f : Int) : Ho := if hoOk id room rs f = true then (id, up, room, rs, if up = true then rs.length else f) else hoZ
def hoFall (id room : Int) (rs : List R) (f keep : Int) : Ho := if hoOk id room rs f = true then (id, false, room, rs.take (fallN rs.length f keep), fallN rs.length f keep) else hoZ
def hoRise (id room : Int) (rs : List R) (f : Int) : Ho := if hoOk id room rs f = true then (id, true, room, rs, f) else hoZ
def HoO (w w' : World) (e : Ending) (o : Ho) : Prop := HoOut w w' e o.1 o.2.1 o.2.2.1 o.2.2.2.1 o.2.2.2.2
theorem HoO.none_ {w w' : World} (h : Below w.heap.size w w') : HoO w w' (.returned (houseV 0 false 0 (.slice none 0 0) 0)) hoZ := ⟨none, 0, rfl, Made.none _ _, h⟩
theorem hoForce_tot (id : Int) (up : Bool) (room : Int) (rs : List R) (f : Int) (hl : tot rs ≤ 1048576) : tot (hoForce id up room rs f).2.2.2.1 ≤ 1048576 := by
  unfold hoForce; split
  · exact hl
  · simp [hoZ, tot, pre]
theorem hoRise_tot (id room : Int) (rs : List R) (f : Int) (hl : tot rs ≤ 1048576) : tot (hoRise id room rs f).2.2.2.1 ≤ 1048576 := by
  unfold hoRise; split
  · exact hl
  · simp [hoZ, tot, pre]
theorem hoFall_tot (id room : Int) (rs : List R) (f keep : Int) (hl : tot rs ≤ 1048576) : tot (hoFall id room rs f keep).2.2.2.1 ≤ 1048576 := by
  unfold hoFall; split
  · obtain ⟨h0, h1, _⟩ := logOk_f (hoOk_parts (by assumption)).2.1
    exact Nat.le_trans (pre_take rs _ (fallN_le h0 h1)) hl
  · simp [hoZ, tot, pre]
theorem Made.setTwo {w : World} {lo b : Nat} {v : Value} {rs : List R} (h : Made w lo v rs) (hb : b < lo) (x y : Value) (i j : Nat) : Made ((w.setCell ⟨b, i, Option.none⟩ x).setCell ⟨b, j, Option.none⟩ y) lo v rs :=
  (h.setBelow (by simpa using hb) _).setBelow (by simpa using hb) _
/-- A store into a block that holds a house leaves records that the call made. -/
theorem Made.setHouse {w : World} {lo b j : Nat} {v : Value} {rs : List R} {cur : Array Value} (h : Made w lo v rs) (hh : Blk w b cur 79) (x : Value) : Made (w.setCell ⟨b, j, Option.none⟩ x) lo v rs := by
  obtain ⟨ps, hp, h1, h2, h3⟩ := h
  have hs : (w.setCell ⟨b, j, Option.none⟩ x).heap.size = w.heap.size := by simp
  have ap : ∀ {e : TypeId} {sz n : Nat} {y : Value} {xs : List Value}, w.ownsRow lo e sz y n xs → e ≠ 79 → ∀ g, y.ownBlock = some g → g ≠ b := fun hr he g hg => by
    rcases hr.2 with ⟨hv, _⟩ | ⟨g', cap, cur', hv, _, hc, _⟩
    · rw [hv] at hg; simp [Value.ownBlock] at hg
    · rw [hv] at hg
      simp [Value.ownBlock] at hg
      subst hg
      intro e2
      subst e2
      unfold Blk at hh
      rw [hh] at hc
      simp at hc
      exact he hc.2.symm
  refine ⟨ps, hp, ownsRow_setCell_ne h1 (ap h1 (by decide)) x, by rw [hs]; exact h2, ?_⟩
  rw [hs]
  exact ⟨by rw [hs]; exact h3.1, fun p hp => ⟨ownsRow_setCell_ne (h3.2.1 p hp).1 (ap (h3.2.1 p hp).1 (by decide)) x, (h3.2.1 p hp).2⟩, h3.2.2⟩

set_option maxHeartbeats 4000000 in
theorem implHRise_any (id : Int) (up : Bool) (room : Int) (v : Value) (rs : List R) (f : Int) (a : Addr) (w : World) (hv : Recs w v rs) (hl : tot rs ≤ 1048576) (ha : ErrAt w a) :
    Calls Tryz.prog 108 #[houseV id up room v f] w fun e w' => HoO w w' e (hoRise id room rs f) := by
  have hrl := tot_len rs
  have HV : Hid (∀ W, Below w.heap.size w W → Recs W v rs) := fun W h => hv.later h (Nat.le_refl _)
  have HA : Hid (∀ W, Below w.heap.size w W → ErrAt W a) := fun W h => ha.later h (Nat.le_refl _)
  have HOK : Hid (∀ W, Below w.heap.size w W → Calls Tryz.prog 77 #[houseV id up room v f] W fun e w' => e = .returned (.bool (hoOk id room rs f)) ∧ Below W.heap.size W w') := fun W h =>
    implHouseOk_any id up room v rs f a W (HV.out W h) hl (HA.out W h)
  obtain ⟨av, cv, rfl⟩ := hv.shape
  clear hv ha
  obtain ⟨w0, hw0⟩ : ∃ W, Hid (W = (w.alloc (.cells #[.int .i64 id, .bool up, .int .i64 room, .slice av rs.length cv, .int .i64 f] 79)).alloc (.cells #[.int .i64 0, .bool false, .int .i64 0, .slice none 0 0, .int .i64 0] 79)) := ⟨_, rfl⟩
  have B0 : Hid (Below w.heap.size w w0) := by show Below _ _ _; rw [hw0.out]; exact below2 _ _ _
  have X0 : Hid (Blk w0 w.heap.size #[.int .i64 id, .bool up, .int .i64 room, .slice av rs.length cv, .int .i64 f] 79) := by show Blk _ _ _ _; rw [hw0.out]; exact (Blk.new _ _ _).alloc _
  have Z0 : Hid (Blk w0 (w.heap.size + 1) #[.int .i64 0, .bool false, .int .i64 0, .slice none 0 0, .int .i64 0] 79) := by show Blk _ _ _ _; rw [hw0.out]; exact Blk.new2 _ _ _ _
  have hs0 : w0.heap.size = w.heap.size + 2 := by rw [hw0.out, size2]
  cases hok : hoOk id room rs f
  · have HR : Hid (hoRise id room rs f = hoZ) := by show _ = _; simp [hoRise, hok]
    rw [hok] at HOK
    rw [HR.out]
    clear hok
    go_enter Tryz.func108, Tryz.ntmps108
    go_wp2_with fail
    rw [← hw0.out]
    refine (HOK.out _ B0.out).mono ?_
    rintro e w1 ⟨rfl, hb⟩
    obtain ⟨z0, z1, z2, z3, z4⟩ := (Z0.out.after hb).cells5
    obtain ⟨zf0, zf1, zf2, zf3, zf4⟩ := (Z0.out.after hb).free5
    have HB := hide_it (B0.out.trans (hb.mono B0.out.size))
    clear hb
    go_wp2
    refine bodyPost_ret (v := houseV 0 false 0 (.slice none 0 0) 0) (by simp [results, Tryz.results108, go_sem, *]) rfl (HoO.none_ ?_)
    repeat (refine Below.setCell ?_ (by first | (simp; done) | (simp; omega)) _)
    exact HB.out
  · have HR : Hid (hoRise id room rs f = (id, true, room, rs, f)) := by show _ = _; simp [hoRise, hok]
    rw [hok] at HOK
    rw [HR.out]
    clear HR
    go_enter Tryz.func108, Tryz.ntmps108
    go_wp2_with fail
    rw [← hw0.out]
    refine (HOK.out _ B0.out).mono ?_
    rintro e w1 ⟨rfl, hb1⟩
    have X1 := hide_it (X0.out.after hb1)
    have Z1 := hide_it (Z0.out.after hb1)
    have B1 := hide_it (B0.out.trans (hb1.mono B0.out.size))
    have hs1 : w.heap.size + 2 ≤ w1.heap.size := by have := hb1.size; omega
    obtain ⟨x0, x1, x2, x3, x4⟩ := X1.out.cells5
    clear hb1
    go_wp2_with fail
    refine (keeperOf_any id up room av rs.length cv f w1).mono ?_
    rintro e w2 ⟨rfl, hb2⟩
    have Z2 := hide_it (Z1.out.after hb2)
    have B2 := hide_it (B1.out.trans (hb2.mono B1.out.size))
    have hs2 : w.heap.size + 2 ≤ w2.heap.size := by have := hb2.size; omega
    clear hb2 x0 x1 x2 x3 x4
    obtain ⟨w3, hw3⟩ : ∃ W, Hid (W = w2.alloc (.cells #[.slice av rs.length cv, .int .i64 f, .int .i64 id, .bool true, .int .i64 room] 135)) := ⟨_, rfl⟩
    have al3 : Hid (Below w2.heap.size w2 w3) := by show Below _ _ _; rw [hw3.out]; exact alloc_below _ _
    have hs3 : w3.heap.size = w2.heap.size + 1 := by rw [hw3.out]; simp
    have Z3 := hide_it (Z2.out.after al3.out)
    have B3 := hide_it (B2.out.trans (al3.out.mono B2.out.size))
    go_wp2_with fail
    rw [← hw3.out]
    refine (keeperHouse_any id true room _ rs f w3 (HV.out _ B3.out) hl).mono ?_
    rintro e w4 ⟨ao, cap, rfl, hm, hb⟩
    obtain ⟨z0, z1, z2, z3, z4⟩ := (Z3.out.after hb).cells5
    obtain ⟨zf0, zf1, zf2, zf3, zf4⟩ := (Z3.out.after hb).free5
    have HM := hide_it hm
    have HB := hide_it (B3.out.trans (hb.mono B3.out.size))
    clear hm hb
    go_wp2
    refine bodyPost_ret (v := houseV id true room (.slice ao rs.length cap) f) (by simp [results, Tryz.results108, go_sem, *]) rfl ?_
    refine ⟨ao, cap, rfl, ?_, ?_⟩
    · refine Made.lo ?_ (show w.heap.size ≤ w3.heap.size by omega)
      repeat (refine Made.setBelow ?_ (by first | (simp; done) | (simp; omega)) _)
      exact HM.out
    · repeat (refine Below.setCell ?_ (by first | (simp; done) | (simp; omega)) _)
      exact HB.out

set_option maxHeartbeats 4000000 in
theorem implHForce_any (id : Int) (up : Bool) (room : Int) (v : Value) (rs : List R) (f : Int) (a : Addr) (w : World) (hv : Recs w v rs) (hl : tot rs ≤ 1048576) (ha : ErrAt w a) :
    Calls Tryz.prog 102 #[houseV id up room v f] w fun e w' => HoO w w' e (hoForce id up room rs f) := by
  have hrl := tot_len rs
  have HV : Hid (∀ W, Below w.heap.size w W → Recs W v rs) := fun W h => hv.later h (Nat.le_refl _)
  have HA : Hid (∀ W, Below w.heap.size w W → ErrAt W a) := fun W h => ha.later h (Nat.le_refl _)
  have HOK : Hid (∀ W, Below w.heap.size w W → Calls Tryz.prog 77 #[houseV id up room v f] W fun e w' => e = .returned (.bool (hoOk id room rs f)) ∧ Below W.heap.size W w') := fun W h =>
    implHouseOk_any id up room v rs f a W (HV.out W h) hl (HA.out W h)
  obtain ⟨av, cv, rfl⟩ := hv.shape
  clear hv ha
  obtain ⟨w0, hw0⟩ : ∃ W, Hid (W = (w.alloc (.cells #[.int .i64 id, .bool up, .int .i64 room, .slice av rs.length cv, .int .i64 f] 79)).alloc (.cells #[.int .i64 0, .bool false, .int .i64 0, .slice none 0 0, .int .i64 0] 79)) := ⟨_, rfl⟩
  have B0 : Hid (Below w.heap.size w w0) := by show Below _ _ _; rw [hw0.out]; exact below2 _ _ _
  have X0 : Hid (Blk w0 w.heap.size #[.int .i64 id, .bool up, .int .i64 room, .slice av rs.length cv, .int .i64 f] 79) := by show Blk _ _ _ _; rw [hw0.out]; exact (Blk.new _ _ _).alloc _
  have Z0 : Hid (Blk w0 (w.heap.size + 1) #[.int .i64 0, .bool false, .int .i64 0, .slice none 0 0, .int .i64 0] 79) := by show Blk _ _ _ _; rw [hw0.out]; exact Blk.new2 _ _ _ _
  have hs0 : w0.heap.size = w.heap.size + 2 := by rw [hw0.out, size2]
  cases hok : hoOk id room rs f
  · have HR : Hid (hoForce id up room rs f = hoZ) := by show _ = _; simp [hoForce, hok]
    rw [hok] at HOK
    rw [HR.out]
    clear hok
    go_enter Tryz.func102, Tryz.ntmps102
    go_wp2_with fail
    rw [← hw0.out]
    refine (HOK.out _ B0.out).mono ?_
    rintro e w1 ⟨rfl, hb⟩
    obtain ⟨z0, z1, z2, z3, z4⟩ := (Z0.out.after hb).cells5
    obtain ⟨zf0, zf1, zf2, zf3, zf4⟩ := (Z0.out.after hb).free5
    have HB := hide_it (B0.out.trans (hb.mono B0.out.size))
    clear hb
    go_wp2
    refine bodyPost_ret (v := houseV 0 false 0 (.slice none 0 0) 0) (by simp [results, Tryz.results102, go_sem, *]) rfl (HoO.none_ ?_)
    repeat (refine Below.setCell ?_ (by first | (simp; done) | (simp; omega)) _)
    exact HB.out
  · have HR : Hid (hoForce id up room rs f = (id, up, room, rs, if up = true then (rs.length : Int) else f)) := by show _ = _; simp [hoForce, hok]
    have hlok := (hoOk_parts hok).2.1
    have LF : Hid (∀ W, Below w.heap.size w W → Calls Tryz.prog 147 #[.agg #[.slice av rs.length cv, .int .i64 f]] W fun e w' => LogOut W w' e rs rs.length) := fun W h => by
      have := implForce_any _ rs f a W (HV.out _ h) hl (HA.out _ h)
      rw [show forceR rs f = rs by simp [forceR, hlok], show forceF rs f = rs.length by simp [forceF, hlok]] at this
      exact this
    rw [hok] at HOK
    rw [HR.out]
    clear HR
    go_enter Tryz.func102, Tryz.ntmps102
    go_wp2_with fail
    rw [← hw0.out]
    refine (HOK.out _ B0.out).mono ?_
    rintro e w1 ⟨rfl, hb1⟩
    have X1 := hide_it (X0.out.after hb1)
    have Z1 := hide_it (Z0.out.after hb1)
    have B1 := hide_it (B0.out.trans (hb1.mono B0.out.size))
    have hs1 : w.heap.size + 2 ≤ w1.heap.size := by have := hb1.size; omega
    obtain ⟨x0, x1, x2, x3, x4⟩ := X1.out.cells5
    clear hb1
    go_wp2_with fail
    refine (keeperOf_any id up room av rs.length cv f w1).mono ?_
    rintro e w2 ⟨rfl, hb2⟩
    have Z2 := hide_it (Z1.out.after hb2)
    have B2 := hide_it (B1.out.trans (hb2.mono B1.out.size))
    have hs2 : w.heap.size + 2 ≤ w2.heap.size := by have := hb2.size; omega
    clear hb2 x0 x1 x2 x3 x4
    cases up
    · obtain ⟨w3, hw3⟩ : ∃ W, Hid (W = w2.alloc (.cells #[.slice av rs.length cv, .int .i64 f, .int .i64 id, .bool false, .int .i64 room] 135)) := ⟨_, rfl⟩
      have al3 : Hid (Below w2.heap.size w2 w3) := by show Below _ _ _; rw [hw3.out]; exact alloc_below _ _
      have hs3 : w3.heap.size = w2.heap.size + 1 := by rw [hw3.out]; simp
      have Z3 := hide_it (Z2.out.after al3.out)
      have B3 := hide_it (B2.out.trans (al3.out.mono B2.out.size))
      go_wp2_with fail
      rw [← hw3.out]
      refine (keeperHouse_any id false room _ rs f w3 (HV.out _ B3.out) hl).mono ?_
      rintro e w4 ⟨ao, cap, rfl, hm, hb⟩
      obtain ⟨z0, z1, z2, z3, z4⟩ := (Z3.out.after hb).cells5
      obtain ⟨zf0, zf1, zf2, zf3, zf4⟩ := (Z3.out.after hb).free5
      have HM := hide_it hm
      have HB := hide_it (B3.out.trans (hb.mono B3.out.size))
      clear hm hb
      go_wp2
      refine bodyPost_ret (v := houseV id false room (.slice ao rs.length cap) f) (by simp [results, Tryz.results102, go_sem, *]) rfl ?_
      refine ⟨ao, cap, rfl, ?_, ?_⟩
      · refine Made.lo ?_ (show w.heap.size ≤ w3.heap.size by omega)
        repeat (refine Made.setBelow ?_ (by first | (simp; done) | (simp; omega)) _)
        exact HM.out
      · repeat (refine Below.setCell ?_ (by first | (simp; done) | (simp; omega)) _)
        exact HB.out
    · obtain ⟨w3, hw3⟩ : ∃ W, Hid (W = w2.alloc (.cells #[.slice av rs.length cv, .int .i64 f, .int .i64 id, .bool true, .int .i64 room] 135)) := ⟨_, rfl⟩
      have al3 : Hid (Below w2.heap.size w2 w3) := by show Below _ _ _; rw [hw3.out]; exact alloc_below _ _
      have hs3 : w3.heap.size = w2.heap.size + 1 := by rw [hw3.out]; simp
      have Z3 := hide_it (Z2.out.after al3.out)
      have B3 := hide_it (B2.out.trans (al3.out.mono B2.out.size))
      have K3 : Hid (Blk w3 w2.heap.size #[.slice av rs.length cv, .int .i64 f, .int .i64 id, .bool true, .int .i64 room] 135) := by show Blk _ _ _ _; rw [hw3.out]; exact Blk.new _ _ _
      go_wp2_with fail
      rw [← hw3.out]
      refine (LF.out _ B3.out).mono ?_
      rintro e w4 ⟨a4, c4, rfl, hm4, hb4⟩
      have Z4 := hide_it (Z3.out.after hb4)
      have K4 := hide_it (K3.out.after hb4)
      have B4 := hide_it (B3.out.trans (hb4.mono B3.out.size))
      have hs4 : w3.heap.size ≤ w4.heap.size := hb4.size
      have M4 := hide_it (hm4.setTwo (show w2.heap.size < w3.heap.size by omega) (.slice a4 rs.length c4) (.int .i64 rs.length) 0 1)
      obtain ⟨y0, y1, y2, y3, y4⟩ := K4.out.cells5
      obtain ⟨yf0, yf1, yf2, yf3, yf4⟩ := K4.out.free5
      clear hm4 hb4
      obtain ⟨w5, hw5⟩ : ∃ W, Hid (W = (w4.setCell ⟨w2.heap.size, 0, none⟩ (.slice a4 rs.length c4)).setCell ⟨w2.heap.size, 1, none⟩ (.int .i64 rs.length)) := ⟨_, rfl⟩
      rw [← hw5.out] at M4
      have B5 : Hid (Below w.heap.size w w5) := by show Below _ _ _; rw [hw5.out]; exact (B4.out.setCell (by simp; omega) _).setCell (by simp; omega) _
      have Z5 : Hid (Blk w5 (w.heap.size + 1) #[.int .i64 0, .bool false, .int .i64 0, .slice none 0 0, .int .i64 0] 79) := by show Blk _ _ _ _; rw [hw5.out]; exact (Z4.out.other (by simp; omega) _).other (by simp; omega) _
      have hs5 : w5.heap.size = w4.heap.size := by rw [hw5.out]; simp
      go_wp2_with fail
      rw [← hw5.out]
      refine (keeperHouse_any id true room _ rs rs.length w5 M4.out.recs hl).mono ?_
      rintro e w6 ⟨ao, cap, rfl, hm, hb⟩
      obtain ⟨z0, z1, z2, z3, z4⟩ := (Z5.out.after hb).cells5
      obtain ⟨zf0, zf1, zf2, zf3, zf4⟩ := (Z5.out.after hb).free5
      have HM := hide_it hm
      have HB := hide_it (B5.out.trans (hb.mono B5.out.size))
      clear hm hb y0 y1 y2 y3 y4 yf0 yf1 yf2 yf3 yf4
      go_wp2
      refine bodyPost_ret (v := houseV id true room (.slice ao rs.length cap) rs.length) (by simp [results, Tryz.results102, go_sem, *]) rfl ?_
      refine ⟨ao, cap, rfl, ?_, ?_⟩
      · refine Made.lo ?_ (show w.heap.size ≤ w5.heap.size by omega)
        repeat (refine Made.setBelow ?_ (by first | (simp; done) | (simp; omega)) _)
        exact HM.out
      · repeat (refine Below.setCell ?_ (by first | (simp; done) | (simp; omega)) _)
        exact HB.out

set_option maxHeartbeats 4000000 in
theorem implHFall_any (id : Int) (up : Bool) (room : Int) (v : Value) (rs : List R) (f : Int) (keep : Int) (a : Addr) (w : World) (hv : Recs w v rs) (hl : tot rs ≤ 1048576) (hfm : Form v rs.length) (ha : ErrAt w a) :
    Calls Tryz.prog 106 #[houseV id up room v f, .int .i64 keep] w fun e w' => HoO w w' e (hoFall id room rs f keep) := by
  have hrl := tot_len rs
  have HV : Hid (∀ W, Below w.heap.size w W → Recs W v rs) := fun W h => hv.later h (Nat.le_refl _)
  have HA : Hid (∀ W, Below w.heap.size w W → ErrAt W a) := fun W h => ha.later h (Nat.le_refl _)
  have HOK : Hid (∀ W, Below w.heap.size w W → Calls Tryz.prog 77 #[houseV id up room v f] W fun e w' => e = .returned (.bool (hoOk id room rs f)) ∧ Below W.heap.size W w') := fun W h =>
    implHouseOk_any id up room v rs f a W (HV.out W h) hl (HA.out W h)
  obtain ⟨av, cv, rfl⟩ := hv.shape
  clear hv ha
  obtain ⟨w0, hw0⟩ : ∃ W, Hid (W = (w.alloc (.cells #[.int .i64 id, .bool up, .int .i64 room, .slice av rs.length cv, .int .i64 f] 79)).alloc (.cells #[.int .i64 0, .bool false, .int .i64 0, .slice none 0 0, .int .i64 0] 79)) := ⟨_, rfl⟩
  have B0 : Hid (Below w.heap.size w w0) := by show Below _ _ _; rw [hw0.out]; exact below2 _ _ _
  have X0 : Hid (Blk w0 w.heap.size #[.int .i64 id, .bool up, .int .i64 room, .slice av rs.length cv, .int .i64 f] 79) := by show Blk _ _ _ _; rw [hw0.out]; exact (Blk.new _ _ _).alloc _
  have Z0 : Hid (Blk w0 (w.heap.size + 1) #[.int .i64 0, .bool false, .int .i64 0, .slice none 0 0, .int .i64 0] 79) := by show Blk _ _ _ _; rw [hw0.out]; exact Blk.new2 _ _ _ _
  have hs0 : w0.heap.size = w.heap.size + 2 := by rw [hw0.out, size2]
  cases hok : hoOk id room rs f
  · have HR : Hid (hoFall id room rs f keep = hoZ) := by show _ = _; simp [hoFall, hok]
    rw [hok] at HOK
    rw [HR.out]
    clear hok
    go_enter Tryz.func106, Tryz.ntmps106
    go_wp2_with fail
    rw [← hw0.out]
    refine (HOK.out _ B0.out).mono ?_
    rintro e w1 ⟨rfl, hb⟩
    obtain ⟨z0, z1, z2, z3, z4⟩ := (Z0.out.after hb).cells5
    obtain ⟨zf0, zf1, zf2, zf3, zf4⟩ := (Z0.out.after hb).free5
    have HB := hide_it (B0.out.trans (hb.mono B0.out.size))
    clear hb
    go_wp2
    refine bodyPost_ret (v := houseV 0 false 0 (.slice none 0 0) 0) (by simp [results, Tryz.results106, go_sem, *]) rfl (HoO.none_ ?_)
    repeat (refine Below.setCell ?_ (by first | (simp; done) | (simp; omega)) _)
    exact HB.out
  · have HR : Hid (hoFall id room rs f keep = (id, false, room, rs.take (fallN rs.length f keep), (fallN rs.length f keep : Int))) := by show _ = _; simp [hoFall, hok]
    have hlok := (hoOk_parts hok).2.1
    obtain ⟨lf0, lf1, -⟩ := logOk_f hlok
    have hN := fallN_le (keep := keep) lf0 lf1
    obtain ⟨RS, hRS⟩ : ∃ RS, Hid (RS = rs.take (fallN rs.length f keep)) := ⟨_, rfl⟩
    obtain ⟨N, hNN⟩ : ∃ N, Hid (fallN rs.length f keep = N) := ⟨_, rfl⟩
    have hRl : tot RS ≤ 1048576 := by rw [hRS.out]; exact Nat.le_trans (pre_take rs _ hN) hl
    have LF : Hid (∀ W, Below w.heap.size w W → Calls Tryz.prog 148 #[.agg #[.slice av rs.length cv, .int .i64 f], .int .i64 keep] W fun e w' => LogOut W w' e RS N) := fun W h => by
      have := implFall_form _ rs f keep a W (HV.out _ h) hfm hl (HA.out _ h)
      rw [show fallR rs f keep = RS by rw [hRS.out]; simp [fallR, hlok], show fallF rs f keep = N by rw [← hNN.out]; simp [fallF, hlok]] at this
      exact this
    have hRS2 : Hid (rs.take N = RS) := by show _ = _; rw [hRS.out, hNN.out]
    rw [hok] at HOK
    rw [HR.out]
    rw [hNN.out] at hN ⊢
    rw [hRS2.out]
    clear HR
    go_enter Tryz.func106, Tryz.ntmps106
    go_wp2_with fail
    rw [← hw0.out]
    refine (HOK.out _ B0.out).mono ?_
    rintro e w1 ⟨rfl, hb1⟩
    have X1 := hide_it (X0.out.after hb1)
    have Z1 := hide_it (Z0.out.after hb1)
    have B1 := hide_it (B0.out.trans (hb1.mono B0.out.size))
    have hs1 : w.heap.size + 2 ≤ w1.heap.size := by have := hb1.size; omega
    obtain ⟨x0, x1, x2, x3, x4⟩ := X1.out.cells5
    clear hb1
    go_wp2_with fail
    refine (keeperOf_any id up room av rs.length cv f w1).mono ?_
    rintro e w2 ⟨rfl, hb2⟩
    have Z2 := hide_it (Z1.out.after hb2)
    have B2 := hide_it (B1.out.trans (hb2.mono B1.out.size))
    have hs2 : w.heap.size + 2 ≤ w2.heap.size := by have := hb2.size; omega
    clear hb2 x0 x1 x2 x3 x4
    obtain ⟨w3, hw3⟩ : ∃ W, Hid (W = w2.alloc (.cells #[.slice av rs.length cv, .int .i64 f, .int .i64 id, .bool false, .int .i64 room] 135)) := ⟨_, rfl⟩
    have al3 : Hid (Below w2.heap.size w2 w3) := by show Below _ _ _; rw [hw3.out]; exact alloc_below _ _
    have hs3 : w3.heap.size = w2.heap.size + 1 := by rw [hw3.out]; simp
    have Z3 := hide_it (Z2.out.after al3.out)
    have B3 := hide_it (B2.out.trans (al3.out.mono B2.out.size))
    have K3 : Hid (Blk w3 w2.heap.size #[.slice av rs.length cv, .int .i64 f, .int .i64 id, .bool false, .int .i64 room] 135) := by show Blk _ _ _ _; rw [hw3.out]; exact Blk.new _ _ _
    go_wp2_with fail
    rw [← hw3.out]
    refine (LF.out _ B3.out).mono ?_
    rintro e w4 ⟨a4, c4, rfl, hm4, hb4⟩
    have Z4 := hide_it (Z3.out.after hb4)
    have K4 := hide_it (K3.out.after hb4)
    have B4 := hide_it (B3.out.trans (hb4.mono B3.out.size))
    have hs4 : w3.heap.size ≤ w4.heap.size := hb4.size
    have M4 := hide_it (hm4.setTwo (show w2.heap.size < w3.heap.size by omega) (.slice a4 RS.length c4) (.int .i64 N) 0 1)
    obtain ⟨y0, y1, y2, y3, y4⟩ := K4.out.cells5
    obtain ⟨yf0, yf1, yf2, yf3, yf4⟩ := K4.out.free5
    clear hm4 hb4
    obtain ⟨w5, hw5⟩ : ∃ W, Hid (W = (w4.setCell ⟨w2.heap.size, 0, none⟩ (.slice a4 RS.length c4)).setCell ⟨w2.heap.size, 1, none⟩ (.int .i64 N)) := ⟨_, rfl⟩
    rw [← hw5.out] at M4
    have B5 : Hid (Below w.heap.size w w5) := by show Below _ _ _; rw [hw5.out]; exact (B4.out.setCell (by simp; omega) _).setCell (by simp; omega) _
    have Z5 : Hid (Blk w5 (w.heap.size + 1) #[.int .i64 0, .bool false, .int .i64 0, .slice none 0 0, .int .i64 0] 79) := by show Blk _ _ _ _; rw [hw5.out]; exact (Z4.out.other (by simp; omega) _).other (by simp; omega) _
    have hs5 : w5.heap.size = w4.heap.size := by rw [hw5.out]; simp
    go_wp2_with fail
    rw [← hw5.out]
    refine (keeperHouse_any id false room _ RS N w5 M4.out.recs hRl).mono ?_
    rintro e w6 ⟨ao, cap, rfl, hm, hb⟩
    obtain ⟨z0, z1, z2, z3, z4⟩ := (Z5.out.after hb).cells5
    obtain ⟨zf0, zf1, zf2, zf3, zf4⟩ := (Z5.out.after hb).free5
    have HM := hide_it hm
    have HB := hide_it (B5.out.trans (hb.mono B5.out.size))
    clear hm hb y0 y1 y2 y3 y4 yf0 yf1 yf2 yf3 yf4
    go_wp2
    refine bodyPost_ret (v := houseV id false room (.slice ao RS.length cap) N) (by simp [results, Tryz.results106, go_sem, *]) rfl ?_
    refine ⟨ao, cap, rfl, ?_, ?_⟩
    · refine Made.lo ?_ (show w.heap.size ≤ w5.heap.size by omega)
      repeat (refine Made.setBelow ?_ (by first | (simp; done) | (simp; omega)) _)
      exact HM.out
    · repeat (refine Below.setCell ?_ (by first | (simp; done) | (simp; omega)) _)
      exact HB.out

end Go.Proofs.YtkkkdgpbmmjieaaGreatDoor

namespace Go.Proofs.YtkkkdgpbmmjieaaGreatDoor
open Go.RowKit

/-- A stock comes back, in memory of the call's own. -/
def SkOut (W w' : World) (e : Ending) (RR : Int) (HS : List Pl.H) : Prop :=
  ∃ ao cap, e = .returned (.agg #[.int .i64 RR, .slice ao HS.length cap]) ∧ w'.ownsRow W.heap.size 93 2 (.slice ao HS.length cap) HS.length (hflat HS) ∧ Below W.heap.size W w'
theorem SkOut.none_ {W w' : World} (h : Below W.heap.size W w') : SkOut W w' (.returned (.agg #[.int .i64 0, .slice none 0 0])) 0 [] := ⟨none, 0, rfl, World.ownsRow_nil _ _ _ _, h⟩

/-- The records that count; what HouseStock answers by. -/
def cutR (rs : List R) (f : Int) (forced : Bool) : List R := if forced = true then rs.take f.toNat else rs
def hsO (id room : Int) (rs : List R) (f : Int) (forced : Bool) : Option (List Pl.H) := if hoOk id room rs f = true then Pl.sOf room (cutR rs f forced) else none
theorem cutR_tot (rs : List R) (f : Int) (forced : Bool) : tot (cutR rs f forced) ≤ tot rs := by
  unfold cutR; split
  · by_cases h : f.toNat ≤ rs.length
    · exact pre_take rs _ h
    · rw [List.take_of_length_le (by omega)]; exact Nat.le_refl _
  · exact Nat.le_refl _
theorem cutR_len {rs : List R} {f : Int} (h0 : 0 ≤ f) (h1 : f ≤ rs.length) : ((rs.take f.toNat).length : Int) = f := by simp; omega

/-- The first ones of a list that lies in memory. -/
theorem Recs.cut {w : World} {N cap : Nat} {ao : Option Addr} {rs : List R} (h : Recs w (.slice ao rs.length cap) rs) (hN : N ≤ rs.length) : Recs w (.slice ao N cap) (rs.take N) := h.take hN

theorem row_set {w : World} {base b : Nat} {v : Value} {n : Nat} {xs : List Value} {cur : Array Value} {ty : TypeId} (h : w.ownsRow base 93 2 v n xs) (hb : Blk w b cur ty) (ht : ty ≠ 93) (j : Nat) (x : Value) : (w.setCell ⟨b, j, none⟩ x).ownsRow base 93 2 v n xs := by
  refine ownsRow_setCell_ne h (fun g hg e => ?_) x
  subst e
  rcases h.2 with ⟨hv, _⟩ | ⟨g', cap, cur', hv, _, hc, _⟩
  · rw [hv] at hg; simp [Value.ownBlock] at hg
  · rw [hv] at hg
    simp [Value.ownBlock] at hg
    subst hg
    unfold Blk at hb
    rw [hb] at hc
    simp at hc
    exact ht hc.2
theorem row_low {w : World} {base lo : Nat} {v : Value} {n : Nat} {xs : List Value} (h : w.ownsRow base 93 2 v n xs) (hl : lo ≤ base) : w.ownsRow lo 93 2 v n xs := ownsRow_base h hl

set_option maxHeartbeats 2000000 in
theorem allStock_any (id : Int) (up : Bool) (room : Int) (v : Value) (rs : List R) (f : Int) (a : Addr) (w : World) (hv : Recs w v rs) (hl : tot rs ≤ 1048576) (ha : ErrAt w a) :
    Calls Tryz.prog 84 #[keeperV v f id up room] w fun e w' => SkOut w w' e (oR room (Pl.sOf room rs)) (oH (Pl.sOf room rs)) := by
  obtain ⟨RR, hRR⟩ : ∃ x, Hid (oR room (Pl.sOf room rs) = x) := ⟨_, rfl⟩
  obtain ⟨HS, hHS⟩ : ∃ x, Hid (oH (Pl.sOf room rs) = x) := ⟨_, rfl⟩
  obtain ⟨BB, hBB⟩ : ∃ x, Hid ((Pl.sOf room rs).isSome = x) := ⟨_, rfl⟩
  have HO : Hid (∀ W, Below w.heap.size w W → Calls Tryz.prog 127 #[.int .i64 room, v] W fun e w' => StOut W w' e RR HS BB) := fun W h => by
    have := implOf_any room v rs a W (hv.later h (Nat.le_refl _)) hl (ha.later h (Nat.le_refl _))
    rw [hRR.out, hHS.out, hBB.out] at this; exact this
  rw [hRR.out, hHS.out]
  obtain ⟨av, cv, rfl⟩ := hv.shape
  clear hv ha
  obtain ⟨w0, hw0⟩ : ∃ W, Hid (W = (w.alloc (.cells #[.slice av rs.length cv, .int .i64 f, .int .i64 id, .bool up, .int .i64 room] 135)).alloc (.cells #[.int .i64 0, .slice none 0 0] 95)) := ⟨_, rfl⟩
  have B0 : Hid (Below w.heap.size w w0) := by show Below _ _ _; rw [hw0.out]; exact below2 _ _ _
  have Z0 : Hid (Blk w0 (w.heap.size + 1) #[.int .i64 0, .slice none 0 0] 95) := by show Blk _ _ _ _; rw [hw0.out]; exact Blk.new2 _ _ _ _
  have hs0 : w0.heap.size = w.heap.size + 2 := by rw [hw0.out, size2]
  go_enter Tryz.func84, Tryz.ntmps84
  go_wp2_with fail
  rw [← hw0.out]
  refine (HO.out _ B0.out).mono ?_
  rintro e w1 ⟨a1, c1, rfl, ho1, hb1⟩
  have Z1 := hide_it (Z0.out.after hb1)
  have O1 := hide_it ho1
  have B1 := hide_it (B0.out.trans (hb1.mono B0.out.size))
  have hs1 : w.heap.size + 2 ≤ w1.heap.size := by have := hb1.size; omega
  obtain ⟨z0, z1⟩ := Z1.out.cells2
  obtain ⟨zf0, zf1, -, -, -⟩ := Z1.out.free5
  have k0 := fun x => cellAlloc z0 x
  have k1 := fun x => cellAlloc z1 x
  have q0 := fun x => frozenAlloc zf0 (by omega) x
  have q1 := fun x => frozenAlloc zf1 (by omega) x
  clear ho1 hb1
  go_wp2
  refine bodyPost_ret (v := .agg #[.int .i64 RR, .slice a1 HS.length c1]) (by simp [results, Tryz.results84, go_sem, *]) rfl ?_
  refine ⟨a1, c1, rfl, ?_, ?_⟩
  · refine row_low (row_set (row_set (ownsRow_below O1.out (alloc_below _ _) (fun k hk => (O1.out.lt k hk).2)) (Z1.out.alloc _) (by decide) _ _) ((Z1.out.alloc _).set_ 0 _) (by decide) _ _) (by omega)
  · exact ((B1.out.alloc (by omega) _).setCell (by simp) _).setCell (by simp) _

theorem b_drew {w0 w1 : World} (h : Below w0.drew.heap.size w0.drew w1) : Below w0.heap.size w0 w1 := (Below.refl w0.heap.size w0).drew.trans h
theorem b_alloc_drew {w0 w1 : World} {o : Obj} (h : Below (w0.alloc o).drew.heap.size (w0.alloc o).drew w1) : Below w0.heap.size w0 w1 := ((alloc_below w0 o).drew).trans (h.mono (by simp))
theorem z_alloc_drew {w0 w1 : World} {cs : Array Value} {ty : TypeId} (h : Below (w0.alloc (.cells cs ty)).drew.heap.size (w0.alloc (.cells cs ty)).drew w1) : Blk w1 w0.heap.size cs ty := by
  have h0 : Blk (w0.alloc (.cells cs ty)).drew w0.heap.size cs ty := (Blk.new w0 cs ty).after (Below.refl _ _).drew
  exact h0.after h
theorem o_alloc_drew {w0 w1 : World} {o : Obj} {e : TypeId} {sz n : Nat} {v : Value} {xs : List Value} (h : w1.ownsRow (w0.alloc o).drew.heap.size e sz v n xs) : w1.ownsRow w0.heap.size e sz v n xs := ownsRow_base h (by simp)
theorem o_drew {w0 w1 : World} {e : TypeId} {sz n : Nat} {v : Value} {xs : List Value} (h : w1.ownsRow w0.drew.heap.size e sz v n xs) : w1.ownsRow w0.heap.size e sz v n xs := ownsRow_base h (by simp)

end Go.Proofs.YtkkkdgpbmmjieaaGreatDoor

namespace Go.Proofs.YtkkkdgpbmmjieaaGreatDoor
open Go.RowKit

/-- What lies behind the region: the stock's block, its holds, the result's block. -/
def StkMet (w0 W : World) (B b : Nat) (RR : Int) (v : Value) (HS : List Pl.H) : Prop :=
  Below w0.heap.size w0 W ∧ Blk W b #[.int .i64 RR, v] 95 ∧ Blk W B #[.int .i64 0, .slice none 0 0] 95 ∧ W.ownsRow w0.heap.size 93 2 v HS.length (hflat HS)
theorem ks2 (w : World) (b2 : Nat) (x y : Value) {b o : Nat} (h : b ≠ b2) : ((w.setCell ⟨b2, 0, none⟩ x).setCell ⟨b2, 1, none⟩ y).cell? ⟨b, o, none⟩ = w.cell? ⟨b, o, none⟩ := by
  rw [World.cell?_of_block (w := w.setCell ⟨b2, 0, none⟩ x) (a := ⟨b, o, none⟩) (Below.heap_setCell _ _ _ _ h), World.cell?_of_block (w := w) (a := ⟨b, o, none⟩) (Below.heap_setCell _ _ _ _ h)]
theorem stkMet_new {w0 w1 : World} {B : Nat} {RR : Int} {v : Value} {HS : List Pl.H} (hb : Below w0.heap.size w0 w1) (hZ : Blk w1 B #[.int .i64 0, .slice none 0 0] 95) (ho : w1.ownsRow w0.heap.size 93 2 v HS.length (hflat HS)) :
    StkMet w0 (w1.alloc (.cells #[.int .i64 RR, v] 95)) B w1.heap.size RR v HS :=
  ⟨hb.alloc hb.size _, Blk.new _ _ _, hZ.alloc _, ownsRow_below ho (alloc_below _ _) (fun k hk => (ho.lt k hk).2)⟩
theorem stkMet_set {w0 w1 : World} {B b : Nat} {RR : Int} {v : Value} {HS : List Pl.H} (hb : Below w0.heap.size w0 w1) (hz : w0.heap.size ≤ b) (hB : B < w0.heap.size) (hY : Blk w1 b #[.int .i64 0, .slice none 0 0] 95) (hZ : Blk w1 B #[.int .i64 0, .slice none 0 0] 95) (ho : w1.ownsRow w0.heap.size 93 2 v HS.length (hflat HS)) :
    StkMet w0 ((w1.setCell ⟨b, 0, none⟩ (.int .i64 RR)).setCell ⟨b, 1, none⟩ v) B b RR v HS :=
  ⟨(hb.setCell hz _).setCell hz _, (hY.set_ 0 _).set_ 1 _, (hZ.other (by simp; omega) _).other (by simp; omega) _, row_set (row_set ho hY (by decide) _ _) (hY.set_ 0 _) (by decide) _ _⟩

set_option maxHeartbeats 4000000 in
theorem forcedStock_nil (id : Int) (up : Bool) (room : Int) (RR : Int) (HS : List Pl.H) (BB : Bool) (w : World) 
    (HO : Hid (∀ W, Below w.heap.size w W → Calls Tryz.prog 127 #[.int .i64 room, .slice none 0 0] W fun e w' => StOut W w' e RR HS BB)) :
    Calls Tryz.prog 83 #[keeperV (.slice none 0 0) 0 id up room] w fun e w' => SkOut w w' e RR HS := by
  obtain ⟨w0, hw0⟩ : ∃ W, Hid (W = (w.alloc (.cells #[.slice none 0 0, .int .i64 0, .int .i64 id, .bool up, .int .i64 room] 135)).alloc (.cells #[.int .i64 0, .slice none 0 0] 95)) := ⟨_, rfl⟩
  have B0 : Hid (Below w.heap.size w w0) := by show Below _ _ _; rw [hw0.out]; exact below2 _ _ _
  have X0 : Hid (Blk w0 w.heap.size #[.slice none 0 0, .int .i64 0, .int .i64 id, .bool up, .int .i64 room] 135) := by show Blk _ _ _ _; rw [hw0.out]; exact (Blk.new _ _ _).alloc _
  have Z0 : Hid (Blk w0 (w.heap.size + 1) #[.int .i64 0, .slice none 0 0] 95) := by show Blk _ _ _ _; rw [hw0.out]; exact Blk.new2 _ _ _ _
  have hs0 : Hid (w0.heap.size = w.heap.size + 2) := by show _ = _; rw [hw0.out, size2]
  have hs1 : w.heap.size + 1 < w0.heap.size := by have := hs0.out; omega
  obtain ⟨x0, x1, x2, x3, x4⟩ := X0.out.cells5
  go_enter Tryz.func83, Tryz.ntmps83
  go_wp2_with fail
  rw [← hw0.out]
  go_cut [3] (fun p W => ∃ b a5 cap5, p = .pointer (some ⟨b, 0, none⟩) ∧ Hid (StkMet w0 W (w.heap.size + 1) b RR (.slice a5 HS.length cap5) HS))
  case first =>
    go_region_held (fun w' => w'.cell? ⟨w.heap.size, 0, none⟩ = some (.slice none 0 0) ∧ w'.cell? ⟨w.heap.size, 1, none⟩ = some (.int .i64 0) ∧ w'.cell? ⟨w.heap.size, 4, none⟩ = some (.int .i64 room)) (first | (go_keep; done) | (refine ⟨(ks2 _ _ _ _ ?_).trans ?_, (ks2 _ _ _ _ ?_).trans ?_, (ks2 _ _ _ _ ?_).trans ?_⟩ <;> first | omega | assumption))
      ((go_at_call 127; refine (HO.out _ ?_).mono ?_; (first | (with_reducible exact B0.out.drew) | exact (B0.out.alloc B0.out.size _).drew); rintro e w1 ⟨a5, cap5, rfl, ho5, hb5⟩; have N5 : Hid (Below w0.heap.size w0 w1) := (by first | (with_reducible exact hide_it (b_drew hb5)) | (with_reducible exact hide_it (b_alloc_drew hb5))); (try (with_reducible have Y5 := hide_it (z_alloc_drew hb5))); have O5 : Hid (w1.ownsRow w0.heap.size 93 2 (.slice a5 HS.length cap5) HS.length (hflat HS)) := (by first | (with_reducible exact hide_it (o_drew ho5)) | (with_reducible exact hide_it (o_alloc_drew ho5))); have Z5 := hide_it (Z0.out.after N5.out); have hs5 := N5.out.size; obtain ⟨y0, y1, y2, y3, y4⟩ := (X0.out.after N5.out).cells5; (try obtain ⟨u0, u1⟩ := Y5.out.cells2); (try obtain ⟨uf0, uf1, -, -, -⟩ := Y5.out.free5); clear ho5 hb5))
    all_goals
      go_wp2_with fail
      go_meet
      case rel => first | exact ⟨_, a5, cap5, rfl, hide_it (stkMet_new N5.out Z5.out O5.out)⟩ | exact ⟨_, a5, cap5, rfl, hide_it (stkMet_set N5.out (by omega) (by omega) Y5.out Z5.out O5.out)⟩
  case rest =>
    obtain ⟨b, a5, cap5, rfl, HMET⟩ := hcut
    have EW := hide_it HMET.out.1
    have YW := hide_it HMET.out.2.1
    have ZW := hide_it HMET.out.2.2.1
    have OW := hide_it HMET.out.2.2.2
    clear HMET x0 x1 x2 x3 x4
    obtain ⟨u0, u1⟩ := YW.out.cells2
    obtain ⟨z0, z1⟩ := ZW.out.cells2
    obtain ⟨zf0, zf1, -, -, -⟩ := ZW.out.free5
    go_wp2
    refine bodyPost_ret (v := .agg #[.int .i64 RR, .slice a5 HS.length cap5]) (by simp [results, Tryz.results83, go_sem, *]) rfl ?_
    refine ⟨a5, cap5, rfl, ?_, ?_⟩
    · exact row_low (row_set (row_set OW.out ZW.out (by decide) _ _) (ZW.out.set_ 0 _) (by decide) _ _) (by omega)
    · exact ((B0.out.trans (EW.out.mono B0.out.size)).setCell (by simp) _).setCell (by simp) _

set_option maxHeartbeats 4000000 in
theorem forcedStock_some (id : Int) (up : Bool) (room : Int) (g n cap N : Nat) (RR : Int) (HS : List Pl.H) (BB : Bool) (w : World) (hN : N ≤ n) (hc : n ≤ cap)
    (HO : Hid (∀ W, Below w.heap.size w W → Calls Tryz.prog 127 #[.int .i64 room, .slice (some ⟨g, 0, none⟩) N cap] W fun e w' => StOut W w' e RR HS BB)) :
    Calls Tryz.prog 83 #[keeperV (.slice (some ⟨g, 0, none⟩) n cap) N id up room] w fun e w' => SkOut w w' e RR HS := by
  obtain ⟨w0, hw0⟩ : ∃ W, Hid (W = (w.alloc (.cells #[.slice (some ⟨g, 0, none⟩) n cap, .int .i64 N, .int .i64 id, .bool up, .int .i64 room] 135)).alloc (.cells #[.int .i64 0, .slice none 0 0] 95)) := ⟨_, rfl⟩
  have B0 : Hid (Below w.heap.size w w0) := by show Below _ _ _; rw [hw0.out]; exact below2 _ _ _
  have X0 : Hid (Blk w0 w.heap.size #[.slice (some ⟨g, 0, none⟩) n cap, .int .i64 N, .int .i64 id, .bool up, .int .i64 room] 135) := by show Blk _ _ _ _; rw [hw0.out]; exact (Blk.new _ _ _).alloc _
  have Z0 : Hid (Blk w0 (w.heap.size + 1) #[.int .i64 0, .slice none 0 0] 95) := by show Blk _ _ _ _; rw [hw0.out]; exact Blk.new2 _ _ _ _
  have hs0 : Hid (w0.heap.size = w.heap.size + 2) := by show _ = _; rw [hw0.out, size2]
  have hs1 : w.heap.size + 1 < w0.heap.size := by have := hs0.out; omega
  obtain ⟨x0, x1, x2, x3, x4⟩ := X0.out.cells5
  go_enter Tryz.func83, Tryz.ntmps83
  go_wp2_with fail
  rw [← hw0.out]
  go_cut [3] (fun p W => ∃ b a5 cap5, p = .pointer (some ⟨b, 0, none⟩) ∧ Hid (StkMet w0 W (w.heap.size + 1) b RR (.slice a5 HS.length cap5) HS))
  case first =>
    go_region_held (fun w' => w'.cell? ⟨w.heap.size, 0, none⟩ = some (.slice (some ⟨g, 0, none⟩) n cap) ∧ w'.cell? ⟨w.heap.size, 1, none⟩ = some (.int .i64 N) ∧ w'.cell? ⟨w.heap.size, 4, none⟩ = some (.int .i64 room)) (first | (go_keep; done) | (refine ⟨(ks2 _ _ _ _ ?_).trans ?_, (ks2 _ _ _ _ ?_).trans ?_, (ks2 _ _ _ _ ?_).trans ?_⟩ <;> first | omega | assumption))
      ((go_at_call 127; refine (HO.out _ ?_).mono ?_; (first | (with_reducible exact B0.out.drew) | exact (B0.out.alloc B0.out.size _).drew); rintro e w1 ⟨a5, cap5, rfl, ho5, hb5⟩; have N5 : Hid (Below w0.heap.size w0 w1) := (by first | (with_reducible exact hide_it (b_drew hb5)) | (with_reducible exact hide_it (b_alloc_drew hb5))); (try (with_reducible have Y5 := hide_it (z_alloc_drew hb5))); have O5 : Hid (w1.ownsRow w0.heap.size 93 2 (.slice a5 HS.length cap5) HS.length (hflat HS)) := (by first | (with_reducible exact hide_it (o_drew ho5)) | (with_reducible exact hide_it (o_alloc_drew ho5))); have Z5 := hide_it (Z0.out.after N5.out); have hs5 := N5.out.size; obtain ⟨y0, y1, y2, y3, y4⟩ := (X0.out.after N5.out).cells5; (try obtain ⟨u0, u1⟩ := Y5.out.cells2); (try obtain ⟨uf0, uf1, -, -, -⟩ := Y5.out.free5); clear ho5 hb5))
    all_goals
      go_wp2_with fail
      go_meet
      case rel => first | exact ⟨_, a5, cap5, rfl, hide_it (stkMet_new N5.out Z5.out O5.out)⟩ | exact ⟨_, a5, cap5, rfl, hide_it (stkMet_set N5.out (by omega) (by omega) Y5.out Z5.out O5.out)⟩
  case rest =>
    obtain ⟨b, a5, cap5, rfl, HMET⟩ := hcut
    have EW := hide_it HMET.out.1
    have YW := hide_it HMET.out.2.1
    have ZW := hide_it HMET.out.2.2.1
    have OW := hide_it HMET.out.2.2.2
    clear HMET x0 x1 x2 x3 x4
    obtain ⟨u0, u1⟩ := YW.out.cells2
    obtain ⟨z0, z1⟩ := ZW.out.cells2
    obtain ⟨zf0, zf1, -, -, -⟩ := ZW.out.free5
    go_wp2
    refine bodyPost_ret (v := .agg #[.int .i64 RR, .slice a5 HS.length cap5]) (by simp [results, Tryz.results83, go_sem, *]) rfl ?_
    refine ⟨a5, cap5, rfl, ?_, ?_⟩
    · exact row_low (row_set (row_set OW.out ZW.out (by decide) _ _) (ZW.out.set_ 0 _) (by decide) _ _) (by omega)
    · exact ((B0.out.trans (EW.out.mono B0.out.size)).setCell (by simp) _).setCell (by simp) _

theorem forcedStock_any (id : Int) (up : Bool) (room : Int) (v : Value) (rs : List R) (f : Int) (a : Addr) (w : World) (hv : Recs w v rs) (hfm : Form v rs.length) (hl : tot rs ≤ 1048576) (h0 : 0 ≤ f) (h1 : f ≤ rs.length) (ha : ErrAt w a) :
    Calls Tryz.prog 83 #[keeperV v f id up room] w fun e w' => SkOut w w' e (oR room (Pl.sOf room (rs.take f.toNat))) (oH (Pl.sOf room (rs.take f.toNat))) := by
  obtain ⟨N, rfl⟩ := Int.eq_ofNat_of_zero_le h0
  have hN : N ≤ rs.length := by omega
  rw [show ((N : Nat) : Int).toNat = N by simp]
  have hrl := tot_len rs
  obtain ⟨ao, cap, rfl⟩ := hv.shape
  have HO : ∀ W, Below w.heap.size w W → Calls Tryz.prog 127 #[.int .i64 room, .slice ao N cap] W fun e w' => StOut W w' e (oR room (Pl.sOf room (rs.take N))) (oH (Pl.sOf room (rs.take N))) (Pl.sOf room (rs.take N)).isSome := fun W h =>
    implOf_any room (.slice ao N cap) (rs.take N) a W ((hv.later h (Nat.le_refl _)).take hN) (Nat.le_trans (pre_take rs N hN) hl) (ha.later h (Nat.le_refl _))
  rcases hfm with ⟨hv0, hn0⟩ | ⟨g, cap', hv0, hc⟩
  · simp only [Value.slice.injEq] at hv0
    obtain ⟨rfl, -, rfl⟩ := hv0
    obtain rfl : N = 0 := by omega
    rw [hn0]
    exact forcedStock_nil id up room _ _ _ w HO
  · simp only [Value.slice.injEq] at hv0
    obtain ⟨rfl, -, rfl⟩ := hv0
    exact forcedStock_some id up room g rs.length cap N _ _ _ w hN hc HO

set_option maxHeartbeats 4000000 in
theorem l11Stock_forced_nil (id : Int) (up : Bool) (room : Int) (RR : Int) (HS : List Pl.H) (BB : Bool) (w : World) 
    (HO : Hid (∀ W, Below w.heap.size w W → Calls Tryz.prog 72 #[.int .i64 room, .slice none 0 0] W fun e w' => StOut W w' e RR HS BB)) :
    Calls Tryz.prog 50 #[houseV id up room (.slice none 0 0) 0, .bool true] w fun e w' => SkOut w w' e RR HS := by
  obtain ⟨w0, hw0⟩ : ∃ W, Hid (W = (w.alloc (.cells #[.int .i64 id, .bool up, .int .i64 room, .slice none 0 0, .int .i64 0] 79)).alloc (.cells #[.int .i64 0, .slice none 0 0] 95)) := ⟨_, rfl⟩
  have B0 : Hid (Below w.heap.size w w0) := by show Below _ _ _; rw [hw0.out]; exact below2 _ _ _
  have X0 : Hid (Blk w0 w.heap.size #[.int .i64 id, .bool up, .int .i64 room, .slice none 0 0, .int .i64 0] 79) := by show Blk _ _ _ _; rw [hw0.out]; exact (Blk.new _ _ _).alloc _
  have Z0 : Hid (Blk w0 (w.heap.size + 1) #[.int .i64 0, .slice none 0 0] 95) := by show Blk _ _ _ _; rw [hw0.out]; exact Blk.new2 _ _ _ _
  have hs0 : Hid (w0.heap.size = w.heap.size + 2) := by show _ = _; rw [hw0.out, size2]
  have hs1 : w.heap.size + 1 < w0.heap.size := by have := hs0.out; omega
  obtain ⟨x0, x1, x2, x3, x4⟩ := X0.out.cells5
  go_enter Tryz.func50, Tryz.ntmps50
  go_wp2_with fail
  rw [← hw0.out]
  go_cut [6] (fun p W => ∃ b a5 cap5, p = .pointer (some ⟨b, 0, none⟩) ∧ Hid (StkMet w0 W (w.heap.size + 1) b RR (.slice a5 HS.length cap5) HS))
  case first =>
    go_region_held (fun w' => w'.cell? ⟨w.heap.size, 2, none⟩ = some (.int .i64 room) ∧ w'.cell? ⟨w.heap.size, 3, none⟩ = some (.slice none 0 0) ∧ w'.cell? ⟨w.heap.size, 0, none⟩ = some (.int .i64 id)) (first | (go_keep; done) | (refine ⟨(ks2 _ _ _ _ ?_).trans ?_, (ks2 _ _ _ _ ?_).trans ?_, (ks2 _ _ _ _ ?_).trans ?_⟩ <;> first | omega | assumption))
      ((go_at_call 72; refine (HO.out _ ?_).mono ?_; (first | (with_reducible exact B0.out.drew) | exact (B0.out.alloc B0.out.size _).drew); rintro e w1 ⟨a5, cap5, rfl, ho5, hb5⟩; have N5 : Hid (Below w0.heap.size w0 w1) := (by first | (with_reducible exact hide_it (b_drew hb5)) | (with_reducible exact hide_it (b_alloc_drew hb5))); (try (with_reducible have Y5 := hide_it (z_alloc_drew hb5))); have O5 : Hid (w1.ownsRow w0.heap.size 93 2 (.slice a5 HS.length cap5) HS.length (hflat HS)) := (by first | (with_reducible exact hide_it (o_drew ho5)) | (with_reducible exact hide_it (o_alloc_drew ho5))); have Z5 := hide_it (Z0.out.after N5.out); have hs5 := N5.out.size; obtain ⟨y0, y1, y2, y3, y4⟩ := (X0.out.after N5.out).cells5; (try obtain ⟨u0, u1⟩ := Y5.out.cells2); (try obtain ⟨uf0, uf1, -, -, -⟩ := Y5.out.free5); clear ho5 hb5))
    all_goals
      go_wp2_with fail
      go_meet
      case rel => first | exact ⟨_, a5, cap5, rfl, hide_it (stkMet_new N5.out Z5.out O5.out)⟩ | exact ⟨_, a5, cap5, rfl, hide_it (stkMet_set N5.out (by omega) (by omega) Y5.out Z5.out O5.out)⟩
  case rest =>
    obtain ⟨b, a5, cap5, rfl, HMET⟩ := hcut
    have EW := hide_it HMET.out.1
    have YW := hide_it HMET.out.2.1
    have ZW := hide_it HMET.out.2.2.1
    have OW := hide_it HMET.out.2.2.2
    clear HMET x0 x1 x2 x3 x4
    obtain ⟨u0, u1⟩ := YW.out.cells2
    obtain ⟨z0, z1⟩ := ZW.out.cells2
    obtain ⟨zf0, zf1, -, -, -⟩ := ZW.out.free5
    go_wp2
    refine bodyPost_ret (v := .agg #[.int .i64 RR, .slice a5 HS.length cap5]) (by simp [results, Tryz.results50, go_sem, *]) rfl ?_
    refine ⟨a5, cap5, rfl, ?_, ?_⟩
    · exact row_low (row_set (row_set OW.out ZW.out (by decide) _ _) (ZW.out.set_ 0 _) (by decide) _ _) (by omega)
    · exact ((B0.out.trans (EW.out.mono B0.out.size)).setCell (by simp) _).setCell (by simp) _

set_option maxHeartbeats 4000000 in
theorem l11Stock_forced_some (id : Int) (up : Bool) (room : Int) (g n cap N : Nat) (RR : Int) (HS : List Pl.H) (BB : Bool) (w : World) (hN : N ≤ n) (hc : n ≤ cap)
    (HO : Hid (∀ W, Below w.heap.size w W → Calls Tryz.prog 72 #[.int .i64 room, .slice (some ⟨g, 0, none⟩) N cap] W fun e w' => StOut W w' e RR HS BB)) :
    Calls Tryz.prog 50 #[houseV id up room (.slice (some ⟨g, 0, none⟩) n cap) N, .bool true] w fun e w' => SkOut w w' e RR HS := by
  obtain ⟨w0, hw0⟩ : ∃ W, Hid (W = (w.alloc (.cells #[.int .i64 id, .bool up, .int .i64 room, .slice (some ⟨g, 0, none⟩) n cap, .int .i64 N] 79)).alloc (.cells #[.int .i64 0, .slice none 0 0] 95)) := ⟨_, rfl⟩
  have B0 : Hid (Below w.heap.size w w0) := by show Below _ _ _; rw [hw0.out]; exact below2 _ _ _
  have X0 : Hid (Blk w0 w.heap.size #[.int .i64 id, .bool up, .int .i64 room, .slice (some ⟨g, 0, none⟩) n cap, .int .i64 N] 79) := by show Blk _ _ _ _; rw [hw0.out]; exact (Blk.new _ _ _).alloc _
  have Z0 : Hid (Blk w0 (w.heap.size + 1) #[.int .i64 0, .slice none 0 0] 95) := by show Blk _ _ _ _; rw [hw0.out]; exact Blk.new2 _ _ _ _
  have hs0 : Hid (w0.heap.size = w.heap.size + 2) := by show _ = _; rw [hw0.out, size2]
  have hs1 : w.heap.size + 1 < w0.heap.size := by have := hs0.out; omega
  obtain ⟨x0, x1, x2, x3, x4⟩ := X0.out.cells5
  go_enter Tryz.func50, Tryz.ntmps50
  go_wp2_with fail
  rw [← hw0.out]
  go_cut [6] (fun p W => ∃ b a5 cap5, p = .pointer (some ⟨b, 0, none⟩) ∧ Hid (StkMet w0 W (w.heap.size + 1) b RR (.slice a5 HS.length cap5) HS))
  case first =>
    go_region_held (fun w' => w'.cell? ⟨w.heap.size, 2, none⟩ = some (.int .i64 room) ∧ w'.cell? ⟨w.heap.size, 3, none⟩ = some (.slice (some ⟨g, 0, none⟩) n cap) ∧ w'.cell? ⟨w.heap.size, 0, none⟩ = some (.int .i64 id)) (first | (go_keep; done) | (refine ⟨(ks2 _ _ _ _ ?_).trans ?_, (ks2 _ _ _ _ ?_).trans ?_, (ks2 _ _ _ _ ?_).trans ?_⟩ <;> first | omega | assumption))
      ((go_at_call 72; refine (HO.out _ ?_).mono ?_; (first | (with_reducible exact B0.out.drew) | exact (B0.out.alloc B0.out.size _).drew); rintro e w1 ⟨a5, cap5, rfl, ho5, hb5⟩; have N5 : Hid (Below w0.heap.size w0 w1) := (by first | (with_reducible exact hide_it (b_drew hb5)) | (with_reducible exact hide_it (b_alloc_drew hb5))); (try (with_reducible have Y5 := hide_it (z_alloc_drew hb5))); have O5 : Hid (w1.ownsRow w0.heap.size 93 2 (.slice a5 HS.length cap5) HS.length (hflat HS)) := (by first | (with_reducible exact hide_it (o_drew ho5)) | (with_reducible exact hide_it (o_alloc_drew ho5))); have Z5 := hide_it (Z0.out.after N5.out); have hs5 := N5.out.size; obtain ⟨y0, y1, y2, y3, y4⟩ := (X0.out.after N5.out).cells5; (try obtain ⟨u0, u1⟩ := Y5.out.cells2); (try obtain ⟨uf0, uf1, -, -, -⟩ := Y5.out.free5); clear ho5 hb5))
    all_goals
      go_wp2_with fail
      go_meet
      case rel => first | exact ⟨_, a5, cap5, rfl, hide_it (stkMet_new N5.out Z5.out O5.out)⟩ | exact ⟨_, a5, cap5, rfl, hide_it (stkMet_set N5.out (by omega) (by omega) Y5.out Z5.out O5.out)⟩
  case rest =>
    obtain ⟨b, a5, cap5, rfl, HMET⟩ := hcut
    have EW := hide_it HMET.out.1
    have YW := hide_it HMET.out.2.1
    have ZW := hide_it HMET.out.2.2.1
    have OW := hide_it HMET.out.2.2.2
    clear HMET x0 x1 x2 x3 x4
    obtain ⟨u0, u1⟩ := YW.out.cells2
    obtain ⟨z0, z1⟩ := ZW.out.cells2
    obtain ⟨zf0, zf1, -, -, -⟩ := ZW.out.free5
    go_wp2
    refine bodyPost_ret (v := .agg #[.int .i64 RR, .slice a5 HS.length cap5]) (by simp [results, Tryz.results50, go_sem, *]) rfl ?_
    refine ⟨a5, cap5, rfl, ?_, ?_⟩
    · exact row_low (row_set (row_set OW.out ZW.out (by decide) _ _) (ZW.out.set_ 0 _) (by decide) _ _) (by omega)
    · exact ((B0.out.trans (EW.out.mono B0.out.size)).setCell (by simp) _).setCell (by simp) _

set_option maxHeartbeats 4000000 in
theorem l11Stock_all_nil (id : Int) (up : Bool) (room : Int) (f : Int) (RR : Int) (HS : List Pl.H) (BB : Bool) (w : World) 
    (HO : Hid (∀ W, Below w.heap.size w W → Calls Tryz.prog 72 #[.int .i64 room, .slice none 0 0] W fun e w' => StOut W w' e RR HS BB)) :
    Calls Tryz.prog 50 #[houseV id up room (.slice none 0 0) f, .bool false] w fun e w' => SkOut w w' e RR HS := by
  obtain ⟨w0, hw0⟩ : ∃ W, Hid (W = (w.alloc (.cells #[.int .i64 id, .bool up, .int .i64 room, .slice none 0 0, .int .i64 f] 79)).alloc (.cells #[.int .i64 0, .slice none 0 0] 95)) := ⟨_, rfl⟩
  have B0 : Hid (Below w.heap.size w w0) := by show Below _ _ _; rw [hw0.out]; exact below2 _ _ _
  have X0 : Hid (Blk w0 w.heap.size #[.int .i64 id, .bool up, .int .i64 room, .slice none 0 0, .int .i64 f] 79) := by show Blk _ _ _ _; rw [hw0.out]; exact (Blk.new _ _ _).alloc _
  have Z0 : Hid (Blk w0 (w.heap.size + 1) #[.int .i64 0, .slice none 0 0] 95) := by show Blk _ _ _ _; rw [hw0.out]; exact Blk.new2 _ _ _ _
  have hs0 : Hid (w0.heap.size = w.heap.size + 2) := by show _ = _; rw [hw0.out, size2]
  have hs1 : w.heap.size + 1 < w0.heap.size := by have := hs0.out; omega
  obtain ⟨x0, x1, x2, x3, x4⟩ := X0.out.cells5
  go_enter Tryz.func50, Tryz.ntmps50
  go_wp2_with fail
  rw [← hw0.out]
  go_cut [6] (fun p W => ∃ b a5 cap5, p = .pointer (some ⟨b, 0, none⟩) ∧ Hid (StkMet w0 W (w.heap.size + 1) b RR (.slice a5 HS.length cap5) HS))
  case first =>
    go_region_held (fun w' => w'.cell? ⟨w.heap.size, 2, none⟩ = some (.int .i64 room) ∧ w'.cell? ⟨w.heap.size, 3, none⟩ = some (.slice none 0 0) ∧ w'.cell? ⟨w.heap.size, 0, none⟩ = some (.int .i64 id)) (first | (go_keep; done) | (refine ⟨(ks2 _ _ _ _ ?_).trans ?_, (ks2 _ _ _ _ ?_).trans ?_, (ks2 _ _ _ _ ?_).trans ?_⟩ <;> first | omega | assumption))
      ((go_at_call 72; refine (HO.out _ ?_).mono ?_; (first | (with_reducible exact B0.out.drew) | exact (B0.out.alloc B0.out.size _).drew); rintro e w1 ⟨a5, cap5, rfl, ho5, hb5⟩; have N5 : Hid (Below w0.heap.size w0 w1) := (by first | (with_reducible exact hide_it (b_drew hb5)) | (with_reducible exact hide_it (b_alloc_drew hb5))); (try (with_reducible have Y5 := hide_it (z_alloc_drew hb5))); have O5 : Hid (w1.ownsRow w0.heap.size 93 2 (.slice a5 HS.length cap5) HS.length (hflat HS)) := (by first | (with_reducible exact hide_it (o_drew ho5)) | (with_reducible exact hide_it (o_alloc_drew ho5))); have Z5 := hide_it (Z0.out.after N5.out); have hs5 := N5.out.size; obtain ⟨y0, y1, y2, y3, y4⟩ := (X0.out.after N5.out).cells5; (try obtain ⟨u0, u1⟩ := Y5.out.cells2); (try obtain ⟨uf0, uf1, -, -, -⟩ := Y5.out.free5); clear ho5 hb5))
    all_goals
      go_wp2_with fail
      go_meet
      case rel => first | exact ⟨_, a5, cap5, rfl, hide_it (stkMet_new N5.out Z5.out O5.out)⟩ | exact ⟨_, a5, cap5, rfl, hide_it (stkMet_set N5.out (by omega) (by omega) Y5.out Z5.out O5.out)⟩
  case rest =>
    obtain ⟨b, a5, cap5, rfl, HMET⟩ := hcut
    have EW := hide_it HMET.out.1
    have YW := hide_it HMET.out.2.1
    have ZW := hide_it HMET.out.2.2.1
    have OW := hide_it HMET.out.2.2.2
    clear HMET x0 x1 x2 x3 x4
    obtain ⟨u0, u1⟩ := YW.out.cells2
    obtain ⟨z0, z1⟩ := ZW.out.cells2
    obtain ⟨zf0, zf1, -, -, -⟩ := ZW.out.free5
    go_wp2
    refine bodyPost_ret (v := .agg #[.int .i64 RR, .slice a5 HS.length cap5]) (by simp [results, Tryz.results50, go_sem, *]) rfl ?_
    refine ⟨a5, cap5, rfl, ?_, ?_⟩
    · exact row_low (row_set (row_set OW.out ZW.out (by decide) _ _) (ZW.out.set_ 0 _) (by decide) _ _) (by omega)
    · exact ((B0.out.trans (EW.out.mono B0.out.size)).setCell (by simp) _).setCell (by simp) _

set_option maxHeartbeats 4000000 in
theorem l11Stock_all_some (id : Int) (up : Bool) (room : Int) (f : Int) (g n cap : Nat) (RR : Int) (HS : List Pl.H) (BB : Bool) (w : World) (hc : n ≤ cap)
    (HO : Hid (∀ W, Below w.heap.size w W → Calls Tryz.prog 72 #[.int .i64 room, .slice (some ⟨g, 0, none⟩) n cap] W fun e w' => StOut W w' e RR HS BB)) :
    Calls Tryz.prog 50 #[houseV id up room (.slice (some ⟨g, 0, none⟩) n cap) f, .bool false] w fun e w' => SkOut w w' e RR HS := by
  obtain ⟨w0, hw0⟩ : ∃ W, Hid (W = (w.alloc (.cells #[.int .i64 id, .bool up, .int .i64 room, .slice (some ⟨g, 0, none⟩) n cap, .int .i64 f] 79)).alloc (.cells #[.int .i64 0, .slice none 0 0] 95)) := ⟨_, rfl⟩
  have B0 : Hid (Below w.heap.size w w0) := by show Below _ _ _; rw [hw0.out]; exact below2 _ _ _
  have X0 : Hid (Blk w0 w.heap.size #[.int .i64 id, .bool up, .int .i64 room, .slice (some ⟨g, 0, none⟩) n cap, .int .i64 f] 79) := by show Blk _ _ _ _; rw [hw0.out]; exact (Blk.new _ _ _).alloc _
  have Z0 : Hid (Blk w0 (w.heap.size + 1) #[.int .i64 0, .slice none 0 0] 95) := by show Blk _ _ _ _; rw [hw0.out]; exact Blk.new2 _ _ _ _
  have hs0 : Hid (w0.heap.size = w.heap.size + 2) := by show _ = _; rw [hw0.out, size2]
  have hs1 : w.heap.size + 1 < w0.heap.size := by have := hs0.out; omega
  obtain ⟨x0, x1, x2, x3, x4⟩ := X0.out.cells5
  go_enter Tryz.func50, Tryz.ntmps50
  go_wp2_with fail
  rw [← hw0.out]
  go_cut [6] (fun p W => ∃ b a5 cap5, p = .pointer (some ⟨b, 0, none⟩) ∧ Hid (StkMet w0 W (w.heap.size + 1) b RR (.slice a5 HS.length cap5) HS))
  case first =>
    go_region_held (fun w' => w'.cell? ⟨w.heap.size, 2, none⟩ = some (.int .i64 room) ∧ w'.cell? ⟨w.heap.size, 3, none⟩ = some (.slice (some ⟨g, 0, none⟩) n cap) ∧ w'.cell? ⟨w.heap.size, 0, none⟩ = some (.int .i64 id)) (first | (go_keep; done) | (refine ⟨(ks2 _ _ _ _ ?_).trans ?_, (ks2 _ _ _ _ ?_).trans ?_, (ks2 _ _ _ _ ?_).trans ?_⟩ <;> first | omega | assumption))
      ((go_at_call 72; refine (HO.out _ ?_).mono ?_; (first | (with_reducible exact B0.out.drew) | exact (B0.out.alloc B0.out.size _).drew); rintro e w1 ⟨a5, cap5, rfl, ho5, hb5⟩; have N5 : Hid (Below w0.heap.size w0 w1) := (by first | (with_reducible exact hide_it (b_drew hb5)) | (with_reducible exact hide_it (b_alloc_drew hb5))); (try (with_reducible have Y5 := hide_it (z_alloc_drew hb5))); have O5 : Hid (w1.ownsRow w0.heap.size 93 2 (.slice a5 HS.length cap5) HS.length (hflat HS)) := (by first | (with_reducible exact hide_it (o_drew ho5)) | (with_reducible exact hide_it (o_alloc_drew ho5))); have Z5 := hide_it (Z0.out.after N5.out); have hs5 := N5.out.size; obtain ⟨y0, y1, y2, y3, y4⟩ := (X0.out.after N5.out).cells5; (try obtain ⟨u0, u1⟩ := Y5.out.cells2); (try obtain ⟨uf0, uf1, -, -, -⟩ := Y5.out.free5); clear ho5 hb5))
    all_goals
      go_wp2_with fail
      go_meet
      case rel => first | exact ⟨_, a5, cap5, rfl, hide_it (stkMet_new N5.out Z5.out O5.out)⟩ | exact ⟨_, a5, cap5, rfl, hide_it (stkMet_set N5.out (by omega) (by omega) Y5.out Z5.out O5.out)⟩
  case rest =>
    obtain ⟨b, a5, cap5, rfl, HMET⟩ := hcut
    have EW := hide_it HMET.out.1
    have YW := hide_it HMET.out.2.1
    have ZW := hide_it HMET.out.2.2.1
    have OW := hide_it HMET.out.2.2.2
    clear HMET x0 x1 x2 x3 x4
    obtain ⟨u0, u1⟩ := YW.out.cells2
    obtain ⟨z0, z1⟩ := ZW.out.cells2
    obtain ⟨zf0, zf1, -, -, -⟩ := ZW.out.free5
    go_wp2
    refine bodyPost_ret (v := .agg #[.int .i64 RR, .slice a5 HS.length cap5]) (by simp [results, Tryz.results50, go_sem, *]) rfl ?_
    refine ⟨a5, cap5, rfl, ?_, ?_⟩
    · exact row_low (row_set (row_set OW.out ZW.out (by decide) _ _) (ZW.out.set_ 0 _) (by decide) _ _) (by omega)
    · exact ((B0.out.trans (EW.out.mono B0.out.size)).setCell (by simp) _).setCell (by simp) _

theorem l11Stock_any (id : Int) (up : Bool) (room : Int) (v : Value) (rs : List R) (f : Int) (forced : Bool) (w : World) (hv : Recs w v rs) (hfm : Form v rs.length) (hl : tot rs ≤ 1048576) (h0 : 0 ≤ f) (h1 : f ≤ rs.length) :
    Calls Tryz.prog 50 #[houseV id up room v f, .bool forced] w fun e w' => SkOut w w' e (oR room (Pl.sOf room (cutR rs f forced))) (oH (Pl.sOf room (cutR rs f forced))) := by
  obtain ⟨N, rfl⟩ := Int.eq_ofNat_of_zero_le h0
  have hN : N ≤ rs.length := by omega
  obtain ⟨ao, cap, rfl⟩ := hv.shape
  cases forced
  · have hcut : cutR rs (N : Int) false = rs := by simp [cutR]
    rw [hcut]
    have HO : ∀ W, Below w.heap.size w W → Calls Tryz.prog 72 #[.int .i64 room, .slice ao rs.length cap] W fun e w' => StOut W w' e (oR room (Pl.sOf room rs)) (oH (Pl.sOf room rs)) (Pl.sOf room rs).isSome := fun W h =>
      l2Of_any room (.slice ao rs.length cap) rs W (hv.later h (Nat.le_refl _)) hl
    rcases hfm with ⟨hv0, hn0⟩ | ⟨g, cap', hv0, hc⟩
    · simp only [Value.slice.injEq] at hv0
      obtain ⟨rfl, -, rfl⟩ := hv0
      rw [hn0] at HO ⊢
      exact l11Stock_all_nil id up room _ _ _ _ w HO
    · simp only [Value.slice.injEq] at hv0
      obtain ⟨rfl, -, rfl⟩ := hv0
      exact l11Stock_all_some id up room _ g rs.length cap _ _ _ w hc HO
  · have hcut : cutR rs (N : Int) true = rs.take N := by simp [cutR]
    rw [hcut]
    have HO : ∀ W, Below w.heap.size w W → Calls Tryz.prog 72 #[.int .i64 room, .slice ao N cap] W fun e w' => StOut W w' e (oR room (Pl.sOf room (rs.take N))) (oH (Pl.sOf room (rs.take N))) (Pl.sOf room (rs.take N)).isSome := fun W h =>
      l2Of_any room (.slice ao N cap) (rs.take N) W ((hv.later h (Nat.le_refl _)).take hN) (Nat.le_trans (pre_take rs N hN) hl)
    rcases hfm with ⟨hv0, hn0⟩ | ⟨g, cap', hv0, hc⟩
    · simp only [Value.slice.injEq] at hv0
      obtain ⟨rfl, -, rfl⟩ := hv0
      obtain rfl : N = 0 := by omega
      rw [hn0]
      exact l11Stock_forced_nil id up room _ _ _ w HO
    · simp only [Value.slice.injEq] at hv0
      obtain ⟨rfl, -, rfl⟩ := hv0
      exact l11Stock_forced_some id up room g rs.length cap N _ _ _ w hN hc HO

end Go.Proofs.YtkkkdgpbmmjieaaGreatDoor

namespace Go.Proofs.YtkkkdgpbmmjieaaGreatDoor

namespace Pl
theorem sRun_snoc (room : Int) (rs : List (Int × Int × List Int)) (r : Int × Int × List Int) (hs : List H) : sRun room (rs ++ [r]) hs = (sRun room rs hs).bind fun h => sDo room h r.1 r.2.1 r.2.2 := by
  induction rs generalizing hs with
  | nil => simp [sRun]; cases sDo room hs r.1 r.2.1 r.2.2 <;> rfl
  | cons x t ih =>
    simp only [List.cons_append, sRun]
    cases sDo room hs x.1 x.2.1 x.2.2 with
    | none => rfl
    | some h => exact ih h
theorem sRun_len {room : Int} : ∀ (rs : List (Int × Int × List Int)) {hs hs' : List H}, sRun room rs hs = some hs' → hs'.length = hs.length
  | [], _, _, h => by simp [sRun] at h; rw [h]
  | r :: t, hs, hs', h => by
    simp only [sRun] at h
    cases e : sDo room hs r.1 r.2.1 r.2.2 with
    | none => rw [e] at h; cases h
    | some h1 => rw [e] at h; rw [sRun_len t h, sDo_len e]
theorem sRun_ok {room : Int} : ∀ (rs : List (Int × Int × List Int)) {hs hs' : List H}, sOk room hs = true → sRun room rs hs = some hs' → sOk room hs' = true
  | [], _, _, h0, h => by simp [sRun] at h; rw [← h]; exact h0
  | r :: t, hs, hs', _, h => by
    simp only [sRun] at h
    cases e : sDo room hs r.1 r.2.1 r.2.2 with
    | none => rw [e] at h; cases h
    | some h1 => rw [e] at h; exact sRun_ok t (sDo_keeps e) h
theorem sRun_take {room : Int} : ∀ (rs : List (Int × Int × List Int)) (n : Nat) {hs hs' : List H}, sRun room rs hs = some hs' → ∃ h1, sRun room (rs.take n) hs = some h1
  | [], n, hs, hs', h => ⟨hs', by simpa using h⟩
  | r :: t, 0, hs, _, _ => ⟨hs, by simp [sRun]⟩
  | r :: t, n + 1, hs, hs', h => by
    simp only [sRun] at h
    simp only [List.take_succ_cons, sRun]
    cases e : sDo room hs r.1 r.2.1 r.2.2 with
    | none => rw [e] at h; cases h
    | some h1 => rw [e] at h; exact sRun_take t n h
theorem sOf_run {room : Int} {rs : List (Int × Int × List Int)} {hs : List H} (h : sOf room rs = some hs) : inB room 0 9 = true ∧ sRun room rs noHolds = some hs := by
  unfold sOf at h
  by_cases hr : inB room 0 9 = true
  · rw [if_pos hr] at h; exact ⟨hr, h⟩
  · rw [if_neg hr] at h; cases h
theorem sOf_ok {room : Int} {rs : List (Int × Int × List Int)} {hs : List H} (h : sOf room rs = some hs) : sOk room hs = true ∧ hs.length = 6 := by
  obtain ⟨h1, h2⟩ := sOf_run h
  exact ⟨sRun_ok rs (new_ok room h1) h2, by rw [sRun_len rs h2]; rfl⟩
theorem sOf_take {room : Int} {rs : List (Int × Int × List Int)} {hs : List H} (n : Nat) (h : sOf room rs = some hs) : ∃ h1, sOf room (rs.take n) = some h1 := by
  obtain ⟨h1, h2⟩ := sOf_run h
  obtain ⟨h3, h4⟩ := sRun_take rs n h2
  exact ⟨h3, by unfold sOf; rw [if_pos h1]; exact h4⟩
theorem sOf_snoc {room : Int} {rs : List (Int × Int × List Int)} {hs : List H} (r : Int × Int × List Int) (h : sOf room rs = some hs) : sOf room (rs ++ [r]) = sDo room hs r.1 r.2.1 r.2.2 := by
  obtain ⟨h1, h2⟩ := sOf_run h
  unfold sOf
  rw [if_pos h1, sRun_snoc, h2]
  rfl
theorem oH_len {room : Int} (rs : List (Int × Int × List Int)) : ((sOf room rs).getD []).length ≤ 6 := by
  cases h : sOf room rs with
  | none => simp
  | some hs => simp [(sOf_ok h).2]
end Pl

end Go.Proofs.YtkkkdgpbmmjieaaGreatDoor

namespace Go.Proofs.YtkkkdgpbmmjieaaGreatDoor
open Go.RowKit

def whH (trip : Int) (h : Hd) : Pl.H := (oH (hsO h.1 h.2.2.1 h.2.2.2.1 h.2.2.2.2 false)).getD (trip - 1).toNat (0, 0)
def whB (up : Bool) (rs : List R) (f : Int) (ws : List Wd) (hs : List Hd) (ns : List Wd) (trip : Int) : Bool := wdOk up rs f ws hs ns && Pl.inB trip 1 6
def whO (up : Bool) (rs : List R) (f : Int) (ws : List Wd) (hs : List Hd) (ns : List Wd) (trip : Int) : List Pl.H := if whB up rs f ws hs ns trip = true then hs.map (whH trip) else []
/-- Holds come back, in memory of the call's own. -/
def WhOut (w w' : World) (e : Ending) (out : List Pl.H) : Prop :=
  ∃ ao co, e = .returned (.slice ao out.length co) ∧ w'.ownsRow w.heap.size 93 2 (.slice ao out.length co) out.length (hflat out) ∧ Below w.heap.size w w'
/-- Houses whose records' slices have the form that a slice has. -/
def HF (w : World) (v : Value) (hs : List Hd) : Prop :=
  ∃ b off cap, v = .slice (some ⟨b, off, none⟩) hs.length cap ∧ ∀ i h, hs[i]? = some h → ∃ u, HCells w b (off + i * 5) h u ∧ Form u h.2.2.2.1.length
theorem HF.later {B : Nat} {w w' : World} {v : Value} {hs : List Hd} (h : HF w v hs) (hb : Below B w w') (hB : w.heap.size ≤ B) : HF w' v hs := by
  obtain ⟨b, off, cap, h1, h3⟩ := h
  exact ⟨b, off, cap, h1, fun i x hx => by obtain ⟨u, hu, hf⟩ := h3 i x hx; exact ⟨u, hu.later hb hB, hf⟩⟩
theorem wd_houses {up : Bool} {rs : List R} {f : Int} {ws : List Wd} {hs : List Hd} {ns : List Wd} (h : wdOk up rs f ws hs ns = true) {k : Nat} {x : Hd} (hk : hs[k]? = some x) : hoOk x.1 x.2.2.1 x.2.2.2.1 x.2.2.2.2 = true := by
  have hl : k < hs.length := by
    by_cases e : k < hs.length
    · exact e
    · rw [List.getElem?_eq_none (by omega)] at hk; cases hk
  simp only [wdOk, hsOk, hsOkK, Bool.and_eq_true, List.all_eq_true, List.mem_range] at h
  have h1 := h.1.2.2 k hl
  have h2 : hs.getD k (0, false, 0, [], 0) = x := by rw [List.getD_eq_getElem?_getD, hk]; rfl
  rw [h2] at h1
  unfold hOkAt at h1
  simp only [Bool.and_eq_true] at h1
  exact h1.1
theorem field_stk (room : Int) (a : Option Addr) (n c : Nat) (W : World) : Sem.run Tryz.prog (Instr.field 95 (.agg #[.int .i64 room, .slice a n c]) 1) W = .ok (.slice a n c) W := by kernel_rfl
theorem row_newH (w : World) (o : Obj) : ((w.alloc o).alloc (.cells #[] 93)).ownsRow (w.heap.size + 1) 93 2 (.slice (some ⟨w.heap.size + 1, 0, none⟩) 0 0) 0 (hflat []) := by
  have h := World.ownsRow_lit (base := w.heap.size + 1) (e := 93) (size := 2) (w.alloc o) #[] 0 (by simp) (by unfold maxLen; omega) rfl
  simpa [hflat] using h

set_option maxRecDepth 100000 in
set_option maxHeartbeats 4000000 in
theorem specWHolds_any (up : Bool) (v u hv nv : Value) (rs : List R) (f : Int) (ws : List Wd) (hs : List Hd) (ns : List Wd) (trip : Int) (w : World) (hw : WdAt w v u hv nv rs ws hs ns) (hfu : Form u ws.length) (hf : HF w hv hs) (hl : wdTot rs ws hs ns ≤ 1048576) :
    Calls Tryz.prog 12 #[worldV up v f u hv nv, .int .i64 trip] w fun e w' => WhOut w w' e (whO up rs f ws hs ns trip) := by
  have HW : Hid (∀ W, Below w.heap.size w W → Calls Tryz.prog 8 #[worldV up v f u hv nv] W fun e w' => e = .returned (.bool (wdOk up rs f ws hs ns)) ∧ Below W.heap.size W w') := fun W h =>
    specWorldOk_any up v u hv nv rs f ws hs ns W (hw.later h (Nat.le_refl _)) hfu hl
  have HH : Hid (∀ W, Below w.heap.size w W → HF W hv hs) := fun W h => hf.later h (Nat.le_refl _)
  have HIN := hide_it (fun W => in_any trip 1 6 W)
  obtain ⟨a1, c1, a2, c2, a3, c3, a4, c4, rfl, rfl, rfl, rfl⟩ := hw.shape
  clear hw hf
  obtain ⟨w0, hw0⟩ : ∃ W, Hid (W = (w.alloc (.cells #[.bool up, .slice a1 rs.length c1, .int .i64 f, .slice a2 ws.length c2, .slice a3 hs.length c3, .slice a4 ns.length c4] 41)).alloc (.cells #[] 93)) := ⟨_, rfl⟩
  have B0 : Hid (Below w.heap.size w w0) := by show Below _ _ _; rw [hw0.out]; exact below2 _ _ _
  have A0 : Hid (Blk w0 w.heap.size #[.bool up, .slice a1 rs.length c1, .int .i64 f, .slice a2 ws.length c2, .slice a3 hs.length c3, .slice a4 ns.length c4] 41) := by show Blk _ _ _ _; rw [hw0.out]; exact (Blk.new _ _ _).alloc _
  have R0 : Hid (w0.ownsRow (w.heap.size + 1) 93 2 (.slice (some ⟨w.heap.size + 1, 0, none⟩) 0 0) 0 (hflat [])) := by show World.ownsRow _ _ _ _ _ _ _; rw [hw0.out]; exact row_newH _ _
  go_enter Tryz.func12, Tryz.ntmps12
  go_wp2_with fail
  rw [← hw0.out]
  obtain ⟨OK, hOK⟩ : ∃ b, wdOk up rs f ws hs ns = b := ⟨_, rfl⟩
  rw [hOK] at HW
  have HOKK := hide_it hOK
  clear hOK
  refine (HW.out _ B0.out).mono ?_
  rintro e w1 ⟨rfl, hb1⟩
  have B1 := hide_it (B0.out.trans (hb1.mono B0.out.size))
  have A1 := hide_it (A0.out.after hb1)
  have R1 := hide_it (ownsRow_below R0.out hb1 (fun k hk => (R0.out.lt k hk).2))
  clear hb1
  cases OK
  · have HO : Hid (whO up rs f ws hs ns trip = []) := by show _ = _; unfold whO whB; rw [HOKK.out]; rfl
    go_wp2
    go_ret
    rw [HO.out]
    exact ⟨_, _, rfl, ownsRow_base R1.out (by omega), B1.out⟩
  · obtain ⟨IN, hIN⟩ : ∃ b, Pl.inB trip 1 6 = b := ⟨_, rfl⟩
    rw [hIN] at HIN
    have HINN := hide_it hIN
    clear hIN
    go_wp2_with fail
    refine (HIN.out _).mono ?_
    rintro e w2 ⟨rfl, rfl⟩
    cases IN
    · have HO : Hid (whO up rs f ws hs ns trip = []) := by show _ = _; unfold whO whB; rw [HINN.out, Bool.and_false]; rfl
      go_wp2
      go_ret
      rw [HO.out]
      exact ⟨_, _, rfl, ownsRow_base R1.out (by omega), B1.out⟩
    · have HO : Hid (whO up rs f ws hs ns trip = hs.map (whH trip)) := by show _ = _; unfold whO whB; rw [HINN.out, HOKK.out]; rfl
      have ht : 1 ≤ trip ∧ trip ≤ 6 := by have := HINN.out; simpa [Pl.inB] using this
      rename World => w1
      obtain ⟨M, rfl⟩ : ∃ M : Nat, trip = (M : Int) + 1 := ⟨(trip - 1).toNat, by omega⟩
      have hM : M < 6 := by omega
      have hL1 : w.heap.size + 1 ≤ w1.heap.size := A1.out.lt
      have hlt0 : htot hs ≤ 1048576 := by unfold wdTot at hl; omega
      have hlen := htot_len hs
      have HT : Hid (∀ (k : Nat) (x : Hd), hs[k]? = some x → tot x.2.2.2.1 ≤ 1048576) := fun k x hx => Nat.le_trans (htot_mem hs x (List.mem_of_getElem? hx)) hlt0
      have hn : hs.length ≤ 1048576 := by omega
      clear ht hlt0 hlen hl
      obtain ⟨i0, hi, hz0, hz1, hz2⟩ := info_parts infoHold
      go_wp2_with fail
      go_loopg [5, 6] hs.length (fun gg o i wr => ∃ (k : Nat) (ao : Option Addr) (co : Nat), k ≤ hs.length ∧ gg = hs.length - k ∧ i = .int .i64 k ∧ o = .slice ao k co ∧ Hid (wr.ownsRow (w.heap.size + 1) 93 2 (.slice ao k co) k (hflat ((hs.take k).map (whH ((M : Int) + 1))))) ∧ Hid (Below (w.heap.size + 1) w1 wr))
      case atStart => exact ⟨0, _, _, Nat.zero_le _, rfl, rfl, rfl, R1.out, Below.refl _ _⟩
      case round =>
        obtain ⟨k, ao, co, hk, rfl, rfl, rfl, HR, HB⟩ := hrel
        have B3 := hide_it (B1.out.trans (HB.out.mono (by omega)))
        have A3 := hide_it (A1.out.later HB.out (Nat.lt_succ_self _))
        have hsr : w.heap.size + 1 ≤ wr.heap.size := by have := HB.out.size; omega
        obtain ⟨x0, x1, x2, x3, x4, x5⟩ := A3.out.cells6
        by_cases hlt : k < hs.length
        · obtain ⟨⟨id, hup, room, rr, hf⟩, hg⟩ : ∃ h, hs[k]? = some h := ⟨_, List.getElem?_eq_getElem hlt⟩
          obtain ⟨b, off, cap, hvv, hcell⟩ := HH.out wr B3.out
          simp only [Value.slice.injEq] at hvv
          obtain ⟨rfl, -, rfl⟩ := hvv
          obtain ⟨u, ⟨c0, c1', c2', c3', c4', hR⟩, hfm⟩ := hcell k _ hg
          have hok := wd_houses HOKK.out hg
          obtain ⟨lf0, lf1, -⟩ := logOk_f (hoOk_parts hok).2.1
          obtain ⟨S, hS⟩ := Option.isSome_iff_exists.1 (hoOk_parts hok).2.2
          have h6 := (Pl.sOf_ok hS).2
          have hcut : cutR rr hf false = rr := by simp [cutR]
          have HST := hide_it (l11Stock_any id hup room u rr hf false wr hR hfm (HT.out k _ hg) lf0 lf1)
          rw [hcut, hS] at HST
          have HWH : Hid (whH ((M : Int) + 1) (id, hup, room, rr, hf) = S.getD M (0, 0)) := by
            show _ = _
            unfold whH hsO
            rw [show hoOk (id, hup, room, rr, hf).1 (id, hup, room, rr, hf).2.2.1 (id, hup, room, rr, hf).2.2.2.1 (id, hup, room, rr, hf).2.2.2.2 = true from hok, if_pos rfl, show cutR (id, hup, room, rr, hf).2.2.2.1 (id, hup, room, rr, hf).2.2.2.2 false = rr from hcut, show Pl.sOf (id, hup, room, rr, hf).2.2.1 rr = some S from hS, show ((M : Int) + 1 - 1).toNat = M by omega]
            rfl
          obtain ⟨au, cu, rfl⟩ := hR.shape
          have HG := hide_it hg
          have HST6 : Hid (Calls Tryz.prog 50 #[houseV id hup room (.slice au rr.length cu) hf, .bool false] wr fun e w' => ∃ sa cs, e = .returned (.agg #[.int .i64 room, .slice (some ⟨sa, 0, none⟩) 6 cs]) ∧ w'.ownsRow wr.heap.size 93 2 (.slice (some ⟨sa, 0, none⟩) 6 cs) 6 (hflat S) ∧ Below wr.heap.size wr w') := HST.out.mono (fun e w' h => by
            obtain ⟨ao', cap', h1, ho, hb⟩ := h
            rw [show oH (some S) = S from rfl, h6] at ho
            rw [show oH (some S) = S from rfl, show oR room (some S) = room from rfl, h6] at h1
            rcases ho.2 with ⟨_, h0⟩ | ⟨g, cp, cur, hv', _⟩
            · exact absurd h0 (by decide)
            · rw [hv'] at h1 ho; exact ⟨g, cp, h1, ho, hb⟩)
          have H6 := hide_it h6
          clear HST hcell hR hfm hok lf0 lf1 hcut hS h6 hg
          go_wp2_with fail
          refine HST6.out.mono ?_
          rintro e w4 ⟨sa, cs, rfl, hrow, hb4⟩
          have hg2 := hflat_get S M (by have := H6.out; omega)
          obtain ⟨p, hp⟩ : ∃ p, S.getD M (0, 0) = p := ⟨_, rfl⟩
          rw [hp] at hg2 HWH
          have z0 : w4.cell? ⟨sa, M * 2, none⟩ = some (.int .i64 p.1) := by rw [hrow.cellAt _ (by omega)]; exact hg2.1
          have z1 : w4.cell? ⟨sa, M * 2 + 1, none⟩ = some (.int .i64 p.2) := by rw [hrow.cellAt _ (by omega)]; exact hg2.2
          have R4 := hide_it (ownsRow_below HR.out hb4 (fun j hj => (HR.out.lt j hj).2))
          have L4 := hide_it (HB.out.trans (hb4.mono hsr))
          have A4 := hide_it (A3.out.after hb4)
          have hs4 : w.heap.size + 1 ≤ w4.heap.size := by have := L4.out.size; omega
          clear hg2 hp hrow hb4 x0 x1 x2 x3 x4 x5 c0 c1' c2' c3' c4'
          have ROW : Hid (∀ o, (w4.alloc o).ownsRow (w.heap.size + 1) 93 2 (.slice ao k co) k (hflat ((hs.take k).map (whH ((M : Int) + 1))))) := fun o => R4.out.alloc _
          have hfl := field_stk room (some ⟨sa, 0, none⟩) 6 cs w4
          have hM6 : (M : Int) < 6 := by omega
          go_wp2_with (at_builtin; refine wpList_append_own _ rfl _ _ 45 rfl (w.heap.size + 1) 93 i0 (.agg #[.int .i64 0, .int .i64 0]) 2 16 Tryz.underlying45 hi hz0 hz1 hz2 rfl (by decide) (.slice ao k co) k (hflat ((hs.take k).map (whH ((M : Int) + 1)))) rfl (ROW.out _) ⟨w4.heap.size, 0, none⟩ 1 1 [.int .i64 p.1, .int .i64 p.2] rfl rfl ?c1 ?c2 ?c3 ?c4 ?c5 ?_)
          case c1 =>
            intro j x hj
            match j, hj with
            | 0, hj => simp at hj; subst hj; simp [Addr.add]
            | 1, hj => simp at hj; subst hj; simp [Addr.add]
          case c2 => intro x hx; simp at hx; rcases hx with rfl | rfl <;> rfl
          case c3 => unfold maxLen; omega
          case c4 => omega
          case c5 => simp; omega
          intro v' w6 hown hgrow _
          have hmap : (hs.take (k + 1)).map (whH ((M : Int) + 1)) = (hs.take k).map (whH ((M : Int) + 1)) ++ [p] := by
            rw [List.take_succ_eq_append_getElem hlt, List.map_append]
            have := HG.out
            rw [List.getElem?_eq_getElem hlt] at this
            simp only [Option.some.injEq] at this
            rw [this, List.map_cons, HWH.out]
            rfl
          have hown2 : w6.ownsRow (w.heap.size + 1) 93 2 v' (k + 1) (hflat ((hs.take (k + 1)).map (whH ((M : Int) + 1)))) := by
            rw [hmap, hflat_append]; simpa [hflat] using hown
          obtain ⟨a6, c6, rfl⟩ := row_shape hown2
          have L6 : Hid (Below (w.heap.size + 1) w1 w6) := (L4.out.alloc hs4 _).grown hgrow (by simp; omega) (fun j hj => ((ROW.out (.cells #[.int .i64 p.1, .int .i64 p.2] 93)).lt j hj).1)
          have P6 := hide_it hown2
          clear hown hown2 hgrow hmap z0 z1
          go_wp2
          go_roundg (hs.length - (k + 1))
          case measure => omega
          case rel => exact ⟨k + 1, a6, c6, by omega, rfl, by go_num, rfl, P6, L6⟩
        · have hke : k = hs.length := by omega
          have HO2 : Hid (whO up rs f ws hs ns ((M : Int) + 1) = (hs.take k).map (whH ((M : Int) + 1))) := by show _ = _; rw [HO.out, hke, List.take_length]
          have hlk : ((hs.take k).map (whH ((M : Int) + 1))).length = k := by simp; omega
          have HLK := hide_it hlk
          clear hlk
          go_wp2
          go_ret
          rw [HO2.out]
          refine ⟨ao, co, by rw [HLK.out]; rfl, ?_, B3.out⟩
          rw [HLK.out]
          exact ownsRow_base HR.out (by omega)

end Go.Proofs.YtkkkdgpbmmjieaaGreatDoor

namespace Go.Proofs.YtkkkdgpbmmjieaaGreatDoor
open Go.RowKit

set_option maxHeartbeats 4000000 in
theorem implHStock_any (id : Int) (up : Bool) (room : Int) (v : Value) (rs : List R) (f : Int) (forced : Bool) (a : Addr) (w : World) (hv : Recs w v rs) (hfm : Form v rs.length) (hl : tot rs ≤ 1048576) (ha : ErrAt w a) :
    Calls Tryz.prog 51 #[houseV id up room v f, .bool forced] w fun e w' => SkOut w w' e (oR room (hsO id room rs f forced)) (oH (hsO id room rs f forced)) := by
  have hrl := tot_len rs
  have HV : Hid (∀ W, Below w.heap.size w W → Recs W v rs) := fun W h => hv.later h (Nat.le_refl _)
  have HA : Hid (∀ W, Below w.heap.size w W → ErrAt W a) := fun W h => ha.later h (Nat.le_refl _)
  have HOK : Hid (∀ W, Below w.heap.size w W → Calls Tryz.prog 77 #[houseV id up room v f] W fun e w' => e = .returned (.bool (hoOk id room rs f)) ∧ Below W.heap.size W w') := fun W h =>
    implHouseOk_any id up room v rs f a W (HV.out W h) hl (HA.out W h)
  obtain ⟨av, cv, rfl⟩ := hv.shape
  have HFM := hide_it hfm
  clear hv hfm ha
  obtain ⟨w0, hw0⟩ : ∃ W, Hid (W = (w.alloc (.cells #[.int .i64 id, .bool up, .int .i64 room, .slice av rs.length cv, .int .i64 f] 79)).alloc (.cells #[.int .i64 0, .slice none 0 0] 95)) := ⟨_, rfl⟩
  have B0 : Hid (Below w.heap.size w w0) := by show Below _ _ _; rw [hw0.out]; exact below2 _ _ _
  have X0 : Hid (Blk w0 w.heap.size #[.int .i64 id, .bool up, .int .i64 room, .slice av rs.length cv, .int .i64 f] 79) := by show Blk _ _ _ _; rw [hw0.out]; exact (Blk.new _ _ _).alloc _
  have Z0 : Hid (Blk w0 (w.heap.size + 1) #[.int .i64 0, .slice none 0 0] 95) := by show Blk _ _ _ _; rw [hw0.out]; exact Blk.new2 _ _ _ _
  have hs0 : w0.heap.size = w.heap.size + 2 := by rw [hw0.out, size2]
  cases hok : hoOk id room rs f
  · have HR : Hid (hsO id room rs f forced = none) := by show _ = _; simp [hsO, hok]
    rw [hok] at HOK
    rw [HR.out]
    clear hok
    go_enter Tryz.func51, Tryz.ntmps51
    go_wp2_with fail
    rw [← hw0.out]
    refine (HOK.out _ B0.out).mono ?_
    rintro e w1 ⟨rfl, hb⟩
    obtain ⟨z0, z1⟩ := (Z0.out.after hb).cells2
    obtain ⟨zf0, zf1, -, -, -⟩ := (Z0.out.after hb).free5
    have HB := hide_it (B0.out.trans (hb.mono B0.out.size))
    clear hb
    go_wp2
    refine bodyPost_ret (v := .agg #[.int .i64 0, .slice none 0 0]) (by simp [results, Tryz.results51, go_sem, *]) rfl (SkOut.none_ ?_)
    exact (HB.out.setCell (by simp) _).setCell (by simp) _
  · have HR : Hid (hsO id room rs f forced = Pl.sOf room (cutR rs f forced)) := by show _ = _; simp [hsO, hok]
    obtain ⟨lf0, lf1, -⟩ := logOk_f (hoOk_parts hok).2.1
    rw [hok] at HOK
    rw [HR.out]
    clear HR
    obtain ⟨RR, hRR⟩ : ∃ x, Hid (oR room (Pl.sOf room (cutR rs f forced)) = x) := ⟨_, rfl⟩
    obtain ⟨HS, hHS⟩ : ∃ x, Hid (oH (Pl.sOf room (cutR rs f forced)) = x) := ⟨_, rfl⟩
    rw [hRR.out, hHS.out]
    have SK : Hid (∀ W, Below w.heap.size w W → (forced = true → Calls Tryz.prog 83 #[keeperV (.slice av rs.length cv) f id up room] W fun e w' => SkOut W w' e RR HS) ∧ (forced = false → Calls Tryz.prog 84 #[keeperV (.slice av rs.length cv) f id up room] W fun e w' => SkOut W w' e RR HS)) := fun W h => by
      refine ⟨fun hf => ?_, fun hf => ?_⟩
      · have := forcedStock_any id up room _ rs f a W (HV.out W h) HFM.out hl lf0 lf1 (HA.out W h)
        rw [show rs.take f.toNat = cutR rs f forced by simp [cutR, hf]] at this
        rw [hRR.out, hHS.out] at this; exact this
      · have := allStock_any id up room _ rs f a W (HV.out W h) hl (HA.out W h)
        rw [show Pl.sOf room rs = Pl.sOf room (cutR rs f forced) by simp [cutR, hf]] at this
        rw [hRR.out, hHS.out] at this; exact this
    go_enter Tryz.func51, Tryz.ntmps51
    go_wp2_with fail
    rw [← hw0.out]
    refine (HOK.out _ B0.out).mono ?_
    rintro e w1 ⟨rfl, hb1⟩
    have X1 := hide_it (X0.out.after hb1)
    have Z1 := hide_it (Z0.out.after hb1)
    have B1 := hide_it (B0.out.trans (hb1.mono B0.out.size))
    have hs1 : w.heap.size + 2 ≤ w1.heap.size := by have := hb1.size; omega
    obtain ⟨x0, x1, x2, x3, x4⟩ := X1.out.cells5
    clear hb1
    go_wp2_with fail
    refine (keeperOf_any id up room av rs.length cv f w1).mono ?_
    rintro e w2 ⟨rfl, hb2⟩
    have Z2 := hide_it (Z1.out.after hb2)
    have B2 := hide_it (B1.out.trans (hb2.mono B1.out.size))
    have hs2 : w.heap.size + 2 ≤ w2.heap.size := by have := hb2.size; omega
    clear hb2 x0 x1 x2 x3 x4
    obtain ⟨w3, hw3⟩ : ∃ W, Hid (W = w2.alloc (.cells #[.slice av rs.length cv, .int .i64 f, .int .i64 id, .bool up, .int .i64 room] 135)) := ⟨_, rfl⟩
    have al3 : Hid (Below w2.heap.size w2 w3) := by show Below _ _ _; rw [hw3.out]; exact alloc_below _ _
    have hs3 : w3.heap.size = w2.heap.size + 1 := by rw [hw3.out]; simp
    have Z3 := hide_it (Z2.out.after al3.out)
    have B3 := hide_it (B2.out.trans (al3.out.mono B2.out.size))
    obtain ⟨SF, SA⟩ := SK.out w3 B3.out
    have HSF := hide_it SF
    have HSA := hide_it SA
    clear SF SA SK
    cases forced
    · go_wp2_with fail
      rw [← hw3.out]
      refine (HSA.out (by simp)).mono ?_
      rintro e w4 ⟨a9, c9, rfl, ho, hb⟩
      have Z4 := hide_it (Z3.out.after hb)
      have O4 := hide_it ho
      have B4 := hide_it (B3.out.trans (hb.mono B3.out.size))
      have hsn : w.heap.size + 2 ≤ w3.heap.size := by omega
      obtain ⟨z0, z1⟩ := Z4.out.cells2
      obtain ⟨zf0, zf1, -, -, -⟩ := Z4.out.free5
      clear ho hb
      go_wp2
      refine bodyPost_ret (v := .agg #[.int .i64 RR, .slice a9 HS.length c9]) (by simp [results, Tryz.results51, go_sem, *]) rfl ?_
      refine ⟨a9, c9, rfl, ?_, ?_⟩
      · exact row_low (row_set (row_set O4.out Z4.out (by decide) _ _) (Z4.out.set_ 0 _) (by decide) _ _) (by omega)
      · exact (B4.out.setCell (by simp) _).setCell (by simp) _
    · go_wp2_with fail
      rw [← hw3.out]
      refine (HSF.out (by simp)).mono ?_
      rintro e w4 ⟨a9, c9, rfl, ho, hb⟩
      have Z4 := hide_it (Z3.out.after hb)
      have O4 := hide_it ho
      have B4 := hide_it (B3.out.trans (hb.mono B3.out.size))
      have hsn : w.heap.size + 2 ≤ w3.heap.size := by omega
      obtain ⟨z0, z1⟩ := Z4.out.cells2
      obtain ⟨zf0, zf1, -, -, -⟩ := Z4.out.free5
      clear ho hb
      go_wp2
      refine bodyPost_ret (v := .agg #[.int .i64 RR, .slice a9 HS.length c9]) (by simp [results, Tryz.results51, go_sem, *]) rfl ?_
      refine ⟨a9, c9, rfl, ?_, ?_⟩
      · exact row_low (row_set (row_set O4.out Z4.out (by decide) _ _) (Z4.out.set_ 0 _) (by decide) _ _) (by omega)
      · exact (B4.out.setCell (by simp) _).setCell (by simp) _

end Go.Proofs.YtkkkdgpbmmjieaaGreatDoor
