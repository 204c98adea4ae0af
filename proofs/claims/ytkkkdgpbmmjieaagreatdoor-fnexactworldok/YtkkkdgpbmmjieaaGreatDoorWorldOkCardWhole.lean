/- FnExactWorldOk answers true at every world, and it reads afterwards as it read before: at every argument WorldOk answers as its model. The card: the sentinel's variable starts as the program's text lays it. -/
import Derived.Test.YtkkkdgpbmmjieaaGreatDoorWorldOkCardPart7
import Derived.Deep.LoopGhost
import Derived.Deep.RegionHeld

namespace Go.Proofs.YtkkkdgpbmmjieaaGreatDoor
open Go.RowKit

def hOkAt (h : Hd) (i : Nat) : Bool := hoOk h.1 h.2.2.1 h.2.2.2.1 h.2.2.2.2 && decide (h.1 = (i : Int) + 1)
def hsOkK (hs : List Hd) (k : Nat) : Bool := (List.range k).all fun i => hOkAt (hs.getD i (0, false, 0, [], 0)) i
def nsOkK (ns : List Wd) (k : Nat) : Bool := (ns.take k).all fun p => Pl.wOk p.1 p.2.1 p.2.2.1 p.2.2.2
def hsOk (hs : List Hd) : Bool := decide (hs.length = 3) && hsOkK hs hs.length
def nsOk (ns : List Wd) : Bool := decide (ns.length ≤ 14) && nsOkK ns ns.length
def wdOk (up : Bool) (rs : List R) (f : Int) (ws : List Wd) (hs : List Hd) (ns : List Wd) : Bool := dkOk up rs f ws && hsOk hs && nsOk ns
theorem hsOkK_zero (hs : List Hd) : hsOkK hs 0 = true := rfl
theorem hsOkK_succ {hs : List Hd} {k : Nat} {h : Hd} (hk : hs[k]? = some h) : hsOkK hs (k + 1) = (hsOkK hs k && hOkAt h k) := by
  unfold hsOkK
  rw [List.range_succ, List.all_append]
  simp [List.getD_eq_getElem?_getD, hk]
theorem hsOkK_no {hs : List Hd} {k n : Nat} (hk : k ≤ n) (h : hsOkK hs k = false) : hsOkK hs n = false := by
  unfold hsOkK at *
  rw [List.all_eq_false] at *
  obtain ⟨x, hx, hy⟩ := h
  exact ⟨x, by simp at hx ⊢; omega, hy⟩
theorem nsOkK_zero (ns : List Wd) : nsOkK ns 0 = true := by simp [nsOkK]
theorem nsOkK_succ {ns : List Wd} {k : Nat} (hk : k < ns.length) : nsOkK ns (k + 1) = (nsOkK ns k && Pl.wOk (ns.getD k (0, 0, 0, 0)).1 (ns.getD k (0, 0, 0, 0)).2.1 (ns.getD k (0, 0, 0, 0)).2.2.1 (ns.getD k (0, 0, 0, 0)).2.2.2) := by
  unfold nsOkK
  rw [wtake ns k hk, List.all_append]
  simp
theorem nsOkK_no {ns : List Wd} {k n : Nat} (hk : k ≤ n) (h : nsOkK ns k = false) : nsOkK ns n = false := by
  unfold nsOkK at *
  rw [List.all_eq_false] at *
  obtain ⟨x, hx, hy⟩ := h
  exact ⟨x, (List.take_sublist_take_left hk).subset hx, hy⟩

/-- Where a word of a list lies. -/
theorem Words.at_ {w : World} {v : Value} {ns : List Wd} {i : Nat} (hv : Words w v ns) (hi : i < ns.length) : ∃ b off cap, v = .slice (some ⟨b, off, none⟩) ns.length cap ∧ w.cell? ⟨b, off + i * 4, none⟩ = some (.int .i64 (ns.getD i (0, 0, 0, 0)).1) ∧ w.cell? ⟨b, off + i * 4 + 1, none⟩ = some (.int .i64 (ns.getD i (0, 0, 0, 0)).2.1) ∧ w.cell? ⟨b, off + i * 4 + 2, none⟩ = some (.int .i64 (ns.getD i (0, 0, 0, 0)).2.2.1) ∧ w.cell? ⟨b, off + i * 4 + 3, none⟩ = some (.int .i64 (ns.getD i (0, 0, 0, 0)).2.2.2) := by
  rcases hv with ⟨rfl, _⟩ | ⟨b, off, cap, h1, _, h3⟩
  · simp at hi
  · exact ⟨b, off, cap, h1, h3 i hi⟩

set_option maxHeartbeats 4000000 in
theorem implNetsOk_any (v : Value) (ns : List Wd) (w : World) (hv : Words w v ns) (hl : ns.length ≤ 1048576) :
    Calls Tryz.prog 45 #[v] w fun e w' => e = .returned (.bool (nsOk ns)) ∧ Below w.heap.size w w' := by
  have HV : Hid (∀ W, Below w.heap.size w W → Words W v ns) := fun W h => hv.later h (Nat.le_refl _)
  obtain ⟨av, cv, rfl⟩ := hv.shape
  clear hv
  by_cases h14 : ns.length ≤ 14
  · have HE : Hid (nsOk ns = nsOkK ns ns.length) := by show _ = _; unfold nsOk; simp [h14]
    go_enter Tryz.func45, Tryz.ntmps45
    go_wp2
    go_loopw [10] (fun i wr => ∃ k : Nat, k ≤ ns.length ∧ i = .int .i64 k ∧ Hid (nsOkK ns k = true) ∧ Hid (Below w.heap.size w wr)) (fun i _ => ns.length - (intOf i).toNat)
    case atStart => exact ⟨0, Nat.zero_le _, rfl, nsOkK_zero ns, Below.refl _ _⟩
    case round =>
      obtain ⟨k, hk, rfl, HK, HB⟩ := hrel
      by_cases hlt : k < ns.length
      · obtain ⟨b, off, cap, hvv, c0, c1, c2, c3⟩ := (HV.out wr HB.out).at_ hlt
        simp only [Value.slice.injEq] at hvv
        obtain ⟨rfl, -, rfl⟩ := hvv
        have HS := hide_it (nsOkK_succ hlt)
        obtain ⟨p0, p1, p2, p3, hp⟩ : ∃ p0 p1 p2 p3, ns.getD k (0, 0, 0, 0) = (p0, p1, p2, p3) := ⟨_, _, _, _, rfl⟩
        rw [hp] at c0 c1 c2 c3 HS
        simp only at c0 c1 c2 c3 HS
        obtain ⟨bb, hbb⟩ : ∃ x, Pl.wOk p0 p1 p2 p3 = x := ⟨_, rfl⟩
        rw [hbb] at HS
        obtain ⟨w1, hw1⟩ : ∃ W, Hid (W = wr.alloc (.cells #[.int .i64 p0, .int .i64 p1, .int .i64 p2, .int .i64 p3] 82)) := ⟨_, rfl⟩
        have A1 : Hid (Below w.heap.size w w1) := by show Below _ _ _; rw [hw1.out]; exact HB.out.trans ((alloc_below _ _).mono HB.out.size)
        have HT := hide_it (implWordOk_any p0 p1 p2 p3 w1)
        rw [hbb] at HT
        clear hp hbb
        cases bb
        · have HF : Hid (nsOk ns = false) := by show _ = _; rw [HE.out]; exact nsOkK_no (k := k + 1) (by omega) (by rw [HS.out, Bool.and_false])
          go_wp2_with fail
          rw [← hw1.out]
          refine HT.out.mono ?_
          rintro e w2 ⟨rfl, hb2⟩
          have B2 := hide_it (A1.out.trans (hb2.mono A1.out.size))
          clear hb2
          go_wp2
          go_ret
          exact ⟨by rw [HF.out]; rfl, B2.out⟩
        · have HK2 : Hid (nsOkK ns (k + 1) = true) := by show _ = _; rw [HS.out, HK.out]; rfl
          go_wp2_with fail
          rw [← hw1.out]
          refine HT.out.mono ?_
          rintro e w2 ⟨rfl, hb2⟩
          have B2 := hide_it (A1.out.trans (hb2.mono A1.out.size))
          clear hb2
          go_wp2
          go_roundw
          case rel => exact ⟨k + 1, by omega, by go_num, HK2, B2⟩
          case measure => simp [intOf]; omega
      · have hke : k = ns.length := by omega
        subst hke
        have HF : Hid (nsOk ns = true) := HE.out.trans HK.out
        go_wp2
        go_ret
        exact ⟨by rw [HF.out]; rfl, HB.out⟩
  · have HE : Hid (nsOk ns = false) := by show _ = _; unfold nsOk; simp [h14]
    have h15 : (14 : Int) < (ns.length : Int) := by omega
    go_enter Tryz.func45, Tryz.ntmps45
    go_wp2
    go_ret
    exact ⟨by rw [HE.out]; rfl, Below.refl _ _⟩

set_option maxHeartbeats 4000000 in
theorem implHousesOk_any (v : Value) (hs : List Hd) (a : Addr) (w : World) (hv : Houses w v hs) (hl : htot hs ≤ 1048576) (ha : ErrAt w a) :
    Calls Tryz.prog 44 #[v] w fun e w' => e = .returned (.bool (hsOk hs)) ∧ Below w.heap.size w w' := by
  have HV : Hid (∀ W, Below w.heap.size w W → Houses W v hs) := fun W h => hv.later h (Nat.le_refl _)
  have HA : Hid (∀ W, Below w.heap.size w W → ErrAt W a) := fun W h => ha.later h (Nat.le_refl _)
  obtain ⟨av, cv, rfl⟩ := hv.shape
  clear hv ha
  by_cases h3 : hs.length = 3
  · have HE : Hid (hsOk hs = hsOkK hs hs.length) := by show _ = _; unfold hsOk; simp [h3]
    have h3b : ((hs.length : Int) == 3) = true := by simp; omega
    go_enter Tryz.func44, Tryz.ntmps44
    go_wp2
    have H3 := hide_it h3
    clear h3 h3b
    go_loopg [10] 3 (fun g i wr => ∃ k : Nat, k ≤ 3 ∧ g = 3 - k ∧ i = .int .i64 k ∧ Hid (hsOkK hs k = true) ∧ Hid (Below w.heap.size w wr))
    case atStart => exact ⟨0, Nat.zero_le _, rfl, rfl, hsOkK_zero hs, Below.refl _ _⟩
    case round =>
      obtain ⟨k, hk, rfl, rfl, HK, HB⟩ := hrel
      by_cases hlt3 : k < 3
      · have hlt : k < hs.length := by rw [H3.out]; exact hlt3
        obtain ⟨⟨id, up, room, rs, f⟩, hg⟩ : ∃ h, hs[k]? = some h := ⟨_, List.getElem?_eq_getElem hlt⟩
        obtain ⟨b, off, cap, u, hvv, c0, c1, c2, c3, c4, hR⟩ := (HV.out wr HB.out).at_ hg
        simp only [Value.slice.injEq] at hvv
        obtain ⟨rfl, -, rfl⟩ := hvv
        have hrl : tot rs ≤ 1048576 := Nat.le_trans (htot_mem hs _ (List.mem_of_getElem? hg)) hl
        have HS := hide_it (hsOkK_succ hg)
        obtain ⟨au, cu, rfl⟩ := hR.shape
        obtain ⟨w1, hw1⟩ : ∃ W, Hid (W = wr.alloc (.cells #[.int .i64 id, .bool up, .int .i64 room, .slice au rs.length cu, .int .i64 f] 79)) := ⟨_, rfl⟩
        have A0 : Hid (Below wr.heap.size wr w1) := by show Below _ _ _; rw [hw1.out]; exact alloc_below _ _
        have A1 : Hid (Below w.heap.size w w1) := HB.out.trans (A0.out.mono HB.out.size)
        have HT := hide_it (implHouseOk_any id up room (.slice au rs.length cu) rs f a w1 (hR.later A0.out (Nat.le_refl _)) hrl (HA.out _ A1.out))
        clear hR hg
        by_cases hid : id = (k : Int) + 1
        · obtain ⟨bb, hbb⟩ : ∃ x, hoOk id room rs f = x := ⟨_, rfl⟩
          have HS2 : Hid (hsOkK hs (k + 1) = bb) := by show _ = _; rw [HS.out, HK.out]; unfold hOkAt; simp only; rw [hbb]; simp [hid]
          rw [hbb] at HT
          clear hbb
          have hidb : (id != (k : Int) + 1) = false := by simpa using hid
          have HC : Hid (bb = true → hsOkK hs (k + 1) = true) := fun e => HS2.out.trans e
          have HD : Hid (bb = false → hsOk hs = false) := fun e => by rw [HE.out]; exact hsOkK_no (k := k + 1) hlt (HS2.out.trans e)
          clear hid HS2
          cases bb
          · have HF := hide_it (HD.out rfl)
            go_wp2_with fail
            rw [← hw1.out]
            refine HT.out.mono ?_
            rintro e w2 ⟨rfl, hb2⟩
            have B2 := hide_it (A1.out.trans (hb2.mono A1.out.size))
            clear hb2
            go_wp2
            go_ret
            exact ⟨by rw [HF.out]; rfl, B2.out⟩
          · have HK2 := hide_it (HC.out rfl)
            go_wp2_with fail
            rw [← hw1.out]
            refine HT.out.mono ?_
            rintro e w2 ⟨rfl, hb2⟩
            have B2 := hide_it (A1.out.trans (hb2.mono A1.out.size))
            clear hb2
            go_wp2
            go_roundg (3 - (k + 1))
            case measure => omega
            case rel => exact ⟨k + 1, by omega, rfl, by go_num, HK2, B2⟩
        · have HF : Hid (hsOk hs = false) := by show _ = _; rw [HE.out]; exact hsOkK_no (k := k + 1) hlt (by rw [HS.out]; unfold hOkAt; simp only; simp [hid])
          have hidb : (id != (k : Int) + 1) = true := by simpa using hid
          clear hid HT
          go_wp2
          go_ret
          rw [← hw1.out]
          exact ⟨by rw [HF.out]; rfl, A1.out⟩
      · have hke : k = 3 := by omega
        subst hke
        have HF : Hid (hsOk hs = true) := HE.out.trans (by rw [H3.out]; exact HK.out)
        go_wp2
        go_ret
        exact ⟨by rw [HF.out]; rfl, HB.out⟩
  · have HE : Hid (hsOk hs = false) := by show _ = _; unfold hsOk; simp [h3]
    have h3b : ((hs.length : Int) == 3) = false := by simp; omega
    go_enter Tryz.func44, Tryz.ntmps44
    go_wp2
    go_ret
    exact ⟨by rw [HE.out]; rfl, Below.refl _ _⟩

set_option maxHeartbeats 4000000 in
theorem specWorldOk_any (up : Bool) (v u hv nv : Value) (rs : List R) (f : Int) (ws : List Wd) (hs : List Hd) (ns : List Wd) (w : World) (hw : WdAt w v u hv nv rs ws hs ns) (hfu : Form u ws.length) (hl : wdTot rs ws hs ns ≤ 1048576) :
    Calls Tryz.prog 8 #[worldV up v f u hv nv] w fun e w' => e = .returned (.bool (wdOk up rs f ws hs ns)) ∧ Below w.heap.size w w' := by
  have hl1 : tot rs ≤ 1048576 := by unfold wdTot at hl; omega
  have hl2 : ws.length ≤ 1048576 := by unfold wdTot at hl; omega
  have hl3 : htot hs ≤ 1048576 := by unfold wdTot at hl; omega
  have hl4 : ns.length ≤ 1048576 := by unfold wdTot at hl; omega
  have HW : Hid (∀ W, Below w.heap.size w W → WdAt W v u hv nv rs ws hs ns) := fun W h => hw.later h (Nat.le_refl _)
  have HDK : Hid (∀ W, Below w.heap.size w W → Calls Tryz.prog 37 #[deskV up v f u] W fun e w' => e = .returned (.bool (dkOk up rs f ws)) ∧ Below W.heap.size W w') := fun W h =>
    specDeskOk_any up v u rs f ws W (HW.out W h).1 hl1 hl2 hfu
  obtain ⟨av, cv, au, cu, ah, ch, an, cn, rfl, rfl, rfl, rfl⟩ := hw.shape
  have hlh := htot_len hs
  clear hw hl hfu
  obtain ⟨w0, hw0⟩ : ∃ W, Hid (W = w.alloc (.cells #[.bool up, .slice av rs.length cv, .int .i64 f, .slice au ws.length cu, .slice ah hs.length ch, .slice an ns.length cn] 41)) := ⟨_, rfl⟩
  have B0 : Hid (Below w.heap.size w w0) := by show Below _ _ _; rw [hw0.out]; exact alloc_below _ _
  have X0 : Hid (Blk w0 w.heap.size #[.bool up, .slice av rs.length cv, .int .i64 f, .slice au ws.length cu, .slice ah hs.length ch, .slice an ns.length cn] 41) := by show Blk _ _ _ _; rw [hw0.out]; exact Blk.new _ _ _
  have HD := hide_it (HDK.out w0 B0.out)
  cases hok : dkOk up rs f ws
  · have HE : Hid (wdOk up rs f ws hs ns = false) := by show _ = _; unfold wdOk; rw [hok]; rfl
    rw [hok] at HD
    clear hok
    go_enter Tryz.func8, Tryz.ntmps8
    go_wp2_with fail
    rw [← hw0.out]
    refine HD.out.mono ?_
    rintro e w1 ⟨rfl, hb⟩
    have B1 := hide_it (B0.out.trans (hb.mono B0.out.size))
    clear hb
    go_wp2
    go_ret
    exact ⟨by rw [HE.out]; rfl, B1.out⟩
  rw [hok] at HD
  have HE : Hid (wdOk up rs f ws hs ns = (hsOk hs && nsOk ns)) := by show _ = _; unfold wdOk; rw [hok]; rfl
  clear hok
  go_enter Tryz.func8, Tryz.ntmps8
  go_wp2_with fail
  rw [← hw0.out]
  refine HD.out.mono ?_
  rintro e w1 ⟨rfl, hb⟩
  have X1 := hide_it (X0.out.after hb)
  have B1 := hide_it (B0.out.trans (hb.mono B0.out.size))
  clear hb
  obtain ⟨x0, x1, x2, x3, x4, x5⟩ := X1.out.cells6
  by_cases h3 : hs.length = 3
  · have h3b : ((hs.length : Int) != 3) = false := by simp; omega
    by_cases h14 : ns.length ≤ 14
    · have h14b : ¬ (14 : Int) < (ns.length : Int) := by omega
      have HE1 : Hid (hsOk hs = hsOkK hs hs.length) := by show _ = _; unfold hsOk; simp [h3]
      have HE2 : Hid (nsOk ns = nsOkK ns ns.length) := by show _ = _; unfold nsOk; simp [h14]
      have H3 := hide_it h3
      go_wp2
      clear x0 x1 x2 x3 x4 x5 h3 h3b
      go_loopg [3] hs.length (fun g i wr => ∃ k : Nat, k ≤ hs.length ∧ g = hs.length - k ∧ i = .int .i64 k ∧ Hid (hsOkK hs k = true) ∧ Hid (Below w1.heap.size w1 wr))
      case atStart => exact ⟨0, Nat.zero_le _, rfl, rfl, hsOkK_zero hs, Below.refl _ _⟩
      case round =>
        obtain ⟨k, hk, rfl, rfl, HK, HB⟩ := hrel
        have X2 := hide_it (X1.out.after HB.out)
        have B2 := hide_it (B1.out.trans (HB.out.mono B1.out.size))
        obtain ⟨x0, x1, x2, x3, x4, x5⟩ := X2.out.cells6
        by_cases hlt : k < hs.length
        · obtain ⟨⟨id, up', room, rs', f'⟩, hg⟩ : ∃ h, hs[k]? = some h := ⟨_, List.getElem?_eq_getElem hlt⟩
          obtain ⟨b, off, cap, u', hvv, hcx⟩ := (HW.out wr B2.out).2.1.at_ hg
          simp only [Value.slice.injEq] at hvv
          obtain ⟨rfl, -, rfl⟩ := hvv
          have CX := hide_it hcx
          obtain ⟨c0, c1, c2, c3, c4, hR⟩ := hcx
          have hrl : tot rs' ≤ 1048576 := Nat.le_trans (htot_mem hs _ (List.mem_of_getElem? hg)) hl3
          have HS := hide_it (hsOkK_succ hg)
          have HG := hide_it hg
          have HT := hide_it (specHouseOk_any id up' room u' rs' f' wr hR hrl)
          obtain ⟨au', cu', rfl⟩ := hR.shape
          clear hR hg
          obtain ⟨bb, hbb⟩ : ∃ x, hoOk id room rs' f' = x := ⟨_, rfl⟩
          rw [hbb] at HT
          have HV : Hid (hsOkK hs (k + 1) = (bb && decide (id = (k : Int) + 1))) := by show _ = _; rw [HS.out, HK.out]; unfold hOkAt; simp only; rw [hbb]; simp
          have HN : Hid (hsOkK hs (k + 1) = false → wdOk up rs f ws hs ns = false) := fun e => by rw [HE.out, HE1.out, hsOkK_no (k := k + 1) (by omega) e]; rfl
          clear hbb HS
          cases bb
          · have HF := hide_it (HN.out HV.out)
            go_wp2_with fail
            refine HT.out.mono ?_
            rintro e w2 ⟨rfl, hb2⟩
            have B3 := hide_it (B2.out.trans (hb2.mono B2.out.size))
            clear hb2
            go_wp2
            go_ret
            exact ⟨by rw [HF.out]; rfl, B3.out⟩
          · go_wp2_with fail
            refine HT.out.mono ?_
            rintro e w2 ⟨rfl, hb2⟩
            have B3 := hide_it (B2.out.trans (hb2.mono B2.out.size))
            have L3 := hide_it (HB.out.trans (hb2.mono HB.out.size))
            have X3 := hide_it (X2.out.after hb2)
            clear x0 x1 x2 x3 x4 x5 c0 c1 c2 c3 c4
            obtain ⟨x0, x1, x2, x3, x4, x5⟩ := X3.out.cells6
            obtain ⟨c0, c1, c2, c3, c4, hR⟩ := CX.out.later hb2 (Nat.le_refl _)
            clear hR hb2
            by_cases hid : id = (k : Int) + 1
            · have hidb : (id != (k : Int) + 1) = false := by simpa using hid
              have HK2 : Hid (hsOkK hs (k + 1) = true) := by show _ = _; rw [HV.out]; simp [hid]
              clear hid
              go_wp2
              go_roundg (hs.length - (k + 1))
              case measure => omega
              case rel => exact ⟨k + 1, by omega, rfl, by go_num, HK2, L3⟩
            · have hidb : (id != (k : Int) + 1) = true := by simpa using hid
              have HF := hide_it (HN.out (by rw [HV.out]; simp [hid]))
              clear hid
              go_wp2
              go_ret
              exact ⟨by rw [HF.out]; rfl, B3.out⟩
        · have hke : k = hs.length := by omega
          subst hke
          have HF1 : Hid (hsOk hs = true) := HE1.out.trans HK.out
          have HNT : Hid (nsOk ns = false → wdOk up rs f ws hs ns = false) := fun e => by rw [HE.out, e, Bool.and_false]
          have HYT : Hid (nsOk ns = true → wdOk up rs f ws hs ns = true) := fun e => by rw [HE.out, HF1.out, e]; rfl
          go_wp2
          clear x0 x1 x2 x3 x4 x5
          rename World => w3
          go_loopg [4] ns.length (fun g i wr => ∃ k : Nat, k ≤ ns.length ∧ g = ns.length - k ∧ i = .int .i64 k ∧ Hid (nsOkK ns k = true) ∧ Hid (Below w3.heap.size w3 wr))
          case atStart => exact ⟨0, Nat.zero_le _, rfl, rfl, nsOkK_zero ns, Below.refl _ _⟩
          case round =>
            obtain ⟨k, hk, rfl, rfl, HK3, HB3⟩ := hrel
            rename World => wq
            have X4 := hide_it (X2.out.after HB3.out)
            have B4 := hide_it (B2.out.trans (HB3.out.mono B2.out.size))
            obtain ⟨x0, x1, x2, x3, x4, x5⟩ := X4.out.cells6
            by_cases hlt : k < ns.length
            · obtain ⟨b, off, cap, hvv, c0, c1, c2, c3⟩ := (HW.out wq B4.out).2.2.at_ hlt
              simp only [Value.slice.injEq] at hvv
              obtain ⟨rfl, -, rfl⟩ := hvv
              have HS := hide_it (nsOkK_succ hlt)
              obtain ⟨p0, p1, p2, p3, hp⟩ : ∃ p0 p1 p2 p3, ns.getD k (0, 0, 0, 0) = (p0, p1, p2, p3) := ⟨_, _, _, _, rfl⟩
              rw [hp] at c0 c1 c2 c3 HS
              simp only at c0 c1 c2 c3 HS
              obtain ⟨bb, hbb⟩ : ∃ x, Pl.wOk p0 p1 p2 p3 = x := ⟨_, rfl⟩
              rw [hbb] at HS
              have HT := hide_it (specWordOk_any p0 p1 p2 p3 wq)
              rw [hbb] at HT
              clear hp hbb
              cases bb
              · have HF := hide_it (HNT.out (by rw [HE2.out]; exact nsOkK_no (k := k + 1) (by omega) (by rw [HS.out, Bool.and_false])))
                go_wp2_with fail
                refine HT.out.mono ?_
                rintro e w4 ⟨rfl, hb4⟩
                have B5 := hide_it (B4.out.trans (hb4.mono B4.out.size))
                clear hb4
                go_wp2
                go_ret
                exact ⟨by rw [HF.out]; rfl, B5.out⟩
              · have HK4 : Hid (nsOkK ns (k + 1) = true) := by show _ = _; rw [HS.out, HK3.out]; rfl
                go_wp2_with fail
                refine HT.out.mono ?_
                rintro e w4 ⟨rfl, hb4⟩
                have L5 := hide_it (HB3.out.trans (hb4.mono HB3.out.size))
                clear hb4
                go_wp2
                go_roundg (ns.length - (k + 1))
                case measure => omega
                case rel => exact ⟨k + 1, by omega, rfl, by go_num, HK4, L5⟩
            · have hke : k = ns.length := by omega
              subst hke
              have HF := hide_it (HYT.out (HE2.out.trans HK3.out))
              go_wp2
              go_ret
              exact ⟨by rw [HF.out]; rfl, B4.out⟩
    · have HF : Hid (wdOk up rs f ws hs ns = false) := by show _ = _; rw [HE.out]; unfold nsOk; simp [h14]
      have h14b : (14 : Int) < (ns.length : Int) := by omega
      go_wp2
      go_ret
      exact ⟨by rw [HF.out]; rfl, B1.out⟩
  · have HF : Hid (wdOk up rs f ws hs ns = false) := by show _ = _; rw [HE.out]; unfold hsOk; simp [h3]
    have h3b : ((hs.length : Int) != 3) = true := by simp; omega
    go_wp2
    go_ret
    exact ⟨by rw [HF.out]; rfl, B1.out⟩

set_option maxHeartbeats 4000000 in
theorem implWorldOk_any (up : Bool) (v u hv nv : Value) (rs : List R) (f : Int) (ws : List Wd) (hs : List Hd) (ns : List Wd) (a : Addr) (w : World) (hw : WdAt w v u hv nv rs ws hs ns) (hfv : Form v rs.length) (hl : wdTot rs ws hs ns ≤ 1048576) (ha : ErrAt w a) :
    Calls Tryz.prog 10 #[worldV up v f u hv nv] w fun e w' => e = .returned (.bool (wdOk up rs f ws hs ns)) ∧ Below w.heap.size w w' := by
  have hl1 : tot rs ≤ 1048576 := by unfold wdTot at hl; omega
  have hl2 : ws.length ≤ 1048576 := by unfold wdTot at hl; omega
  have hl3 : htot hs ≤ 1048576 := by unfold wdTot at hl; omega
  have hl4 : ns.length ≤ 1048576 := by unfold wdTot at hl; omega
  have HW : Hid (∀ W, Below w.heap.size w W → WdAt W v u hv nv rs ws hs ns) := fun W h => hw.later h (Nat.le_refl _)
  have HA : Hid (∀ W, Below w.heap.size w W → ErrAt W a) := fun W h => ha.later h (Nat.le_refl _)
  have HDK : Hid (∀ W, Below w.heap.size w W → Calls Tryz.prog 43 #[deskV up v f u] W fun e w' => e = .returned (.bool (dkOk up rs f ws)) ∧ Below W.heap.size W w') := fun W h =>
    implDeskOk_any up v u rs f ws a W (HW.out W h).1 hl1 hl2 hfv (HA.out W h)
  have HHS : Hid (∀ W, Below w.heap.size w W → Calls Tryz.prog 44 #[hv] W fun e w' => e = .returned (.bool (hsOk hs)) ∧ Below W.heap.size W w') := fun W h =>
    implHousesOk_any hv hs a W (HW.out W h).2.1 hl3 (HA.out W h)
  have HNS : Hid (∀ W, Below w.heap.size w W → Calls Tryz.prog 45 #[nv] W fun e w' => e = .returned (.bool (nsOk ns)) ∧ Below W.heap.size W w') := fun W h =>
    implNetsOk_any nv ns W (HW.out W h).2.2 hl4
  obtain ⟨av, cv, au, cu, ah, ch, an, cn, rfl, rfl, rfl, rfl⟩ := hw.shape
  clear hw hl hfv ha
  obtain ⟨w0, hw0⟩ : ∃ W, Hid (W = w.alloc (.cells #[.bool up, .slice av rs.length cv, .int .i64 f, .slice au ws.length cu, .slice ah hs.length ch, .slice an ns.length cn] 41)) := ⟨_, rfl⟩
  have B0 : Hid (Below w.heap.size w w0) := by show Below _ _ _; rw [hw0.out]; exact alloc_below _ _
  have X0 : Hid (Blk w0 w.heap.size #[.bool up, .slice av rs.length cv, .int .i64 f, .slice au ws.length cu, .slice ah hs.length ch, .slice an ns.length cn] 41) := by show Blk _ _ _ _; rw [hw0.out]; exact Blk.new _ _ _
  have HD := hide_it (HDK.out w0 B0.out)
  obtain ⟨DD, hDD⟩ : ∃ x, dkOk up rs f ws = x := ⟨_, rfl⟩
  obtain ⟨HH, hHH⟩ : ∃ x, hsOk hs = x := ⟨_, rfl⟩
  obtain ⟨NN, hNN⟩ : ∃ x, nsOk ns = x := ⟨_, rfl⟩
  have HE : Hid (wdOk up rs f ws hs ns = (DD && HH && NN)) := by show _ = _; unfold wdOk; rw [hDD, hHH, hNN]
  rw [hDD] at HD
  rw [hHH] at HHS
  rw [hNN] at HNS
  clear hDD hHH hNN
  go_enter Tryz.func10, Tryz.ntmps10
  go_wp2_with fail
  rw [← hw0.out]
  refine HD.out.mono ?_
  rintro e w1 ⟨rfl, hb⟩
  have X1 := hide_it (X0.out.after hb)
  have B1 := hide_it (B0.out.trans (hb.mono B0.out.size))
  clear hb HD
  cases DD
  · have HF : Hid (wdOk up rs f ws hs ns = false) := HE.out
    go_wp2
    go_ret
    exact ⟨by rw [HF.out]; rfl, B1.out⟩
  obtain ⟨x0, x1, x2, x3, x4, x5⟩ := X1.out.cells6
  have HH1 := hide_it (HHS.out w1 B1.out)
  go_wp2_with fail
  refine HH1.out.mono ?_
  rintro e w2 ⟨rfl, hb⟩
  have X2 := hide_it (X1.out.after hb)
  have B2 := hide_it (B1.out.trans (hb.mono B1.out.size))
  clear hb HH1 x0 x1 x2 x3 x4 x5
  cases HH
  · have HF : Hid (wdOk up rs f ws hs ns = false) := HE.out
    go_wp2
    go_ret
    exact ⟨by rw [HF.out]; rfl, B2.out⟩
  obtain ⟨x0, x1, x2, x3, x4, x5⟩ := X2.out.cells6
  have HN1 := hide_it (HNS.out w2 B2.out)
  have HF : Hid (wdOk up rs f ws hs ns = NN) := by show _ = _; rw [HE.out]; rfl
  go_wp2_with fail
  refine HN1.out.mono ?_
  rintro e w3 ⟨rfl, hb⟩
  have B3 := hide_it (B2.out.trans (hb.mono B2.out.size))
  clear hb HN1 x0 x1 x2 x3 x4 x5
  go_wp2
  go_ret
  exact ⟨by rw [HF.out]; rfl, B3.out⟩

end Go.Proofs.YtkkkdgpbmmjieaaGreatDoor

namespace Go.Proofs.YtkkkdgpbmmjieaaGreatDoor
open Go.RowKit

/-- The lists of a world, and the forms of its desk's. -/
def WdIn (w : World) (v u hv nv : Value) (rs : List R) (ws : List Wd) (hs : List Hd) (ns : List Wd) : Prop := WdAt w v u hv nv rs ws hs ns ∧ Form v rs.length ∧ Form u ws.length
theorem WdIn.later {B : Nat} {w w' : World} {v u hv nv : Value} {rs : List R} {ws : List Wd} {hs : List Hd} {ns : List Wd} (h : WdIn w v u hv nv rs ws hs ns) (hb : Below B w w') (hB : w.heap.size ≤ B) : WdIn w' v u hv nv rs ws hs ns := ⟨h.1.later hb hB, h.2⟩
theorem wd_in {w : World} {lo hi lo2 lo3 : Nat} {v u hv nv : Value} {ps : List (R × Value)} {hps : List (Hd × Value)} {rs : List R} {ws : List Wd} {hs : List Hd} {ns : List Wd} (hp : ps.map (·.1) = rs) (hd : DkOwn w lo hi v u ps ws) (hq : hps.map (·.1) = hs) (hh : HMade w lo2 hv hps) (hn : w.ownsRow lo3 82 4 nv ns.length (wflat ns)) : WdIn w v u hv nv rs ws hs ns := by
  have h1 := hd.in_ hp
  have h2 := hh.houses
  rw [hq] at h2
  exact ⟨⟨h1.1, h2, words_of_row hn⟩, h1.2⟩

set_option maxHeartbeats 1000000 in
theorem lawWOk_great (up : Bool) (v u hv nv : Value) (rs : List R) (f : Int) (ws : List Wd) (hs : List Hd) (ns : List Wd) (w : World) (hv' : WdAt w v u hv nv rs ws hs ns) (hf : WdFit rs ws hs ns) (hg : 1048576 < ((wdTot rs ws hs ns : Nat) : Int)) :
    Calls Tryz.prog 3 #[worldV up v f u hv nv] w fun e w' => e = .returned (.bool true) ∧ Below w.heap.size w w' := by
  have HS : Hid (∀ o, Calls Tryz.prog 7 #[worldV up v f u hv nv, .int .i64 1048576] (w.alloc o) fun e w' => e = .returned (.int .i64 (-1)) ∧ Below (w.alloc o).heap.size (w.alloc o) w') := fun o => by
    have := szWorld_any up v u hv nv rs f ws hs ns 1048576 (w.alloc o) (hv'.later (alloc_below w o) (Nat.le_refl _)) hf (by omega) (by omega)
    rw [leftOf_neg (by omega)] at this
    exact this
  obtain ⟨av, cv, au, cu, ah, ch, an, cn, rfl, rfl, rfl, rfl⟩ := hv'.shape
  clear hv' hf hg
  go_enter Tryz.func3, Tryz.ntmps3
  go_wp2_with (go_at_call 7; refine (HS.out _).mono ?_; rintro e w1 ⟨rfl, hb⟩)
  go_ret
  exact ⟨rfl, below_after (by assumption)⟩

set_option maxHeartbeats 8000000 in
theorem lawWOk_small (up : Bool) (v u hv nv : Value) (rs : List R) (f : Int) (ws : List Wd) (hs : List Hd) (ns : List Wd) (a : Addr) (w : World) (hv' : WdAt w v u hv nv rs ws hs ns) (hf : WdFit rs ws hs ns) (ha : ErrAt w a) (hlt : wdTot rs ws hs ns ≤ 1048576) :
    Calls Tryz.prog 3 #[worldV up v f u hv nv] w fun e w' => e = .returned (.bool true) ∧ Below w.heap.size w w' := by
  have HS : Hid (∀ o, Calls Tryz.prog 7 #[worldV up v f u hv nv, .int .i64 1048576] (w.alloc o) fun e w' => e = .returned (.int .i64 (1048576 - ((wdTot rs ws hs ns : Nat) : Int))) ∧ Below (w.alloc o).heap.size (w.alloc o) w') := fun o => by
    have := szWorld_any up v u hv nv rs f ws hs ns 1048576 (w.alloc o) (hv'.later (alloc_below w o) (Nat.le_refl _)) hf (by omega) (by omega)
    rw [leftOf_pos (by omega)] at this
    exact this
  have HL := hide_it hlt
  obtain ⟨TT, hTT⟩ : ∃ x, wdTot rs ws hs ns = x := ⟨_, rfl⟩
  rw [hTT] at HS hlt
  clear hTT
  have HV : Hid (∀ W, Below w.heap.size w W → WdAt W v u hv nv rs ws hs ns) := fun W h => hv'.later h (Nat.le_refl _)
  have HA : Hid (∀ W, Below w.heap.size w W → ErrAt W a) := fun W h => ha.later h (Nat.le_refl _)
  obtain ⟨av, cv, au, cu, ah, ch, an, cn, h1, h2, h3, h4⟩ := hv'.shape
  have H0 : Hid (Blk (w.alloc (.cells #[.bool up, v, .int .i64 f, u, hv, nv] 30)) w.heap.size #[.bool up, v, .int .i64 f, u, hv, nv] 30) := Blk.new _ _ _
  clear hv' ha hf
  subst h1 h2 h3 h4
  obtain ⟨BB, hBB⟩ : ∃ b, Hid (wdOk up rs f ws hs ns = b) := ⟨_, rfl⟩
  have HTO : Hid (∀ W, Below w.heap.size w W → Calls Tryz.prog 9 #[worldV up (.slice av rs.length cv) f (.slice au ws.length cu) (.slice ah hs.length ch) (.slice an ns.length cn)] W fun e w' => ∃ a1 c1 a2 c2 a3 c3 a4 c4, e = .returned (worldV up (.slice a1 rs.length c1) f (.slice a2 ws.length c2) (.slice a3 hs.length c3) (.slice a4 ns.length c4)) ∧ WdIn w' (.slice a1 rs.length c1) (.slice a2 ws.length c2) (.slice a3 hs.length c3) (.slice a4 ns.length c4) rs ws hs ns ∧ Below W.heap.size W w') := fun W h =>
    (toWorld_any up _ _ _ _ rs f ws hs ns W (HV.out W h) HL.out).mono fun e w' ⟨a1, c1, a2, c2, a3, c3, a4, c4, ps, hps, he, hp, hd, hq, hh, hn, hb⟩ => ⟨a1, c1, a2, c2, a3, c3, a4, c4, he, wd_in hp hd hq hh hn, hb⟩
  have HSP : Hid (∀ (x y z t : Value) (W : World), WdIn W x y z t rs ws hs ns → Calls Tryz.prog 8 #[worldV up x f y z t] W fun e w' => e = .returned (.bool BB) ∧ Below W.heap.size W w') := fun x y z t W h => by
    have := specWorldOk_any up x y z t rs f ws hs ns W h.1 h.2.2 HL.out; rw [hBB.out] at this; exact this
  have HIM : Hid (∀ (x y z t : Value) (W : World), WdIn W x y z t rs ws hs ns → ErrAt W a → Calls Tryz.prog 10 #[worldV up x f y z t] W fun e w' => e = .returned (.bool BB) ∧ Below W.heap.size W w') := fun x y z t W h h2 => by
    have := implWorldOk_any up x y z t rs f ws hs ns a W h.1 h.2.1 HL.out h2; rw [hBB.out] at this; exact this
  go_enter Tryz.func3, Tryz.ntmps3
  -- how great it is
  go_wp2_with fail
  refine (HS.out _).mono ?_
  rintro e w1 ⟨rfl, hb1⟩
  have B1 := hide_it (below_after hb1)
  have T1 := hide_it (H0.out.after hb1)
  have hz1 : w.heap.size ≤ w1.heap.size := B1.out.size
  clear hb1
  obtain ⟨x0, x1, x2, x3, x4, x5⟩ := T1.out.cells6
  -- w0
  go_wp2_with fail
  refine (HTO.out w1 B1.out).mono ?_
  rintro e w2 ⟨q1, r1, q2, r2, q3, r3, q4, r4, rfl, hi2, hb2⟩
  have B2 := hide_it (B1.out.trans (hb2.mono hz1))
  have T2 := hide_it (T1.out.after hb2)
  have V2 := hide_it hi2
  have hz2 : w.heap.size ≤ w2.heap.size := B2.out.size
  clear hb2 hi2 x0 x1 x2 x3 x4 x5
  go_wp2_with fail
  refine (HSP.out _ _ _ _ w2 V2.out).mono ?_
  rintro e w3 ⟨rfl, hb3⟩
  have B3 := hide_it (B2.out.trans (hb3.mono hz2))
  have T3 := hide_it (T2.out.after hb3)
  have hz3 : w.heap.size ≤ w3.heap.size := B3.out.size
  clear hb3 V2
  obtain ⟨x0, x1, x2, x3, x4, x5⟩ := T3.out.cells6
  go_wp2_with fail
  refine (HTO.out w3 B3.out).mono ?_
  rintro e w4 ⟨a1, c1, a2, c2, a3, c3, a4, c4, rfl, hi4, hb4⟩
  have B4 := hide_it (B3.out.trans (hb4.mono hz3))
  have T4 := hide_it (T3.out.after hb4)
  have V4 := hide_it hi4
  have hz4 : w.heap.size ≤ w4.heap.size := B4.out.size
  clear hb4 hi4 x0 x1 x2 x3 x4 x5
  obtain ⟨w5, hw5⟩ : ∃ W, Hid (W = w4.alloc (.cells #[.bool up, .slice a1 rs.length c1, .int .i64 f, .slice a2 ws.length c2, .slice a3 hs.length c3, .slice a4 ns.length c4] 41)) := ⟨_, rfl⟩
  have al5 := hide_it (show Below w4.heap.size w4 w5 by rw [hw5.out]; exact alloc_below _ _)
  have B5 := hide_it (B4.out.trans (al5.out.mono hz4))
  have T5 := hide_it (T4.out.after al5.out)
  have V5 := hide_it (V4.out.later al5.out (Nat.le_refl _))
  have X5 : Hid (Blk w5 w4.heap.size #[.bool up, .slice a1 rs.length c1, .int .i64 f, .slice a2 ws.length c2, .slice a3 hs.length c3, .slice a4 ns.length c4] 41) := by show Blk _ _ _ _; rw [hw5.out]; exact Blk.new _ _ _
  go_wp2_with fail
  rw [← hw5.out]
  refine (HIM.out _ _ _ _ w5 V5.out (HA.out _ B5.out)).mono ?_
  rintro e w9 ⟨rfl, hb9⟩
  have B9 := hide_it (B5.out.trans (hb9.mono B5.out.size))
  have T9 := hide_it (T5.out.after hb9)
  have X9 := hide_it (X5.out.after hb9)
  have R9x := hide_it (V5.out.1.later hb9 (Nat.le_refl _))
  clear hb9
  obtain ⟨c0, c1', c2', c3', c4', c5'⟩ := T9.out.cells6
  obtain ⟨x0, x1, x2, x3, x4, x5⟩ := X9.out.cells6
  cases BB
  all_goals
    go_wp2_with fail
    go_region_held (fun w' => (w'.cell? ⟨w4.heap.size, 0, none⟩ = some (.bool up) ∧ w'.cell? ⟨w4.heap.size, 1, none⟩ = some (.slice a1 rs.length c1) ∧ w'.cell? ⟨w4.heap.size, 2, none⟩ = some (.int .i64 f) ∧ w'.cell? ⟨w4.heap.size, 3, none⟩ = some (.slice a2 ws.length c2) ∧ w'.cell? ⟨w4.heap.size, 4, none⟩ = some (.slice a3 hs.length c3) ∧ w'.cell? ⟨w4.heap.size, 5, none⟩ = some (.slice a4 ns.length c4)) ∧ (w'.cell? ⟨w.heap.size, 0, none⟩ = some (.bool up) ∧ w'.cell? ⟨w.heap.size, 1, none⟩ = some (.slice av rs.length cv) ∧ w'.cell? ⟨w.heap.size, 2, none⟩ = some (.int .i64 f) ∧ w'.cell? ⟨w.heap.size, 3, none⟩ = some (.slice au ws.length cu) ∧ w'.cell? ⟨w.heap.size, 4, none⟩ = some (.slice ah hs.length ch) ∧ w'.cell? ⟨w.heap.size, 5, none⟩ = some (.slice an ns.length cn))) (go_keep)
      (first
      | (go_at_call 9; refine (HTO.out _ ?_).mono ?_; exact B9.out.drew; rintro e w10 ⟨b1, d1, b2, d2, b3, d3, b4, d4, rfl, hi10, hb10⟩; have hb10' := (Below.refl w9.heap.size w9).drew.trans hb10; have L10 := hide_it hb10'; have y10 := R9x.out.later hb10' (Nat.le_refl _); have v10 := hi10.1; obtain ⟨x100, x101, x102, x103, x104, x105⟩ := (X9.out.after hb10').cells6; obtain ⟨c100, c101, c102, c103, c104, c105⟩ := (T9.out.after hb10').cells6; clear hb10 hb10' hi10)
      | (go_at_call 11; refine (eqWorld_any up _ _ _ _ _ _ _ _ rs f ws hs ns _ ?_ ?_ HL.out).mono ?_; assumption; assumption; rintro e w11 ⟨rfl, hb11⟩; have L11 := hide_it (L10.out.trans (hb11.mono L10.out.size)); obtain ⟨x110, x111, x112, x113, x114, x115⟩ := (X9.out.after L11.out).cells6; obtain ⟨c110, c111, c112, c113, c114, c115⟩ := (T9.out.after L11.out).cells6; clear hb11))
    go_wp2
    go_ret
    exact ⟨rfl, B9.out.trans (L11.out.mono B9.out.size)⟩

theorem lawWOk_any (up : Bool) (v u hv nv : Value) (rs : List R) (f : Int) (ws : List Wd) (hs : List Hd) (ns : List Wd) (a : Addr) (w : World) (hv' : WdAt w v u hv nv rs ws hs ns) (hf : WdFit rs ws hs ns) (ha : ErrAt w a) :
    Calls Tryz.prog 3 #[worldV up v f u hv nv] w fun e w' => e = .returned (.bool true) ∧ Below w.heap.size w w' := by
  by_cases hl : wdTot rs ws hs ns ≤ 1048576
  · exact lawWOk_small up v u hv nv rs f ws hs ns a w hv' hf ha hl
  · exact lawWOk_great up v u hv nv rs f ws hs ns w hv' hf (by omega)

end Go.Proofs.YtkkkdgpbmmjieaaGreatDoor

namespace Go.Proofs.YtkkkdgpbmmjieaaGreatDoor
open Go.ChangeShapes Go.WideShapes Go.ChangeAt Go.WideMaps Go.WideElems Go.RowKit Go.Joins

set_option maxRecDepth 100000 in
theorem worldOk_lifted (os : Os) (started : os.Started) (H : Type) (enc : TypeId × Value → H) :
    ReturnsInHanded {} Tryz.checked os 3 .any (fun w args => (Rows.fnExactWorldOkSpec.pre enc Tryz.prog Tryz.f3 [] false w args ∧ laidMetH Tryz.prog laidErr w) ∧ sizedMet enc Tryz.prog Tryz.f3 (OpenSpec.ofChange Rows.fnExactWorldOkSpec) false w args)
      (Rows.fnExactWorldOkSpec.post enc Tryz.prog Tryz.f3 false true false false) := by
  refine returnsInHanded_of_change_and (C := Tryz.checked) (X := fun w _ => laidMetH Tryz.prog laidErr w) (fun _ _ _ hh h => h.of_heap hh) own started (by kernel_rfl) Tryz.func3
    (ChangeSpec.witness_shaped (enc := enc) (C := Tryz.checked) (os := os) (X := fun w _ => laidMetH Tryz.prog laidErr w) false (World.doorLaid Tryz.prog 28 os) #[worldV false (.slice none 0 0) 0 (.slice none 0 0) (.slice none 0 0) (.slice none 0 0)] 8 rfl (World.shaped_of_RefB (by kernel_rfl) (by kernel_rfl)) (by kernel_rfl) (by kernel_rfl) (by kernel_rfl) (door_met os _)) ?_
  intro W base args ds gs before hval0 hW _ _ hL _
  have hval : ∀ (j : Nat) t v, Tryz.f3.params[j]? = some t → args[j]? = some v → Value.okWide Tryz.prog W .any base t v := hval0
  have hW' := hW
  obtain ⟨p, q, hA0, hV0, rfl, hfz, hnd⟩ := hW
  have hA : DataW.TrodAll enc Tryz.prog W 0 (fun _ => true) true Tryz.f3.params.toList args.toList ds p := hA0
  have hV : DataW.TrodVars enc Tryz.prog W (fun _ => true) ["loop.example/concierge/impl.errNoRec"] gs q := hV0
  rw [Tryz.params3] at hA hval
  obtain ⟨v0, d0, rfl, rfl, h0⟩ := trodAll_one hA
  obtain ⟨a, hErr, hvar⟩ := of_laid hL
  have vr : ∀ {X : World}, X.var? Tryz.prog "loop.example/concierge/impl.errNoRec" = some #[.iface 283 (.pointer (some a))] → ∀ sp : Nat → Bool,
      DataW.TrodVars enc Tryz.prog X sp ["loop.example/concierge/impl.errNoRec"] [tok enc (.iface 283 (.pointer (some a)))] [.cell 0 0] :=
    fun x0 sp => vars_read1 enc gErr gErrType Tryz.underlying220 x0 trivial sp
  obtain ⟨rfl, rfl⟩ := hV.unique (vr hvar _)
  clear hA0 hV0 hval0
  obtain ⟨up, x, f, y, z, t, rs, ws, hs, ns, rfl, hR, hF⟩ := open_world (hval 0 30 v0 rfl rfl) h0
  refine (lawWOk_any up x y z t rs f ws hs ns a W hR hF hErr).mono fun e W' ⟨he, hb⟩ => ?_
  subst he
  have hlt : ∀ x ∈ p, x.block < W.heap.size := fun x hx => hW'.lt x (by simp [hx])
  refine ⟨_, rfl, _, _, _, [], p, [.cell 0 0], hW', ?_, ?_, ?_, hb.frame _, fun h => by cases h⟩
  · exact trodAll_mk1 (shut_bool Tryz.underlying4 true)
  · exact trodAll_mk1 (Below.trod laidOut (by kernel_rfl) (of_decide_eq_true (by kernel_rfl)) h0 hb hlt)
  · exact vr (var?_below hb gErr (World.block_lt_of_cell? _ _ hErr) hvar) _

theorem worldOk_said : Rows.FnExactWorldOkSaid :=
  OpenClaim.holds_of_wide 3 Tryz.f3 rfl rfl rfl rfl rfl rfl rfl ⟨rfl, rfl, rfl, rfl, rfl⟩ rfl rfl rfl rfl rfl (by kernel_rfl) Tryz.func3 (by kernel_rfl)
    (of_decide_eq_true (by kernel_rfl)) (by unfold Func.isWrapper; first | (rw [if_pos (by decide +kernel)]; kernel_rfl) | (rw [if_neg (by decide +kernel)]; exact ⟨rfl, rfl⟩))
    (fun os started H enc _ => worldOk_lifted os started H enc)

theorem worldOk_plain (f : FuncId) (fn : Func) (hf : Tryz.pinned.checked.prog.funcNamed "loop.example/concierge/laws.FnExactWorldOk" = some f) (hfn : Tryz.pinned.checked.prog.funcs[f]? = some fn) :
    true = Tryz.pinned.checked.prog.looks [] ∧ ∀ (j : Nat) t, fn.params[j]? = some t → Tryz.pinned.checked.prog.wantsStandIn t = false := by
  obtain rfl : f = 3 := Option.some.inj ((show Tryz.prog.funcNamed "loop.example/concierge/laws.FnExactWorldOk" = some 3 by kernel_rfl).symm.trans hf) |>.symm
  obtain rfl : fn = Tryz.f3 := (Option.some.inj (Tryz.func3.symm.trans hfn)).symm
  refine ⟨by kernel_rfl, fun j t ht => ?_⟩
  rw [Tryz.params3] at ht
  obtain rfl : t = 30 := by simpa using Array.mem_of_getElem? ht
  exact (show Tryz.prog.wantsStandIn 30 = false by kernel_rfl)

theorem worldOk_card : Rows.FnExactWorldOkCardSaid :=
  Claim7.holds_tied_plain_at .later [] _ _ _ _ worldOk_said (fun _ h => by cases h) (by kernel_rfl) (fun _ h => by cases h) fnExactWorldOk_row_tie rfl ⟨rfl, rfl⟩ (by kernel_rfl) rfl worldOk_plain (by kernel_rfl)
#print axioms worldOk_card

end Go.Proofs.YtkkkdgpbmmjieaaGreatDoor
