/- FnExactWorldHolds answers true at every world and every trip, and the world reads afterwards as it read before: at every argument WorldHolds answers as its model. The card: the sentinel's variable starts as the program's text lays it. -/
import Derived.Test.YtkkkdgpbmmjieaaGreatDoorWorldHoldsCardPart8
import Derived.Deep.LoopGhost
import Derived.Deep.RegionHeld

namespace Go.Proofs.YtkkkdgpbmmjieaaGreatDoor
open Go.RowKit

set_option maxRecDepth 100000 in
set_option maxHeartbeats 4000000 in
theorem implWHolds_any (up : Bool) (v u hv nv : Value) (rs : List R) (f : Int) (ws : List Wd) (hs : List Hd) (ns : List Wd) (trip : Int) (a : Addr) (w : World) (hw : WdAt w v u hv nv rs ws hs ns) (hfv : Form v rs.length) (hf : HF w hv hs) (hl : wdTot rs ws hs ns ≤ 1048576) (ha : ErrAt w a) :
    Calls Tryz.prog 13 #[worldV up v f u hv nv, .int .i64 trip] w fun e w' => WhOut w w' e (whO up rs f ws hs ns trip) := by
  have HW : Hid (∀ W, Below w.heap.size w W → Calls Tryz.prog 10 #[worldV up v f u hv nv] W fun e w' => e = .returned (.bool (wdOk up rs f ws hs ns)) ∧ Below W.heap.size W w') := fun W h =>
    implWorldOk_any up v u hv nv rs f ws hs ns a W (hw.later h (Nat.le_refl _)) hfv hl (ha.later h (Nat.le_refl _))
  have HH : Hid (∀ W, Below w.heap.size w W → HF W hv hs) := fun W h => hf.later h (Nat.le_refl _)
  have HA : Hid (∀ W, Below w.heap.size w W → ErrAt W a) := fun W h => ha.later h (Nat.le_refl _)
  obtain ⟨a1, c1, a2, c2, a3, c3, a4, c4, rfl, rfl, rfl, rfl⟩ := hw.shape
  clear hw hf ha
  obtain ⟨w0, hw0⟩ : ∃ W, Hid (W = w.alloc (.cells #[.bool up, .slice a1 rs.length c1, .int .i64 f, .slice a2 ws.length c2, .slice a3 hs.length c3, .slice a4 ns.length c4] 41)) := ⟨_, rfl⟩
  have B0 : Hid (Below w.heap.size w w0) := by show Below _ _ _; rw [hw0.out]; exact alloc_below _ _
  have A0 : Hid (Blk w0 w.heap.size #[.bool up, .slice a1 rs.length c1, .int .i64 f, .slice a2 ws.length c2, .slice a3 hs.length c3, .slice a4 ns.length c4] 41) := by show Blk _ _ _ _; rw [hw0.out]; exact Blk.new _ _ _
  go_enter Tryz.func13, Tryz.ntmps13
  go_wp2_with fail
  rw [← hw0.out]
  obtain ⟨OK, hOK⟩ : ∃ b, wdOk up rs f ws hs ns = b := ⟨_, rfl⟩
  rw [hOK] at HW
  have HOKK := hide_it hOK
  clear hOK
  refine (HW.out _ B0.out).mono ?_
  rintro e w1 ⟨rfl, hb1⟩
  have B1 := hide_it (B0.out.trans (hb1.mono B0.out.size))
  have A1 := hide_it (A0.out.after hb1)
  clear hb1
  cases OK
  · have HO : Hid (whO up rs f ws hs ns trip = []) := by show _ = _; unfold whO whB; rw [HOKK.out]; rfl
    go_wp2
    go_ret
    rw [HO.out]
    exact ⟨none, 0, rfl, World.ownsRow_nil _ _ _ _, B1.out⟩
  · obtain ⟨IN, hIN⟩ : ∃ b, Pl.inB trip 1 6 = b := ⟨_, rfl⟩
    have HINN := hide_it hIN
    clear hIN
    cases IN
    · have HO : Hid (whO up rs f ws hs ns trip = []) := by show _ = _; unfold whO whB; rw [HINN.out, Bool.and_false]; rfl
      by_cases h1 : trip < 1
      · go_wp2
        go_ret
        rw [HO.out]
        exact ⟨none, 0, rfl, World.ownsRow_nil _ _ _ _, B1.out⟩
      · have h2 : 6 < trip := by have := HINN.out; simp [Pl.inB] at this; omega
        go_wp2
        go_ret
        rw [HO.out]
        exact ⟨none, 0, rfl, World.ownsRow_nil _ _ _ _, B1.out⟩
    · have HO : Hid (whO up rs f ws hs ns trip = hs.map (whH trip)) := by show _ = _; unfold whO whB; rw [HINN.out, HOKK.out]; rfl
      have ht : 1 ≤ trip ∧ trip ≤ 6 := by have := HINN.out; simpa [Pl.inB] using this
      obtain ⟨M, rfl⟩ : ∃ M : Nat, trip = (M : Int) + 1 := ⟨(trip - 1).toNat, by omega⟩
      have hM : M < 6 := by omega
      have hL1 : w.heap.size + 1 ≤ w1.heap.size := A1.out.lt
      have hlt0 : htot hs ≤ 1048576 := by unfold wdTot at hl; omega
      have hlen := htot_len hs
      have HT : Hid (∀ (k : Nat) (x : Hd), hs[k]? = some x → tot x.2.2.2.1 ≤ 1048576) := fun k x hx => Nat.le_trans (htot_mem hs x (List.mem_of_getElem? hx)) hlt0
      have hn : hs.length ≤ 1048576 := by omega
      clear ht hlt0 hlen hl
      obtain ⟨i0, hi, hz0, hz1, hz2⟩ := info_parts infoHold
      obtain ⟨x0, x1, x2, x3, x4, x5⟩ := A1.out.cells6
      have t1 : ¬ (M : Int) + 1 < 1 := by omega
      have t2 : ¬ 6 < (M : Int) + 1 := by omega
      go_wp2_with fail
      clear x0 x1 x2 x3 x4 x5 t1 t2
      go_loopg [5, 22] hs.length (fun gg o i wr => ∃ (k : Nat) (ao : Option Addr) (co : Nat), k ≤ hs.length ∧ gg = hs.length - k ∧ i = .int .i64 k ∧ o = .slice ao k co ∧ Hid (wr.ownsRow (w.heap.size + 1) 93 2 (.slice ao k co) k (hflat ((hs.take k).map (whH ((M : Int) + 1))))) ∧ Hid (Below (w.heap.size + 1) w1 wr))
      case atStart => exact ⟨0, _, _, Nat.zero_le _, rfl, rfl, rfl, World.ownsRow_nil _ _ _ _, Below.refl _ _⟩
      case round =>
        obtain ⟨k, ao, co, hk, rfl, rfl, rfl, HR, HB⟩ := hrel
        have B3 := hide_it (B1.out.trans (HB.out.mono (by omega)))
        have A3 := hide_it (A1.out.later HB.out (Nat.lt_succ_self _))
        have hsr : w.heap.size + 1 ≤ wr.heap.size := by have := HB.out.size; omega
        by_cases hlt : k < hs.length
        · obtain ⟨⟨id, hup, room, rr, hf⟩, hg⟩ : ∃ h, hs[k]? = some h := ⟨_, List.getElem?_eq_getElem hlt⟩
          obtain ⟨b, off, cap, hvv, hcell⟩ := HH.out wr B3.out
          simp only [Value.slice.injEq] at hvv
          obtain ⟨rfl, -, rfl⟩ := hvv
          obtain ⟨u, ⟨c0, c1', c2', c3', c4', hR⟩, hfm⟩ := hcell k _ hg
          have hok := wd_houses HOKK.out hg
          obtain ⟨lf0, lf1, -⟩ := logOk_f (hoOk_parts hok).2.1
          obtain ⟨S, hS⟩ := Option.isSome_iff_exists.1 (hoOk_parts hok).2.2
          have h6 := (Pl.sOf_ok hS).2
          have hcut : cutR rr hf false = rr := by simp [cutR]
          obtain ⟨w3, hw3⟩ : ∃ W, Hid (W = wr.alloc (.cells #[.int .i64 id, .bool hup, .int .i64 room, u, .int .i64 hf] 79)) := ⟨_, rfl⟩
          have al3 : Below wr.heap.size wr w3 := by rw [hw3.out]; exact alloc_below _ _
          have B3' := hide_it (B3.out.trans (al3.mono (by omega)))
          have HST := hide_it (implHStock_any id hup room u rr hf false a w3 (hR.later al3 (Nat.le_refl _)) hfm (HT.out k _ hg) (HA.out _ B3'.out))
          have hso : hsO id room rr hf false = some S := by unfold hsO; rw [hok, if_pos rfl, hcut]; exact hS
          rw [hso] at HST
          have HR3 := hide_it (ownsRow_below HR.out al3 (fun j hj => (HR.out.lt j hj).2))
          have HB3 := hide_it (HB.out.trans (al3.mono hsr))
          have hsr3 : w.heap.size + 1 ≤ w3.heap.size := by have := HB3.out.size; omega
          clear al3 hso
          have HWH : Hid (whH ((M : Int) + 1) (id, hup, room, rr, hf) = S.getD M (0, 0)) := by
            show _ = _
            unfold whH hsO
            rw [show hoOk (id, hup, room, rr, hf).1 (id, hup, room, rr, hf).2.2.1 (id, hup, room, rr, hf).2.2.2.1 (id, hup, room, rr, hf).2.2.2.2 = true from hok, if_pos rfl, show cutR (id, hup, room, rr, hf).2.2.2.1 (id, hup, room, rr, hf).2.2.2.2 false = rr from hcut, show Pl.sOf (id, hup, room, rr, hf).2.2.1 rr = some S from hS, show ((M : Int) + 1 - 1).toNat = M by omega]
            rfl
          obtain ⟨au, cu, rfl⟩ := hR.shape
          have HG := hide_it hg
          have HST6 : Hid (Calls Tryz.prog 51 #[houseV id hup room (.slice au rr.length cu) hf, .bool false] w3 fun e w' => ∃ sa cs, e = .returned (.agg #[.int .i64 room, .slice (some ⟨sa, 0, none⟩) 6 cs]) ∧ w'.ownsRow w3.heap.size 93 2 (.slice (some ⟨sa, 0, none⟩) 6 cs) 6 (hflat S) ∧ Below w3.heap.size w3 w') := HST.out.mono (fun e w' h => by
            obtain ⟨ao', cap', h1, ho, hb⟩ := h
            rw [show oH (some S) = S from rfl, h6] at ho
            rw [show oH (some S) = S from rfl, show oR room (some S) = room from rfl, h6] at h1
            rcases ho.2 with ⟨_, h0⟩ | ⟨g, cp, cur, hv', _⟩
            · exact absurd h0 (by decide)
            · rw [hv'] at h1 ho; exact ⟨g, cp, h1, ho, hb⟩)
          have H6 := hide_it h6
          clear HST hcell hR hfm hok lf0 lf1 hcut hS h6 hg
          go_wp2_with fail
          rw [← hw3.out]
          refine HST6.out.mono ?_
          rintro e w4 ⟨sa, cs, rfl, hrow, hb4⟩
          have hg2 := hflat_get S M (by have := H6.out; omega)
          obtain ⟨p, hp⟩ : ∃ p, S.getD M (0, 0) = p := ⟨_, rfl⟩
          rw [hp] at hg2 HWH
          have z0 : w4.cell? ⟨sa, M * 2, none⟩ = some (.int .i64 p.1) := by rw [hrow.cellAt _ (by omega)]; exact hg2.1
          have z1 : w4.cell? ⟨sa, M * 2 + 1, none⟩ = some (.int .i64 p.2) := by rw [hrow.cellAt _ (by omega)]; exact hg2.2
          have R4 := hide_it (ownsRow_below HR3.out hb4 (fun j hj => (HR3.out.lt j hj).2))
          have L4 := hide_it (HB3.out.trans (hb4.mono hsr3))
          have hs4 : w.heap.size + 1 ≤ w4.heap.size := by have := L4.out.size; omega
          clear hg2 hp hrow hb4 c0 c1' c2' c3' c4'
          have ROW : Hid (∀ o, (w4.alloc o).ownsRow (w.heap.size + 1) 93 2 (.slice ao k co) k (hflat ((hs.take k).map (whH ((M : Int) + 1))))) := fun o => R4.out.alloc _
          have hfl := field_stk room (some ⟨sa, 0, none⟩) 6 cs w4
          have hM6 : (M : Int) < 6 := by omega
          go_wp2_with (at_builtin; refine wpList_append_own _ rfl _ _ 45 rfl (w.heap.size + 1) 93 i0 (.agg #[.int .i64 0, .int .i64 0]) 2 16 Tryz.underlying45 hi hz0 hz1 hz2 rfl (by decide) (.slice ao k co) k (hflat ((hs.take k).map (whH ((M : Int) + 1)))) rfl (ROW.out _) ⟨w4.heap.size, 0, none⟩ 1 1 [.int .i64 p.1, .int .i64 p.2] rfl rfl ?c1 ?c2 ?c3 ?c4 ?c5 ?_)
          case c1 =>
            intro j x hj
            match j, hj with
            | 0, hj => simp at hj; subst hj; simp [Addr.add]
            | 1, hj => simp at hj; subst hj; simp [Addr.add]
          case c2 => intro x hx; simp at hx; rcases hx with rfl | rfl <;> rfl
          case c3 => unfold maxLen; omega
          case c4 => omega
          case c5 => simp; omega
          intro v' w6 hown hgrow _
          have hmap : (hs.take (k + 1)).map (whH ((M : Int) + 1)) = (hs.take k).map (whH ((M : Int) + 1)) ++ [p] := by
            rw [List.take_succ_eq_append_getElem hlt, List.map_append]
            have := HG.out
            rw [List.getElem?_eq_getElem hlt] at this
            simp only [Option.some.injEq] at this
            rw [this, List.map_cons, HWH.out]
            rfl
          have hown2 : w6.ownsRow (w.heap.size + 1) 93 2 v' (k + 1) (hflat ((hs.take (k + 1)).map (whH ((M : Int) + 1)))) := by
            rw [hmap, hflat_append]; simpa [hflat] using hown
          obtain ⟨a6, c6, rfl⟩ := row_shape hown2
          have L6 : Hid (Below (w.heap.size + 1) w1 w6) := (L4.out.alloc hs4 _).grown hgrow (by simp; omega) (fun j hj => ((ROW.out (.cells #[.int .i64 p.1, .int .i64 p.2] 93)).lt j hj).1)
          have P6 := hide_it hown2
          clear hown hown2 hgrow hmap z0 z1
          go_wp2
          go_roundg (hs.length - (k + 1))
          case measure => omega
          case rel => exact ⟨k + 1, a6, c6, by omega, rfl, by go_num, rfl, P6, L6⟩
        · have hke : k = hs.length := by omega
          have HO2 : Hid (whO up rs f ws hs ns ((M : Int) + 1) = (hs.take k).map (whH ((M : Int) + 1))) := by show _ = _; rw [HO.out, hke, List.take_length]
          have hlk : ((hs.take k).map (whH ((M : Int) + 1))).length = k := by simp; omega
          have HLK := hide_it hlk
          clear hlk
          go_wp2
          go_ret
          rw [HO2.out]
          refine ⟨ao, co, by rw [HLK.out]; rfl, ?_, B3.out⟩
          rw [HLK.out]
          exact ownsRow_base HR.out (by omega)

end Go.Proofs.YtkkkdgpbmmjieaaGreatDoor

namespace Go.Proofs.YtkkkdgpbmmjieaaGreatDoor
open Go.RowKit

theorem kAt_bdw (rs : List R) (k : Int) (i : Nat) (hi : i ≤ rs.length) (h : tot rs ≤ 1048576) (hk : 0 ≤ k) (hk1 : k ≤ 100000000) : 0 ≤ kAt rs k i ∧ kAt rs k i ≤ 900000000 := by
  have := pre_le rs i
  unfold kAt tot at *; omega

set_option maxHeartbeats 2000000 in
theorem markRecsW_any (v : Value) (ps : List (R × Value)) (k : Int) (lo hi : Nat) (w : World) (ho : OwnRecs w lo hi v ps) (hl : tot (ps.map (·.1)) ≤ 1048576) (hk0 : 0 ≤ k) (hk1 : k ≤ 100000000) :
    Calls Tryz.prog 86 #[v, .int .i64 k] w fun e w' => e = .returned (.int .i64 (kAt (ps.map (·.1)) k ps.length)) ∧ OwnRecs w' lo hi v (stg ps k ps.length) ∧ Mid lo hi w w' := by
  have hlen := tot_len (ps.map (·.1))
  rw [List.length_map] at hlen
  by_cases h0 : ps.length = 0
  · obtain rfl : ps = [] := List.length_eq_zero_iff.1 h0
    have HO : Hid (OwnRecs w lo hi v (stg [] k 0)) := by show OwnRecs _ _ _ _ _; rw [stg_zero]; exact ho
    obtain ⟨ao, cap, rfl⟩ := row_shape ho.1
    clear ho
    go_enter Tryz.func86, Tryz.ntmps86
    go_wp2
    refine wp_loop_rounds 1 ?_
    rw [rounds_succ]
    go_wp2
    go_ret
    exact ⟨by simp [kAt, pre], HO.out, Mid.refl _ _ _⟩
  obtain ⟨g, cap, rfl⟩ : ∃ g cap, v = .slice (some ⟨g, 0, none⟩) ps.length cap := by
    rcases ho.1.2 with ⟨_, hn0⟩ | ⟨g, cap, cur, h, _⟩
    · exact absurd hn0 h0
    · exact ⟨g, cap, h⟩
  have H0 : Hid (OwnRecs w lo hi (.slice (some ⟨g, 0, none⟩) ps.length cap) (stg ps k 0)) := by show OwnRecs _ _ _ _ _; rw [stg_zero]; exact ho
  clear ho
  go_enter Tryz.func86, Tryz.ntmps86
  go_wp2
  go_loopw [1, 5] (fun q i wr => ∃ (j : Nat) (K : Int), j ≤ ps.length ∧ i = .int .i64 j ∧ q = .int .i64 K ∧ Hid (K = kAt (ps.map (·.1)) k j) ∧ Hid (OwnRecs wr lo hi (.slice (some ⟨g, 0, none⟩) ps.length cap) (stg ps k j)) ∧ Hid (Mid lo hi w wr)) (fun _ i _ => ps.length - (intOf i).toNat)
  case atStart => exact ⟨0, k, Nat.zero_le _, rfl, rfl, (kAt_zero _ _).symm, H0, Mid.refl _ _ _⟩
  case round =>
    obtain ⟨j, K, hj, rfl, rfl, HK, HO, HM⟩ := hrel
    have hKb : 0 ≤ K ∧ K ≤ 900000000 := by rw [HK.out]; exact kAt_bdw _ k j (by rw [List.length_map]; exact hj) hl hk0 hk1
    by_cases hlt : j < ps.length
    · obtain ⟨p, hp⟩ : ∃ p, Hid (ps[j]? = some p) := ⟨ps[j], by show _ = _; simp [hlt]⟩
      have HS : Hid ((stg ps k j)[j]? = some (p.1, p.2)) := by
        have := stg_get ps k j j p hp.out
        rw [if_neg (by omega)] at this
        exact this
      have HPM : Hid ((ps.map (·.1))[j]? = some p.1) := by show _ = _; rw [List.getElem?_map, hp.out]; rfl
      have hpl : p.1.2.2.length ≤ 1048576 := Nat.le_trans (tot_mem _ _ (List.mem_of_getElem? HPM.out)) hl
      have row := HO.out.1
      rw [stg_length] at row
      obtain ⟨f0, f1, f2⟩ := flat_get _ j _ HS.out
      have c0 : wr.cell? ⟨g, j * 3, none⟩ = some (.int .i64 p.1.1) := by rw [row.cellAt _ (by omega)]; exact f0
      have c1 : wr.cell? ⟨g, j * 3 + 1, none⟩ = some (.int .i64 p.1.2.1) := by rw [row.cellAt _ (by omega)]; exact f1
      have c2 : wr.cell? ⟨g, j * 3 + 2, none⟩ = some p.2 := by rw [row.cellAt _ (by omega)]; exact f2
      have z0 := row.frozenAt (j * 3)
      have z1 := row.frozenAt (j * 3 + 1)
      clear row f0 f1 f2
      go_wp2_with fail
      have INN := hide_it (mark_inner HS.out HO.out (stg_length ps k j) (j * 3) (j * 3 + 1) (.int .i64 K) (.int .i64 (K + 1)))
      refine (markInts_any p.2 _ (K + 1 + 1) lo p.1.2.2.length _ INN.out hpl (by omega) (by omega)).mono ?_
      rintro e w3 ⟨rfl, hown3, hg3⟩
      have ST := mark_step (r := markR p.1 K) (w3 := w3) HS.out HO.out (stg_length ps k j) rfl (by
        show World.ownsRow _ _ _ _ _ (markI p.1.2.2.length (K + 2)).length ((markI p.1.2.2.length (K + 2)).map (Value.int .i64))
        rw [markI_length, show K + 2 = K + 1 + 1 by omega]; exact hown3) hg3
      have HO3 : Hid (OwnRecs w3 lo hi (.slice (some ⟨g, 0, none⟩) ps.length cap) (stg ps k (j + 1))) := by
        show OwnRecs _ _ _ _ _
        rw [stg_succ ps k j p hp.out, ← HK.out]; exact ST.1
      have HM3 : Hid (Mid lo hi w w3) := HM.out.trans ST.2
      have HK3 : Hid (K + 1 + 1 + p.1.2.2.length = kAt (ps.map (·.1)) k (j + 1)) := by
        show _ = _
        rw [kAt_succ _ k j p.1 HPM.out, ← HK.out]; omega
      clear ST hown3 hg3
      go_wp2
      go_roundw
      case rel => exact ⟨j + 1, _, by omega, by go_num, rfl, HK3, HO3, HM3⟩
      case measure => simp [intOf]; omega
    · have HJ : Hid (j = ps.length) := by show _ = _; omega
      have HO2 : Hid (OwnRecs wr lo hi (.slice (some ⟨g, 0, none⟩) ps.length cap) (stg ps k ps.length)) := by
        have := HO.out; rw [HJ.out] at this; exact this
      have HK2 : Hid (kAt (ps.map (·.1)) k ps.length = K) := by show _ = _; rw [HK.out, HJ.out]
      go_wp2
      go_ret
      exact ⟨by rw [HK2.out]; rfl, HO2.out, HM.out⟩


theorem own_lower {w : World} {lo lo' hi : Nat} {v : Value} {ps : List (R × Value)} (h : OwnRecs w lo hi v ps) (hl : lo' ≤ lo) : OwnRecs w lo' hi v ps :=
  ⟨ownsRow_base h.1 hl, h.2.1, h.2.2.1, fun p hp => ⟨ownsRow_base (h.2.2.2.1 p hp).1 hl, (h.2.2.2.1 p hp).2⟩, h.2.2.2.2⟩
/-- Each house's records lie in an interval of their own, the intervals one behind another. -/
def HIn (w : World) : Nat → Nat → List (Hd × Value) → Prop
  | lo, hi, [] => lo ≤ hi
  | lo, hi, p :: t => ∃ m, lo ≤ m ∧ (∃ us : List (R × Value), us.map (·.1) = p.1.2.2.2.1 ∧ OwnRecs w lo m p.2 us) ∧ HIn w m hi t
theorem HIn.le {w : World} : ∀ {ps : List (Hd × Value)} {lo hi : Nat}, HIn w lo hi ps → lo ≤ hi
  | [], _, _, h => h
  | _ :: _, _, _, ⟨_, h1, _, h3⟩ => Nat.le_trans h1 h3.le
theorem HIn.snoc {w : World} {p : Hd × Value} {hi' : Nat} : ∀ {ps : List (Hd × Value)} {lo hi : Nat}, HIn w lo hi ps → hi ≤ hi' → (∃ us : List (R × Value), us.map (·.1) = p.1.2.2.2.1 ∧ OwnRecs w hi hi' p.2 us) → HIn w lo hi' (ps ++ [p])
  | [], _, _, h, h1, ⟨us, hu, ho⟩ => ⟨_, Nat.le_trans h h1, ⟨us, hu, own_lower ho h⟩, Nat.le_refl _⟩
  | _ :: _, _, _, ⟨m, h2, h3, h4⟩, h1, hp => ⟨m, h2, h3, h4.snoc h1 hp⟩
theorem HIn.below {w w' : World} {B : Nat} (hb : Below B w w') : ∀ {ps : List (Hd × Value)} {lo hi : Nat}, HIn w lo hi ps → hi ≤ B → HIn w' lo hi ps
  | [], _, _, h, _ => h
  | _ :: _, _, _, ⟨m, h2, ⟨us, hu, ho⟩, h4⟩, hB => ⟨m, h2, ⟨us, hu, ho.below hb (Nat.le_trans h4.le hB)⟩, HIn.below hb h4 hB⟩
theorem HIn.keptH {w w' : World} (hk : Kept [79] w w') : ∀ {ps : List (Hd × Value)} {lo hi : Nat}, HIn w lo hi ps → HIn w' lo hi ps
  | [], _, _, h => h
  | _ :: _, _, _, ⟨m, h2, ⟨us, hu, ho⟩, h4⟩ => ⟨m, h2, ⟨us, hu, hk.own ho (by decide) (by decide)⟩, HIn.keptH hk h4⟩
theorem HIn.mid {w w' : World} {l h : Nat} (hb : Mid l h w w') : ∀ {ps : List (Hd × Value)} {lo hi : Nat}, HIn w lo hi ps → h ≤ lo → HIn w' lo hi ps
  | [], _, _, k, _ => k
  | _ :: _, _, _, ⟨m, h2, ⟨us, hu, ho⟩, h4⟩, hB => ⟨m, h2, ⟨us, hu, ho.mid hb hB⟩, HIn.mid hb h4 (Nat.le_trans hB h2)⟩

set_option maxHeartbeats 4000000 in
theorem toHousesI_any (v : Value) (hs : List Hd) (w : World) (hv : Houses w v hs) (hl : htot hs ≤ 1048576) :
    Calls Tryz.prog 41 #[v] w fun e w' => e = .returned (.slice (some ⟨w.heap.size, 0, none⟩) hs.length hs.length) ∧
      (∃ ps, ps.map (·.1) = hs ∧ w'.ownsRow w.heap.size 79 5 (.slice (some ⟨w.heap.size, 0, none⟩) hs.length hs.length) ps.length (hoflat ps) ∧ HIn w' (w.heap.size + 1) w'.heap.size ps) ∧ Below w.heap.size w w' := by
  obtain ⟨i0, hi, hz0, hz1, hz2⟩ := info_parts infoHouse
  have hlen := htot_len hs
  have hbytes : i0.bytes * hs.length ≤ 281474976710656 := by rw [hz2]; omega
  have hmax : hs.length ≤ maxLen := by unfold maxLen; omega
  have HV : Hid (∀ W, Below w.heap.size w W → Houses W v hs) := fun W h => hv.later h (Nat.le_refl _)
  have HM : Hid (∀ h ∈ hs, tot h.2.2.2.1 ≤ 1048576) := fun h hh => Nat.le_trans (htot_mem hs h hh) hl
  obtain ⟨av, cv, rfl⟩ := hv.shape
  clear hv
  go_enter Tryz.func41, Tryz.ntmps41
  go_wp2_with (at_make; refine wpList_make_full _ rfl _ _ 39 rfl w.heap.size 79 i0 (.agg #[.int .i64 0, .bool false, .int .i64 0, .slice none 0 0, .int .i64 0]) 5 Tryz.underlying39 hi hz0 hz1 .i64 .i64 _ _ hs.length rfl rfl rfl rfl hbytes hmax (Nat.le_refl _) ?_; intro w1 hown hgrow)
  have hown0 : Hid (w1.ownsRow w.heap.size 79 5 (.slice (some ⟨w.heap.size, 0, none⟩) hs.length hs.length) hs.length (hoflat ([] ++ List.replicate (hs.length - 0) zeroHo))) := by
    have := made_five hs.length
    rw [show (Value.agg #[.int .i64 0, .bool false, .int .i64 0, .slice none 0 0, .int .i64 0]).cells = #[.int .i64 0, .bool false, .int .i64 0, .slice none 0 0, .int .i64 0] from rfl, this] at hown
    exact hown
  have hw1 : w.heap.size + 1 ≤ w1.heap.size := (hown0.out.lt w.heap.size rfl).2
  have hbel : Below w.heap.size w w1 := (Below.refl _ _).grown hgrow (Nat.le_refl _) (fun k h => by cases h)
  clear hown hgrow
  go_loopw [4] (fun i wr => ∃ (k : Nat) (ps : List (Hd × Value)), k ≤ hs.length ∧ i = .int .i64 k ∧ Hid (ps.map (·.1) = hs.take k) ∧ Hid (wr.ownsRow w.heap.size 79 5 (.slice (some ⟨w.heap.size, 0, none⟩) hs.length hs.length) hs.length (hoflat (ps ++ List.replicate (hs.length - k) zeroHo))) ∧ Hid (HIn wr (w.heap.size + 1) wr.heap.size ps) ∧ Hid (Below w.heap.size w wr)) (fun i _ => hs.length - (intOf i).toNat)
  case atStart => exact ⟨0, [], Nat.zero_le _, rfl, rfl, hown0, hw1, hbel⟩
  case round =>
    obtain ⟨k, ps, hk, rfl, HP, HO, HI, HB⟩ := hrel
    have HPL : Hid (ps.length = k) := by
      have := congrArg List.length HP.out
      simp at this
      show _ = _; omega
    by_cases hlt : k < hs.length
    · obtain ⟨⟨id, up, room, rs, f⟩, hg⟩ : ∃ h, hs[k]? = some h := ⟨_, List.getElem?_eq_getElem hlt⟩
      obtain ⟨b, off, cap, u, hvv, c0, c1, c2, c3, c4, hR⟩ := (HV.out wr HB.out).at_ hg
      simp only [Value.slice.injEq] at hvv
      obtain ⟨rfl, -, rfl⟩ := hvv
      have HT := hide_it (toHouse_any id up room u rs f wr hR (HM.out _ (List.mem_of_getElem? hg)))
      obtain ⟨au, cu, rfl⟩ := hR.shape
      have HG := hide_it hg
      have hws : w.heap.size < wr.heap.size := (HO.out.lt w.heap.size rfl).2
      clear hR hg
      go_wp2_with fail
      refine HT.out.mono ?_
      rintro e w2 ⟨ao, cp, rfl, hm, hb2⟩
      have HO2 := hide_it (ownsRow_below HO.out hb2 (fun j hj => by simp [Value.ownBlock] at hj; omega))
      have HB2 : Hid (Below w.heap.size w w2) := HB.out.trans (hb2.mono HB.out.size)
      have HI2 : Hid (HIn w2 (w.heap.size + 1) wr.heap.size ps) := HIn.below hb2 HI.out (Nat.le_refl _)
      have HM2 : Hid (∃ us : List (R × Value), us.map (·.1) = rs ∧ OwnRecs w2 wr.heap.size w2.heap.size (.slice ao rs.length cp) us) := hm
      have hw22 : wr.heap.size ≤ w2.heap.size := hb2.size
      have cellEx : ∀ j, j < hs.length * 5 → ∃ x, w2.cell? ⟨w.heap.size, j, none⟩ = some x := fun j hj => by
        have h1 := HO2.out.cellAt j hj
        have h2 : j < (hoflat (ps ++ List.replicate (hs.length - k) zeroHo)).length := by rw [HO2.out.1]; exact hj
        exact ⟨_, by rw [h1, List.getElem?_eq_getElem h2]⟩
      obtain ⟨x0, hx0⟩ := cellEx (k * 5) (by omega)
      obtain ⟨x1, hx1⟩ := cellEx (k * 5 + 1) (by omega)
      obtain ⟨x2, hx2⟩ := cellEx (k * 5 + 2) (by omega)
      obtain ⟨x3, hx3⟩ := cellEx (k * 5 + 3) (by omega)
      obtain ⟨x4, hx4⟩ := cellEx (k * 5 + 4) (by omega)
      have f0 := HO2.out.frozenAt (k * 5)
      have f1 := HO2.out.frozenAt (k * 5 + 1)
      have f2 := HO2.out.frozenAt (k * 5 + 2)
      have f3 := HO2.out.frozenAt (k * 5 + 3)
      have f4 := HO2.out.frozenAt (k * 5 + 4)
      obtain ⟨P, hP⟩ : ∃ P : Hd × Value, Hid (P = ((id, up, room, rs, f), .slice ao rs.length cp)) := ⟨_, rfl⟩
      have SS := stored5 HO2.out k (by have := HPL.out; simp; omega) ((id, up, room, rs, f), .slice ao rs.length cp)
      have KS := hide_it (Kept.of_row (ts := [79]) HO2.out SS.2 (by decide))
      have ST : Hid ((store5 w2 w.heap.size (k * 5) ((id, up, room, rs, f), .slice ao rs.length cp)).ownsRow w.heap.size 79 5 (.slice (some ⟨w.heap.size, 0, none⟩) hs.length hs.length) hs.length (hoflat ((ps ++ [P]) ++ List.replicate (hs.length - (k + 1)) zeroHo))) := by
        have h := SS.1
        have hpl := HPL.out
        rw [List.set_append_right _ _ (by omega), show k - ps.length = 0 by omega, show hs.length - k = (hs.length - (k + 1)) + 1 by omega, List.replicate_succ, List.set_cons_zero] at h
        rw [hP.out, List.append_assoc]
        exact h
      have HI3 : Hid (HIn (store5 w2 w.heap.size (k * 5) ((id, up, room, rs, f), .slice ao rs.length cp)) (w.heap.size + 1) w2.heap.size (ps ++ [P])) := by
        obtain ⟨us, hu, ho⟩ := HM2.out
        refine (HIn.keptH KS.out HI2.out).snoc hw22 ⟨us, by rw [hP.out]; exact hu, ?_⟩
        rw [hP.out]
        exact KS.out.own ho (by decide) (by decide)
      have HP3 : Hid ((ps ++ [P]).map (·.1) = hs.take (k + 1)) := by
        show _ = _
        rw [List.map_append, HP.out, List.take_succ_eq_append_getElem hlt]
        have := HG.out
        rw [List.getElem?_eq_getElem hlt] at this
        simp only [Option.some.injEq] at this
        rw [this, hP.out]
        rfl
      clear cellEx hb2 hm SS
      go_wp2
      go_roundw
      case rel =>
        refine ⟨k + 1, ps ++ [P], by omega, by go_num, HP3, ST, by show HIn _ _ _ _; have := HI3.out; unfold store5 at this; simpa using this, ?_⟩
        exact ((((HB2.out.setCell (Nat.le_refl _) _).setCell (Nat.le_refl _) _).setCell (Nat.le_refl _) _).setCell (Nat.le_refl _) _).setCell (Nat.le_refl _) _
      case measure => simp [intOf]; omega
    · have hke : k = hs.length := by omega
      have HP3 : Hid (ps.map (·.1) = hs) := by have := HP.out; rw [hke, List.take_length] at this; exact this
      have hpl : ps.length = hs.length := by have := HPL.out; omega
      have HO3 : Hid (wr.ownsRow w.heap.size 79 5 (.slice (some ⟨w.heap.size, 0, none⟩) hs.length hs.length) ps.length (hoflat ps)) := by
        have := HO.out
        rw [hke, Nat.sub_self] at this
        show World.ownsRow _ _ _ _ _ _ _
        rw [hpl]
        simpa using this
      clear hpl
      go_wp2
      go_ret
      exact ⟨rfl, ⟨ps, HP3.out, HO3.out, HI.out⟩, HB.out⟩


end Go.Proofs.YtkkkdgpbmmjieaaGreatDoor

namespace Go.Proofs.YtkkkdgpbmmjieaaGreatDoor
open Go.RowKit

def Bare (ps : List (Hd × Value)) : Prop := ∀ p ∈ ps, ∃ a c, p.2 = .slice a 0 c
/-- A house's marks. -/
def mkH (k : Int) (u : Value) : Hd × Value := ((k, (k + 1) % 3 == 0, k + 2, [], k + 3), u)
def mkHs (ps : List (Hd × Value)) (k : Int) (n : Nat) : List (Hd × Value) := (List.range n).map fun i => mkH (k + 4 * (i : Nat)) (ps.getD i zeroHo).2
theorem mkHs_length (ps : List (Hd × Value)) (k : Int) (n : Nat) : (mkHs ps k n).length = n := by simp [mkHs]
theorem mkHs_succ (ps : List (Hd × Value)) (k : Int) (n : Nat) : mkHs ps k (n + 1) = mkHs ps k n ++ [mkH (k + 4 * (n : Nat)) (ps.getD n zeroHo).2] := by
  unfold mkHs; rw [List.range_succ, List.map_append]; rfl
theorem mkHs_get (ps : List (Hd × Value)) (k : Int) (n i : Nat) (h : i < n) : (mkHs ps k n)[i]? = some (mkH (k + 4 * (i : Nat)) (ps.getD i zeroHo).2) := by
  simp [mkHs, h]

theorem hoflat_set4 (ps : List (Hd × Value)) (i : Nat) (p : Hd × Value) (h : ps[i]? = some p) (q : Hd) :
    ((((hoflat ps).set (i * 5) (.int .i64 q.1)).set (i * 5 + 1) (.bool q.2.1)).set (i * 5 + 2) (.int .i64 q.2.2.1)).set (i * 5 + 4) (.int .i64 q.2.2.2.2) = hoflat (ps.set i (q, p.2)) := by
  induction ps generalizing i with
  | nil => simp at h
  | cons a t ih =>
    cases i with
    | zero => simp at h; subst h; simp [hoflat]
    | succ i =>
      have := ih i (by simpa using h)
      rw [show (i + 1) * 5 = i * 5 + 5 by omega]
      simp only [hoflat, List.set_cons_succ]
      rw [this]
theorem mk_set (ps : List (Hd × Value)) (k : Int) (j : Nat) (p : Hd × Value) (h : ps[j]? = some p) : (mkHs ps k j ++ ps.drop j).set j (mkH (k + 4 * (j : Nat)) p.2) = mkHs ps k (j + 1) ++ ps.drop (j + 1) := by
  have hl : j < ps.length := by
    by_cases e : j < ps.length
    · exact e
    · rw [List.getElem?_eq_none (by omega)] at h; cases h
  rw [List.set_append_right _ _ (by rw [mkHs_length]; exact Nat.le_refl _), mkHs_length, Nat.sub_self, List.drop_eq_getElem_cons hl, List.set_cons_zero, mkHs_succ, List.append_assoc]
  have : (ps.getD j zeroHo) = p := by rw [List.getD_eq_getElem?_getD, h]; rfl
  rw [this]
  rfl
theorem markRecs0_any (a : Option Addr) (c : Nat) (k : Int) (w : World) :
    Calls Tryz.prog 86 #[.slice a 0 c, .int .i64 k] w fun e w' => e = .returned (.int .i64 k) ∧ w' = w := by
  go_enter Tryz.func86, Tryz.ntmps86
  go_wp2
  refine wp_loop_rounds 1 ?_
  rw [rounds_succ]
  go_wp2
  go_ret
  exact ⟨rfl, rfl⟩
theorem heldRecs0_any (a : Option Addr) (c : Nat) (k : Int) (w : World) :
    Calls Tryz.prog 110 #[.slice a 0 c, .int .i64 k] w fun e w' => e = .returned (.int .i64 k) ∧ w' = w := by
  go_enter Tryz.func110, Tryz.ntmps110
  go_wp2
  refine wp_loop_rounds 1 ?_
  rw [rounds_succ]
  go_wp2
  go_ret
  exact ⟨rfl, rfl⟩

set_option maxRecDepth 100000 in
set_option maxHeartbeats 4000000 in
theorem markHouses0_any (g cap n lo : Nat) (ps : List (Hd × Value)) (k : Int) (w : World) (hv : w.ownsRow lo 79 5 (.slice (some ⟨g, 0, none⟩) n cap) n (hoflat ps)) (hb : Bare ps) (hn : n ≤ 1000) (hk0 : 0 ≤ k) (hk1 : k ≤ 100000) :
    Calls Tryz.prog 54 #[.slice (some ⟨g, 0, none⟩) n cap, .int .i64 k] w fun e w' => e = .returned (.int .i64 (k + 4 * n)) ∧ w'.ownsRow lo 79 5 (.slice (some ⟨g, 0, none⟩) n cap) n (hoflat (mkHs ps k n)) ∧ w.grownBy w' (some g) := by
  have hxl : ps.length = n := by have := hv.1; rw [hoflat_length] at this; omega
  have HX : Hid (ps.length = n) := hxl
  have HBR := hide_it hb
  have H0 : Hid (w.ownsRow lo 79 5 (.slice (some ⟨g, 0, none⟩) n cap) n (hoflat (mkHs ps k 0 ++ ps.drop 0))) := by show World.ownsRow _ _ _ _ _ _ _; simpa [mkHs] using hv
  clear hv hxl hb
  go_enter Tryz.func54, Tryz.ntmps54
  go_wp2
  go_loopg [1, 5] n (fun gh q i wr => ∃ (j : Nat) (K : Int), j ≤ n ∧ gh = n - j ∧ i = .int .i64 j ∧ q = .int .i64 K ∧ Hid (K = k + 4 * j) ∧ Hid (wr.ownsRow lo 79 5 (.slice (some ⟨g, 0, none⟩) n cap) n (hoflat (mkHs ps k j ++ ps.drop j))) ∧ Hid (w.grownBy wr (some g)))
  case atStart => exact ⟨0, k, Nat.zero_le _, rfl, rfl, rfl, by show _ = _; simp, H0, World.grownBy.refl _ _⟩
  case round =>
    obtain ⟨j, K, hj, rfl, rfl, rfl, HK, HO, HG⟩ := hrel
    have hK0 : 0 ≤ K := by have := HK.out; omega
    have hK1 : K ≤ 200000 := by have := HK.out; omega
    by_cases hlt : j < n
    · obtain ⟨p, hp⟩ : ∃ p, ps[j]? = some p := ⟨_, List.getElem?_eq_getElem (by rw [HX.out]; exact hlt)⟩
      obtain ⟨a, c, hac⟩ := HBR.out p (List.mem_of_getElem? hp)
      have hdr : (mkHs ps k j ++ ps.drop j)[j]? = some p := by
        rw [List.getElem?_append_right (by rw [mkHs_length]; exact Nat.le_refl _), mkHs_length, Nat.sub_self, List.getElem?_drop, Nat.add_zero]
        exact hp
      obtain ⟨e0, e1, e2, e3, e4⟩ := hoflat_get _ j p hdr
      have c0 : wr.cell? ⟨g, j * 5, none⟩ = some (.int .i64 p.1.1) := by rw [HO.out.cellAt _ (by omega)]; exact e0
      have c1 : wr.cell? ⟨g, j * 5 + 1, none⟩ = some (.bool p.1.2.1) := by rw [HO.out.cellAt _ (by omega)]; exact e1
      have c2 : wr.cell? ⟨g, j * 5 + 2, none⟩ = some (.int .i64 p.1.2.2.1) := by rw [HO.out.cellAt _ (by omega)]; exact e2
      have c3 : wr.cell? ⟨g, j * 5 + 3, none⟩ = some (.slice a 0 c) := by rw [HO.out.cellAt _ (by omega), ← hac]; exact e3
      have c4 : wr.cell? ⟨g, j * 5 + 4, none⟩ = some (.int .i64 p.1.2.2.2.2) := by rw [HO.out.cellAt _ (by omega)]; exact e4
      have f0 := HO.out.frozenAt (j * 5)
      have f1 := HO.out.frozenAt (j * 5 + 1)
      have f2 := HO.out.frozenAt (j * 5 + 2)
      have f3 := HO.out.frozenAt (j * 5 + 3)
      have f4 := HO.out.frozenAt (j * 5 + 4)
      clear e0 e1 e2 e3 e4 hdr
      go_wp2_with fail
      refine (markRecs0_any a c _ _).mono ?_
      rintro e wq ⟨rfl, hwq⟩
      rw [hwq]
      clear hwq
      have HKE : Hid (K + 4 = k + 4 * ((j + 1 : Nat) : Int)) := by have := HK.out; show _ = _; omega
      have hd2 : (mkHs ps k j ++ ps.drop j)[j]? = some p := by
        rw [List.getElem?_append_right (by rw [mkHs_length]; exact Nat.le_refl _), mkHs_length, Nat.sub_self, List.getElem?_drop, Nat.add_zero]
        exact hp
      have a1 := HO.out.stored (j * 5) (.int .i64 K)
      have a2 := a1.1.stored (j * 5 + 1) (.bool ((K + 1) % 3 == 0))
      have a3 := a2.1.stored (j * 5 + 2) (.int .i64 (K + 1 + 1))
      have a4 := a3.1.stored (j * 5 + 4) (.int .i64 (K + 1 + 1 + 1))
      have ST := hide_it a4.1
      have SG := hide_it (grownBy_trans (grownBy_trans (grownBy_trans a1.2 a2.2) a3.2) a4.2)
      have HFL : Hid (((((hoflat (mkHs ps k j ++ ps.drop j)).set (j * 5) (.int .i64 K)).set (j * 5 + 1) (.bool ((K + 1) % 3 == 0))).set (j * 5 + 2) (.int .i64 (K + 1 + 1))).set (j * 5 + 4) (.int .i64 (K + 1 + 1 + 1)) = hoflat (mkHs ps k (j + 1) ++ ps.drop (j + 1))) := by
        show _ = _
        have h1 := hoflat_set4 _ j p hd2 (K, (K + 1) % 3 == 0, K + 1 + 1, [], K + 1 + 1 + 1)
        rw [h1, ← mk_set ps k j p hp]
        have h2 : K = k + 4 * (j : Nat) := HK.out
        unfold mkH
        rw [← h2, show K + 1 + 1 = K + 2 by omega, show K + 2 + 1 = K + 3 by omega]
      clear a1 a2 a3 a4 hd2
      go_wp2
      go_roundg (n - (j + 1))
      case measure => omega
      case rel => exact ⟨j + 1, K + 4, by omega, rfl, by go_num, by go_num, HKE, by rw [← HFL.out]; exact ST, grownBy_trans HG.out SG.out⟩
    · have hje : j = n := by omega
      subst hje
      have HO2 : Hid (wr.ownsRow lo 79 5 (.slice (some ⟨g, 0, none⟩) j cap) j (hoflat (mkHs ps k j))) := by
        have := HO.out
        rw [List.drop_of_length_le (by rw [HX.out]; exact Nat.le_refl _), List.append_nil] at this
        exact this
      go_wp2
      go_ret
      exact ⟨by rw [HK.out]; rfl, HO2.out, HG.out⟩

set_option maxRecDepth 100000 in
set_option maxHeartbeats 4000000 in
theorem heldHouses0_any (g cap n lo : Nat) (ps : List (Hd × Value)) (k : Int) (w : World) (hv : w.ownsRow lo 79 5 (.slice (some ⟨g, 0, none⟩) n cap) n (hoflat (mkHs ps k n))) (hb : Bare ps) (hx : ps.length = n) (hn : n ≤ 1000) (hk0 : 0 ≤ k) (hk1 : k ≤ 100000) :
    Calls Tryz.prog 63 #[.slice (some ⟨g, 0, none⟩) n cap, .int .i64 k] w fun e w' => e = .returned (.int .i64 (k + 4 * n)) ∧ w' = w := by
  have HX : Hid (ps.length = n) := hx
  have HBR := hide_it hb
  have HO := hide_it hv
  clear hv hx hb
  go_enter Tryz.func63, Tryz.ntmps63
  go_wp2
  go_loopg [1, 5] n (fun gh q i wr => ∃ (j : Nat) (K : Int), j ≤ n ∧ gh = n - j ∧ i = .int .i64 j ∧ q = .int .i64 K ∧ Hid (K = k + 4 * j) ∧ wr = w)
  case atStart => exact ⟨0, k, Nat.zero_le _, rfl, rfl, rfl, by show _ = _; simp, rfl⟩
  case round =>
    obtain ⟨j, K, hj, rfl, rfl, rfl, HK, rfl⟩ := hrel
    have hK0 : 0 ≤ K := by have := HK.out; omega
    have hK1 : K ≤ 200000 := by have := HK.out; omega
    by_cases hlt : j < n
    · obtain ⟨p, hp⟩ : ∃ p, ps[j]? = some p := ⟨_, List.getElem?_eq_getElem (by rw [HX.out]; exact hlt)⟩
      obtain ⟨a, c, hac⟩ := HBR.out p (List.mem_of_getElem? hp)
      have hq : (mkHs ps k n)[j]? = some (mkH K p.2) := by
        rw [mkHs_get ps k n j hlt, ← HK.out]
        have : (ps.getD j zeroHo) = p := by rw [List.getD_eq_getElem?_getD, hp]; rfl
        rw [this]
      obtain ⟨e0, e1, e2, e3, e4⟩ := hoflat_get _ j _ hq
      simp only [mkH] at e0 e1 e2 e3 e4
      rename World => wr
      have c0 : wr.cell? ⟨g, j * 5, none⟩ = some (.int .i64 K) := by rw [HO.out.cellAt _ (by omega)]; exact e0
      have c1 : wr.cell? ⟨g, j * 5 + 1, none⟩ = some (.bool ((K + 1) % 3 == 0)) := by rw [HO.out.cellAt _ (by omega)]; exact e1
      have c2 : wr.cell? ⟨g, j * 5 + 2, none⟩ = some (.int .i64 (K + 1 + 1)) := by rw [HO.out.cellAt _ (by omega), show K + 1 + 1 = K + 2 by omega]; exact e2
      have c3 : wr.cell? ⟨g, j * 5 + 3, none⟩ = some (.slice a 0 c) := by rw [HO.out.cellAt _ (by omega), ← hac]; exact e3
      have c4 : wr.cell? ⟨g, j * 5 + 4, none⟩ = some (.int .i64 (K + 1 + 1 + 1)) := by rw [HO.out.cellAt _ (by omega), show K + 1 + 1 + 1 = K + 3 by omega]; exact e4
      have hbne : (((K + 1) % 3 == 0) != ((K + 1) % 3 == 0)) = false := by simp
      have HKE : Hid (K + 4 = k + 4 * ((j + 1 : Nat) : Int)) := by have := HK.out; show _ = _; omega
      clear e0 e1 e2 e3 e4 hq hp hac
      go_wp2_with fail
      refine (heldRecs0_any a c _ _).mono ?_
      rintro e wq ⟨rfl, hwq⟩
      rw [hwq]
      clear hwq
      go_wp2
      go_roundg (n - (j + 1))
      case measure => omega
      case rel => exact ⟨j + 1, K + 4, by omega, rfl, by go_num, by go_num, HKE, rfl⟩
    · have hje : j = n := by omega
      subst hje
      go_wp2
      go_ret
      exact ⟨by rw [HK.out]; rfl, rfl⟩

end Go.Proofs.YtkkkdgpbmmjieaaGreatDoor

namespace Go.Proofs.YtkkkdgpbmmjieaaGreatDoor
open Go.RowKit

theorem Mid.wide {l h lo hi : Nat} {w w' : World} (k : Mid l h w w') (h1 : lo ≤ l) (h2 : h ≤ hi) : Mid lo hi w w' :=
  ⟨k.os, k.tape, k.output, k.size, fun i hi' hh => k.block i hi' (by omega)⟩
theorem kAt_bounds (rs : List R) (k : Int) : k ≤ kAt rs k rs.length ∧ kAt rs k rs.length ≤ k + 2 * (tot rs : Nat) := by
  unfold kAt tot; omega
theorem hpre_mono_tot (hs : List Hd) (j : Nat) (h : Hd) (hj : hs[j]? = some h) : hpre hs j + tot h.2.2.2.1 ≤ htot hs := by
  have h1 := hpre_succ hs j h hj
  have hl : j < hs.length := by
    by_cases e : j < hs.length
    · exact e
    · rw [List.getElem?_eq_none (by omega)] at hj; cases hj
  have h2 : ∀ n, j + 1 + n ≤ hs.length → hpre hs (j + 1) ≤ hpre hs (j + 1 + n) := by
    intro n
    induction n with
    | zero => intro _; exact Nat.le_refl _
    | succ n ih =>
      intro hn
      have h3 := hpre_succ hs (j + 1 + n) _ (List.getElem?_eq_getElem (by omega))
      have := ih (by omega)
      rw [show j + 1 + (n + 1) = j + 1 + n + 1 by omega, h3]
      omega
  have h4 := h2 (hs.length - (j + 1)) (by omega)
  rw [show j + 1 + (hs.length - (j + 1)) = hs.length by omega] at h4
  unfold htot
  omega

set_option maxRecDepth 100000 in
set_option maxHeartbeats 4000000 in
theorem markHousesI_any (g cap n lo hi : Nat) (ps : List (Hd × Value)) (k : Int) (w : World) (hv : w.ownsRow lo 79 5 (.slice (some ⟨g, 0, none⟩) n cap) n (hoflat ps)) (hin : HIn w (g + 1) hi ps) (hl : htot (ps.map (·.1)) ≤ 1048576) (hk0 : 0 ≤ k) (hk1 : k ≤ 10000000) :
    Calls Tryz.prog 54 #[.slice (some ⟨g, 0, none⟩) n cap, .int .i64 k] w fun e w' => ∃ K : Int, e = .returned (.int .i64 K) ∧ k ≤ K ∧ K ≤ k + 8388608 ∧ Mid lo hi w w' := by
  have hxl : ps.length = n := by have := hv.1; rw [hoflat_length] at this; omega
  have HX : Hid (ps.length = n) := hxl
  have hgl := (hv.lt g rfl).1
  have hgh : g < hi := hin.le
  have HL := hide_it hl
  have hn : n ≤ 1048576 := by have := htot_len (ps.map (·.1)); simp at this; omega
  have H0 := hide_it hv
  have HN0 := hide_it hin
  clear hv hxl hin hl
  go_enter Tryz.func54, Tryz.ntmps54
  go_wp2
  go_loopg [1, 5] n (fun gh q i wr => ∃ (j : Nat) (K : Int) (qs : List (Hd × Value)) (m : Nat), j ≤ n ∧ gh = n - j ∧ i = .int .i64 j ∧ q = .int .i64 K ∧ Hid (k ≤ K ∧ K ≤ k + 4 * (j : Nat) + 2 * (hpre (ps.map (·.1)) j : Nat)) ∧ Hid (wr.ownsRow lo 79 5 (.slice (some ⟨g, 0, none⟩) n cap) n (hoflat qs)) ∧ Hid (qs.drop j = ps.drop j) ∧ Hid (g + 1 ≤ m) ∧ Hid (HIn wr m hi (ps.drop j)) ∧ Hid (Mid lo hi w wr))
  case atStart => exact ⟨0, k, ps, g + 1, Nat.zero_le _, rfl, rfl, rfl, ⟨by omega, by simp [hpre_zero]⟩, H0, rfl, Nat.le_refl _, HN0, Mid.refl _ _ _⟩
  case round =>
    obtain ⟨j, K, qs, m, hj, rfl, rfl, rfl, HK, HO, HQ, HG, HN, HM⟩ := hrel
    have hKb : 0 ≤ K ∧ K ≤ 50000000 := by
      have h1 := HK.out
      have h2 : hpre (ps.map (·.1)) j ≤ 1048576 := by
        by_cases hlt : j < (ps.map (·.1)).length
        · have := hpre_mono_tot (ps.map (·.1)) j _ (List.getElem?_eq_getElem hlt)
          have := HL.out; omega
        · have : hpre (ps.map (·.1)) j = hpre (ps.map (·.1)) (ps.map (·.1)).length := by
            have := HX.out; rw [List.length_map] at hlt ⊢; rw [show j = ps.length by omega]
          have h3 := HL.out
          unfold htot at h3
          omega
      omega
    obtain ⟨hK0, hK1⟩ := hKb
    by_cases hlt : j < n
    · obtain ⟨p, hp⟩ : ∃ p, ps[j]? = some p := ⟨_, List.getElem?_eq_getElem (by rw [HX.out]; exact hlt)⟩
      have hdr : qs[j]? = some p := by
        have : (qs.drop j)[0]? = (ps.drop j)[0]? := by rw [HQ.out]
        rw [List.getElem?_drop, List.getElem?_drop, Nat.add_zero] at this
        rw [this]; exact hp
      have hcons : ps.drop j = p :: ps.drop (j + 1) := by
        have hjl : j < ps.length := by rw [HX.out]; exact hlt
        rw [List.drop_eq_getElem_cons hjl]
        rw [List.getElem?_eq_getElem hjl] at hp
        simp only [Option.some.injEq] at hp
        rw [hp]
      have hnn := HN.out
      rw [hcons] at hnn
      obtain ⟨m', hmm, ⟨us, hus, hown⟩, hrest⟩ := hnn
      obtain ⟨a, c, hac⟩ := row_shape hown.1
      have HOW := hide_it hown
      have HRE := hide_it hrest
      have HUS := hide_it hus
      have hm'hi : m' ≤ hi := hrest.le
      have htp : hpre (ps.map (·.1)) (j + 1) = hpre (ps.map (·.1)) j + tot p.1.2.2.2.1 := hpre_succ _ j p.1 (by rw [List.getElem?_map, hp]; rfl)
      have htb : tot p.1.2.2.2.1 ≤ 1048576 := by
        have := hpre_mono_tot (ps.map (·.1)) j p.1 (by rw [List.getElem?_map, hp]; rfl)
        have := HL.out; omega
      have HTP := hide_it htp
      have HTB := hide_it htb
      obtain ⟨e0, e1, e2, e3, e4⟩ := hoflat_get _ j p hdr
      have c0 : wr.cell? ⟨g, j * 5, none⟩ = some (.int .i64 p.1.1) := by rw [HO.out.cellAt _ (by omega)]; exact e0
      have c1 : wr.cell? ⟨g, j * 5 + 1, none⟩ = some (.bool p.1.2.1) := by rw [HO.out.cellAt _ (by omega)]; exact e1
      have c2 : wr.cell? ⟨g, j * 5 + 2, none⟩ = some (.int .i64 p.1.2.2.1) := by rw [HO.out.cellAt _ (by omega)]; exact e2
      have c3 : wr.cell? ⟨g, j * 5 + 3, none⟩ = some (.slice a us.length c) := by rw [HO.out.cellAt _ (by omega), ← hac]; exact e3
      have c4 : wr.cell? ⟨g, j * 5 + 4, none⟩ = some (.int .i64 p.1.2.2.2.2) := by rw [HO.out.cellAt _ (by omega)]; exact e4
      have f0 := HO.out.frozenAt (j * 5)
      have f1 := HO.out.frozenAt (j * 5 + 1)
      have f2 := HO.out.frozenAt (j * 5 + 2)
      have f3 := HO.out.frozenAt (j * 5 + 3)
      have f4 := HO.out.frozenAt (j * 5 + 4)
      have HP := hide_it hdr
      have HAC := hide_it hac
      clear e0 e1 e2 e3 e4 hdr hp hcons hown hrest hus htp htb hac
      obtain ⟨ws, hws⟩ : ∃ W, Hid (W = ((wr.setCell ⟨g, j * 5, none⟩ (.int .i64 K)).setCell ⟨g, j * 5 + 1, none⟩ (.bool ((K + 1) % 3 == 0))).setCell ⟨g, j * 5 + 2, none⟩ (.int .i64 (K + 1 + 1))) := ⟨_, rfl⟩
      go_wp2_with fail
      rw [← hws.out]
      have a1 := HO.out.stored (j * 5) (.int .i64 K)
      have a2 := a1.1.stored (j * 5 + 1) (.bool ((K + 1) % 3 == 0))
      have a3 := a2.1.stored (j * 5 + 2) (.int .i64 (K + 1 + 1))
      have S3 : Hid (ws.ownsRow lo 79 5 (.slice (some ⟨g, 0, none⟩) n cap) n ((((hoflat qs).set (j * 5) (.int .i64 K)).set (j * 5 + 1) (.bool ((K + 1) % 3 == 0))).set (j * 5 + 2) (.int .i64 (K + 1 + 1)))) := by show World.ownsRow _ _ _ _ _ _ _; rw [hws.out]; exact a3.1
      have G3 : wr.grownBy ws (some g) := by rw [hws.out]; exact grownBy_trans (grownBy_trans a1.2 a2.2) a3.2
      have KS : Kept [79] wr ws := Kept.of_row HO.out G3 (by decide)
      have MS : Hid (Mid lo hi w ws) := HM.out.trans (Mid.of_grown G3 (fun k hk => by cases hk; exact ⟨hgl, hgh⟩))
      have OS := hide_it (KS.own HOW.out (by decide) (by decide))
      have RS := hide_it (HIn.keptH KS HRE.out)
      have HT3 : Hid (tot (us.map (·.1)) ≤ 1048576) := by show _ ≤ _; rw [HUS.out]; exact HTB.out
      have HGm : g < m := HG.out
      clear a1 a2 a3 G3 KS c0 c1 c2 c3 c4 f0 f1 f2 f3 f4
      have HCALL := hide_it (markRecsW_any (.slice a us.length c) us (K + 1 + 1 + 1) m m' ws (by have := OS.out; rw [HAC.out] at this; exact this) HT3.out (by omega) (by omega))
      have HKB : Hid (K + 1 + 1 + 1 ≤ kAt (us.map (·.1)) (K + 1 + 1 + 1) us.length ∧ kAt (us.map (·.1)) (K + 1 + 1 + 1) us.length ≤ K + 1 + 1 + 1 + 2 * (tot p.1.2.2.2.1 : Nat)) := by
        have := kAt_bounds (us.map (·.1)) (K + 1 + 1 + 1)
        rw [List.length_map] at this
        rw [HUS.out] at this ⊢
        exact this
      obtain ⟨K2, hK2⟩ : ∃ K2, kAt (us.map (·.1)) (K + 1 + 1 + 1) us.length = K2 := ⟨_, rfl⟩
      rw [hK2] at HCALL HKB
      clear hK2
      have hK2b : 0 ≤ K2 ∧ K2 ≤ 60000000 := by have := HKB.out; have := HTB.out; omega
      obtain ⟨hk20, hk21⟩ := hK2b
      refine HCALL.out.mono ?_
      rintro e wq ⟨rfl, -, hmq⟩
      have SQ := hide_it (ownsRow_mid S3.out hmq (fun k hk => by cases hk; exact Or.inl HGm))
      have RQ := hide_it (HIn.mid hmq RS.out (Nat.le_refl _))
      have MQ : Hid (Mid lo hi w wq) := MS.out.trans (Mid.wide hmq (by omega) hm'hi)
      have b1 := SQ.out.stored (j * 5 + 4) (.int .i64 K2)
      have KQ : Kept [79] wq (wq.setCell ⟨g, j * 5 + 4, none⟩ (.int .i64 K2)) := Kept.of_row SQ.out b1.2 (by decide)
      have RF := hide_it (HIn.keptH KQ RQ.out)
      have MF : Hid (Mid lo hi w (wq.setCell ⟨g, j * 5 + 4, none⟩ (.int .i64 K2))) := MQ.out.trans (Mid.of_grown b1.2 (fun k hk => by cases hk; exact ⟨hgl, hgh⟩))
      have SF : Hid ((wq.setCell ⟨g, j * 5 + 4, none⟩ (.int .i64 K2)).ownsRow lo 79 5 (.slice (some ⟨g, 0, none⟩) n cap) n (hoflat (qs.set j ((K, (K + 1) % 3 == 0, K + 1 + 1, [], K2), p.2)))) := by
        show World.ownsRow _ _ _ _ _ _ _
        have h1 := hoflat_set4 qs j p HP.out (K, (K + 1) % 3 == 0, K + 1 + 1, [], K2)
        rw [← h1]
        exact b1.1
      have HQ2 : Hid ((qs.set j ((K, (K + 1) % 3 == 0, K + 1 + 1, [], K2), p.2)).drop (j + 1) = ps.drop (j + 1)) := by
        show _ = _
        rw [List.drop_set_of_lt (by omega)]
        have := congrArg (List.drop 1) HQ.out
        rw [List.drop_drop, List.drop_drop] at this
        simpa [Nat.add_comm] using this
      have HK2 : Hid (k ≤ K2 + 1 ∧ K2 + 1 ≤ k + 4 * ((j + 1 : Nat) : Int) + 2 * (hpre (ps.map (·.1)) (j + 1) : Nat)) := by
        have h1 := HK.out
        have h2 := HKB.out
        have h3 := HTP.out
        show _ ∧ _
        omega
      have hqlen : (((((hoflat qs).set (j * 5) (.int .i64 K)).set (j * 5 + 1) (.bool ((K + 1) % 3 == 0))).set (j * 5 + 2) (.int .i64 (K + 1 + 1)))).length = n * 5 := SQ.out.1
      obtain ⟨x4, hx4⟩ : ∃ x, wq.cell? ⟨g, j * 5 + 4, none⟩ = some x := by
        rw [SQ.out.cellAt _ (by omega), List.getElem?_eq_getElem (by rw [hqlen]; omega)]; exact ⟨_, rfl⟩
      have f4 := SQ.out.frozenAt (j * 5 + 4)
      clear hmq b1 KQ hqlen
      go_wp2
      go_roundg (n - (j + 1))
      case measure => omega
      case rel => exact ⟨j + 1, K2 + 1, _, m', by omega, rfl, by go_num, rfl, HK2, SF, HQ2, by have := HG.out; show _ ≤ _; omega, RF, MF⟩
    · have hje : j = n := by omega
      have HF : Hid (k ≤ K ∧ K ≤ k + 8388608) := by
        have h1 := HK.out
        have h3 := HL.out
        have h4 : hpre (ps.map (·.1)) j ≤ htot (ps.map (·.1)) := by unfold htot; rw [hje, show n = (ps.map (·.1)).length by rw [List.length_map, HX.out]]; omega
        exact ⟨h1.1, by omega⟩
      subst hje
      go_wp2
      go_ret
      exact ⟨K, rfl, HF.out.1, HF.out.2, HM.out⟩

end Go.Proofs.YtkkkdgpbmmjieaaGreatDoor

namespace Go.Proofs.YtkkkdgpbmmjieaaGreatDoor
open Go.RowKit

/-- Houses in memory of the call's own: the row first, then each house's records in an interval of their own. -/
def HMadeI (w : World) (lo hi : Nat) (v : Value) (ps : List (Hd × Value)) : Prop :=
  ∃ g c, v = .slice (some ⟨g, 0, none⟩) ps.length c ∧ w.ownsRow lo 79 5 v ps.length (hoflat ps) ∧ HIn w (g + 1) hi ps ∧ hi ≤ w.heap.size
theorem HMadeI.below {w w' : World} {lo hi : Nat} {v : Value} {ps : List (Hd × Value)} (h : HMadeI w lo hi v ps) (hb : Below w.heap.size w w') : HMadeI w' lo hi v ps := by
  obtain ⟨g, c, h1, h2, h3, h4⟩ := h
  exact ⟨g, c, h1, ownsRow_below h2 hb (fun k hk => (h2.lt k hk).2), HIn.below hb h3 h4, Nat.le_trans h4 hb.size⟩
theorem HMadeI.setBelow {w : World} {lo hi b i : Nat} {v : Value} {ps : List (Hd × Value)} (h : HMadeI w lo hi v ps) (hb : b < lo) (x : Value) : HMadeI (w.setCell ⟨b, i, none⟩ x) lo hi v ps := by
  obtain ⟨g, c, rfl, h2, h3, h4⟩ := h
  have hg := (h2.lt g rfl).1
  exact ⟨g, c, rfl, ownsRow_setCell_below h2 hb x, HIn.mid (Mid.one (b := b) (i := i) x) h3 (by omega), by simpa using h4⟩
theorem HMadeI.lo {w : World} {lo lo' hi : Nat} {v : Value} {ps : List (Hd × Value)} (h : HMadeI w lo hi v ps) (hl : lo' ≤ lo) : HMadeI w lo' hi v ps := by
  obtain ⟨g, c, h1, h2, h3, h4⟩ := h
  exact ⟨g, c, h1, ownsRow_base h2 hl, h3, h4⟩
/-- A world comes back, in memory of the call's own: the desk's first, then the houses', then the words', each apart. -/
def WdOutI (w w' : World) (e : Ending) (up : Bool) (rs : List R) (f : Int) (ws : List Wd) (hs : List Hd) (ns : List Wd) : Prop :=
  ∃ a1 c1 a2 c2 a3 c3 a4 c4 ps hps p1 p2, e = .returned (worldV up (.slice a1 rs.length c1) f (.slice a2 ws.length c2) (.slice a3 hs.length c3) (.slice a4 ns.length c4)) ∧ ps.map (·.1) = rs ∧ DkOwn w' w.heap.size p1 (.slice a1 rs.length c1) (.slice a2 ws.length c2) ps ws ∧ hps.map (·.1) = hs ∧ HMadeI w' p1 p2 (.slice a3 hs.length c3) hps ∧ w'.ownsRow p2 82 4 (.slice a4 ns.length c4) ns.length (wflat ns) ∧ p2 ≤ w'.heap.size ∧ w.heap.size ≤ p1 ∧ Below w.heap.size w w'

set_option maxHeartbeats 4000000 in
theorem toWorldI_any (up : Bool) (v u hv nv : Value) (rs : List R) (f : Int) (ws : List Wd) (hs : List Hd) (ns : List Wd) (w : World) (hw : WdAt w v u hv nv rs ws hs ns) (hl : wdTot rs ws hs ns ≤ 1048576) :
    Calls Tryz.prog 9 #[worldV up v f u hv nv] w fun e w' => WdOutI w w' e up rs f ws hs ns := by
  have hl1 : tot rs ≤ 1048576 := by unfold wdTot at hl; omega
  have hl2 : ws.length ≤ 1048576 := by unfold wdTot at hl; omega
  have hl3 : htot hs ≤ 1048576 := by unfold wdTot at hl; omega
  have hl4 : ns.length ≤ 1048576 := by unfold wdTot at hl; omega
  have HW : Hid (∀ W, Below w.heap.size w W → WdAt W v u hv nv rs ws hs ns) := fun W h => hw.later h (Nat.le_refl _)
  obtain ⟨av, cv, au, cu, ah, ch, an, cn, rfl, rfl, rfl, rfl⟩ := hw.shape
  obtain ⟨w0, hw0⟩ : ∃ W, Hid (W = ((w.alloc (.cells #[.bool up, .slice av rs.length cv, .int .i64 f, .slice au ws.length cu, .slice ah hs.length ch, .slice an ns.length cn] 30)).alloc (.cells #[.bool false, .slice none 0 0, .int .i64 0, .slice none 0 0, .slice none 0 0, .slice none 0 0] 41)).alloc (.cells #[.bool false, .slice none 0 0, .int .i64 0, .slice none 0 0, .slice none 0 0, .slice none 0 0] 41)) := ⟨_, rfl⟩
  have B0 : Hid (Below w.heap.size w w0) := by show Below _ _ _; rw [hw0.out]; exact below3 _ _ _ _
  have hs0 : w0.heap.size = w.heap.size + 3 := by rw [hw0.out]; simp
  have X0 : Hid (Blk w0 w.heap.size #[.bool up, .slice av rs.length cv, .int .i64 f, .slice au ws.length cu, .slice ah hs.length ch, .slice an ns.length cn] 30) := by show Blk _ _ _ _; rw [hw0.out]; exact ((Blk.new _ _ _).alloc _).alloc _
  have R0 : Hid (Blk w0 (w.heap.size + 1) #[.bool false, .slice none 0 0, .int .i64 0, .slice none 0 0, .slice none 0 0, .slice none 0 0] 41) := by show Blk _ _ _ _; rw [hw0.out]; exact (Blk.new2 _ _ _ _).alloc _
  have O0 : Hid (Blk w0 (w.heap.size + 1 + 1) #[.bool false, .slice none 0 0, .int .i64 0, .slice none 0 0, .slice none 0 0, .slice none 0 0] 41) := by show Blk _ _ _ _; rw [hw0.out]; exact Blk.new3 _ _ _ _ _
  clear hw hl
  go_enter Tryz.func9, Tryz.ntmps9
  go_wp2_with fail
  rw [← hw0.out]
  refine (toDesk_any up _ _ rs f ws w0 (HW.out _ B0.out).1 hl1 hl2).mono ?_
  rintro e w1 ⟨a1, c1, a2, c2, ps, rfl, hp1, ho1, hb1⟩
  have X1 := hide_it (X0.out.after hb1)
  have R1 := hide_it (R0.out.after hb1)
  have O1 := hide_it (O0.out.after hb1)
  have B1 := hide_it (B0.out.trans (hb1.mono B0.out.size))
  have D1 := hide_it ho1
  have HP1 := hide_it hp1
  have hs1 : w0.heap.size ≤ w1.heap.size := hb1.size
  clear hb1 ho1 hp1
  obtain ⟨x0, x1, x2, x3, x4, x5⟩ := X1.out.cells6
  obtain ⟨o0, o1, o2, o3, o4, o5⟩ := O1.out.cells6
  obtain ⟨f0, f1, f2, f3, f4, f5⟩ := O1.out.free6
  obtain ⟨w2, hw2⟩ : ∃ W, Hid (W = (((w1.setCell ⟨w.heap.size + 1 + 1, 0, none⟩ (.bool up)).setCell ⟨w.heap.size + 1 + 1, 1, none⟩ (.slice a1 rs.length c1)).setCell ⟨w.heap.size + 1 + 1, 2, none⟩ (.int .i64 f)).setCell ⟨w.heap.size + 1 + 1, 3, none⟩ (.slice a2 ws.length c2)) := ⟨_, rfl⟩
  have X2 : Hid (Blk w2 w.heap.size #[.bool up, .slice av rs.length cv, .int .i64 f, .slice au ws.length cu, .slice ah hs.length ch, .slice an ns.length cn] 30) := by show Blk _ _ _ _; rw [hw2.out]; exact other_set4 X1.out (by omega) _ _ _ _
  have R2 : Hid (Blk w2 (w.heap.size + 1) #[.bool false, .slice none 0 0, .int .i64 0, .slice none 0 0, .slice none 0 0, .slice none 0 0] 41) := by show Blk _ _ _ _; rw [hw2.out]; exact other_set4 R1.out (by omega) _ _ _ _
  have O2 : Hid (Blk w2 (w.heap.size + 1 + 1) #[.bool up, .slice a1 rs.length c1, .int .i64 f, .slice a2 ws.length c2, .slice none 0 0, .slice none 0 0] 41) := by
    show Blk _ _ _ _; rw [hw2.out]
    have := (((O1.out.set_ 0 (.bool up)).set_ 1 (.slice a1 rs.length c1)).set_ 2 (.int .i64 f)).set_ 3 (.slice a2 ws.length c2)
    simpa using this
  have D2 : Hid (DkOwn w2 w0.heap.size w1.heap.size (.slice a1 rs.length c1) (.slice a2 ws.length c2) ps ws) := by
    show DkOwn _ _ _ _ _ _ _; rw [hw2.out]
    exact (((D1.out.setBelow (by omega) _).setBelow (by omega) _).setBelow (by omega) _).setBelow (by omega) _
  have B2 : Hid (Below w.heap.size w w2) := by
    show Below _ _ _; rw [hw2.out]
    iterate 4 (refine Below.setCell ?_ (by show w.heap.size ≤ w.heap.size + 1 + 1; omega) _)
    exact B1.out
  have hs2 : w2.heap.size = w1.heap.size := by rw [hw2.out]; simp
  have HH := hide_it (toHousesI_any (.slice ah hs.length ch) hs w2 (HW.out _ B2.out).2.1 hl3)
  go_wp2_with fail
  rw [← hw2.out]
  clear x0 x1 x2 x3 x4 x5 o0 o1 o2 o3 o4 o5 f0 f1 f2 f3 f4 f5
  refine HH.out.mono ?_
  rintro e w3 ⟨rfl, ⟨hps, hh1, hh2, hh3⟩, hb3⟩
  have hlh : hps.length = hs.length := by rw [← hh1, List.length_map]
  have hq3 : HMadeI w3 w2.heap.size w3.heap.size (.slice (some ⟨w2.heap.size, 0, none⟩) hs.length hs.length) hps := ⟨w2.heap.size, hs.length, by rw [hlh], hh2, hh3, Nat.le_refl _⟩
  clear hh2 hh3 hlh
  obtain ⟨a3, ha3⟩ : ∃ a3, Hid ((some (⟨w2.heap.size, 0, none⟩ : Addr)) = a3) := ⟨_, rfl⟩
  rw [ha3.out] at hq3 ⊢
  obtain ⟨c3, hc3⟩ : ∃ c3, Hid (c3 = hs.length) := ⟨_, rfl⟩
  have H3 : Hid (HMadeI w3 w2.heap.size w3.heap.size (.slice a3 hs.length c3) hps) := by show HMadeI _ _ _ _ _; rw [hc3.out]; exact hq3
  have HP3 := hide_it hh1
  have X3 := hide_it (X2.out.after hb3)
  have R3 := hide_it (R2.out.after hb3)
  have O3 := hide_it (O2.out.after hb3)
  have D3 := hide_it (D2.out.below hb3 (by omega))
  have B3 := hide_it (B2.out.trans (hb3.mono B2.out.size))
  have hs3 : w2.heap.size ≤ w3.heap.size := hb3.size
  clear hb3 hh1 hq3 HH
  obtain ⟨x0, x1, x2, x3, x4, x5⟩ := X3.out.cells6
  obtain ⟨o0, o1, o2, o3, o4, o5⟩ := O3.out.cells6
  obtain ⟨f0, f1, f2, f3, f4, f5⟩ := O3.out.free6
  obtain ⟨w4, hw4⟩ : ∃ W, Hid (W = w3.setCell ⟨w.heap.size + 1 + 1, 4, none⟩ (.slice a3 hs.length hs.length)) := ⟨_, rfl⟩
  have X4 : Hid (Blk w4 w.heap.size #[.bool up, .slice av rs.length cv, .int .i64 f, .slice au ws.length cu, .slice ah hs.length ch, .slice an ns.length cn] 30) := by show Blk _ _ _ _; rw [hw4.out]; exact X3.out.other (by show w.heap.size ≠ w.heap.size + 1 + 1; omega) _
  have R4 : Hid (Blk w4 (w.heap.size + 1) #[.bool false, .slice none 0 0, .int .i64 0, .slice none 0 0, .slice none 0 0, .slice none 0 0] 41) := by show Blk _ _ _ _; rw [hw4.out]; exact R3.out.other (by show w.heap.size + 1 ≠ w.heap.size + 1 + 1; omega) _
  have O4 : Hid (Blk w4 (w.heap.size + 1 + 1) #[.bool up, .slice a1 rs.length c1, .int .i64 f, .slice a2 ws.length c2, .slice a3 hs.length hs.length, .slice none 0 0] 41) := by
    show Blk _ _ _ _; rw [hw4.out]
    have := O3.out.set_ 4 (.slice a3 hs.length hs.length)
    simpa using this
  have D4 : Hid (DkOwn w4 w0.heap.size w1.heap.size (.slice a1 rs.length c1) (.slice a2 ws.length c2) ps ws) := by
    show DkOwn _ _ _ _ _ _ _; rw [hw4.out]; exact D3.out.setBelow (by omega) _
  have H4 : Hid (HMadeI w4 w2.heap.size w3.heap.size (.slice a3 hs.length c3) hps) := by show HMadeI _ _ _ _ _; rw [hw4.out]; exact H3.out.setBelow (by omega) _
  have B4 : Hid (Below w.heap.size w w4) := by show Below _ _ _; rw [hw4.out]; refine Below.setCell B3.out (by show w.heap.size ≤ w.heap.size + 1 + 1; omega) _
  have hs4 : w4.heap.size = w3.heap.size := by rw [hw4.out]; simp
  have HN := hide_it (toWords_any (.slice an ns.length cn) ns w4 (HW.out _ B4.out).2.2 hl4)
  go_wp2_with fail
  rw [← hw4.out]
  clear x0 x1 x2 x3 x4 x5 o0 o1 o2 o3 o4 o5 f0 f1 f2 f3 f4 f5
  refine HN.out.mono ?_
  rintro e w5 ⟨rfl, hn5, hb5⟩
  obtain ⟨a4, ha4⟩ : ∃ a4, Hid ((some (⟨w4.heap.size, 0, none⟩ : Addr)) = a4) := ⟨_, rfl⟩
  rw [ha4.out] at hn5 ⊢
  have N5 := hide_it hn5
  have R5 := hide_it (R4.out.after hb5)
  have O5 := hide_it (O4.out.after hb5)
  have D5 := hide_it (D4.out.below hb5 (by omega))
  have H5 := hide_it (H4.out.below hb5)
  have B5 := hide_it (B4.out.trans (hb5.mono B4.out.size))
  have hs5 : w4.heap.size ≤ w5.heap.size := hb5.size
  clear hb5 hn5 HN
  obtain ⟨o0, o1, o2, o3, o4, o5⟩ := O5.out.cells6
  obtain ⟨f0, f1, f2, f3, f4, f5⟩ := O5.out.free6
  obtain ⟨r0, r1, r2, r3, r4, r5⟩ := R5.out.cells6
  obtain ⟨g0, g1, g2, g3, g4, g5⟩ := R5.out.free6
  have O6 : Hid (Blk (w5.setCell ⟨w.heap.size + 1 + 1, 5, none⟩ (.slice a4 ns.length ns.length)) (w.heap.size + 1 + 1) #[.bool up, .slice a1 rs.length c1, .int .i64 f, .slice a2 ws.length c2, .slice a3 hs.length hs.length, .slice a4 ns.length ns.length] 41) := by
    have := O5.out.set_ 5 (.slice a4 ns.length ns.length)
    show Blk _ _ _ _
    simpa using this
  obtain ⟨p0, p1, p2, p3, p4, p5⟩ := O6.out.cells6
  have hc : c3 = hs.length := hc3.out
  subst hc
  go_wp2
  refine bodyPost_ret (v := worldV up (.slice a1 rs.length c1) f (.slice a2 ws.length c2) (.slice a3 hs.length hs.length) (.slice a4 ns.length ns.length)) (by simp [results, Tryz.results9, go_sem, *]) rfl ?_
  refine ⟨a1, c1, a2, c2, a3, hs.length, a4, ns.length, ps, hps, w1.heap.size, w3.heap.size, rfl, HP1.out, ?_, HP3.out, ?_, ?_, by simp; omega, by omega, ?_⟩
  · refine DkOwn.lo (lo := w0.heap.size) ?_ (by omega)
    iterate 7 (refine DkOwn.setBelow ?_ (by omega) _)
    exact D5.out
  · refine HMadeI.lo (lo := w2.heap.size) ?_ (by omega)
    iterate 7 (refine HMadeI.setBelow ?_ (by omega) _)
    exact H5.out
  · refine ownsRow_base (base := w4.heap.size) ?_ (by omega)
    iterate 7 (refine ownsRow_setCell_below ?_ (by show _ < w4.heap.size; simp; omega) _)
    exact N5.out
  · iterate 7 (refine Below.setCell ?_ (by first | (simp; done) | (simp; omega)) _)
    exact B5.out

end Go.Proofs.YtkkkdgpbmmjieaaGreatDoor

namespace Go.Proofs.YtkkkdgpbmmjieaaGreatDoor
open Go.RowKit

theorem HMadeI.mid {w w' : World} {l h lo hi : Nat} {v : Value} {ps : List (Hd × Value)} (k : HMadeI w lo hi v ps) (hb : Mid l h w w') (hl : h ≤ lo) : HMadeI w' lo hi v ps := by
  obtain ⟨g, c, rfl, h2, h3, h4⟩ := k
  have hg := (h2.lt g rfl).1
  exact ⟨g, c, rfl, ownsRow_mid h2 hb (fun x hx => Or.inr (by have := (h2.lt x hx).1; omega)), HIn.mid hb h3 (by omega), Nat.le_trans h4 hb.size⟩
theorem markHousesI_made (v : Value) (lo hi : Nat) (ps : List (Hd × Value)) (k : Int) (w : World) (hv : HMadeI w lo hi v ps) (hl : htot (ps.map (·.1)) ≤ 1048576) (hk0 : 0 ≤ k) (hk1 : k ≤ 10000000) :
    Calls Tryz.prog 54 #[v, .int .i64 k] w fun e w' => ∃ K : Int, e = .returned (.int .i64 K) ∧ k ≤ K ∧ K ≤ k + 8388608 ∧ Mid lo hi w w' := by
  obtain ⟨g, c, rfl, h2, h3, h4⟩ := hv
  exact markHousesI_any g c ps.length lo hi ps k w h2 h3 hl hk0 hk1

set_option maxRecDepth 100000 in
set_option maxHeartbeats 4000000 in
theorem markWorldI_any (up : Bool) (a1 a2 a3 a4 : Option Addr) (c1 c2 c3 c4 n1 n2 n3 : Nat) (f : Int) (ps : List (R × Value)) (ws : List Wd) (hps : List (Hd × Value)) (ns : List Wd) (lo p1 p2 hi : Nat) (w : World)
    (hd : DkOwn w lo p1 (.slice a1 n1 c1) (.slice a2 n2 c2) ps ws) (hh : HMadeI w p1 p2 (.slice a3 n3 c3) hps) (hn : w.ownsRow p2 82 4 (.slice a4 ns.length c4) ns.length (wflat ns)) (hb4 : ∀ g, (Value.slice a4 ns.length c4).ownBlock = some g → g < hi) (hlo : lo ≤ p1) (hp1 : p1 ≤ p2) (hp2 : p2 ≤ hi) (hhi : hi ≤ w.heap.size)
    (hl : wdTot (ps.map (·.1)) ws (hps.map (·.1)) ns ≤ 1048576) :
    Calls Tryz.prog 15 #[worldV up (.slice a1 n1 c1) f (.slice a2 n2 c2) (.slice a3 n3 c3) (.slice a4 ns.length c4), .int .i64 1] w fun e w' => ∃ K : Int, e = .returned (.int .i64 K) ∧ 0 ≤ K ∧ Mid lo hi w w' := by
  have hl1 : tot (ps.map (·.1)) ≤ 1048576 := by unfold wdTot at hl; omega
  have hl2 : ws.length ≤ 1048576 := by unfold wdTot at hl; omega
  have hl3 : htot (hps.map (·.1)) ≤ 1048576 := by unfold wdTot at hl; omega
  have hl4 : ns.length ≤ 1048576 := by unfold wdTot at hl; omega
  clear hl
  have MD : Hid (∀ W, DkOwn W lo p1 (.slice a1 n1 c1) (.slice a2 n2 c2) ps ws → Calls Tryz.prog 53 #[deskV up (.slice a1 n1 c1) f (.slice a2 n2 c2), .int .i64 1] W fun e w' => ∃ K : Int, e = .returned (.int .i64 K) ∧ 0 ≤ K ∧ K ≤ 10000000 ∧ Mid lo p1 W w') := fun W h => by
    refine (markDesk_any up _ _ ps f ws 1 lo p1 W h hl1 hl2 (by omega) (by omega)).mono ?_
    rintro e w' ⟨rfl, -, hm⟩
    have hb := kAt_bounds (ps.map (·.1)) 1
    exact ⟨_, rfl, by unfold kDk; omega, by unfold kDk; omega, hm⟩
  have MH : Hid (∀ (W : World) (k : Int), HMadeI W p1 p2 (.slice a3 n3 c3) hps → 0 ≤ k → k ≤ 10000000 → Calls Tryz.prog 54 #[.slice a3 n3 c3, .int .i64 k] W fun e w' => ∃ K : Int, e = .returned (.int .i64 K) ∧ k ≤ K ∧ K ≤ k + 8388608 ∧ Mid p1 p2 W w') := fun W k h h0 h1 =>
    markHousesI_made _ p1 p2 hps k W h hl3 h0 h1
  have MW : Hid (∀ (W : World) (k : Int), W.ownsRow p2 82 4 (.slice a4 ns.length c4) ns.length (wflat ns) → 0 ≤ k → k ≤ 100000000 → Calls Tryz.prog 55 #[.slice a4 ns.length c4, .int .i64 k] W fun e w' => ∃ K : Int, e = .returned (.int .i64 K) ∧ 0 ≤ K ∧ Mid p2 hi W w') := fun W k h h0 h1 => by
    refine (markWords_any _ ns k p2 ns.length W h hl4 h0 (by omega)).mono ?_
    rintro e w' ⟨rfl, -, hg⟩
    exact ⟨_, rfl, by omega, Mid.of_grown hg (fun x hx => ⟨(h.lt x hx).1, hb4 x hx⟩)⟩
  have D0 := hide_it hd
  have H0 := hide_it hh
  have N0 := hide_it hn
  have HB4 := hide_it hb4
  clear hd hh hn hb4 hl1 hl2 hl3 hl4
  obtain ⟨w1, hw1⟩ : ∃ W, Hid (W = w.alloc (.cells #[.bool up, .slice a1 n1 c1, .int .i64 f, .slice a2 n2 c2, .slice a3 n3 c3, .slice a4 ns.length c4] 41)) := ⟨_, rfl⟩
  have B1 : Hid (Below w.heap.size w w1) := by show Below _ _ _; rw [hw1.out]; exact alloc_below _ _
  have A1 : Hid (Blk w1 w.heap.size #[.bool up, .slice a1 n1 c1, .int .i64 f, .slice a2 n2 c2, .slice a3 n3 c3, .slice a4 ns.length c4] 41) := by show Blk _ _ _ _; rw [hw1.out]; exact Blk.new _ _ _
  have D1 := hide_it (D0.out.below B1.out (by omega))
  have H1 := hide_it (H0.out.below B1.out)
  have N1 := hide_it (ownsRow_below N0.out B1.out (fun k hk => (N0.out.lt k hk).2))
  go_enter Tryz.func15, Tryz.ntmps15
  go_wp2_with fail
  rw [← hw1.out]
  refine (MD.out _ D1.out).mono ?_
  rintro e w2 ⟨K1, rfl, hk0, hk1, hm2⟩
  have A2 := hide_it (A1.out.mid hm2 (Or.inr (by omega)))
  have H2 := hide_it (H1.out.mid hm2 (Nat.le_refl _))
  have N2 := hide_it (ownsRow_mid N1.out hm2 (fun k hk => Or.inr (by have := (N1.out.lt k hk).1; omega)))
  have M2 : Hid (Mid lo hi w w2) := (Mid.of_below B1.out (Nat.le_refl _)).trans (Mid.wide hm2 (Nat.le_refl _) (by omega))
  clear hm2
  obtain ⟨x0, x1, x2, x3, x4, x5⟩ := A2.out.cells6
  go_wp2_with fail
  refine (MH.out _ _ H2.out hk0 hk1).mono ?_
  rintro e w3 ⟨K2, rfl, hk2, hk3, hm3⟩
  have A3 := hide_it (A2.out.mid hm3 (Or.inr (by omega)))
  have N3 := hide_it (ownsRow_mid N2.out hm3 (fun k hk => Or.inr (by have := (N2.out.lt k hk).1; omega)))
  have M3 : Hid (Mid lo hi w w3) := M2.out.trans (Mid.wide hm3 hlo hp2)
  clear hm3 x0 x1 x2 x3 x4 x5
  obtain ⟨x0, x1, x2, x3, x4, x5⟩ := A3.out.cells6
  go_wp2_with fail
  refine (MW.out _ _ N3.out (by omega) (by omega)).mono ?_
  rintro e w4 ⟨K3, rfl, hk4, hm4⟩
  have M4 : Hid (Mid lo hi w w4) := M3.out.trans (Mid.wide hm4 (by omega) (Nat.le_refl _))
  go_wp2
  go_ret
  exact ⟨K3, rfl, hk4, M4.out⟩

end Go.Proofs.YtkkkdgpbmmjieaaGreatDoor

namespace Go.Proofs.YtkkkdgpbmmjieaaGreatDoor
open Go.RowKit

/-- The lists of a world, and the forms of its desk's. -/
def WdIn (w : World) (v u hv nv : Value) (rs : List R) (ws : List Wd) (hs : List Hd) (ns : List Wd) : Prop := WdAt w v u hv nv rs ws hs ns ∧ Form v rs.length ∧ Form u ws.length
theorem WdIn.later {B : Nat} {w w' : World} {v u hv nv : Value} {rs : List R} {ws : List Wd} {hs : List Hd} {ns : List Wd} (h : WdIn w v u hv nv rs ws hs ns) (hb : Below B w w') (hB : w.heap.size ≤ B) : WdIn w' v u hv nv rs ws hs ns := ⟨h.1.later hb hB, h.2⟩
theorem wd_in {w : World} {lo hi lo2 lo3 : Nat} {v u hv nv : Value} {ps : List (R × Value)} {hps : List (Hd × Value)} {rs : List R} {ws : List Wd} {hs : List Hd} {ns : List Wd} (hp : ps.map (·.1) = rs) (hd : DkOwn w lo hi v u ps ws) (hq : hps.map (·.1) = hs) (hh : HMade w lo2 hv hps) (hn : w.ownsRow lo3 82 4 nv ns.length (wflat ns)) : WdIn w v u hv nv rs ws hs ns := by
  have h1 := hd.in_ hp
  have h2 := hh.houses
  rw [hq] at h2
  exact ⟨⟨h1.1, h2, words_of_row hn⟩, h1.2⟩

set_option maxHeartbeats 1000000 in
theorem lawWOk_great (up : Bool) (v u hv nv : Value) (rs : List R) (f : Int) (ws : List Wd) (hs : List Hd) (ns : List Wd) (w : World) (hv' : WdAt w v u hv nv rs ws hs ns) (hf : WdFit rs ws hs ns) (hg : 1048576 < ((wdTot rs ws hs ns : Nat) : Int)) :
    Calls Tryz.prog 3 #[worldV up v f u hv nv] w fun e w' => e = .returned (.bool true) ∧ Below w.heap.size w w' := by
  have HS : Hid (∀ o, Calls Tryz.prog 7 #[worldV up v f u hv nv, .int .i64 1048576] (w.alloc o) fun e w' => e = .returned (.int .i64 (-1)) ∧ Below (w.alloc o).heap.size (w.alloc o) w') := fun o => by
    have := szWorld_any up v u hv nv rs f ws hs ns 1048576 (w.alloc o) (hv'.later (alloc_below w o) (Nat.le_refl _)) hf (by omega) (by omega)
    rw [leftOf_neg (by omega)] at this
    exact this
  obtain ⟨av, cv, au, cu, ah, ch, an, cn, rfl, rfl, rfl, rfl⟩ := hv'.shape
  clear hv' hf hg
  go_enter Tryz.func3, Tryz.ntmps3
  go_wp2_with (go_at_call 7; refine (HS.out _).mono ?_; rintro e w1 ⟨rfl, hb⟩)
  go_ret
  exact ⟨rfl, below_after (by assumption)⟩

set_option maxHeartbeats 8000000 in
theorem lawWOk_small (up : Bool) (v u hv nv : Value) (rs : List R) (f : Int) (ws : List Wd) (hs : List Hd) (ns : List Wd) (a : Addr) (w : World) (hv' : WdAt w v u hv nv rs ws hs ns) (hf : WdFit rs ws hs ns) (ha : ErrAt w a) (hlt : wdTot rs ws hs ns ≤ 1048576) :
    Calls Tryz.prog 3 #[worldV up v f u hv nv] w fun e w' => e = .returned (.bool true) ∧ Below w.heap.size w w' := by
  have HS : Hid (∀ o, Calls Tryz.prog 7 #[worldV up v f u hv nv, .int .i64 1048576] (w.alloc o) fun e w' => e = .returned (.int .i64 (1048576 - ((wdTot rs ws hs ns : Nat) : Int))) ∧ Below (w.alloc o).heap.size (w.alloc o) w') := fun o => by
    have := szWorld_any up v u hv nv rs f ws hs ns 1048576 (w.alloc o) (hv'.later (alloc_below w o) (Nat.le_refl _)) hf (by omega) (by omega)
    rw [leftOf_pos (by omega)] at this
    exact this
  have HL := hide_it hlt
  obtain ⟨TT, hTT⟩ : ∃ x, wdTot rs ws hs ns = x := ⟨_, rfl⟩
  rw [hTT] at HS hlt
  clear hTT
  have HV : Hid (∀ W, Below w.heap.size w W → WdAt W v u hv nv rs ws hs ns) := fun W h => hv'.later h (Nat.le_refl _)
  have HA : Hid (∀ W, Below w.heap.size w W → ErrAt W a) := fun W h => ha.later h (Nat.le_refl _)
  obtain ⟨av, cv, au, cu, ah, ch, an, cn, h1, h2, h3, h4⟩ := hv'.shape
  have H0 : Hid (Blk (w.alloc (.cells #[.bool up, v, .int .i64 f, u, hv, nv] 30)) w.heap.size #[.bool up, v, .int .i64 f, u, hv, nv] 30) := Blk.new _ _ _
  clear hv' ha hf
  subst h1 h2 h3 h4
  obtain ⟨BB, hBB⟩ : ∃ b, Hid (wdOk up rs f ws hs ns = b) := ⟨_, rfl⟩
  have HTO : Hid (∀ W, Below w.heap.size w W → Calls Tryz.prog 9 #[worldV up (.slice av rs.length cv) f (.slice au ws.length cu) (.slice ah hs.length ch) (.slice an ns.length cn)] W fun e w' => ∃ a1 c1 a2 c2 a3 c3 a4 c4, e = .returned (worldV up (.slice a1 rs.length c1) f (.slice a2 ws.length c2) (.slice a3 hs.length c3) (.slice a4 ns.length c4)) ∧ WdIn w' (.slice a1 rs.length c1) (.slice a2 ws.length c2) (.slice a3 hs.length c3) (.slice a4 ns.length c4) rs ws hs ns ∧ Below W.heap.size W w') := fun W h =>
    (toWorld_any up _ _ _ _ rs f ws hs ns W (HV.out W h) HL.out).mono fun e w' ⟨a1, c1, a2, c2, a3, c3, a4, c4, ps, hps, he, hp, hd, hq, hh, hn, hb⟩ => ⟨a1, c1, a2, c2, a3, c3, a4, c4, he, wd_in hp hd hq hh hn, hb⟩
  have HSP : Hid (∀ (x y z t : Value) (W : World), WdIn W x y z t rs ws hs ns → Calls Tryz.prog 8 #[worldV up x f y z t] W fun e w' => e = .returned (.bool BB) ∧ Below W.heap.size W w') := fun x y z t W h => by
    have := specWorldOk_any up x y z t rs f ws hs ns W h.1 h.2.2 HL.out; rw [hBB.out] at this; exact this
  have HIM : Hid (∀ (x y z t : Value) (W : World), WdIn W x y z t rs ws hs ns → ErrAt W a → Calls Tryz.prog 10 #[worldV up x f y z t] W fun e w' => e = .returned (.bool BB) ∧ Below W.heap.size W w') := fun x y z t W h h2 => by
    have := implWorldOk_any up x y z t rs f ws hs ns a W h.1 h.2.1 HL.out h2; rw [hBB.out] at this; exact this
  go_enter Tryz.func3, Tryz.ntmps3
  -- how great it is
  go_wp2_with fail
  refine (HS.out _).mono ?_
  rintro e w1 ⟨rfl, hb1⟩
  have B1 := hide_it (below_after hb1)
  have T1 := hide_it (H0.out.after hb1)
  have hz1 : w.heap.size ≤ w1.heap.size := B1.out.size
  clear hb1
  obtain ⟨x0, x1, x2, x3, x4, x5⟩ := T1.out.cells6
  -- w0
  go_wp2_with fail
  refine (HTO.out w1 B1.out).mono ?_
  rintro e w2 ⟨q1, r1, q2, r2, q3, r3, q4, r4, rfl, hi2, hb2⟩
  have B2 := hide_it (B1.out.trans (hb2.mono hz1))
  have T2 := hide_it (T1.out.after hb2)
  have V2 := hide_it hi2
  have hz2 : w.heap.size ≤ w2.heap.size := B2.out.size
  clear hb2 hi2 x0 x1 x2 x3 x4 x5
  go_wp2_with fail
  refine (HSP.out _ _ _ _ w2 V2.out).mono ?_
  rintro e w3 ⟨rfl, hb3⟩
  have B3 := hide_it (B2.out.trans (hb3.mono hz2))
  have T3 := hide_it (T2.out.after hb3)
  have hz3 : w.heap.size ≤ w3.heap.size := B3.out.size
  clear hb3 V2
  obtain ⟨x0, x1, x2, x3, x4, x5⟩ := T3.out.cells6
  go_wp2_with fail
  refine (HTO.out w3 B3.out).mono ?_
  rintro e w4 ⟨a1, c1, a2, c2, a3, c3, a4, c4, rfl, hi4, hb4⟩
  have B4 := hide_it (B3.out.trans (hb4.mono hz3))
  have T4 := hide_it (T3.out.after hb4)
  have V4 := hide_it hi4
  have hz4 : w.heap.size ≤ w4.heap.size := B4.out.size
  clear hb4 hi4 x0 x1 x2 x3 x4 x5
  obtain ⟨w5, hw5⟩ : ∃ W, Hid (W = w4.alloc (.cells #[.bool up, .slice a1 rs.length c1, .int .i64 f, .slice a2 ws.length c2, .slice a3 hs.length c3, .slice a4 ns.length c4] 41)) := ⟨_, rfl⟩
  have al5 := hide_it (show Below w4.heap.size w4 w5 by rw [hw5.out]; exact alloc_below _ _)
  have B5 := hide_it (B4.out.trans (al5.out.mono hz4))
  have T5 := hide_it (T4.out.after al5.out)
  have V5 := hide_it (V4.out.later al5.out (Nat.le_refl _))
  have X5 : Hid (Blk w5 w4.heap.size #[.bool up, .slice a1 rs.length c1, .int .i64 f, .slice a2 ws.length c2, .slice a3 hs.length c3, .slice a4 ns.length c4] 41) := by show Blk _ _ _ _; rw [hw5.out]; exact Blk.new _ _ _
  go_wp2_with fail
  rw [← hw5.out]
  refine (HIM.out _ _ _ _ w5 V5.out (HA.out _ B5.out)).mono ?_
  rintro e w9 ⟨rfl, hb9⟩
  have B9 := hide_it (B5.out.trans (hb9.mono B5.out.size))
  have T9 := hide_it (T5.out.after hb9)
  have X9 := hide_it (X5.out.after hb9)
  have R9x := hide_it (V5.out.1.later hb9 (Nat.le_refl _))
  clear hb9
  obtain ⟨c0, c1', c2', c3', c4', c5'⟩ := T9.out.cells6
  obtain ⟨x0, x1, x2, x3, x4, x5⟩ := X9.out.cells6
  cases BB
  all_goals
    go_wp2_with fail
    go_region_held (fun w' => (w'.cell? ⟨w4.heap.size, 0, none⟩ = some (.bool up) ∧ w'.cell? ⟨w4.heap.size, 1, none⟩ = some (.slice a1 rs.length c1) ∧ w'.cell? ⟨w4.heap.size, 2, none⟩ = some (.int .i64 f) ∧ w'.cell? ⟨w4.heap.size, 3, none⟩ = some (.slice a2 ws.length c2) ∧ w'.cell? ⟨w4.heap.size, 4, none⟩ = some (.slice a3 hs.length c3) ∧ w'.cell? ⟨w4.heap.size, 5, none⟩ = some (.slice a4 ns.length c4)) ∧ (w'.cell? ⟨w.heap.size, 0, none⟩ = some (.bool up) ∧ w'.cell? ⟨w.heap.size, 1, none⟩ = some (.slice av rs.length cv) ∧ w'.cell? ⟨w.heap.size, 2, none⟩ = some (.int .i64 f) ∧ w'.cell? ⟨w.heap.size, 3, none⟩ = some (.slice au ws.length cu) ∧ w'.cell? ⟨w.heap.size, 4, none⟩ = some (.slice ah hs.length ch) ∧ w'.cell? ⟨w.heap.size, 5, none⟩ = some (.slice an ns.length cn))) (go_keep)
      (first
      | (go_at_call 9; refine (HTO.out _ ?_).mono ?_; exact B9.out.drew; rintro e w10 ⟨b1, d1, b2, d2, b3, d3, b4, d4, rfl, hi10, hb10⟩; have hb10' := (Below.refl w9.heap.size w9).drew.trans hb10; have L10 := hide_it hb10'; have y10 := R9x.out.later hb10' (Nat.le_refl _); have v10 := hi10.1; obtain ⟨x100, x101, x102, x103, x104, x105⟩ := (X9.out.after hb10').cells6; obtain ⟨c100, c101, c102, c103, c104, c105⟩ := (T9.out.after hb10').cells6; clear hb10 hb10' hi10)
      | (go_at_call 11; refine (eqWorld_any up _ _ _ _ _ _ _ _ rs f ws hs ns _ ?_ ?_ HL.out).mono ?_; assumption; assumption; rintro e w11 ⟨rfl, hb11⟩; have L11 := hide_it (L10.out.trans (hb11.mono L10.out.size)); obtain ⟨x110, x111, x112, x113, x114, x115⟩ := (X9.out.after L11.out).cells6; obtain ⟨c110, c111, c112, c113, c114, c115⟩ := (T9.out.after L11.out).cells6; clear hb11))
    go_wp2
    go_ret
    exact ⟨rfl, B9.out.trans (L11.out.mono B9.out.size)⟩

theorem lawWOk_any (up : Bool) (v u hv nv : Value) (rs : List R) (f : Int) (ws : List Wd) (hs : List Hd) (ns : List Wd) (a : Addr) (w : World) (hv' : WdAt w v u hv nv rs ws hs ns) (hf : WdFit rs ws hs ns) (ha : ErrAt w a) :
    Calls Tryz.prog 3 #[worldV up v f u hv nv] w fun e w' => e = .returned (.bool true) ∧ Below w.heap.size w w' := by
  by_cases hl : wdTot rs ws hs ns ≤ 1048576
  · exact lawWOk_small up v u hv nv rs f ws hs ns a w hv' hf ha hl
  · exact lawWOk_great up v u hv nv rs f ws hs ns w hv' hf (by omega)

end Go.Proofs.YtkkkdgpbmmjieaaGreatDoor

namespace Go.Proofs.YtkkkdgpbmmjieaaGreatDoor
open Go.RowKit

theorem HIn.get {w : World} {p : Hd × Value} : ∀ {ps : List (Hd × Value)} {lo hi i : Nat}, HIn w lo hi ps → ps[i]? = some p → ∃ l h us, us.map (·.1) = p.1.2.2.2.1 ∧ OwnRecs w l h p.2 us
  | [], _, _, _, _, h => by simp at h
  | _ :: _, _, _, 0, ⟨_, _, ⟨us, hu, ho⟩, _⟩, h => by simp at h; subst h; exact ⟨_, _, us, hu, ho⟩
  | _ :: _, _, _, i + 1, ⟨_, _, _, h4⟩, h => HIn.get (i := i) h4 (by simpa using h)
theorem HMadeI.hf {w : World} {lo hi : Nat} {v : Value} {ps : List (Hd × Value)} {hs : List Hd} (h : HMadeI w lo hi v ps) (hq : ps.map (·.1) = hs) : HF w v hs := by
  obtain ⟨g, c, rfl, h2, h3, h4⟩ := h
  subst hq
  refine ⟨g, 0, c, by simp, fun i x hx => ?_⟩
  rw [List.getElem?_map] at hx
  cases hp : ps[i]? with
  | none => rw [hp] at hx; cases hx
  | some p =>
    rw [hp] at hx
    simp at hx
    subst hx
    have hil : i < ps.length := by
      by_cases e : i < ps.length
      · exact e
      · rw [List.getElem?_eq_none (by omega)] at hp; cases hp
    obtain ⟨l, t, us, hu, ho⟩ := h3.get hp
    obtain ⟨f0, f1, f2, f3, f4⟩ := hoflat_get ps i p hp
    refine ⟨p.2, ⟨?_, ?_, ?_, ?_, ?_, by rw [← hu]; exact ho.recs⟩, by rw [← hu, List.length_map]; exact form_of_row ho.1⟩
    · rw [Nat.zero_add, h2.cellAt _ (by omega)]; exact f0
    · rw [Nat.zero_add, h2.cellAt _ (by omega)]; exact f1
    · rw [Nat.zero_add, h2.cellAt _ (by omega)]; exact f2
    · rw [Nat.zero_add, h2.cellAt _ (by omega)]; exact f3
    · rw [Nat.zero_add, h2.cellAt _ (by omega)]; exact f4
theorem HF.houses {w : World} {v : Value} {hs : List Hd} (h : HF w v hs) : Houses w v hs := by
  obtain ⟨b, off, cap, rfl, h3⟩ := h
  by_cases hz : hs = []
  · subst hz; exact Or.inl ⟨rfl, _, _, rfl⟩
  · exact Or.inr ⟨b, off, cap, rfl, hz, fun i x hx => by obtain ⟨u, hu, _⟩ := h3 i x hx; exact ⟨u, hu⟩⟩
def WhIn (w : World) (v u hv nv : Value) (rs : List R) (ws : List Wd) (hs : List Hd) (ns : List Wd) : Prop := WdIn w v u hv nv rs ws hs ns ∧ HF w hv hs
theorem WhIn.later {B : Nat} {w w' : World} {v u hv nv : Value} {rs : List R} {ws : List Wd} {hs : List Hd} {ns : List Wd} (h : WhIn w v u hv nv rs ws hs ns) (hb : Below B w w') (hB : w.heap.size ≤ B) : WhIn w' v u hv nv rs ws hs ns := ⟨h.1.later hb hB, h.2.later hb hB⟩
theorem wh_in {w : World} {lo p1 p2 : Nat} {v u hv nv : Value} {ps : List (R × Value)} {hps : List (Hd × Value)} {rs : List R} {ws : List Wd} {hs : List Hd} {ns : List Wd} (hp : ps.map (·.1) = rs) (hd : DkOwn w lo p1 v u ps ws) (hq : hps.map (·.1) = hs) (hh : HMadeI w p1 p2 hv hps) (hn : w.ownsRow p2 82 4 nv ns.length (wflat ns)) : WhIn w v u hv nv rs ws hs ns := by
  have h1 := hd.in_ hp
  have h2 := hh.hf hq
  exact ⟨⟨⟨h1.1, h2.houses, words_of_row hn⟩, h1.2⟩, h2⟩
theorem whO_len (up : Bool) (rs : List R) (f : Int) (ws : List Wd) (hs : List Hd) (ns : List Wd) (trip : Int) : (whO up rs f ws hs ns trip).length ≤ 3 := by
  unfold whO
  split
  · rename_i h
    unfold whB at h
    simp only [wdOk, hsOk, Bool.and_eq_true, decide_eq_true_eq] at h
    rw [List.length_map, h.1.1.2.1]
    exact Nat.le_refl _
  · simp

end Go.Proofs.YtkkkdgpbmmjieaaGreatDoor

namespace Go.Proofs.YtkkkdgpbmmjieaaGreatDoor
open Go.RowKit

set_option maxHeartbeats 1000000 in
theorem lawWh_great (up : Bool) (v u hv nv : Value) (rs : List R) (f : Int) (ws : List Wd) (hs : List Hd) (ns : List Wd) (trip : Int) (w : World) (hv' : WdAt w v u hv nv rs ws hs ns) (hf : WdFit rs ws hs ns) (hg : 1048576 < ((wdTot rs ws hs ns : Nat) : Int)) :
    Calls Tryz.prog 4 #[worldV up v f u hv nv, .int .i64 trip] w fun e w' => e = .returned (.bool true) ∧ Below w.heap.size w w' := by
  have HS : Hid (∀ o, Calls Tryz.prog 7 #[worldV up v f u hv nv, .int .i64 1048576] (w.alloc o) fun e w' => e = .returned (.int .i64 (-1)) ∧ Below (w.alloc o).heap.size (w.alloc o) w') := fun o => by
    have := szWorld_any up v u hv nv rs f ws hs ns 1048576 (w.alloc o) (hv'.later (alloc_below w o) (Nat.le_refl _)) hf (by omega) (by omega)
    rw [leftOf_neg (by omega)] at this
    exact this
  obtain ⟨av, cv, au, cu, ah, ch, an, cn, rfl, rfl, rfl, rfl⟩ := hv'.shape
  clear hv' hf hg
  go_enter Tryz.func4, Tryz.ntmps4
  go_wp2_with (go_at_call 7; refine (HS.out _).mono ?_; rintro e w1 ⟨rfl, hb⟩)
  go_ret
  exact ⟨rfl, below_after (by assumption)⟩

set_option maxRecDepth 100000 in
set_option maxHeartbeats 8000000 in
theorem lawWh_small (up : Bool) (v u hv nv : Value) (rs : List R) (f : Int) (ws : List Wd) (hs : List Hd) (ns : List Wd) (trip : Int) (a : Addr) (w : World) (hv' : WdAt w v u hv nv rs ws hs ns) (hf : WdFit rs ws hs ns) (ha : ErrAt w a) (hlt : wdTot rs ws hs ns ≤ 1048576) :
    Calls Tryz.prog 4 #[worldV up v f u hv nv, .int .i64 trip] w fun e w' => e = .returned (.bool true) ∧ Below w.heap.size w w' := by
  have HS : Hid (∀ o, Calls Tryz.prog 7 #[worldV up v f u hv nv, .int .i64 1048576] (w.alloc o) fun e w' => e = .returned (.int .i64 (1048576 - ((wdTot rs ws hs ns : Nat) : Int))) ∧ Below (w.alloc o).heap.size (w.alloc o) w') := fun o => by
    have := szWorld_any up v u hv nv rs f ws hs ns 1048576 (w.alloc o) (hv'.later (alloc_below w o) (Nat.le_refl _)) hf (by omega) (by omega)
    rw [leftOf_pos (by omega)] at this
    exact this
  have HL := hide_it hlt
  obtain ⟨TT, hTT⟩ : ∃ x, wdTot rs ws hs ns = x := ⟨_, rfl⟩
  rw [hTT] at HS hlt
  clear hTT
  have HV : Hid (∀ W, Below w.heap.size w W → WdAt W v u hv nv rs ws hs ns) := fun W h => hv'.later h (Nat.le_refl _)
  have HA : Hid (∀ W, Below w.heap.size w W → ErrAt W a) := fun W h => ha.later h (Nat.le_refl _)
  obtain ⟨av, cv, au, cu, ah, ch, an, cn, h1, h2, h3, h4⟩ := hv'.shape
  have H0 : Hid (Blk (w.alloc (.cells #[.bool up, v, .int .i64 f, u, hv, nv] 30)) w.heap.size #[.bool up, v, .int .i64 f, u, hv, nv] 30) := Blk.new _ _ _
  clear hv' ha hf
  subst h1 h2 h3 h4
  have h3 := whO_len up rs f ws hs ns trip
  obtain ⟨out, hout⟩ : ∃ x, whO up rs f ws hs ns trip = x := ⟨_, rfl⟩
  rw [hout] at h3
  have H3 := hide_it h3
  have HTO : Hid (∀ W, Below w.heap.size w W → Calls Tryz.prog 9 #[worldV up (.slice av rs.length cv) f (.slice au ws.length cu) (.slice ah hs.length ch) (.slice an ns.length cn)] W fun e w' => ∃ a1 c1 a2 c2 a3 c3 a4 c4, e = .returned (worldV up (.slice a1 rs.length c1) f (.slice a2 ws.length c2) (.slice a3 hs.length c3) (.slice a4 ns.length c4)) ∧ WhIn w' (.slice a1 rs.length c1) (.slice a2 ws.length c2) (.slice a3 hs.length c3) (.slice a4 ns.length c4) rs ws hs ns ∧ (∃ ps hps p1 p2, ps.map (·.1) = rs ∧ DkOwn w' W.heap.size p1 (.slice a1 rs.length c1) (.slice a2 ws.length c2) ps ws ∧ hps.map (·.1) = hs ∧ HMadeI w' p1 p2 (.slice a3 hs.length c3) hps ∧ w'.ownsRow p2 82 4 (.slice a4 ns.length c4) ns.length (wflat ns) ∧ p2 ≤ w'.heap.size ∧ W.heap.size ≤ p1) ∧ Below W.heap.size W w') := fun W h =>
    (toWorldI_any up _ _ _ _ rs f ws hs ns W (HV.out W h) HL.out).mono fun e w' ⟨a1, c1, a2, c2, a3, c3, a4, c4, ps, hps, p1, p2, he, hp, hd, hq, hh, hn, hp2, hp1, hb⟩ => ⟨a1, c1, a2, c2, a3, c3, a4, c4, he, wh_in hp hd hq hh hn, ⟨ps, hps, p1, p2, hp, hd, hq, hh, hn, hp2, hp1⟩, hb⟩
  have HSP : Hid (∀ (x y z t : Value) (W : World), WhIn W x y z t rs ws hs ns → Calls Tryz.prog 12 #[worldV up x f y z t, .int .i64 trip] W fun e w' => WhOut W w' e out) := fun x y z t W h => by
    have := specWHolds_any up x y z t rs f ws hs ns trip W h.1.1 h.1.2.2 h.2 HL.out; rw [hout] at this; exact this
  have HIM : Hid (∀ (x y z t : Value) (W : World), WhIn W x y z t rs ws hs ns → ErrAt W a → Calls Tryz.prog 13 #[worldV up x f y z t, .int .i64 trip] W fun e w' => WhOut W w' e out) := fun x y z t W h h2 => by
    have := implWHolds_any up x y z t rs f ws hs ns trip a W h.1.1 h.1.2.1 h.2 HL.out h2; rw [hout] at this; exact this
  clear hout h3
  go_enter Tryz.func4, Tryz.ntmps4
  go_wp2_with fail
  refine (HS.out _).mono ?_
  rintro e w1 ⟨rfl, hb1⟩
  have B1 := hide_it (below_after hb1)
  have T1 := hide_it (H0.out.after hb1)
  clear hb1
  obtain ⟨t0, t1, t2, t3, t4, t5⟩ := T1.out.cells6
  go_wp2_with fail
  refine (HTO.out w1 B1.out).mono ?_
  rintro e w2 ⟨q1, r1, q2, r2, q3, r3, q4, r4, rfl, hi2, -, hb2⟩
  have B2 := hide_it (B1.out.trans (hb2.mono B1.out.size))
  have T2 := hide_it (T1.out.after hb2)
  have V2 := hide_it hi2
  clear hb2 hi2
  clear t0 t1 t2 t3 t4 t5
  go_wp2_with fail
  refine (HSP.out _ _ _ _ w2 V2.out).mono ?_
  rintro e w3 ⟨sa, sc, rfl, hr3, hb3⟩
  have B3 := hide_it (B2.out.trans (hb3.mono B2.out.size))
  have T3 := hide_it (T2.out.after hb3)
  have EW : Hid (∀ W, Below w3.heap.size w3 W → Holds W (.slice sa out.length sc) out) := fun W h => (holds_of_row hr3).later h (Nat.le_refl _)
  have L3 : Hid (Below w3.heap.size w3 w3) := Below.refl _ _
  clear hb3 hr3 V2
  obtain ⟨t0, t1, t2, t3, t4, t5⟩ := T3.out.cells6
  go_wp2_with fail
  refine (HTO.out w3 B3.out).mono ?_
  rintro e w4 ⟨a1, c1, a2, c2, a3, c3, a4, c4, rfl, hi4, hown4, hb4⟩
  have B4 := hide_it (B3.out.trans (hb4.mono B3.out.size))
  have L4 := hide_it (L3.out.trans (hb4.mono L3.out.size))
  have T4 := hide_it (T3.out.after hb4)
  have V4 := hide_it hi4
  have O4 := hide_it hown4
  clear hb4 hi4 hown4
  clear t0 t1 t2 t3 t4 t5
  obtain ⟨ps, hps, p1, p2, hp4, hd4, hq4, hh4, hn4, hp24, h34⟩ := O4.out
  have h12 : p1 ≤ p2 := by
    obtain ⟨g, c, e, h2, h3, h4⟩ := hh4
    have := h3.le
    have := (h2.lt g (by rw [e]; rfl)).1
    omega
  have HB4 : Hid (∀ g, (Value.slice a4 ns.length c4).ownBlock = some g → g < w4.heap.size) := fun g hg => (hn4.lt g hg).2
  have HP4 := hide_it hp4
  have HQ4 := hide_it hq4
  have D4 := hide_it hd4
  have K4 := hide_it hh4
  have N4 := hide_it hn4
  have hw0 : w.heap.size < w3.heap.size := T3.out.lt
  clear hp4 hd4 hq4 hh4 hn4 O4
  obtain ⟨w5, hw5⟩ : ∃ W, Hid (W = w4.alloc (.cells #[.bool up, .slice a1 rs.length c1, .int .i64 f, .slice a2 ws.length c2, .slice a3 hs.length c3, .slice a4 ns.length c4] 41)) := ⟨_, rfl⟩
  have al5 : Below w4.heap.size w4 w5 := by rw [hw5.out]; exact alloc_below _ _
  have B5 := hide_it (B4.out.trans (al5.mono B4.out.size))
  have L5 := hide_it (L4.out.trans (al5.mono L4.out.size))
  have T5 := hide_it (T4.out.after al5)
  have V5 := hide_it (V4.out.later al5 (Nat.le_refl _))
  have X5 : Hid (Blk w5 w4.heap.size #[.bool up, .slice a1 rs.length c1, .int .i64 f, .slice a2 ws.length c2, .slice a3 hs.length c3, .slice a4 ns.length c4] 41) := by show Blk _ _ _ _; rw [hw5.out]; exact Blk.new _ _ _
  have Q5 : Hid (Below w4.heap.size w4 w5) := al5
  have hw45 : w4.heap.size < w5.heap.size := X5.out.lt
  clear al5
  go_wp2_with fail
  rw [← hw5.out]
  refine (HIM.out _ _ _ _ w5 V5.out (HA.out _ B5.out)).mono ?_
  rintro e w6 ⟨ga, gc, rfl, hr6, hb6⟩
  have B6 := hide_it (B5.out.trans (hb6.mono B5.out.size))
  have L6 := hide_it (L5.out.trans (hb6.mono L5.out.size))
  have T6 := hide_it (T5.out.after hb6)
  have X6 := hide_it (X5.out.after hb6)
  have V6 := hide_it (V5.out.later hb6 (Nat.le_refl _))
  have Q6 := hide_it (Q5.out.trans (hb6.mono Q5.out.size))
  have G6 := hide_it hr6
  have hs56 : w5.heap.size ≤ w6.heap.size := hb6.size
  clear hb6 hr6
  go_wp2_with fail
  refine (eqHolds_any _ _ out w6 (holds_of_row G6.out) (EW.out _ L6.out) (by have := H3.out; omega)).mono ?_
  rintro e w7 ⟨rfl, hb7⟩
  have B7 := hide_it (B6.out.trans (hb7.mono B6.out.size))
  have L7 := hide_it (L6.out.trans (hb7.mono L6.out.size))
  have T7 := hide_it (T6.out.after hb7)
  have X7 := hide_it (X6.out.after hb7)
  have V7 := hide_it (V6.out.later hb7 (Nat.le_refl _))
  have G7 := hide_it (ownsRow_below G6.out hb7 (fun k hk => (G6.out.lt k hk).2))
  have Q7 := hide_it (Q6.out.trans (hb7.mono Q6.out.size))
  have hs57 : w5.heap.size ≤ w7.heap.size := Nat.le_trans hs56 hb7.size
  clear hb7
  obtain ⟨t0, t1, t2, t3, t4, t5⟩ := T7.out.cells6
  obtain ⟨x0, x1, x2, x3, x4, x5⟩ := X7.out.cells6
  go_wp2_with fail
  have hz7 : w.heap.size ≤ w7.heap.size := B7.out.size
  go_region_held (fun w' => (w'.cell? ⟨w4.heap.size, 0, none⟩ = some (.bool up) ∧ w'.cell? ⟨w4.heap.size, 1, none⟩ = some (.slice a1 rs.length c1) ∧ w'.cell? ⟨w4.heap.size, 2, none⟩ = some (.int .i64 f) ∧ w'.cell? ⟨w4.heap.size, 3, none⟩ = some (.slice a2 ws.length c2) ∧ w'.cell? ⟨w4.heap.size, 4, none⟩ = some (.slice a3 hs.length c3) ∧ w'.cell? ⟨w4.heap.size, 5, none⟩ = some (.slice a4 ns.length c4)) ∧ (w'.cell? ⟨w.heap.size, 0, none⟩ = some (.bool up) ∧ w'.cell? ⟨w.heap.size, 1, none⟩ = some (.slice av rs.length cv) ∧ w'.cell? ⟨w.heap.size, 2, none⟩ = some (.int .i64 f) ∧ w'.cell? ⟨w.heap.size, 3, none⟩ = some (.slice au ws.length cu) ∧ w'.cell? ⟨w.heap.size, 4, none⟩ = some (.slice ah hs.length ch) ∧ w'.cell? ⟨w.heap.size, 5, none⟩ = some (.slice an ns.length cn))) (go_keep)
    (first
    | (go_at_call 9; refine (HTO.out _ ?_).mono ?_; exact B7.out.drew; rintro e w8 ⟨b1, d1, b2, d2, b3, d3, b4, d4, rfl, hi8, -, hb8⟩; have hb8' := (Below.refl w7.heap.size w7).drew.trans hb8; have M8 := hide_it hb8'; have y8 := V7.out.1.1.later hb8' (Nat.le_refl _); have v8 := hi8.1.1; obtain ⟨x80, x81, x82, x83, x84, x85⟩ := (X7.out.after hb8').cells6; obtain ⟨c80, c81, c82, c83, c84, c85⟩ := (T7.out.after hb8').cells6; clear hb8 hb8' hi8)
    | (go_at_call 11; refine (eqWorld_any up _ _ _ _ _ _ _ _ rs f ws hs ns _ ?_ ?_ HL.out).mono ?_; assumption; assumption; rintro e w9 ⟨rfl, hb9⟩; have M9 := hide_it (M8.out.trans (hb9.mono M8.out.size)); obtain ⟨x90, x91, x92, x93, x94, x95⟩ := (X7.out.after M9.out).cells6; obtain ⟨c90, c91, c92, c93, c94, c95⟩ := (T7.out.after M9.out).cells6; clear hb9))
  have B9 := hide_it (B7.out.trans (M9.out.mono B7.out.size))
  have L9 := hide_it (L7.out.trans (M9.out.mono L7.out.size))
  have T9 := hide_it (T7.out.after M9.out)
  have X9 := hide_it (X7.out.after M9.out)
  have V9 := hide_it (V7.out.later M9.out (Nat.le_refl _))
  have G9 := hide_it (ownsRow_below G7.out M9.out (fun k hk => (G7.out.lt k hk).2))
  have Q9 := hide_it (Q7.out.trans (M9.out.mono Q7.out.size))
  have D9 := hide_it (D4.out.below Q9.out (by omega))
  have K9 := hide_it (K4.out.below Q9.out)
  have N9 := hide_it (ownsRow_below N4.out Q9.out (fun k hk => (N4.out.lt k hk).2))
  have hq9 : w4.heap.size ≤ w9.heap.size := Q9.out.size
  go_wp2_with fail
  refine (markWorldI_any up a1 a2 a3 a4 c1 c2 c3 c4 rs.length ws.length hs.length f ps ws hps ns w3.heap.size p1 p2 w4.heap.size w9 D9.out K9.out N9.out HB4.out h34 h12 hp24 hq9 (by rw [HP4.out, HQ4.out]; exact HL.out)).mono ?_
  rintro e w10 ⟨KK, rfl, hkk, hm10⟩
  have lm : Below w3.heap.size w9 w10 := hm10.below (Nat.le_refl _) (by omega)
  have B10 := hide_it (B9.out.trans (lm.mono (by omega)))
  have L10 := hide_it (L9.out.trans lm)
  have T10 := hide_it (T9.out.mid hm10 (Or.inl hw0))
  have G10 := hide_it (ownsRow_mid G9.out hm10 (fun k hk => Or.inr (by have := (G9.out.lt k hk).1; omega)))
  have hkn : ¬ KK < 0 := by omega
  have hs10 : w5.heap.size ≤ w10.heap.size := by have h1 := hm10.size; have h2 := M9.out.size; have h3 := hs57; omega
  clear hm10 lm
  go_wp2_with fail
  refine (eqHolds_any _ _ out w10 (holds_of_row G10.out) (EW.out _ L10.out) (by have := H3.out; omega)).mono ?_
  rintro e w11 ⟨rfl, hb11⟩
  have B11 := hide_it (B10.out.trans (hb11.mono B10.out.size))
  have L11 := hide_it (L10.out.trans (hb11.mono L10.out.size))
  have T11 := hide_it (T10.out.after hb11)
  have G11 := hide_it (ownsRow_below G10.out hb11 (fun k hk => (G10.out.lt k hk).2))
  have hs11 : w5.heap.size ≤ w11.heap.size := by have := hb11.size; omega
  clear hb11
  go_wp2_with fail
  refine (markHolds_any _ out 1 _ out.length w11 G11.out (by have := H3.out; omega) (by omega) (by omega)).mono ?_
  rintro e w12 ⟨rfl, hr12, hg12⟩
  have lg : Below w5.heap.size w11 w12 := (Below.refl _ _).grown hg12 hs11 (fun j hj => (G11.out.lt j hj).1)
  have B12 := hide_it (B11.out.trans (lg.mono (by omega)))
  have L12 := hide_it (L11.out.trans (lg.mono (by omega)))
  have T12 := hide_it (T11.out.later lg (by omega))
  have HM : Hid (∀ W, Below w12.heap.size w12 W → Holds W (.slice ga out.length gc) (markH out.length 1)) := fun W h => by
    have h0 : Holds w12 (.slice ga out.length gc) (markH out.length 1) := holds_of_row (base := w5.heap.size) (by rw [markH_length]; exact hr12)
    exact h0.later h (Nat.le_refl _)
  have Y12 : Hid (Below w12.heap.size w12 w12) := Below.refl _ _
  clear hr12 hg12 lg
  go_wp2_with fail
  refine (heldHolds_any _ out.length 1 w12 (HM.out _ Y12.out) (by have := H3.out; omega) (by omega) (by omega)).mono ?_
  rintro e w13 ⟨rfl, hw13⟩
  rw [hw13]
  clear hw13
  obtain ⟨t0, t1, t2, t3, t4, t5⟩ := T12.out.cells6
  go_wp2_with fail
  refine (HTO.out w12 B12.out).mono ?_
  rintro e w14 ⟨q1', r1', q2', r2', q3', r3', q4', r4', rfl, hi14, -, hb14⟩
  have B14 := hide_it (B12.out.trans (hb14.mono B12.out.size))
  have L14 := hide_it (L12.out.trans (hb14.mono L12.out.size))
  have T14 := hide_it (T12.out.after hb14)
  have Y14 := hide_it hb14
  have V14 := hide_it hi14
  clear hb14 hi14
  clear t0 t1 t2 t3 t4 t5
  go_wp2_with fail
  refine (HIM.out _ _ _ _ w14 V14.out (HA.out _ B14.out)).mono ?_
  rintro e w15 ⟨ha, hc, rfl, hr15, hb15⟩
  have B15 := hide_it (B14.out.trans (hb15.mono B14.out.size))
  have L15 := hide_it (L14.out.trans (hb15.mono L14.out.size))
  have T15 := hide_it (T14.out.after hb15)
  have Y15 := hide_it (Y14.out.trans (hb15.mono Y14.out.size))
  have G15 := hide_it (holds_of_row hr15)
  clear hb15 hr15
  go_wp2_with fail
  refine (eqHolds_any _ _ out w15 G15.out (EW.out _ L15.out) (by have := H3.out; omega)).mono ?_
  rintro e w16 ⟨rfl, hb16⟩
  have B16 := hide_it (B15.out.trans (hb16.mono B15.out.size))
  have L16 := hide_it (L15.out.trans (hb16.mono L15.out.size))
  have T16 := hide_it (T15.out.after hb16)
  have Y16 := hide_it (Y15.out.trans (hb16.mono Y15.out.size))
  clear hb16
  go_wp2_with fail
  refine (heldHolds_any _ out.length 1 w16 (HM.out _ Y16.out) (by have := H3.out; omega) (by omega) (by omega)).mono ?_
  rintro e w17 ⟨rfl, hw17⟩
  rw [hw17]
  clear hw17
  go_wp2
  go_ret
  exact ⟨rfl, B16.out⟩

theorem lawWh_any (up : Bool) (v u hv nv : Value) (rs : List R) (f : Int) (ws : List Wd) (hs : List Hd) (ns : List Wd) (trip : Int) (a : Addr) (w : World) (hv' : WdAt w v u hv nv rs ws hs ns) (hf : WdFit rs ws hs ns) (ha : ErrAt w a) :
    Calls Tryz.prog 4 #[worldV up v f u hv nv, .int .i64 trip] w fun e w' => e = .returned (.bool true) ∧ Below w.heap.size w w' := by
  by_cases hl : wdTot rs ws hs ns ≤ 1048576
  · exact lawWh_small up v u hv nv rs f ws hs ns trip a w hv' hf ha hl
  · exact lawWh_great up v u hv nv rs f ws hs ns trip w hv' hf (by omega)

end Go.Proofs.YtkkkdgpbmmjieaaGreatDoor

namespace Go.Proofs.YtkkkdgpbmmjieaaGreatDoor
open Go.ChangeShapes Go.WideShapes Go.ChangeAt Go.WideMaps Go.WideElems Go.RowKit Go.Joins

set_option maxRecDepth 100000 in
theorem worldHolds_lifted (os : Os) (started : os.Started) (H : Type) (enc : TypeId × Value → H) :
    ReturnsInHanded {} Tryz.checked os 4 .any (fun w args => (Rows.fnExactWorldHoldsSpec.pre enc Tryz.prog Tryz.f4 [] false w args ∧ laidMetH Tryz.prog laidErr w) ∧ sizedMet enc Tryz.prog Tryz.f4 (OpenSpec.ofChange Rows.fnExactWorldHoldsSpec) false w args)
      (Rows.fnExactWorldHoldsSpec.post enc Tryz.prog Tryz.f4 false true false false) := by
  refine returnsInHanded_of_change_and (C := Tryz.checked) (X := fun w _ => laidMetH Tryz.prog laidErr w) (fun _ _ _ hh h => h.of_heap hh) own started (by kernel_rfl) Tryz.func4
    (ChangeSpec.witness_shaped (enc := enc) (C := Tryz.checked) (os := os) (X := fun w _ => laidMetH Tryz.prog laidErr w) false (World.doorLaid Tryz.prog 28 os) #[worldV false (.slice none 0 0) 0 (.slice none 0 0) (.slice none 0 0) (.slice none 0 0), .int .i64 0] 8 rfl (World.shaped_of_RefB (by kernel_rfl) (by kernel_rfl)) (by kernel_rfl) (by kernel_rfl) (by kernel_rfl) (door_met os _)) ?_
  intro W base args ds gs before hval0 hW _ _ hL _
  have hval : ∀ (j : Nat) t v, Tryz.f4.params[j]? = some t → args[j]? = some v → Value.okWide Tryz.prog W .any base t v := hval0
  have hW' := hW
  obtain ⟨p, q, hA0, hV0, rfl, hfz, hnd⟩ := hW
  have hA : DataW.TrodAll enc Tryz.prog W 0 (fun _ => true) true Tryz.f4.params.toList args.toList ds p := hA0
  have hV : DataW.TrodVars enc Tryz.prog W (fun _ => true) ["loop.example/concierge/impl.errNoRec"] gs q := hV0
  rw [Tryz.params4] at hA hval
  obtain ⟨v0, v1, d0, d1, p0, p1, rfl, rfl, rfl, h0, h1⟩ := trodAll_two hA
  obtain ⟨a, hErr, hvar⟩ := of_laid hL
  have vr : ∀ {X : World}, X.var? Tryz.prog "loop.example/concierge/impl.errNoRec" = some #[.iface 283 (.pointer (some a))] → ∀ sp : Nat → Bool,
      DataW.TrodVars enc Tryz.prog X sp ["loop.example/concierge/impl.errNoRec"] [tok enc (.iface 283 (.pointer (some a)))] [.cell 0 0] :=
    fun x0 sp => vars_read1 enc gErr gErrType Tryz.underlying220 x0 trivial sp
  obtain ⟨rfl, rfl⟩ := hV.unique (vr hvar _)
  clear hA0 hV0 hval0
  obtain ⟨trip, rfl, rfl, rfl, wt⟩ := open_int Tryz.underlying3 (hval 1 3 v1 rfl rfl) h1
  obtain ⟨up, x, f, y, z, t, rs, ws, hs, ns, rfl, hR, hF⟩ := open_world (hval 0 30 v0 rfl rfl) h0
  refine (lawWh_any up x y z t rs f ws hs ns trip a W hR hF hErr).mono fun e W' ⟨he, hb⟩ => ?_
  subst he
  have hlt : ∀ x ∈ p0, x.block < W.heap.size := fun x hx => hW'.lt x (by simp [hx])
  refine ⟨_, rfl, _, _, _, [], p0 ++ [], [.cell 0 0], hW', ?_, ?_, ?_, hb.frame _, fun h => by cases h⟩
  · exact trodAll_mk1 (shut_bool Tryz.underlying4 true)
  · exact trodAll_mk2 (Below.trod laidOut (by kernel_rfl) (of_decide_eq_true (by kernel_rfl)) h0 hb hlt) (shut_int Tryz.underlying3 wt)
  · exact vr (var?_below hb gErr (World.block_lt_of_cell? _ _ hErr) hvar) _

theorem worldHolds_said : Rows.FnExactWorldHoldsSaid :=
  OpenClaim.holds_of_wide 4 Tryz.f4 rfl rfl rfl rfl rfl rfl rfl ⟨rfl, rfl, rfl, rfl, rfl⟩ rfl rfl rfl rfl rfl (by kernel_rfl) Tryz.func4 (by kernel_rfl)
    (of_decide_eq_true (by kernel_rfl)) (by unfold Func.isWrapper; first | (rw [if_pos (by decide +kernel)]; kernel_rfl) | (rw [if_neg (by decide +kernel)]; exact ⟨rfl, rfl⟩))
    (fun os started H enc _ => worldHolds_lifted os started H enc)

theorem worldHolds_plain (f : FuncId) (fn : Func) (hf : Tryz.pinned.checked.prog.funcNamed "loop.example/concierge/laws.FnExactWorldHolds" = some f) (hfn : Tryz.pinned.checked.prog.funcs[f]? = some fn) :
    true = Tryz.pinned.checked.prog.looks [] ∧ ∀ (j : Nat) t, fn.params[j]? = some t → Tryz.pinned.checked.prog.wantsStandIn t = false := by
  obtain rfl : f = 4 := Option.some.inj ((show Tryz.prog.funcNamed "loop.example/concierge/laws.FnExactWorldHolds" = some 4 by kernel_rfl).symm.trans hf) |>.symm
  obtain rfl : fn = Tryz.f4 := (Option.some.inj (Tryz.func4.symm.trans hfn)).symm
  refine ⟨by kernel_rfl, fun j t ht => ?_⟩
  rw [Tryz.params4] at ht
  have hm := Array.mem_of_getElem? ht
  simp at hm
  rcases hm with rfl | rfl
  · exact (show Tryz.prog.wantsStandIn 30 = false by kernel_rfl)
  · exact (show Tryz.prog.wantsStandIn 3 = false by kernel_rfl)

theorem worldHolds_card : Rows.FnExactWorldHoldsCardSaid :=
  Claim7.holds_tied_plain_at .later [] _ _ _ _ worldHolds_said (fun _ h => by cases h) (by kernel_rfl) (fun _ h => by cases h) fnExactWorldHolds_row_tie rfl ⟨rfl, rfl⟩ (by kernel_rfl) rfl worldHolds_plain (by kernel_rfl)
#print axioms worldHolds_card

end Go.Proofs.YtkkkdgpbmmjieaaGreatDoor
