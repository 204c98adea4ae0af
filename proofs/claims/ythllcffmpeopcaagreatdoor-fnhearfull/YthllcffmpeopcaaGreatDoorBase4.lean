/- What the last text of this claim stands on, part 4: plain facts and contracts; the last text says what is proved. -/
import Derived.Test.YthllcffmpeopcaaGreatDoorBase3
import Derived.Deep.DeepCutAuto
import Derived.Deep.RegionLaw
import Derived.Deep.AppendLies
import Derived.Deep.RegionLawGrows
import Derived.Deep.RegionHeldLaw
import Derived.Deep.CutBlock
import Derived.Deep.RegionHeld

namespace Go.Proofs.YthllcffmpeopcaaGreatDoor
open Go.RowKit

theorem hOO_no {room : Int} {r : R} {t : List R} {hk : List Pl.H} (h : Pl.behind room hk r.1 r.2.1 r.2.2 = none) : Pl.sRun room (r :: t) hk = none :=
  sRun_no room r t hk (by unfold Pl.sDo; rw [h]; rfl)
theorem hOO_yes {room : Int} {r : R} {t : List R} {hk : List Pl.H} {h' : Pl.H} (h : Pl.behind room hk r.1 r.2.1 r.2.2 = some h') : Pl.sRun room (r :: t) hk = Pl.sRun room t (hk.set (Pl.at_ r.2.1) h') :=
  sRun_yes room r t hk _ (by unfold Pl.sDo; rw [h]; rfl)

set_option maxRecDepth 100000 in
set_option maxHeartbeats 8000000 in
theorem l2Of_any (room : Int) (v : Value) (rs : List R) (w : World) (hv : Recs w v rs) (hl : tot rs ≤ 1048576) :
    Calls Tryz.prog 46 #[.int .i64 room, v] w fun e w' => StOut w w' e (oR room (Pl.sOf room rs)) (oH (Pl.sOf room rs)) (Pl.sOf room rs).isSome := by
  have hlen := tot_len rs
  have HM : Hid (∀ r ∈ rs, r.2.2.length ≤ 1048576) := fun r hr => Nat.le_trans (tot_mem rs r hr) hl
  have HN := hide_it (specNew_any room)
  cases hr : Pl.inB room 0 9
  · rw [sOf_no rs hr]
    have HN0 : ∀ W, Calls Tryz.prog 80 #[.int .i64 room] W fun e w' => StOut W w' e 0 [] false := fun W => by
      have := HN.out W
      rw [newO_no hr] at this
      exact this
    have HN1 := hide_it HN0
    clear HN0 HN
    obtain ⟨ao, cap, rfl⟩ := hv.shape
    clear hv
    go_enter Tryz.func46, Tryz.ntmps46
    go_wp2_with fail
    refine (HN1.out _).mono ?_
    rintro e w1 ⟨a1, c1, rfl, ho1, hb1⟩
    have Z1 := hide_it ((SB.new w (.int .i64 0) (.slice none 0 0)).later hb1 (by simp))
    have B1 := hide_it ((al_below w _).trans (hb1.mono (by simp)))
    have hz1 := Z1.out.lt
    obtain ⟨z0, z1, z2, z3⟩ := Z1.out.cells
    have ZS := Z1.out.set (.int .i64 0) (.slice none 0 0)
    have ZT := ZS.later (al_below _ (.cells #[.int .i64 0, .slice a1 0 c1] 50)) ZS.lt
    have HZT := hide_it ZT.cells
    clear ho1 hb1 ZS ZT
    go_wp2
    obtain ⟨t0, t1, _, _⟩ := HZT.out
    refine bodyPost_ret (v := .tuple #[.agg #[.int .i64 0, .slice none 0 0], .bool false]) (by simp [results, Tryz.results46, go_sem, t0, t1]) rfl ?_
    exact StOut.none_ (((B1.out.setCell (by simp) _).setCell (by simp) _).alloc (by simp; exact B1.out.size) _)
  rw [sOf_yes rs hr]
  have HN0 : ∀ W, Calls Tryz.prog 80 #[.int .i64 room] W fun e w' => StOut W w' e room Pl.noHolds true := fun W => by
    have := HN.out W
    rw [newO_yes hr] at this
    exact this
  have HN1 := hide_it HN0
  clear HN0 HN
  obtain ⟨OO, hOO⟩ : ∃ o, Pl.sRun room rs Pl.noHolds = o := ⟨_, rfl⟩
  rw [hOO]
  have HOO := hide_it hOO
  have HR := hide_it hr
  have HC : Hid (∀ W, Below w.heap.size w W → ∀ i r, rs[i]? = some r → ∃ b off cap u, v = .slice (some ⟨b, off, none⟩) rs.length cap ∧ RecCells W b (off + i * 3) r u ∧ b < w.heap.size) := fun W h i r hri => by
    rcases hv with ⟨rfl, _⟩ | ⟨b, off, cap, hvv, _, hc⟩
    · simp at hri
    · obtain ⟨u, hu⟩ := hc i r hri
      exact ⟨b, off, cap, u, hvv, hu.later h (Nat.le_refl _), by simpa using World.block_lt_of_cell? _ _ hu.1⟩
  obtain ⟨av, cv, rfl⟩ := hv.shape
  clear hv hOO hr
  go_enter Tryz.func46, Tryz.ntmps46
  go_wp2_with fail
  refine (HN1.out _).mono ?_
  rintro e w1 ⟨a1, c1, rfl, ho1, hb1⟩
  have n6 : Pl.noHolds.length = 6 := rfl
  rw [n6] at ho1 ⊢
  obtain ⟨g, cg, hvg⟩ := row_g ho1 (by decide)
  rw [hvg] at ho1 ⊢
  have Z1 := hide_it ((SB.new w (.int .i64 0) (.slice none 0 0)).later hb1 (by simp))
  have B1 := hide_it ((al_below w _).trans (hb1.mono (by simp)))
  have hz1 := Z1.out.lt
  have ho1' : w1.ownsRow (w.heap.size + 1) 54 2 (.slice (some ⟨g, 0, none⟩) 6 cg) 6 (hflat Pl.noHolds) := by
    have h := ho1
    rw [World.size_alloc] at h
    exact h
  have hgl := ho1'.lt g rfl
  have O1 := hide_it (ho1'.alloc (.cells #[.int .i64 room, .slice (some ⟨g, 0, none⟩) 6 cg] 50))
  have Z2 := hide_it (Z1.out.later (al_below w1 (.cells #[.int .i64 room, .slice (some ⟨g, 0, none⟩) 6 cg] 50)) hz1)
  have S2 := hide_it (SB.new w1 (.int .i64 room) (.slice (some ⟨g, 0, none⟩) 6 cg))
  have B2 := hide_it (B1.out.alloc B1.out.size (.cells #[.int .i64 room, .slice (some ⟨g, 0, none⟩) 6 cg] 50))
  clear ho1 ho1' hb1 hvg
  go_wp2_with fail
  go_loopw [8] (fun i wr => ∃ (k : Nat) (hk : List Pl.H), k ≤ rs.length ∧ i = .int .i64 k ∧ Hid (Pl.sRun room (rs.drop k) hk = OO) ∧ Hid (Pl.sOk room hk = true) ∧ Hid (SB wr w1.heap.size (.int .i64 room) (.slice (some ⟨g, 0, none⟩) 6 cg)) ∧ Hid (SB wr w.heap.size (.int .i64 0) (.slice none 0 0)) ∧ Hid (wr.ownsRow (w.heap.size + 1) 54 2 (.slice (some ⟨g, 0, none⟩) 6 cg) 6 (hflat hk)) ∧ Hid (Below w.heap.size w wr)) (fun i _ => rs.length - (intOf i).toNat)
  case atStart => exact ⟨0, Pl.noHolds, Nat.zero_le _, rfl, HOO, Pl.new_ok room HR.out, S2, Z2, O1, B2⟩
  case round =>
    obtain ⟨k, hk, hkl, rfl, HRU, HOK, HS, HZ, HO, HB⟩ := hrel
    have P3 : Hid (hk.length = 6) := (Pl.sOk_parts HOK.out).2.2.1
    obtain ⟨s0, s1, s2, s3⟩ := HS.out.cells
    obtain ⟨z0, z1, z2, z3⟩ := HZ.out.cells
    have hsl := HS.out.lt
    have hzl := HZ.out.lt
    by_cases hlt : k < rs.length
    · obtain ⟨r, hri⟩ : ∃ r, Hid (rs[k]? = some r) := ⟨rs[k], by show _ = _; simp [hlt]⟩
      have hrl : r.2.2.length ≤ 1048576 := HM.out r (List.mem_of_getElem? hri.out)
      obtain ⟨b, off, cap, u, hvv, ⟨c0, c1', c2, hI⟩, hbw⟩ := HC.out wr HB.out k r hri.out
      simp only [Value.slice.injEq] at hvv
      obtain ⟨rfl, -, rfl⟩ := hvv
      obtain ⟨au, cu, hus⟩ := hI.shape
      subst hus
      have HI : Hid (∀ W, Below wr.heap.size wr W → Ints W (.slice au r.2.2.length cu) r.2.2) := fun W h => hI.later h (Nat.le_refl _)
      have HH : Hid (∀ W, Below wr.heap.size wr W → Holds W (.slice (some ⟨g, 0, none⟩) 6 cg) hk) := fun W h => by
        have h6 := HO.out
        rw [← P3.out] at h6
        have := (holds_of_row h6).later h (Nat.le_refl _)
        rw [P3.out] at this
        exact this
      have HRC : Hid (∀ W, Below wr.heap.size wr W → W.cell? ⟨b, off + k * 3, none⟩ = some (.int .i64 r.1) ∧ W.cell? ⟨b, off + k * 3 + 1, none⟩ = some (.int .i64 r.2.1) ∧ W.cell? ⟨b, off + k * 3 + 2, none⟩ = some (.slice au r.2.2.length cu)) := fun W h => by
        have hbr : b < wr.heap.size := Nat.lt_of_lt_of_le hbw HB.out.size
        exact ⟨(h.cell (p := ⟨b, off + k * 3, none⟩) hbr).trans c0, (h.cell (p := ⟨b, off + k * 3 + 1, none⟩) hbr).trans c1', (h.cell (p := ⟨b, off + k * 3 + 2, none⟩) hbr).trans c2⟩
      have HRU2 := hide_it HRU.out
      rw [drop_at hri.out] at HRU2
      have hkI : (k : Int) < (rs.length : Int) := by omega
      clear hI
      obtain ⟨o, ho⟩ : ∃ o, Pl.behind room hk r.1 r.2.1 r.2.2 = o := ⟨_, rfl⟩
      have HO2 := hide_it ho
      clear ho
      go_wp2_with fail
      go_cut [37] (fun b W => b = .bool (!o.isSome) ∧ Hid (Below wr.heap.size wr W))
      case first =>
        cases hrec : Pl.recOk r.1 r.2.1 r.2.2
        · have hon : o = none := by rw [← HO2.out]; exact Pl.behind_rec room hk hrec
          subst hon
          first | (go_region_with (go_at_call 81; refine (specOk_any r.1 r.2.1 _ r.2.2 _ (HI.out _ (Below.refl _ _).drew) hrl).mono ?_; rintro e w3 ⟨rfl, hb3⟩; rw [hrec]; have N3 := hide_it ((Below.refl wr.heap.size wr).drew.trans hb3); obtain ⟨d0, d1, d2⟩ := HRC.out _ N3.out; clear hb3)) | fail
          all_goals
            go_wp2_with fail
            go_meet
            case rel => exact ⟨rfl, N3⟩
        · have HMAY : Hid (∀ W, Below wr.heap.size wr W → Calls Tryz.prog 62 #[.agg #[.int .i64 room, .slice (some ⟨g, 0, none⟩) 6 cg], .agg #[.int .i64 r.1, .int .i64 r.2.1, .slice au r.2.2.length cu]] W fun e w' => e = .returned (.bool o.isSome) ∧ Below W.heap.size W w') := fun W h => by
            have := l2May_any room _ hk r.1 r.2.1 _ r.2.2 W (HH.out W h) (HI.out W h) HOK.out hrec
            rw [← Pl.behind_ok HOK.out hrec, HO2.out] at this
            exact this
          first | (go_region_with (first
            | (go_at_call 81; refine (specOk_any r.1 r.2.1 _ r.2.2 _ (HI.out _ (Below.refl _ _).drew) hrl).mono ?_; rintro e w3 ⟨rfl, hb3⟩; rw [hrec]; have N3 := hide_it ((Below.refl wr.heap.size wr).drew.trans hb3); obtain ⟨d0, d1, d2⟩ := HRC.out _ N3.out; have S3 := hide_it (HS.out.later N3.out hsl); obtain ⟨e0, e1, _, _⟩ := S3.out.cells; clear hb3)
            | (go_at_call 62; refine (HMAY.out _ N3.out).mono ?_; rintro e w4 ⟨rfl, hb4⟩; have N4 := hide_it (N3.out.trans (hb4.mono N3.out.size)); clear hb4))) | fail
          all_goals
            go_wp2_with fail
            go_meet
            case rel => exact ⟨by first | rfl | simp, N4⟩
      case rest =>
        obtain ⟨rfl, N4⟩ := hcut
        have S4 := hide_it (HS.out.later N4.out hsl)
        have Z4 := hide_it (HZ.out.later N4.out hzl)
        have O4 := hide_it (ownsRow_below HO.out N4.out (fun j hj => (HO.out.lt j hj).2))
        have B4 := hide_it (HB.out.trans (N4.out.mono HB.out.size))
        have hsl4 := S4.out.lt
        have hzl4 := Z4.out.lt
        clear s0 s1 s2 s3 z0 z1 z2 z3 c0 c1' c2
        obtain ⟨s0, s1, s2, s3⟩ := S4.out.cells
        obtain ⟨z0, z1, z2, z3⟩ := Z4.out.cells
        obtain ⟨c0, c1', c2⟩ := HRC.out _ N4.out
        cases o with
        | none =>
          have HE : Hid (OO = none) := by show _ = _; rw [← HRU2.out]; exact hOO_no HO2.out
          go_wp2
          rw [HE.out]
          refine bodyPost_ret (v := .tuple #[.agg #[.int .i64 0, .slice none 0 0], .bool false]) (by simp [results, Tryz.results46, go_sem, z0, z1]) rfl ?_
          exact StOut.none_ ((B4.out.setCell (by simp) _).setCell (by simp) _)
        | some h' =>
          have HRU3 : Hid (Pl.sRun room (rs.drop (k + 1)) (hk.set (Pl.at_ r.2.1) h') = OO) := by show _ = _; rw [← HRU2.out]; exact (hOO_yes HO2.out).symm
          have HOK3 : Hid (Pl.sOk room (hk.set (Pl.at_ r.2.1) h') = true) := Pl.behind_keeps HO2.out
          go_wp2_with fail
          first | (go_region_held (fun w' => w'.cell? ⟨w1.heap.size, 0, none⟩ = some (.int .i64 room) ∧ w'.cell? ⟨w1.heap.size, 1, none⟩ = some (.slice (some ⟨g, 0, none⟩) 6 cg) ∧ w'.cell? ⟨b, off + k * 3, none⟩ = some (.int .i64 r.1) ∧ w'.cell? ⟨b, off + k * 3 + 1, none⟩ = some (.int .i64 r.2.1) ∧ w'.cell? ⟨b, off + k * 3 + 2, none⟩ = some (.slice au r.2.2.length cu)) (first | (go_keep; done) | exact KP.out)
            ((go_at_call 82; refine (l2Do_any room g cg _ hk r.1 r.2.1 _ r.2.2 h' _ (ownsRow_below O4.out (Below.refl _ _).drew (fun j hj => (O4.out.lt j hj).2)) (HI.out _ N4.out.drew) HO2.out).mono ?_; rintro e w5 ⟨rfl, ho5, hM5⟩; have hM5' := hide_it ((Mid.of_below (Below.refl wc.heap.size wc).drew (Nat.le_refl _)).trans hM5); have E5 := hide_it (hM5'.out.below (B := w.heap.size) (by omega) B4.out.size); have S5 := hide_it (S4.out.mid hM5'.out (Or.inr (by omega))); have Z5 := hide_it (Z4.out.mid hM5'.out (Or.inl (by omega))); have B5 := hide_it (B4.out.trans E5.out); obtain ⟨x0, x1, x2, x3⟩ := S5.out.cells; have y0 := (E5.out.cell (p := ⟨b, off + k * 3, none⟩) hbw).trans c0; have y1 := (E5.out.cell (p := ⟨b, off + k * 3 + 1, none⟩) hbw).trans c1'; have y2 := (E5.out.cell (p := ⟨b, off + k * 3 + 2, none⟩) hbw).trans c2; have S6 := hide_it (S5.out.set (.int .i64 room) (.slice (some ⟨g, 0, none⟩) 6 cg)); have Z6 := hide_it (Z5.out.other (c := w1.heap.size) (by omega) (.int .i64 room) (.slice (some ⟨g, 0, none⟩) 6 cg)); have O6 := hide_it (ownsRow_mid (ownsRow_mid ho5 (setCell_mid _ w1.heap.size 0 (.int .i64 room)) (fun j hj => by simp [Value.ownBlock] at hj; omega)) (setCell_mid _ w1.heap.size 1 (.slice (some ⟨g, 0, none⟩) 6 cg)) (fun j hj => by simp [Value.ownBlock] at hj; omega)); have KP := hide_it (And.intro S6.out.cells.1 (And.intro S6.out.cells.2.1 (And.intro ((two_set_cells w5 w1.heap.size (.int .i64 room) (.slice (some ⟨g, 0, none⟩) 6 cg) b (off + k * 3) (by omega)).trans y0) (And.intro ((two_set_cells w5 w1.heap.size (.int .i64 room) (.slice (some ⟨g, 0, none⟩) 6 cg) b (off + k * 3 + 1) (by omega)).trans y1) ((two_set_cells w5 w1.heap.size (.int .i64 room) (.slice (some ⟨g, 0, none⟩) 6 cg) b (off + k * 3 + 2) (by omega)).trans y2))))); clear ho5 hM5))) | fail
          go_wp2
          go_roundw
          case rel => exact ⟨k + 1, _, by omega, by go_num, HRU3, HOK3, S6, Z6, O6, (B5.out.setCell (by simp; omega) _).setCell (by simp; omega) _⟩
          case measure => simp [intOf]; omega
    · have HE : Hid (OO = some hk) := by
        show _ = _
        have hke : k = rs.length := by omega
        rw [← HRU.out, hke, List.drop_length]
        rfl
      go_wp2
      rw [HE.out]
      refine bodyPost_ret (v := .tuple #[.agg #[.int .i64 room, .slice (some ⟨g, 0, none⟩) 6 cg], .bool true]) (by simp [results, Tryz.results46, go_sem, z0, z1]) rfl ⟨some ⟨g, 0, none⟩, cg, ?_, ?_, ?_⟩
      · show _ = _
        simp only [oR, oH, Option.getD_some, Option.isSome_some, P3.out]
      · simp only [oH, Option.getD_some, P3.out]
        exact ownsRow_base (ownsRow_setCell_below (ownsRow_setCell_below HO.out (by simp) _) (by simp) _) (by omega)
      · exact (HB.out.setCell (by simp) _).setCell (by simp) _

end Go.Proofs.YthllcffmpeopcaaGreatDoor

namespace Go.Proofs.YthllcffmpeopcaaGreatDoor

namespace Pl
theorem sRun_snoc (room : Int) (rs : List (Int × Int × List Int)) (r : Int × Int × List Int) (hs : List H) : sRun room (rs ++ [r]) hs = (sRun room rs hs).bind fun h => sDo room h r.1 r.2.1 r.2.2 := by
  induction rs generalizing hs with
  | nil => simp [sRun]; cases sDo room hs r.1 r.2.1 r.2.2 <;> rfl
  | cons x t ih =>
    simp only [List.cons_append, sRun]
    cases sDo room hs x.1 x.2.1 x.2.2 with
    | none => rfl
    | some h => exact ih h
theorem sRun_len {room : Int} : ∀ (rs : List (Int × Int × List Int)) {hs hs' : List H}, sRun room rs hs = some hs' → hs'.length = hs.length
  | [], _, _, h => by simp [sRun] at h; rw [h]
  | r :: t, hs, hs', h => by
    simp only [sRun] at h
    cases e : sDo room hs r.1 r.2.1 r.2.2 with
    | none => rw [e] at h; cases h
    | some h1 => rw [e] at h; rw [sRun_len t h, sDo_len e]
theorem sRun_ok {room : Int} : ∀ (rs : List (Int × Int × List Int)) {hs hs' : List H}, sOk room hs = true → sRun room rs hs = some hs' → sOk room hs' = true
  | [], _, _, h0, h => by simp [sRun] at h; rw [← h]; exact h0
  | r :: t, hs, hs', _, h => by
    simp only [sRun] at h
    cases e : sDo room hs r.1 r.2.1 r.2.2 with
    | none => rw [e] at h; cases h
    | some h1 => rw [e] at h; exact sRun_ok t (sDo_keeps e) h
theorem sRun_take {room : Int} : ∀ (rs : List (Int × Int × List Int)) (n : Nat) {hs hs' : List H}, sRun room rs hs = some hs' → ∃ h1, sRun room (rs.take n) hs = some h1
  | [], n, hs, hs', h => ⟨hs', by simpa using h⟩
  | r :: t, 0, hs, _, _ => ⟨hs, by simp [sRun]⟩
  | r :: t, n + 1, hs, hs', h => by
    simp only [sRun] at h
    simp only [List.take_succ_cons, sRun]
    cases e : sDo room hs r.1 r.2.1 r.2.2 with
    | none => rw [e] at h; cases h
    | some h1 => rw [e] at h; exact sRun_take t n h
theorem sOf_run {room : Int} {rs : List (Int × Int × List Int)} {hs : List H} (h : sOf room rs = some hs) : inB room 0 9 = true ∧ sRun room rs noHolds = some hs := by
  unfold sOf at h
  by_cases hr : inB room 0 9 = true
  · rw [if_pos hr] at h; exact ⟨hr, h⟩
  · rw [if_neg hr] at h; cases h
theorem sOf_ok {room : Int} {rs : List (Int × Int × List Int)} {hs : List H} (h : sOf room rs = some hs) : sOk room hs = true ∧ hs.length = 6 := by
  obtain ⟨h1, h2⟩ := sOf_run h
  exact ⟨sRun_ok rs (new_ok room h1) h2, by rw [sRun_len rs h2]; rfl⟩
theorem sOf_take {room : Int} {rs : List (Int × Int × List Int)} {hs : List H} (n : Nat) (h : sOf room rs = some hs) : ∃ h1, sOf room (rs.take n) = some h1 := by
  obtain ⟨h1, h2⟩ := sOf_run h
  obtain ⟨h3, h4⟩ := sRun_take rs n h2
  exact ⟨h3, by unfold sOf; rw [if_pos h1]; exact h4⟩
theorem sOf_snoc {room : Int} {rs : List (Int × Int × List Int)} {hs : List H} (r : Int × Int × List Int) (h : sOf room rs = some hs) : sOf room (rs ++ [r]) = sDo room hs r.1 r.2.1 r.2.2 := by
  obtain ⟨h1, h2⟩ := sOf_run h
  unfold sOf
  rw [if_pos h1, sRun_snoc, h2]
  rfl
theorem oH_len {room : Int} (rs : List (Int × Int × List Int)) : ((sOf room rs).getD []).length ≤ 6 := by
  cases h : sOf room rs with
  | none => simp
  | some hs => simp [(sOf_ok h).2]
end Pl

end Go.Proofs.YthllcffmpeopcaaGreatDoor

namespace Go.Proofs.YthllcffmpeopcaaGreatDoor
open Go.RowKit

/-- While records of a house are drawn: the stock's block, its holds, the records so far, the reader. -/
structure StS (w W : World) (b q S : Nat) (room : Int) (u : Value) (hs : List Pl.H) (o : Value) (ps : List (R × Value)) : Prop where
  stk : W.heap[S]? = some (.cells #[.int .i64 room, u] 50 (0, 0))
  new : w.heap.size ≤ S
  hol : W.ownsRow w.heap.size 54 2 u hs.length (hflat hs)
  row : W.ownsRow w.heap.size 62 3 o ps.length (flat ps)
  all : ∀ p ∈ ps, Good W w.heap.size p
  rd : Rd W b q
  mid : Mid b (b + 1) w W
  low : b < w.heap.size

theorem StS.step {w W W' : World} {b q q' S : Nat} {room : Int} {u : Value} {hs : List Pl.H} {o : Value} {ps : List (R × Value)} (h : StS w W b q S room u hs o ps) (hb : Mid b (b + 1) W W') (hr : Rd W' b q') : StS w W' b q' S room u hs o ps :=
  ⟨rowS_mid h.stk hb (by have := h.new; have := h.low; omega), h.new,
    ownsRow_mid h.hol hb (fun k hk => Or.inr (by have := (rowB_at h.hol k hk).1; have := h.low; omega)),
    ownsRow_mid h.row hb (fun k hk => Or.inr (by have := (rowB_at h.row k hk).1; have := h.low; omega)),
    fun p hp => (h.all p hp).step h.rd hb, hr, h.mid.trans hb, h.low⟩
theorem StS.later {w W W' : World} {b q S : Nat} {room : Int} {u : Value} {hs : List Pl.H} {o : Value} {ps : List (R × Value)} (h : StS w W b q S room u hs o ps) (hb : Below W.heap.size W W') : StS w W' b q S room u hs o ps :=
  h.step (Mid.of_below hb (Nat.le_refl _)) (h.rd.later hb (Nat.le_refl _))
theorem StS.cells {w W : World} {b q S : Nat} {room : Int} {u : Value} {hs : List Pl.H} {o : Value} {ps : List (R × Value)} (h : StS w W b q S room u hs o ps) :
    W.cell? ⟨S, 0, none⟩ = some (.int .i64 room) ∧ W.cell? ⟨S, 1, none⟩ = some u ∧ W.frozen? ⟨S, 0, none⟩ = false ∧ W.frozen? ⟨S, 1, none⟩ = false ∧ S < W.heap.size := by
  refine ⟨?_, ?_, frozen_of_row W _ _ _ _ h.stk, frozen_of_row W _ _ _ _ h.stk, heap_lt h.stk⟩
  · rw [cell_of_row W _ _ _ _ _ h.stk]; rfl
  · rw [cell_of_row W _ _ _ _ _ h.stk]; rfl
/-- The stock is given another row of holds. -/
theorem StS.setS {w W : World} {b q S : Nat} {room : Int} {u u' : Value} {hs hs' : List Pl.H} {o : Value} {ps : List (R × Value)} (h : StS w W b q S room u hs o ps) (hu : W.ownsRow w.heap.size 54 2 u' hs'.length (hflat hs')) :
    StS w ((W.setCell ⟨S, 0, none⟩ (.int .i64 room)).setCell ⟨S, 1, none⟩ u') b q S room u' hs' o ps := by
  have hn := h.new
  have hl := h.low
  have s1 := heap_setCell_same W S 0 _ _ (.int .i64 room) h.stk
  have s2 := heap_setCell_same (W.setCell ⟨S, 0, none⟩ (.int .i64 room)) S 1 _ _ u' s1
  have a1 : ∀ {e : TypeId} {size : Nat} {v : Value} {n : Nat} {xs : List Value}, e ≠ 50 → W.ownsRow w.heap.size e size v n xs → ((W.setCell ⟨S, 0, none⟩ (.int .i64 room)).setCell ⟨S, 1, none⟩ u').ownsRow w.heap.size e size v n xs := fun he hr =>
    ownsRow_setCell_ne (ownsRow_setCell_ne hr (fun g hg => by obtain ⟨cs, hh⟩ := (rowB_at hr g hg).2; exact ne_of_type hh h.stk he) _) (fun g hg => by obtain ⟨cs, hh⟩ := (rowB_at hr g hg).2; exact ne_of_type hh h.stk he) _
  refine ⟨by rw [s2]; simp, hn, a1 (by decide) hu, a1 (by decide) h.row, ?_, (h.rd.setApart (by omega) _).setApart (by omega) _, (h.mid.setNew (by omega) _).setNew (by omega) _, hl⟩
  intro p hp
  exact ((h.all p hp).keep fun g cs hh => Below.heap_setCell _ _ _ _ (ne_of_type hh h.stk (by decide))).keep fun g cs hh => Below.heap_setCell _ _ _ _ (ne_of_type hh s1 (by decide))
/-- One record more. -/
theorem StS.push {w W w4 : World} {b q S : Nat} {room : Int} {u : Value} {hs : List Pl.H} {o o' : Value} {ps : List (R × Value)} {r : R} {x : Value} (h : StS w W b q S room u hs o ps) (hg : Good W w.heap.size (r, x))
    (hown : w4.ownsRow w.heap.size 62 3 o' (ps.length + 1) (flat ps ++ [.int .i64 r.1, .int .i64 r.2.1, x])) (hgr : W.grownBy w4 o.ownBlock) : StS w w4 b q S room u hs o' (ps ++ [(r, x)]) := by
  have hn := h.new
  have hl := h.low
  have hblk : ∀ k, k < W.heap.size → (∀ cs, W.heap[k]? ≠ some (.cells cs 62 (0, 0))) → w4.heap[k]? = W.heap[k]? := fun k hk hn => hgr.block k hk (fun e => by
    obtain ⟨cs, hh⟩ := (rowB_at h.row k e.symm).2
    exact hn cs hh)
  have hlow : ∀ k, k < w.heap.size → w4.heap[k]? = W.heap[k]? := fun k hk => hgr.block k (by have := heap_lt h.stk; omega) (fun e => by have := (rowB_at h.row k e.symm).1; omega)
  have hrd : Rd w4 b q := by
    obtain ⟨y, n, hn, h1, h2⟩ := h.rd
    exact ⟨y, n, hn, by rw [hlow b hl]; exact h1, h2.mid (fun k hk => hlow k (by omega))⟩
  have hmid : Mid b (b + 1) w w4 := ⟨hgr.os.trans h.mid.os, hgr.tape.trans h.mid.tape, hgr.output.trans h.mid.output, Nat.le_trans h.mid.size hgr.size, fun k hk hh => (hlow k hk).trans (h.mid.block k hk hh)⟩
  refine ⟨by rw [hblk S (heap_lt h.stk) (fun cs e => by rw [h.stk] at e; simp at e)]; exact h.stk, hn, ?_, ?_, ?_, hrd, hmid, hl⟩
  · obtain ⟨h1, h2⟩ := h.hol
    refine ⟨h1, ?_⟩
    rcases h2 with h2 | ⟨g, cap, cur, hv, hg, hh, r⟩
    · exact Or.inl h2
    · exact Or.inr ⟨g, cap, cur, hv, hg, by rw [hblk g (heap_lt hh) (fun cs e => by rw [hh] at e; simp at e)]; exact hh, r⟩
  · rw [flat_append, List.length_append]; exact hown
  · intro p hp
    have hgood : Good W w.heap.size p := by
      rcases List.mem_append.1 hp with hp | hp
      · exact h.all p hp
      · simp at hp; subst hp; exact hg
    exact hgood.keep fun g cs hh => hblk g (heap_lt hh) (fun cs' e => by rw [hh] at e; simp at e)

end Go.Proofs.YthllcffmpeopcaaGreatDoor

namespace Go.Proofs.YthllcffmpeopcaaGreatDoor
open Go.RowKit

/-- What comes out of the draw: a room, and records that a stock of that room takes, in memory of the draw's own. -/
def RecsGot (w w' : World) (e : Ending) (b p : Nat) : Prop :=
  ∃ (room : Int) (o : Value) (ps : List (R × Value)) (hs : List Pl.H) (q : Nat), e = .returned (.tuple #[.int .i64 room, o]) ∧ 0 ≤ room ∧ room ≤ 7 ∧ ps.length ≤ 13 ∧
    w'.ownsRow w.heap.size 62 3 o ps.length (flat ps) ∧ (∀ x ∈ ps, Good w' w.heap.size x) ∧ Pl.sRun room (ps.map (·.1)) Pl.noHolds = some hs ∧ q ≤ p + 60 ∧ Rd w' b q ∧ Mid b (b + 1) w w'

theorem oH_some (hs : List Pl.H) : oH (some hs) = hs := rfl
theorem new_some {room : Int} (h0 : 0 ≤ room) (h7 : room ≤ 7) : newO room = some Pl.noHolds := by simp [newO, Pl.inB_mk h0 (show room ≤ 9 by omega)]

/-- A store into the record's own block leaves all else. -/
theorem StS.setX {w W : World} {b q S X i : Nat} {cs : Array Value} {room : Int} {u : Value} {hs : List Pl.H} {o : Value} {ps : List (R × Value)} (h : StS w W b q S room u hs o ps) (hX : W.heap[X]? = some (.cells cs 62 (0, 0))) (hw : w.heap.size ≤ X) (hO : ∀ g, o.ownBlock = some g → g < X) (x : Value) : StS w (W.setCell ⟨X, i, none⟩ x) b q S room u hs o ps := by
  have hl := h.low
  refine ⟨by rw [Below.heap_setCell _ _ _ _ (ne_of_type h.stk hX (by decide))]; exact h.stk, h.new, ?_, ?_, ?_, h.rd.setApart (by omega) _, h.mid.setNew hw _, hl⟩
  · exact ownsRow_setCell_ne h.hol (fun g hg => by obtain ⟨cs, hh⟩ := (rowB_at h.hol g hg).2; exact ne_of_type hh hX (by decide)) _
  · exact ownsRow_setCell_ne h.row (fun g hg => by have := hO g hg; simp; omega) _
  · exact fun p hp => (h.all p hp).keep fun g cs hh => Below.heap_setCell _ _ _ _ (ne_of_type hh hX (by decide))

theorem StS.ob {w W : World} {b q S : Nat} {room : Int} {u : Value} {hs : List Pl.H} {o : Value} {ps : List (R × Value)} (h : StS w W b q S room u hs o ps) : ∀ g, o.ownBlock = some g → g < W.heap.size := fun g hg => by
  obtain ⟨cs, hh⟩ := (rowB_at h.row g hg).2; exact heap_lt hh

set_option maxRecDepth 100000 in
set_option maxHeartbeats 8000000 in
theorem recs_draw (b p : Nat) (w : World) (h : Rd w b p) (hp : p ≤ 700000) :
    Calls Tryz.prog 78 #[.pointer (some ⟨b, 0, none⟩)] w fun e w' => RecsGot w w' e b p := by
  obtain ⟨i0, hi, hz0, hz1, hz2⟩ := info_parts infoRec
  have hblt := h.lt
  have R0 := hide_it h
  clear h
  go_enter Tryz.func78, Tryz.ntmps78
  go_wp2_with fail
  refine (pick_any b p 8 _ R0.out (by omega) (by omega) (by omega)).mono ?_
  rintro e w1 ⟨room, rfl, lr, ur, r1, m1⟩
  have R1 := hide_it r1
  have M1 := hide_it m1
  clear r1 m1
  have HNW : Hid (∀ W, Calls Tryz.prog 80 #[.int .i64 room] W fun e w' => StOut W w' e room Pl.noHolds true) := fun W => by
    have := specNew_any room W
    rw [new_some lr (by omega)] at this
    exact this
  go_wp2_with fail
  refine (HNW.out _).mono ?_
  rintro e w3 ⟨ao, cap, rfl, ho3, hb3⟩
  have e6 : Pl.noHolds.length = 6 := rfl
  rw [e6] at ho3 ⊢
  clear e6
  obtain ⟨G, hG⟩ : ∃ G, Hid (G = w1.heap.size) := ⟨_, rfl⟩
  obtain ⟨S, hS⟩ : ∃ S, Hid (S = w3.heap.size) := ⟨_, rfl⟩
  obtain ⟨w4, hw4⟩ : ∃ W, Hid (W = w3.alloc (.cells #[.int .i64 room, .slice ao 6 cap] 50)) := ⟨_, rfl⟩
  have T4 : Hid (StS w w4 b (p + 1) S room (.slice ao 6 cap) Pl.noHolds (.slice (some ⟨G, 0, none⟩) 0 0) []) := by
    show StS _ _ _ _ _ _ _ _ _ _
    have hs1 : w.heap.size ≤ w1.heap.size := M1.out.size
    have hs3 := hb3.size
    simp at hs3
    have hg3 : w3.heap[G]? = some (.cells #[] 62 (0, 0)) := by rw [hG.out]; exact rowS_later (heap_alloc_new w1 _) hb3 (Nat.le_refl _)
    rw [hw4.out, hS.out]
    have al := alloc_below w3 (.cells #[.int .i64 room, .slice ao 6 cap] 50)
    refine ⟨heap_alloc_new _ _, by omega, ?_, ?_, (fun x hx => (by cases hx)), ?_, ?_, hblt⟩
    · exact ownsRow_below (ownsRow_lower ho3 (by simp; omega)) al (fun k hk => (ho3.lt k hk).2)
    · exact row_empty _ _ _ (rowS_later hg3 al (Nat.le_refl _)) (by rw [hG.out]; exact hs1)
    · exact ((R1.out.alloc _).later hb3 (Nat.le_refl _)).later al (Nat.le_refl _)
    · exact ((M1.out.alloc _).trans (Mid.of_below hb3 (Nat.le_refl _))).alloc _
  clear ho3 hb3 R0 R1 M1 HNW
  go_wp2_with fail
  rw [← hw4.out, ← hG.out, ← hS.out]
  refine (pick_any b (p + 1) 14 _ T4.out.rd (by omega) (by omega) (by omega)).mono ?_
  rintro e w5 ⟨n, rfl, ln, un, r5, m5⟩
  have T5 := hide_it (T4.out.step m5 r5)
  clear r5 m5 T4 hw4 hG hS
  obtain ⟨N, rfl⟩ := Int.eq_ofNat_of_zero_le ln
  go_wp2_with fail
  go_loopw [5, 8] (fun o i W => ∃ (m q : Nat) (u : Value) (hs : List Pl.H) (ps : List (R × Value)), i = .int .i64 m ∧ ps.length + m ≤ 13 ∧ p ≤ q ∧ q + 3 * m ≤ p + 2 + 3 * 13 ∧ Hid (StS w W b q S room u hs o ps) ∧ Hid (Pl.sRun room (ps.map (·.1)) Pl.noHolds = some hs)) (fun _ i _ => (intOf i).toNat)
  case atStart => exact ⟨N, p + 1 + 1, _, _, [], rfl, by simp; omega, by omega, by omega, T5, rfl⟩
  case round =>
    obtain ⟨m, q, u, hs, ps, rfl, hm, hq0, hq1, HS, HR⟩ := hrel
    by_cases hlt : 0 < m
    · have hlen : Hid (hs.length = 6) := by show _ = _; rw [Pl.sRun_len _ HR.out]; rfl
      go_wp2_with fail
      refine (pick_any b q 3 _ HS.out.rd (by omega) (by omega) (by omega)).mono ?_
      rintro e w6 ⟨k0, rfl, lk, uk, r6, m6⟩
      have S6 := hide_it (HS.out.step m6 r6)
      clear r6 m6 HS
      go_wp2_with fail
      refine (pick_any b (q + 1) 6 _ S6.out.rd (by omega) (by omega) (by omega)).mono ?_
      rintro e w7 ⟨t0, rfl, lt, ut, r7, m7⟩
      have S7 := hide_it (S6.out.step m7 r7)
      clear r7 m7 S6
      obtain ⟨Z, hZ⟩ : ∃ Z, Hid (Z = w7.heap.size) := ⟨_, rfl⟩
      have hw7 : w.heap.size ≤ w7.heap.size := S7.out.mid.size
      obtain ⟨au, cu, hus⟩ := row_shape S7.out.hol
      subst hus
      obtain ⟨ao5, co5, ho5⟩ := row_shape S7.out.row
      subst ho5
      have hwX : w.heap.size ≤ (Z + 1) := by rw [hZ.out]; omega
      have OB := hide_it (fun g hg => Nat.lt_trans (S7.out.ob g hg) (show w7.heap.size < (Z + 1) by rw [hZ.out]; omega))
      by_cases hk0 : k0 = 0
      · subst hk0
        obtain ⟨w8, hw8⟩ : ∃ W, Hid (W = (w7.alloc (.cells #[] 3)).alloc (.cells #[.int .i64 1, .int .i64 (1 + t0), .slice (some ⟨Z, 0, none⟩) 0 0] 62)) := ⟨_, rfl⟩
        have S8 : Hid (StS w w8 b (q + 2) S room (.slice au hs.length cu) hs (.slice ao5 ps.length co5) ps) := by show StS _ _ _ _ _ _ _ _ _ _; rw [hw8.out]; exact (S7.out.later (alloc_below _ _)).later (alloc_below _ _)
        have R8 : Hid (w8.heap[Z + 1]? = some (.cells #[.int .i64 1, .int .i64 (1 + t0), .slice (some ⟨Z, 0, none⟩) 0 0] 62 (0, 0))) := by
          show _ = _
          have := heap_alloc_new (w7.alloc (.cells #[] 3)) (.cells #[.int .i64 1, .int .i64 (1 + t0), .slice (some ⟨Z, 0, none⟩) 0 0] 62)
          rw [World.size_alloc] at this
          rw [hw8.out, hZ.out]; rw [hZ.out] at this; exact this
        clear S7
        go_wp2_with fail
        rw [← hZ.out, ← hw8.out]
        refine (pick_any b (q + 2) 3 _ S8.out.rd (by omega) (by omega) (by omega)).mono ?_
        rintro e w11 ⟨z, rfl, lz, uz, r11, m11⟩
        have S11 := hide_it (S8.out.step m11 r11)
        have R11 := hide_it (rowS_mid R8.out m11 (by omega))
        obtain ⟨Y, hY⟩ : ∃ Y, Hid (Y = w11.heap.size) := ⟨_, rfl⟩
        obtain ⟨V, hV⟩ : ∃ W, Hid (W = (w11.setCell ⟨Z + 1, 2, none⟩ (.slice (some ⟨Y, 0, none⟩) 1 1)).alloc (.cells #[.int .i64 (1 + z)] 3)) := ⟨_, rfl⟩
        have SX : Hid (StS w V b (q + 3) S room (.slice au hs.length cu) hs (.slice ao5 ps.length co5) ps) := by show StS _ _ _ _ _ _ _ _ _ _; rw [hV.out]; exact (S11.out.setX R11.out hwX OB.out _).later (alloc_below _ _)
        have RX : Hid (V.heap[Z + 1]? = some (.cells #[.int .i64 1, .int .i64 (1 + t0), .slice (some ⟨Y, 0, none⟩) 1 1] 62 (0, 0))) := by
          show _ = _
          rw [hV.out]
          exact rowS_later (by rw [heap_setCell_same w11 (Z + 1) 2 _ _ _ R11.out]; rfl) (alloc_below _ _) (Nat.le_refl _)
        have FX : Hid (Fresh V w.heap.size (.slice (some ⟨Y, 0, none⟩) 1 1) [1 + z] 1) := by
          show Fresh _ _ _ _ _
          have := fresh1 (w11.setCell ⟨Z + 1, 2, none⟩ (.slice (some ⟨Y, 0, none⟩) 1 1)) w.heap.size (1 + z) (by have := S11.out.mid.size; simp; omega)
          rw [World.size_setCell, ← hY.out] at this
          rw [hV.out]; exact this
        obtain ⟨y0, y1, yf2⟩ : w11.cell? ⟨Z + 1, 0, none⟩ = some (.int .i64 1) ∧ w11.cell? ⟨Z + 1, 1, none⟩ = some (.int .i64 (1 + t0)) ∧ w11.frozen? ⟨Z + 1, 2, none⟩ = false := ⟨by rw [cell_of_row w11 _ _ _ _ _ R11.out]; rfl, by rw [cell_of_row w11 _ _ _ _ _ R11.out]; rfl, frozen_of_row w11 _ _ _ _ R11.out⟩
        have y2 : w11.cell? ⟨Z + 1, 2, none⟩ = some (.slice (some ⟨Z, 0, none⟩) 0 0) := by rw [cell_of_row w11 _ _ _ _ _ R11.out]; rfl
        have yl := heap_lt R11.out
        obtain ⟨s0, s1, sf0, sf1, sl⟩ := S11.out.cells
        have hXS : Z + 1 ≠ S := ne_of_type R11.out S11.out.stk (by decide)
        have hSX : S ≠ Z + 1 := fun e => hXS e.symm
        clear r11 m11 S8 R8 hw8
        have hwV : w.heap.size ≤ V.heap.size := SX.out.mid.size
        have HDO := hide_it (specDo_any room (.slice au hs.length cu) hs (1) (1 + t0) (.slice (some ⟨Y, 0, none⟩) 1 1) ([1 + z]) V (holds_of_row SX.out.hol) (by rw [hlen.out]; omega) FX.out.ints (by simp))
        cases hdo : Pl.sDo room hs (1) (1 + t0) ([1 + z]) with
        | none =>
          rw [hdo] at HDO
          have HDO' : Hid (Calls Tryz.prog 100 #[.agg #[.int .i64 room, .slice au hs.length cu], .agg #[.int .i64 (1), .int .i64 (1 + t0), .slice (some ⟨Y, 0, none⟩) 1 1]] V fun e w' => StOut V w' e 0 [] false) := HDO.out
          clear HDO
          go_wp2_with fail
          rw [← hY.out, ← hV.out]
          refine HDO'.out.mono ?_
          rintro e w9 ⟨a9, c9, rfl, ho9, hb9⟩
          have S9 := hide_it ((SX.out.later hb9).later (alloc_below _ (.cells #[.int .i64 0, .slice a9 0 c9] 50)))
          clear ho9 hb9 s0 s1 sf0 sf1 sl
          go_wp2_with fail
          go_roundw
          case rel => exact ⟨m - 1, _, _, _, ps, by go_num, by omega, by omega, by omega, S9, HR⟩
          case measure => simp [intOf]; omega
        | some hs' =>
          rw [hdo] at HDO
          have HDO' : Hid (Calls Tryz.prog 100 #[.agg #[.int .i64 room, .slice au hs.length cu], .agg #[.int .i64 (1), .int .i64 (1 + t0), .slice (some ⟨Y, 0, none⟩) 1 1]] V fun e w' => StOut V w' e room hs' true) := HDO.out
          have HR' : Hid (Pl.sRun room ((ps ++ [(((1, 1 + t0, [1 + z]) : R), (.slice (some ⟨Y, 0, none⟩) 1 1 : Value))]).map (·.1)) Pl.noHolds = some hs') := by
            show _ = _
            rw [List.map_append, List.map_singleton, Pl.sRun_snoc, HR.out]; exact hdo
          clear HDO hdo
          go_wp2_with fail
          rw [← hY.out, ← hV.out]
          refine HDO'.out.mono ?_
          rintro e w9 ⟨a9, c9, rfl, ho9, hb9⟩
          obtain ⟨L', hL'⟩ : ∃ l, Hid (hs'.length = l) := ⟨_, rfl⟩
          rw [hL'.out] at ho9 ⊢
          have S9 := hide_it (SX.out.later hb9)
          have F9 := hide_it (FX.out.later hb9 (Nat.le_refl _))
          have R9 := hide_it (rowS_later RX.out hb9 (Nat.le_refl _))
          have O9 : Hid (w9.ownsRow w.heap.size 54 2 (.slice a9 L' c9) hs'.length (hflat hs')) := by show World.ownsRow _ _ _ _ _ _ _; rw [hL'.out]; exact ownsRow_lower ho9 hwV
          have S10 := hide_it ((S9.out.setS O9.out).later (alloc_below _ (.cells #[.int .i64 room, .slice a9 L' c9] 50)))
          have F10 : Hid (Fresh (((w9.setCell ⟨S, 0, none⟩ (.int .i64 room)).setCell ⟨S, 1, none⟩ (.slice a9 L' c9)).alloc (.cells #[.int .i64 room, .slice a9 L' c9] 50)) w.heap.size (.slice (some ⟨Y, 0, none⟩) 1 1) ([1 + z]) 1) := by
            show Fresh _ _ _ _ _
            exact ((F9.out.set S9.out.stk (by decide) _).set (heap_setCell_same _ S 0 _ _ _ S9.out.stk) (by decide) _).later (alloc_below _ _) (Nat.le_refl _)
          have hpl : ps.length ≤ 12 := by omega
          have ROW : Hid (∀ o, ((((w9.setCell ⟨S, 0, none⟩ (.int .i64 room)).setCell ⟨S, 1, none⟩ (.slice a9 L' c9)).alloc (.cells #[.int .i64 room, .slice a9 L' c9] 50)).alloc o).ownsRow w.heap.size 62 3 (.slice ao5 ps.length co5) ps.length (flat ps)) := fun o => (S10.out.later (alloc_below _ o)).row
          have hw9s : w.heap.size ≤ w9.heap.size := S9.out.mid.size
          clear ho9 s0 s1 sf0 sf1 sl
          have x0 : w9.cell? ⟨Z + 1, 0, none⟩ = some (.int .i64 (1)) := by rw [cell_of_row w9 _ _ _ _ _ R9.out]; rfl
          have x1 : w9.cell? ⟨Z + 1, 1, none⟩ = some (.int .i64 (1 + t0)) := by rw [cell_of_row w9 _ _ _ _ _ R9.out]; rfl
          have x2 : w9.cell? ⟨Z + 1, 2, none⟩ = some (.slice (some ⟨Y, 0, none⟩) 1 1) := by rw [cell_of_row w9 _ _ _ _ _ R9.out]; rfl
          have xl := heap_lt R9.out
          obtain ⟨s0, s1, sf0, sf1, sl⟩ := S9.out.cells
          clear hb9
          have NEWS : Hid (∀ (j : Nat) (x : Value), [Value.int .i64 (1), .int .i64 (1 + t0), .slice (some ⟨Y, 0, none⟩) 1 1][j]? = some x → ((((w9.setCell ⟨S, 0, none⟩ (.int .i64 room)).setCell ⟨S, 1, none⟩ (.slice a9 L' c9)).alloc (.cells #[.int .i64 room, .slice a9 L' c9] 50)).alloc (.cells #[.int .i64 (1), .int .i64 (1 + t0), .slice (some ⟨Y, 0, none⟩) 1 1] 62)).cell? ((⟨w9.heap.size + 1, 0, none⟩ : Addr).add j) = some x) := by
            have := news3 (((w9.setCell ⟨S, 0, none⟩ (.int .i64 room)).setCell ⟨S, 1, none⟩ (.slice a9 L' c9)).alloc (.cells #[.int .i64 room, .slice a9 L' c9] 50)) (1) (1 + t0) (.slice (some ⟨Y, 0, none⟩) 1 1) 62
            rw [World.size_alloc, World.size_setCell, World.size_setCell] at this
            exact this
          go_wp2_with (at_builtin; refine wpList_append_own _ rfl _ _ 30 rfl w.heap.size 62 i0 (.agg #[.int .i64 0, .int .i64 0, .slice none 0 0]) 3 40 Tryz.underlying30 hi hz0 hz1 hz2 rfl (by decide) (.slice ao5 ps.length co5) ps.length (flat ps) rfl (ROW.out _) ⟨w9.heap.size + 1, 0, none⟩ 1 1 [.int .i64 (1), .int .i64 (1 + t0), .slice (some ⟨Y, 0, none⟩) 1 1] rfl rfl NEWS.out (one3 _ _ _) ?c3 ?c4 ?c5 ?_)
          case c3 => unfold maxLen; omega
          case c4 => omega
          case c5 => simp; omega
          intro v' w12 hown12 hgrow12 _
          have S12 := hide_it ((S10.out.later (alloc_below _ _)).push (r := (1, 1 + t0, [1 + z])) ⟨by simp, Or.inl ⟨1, F10.out.later (alloc_below _ _) (Nat.le_refl _)⟩⟩ hown12 hgrow12)
          clear hown12 hgrow12 ROW S10 F10 NEWS S9 F9 R9 O9 s0 s1 sf0 sf1 x0 x1 x2
          go_wp2_with fail
          go_roundw
          case rel => exact ⟨m - 1, _, _, _, _, by go_num, by simp; omega, by omega, by omega, S12, HR'⟩
          case measure => simp [intOf]; omega
      · obtain ⟨V, hV⟩ : ∃ W, Hid (W = (w7.alloc (.cells #[] 3)).alloc (.cells #[.int .i64 (1 + k0), .int .i64 (1 + t0), .slice (some ⟨Z, 0, none⟩) 0 0] 62)) := ⟨_, rfl⟩
        have SX : Hid (StS w V b (q + 2) S room (.slice au hs.length cu) hs (.slice ao5 ps.length co5) ps) := by show StS _ _ _ _ _ _ _ _ _ _; rw [hV.out]; exact (S7.out.later (alloc_below _ _)).later (alloc_below _ _)
        have RX : Hid (V.heap[Z + 1]? = some (.cells #[.int .i64 (1 + k0), .int .i64 (1 + t0), .slice (some ⟨Z, 0, none⟩) 0 0] 62 (0, 0))) := by
          show _ = _
          have := heap_alloc_new (w7.alloc (.cells #[] 3)) (.cells #[.int .i64 (1 + k0), .int .i64 (1 + t0), .slice (some ⟨Z, 0, none⟩) 0 0] 62)
          rw [World.size_alloc] at this
          rw [hV.out, hZ.out]; rw [hZ.out] at this; exact this
        have FX : Hid (Fresh V w.heap.size (.slice (some ⟨Z, 0, none⟩) 0 0) [] 0) := by
          show Fresh _ _ _ _ _
          rw [hV.out, hZ.out]; exact (fresh0 w7 w.heap.size hw7).later (alloc_below _ _) (Nat.le_refl _)
        have hk1 : ¬ (1 + k0 = 1) := by omega
        obtain ⟨s0, s1, sf0, sf1, sl⟩ := S7.out.cells
        have hXS : Z + 1 ≠ S := ne_of_type RX.out SX.out.stk (by decide)
        have hSX : S ≠ Z + 1 := fun e => hXS e.symm
        clear S7
        have hwV : w.heap.size ≤ V.heap.size := SX.out.mid.size
        have HDO := hide_it (specDo_any room (.slice au hs.length cu) hs (1 + k0) (1 + t0) (.slice (some ⟨Z, 0, none⟩) 0 0) ([]) V (holds_of_row SX.out.hol) (by rw [hlen.out]; omega) FX.out.ints (by simp))
        cases hdo : Pl.sDo room hs (1 + k0) (1 + t0) ([]) with
        | none =>
          rw [hdo] at HDO
          have HDO' : Hid (Calls Tryz.prog 100 #[.agg #[.int .i64 room, .slice au hs.length cu], .agg #[.int .i64 (1 + k0), .int .i64 (1 + t0), .slice (some ⟨Z, 0, none⟩) 0 0]] V fun e w' => StOut V w' e 0 [] false) := HDO.out
          clear HDO
          go_wp2_with fail
          rw [← hZ.out, ← hV.out]
          refine HDO'.out.mono ?_
          rintro e w9 ⟨a9, c9, rfl, ho9, hb9⟩
          have S9 := hide_it ((SX.out.later hb9).later (alloc_below _ (.cells #[.int .i64 0, .slice a9 0 c9] 50)))
          clear ho9 hb9 s0 s1 sf0 sf1 sl
          go_wp2_with fail
          go_roundw
          case rel => exact ⟨m - 1, _, _, _, ps, by go_num, by omega, by omega, by omega, S9, HR⟩
          case measure => simp [intOf]; omega
        | some hs' =>
          rw [hdo] at HDO
          have HDO' : Hid (Calls Tryz.prog 100 #[.agg #[.int .i64 room, .slice au hs.length cu], .agg #[.int .i64 (1 + k0), .int .i64 (1 + t0), .slice (some ⟨Z, 0, none⟩) 0 0]] V fun e w' => StOut V w' e room hs' true) := HDO.out
          have HR' : Hid (Pl.sRun room ((ps ++ [(((1 + k0, 1 + t0, []) : R), (.slice (some ⟨Z, 0, none⟩) 0 0 : Value))]).map (·.1)) Pl.noHolds = some hs') := by
            show _ = _
            rw [List.map_append, List.map_singleton, Pl.sRun_snoc, HR.out]; exact hdo
          clear HDO hdo
          go_wp2_with fail
          rw [← hZ.out, ← hV.out]
          refine HDO'.out.mono ?_
          rintro e w9 ⟨a9, c9, rfl, ho9, hb9⟩
          obtain ⟨L', hL'⟩ : ∃ l, Hid (hs'.length = l) := ⟨_, rfl⟩
          rw [hL'.out] at ho9 ⊢
          have S9 := hide_it (SX.out.later hb9)
          have F9 := hide_it (FX.out.later hb9 (Nat.le_refl _))
          have R9 := hide_it (rowS_later RX.out hb9 (Nat.le_refl _))
          have O9 : Hid (w9.ownsRow w.heap.size 54 2 (.slice a9 L' c9) hs'.length (hflat hs')) := by show World.ownsRow _ _ _ _ _ _ _; rw [hL'.out]; exact ownsRow_lower ho9 hwV
          have S10 := hide_it ((S9.out.setS O9.out).later (alloc_below _ (.cells #[.int .i64 room, .slice a9 L' c9] 50)))
          have F10 : Hid (Fresh (((w9.setCell ⟨S, 0, none⟩ (.int .i64 room)).setCell ⟨S, 1, none⟩ (.slice a9 L' c9)).alloc (.cells #[.int .i64 room, .slice a9 L' c9] 50)) w.heap.size (.slice (some ⟨Z, 0, none⟩) 0 0) ([]) 0) := by
            show Fresh _ _ _ _ _
            exact ((F9.out.set S9.out.stk (by decide) _).set (heap_setCell_same _ S 0 _ _ _ S9.out.stk) (by decide) _).later (alloc_below _ _) (Nat.le_refl _)
          have hpl : ps.length ≤ 12 := by omega
          have ROW : Hid (∀ o, ((((w9.setCell ⟨S, 0, none⟩ (.int .i64 room)).setCell ⟨S, 1, none⟩ (.slice a9 L' c9)).alloc (.cells #[.int .i64 room, .slice a9 L' c9] 50)).alloc o).ownsRow w.heap.size 62 3 (.slice ao5 ps.length co5) ps.length (flat ps)) := fun o => (S10.out.later (alloc_below _ o)).row
          have hw9s : w.heap.size ≤ w9.heap.size := S9.out.mid.size
          clear ho9 s0 s1 sf0 sf1 sl
          have x0 : w9.cell? ⟨Z + 1, 0, none⟩ = some (.int .i64 (1 + k0)) := by rw [cell_of_row w9 _ _ _ _ _ R9.out]; rfl
          have x1 : w9.cell? ⟨Z + 1, 1, none⟩ = some (.int .i64 (1 + t0)) := by rw [cell_of_row w9 _ _ _ _ _ R9.out]; rfl
          have x2 : w9.cell? ⟨Z + 1, 2, none⟩ = some (.slice (some ⟨Z, 0, none⟩) 0 0) := by rw [cell_of_row w9 _ _ _ _ _ R9.out]; rfl
          have xl := heap_lt R9.out
          obtain ⟨s0, s1, sf0, sf1, sl⟩ := S9.out.cells
          clear hb9
          have NEWS : Hid (∀ (j : Nat) (x : Value), [Value.int .i64 (1 + k0), .int .i64 (1 + t0), .slice (some ⟨Z, 0, none⟩) 0 0][j]? = some x → ((((w9.setCell ⟨S, 0, none⟩ (.int .i64 room)).setCell ⟨S, 1, none⟩ (.slice a9 L' c9)).alloc (.cells #[.int .i64 room, .slice a9 L' c9] 50)).alloc (.cells #[.int .i64 (1 + k0), .int .i64 (1 + t0), .slice (some ⟨Z, 0, none⟩) 0 0] 62)).cell? ((⟨w9.heap.size + 1, 0, none⟩ : Addr).add j) = some x) := by
            have := news3 (((w9.setCell ⟨S, 0, none⟩ (.int .i64 room)).setCell ⟨S, 1, none⟩ (.slice a9 L' c9)).alloc (.cells #[.int .i64 room, .slice a9 L' c9] 50)) (1 + k0) (1 + t0) (.slice (some ⟨Z, 0, none⟩) 0 0) 62
            rw [World.size_alloc, World.size_setCell, World.size_setCell] at this
            exact this
          go_wp2_with (at_builtin; refine wpList_append_own _ rfl _ _ 30 rfl w.heap.size 62 i0 (.agg #[.int .i64 0, .int .i64 0, .slice none 0 0]) 3 40 Tryz.underlying30 hi hz0 hz1 hz2 rfl (by decide) (.slice ao5 ps.length co5) ps.length (flat ps) rfl (ROW.out _) ⟨w9.heap.size + 1, 0, none⟩ 1 1 [.int .i64 (1 + k0), .int .i64 (1 + t0), .slice (some ⟨Z, 0, none⟩) 0 0] rfl rfl NEWS.out (one3 _ _ _) ?c3 ?c4 ?c5 ?_)
          case c3 => unfold maxLen; omega
          case c4 => omega
          case c5 => simp; omega
          intro v' w12 hown12 hgrow12 _
          have S12 := hide_it ((S10.out.later (alloc_below _ _)).push (r := (1 + k0, 1 + t0, [])) ⟨by simp, Or.inl ⟨0, F10.out.later (alloc_below _ _) (Nat.le_refl _)⟩⟩ hown12 hgrow12)
          clear hown12 hgrow12 ROW S10 F10 NEWS S9 F9 R9 O9 s0 s1 sf0 sf1 x0 x1 x2
          go_wp2_with fail
          go_roundw
          case rel => exact ⟨m - 1, _, _, _, _, by go_num, by simp; omega, by omega, by omega, S12, HR'⟩
          case measure => simp [intOf]; omega
    · obtain rfl : m = 0 := by omega
      go_wp2
      go_ret2
      exact ⟨room, _, ps, hs, q, rfl, lr, by omega, by omega, HS.out.row, HS.out.all, HR.out, by omega, HS.out.rd, HS.out.mid⟩

end Go.Proofs.YthllcffmpeopcaaGreatDoor

namespace Go.Proofs.YthllcffmpeopcaaGreatDoor
open Go.RowKit

set_option maxRecDepth 100000 in
set_option maxHeartbeats 4000000 in
theorem many_draw (b p : Nat) (w : World) (h : Rd w b p) (hp : p ≤ 900000) :
    Calls Tryz.prog 101 #[.pointer (some ⟨b, 0, none⟩)] w fun e w' => ∃ u zs q, e = .returned u ∧ zs.length ≤ 3 ∧ Fresh w' w.heap.size u zs zs.length ∧ p ≤ q ∧ q ≤ p + 8 ∧ Rd w' b q ∧ Mid b (b + 1) w w' := by
  have hblt := h.lt
  have HR := hide_it h
  clear h
  go_enter Tryz.func101, Tryz.ntmps101
  go_wp2_with fail
  refine (pick_any b p 3 w HR.out (by omega) (by omega) (by omega)).mono ?_
  rintro e w1 ⟨x1, rfl, l1, u1, r1, m1⟩
  have HR1 := hide_it r1
  have HM1 := hide_it m1
  clear r1 m1
  go_wp2_with fail
  refine (pick_any b (p + 1) 3 w1 HR1.out (by omega) (by omega) (by omega)).mono ?_
  rintro e w2 ⟨x2, rfl, l2, u2, r2, m2⟩
  have HR2 := hide_it r2
  have HM2 := hide_it (HM1.out.trans m2)
  clear r2 m2 HR1 HM1
  go_wp2_with fail
  refine (pick_any b (p + 1 + 1) 3 w2 HR2.out (by omega) (by omega) (by omega)).mono ?_
  rintro e w3 ⟨x3, rfl, l3, u3, r3, m3⟩
  have HR3 := hide_it r3
  have HM3 := hide_it (HM2.out.trans m3)
  have hs3 : w.heap.size ≤ w3.heap.size := HM3.out.size
  clear r3 m3 HR2 HM2
  go_wp2_with fail
  go_quiet (fail)
  go_upto_if 22 with fail
  go_cut [3] (fun o W => ∃ g a0 a1 a2 q, o = .slice (some ⟨g, 0, none⟩) 3 3 ∧ p ≤ q ∧ q ≤ p + 4 ∧ Hid (StM w W b q g a0 a1 a2))
  case first =>
    go_wp2_with fail
    · refine (pick_any b (p + 1 + 1 + 1) 3 _ ((HR3.out.alloc _).drewN _) (by omega) (by omega) (by omega)).mono ?_
      rintro e w4 ⟨x4, rfl, l4, u4, r4, m4⟩
      have S4 : Hid (StM w w4 b (p + 4) w3.heap.size x1 x2 x3) := ⟨((Row3.new w3 x1 x2 x3).drewN _).mid m4 (by omega), hs3, by omega, r4, ((HM3.out.alloc _).drewN _).trans m4⟩
      clear r4 m4
      obtain ⟨c0, c1, c2, f0, f1, f2⟩ := S4.out.1.cells
      rcases three l4 u4 with rfl | rfl | rfl
      · go_wp2_with fail
        go_meet
        case rel => exact ⟨w3.heap.size, 1, x2, x3, p + 4, rfl, by omega, by omega, S4.out.1.set0 1, hs3, by omega, S4.out.2.2.2.1.setApart (by omega) _, S4.out.2.2.2.2.setNew hs3 _⟩
      · go_wp2_with fail
        go_meet
        case rel => exact ⟨w3.heap.size, x1, 1, x3, p + 4, rfl, by omega, by omega, S4.out.1.set1 1, hs3, by omega, S4.out.2.2.2.1.setApart (by omega) _, S4.out.2.2.2.2.setNew hs3 _⟩
      · go_wp2_with fail
        go_meet
        case rel => exact ⟨w3.heap.size, x1, x2, 1, p + 4, rfl, by omega, by omega, S4.out.1.set2 1, hs3, by omega, S4.out.2.2.2.1.setApart (by omega) _, S4.out.2.2.2.2.setNew hs3 _⟩
    · go_meet
      case rel => exact ⟨w3.heap.size, x1, x2, x3, p + 3, rfl, by omega, by omega, (Row3.new w3 x1 x2 x3).drewN _, hs3, by omega, (HR3.out.alloc _).drewN _, (HM3.out.alloc _).drewN _⟩
  case rest =>
    obtain ⟨g, a0, a1, a2, q, rfl, hq0, hq1, HS⟩ := hcut
    clear HR HR3 HM3 hs3 l1 l2 l3 u1 u2 u3
    have hgb : b < g := HS.out.2.2.1
    have hwg : w.heap.size ≤ g := HS.out.2.1
    go_wp2_with fail
    refine (pick_any b q 24 _ HS.out.2.2.2.1 (by omega) (by omega) (by omega)).mono ?_
    rintro e w5 ⟨y, rfl, ly, uy, r5, m5⟩
    have S5 : Hid (StM w w5 b (q + 1) g a0 a1 a2) := ⟨HS.out.1.mid m5 hgb, hwg, hgb, r5, HS.out.2.2.2.2.trans m5⟩
    clear r5 m5 HS
    obtain ⟨c0, c1, c2, f0, f1, f2⟩ := S5.out.1.cells
    by_cases y0 : y = 0
    · subst y0
      go_wp2_with fail
      refine (pick_any b (q + 1) 3 _ S5.out.2.2.2.1 (by omega) (by omega) (by omega)).mono ?_
      rintro e w6 ⟨z, rfl, lz, uz, r6, m6⟩
      have S6 : Hid (StM w w6 b (q + 2) g a0 a1 a2) := ⟨S5.out.1.mid m6 hgb, hwg, hgb, r6, S5.out.2.2.2.2.trans m6⟩
      clear r6 m6 S5 c0 c1 c2 f0 f1 f2
      have hs6 : g < w6.heap.size := S6.out.1.lt
      go_wp2_with fail
      refine (pick_any b (q + 2) 3 _ (S6.out.2.2.2.1.alloc _) (by omega) (by omega) (by omega)).mono ?_
      rintro e w7 ⟨t, rfl, lt, ut, r7, m7⟩
      have S7 : Hid (StM w w7 b (q + 3) g a0 a1 a2) := ⟨(S6.out.1.later (alloc_below _ _) (Nat.le_refl _)).mid m7 hgb, hwg, hgb, r7, (S6.out.2.2.2.2.alloc _).trans m7⟩
      have N7 : Hid (Row3 w7 w6.heap.size (-1) 3 4) := (Row3.new w6 (-1) 3 4).mid m7 (by omega)
      clear r7 m7 S6
      obtain ⟨c0, c1, c2, f0, f1, f2⟩ := S7.out.1.cells
      obtain ⟨d0, d1, d2, _, _, _⟩ := N7.out.cells
      rcases three lz uz with rfl | rfl | rfl
      · rcases three lt ut with rfl | rfl | rfl
        all_goals
          go_wp2
          go_ret
          exact ⟨_, [_, _, _], q + 3, rfl, by simp, (S7.out.1.set0 _).fresh hwg, by omega, by omega, S7.out.2.2.2.1.setApart (by omega) _, S7.out.2.2.2.2.setNew hwg _⟩
      · rcases three lt ut with rfl | rfl | rfl
        all_goals
          go_wp2
          go_ret
          exact ⟨_, [_, _, _], q + 3, rfl, by simp, (S7.out.1.set1 _).fresh hwg, by omega, by omega, S7.out.2.2.2.1.setApart (by omega) _, S7.out.2.2.2.2.setNew hwg _⟩
      · rcases three lt ut with rfl | rfl | rfl
        all_goals
          go_wp2
          go_ret
          exact ⟨_, [_, _, _], q + 3, rfl, by simp, (S7.out.1.set2 _).fresh hwg, by omega, by omega, S7.out.2.2.2.1.setApart (by omega) _, S7.out.2.2.2.2.setNew hwg _⟩
    by_cases y1 : y = 1
    · subst y1
      go_wp2
      go_ret
      exact ⟨_, [a1, a2], q + 1, rfl, by simp, S5.out.1.fresh1 hwg, by omega, by omega, S5.out.2.2.2.1, S5.out.2.2.2.2⟩
    by_cases y2 : y = 2
    · subst y2
      have hs5 : g < w5.heap.size := S5.out.1.lt
      go_wp2
      go_ret
      exact ⟨_, [0, 0, 0], q + 1, rfl, by simp, (Row3.new w5 0 0 0).fresh (by omega), by omega, by omega, S5.out.2.2.2.1.alloc _, S5.out.2.2.2.2.alloc _⟩
    go_wp2
    go_ret
    exact ⟨_, [a0, a1, a2], q + 1, rfl, by simp, S5.out.1.fresh hwg, by omega, by omega, S5.out.2.2.2.1, S5.out.2.2.2.2⟩

end Go.Proofs.YthllcffmpeopcaaGreatDoor

namespace Go.Proofs.YthllcffmpeopcaaGreatDoor
open Go.RowKit

/-- What lies there while a record is drawn: the result's block, the record's own, its numbers, the reader. -/
structure StR (w W : World) (b q X : Nat) (k t : Int) (u : Value) (zs : List Int) : Prop where
  own : W.heap[X]? = some (.cells #[.int .i64 k, .int .i64 t, u] 62 (0, 0))
  res : W.heap[w.heap.size]? = some (.cells #[.int .i64 0, .int .i64 0, .slice none 0 0] 62 (0, 0))
  lt : w.heap.size < X
  many : Fresh W w.heap.size u zs zs.length
  few : zs.length ≤ 3
  rd : Rd W b q
  mid : Mid b (b + 1) w W
  low : b < w.heap.size

theorem row_later {W W' : World} {X B : Nat} {o : Obj} (h : W.heap[X]? = some o) (hb : Below B W W') (hB : W.heap.size ≤ B) : W'.heap[X]? = some o := by
  rw [hb.block X (by have := heap_lt h; omega)]; exact h
theorem row_mid {W W' : World} {X b : Nat} {o : Obj} (h : W.heap[X]? = some o) (hb : Mid b (b + 1) W W') (hx : b < X) : W'.heap[X]? = some o := by
  rw [hb.block X (heap_lt h) (Or.inr (by omega))]; exact h

theorem StR.step {w W W' : World} {b q q' X : Nat} {k t : Int} {u : Value} {zs : List Int} (h : StR w W b q X k t u zs) (hb : Mid b (b + 1) W W') (hr : Rd W' b q') : StR w W' b q' X k t u zs :=
  ⟨row_mid h.own hb (by have := h.lt; have := h.low; omega), row_mid h.res hb h.low, h.lt, h.many.mid h.rd hb, h.few, hr, h.mid.trans hb, h.low⟩
theorem StR.later {w W W' : World} {b q X : Nat} {k t : Int} {u : Value} {zs : List Int} (h : StR w W b q X k t u zs) (hb : Below W.heap.size W W') : StR w W' b q X k t u zs :=
  h.step (Mid.of_below hb (Nat.le_refl _)) (h.rd.later hb (Nat.le_refl _))
theorem StR.cells {w W : World} {b q X : Nat} {k t : Int} {u : Value} {zs : List Int} (h : StR w W b q X k t u zs) :
    (W.cell? ⟨X, 0, none⟩ = some (.int .i64 k) ∧ W.cell? ⟨X, 1, none⟩ = some (.int .i64 t) ∧ W.cell? ⟨X, 2, none⟩ = some u ∧
    W.frozen? ⟨X, 0, none⟩ = false ∧ W.frozen? ⟨X, 1, none⟩ = false ∧ W.frozen? ⟨X, 2, none⟩ = false) ∧
    (W.cell? ⟨w.heap.size, 0, none⟩ = some (.int .i64 0) ∧ W.cell? ⟨w.heap.size, 1, none⟩ = some (.int .i64 0) ∧ W.cell? ⟨w.heap.size, 2, none⟩ = some (.slice none 0 0) ∧
    W.frozen? ⟨w.heap.size, 0, none⟩ = false ∧ W.frozen? ⟨w.heap.size, 1, none⟩ = false ∧ W.frozen? ⟨w.heap.size, 2, none⟩ = false) := by
  refine ⟨⟨?_, ?_, ?_, frozen_of_row W _ _ _ _ h.own, frozen_of_row W _ _ _ _ h.own, frozen_of_row W _ _ _ _ h.own⟩, ⟨?_, ?_, ?_, frozen_of_row W _ _ _ _ h.res, frozen_of_row W _ _ _ _ h.res, frozen_of_row W _ _ _ _ h.res⟩⟩
  · rw [cell_of_row W _ _ _ _ _ h.own]; rfl
  · rw [cell_of_row W _ _ _ _ _ h.own]; rfl
  · rw [cell_of_row W _ _ _ _ _ h.own]; rfl
  · rw [cell_of_row W _ _ _ _ _ h.res]; rfl
  · rw [cell_of_row W _ _ _ _ _ h.res]; rfl
  · rw [cell_of_row W _ _ _ _ _ h.res]; rfl
theorem StR.set0 {w W : World} {b q X : Nat} {k t : Int} {u : Value} {zs : List Int} (h : StR w W b q X k t u zs) (x : Int) : StR w (W.setCell ⟨X, 0, none⟩ (.int .i64 x)) b q X x t u zs :=
  have hl := h.lt
  have hw := h.low
  ⟨by rw [heap_setCell_same W X 0 _ _ _ h.own]; simp, by rw [Below.heap_setCell _ _ _ _ (by simp; omega)]; exact h.res, hl, h.many.set h.own (by decide) _, h.few, h.rd.setApart (by omega) _, h.mid.setNew (by omega) _, hw⟩
theorem StR.set1 {w W : World} {b q X : Nat} {k t : Int} {u : Value} {zs : List Int} (h : StR w W b q X k t u zs) (x : Int) : StR w (W.setCell ⟨X, 1, none⟩ (.int .i64 x)) b q X k x u zs :=
  have hl := h.lt
  have hw := h.low
  ⟨by rw [heap_setCell_same W X 1 _ _ _ h.own]; simp, by rw [Below.heap_setCell _ _ _ _ (by simp; omega)]; exact h.res, hl, h.many.set h.own (by decide) _, h.few, h.rd.setApart (by omega) _, h.mid.setNew (by omega) _, hw⟩
theorem StR.set2 {w W : World} {b q X : Nat} {k t : Int} {u u' : Value} {zs zs' : List Int} (h : StR w W b q X k t u zs) (hm : Fresh W w.heap.size u' zs' zs'.length) (hf : zs'.length ≤ 3) : StR w (W.setCell ⟨X, 2, none⟩ u') b q X k t u' zs' :=
  have hl := h.lt
  have hw := h.low
  ⟨by rw [heap_setCell_same W X 2 _ _ _ h.own]; simp, by rw [Below.heap_setCell _ _ _ _ (by simp; omega)]; exact h.res, hl, hm.set h.own (by decide) _, hf, h.rd.setApart (by omega) _, h.mid.setNew (by omega) _, hw⟩
theorem one_fresh (W : World) (lo : Nat) (x : Int) (h : lo ≤ W.heap.size) : Fresh (W.alloc (.cells #[.int .i64 x] 3)) lo (.slice (some ⟨W.heap.size, 0, none⟩) 1 1) [x] 1 :=
  ⟨W.heap.size, 0, _, rfl, h, heap_alloc_new W _, fun k hk => by match k, hk with | 0, _ => rfl⟩

theorem StR.new2 {w W : World} {b q X : Nat} {k t : Int} {u : Value} {zs : List Int} (h : StR w W b q X k t u zs) (x : Int) : StR w ((W.setCell ⟨X, 2, none⟩ (.slice (some ⟨W.heap.size, 0, none⟩) 1 1)).alloc (.cells #[.int .i64 x] 3)) b q X k t (.slice (some ⟨W.heap.size, 0, none⟩) 1 1) [x] := by
  have hl := h.lt
  have hw := h.low
  have hX := heap_lt h.own
  have hn := heap_alloc_new (W.setCell ⟨X, 2, none⟩ (.slice (some ⟨W.heap.size, 0, none⟩) 1 1)) (.cells #[.int .i64 x] 3)
  rw [show (W.setCell ⟨X, 2, none⟩ (.slice (some ⟨W.heap.size, 0, none⟩) 1 1)).heap.size = W.heap.size by simp] at hn
  refine ⟨?_, ?_, hl, ⟨W.heap.size, 0, _, rfl, by omega, hn, fun k hk => by match k, hk with | 0, _ => rfl⟩, by simp, (h.rd.setApart (by omega) _).alloc _, (h.mid.setNew (by omega) _).alloc _, hw⟩
  · rw [Below.heap_alloc _ _ _ (by simp; omega), heap_setCell_same W X 2 _ _ _ h.own]; simp
  · rw [Below.heap_alloc _ _ _ (by simp; omega), Below.heap_setCell _ _ _ _ (by simp; omega)]; exact h.res

/-- What is left of it when the record is handed back. -/
structure StO (w W : World) (b q : Nat) (u : Value) (zs : List Int) (cap : Nat) : Prop where
  res : ∃ cs, W.heap[w.heap.size]? = some (.cells cs 62 (0, 0))
  many : Fresh W w.heap.size u zs cap
  rd : Rd W b q
  mid : Mid b (b + 1) w W
  low : b < w.heap.size
theorem StR.out {w W : World} {b q X : Nat} {k t : Int} {u : Value} {zs : List Int} (h : StR w W b q X k t u zs) : StO w W b q u zs zs.length := ⟨⟨_, h.res⟩, h.many, h.rd, h.mid, h.low⟩
theorem StO.set {w W : World} {b q : Nat} {u : Value} {zs : List Int} {cap : Nat} (h : StO w W b q u zs cap) (i : Nat) (x : Value) : StO w (W.setCell ⟨w.heap.size, i, none⟩ x) b q u zs cap := by
  obtain ⟨cs, hr⟩ := h.res
  exact ⟨⟨_, heap_setCell_same W _ i _ _ _ hr⟩, h.many.set hr (by decide) _, h.rd.setApart h.low _, h.mid.setNew (Nat.le_refl _) _, h.low⟩

theorem own_fresh {W : World} {base lo n : Nat} {v : Value} {zs : List Int} (h : W.ownsRow base 3 1 v n (zs.map (Value.int .i64))) (hn : 0 < n) (hl : lo ≤ base) : ∃ g cap, v = .slice (some ⟨g, 0, none⟩) zs.length cap ∧ Fresh W lo v zs cap := by
  obtain ⟨h1, h2⟩ := h
  rcases h2 with ⟨_, h0⟩ | ⟨g, cap, cur, hv, hg, hh, _, _, hc, ht⟩
  · omega
  · have hzl : zs.length = n := by simpa using h1
    refine ⟨g, cap, by rw [hzl]; exact hv, g, 0, cur, by rw [hzl]; exact hv, by omega, hh, fun k hk => ?_⟩
    have e : (cur.toList.take (n * 1))[k]? = (zs.map (Value.int .i64))[k]? := by rw [ht]
    rw [List.getElem?_take, if_pos (by omega)] at e
    rw [Nat.zero_add, ← Array.getElem?_toList, e]
    simp [List.getD_eq_getElem?_getD, hk]
theorem StO.setX {w W : World} {b q X i : Nat} {cs : Array Value} {u : Value} {zs : List Int} {cap : Nat} (h : StO w W b q u zs cap) (hX : W.heap[X]? = some (.cells cs 62 (0, 0))) (hl : w.heap.size < X) (x : Value) : StO w (W.setCell ⟨X, i, none⟩ x) b q u zs cap := by
  obtain ⟨cr, hr⟩ := h.res
  have hw := h.low
  exact ⟨⟨cr, by rw [Below.heap_setCell _ _ _ _ (by simp; omega)]; exact hr⟩, h.many.set hX (by decide) _, h.rd.setApart (by omega) _, h.mid.setNew (by omega) _, hw⟩
theorem fresh_cells {W : World} {lo g off : Nat} {zs : List Int} {cap : Nat} (h : Fresh W lo (.slice (some ⟨g, off, none⟩) zs.length cap) zs cap) (j : Nat) (u : Value) (hj : (zs.map (Value.int .i64))[j]? = some u) : W.cell? ((⟨g, off, none⟩ : Addr).add j) = some u := by
  obtain ⟨g', off', cs, hu, _, hh, hc⟩ := h
  simp at hu
  obtain ⟨rfl, rfl⟩ := hu
  have hjl : j < zs.length := by
    by_cases e : j < zs.length
    · exact e
    · rw [List.getElem?_eq_none (by simp; omega)] at hj; cases hj
  rw [Go.WideShapes.add_plain, cell_of_row W _ _ _ _ _ hh, hc j hjl, ← hj]
  simp [List.getD_eq_getElem?_getD, hjl]

set_option maxRecDepth 100000 in
set_option maxHeartbeats 4000000 in
theorem rec_draw (b p : Nat) (w : World) (h : Rd w b p) (hp : p ≤ 800000) :
    Calls Tryz.prog 79 #[.pointer (some ⟨b, 0, none⟩)] w fun e w' => ∃ k t u zs q cap, e = .returned (.agg #[.int .i64 k, .int .i64 t, u]) ∧ zs.length ≤ 4 ∧ Fresh w' w.heap.size u zs cap ∧ p ≤ q ∧ q ≤ p + 14 ∧ Rd w' b q ∧ Mid b (b + 1) w w' := by
  have hblt := h.lt
  have HR := hide_it h
  clear h
  go_enter Tryz.func79, Tryz.ntmps79
  go_wp2_with fail
  refine (pick_any b p 7 _ (HR.out.alloc _) (by omega) (by omega) (by omega)).mono ?_
  rintro e w1 ⟨x1, rfl, l1, u1, r1, m1⟩
  have HR1 := hide_it r1
  have H01 := hide_it (row_mid (heap_alloc_new w _) m1 hblt)
  have HM1 := hide_it (((Mid.refl b (b + 1) w).alloc _).trans m1)
  clear r1 m1
  go_wp2_with fail
  refine (pick_any b (p + 1) 4 w1 HR1.out (by omega) (by omega) (by omega)).mono ?_
  rintro e w2 ⟨x2, rfl, l2, u2, r2, m2⟩
  have HR2 := hide_it r2
  have H02 := hide_it (row_mid H01.out m2 hblt)
  have HM2 := hide_it (HM1.out.trans m2)
  have hs2 : w.heap.size < w2.heap.size := heap_lt H02.out
  clear r2 m2 HR1 HM1 H01
  have S2 : Hid (StR w ((w2.alloc (.cells #[] 3)).alloc (.cells #[.int .i64 (1 + x1), .int .i64 (1 + x2), .slice (some ⟨w2.heap.size, 0, none⟩) 0 0] 62)) b (p + 2) (w2.heap.size + 1) (1 + x1) (1 + x2) (.slice (some ⟨w2.heap.size, 0, none⟩) 0 0) []) := by
    have e1 := heap_alloc_new (w2.alloc (.cells #[] 3)) (.cells #[.int .i64 (1 + x1), .int .i64 (1 + x2), .slice (some ⟨w2.heap.size, 0, none⟩) 0 0] 62)
    rw [show (w2.alloc (.cells #[] 3)).heap.size = w2.heap.size + 1 by simp] at e1
    refine ⟨e1, ?_, by omega, ?_, by simp, (HR2.out.alloc _).alloc _, (HM2.out.alloc _).alloc _, hblt⟩
    · rw [Below.heap_alloc _ _ _ (by simp; omega), Below.heap_alloc _ _ _ (by omega)]; exact H02.out
    · refine ⟨w2.heap.size, 0, #[], rfl, by omega, ?_, fun k hk => by simp at hk⟩
      rw [Below.heap_alloc _ _ _ (by simp)]; exact heap_alloc_new w2 _
  clear HR2 HM2 H02 HR
  go_upto_block 0 with fail
  go_cut [3] (fun o W => ∃ X k t u zs q, o = .pointer (some ⟨X, 0, none⟩) ∧ p ≤ q ∧ q ≤ p + 10 ∧ Hid (StR w W b q X k t u zs))
  case first =>
    go_wp2_with fail
    · refine (pick_any b (p + 2) 3 _ S2.out.rd (by omega) (by omega) (by omega)).mono ?_
      rintro e w3 ⟨x3, rfl, l3, u3, r3, m3⟩
      have S3 := hide_it (S2.out.step m3 r3)
      clear r3 m3 S2
      obtain ⟨⟨c0, c1, c2, f0, f1, f2⟩, _⟩ := S3.out.cells
      have hlt3 : w2.heap.size + 1 < w3.heap.size := heap_lt S3.out.own
      go_wp2_with fail
      go_meet
      case rel => exact ⟨_, _, _, _, [_], p + 3, rfl, by omega, by omega, S3.out.new2 _⟩
    · refine (many_draw b (p + 2) _ S2.out.rd (by omega)).mono ?_
      rintro e w3 ⟨u, zs, q, rfl, hz, hF, hq0, hq1, r3, m3⟩
      have S3 := hide_it (S2.out.step m3 r3)
      have F3 := hide_it (hF.mono (lo' := w.heap.size) (by simp; omega))
      obtain ⟨g, off, hu⟩ : ∃ g off, u = .slice (some ⟨g, off, none⟩) zs.length zs.length := by obtain ⟨g, off, cs, h, _⟩ := hF; exact ⟨g, off, h⟩
      subst hu
      clear r3 m3 S2 hF
      obtain ⟨⟨c0, c1, c2, f0, f1, f2⟩, _⟩ := S3.out.cells
      go_wp2_with fail
      go_meet
      case rel => exact ⟨_, _, _, _, zs, q, rfl, by omega, by omega, S3.out.set2 F3.out hz⟩
    · go_meet
      case rel => exact ⟨_, _, _, _, [], p + 2, rfl, by omega, by omega, S2.out⟩
  case rest =>
    obtain ⟨X, k, t, u, zs, q, rfl, hq0, hq1, HS⟩ := hcut
    clear S2 l1 l2 u1 u2 hs2
    have hX := HS.out.lt
    go_wp2_with fail
    refine (pick_any b q 20 _ HS.out.rd (by omega) (by omega) (by omega)).mono ?_
    rintro e w4 ⟨y, rfl, ly, uy, r4, m4⟩
    have S4 := hide_it (HS.out.step m4 r4)
    clear r4 m4 HS
    have hf : zs.length ≤ 3 := S4.out.few
    obtain ⟨g, off, hu⟩ : ∃ g off, u = .slice (some ⟨g, off, none⟩) zs.length zs.length := by obtain ⟨g, off, cs, h, _⟩ := S4.out.many; exact ⟨g, off, h⟩
    subst hu
    by_cases y0 : y = 0
    · subst y0
      go_wp2_with fail
      refine (pick_any b (q + 1) 9 _ S4.out.rd (by omega) (by omega) (by omega)).mono ?_
      rintro e w5 ⟨z, rfl, lz, uz, r5, m5⟩
      have S5 := hide_it (S4.out.step m5 r5)
      clear r5 m5 S4
      obtain ⟨⟨c0, c1, c2, f0, f1, f2⟩, ⟨d0, d1, d2, e0, e1, e2⟩⟩ := S5.out.cells
      have hXn : X ≠ w.heap.size := by omega
      go_wp2
      refine bodyPost_ret (v := .agg #[.int .i64 z, .int .i64 t, .slice (some ⟨g, off, none⟩) zs.length zs.length]) (by simp [results, Tryz.results79, go_sem, d0, d1, d2]) rfl ⟨z, t, _, zs, q + 2, zs.length, rfl, by omega, ?_⟩
      have R := (((S5.out.set0 z).out.set 0 (.int .i64 z)).set 1 (.int .i64 t)).set 2 (.slice (some ⟨g, off, none⟩) zs.length zs.length)
      exact ⟨R.many, by omega, by omega, R.rd, R.mid⟩
    by_cases y1 : y = 1
    · subst y1
      go_wp2_with fail
      refine (pick_any b (q + 1) 3 _ (S4.out.later (alloc_below _ _)).rd (by omega) (by omega) (by omega)).mono ?_
      rintro e w5 ⟨z, rfl, lz, uz, r5, m5⟩
      have S5 := hide_it ((S4.out.later (alloc_below _ _)).step m5 r5)
      have N5 : Hid (Row3 w5 w4.heap.size 0 6 7) := (Row3.new w4 0 6 7).mid m5 (by have := heap_lt S4.out.res; omega)
      clear r5 m5 S4
      obtain ⟨⟨c0, c1, c2, f0, f1, f2⟩, ⟨d0, d1, d2, e0, e1, e2⟩⟩ := S5.out.cells
      obtain ⟨n0, n1, n2, _, _, _⟩ := N5.out.cells
      have hXn : X ≠ w.heap.size := by omega
      rcases three lz uz with rfl | rfl | rfl
      · go_wp2
        refine bodyPost_ret (v := .agg #[.int .i64 k, .int .i64 0, .slice (some ⟨g, off, none⟩) zs.length zs.length]) (by simp [results, Tryz.results79, go_sem, d0, d1, d2]) rfl ⟨k, 0, _, zs, q + 2, zs.length, rfl, by omega, ?_⟩
        have R := (((S5.out.set1 0).out.set 0 (.int .i64 k)).set 1 (.int .i64 0)).set 2 (.slice (some ⟨g, off, none⟩) zs.length zs.length)
        exact ⟨R.many, by omega, by omega, R.rd, R.mid⟩
      · go_wp2
        refine bodyPost_ret (v := .agg #[.int .i64 k, .int .i64 6, .slice (some ⟨g, off, none⟩) zs.length zs.length]) (by simp [results, Tryz.results79, go_sem, d0, d1, d2]) rfl ⟨k, 6, _, zs, q + 2, zs.length, rfl, by omega, ?_⟩
        have R := (((S5.out.set1 6).out.set 0 (.int .i64 k)).set 1 (.int .i64 6)).set 2 (.slice (some ⟨g, off, none⟩) zs.length zs.length)
        exact ⟨R.many, by omega, by omega, R.rd, R.mid⟩
      · go_wp2
        refine bodyPost_ret (v := .agg #[.int .i64 k, .int .i64 7, .slice (some ⟨g, off, none⟩) zs.length zs.length]) (by simp [results, Tryz.results79, go_sem, d0, d1, d2]) rfl ⟨k, 7, _, zs, q + 2, zs.length, rfl, by omega, ?_⟩
        have R := (((S5.out.set1 7).out.set 0 (.int .i64 k)).set 1 (.int .i64 7)).set 2 (.slice (some ⟨g, off, none⟩) zs.length zs.length)
        exact ⟨R.many, by omega, by omega, R.rd, R.mid⟩
    have hXn : X ≠ w.heap.size := by omega
    by_cases y2 : y = 2
    · subst y2
      obtain ⟨⟨c0, c1, c2, f0, f1, f2⟩, ⟨d0, d1, d2, e0, e1, e2⟩⟩ := S4.out.cells
      obtain ⟨i0, hi, hz0, hz1, hz2⟩ := info_parts info3
      clear d0 d1 d2 e0 e1 e2
      go_wp2_with fail
      go_region_law
        (first
          | (go_simp; go_at_call 43; refine (pick_any b (q + 1) 5 _ (S4.out.later (by first | exact (Below.refl _ _).drew | exact (Below.refl _ _).drew.drew | exact (Below.refl _ _).drew.drew.drew)).rd (by omega) (by omega) (by omega)).mono ?_; rintro e w5 ⟨z, rfl, lz, uz, r5, m5⟩; have S5 := hide_it ((S4.out.later (by first | exact (Below.refl _ _).drew | exact (Below.refl _ _).drew.drew | exact (Below.refl _ _).drew.drew.drew)).step m5 r5); clear r5 m5 c0 c1 c2 f0 f1 f2; obtain ⟨⟨c0, c1, c2, f0, f1, f2⟩, _⟩ := S5.out.cells; have hs5 : w.heap.size < w5.heap.size := heap_lt S5.out.res; have c2a := ((S5.out.later (alloc_below w5 (.cells #[.int .i64 z] 3))).cells).1.2.2.1)
          | (refine step_append_grows rfl _ _ 60 rfl 3 i0 (.int .i64 0) 1 8 Tryz.underlying60 hi hz0 hz1 hz2 rfl (by decide) (some ⟨g, off, none⟩) zs.length zs.length (zs.map (Value.int .i64)) rfl (fun h => by cases h) (by simp) (fun a ha => by cases ha; exact fresh_cells (S5.out.later (alloc_below _ _)).many) ⟨w5.heap.size, 0, none⟩ 1 1 [.int .i64 z] rfl rfl (fun j u hj => by match j, hj with | 0, hj => simp at hj; subst hj; simp [Go.WideShapes.add_plain, go_sem]) (by simp [Value.oneCell']) (by omega) (by unfold maxLen; omega) (by omega) ?_; intro v6 w6 hown hgrow; have hown' := own_fresh (lo := w.heap.size) (zs := zs ++ [z]) (by simpa using hown) (by omega) (by first | omega | (simp; omega)); obtain ⟨g6, cap6, hv6, hF6⟩ := hown'; subst hv6; have F6 := hide_it hF6; have S6 := hide_it ((S5.out.later (alloc_below _ _)).later (grown_below hgrow)); clear hown hgrow hF6 c0 c1 c2 c2a f0 f1 f2; obtain ⟨⟨c0, c1, c2, f0, f1, f2⟩, ⟨d0, d1, d2, e0, e1, e2⟩⟩ := S6.out.cells))
      all_goals
       go_wp2
       refine bodyPost_ret (v := .agg #[.int .i64 k, .int .i64 t, .slice (some ⟨g6, 0, none⟩) (zs.length + 1) cap6]) (by simp [results, Tryz.results79, go_sem, d0, d1, d2]) rfl ⟨k, t, _, zs ++ [z], q + 2, cap6, rfl, by simp; omega, ?_⟩
       have F6' : Fresh w6 w.heap.size (.slice (some ⟨g6, 0, none⟩) (zs.length + 1) cap6) (zs ++ [z]) cap6 := by have h := F6.out; rwa [List.length_append, List.length_singleton] at h
       have R0 : StO w w6 b (q + 2) (.slice (some ⟨g6, 0, none⟩) (zs.length + 1) cap6) (zs ++ [z]) cap6 := ⟨⟨_, S6.out.res⟩, F6', S6.out.rd, S6.out.mid, S6.out.low⟩
       have R := (((R0.setX (i := 2) S6.out.own S6.out.lt (.slice (some ⟨g6, 0, none⟩) (zs.length + 1) cap6)).set 0 (.int .i64 k)).set 1 (.int .i64 t)).set 2 (.slice (some ⟨g6, 0, none⟩) (zs.length + 1) cap6)
       exact ⟨R.many, by omega, by omega, R.rd, R.mid⟩
    obtain ⟨⟨c0, c1, c2, f0, f1, f2⟩, ⟨d0, d1, d2, e0, e1, e2⟩⟩ := S4.out.cells
    go_wp2
    refine bodyPost_ret (v := .agg #[.int .i64 k, .int .i64 t, .slice (some ⟨g, off, none⟩) zs.length zs.length]) (by simp [results, Tryz.results79, go_sem, d0, d1, d2]) rfl ⟨k, t, _, zs, q + 1, zs.length, rfl, by omega, ?_⟩
    have R := ((S4.out.out.set 0 (.int .i64 k)).set 1 (.int .i64 t)).set 2 (.slice (some ⟨g, off, none⟩) zs.length zs.length)
    exact ⟨R.many, by omega, by omega, R.rd, R.mid⟩

end Go.Proofs.YthllcffmpeopcaaGreatDoor

namespace Go.Proofs.YthllcffmpeopcaaGreatDoor
open Go.RowKit

namespace Pl
theorem sOk_more {room : Int} {hs : List H} (h : sOk room hs = true) (hr : room ≤ 8) : sOk (room + 1) hs = true := by
  obtain ⟨h1, h2, h3, h4⟩ := sOk_parts h
  have h5 := inB_true h2
  rw [sOk_mk h1 (inB_mk (by omega) (by omega)) h3]
  unfold free at *
  simp; omega
theorem free_more (room : Int) (hs : List H) : free (room + 1) hs = free room hs + 1 := by unfold free; omega
theorem next_more {h x : H} {k m F : Int} (e : next h k m F = some x) : next h k m (F + 1) = some x := by
  unfold next at *
  by_cases k1 : k = 1
  · simp only [k1, if_true] at *
    by_cases c : h.2 = 0 ∧ m ≤ F
    · rw [if_pos c] at e; rw [if_pos ⟨c.1, by omega⟩]; exact e
    · rw [if_neg c] at e; cases e
  · simp only [k1, if_false] at *; exact e
theorem behind_more {room : Int} {hs : List H} {k t : Int} {zs : List Int} {x : H} (hr : room ≤ 8) (e : behind room hs k t zs = some x) : behind (room + 1) hs k t zs = some x := by
  unfold behind at *
  by_cases c : sOk room hs = true ∧ recOk k t zs = true
  · rw [if_pos c] at e
    rw [if_pos ⟨sOk_more c.1 hr, c.2⟩, free_more]; exact next_more e
  · rw [if_neg c] at e; cases e
theorem sDo_more {room : Int} {hs hs' : List H} {k t : Int} {zs : List Int} (hr : room ≤ 8) (e : sDo room hs k t zs = some hs') : sDo (room + 1) hs k t zs = some hs' := by
  unfold sDo at *
  cases b : behind room hs k t zs with
  | none => rw [b] at e; cases e
  | some x => rw [b] at e; rw [behind_more hr b]; exact e
theorem sRun_more {room : Int} (hr : room ≤ 8) : ∀ (rs : List (Int × Int × List Int)) {hs hs' : List H}, sRun room rs hs = some hs' → sRun (room + 1) rs hs = some hs'
  | [], _, _, h => h
  | r :: t, hs, hs', h => by
    simp only [sRun] at h ⊢
    cases e : sDo room hs r.1 r.2.1 r.2.2 with
    | none => rw [e] at h; cases h
    | some h1 => rw [e] at h; rw [sDo_more hr e]; exact sRun_more hr t h
theorem sOf_more {room : Int} {rs : List (Int × Int × List Int)} {hs : List H} (hr : room ≤ 8) (h : sOf room rs = some hs) : sOf (room + 1) rs = some hs := by
  unfold sOf at *
  by_cases c : inB room 0 9 = true
  · rw [if_pos c] at h
    have := inB_true c
    rw [if_pos (inB_mk (by omega) (by omega))]; exact sRun_more hr rs h
  · rw [if_neg c] at h; cases h
end Pl

end Go.Proofs.YthllcffmpeopcaaGreatDoor

namespace Go.Proofs.YthllcffmpeopcaaGreatDoor
open Go.RowKit

/-- A house as a value: its number, whether it is up, how many it has, its log. -/
abbrev houseV (id : Int) (up : Bool) (room : Int) (v : Value) (f : Int) : Value := .agg #[.int .i64 id, .bool up, .int .i64 room, v, .int .i64 f]

/-- A house comes back, in memory of the call's own. -/
def HoOut (w w' : World) (e : Ending) (id : Int) (up : Bool) (room : Int) (rs : List R) (f : Int) : Prop :=
  ∃ ao cap, e = .returned (houseV id up room (.slice ao rs.length cap) f) ∧ Made w' w.heap.size (.slice ao rs.length cap) rs ∧ Below w.heap.size w w'

/-- A block that holds a house. -/
def Five (w : World) (b : Nat) (id : Int) (up : Bool) (room : Int) (v : Value) (f : Int) (ty : TypeId) : Prop := w.heap[b]? = some (.cells #[.int .i64 id, .bool up, .int .i64 room, v, .int .i64 f] ty (0, 0))
theorem Five.new (w : World) (id : Int) (up : Bool) (room : Int) (v : Value) (f : Int) (ty : TypeId) : Five (w.alloc (.cells #[.int .i64 id, .bool up, .int .i64 room, v, .int .i64 f] ty)) w.heap.size id up room v f ty := heap_alloc_new w _
theorem Five.lt {w : World} {b : Nat} {id : Int} {up : Bool} {room : Int} {v : Value} {f : Int} {ty : TypeId} (h : Five w b id up room v f ty) : b < w.heap.size := by
  by_cases e : b < w.heap.size
  · exact e
  · unfold Five at h; rw [Array.getElem?_eq_none (by omega)] at h; cases h
theorem Five.later {w w' : World} {b L : Nat} {id : Int} {up : Bool} {room : Int} {v : Value} {f : Int} {ty : TypeId} (h : Five w b id up room v f ty) (hb : Below L w w') (hL : b < L) : Five w' b id up room v f ty := by
  unfold Five; rw [hb.block b hL]; exact h
theorem Five.mid {w w' : World} {b l h' : Nat} {id : Int} {up : Bool} {room : Int} {v : Value} {f : Int} {ty : TypeId} (h : Five w b id up room v f ty) (hm : Mid l h' w w') (hb : b < l ∨ h' ≤ b) : Five w' b id up room v f ty := by
  unfold Five; rw [hm.block b h.lt hb]; exact h
theorem Five.cells {w : World} {b : Nat} {id : Int} {up : Bool} {room : Int} {v : Value} {f : Int} {ty : TypeId} (h : Five w b id up room v f ty) :
    w.cell? ⟨b, 0, none⟩ = some (.int .i64 id) ∧ w.cell? ⟨b, 1, none⟩ = some (.bool up) ∧ w.cell? ⟨b, 2, none⟩ = some (.int .i64 room) ∧ w.cell? ⟨b, 3, none⟩ = some v ∧ w.cell? ⟨b, 4, none⟩ = some (.int .i64 f) := by
  refine ⟨?_, ?_, ?_, ?_, ?_⟩ <;> (rw [cell_of_row w _ _ _ _ _ h]; rfl)
theorem Five.free {w : World} {b : Nat} {id : Int} {up : Bool} {room : Int} {v : Value} {f : Int} {ty : TypeId} (h : Five w b id up room v f ty) :
    w.frozen? ⟨b, 0, none⟩ = false ∧ w.frozen? ⟨b, 1, none⟩ = false ∧ w.frozen? ⟨b, 2, none⟩ = false ∧ w.frozen? ⟨b, 3, none⟩ = false ∧ w.frozen? ⟨b, 4, none⟩ = false :=
  ⟨frozen_of_row w _ _ _ _ h, frozen_of_row w _ _ _ _ h, frozen_of_row w _ _ _ _ h, frozen_of_row w _ _ _ _ h, frozen_of_row w _ _ _ _ h⟩

theorem szHouse_any (id : Int) (up : Bool) (room : Int) (v : Value) (rs : List R) (f : Int) (left : Int) (w : World) (hv : Recs w v rs) (hl : (rs.length : Int) ≤ 9223372036854775807) (hls : ∀ r ∈ rs, (r.2.2.length : Int) ≤ 9223372036854775807) (h0 : 0 ≤ left) (h1 : left ≤ 1048576) :
    Calls Tryz.prog 8 #[houseV id up room v f, .int .i64 left] w fun e w' => e = .returned (.int .i64 (leftOf left (tot rs))) ∧ Below w.heap.size w w' := by
  have HV : Hid (∀ o, Recs (w.alloc o) v rs) := fun o => hv.later ((Below.refl _ _).alloc (Nat.le_refl _) o) (Nat.le_refl _)
  have HS : Hid (∀ o, Calls Tryz.prog 26 #[.agg #[v, .int .i64 f], .int .i64 left] (w.alloc o) fun e w' => e = .returned (.int .i64 (leftOf left (tot rs))) ∧ Below (w.alloc o).heap.size (w.alloc o) w') :=
    fun o => szLog_any v rs f left (w.alloc o) (HV.out o) hl hls h0 h1
  obtain ⟨av, cv, rfl⟩ := hv.shape
  clear hv hl hls HV
  have fin : ∀ (o : Obj) (w' : World), Below (w.alloc o).heap.size (w.alloc o) w' → Below w.heap.size w w' := fun o w' h => ((Below.refl _ _).alloc (Nat.le_refl _) o).trans (h.mono (by simp))
  have FN := hide_it fin
  clear fin
  by_cases hn : left - (tot rs : Int) < 0
  · rw [leftOf_neg hn] at HS ⊢
    go_enter Tryz.func8, Tryz.ntmps8
    go_wp2_with (go_at_call 26; refine (HS.out _).mono ?_; rintro e w1 ⟨rfl, hb⟩)
    go_ret
    exact ⟨rfl, FN.out _ _ (by assumption)⟩
  · rw [leftOf_pos hn] at HS ⊢
    go_enter Tryz.func8, Tryz.ntmps8
    go_wp2_with (go_at_call 26; refine (HS.out _).mono ?_; rintro e w1 ⟨rfl, hb⟩)
    go_ret
    exact ⟨rfl, FN.out _ _ (by assumption)⟩

theorem Five.pinned {w : World} {b : Nat} {id : Int} {up : Bool} {room : Int} {v : Value} {f : Int} {ty : TypeId} (h : w.heap[b]? = some (.cells #[.int .i64 id, .bool up, .int .i64 room, v, .int .i64 f] ty (0, 0))) : Five w b id up room v f ty := h

set_option maxHeartbeats 1000000 in
theorem toHouse_any (id : Int) (up : Bool) (room : Int) (v : Value) (rs : List R) (f : Int) (w : World) (hv : Recs w v rs) (hl : tot rs ≤ 1048576) :
    Calls Tryz.prog 10 #[houseV id up room v f] w fun e w' => HoOut w w' e id up room rs f := by
  have HS : Hid (∀ W, Below w.heap.size w W → Calls Tryz.prog 29 #[.agg #[v, .int .i64 f]] W fun e w' => ∃ ao cap, e = .returned (.agg #[.slice ao rs.length cap, .int .i64 f]) ∧ Made w' W.heap.size (.slice ao rs.length cap) rs ∧ Below W.heap.size W w') := fun W h =>
    (toLog_any v rs f W (hv.later h (Nat.le_refl _)) hl).mono fun e w' ⟨h1, h2, h3⟩ => ⟨_, _, h1, h2.lo (by omega), h3⟩
  obtain ⟨av, cv, rfl⟩ := hv.shape
  clear hv
  go_enter Tryz.func10, Tryz.ntmps10
  go_wp2_with fail
  refine (HS.out _ (below3 w _ _ _)).mono ?_
  rintro e w1 ⟨ao, cap, rfl, hm, hb⟩
  rw [size3] at hm hb
  have hc : ∀ b o, b < w.heap.size + 3 → w1.cell? ⟨b, o, none⟩ = _ := fun b o h => hb.cell (p := ⟨b, o, none⟩) h
  have hf : ∀ b o, b < w.heap.size + 3 → w1.frozen? ⟨b, o, none⟩ = _ := fun b o h => hb.frozen (p := ⟨b, o, none⟩) h
  have hz : w.heap.size + 3 ≤ w1.heap.size := by have := hb.size; rw [size3] at this; exact this
  have HO := hide_it hm
  have HB : Hid (Below w.heap.size w w1) := (below3 w _ _ _).trans (hb.mono (by omega))
  clear hm hb
  go_wp2
  refine bodyPost_ret (v := houseV id up room (.slice ao rs.length cap) f) (by simp [results, Tryz.results10, go_sem, hc]) rfl ?_
  refine ⟨ao, cap, rfl, ?_, ?_⟩
  · refine Made.lo ?_ (Nat.le_add_right _ 3)
    repeat (refine Made.setBelow ?_ (by simp) _)
    exact HO.out
  · repeat (refine Below.setCell ?_ (by first | (simp; done) | (simp; omega)) _)
    exact HB.out

set_option maxHeartbeats 1000000 in
theorem eqHouse_any (id : Int) (up : Bool) (room : Int) (v1 v2 : Value) (rs : List R) (f : Int) (w : World) (h1 : Recs w v1 rs) (h2 : Recs w v2 rs) (hl : tot rs ≤ 1048576) :
    Calls Tryz.prog 13 #[houseV id up room v1 f, houseV id up room v2 f] w fun e w' => e = .returned (.bool true) ∧ Below w.heap.size w w' := by
  have H1 : Hid (∀ o1 o2, Recs ((w.alloc o1).alloc o2) v1 rs) := fun o1 o2 => h1.later (below2 w o1 o2) (Nat.le_refl _)
  have H2 : Hid (∀ o1 o2, Recs ((w.alloc o1).alloc o2) v2 rs) := fun o1 o2 => h2.later (below2 w o1 o2) (Nat.le_refl _)
  obtain ⟨a1, p1, rfl⟩ := h1.shape
  obtain ⟨a2, p2, rfl⟩ := h2.shape
  clear h1 h2
  cases up
  all_goals
    go_enter Tryz.func13, Tryz.ntmps13
    go_wp2_with fail
    refine (eqLog_any _ _ rs f _ (H1.out _ _) (H2.out _ _) hl).mono ?_
    rintro e w1 ⟨rfl, hb⟩
    have HB : Hid (Below w.heap.size w w1) := (below2 w _ _).trans (hb.mono (by simp; omega))
    clear hb
    go_wp2
    go_ret
    exact ⟨rfl, HB.out⟩

theorem markHouse_any (id : Int) (up : Bool) (room : Int) (v : Value) (ps : List (R × Value)) (f k : Int) (lo hi : Nat) (w : World) (ho : OwnRecs w lo hi v ps) (hl : tot (ps.map (·.1)) ≤ 1048576) (hk0 : 0 ≤ k) (hk1 : k ≤ 1000) :
    Calls Tryz.prog 15 #[houseV id up room v f, .int .i64 k] w fun e w' => e = .returned (.int .i64 (kAt (ps.map (·.1)) k ps.length)) ∧ OwnRecs w' lo hi v (stg ps k ps.length) ∧ Mid lo hi w w' := by
  have HS : Hid (∀ o, Calls Tryz.prog 39 #[.agg #[v, .int .i64 f], .int .i64 k] (w.alloc o) fun e w' => e = .returned (.int .i64 (kAt (ps.map (·.1)) k ps.length)) ∧ OwnRecs w' lo hi v (stg ps k ps.length) ∧ Mid lo hi w w') := fun o => by
    have hb := (Below.refl w.heap.size w).alloc (Nat.le_refl _) o
    refine (markLog_any v ps f k lo hi (w.alloc o) (ho.below hb ho.2.2.1) hl hk0 hk1).mono ?_
    rintro e w' ⟨h1, h2, h3⟩
    exact ⟨h1, h2, (Mid.of_below hb (Nat.le_refl _)).trans h3⟩
  obtain ⟨ao, cap, rfl⟩ := row_shape ho.1
  clear ho
  go_enter Tryz.func15, Tryz.ntmps15
  go_wp2_with (go_at_call 39; refine (HS.out _).mono ?_; rintro e w1 ⟨rfl, h2, h3⟩)
  go_ret
  exact ⟨rfl, by assumption, by assumption⟩

theorem heldHouse_any (id : Int) (up : Bool) (room : Int) (v : Value) (rs : List R) (f k : Int) (w : World) (hv : Recs w v (markAll rs k)) (hl : tot rs ≤ 1048576) (hk0 : 0 ≤ k) (hk1 : k ≤ 1000) :
    Calls Tryz.prog 16 #[houseV id up room v f, .int .i64 k] w fun e w' => e = .returned (.int .i64 (kAt rs k rs.length)) ∧ Below w.heap.size w w' := by
  have hKb := kAt_bd rs k rs.length (Nat.le_refl _) hl hk0 hk1
  have HS : Hid (∀ o, Calls Tryz.prog 40 #[.agg #[v, .int .i64 f], .int .i64 k] (w.alloc o) fun e w' => e = .returned (.int .i64 (kAt rs k rs.length)) ∧ Below w.heap.size w w') := fun o => by
    have hb := (Below.refl w.heap.size w).alloc (Nat.le_refl _) o
    exact (heldLog_any v rs f k (w.alloc o) (hv.later hb (Nat.le_refl _)) hl hk0 hk1).mono fun e w' ⟨h1, h2⟩ => ⟨h1, hb.trans (h2.mono (by simp))⟩
  obtain ⟨ao, cap, rfl⟩ := hv.shape
  clear hv
  go_enter Tryz.func16, Tryz.ntmps16
  go_wp2_with (go_at_call 40; refine (HS.out _).mono ?_; rintro e w1 ⟨rfl, h2⟩)
  go_ret
  exact ⟨rfl, by assumption⟩

end Go.Proofs.YthllcffmpeopcaaGreatDoor

namespace Go.Proofs.YthllcffmpeopcaaGreatDoor
open Go.RowKit

/-- A record as plain data: its kind, its trip, its numbers. -/
abbrev Rc := R

/-- A block as it lies. -/
def Blk (w : World) (b : Nat) (cs : Array Value) (ty : TypeId) : Prop := w.heap[b]? = some (.cells cs ty (0, 0))
theorem Blk.new (w : World) (cs : Array Value) (ty : TypeId) : Blk (w.alloc (.cells cs ty)) w.heap.size cs ty := heap_alloc_new w _
theorem Blk.lt {w : World} {b : Nat} {cs : Array Value} {ty : TypeId} (h : Blk w b cs ty) : b < w.heap.size := lt_of_heap h
theorem Blk.later {w w' : World} {b L : Nat} {cs : Array Value} {ty : TypeId} (h : Blk w b cs ty) (hb : Below L w w') (hL : b < L) : Blk w' b cs ty := by
  unfold Blk; rw [hb.block b hL]; exact h
theorem Blk.after {w w' : World} {b : Nat} {cs : Array Value} {ty : TypeId} (h : Blk w b cs ty) (hb : Below w.heap.size w w') : Blk w' b cs ty := h.later hb h.lt
theorem Blk.mid {w w' : World} {b l h' : Nat} {cs : Array Value} {ty : TypeId} (h : Blk w b cs ty) (hm : Mid l h' w w') (hb : b < l ∨ h' ≤ b) : Blk w' b cs ty := by
  unfold Blk; rw [hm.block b h.lt hb]; exact h
theorem Blk.cell {w : World} {b : Nat} {cs : Array Value} {ty : TypeId} (h : Blk w b cs ty) (i : Nat) : w.cell? ⟨b, i, none⟩ = cs[i]? := cell_of_row w _ _ _ _ _ h
theorem Blk.free {w : World} {b : Nat} {cs : Array Value} {ty : TypeId} (h : Blk w b cs ty) (i : Nat) : w.frozen? ⟨b, i, none⟩ = false := frozen_of_row w _ _ _ _ h
theorem Blk.other {w : World} {b : Nat} {cs : Array Value} {ty : TypeId} (h : Blk w b cs ty) {a : Addr} (ha : b ≠ a.block) (x : Value) : Blk (w.setCell a x) b cs ty := by
  unfold Blk; rw [Below.heap_setCell _ _ _ _ ha]; exact h
theorem Blk.alloc {w : World} {b : Nat} {cs : Array Value} {ty : TypeId} (h : Blk w b cs ty) (o : Obj) : Blk (w.alloc o) b cs ty := h.after (alloc_below w o)
theorem Blk.cells5 {w : World} {b : Nat} {x0 x1 x2 x3 x4 : Value} {ty : TypeId} (h : Blk w b #[x0, x1, x2, x3, x4] ty) :
    w.cell? ⟨b, 0, none⟩ = some x0 ∧ w.cell? ⟨b, 1, none⟩ = some x1 ∧ w.cell? ⟨b, 2, none⟩ = some x2 ∧ w.cell? ⟨b, 3, none⟩ = some x3 ∧ w.cell? ⟨b, 4, none⟩ = some x4 := by
  refine ⟨?_, ?_, ?_, ?_, ?_⟩ <;> (rw [h.cell]; rfl)
theorem Blk.cells2 {w : World} {b : Nat} {x0 x1 : Value} {ty : TypeId} (h : Blk w b #[x0, x1] ty) :
    w.cell? ⟨b, 0, none⟩ = some x0 ∧ w.cell? ⟨b, 1, none⟩ = some x1 := by
  refine ⟨?_, ?_⟩ <;> (rw [h.cell]; rfl)
theorem Blk.free5 {w : World} {b : Nat} {cs : Array Value} {ty : TypeId} (h : Blk w b cs ty) :
    w.frozen? ⟨b, 0, none⟩ = false ∧ w.frozen? ⟨b, 1, none⟩ = false ∧ w.frozen? ⟨b, 2, none⟩ = false ∧ w.frozen? ⟨b, 3, none⟩ = false ∧ w.frozen? ⟨b, 4, none⟩ = false :=
  ⟨h.free 0, h.free 1, h.free 2, h.free 3, h.free 4⟩
theorem Blk.new2 (w : World) (o : Obj) (cs : Array Value) (ty : TypeId) : Blk ((w.alloc o).alloc (.cells cs ty)) (w.heap.size + 1) cs ty := by
  have h := Blk.new (w.alloc o) cs ty
  rw [size1] at h
  exact h
theorem Blk.set_ {w : World} {b : Nat} {cs : Array Value} {ty : TypeId} (h : Blk w b cs ty) (i : Nat) (x : Value) : Blk (w.setCell ⟨b, i, none⟩ x) b (cs.setIfInBounds i x) ty := by
  unfold Blk; rw [heap_setCell_same w b i _ _ x h]

theorem Blk.drew {w : World} {b : Nat} {cs : Array Value} {ty : TypeId} (h : Blk w b cs ty) : Blk w.drew b cs ty := h.after (Below.refl _ _).drew
/-- Blocks of unlike types are not one. -/
theorem Blk.ne {w : World} {b b' : Nat} {cs cs' : Array Value} {ty ty' : TypeId} (h : Blk w b cs ty) (h' : Blk w b' cs' ty') (ht : ty ≠ ty') : b ≠ b' := by
  intro e
  subst e
  unfold Blk at h h'
  rw [h] at h'
  simp at h'
  exact ht h'.2
theorem Blk.cells3 {w : World} {b : Nat} {x0 x1 x2 : Value} {ty : TypeId} (h : Blk w b #[x0, x1, x2] ty) :
    w.cell? ⟨b, 0, none⟩ = some x0 ∧ w.cell? ⟨b, 1, none⟩ = some x1 ∧ w.cell? ⟨b, 2, none⟩ = some x2 := by
  refine ⟨?_, ?_, ?_⟩ <;> (rw [h.cell]; rfl)
theorem row_apart {w : World} {base : Nat} {ty ty' : TypeId} {sz n g : Nat} {x : Value} {xs : List Value} {cur : Array Value} {fz : Nat × Nat} (hr : w.ownsRow base ty sz x n xs) (hh : w.heap[g]? = some (.cells cur ty' fz)) (ht : ty ≠ ty') : ∀ k, x.ownBlock = some k → k ≠ g := by
  intro k hk e
  subst e
  rcases hr.2 with ⟨hv, _⟩ | ⟨g', cap, cur', hv, _, h2, _⟩
  · rw [hv] at hk; simp [Value.ownBlock] at hk
  · rw [hv] at hk
    simp [Value.ownBlock] at hk
    subst hk
    rw [hh] at h2
    simp at h2
    exact ht h2.2.1.symm
/-- A row of the call's own is no such block. -/
theorem Blk.off {w : World} {b base sz n : Nat} {cs : Array Value} {ty ty' : TypeId} {v : Value} {xs : List Value} (h : Blk w b cs ty) (hr : w.ownsRow base ty' sz v n xs) (ht : ty' ≠ ty) : v.ownBlock ≠ some b := fun e => row_apart hr h ht b e rfl

end Go.Proofs.YthllcffmpeopcaaGreatDoor

namespace Go.Proofs.YthllcffmpeopcaaGreatDoor
open Go.RowKit

/-- A keeper as a value: its log, its number, whether it is up, how many it has. -/
abbrev keeperV (v : Value) (f id : Int) (up : Bool) (room : Int) : Value := .agg #[v, .int .i64 f, .int .i64 id, .bool up, .int .i64 room]

set_option maxHeartbeats 1000000 in
theorem keeperOf_any (id : Int) (up : Bool) (room : Int) (ao : Option Addr) (n cap : Nat) (f : Int) (w : World) :
    Calls Tryz.prog 30 #[houseV id up room (.slice ao n cap) f] w fun e w' => e = .returned (keeperV (.slice ao n cap) f id up room) ∧ Below w.heap.size w w' := by
  go_enter Tryz.func30, Tryz.ntmps30
  go_wp2
  refine bodyPost_ret (v := keeperV (.slice ao n cap) f id up room) (by simp [results, Tryz.results30, go_sem]) rfl ⟨rfl, ?_⟩
  exact below2 w _ _

set_option maxHeartbeats 2000000 in
theorem l11Copy_any (id : Int) (up : Bool) (room : Int) (v : Value) (rs : List R) (f : Int) (w : World) (hv : Recs w v rs) (hl : tot rs ≤ 1048576) :
    Calls Tryz.prog 28 #[houseV id up room v f] w fun e w' => HoOut w w' e id up room rs f := by
  have HS : Hid (∀ W, Below w.heap.size w W → Calls Tryz.prog 65 #[.agg #[v, .int .i64 f]] W fun e w' => LogOut W w' e rs f) := fun W h => l1Copy_any v rs f W (hv.later h (Nat.le_refl _)) hl
  obtain ⟨av, cv, rfl⟩ := hv.shape
  clear hv
  obtain ⟨w0, hw0⟩ : ∃ W, Hid (W = (w.alloc (.cells #[.int .i64 id, .bool up, .int .i64 room, .slice av rs.length cv, .int .i64 f] 34)).alloc (.cells #[.int .i64 0, .bool false, .int .i64 0, .slice none 0 0, .int .i64 0] 34)) := ⟨_, rfl⟩
  have B0 : Hid (Below w.heap.size w w0) := by show Below _ _ _; rw [hw0.out]; exact below2 _ _ _
  have X0 : Hid (Blk w0 w.heap.size #[.int .i64 id, .bool up, .int .i64 room, .slice av rs.length cv, .int .i64 f] 34) := by show Blk _ _ _ _; rw [hw0.out]; exact (Blk.new _ _ _).alloc _
  have Z0 : Hid (Blk w0 (w.heap.size + 1) #[.int .i64 0, .bool false, .int .i64 0, .slice none 0 0, .int .i64 0] 34) := by show Blk _ _ _ _; rw [hw0.out]; exact Blk.new2 _ _ _ _
  have hs0 : w0.heap.size = w.heap.size + 2 := by rw [hw0.out, size2]
  go_enter Tryz.func28, Tryz.ntmps28
  go_wp2_with fail
  rw [← hw0.out]
  refine (HS.out _ B0.out).mono ?_
  rintro e w1 ⟨ao, cap, rfl, hm, hb⟩
  obtain ⟨x0, x1, x2, x3, x4⟩ := (X0.out.after hb).cells5
  obtain ⟨z0, z1, z2, z3, z4⟩ := (Z0.out.after hb).cells5
  obtain ⟨xf0, xf1, xf2, xf3, xf4⟩ := (X0.out.after hb).free5
  obtain ⟨zf0, zf1, zf2, zf3, zf4⟩ := (Z0.out.after hb).free5
  have HM := hide_it hm
  have HB := hide_it (B0.out.trans (hb.mono B0.out.size))
  have hz : w.heap.size + 2 ≤ w1.heap.size := by have := hb.size; omega
  clear hm hb
  go_wp2
  refine bodyPost_ret (v := houseV id up room (.slice ao rs.length cap) f) (by simp [results, Tryz.results28, go_sem, *]) rfl ?_
  refine ⟨ao, cap, rfl, ?_, ?_⟩
  · refine Made.lo ?_ (show w.heap.size ≤ w0.heap.size by omega)
    repeat (refine Made.setBelow ?_ (by simp; omega) _)
    exact HM.out
  · repeat (refine Below.setCell ?_ (by first | (simp; done) | (simp; omega)) _)
    exact HB.out

set_option maxHeartbeats 4000000 in
theorem keeperHouse_any (id : Int) (up : Bool) (room : Int) (v : Value) (rs : List R) (f : Int) (w : World) (hv : Recs w v rs) (hl : tot rs ≤ 1048576) :
    Calls Tryz.prog 32 #[keeperV v f id up room] w fun e w' => HoOut w w' e id up room rs f := by
  have HS : Hid (∀ W, Below w.heap.size w W → Calls Tryz.prog 68 #[v] W fun e w' => ∃ ao cap, e = .returned (.slice ao rs.length cap) ∧ Made w' W.heap.size (.slice ao rs.length cap) rs ∧ Below W.heap.size W w') := fun W h =>
    copyRecs_any v rs W (hv.later h (Nat.le_refl _)) hl
  obtain ⟨av, cv, rfl⟩ := hv.shape
  clear hv
  obtain ⟨w0, hw0⟩ : ∃ W, Hid (W = (w.alloc (.cells #[.slice av rs.length cv, .int .i64 f, .int .i64 id, .bool up, .int .i64 room] 66)).alloc (.cells #[.int .i64 0, .bool false, .int .i64 0, .slice none 0 0, .int .i64 0] 34)) := ⟨_, rfl⟩
  have B0 : Hid (Below w.heap.size w w0) := by show Below _ _ _; rw [hw0.out]; exact below2 _ _ _
  have X0 : Hid (Blk w0 w.heap.size #[.slice av rs.length cv, .int .i64 f, .int .i64 id, .bool up, .int .i64 room] 66) := by show Blk _ _ _ _; rw [hw0.out]; exact (Blk.new _ _ _).alloc _
  have Z0 : Hid (Blk w0 (w.heap.size + 1) #[.int .i64 0, .bool false, .int .i64 0, .slice none 0 0, .int .i64 0] 34) := by show Blk _ _ _ _; rw [hw0.out]; exact Blk.new2 _ _ _ _
  have hs0 : w0.heap.size = w.heap.size + 2 := by rw [hw0.out, size2]
  obtain ⟨x0, x1, x2, x3, x4⟩ := X0.out.cells5
  go_enter Tryz.func32, Tryz.ntmps32
  go_wp2_with fail
  rw [← hw0.out]
  go_region_held (fun w' => w'.cell? ⟨w.heap.size, 0, none⟩ = some (.slice av rs.length cv) ∧ w'.cell? ⟨w.heap.size, 1, none⟩ = some (.int .i64 f) ∧ w'.cell? ⟨w.heap.size, 2, none⟩ = some (.int .i64 id) ∧ w'.cell? ⟨w.heap.size, 3, none⟩ = some (.bool up) ∧ w'.cell? ⟨w.heap.size, 4, none⟩ = some (.int .i64 room)) (go_keep)
    ((go_at_call 68; refine (HS.out _ B0.out.drew).mono ?_; rintro e w1 ⟨ao, cap, rfl, hm, hb⟩; have hb' := (Below.refl w0.heap.size w0).drew.trans hb; obtain ⟨y0, y1, y2, y3, y4⟩ := (X0.out.after hb').cells5; obtain ⟨z0, z1, z2, z3, z4⟩ := (Z0.out.after hb').cells5; obtain ⟨zf0, zf1, zf2, zf3, zf4⟩ := (Z0.out.after hb').free5; have HM := hide_it hm; have HB := hide_it (B0.out.trans (hb'.mono B0.out.size)); have hz : w.heap.size + 2 ≤ w1.heap.size := (by have := hb'.size; omega); clear hm hb hb'))
  all_goals
    go_wp2
    refine bodyPost_ret (v := houseV id up room (.slice ao rs.length cap) f) (by simp [results, Tryz.results32, go_sem, *]) rfl ?_
    refine ⟨ao, cap, rfl, ?_, ?_⟩
    · refine Made.lo ?_ (show w.heap.size ≤ w0.heap.size by omega)
      repeat (refine Made.setBelow ?_ (by simp; omega) _)
      exact HM.out
    · repeat (refine Below.setCell ?_ (by first | (simp; done) | (simp; omega)) _)
      exact HB.out

end Go.Proofs.YthllcffmpeopcaaGreatDoor

namespace Go.Proofs.YthllcffmpeopcaaGreatDoor
open Go.RowKit

def hoOk (id room : Int) (rs : List R) (f : Int) : Bool := Pl.inB id 1 3 && logOk rs f && (Pl.sOf room rs).isSome
theorem hoOk_id {id room : Int} {rs : List R} {f : Int} (h : Pl.inB id 1 3 = false) : hoOk id room rs f = false := by simp [hoOk, h]
theorem hoOk_log {id room : Int} {rs : List R} {f : Int} (h : logOk rs f = false) : hoOk id room rs f = false := by simp [hoOk, h]
theorem hoOk_of {id room : Int} {rs : List R} {f : Int} (h1 : Pl.inB id 1 3 = true) (h2 : logOk rs f = true) : hoOk id room rs f = (Pl.sOf room rs).isSome := by simp [hoOk, h1, h2]
theorem hoOk_parts {id room : Int} {rs : List R} {f : Int} (h : hoOk id room rs f = true) : Pl.inB id 1 3 = true ∧ logOk rs f = true ∧ (Pl.sOf room rs).isSome = true := by
  simp only [hoOk, Bool.and_eq_true] at h
  exact ⟨h.1.1, h.1.2, h.2⟩

set_option maxHeartbeats 2000000 in
theorem specHouseOk_any (id : Int) (up : Bool) (room : Int) (v : Value) (rs : List R) (f : Int) (w : World) (hv : Recs w v rs) (hl : tot rs ≤ 1048576) :
    Calls Tryz.prog 19 #[houseV id up room v f] w fun e w' => e = .returned (.bool (hoOk id room rs f)) ∧ Below w.heap.size w w' := by
  have HO : Hid (∀ o, Calls Tryz.prog 46 #[.int .i64 room, v] (w.alloc o) fun e w' => StOut (w.alloc o) w' e (oR room (Pl.sOf room rs)) (oH (Pl.sOf room rs)) (Pl.sOf room rs).isSome) := fun o =>
    l2Of_any room v rs (w.alloc o) (hv.later (alloc_below w o) (Nat.le_refl _)) hl
  have HL : Hid (∀ W, Below w.heap.size w W → Calls Tryz.prog 48 #[.agg #[v, .int .i64 f]] W fun e w' => e = .returned (.bool (logOk rs f)) ∧ Below W.heap.size W w') := fun W h =>
    specLogOk_any v rs f W (hv.later h (Nat.le_refl _)) hl
  obtain ⟨av, cv, rfl⟩ := hv.shape
  clear hv
  have HE : Hid (hoOk id room rs f = (Pl.inB id 1 3 && logOk rs f && (Pl.sOf room rs).isSome)) := rfl
  rw [HE.out]
  clear HE
  obtain ⟨RR, hRR⟩ : ∃ x, oR room (Pl.sOf room rs) = x := ⟨_, rfl⟩
  obtain ⟨HS, hHS⟩ : ∃ x, oH (Pl.sOf room rs) = x := ⟨_, rfl⟩
  obtain ⟨BB, hBB⟩ : ∃ x, (Pl.sOf room rs).isSome = x := ⟨_, rfl⟩
  obtain ⟨LL, hLL⟩ : ∃ x, logOk rs f = x := ⟨_, rfl⟩
  obtain ⟨II, hII⟩ : ∃ x, Pl.inB id 1 3 = x := ⟨_, rfl⟩
  rw [hRR, hHS, hBB] at HO
  rw [hLL] at HL
  have HI : Hid (∀ W, Calls Tryz.prog 47 #[.int .i64 id, .int .i64 1, .int .i64 3] W fun e w' => e = .returned (.bool II) ∧ w' = W) := fun W => by rw [← hII]; exact in_any id 1 3 W
  rw [hBB, hLL, hII]
  clear hRR hHS hBB hLL hII
  go_enter Tryz.func19, Tryz.ntmps19
  go_wp2_with fail
  refine (HO.out _).mono ?_
  rintro e w1 ⟨a1, c1, rfl, -, hb1⟩
  have F1 := hide_it ((Five.new w id up room (.slice av rs.length cv) f 34).later hb1 (by simp))
  obtain ⟨w2, hw2⟩ : ∃ W, Hid (W = w1.alloc (.cells #[.int .i64 RR, .slice a1 HS.length c1] 50)) := ⟨_, rfl⟩
  have al2 : Hid (Below w1.heap.size w1 w2) := by show Below _ _ _; rw [hw2.out]; exact alloc_below _ _
  have E2 := hide_it (hb1.trans (al2.out.mono hb1.size))
  have B2 := hide_it ((alloc_below w _).trans (E2.out.mono (by simp)))
  have hz : w.heap.size < w2.heap.size := by have := E2.out.size; simp at this; omega
  have hz1 : w.heap.size < w1.heap.size := F1.out.lt
  obtain ⟨x0, x1, x2, x3, x4⟩ := F1.out.cells
  have k0 := fun x => cellAlloc x0 x
  have k3 := fun x => cellAlloc x3 x
  have k4 := fun x => cellAlloc x4 x
  clear hb1 x0 x1 x2 x3 x4
  go_wp2_with fail
  rw [← hw2.out]
  obtain ⟨x0, x1, x2, x3, x4⟩ := ((Five.new w id up room (.slice av rs.length cv) f 34).later E2.out (by simp)).cells
  clear k0 k3 k4
  refine (HI.out _).mono ?_
  rintro e w3 ⟨rfl, rfl⟩
  cases II
  · go_wp2
    go_ret
    exact ⟨rfl, B2.out⟩
  · go_wp2_with fail
    refine (HL.out _ B2.out).mono ?_
    rintro e w4 ⟨rfl, hb4⟩
    have B4 := hide_it (B2.out.trans (hb4.mono B2.out.size))
    clear hb4
    cases LL
    · go_wp2
      go_ret
      exact ⟨rfl, B4.out⟩
    · go_wp2
      go_ret
      exact ⟨rfl, B4.out⟩

theorem houseId_any (id : Int) (w : World) : Calls Tryz.prog 55 #[.int .i64 id] w fun e w' => e = .returned (.bool (Pl.inB id 1 3)) ∧ w' = w := by
  by_cases h1 : 1 ≤ id
  · by_cases h2 : id ≤ 3
    all_goals
      go_enter Tryz.func55, Tryz.ntmps55
      go_wp2
      go_ret
      exact ⟨by simp [Pl.inB]; omega, rfl⟩
  · go_enter Tryz.func55, Tryz.ntmps55
    go_wp2
    go_ret
    exact ⟨by simp [Pl.inB]; omega, rfl⟩

set_option maxHeartbeats 2000000 in
theorem implHouseOk_any (id : Int) (up : Bool) (room : Int) (v : Value) (rs : List R) (f : Int) (a : Addr) (w : World) (hv : Recs w v rs) (hl : tot rs ≤ 1048576) (ha : ErrAt w a) :
    Calls Tryz.prog 25 #[houseV id up room v f] w fun e w' => e = .returned (.bool (hoOk id room rs f)) ∧ Below w.heap.size w w' := by
  have HO : Hid (∀ W, Below w.heap.size w W → Calls Tryz.prog 57 #[.int .i64 room, v] W fun e w' => StOut W w' e (oR room (Pl.sOf room rs)) (oH (Pl.sOf room rs)) (Pl.sOf room rs).isSome) := fun W h =>
    implOf_any room v rs a W (hv.later h (Nat.le_refl _)) hl (ha.later h (Nat.le_refl _))
  have HL : Hid (∀ W, Below w.heap.size w W → Calls Tryz.prog 56 #[.agg #[v, .int .i64 f]] W fun e w' => e = .returned (.bool (logOk rs f)) ∧ Below W.heap.size W w') := fun W h =>
    implLogOk_any v rs f a W (hv.later h (Nat.le_refl _)) hl (ha.later h (Nat.le_refl _))
  obtain ⟨av, cv, rfl⟩ := hv.shape
  clear hv ha
  have HE : Hid (hoOk id room rs f = (Pl.inB id 1 3 && logOk rs f && (Pl.sOf room rs).isSome)) := rfl
  rw [HE.out]
  clear HE
  obtain ⟨RR, hRR⟩ : ∃ x, oR room (Pl.sOf room rs) = x := ⟨_, rfl⟩
  obtain ⟨HS, hHS⟩ : ∃ x, oH (Pl.sOf room rs) = x := ⟨_, rfl⟩
  obtain ⟨BB, hBB⟩ : ∃ x, (Pl.sOf room rs).isSome = x := ⟨_, rfl⟩
  obtain ⟨LL, hLL⟩ : ∃ x, logOk rs f = x := ⟨_, rfl⟩
  obtain ⟨II, hII⟩ : ∃ x, Pl.inB id 1 3 = x := ⟨_, rfl⟩
  rw [hRR, hHS, hBB] at HO
  rw [hLL] at HL
  have HI : Hid (∀ W, Calls Tryz.prog 55 #[.int .i64 id] W fun e w' => e = .returned (.bool II) ∧ w' = W) := fun W => by rw [← hII]; exact houseId_any id W
  rw [hBB, hLL, hII]
  clear hRR hHS hBB hLL hII
  have B0 := fun o => hide_it (alloc_below w o)
  go_enter Tryz.func25, Tryz.ntmps25
  go_wp2_with fail
  refine (HI.out _).mono ?_
  rintro e w3 ⟨rfl, rfl⟩
  cases II
  · go_wp2
    go_ret
    exact ⟨rfl, alloc_below _ _⟩
  · go_wp2_with fail
    refine (HL.out _ (alloc_below _ _)).mono ?_
    rintro e w4 ⟨rfl, hb4⟩
    obtain ⟨x0, x1, x2, x3, x4⟩ := ((Five.new w id up room (.slice av rs.length cv) f 34).later hb4 (by simp)).cells
    have B4 := hide_it ((alloc_below w _).trans (hb4.mono (by simp)))
    clear hb4
    cases LL
    · go_wp2
      go_ret
      exact ⟨rfl, B4.out⟩
    · go_wp2_with fail
      refine (HO.out _ B4.out).mono ?_
      rintro e w5 ⟨a1, c1, rfl, -, hb5⟩
      have B5 := hide_it (B4.out.trans (hb5.mono B4.out.size))
      clear hb5
      go_wp2
      go_ret
      exact ⟨rfl, B5.out.alloc B5.out.size _⟩

end Go.Proofs.YthllcffmpeopcaaGreatDoor

namespace Go.Proofs.YthllcffmpeopcaaGreatDoor
open Go.RowKit

theorem frozenAlloc {w : World} {b o : Nat} (h : w.frozen? ⟨b, o, none⟩ = false) (hb : b < w.heap.size) (x : Obj) : (w.alloc x).frozen? ⟨b, o, none⟩ = false := by
  rw [← h]
  exact ((Below.refl w.heap.size w).alloc (Nat.le_refl _) x).frozen (p := ⟨b, o, none⟩) hb

end Go.Proofs.YthllcffmpeopcaaGreatDoor

namespace Go.Proofs.YthllcffmpeopcaaGreatDoor
open Go.RowKit

/-- How many are left behind a fall. -/
def fallN (n : Nat) (f keep : Int) : Nat := (if keep ≤ 0 then f else if keep < n - f then f + keep else n).toNat

theorem fallN_le {n : Nat} {f keep : Int} (h0 : 0 ≤ f) (h1 : f ≤ n) : fallN n f keep ≤ n := by
  unfold fallN; split
  · omega
  · split <;> omega

theorem fallN_lo {n F : Nat} {keep : Int} (h : keep ≤ 0) : fallN n F keep = F := by unfold fallN; rw [if_pos h]; simp
theorem fallN_mid {n F K : Nat} (h0 : ¬ (K : Int) ≤ 0) (h : (K : Int) ≤ n - F) : fallN n F K = F + K := by
  unfold fallN; rw [if_neg h0]
  by_cases e : (K : Int) < n - F
  · rw [if_pos e]; omega
  · rw [if_neg e]; omega
theorem fallN_all {n F K : Nat} (h0 : ¬ (K : Int) ≤ 0) (h : ¬ (K : Int) ≤ n - F) : fallN n F K = n := by unfold fallN; rw [if_neg h0, if_neg (by omega)]; simp

theorem flat_take (ps : List (R × Value)) (N : Nat) : flat (ps.take N) = (flat ps).take (N * 3) := by
  induction ps generalizing N with
  | nil => simp [flat]
  | cons p t ih =>
    cases N with
    | zero => simp [flat]
    | succ N =>
      rw [show (N + 1) * 3 = N * 3 + 3 by omega]
      simp [flat, ih]

theorem Made.take {w : World} {lo N : Nat} {ao : Option Addr} {cap : Nat} {rs : List R} (h : Made w lo (.slice ao rs.length cap) rs) (hN : N ≤ rs.length) : Made w lo (.slice ao N cap) (rs.take N) := by
  obtain ⟨ps, hp, h1, h2, h3⟩ := h
  have hpl : ps.length = rs.length := by have := congrArg List.length hp; simpa using this
  refine ⟨ps.take N, by rw [List.map_take, hp], ?_, ?_, h3.1, fun p hp => h3.2.1 p (List.mem_of_mem_take hp), fun i j p q hi hj hij => ?_⟩
  · have hl : (ps.take N).length = N := by rw [List.length_take]; omega
    rw [hl, flat_take]
    refine ⟨by rw [List.length_take, h1.1]; rw [hpl]; omega, ?_⟩
    rcases h1.2 with ⟨hv, hn⟩ | ⟨g, cp, cur, hv, hg, hh, hnc, hcm, hcs, htk⟩
    · simp only [Value.slice.injEq] at hv
      obtain ⟨e1, e2, e3⟩ := hv
      exact Or.inl ⟨by rw [e1, e3, show N = 0 by omega], by omega⟩
    · simp only [Value.slice.injEq] at hv
      obtain ⟨e1, e2, e3⟩ := hv
      refine Or.inr ⟨g, cp, cur, by rw [e1, e3], hg, hh, by omega, hcm, hcs, ?_⟩
      rw [← htk, List.take_take, Nat.min_eq_left (by rw [hpl]; omega)]
  · intro k hk
    refine h2 k ?_
    cases ao with
    | none => cases hk
    | some a => exact hk
  · have hi' : i < N ∧ ps[i]? = some p := by
      rw [List.getElem?_take] at hi
      split at hi
      · exact ⟨by assumption, hi⟩
      · cases hi
    have hj' : j < N ∧ ps[j]? = some q := by
      rw [List.getElem?_take] at hj
      split at hj
      · exact ⟨by assumption, hj⟩
      · cases hj
    exact h3.2.2 i j p q hi'.2 hj'.2 hij

theorem Recs.take {w : World} {N cap : Nat} {ao : Option Addr} {rs : List R} (h : Recs w (.slice ao rs.length cap) rs) (hN : N ≤ rs.length) : Recs w (.slice ao N cap) (rs.take N) := by
  have hl : (rs.take N).length = N := by rw [List.length_take]; omega
  by_cases h0 : N = 0
  · subst h0
    exact Or.inl ⟨by simp, ao, cap, rfl⟩
  rcases h with ⟨hz, _⟩ | ⟨b, off, cp, hv, hz, hc⟩
  · rw [hz] at hN; simp at hN; omega
  · simp only [Value.slice.injEq] at hv
    obtain ⟨e1, _, e3⟩ := hv
    refine Or.inr ⟨b, off, cp, by rw [hl, e1, e3], by intro e; rw [e] at hl; simp at hl; omega, fun i r hr => ?_⟩
    rw [List.getElem?_take] at hr
    split at hr
    · exact hc i r hr
    · cases hr

theorem pre_take (rs : List R) (N : Nat) (hN : N ≤ rs.length) : tot (rs.take N) ≤ tot rs := by
  have h1 := pre_le rs N
  have h2 : pre (rs.take N) (rs.take N).length = pre rs N := by unfold pre; rw [List.take_length]
  unfold tot
  rw [h2, List.length_take]; omega

/-- What a fall leaves. -/
def fallR (rs : List R) (f keep : Int) : List R := if logOk rs f then rs.take (fallN rs.length f keep) else []
def fallF (rs : List R) (f keep : Int) : Int := if logOk rs f then fallN rs.length f keep else 0

theorem logOk_f {rs : List R} {f : Int} (h : logOk rs f = true) : 0 ≤ f ∧ f ≤ rs.length ∧ rs.length ≤ 40 := by
  unfold logOk at h
  simp only [Bool.and_eq_true, decide_eq_true_eq] at h
  have := Pl.inB_true h.2.2
  omega

end Go.Proofs.YthllcffmpeopcaaGreatDoor

namespace Go.Proofs.YthllcffmpeopcaaGreatDoor
open Go.RowKit

theorem Made.form {w : World} {lo cap : Nat} {ao : Option Addr} {rs : List R} (h : Made w lo (.slice ao rs.length cap) rs) : (ao = Option.none ∧ rs = [] ∧ cap = 0) ∨ ∃ g, ao = some ⟨g, 0, Option.none⟩ ∧ rs.length ≤ cap := by
  obtain ⟨ps, hp, h1, _, _⟩ := h
  have hpl : ps.length = rs.length := by have := congrArg List.length hp; simpa using this
  rcases h1.2 with ⟨hv, hn⟩ | ⟨g, cp, cur, hv, hg, hh, hnc, _⟩
  · simp only [Value.slice.injEq] at hv
    exact Or.inl ⟨hv.1, List.length_eq_zero_iff.1 hv.2.1, hv.2.2⟩
  · simp only [Value.slice.injEq] at hv
    exact Or.inr ⟨g, hv.1, by omega⟩

end Go.Proofs.YthllcffmpeopcaaGreatDoor

namespace Go.Proofs.YthllcffmpeopcaaGreatDoor
open Go.RowKit

/-- The slice of a list that the call itself has made, or nil. -/
def Form (v : Value) (n : Nat) : Prop := (v = .slice none 0 0 ∧ n = 0) ∨ ∃ g cap, v = .slice (some ⟨g, 0, none⟩) n cap ∧ n ≤ cap
theorem form_of_row {w : World} {base : Nat} {e : TypeId} {size : Nat} {v : Value} {n : Nat} {xs : List Value} (h : w.ownsRow base e size v n xs) : Form v n := by
  rcases h.2 with h | ⟨g, cap, cur, hv, _, _, hc, _⟩
  · exact Or.inl h
  · exact Or.inr ⟨g, cap, hv, hc⟩

end Go.Proofs.YthllcffmpeopcaaGreatDoor

namespace Go.Proofs.YthllcffmpeopcaaGreatDoor
open Go.RowKit

end Go.Proofs.YthllcffmpeopcaaGreatDoor

namespace Go.Proofs.YthllcffmpeopcaaGreatDoor
open Go.RowKit

/-- A house as plain data: its number, whether it is up, how many it has, its records, how many of them are forced. -/
abbrev Ho := Int × Bool × Int × List R × Int
def hoZ : Ho := (0, false, 0, [], 0)
def hoForce (id : Int) (up : Bool) (room : Int) (rs : List R) (f : Int) : Ho := if hoOk id room rs f = true then (id, up, room, rs, if up = true then rs.length else f) else hoZ
def hoFall (id room : Int) (rs : List R) (f keep : Int) : Ho := if hoOk id room rs f = true then (id, false, room, rs.take (fallN rs.length f keep), fallN rs.length f keep) else hoZ
def hoRise (id room : Int) (rs : List R) (f : Int) : Ho := if hoOk id room rs f = true then (id, true, room, rs, f) else hoZ
def HoO (w w' : World) (e : Ending) (o : Ho) : Prop := HoOut w w' e o.1 o.2.1 o.2.2.1 o.2.2.2.1 o.2.2.2.2
theorem HoO.none_ {w w' : World} (h : Below w.heap.size w w') : HoO w w' (.returned (houseV 0 false 0 (.slice none 0 0) 0)) hoZ := ⟨none, 0, rfl, Made.none _ _, h⟩
theorem hoForce_tot (id : Int) (up : Bool) (room : Int) (rs : List R) (f : Int) (hl : tot rs ≤ 1048576) : tot (hoForce id up room rs f).2.2.2.1 ≤ 1048576 := by
  unfold hoForce; split
  · exact hl
  · simp [hoZ, tot, pre]
theorem hoRise_tot (id room : Int) (rs : List R) (f : Int) (hl : tot rs ≤ 1048576) : tot (hoRise id room rs f).2.2.2.1 ≤ 1048576 := by
  unfold hoRise; split
  · exact hl
  · simp [hoZ, tot, pre]
theorem hoFall_tot (id room : Int) (rs : List R) (f keep : Int) (hl : tot rs ≤ 1048576) : tot (hoFall id room rs f keep).2.2.2.1 ≤ 1048576 := by
  unfold hoFall; split
  · obtain ⟨h0, h1, _⟩ := logOk_f (hoOk_parts (by assumption)).2.1
    exact Nat.le_trans (pre_take rs _ (fallN_le h0 h1)) hl
  · simp [hoZ, tot, pre]
theorem Made.setTwo {w : World} {lo b : Nat} {v : Value} {rs : List R} (h : Made w lo v rs) (hb : b < lo) (x y : Value) (i j : Nat) : Made ((w.setCell ⟨b, i, Option.none⟩ x).setCell ⟨b, j, Option.none⟩ y) lo v rs :=
  (h.setBelow (by simpa using hb) _).setBelow (by simpa using hb) _
/-- A store into a block that holds a house leaves records that the call made. -/
theorem Made.setHouse {w : World} {lo b j : Nat} {v : Value} {rs : List R} {cur : Array Value} (h : Made w lo v rs) (hh : Blk w b cur 34) (x : Value) : Made (w.setCell ⟨b, j, Option.none⟩ x) lo v rs := by
  obtain ⟨ps, hp, h1, h2, h3⟩ := h
  have hs : (w.setCell ⟨b, j, Option.none⟩ x).heap.size = w.heap.size := by simp
  have ap : ∀ {e : TypeId} {sz n : Nat} {y : Value} {xs : List Value}, w.ownsRow lo e sz y n xs → e ≠ 34 → ∀ g, y.ownBlock = some g → g ≠ b := fun hr he g hg => by
    rcases hr.2 with ⟨hv, _⟩ | ⟨g', cap, cur', hv, _, hc, _⟩
    · rw [hv] at hg; simp [Value.ownBlock] at hg
    · rw [hv] at hg
      simp [Value.ownBlock] at hg
      subst hg
      intro e2
      subst e2
      unfold Blk at hh
      rw [hh] at hc
      simp at hc
      exact he hc.2.symm
  refine ⟨ps, hp, ownsRow_setCell_ne h1 (ap h1 (by decide)) x, by rw [hs]; exact h2, ?_⟩
  rw [hs]
  exact ⟨by rw [hs]; exact h3.1, fun p hp => ⟨ownsRow_setCell_ne (h3.2.1 p hp).1 (ap (h3.2.1 p hp).1 (by decide)) x, (h3.2.1 p hp).2⟩, h3.2.2⟩

set_option maxHeartbeats 4000000 in
theorem implHForce_any (id : Int) (up : Bool) (room : Int) (v : Value) (rs : List R) (f : Int) (a : Addr) (w : World) (hv : Recs w v rs) (hl : tot rs ≤ 1048576) (ha : ErrAt w a) :
    Calls Tryz.prog 22 #[houseV id up room v f] w fun e w' => HoO w w' e (hoForce id up room rs f) := by
  have hrl := tot_len rs
  have HV : Hid (∀ W, Below w.heap.size w W → Recs W v rs) := fun W h => hv.later h (Nat.le_refl _)
  have HA : Hid (∀ W, Below w.heap.size w W → ErrAt W a) := fun W h => ha.later h (Nat.le_refl _)
  have HOK : Hid (∀ W, Below w.heap.size w W → Calls Tryz.prog 25 #[houseV id up room v f] W fun e w' => e = .returned (.bool (hoOk id room rs f)) ∧ Below W.heap.size W w') := fun W h =>
    implHouseOk_any id up room v rs f a W (HV.out W h) hl (HA.out W h)
  obtain ⟨av, cv, rfl⟩ := hv.shape
  clear hv ha
  obtain ⟨w0, hw0⟩ : ∃ W, Hid (W = (w.alloc (.cells #[.int .i64 id, .bool up, .int .i64 room, .slice av rs.length cv, .int .i64 f] 34)).alloc (.cells #[.int .i64 0, .bool false, .int .i64 0, .slice none 0 0, .int .i64 0] 34)) := ⟨_, rfl⟩
  have B0 : Hid (Below w.heap.size w w0) := by show Below _ _ _; rw [hw0.out]; exact below2 _ _ _
  have X0 : Hid (Blk w0 w.heap.size #[.int .i64 id, .bool up, .int .i64 room, .slice av rs.length cv, .int .i64 f] 34) := by show Blk _ _ _ _; rw [hw0.out]; exact (Blk.new _ _ _).alloc _
  have Z0 : Hid (Blk w0 (w.heap.size + 1) #[.int .i64 0, .bool false, .int .i64 0, .slice none 0 0, .int .i64 0] 34) := by show Blk _ _ _ _; rw [hw0.out]; exact Blk.new2 _ _ _ _
  have hs0 : w0.heap.size = w.heap.size + 2 := by rw [hw0.out, size2]
  cases hok : hoOk id room rs f
  · have HR : Hid (hoForce id up room rs f = hoZ) := by show _ = _; simp [hoForce, hok]
    rw [hok] at HOK
    rw [HR.out]
    clear hok
    go_enter Tryz.func22, Tryz.ntmps22
    go_wp2_with fail
    rw [← hw0.out]
    refine (HOK.out _ B0.out).mono ?_
    rintro e w1 ⟨rfl, hb⟩
    obtain ⟨z0, z1, z2, z3, z4⟩ := (Z0.out.after hb).cells5
    obtain ⟨zf0, zf1, zf2, zf3, zf4⟩ := (Z0.out.after hb).free5
    have HB := hide_it (B0.out.trans (hb.mono B0.out.size))
    clear hb
    go_wp2
    refine bodyPost_ret (v := houseV 0 false 0 (.slice none 0 0) 0) (by simp [results, Tryz.results22, go_sem, *]) rfl (HoO.none_ ?_)
    repeat (refine Below.setCell ?_ (by first | (simp; done) | (simp; omega)) _)
    exact HB.out
  · have HR : Hid (hoForce id up room rs f = (id, up, room, rs, if up = true then (rs.length : Int) else f)) := by show _ = _; simp [hoForce, hok]
    have hlok := (hoOk_parts hok).2.1
    have LF : Hid (∀ W, Below w.heap.size w W → Calls Tryz.prog 53 #[.agg #[.slice av rs.length cv, .int .i64 f]] W fun e w' => LogOut W w' e rs rs.length) := fun W h => by
      have := implForce_any _ rs f a W (HV.out _ h) hl (HA.out _ h)
      rw [show forceR rs f = rs by simp [forceR, hlok], show forceF rs f = rs.length by simp [forceF, hlok]] at this
      exact this
    rw [hok] at HOK
    rw [HR.out]
    clear HR
    go_enter Tryz.func22, Tryz.ntmps22
    go_wp2_with fail
    rw [← hw0.out]
    refine (HOK.out _ B0.out).mono ?_
    rintro e w1 ⟨rfl, hb1⟩
    have X1 := hide_it (X0.out.after hb1)
    have Z1 := hide_it (Z0.out.after hb1)
    have B1 := hide_it (B0.out.trans (hb1.mono B0.out.size))
    have hs1 : w.heap.size + 2 ≤ w1.heap.size := by have := hb1.size; omega
    obtain ⟨x0, x1, x2, x3, x4⟩ := X1.out.cells5
    clear hb1
    go_wp2_with fail
    refine (keeperOf_any id up room av rs.length cv f w1).mono ?_
    rintro e w2 ⟨rfl, hb2⟩
    have Z2 := hide_it (Z1.out.after hb2)
    have B2 := hide_it (B1.out.trans (hb2.mono B1.out.size))
    have hs2 : w.heap.size + 2 ≤ w2.heap.size := by have := hb2.size; omega
    clear hb2 x0 x1 x2 x3 x4
    cases up
    · obtain ⟨w3, hw3⟩ : ∃ W, Hid (W = w2.alloc (.cells #[.slice av rs.length cv, .int .i64 f, .int .i64 id, .bool false, .int .i64 room] 66)) := ⟨_, rfl⟩
      have al3 : Hid (Below w2.heap.size w2 w3) := by show Below _ _ _; rw [hw3.out]; exact alloc_below _ _
      have hs3 : w3.heap.size = w2.heap.size + 1 := by rw [hw3.out]; simp
      have Z3 := hide_it (Z2.out.after al3.out)
      have B3 := hide_it (B2.out.trans (al3.out.mono B2.out.size))
      go_wp2_with fail
      rw [← hw3.out]
      refine (keeperHouse_any id false room _ rs f w3 (HV.out _ B3.out) hl).mono ?_
      rintro e w4 ⟨ao, cap, rfl, hm, hb⟩
      obtain ⟨z0, z1, z2, z3, z4⟩ := (Z3.out.after hb).cells5
      obtain ⟨zf0, zf1, zf2, zf3, zf4⟩ := (Z3.out.after hb).free5
      have HM := hide_it hm
      have HB := hide_it (B3.out.trans (hb.mono B3.out.size))
      clear hm hb
      go_wp2
      refine bodyPost_ret (v := houseV id false room (.slice ao rs.length cap) f) (by simp [results, Tryz.results22, go_sem, *]) rfl ?_
      refine ⟨ao, cap, rfl, ?_, ?_⟩
      · refine Made.lo ?_ (show w.heap.size ≤ w3.heap.size by omega)
        repeat (refine Made.setBelow ?_ (by first | (simp; done) | (simp; omega)) _)
        exact HM.out
      · repeat (refine Below.setCell ?_ (by first | (simp; done) | (simp; omega)) _)
        exact HB.out
    · obtain ⟨w3, hw3⟩ : ∃ W, Hid (W = w2.alloc (.cells #[.slice av rs.length cv, .int .i64 f, .int .i64 id, .bool true, .int .i64 room] 66)) := ⟨_, rfl⟩
      have al3 : Hid (Below w2.heap.size w2 w3) := by show Below _ _ _; rw [hw3.out]; exact alloc_below _ _
      have hs3 : w3.heap.size = w2.heap.size + 1 := by rw [hw3.out]; simp
      have Z3 := hide_it (Z2.out.after al3.out)
      have B3 := hide_it (B2.out.trans (al3.out.mono B2.out.size))
      have K3 : Hid (Blk w3 w2.heap.size #[.slice av rs.length cv, .int .i64 f, .int .i64 id, .bool true, .int .i64 room] 66) := by show Blk _ _ _ _; rw [hw3.out]; exact Blk.new _ _ _
      go_wp2_with fail
      rw [← hw3.out]
      refine (LF.out _ B3.out).mono ?_
      rintro e w4 ⟨a4, c4, rfl, hm4, hb4⟩
      have Z4 := hide_it (Z3.out.after hb4)
      have K4 := hide_it (K3.out.after hb4)
      have B4 := hide_it (B3.out.trans (hb4.mono B3.out.size))
      have hs4 : w3.heap.size ≤ w4.heap.size := hb4.size
      have M4 := hide_it (hm4.setTwo (show w2.heap.size < w3.heap.size by omega) (.slice a4 rs.length c4) (.int .i64 rs.length) 0 1)
      obtain ⟨y0, y1, y2, y3, y4⟩ := K4.out.cells5
      obtain ⟨yf0, yf1, yf2, yf3, yf4⟩ := K4.out.free5
      clear hm4 hb4
      obtain ⟨w5, hw5⟩ : ∃ W, Hid (W = (w4.setCell ⟨w2.heap.size, 0, none⟩ (.slice a4 rs.length c4)).setCell ⟨w2.heap.size, 1, none⟩ (.int .i64 rs.length)) := ⟨_, rfl⟩
      rw [← hw5.out] at M4
      have B5 : Hid (Below w.heap.size w w5) := by show Below _ _ _; rw [hw5.out]; exact (B4.out.setCell (by simp; omega) _).setCell (by simp; omega) _
      have Z5 : Hid (Blk w5 (w.heap.size + 1) #[.int .i64 0, .bool false, .int .i64 0, .slice none 0 0, .int .i64 0] 34) := by show Blk _ _ _ _; rw [hw5.out]; exact (Z4.out.other (by simp; omega) _).other (by simp; omega) _
      have hs5 : w5.heap.size = w4.heap.size := by rw [hw5.out]; simp
      go_wp2_with fail
      rw [← hw5.out]
      refine (keeperHouse_any id true room _ rs rs.length w5 M4.out.recs hl).mono ?_
      rintro e w6 ⟨ao, cap, rfl, hm, hb⟩
      obtain ⟨z0, z1, z2, z3, z4⟩ := (Z5.out.after hb).cells5
      obtain ⟨zf0, zf1, zf2, zf3, zf4⟩ := (Z5.out.after hb).free5
      have HM := hide_it hm
      have HB := hide_it (B5.out.trans (hb.mono B5.out.size))
      clear hm hb y0 y1 y2 y3 y4 yf0 yf1 yf2 yf3 yf4
      go_wp2
      refine bodyPost_ret (v := houseV id true room (.slice ao rs.length cap) rs.length) (by simp [results, Tryz.results22, go_sem, *]) rfl ?_
      refine ⟨ao, cap, rfl, ?_, ?_⟩
      · refine Made.lo ?_ (show w.heap.size ≤ w5.heap.size by omega)
        repeat (refine Made.setBelow ?_ (by first | (simp; done) | (simp; omega)) _)
        exact HM.out
      · repeat (refine Below.setCell ?_ (by first | (simp; done) | (simp; omega)) _)
        exact HB.out

end Go.Proofs.YthllcffmpeopcaaGreatDoor
