/- The contract of the specification's StockOf. For all that together has at most 1048576 records and numbers. -/
import Derived.Test.YtckafpmhhoeodaaDoorKSOf
import Derived.Deep.DeepCutAuto
import Derived.Deep.RegionLaw
namespace Go.Proofs.YtckafpmhhoeodaaDoor
open Go.RowKit

theorem hOO_no {room : Int} {r : R} {t : List R} {hk : List Pl.H} (h : Pl.behind room hk r.1 r.2.1 r.2.2 = none) : Pl.sRun room (r :: t) hk = none :=
  sRun_no room r t hk (by unfold Pl.sDo; rw [h]; rfl)
theorem hOO_yes {room : Int} {r : R} {t : List R} {hk : List Pl.H} {h' : Pl.H} (h : Pl.behind room hk r.1 r.2.1 r.2.2 = some h') : Pl.sRun room (r :: t) hk = Pl.sRun room t (hk.set (Pl.at_ r.2.1) h') :=
  sRun_yes room r t hk _ (by unfold Pl.sDo; rw [h]; rfl)

set_option maxRecDepth 100000 in
set_option maxHeartbeats 8000000 in
theorem l2Of_any (room : Int) (v : Value) (rs : List R) (w : World) (hv : Recs w v rs) (hl : tot rs ≤ 1048576) :
    Calls Tryd.prog 40 #[.int .i64 room, v] w fun e w' => StOut w w' e (oR room (Pl.sOf room rs)) (oH (Pl.sOf room rs)) (Pl.sOf room rs).isSome := by
  have hlen := tot_len rs
  have HM : Hid (∀ r ∈ rs, r.2.2.length ≤ 1048576) := fun r hr => Nat.le_trans (tot_mem rs r hr) hl
  have HN := hide_it (specNew_any room)
  cases hr : Pl.inB room 0 9
  · rw [sOf_no rs hr]
    have HN0 : ∀ W, Calls Tryd.prog 54 #[.int .i64 room] W fun e w' => StOut W w' e 0 [] false := fun W => by
      have := HN.out W
      rw [newO_no hr] at this
      exact this
    have HN1 := hide_it HN0
    clear HN0 HN
    obtain ⟨ao, cap, rfl⟩ := hv.shape
    clear hv
    go_enter Tryd.func40, Tryd.ntmps40
    go_wp2_with fail
    refine (HN1.out _).mono ?_
    rintro e w1 ⟨a1, c1, rfl, ho1, hb1⟩
    have Z1 := hide_it ((SB.new w (.int .i64 0) (.slice none 0 0)).later hb1 (by simp))
    have B1 := hide_it ((al_below w _).trans (hb1.mono (by simp)))
    have hz1 := Z1.out.lt
    obtain ⟨z0, z1, z2, z3⟩ := Z1.out.cells
    have ZS := Z1.out.set (.int .i64 0) (.slice none 0 0)
    have ZT := ZS.later (al_below _ (.cells #[.int .i64 0, .slice a1 0 c1] 43)) ZS.lt
    have HZT := hide_it ZT.cells
    clear ho1 hb1 ZS ZT
    go_wp2
    obtain ⟨t0, t1, _, _⟩ := HZT.out
    refine bodyPost_ret (v := .tuple #[.agg #[.int .i64 0, .slice none 0 0], .bool false]) (by simp [results, Tryd.results40, go_sem, t0, t1]) rfl ?_
    exact StOut.none_ (((B1.out.setCell (by simp) _).setCell (by simp) _).alloc (by simp; exact B1.out.size) _)
  rw [sOf_yes rs hr]
  have HN0 : ∀ W, Calls Tryd.prog 54 #[.int .i64 room] W fun e w' => StOut W w' e room Pl.noHolds true := fun W => by
    have := HN.out W
    rw [newO_yes hr] at this
    exact this
  have HN1 := hide_it HN0
  clear HN0 HN
  obtain ⟨OO, hOO⟩ : ∃ o, Pl.sRun room rs Pl.noHolds = o := ⟨_, rfl⟩
  rw [hOO]
  have HOO := hide_it hOO
  have HR := hide_it hr
  have HC : Hid (∀ W, Below w.heap.size w W → ∀ i r, rs[i]? = some r → ∃ b off cap u, v = .slice (some ⟨b, off, none⟩) rs.length cap ∧ RecCells W b (off + i * 3) r u ∧ b < w.heap.size) := fun W h i r hri => by
    rcases hv with ⟨rfl, _⟩ | ⟨b, off, cap, hvv, _, hc⟩
    · simp at hri
    · obtain ⟨u, hu⟩ := hc i r hri
      exact ⟨b, off, cap, u, hvv, hu.later h (Nat.le_refl _), by simpa using World.block_lt_of_cell? _ _ hu.1⟩
  obtain ⟨av, cv, rfl⟩ := hv.shape
  clear hv hOO hr
  go_enter Tryd.func40, Tryd.ntmps40
  go_wp2_with fail
  refine (HN1.out _).mono ?_
  rintro e w1 ⟨a1, c1, rfl, ho1, hb1⟩
  have n6 : Pl.noHolds.length = 6 := rfl
  rw [n6] at ho1 ⊢
  obtain ⟨g, cg, hvg⟩ := row_g ho1 (by decide)
  rw [hvg] at ho1 ⊢
  have Z1 := hide_it ((SB.new w (.int .i64 0) (.slice none 0 0)).later hb1 (by simp))
  have B1 := hide_it ((al_below w _).trans (hb1.mono (by simp)))
  have hz1 := Z1.out.lt
  have ho1' : w1.ownsRow (w.heap.size + 1) 68 2 (.slice (some ⟨g, 0, none⟩) 6 cg) 6 (hflat Pl.noHolds) := by
    have h := ho1
    rw [World.size_alloc] at h
    exact h
  have hgl := ho1'.lt g rfl
  have O1 := hide_it (ho1'.alloc (.cells #[.int .i64 room, .slice (some ⟨g, 0, none⟩) 6 cg] 43))
  have Z2 := hide_it (Z1.out.later (al_below w1 (.cells #[.int .i64 room, .slice (some ⟨g, 0, none⟩) 6 cg] 43)) hz1)
  have S2 := hide_it (SB.new w1 (.int .i64 room) (.slice (some ⟨g, 0, none⟩) 6 cg))
  have B2 := hide_it (B1.out.alloc B1.out.size (.cells #[.int .i64 room, .slice (some ⟨g, 0, none⟩) 6 cg] 43))
  clear ho1 ho1' hb1 hvg
  go_wp2_with fail
  go_loopw [8] (fun i wr => ∃ (k : Nat) (hk : List Pl.H), k ≤ rs.length ∧ i = .int .i64 k ∧ Hid (Pl.sRun room (rs.drop k) hk = OO) ∧ Hid (Pl.sOk room hk = true) ∧ Hid (SB wr w1.heap.size (.int .i64 room) (.slice (some ⟨g, 0, none⟩) 6 cg)) ∧ Hid (SB wr w.heap.size (.int .i64 0) (.slice none 0 0)) ∧ Hid (wr.ownsRow (w.heap.size + 1) 68 2 (.slice (some ⟨g, 0, none⟩) 6 cg) 6 (hflat hk)) ∧ Hid (Below w.heap.size w wr)) (fun i _ => rs.length - (intOf i).toNat)
  case atStart => exact ⟨0, Pl.noHolds, Nat.zero_le _, rfl, HOO, Pl.new_ok room HR.out, S2, Z2, O1, B2⟩
  case round =>
    obtain ⟨k, hk, hkl, rfl, HRU, HOK, HS, HZ, HO, HB⟩ := hrel
    have P3 : Hid (hk.length = 6) := (Pl.sOk_parts HOK.out).2.2.1
    obtain ⟨s0, s1, s2, s3⟩ := HS.out.cells
    obtain ⟨z0, z1, z2, z3⟩ := HZ.out.cells
    have hsl := HS.out.lt
    have hzl := HZ.out.lt
    by_cases hlt : k < rs.length
    · obtain ⟨r, hri⟩ : ∃ r, Hid (rs[k]? = some r) := ⟨rs[k], by show _ = _; simp [hlt]⟩
      have hrl : r.2.2.length ≤ 1048576 := HM.out r (List.mem_of_getElem? hri.out)
      obtain ⟨b, off, cap, u, hvv, ⟨c0, c1', c2, hI⟩, hbw⟩ := HC.out wr HB.out k r hri.out
      simp only [Value.slice.injEq] at hvv
      obtain ⟨rfl, -, rfl⟩ := hvv
      obtain ⟨au, cu, hus⟩ := hI.shape
      subst hus
      have HI : Hid (∀ W, Below wr.heap.size wr W → Ints W (.slice au r.2.2.length cu) r.2.2) := fun W h => hI.later h (Nat.le_refl _)
      have HH : Hid (∀ W, Below wr.heap.size wr W → Holds W (.slice (some ⟨g, 0, none⟩) 6 cg) hk) := fun W h => by
        have h6 := HO.out
        rw [← P3.out] at h6
        have := (holds_of_row h6).later h (Nat.le_refl _)
        rw [P3.out] at this
        exact this
      have HRC : Hid (∀ W, Below wr.heap.size wr W → W.cell? ⟨b, off + k * 3, none⟩ = some (.int .i64 r.1) ∧ W.cell? ⟨b, off + k * 3 + 1, none⟩ = some (.int .i64 r.2.1) ∧ W.cell? ⟨b, off + k * 3 + 2, none⟩ = some (.slice au r.2.2.length cu)) := fun W h => by
        have hbr : b < wr.heap.size := Nat.lt_of_lt_of_le hbw HB.out.size
        exact ⟨(h.cell (p := ⟨b, off + k * 3, none⟩) hbr).trans c0, (h.cell (p := ⟨b, off + k * 3 + 1, none⟩) hbr).trans c1', (h.cell (p := ⟨b, off + k * 3 + 2, none⟩) hbr).trans c2⟩
      have HRU2 := hide_it HRU.out
      rw [drop_at hri.out] at HRU2
      have hkI : (k : Int) < (rs.length : Int) := by omega
      clear hI
      obtain ⟨o, ho⟩ : ∃ o, Pl.behind room hk r.1 r.2.1 r.2.2 = o := ⟨_, rfl⟩
      have HO2 := hide_it ho
      clear ho
      go_wp2_with fail
      go_cut [37] (fun b W => b = .bool (!o.isSome) ∧ Hid (Below wr.heap.size wr W))
      case first =>
        cases hrec : Pl.recOk r.1 r.2.1 r.2.2
        · have hon : o = none := by rw [← HO2.out]; exact Pl.behind_rec room hk hrec
          subst hon
          first | (go_region_with (go_at_call 62; refine (specOk_any r.1 r.2.1 _ r.2.2 _ (HI.out _ (Below.refl _ _).drew) hrl).mono ?_; rintro e w3 ⟨rfl, hb3⟩; rw [hrec]; have N3 := hide_it ((Below.refl wr.heap.size wr).drew.trans hb3); obtain ⟨d0, d1, d2⟩ := HRC.out _ N3.out; clear hb3)) | fail
          all_goals
            go_wp2_with fail
            go_meet
            case rel => exact ⟨rfl, N3⟩
        · have HMAY : Hid (∀ W, Below wr.heap.size wr W → Calls Tryd.prog 63 #[.agg #[.int .i64 room, .slice (some ⟨g, 0, none⟩) 6 cg], .agg #[.int .i64 r.1, .int .i64 r.2.1, .slice au r.2.2.length cu]] W fun e w' => e = .returned (.bool o.isSome) ∧ Below W.heap.size W w') := fun W h => by
            have := l2May_any room _ hk r.1 r.2.1 _ r.2.2 W (HH.out W h) (HI.out W h) HOK.out hrec
            rw [← Pl.behind_ok HOK.out hrec, HO2.out] at this
            exact this
          first | (go_region_with (first
            | (go_at_call 62; refine (specOk_any r.1 r.2.1 _ r.2.2 _ (HI.out _ (Below.refl _ _).drew) hrl).mono ?_; rintro e w3 ⟨rfl, hb3⟩; rw [hrec]; have N3 := hide_it ((Below.refl wr.heap.size wr).drew.trans hb3); obtain ⟨d0, d1, d2⟩ := HRC.out _ N3.out; have S3 := hide_it (HS.out.later N3.out hsl); obtain ⟨e0, e1, _, _⟩ := S3.out.cells; clear hb3)
            | (go_at_call 63; refine (HMAY.out _ N3.out).mono ?_; rintro e w4 ⟨rfl, hb4⟩; have N4 := hide_it (N3.out.trans (hb4.mono N3.out.size)); clear hb4))) | fail
          all_goals
            go_wp2_with fail
            go_meet
            case rel => exact ⟨by first | rfl | simp, N4⟩
      case rest =>
        obtain ⟨rfl, N4⟩ := hcut
        have S4 := hide_it (HS.out.later N4.out hsl)
        have Z4 := hide_it (HZ.out.later N4.out hzl)
        have O4 := hide_it (ownsRow_below HO.out N4.out (fun j hj => (HO.out.lt j hj).2))
        have B4 := hide_it (HB.out.trans (N4.out.mono HB.out.size))
        have hsl4 := S4.out.lt
        have hzl4 := Z4.out.lt
        clear s0 s1 s2 s3 z0 z1 z2 z3 c0 c1' c2
        obtain ⟨s0, s1, s2, s3⟩ := S4.out.cells
        obtain ⟨z0, z1, z2, z3⟩ := Z4.out.cells
        obtain ⟨c0, c1', c2⟩ := HRC.out _ N4.out
        cases o with
        | none =>
          have HE : Hid (OO = none) := by show _ = _; rw [← HRU2.out]; exact hOO_no HO2.out
          go_wp2
          rw [HE.out]
          refine bodyPost_ret (v := .tuple #[.agg #[.int .i64 0, .slice none 0 0], .bool false]) (by simp [results, Tryd.results40, go_sem, z0, z1]) rfl ?_
          exact StOut.none_ ((B4.out.setCell (by simp) _).setCell (by simp) _)
        | some h' =>
          have HRU3 : Hid (Pl.sRun room (rs.drop (k + 1)) (hk.set (Pl.at_ r.2.1) h') = OO) := by show _ = _; rw [← HRU2.out]; exact (hOO_yes HO2.out).symm
          have HOK3 : Hid (Pl.sOk room (hk.set (Pl.at_ r.2.1) h') = true) := Pl.behind_keeps HO2.out
          go_wp2_with fail
          first | (go_region_held (fun w' => w'.cell? ⟨w1.heap.size, 0, none⟩ = some (.int .i64 room) ∧ w'.cell? ⟨w1.heap.size, 1, none⟩ = some (.slice (some ⟨g, 0, none⟩) 6 cg) ∧ w'.cell? ⟨b, off + k * 3, none⟩ = some (.int .i64 r.1) ∧ w'.cell? ⟨b, off + k * 3 + 1, none⟩ = some (.int .i64 r.2.1) ∧ w'.cell? ⟨b, off + k * 3 + 2, none⟩ = some (.slice au r.2.2.length cu)) (first | (go_keep; done) | exact KP.out)
            ((go_at_call 64; refine (l2Do_any room g cg _ hk r.1 r.2.1 _ r.2.2 h' _ (ownsRow_below O4.out (Below.refl _ _).drew (fun j hj => (O4.out.lt j hj).2)) (HI.out _ N4.out.drew) HO2.out).mono ?_; rintro e w5 ⟨rfl, ho5, hM5⟩; have hM5' := hide_it ((Mid.of_below (Below.refl wc.heap.size wc).drew (Nat.le_refl _)).trans hM5); have E5 := hide_it (hM5'.out.below (B := w.heap.size) (by omega) B4.out.size); have S5 := hide_it (S4.out.mid hM5'.out (Or.inr (by omega))); have Z5 := hide_it (Z4.out.mid hM5'.out (Or.inl (by omega))); have B5 := hide_it (B4.out.trans E5.out); obtain ⟨x0, x1, x2, x3⟩ := S5.out.cells; have y0 := (E5.out.cell (p := ⟨b, off + k * 3, none⟩) hbw).trans c0; have y1 := (E5.out.cell (p := ⟨b, off + k * 3 + 1, none⟩) hbw).trans c1'; have y2 := (E5.out.cell (p := ⟨b, off + k * 3 + 2, none⟩) hbw).trans c2; have S6 := hide_it (S5.out.set (.int .i64 room) (.slice (some ⟨g, 0, none⟩) 6 cg)); have Z6 := hide_it (Z5.out.other (c := w1.heap.size) (by omega) (.int .i64 room) (.slice (some ⟨g, 0, none⟩) 6 cg)); have O6 := hide_it (ownsRow_mid (ownsRow_mid ho5 (setCell_mid _ w1.heap.size 0 (.int .i64 room)) (fun j hj => by simp [Value.ownBlock] at hj; omega)) (setCell_mid _ w1.heap.size 1 (.slice (some ⟨g, 0, none⟩) 6 cg)) (fun j hj => by simp [Value.ownBlock] at hj; omega)); have KP := hide_it (And.intro S6.out.cells.1 (And.intro S6.out.cells.2.1 (And.intro ((two_set_cells w5 w1.heap.size (.int .i64 room) (.slice (some ⟨g, 0, none⟩) 6 cg) b (off + k * 3) (by omega)).trans y0) (And.intro ((two_set_cells w5 w1.heap.size (.int .i64 room) (.slice (some ⟨g, 0, none⟩) 6 cg) b (off + k * 3 + 1) (by omega)).trans y1) ((two_set_cells w5 w1.heap.size (.int .i64 room) (.slice (some ⟨g, 0, none⟩) 6 cg) b (off + k * 3 + 2) (by omega)).trans y2))))); clear ho5 hM5))) | fail
          go_wp2
          go_roundw
          case rel => exact ⟨k + 1, _, by omega, by go_num, HRU3, HOK3, S6, Z6, O6, (B5.out.setCell (by simp; omega) _).setCell (by simp; omega) _⟩
          case measure => simp [intOf]; omega
    · have HE : Hid (OO = some hk) := by
        show _ = _
        have hke : k = rs.length := by omega
        rw [← HRU.out, hke, List.drop_length]
        rfl
      go_wp2
      rw [HE.out]
      refine bodyPost_ret (v := .tuple #[.agg #[.int .i64 room, .slice (some ⟨g, 0, none⟩) 6 cg], .bool true]) (by simp [results, Tryd.results40, go_sem, z0, z1]) rfl ⟨some ⟨g, 0, none⟩, cg, ?_, ?_, ?_⟩
      · show _ = _
        simp only [oR, oH, Option.getD_some, Option.isSome_some, P3.out]
      · simp only [oH, Option.getD_some, P3.out]
        exact ownsRow_base (ownsRow_setCell_below (ownsRow_setCell_below HO.out (by simp) _) (by simp) _) (by omega)
      · exact (HB.out.setCell (by simp) _).setCell (by simp) _

end Go.Proofs.YtckafpmhhoeodaaDoor
