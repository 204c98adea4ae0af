/- Contracts of the two StockOf. For all that together has at most 1048576 records and numbers, in a world in which the sentinel's variable holds a pointer to an errors.errorString. -/
import Derived.Test.YtmkikenacnemkaaDoorKSDo2
import Derived.Test.YtmkikenacnemkaaDoorRecs
namespace Go.Proofs.YtmkikenacnemkaaDoor
open Go.RowKit

/-- A stock's own block. -/
def SB (W : World) (S : Nat) (x y : Value) : Prop := W.heap[S]? = some (.cells #[x, y] 26 (0, 0))
theorem SB.new (w : World) (x y : Value) : SB (w.alloc (.cells #[x, y] 26)) w.heap.size x y := heap_alloc_new w _
theorem SB.lt {w : World} {b : Nat} {x y : Value} (h : SB w b x y) : b < w.heap.size := by
  unfold SB at h
  by_cases e : b < w.heap.size
  · exact e
  · rw [Array.getElem?_eq_none (by omega)] at h; cases h
theorem SB.later {w w' : World} {b L : Nat} {x y : Value} (h : SB w b x y) (hb : Below L w w') (hL : b < L) : SB w' b x y := by
  unfold SB at *
  rw [hb.block b hL]; exact h
theorem SB.mid {w w' : World} {b l h' : Nat} {x y : Value} (h : SB w b x y) (hm : Mid l h' w w') (hb : b < l ∨ h' ≤ b) : SB w' b x y := by
  have := h.lt
  unfold SB at *
  rw [hm.block b this hb]; exact h
theorem SB.cells {w : World} {b : Nat} {x y : Value} (h : SB w b x y) : w.cell? ⟨b, 0, none⟩ = some x ∧ w.cell? ⟨b, 1, none⟩ = some y ∧ w.frozen? ⟨b, 0, none⟩ = false ∧ w.frozen? ⟨b, 1, none⟩ = false := by
  refine ⟨?_, ?_, frozen_of_row w _ _ _ _ h, frozen_of_row w _ _ _ _ h⟩
  · rw [cell_of_row w _ _ _ _ _ h]; rfl
  · rw [cell_of_row w _ _ _ _ _ h]; rfl
theorem SB.set {w : World} {b : Nat} {x y : Value} (h : SB w b x y) (x' y' : Value) : SB ((w.setCell ⟨b, 0, none⟩ x').setCell ⟨b, 1, none⟩ y') b x' y' := by
  have h2 := heap_setCell_same w b 0 _ _ x' h
  have h3 := heap_setCell_same _ b 1 _ _ y' h2
  unfold SB
  rw [h3]; rfl
theorem SB.other {w : World} {b c : Nat} {x y : Value} (h : SB w b x y) (hne : b ≠ c) (x' y' : Value) : SB ((w.setCell ⟨c, 0, none⟩ x').setCell ⟨c, 1, none⟩ y') b x y := by
  unfold SB at *
  rw [Below.heap_setCell _ _ _ _ hne, Below.heap_setCell _ _ _ _ hne]; exact h

theorem sRun_nil (room : Int) (hs : List Pl.H) : Pl.sRun room [] hs = some hs := rfl
theorem sRun_no (room : Int) (r : R) (t : List R) (hs : List Pl.H) (h : Pl.sDo room hs r.1 r.2.1 r.2.2 = none) : Pl.sRun room (r :: t) hs = none := by simp [Pl.sRun, h]
theorem sRun_yes (room : Int) (r : R) (t : List R) (hs hs' : List Pl.H) (h : Pl.sDo room hs r.1 r.2.1 r.2.2 = some hs') : Pl.sRun room (r :: t) hs = Pl.sRun room t hs' := by simp [Pl.sRun, h]
theorem drop_at {rs : List R} {k : Nat} {r : R} (h : rs[k]? = some r) : rs.drop k = r :: rs.drop (k + 1) := by
  have hk : k < rs.length := by
    by_cases e : k < rs.length
    · exact e
    · rw [List.getElem?_eq_none (by omega)] at h; cases h
  rw [List.getElem?_eq_getElem hk] at h
  simp only [Option.some.injEq] at h
  rw [List.drop_eq_getElem_cons hk, h]

theorem newO_no {room : Int} (h : Pl.inB room 0 9 = false) : newO room = none := by simp [newO, h]
theorem newO_yes {room : Int} (h : Pl.inB room 0 9 = true) : newO room = some Pl.noHolds := by simp [newO, h]
theorem sOf_no {room : Int} (rs : List R) (h : Pl.inB room 0 9 = false) : Pl.sOf room rs = none := by simp [Pl.sOf, h]
theorem sOf_yes {room : Int} (rs : List R) (h : Pl.inB room 0 9 = true) : Pl.sOf room rs = Pl.sRun room rs Pl.noHolds := by simp [Pl.sOf, h]

theorem row_g {w : World} {base n : Nat} {v : Value} {xs : List Value} (h : w.ownsRow base 40 2 v n xs) (hn : 0 < n) : ∃ g cap, v = .slice (some ⟨g, 0, none⟩) n cap := by
  rcases h.2 with ⟨_, h0⟩ | ⟨g, cap, cur, hv, _⟩
  · omega
  · exact ⟨g, cap, hv⟩

set_option maxRecDepth 100000 in
set_option maxHeartbeats 4000000 in
theorem implOf_any (room : Int) (v : Value) (rs : List R) (a : Addr) (w : World) (hv : Recs w v rs) (hl : tot rs ≤ 1048576) (ha : ErrAt w a) :
    Calls Tryd.prog 8 #[.int .i64 room, v] w fun e w' => StOut w w' e (oR room (Pl.sOf room rs)) (oH (Pl.sOf room rs)) (Pl.sOf room rs).isSome := by
  have hlen := tot_len rs
  have HM : Hid (∀ r ∈ rs, r.2.2.length ≤ 1048576) := fun r hr => Nat.le_trans (tot_mem rs r hr) hl
  have HA : Hid (∀ W, Below w.heap.size w W → ErrAt W a) := fun W h => ha.later h (Nat.le_refl _)
  have HN := hide_it (implNew_any room)
  cases hr : Pl.inB room 0 9
  · rw [sOf_no rs hr]
    have HN0 : ∀ W, Calls Tryd.prog 6 #[.int .i64 room] W fun e w' => StOut W w' e 0 [] false := fun W => by
      have := HN.out W
      rw [newO_no hr] at this
      exact this
    have HN1 := hide_it HN0
    clear HN0 HN
    obtain ⟨ao, cap, rfl⟩ := hv.shape
    clear hv ha
    go_enter Tryd.func8, Tryd.ntmps8
    go_wp2_with fail
    refine (HN1.out _).mono ?_
    rintro e w1 ⟨a1, c1, rfl, ho1, hb1⟩
    have Z1 := hide_it ((SB.new w (.int .i64 0) (.slice none 0 0)).later hb1 (by simp))
    have B1 := hide_it ((al_below w _).trans (hb1.mono (by simp)))
    have hz1 := Z1.out.lt
    obtain ⟨z0, z1, z2, z3⟩ := Z1.out.cells
    have ZS := Z1.out.set (.int .i64 0) (.slice none 0 0)
    have ZT := ZS.later (al_below _ (.cells #[.int .i64 0, .slice a1 0 c1] 26)) ZS.lt
    have HZT := hide_it ZT.cells
    clear ho1 hb1 ZS ZT
    go_wp2
    obtain ⟨t0, t1, _, _⟩ := HZT.out
    refine bodyPost_ret (v := .tuple #[.agg #[.int .i64 0, .slice none 0 0], .bool false]) (by simp [results, Tryd.results8, go_sem, t0, t1]) rfl ?_
    first | exact StOut.none_ (((B1.out.alloc B1.out.size _).setCell (by simp) _).setCell (by simp) _) | exact StOut.none_ (((B1.out.setCell (by simp) _).setCell (by simp) _).alloc (by simp; exact B1.out.size) _)
  rw [sOf_yes rs hr]
  have HN0 : ∀ W, Calls Tryd.prog 6 #[.int .i64 room] W fun e w' => StOut W w' e room Pl.noHolds true := fun W => by
    have := HN.out W
    rw [newO_yes hr] at this
    exact this
  have HN1 := hide_it HN0
  clear HN0 HN
  obtain ⟨OO, hOO⟩ : ∃ o, Pl.sRun room rs Pl.noHolds = o := ⟨_, rfl⟩
  rw [hOO]
  have HOO := hide_it hOO
  have HR := hide_it hr
  have HC : Hid (∀ W, Below w.heap.size w W → ∀ i r, rs[i]? = some r → ∃ b off cap u, v = .slice (some ⟨b, off, none⟩) rs.length cap ∧ RecCells W b (off + i * 3) r u) := fun W h i r hri => by
    rcases hv.later h (Nat.le_refl _) with ⟨rfl, _⟩ | ⟨b, off, cap, hvv, _, hc⟩
    · simp at hri
    · obtain ⟨u, hu⟩ := hc i r hri
      exact ⟨b, off, cap, u, hvv, hu⟩
  obtain ⟨av, cv, rfl⟩ := hv.shape
  clear hv ha hOO hr
  go_enter Tryd.func8, Tryd.ntmps8
  go_wp2_with fail
  refine (HN1.out _).mono ?_
  rintro e w1 ⟨a1, c1, rfl, ho1, hb1⟩
  have n6 : Pl.noHolds.length = 6 := rfl
  rw [n6] at ho1 ⊢
  have Z1 := hide_it ((SB.new w (.int .i64 0) (.slice none 0 0)).later hb1 (by simp))
  have B1 := hide_it ((al_below w _).trans (hb1.mono (by simp)))
  have hz1 := Z1.out.lt
  have ho1' : w1.ownsRow (w.heap.size + 1) 40 2 (.slice a1 6 c1) 6 (hflat Pl.noHolds) := by
    have h := ho1
    rw [World.size_alloc] at h
    exact h
  have O1 := hide_it (ho1'.alloc (.cells #[.int .i64 room, .slice a1 6 c1] 26))
  have Z2 := hide_it (Z1.out.later (al_below w1 (.cells #[.int .i64 room, .slice a1 6 c1] 26)) hz1)
  have S2 := hide_it (SB.new w1 (.int .i64 room) (.slice a1 6 c1))
  have B2 := hide_it (B1.out.alloc B1.out.size (.cells #[.int .i64 room, .slice a1 6 c1] 26))
  clear ho1 ho1' hb1
  go_wp2_with fail
  go_loopw [20] (fun i wr => ∃ (k : Nat) (hk : List Pl.H) (ak : Option Addr) (ck : Nat), k ≤ rs.length ∧ i = .int .i64 k ∧ Hid (Pl.sRun room (rs.drop k) hk = OO) ∧ Hid (Pl.sOk room hk = true) ∧ Hid (SB wr w1.heap.size (.int .i64 room) (.slice ak 6 ck)) ∧ Hid (SB wr w.heap.size (.int .i64 0) (.slice none 0 0)) ∧ Hid (wr.ownsRow (w.heap.size + 1) 40 2 (.slice ak 6 ck) 6 (hflat hk)) ∧ Hid (Below w.heap.size w wr)) (fun i _ => rs.length - (intOf i).toNat)
  case atStart => exact ⟨0, Pl.noHolds, a1, c1, Nat.zero_le _, rfl, HOO, Pl.new_ok room HR.out, S2, Z2, O1, B2⟩
  case round =>
    obtain ⟨k, hk, ak, ck, hkl, rfl, HRU, HOK, HS, HZ, HO, HB⟩ := hrel
    have P3 : Hid (hk.length = 6) := (Pl.sOk_parts HOK.out).2.2.1
    obtain ⟨s0, s1, s2, s3⟩ := HS.out.cells
    obtain ⟨z0, z1, z2, z3⟩ := HZ.out.cells
    have hsl := HS.out.lt
    have hzl := HZ.out.lt
    by_cases hlt : k < rs.length
    · obtain ⟨r, hri⟩ : ∃ r, Hid (rs[k]? = some r) := ⟨rs[k], by show _ = _; simp [hlt]⟩
      have hrl : r.2.2.length ≤ 1048576 := HM.out r (List.mem_of_getElem? hri.out)
      obtain ⟨b, off, cap, u, hvv, c0, c1', c2, hI⟩ := HC.out wr HB.out k r hri.out
      simp only [Value.slice.injEq] at hvv
      obtain ⟨rfl, -, rfl⟩ := hvv
      obtain ⟨au, cu, hus⟩ := hI.shape
      subst hus
      have HI := hide_it hI
      have HD : Hid (∀ o, Calls Tryd.prog 15 #[.agg #[.int .i64 room, .slice ak 6 ck], .agg #[.int .i64 r.1, .int .i64 r.2.1, .slice au r.2.2.length cu]] (wr.alloc o) fun e w' => StOut (wr.alloc o) w' e (oR room (Pl.sDo room hk r.1 r.2.1 r.2.2)) (oH (Pl.sDo room hk r.1 r.2.1 r.2.2)) (Pl.sDo room hk r.1 r.2.1 r.2.2).isSome) := fun o => by
        have h6 := HO.out
        have hH : Holds (wr.alloc o) (.slice ak 6 ck) hk := by
          have h := h6.alloc o
          rw [← P3.out] at h
          have := holds_of_row h
          rw [P3.out] at this
          exact this
        exact implDo_any room _ hk r.1 r.2.1 _ r.2.2 a (wr.alloc o) hH (by have := P3.out; omega) (HI.out.later (al_below _ _) (Nat.le_refl _)) hrl (HA.out _ (HB.out.alloc HB.out.size o))
      have HRU2 := hide_it HRU.out
      rw [drop_at hri.out] at HRU2
      have hbw : b < wr.heap.size := World.block_lt_of_cell? _ _ c0
      have sA := fun o => (HS.out.later (al_below wr o) hsl).cells
      have SAl := hide_it sA
      clear sA hI
      obtain ⟨sa0, sa1, _, _⟩ := SAl.out (.cells #[.int .i64 r.1, .int .i64 r.2.1, .slice au r.2.2.length cu] 44)
      go_wp2_with fail
      cases hd : Pl.sDo room hk r.1 r.2.1 r.2.2 with
      | none =>
        rw [hd] at HD
        have HE : Hid (OO = none) := by show _ = _; rw [← HRU2.out]; exact sRun_no room r _ hk hd
        refine (HD.out _).mono ?_
        rintro e w3 ⟨a3, c3, rfl, ho3, hb3⟩
        have B3 := hide_it ((HB.out.alloc HB.out.size (.cells #[.int .i64 r.1, .int .i64 r.2.1, .slice au r.2.2.length cu] 44)).trans (hb3.mono (by have := HB.out.size; simp; omega)))
        have S3 := hide_it ((HS.out.later (al_below wr (.cells #[.int .i64 r.1, .int .i64 r.2.1, .slice au r.2.2.length cu] 44)) hsl).later hb3 (by simp; omega))
        have Z3 := hide_it ((HZ.out.later (al_below wr (.cells #[.int .i64 r.1, .int .i64 r.2.1, .slice au r.2.2.length cu] 44)) hzl).later hb3 (by simp; omega))
        have hb13 : w.heap.size ≠ w1.heap.size := by omega
        clear ho3 hb3 s0 s1 s2 s3 z0 z1 z2 z3 sa0 sa1 c0 c1' c2
        obtain ⟨s0, s1, s2, s3⟩ := S3.out.cells
        obtain ⟨z0, z1, z2, z3⟩ := (Z3.out.other hb13 (.int .i64 (oR room none)) (.slice a3 (oH none).length c3)).cells
        go_wp2
        rw [HE.out]
        exact bodyPost_ret (v := .tuple #[.agg #[.int .i64 0, .slice none 0 0], .bool false]) (by simp [results, Tryd.results8, go_sem, z0, z1]) rfl (StOut.none_ ((((B3.out.setCell (by simp; omega) _).setCell (by simp; omega) _).setCell (by simp) _).setCell (by simp) _))
      | some hk' =>
        rw [hd] at HD
        have hl6 : hk'.length = 6 := by rw [Pl.sDo_len hd]; exact P3.out
        refine (HD.out _).mono ?_
        rintro e w3 ⟨a3, c3, rfl, ho3, hb3⟩
        have eH : oH (some hk') = hk' := rfl
        have eR : oR room (some hk') = room := rfl
        rw [eH, hl6] at ho3 ⊢
        rw [eR]
        have HRU3 : Hid (Pl.sRun room (rs.drop (k + 1)) hk' = OO) := by show _ = _; rw [← HRU2.out]; exact (sRun_yes room r _ hk hk' hd).symm
        have HOK3 : Hid (Pl.sOk room hk' = true) := Pl.sDo_keeps hd
        have B3 := hide_it ((HB.out.alloc HB.out.size (.cells #[.int .i64 r.1, .int .i64 r.2.1, .slice au r.2.2.length cu] 44)).trans (hb3.mono (by have := HB.out.size; simp; omega)))
        have S3 := hide_it ((HS.out.later (al_below wr (.cells #[.int .i64 r.1, .int .i64 r.2.1, .slice au r.2.2.length cu] 44)) hsl).later hb3 (by simp; omega))
        have Z3 := hide_it ((HZ.out.later (al_below wr (.cells #[.int .i64 r.1, .int .i64 r.2.1, .slice au r.2.2.length cu] 44)) hzl).later hb3 (by simp; omega))
        have hb13 : w.heap.size ≠ w1.heap.size := by omega
        have S4 := hide_it (S3.out.set (.int .i64 room) (.slice a3 6 c3))
        have Z4 := hide_it (Z3.out.other hb13 (.int .i64 room) (.slice a3 6 c3))
        rw [World.size_alloc] at ho3
        have O4 := hide_it (ownsRow_base (base' := w.heap.size + 1) (ownsRow_setCell_below (a := ⟨w1.heap.size, 1, none⟩) (ownsRow_setCell_below (a := ⟨w1.heap.size, 0, none⟩) ho3 (by simp; omega) (.int .i64 room)) (by simp; omega) (.slice a3 6 c3)) (by omega))
        clear ho3 hb3 s0 s1 s2 s3 z0 z1 z2 z3 sa0 sa1 c0 c1' c2 hd hl6 eH eR
        obtain ⟨s0, s1, s2, s3⟩ := S3.out.cells
        go_wp2
        go_roundw
        case rel => exact ⟨k + 1, hk', a3, c3, by omega, by go_num, HRU3, HOK3, S4, Z4, O4, (B3.out.setCell (by simp; omega) _).setCell (by simp; omega) _⟩
        case measure => simp [intOf]; omega
    · have HE : Hid (OO = some hk) := by
        show _ = _
        have hke : k = rs.length := by omega
        rw [← HRU.out, hke, List.drop_length]
        rfl
      go_wp2
      rw [HE.out]
      refine bodyPost_ret (v := .tuple #[.agg #[.int .i64 room, .slice ak 6 ck], .bool true]) (by simp [results, Tryd.results8, go_sem, z0, z1]) rfl ⟨ak, ck, ?_, ?_, ?_⟩
      · show _ = _
        simp only [oR, oH, Option.getD_some, Option.isSome_some, P3.out]
      · simp only [oH, Option.getD_some, P3.out]
        exact ownsRow_base (ownsRow_setCell_below (ownsRow_setCell_below HO.out (by simp) _) (by simp) _) (by omega)
      · exact (HB.out.setCell (by simp) _).setCell (by simp) _

end Go.Proofs.YtmkikenacnemkaaDoor
