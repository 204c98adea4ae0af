/- The draw of a stock and a record (DrawStockMay), walked. For codes of at most 1048576 bytes. -/
import Derived.Test.YthmbdboljjdcaaaDoorSMay
namespace Go.Proofs.YthmbdboljjdcaaaDoor
open Go.RowKit

theorem farD {W : World} {a : Addr} {v : Value} (h : W.cell? a = some v) : W.drew.cell? a = some v := h
theorem farS {W : World} {p a : Addr} {v : Value} (h : W.cell? a = some v) (hne : p.block ≠ a.block) (x : Value) : (W.setCell p x).cell? a = some v := by
  rw [World.cell?_setCell_far _ _ _ _ hne]; exact h

set_option maxRecDepth 100000 in
set_option maxHeartbeats 8000000 in
theorem drawMay_any (v : Value) (n : Nat) (w : World) (hv : CodeAt w v n) (hn : n ≤ 1048576) :
    Calls Tryd.prog 5 #[v] w fun e w' => ∃ (room : Int) (u : Value) (hs : List Pl.H) (k t : Int) (uz : Value) (zs : List Int), e = .returned (.tuple #[.agg #[.int .i64 room, u], .agg #[.int .i64 k, .int .i64 t, uz]]) ∧ hs.length ≤ 6 ∧ zs.length ≤ 4 ∧ Holds w' u hs ∧ Ints w' uz zs ∧ Below w.heap.size w w' := by
  obtain ⟨w0, hw0⟩ : ∃ W, Hid (W = (w.alloc (.cells #[.int .i64 0, .slice none 0 0] 25)).alloc (.cells #[.int .i64 0, .int .i64 0, .slice none 0 0] 28)) := ⟨_, rfl⟩
  have B0 : Hid (Below w.heap.size w w0) := by show Below _ _ _; rw [hw0.out]; exact below2 w _ _
  have hv0 := hide_it (hv.later B0.out (Nat.le_refl _))
  have HO := hide_it (open_any v n _ hv0.out hn)
  obtain ⟨ao, cap, rfl, _⟩ := hv
  have E1 : Hid (w0.heap[w.heap.size]? = some (.cells #[.int .i64 0, .slice none 0 0] 25 (0, 0))) := by show _ = _; rw [hw0.out]; exact rowS_later (heap_alloc_new _ _) (alloc_below _ _) (Nat.le_refl _)
  have E2 : Hid (w0.heap[w.heap.size + 1]? = some (.cells #[.int .i64 0, .int .i64 0, .slice none 0 0] 28 (0, 0))) := by
    show _ = _
    have := heap_alloc_new (w.alloc (.cells #[.int .i64 0, .slice none 0 0] 25)) (.cells #[.int .i64 0, .int .i64 0, .slice none 0 0] 28)
    rw [World.size_alloc] at this
    rw [hw0.out]; exact this
  have Z0 : Hid (w0.heap.size = w.heap.size + 2) := by show _ = _; rw [hw0.out]; simp
  clear hv0
  go_enter Tryd.func5, Tryd.ntmps5
  go_wp2_with fail
  rw [← hw0.out]
  refine HO.out.mono ?_
  rintro e w1 ⟨rfl, hr1, hs1, hb1⟩
  obtain ⟨b, hbb⟩ : ∃ b, Hid (b = w0.heap.size) := ⟨_, rfl⟩
  rw [← hbb.out] at hr1 ⊢
  have Zb : Hid (b = w.heap.size + 2) := by show _ = _; rw [hbb.out, Z0.out]
  have R1 := hide_it hr1
  have Z1 : Hid (w1.heap.size = b + 1) := by show _ = _; rw [hs1, hbb.out]
  have B1 := hide_it (B0.out.trans (hb1.mono B0.out.size))
  have E11 := hide_it (rowS_later E1.out hb1 (Nat.le_refl _))
  have E12 := hide_it (rowS_later E2.out hb1 (Nat.le_refl _))
  clear hr1 hb1 hs1 HO
  go_wp2_with fail
  refine (stock_draw b 0 _ R1.out (by omega)).mono ?_
  rintro e w2 ⟨room, u, hs, q, rfl, lr, ur, hl, hH, hown, hq, hr2, m2⟩
  obtain ⟨au, cu, hus⟩ := hH.shape
  subst hus
  obtain ⟨S, hS⟩ : ∃ S, Hid (S = w2.heap.size) := ⟨_, rfl⟩
  obtain ⟨w3, hw3⟩ : ∃ W, Hid (W = w2.alloc (.cells #[.int .i64 room, .slice au hs.length cu] 25)) := ⟨_, rfl⟩
  have al3 : Hid (Below w2.heap.size w2 w3) := by show Below _ _ _; rw [hw3.out]; exact alloc_below _ _
  have R3 := hide_it (hr2.later al3.out (Nat.le_refl _))
  have E31 := hide_it (rowS_later (keepR R1.out m2 E11.out (by decide)) al3.out (Nat.le_refl _))
  have E32 := hide_it (rowS_later (keepR R1.out m2 E12.out (by decide)) al3.out (Nat.le_refl _))
  have ES3 : Hid (w3.heap[S]? = some (.cells #[.int .i64 room, .slice au hs.length cu] 25 (0, 0))) := by show _ = _; rw [hw3.out, hS.out]; exact heap_alloc_new _ _
  have H3 := hide_it (hH.later al3.out (Nat.le_refl _))
  have B3 := hide_it ((B1.out.trans (m2.below (B := w.heap.size) (by rw [Zb.out]; omega) B1.out.size)).trans (al3.out.mono (by have := m2.size; have := B1.out.size; omega)))
  have hOw : Hid (∀ g, (Value.slice au hs.length cu).ownBlock = some g → b < g ∧ g < S) := fun g hg => by
    obtain ⟨h1, h2⟩ := hown g hg
    rw [Z1.out] at h1
    rw [hS.out]; omega
  have hbS : b < S := by rw [hS.out]; exact hr2.lt
  have hS3 : S < w3.heap.size := heap_lt ES3.out
  have hHl := hide_it hl
  clear hr2 m2 hH hown al3 E1 E2 E11 E12 R1
  go_wp2_with fail
  rw [← hw3.out, ← hS.out]
  refine (pick_any b q 3 _ R3.out (by omega) (by omega) (by omega)).mono ?_
  rintro e w4 ⟨k0, rfl, lk, uk, r4, m4⟩
  have R4 := hide_it r4
  have M4 := hide_it m4
  clear r4 m4
  go_wp2_with fail
  refine (pick_any b (q + 1) 6 _ R4.out (by omega) (by omega) (by omega)).mono ?_
  rintro e w5 ⟨t0, rfl, lt, ut, r5, m5⟩
  have m35 := M4.out.trans m5
  obtain ⟨Z, hZ⟩ : ∃ Z, Hid (Z = w5.heap.size) := ⟨_, rfl⟩
  have hb5 : S < Z := by rw [hZ.out]; have := m35.size; omega
  have MK : Hid (∀ k : Int, StRM w ((w5.alloc (.cells #[] 3)).alloc (.cells #[.int .i64 k, .int .i64 (1 + t0), .slice (some ⟨Z, 0, none⟩) 0 0] 28)) b (q + 2) S (Z + 1) room (.slice au hs.length cu) hs k (1 + t0) (.slice (some ⟨Z, 0, none⟩) 0 0) []) := fun k => by
    have al := below2 w5 (.cells #[] 3) (.cells #[.int .i64 k, .int .i64 (1 + t0), .slice (some ⟨Z, 0, none⟩) 0 0] 28)
    have hrow := heap_alloc_new (w5.alloc (.cells #[] 3)) (.cells #[.int .i64 k, .int .i64 (1 + t0), .slice (some ⟨Z, 0, none⟩) 0 0] 28)
    rw [World.size_alloc, ← hZ.out] at hrow
    have hF := (fresh0 w5 w.heap.size (by have := B3.out.size; have := m35.size; omega)).later (alloc_below _ (.cells #[.int .i64 k, .int .i64 (1 + t0), .slice (some ⟨Z, 0, none⟩) 0 0] 28)) (Nat.le_refl _)
    rw [← hZ.out] at hF
    refine ⟨⟨_, _, rowS_later (keepR R3.out m35 E31.out (by decide)) al (Nat.le_refl _)⟩, ⟨_, _, _, rowS_later (keepR R3.out m35 E32.out (by decide)) al (Nat.le_refl _)⟩, rowS_later (keepR R3.out m35 ES3.out (by decide)) al (Nat.le_refl _), hrow, hbS, by omega, ?_, fun g hg => ?_, ⟨_, hF⟩, r5.later al (Nat.le_refl _), by rw [Zb.out]; omega, ?_⟩
    · refine Holds.later (H3.out.keep (w' := w5) fun g hg => ?_) al (Nat.le_refl _)
      obtain ⟨h1, h2⟩ := hOw.out g hg
      exact m35.block g (by omega) (Or.inr (by omega))
    · obtain ⟨h1, h2⟩ := hOw.out g hg; omega
    · exact (B3.out.trans (m35.below (B := w.heap.size) (by rw [Zb.out]; omega) B3.out.size)).trans (al.mono (by have := m35.size; have := B3.out.size; omega))
  clear m5 m35 r5 R3 R4 M4 E31 E32 ES3 H3 B3 hw3
  by_cases hk0 : k0 = 0
  · subst hk0
    obtain ⟨w6, hw6⟩ : ∃ W, Hid (W = (w5.alloc (.cells #[] 3)).alloc (.cells #[.int .i64 1, .int .i64 (1 + t0), .slice (some ⟨Z, 0, none⟩) 0 0] 28)) := ⟨_, rfl⟩
    have M6 := hide_it (MK.out 1)
    rw [← hw6.out] at M6
    go_wp2_with fail
    rw [← hZ.out, ← hw6.out]
    refine (pick_any b (q + 2) 2 _ M6.out.rd (by omega) (by omega) (by omega)).mono ?_
    rintro e w7 ⟨z, rfl, lz, uz, r7, m7⟩
    have M7 := hide_it (M6.out.step m7 r7)
    obtain ⟨Y, hY⟩ : ∃ Y, Hid (Y = w7.heap.size) := ⟨_, rfl⟩
    have hl7 := M7.out.cells.2.1.2.2.2
    have M8 : Hid (StRM w ((w7.setCell ⟨Z + 1, 2, none⟩ (.slice (some ⟨Y, 0, none⟩) 1 1)).alloc (.cells #[.int .i64 (1 + z)] 3)) b (q + 3) S (Z + 1) room (.slice au hs.length cu) hs 1 (1 + t0) (.slice (some ⟨Y, 0, none⟩) 1 1) [1 + z]) := by
      show StRM _ _ _ _ _ _ _ _ _ _ _ _ _
      rw [← World.setCell_alloc_past _ _ _ _ hl7]
      have hF := fresh1 w7 w.heap.size (1 + z) (M7.out.low.size)
      rw [← hY.out] at hF
      exact (M7.out.later (alloc_below _ _)).setX (zs' := [1 + z]) _ rfl ⟨_, hF⟩
    obtain ⟨⟨s0, s1, sl⟩, ⟨x0, x1, x2, xl⟩, ⟨xf0, xf1, xf2⟩⟩ := M7.out.cells
    have hSX : S ≠ Z + 1 := by omega
    have MV : ∃ (K : Int) (UZ : Value) (ZS : List Int) (qq : Nat), Hid (StRM w ((w7.setCell ⟨Z + 1, 2, none⟩ (.slice (some ⟨Y, 0, none⟩) 1 1)).alloc (.cells #[.int .i64 (1 + z)] 3)) b qq S (Z + 1) room (.slice au hs.length cu) hs K (1 + t0) UZ ZS) ∧ qq ≤ q + 3 ∧ ZS.length ≤ 1 := ⟨_, _, _, _, M8, by omega, by simp⟩
    clear r7 m7 M6 MK hw6 M8 M7
    go_wp2_with fail
    rw [← hY.out]
    clear s0 s1 sl x0 x1 x2 xl xf0 xf1 xf2
    obtain ⟨K, UZ, ZS, qq, MV', hqq, hZS⟩ := MV
    obtain ⟨ac, cc, hUZ⟩ : ∃ ac cc, UZ = .slice ac ZS.length cc := by obtain ⟨cap, g, off, cs, h, _⟩ := MV'.out.num; exact ⟨_, _, h⟩
    subst hUZ
    go_loopw [7] (fun i W => ∃ (j q2 : Nat) (t : Int), i = .int .i64 j ∧ j ≤ 6 ∧ q2 ≤ qq + 2 * j ∧ Hid (StRM w W b q2 S (Z + 1) room (.slice au hs.length cu) hs K t (.slice ac ZS.length cc) ZS)) (fun i _ => 6 - (intOf i).toNat)
    case atStart => exact ⟨0, qq, 1 + t0, rfl, by omega, by omega, MV'⟩
    case round =>
      obtain ⟨j, q2, t, rfl, hj6, hq2, MR⟩ := hrel
      by_cases hj : j < 6
      · go_wp2_with fail
        refine (pick_any b q2 8 _ MR.out.rd (by omega) (by omega) (by omega)).mono ?_
        rintro e w10 ⟨y, rfl, ly, uy, r10, m10⟩
        have M10 := hide_it (MR.out.step m10 r10)
        clear r10 m10 MR
        by_cases hy : 0 < y
        · obtain ⟨⟨s0, s1, sl⟩, ⟨x0, x1, x2, xl⟩, ⟨xf0, xf1, xf2⟩⟩ := M10.out.cells
          have HMY := hide_it (specMay_any room (.slice au hs.length cu) hs K t (.slice ac ZS.length cc) ZS w10 M10.out.hol (by omega) (by obtain ⟨cap, hf⟩ := M10.out.num; exact hf.ints) (by omega))
          obtain ⟨BB, hBB⟩ : ∃ x, Hid (Pl.sMay room hs K t ZS = x) := ⟨_, rfl⟩
          rw [hBB.out] at HMY
          go_wp2_with fail
          refine HMY.out.mono ?_
          rintro e w11 ⟨rfl, hb11⟩
          have M11 := hide_it (M10.out.later hb11)
          clear hb11 s0 s1 sl x0 x1 x2 xl xf0 xf1 xf2 HMY hBB M10
          cases BB
          · go_wp2_with fail
            refine (pick_any b (q2 + 1) 6 _ M11.out.rd (by omega) (by omega) (by omega)).mono ?_
            rintro e w12 ⟨x, rfl, lx, ux, r12, m12⟩
            have M12 := hide_it (M11.out.step m12 r12)
            obtain ⟨⟨s0, s1, sl⟩, ⟨x0, x1, x2, xl⟩, ⟨xf0, xf1, xf2⟩⟩ := M12.out.cells
            have M13 := hide_it (M12.out.setX (i := 1) (.int .i64 (1 + x)) rfl M12.out.num)
            clear r12 m12 M11
            go_wp2_with fail
            go_roundw
            case rel => exact ⟨j + 1, q2 + 1 + 1, 1 + x, by go_num, by omega, by omega, M13⟩
            case measure => simp [intOf]; omega
          · go_wp2_with fail
            refine (pick_any b (q2 + 1) 12 _ M11.out.rd (by omega) (by omega) (by omega)).mono ?_
            rintro e w20 ⟨y2, rfl, ly2, uy2, r20, m20⟩
            have M20 := hide_it (M11.out.step m20 r20)
            clear r20 m20
            by_cases hy2 : y2 = 0
            · subst hy2
              go_wp2_with fail
              refine (rec_draw b (q2 + 1 + 1) _ M20.out.rd (by omega)).mono ?_
              rintro e w21 ⟨k1, t1, u1, zs1, q1, cap1, rfl, hz1, hF1, hqa, hqb, r21, m21⟩
              have M21 := hide_it (M20.out.step m21 r21)
              have F21 := hide_it (hF1.mono (show w.heap.size ≤ w20.heap.size from M20.out.low.size))
              obtain ⟨g1, off1, hu1⟩ : ∃ g off, u1 = .slice (some ⟨g, off, none⟩) zs1.length cap1 := by obtain ⟨g, off, cs, h, _⟩ := hF1; exact ⟨g, off, h⟩
              subst hu1
              obtain ⟨⟨s0, s1, sl⟩, ⟨x0, x1, x2, xl⟩, ⟨xf0, xf1, xf2⟩⟩ := M21.out.cells
              obtain ⟨w22, hw22⟩ : ∃ W, Hid (W = ((w21.setCell ⟨Z + 1, 0, none⟩ (.int .i64 k1)).setCell ⟨Z + 1, 1, none⟩ (.int .i64 t1)).setCell ⟨Z + 1, 2, none⟩ (.slice (some ⟨g1, off1, none⟩) zs1.length cap1)) := ⟨_, rfl⟩
              have M22 : Hid (StRM w w22 b q1 S (Z + 1) room (.slice au hs.length cu) hs k1 t1 (.slice (some ⟨g1, off1, none⟩) zs1.length cap1) zs1) := by
                show StRM _ _ _ _ _ _ _ _ _ _ _ _ _
                rw [hw22.out]
                have a1 := M21.out.setX (i := 0) (.int .i64 k1) rfl M21.out.num
                have a2 := a1.setX (i := 1) (.int .i64 t1) rfl a1.num
                exact a2.setX (i := 2) _ rfl ⟨cap1, (F21.out.set M21.out.row (by decide) _).set a1.row (by decide) _⟩
              clear r21 m21 hF1
              go_wp2_with fail
              rw [← hw22.out]
              clear s0 s1 sl x0 x1 x2 xl xf0 xf1 xf2
              obtain ⟨⟨s0, s1, sl⟩, ⟨x0, x1, x2, xl⟩, -⟩ := M22.out.cells
              obtain ⟨⟨ra, rc, p0, p1⟩, ⟨pf0, pf1⟩, ⟨r0, r1, r2, v0, v1, v2⟩, ⟨vf0, vf1, vf2⟩⟩ := M22.out.cellsR
              have hlb := M22.out.ltb
              have hn1 : w.heap.size ≠ S := by omega
              have hn2 : w.heap.size ≠ Z + 1 := by omega
              have hn3 : w.heap.size + 1 ≠ S := by omega
              have hn4 : ¬ w.heap.size = Z := by omega
              have hn5 : w.heap.size + 1 ≠ Z + 1 := by omega
              refine wp_region_held_drew (S := (fun w' => (w'.cell? ⟨S, 0, none⟩ = some (.int .i64 room) ∧ w'.cell? ⟨S, 1, none⟩ = some (.slice au hs.length cu)) ∧ w'.cell? ⟨Z + 1, 0, none⟩ = some (.int .i64 (k1)) ∧ w'.cell? ⟨Z + 1, 1, none⟩ = some (.int .i64 (t1)) ∧ w'.cell? ⟨Z + 1, 2, none⟩ = some (.slice (some ⟨g1, off1, none⟩) zs1.length cap1))) (by kernel_rfl) ⟨⟨s0, s1⟩, x0, x1, x2⟩ (fun hHeld => ?_)
              refine takeD (i := 0) (v := .agg #[.int .i64 room, (.slice au hs.length cu)]) (some 52) rfl rfl (by kernel_rfl) (by kernel_rfl) (by kernel_rfl) (fun _ _ _ h => h) (by rfl) hHeld ?_ ?_
              · intro W hSw
                obtain ⟨⟨e0, e1⟩, e2, e3, e4⟩ := hSw
                go_simp
              try simp only [Act.put]
              try simp only [List.setIfInBounds_toArray]
              try simp only [List.set_cons_succ]
              try simp only [List.set_cons_zero]
              refine takeD (i := 1) (v := .agg #[.int .i64 (k1), .int .i64 (t1), .slice (some ⟨g1, off1, none⟩) zs1.length cap1]) (some 53) rfl rfl (by kernel_rfl) (by kernel_rfl) (by kernel_rfl) (fun _ _ _ h => h) (by rfl) hHeld ?_ ?_
              · intro W hSw
                obtain ⟨⟨e0, e1⟩, e2, e3, e4⟩ := hSw
                go_simp
              try simp only [Act.put]
              try simp only [List.setIfInBounds_toArray]
              try simp only [List.set_cons_succ]
              try simp only [List.set_cons_zero]
              refine wpAnyH_ready (rs := [2]) (by kernel_rfl) (by simp) ?_
              refine AllReadyH.cons rfl (fun K1 hK1 => ?_) AllReadyH.nil
              go_simp
              refine hK1.out _ _ ?_ (fun hHeld => ?_)
              · exact ⟨⟨farD (farS (farS s0 hn1 _) hn1 _), farD (farS (farS s1 hn1 _) hn1 _)⟩, farD (farS (farS x0 hn2 _) hn2 _), farD (farS (farS x1 hn2 _) hn2 _), farD (farS (farS x2 hn2 _) hn2 _)⟩
              clear hK1 K1
              refine wpAnyH_ready (rs := [3]) (by kernel_rfl) (by simp) ?_
              refine AllReadyH.cons rfl (fun K1 hK1 => ?_) AllReadyH.nil
              go_simp
              refine hK1.out _ _ ?_ (fun hHeld => ?_)
              · exact ⟨⟨farD (farS (farS (farS (farS (farS s0 hn1 _) hn1 _) hn3 _) hn3 _) hn3 _), farD (farS (farS (farS (farS (farS s1 hn1 _) hn1 _) hn3 _) hn3 _) hn3 _)⟩, farD (farS (farS (farS (farS (farS x0 hn2 _) hn2 _) hn5 _) hn5 _) hn5 _), farD (farS (farS (farS (farS (farS x1 hn2 _) hn2 _) hn5 _) hn5 _) hn5 _), farD (farS (farS (farS (farS (farS x2 hn2 _) hn2 _) hn5 _) hn5 _) hn5 _)⟩
              clear hK1 K1
              refine wpAnyH_done (by kernel_rfl) ?_ _
              clear hHeld s0 s1 x0 x1 x2
              go_wp2
              exact bodyPost_ret (v := .tuple #[.agg #[.int .i64 room, (.slice au hs.length cu)], .agg #[.int .i64 (k1), .int .i64 (t1), .slice (some ⟨g1, off1, none⟩) zs1.length cap1]]) (by simp [results, Tryd.results5, go_sem, p0, p1, v0, v1, v2]) rfl ⟨room, _, hs, (k1), (t1), _, zs1, rfl, by omega, by omega, M22.out.doneD _ _ _ _ _⟩
            · obtain ⟨⟨s0, s1, sl⟩, ⟨x0, x1, x2, xl⟩, -⟩ := M20.out.cells
              obtain ⟨⟨ra, rc, p0, p1⟩, ⟨pf0, pf1⟩, ⟨r0, r1, r2, v0, v1, v2⟩, ⟨vf0, vf1, vf2⟩⟩ := M20.out.cellsR
              have hlb := M20.out.ltb
              have hn1 : w.heap.size ≠ S := by omega
              have hn2 : w.heap.size ≠ Z + 1 := by omega
              have hn3 : w.heap.size + 1 ≠ S := by omega
              have hn4 : ¬ w.heap.size = Z := by omega
              have hn5 : w.heap.size + 1 ≠ Z + 1 := by omega
              go_wp2_with fail
              refine wp_region_held_drew (S := (fun w' => (w'.cell? ⟨S, 0, none⟩ = some (.int .i64 room) ∧ w'.cell? ⟨S, 1, none⟩ = some (.slice au hs.length cu)) ∧ w'.cell? ⟨Z + 1, 0, none⟩ = some (.int .i64 (K)) ∧ w'.cell? ⟨Z + 1, 1, none⟩ = some (.int .i64 (t)) ∧ w'.cell? ⟨Z + 1, 2, none⟩ = some (.slice ac ZS.length cc))) (by kernel_rfl) ⟨⟨s0, s1⟩, x0, x1, x2⟩ (fun hHeld => ?_)
              refine takeD (i := 0) (v := .agg #[.int .i64 room, (.slice au hs.length cu)]) (some 52) rfl rfl (by kernel_rfl) (by kernel_rfl) (by kernel_rfl) (fun _ _ _ h => h) (by rfl) hHeld ?_ ?_
              · intro W hSw
                obtain ⟨⟨e0, e1⟩, e2, e3, e4⟩ := hSw
                go_simp
              try simp only [Act.put]
              try simp only [List.setIfInBounds_toArray]
              try simp only [List.set_cons_succ]
              try simp only [List.set_cons_zero]
              refine takeD (i := 1) (v := .agg #[.int .i64 (K), .int .i64 (t), .slice ac ZS.length cc]) (some 53) rfl rfl (by kernel_rfl) (by kernel_rfl) (by kernel_rfl) (fun _ _ _ h => h) (by rfl) hHeld ?_ ?_
              · intro W hSw
                obtain ⟨⟨e0, e1⟩, e2, e3, e4⟩ := hSw
                go_simp
              try simp only [Act.put]
              try simp only [List.setIfInBounds_toArray]
              try simp only [List.set_cons_succ]
              try simp only [List.set_cons_zero]
              refine wpAnyH_ready (rs := [2]) (by kernel_rfl) (by simp) ?_
              refine AllReadyH.cons rfl (fun K1 hK1 => ?_) AllReadyH.nil
              go_simp
              refine hK1.out _ _ ?_ (fun hHeld => ?_)
              · exact ⟨⟨farD (farS (farS s0 hn1 _) hn1 _), farD (farS (farS s1 hn1 _) hn1 _)⟩, farD (farS (farS x0 hn2 _) hn2 _), farD (farS (farS x1 hn2 _) hn2 _), farD (farS (farS x2 hn2 _) hn2 _)⟩
              clear hK1 K1
              refine wpAnyH_ready (rs := [3]) (by kernel_rfl) (by simp) ?_
              refine AllReadyH.cons rfl (fun K1 hK1 => ?_) AllReadyH.nil
              go_simp
              refine hK1.out _ _ ?_ (fun hHeld => ?_)
              · exact ⟨⟨farD (farS (farS (farS (farS (farS s0 hn1 _) hn1 _) hn3 _) hn3 _) hn3 _), farD (farS (farS (farS (farS (farS s1 hn1 _) hn1 _) hn3 _) hn3 _) hn3 _)⟩, farD (farS (farS (farS (farS (farS x0 hn2 _) hn2 _) hn5 _) hn5 _) hn5 _), farD (farS (farS (farS (farS (farS x1 hn2 _) hn2 _) hn5 _) hn5 _) hn5 _), farD (farS (farS (farS (farS (farS x2 hn2 _) hn2 _) hn5 _) hn5 _) hn5 _)⟩
              clear hK1 K1
              refine wpAnyH_done (by kernel_rfl) ?_ _
              clear hHeld s0 s1 x0 x1 x2
              go_wp2
              exact bodyPost_ret (v := .tuple #[.agg #[.int .i64 room, (.slice au hs.length cu)], .agg #[.int .i64 (K), .int .i64 (t), .slice ac ZS.length cc]]) (by simp [results, Tryd.results5, go_sem, p0, p1, v0, v1, v2]) rfl ⟨room, _, hs, (K), (t), _, ZS, rfl, by omega, by omega, M20.out.doneD _ _ _ _ _⟩
        · go_wp2_with fail
          refine (pick_any b (q2 + 1) 12 _ M10.out.rd (by omega) (by omega) (by omega)).mono ?_
          rintro e w20 ⟨y2, rfl, ly2, uy2, r20, m20⟩
          have M20 := hide_it (M10.out.step m20 r20)
          clear r20 m20
          by_cases hy2 : y2 = 0
          · subst hy2
            go_wp2_with fail
            refine (rec_draw b (q2 + 1 + 1) _ M20.out.rd (by omega)).mono ?_
            rintro e w21 ⟨k1, t1, u1, zs1, q1, cap1, rfl, hz1, hF1, hqa, hqb, r21, m21⟩
            have M21 := hide_it (M20.out.step m21 r21)
            have F21 := hide_it (hF1.mono (show w.heap.size ≤ w20.heap.size from M20.out.low.size))
            obtain ⟨g1, off1, hu1⟩ : ∃ g off, u1 = .slice (some ⟨g, off, none⟩) zs1.length cap1 := by obtain ⟨g, off, cs, h, _⟩ := hF1; exact ⟨g, off, h⟩
            subst hu1
            obtain ⟨⟨s0, s1, sl⟩, ⟨x0, x1, x2, xl⟩, ⟨xf0, xf1, xf2⟩⟩ := M21.out.cells
            obtain ⟨w22, hw22⟩ : ∃ W, Hid (W = ((w21.setCell ⟨Z + 1, 0, none⟩ (.int .i64 k1)).setCell ⟨Z + 1, 1, none⟩ (.int .i64 t1)).setCell ⟨Z + 1, 2, none⟩ (.slice (some ⟨g1, off1, none⟩) zs1.length cap1)) := ⟨_, rfl⟩
            have M22 : Hid (StRM w w22 b q1 S (Z + 1) room (.slice au hs.length cu) hs k1 t1 (.slice (some ⟨g1, off1, none⟩) zs1.length cap1) zs1) := by
              show StRM _ _ _ _ _ _ _ _ _ _ _ _ _
              rw [hw22.out]
              have a1 := M21.out.setX (i := 0) (.int .i64 k1) rfl M21.out.num
              have a2 := a1.setX (i := 1) (.int .i64 t1) rfl a1.num
              exact a2.setX (i := 2) _ rfl ⟨cap1, (F21.out.set M21.out.row (by decide) _).set a1.row (by decide) _⟩
            clear r21 m21 hF1
            go_wp2_with fail
            rw [← hw22.out]
            clear s0 s1 sl x0 x1 x2 xl xf0 xf1 xf2
            obtain ⟨⟨s0, s1, sl⟩, ⟨x0, x1, x2, xl⟩, -⟩ := M22.out.cells
            obtain ⟨⟨ra, rc, p0, p1⟩, ⟨pf0, pf1⟩, ⟨r0, r1, r2, v0, v1, v2⟩, ⟨vf0, vf1, vf2⟩⟩ := M22.out.cellsR
            have hlb := M22.out.ltb
            have hn1 : w.heap.size ≠ S := by omega
            have hn2 : w.heap.size ≠ Z + 1 := by omega
            have hn3 : w.heap.size + 1 ≠ S := by omega
            have hn4 : ¬ w.heap.size = Z := by omega
            have hn5 : w.heap.size + 1 ≠ Z + 1 := by omega
            refine wp_region_held_drew (S := (fun w' => (w'.cell? ⟨S, 0, none⟩ = some (.int .i64 room) ∧ w'.cell? ⟨S, 1, none⟩ = some (.slice au hs.length cu)) ∧ w'.cell? ⟨Z + 1, 0, none⟩ = some (.int .i64 (k1)) ∧ w'.cell? ⟨Z + 1, 1, none⟩ = some (.int .i64 (t1)) ∧ w'.cell? ⟨Z + 1, 2, none⟩ = some (.slice (some ⟨g1, off1, none⟩) zs1.length cap1))) (by kernel_rfl) ⟨⟨s0, s1⟩, x0, x1, x2⟩ (fun hHeld => ?_)
            refine takeD (i := 0) (v := .agg #[.int .i64 room, (.slice au hs.length cu)]) (some 52) rfl rfl (by kernel_rfl) (by kernel_rfl) (by kernel_rfl) (fun _ _ _ h => h) (by rfl) hHeld ?_ ?_
            · intro W hSw
              obtain ⟨⟨e0, e1⟩, e2, e3, e4⟩ := hSw
              go_simp
            try simp only [Act.put]
            try simp only [List.setIfInBounds_toArray]
            try simp only [List.set_cons_succ]
            try simp only [List.set_cons_zero]
            refine takeD (i := 1) (v := .agg #[.int .i64 (k1), .int .i64 (t1), .slice (some ⟨g1, off1, none⟩) zs1.length cap1]) (some 53) rfl rfl (by kernel_rfl) (by kernel_rfl) (by kernel_rfl) (fun _ _ _ h => h) (by rfl) hHeld ?_ ?_
            · intro W hSw
              obtain ⟨⟨e0, e1⟩, e2, e3, e4⟩ := hSw
              go_simp
            try simp only [Act.put]
            try simp only [List.setIfInBounds_toArray]
            try simp only [List.set_cons_succ]
            try simp only [List.set_cons_zero]
            refine wpAnyH_ready (rs := [2]) (by kernel_rfl) (by simp) ?_
            refine AllReadyH.cons rfl (fun K1 hK1 => ?_) AllReadyH.nil
            go_simp
            refine hK1.out _ _ ?_ (fun hHeld => ?_)
            · exact ⟨⟨farD (farS (farS s0 hn1 _) hn1 _), farD (farS (farS s1 hn1 _) hn1 _)⟩, farD (farS (farS x0 hn2 _) hn2 _), farD (farS (farS x1 hn2 _) hn2 _), farD (farS (farS x2 hn2 _) hn2 _)⟩
            clear hK1 K1
            refine wpAnyH_ready (rs := [3]) (by kernel_rfl) (by simp) ?_
            refine AllReadyH.cons rfl (fun K1 hK1 => ?_) AllReadyH.nil
            go_simp
            refine hK1.out _ _ ?_ (fun hHeld => ?_)
            · exact ⟨⟨farD (farS (farS (farS (farS (farS s0 hn1 _) hn1 _) hn3 _) hn3 _) hn3 _), farD (farS (farS (farS (farS (farS s1 hn1 _) hn1 _) hn3 _) hn3 _) hn3 _)⟩, farD (farS (farS (farS (farS (farS x0 hn2 _) hn2 _) hn5 _) hn5 _) hn5 _), farD (farS (farS (farS (farS (farS x1 hn2 _) hn2 _) hn5 _) hn5 _) hn5 _), farD (farS (farS (farS (farS (farS x2 hn2 _) hn2 _) hn5 _) hn5 _) hn5 _)⟩
            clear hK1 K1
            refine wpAnyH_done (by kernel_rfl) ?_ _
            clear hHeld s0 s1 x0 x1 x2
            go_wp2
            exact bodyPost_ret (v := .tuple #[.agg #[.int .i64 room, (.slice au hs.length cu)], .agg #[.int .i64 (k1), .int .i64 (t1), .slice (some ⟨g1, off1, none⟩) zs1.length cap1]]) (by simp [results, Tryd.results5, go_sem, p0, p1, v0, v1, v2]) rfl ⟨room, _, hs, (k1), (t1), _, zs1, rfl, by omega, by omega, M22.out.doneD _ _ _ _ _⟩
          · obtain ⟨⟨s0, s1, sl⟩, ⟨x0, x1, x2, xl⟩, -⟩ := M20.out.cells
            obtain ⟨⟨ra, rc, p0, p1⟩, ⟨pf0, pf1⟩, ⟨r0, r1, r2, v0, v1, v2⟩, ⟨vf0, vf1, vf2⟩⟩ := M20.out.cellsR
            have hlb := M20.out.ltb
            have hn1 : w.heap.size ≠ S := by omega
            have hn2 : w.heap.size ≠ Z + 1 := by omega
            have hn3 : w.heap.size + 1 ≠ S := by omega
            have hn4 : ¬ w.heap.size = Z := by omega
            have hn5 : w.heap.size + 1 ≠ Z + 1 := by omega
            go_wp2_with fail
            refine wp_region_held_drew (S := (fun w' => (w'.cell? ⟨S, 0, none⟩ = some (.int .i64 room) ∧ w'.cell? ⟨S, 1, none⟩ = some (.slice au hs.length cu)) ∧ w'.cell? ⟨Z + 1, 0, none⟩ = some (.int .i64 (K)) ∧ w'.cell? ⟨Z + 1, 1, none⟩ = some (.int .i64 (t)) ∧ w'.cell? ⟨Z + 1, 2, none⟩ = some (.slice ac ZS.length cc))) (by kernel_rfl) ⟨⟨s0, s1⟩, x0, x1, x2⟩ (fun hHeld => ?_)
            refine takeD (i := 0) (v := .agg #[.int .i64 room, (.slice au hs.length cu)]) (some 52) rfl rfl (by kernel_rfl) (by kernel_rfl) (by kernel_rfl) (fun _ _ _ h => h) (by rfl) hHeld ?_ ?_
            · intro W hSw
              obtain ⟨⟨e0, e1⟩, e2, e3, e4⟩ := hSw
              go_simp
            try simp only [Act.put]
            try simp only [List.setIfInBounds_toArray]
            try simp only [List.set_cons_succ]
            try simp only [List.set_cons_zero]
            refine takeD (i := 1) (v := .agg #[.int .i64 (K), .int .i64 (t), .slice ac ZS.length cc]) (some 53) rfl rfl (by kernel_rfl) (by kernel_rfl) (by kernel_rfl) (fun _ _ _ h => h) (by rfl) hHeld ?_ ?_
            · intro W hSw
              obtain ⟨⟨e0, e1⟩, e2, e3, e4⟩ := hSw
              go_simp
            try simp only [Act.put]
            try simp only [List.setIfInBounds_toArray]
            try simp only [List.set_cons_succ]
            try simp only [List.set_cons_zero]
            refine wpAnyH_ready (rs := [2]) (by kernel_rfl) (by simp) ?_
            refine AllReadyH.cons rfl (fun K1 hK1 => ?_) AllReadyH.nil
            go_simp
            refine hK1.out _ _ ?_ (fun hHeld => ?_)
            · exact ⟨⟨farD (farS (farS s0 hn1 _) hn1 _), farD (farS (farS s1 hn1 _) hn1 _)⟩, farD (farS (farS x0 hn2 _) hn2 _), farD (farS (farS x1 hn2 _) hn2 _), farD (farS (farS x2 hn2 _) hn2 _)⟩
            clear hK1 K1
            refine wpAnyH_ready (rs := [3]) (by kernel_rfl) (by simp) ?_
            refine AllReadyH.cons rfl (fun K1 hK1 => ?_) AllReadyH.nil
            go_simp
            refine hK1.out _ _ ?_ (fun hHeld => ?_)
            · exact ⟨⟨farD (farS (farS (farS (farS (farS s0 hn1 _) hn1 _) hn3 _) hn3 _) hn3 _), farD (farS (farS (farS (farS (farS s1 hn1 _) hn1 _) hn3 _) hn3 _) hn3 _)⟩, farD (farS (farS (farS (farS (farS x0 hn2 _) hn2 _) hn5 _) hn5 _) hn5 _), farD (farS (farS (farS (farS (farS x1 hn2 _) hn2 _) hn5 _) hn5 _) hn5 _), farD (farS (farS (farS (farS (farS x2 hn2 _) hn2 _) hn5 _) hn5 _) hn5 _)⟩
            clear hK1 K1
            refine wpAnyH_done (by kernel_rfl) ?_ _
            clear hHeld s0 s1 x0 x1 x2
            go_wp2
            exact bodyPost_ret (v := .tuple #[.agg #[.int .i64 room, (.slice au hs.length cu)], .agg #[.int .i64 (K), .int .i64 (t), .slice ac ZS.length cc]]) (by simp [results, Tryd.results5, go_sem, p0, p1, v0, v1, v2]) rfl ⟨room, _, hs, (K), (t), _, ZS, rfl, by omega, by omega, M20.out.doneD _ _ _ _ _⟩
      · go_wp2_with fail
        refine (pick_any b (q2) 12 _ MR.out.rd (by omega) (by omega) (by omega)).mono ?_
        rintro e w20 ⟨y2, rfl, ly2, uy2, r20, m20⟩
        have M20 := hide_it (MR.out.step m20 r20)
        clear r20 m20
        by_cases hy2 : y2 = 0
        · subst hy2
          go_wp2_with fail
          refine (rec_draw b (q2 + 1) _ M20.out.rd (by omega)).mono ?_
          rintro e w21 ⟨k1, t1, u1, zs1, q1, cap1, rfl, hz1, hF1, hqa, hqb, r21, m21⟩
          have M21 := hide_it (M20.out.step m21 r21)
          have F21 := hide_it (hF1.mono (show w.heap.size ≤ w20.heap.size from M20.out.low.size))
          obtain ⟨g1, off1, hu1⟩ : ∃ g off, u1 = .slice (some ⟨g, off, none⟩) zs1.length cap1 := by obtain ⟨g, off, cs, h, _⟩ := hF1; exact ⟨g, off, h⟩
          subst hu1
          obtain ⟨⟨s0, s1, sl⟩, ⟨x0, x1, x2, xl⟩, ⟨xf0, xf1, xf2⟩⟩ := M21.out.cells
          obtain ⟨w22, hw22⟩ : ∃ W, Hid (W = ((w21.setCell ⟨Z + 1, 0, none⟩ (.int .i64 k1)).setCell ⟨Z + 1, 1, none⟩ (.int .i64 t1)).setCell ⟨Z + 1, 2, none⟩ (.slice (some ⟨g1, off1, none⟩) zs1.length cap1)) := ⟨_, rfl⟩
          have M22 : Hid (StRM w w22 b q1 S (Z + 1) room (.slice au hs.length cu) hs k1 t1 (.slice (some ⟨g1, off1, none⟩) zs1.length cap1) zs1) := by
            show StRM _ _ _ _ _ _ _ _ _ _ _ _ _
            rw [hw22.out]
            have a1 := M21.out.setX (i := 0) (.int .i64 k1) rfl M21.out.num
            have a2 := a1.setX (i := 1) (.int .i64 t1) rfl a1.num
            exact a2.setX (i := 2) _ rfl ⟨cap1, (F21.out.set M21.out.row (by decide) _).set a1.row (by decide) _⟩
          clear r21 m21 hF1
          go_wp2_with fail
          rw [← hw22.out]
          clear s0 s1 sl x0 x1 x2 xl xf0 xf1 xf2
          obtain ⟨⟨s0, s1, sl⟩, ⟨x0, x1, x2, xl⟩, -⟩ := M22.out.cells
          obtain ⟨⟨ra, rc, p0, p1⟩, ⟨pf0, pf1⟩, ⟨r0, r1, r2, v0, v1, v2⟩, ⟨vf0, vf1, vf2⟩⟩ := M22.out.cellsR
          have hlb := M22.out.ltb
          have hn1 : w.heap.size ≠ S := by omega
          have hn2 : w.heap.size ≠ Z + 1 := by omega
          have hn3 : w.heap.size + 1 ≠ S := by omega
          have hn4 : ¬ w.heap.size = Z := by omega
          have hn5 : w.heap.size + 1 ≠ Z + 1 := by omega
          refine wp_region_held_drew (S := (fun w' => (w'.cell? ⟨S, 0, none⟩ = some (.int .i64 room) ∧ w'.cell? ⟨S, 1, none⟩ = some (.slice au hs.length cu)) ∧ w'.cell? ⟨Z + 1, 0, none⟩ = some (.int .i64 (k1)) ∧ w'.cell? ⟨Z + 1, 1, none⟩ = some (.int .i64 (t1)) ∧ w'.cell? ⟨Z + 1, 2, none⟩ = some (.slice (some ⟨g1, off1, none⟩) zs1.length cap1))) (by kernel_rfl) ⟨⟨s0, s1⟩, x0, x1, x2⟩ (fun hHeld => ?_)
          refine takeD (i := 0) (v := .agg #[.int .i64 room, (.slice au hs.length cu)]) (some 52) rfl rfl (by kernel_rfl) (by kernel_rfl) (by kernel_rfl) (fun _ _ _ h => h) (by rfl) hHeld ?_ ?_
          · intro W hSw
            obtain ⟨⟨e0, e1⟩, e2, e3, e4⟩ := hSw
            go_simp
          try simp only [Act.put]
          try simp only [List.setIfInBounds_toArray]
          try simp only [List.set_cons_succ]
          try simp only [List.set_cons_zero]
          refine takeD (i := 1) (v := .agg #[.int .i64 (k1), .int .i64 (t1), .slice (some ⟨g1, off1, none⟩) zs1.length cap1]) (some 53) rfl rfl (by kernel_rfl) (by kernel_rfl) (by kernel_rfl) (fun _ _ _ h => h) (by rfl) hHeld ?_ ?_
          · intro W hSw
            obtain ⟨⟨e0, e1⟩, e2, e3, e4⟩ := hSw
            go_simp
          try simp only [Act.put]
          try simp only [List.setIfInBounds_toArray]
          try simp only [List.set_cons_succ]
          try simp only [List.set_cons_zero]
          refine wpAnyH_ready (rs := [2]) (by kernel_rfl) (by simp) ?_
          refine AllReadyH.cons rfl (fun K1 hK1 => ?_) AllReadyH.nil
          go_simp
          refine hK1.out _ _ ?_ (fun hHeld => ?_)
          · exact ⟨⟨farD (farS (farS s0 hn1 _) hn1 _), farD (farS (farS s1 hn1 _) hn1 _)⟩, farD (farS (farS x0 hn2 _) hn2 _), farD (farS (farS x1 hn2 _) hn2 _), farD (farS (farS x2 hn2 _) hn2 _)⟩
          clear hK1 K1
          refine wpAnyH_ready (rs := [3]) (by kernel_rfl) (by simp) ?_
          refine AllReadyH.cons rfl (fun K1 hK1 => ?_) AllReadyH.nil
          go_simp
          refine hK1.out _ _ ?_ (fun hHeld => ?_)
          · exact ⟨⟨farD (farS (farS (farS (farS (farS s0 hn1 _) hn1 _) hn3 _) hn3 _) hn3 _), farD (farS (farS (farS (farS (farS s1 hn1 _) hn1 _) hn3 _) hn3 _) hn3 _)⟩, farD (farS (farS (farS (farS (farS x0 hn2 _) hn2 _) hn5 _) hn5 _) hn5 _), farD (farS (farS (farS (farS (farS x1 hn2 _) hn2 _) hn5 _) hn5 _) hn5 _), farD (farS (farS (farS (farS (farS x2 hn2 _) hn2 _) hn5 _) hn5 _) hn5 _)⟩
          clear hK1 K1
          refine wpAnyH_done (by kernel_rfl) ?_ _
          clear hHeld s0 s1 x0 x1 x2
          go_wp2
          exact bodyPost_ret (v := .tuple #[.agg #[.int .i64 room, (.slice au hs.length cu)], .agg #[.int .i64 (k1), .int .i64 (t1), .slice (some ⟨g1, off1, none⟩) zs1.length cap1]]) (by simp [results, Tryd.results5, go_sem, p0, p1, v0, v1, v2]) rfl ⟨room, _, hs, (k1), (t1), _, zs1, rfl, by omega, by omega, M22.out.doneD _ _ _ _ _⟩
        · obtain ⟨⟨s0, s1, sl⟩, ⟨x0, x1, x2, xl⟩, -⟩ := M20.out.cells
          obtain ⟨⟨ra, rc, p0, p1⟩, ⟨pf0, pf1⟩, ⟨r0, r1, r2, v0, v1, v2⟩, ⟨vf0, vf1, vf2⟩⟩ := M20.out.cellsR
          have hlb := M20.out.ltb
          have hn1 : w.heap.size ≠ S := by omega
          have hn2 : w.heap.size ≠ Z + 1 := by omega
          have hn3 : w.heap.size + 1 ≠ S := by omega
          have hn4 : ¬ w.heap.size = Z := by omega
          have hn5 : w.heap.size + 1 ≠ Z + 1 := by omega
          go_wp2_with fail
          refine wp_region_held_drew (S := (fun w' => (w'.cell? ⟨S, 0, none⟩ = some (.int .i64 room) ∧ w'.cell? ⟨S, 1, none⟩ = some (.slice au hs.length cu)) ∧ w'.cell? ⟨Z + 1, 0, none⟩ = some (.int .i64 (K)) ∧ w'.cell? ⟨Z + 1, 1, none⟩ = some (.int .i64 (t)) ∧ w'.cell? ⟨Z + 1, 2, none⟩ = some (.slice ac ZS.length cc))) (by kernel_rfl) ⟨⟨s0, s1⟩, x0, x1, x2⟩ (fun hHeld => ?_)
          refine takeD (i := 0) (v := .agg #[.int .i64 room, (.slice au hs.length cu)]) (some 52) rfl rfl (by kernel_rfl) (by kernel_rfl) (by kernel_rfl) (fun _ _ _ h => h) (by rfl) hHeld ?_ ?_
          · intro W hSw
            obtain ⟨⟨e0, e1⟩, e2, e3, e4⟩ := hSw
            go_simp
          try simp only [Act.put]
          try simp only [List.setIfInBounds_toArray]
          try simp only [List.set_cons_succ]
          try simp only [List.set_cons_zero]
          refine takeD (i := 1) (v := .agg #[.int .i64 (K), .int .i64 (t), .slice ac ZS.length cc]) (some 53) rfl rfl (by kernel_rfl) (by kernel_rfl) (by kernel_rfl) (fun _ _ _ h => h) (by rfl) hHeld ?_ ?_
          · intro W hSw
            obtain ⟨⟨e0, e1⟩, e2, e3, e4⟩ := hSw
            go_simp
          try simp only [Act.put]
          try simp only [List.setIfInBounds_toArray]
          try simp only [List.set_cons_succ]
          try simp only [List.set_cons_zero]
          refine wpAnyH_ready (rs := [2]) (by kernel_rfl) (by simp) ?_
          refine AllReadyH.cons rfl (fun K1 hK1 => ?_) AllReadyH.nil
          go_simp
          refine hK1.out _ _ ?_ (fun hHeld => ?_)
          · exact ⟨⟨farD (farS (farS s0 hn1 _) hn1 _), farD (farS (farS s1 hn1 _) hn1 _)⟩, farD (farS (farS x0 hn2 _) hn2 _), farD (farS (farS x1 hn2 _) hn2 _), farD (farS (farS x2 hn2 _) hn2 _)⟩
          clear hK1 K1
          refine wpAnyH_ready (rs := [3]) (by kernel_rfl) (by simp) ?_
          refine AllReadyH.cons rfl (fun K1 hK1 => ?_) AllReadyH.nil
          go_simp
          refine hK1.out _ _ ?_ (fun hHeld => ?_)
          · exact ⟨⟨farD (farS (farS (farS (farS (farS s0 hn1 _) hn1 _) hn3 _) hn3 _) hn3 _), farD (farS (farS (farS (farS (farS s1 hn1 _) hn1 _) hn3 _) hn3 _) hn3 _)⟩, farD (farS (farS (farS (farS (farS x0 hn2 _) hn2 _) hn5 _) hn5 _) hn5 _), farD (farS (farS (farS (farS (farS x1 hn2 _) hn2 _) hn5 _) hn5 _) hn5 _), farD (farS (farS (farS (farS (farS x2 hn2 _) hn2 _) hn5 _) hn5 _) hn5 _)⟩
          clear hK1 K1
          refine wpAnyH_done (by kernel_rfl) ?_ _
          clear hHeld s0 s1 x0 x1 x2
          go_wp2
          exact bodyPost_ret (v := .tuple #[.agg #[.int .i64 room, (.slice au hs.length cu)], .agg #[.int .i64 (K), .int .i64 (t), .slice ac ZS.length cc]]) (by simp [results, Tryd.results5, go_sem, p0, p1, v0, v1, v2]) rfl ⟨room, _, hs, (K), (t), _, ZS, rfl, by omega, by omega, M20.out.doneD _ _ _ _ _⟩
  · have hk1 : ¬ (1 + k0 = 1) := by omega
    have MV : ∃ (K : Int) (UZ : Value) (ZS : List Int) (qq : Nat), Hid (StRM w ((w5.alloc (.cells #[] 3)).alloc (.cells #[.int .i64 (1 + k0), .int .i64 (1 + t0), .slice (some ⟨Z, 0, none⟩) 0 0] 28)) b qq S (Z + 1) room (.slice au hs.length cu) hs K (1 + t0) UZ ZS) ∧ qq ≤ q + 3 ∧ ZS.length ≤ 1 := ⟨_, _, _, _, hide_it (MK.out (1 + k0)), by omega, by simp⟩
    clear MK
    go_wp2_with fail
    rw [← hZ.out]
    have ek : (1 + k0 == 1) = false := by simpa using hk1
    rw [ek]
    clear hk1 hk0 ek
    obtain ⟨K, UZ, ZS, qq, MV', hqq, hZS⟩ := MV
    obtain ⟨ac, cc, hUZ⟩ : ∃ ac cc, UZ = .slice ac ZS.length cc := by obtain ⟨cap, g, off, cs, h, _⟩ := MV'.out.num; exact ⟨_, _, h⟩
    subst hUZ
    go_loopw [7] (fun i W => ∃ (j q2 : Nat) (t : Int), i = .int .i64 j ∧ j ≤ 6 ∧ q2 ≤ qq + 2 * j ∧ Hid (StRM w W b q2 S (Z + 1) room (.slice au hs.length cu) hs K t (.slice ac ZS.length cc) ZS)) (fun i _ => 6 - (intOf i).toNat)
    case atStart => exact ⟨0, qq, 1 + t0, rfl, by omega, by omega, MV'⟩
    case round =>
      obtain ⟨j, q2, t, rfl, hj6, hq2, MR⟩ := hrel
      by_cases hj : j < 6
      · go_wp2_with fail
        refine (pick_any b q2 8 _ MR.out.rd (by omega) (by omega) (by omega)).mono ?_
        rintro e w10 ⟨y, rfl, ly, uy, r10, m10⟩
        have M10 := hide_it (MR.out.step m10 r10)
        clear r10 m10 MR
        by_cases hy : 0 < y
        · obtain ⟨⟨s0, s1, sl⟩, ⟨x0, x1, x2, xl⟩, ⟨xf0, xf1, xf2⟩⟩ := M10.out.cells
          have HMY := hide_it (specMay_any room (.slice au hs.length cu) hs K t (.slice ac ZS.length cc) ZS w10 M10.out.hol (by omega) (by obtain ⟨cap, hf⟩ := M10.out.num; exact hf.ints) (by omega))
          obtain ⟨BB, hBB⟩ : ∃ x, Hid (Pl.sMay room hs K t ZS = x) := ⟨_, rfl⟩
          rw [hBB.out] at HMY
          go_wp2_with fail
          refine HMY.out.mono ?_
          rintro e w11 ⟨rfl, hb11⟩
          have M11 := hide_it (M10.out.later hb11)
          clear hb11 s0 s1 sl x0 x1 x2 xl xf0 xf1 xf2 HMY hBB M10
          cases BB
          · go_wp2_with fail
            refine (pick_any b (q2 + 1) 6 _ M11.out.rd (by omega) (by omega) (by omega)).mono ?_
            rintro e w12 ⟨x, rfl, lx, ux, r12, m12⟩
            have M12 := hide_it (M11.out.step m12 r12)
            obtain ⟨⟨s0, s1, sl⟩, ⟨x0, x1, x2, xl⟩, ⟨xf0, xf1, xf2⟩⟩ := M12.out.cells
            have M13 := hide_it (M12.out.setX (i := 1) (.int .i64 (1 + x)) rfl M12.out.num)
            clear r12 m12 M11
            go_wp2_with fail
            go_roundw
            case rel => exact ⟨j + 1, q2 + 1 + 1, 1 + x, by go_num, by omega, by omega, M13⟩
            case measure => simp [intOf]; omega
          · go_wp2_with fail
            refine (pick_any b (q2 + 1) 12 _ M11.out.rd (by omega) (by omega) (by omega)).mono ?_
            rintro e w20 ⟨y2, rfl, ly2, uy2, r20, m20⟩
            have M20 := hide_it (M11.out.step m20 r20)
            clear r20 m20
            by_cases hy2 : y2 = 0
            · subst hy2
              go_wp2_with fail
              refine (rec_draw b (q2 + 1 + 1) _ M20.out.rd (by omega)).mono ?_
              rintro e w21 ⟨k1, t1, u1, zs1, q1, cap1, rfl, hz1, hF1, hqa, hqb, r21, m21⟩
              have M21 := hide_it (M20.out.step m21 r21)
              have F21 := hide_it (hF1.mono (show w.heap.size ≤ w20.heap.size from M20.out.low.size))
              obtain ⟨g1, off1, hu1⟩ : ∃ g off, u1 = .slice (some ⟨g, off, none⟩) zs1.length cap1 := by obtain ⟨g, off, cs, h, _⟩ := hF1; exact ⟨g, off, h⟩
              subst hu1
              obtain ⟨⟨s0, s1, sl⟩, ⟨x0, x1, x2, xl⟩, ⟨xf0, xf1, xf2⟩⟩ := M21.out.cells
              obtain ⟨w22, hw22⟩ : ∃ W, Hid (W = ((w21.setCell ⟨Z + 1, 0, none⟩ (.int .i64 k1)).setCell ⟨Z + 1, 1, none⟩ (.int .i64 t1)).setCell ⟨Z + 1, 2, none⟩ (.slice (some ⟨g1, off1, none⟩) zs1.length cap1)) := ⟨_, rfl⟩
              have M22 : Hid (StRM w w22 b q1 S (Z + 1) room (.slice au hs.length cu) hs k1 t1 (.slice (some ⟨g1, off1, none⟩) zs1.length cap1) zs1) := by
                show StRM _ _ _ _ _ _ _ _ _ _ _ _ _
                rw [hw22.out]
                have a1 := M21.out.setX (i := 0) (.int .i64 k1) rfl M21.out.num
                have a2 := a1.setX (i := 1) (.int .i64 t1) rfl a1.num
                exact a2.setX (i := 2) _ rfl ⟨cap1, (F21.out.set M21.out.row (by decide) _).set a1.row (by decide) _⟩
              clear r21 m21 hF1
              go_wp2_with fail
              rw [← hw22.out]
              clear s0 s1 sl x0 x1 x2 xl xf0 xf1 xf2
              obtain ⟨⟨s0, s1, sl⟩, ⟨x0, x1, x2, xl⟩, -⟩ := M22.out.cells
              obtain ⟨⟨ra, rc, p0, p1⟩, ⟨pf0, pf1⟩, ⟨r0, r1, r2, v0, v1, v2⟩, ⟨vf0, vf1, vf2⟩⟩ := M22.out.cellsR
              have hlb := M22.out.ltb
              have hn1 : w.heap.size ≠ S := by omega
              have hn2 : w.heap.size ≠ Z + 1 := by omega
              have hn3 : w.heap.size + 1 ≠ S := by omega
              have hn4 : ¬ w.heap.size = Z := by omega
              have hn5 : w.heap.size + 1 ≠ Z + 1 := by omega
              refine wp_region_held_drew (S := (fun w' => (w'.cell? ⟨S, 0, none⟩ = some (.int .i64 room) ∧ w'.cell? ⟨S, 1, none⟩ = some (.slice au hs.length cu)) ∧ w'.cell? ⟨Z + 1, 0, none⟩ = some (.int .i64 (k1)) ∧ w'.cell? ⟨Z + 1, 1, none⟩ = some (.int .i64 (t1)) ∧ w'.cell? ⟨Z + 1, 2, none⟩ = some (.slice (some ⟨g1, off1, none⟩) zs1.length cap1))) (by kernel_rfl) ⟨⟨s0, s1⟩, x0, x1, x2⟩ (fun hHeld => ?_)
              refine takeD (i := 0) (v := .agg #[.int .i64 room, (.slice au hs.length cu)]) (some 52) rfl rfl (by kernel_rfl) (by kernel_rfl) (by kernel_rfl) (fun _ _ _ h => h) (by rfl) hHeld ?_ ?_
              · intro W hSw
                obtain ⟨⟨e0, e1⟩, e2, e3, e4⟩ := hSw
                go_simp
              try simp only [Act.put]
              try simp only [List.setIfInBounds_toArray]
              try simp only [List.set_cons_succ]
              try simp only [List.set_cons_zero]
              refine takeD (i := 1) (v := .agg #[.int .i64 (k1), .int .i64 (t1), .slice (some ⟨g1, off1, none⟩) zs1.length cap1]) (some 53) rfl rfl (by kernel_rfl) (by kernel_rfl) (by kernel_rfl) (fun _ _ _ h => h) (by rfl) hHeld ?_ ?_
              · intro W hSw
                obtain ⟨⟨e0, e1⟩, e2, e3, e4⟩ := hSw
                go_simp
              try simp only [Act.put]
              try simp only [List.setIfInBounds_toArray]
              try simp only [List.set_cons_succ]
              try simp only [List.set_cons_zero]
              refine wpAnyH_ready (rs := [2]) (by kernel_rfl) (by simp) ?_
              refine AllReadyH.cons rfl (fun K1 hK1 => ?_) AllReadyH.nil
              go_simp
              refine hK1.out _ _ ?_ (fun hHeld => ?_)
              · exact ⟨⟨farD (farS (farS s0 hn1 _) hn1 _), farD (farS (farS s1 hn1 _) hn1 _)⟩, farD (farS (farS x0 hn2 _) hn2 _), farD (farS (farS x1 hn2 _) hn2 _), farD (farS (farS x2 hn2 _) hn2 _)⟩
              clear hK1 K1
              refine wpAnyH_ready (rs := [3]) (by kernel_rfl) (by simp) ?_
              refine AllReadyH.cons rfl (fun K1 hK1 => ?_) AllReadyH.nil
              go_simp
              refine hK1.out _ _ ?_ (fun hHeld => ?_)
              · exact ⟨⟨farD (farS (farS (farS (farS (farS s0 hn1 _) hn1 _) hn3 _) hn3 _) hn3 _), farD (farS (farS (farS (farS (farS s1 hn1 _) hn1 _) hn3 _) hn3 _) hn3 _)⟩, farD (farS (farS (farS (farS (farS x0 hn2 _) hn2 _) hn5 _) hn5 _) hn5 _), farD (farS (farS (farS (farS (farS x1 hn2 _) hn2 _) hn5 _) hn5 _) hn5 _), farD (farS (farS (farS (farS (farS x2 hn2 _) hn2 _) hn5 _) hn5 _) hn5 _)⟩
              clear hK1 K1
              refine wpAnyH_done (by kernel_rfl) ?_ _
              clear hHeld s0 s1 x0 x1 x2
              go_wp2
              exact bodyPost_ret (v := .tuple #[.agg #[.int .i64 room, (.slice au hs.length cu)], .agg #[.int .i64 (k1), .int .i64 (t1), .slice (some ⟨g1, off1, none⟩) zs1.length cap1]]) (by simp [results, Tryd.results5, go_sem, p0, p1, v0, v1, v2]) rfl ⟨room, _, hs, (k1), (t1), _, zs1, rfl, by omega, by omega, M22.out.doneD _ _ _ _ _⟩
            · obtain ⟨⟨s0, s1, sl⟩, ⟨x0, x1, x2, xl⟩, -⟩ := M20.out.cells
              obtain ⟨⟨ra, rc, p0, p1⟩, ⟨pf0, pf1⟩, ⟨r0, r1, r2, v0, v1, v2⟩, ⟨vf0, vf1, vf2⟩⟩ := M20.out.cellsR
              have hlb := M20.out.ltb
              have hn1 : w.heap.size ≠ S := by omega
              have hn2 : w.heap.size ≠ Z + 1 := by omega
              have hn3 : w.heap.size + 1 ≠ S := by omega
              have hn4 : ¬ w.heap.size = Z := by omega
              have hn5 : w.heap.size + 1 ≠ Z + 1 := by omega
              go_wp2_with fail
              refine wp_region_held_drew (S := (fun w' => (w'.cell? ⟨S, 0, none⟩ = some (.int .i64 room) ∧ w'.cell? ⟨S, 1, none⟩ = some (.slice au hs.length cu)) ∧ w'.cell? ⟨Z + 1, 0, none⟩ = some (.int .i64 (K)) ∧ w'.cell? ⟨Z + 1, 1, none⟩ = some (.int .i64 (t)) ∧ w'.cell? ⟨Z + 1, 2, none⟩ = some (.slice ac ZS.length cc))) (by kernel_rfl) ⟨⟨s0, s1⟩, x0, x1, x2⟩ (fun hHeld => ?_)
              refine takeD (i := 0) (v := .agg #[.int .i64 room, (.slice au hs.length cu)]) (some 52) rfl rfl (by kernel_rfl) (by kernel_rfl) (by kernel_rfl) (fun _ _ _ h => h) (by rfl) hHeld ?_ ?_
              · intro W hSw
                obtain ⟨⟨e0, e1⟩, e2, e3, e4⟩ := hSw
                go_simp
              try simp only [Act.put]
              try simp only [List.setIfInBounds_toArray]
              try simp only [List.set_cons_succ]
              try simp only [List.set_cons_zero]
              refine takeD (i := 1) (v := .agg #[.int .i64 (K), .int .i64 (t), .slice ac ZS.length cc]) (some 53) rfl rfl (by kernel_rfl) (by kernel_rfl) (by kernel_rfl) (fun _ _ _ h => h) (by rfl) hHeld ?_ ?_
              · intro W hSw
                obtain ⟨⟨e0, e1⟩, e2, e3, e4⟩ := hSw
                go_simp
              try simp only [Act.put]
              try simp only [List.setIfInBounds_toArray]
              try simp only [List.set_cons_succ]
              try simp only [List.set_cons_zero]
              refine wpAnyH_ready (rs := [2]) (by kernel_rfl) (by simp) ?_
              refine AllReadyH.cons rfl (fun K1 hK1 => ?_) AllReadyH.nil
              go_simp
              refine hK1.out _ _ ?_ (fun hHeld => ?_)
              · exact ⟨⟨farD (farS (farS s0 hn1 _) hn1 _), farD (farS (farS s1 hn1 _) hn1 _)⟩, farD (farS (farS x0 hn2 _) hn2 _), farD (farS (farS x1 hn2 _) hn2 _), farD (farS (farS x2 hn2 _) hn2 _)⟩
              clear hK1 K1
              refine wpAnyH_ready (rs := [3]) (by kernel_rfl) (by simp) ?_
              refine AllReadyH.cons rfl (fun K1 hK1 => ?_) AllReadyH.nil
              go_simp
              refine hK1.out _ _ ?_ (fun hHeld => ?_)
              · exact ⟨⟨farD (farS (farS (farS (farS (farS s0 hn1 _) hn1 _) hn3 _) hn3 _) hn3 _), farD (farS (farS (farS (farS (farS s1 hn1 _) hn1 _) hn3 _) hn3 _) hn3 _)⟩, farD (farS (farS (farS (farS (farS x0 hn2 _) hn2 _) hn5 _) hn5 _) hn5 _), farD (farS (farS (farS (farS (farS x1 hn2 _) hn2 _) hn5 _) hn5 _) hn5 _), farD (farS (farS (farS (farS (farS x2 hn2 _) hn2 _) hn5 _) hn5 _) hn5 _)⟩
              clear hK1 K1
              refine wpAnyH_done (by kernel_rfl) ?_ _
              clear hHeld s0 s1 x0 x1 x2
              go_wp2
              exact bodyPost_ret (v := .tuple #[.agg #[.int .i64 room, (.slice au hs.length cu)], .agg #[.int .i64 (K), .int .i64 (t), .slice ac ZS.length cc]]) (by simp [results, Tryd.results5, go_sem, p0, p1, v0, v1, v2]) rfl ⟨room, _, hs, (K), (t), _, ZS, rfl, by omega, by omega, M20.out.doneD _ _ _ _ _⟩
        · go_wp2_with fail
          refine (pick_any b (q2 + 1) 12 _ M10.out.rd (by omega) (by omega) (by omega)).mono ?_
          rintro e w20 ⟨y2, rfl, ly2, uy2, r20, m20⟩
          have M20 := hide_it (M10.out.step m20 r20)
          clear r20 m20
          by_cases hy2 : y2 = 0
          · subst hy2
            go_wp2_with fail
            refine (rec_draw b (q2 + 1 + 1) _ M20.out.rd (by omega)).mono ?_
            rintro e w21 ⟨k1, t1, u1, zs1, q1, cap1, rfl, hz1, hF1, hqa, hqb, r21, m21⟩
            have M21 := hide_it (M20.out.step m21 r21)
            have F21 := hide_it (hF1.mono (show w.heap.size ≤ w20.heap.size from M20.out.low.size))
            obtain ⟨g1, off1, hu1⟩ : ∃ g off, u1 = .slice (some ⟨g, off, none⟩) zs1.length cap1 := by obtain ⟨g, off, cs, h, _⟩ := hF1; exact ⟨g, off, h⟩
            subst hu1
            obtain ⟨⟨s0, s1, sl⟩, ⟨x0, x1, x2, xl⟩, ⟨xf0, xf1, xf2⟩⟩ := M21.out.cells
            obtain ⟨w22, hw22⟩ : ∃ W, Hid (W = ((w21.setCell ⟨Z + 1, 0, none⟩ (.int .i64 k1)).setCell ⟨Z + 1, 1, none⟩ (.int .i64 t1)).setCell ⟨Z + 1, 2, none⟩ (.slice (some ⟨g1, off1, none⟩) zs1.length cap1)) := ⟨_, rfl⟩
            have M22 : Hid (StRM w w22 b q1 S (Z + 1) room (.slice au hs.length cu) hs k1 t1 (.slice (some ⟨g1, off1, none⟩) zs1.length cap1) zs1) := by
              show StRM _ _ _ _ _ _ _ _ _ _ _ _ _
              rw [hw22.out]
              have a1 := M21.out.setX (i := 0) (.int .i64 k1) rfl M21.out.num
              have a2 := a1.setX (i := 1) (.int .i64 t1) rfl a1.num
              exact a2.setX (i := 2) _ rfl ⟨cap1, (F21.out.set M21.out.row (by decide) _).set a1.row (by decide) _⟩
            clear r21 m21 hF1
            go_wp2_with fail
            rw [← hw22.out]
            clear s0 s1 sl x0 x1 x2 xl xf0 xf1 xf2
            obtain ⟨⟨s0, s1, sl⟩, ⟨x0, x1, x2, xl⟩, -⟩ := M22.out.cells
            obtain ⟨⟨ra, rc, p0, p1⟩, ⟨pf0, pf1⟩, ⟨r0, r1, r2, v0, v1, v2⟩, ⟨vf0, vf1, vf2⟩⟩ := M22.out.cellsR
            have hlb := M22.out.ltb
            have hn1 : w.heap.size ≠ S := by omega
            have hn2 : w.heap.size ≠ Z + 1 := by omega
            have hn3 : w.heap.size + 1 ≠ S := by omega
            have hn4 : ¬ w.heap.size = Z := by omega
            have hn5 : w.heap.size + 1 ≠ Z + 1 := by omega
            refine wp_region_held_drew (S := (fun w' => (w'.cell? ⟨S, 0, none⟩ = some (.int .i64 room) ∧ w'.cell? ⟨S, 1, none⟩ = some (.slice au hs.length cu)) ∧ w'.cell? ⟨Z + 1, 0, none⟩ = some (.int .i64 (k1)) ∧ w'.cell? ⟨Z + 1, 1, none⟩ = some (.int .i64 (t1)) ∧ w'.cell? ⟨Z + 1, 2, none⟩ = some (.slice (some ⟨g1, off1, none⟩) zs1.length cap1))) (by kernel_rfl) ⟨⟨s0, s1⟩, x0, x1, x2⟩ (fun hHeld => ?_)
            refine takeD (i := 0) (v := .agg #[.int .i64 room, (.slice au hs.length cu)]) (some 52) rfl rfl (by kernel_rfl) (by kernel_rfl) (by kernel_rfl) (fun _ _ _ h => h) (by rfl) hHeld ?_ ?_
            · intro W hSw
              obtain ⟨⟨e0, e1⟩, e2, e3, e4⟩ := hSw
              go_simp
            try simp only [Act.put]
            try simp only [List.setIfInBounds_toArray]
            try simp only [List.set_cons_succ]
            try simp only [List.set_cons_zero]
            refine takeD (i := 1) (v := .agg #[.int .i64 (k1), .int .i64 (t1), .slice (some ⟨g1, off1, none⟩) zs1.length cap1]) (some 53) rfl rfl (by kernel_rfl) (by kernel_rfl) (by kernel_rfl) (fun _ _ _ h => h) (by rfl) hHeld ?_ ?_
            · intro W hSw
              obtain ⟨⟨e0, e1⟩, e2, e3, e4⟩ := hSw
              go_simp
            try simp only [Act.put]
            try simp only [List.setIfInBounds_toArray]
            try simp only [List.set_cons_succ]
            try simp only [List.set_cons_zero]
            refine wpAnyH_ready (rs := [2]) (by kernel_rfl) (by simp) ?_
            refine AllReadyH.cons rfl (fun K1 hK1 => ?_) AllReadyH.nil
            go_simp
            refine hK1.out _ _ ?_ (fun hHeld => ?_)
            · exact ⟨⟨farD (farS (farS s0 hn1 _) hn1 _), farD (farS (farS s1 hn1 _) hn1 _)⟩, farD (farS (farS x0 hn2 _) hn2 _), farD (farS (farS x1 hn2 _) hn2 _), farD (farS (farS x2 hn2 _) hn2 _)⟩
            clear hK1 K1
            refine wpAnyH_ready (rs := [3]) (by kernel_rfl) (by simp) ?_
            refine AllReadyH.cons rfl (fun K1 hK1 => ?_) AllReadyH.nil
            go_simp
            refine hK1.out _ _ ?_ (fun hHeld => ?_)
            · exact ⟨⟨farD (farS (farS (farS (farS (farS s0 hn1 _) hn1 _) hn3 _) hn3 _) hn3 _), farD (farS (farS (farS (farS (farS s1 hn1 _) hn1 _) hn3 _) hn3 _) hn3 _)⟩, farD (farS (farS (farS (farS (farS x0 hn2 _) hn2 _) hn5 _) hn5 _) hn5 _), farD (farS (farS (farS (farS (farS x1 hn2 _) hn2 _) hn5 _) hn5 _) hn5 _), farD (farS (farS (farS (farS (farS x2 hn2 _) hn2 _) hn5 _) hn5 _) hn5 _)⟩
            clear hK1 K1
            refine wpAnyH_done (by kernel_rfl) ?_ _
            clear hHeld s0 s1 x0 x1 x2
            go_wp2
            exact bodyPost_ret (v := .tuple #[.agg #[.int .i64 room, (.slice au hs.length cu)], .agg #[.int .i64 (k1), .int .i64 (t1), .slice (some ⟨g1, off1, none⟩) zs1.length cap1]]) (by simp [results, Tryd.results5, go_sem, p0, p1, v0, v1, v2]) rfl ⟨room, _, hs, (k1), (t1), _, zs1, rfl, by omega, by omega, M22.out.doneD _ _ _ _ _⟩
          · obtain ⟨⟨s0, s1, sl⟩, ⟨x0, x1, x2, xl⟩, -⟩ := M20.out.cells
            obtain ⟨⟨ra, rc, p0, p1⟩, ⟨pf0, pf1⟩, ⟨r0, r1, r2, v0, v1, v2⟩, ⟨vf0, vf1, vf2⟩⟩ := M20.out.cellsR
            have hlb := M20.out.ltb
            have hn1 : w.heap.size ≠ S := by omega
            have hn2 : w.heap.size ≠ Z + 1 := by omega
            have hn3 : w.heap.size + 1 ≠ S := by omega
            have hn4 : ¬ w.heap.size = Z := by omega
            have hn5 : w.heap.size + 1 ≠ Z + 1 := by omega
            go_wp2_with fail
            refine wp_region_held_drew (S := (fun w' => (w'.cell? ⟨S, 0, none⟩ = some (.int .i64 room) ∧ w'.cell? ⟨S, 1, none⟩ = some (.slice au hs.length cu)) ∧ w'.cell? ⟨Z + 1, 0, none⟩ = some (.int .i64 (K)) ∧ w'.cell? ⟨Z + 1, 1, none⟩ = some (.int .i64 (t)) ∧ w'.cell? ⟨Z + 1, 2, none⟩ = some (.slice ac ZS.length cc))) (by kernel_rfl) ⟨⟨s0, s1⟩, x0, x1, x2⟩ (fun hHeld => ?_)
            refine takeD (i := 0) (v := .agg #[.int .i64 room, (.slice au hs.length cu)]) (some 52) rfl rfl (by kernel_rfl) (by kernel_rfl) (by kernel_rfl) (fun _ _ _ h => h) (by rfl) hHeld ?_ ?_
            · intro W hSw
              obtain ⟨⟨e0, e1⟩, e2, e3, e4⟩ := hSw
              go_simp
            try simp only [Act.put]
            try simp only [List.setIfInBounds_toArray]
            try simp only [List.set_cons_succ]
            try simp only [List.set_cons_zero]
            refine takeD (i := 1) (v := .agg #[.int .i64 (K), .int .i64 (t), .slice ac ZS.length cc]) (some 53) rfl rfl (by kernel_rfl) (by kernel_rfl) (by kernel_rfl) (fun _ _ _ h => h) (by rfl) hHeld ?_ ?_
            · intro W hSw
              obtain ⟨⟨e0, e1⟩, e2, e3, e4⟩ := hSw
              go_simp
            try simp only [Act.put]
            try simp only [List.setIfInBounds_toArray]
            try simp only [List.set_cons_succ]
            try simp only [List.set_cons_zero]
            refine wpAnyH_ready (rs := [2]) (by kernel_rfl) (by simp) ?_
            refine AllReadyH.cons rfl (fun K1 hK1 => ?_) AllReadyH.nil
            go_simp
            refine hK1.out _ _ ?_ (fun hHeld => ?_)
            · exact ⟨⟨farD (farS (farS s0 hn1 _) hn1 _), farD (farS (farS s1 hn1 _) hn1 _)⟩, farD (farS (farS x0 hn2 _) hn2 _), farD (farS (farS x1 hn2 _) hn2 _), farD (farS (farS x2 hn2 _) hn2 _)⟩
            clear hK1 K1
            refine wpAnyH_ready (rs := [3]) (by kernel_rfl) (by simp) ?_
            refine AllReadyH.cons rfl (fun K1 hK1 => ?_) AllReadyH.nil
            go_simp
            refine hK1.out _ _ ?_ (fun hHeld => ?_)
            · exact ⟨⟨farD (farS (farS (farS (farS (farS s0 hn1 _) hn1 _) hn3 _) hn3 _) hn3 _), farD (farS (farS (farS (farS (farS s1 hn1 _) hn1 _) hn3 _) hn3 _) hn3 _)⟩, farD (farS (farS (farS (farS (farS x0 hn2 _) hn2 _) hn5 _) hn5 _) hn5 _), farD (farS (farS (farS (farS (farS x1 hn2 _) hn2 _) hn5 _) hn5 _) hn5 _), farD (farS (farS (farS (farS (farS x2 hn2 _) hn2 _) hn5 _) hn5 _) hn5 _)⟩
            clear hK1 K1
            refine wpAnyH_done (by kernel_rfl) ?_ _
            clear hHeld s0 s1 x0 x1 x2
            go_wp2
            exact bodyPost_ret (v := .tuple #[.agg #[.int .i64 room, (.slice au hs.length cu)], .agg #[.int .i64 (K), .int .i64 (t), .slice ac ZS.length cc]]) (by simp [results, Tryd.results5, go_sem, p0, p1, v0, v1, v2]) rfl ⟨room, _, hs, (K), (t), _, ZS, rfl, by omega, by omega, M20.out.doneD _ _ _ _ _⟩
      · go_wp2_with fail
        refine (pick_any b (q2) 12 _ MR.out.rd (by omega) (by omega) (by omega)).mono ?_
        rintro e w20 ⟨y2, rfl, ly2, uy2, r20, m20⟩
        have M20 := hide_it (MR.out.step m20 r20)
        clear r20 m20
        by_cases hy2 : y2 = 0
        · subst hy2
          go_wp2_with fail
          refine (rec_draw b (q2 + 1) _ M20.out.rd (by omega)).mono ?_
          rintro e w21 ⟨k1, t1, u1, zs1, q1, cap1, rfl, hz1, hF1, hqa, hqb, r21, m21⟩
          have M21 := hide_it (M20.out.step m21 r21)
          have F21 := hide_it (hF1.mono (show w.heap.size ≤ w20.heap.size from M20.out.low.size))
          obtain ⟨g1, off1, hu1⟩ : ∃ g off, u1 = .slice (some ⟨g, off, none⟩) zs1.length cap1 := by obtain ⟨g, off, cs, h, _⟩ := hF1; exact ⟨g, off, h⟩
          subst hu1
          obtain ⟨⟨s0, s1, sl⟩, ⟨x0, x1, x2, xl⟩, ⟨xf0, xf1, xf2⟩⟩ := M21.out.cells
          obtain ⟨w22, hw22⟩ : ∃ W, Hid (W = ((w21.setCell ⟨Z + 1, 0, none⟩ (.int .i64 k1)).setCell ⟨Z + 1, 1, none⟩ (.int .i64 t1)).setCell ⟨Z + 1, 2, none⟩ (.slice (some ⟨g1, off1, none⟩) zs1.length cap1)) := ⟨_, rfl⟩
          have M22 : Hid (StRM w w22 b q1 S (Z + 1) room (.slice au hs.length cu) hs k1 t1 (.slice (some ⟨g1, off1, none⟩) zs1.length cap1) zs1) := by
            show StRM _ _ _ _ _ _ _ _ _ _ _ _ _
            rw [hw22.out]
            have a1 := M21.out.setX (i := 0) (.int .i64 k1) rfl M21.out.num
            have a2 := a1.setX (i := 1) (.int .i64 t1) rfl a1.num
            exact a2.setX (i := 2) _ rfl ⟨cap1, (F21.out.set M21.out.row (by decide) _).set a1.row (by decide) _⟩
          clear r21 m21 hF1
          go_wp2_with fail
          rw [← hw22.out]
          clear s0 s1 sl x0 x1 x2 xl xf0 xf1 xf2
          obtain ⟨⟨s0, s1, sl⟩, ⟨x0, x1, x2, xl⟩, -⟩ := M22.out.cells
          obtain ⟨⟨ra, rc, p0, p1⟩, ⟨pf0, pf1⟩, ⟨r0, r1, r2, v0, v1, v2⟩, ⟨vf0, vf1, vf2⟩⟩ := M22.out.cellsR
          have hlb := M22.out.ltb
          have hn1 : w.heap.size ≠ S := by omega
          have hn2 : w.heap.size ≠ Z + 1 := by omega
          have hn3 : w.heap.size + 1 ≠ S := by omega
          have hn4 : ¬ w.heap.size = Z := by omega
          have hn5 : w.heap.size + 1 ≠ Z + 1 := by omega
          refine wp_region_held_drew (S := (fun w' => (w'.cell? ⟨S, 0, none⟩ = some (.int .i64 room) ∧ w'.cell? ⟨S, 1, none⟩ = some (.slice au hs.length cu)) ∧ w'.cell? ⟨Z + 1, 0, none⟩ = some (.int .i64 (k1)) ∧ w'.cell? ⟨Z + 1, 1, none⟩ = some (.int .i64 (t1)) ∧ w'.cell? ⟨Z + 1, 2, none⟩ = some (.slice (some ⟨g1, off1, none⟩) zs1.length cap1))) (by kernel_rfl) ⟨⟨s0, s1⟩, x0, x1, x2⟩ (fun hHeld => ?_)
          refine takeD (i := 0) (v := .agg #[.int .i64 room, (.slice au hs.length cu)]) (some 52) rfl rfl (by kernel_rfl) (by kernel_rfl) (by kernel_rfl) (fun _ _ _ h => h) (by rfl) hHeld ?_ ?_
          · intro W hSw
            obtain ⟨⟨e0, e1⟩, e2, e3, e4⟩ := hSw
            go_simp
          try simp only [Act.put]
          try simp only [List.setIfInBounds_toArray]
          try simp only [List.set_cons_succ]
          try simp only [List.set_cons_zero]
          refine takeD (i := 1) (v := .agg #[.int .i64 (k1), .int .i64 (t1), .slice (some ⟨g1, off1, none⟩) zs1.length cap1]) (some 53) rfl rfl (by kernel_rfl) (by kernel_rfl) (by kernel_rfl) (fun _ _ _ h => h) (by rfl) hHeld ?_ ?_
          · intro W hSw
            obtain ⟨⟨e0, e1⟩, e2, e3, e4⟩ := hSw
            go_simp
          try simp only [Act.put]
          try simp only [List.setIfInBounds_toArray]
          try simp only [List.set_cons_succ]
          try simp only [List.set_cons_zero]
          refine wpAnyH_ready (rs := [2]) (by kernel_rfl) (by simp) ?_
          refine AllReadyH.cons rfl (fun K1 hK1 => ?_) AllReadyH.nil
          go_simp
          refine hK1.out _ _ ?_ (fun hHeld => ?_)
          · exact ⟨⟨farD (farS (farS s0 hn1 _) hn1 _), farD (farS (farS s1 hn1 _) hn1 _)⟩, farD (farS (farS x0 hn2 _) hn2 _), farD (farS (farS x1 hn2 _) hn2 _), farD (farS (farS x2 hn2 _) hn2 _)⟩
          clear hK1 K1
          refine wpAnyH_ready (rs := [3]) (by kernel_rfl) (by simp) ?_
          refine AllReadyH.cons rfl (fun K1 hK1 => ?_) AllReadyH.nil
          go_simp
          refine hK1.out _ _ ?_ (fun hHeld => ?_)
          · exact ⟨⟨farD (farS (farS (farS (farS (farS s0 hn1 _) hn1 _) hn3 _) hn3 _) hn3 _), farD (farS (farS (farS (farS (farS s1 hn1 _) hn1 _) hn3 _) hn3 _) hn3 _)⟩, farD (farS (farS (farS (farS (farS x0 hn2 _) hn2 _) hn5 _) hn5 _) hn5 _), farD (farS (farS (farS (farS (farS x1 hn2 _) hn2 _) hn5 _) hn5 _) hn5 _), farD (farS (farS (farS (farS (farS x2 hn2 _) hn2 _) hn5 _) hn5 _) hn5 _)⟩
          clear hK1 K1
          refine wpAnyH_done (by kernel_rfl) ?_ _
          clear hHeld s0 s1 x0 x1 x2
          go_wp2
          exact bodyPost_ret (v := .tuple #[.agg #[.int .i64 room, (.slice au hs.length cu)], .agg #[.int .i64 (k1), .int .i64 (t1), .slice (some ⟨g1, off1, none⟩) zs1.length cap1]]) (by simp [results, Tryd.results5, go_sem, p0, p1, v0, v1, v2]) rfl ⟨room, _, hs, (k1), (t1), _, zs1, rfl, by omega, by omega, M22.out.doneD _ _ _ _ _⟩
        · obtain ⟨⟨s0, s1, sl⟩, ⟨x0, x1, x2, xl⟩, -⟩ := M20.out.cells
          obtain ⟨⟨ra, rc, p0, p1⟩, ⟨pf0, pf1⟩, ⟨r0, r1, r2, v0, v1, v2⟩, ⟨vf0, vf1, vf2⟩⟩ := M20.out.cellsR
          have hlb := M20.out.ltb
          have hn1 : w.heap.size ≠ S := by omega
          have hn2 : w.heap.size ≠ Z + 1 := by omega
          have hn3 : w.heap.size + 1 ≠ S := by omega
          have hn4 : ¬ w.heap.size = Z := by omega
          have hn5 : w.heap.size + 1 ≠ Z + 1 := by omega
          go_wp2_with fail
          refine wp_region_held_drew (S := (fun w' => (w'.cell? ⟨S, 0, none⟩ = some (.int .i64 room) ∧ w'.cell? ⟨S, 1, none⟩ = some (.slice au hs.length cu)) ∧ w'.cell? ⟨Z + 1, 0, none⟩ = some (.int .i64 (K)) ∧ w'.cell? ⟨Z + 1, 1, none⟩ = some (.int .i64 (t)) ∧ w'.cell? ⟨Z + 1, 2, none⟩ = some (.slice ac ZS.length cc))) (by kernel_rfl) ⟨⟨s0, s1⟩, x0, x1, x2⟩ (fun hHeld => ?_)
          refine takeD (i := 0) (v := .agg #[.int .i64 room, (.slice au hs.length cu)]) (some 52) rfl rfl (by kernel_rfl) (by kernel_rfl) (by kernel_rfl) (fun _ _ _ h => h) (by rfl) hHeld ?_ ?_
          · intro W hSw
            obtain ⟨⟨e0, e1⟩, e2, e3, e4⟩ := hSw
            go_simp
          try simp only [Act.put]
          try simp only [List.setIfInBounds_toArray]
          try simp only [List.set_cons_succ]
          try simp only [List.set_cons_zero]
          refine takeD (i := 1) (v := .agg #[.int .i64 (K), .int .i64 (t), .slice ac ZS.length cc]) (some 53) rfl rfl (by kernel_rfl) (by kernel_rfl) (by kernel_rfl) (fun _ _ _ h => h) (by rfl) hHeld ?_ ?_
          · intro W hSw
            obtain ⟨⟨e0, e1⟩, e2, e3, e4⟩ := hSw
            go_simp
          try simp only [Act.put]
          try simp only [List.setIfInBounds_toArray]
          try simp only [List.set_cons_succ]
          try simp only [List.set_cons_zero]
          refine wpAnyH_ready (rs := [2]) (by kernel_rfl) (by simp) ?_
          refine AllReadyH.cons rfl (fun K1 hK1 => ?_) AllReadyH.nil
          go_simp
          refine hK1.out _ _ ?_ (fun hHeld => ?_)
          · exact ⟨⟨farD (farS (farS s0 hn1 _) hn1 _), farD (farS (farS s1 hn1 _) hn1 _)⟩, farD (farS (farS x0 hn2 _) hn2 _), farD (farS (farS x1 hn2 _) hn2 _), farD (farS (farS x2 hn2 _) hn2 _)⟩
          clear hK1 K1
          refine wpAnyH_ready (rs := [3]) (by kernel_rfl) (by simp) ?_
          refine AllReadyH.cons rfl (fun K1 hK1 => ?_) AllReadyH.nil
          go_simp
          refine hK1.out _ _ ?_ (fun hHeld => ?_)
          · exact ⟨⟨farD (farS (farS (farS (farS (farS s0 hn1 _) hn1 _) hn3 _) hn3 _) hn3 _), farD (farS (farS (farS (farS (farS s1 hn1 _) hn1 _) hn3 _) hn3 _) hn3 _)⟩, farD (farS (farS (farS (farS (farS x0 hn2 _) hn2 _) hn5 _) hn5 _) hn5 _), farD (farS (farS (farS (farS (farS x1 hn2 _) hn2 _) hn5 _) hn5 _) hn5 _), farD (farS (farS (farS (farS (farS x2 hn2 _) hn2 _) hn5 _) hn5 _) hn5 _)⟩
          clear hK1 K1
          refine wpAnyH_done (by kernel_rfl) ?_ _
          clear hHeld s0 s1 x0 x1 x2
          go_wp2
          exact bodyPost_ret (v := .tuple #[.agg #[.int .i64 room, (.slice au hs.length cu)], .agg #[.int .i64 (K), .int .i64 (t), .slice ac ZS.length cc]]) (by simp [results, Tryd.results5, go_sem, p0, p1, v0, v1, v2]) rfl ⟨room, _, hs, (K), (t), _, ZS, rfl, by omega, by omega, M20.out.doneD _ _ _ _ _⟩

end Go.Proofs.YthmbdboljjdcaaaDoor
