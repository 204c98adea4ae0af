/- The draw of records of a desk (DrawTripsOf). For codes of at most 1048576 bytes. -/
import Derived.Test.YtickjfpbaknlmaaDoorDTrips
import Derived.Test.YtickjfpbaknlmaaDoorDRec
namespace Go.Proofs.YtickjfpbaknlmaaDoor
open Go.RowKit

set_option maxRecDepth 100000 in
set_option maxHeartbeats 4000000 in
theorem drawTOf_any (v : Value) (n : Nat) (w : World) (hv : CodeAt w v n) (hn : n ≤ 1048576) :
    Calls Tryd.prog 14 #[v] w fun e w' => ∃ (o : Value) (rs : List R), e = .returned o ∧ tot rs ≤ 1000 ∧ Recs w' o rs ∧ Below w.heap.size w w' := by
  obtain ⟨i0, hi, hz0, hz1, hz2⟩ := info_parts infoRec
  have HO := hide_it (open_any v n w hv hn)
  obtain ⟨ao, cap, rfl, _⟩ := hv
  go_enter Tryd.func14, Tryd.ntmps14
  go_wp2_with fail
  refine HO.out.mono ?_
  rintro e w1 ⟨rfl, hr1, hs1, hb1⟩
  obtain ⟨b, hbb⟩ : ∃ b, Hid (b = w.heap.size) := ⟨_, rfl⟩
  rw [← hbb.out] at hr1 ⊢
  have hb1' : b < w1.heap.size := by rw [hbb.out, hs1]; omega
  have R1 := hide_it hr1
  have B1 := hide_it hb1
  clear hr1 hb1 hs1
  go_wp2_with fail
  refine (trips_draw b 0 _ R1.out (by omega)).mono ?_
  rintro e w2 ⟨o, ps, q, rfl, hps, hrow, hall, hq, r2, m2⟩
  have C2 : Hid (RcS w1 w2 b q o ps) := ⟨hrow, hall, r2, m2, hb1'⟩
  obtain ⟨o2, c2, hos⟩ := row_shape hrow
  subst hos
  clear hrow hall r2 m2
  go_wp2_with fail
  refine (pick_any b q 8 _ C2.out.rd (by omega) (by omega) (by omega)).mono ?_
  rintro e w3 ⟨y, rfl, ly, uy, r3, m3⟩
  have C3 := hide_it (C2.out.step m3 r3)
  clear r3 m3 C2
  have hBl : Hid (∀ W, Mid b (b + 1) w1 W → Below w.heap.size w W) := fun W hm => B1.out.trans (hm.below (by rw [hbb.out]; omega) B1.out.size)
  by_cases hy0 : y = 0
  · subst hy0
    go_wp2_with fail
    refine (rec_draw b (q + 1) _ C3.out.rd (by omega)).mono ?_
    rintro e w4 ⟨k, t, u, zs, q4, cap4, rfl, hz, hF, hqa, hqb, r4, m4⟩
    have C4 := hide_it (C3.out.step m4 r4)
    have F4 := hide_it (hF.mono (show w1.heap.size ≤ w3.heap.size from C3.out.mid.size))
    obtain ⟨g, off, hu⟩ : ∃ g off, u = .slice (some ⟨g, off, none⟩) zs.length cap4 := by obtain ⟨g, off, cs, h, _⟩ := hF; exact ⟨g, off, h⟩
    subst hu
    clear hF r4 m4 C3
    have hw14 : w1.heap.size ≤ w4.heap.size := C4.out.mid.size
    have ROW : Hid (∀ x, (w4.alloc x).ownsRow w1.heap.size 26 3 (.slice o2 ps.length c2) ps.length (flat ps)) := fun x => (C4.out.later (alloc_below _ x)).row
    go_wp2_with (at_builtin; refine wpList_append_own _ rfl _ _ 35 rfl w1.heap.size 26 i0 (.agg #[.int .i64 0, .int .i64 0, .slice none 0 0]) 3 40 Tryd.underlying35 hi hz0 hz1 hz2 rfl (by decide) (.slice o2 ps.length c2) ps.length (flat ps) rfl (ROW.out _) ⟨w4.heap.size, 0, none⟩ 1 1 [.int .i64 k, .int .i64 t, .slice (some ⟨g, off, none⟩) zs.length cap4] rfl rfl (news3 _ _ _ _ _) (one3 _ _ _) ?c3 ?c4 ?c5 ?_)
    case c3 => unfold maxLen; omega
    case c4 => omega
    case c5 => simp; omega
    intro v' w5 hown5 hgrow5 _
    have C5 := hide_it ((C4.out.later (alloc_below _ _)).push (r := (k, t, zs)) ⟨by simpa using hz, Or.inl ⟨cap4, F4.out.later (alloc_below _ _) (Nat.le_refl _)⟩⟩ hown5 hgrow5)
    clear hown5 hgrow5 ROW C4 F4
    go_wp2
    go_ret
    obtain ⟨h1, h2⟩ := C5.out.out (by simp; omega)
    exact ⟨_, _, rfl, h2, h1, hBl.out _ C5.out.mid⟩
  · go_wp2
    go_ret
    obtain ⟨h1, h2⟩ := C3.out.out (by omega)
    exact ⟨_, _, rfl, h2, h1, hBl.out _ C3.out.mid⟩

end Go.Proofs.YtickjfpbaknlmaaDoor
