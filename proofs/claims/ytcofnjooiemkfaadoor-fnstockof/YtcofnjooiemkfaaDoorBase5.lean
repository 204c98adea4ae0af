/- What the last text of this claim stands on, part 5: plain facts and contracts; the last text says what is proved. -/
import Derived.Test.YtcofnjooiemkfaaDoorBase4

namespace Go.Proofs.YtcofnjooiemkfaaDoor
open Go.RowKit

namespace Pl
theorem sDo_some {room : Int} {hs hs' : List H} {k t : Int} {zs : List Int} (h : sDo room hs k t zs = some hs') :
    ∃ x, next (hAt hs t) k (zs.headD 0) (free room hs) = some x ∧ hs' = hs.set (at_ t) x ∧ sOk room hs = true ∧ recOk k t zs = true ∧ sOk room hs' = true := by
  have hk := sDo_keeps h
  unfold sDo at h
  cases hb : behind room hs k t zs with
  | none => rw [hb] at h; cases h
  | some x =>
    rw [hb] at h
    simp only [Option.map_some, Option.some.injEq] at h
    have hb2 := hb
    unfold behind at hb2
    by_cases hc : sOk room hs = true ∧ recOk k t zs = true
    · rw [if_pos hc] at hb2
      exact ⟨x, hb2, h.symm, hc.1, hc.2, hk⟩
    · rw [if_neg hc] at hb2; cases hb2
theorem hAt_set {hs : List H} {t : Int} {x : H} (h : at_ t < hs.length) : hAt (hs.set (at_ t) x) t = x := by
  unfold hAt
  simp [List.getD_eq_getElem?_getD, h]
theorem hAt_set_ne {hs : List H} {t t2 : Int} {x : H} (h : at_ t ≠ at_ t2) : hAt (hs.set (at_ t) x) t2 = hAt hs t2 := by
  unfold hAt
  simp [List.getD_eq_getElem?_getD, List.getElem?_set_ne h]
/-- What is had, and in which state, behind a record that came. -/
theorem next_kinds {h x : H} {k m fr : Int} (hn : next h k m fr = some x) : (k = 1 ∧ h.2 = 0 ∧ m ≤ fr ∧ x = (m, 1)) ∨ (k = 2 ∧ h.2 = 1 ∧ x = (h.1, 2)) ∨ (k = 3 ∧ (h.2 = 1 ∨ h.2 = 0) ∧ x = (h.1, 3)) := by
  unfold next at hn
  by_cases k1 : k = 1
  · rw [if_pos k1] at hn
    by_cases c : h.2 = 0 ∧ m ≤ fr
    · rw [if_pos c] at hn
      exact Or.inl ⟨k1, c.1, c.2, by simpa using hn.symm⟩
    · rw [if_neg c] at hn; cases hn
  rw [if_neg k1] at hn
  by_cases k2 : k = 2
  · rw [if_pos k2] at hn
    by_cases c : h.2 = 1
    · rw [if_pos c] at hn
      exact Or.inr (Or.inl ⟨k2, c, by simpa using hn.symm⟩)
    · rw [if_neg c] at hn; cases hn
  rw [if_neg k2] at hn
  by_cases k3 : k = 3
  · rw [if_pos k3] at hn
    by_cases c : h.2 = 1 ∨ h.2 = 0
    · rw [if_pos c] at hn
      exact Or.inr (Or.inr ⟨k3, c, by simpa using hn.symm⟩)
    · rw [if_neg c] at hn; cases hn
  · rw [if_neg k3] at hn; cases hn
theorem sFree_of {room : Int} {hs : List H} (h : sOk room hs = true) : sFree room hs = free room hs ∧ 0 ≤ free room hs ∧ free room hs ≤ 9 := by
  have h1 := sFree_bd room hs
  have h2 := (sOk_parts h).2.2.2
  rw [sFree_yes h] at h1
  exact ⟨sFree_yes h, h2, h1.2⟩
end Pl

theorem Blk.free2 {w : World} {b : Nat} {cs : Array Value} {ty : TypeId} (h : Blk w b cs ty) : w.frozen? ⟨b, 0, none⟩ = false ∧ w.frozen? ⟨b, 1, none⟩ = false := ⟨h.free 0, h.free 1⟩
theorem Blk.free3 {w : World} {b : Nat} {cs : Array Value} {ty : TypeId} (h : Blk w b cs ty) : w.frozen? ⟨b, 0, none⟩ = false ∧ w.frozen? ⟨b, 1, none⟩ = false ∧ w.frozen? ⟨b, 2, none⟩ = false := ⟨h.free 0, h.free 1, h.free 2⟩
theorem Holds.setApart {W : World} {u : Value} {hs : List Pl.H} {a : Addr} (h : Holds W u hs) (ha : ∀ g, u.ownBlock = some g → a.block ≠ g) (x : Value) : Holds (W.setCell a x) u hs := by
  rcases h with h | ⟨b, off, cap, rfl, hz, hc⟩
  · exact Or.inl h
  · have hne : b ≠ a.block := fun e => ha b rfl e.symm
    have e : (W.setCell a x).heap[b]? = W.heap[b]? := Below.heap_setCell _ _ _ _ hne
    refine Or.inr ⟨b, off, cap, rfl, hz, fun k hk => ⟨?_, ?_⟩⟩
    · rw [← (hc k hk).1]; exact World.cell?_of_block (a := ⟨b, _, none⟩) e
    · rw [← (hc k hk).2]; exact World.cell?_of_block (a := ⟨b, _, none⟩) e
theorem Ints.setApart {W : World} {u : Value} {zs : List Int} {a : Addr} (h : Ints W u zs) (ha : ∀ g, u.ownBlock = some g → a.block ≠ g) (x : Value) : Ints (W.setCell a x) u zs := by
  rcases h with h | ⟨b, off, cap, rfl, hz, hc⟩
  · exact Or.inl h
  · have hne : b ≠ a.block := fun e => ha b rfl e.symm
    have e : (W.setCell a x).heap[b]? = W.heap[b]? := Below.heap_setCell _ _ _ _ hne
    refine Or.inr ⟨b, off, cap, rfl, hz, fun k hk => ?_⟩
    rw [← hc k hk]; exact World.cell?_of_block (a := ⟨b, _, none⟩) e

set_option maxHeartbeats 1000000 in
theorem drawDo_any (v : Value) (n : Nat) (w : World) (hv : CodeAt w v n) (hn : n ≤ 1048576) :
    Calls Tryd.prog 9 #[v] w fun e w' => ∃ (room : Int) (u : Value) (hs : List Pl.H) (k t : Int) (uz : Value) (zs : List Int), e = .returned (.tuple #[.agg #[.int .i64 room, u], .agg #[.int .i64 k, .int .i64 t, uz]]) ∧ hs.length ≤ 6 ∧ zs.length ≤ 4 ∧ Holds w' u hs ∧ Ints w' uz zs ∧ Below w.heap.size w w' := by
  obtain ⟨w0, hw0⟩ : ∃ W, Hid (W = (w.alloc (.cells #[.int .i64 0, .slice none 0 0] 25)).alloc (.cells #[.int .i64 0, .int .i64 0, .slice none 0 0] 28)) := ⟨_, rfl⟩
  have B0 : Hid (Below w.heap.size w w0) := by show Below _ _ _; rw [hw0.out]; exact below2 _ _ _
  have X0 : Hid (Blk w0 w.heap.size #[.int .i64 0, .slice none 0 0] 25) := by show Blk _ _ _ _; rw [hw0.out]; exact (Blk.new _ _ _).alloc _
  have Z0 : Hid (Blk w0 (w.heap.size + 1) #[.int .i64 0, .int .i64 0, .slice none 0 0] 28) := by show Blk _ _ _ _; rw [hw0.out]; exact Blk.new2 _ _ _ _
  have hs0 : w0.heap.size = w.heap.size + 2 := by rw [hw0.out]; simp
  have HS0 := hide_it hs0
  have HD := hide_it (drawMay_any v n w0 (hv.later B0.out (Nat.le_refl _)) hn)
  clear hs0
  obtain ⟨ao, cap, rfl, _⟩ := hv
  go_enter Tryd.func9, Tryd.ntmps9
  go_wp2_with fail
  rw [← hw0.out]
  refine HD.out.mono ?_
  rintro e w1 ⟨room, u, hs, k, t, uz, zs, rfl, hl, hzl, hH, hI, hb1, hu, hz⟩
  have B1 := hide_it (B0.out.trans (hb1.mono B0.out.size))
  have H1 := hide_it hH
  have I1 := hide_it hI
  have hs1 := hb1.size
  obtain ⟨x0, x1⟩ := (X0.out.after hb1).cells2
  obtain ⟨xf0, xf1⟩ := (X0.out.after hb1).free2
  obtain ⟨z0, z1, z2⟩ := (Z0.out.after hb1).cells3
  obtain ⟨zf0, zf1, zf2⟩ := (Z0.out.after hb1).free3
  obtain ⟨au, cu, rfl⟩ := hH.shape
  obtain ⟨az, cz, rfl⟩ := hI.shape
  have HU : Hid (∀ g, (Value.slice au hs.length cu).ownBlock = some g → w.heap.size + 2 ≤ g) := fun g hg => by have := hu g hg; have := HS0.out; omega
  have HZ : Hid (∀ g, (Value.slice az zs.length cz).ownBlock = some g → w.heap.size + 2 ≤ g) := fun g hg => by have := hz g hg; have := HS0.out; omega
  clear hb1 hH hI HD hu hz
  go_wp2
  refine bodyPost_ret (v := .tuple #[.agg #[.int .i64 room, .slice au hs.length cu], .agg #[.int .i64 k, .int .i64 t, .slice az zs.length cz]]) (by simp [results, Tryd.results9, go_sem, *]) rfl ?_
  refine ⟨room, _, hs, k, t, _, zs, rfl, hl, hzl, ?_, ?_, ?_⟩
  · iterate 5 (refine Holds.setApart ?_ (fun g hg => by have := HU.out g hg; simp; omega) _)
    exact H1.out
  · iterate 5 (refine Ints.setApart ?_ (fun g hg => by have := HZ.out g hg; simp; omega) _)
    exact I1.out
  · iterate 5 (refine Below.setCell ?_ (by first | (simp; done) | (simp; omega)) _)
    exact B1.out

end Go.Proofs.YtcofnjooiemkfaaDoor

namespace Go.Proofs.YtcofnjooiemkfaaDoor
open Go.RowKit

namespace Pl
theorem sOk_more {room : Int} {hs : List H} (h : sOk room hs = true) (hr : room ≤ 8) : sOk (room + 1) hs = true := by
  obtain ⟨h1, h2, h3, h4⟩ := sOk_parts h
  have h5 := inB_true h2
  rw [sOk_mk h1 (inB_mk (by omega) (by omega)) h3]
  unfold free at *
  simp; omega
theorem free_more (room : Int) (hs : List H) : free (room + 1) hs = free room hs + 1 := by unfold free; omega
theorem next_more {h x : H} {k m F : Int} (e : next h k m F = some x) : next h k m (F + 1) = some x := by
  unfold next at *
  by_cases k1 : k = 1
  · simp only [k1, if_true] at *
    by_cases c : h.2 = 0 ∧ m ≤ F
    · rw [if_pos c] at e; rw [if_pos ⟨c.1, by omega⟩]; exact e
    · rw [if_neg c] at e; cases e
  · simp only [k1, if_false] at *; exact e
theorem behind_more {room : Int} {hs : List H} {k t : Int} {zs : List Int} {x : H} (hr : room ≤ 8) (e : behind room hs k t zs = some x) : behind (room + 1) hs k t zs = some x := by
  unfold behind at *
  by_cases c : sOk room hs = true ∧ recOk k t zs = true
  · rw [if_pos c] at e
    rw [if_pos ⟨sOk_more c.1 hr, c.2⟩, free_more]; exact next_more e
  · rw [if_neg c] at e; cases e
theorem sDo_more {room : Int} {hs hs' : List H} {k t : Int} {zs : List Int} (hr : room ≤ 8) (e : sDo room hs k t zs = some hs') : sDo (room + 1) hs k t zs = some hs' := by
  unfold sDo at *
  cases b : behind room hs k t zs with
  | none => rw [b] at e; cases e
  | some x => rw [b] at e; rw [behind_more hr b]; exact e
theorem sRun_more {room : Int} (hr : room ≤ 8) : ∀ (rs : List (Int × Int × List Int)) {hs hs' : List H}, sRun room rs hs = some hs' → sRun (room + 1) rs hs = some hs'
  | [], _, _, h => h
  | r :: t, hs, hs', h => by
    simp only [sRun] at h ⊢
    cases e : sDo room hs r.1 r.2.1 r.2.2 with
    | none => rw [e] at h; cases h
    | some h1 => rw [e] at h; rw [sDo_more hr e]; exact sRun_more hr t h
theorem sOf_more {room : Int} {rs : List (Int × Int × List Int)} {hs : List H} (hr : room ≤ 8) (h : sOf room rs = some hs) : sOf (room + 1) rs = some hs := by
  unfold sOf at *
  by_cases c : inB room 0 9 = true
  · rw [if_pos c] at h
    have := inB_true c
    rw [if_pos (inB_mk (by omega) (by omega))]; exact sRun_more hr rs h
  · rw [if_neg c] at h; cases h
end Pl

set_option maxRecDepth 100000 in
set_option maxHeartbeats 4000000 in
theorem drawOf_any (v : Value) (n : Nat) (w : World) (hv : CodeAt w v n) (hn : n ≤ 1048576) :
    Calls Tryd.prog 16 #[v] w fun e w' => ∃ (room : Int) (o : Value) (rs : List R), e = .returned (.tuple #[.int .i64 room, o]) ∧ 0 ≤ room ∧ room ≤ 7 ∧ tot rs ≤ 1000 ∧ Recs w' o rs ∧ Below w.heap.size w w' := by
  obtain ⟨i0, hi, hz0, hz1, hz2⟩ := info_parts infoRec
  have HO := hide_it (open_any v n w hv hn)
  obtain ⟨ao, cap, rfl, _⟩ := hv
  go_enter Tryd.func16, Tryd.ntmps16
  go_wp2_with fail
  refine HO.out.mono ?_
  rintro e w1 ⟨rfl, hr1, hs1, hb1⟩
  obtain ⟨b, hbb⟩ : ∃ b, Hid (b = w.heap.size) := ⟨_, rfl⟩
  rw [← hbb.out] at hr1 ⊢
  have hb1' : b < w1.heap.size := by rw [hbb.out, hs1]; omega
  have R1 := hide_it hr1
  have B1 := hide_it hb1
  clear hr1 hb1 hs1
  go_wp2_with fail
  refine (recs_draw b 0 _ R1.out (by omega)).mono ?_
  rintro e w2 ⟨room, o, ps, hs, q, rfl, lr, ur, hps, hrow, hall, hrun, hq, r2, m2⟩
  have C2 : Hid (RcS w1 w2 b q o ps) := ⟨hrow, hall, r2, m2, hb1'⟩
  obtain ⟨o2, c2, hos⟩ := row_shape hrow
  subst hos
  clear hrow hall hrun r2 m2
  go_wp2_with fail
  refine (pick_any b q 8 _ C2.out.rd (by omega) (by omega) (by omega)).mono ?_
  rintro e w3 ⟨y, rfl, ly, uy, r3, m3⟩
  have C3 := hide_it (C2.out.step m3 r3)
  clear r3 m3 C2
  have hBl : Hid (∀ W, Mid b (b + 1) w1 W → Below w.heap.size w W) := fun W hm => B1.out.trans (hm.below (by rw [hbb.out]; omega) B1.out.size)
  by_cases hy0 : y = 0
  · subst hy0
    go_wp2_with fail
    refine (rec_draw b (q + 1) _ C3.out.rd (by omega)).mono ?_
    rintro e w4 ⟨k, t, u, zs, q4, cap4, rfl, hz, hF, hqa, hqb, r4, m4⟩
    have C4 := hide_it (C3.out.step m4 r4)
    have F4 := hide_it (hF.mono (show w1.heap.size ≤ w3.heap.size from C3.out.mid.size))
    obtain ⟨g, off, hu⟩ : ∃ g off, u = .slice (some ⟨g, off, none⟩) zs.length cap4 := by obtain ⟨g, off, cs, h, _⟩ := hF; exact ⟨g, off, h⟩
    subst hu
    clear hF r4 m4 C3
    have hw14 : w1.heap.size ≤ w4.heap.size := C4.out.mid.size
    have ROW : Hid (∀ x, (w4.alloc x).ownsRow w1.heap.size 28 3 (.slice o2 ps.length c2) ps.length (flat ps)) := fun x => (C4.out.later (alloc_below _ x)).row
    go_wp2_with (at_builtin; refine wpList_append_own _ rfl _ _ 40 rfl w1.heap.size 28 i0 (.agg #[.int .i64 0, .int .i64 0, .slice none 0 0]) 3 40 Tryd.underlying40 hi hz0 hz1 hz2 rfl (by decide) (.slice o2 ps.length c2) ps.length (flat ps) rfl (ROW.out _) ⟨w4.heap.size, 0, none⟩ 1 1 [.int .i64 k, .int .i64 t, .slice (some ⟨g, off, none⟩) zs.length cap4] rfl rfl (news3 _ _ _ _ _) (one3 _ _ _) ?c3 ?c4 ?c5 ?_)
    case c3 => unfold maxLen; omega
    case c4 => omega
    case c5 => simp; omega
    intro v' w5 hown5 hgrow5 _
    have C5 := hide_it ((C4.out.later (alloc_below _ _)).push (r := (k, t, zs)) ⟨by simpa using hz, Or.inl ⟨cap4, F4.out.later (alloc_below _ _) (Nat.le_refl _)⟩⟩ hown5 hgrow5)
    clear hown5 hgrow5 ROW C4 F4
    go_wp2
    go_ret2
    obtain ⟨h1, h2⟩ := C5.out.out (by simp; omega)
    exact ⟨room, _, _, rfl, lr, by omega, h2, h1, hBl.out _ C5.out.mid⟩
  by_cases hy1 : y = 1
  · subst hy1
    go_wp2_with fail
    refine (pick_any b (q + 1) 4 _ C3.out.rd (by omega) (by omega) (by omega)).mono ?_
    rintro e w4 ⟨z, rfl, lz, uz, r4, m4⟩
    have C4 := hide_it (C3.out.step m4 r4)
    clear r4 m4
    go_wp2
    go_ret2
    obtain ⟨h1, h2⟩ := C4.out.out (by omega)
    exact ⟨z, _, _, rfl, lz, by omega, h2, h1, hBl.out _ C4.out.mid⟩
  · go_wp2
    go_ret2
    obtain ⟨h1, h2⟩ := C3.out.out (by omega)
    exact ⟨room, _, _, rfl, lr, by omega, h2, h1, hBl.out _ C3.out.mid⟩

end Go.Proofs.YtcofnjooiemkfaaDoor
