/- The draw of a room and records (DrawStockOf), and with more room there is more free. For codes of at most 1048576 bytes. -/
import Derived.Test.YthmbdboljjdcaaaDoorSRecs
import Derived.Test.YthmbdboljjdcaaaDoorDRec
namespace Go.Proofs.YthmbdboljjdcaaaDoor
open Go.RowKit

namespace Pl
theorem sOk_more {room : Int} {hs : List H} (h : sOk room hs = true) (hr : room ≤ 8) : sOk (room + 1) hs = true := by
  obtain ⟨h1, h2, h3, h4⟩ := sOk_parts h
  have h5 := inB_true h2
  rw [sOk_mk h1 (inB_mk (by omega) (by omega)) h3]
  unfold free at *
  simp; omega
theorem free_more (room : Int) (hs : List H) : free (room + 1) hs = free room hs + 1 := by unfold free; omega
theorem next_more {h x : H} {k m F : Int} (e : next h k m F = some x) : next h k m (F + 1) = some x := by
  unfold next at *
  by_cases k1 : k = 1
  · simp only [k1, if_true] at *
    by_cases c : h.2 = 0 ∧ m ≤ F
    · rw [if_pos c] at e; rw [if_pos ⟨c.1, by omega⟩]; exact e
    · rw [if_neg c] at e; cases e
  · simp only [k1, if_false] at *; exact e
theorem behind_more {room : Int} {hs : List H} {k t : Int} {zs : List Int} {x : H} (hr : room ≤ 8) (e : behind room hs k t zs = some x) : behind (room + 1) hs k t zs = some x := by
  unfold behind at *
  by_cases c : sOk room hs = true ∧ recOk k t zs = true
  · rw [if_pos c] at e
    rw [if_pos ⟨sOk_more c.1 hr, c.2⟩, free_more]; exact next_more e
  · rw [if_neg c] at e; cases e
theorem sDo_more {room : Int} {hs hs' : List H} {k t : Int} {zs : List Int} (hr : room ≤ 8) (e : sDo room hs k t zs = some hs') : sDo (room + 1) hs k t zs = some hs' := by
  unfold sDo at *
  cases b : behind room hs k t zs with
  | none => rw [b] at e; cases e
  | some x => rw [b] at e; rw [behind_more hr b]; exact e
theorem sRun_more {room : Int} (hr : room ≤ 8) : ∀ (rs : List (Int × Int × List Int)) {hs hs' : List H}, sRun room rs hs = some hs' → sRun (room + 1) rs hs = some hs'
  | [], _, _, h => h
  | r :: t, hs, hs', h => by
    simp only [sRun] at h ⊢
    cases e : sDo room hs r.1 r.2.1 r.2.2 with
    | none => rw [e] at h; cases h
    | some h1 => rw [e] at h; rw [sDo_more hr e]; exact sRun_more hr t h
theorem sOf_more {room : Int} {rs : List (Int × Int × List Int)} {hs : List H} (hr : room ≤ 8) (h : sOf room rs = some hs) : sOf (room + 1) rs = some hs := by
  unfold sOf at *
  by_cases c : inB room 0 9 = true
  · rw [if_pos c] at h
    have := inB_true c
    rw [if_pos (inB_mk (by omega) (by omega))]; exact sRun_more hr rs h
  · rw [if_neg c] at h; cases h
theorem sRun_ok {room : Int} : ∀ (rs : List (Int × Int × List Int)) {hs hs' : List H}, sOk room hs = true → sRun room rs hs = some hs' → sOk room hs' = true
  | [], _, _, h0, h => by simp [sRun] at h; rw [← h]; exact h0
  | r :: t, hs, hs', h0, h => by
    simp only [sRun] at h
    cases e : sDo room hs r.1 r.2.1 r.2.2 with
    | none => rw [e] at h; cases h
    | some h1 => rw [e] at h; exact sRun_ok t (sDo_keeps e) h
theorem sOf_ok {room : Int} {rs : List (Int × Int × List Int)} {hs : List H} (h : sOf room rs = some hs) : sOk room hs = true := by
  unfold sOf at h
  by_cases c : inB room 0 9 = true
  · rw [if_pos c] at h; exact sRun_ok rs (new_ok room c) h
  · rw [if_neg c] at h; cases h
end Pl

/-- Records that a draw has made, and the reader. -/
structure RcS (w W : World) (b q : Nat) (o : Value) (ps : List (R × Value)) : Prop where
  row : W.ownsRow w.heap.size 28 3 o ps.length (flat ps)
  all : ∀ p ∈ ps, Good W w.heap.size p
  rd : Rd W b q
  mid : Mid b (b + 1) w W
  low : b < w.heap.size
theorem RcS.step {w W W' : World} {b q q' : Nat} {o : Value} {ps : List (R × Value)} (h : RcS w W b q o ps) (hb : Mid b (b + 1) W W') (hr : Rd W' b q') : RcS w W' b q' o ps :=
  ⟨ownsRow_mid h.row hb (fun k hk => Or.inr (by have := (rowB_at h.row k hk).1; have := h.low; omega)), fun p hp => (h.all p hp).step h.rd hb, hr, h.mid.trans hb, h.low⟩
theorem RcS.later {w W W' : World} {b q : Nat} {o : Value} {ps : List (R × Value)} (h : RcS w W b q o ps) (hb : Below W.heap.size W W') : RcS w W' b q o ps :=
  h.step (Mid.of_below hb (Nat.le_refl _)) (h.rd.later hb (Nat.le_refl _))
theorem RcS.push {w W w4 : World} {b q : Nat} {o o' : Value} {ps : List (R × Value)} {r : R} {x : Value} (h : RcS w W b q o ps) (hg : Good W w.heap.size (r, x))
    (hown : w4.ownsRow w.heap.size 28 3 o' (ps.length + 1) (flat ps ++ [.int .i64 r.1, .int .i64 r.2.1, x])) (hgr : W.grownBy w4 o.ownBlock) : RcS w w4 b q o' (ps ++ [(r, x)]) := by
  have hl := h.low
  have hblk : ∀ k, k < W.heap.size → (∀ cs, W.heap[k]? ≠ some (.cells cs 28 (0, 0))) → w4.heap[k]? = W.heap[k]? := fun k hk hn => hgr.block k hk (fun e => by
    obtain ⟨cs, hh⟩ := (rowB_at h.row k e.symm).2
    exact hn cs hh)
  have hws : w.heap.size ≤ W.heap.size := h.mid.size
  have hlow : ∀ k, k < w.heap.size → w4.heap[k]? = W.heap[k]? := fun k hk => hgr.block k (by omega) (fun e => by have := (rowB_at h.row k e.symm).1; omega)
  have hrd : Rd w4 b q := by
    obtain ⟨y, n, hn, h1, h2⟩ := h.rd
    exact ⟨y, n, hn, by rw [hlow b hl]; exact h1, h2.mid (fun k hk => hlow k (by omega))⟩
  have hmid : Mid b (b + 1) w w4 := ⟨hgr.os.trans h.mid.os, hgr.tape.trans h.mid.tape, hgr.output.trans h.mid.output, Nat.le_trans h.mid.size hgr.size, fun k hk hh => (hlow k hk).trans (h.mid.block k hk hh)⟩
  refine ⟨by rw [flat_append, List.length_append]; exact hown, fun p hp => ?_, hrd, hmid, hl⟩
  have hgood : Good W w.heap.size p := by
    rcases List.mem_append.1 hp with hp | hp
    · exact h.all p hp
    · simp at hp; subst hp; exact hg
  exact hgood.keep fun g cs hh => hblk g (heap_lt hh) (fun cs' e => by rw [hh] at e; simp at e)
theorem RcS.out {w W : World} {b q : Nat} {o : Value} {ps : List (R × Value)} (h : RcS w W b q o ps) (hp : ps.length ≤ 60) : Recs W o (ps.map (·.1)) ∧ tot (ps.map (·.1)) ≤ 1000 :=
  ⟨recs_rows h.row h.all, tot_small ps hp (fun x hx => (h.all x hx).1)⟩

set_option maxRecDepth 100000 in
set_option maxHeartbeats 4000000 in
theorem drawOf_any (v : Value) (n : Nat) (w : World) (hv : CodeAt w v n) (hn : n ≤ 1048576) :
    Calls Tryd.prog 11 #[v] w fun e w' => ∃ (room : Int) (o : Value) (rs : List R), e = .returned (.tuple #[.int .i64 room, o]) ∧ 0 ≤ room ∧ room ≤ 7 ∧ tot rs ≤ 1000 ∧ Recs w' o rs ∧ Below w.heap.size w w' := by
  obtain ⟨i0, hi, hz0, hz1, hz2⟩ := info_parts infoRec
  have HO := hide_it (open_any v n w hv hn)
  obtain ⟨ao, cap, rfl, _⟩ := hv
  go_enter Tryd.func11, Tryd.ntmps11
  go_wp2_with fail
  refine HO.out.mono ?_
  rintro e w1 ⟨rfl, hr1, hs1, hb1⟩
  obtain ⟨b, hbb⟩ : ∃ b, Hid (b = w.heap.size) := ⟨_, rfl⟩
  rw [← hbb.out] at hr1 ⊢
  have hb1' : b < w1.heap.size := by rw [hbb.out, hs1]; omega
  have R1 := hide_it hr1
  have B1 := hide_it hb1
  clear hr1 hb1 hs1
  go_wp2_with fail
  refine (recs_draw b 0 _ R1.out (by omega)).mono ?_
  rintro e w2 ⟨room, o, ps, hs, q, rfl, lr, ur, hps, hrow, hall, hrun, hq, r2, m2⟩
  have C2 : Hid (RcS w1 w2 b q o ps) := ⟨hrow, hall, r2, m2, hb1'⟩
  obtain ⟨o2, c2, hos⟩ := row_shape hrow
  subst hos
  clear hrow hall hrun r2 m2
  go_wp2_with fail
  refine (pick_any b q 8 _ C2.out.rd (by omega) (by omega) (by omega)).mono ?_
  rintro e w3 ⟨y, rfl, ly, uy, r3, m3⟩
  have C3 := hide_it (C2.out.step m3 r3)
  clear r3 m3 C2
  have hBl : Hid (∀ W, Mid b (b + 1) w1 W → Below w.heap.size w W) := fun W hm => B1.out.trans (hm.below (by rw [hbb.out]; omega) B1.out.size)
  by_cases hy0 : y = 0
  · subst hy0
    go_wp2_with fail
    refine (rec_draw b (q + 1) _ C3.out.rd (by omega)).mono ?_
    rintro e w4 ⟨k, t, u, zs, q4, cap4, rfl, hz, hF, hqa, hqb, r4, m4⟩
    have C4 := hide_it (C3.out.step m4 r4)
    have F4 := hide_it (hF.mono (show w1.heap.size ≤ w3.heap.size from C3.out.mid.size))
    obtain ⟨g, off, hu⟩ : ∃ g off, u = .slice (some ⟨g, off, none⟩) zs.length cap4 := by obtain ⟨g, off, cs, h, _⟩ := hF; exact ⟨g, off, h⟩
    subst hu
    clear hF r4 m4 C3
    have hw14 : w1.heap.size ≤ w4.heap.size := C4.out.mid.size
    have ROW : Hid (∀ x, (w4.alloc x).ownsRow w1.heap.size 28 3 (.slice o2 ps.length c2) ps.length (flat ps)) := fun x => (C4.out.later (alloc_below _ x)).row
    go_wp2_with (at_builtin; refine wpList_append_own _ rfl _ _ 38 rfl w1.heap.size 28 i0 (.agg #[.int .i64 0, .int .i64 0, .slice none 0 0]) 3 40 Tryd.underlying38 hi hz0 hz1 hz2 rfl (by decide) (.slice o2 ps.length c2) ps.length (flat ps) rfl (ROW.out _) ⟨w4.heap.size, 0, none⟩ 1 1 [.int .i64 k, .int .i64 t, .slice (some ⟨g, off, none⟩) zs.length cap4] rfl rfl (news3 _ _ _ _ _) (one3 _ _ _) ?c3 ?c4 ?c5 ?_)
    case c3 => unfold maxLen; omega
    case c4 => omega
    case c5 => simp; omega
    intro v' w5 hown5 hgrow5 _
    have C5 := hide_it ((C4.out.later (alloc_below _ _)).push (r := (k, t, zs)) ⟨by simpa using hz, Or.inl ⟨cap4, F4.out.later (alloc_below _ _) (Nat.le_refl _)⟩⟩ hown5 hgrow5)
    clear hown5 hgrow5 ROW C4 F4
    go_wp2
    go_ret2
    obtain ⟨h1, h2⟩ := C5.out.out (by simp; omega)
    exact ⟨room, _, _, rfl, lr, by omega, h2, h1, hBl.out _ C5.out.mid⟩
  by_cases hy1 : y = 1
  · subst hy1
    go_wp2_with fail
    refine (pick_any b (q + 1) 4 _ C3.out.rd (by omega) (by omega) (by omega)).mono ?_
    rintro e w4 ⟨z, rfl, lz, uz, r4, m4⟩
    have C4 := hide_it (C3.out.step m4 r4)
    clear r4 m4
    go_wp2
    go_ret2
    obtain ⟨h1, h2⟩ := C4.out.out (by omega)
    exact ⟨z, _, _, rfl, lz, by omega, h2, h1, hBl.out _ C4.out.mid⟩
  · go_wp2
    go_ret2
    obtain ⟨h1, h2⟩ := C3.out.out (by omega)
    exact ⟨room, _, _, rfl, lr, by omega, h2, h1, hBl.out _ C3.out.mid⟩

end Go.Proofs.YthmbdboljjdcaaaDoor
