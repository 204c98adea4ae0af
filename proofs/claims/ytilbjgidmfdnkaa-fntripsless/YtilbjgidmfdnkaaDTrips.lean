/- The draw of records of a desk (l71Trips): some records, in memory of the draw's own. For readers that picked at most 700000 times. -/
import Derived.Test.YtilbjgidmfdnkaaDGood
import Derived.Test.YtilbjgidmfdnkaaTSpec5
import Derived.Deep.AppendLies
import Derived.Deep.CutBlock
import Derived.Deep.DeepCutAuto
namespace Go.Proofs.Ytilbjgidmfdnkaa
open Go.RowKit

theorem T.Made.mid {W W' : World} {lo b : Nat} {v : Value} {rs : List T.R} (h : T.Made W lo v rs) (hb : Mid b (b + 1) W W') (hl : b < lo) : T.Made W' lo v rs := by
  obtain ⟨ps, hp, h1, h2, h3⟩ := h
  obtain ⟨g1, g2, g3⟩ := T.OwnRecs.mid ⟨h1, h2, h3⟩ hb (by omega)
  exact ⟨ps, hp, g1, fun k hk => Nat.lt_of_lt_of_le (g2 k hk) hb.size, g3.mono hb.size (Nat.le_refl _)⟩
/-- A store into a record's block leaves lists of trips that the call made. -/
theorem T.Made.setRec {W : World} {lo X i : Nat} {cs : Array Value} {v : Value} {rs : List T.R} (h : T.Made W lo v rs) (hX : W.heap[X]? = some (.cells cs 45 (0, 0))) (x : Value) : T.Made (W.setCell ⟨X, i, Option.none⟩ x) lo v rs := by
  obtain ⟨ps, hp, h1, h2, h3⟩ := h
  have hs : (W.setCell ⟨X, i, Option.none⟩ x).heap.size = W.heap.size := by simp
  refine ⟨ps, hp, ownsRow_setCell_ne h1 (row_apart h1 hX (by decide)) x, by rw [hs]; exact h2, ?_⟩
  rw [hs]
  exact ⟨by rw [hs]; exact h3.1, fun p hp => ⟨ownsRow_setCell_ne (h3.2.1 p hp).1 (row_apart (h3.2.1 p hp).1 hX (by decide)) x, (h3.2.1 p hp).2⟩, h3.2.2⟩

/-- While records of a desk are drawn: the trips so far, the records so far, the reader. -/
structure StT (w W : World) (b q : Nat) (lv : Value) (rs : List T.R) (o : Value) (ps : List (R × Value)) : Prop where
  trp : T.Made W w.heap.size lv rs
  fit : T.Fit rs
  row : W.ownsRow w.heap.size 45 3 o ps.length (flat ps)
  all : ∀ p ∈ ps, Good W w.heap.size p
  rd : Rd W b q
  mid : Mid b (b + 1) w W
  low : b < w.heap.size

theorem StT.step {w W W' : World} {b q q' : Nat} {lv : Value} {rs : List T.R} {o : Value} {ps : List (R × Value)} (h : StT w W b q lv rs o ps) (hb : Mid b (b + 1) W W') (hr : Rd W' b q') : StT w W' b q' lv rs o ps :=
  ⟨h.trp.mid hb h.low, h.fit,
    ownsRow_mid h.row hb (fun k hk => Or.inr (by have := (rowB_at h.row k hk).1; have := h.low; omega)),
    fun p hp => (h.all p hp).step h.rd hb, hr, h.mid.trans hb, h.low⟩
theorem StT.later {w W W' : World} {b q : Nat} {lv : Value} {rs : List T.R} {o : Value} {ps : List (R × Value)} (h : StT w W b q lv rs o ps) (hb : Below W.heap.size W W') : StT w W' b q lv rs o ps :=
  h.step (Mid.of_below hb (Nat.le_refl _)) (h.rd.later hb (Nat.le_refl _))
theorem StT.setX {w W : World} {b q X i : Nat} {cs : Array Value} {lv : Value} {rs : List T.R} {o : Value} {ps : List (R × Value)} (h : StT w W b q lv rs o ps) (hX : W.heap[X]? = some (.cells cs 45 (0, 0))) (hw : w.heap.size ≤ X) (hO : ∀ g, o.ownBlock = some g → g < X) (x : Value) : StT w (W.setCell ⟨X, i, none⟩ x) b q lv rs o ps := by
  have hl := h.low
  refine ⟨h.trp.setRec hX x, h.fit, ?_, ?_, h.rd.setApart (by omega) _, h.mid.setNew hw _, hl⟩
  · exact ownsRow_setCell_ne h.row (fun g hg => by have := hO g hg; simp; omega) _
  · exact fun p hp => (h.all p hp).keep fun g cs hh => Below.heap_setCell _ _ _ _ (ne_of_type hh hX (by decide))
theorem StT.ob {w W : World} {b q : Nat} {lv : Value} {rs : List T.R} {o : Value} {ps : List (R × Value)} (h : StT w W b q lv rs o ps) : ∀ g, o.ownBlock = some g → g < W.heap.size := fun g hg => by
  obtain ⟨cs, hh⟩ := (rowB_at h.row g hg).2; exact heap_lt hh
/-- Other trips. -/
theorem StT.trips {w W : World} {b q : Nat} {lv lv' : Value} {rs rs' : List T.R} {o : Value} {ps : List (R × Value)} (h : StT w W b q lv rs o ps) (hm : T.Made W w.heap.size lv' rs') (hf : T.Fit rs') : StT w W b q lv' rs' o ps :=
  ⟨hm, hf, h.row, h.all, h.rd, h.mid, h.low⟩
/-- One record more. -/
theorem StT.push {w W w4 : World} {b q : Nat} {lv : Value} {rs : List T.R} {o o' : Value} {ps : List (R × Value)} {r : R} {x : Value} (h : StT w W b q lv rs o ps) (hg : Good W w.heap.size (r, x))
    (hown : w4.ownsRow w.heap.size 45 3 o' (ps.length + 1) (flat ps ++ [.int .i64 r.1, .int .i64 r.2.1, x])) (hgr : W.grownBy w4 o.ownBlock) : StT w w4 b q lv rs o' (ps ++ [(r, x)]) := by
  have hl := h.low
  have hsz := h.mid.size
  have hblk : ∀ k, k < W.heap.size → (∀ cs, W.heap[k]? ≠ some (.cells cs 45 (0, 0))) → w4.heap[k]? = W.heap[k]? := fun k hk hn => hgr.block k hk (fun e => by
    obtain ⟨cs, hh⟩ := (rowB_at h.row k e.symm).2
    exact hn cs hh)
  have hlow : ∀ k, k < w.heap.size → w4.heap[k]? = W.heap[k]? := fun k hk => hgr.block k (by omega) (fun e => by have := (rowB_at h.row k e.symm).1; omega)
  have hrd : Rd w4 b q := by
    obtain ⟨y, n, hn, h1, h2⟩ := h.rd
    exact ⟨y, n, hn, by rw [hlow b hl]; exact h1, h2.mid (fun k hk => hlow k (by omega))⟩
  have hmid : Mid b (b + 1) w w4 := ⟨hgr.os.trans h.mid.os, hgr.tape.trans h.mid.tape, hgr.output.trans h.mid.output, Nat.le_trans h.mid.size hgr.size, fun k hk hh => (hlow k hk).trans (h.mid.block k hk hh)⟩
  have row4 : ∀ {e : TypeId} {size : Nat} {v : Value} {n : Nat} {xs : List Value}, e ≠ 45 → W.ownsRow w.heap.size e size v n xs → w4.ownsRow w.heap.size e size v n xs := fun he hr => by
    refine hr.kept hgr ?_
    cases hv : (Value.ownBlock _) with
    | none => exact Or.inl rfl
    | some g =>
      refine Or.inr fun e => ?_
      obtain ⟨cs, hh⟩ := (rowB_at hr g hv).2
      obtain ⟨cs', hh'⟩ := (rowB_at h.row g e.symm).2
      exact ne_of_type hh hh' he rfl
  refine ⟨?_, h.fit, ?_, ?_, hrd, hmid, hl⟩
  · obtain ⟨qs, hp, g1, g2, g3⟩ := h.trp
    exact ⟨qs, hp, row4 (by decide) g1, fun k hk => Nat.lt_of_lt_of_le (g2 k hk) hgr.size, Nat.le_refl _, fun p hp => ⟨row4 (by decide) (g3.2.1 p hp).1, fun k hk => Nat.lt_of_lt_of_le ((g3.2.1 p hp).2 k hk) hgr.size⟩, g3.2.2⟩
  · rw [flat_append, List.length_append]; exact hown
  · intro p hp
    have hgood : Good W w.heap.size p := by
      rcases List.mem_append.1 hp with hp | hp
      · exact h.all p hp
      · simp at hp; subst hp; exact hg
    exact hgood.keep fun g cs hh => hblk g (heap_lt hh) (fun cs' e => by rw [hh] at e; simp at e)

/-- The record of a round lies in its block. -/
structure BoxT (w W : World) (X : Nat) (r : R) (u : Value) (o : Value) : Prop where
  own : W.heap[X]? = some (.cells #[.int .i64 r.1, .int .i64 r.2.1, u] 45 (0, 0))
  new : w.heap.size ≤ X
  far : ∀ g, o.ownBlock = some g → g < X
  many : Good W w.heap.size (r, u)
  sl : ∃ a n c, u = .slice a n c

theorem BoxT.later {w W W' : World} {X : Nat} {r : R} {u o : Value} (h : BoxT w W X r u o) (hb : Below W.heap.size W W') : BoxT w W' X r u o :=
  ⟨rowS_later h.own hb (Nat.le_refl _), h.new, h.far, h.many.keep fun g _ hh => hb.block g (heap_lt hh), h.sl⟩
theorem BoxT.mid {w W W' : World} {b q X : Nat} {r : R} {u o : Value} (h : BoxT w W X r u o) (hb : Mid b (b + 1) W W') (hr : Rd W b q) (hl : b < w.heap.size) : BoxT w W' X r u o :=
  ⟨rowS_mid h.own hb (by have := h.new; omega), h.new, h.far, h.many.step hr hb, h.sl⟩
/-- Another record, without numbers, is put into the block. -/
theorem BoxT.turn {w W : World} {b q X Y : Nat} {r : R} {u o lv : Value} {rs : List T.R} {ps : List (R × Value)} (h : BoxT w W X r u o) (hs : StT w W b q lv rs o ps) (k t : Int) (hY : W.heap.size = Y) :
    StT w ((((W.setCell ⟨X, 0, none⟩ (.int .i64 k)).setCell ⟨X, 1, none⟩ (.int .i64 t)).setCell ⟨X, 2, none⟩ (.slice (some ⟨Y, 0, none⟩) 0 0)).alloc (.cells #[] 3)) b q lv rs o ps ∧
    BoxT w ((((W.setCell ⟨X, 0, none⟩ (.int .i64 k)).setCell ⟨X, 1, none⟩ (.int .i64 t)).setCell ⟨X, 2, none⟩ (.slice (some ⟨Y, 0, none⟩) 0 0)).alloc (.cells #[] 3)) X (k, t, []) (.slice (some ⟨Y, 0, none⟩) 0 0) o := by
  have e0 : Blk W X #[.int .i64 r.1, .int .i64 r.2.1, u] 45 := h.own
  have e1 := e0.set_ 0 (.int .i64 k)
  have e2 := e1.set_ 1 (.int .i64 t)
  have e3 := e2.set_ 2 (.slice (some ⟨Y, 0, none⟩) 0 0)
  have s1 := hs.setX (i := 0) e0 h.new h.far (.int .i64 k)
  have s2 := s1.setX (i := 1) e1 h.new h.far (.int .i64 t)
  have s3 := s2.setX (i := 2) e2 h.new h.far (.slice (some ⟨Y, 0, none⟩) 0 0)
  have hsz : (((W.setCell ⟨X, 0, none⟩ (.int .i64 k)).setCell ⟨X, 1, none⟩ (.int .i64 t)).setCell ⟨X, 2, none⟩ (.slice (some ⟨Y, 0, none⟩) 0 0)).heap.size = Y := by simp [hY]
  refine ⟨s3.later (alloc_below _ _), ⟨(e3.alloc _ : Blk _ _ _ _), h.new, h.far, ⟨by simp, Or.inl ⟨0, ?_⟩⟩, ⟨_, _, _, rfl⟩⟩⟩
  have := fresh0 (((W.setCell ⟨X, 0, none⟩ (.int .i64 k)).setCell ⟨X, 1, none⟩ (.int .i64 t)).setCell ⟨X, 2, none⟩ (.slice (some ⟨Y, 0, none⟩) 0 0)) w.heap.size (by rw [hsz, ← hY]; exact hs.mid.size)
  rw [hsz] at this
  exact this

/-- What comes out of the draw. -/
def TripsGot (w w' : World) (e : Ending) (b p : Nat) : Prop :=
  ∃ (o : Value) (ps : List (R × Value)) (q : Nat), e = .returned o ∧ ps.length ≤ 13 ∧
    w'.ownsRow w.heap.size 45 3 o ps.length (flat ps) ∧ (∀ x ∈ ps, Good w' w.heap.size x) ∧ q ≤ p + 100 ∧ Rd w' b q ∧ Mid b (b + 1) w w'

set_option maxRecDepth 100000 in
set_option maxHeartbeats 8000000 in
theorem trips_draw (b p : Nat) (w : World) (h : Rd w b p) (hp : p ≤ 700000) :
    Calls Try.prog 16 #[.pointer (some ⟨b, 0, none⟩)] w fun e w' => TripsGot w w' e b p := by
  obtain ⟨i0, hi, hz0, hz1, hz2⟩ := info_parts infoRec
  have hblt := h.lt
  obtain ⟨w0, hw0⟩ : ∃ W, Hid (W = (w.alloc (.cells #[] 45)).alloc (.cells #[] 28)) := ⟨_, rfl⟩
  have S0 : Hid (StT w w0 b p (.slice (some ⟨w.heap.size + 1, 0, none⟩) 0 0) [] (.slice (some ⟨w.heap.size, 0, none⟩) 0 0) []) := by
    show StT _ _ _ _ _ _ _ _
    have b2 : Below w.heap.size w w0 := by rw [hw0.out]; exact below2 w _ _
    have m1 := T.Made.lit (w.alloc (.cells #[] 45)) w.heap.size (by simp)
    rw [size1] at m1
    refine ⟨by rw [hw0.out]; exact m1, T.Fit.nil, ?_, fun p hp => by simp at hp, h.later b2 (Nat.le_refl _), Mid.of_below b2 (Nat.le_refl _), hblt⟩
    refine row_empty _ _ _ ?_ (Nat.le_refl _)
    rw [hw0.out, Below.heap_alloc _ _ _ (by simp)]
    exact heap_alloc_new w _
  clear h
  go_enter Try.func16, Try.ntmps16
  go_wp2_with fail
  rw [← hw0.out]
  refine (pick_any b p 14 _ S0.out.rd (by omega) (by omega) (by omega)).mono ?_
  rintro e w1 ⟨n0, rfl, ln, un, r1, m1⟩
  have S1 := hide_it (S0.out.step m1 r1)
  clear r1 m1
  obtain ⟨N, hN⟩ : ∃ N : Nat, n0 = (N : Int) := ⟨n0.toNat, by omega⟩
  subst hN
  go_wp2
  go_loopw [3, 4, 5] (fun o lv nv wr => ∃ (m q : Nat) (ao al : Option Addr) (co cl : Nat) (rs : List T.R) (ps : List (R × Value)), m ≤ 13 ∧ nv = .int .i64 m ∧ o = .slice ao ps.length co ∧ lv = .slice al rs.length cl ∧ ps.length + m ≤ 13 ∧ q ≤ p + 1 + 7 * (13 - m) ∧ Hid (StT w wr b q lv rs o ps)) (fun _ _ nv _ => (intOf nv).toNat)
  case atStart => exact ⟨N, p + 1, _, _, _, _, [], [], by omega, rfl, rfl, rfl, by simp; omega, by omega, S1⟩
  case round =>
    obtain ⟨m, q, ao, al, co, cl, rs, ps, hm, rfl, rfl, rfl, hpm, hq, HS⟩ := hrel
    by_cases hm0 : m = 0
    · subst hm0
      go_wp2
      go_ret
      exact ⟨_, ps, q, rfl, by omega, HS.out.row, HS.out.all, by omega, HS.out.rd, HS.out.mid⟩
    have hn6 := HS.out.fit.1
    have hmi : 0 < (m : Int) := by omega
    go_wp2_with fail
    refine (pick_any b q 2 _ HS.out.rd (by omega) (by omega) (by omega)).mono ?_
    rintro e w2 ⟨x2, rfl, l2, u2, r2, m2⟩
    have S2 := hide_it (HS.out.step m2 r2)
    clear r2 m2
    go_wp2_with fail
    refine (pick_any b (q + 1) 3 _ S2.out.rd (by omega) (by omega) (by omega)).mono ?_
    rintro e w3 ⟨x3, rfl, l3, u3, r3, m3⟩
    have S3 := hide_it (S2.out.step m3 r3)
    clear r3 m3
    go_wp2_with fail
    refine (pick_any b (q + 1 + 1) 2 _ S3.out.rd (by omega) (by omega) (by omega)).mono ?_
    rintro e w4 ⟨x4, rfl, l4, u4, r4, m4⟩
    have S4 := hide_it (S3.out.step m4 r4)
    clear r4 m4
    obtain ⟨Z, hZ⟩ : ∃ Z, Hid (w4.heap.size = Z) := ⟨_, rfl⟩
    obtain ⟨w5, hw5⟩ : ∃ W, Hid (W = (w4.alloc (.cells #[.int .i64 (1 + x2), .int .i64 x3, .int .i64 x4] 3)).alloc (.cells #[.int .i64 4, .int .i64 ((rs.length : Int) + 1), .slice (some ⟨Z, 0, none⟩) 3 3] 45)) := ⟨_, rfl⟩
    have b5 : Below w4.heap.size w4 w5 := by rw [hw5.out]; exact below2 w4 _ _
    have S5 := hide_it (S4.out.later b5)
    have hwZ : w.heap.size ≤ Z := by rw [← hZ.out]; exact S4.out.mid.size
    have X5 : Hid (BoxT w w5 (Z + 1) (4, (rs.length : Int) + 1, [1 + x2, x3, x4]) (.slice (some ⟨Z, 0, none⟩) 3 3) (.slice ao ps.length co)) := by
      refine ⟨?_, by omega, fun g hg => ?_, ⟨by simp, Or.inl ⟨3, ?_⟩⟩, ⟨_, _, _, rfl⟩⟩
      · rw [hw5.out, ← hZ.out]
        have := heap_alloc_new (w4.alloc (.cells #[.int .i64 (1 + x2), .int .i64 x3, .int .i64 x4] 3)) (.cells #[.int .i64 4, .int .i64 ((rs.length : Int) + 1), .slice (some ⟨Z, 0, none⟩) 3 3] 45)
        rw [size1] at this
        rw [hZ.out] at this ⊢; exact this
      · have := S4.out.ob g hg; have := hZ.out; omega
      · rw [hw5.out, ← hZ.out]
        exact ((Row3.new w4 _ _ _).later (alloc_below _ _) (Nat.le_refl _)).fresh S4.out.mid.size
    clear b5
    by_cases hrs : ¬ 0 < (rs.length : Int)
    · go_upto_region 9 with fail
      rw [hZ.out, ← hw5.out]
      have HDO := hide_it (T.specDo_any (.slice al rs.length cl) rs (4, (rs.length : Int) + 1, [1 + x2, x3, x4]) (.slice (some ⟨Z, 0, none⟩) 3 3) w5 S5.out.trp.recs S5.out.fit.tot X5.out.many.ints (by simp))
      have FO := hide_it (T.doO_fit rs (4, (rs.length : Int) + 1, [1 + x2, x3, x4]))
      obtain ⟨x0, x1, x2c⟩ := Blk.cells3 X5.out.own
      obtain ⟨OO, hOO⟩ : ∃ x, T.doO rs (4, (rs.length : Int) + 1, [1 + x2, x3, x4]) = x := ⟨_, rfl⟩
      obtain ⟨BB, hBB⟩ : ∃ x, T.tMay rs (4, (rs.length : Int) + 1, [1 + x2, x3, x4]) = x := ⟨_, rfl⟩
      rw [hOO, hBB] at HDO
      rw [hOO] at FO
      clear hOO hBB
      go_wp2_with fail
      refine HDO.out.mono ?_
      rintro e w9 ⟨a9, c9, rfl, hm9, hb9⟩
      have S9 := hide_it (S5.out.later hb9)
      have X9 := hide_it (X5.out.later hb9)
      have M9 := hide_it (hm9.lo S5.out.mid.size)
      clear hm9 hb9 x0 x1 x2c
      cases BB
      · go_wp2_with fail
        go_roundw
        case rel => exact ⟨m - 1, q + 3, ao, al, co, cl, rs, ps, by omega, by go_num, rfl, rfl, by omega, by omega, S9⟩
        case measure => simp [intOf]; omega
      · have S10 := hide_it (S9.out.trips M9.out FO.out)
        obtain ⟨x0, x1, x2c⟩ := Blk.cells3 X9.out.own
        have ROW : Hid (∀ o, (w9.alloc o).ownsRow w.heap.size 45 3 (.slice ao ps.length co) ps.length (flat ps)) := fun o => (S10.out.row).alloc o
        have hw9 : w.heap.size ≤ w9.heap.size := S10.out.mid.size
        go_wp2_with (at_builtin; refine wpList_append_own _ rfl _ _ 42 rfl w.heap.size 45 i0 (.agg #[.int .i64 0, .int .i64 0, .slice none 0 0]) 3 40 Try.underlying42 hi hz0 hz1 hz2 rfl (by decide) (.slice ao ps.length co) ps.length (flat ps) rfl (ROW.out _) ⟨w9.heap.size, 0, none⟩ 1 1 [.int .i64 (4), .int .i64 ((rs.length : Int) + 1), (.slice (some ⟨Z, 0, none⟩) 3 3)] rfl rfl (news3 _ _ _ _ _) (one3 _ _ _) ?c3 ?c4 ?c5 ?_)
        case c3 => unfold maxLen; omega
        case c4 => omega
        case c5 => simp; omega
        intro v' w12 hown12 hgrow12 _
        have S12 := hide_it ((S10.out.later (alloc_below _ _)).push (r := (4, (rs.length : Int) + 1, [1 + x2, x3, x4])) (X9.out.many.keep fun g _ hh => (alloc_below _ _).block g (heap_lt hh)) hown12 hgrow12)
        obtain ⟨a12, c12, hv12⟩ := row_shape hown12
        rw [hv12] at S12
        subst hv12
        clear hown12 hgrow12 ROW
        go_wp2_with fail
        go_roundw
        case rel => exact ⟨m - 1, q + 3, a12, a9, c12, c9, OO, _, by omega, by go_num, by simp, rfl, by simp; omega, by omega, S12⟩
        case measure => simp [intOf]; omega
    · have hrs1 : 0 < (rs.length : Int) := by omega
      go_wp2_with fail
      rw [hZ.out, ← hw5.out]
      refine (pick_any b (q + 1 + 1 + 1) 3 _ S5.out.rd (by omega) (by omega) (by omega)).mono ?_
      rintro e w6 ⟨x6, rfl, l6, u6', r6, m6⟩
      have S6 := hide_it (S5.out.step m6 r6)
      have X6 := hide_it (X5.out.mid m6 S5.out.rd S5.out.low)
      clear r6 m6
      by_cases h6 : ¬ 0 < x6
      · have h60 : x6 = 0 := by omega
        subst h60
        go_upto_region 9 with fail
        have HDO := hide_it (T.specDo_any (.slice al rs.length cl) rs (4, (rs.length : Int) + 1, [1 + x2, x3, x4]) (.slice (some ⟨Z, 0, none⟩) 3 3) w6 S6.out.trp.recs S6.out.fit.tot X6.out.many.ints (by simp))
        have FO := hide_it (T.doO_fit rs (4, (rs.length : Int) + 1, [1 + x2, x3, x4]))
        obtain ⟨x0, x1, x2c⟩ := Blk.cells3 X6.out.own
        obtain ⟨OO, hOO⟩ : ∃ x, T.doO rs (4, (rs.length : Int) + 1, [1 + x2, x3, x4]) = x := ⟨_, rfl⟩
        obtain ⟨BB, hBB⟩ : ∃ x, T.tMay rs (4, (rs.length : Int) + 1, [1 + x2, x3, x4]) = x := ⟨_, rfl⟩
        rw [hOO, hBB] at HDO
        rw [hOO] at FO
        clear hOO hBB
        go_wp2_with fail
        refine HDO.out.mono ?_
        rintro e w9 ⟨a9, c9, rfl, hm9, hb9⟩
        have S9 := hide_it (S6.out.later hb9)
        have X9 := hide_it (X6.out.later hb9)
        have M9 := hide_it (hm9.lo S6.out.mid.size)
        clear hm9 hb9 x0 x1 x2c
        cases BB
        · go_wp2_with fail
          go_roundw
          case rel => exact ⟨m - 1, q + 4, ao, al, co, cl, rs, ps, by omega, by go_num, rfl, rfl, by omega, by omega, S9⟩
          case measure => simp [intOf]; omega
        · have S10 := hide_it (S9.out.trips M9.out FO.out)
          obtain ⟨x0, x1, x2c⟩ := Blk.cells3 X9.out.own
          have ROW : Hid (∀ o, (w9.alloc o).ownsRow w.heap.size 45 3 (.slice ao ps.length co) ps.length (flat ps)) := fun o => (S10.out.row).alloc o
          have hw9 : w.heap.size ≤ w9.heap.size := S10.out.mid.size
          go_wp2_with (at_builtin; refine wpList_append_own _ rfl _ _ 42 rfl w.heap.size 45 i0 (.agg #[.int .i64 0, .int .i64 0, .slice none 0 0]) 3 40 Try.underlying42 hi hz0 hz1 hz2 rfl (by decide) (.slice ao ps.length co) ps.length (flat ps) rfl (ROW.out _) ⟨w9.heap.size, 0, none⟩ 1 1 [.int .i64 (4), .int .i64 ((rs.length : Int) + 1), (.slice (some ⟨Z, 0, none⟩) 3 3)] rfl rfl (news3 _ _ _ _ _) (one3 _ _ _) ?c3 ?c4 ?c5 ?_)
          case c3 => unfold maxLen; omega
          case c4 => omega
          case c5 => simp; omega
          intro v' w12 hown12 hgrow12 _
          have S12 := hide_it ((S10.out.later (alloc_below _ _)).push (r := (4, (rs.length : Int) + 1, [1 + x2, x3, x4])) (X9.out.many.keep fun g _ hh => (alloc_below _ _).block g (heap_lt hh)) hown12 hgrow12)
          obtain ⟨a12, c12, hv12⟩ := row_shape hown12
          rw [hv12] at S12
          subst hv12
          clear hown12 hgrow12 ROW
          go_wp2_with fail
          go_roundw
          case rel => exact ⟨m - 1, q + 4, a12, a9, c12, c9, OO, _, by omega, by go_num, by simp, rfl, by simp; omega, by omega, S12⟩
          case measure => simp [intOf]; omega
      · have h60 : 0 < x6 := by omega
        go_wp2_with fail
        refine (pick_any b (q + 1 + 1 + 1 + 1) 3 _ S6.out.rd (by omega) (by omega) (by omega)).mono ?_
        rintro e w7 ⟨x7, rfl, l7, u7', r7, m7⟩
        have S7 := hide_it (S6.out.step m7 r7)
        have X7 := hide_it (X6.out.mid m7 S6.out.rd S6.out.low)
        clear r7 m7
        go_wp2_with fail
        refine (pick_any b (q + 1 + 1 + 1 + 1 + 1) rs.length _ S7.out.rd (by omega) (by omega) (by omega)).mono ?_
        rintro e w8 ⟨x8, rfl, l8, u8', r8, m8⟩
        have S8 := hide_it (S7.out.step m8 r8)
        have X8 := hide_it (X7.out.mid m8 S7.out.rd S7.out.low)
        clear r8 m8
        obtain ⟨Y, hY⟩ : ∃ Y, Hid (w8.heap.size = Y) := ⟨_, rfl⟩
        obtain ⟨x80, x81, x82⟩ := Blk.cells3 X8.out.own
        obtain ⟨f80, f81, f82, -, -⟩ := Blk.free5 X8.out.own
        have hX8 := heap_lt X8.out.own
        obtain ⟨w9a, hw9a⟩ : ∃ W, Hid (W = (((w8.setCell ⟨Z + 1, 0, none⟩ (.int .i64 (5 + x7))).setCell ⟨Z + 1, 1, none⟩ (.int .i64 (1 + x8))).setCell ⟨Z + 1, 2, none⟩ (.slice (some ⟨Y, 0, none⟩) 0 0)).alloc (.cells #[] 3)) := ⟨_, rfl⟩
        have X9a0 := hide_it (X8.out.turn S8.out (5 + x7) (1 + x8) hY.out)
        have S9a : Hid (StT w w9a b (q + 6) (.slice al rs.length cl) rs (.slice ao ps.length co) ps) := by show StT _ _ _ _ _ _ _ _; rw [hw9a.out]; exact X9a0.out.1
        have X9a : Hid (BoxT w w9a (Z + 1) (5 + x7, 1 + x8, []) (.slice (some ⟨Y, 0, none⟩) 0 0) (.slice ao ps.length co)) := by show BoxT _ _ _ _ _ _; rw [hw9a.out]; exact X9a0.out.2
        clear X9a0
        go_upto_region 9 with fail
        rw [hY.out, ← hw9a.out]
        have HDO := hide_it (T.specDo_any (.slice al rs.length cl) rs (5 + x7, 1 + x8, []) (.slice (some ⟨Y, 0, none⟩) 0 0) w9a S9a.out.trp.recs S9a.out.fit.tot X9a.out.many.ints (by simp))
        have FO := hide_it (T.doO_fit rs (5 + x7, 1 + x8, []))
        obtain ⟨x0, x1, x2c⟩ := Blk.cells3 X9a.out.own
        obtain ⟨OO, hOO⟩ : ∃ x, T.doO rs (5 + x7, 1 + x8, []) = x := ⟨_, rfl⟩
        obtain ⟨BB, hBB⟩ : ∃ x, T.tMay rs (5 + x7, 1 + x8, []) = x := ⟨_, rfl⟩
        rw [hOO, hBB] at HDO
        rw [hOO] at FO
        clear hOO hBB
        go_wp2_with fail
        refine HDO.out.mono ?_
        rintro e w9 ⟨a9, c9, rfl, hm9, hb9⟩
        have S9 := hide_it (S9a.out.later hb9)
        have X9 := hide_it (X9a.out.later hb9)
        have M9 := hide_it (hm9.lo S9a.out.mid.size)
        clear hm9 hb9 x0 x1 x2c
        cases BB
        · go_wp2_with fail
          go_roundw
          case rel => exact ⟨m - 1, q + 6, ao, al, co, cl, rs, ps, by omega, by go_num, rfl, rfl, by omega, by omega, S9⟩
          case measure => simp [intOf]; omega
        · have S10 := hide_it (S9.out.trips M9.out FO.out)
          obtain ⟨x0, x1, x2c⟩ := Blk.cells3 X9.out.own
          have ROW : Hid (∀ o, (w9.alloc o).ownsRow w.heap.size 45 3 (.slice ao ps.length co) ps.length (flat ps)) := fun o => (S10.out.row).alloc o
          have hw9 : w.heap.size ≤ w9.heap.size := S10.out.mid.size
          go_wp2_with (at_builtin; refine wpList_append_own _ rfl _ _ 42 rfl w.heap.size 45 i0 (.agg #[.int .i64 0, .int .i64 0, .slice none 0 0]) 3 40 Try.underlying42 hi hz0 hz1 hz2 rfl (by decide) (.slice ao ps.length co) ps.length (flat ps) rfl (ROW.out _) ⟨w9.heap.size, 0, none⟩ 1 1 [.int .i64 (5 + x7), .int .i64 (1 + x8), (.slice (some ⟨Y, 0, none⟩) 0 0)] rfl rfl (news3 _ _ _ _ _) (one3 _ _ _) ?c3 ?c4 ?c5 ?_)
          case c3 => unfold maxLen; omega
          case c4 => omega
          case c5 => simp; omega
          intro v' w12 hown12 hgrow12 _
          have S12 := hide_it ((S10.out.later (alloc_below _ _)).push (r := (5 + x7, 1 + x8, [])) (X9.out.many.keep fun g _ hh => (alloc_below _ _).block g (heap_lt hh)) hown12 hgrow12)
          obtain ⟨a12, c12, hv12⟩ := row_shape hown12
          rw [hv12] at S12
          subst hv12
          clear hown12 hgrow12 ROW
          go_wp2_with fail
          go_roundw
          case rel => exact ⟨m - 1, q + 6, a12, a9, c12, c9, OO, _, by omega, by go_num, by simp, rfl, by simp; omega, by omega, S12⟩
          case measure => simp [intOf]; omega

end Go.Proofs.Ytilbjgidmfdnkaa
