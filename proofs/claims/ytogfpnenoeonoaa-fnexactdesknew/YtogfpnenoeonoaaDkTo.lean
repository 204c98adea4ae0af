/- Desks as plain data, and contracts of the law's helpers over desks: how great one is, a copy of it, whether two are the same, its marks. For all that together has at most 1048576 records, numbers and words. -/
import Derived.Test.YtogfpnenoeonoaaMarkRecs
import Derived.Test.YtogfpnenoeonoaaLogOk
import Derived.Test.YtogfpnenoeonoaaForce
import Derived.Test.YtogfpnenoeonoaaBlk
import Derived.Test.YtogfpnenoeonoaaXMark
namespace Go.Proofs.Ytogfpnenoeonoaa
open Go.RowKit

/-- A desk as a value: whether it is up, its log, what it was told. -/
abbrev deskV (up : Bool) (v : Value) (f : Int) (u : Value) : Value := .agg #[.bool up, v, .int .i64 f, u]

/-- The lists of a desk, as they lie. -/
def DkAt (w : World) (v u : Value) (rs : List R) (ws : List Wd) : Prop := Recs w v rs ∧ Words w u ws
theorem DkAt.later {B : Nat} {w w' : World} {v u : Value} {rs : List R} {ws : List Wd} (h : DkAt w v u rs ws) (hb : Below B w w') (hB : w.heap.size ≤ B) : DkAt w' v u rs ws := ⟨h.1.later hb hB, h.2.later hb hB⟩
theorem DkAt.shape {w : World} {v u : Value} {rs : List R} {ws : List Wd} (h : DkAt w v u rs ws) : ∃ a1 c1 a2 c2, v = .slice a1 rs.length c1 ∧ u = .slice a2 ws.length c2 := by
  obtain ⟨a1, c1, h1⟩ := h.1.shape
  obtain ⟨a2, c2, h2⟩ := h.2.shape
  exact ⟨a1, c1, a2, c2, h1, h2⟩

/-- The lists of a desk in memory of their own, from lo on and below hi, each apart from the other. -/
def DkOwn (w : World) (lo hi : Nat) (v u : Value) (ps : List (R × Value)) (ws : List Wd) : Prop :=
  hi ≤ w.heap.size ∧ ∃ l h, lo ≤ l ∧ h ≤ hi ∧ OwnRecs w l h v ps ∧ w.ownsRow lo 39 4 u ws.length (wflat ws) ∧ ∀ g, u.ownBlock = some g → g < hi ∧ (g < l ∨ h ≤ g)
theorem DkOwn.below {w w' : World} {lo hi B : Nat} {v u : Value} {ps : List (R × Value)} {ws : List Wd} (h : DkOwn w lo hi v u ps ws) (hb : Below B w w') (hB : hi ≤ B) : DkOwn w' lo hi v u ps ws := by
  obtain ⟨h0, l, t, h1, h2, h3, h4, h5⟩ := h
  exact ⟨Nat.le_trans h0 hb.size, l, t, h1, h2, h3.below hb (by omega), ownsRow_below h4 hb (fun g hg => by have := (h5 g hg).1; omega), h5⟩
theorem DkOwn.mid {w w' : World} {l0 h0 lo hi : Nat} {v u : Value} {ps : List (R × Value)} {ws : List Wd} (h : DkOwn w l0 h0 v u ps ws) (hb : Mid lo hi w w') (hB : hi ≤ l0) : DkOwn w' l0 h0 v u ps ws := by
  obtain ⟨h0, l, t, h1, h2, h3, h4, h5⟩ := h
  exact ⟨Nat.le_trans h0 hb.size, l, t, h1, h2, h3.mid hb (by omega), ownsRow_mid h4 hb (fun g hg => Or.inr (by have := (h4.lt g hg).1; omega)), h5⟩
theorem DkOwn.at_ {w : World} {lo hi : Nat} {v u : Value} {ps : List (R × Value)} {ws : List Wd} (h : DkOwn w lo hi v u ps ws) : DkAt w v u (ps.map (·.1)) ws := by
  obtain ⟨_, l, t, _, _, h3, h4, _⟩ := h
  exact ⟨h3.recs, words_of_row h4⟩
theorem DkOwn.at' {w : World} {lo hi : Nat} {v u : Value} {ps : List (R × Value)} {rs : List R} {ws : List Wd} (h : DkOwn w lo hi v u ps ws) (hp : ps.map (·.1) = rs) : DkAt w v u rs ws := hp ▸ h.at_
theorem DkOwn.lo {w : World} {lo lo' hi : Nat} {v u : Value} {ps : List (R × Value)} {ws : List Wd} (h : DkOwn w lo hi v u ps ws) (hl : lo' ≤ lo) : DkOwn w lo' hi v u ps ws := by
  obtain ⟨h0, l, t, h1, h2, h3, h4, h5⟩ := h
  exact ⟨h0, l, t, by omega, h2, h3, ownsRow_base h4 hl, h5⟩
theorem DkOwn.hi {w : World} {lo hi hi' : Nat} {v u : Value} {ps : List (R × Value)} {ws : List Wd} (h : DkOwn w lo hi v u ps ws) (hl : hi ≤ hi') (hs : hi' ≤ w.heap.size) : DkOwn w lo hi' v u ps ws := by
  obtain ⟨h0, l, t, h1, h2, h3, h4, h5⟩ := h
  exact ⟨hs, l, t, h1, by omega, h3, h4, fun g hg => ⟨by have := (h5 g hg).1; omega, (h5 g hg).2⟩⟩

theorem Mid.one {w : World} {b i : Nat} (x : Value) : Mid b (b + 1) w (w.setCell ⟨b, i, none⟩ x) := by
  refine ⟨rfl, rfl, rfl, by simp, fun k _ hk => ?_⟩
  exact Below.heap_setCell _ _ _ _ (by simp; omega)
theorem DkOwn.setBelow {w : World} {lo hi b i : Nat} {v u : Value} {ps : List (R × Value)} {ws : List Wd} (h : DkOwn w lo hi v u ps ws) (hb : b < lo) (x : Value) : DkOwn (w.setCell ⟨b, i, none⟩ x) lo hi v u ps ws := h.mid (Mid.one x) hb
/-- A log, and words in a row that lies behind it. -/
theorem DkOwn.mk_ {w w' : World} {lo : Nat} {v u : Value} {ps : List (R × Value)} {ws : List Wd} (h : OwnRecs w lo w.heap.size v ps) (hr : w'.ownsRow w.heap.size 39 4 u ws.length (wflat ws)) (hb : Below w.heap.size w w') (hl : lo ≤ w.heap.size) : DkOwn w' lo w'.heap.size v u ps ws :=
  ⟨Nat.le_refl _, lo, w.heap.size, Nat.le_refl _, hb.size, h.below hb (Nat.le_refl _), ownsRow_base hr hl, fun g hg => ⟨(hr.lt g hg).2, Or.inr (hr.lt g hg).1⟩⟩

/-- A desk comes back, in memory of the call's own. -/
def DkOut (w w' : World) (e : Ending) (up : Bool) (rs : List R) (f : Int) (ws : List Wd) : Prop :=
  ∃ ao cap au cu ps, e = .returned (deskV up (.slice ao rs.length cap) f (.slice au ws.length cu)) ∧ ps.map (·.1) = rs ∧ DkOwn w' w.heap.size w'.heap.size (.slice ao rs.length cap) (.slice au ws.length cu) ps ws ∧ Below w.heap.size w w'

set_option maxHeartbeats 2000000 in
theorem eqDesk_any (up : Bool) (v1 u1 v2 u2 : Value) (rs : List R) (f : Int) (ws : List Wd) (w : World) (h1 : DkAt w v1 u1 rs ws) (h2 : DkAt w v2 u2 rs ws) (hl : tot rs ≤ 1048576) (hlw : ws.length ≤ 1048576) :
    Calls Try.prog 6 #[deskV up v1 f u1, deskV up v2 f u2] w fun e w' => e = .returned (.bool true) ∧ Below w.heap.size w w' := by
  have H1 : Hid (∀ W, Below w.heap.size w W → DkAt W v1 u1 rs ws) := fun W h => h1.later h (Nat.le_refl _)
  have H2 : Hid (∀ W, Below w.heap.size w W → DkAt W v2 u2 rs ws) := fun W h => h2.later h (Nat.le_refl _)
  obtain ⟨a1, p1, b1, q1, rfl, rfl⟩ := h1.shape
  obtain ⟨a2, p2, b2, q2, rfl, rfl⟩ := h2.shape
  clear h1 h2
  obtain ⟨w0, hw0⟩ : ∃ W, Hid (W = (w.alloc (.cells #[.bool up, .slice a1 rs.length p1, .int .i64 f, .slice b1 ws.length q1] 27)).alloc (.cells #[.bool up, .slice a2 rs.length p2, .int .i64 f, .slice b2 ws.length q2] 27)) := ⟨_, rfl⟩
  have B0 : Hid (Below w.heap.size w w0) := by show Below _ _ _; rw [hw0.out]; exact below2 _ _ _
  have X0 : Hid (Blk w0 w.heap.size #[.bool up, .slice a1 rs.length p1, .int .i64 f, .slice b1 ws.length q1] 27) := by show Blk _ _ _ _; rw [hw0.out]; exact (Blk.new _ _ _).alloc _
  have Y0 : Hid (Blk w0 (w.heap.size + 1) #[.bool up, .slice a2 rs.length p2, .int .i64 f, .slice b2 ws.length q2] 27) := by show Blk _ _ _ _; rw [hw0.out]; exact Blk.new2 _ _ _ _
  cases up
  all_goals
    go_enter Try.func6, Try.ntmps6
    go_wp2_with fail
    rw [← hw0.out]
    refine (eqLog_any _ _ rs f _ (H1.out _ B0.out).1 (H2.out _ B0.out).1 hl).mono ?_
    rintro e w1 ⟨rfl, hb⟩
    have B1 := hide_it (B0.out.trans (hb.mono B0.out.size))
    obtain ⟨x0, x1, x2, x3⟩ := (X0.out.after hb).cells4
    obtain ⟨y0, y1, y2, y3⟩ := (Y0.out.after hb).cells4
    clear hb
    go_wp2_with fail
    refine (eqWords_any _ _ ws _ (H1.out _ B1.out).2 (H2.out _ B1.out).2 hlw).mono ?_
    rintro e w2 ⟨rfl, hb⟩
    have B2 := hide_it (B1.out.trans (hb.mono B1.out.size))
    clear hb
    go_wp2
    go_ret
    exact ⟨rfl, B2.out⟩

/-- How far the marks go over a desk. -/
def kDk (rs : List R) (k : Int) (n : Nat) : Int := kAt rs k rs.length + 4 * n

set_option maxHeartbeats 2000000 in
theorem markDesk_any (up : Bool) (v u : Value) (ps : List (R × Value)) (f : Int) (ws : List Wd) (k : Int) (lo hi : Nat) (w : World) (ho : DkOwn w lo hi v u ps ws) (hl : tot (ps.map (·.1)) ≤ 1048576) (hlw : ws.length ≤ 1048576) (hk0 : 0 ≤ k) (hk1 : k ≤ 1000) :
    Calls Try.prog 7 #[deskV up v f u, .int .i64 k] w fun e w' => e = .returned (.int .i64 (kDk (ps.map (·.1)) k ws.length)) ∧ DkAt w' v u (markAll (ps.map (·.1)) k) (markW ws.length (kAt (ps.map (·.1)) k ps.length)) ∧ Mid lo hi w w' := by
  obtain ⟨h0, l, t, h1, h2, h3, h4, h5⟩ := ho
  have hKb := kAt_bd (ps.map (·.1)) k ps.length (by simp) hl hk0 hk1
  have hll : (ps.map (·.1)).length = ps.length := by simp
  have hlo : ∀ g, u.ownBlock = some g → lo ≤ g := fun g hg => (h4.lt g hg).1
  have HS : Hid (∀ o, Calls Try.prog 11 #[.agg #[v, .int .i64 f], .int .i64 k] (w.alloc o) fun e w' => e = .returned (.int .i64 (kAt (ps.map (·.1)) k ps.length)) ∧ OwnRecs w' l t v (stg ps k ps.length) ∧ Mid l t (w.alloc o) w') := fun o =>
    markLog_any v ps f k l t (w.alloc o) (h3.below (alloc_below w o) (by omega)) hl hk0 hk1
  have HW : Hid (∀ w1, w1.ownsRow lo 39 4 u ws.length (wflat ws) → Calls Try.prog 12 #[u, .int .i64 (kAt (ps.map (·.1)) k ps.length)] w1 fun e w' => e = .returned (.int .i64 (kAt (ps.map (·.1)) k ps.length + 4 * ws.length)) ∧ w'.ownsRow lo 39 4 u ws.length (wflat (markW ws.length (kAt (ps.map (·.1)) k ps.length))) ∧ w1.grownBy w' u.ownBlock) := fun w1 h =>
    markWords_any u ws _ lo ws.length w1 h hlw hKb.1 (by omega)
  have HR : Hid (∀ o w1, Mid l t (w.alloc o) w1 → w1.ownsRow lo 39 4 u ws.length (wflat ws)) := fun o w1 hm =>
    ownsRow_mid (h4.alloc o) hm (fun g hg => (h5 g hg).2)
  have HF : Hid (∀ o w1 w2, Mid l t (w.alloc o) w1 → OwnRecs w1 l t v (stg ps k ps.length) → w1.grownBy w2 u.ownBlock → w2.ownsRow lo 39 4 u ws.length (wflat (markW ws.length (kAt (ps.map (·.1)) k ps.length))) →
      DkAt w2 v u (markAll (ps.map (·.1)) k) (markW ws.length (kAt (ps.map (·.1)) k ps.length)) ∧ Mid lo hi w w2) := fun o w1 w2 hm hw hg hr => by
    have hrow : ∀ x : Value, x.ownBlock = none ∨ x.ownBlock ≠ u.ownBlock ∨ x.ownBlock = u.ownBlock := fun x => by
      by_cases e : x.ownBlock = u.ownBlock
      · exact Or.inr (Or.inr e)
      · exact Or.inr (Or.inl e)
    have apart : ∀ (x : Value) (b : Nat), x.ownBlock = some b → l ≤ b → b < t → x.ownBlock ≠ u.ownBlock := fun x b hx hb1 hb2 e => by
      rw [hx] at e
      have := (h5 b e.symm).2
      omega
    have keep : OwnRecs w2 l t v (stg ps k ps.length) := by
      obtain ⟨q1, q2, q3⟩ := hw
      refine ⟨q1.kept hg ?_, q2, q3.kept hg fun p hp => ?_⟩
      · cases hv : v.ownBlock with
        | none => exact Or.inl rfl
        | some b => exact Or.inr (hv ▸ apart v b hv (q1.lt b hv).1 (q2 b hv))
      · cases hv : p.2.ownBlock with
        | none => exact Or.inl rfl
        | some b => exact Or.inr (hv ▸ apart p.2 b hv ((q3.2.1 p hp).1.lt b hv).1 ((q3.2.1 p hp).2 b hv))
    refine ⟨⟨?_, ?_⟩, ?_⟩
    · have := keep.recs
      rw [stg_all] at this
      exact this
    · have hlen : (markW ws.length (kAt (ps.map (·.1)) k ps.length)).length = ws.length := markW_length _ _
      have hr' : w2.ownsRow lo 39 4 u (markW ws.length (kAt (ps.map (·.1)) k ps.length)).length (wflat (markW ws.length (kAt (ps.map (·.1)) k ps.length))) := by rw [hlen]; exact hr
      exact words_of_row hr'
    · have m1 : Mid lo hi w (w.alloc o) := Mid.of_below (alloc_below w o) (Nat.le_refl _)
      have m2 : Mid lo hi (w.alloc o) w1 := ⟨hm.os, hm.tape, hm.output, hm.size, fun j hj hh => hm.block j hj (by omega)⟩
      have m3 : Mid lo hi w1 w2 := Mid.of_grown hg (fun j hj => ⟨hlo j hj, (h5 j hj).1⟩)
      exact (m1.trans m2).trans m3
  obtain ⟨av, cv, rfl⟩ := row_shape h3.1
  obtain ⟨au, cu, rfl⟩ := row_shape h4
  have HE : Hid (kDk (ps.map (·.1)) k ws.length = kAt (ps.map (·.1)) k ps.length + 4 * ws.length) := by show _ = _; unfold kDk; rw [hll]
  rw [HE.out]
  obtain ⟨K, hK⟩ : ∃ x, kAt (ps.map (·.1)) k ps.length = x := ⟨_, rfl⟩
  rw [hK] at HS HW HF hKb ⊢
  have X0 : Hid (∀ o, Blk (w.alloc (.cells #[.bool up, .slice av ps.length cv, .int .i64 f, .slice au ws.length cu] o)) w.heap.size #[.bool up, .slice av ps.length cv, .int .i64 f, .slice au ws.length cu] o) := fun o => Blk.new _ _ _
  have hwt : Hid (t ≤ w.heap.size) := by show _ ≤ _; omega
  clear h0 h1 h2 h3 h4 h5 hlo hll hK HE
  go_enter Try.func7, Try.ntmps7
  go_wp2_with fail
  refine (HS.out _).mono ?_
  rintro e w1 ⟨rfl, ho1, hm1⟩
  obtain ⟨x0, x1, x2, x3⟩ := ((X0.out 27).mid hm1 (Or.inr hwt.out)).cells4
  have R1 := hide_it (HR.out _ w1 hm1)
  have F1 := hide_it (fun w2 => HF.out _ w1 w2 hm1 ho1)
  clear ho1 hm1
  go_wp2_with fail
  refine (HW.out w1 R1.out).mono ?_
  rintro e w2 ⟨rfl, hr2, hg2⟩
  have G2 := hide_it (F1.out w2 hg2 hr2)
  clear hr2 hg2
  go_wp2
  go_ret
  exact ⟨rfl, G2.out.1, G2.out.2⟩

set_option maxHeartbeats 2000000 in
theorem heldDesk_any (up : Bool) (v u : Value) (rs : List R) (f : Int) (n : Nat) (k : Int) (w : World) (hv : DkAt w v u (markAll rs k) (markW n (kAt rs k rs.length))) (hl : tot rs ≤ 1048576) (hlw : n ≤ 1048576) (hk0 : 0 ≤ k) (hk1 : k ≤ 1000) :
    Calls Try.prog 8 #[deskV up v f u, .int .i64 k] w fun e w' => e = .returned (.int .i64 (kDk rs k n)) ∧ Below w.heap.size w w' := by
  have hKb := kAt_bd rs k rs.length (Nat.le_refl _) hl hk0 hk1
  have HS : Hid (∀ o, Calls Try.prog 13 #[.agg #[v, .int .i64 f], .int .i64 k] (w.alloc o) fun e w' => e = .returned (.int .i64 (kAt rs k rs.length)) ∧ Below (w.alloc o).heap.size (w.alloc o) w') := fun o =>
    heldLog_any v rs f k (w.alloc o) (hv.1.later (alloc_below w o) (Nat.le_refl _)) hl hk0 hk1
  have HW : Hid (∀ W, Below w.heap.size w W → Calls Try.prog 14 #[u, .int .i64 (kAt rs k rs.length)] W fun e w' => e = .returned (.int .i64 (kAt rs k rs.length + 4 * n)) ∧ w' = W) := fun W h =>
    heldWords_any u n _ W (hv.2.later h (Nat.le_refl _)) hlw hKb.1 (by omega)
  obtain ⟨av, cv, au, cu, rfl, rfl⟩ := hv.shape
  clear hv
  show Calls Try.prog 8 #[deskV up _ f _, .int .i64 k] w fun e w' => e = .returned (.int .i64 (kAt rs k rs.length + 4 * n)) ∧ Below w.heap.size w w'
  obtain ⟨K, hK⟩ : ∃ x, kAt rs k rs.length = x := ⟨_, rfl⟩
  rw [hK] at HS HW hKb ⊢
  clear hK
  generalize (markAll rs k).length = N1 at *
  generalize (markW n _).length = N2 at *
  have X0 : Hid (Blk (w.alloc (.cells #[.bool up, .slice av N1 cv, .int .i64 f, .slice au N2 cu] 27)) w.heap.size #[.bool up, .slice av N1 cv, .int .i64 f, .slice au N2 cu] 27) := Blk.new _ _ _
  go_enter Try.func8, Try.ntmps8
  go_wp2_with fail
  refine (HS.out _).mono ?_
  rintro e w1 ⟨rfl, hb⟩
  obtain ⟨x0, x1, x2, x3⟩ := (X0.out.after hb).cells4
  have B1 := hide_it (below_after hb)
  clear hb
  go_wp2_with fail
  refine (HW.out w1 B1.out).mono ?_
  rintro e w2 ⟨rfl, rfl⟩
  go_wp2
  go_ret
  exact ⟨rfl, B1.out⟩

end Go.Proofs.Ytogfpnenoeonoaa
