/- What the last text of this claim stands on, part 3: plain facts and contracts; the last text says what is proved. -/
import Derived.Test.YtkkkdgpbmmjieaaGreatDoorWorldHoldsCardPart2
import Derived.Maps.OwnSet
import Derived.Maps.OwnIn
import Derived.DeepKeys4

namespace Go.Proofs.YtkkkdgpbmmjieaaGreatDoor
open Go.RowKit

/-- A desk as a value: whether it is up, its log, what it was told. -/
abbrev deskV (up : Bool) (v : Value) (f : Int) (u : Value) : Value := .agg #[.bool up, v, .int .i64 f, u]

/-- The lists of a desk, as they lie. -/
def DkAt (w : World) (v u : Value) (rs : List R) (ws : List Wd) : Prop := Recs w v rs ∧ Words w u ws
theorem DkAt.later {B : Nat} {w w' : World} {v u : Value} {rs : List R} {ws : List Wd} (h : DkAt w v u rs ws) (hb : Below B w w') (hB : w.heap.size ≤ B) : DkAt w' v u rs ws := ⟨h.1.later hb hB, h.2.later hb hB⟩
theorem DkAt.shape {w : World} {v u : Value} {rs : List R} {ws : List Wd} (h : DkAt w v u rs ws) : ∃ a1 c1 a2 c2, v = .slice a1 rs.length c1 ∧ u = .slice a2 ws.length c2 := by
  obtain ⟨a1, c1, h1⟩ := h.1.shape
  obtain ⟨a2, c2, h2⟩ := h.2.shape
  exact ⟨a1, c1, a2, c2, h1, h2⟩

/-- The lists of a desk in memory of their own, from lo on and below hi, each apart from the other. -/
def DkOwn (w : World) (lo hi : Nat) (v u : Value) (ps : List (R × Value)) (ws : List Wd) : Prop :=
  hi ≤ w.heap.size ∧ ∃ l h, lo ≤ l ∧ h ≤ hi ∧ OwnRecs w l h v ps ∧ w.ownsRow lo 82 4 u ws.length (wflat ws) ∧ ∀ g, u.ownBlock = some g → g < hi ∧ (g < l ∨ h ≤ g)
theorem DkOwn.below {w w' : World} {lo hi B : Nat} {v u : Value} {ps : List (R × Value)} {ws : List Wd} (h : DkOwn w lo hi v u ps ws) (hb : Below B w w') (hB : hi ≤ B) : DkOwn w' lo hi v u ps ws := by
  obtain ⟨h0, l, t, h1, h2, h3, h4, h5⟩ := h
  exact ⟨Nat.le_trans h0 hb.size, l, t, h1, h2, h3.below hb (by omega), ownsRow_below h4 hb (fun g hg => by have := (h5 g hg).1; omega), h5⟩
theorem DkOwn.mid {w w' : World} {l0 h0 lo hi : Nat} {v u : Value} {ps : List (R × Value)} {ws : List Wd} (h : DkOwn w l0 h0 v u ps ws) (hb : Mid lo hi w w') (hB : hi ≤ l0) : DkOwn w' l0 h0 v u ps ws := by
  obtain ⟨h0, l, t, h1, h2, h3, h4, h5⟩ := h
  exact ⟨Nat.le_trans h0 hb.size, l, t, h1, h2, h3.mid hb (by omega), ownsRow_mid h4 hb (fun g hg => Or.inr (by have := (h4.lt g hg).1; omega)), h5⟩
theorem DkOwn.at_ {w : World} {lo hi : Nat} {v u : Value} {ps : List (R × Value)} {ws : List Wd} (h : DkOwn w lo hi v u ps ws) : DkAt w v u (ps.map (·.1)) ws := by
  obtain ⟨_, l, t, _, _, h3, h4, _⟩ := h
  exact ⟨h3.recs, words_of_row h4⟩
theorem DkOwn.at' {w : World} {lo hi : Nat} {v u : Value} {ps : List (R × Value)} {rs : List R} {ws : List Wd} (h : DkOwn w lo hi v u ps ws) (hp : ps.map (·.1) = rs) : DkAt w v u rs ws := hp ▸ h.at_
theorem DkOwn.lo {w : World} {lo lo' hi : Nat} {v u : Value} {ps : List (R × Value)} {ws : List Wd} (h : DkOwn w lo hi v u ps ws) (hl : lo' ≤ lo) : DkOwn w lo' hi v u ps ws := by
  obtain ⟨h0, l, t, h1, h2, h3, h4, h5⟩ := h
  exact ⟨h0, l, t, by omega, h2, h3, ownsRow_base h4 hl, h5⟩
theorem DkOwn.hi {w : World} {lo hi hi' : Nat} {v u : Value} {ps : List (R × Value)} {ws : List Wd} (h : DkOwn w lo hi v u ps ws) (hl : hi ≤ hi') (hs : hi' ≤ w.heap.size) : DkOwn w lo hi' v u ps ws := by
  obtain ⟨h0, l, t, h1, h2, h3, h4, h5⟩ := h
  exact ⟨hs, l, t, h1, by omega, h3, h4, fun g hg => ⟨by have := (h5 g hg).1; omega, (h5 g hg).2⟩⟩

theorem Mid.one {w : World} {b i : Nat} (x : Value) : Mid b (b + 1) w (w.setCell ⟨b, i, none⟩ x) := by
  refine ⟨rfl, rfl, rfl, by simp, fun k _ hk => ?_⟩
  exact Below.heap_setCell _ _ _ _ (by simp; omega)
theorem DkOwn.setBelow {w : World} {lo hi b i : Nat} {v u : Value} {ps : List (R × Value)} {ws : List Wd} (h : DkOwn w lo hi v u ps ws) (hb : b < lo) (x : Value) : DkOwn (w.setCell ⟨b, i, none⟩ x) lo hi v u ps ws := h.mid (Mid.one x) hb
/-- A log, and words in a row that lies behind it. -/
theorem DkOwn.mk_ {w w' : World} {lo : Nat} {v u : Value} {ps : List (R × Value)} {ws : List Wd} (h : OwnRecs w lo w.heap.size v ps) (hr : w'.ownsRow w.heap.size 82 4 u ws.length (wflat ws)) (hb : Below w.heap.size w w') (hl : lo ≤ w.heap.size) : DkOwn w' lo w'.heap.size v u ps ws :=
  ⟨Nat.le_refl _, lo, w.heap.size, Nat.le_refl _, hb.size, h.below hb (Nat.le_refl _), ownsRow_base hr hl, fun g hg => ⟨(hr.lt g hg).2, Or.inr (hr.lt g hg).1⟩⟩

/-- A desk comes back, in memory of the call's own. -/
def DkOut (w w' : World) (e : Ending) (up : Bool) (rs : List R) (f : Int) (ws : List Wd) : Prop :=
  ∃ ao cap au cu ps, e = .returned (deskV up (.slice ao rs.length cap) f (.slice au ws.length cu)) ∧ ps.map (·.1) = rs ∧ DkOwn w' w.heap.size w'.heap.size (.slice ao rs.length cap) (.slice au ws.length cu) ps ws ∧ Below w.heap.size w w'

theorem szDesk_any (up : Bool) (v u : Value) (rs : List R) (f : Int) (ws : List Wd) (left : Int) (w : World) (hv : DkAt w v u rs ws) (hl : (rs.length : Int) ≤ 9223372036854775807) (hls : ∀ r ∈ rs, (r.2.2.length : Int) ≤ 9223372036854775807) (hlw : (ws.length : Int) ≤ 9223372036854775807) (h0 : 0 ≤ left) (h1 : left ≤ 1048576) :
    Calls Tryz.prog 34 #[deskV up v f u, .int .i64 left] w fun e w' => e = .returned (.int .i64 (leftOf left (tot rs + ws.length))) ∧ Below w.heap.size w w' := by
  have HS : Hid (∀ o, Calls Tryz.prog 67 #[.agg #[v, .int .i64 f], .int .i64 left] (w.alloc o) fun e w' => e = .returned (.int .i64 (leftOf left (tot rs))) ∧ Below (w.alloc o).heap.size (w.alloc o) w') :=
    fun o => szLog_any v rs f left (w.alloc o) (hv.1.later ((Below.refl _ _).alloc (Nat.le_refl _) o) (Nat.le_refl _)) hl hls h0 h1
  obtain ⟨av, cv, au, cu, rfl, rfl⟩ := hv.shape
  clear hv hl hls
  by_cases hn : left - (tot rs : Int) < 0
  · rw [leftOf_neg hn] at HS
    rw [leftOf_neg (show left - ((tot rs + ws.length : Nat) : Int) < 0 by omega)]
    go_enter Tryz.func34, Tryz.ntmps34
    go_wp2_with (go_at_call 67; refine (HS.out _).mono ?_; rintro e w1 ⟨rfl, hb⟩)
    go_ret
    exact ⟨rfl, below_after (by assumption)⟩
  rw [leftOf_pos hn] at HS
  have HW : Hid (∀ W, Calls Tryz.prog 36 #[.slice au ws.length cu, .int .i64 (left - (tot rs : Int))] W fun e w' => e = .returned (.int .i64 (leftOf (left - (tot rs : Int)) ws.length)) ∧ w' = W) := fun W =>
    szWords_any au ws.length cu (left - (tot rs : Int)) W hlw (by omega) (by omega)
  have X0 : Hid (Blk (w.alloc (.cells #[.bool up, .slice av rs.length cv, .int .i64 f, .slice au ws.length cu] 27)) w.heap.size #[.bool up, .slice av rs.length cv, .int .i64 f, .slice au ws.length cu] 27) := Blk.new _ _ _
  by_cases hm : (left - (tot rs : Int)) - (ws.length : Int) < 0
  · rw [leftOf_neg hm] at HW
    rw [leftOf_neg (show left - ((tot rs + ws.length : Nat) : Int) < 0 by omega)]
    go_enter Tryz.func34, Tryz.ntmps34
    go_wp2_with fail
    refine (HS.out _).mono ?_
    rintro e w1 ⟨rfl, hb⟩
    obtain ⟨c0, c1, c2, c3⟩ := (X0.out.after hb).cells4
    have B1 := hide_it (below_after hb)
    clear hb
    go_wp2_with (go_at_call 36; refine (HW.out _).mono ?_; rintro e w2 ⟨rfl, rfl⟩)
    go_ret
    exact ⟨rfl, B1.out⟩
  · rw [leftOf_pos hm] at HW
    rw [leftOf_pos (show ¬ left - ((tot rs + ws.length : Nat) : Int) < 0 by omega)]
    go_enter Tryz.func34, Tryz.ntmps34
    go_wp2_with fail
    refine (HS.out _).mono ?_
    rintro e w1 ⟨rfl, hb⟩
    obtain ⟨c0, c1, c2, c3⟩ := (X0.out.after hb).cells4
    have B1 := hide_it (below_after hb)
    clear hb
    go_wp2_with (go_at_call 36; refine (HW.out _).mono ?_; rintro e w2 ⟨rfl, rfl⟩)
    go_ret
    refine ⟨?_, B1.out⟩
    have : left - (tot rs : Int) - (ws.length : Int) = left - ((tot rs + ws.length : Nat) : Int) := by omega
    rw [this]
    rfl

set_option maxHeartbeats 2000000 in
theorem toDesk_any (up : Bool) (v u : Value) (rs : List R) (f : Int) (ws : List Wd) (w : World) (hv : DkAt w v u rs ws) (hl : tot rs ≤ 1048576) (hlw : ws.length ≤ 1048576) :
    Calls Tryz.prog 40 #[deskV up v f u] w fun e w' => DkOut w w' e up rs f ws := by
  have HS : Hid (∀ W, Below w.heap.size w W → Calls Tryz.prog 73 #[.agg #[v, .int .i64 f]] W fun e w' => ∃ ao cap, e = .returned (.agg #[.slice ao rs.length cap, .int .i64 f]) ∧ Made w' W.heap.size (.slice ao rs.length cap) rs ∧ Below W.heap.size W w') := fun W h =>
    (toLog_any v rs f W (hv.1.later h (Nat.le_refl _)) hl).mono fun e w' ⟨h1, h2, h3⟩ => ⟨_, _, h1, h2.lo (by omega), h3⟩
  have HW : Hid (∀ W, Below w.heap.size w W → Calls Tryz.prog 42 #[u] W fun e w' => e = .returned (.slice (some ⟨W.heap.size, 0, none⟩) ws.length ws.length) ∧
      w'.ownsRow W.heap.size 82 4 (.slice (some ⟨W.heap.size, 0, none⟩) ws.length ws.length) ws.length (wflat ws) ∧ Below W.heap.size W w') := fun W h =>
    toWords_any u ws W (hv.2.later h (Nat.le_refl _)) hlw
  obtain ⟨av, cv, au, cu, rfl, rfl⟩ := hv.shape
  clear hv
  obtain ⟨w0, hw0⟩ : ∃ W, Hid (W = ((w.alloc (.cells #[.bool up, .slice av rs.length cv, .int .i64 f, .slice au ws.length cu] 27)).alloc (.cells #[.bool false, .slice none 0 0, .int .i64 0, .slice none 0 0] 38)).alloc (.cells #[.bool up, .slice none 0 0, .int .i64 0, .slice none 0 0] 38)) := ⟨_, rfl⟩
  have B0 : Hid (Below w.heap.size w w0) := by show Below _ _ _; rw [hw0.out]; exact below3 _ _ _ _
  have hs0 : w0.heap.size = w.heap.size + 3 := by rw [hw0.out, size3]
  have X0 : Hid (Blk w0 w.heap.size #[.bool up, .slice av rs.length cv, .int .i64 f, .slice au ws.length cu] 27) := by show Blk _ _ _ _; rw [hw0.out]; exact ((Blk.new _ _ _).alloc _).alloc _
  have Y0 : Hid (Blk w0 (w.heap.size + 1) #[.bool false, .slice none 0 0, .int .i64 0, .slice none 0 0] 38) := by show Blk _ _ _ _; rw [hw0.out]; exact (Blk.new2 _ _ _ _).alloc _
  have Z0 : Hid (Blk w0 (w.heap.size + 1 + 1) #[.bool up, .slice none 0 0, .int .i64 0, .slice none 0 0] 38) := by
    show Blk _ _ _ _
    rw [hw0.out]
    have h := Blk.new ((w.alloc (.cells #[.bool up, .slice av rs.length cv, .int .i64 f, .slice au ws.length cu] 27)).alloc (.cells #[.bool false, .slice none 0 0, .int .i64 0, .slice none 0 0] 38)) #[.bool up, .slice none 0 0, .int .i64 0, .slice none 0 0] 38
    rw [size2] at h
    exact h
  go_enter Tryz.func40, Tryz.ntmps40
  go_wp2_with fail
  rw [← hw0.out]
  refine (HS.out _ B0.out).mono ?_
  rintro e w1 ⟨ao, cap, rfl, hm, hb⟩
  have X1 := hide_it (X0.out.after hb)
  have Y1 := hide_it (Y0.out.after hb)
  have Z1 := hide_it (Z0.out.after hb)
  have hz1 : w.heap.size + 3 ≤ w1.heap.size := by have := hb.size; omega
  obtain ⟨w2, hw2⟩ : ∃ W, Hid (W = (w1.setCell ⟨w.heap.size + 1 + 1, 1, none⟩ (.slice ao rs.length cap)).setCell ⟨w.heap.size + 1 + 1, 2, none⟩ (.int .i64 f)) := ⟨_, rfl⟩
  have B1 := hide_it (B0.out.trans (hb.mono B0.out.size))
  have M2 : Hid (Made w2 w0.heap.size (.slice ao rs.length cap) rs) := by
    show Made _ _ _ _
    rw [hw2.out]
    exact (hm.setBelow (by simp; omega) _).setBelow (by simp; omega) _
  have B2 : Hid (Below w.heap.size w w2) := by
    show Below _ _ _
    rw [hw2.out]
    exact (B1.out.setCell (by simp; omega) _).setCell (by simp; omega) _
  have X2 : Hid (Blk w2 w.heap.size #[.bool up, .slice av rs.length cv, .int .i64 f, .slice au ws.length cu] 27) := by show Blk _ _ _ _; rw [hw2.out]; exact (X1.out.other (by simp; omega) _).other (by simp; omega) _
  have Y2 : Hid (Blk w2 (w.heap.size + 1) #[.bool false, .slice none 0 0, .int .i64 0, .slice none 0 0] 38) := by show Blk _ _ _ _; rw [hw2.out]; exact (Y1.out.other (by simp) _).other (by simp) _
  have Z2 : Hid (Blk w2 (w.heap.size + 1 + 1) #[.bool up, .slice ao rs.length cap, .int .i64 f, .slice none 0 0] 38) := by show Blk _ _ _ _; rw [hw2.out]; exact (Z1.out.set_ 1 _).set_ 2 _
  have hz2 : w.heap.size + 3 ≤ w2.heap.size := by rw [hw2.out]; simpa using hz1
  have hz02 : w0.heap.size ≤ w2.heap.size := by omega
  obtain ⟨z0, z1, z2, z3⟩ := Z1.out.cells4
  obtain ⟨zf0, zf1, zf2, zf3⟩ := Z1.out.free4
  obtain ⟨x0, x1, x2, x3⟩ := X1.out.cells4
  clear hm hb
  go_wp2_with fail
  rw [← hw2.out]
  clear z0 z1 z2 z3 zf0 zf1 zf2 zf3 x0 x1 x2 x3
  refine (HW.out _ B2.out).mono ?_
  rintro e w3 ⟨rfl, hr3, hb3⟩
  obtain ⟨ps, hp, ho⟩ := M2.out
  have HO3 := hide_it (DkOwn.mk_ ho hr3 hb3 hz02)
  have HP := hide_it hp
  have B3 := hide_it (B2.out.trans (hb3.mono B2.out.size))
  have Y3 := hide_it (Y2.out.after hb3)
  have Z3 := hide_it (Z2.out.after hb3)
  have hz3 : w.heap.size + 3 ≤ w3.heap.size := by have := hb3.size; omega
  have HS0 := hide_it hs0
  clear hr3 hb3 ho hp hs0
  obtain ⟨z0, z1, z2, z3⟩ := Z3.out.cells4
  obtain ⟨zf0, zf1, zf2, zf3⟩ := Z3.out.free4
  obtain ⟨y0, y1, y2, y3⟩ := Y3.out.cells4
  obtain ⟨yf0, yf1, yf2, yf3⟩ := Y3.out.free4
  go_wp2
  refine bodyPost_ret (v := deskV up (.slice ao rs.length cap) f (.slice (some ⟨w2.heap.size, 0, none⟩) ws.length ws.length)) (by simp [results, Tryz.results40, go_sem, *]) rfl ?_
  refine ⟨ao, cap, _, _, ps, rfl, HP.out, ?_, ?_⟩
  · refine DkOwn.lo (lo := w0.heap.size) ?_ (by have := HS0.out; omega)
    repeat (refine DkOwn.setBelow ?_ (by have := HS0.out; omega) _)
    first | exact HO3.out | (simpa using HO3.out)
  · repeat (refine Below.setCell ?_ (by first | (simp; done) | (simp; omega)) _)
    exact B3.out

set_option maxHeartbeats 2000000 in
theorem eqDesk_any (up : Bool) (v1 u1 v2 u2 : Value) (rs : List R) (f : Int) (ws : List Wd) (w : World) (h1 : DkAt w v1 u1 rs ws) (h2 : DkAt w v2 u2 rs ws) (hl : tot rs ≤ 1048576) (hlw : ws.length ≤ 1048576) :
    Calls Tryz.prog 46 #[deskV up v1 f u1, deskV up v2 f u2] w fun e w' => e = .returned (.bool true) ∧ Below w.heap.size w w' := by
  have H1 : Hid (∀ W, Below w.heap.size w W → DkAt W v1 u1 rs ws) := fun W h => h1.later h (Nat.le_refl _)
  have H2 : Hid (∀ W, Below w.heap.size w W → DkAt W v2 u2 rs ws) := fun W h => h2.later h (Nat.le_refl _)
  obtain ⟨a1, p1, b1, q1, rfl, rfl⟩ := h1.shape
  obtain ⟨a2, p2, b2, q2, rfl, rfl⟩ := h2.shape
  clear h1 h2
  obtain ⟨w0, hw0⟩ : ∃ W, Hid (W = (w.alloc (.cells #[.bool up, .slice a1 rs.length p1, .int .i64 f, .slice b1 ws.length q1] 38)).alloc (.cells #[.bool up, .slice a2 rs.length p2, .int .i64 f, .slice b2 ws.length q2] 38)) := ⟨_, rfl⟩
  have B0 : Hid (Below w.heap.size w w0) := by show Below _ _ _; rw [hw0.out]; exact below2 _ _ _
  have X0 : Hid (Blk w0 w.heap.size #[.bool up, .slice a1 rs.length p1, .int .i64 f, .slice b1 ws.length q1] 38) := by show Blk _ _ _ _; rw [hw0.out]; exact (Blk.new _ _ _).alloc _
  have Y0 : Hid (Blk w0 (w.heap.size + 1) #[.bool up, .slice a2 rs.length p2, .int .i64 f, .slice b2 ws.length q2] 38) := by show Blk _ _ _ _; rw [hw0.out]; exact Blk.new2 _ _ _ _
  cases up
  all_goals
    go_enter Tryz.func46, Tryz.ntmps46
    go_wp2_with fail
    rw [← hw0.out]
    refine (eqLog_any _ _ rs f _ (H1.out _ B0.out).1 (H2.out _ B0.out).1 hl).mono ?_
    rintro e w1 ⟨rfl, hb⟩
    have B1 := hide_it (B0.out.trans (hb.mono B0.out.size))
    obtain ⟨x0, x1, x2, x3⟩ := (X0.out.after hb).cells4
    obtain ⟨y0, y1, y2, y3⟩ := (Y0.out.after hb).cells4
    clear hb
    go_wp2_with fail
    refine (eqWords_any _ _ ws _ (H1.out _ B1.out).2 (H2.out _ B1.out).2 hlw).mono ?_
    rintro e w2 ⟨rfl, hb⟩
    have B2 := hide_it (B1.out.trans (hb.mono B1.out.size))
    clear hb
    go_wp2
    go_ret
    exact ⟨rfl, B2.out⟩

/-- How far the marks go over a desk. -/
def kDk (rs : List R) (k : Int) (n : Nat) : Int := kAt rs k rs.length + 4 * n

set_option maxHeartbeats 2000000 in
theorem markDesk_any (up : Bool) (v u : Value) (ps : List (R × Value)) (f : Int) (ws : List Wd) (k : Int) (lo hi : Nat) (w : World) (ho : DkOwn w lo hi v u ps ws) (hl : tot (ps.map (·.1)) ≤ 1048576) (hlw : ws.length ≤ 1048576) (hk0 : 0 ≤ k) (hk1 : k ≤ 1000) :
    Calls Tryz.prog 53 #[deskV up v f u, .int .i64 k] w fun e w' => e = .returned (.int .i64 (kDk (ps.map (·.1)) k ws.length)) ∧ DkAt w' v u (markAll (ps.map (·.1)) k) (markW ws.length (kAt (ps.map (·.1)) k ps.length)) ∧ Mid lo hi w w' := by
  obtain ⟨h0, l, t, h1, h2, h3, h4, h5⟩ := ho
  have hKb := kAt_bd (ps.map (·.1)) k ps.length (by simp) hl hk0 hk1
  have hll : (ps.map (·.1)).length = ps.length := by simp
  have hlo : ∀ g, u.ownBlock = some g → lo ≤ g := fun g hg => (h4.lt g hg).1
  have HS : Hid (∀ o, Calls Tryz.prog 85 #[.agg #[v, .int .i64 f], .int .i64 k] (w.alloc o) fun e w' => e = .returned (.int .i64 (kAt (ps.map (·.1)) k ps.length)) ∧ OwnRecs w' l t v (stg ps k ps.length) ∧ Mid l t (w.alloc o) w') := fun o =>
    markLog_any v ps f k l t (w.alloc o) (h3.below (alloc_below w o) (by omega)) hl hk0 hk1
  have HW : Hid (∀ w1, w1.ownsRow lo 82 4 u ws.length (wflat ws) → Calls Tryz.prog 55 #[u, .int .i64 (kAt (ps.map (·.1)) k ps.length)] w1 fun e w' => e = .returned (.int .i64 (kAt (ps.map (·.1)) k ps.length + 4 * ws.length)) ∧ w'.ownsRow lo 82 4 u ws.length (wflat (markW ws.length (kAt (ps.map (·.1)) k ps.length))) ∧ w1.grownBy w' u.ownBlock) := fun w1 h =>
    markWords_any u ws _ lo ws.length w1 h hlw hKb.1 (by omega)
  have HR : Hid (∀ o w1, Mid l t (w.alloc o) w1 → w1.ownsRow lo 82 4 u ws.length (wflat ws)) := fun o w1 hm =>
    ownsRow_mid (h4.alloc o) hm (fun g hg => (h5 g hg).2)
  have HF : Hid (∀ o w1 w2, Mid l t (w.alloc o) w1 → OwnRecs w1 l t v (stg ps k ps.length) → w1.grownBy w2 u.ownBlock → w2.ownsRow lo 82 4 u ws.length (wflat (markW ws.length (kAt (ps.map (·.1)) k ps.length))) →
      DkAt w2 v u (markAll (ps.map (·.1)) k) (markW ws.length (kAt (ps.map (·.1)) k ps.length)) ∧ Mid lo hi w w2) := fun o w1 w2 hm hw hg hr => by
    have hrow : ∀ x : Value, x.ownBlock = none ∨ x.ownBlock ≠ u.ownBlock ∨ x.ownBlock = u.ownBlock := fun x => by
      by_cases e : x.ownBlock = u.ownBlock
      · exact Or.inr (Or.inr e)
      · exact Or.inr (Or.inl e)
    have apart : ∀ (x : Value) (b : Nat), x.ownBlock = some b → l ≤ b → b < t → x.ownBlock ≠ u.ownBlock := fun x b hx hb1 hb2 e => by
      rw [hx] at e
      have := (h5 b e.symm).2
      omega
    have keep : OwnRecs w2 l t v (stg ps k ps.length) := by
      obtain ⟨q1, q2, q3⟩ := hw
      refine ⟨q1.kept hg ?_, q2, q3.kept hg fun p hp => ?_⟩
      · cases hv : v.ownBlock with
        | none => exact Or.inl rfl
        | some b => exact Or.inr (hv ▸ apart v b hv (q1.lt b hv).1 (q2 b hv))
      · cases hv : p.2.ownBlock with
        | none => exact Or.inl rfl
        | some b => exact Or.inr (hv ▸ apart p.2 b hv ((q3.2.1 p hp).1.lt b hv).1 ((q3.2.1 p hp).2 b hv))
    refine ⟨⟨?_, ?_⟩, ?_⟩
    · have := keep.recs
      rw [stg_all] at this
      exact this
    · have hlen : (markW ws.length (kAt (ps.map (·.1)) k ps.length)).length = ws.length := markW_length _ _
      have hr' : w2.ownsRow lo 82 4 u (markW ws.length (kAt (ps.map (·.1)) k ps.length)).length (wflat (markW ws.length (kAt (ps.map (·.1)) k ps.length))) := by rw [hlen]; exact hr
      exact words_of_row hr'
    · have m1 : Mid lo hi w (w.alloc o) := Mid.of_below (alloc_below w o) (Nat.le_refl _)
      have m2 : Mid lo hi (w.alloc o) w1 := ⟨hm.os, hm.tape, hm.output, hm.size, fun j hj hh => hm.block j hj (by omega)⟩
      have m3 : Mid lo hi w1 w2 := Mid.of_grown hg (fun j hj => ⟨hlo j hj, (h5 j hj).1⟩)
      exact (m1.trans m2).trans m3
  obtain ⟨av, cv, rfl⟩ := row_shape h3.1
  obtain ⟨au, cu, rfl⟩ := row_shape h4
  have HE : Hid (kDk (ps.map (·.1)) k ws.length = kAt (ps.map (·.1)) k ps.length + 4 * ws.length) := by show _ = _; unfold kDk; rw [hll]
  rw [HE.out]
  obtain ⟨K, hK⟩ : ∃ x, kAt (ps.map (·.1)) k ps.length = x := ⟨_, rfl⟩
  rw [hK] at HS HW HF hKb ⊢
  have X0 : Hid (∀ o, Blk (w.alloc (.cells #[.bool up, .slice av ps.length cv, .int .i64 f, .slice au ws.length cu] o)) w.heap.size #[.bool up, .slice av ps.length cv, .int .i64 f, .slice au ws.length cu] o) := fun o => Blk.new _ _ _
  have hwt : Hid (t ≤ w.heap.size) := by show _ ≤ _; omega
  clear h0 h1 h2 h3 h4 h5 hlo hll hK HE
  go_enter Tryz.func53, Tryz.ntmps53
  go_wp2_with fail
  refine (HS.out _).mono ?_
  rintro e w1 ⟨rfl, ho1, hm1⟩
  obtain ⟨x0, x1, x2, x3⟩ := ((X0.out 38).mid hm1 (Or.inr hwt.out)).cells4
  have R1 := hide_it (HR.out _ w1 hm1)
  have F1 := hide_it (fun w2 => HF.out _ w1 w2 hm1 ho1)
  clear ho1 hm1
  go_wp2_with fail
  refine (HW.out w1 R1.out).mono ?_
  rintro e w2 ⟨rfl, hr2, hg2⟩
  have G2 := hide_it (F1.out w2 hg2 hr2)
  clear hr2 hg2
  go_wp2
  go_ret
  exact ⟨rfl, G2.out.1, G2.out.2⟩

set_option maxHeartbeats 2000000 in
theorem heldDesk_any (up : Bool) (v u : Value) (rs : List R) (f : Int) (n : Nat) (k : Int) (w : World) (hv : DkAt w v u (markAll rs k) (markW n (kAt rs k rs.length))) (hl : tot rs ≤ 1048576) (hlw : n ≤ 1048576) (hk0 : 0 ≤ k) (hk1 : k ≤ 1000) :
    Calls Tryz.prog 62 #[deskV up v f u, .int .i64 k] w fun e w' => e = .returned (.int .i64 (kDk rs k n)) ∧ Below w.heap.size w w' := by
  have hKb := kAt_bd rs k rs.length (Nat.le_refl _) hl hk0 hk1
  have HS : Hid (∀ o, Calls Tryz.prog 109 #[.agg #[v, .int .i64 f], .int .i64 k] (w.alloc o) fun e w' => e = .returned (.int .i64 (kAt rs k rs.length)) ∧ Below (w.alloc o).heap.size (w.alloc o) w') := fun o =>
    heldLog_any v rs f k (w.alloc o) (hv.1.later (alloc_below w o) (Nat.le_refl _)) hl hk0 hk1
  have HW : Hid (∀ W, Below w.heap.size w W → Calls Tryz.prog 64 #[u, .int .i64 (kAt rs k rs.length)] W fun e w' => e = .returned (.int .i64 (kAt rs k rs.length + 4 * n)) ∧ w' = W) := fun W h =>
    heldWords_any u n _ W (hv.2.later h (Nat.le_refl _)) hlw hKb.1 (by omega)
  obtain ⟨av, cv, au, cu, rfl, rfl⟩ := hv.shape
  clear hv
  show Calls Tryz.prog 62 #[deskV up _ f _, .int .i64 k] w fun e w' => e = .returned (.int .i64 (kAt rs k rs.length + 4 * n)) ∧ Below w.heap.size w w'
  obtain ⟨K, hK⟩ : ∃ x, kAt rs k rs.length = x := ⟨_, rfl⟩
  rw [hK] at HS HW hKb ⊢
  clear hK
  generalize (markAll rs k).length = N1 at *
  generalize (markW n _).length = N2 at *
  have X0 : Hid (Blk (w.alloc (.cells #[.bool up, .slice av N1 cv, .int .i64 f, .slice au N2 cu] 38)) w.heap.size #[.bool up, .slice av N1 cv, .int .i64 f, .slice au N2 cu] 38) := Blk.new _ _ _
  go_enter Tryz.func62, Tryz.ntmps62
  go_wp2_with fail
  refine (HS.out _).mono ?_
  rintro e w1 ⟨rfl, hb⟩
  obtain ⟨x0, x1, x2, x3⟩ := (X0.out.after hb).cells4
  have B1 := hide_it (below_after hb)
  clear hb
  go_wp2_with fail
  refine (HW.out w1 B1.out).mono ?_
  rintro e w2 ⟨rfl, rfl⟩
  go_wp2
  go_ret
  exact ⟨rfl, B1.out⟩

end Go.Proofs.YtkkkdgpbmmjieaaGreatDoor

namespace Go.Proofs.YtkkkdgpbmmjieaaGreatDoor
open Go.ChangeShapes Go.WideShapes Go.ChangeAt Go.WideMaps Go.WideElems Go.RowKit Go.Joins

theorem cellsWordL : Tryz.prog.cellsOf 124 = 4 := by kernel_rfl
theorem cellsDeskL : Tryz.prog.cellsOf 27 = 4 := by kernel_rfl
theorem cellsBool : Tryz.prog.cellsOf 4 = 1 := by kernel_rfl
theorem cellsRecsL : Tryz.prog.cellsOf 22 = 1 := by kernel_rfl
theorem cellsWordsL : Tryz.prog.cellsOf 25 = 1 := by kernel_rfl
theorem array4 {α : Type} {cs : Array α} (h : cs.size = 4) : ∃ c0 c1 c2 c3, cs = #[c0, c1, c2, c3] := by
  obtain ⟨l⟩ := cs
  match l, h with
  | [c0, c1, c2, c3], _ => exact ⟨c0, c1, c2, c3, rfl⟩

section
variable {H : Type} {enc : TypeId × Value → H} {W : World}

set_option maxRecDepth 100000 in
theorem word_of_trod {fuel : Nat} {b o : Nat} {cs : List Value} {y : DataW H × List MemPlace} (hc : W.cells? 0 ⟨b, o, none⟩ 4 = some cs) (h : DataW.trod enc Tryz.prog W 0 (fun _ => true) true fuel 124 cs = some y) :
    ∃ p : Wd, W.cell? ⟨b, o, none⟩ = some (.int .i64 p.1) ∧ W.cell? ⟨b, o + 1, none⟩ = some (.int .i64 p.2.1) ∧ W.cell? ⟨b, o + 2, none⟩ = some (.int .i64 p.2.2.1) ∧ W.cell? ⟨b, o + 3, none⟩ = some (.int .i64 p.2.2.2) := by
  obtain ⟨y0, y1, y2, y3, n, _, hl, h0, h1, h2, h3⟩ := trod_struct4 Tryz.underlying124 h
  rw [cellsWordL] at hl
  match cs, hl with
  | [c0, c1, c2, c3], _ =>
    simp only [cellsInt] at h0 h1 h2 h3
    obtain ⟨k, e0, _, _⟩ := DataW.trod_int Tryz.underlying3 h0
    obtain ⟨t, e1, _, _⟩ := DataW.trod_int Tryz.underlying3 h1
    obtain ⟨r, e2, _, _⟩ := DataW.trod_int Tryz.underlying3 h2
    obtain ⟨s, e3, _, _⟩ := DataW.trod_int Tryz.underlying3 h3
    simp at e0 e1 e2 e3
    subst e0 e1 e2 e3
    obtain ⟨_, _, hcs⟩ := World.cells?_some hc
    refine ⟨(k, t, r, s), ?_, ?_, ?_, ?_⟩
    · simpa [Addr.add] using hcs 0 (by omega)
    · simpa [Addr.add] using hcs 1 (by omega)
    · simpa [Addr.add] using hcs 2 (by omega)
    · simpa [Addr.add] using hcs 3 (by omega)

theorem words_of_trod {fuel : Nat} {c : Value} {y : DataW H × List MemPlace} (h : DataW.trod enc Tryz.prog W 0 (fun _ => true) true fuel 25 [c] = some y) :
    ∃ hs : List Wd, Words W c hs ∧ (hs.length : Int) ≤ 9223372036854775807 := by
  rcases Deep.open_slice Tryz.underlying25 h with ⟨hcs, hx⟩ | ⟨a, len, cap, m, n, D, Pq, hcs, _, hl, hm, hmm, hx, hel⟩
  · simp at hcs
    subst hcs
    exact ⟨[], Or.inl ⟨rfl, _, _, rfl, fun _ => rfl⟩, by simp⟩
  · simp at hcs
    subst hcs
    simp only [if_pos] at hmm
    rw [cellsWordL] at hel
    by_cases h0 : len = 0
    · subst h0
      exact ⟨[], Or.inl ⟨rfl, _, _, rfl, fun h => by cases h⟩, by simp⟩
    · obtain ⟨b, off, spot⟩ := a
      have hspot : spot = none := by
        obtain ⟨cs', hc, _⟩ := hel 0 (by omega)
        obtain ⟨_, hlen', hcs⟩ := World.cells?_some hc
        have h1 := hcs 0 (by omega)
        rw [List.getElem?_eq_getElem (by omega)] at h1
        simpa [Addr.add] using World.cell?_spot h1
      subst hspot
      have each : ∀ i : Nat, ∃ p : Wd, i < len → W.cell? ⟨b, off + i * 4, none⟩ = some (.int .i64 p.1) ∧ W.cell? ⟨b, off + i * 4 + 1, none⟩ = some (.int .i64 p.2.1) ∧ W.cell? ⟨b, off + i * 4 + 2, none⟩ = some (.int .i64 p.2.2.1) ∧ W.cell? ⟨b, off + i * 4 + 3, none⟩ = some (.int .i64 p.2.2.2) := fun i => by
        by_cases hi : i < len
        · obtain ⟨cs', hc, ht⟩ := hel i (by omega)
          rw [add_plain] at hc
          obtain ⟨p, h1⟩ := word_of_trod hc ht
          exact ⟨p, fun _ => h1⟩
        · exact ⟨(0, 0, 0, 0), fun h => absurd h hi⟩
      obtain ⟨F, hF⟩ := Classical.axiomOfChoice each
      have hlen : ((List.range len).map F).length = len := by simp
      refine ⟨(List.range len).map F, Or.inr ⟨b, off, cap, by rw [hlen], by intro e; rw [e] at hlen; simp at hlen; omega, fun i hi => ?_⟩, by rw [hlen]; unfold maxLen at hm; omega⟩
      rw [hlen] at hi
      have e : ((List.range len).map F).getD i (0, 0, 0, 0) = F i := by simp [List.getD_eq_getElem?_getD, hi]
      rw [e]
      exact hF i hi

set_option maxRecDepth 100000 in
/-- A desk that came in. -/
theorem open_desk {base : Nat} {v : Value} {d : DataW H} {p : List MemPlace} (hval : Value.okWide Tryz.prog W .any base 27 v) (h : DataW.Trod enc Tryz.prog W 0 (fun _ => true) true 27 v d p) :
    ∃ (up : Bool) (x : Value) (f : Int) (y : Value) (rs : List R) (ws : List Wd), v = deskV up x f y ∧ DkAt W x y rs ws ∧ (rs.length : Int) ≤ 9223372036854775807 ∧ (∀ r ∈ rs, (r.2.2.length : Int) ≤ 9223372036854775807) ∧ (ws.length : Int) ≤ 9223372036854775807 := by
  obtain ⟨cs, rfl, hsz⟩ := okWide_struct Tryz.underlying27 hval
  obtain ⟨c0, c1, c2, c3, rfl⟩ := array4 (hsz.trans cellsDeskL)
  obtain ⟨fuel, hf⟩ := h
  obtain ⟨y0, y1, y2, n, hx, _, h0, h1, h2⟩ := Deep.trod_struct3 Tryz.underlying27 hf
  simp only [Value.cells, cellsBool, cellsLogL, cellsWordsL] at h0 h1 h2
  obtain ⟨up, e0, _⟩ := DataW.trod_bool Tryz.underlying4 h0
  simp at e0
  subst e0
  obtain ⟨z0, z1, m, hy, _, g0, g1⟩ := trod_struct2 Tryz.underlying24 h1
  simp only [cellsInt, cellsRecsL] at g0 g1
  obtain ⟨f, e4, _, _⟩ := DataW.trod_int Tryz.underlying3 g1
  simp at e4
  subst e4
  obtain ⟨rs, r1, r2, r3⟩ := recs_of_trod (c := c1) (by simpa using g0)
  obtain ⟨ws, s1, s2⟩ := words_of_trod (c := c3) (by simpa using h2)
  exact ⟨up, _, f, _, rs, ws, rfl, ⟨r1, s1⟩, r2, r3, s2⟩

end
end Go.Proofs.YtkkkdgpbmmjieaaGreatDoor

namespace Go.Proofs.YtkkkdgpbmmjieaaGreatDoor
open Go.RowKit

/-- A house as a value: its number, whether it is up, how many it has, its log. -/
abbrev houseV (id : Int) (up : Bool) (room : Int) (v : Value) (f : Int) : Value := .agg #[.int .i64 id, .bool up, .int .i64 room, v, .int .i64 f]

/-- A house comes back, in memory of the call's own. -/
def HoOut (w w' : World) (e : Ending) (id : Int) (up : Bool) (room : Int) (rs : List R) (f : Int) : Prop :=
  ∃ ao cap, e = .returned (houseV id up room (.slice ao rs.length cap) f) ∧ Made w' w.heap.size (.slice ao rs.length cap) rs ∧ Below w.heap.size w w'

/-- A block that holds a house. -/
def Five (w : World) (b : Nat) (id : Int) (up : Bool) (room : Int) (v : Value) (f : Int) (ty : TypeId) : Prop := w.heap[b]? = some (.cells #[.int .i64 id, .bool up, .int .i64 room, v, .int .i64 f] ty (0, 0))
theorem Five.new (w : World) (id : Int) (up : Bool) (room : Int) (v : Value) (f : Int) (ty : TypeId) : Five (w.alloc (.cells #[.int .i64 id, .bool up, .int .i64 room, v, .int .i64 f] ty)) w.heap.size id up room v f ty := heap_alloc_new w _
theorem Five.lt {w : World} {b : Nat} {id : Int} {up : Bool} {room : Int} {v : Value} {f : Int} {ty : TypeId} (h : Five w b id up room v f ty) : b < w.heap.size := by
  by_cases e : b < w.heap.size
  · exact e
  · unfold Five at h; rw [Array.getElem?_eq_none (by omega)] at h; cases h
theorem Five.later {w w' : World} {b L : Nat} {id : Int} {up : Bool} {room : Int} {v : Value} {f : Int} {ty : TypeId} (h : Five w b id up room v f ty) (hb : Below L w w') (hL : b < L) : Five w' b id up room v f ty := by
  unfold Five; rw [hb.block b hL]; exact h
theorem Five.mid {w w' : World} {b l h' : Nat} {id : Int} {up : Bool} {room : Int} {v : Value} {f : Int} {ty : TypeId} (h : Five w b id up room v f ty) (hm : Mid l h' w w') (hb : b < l ∨ h' ≤ b) : Five w' b id up room v f ty := by
  unfold Five; rw [hm.block b h.lt hb]; exact h
theorem Five.cells {w : World} {b : Nat} {id : Int} {up : Bool} {room : Int} {v : Value} {f : Int} {ty : TypeId} (h : Five w b id up room v f ty) :
    w.cell? ⟨b, 0, none⟩ = some (.int .i64 id) ∧ w.cell? ⟨b, 1, none⟩ = some (.bool up) ∧ w.cell? ⟨b, 2, none⟩ = some (.int .i64 room) ∧ w.cell? ⟨b, 3, none⟩ = some v ∧ w.cell? ⟨b, 4, none⟩ = some (.int .i64 f) := by
  refine ⟨?_, ?_, ?_, ?_, ?_⟩ <;> (rw [cell_of_row w _ _ _ _ _ h]; rfl)
theorem Five.free {w : World} {b : Nat} {id : Int} {up : Bool} {room : Int} {v : Value} {f : Int} {ty : TypeId} (h : Five w b id up room v f ty) :
    w.frozen? ⟨b, 0, none⟩ = false ∧ w.frozen? ⟨b, 1, none⟩ = false ∧ w.frozen? ⟨b, 2, none⟩ = false ∧ w.frozen? ⟨b, 3, none⟩ = false ∧ w.frozen? ⟨b, 4, none⟩ = false :=
  ⟨frozen_of_row w _ _ _ _ h, frozen_of_row w _ _ _ _ h, frozen_of_row w _ _ _ _ h, frozen_of_row w _ _ _ _ h, frozen_of_row w _ _ _ _ h⟩

theorem szHouse_any (id : Int) (up : Bool) (room : Int) (v : Value) (rs : List R) (f : Int) (left : Int) (w : World) (hv : Recs w v rs) (hl : (rs.length : Int) ≤ 9223372036854775807) (hls : ∀ r ∈ rs, (r.2.2.length : Int) ≤ 9223372036854775807) (h0 : 0 ≤ left) (h1 : left ≤ 1048576) :
    Calls Tryz.prog 68 #[houseV id up room v f, .int .i64 left] w fun e w' => e = .returned (.int .i64 (leftOf left (tot rs))) ∧ Below w.heap.size w w' := by
  have HV : Hid (∀ o, Recs (w.alloc o) v rs) := fun o => hv.later ((Below.refl _ _).alloc (Nat.le_refl _) o) (Nat.le_refl _)
  have HS : Hid (∀ o, Calls Tryz.prog 67 #[.agg #[v, .int .i64 f], .int .i64 left] (w.alloc o) fun e w' => e = .returned (.int .i64 (leftOf left (tot rs))) ∧ Below (w.alloc o).heap.size (w.alloc o) w') :=
    fun o => szLog_any v rs f left (w.alloc o) (HV.out o) hl hls h0 h1
  obtain ⟨av, cv, rfl⟩ := hv.shape
  clear hv hl hls HV
  have fin : ∀ (o : Obj) (w' : World), Below (w.alloc o).heap.size (w.alloc o) w' → Below w.heap.size w w' := fun o w' h => ((Below.refl _ _).alloc (Nat.le_refl _) o).trans (h.mono (by simp))
  have FN := hide_it fin
  clear fin
  by_cases hn : left - (tot rs : Int) < 0
  · rw [leftOf_neg hn] at HS ⊢
    go_enter Tryz.func68, Tryz.ntmps68
    go_wp2_with (go_at_call 67; refine (HS.out _).mono ?_; rintro e w1 ⟨rfl, hb⟩)
    go_ret
    exact ⟨rfl, FN.out _ _ (by assumption)⟩
  · rw [leftOf_pos hn] at HS ⊢
    go_enter Tryz.func68, Tryz.ntmps68
    go_wp2_with (go_at_call 67; refine (HS.out _).mono ?_; rintro e w1 ⟨rfl, hb⟩)
    go_ret
    exact ⟨rfl, FN.out _ _ (by assumption)⟩

theorem Five.pinned {w : World} {b : Nat} {id : Int} {up : Bool} {room : Int} {v : Value} {f : Int} {ty : TypeId} (h : w.heap[b]? = some (.cells #[.int .i64 id, .bool up, .int .i64 room, v, .int .i64 f] ty (0, 0))) : Five w b id up room v f ty := h

set_option maxHeartbeats 1000000 in
theorem toHouse_any (id : Int) (up : Bool) (room : Int) (v : Value) (rs : List R) (f : Int) (w : World) (hv : Recs w v rs) (hl : tot rs ≤ 1048576) :
    Calls Tryz.prog 74 #[houseV id up room v f] w fun e w' => HoOut w w' e id up room rs f := by
  have HS : Hid (∀ W, Below w.heap.size w W → Calls Tryz.prog 73 #[.agg #[v, .int .i64 f]] W fun e w' => ∃ ao cap, e = .returned (.agg #[.slice ao rs.length cap, .int .i64 f]) ∧ Made w' W.heap.size (.slice ao rs.length cap) rs ∧ Below W.heap.size W w') := fun W h =>
    (toLog_any v rs f W (hv.later h (Nat.le_refl _)) hl).mono fun e w' ⟨h1, h2, h3⟩ => ⟨_, _, h1, h2.lo (by omega), h3⟩
  obtain ⟨av, cv, rfl⟩ := hv.shape
  clear hv
  go_enter Tryz.func74, Tryz.ntmps74
  go_wp2_with fail
  refine (HS.out _ (below3 w _ _ _)).mono ?_
  rintro e w1 ⟨ao, cap, rfl, hm, hb⟩
  rw [size3] at hm hb
  have hc : ∀ b o, b < w.heap.size + 3 → w1.cell? ⟨b, o, none⟩ = _ := fun b o h => hb.cell (p := ⟨b, o, none⟩) h
  have hf : ∀ b o, b < w.heap.size + 3 → w1.frozen? ⟨b, o, none⟩ = _ := fun b o h => hb.frozen (p := ⟨b, o, none⟩) h
  have hz : w.heap.size + 3 ≤ w1.heap.size := by have := hb.size; rw [size3] at this; exact this
  have HO := hide_it hm
  have HB : Hid (Below w.heap.size w w1) := (below3 w _ _ _).trans (hb.mono (by omega))
  clear hm hb
  go_wp2
  refine bodyPost_ret (v := houseV id up room (.slice ao rs.length cap) f) (by simp [results, Tryz.results74, go_sem, hc]) rfl ?_
  refine ⟨ao, cap, rfl, ?_, ?_⟩
  · refine Made.lo ?_ (Nat.le_add_right _ 3)
    repeat (refine Made.setBelow ?_ (by simp) _)
    exact HO.out
  · repeat (refine Below.setCell ?_ (by first | (simp; done) | (simp; omega)) _)
    exact HB.out

set_option maxHeartbeats 1000000 in
theorem eqHouse_any (id : Int) (up : Bool) (room : Int) (v1 v2 : Value) (rs : List R) (f : Int) (w : World) (h1 : Recs w v1 rs) (h2 : Recs w v2 rs) (hl : tot rs ≤ 1048576) :
    Calls Tryz.prog 80 #[houseV id up room v1 f, houseV id up room v2 f] w fun e w' => e = .returned (.bool true) ∧ Below w.heap.size w w' := by
  have H1 : Hid (∀ o1 o2, Recs ((w.alloc o1).alloc o2) v1 rs) := fun o1 o2 => h1.later (below2 w o1 o2) (Nat.le_refl _)
  have H2 : Hid (∀ o1 o2, Recs ((w.alloc o1).alloc o2) v2 rs) := fun o1 o2 => h2.later (below2 w o1 o2) (Nat.le_refl _)
  obtain ⟨a1, p1, rfl⟩ := h1.shape
  obtain ⟨a2, p2, rfl⟩ := h2.shape
  clear h1 h2
  cases up
  all_goals
    go_enter Tryz.func80, Tryz.ntmps80
    go_wp2_with fail
    refine (eqLog_any _ _ rs f _ (H1.out _ _) (H2.out _ _) hl).mono ?_
    rintro e w1 ⟨rfl, hb⟩
    have HB : Hid (Below w.heap.size w w1) := (below2 w _ _).trans (hb.mono (by simp; omega))
    clear hb
    go_wp2
    go_ret
    exact ⟨rfl, HB.out⟩

end Go.Proofs.YtkkkdgpbmmjieaaGreatDoor

namespace Go.Proofs.YtkkkdgpbmmjieaaGreatDoor.T
open Go.RowKit

end Go.Proofs.YtkkkdgpbmmjieaaGreatDoor.T

namespace Go.Proofs.YtkkkdgpbmmjieaaGreatDoor.T
open Go.RowKit

/-- A trip as plain data: what it wants, its state. -/
abbrev R := List Int × Int

/-- A record lies at this place of a block. -/
def RecCells (w : World) (b o : Nat) (r : R) (u : Value) : Prop :=
  w.cell? ⟨b, o, none⟩ = some u ∧ w.cell? ⟨b, o + 1, none⟩ = some (.int .i64 r.2) ∧ Ints w u r.1

/-- The value v is a slice of just these records in the world w. -/
def Recs (w : World) (v : Value) (rs : List R) : Prop :=
  (rs = [] ∧ ∃ ao cap, v = .slice ao 0 cap) ∨
  (∃ b off cap, v = .slice (some ⟨b, off, none⟩) rs.length cap ∧ rs ≠ [] ∧ ∀ i r, rs[i]? = some r → ∃ u, RecCells w b (off + i * 2) r u)

/-- How many numbers the first k records have together; all of them, and the records. -/
def pre (rs : List R) (k : Nat) : Nat := ((rs.take k).map fun r => r.1.length).sum
def tot (rs : List R) : Nat := rs.length + pre rs rs.length
theorem pre_zero (rs : List R) : pre rs 0 = 0 := by simp [pre]
theorem pre_succ (rs : List R) (k : Nat) (r : R) (h : rs[k]? = some r) : pre rs (k + 1) = pre rs k + r.1.length := by
  have hk : k < rs.length := by
    by_cases hk : k < rs.length
    · exact hk
    · rw [List.getElem?_eq_none (by omega)] at h; cases h
  rw [List.getElem?_eq_getElem hk] at h
  simp only [Option.some.injEq] at h
  unfold pre
  rw [List.take_succ_eq_append_getElem hk, h]
  simp
theorem pre_le (rs : List R) (k : Nat) : pre rs k ≤ pre rs rs.length := by
  unfold pre
  rw [List.take_length]
  have h : (rs.map fun r : R => r.1.length).sum = ((rs.take k ++ rs.drop k).map fun r : R => r.1.length).sum := by rw [List.take_append_drop]
  rw [h, List.map_append, List.sum_append_nat]
  exact Nat.le_add_right _ _
theorem tot_len (rs : List R) : rs.length ≤ tot rs := by unfold tot; omega
theorem tot_mem (rs : List R) (r : R) (h : r ∈ rs) : r.1.length ≤ tot rs := by
  obtain ⟨i, hi, hr⟩ := List.mem_iff_getElem.1 h
  have h1 := pre_succ rs i r (by rw [List.getElem?_eq_getElem hi, hr])
  have h2 := pre_le rs (i + 1)
  unfold tot; omega


theorem RecCells.later {B : Nat} {w w' : World} {b o : Nat} {r : R} {u : Value} (h : RecCells w b o r u) (hb : Below B w w') (hB : w.heap.size ≤ B) : RecCells w' b o r u := by
  obtain ⟨h0, h1, h3⟩ := h
  have hlt := World.block_lt_of_cell? _ _ h0
  simp at hlt
  exact ⟨by rw [← h0]; exact hb.cell (p := ⟨b, o, none⟩) (by simp; omega), by rw [← h1]; exact hb.cell (p := ⟨b, o + 1, none⟩) (by simp; omega), h3.later hb hB⟩

theorem Recs.later {B : Nat} {w w' : World} {v : Value} {rs : List R} (h : Recs w v rs) (hb : Below B w w') (hB : w.heap.size ≤ B) : Recs w' v rs := by
  rcases h with h | ⟨b, off, cap, hv, hz, hc⟩
  · exact Or.inl h
  · refine Or.inr ⟨b, off, cap, hv, hz, fun i r hr => ?_⟩
    obtain ⟨u, hu⟩ := hc i r hr
    exact ⟨u, hu.later hb hB⟩

theorem Recs.shape {w : World} {v : Value} {rs : List R} (h : Recs w v rs) : ∃ ao cap, v = .slice ao rs.length cap := by
  rcases h with ⟨rfl, ao, cap, rfl⟩ | ⟨b, off, cap, rfl, _, _⟩
  · exact ⟨ao, cap, rfl⟩
  · exact ⟨_, cap, rfl⟩

end Go.Proofs.YtkkkdgpbmmjieaaGreatDoor.T

namespace Go.Proofs.YtkkkdgpbmmjieaaGreatDoor.T
open Go.RowKit

/-- Records, each with the slice that holds its numbers, as they lie in a row. -/
def flat : List (R × Value) → List Value
  | [] => []
  | p :: t => p.2 :: .int .i64 p.1.2 :: flat t

theorem flat_length (ps : List (R × Value)) : (flat ps).length = ps.length * 2 := by
  induction ps with
  | nil => rfl
  | cons p t ih => simp only [flat, List.length_cons, ih]; omega
theorem flat_append (ps qs : List (R × Value)) : flat (ps ++ qs) = flat ps ++ flat qs := by
  induction ps with
  | nil => rfl
  | cons p t ih => simp [flat, ih]
theorem flat_get (ps : List (R × Value)) (i : Nat) (p : R × Value) (h : ps[i]? = some p) :
    (flat ps)[i * 2]? = some p.2 ∧ (flat ps)[i * 2 + 1]? = some (.int .i64 p.1.2) := by
  induction ps generalizing i with
  | nil => simp at h
  | cons q t ih =>
    cases i with
    | zero => simp at h; subst h; simp [flat]
    | succ i =>
      have := ih i (by simpa using h)
      rw [show (i + 1) * 2 = i * 2 + 2 by omega]
      simpa [flat] using this
theorem flat_set (ps : List (R × Value)) (k : Nat) (r : R) (u : Value) (h : k < ps.length) :
    ((flat ps).set (k * 2) u).set (k * 2 + 1) (.int .i64 r.2) = flat (ps.set k (r, u)) := by
  induction ps generalizing k with
  | nil => simp at h
  | cons q t ih =>
    cases k with
    | zero => simp [flat]
    | succ k =>
      have := ih k (by simpa using h)
      rw [show (k + 1) * 2 = k * 2 + 2 by omega]
      simp only [flat, List.set_cons_succ]
      rw [this]

/-- The numbers of these records lie in rows of the call's own, from lo on and below hi, each apart from the others. -/
def Inner (w : World) (lo hi : Nat) (ps : List (R × Value)) : Prop :=
  hi ≤ w.heap.size ∧
  (∀ p ∈ ps, w.ownsRow lo 3 1 p.2 p.1.1.length (p.1.1.map (Value.int .i64)) ∧ ∀ k, p.2.ownBlock = some k → k < hi) ∧
  (∀ (i j : Nat) (p q : R × Value), ps[i]? = some p → ps[j]? = some q → i ≠ j → p.2.ownBlock = none ∨ p.2.ownBlock ≠ q.2.ownBlock)

theorem Inner.nil (w : World) (lo hi : Nat) (h : hi ≤ w.heap.size) : Inner w lo hi [] :=
  ⟨h, fun p hp => by simp at hp, fun i j p q hp => by simp at hp⟩

theorem Inner.below {w w' : World} {lo hi B : Nat} {ps : List (R × Value)} (h : Inner w lo hi ps) (hb : Below B w w') (hB : hi ≤ B) : Inner w' lo hi ps :=
  ⟨Nat.le_trans h.1 hb.size, fun p hp => ⟨ownsRow_below (h.2.1 p hp).1 hb (fun k hk => by have := (h.2.1 p hp).2 k hk; omega), (h.2.1 p hp).2⟩, h.2.2⟩

theorem Inner.mono {w : World} {lo hi hi' : Nat} {ps : List (R × Value)} (h : Inner w lo hi ps) (h1 : hi ≤ hi') (h2 : hi' ≤ w.heap.size) : Inner w lo hi' ps :=
  ⟨h2, fun p hp => ⟨(h.2.1 p hp).1, fun k hk => by have := (h.2.1 p hp).2 k hk; omega⟩, h.2.2⟩

/-- A row of records lies in no row of numbers. -/
theorem Inner.apart {w : World} {lo hi : Nat} {ps : List (R × Value)} (h : Inner w lo hi ps) {g : Nat} {cur : Array Value} {ty : TypeId} {fz : Nat × Nat} (hg : w.heap[g]? = some (.cells cur ty fz)) (ht : ty ≠ 3) : ∀ p ∈ ps, p.2.ownBlock ≠ some g := by
  intro p hp e
  rcases (h.2.1 p hp).1.2 with ⟨hv, _⟩ | ⟨g', cap, cur', hv, _, hh, _⟩
  · rw [hv] at e; simp [Value.ownBlock] at e
  · rw [hv] at e
    simp [Value.ownBlock] at e
    subst e
    rw [hg] at hh
    simp at hh
    exact ht hh.2.1

theorem Inner.kept {w w' : World} {lo hi : Nat} {row : Option Nat} {ps : List (R × Value)} (h : Inner w lo hi ps) (hg : w.grownBy w' row) (hne : ∀ p ∈ ps, p.2.ownBlock = none ∨ p.2.ownBlock ≠ row) : Inner w' lo hi ps :=
  ⟨Nat.le_trans h.1 hg.size, fun p hp => ⟨(h.2.1 p hp).1.kept hg (hne p hp), (h.2.1 p hp).2⟩, h.2.2⟩

/-- One more record, its numbers in a row that lies behind all. -/
theorem Inner.snoc {w : World} {lo hi hi' : Nat} {ps : List (R × Value)} {p : R × Value} (h : Inner w lo hi ps) (h1 : hi ≤ hi') (h2 : hi' ≤ w.heap.size)
    (ho : w.ownsRow lo 3 1 p.2 p.1.1.length (p.1.1.map (Value.int .i64))) (hp : ∀ k, p.2.ownBlock = some k → hi ≤ k ∧ k < hi') : Inner w lo hi' (ps ++ [p]) := by
  refine ⟨h2, fun q hq => ?_, fun i j q r hq hr hij => ?_⟩
  · rcases List.mem_append.1 hq with hq | hq
    · exact ⟨(h.2.1 q hq).1, fun k hk => by have := (h.2.1 q hq).2 k hk; omega⟩
    · simp at hq; subst hq; exact ⟨ho, fun k hk => (hp k hk).2⟩
  · by_cases hi1 : i < ps.length
    · rw [List.getElem?_append_left hi1] at hq
      by_cases hj1 : j < ps.length
      · rw [List.getElem?_append_left hj1] at hr
        exact h.2.2 i j q r hq hr hij
      · rw [List.getElem?_append_right (by omega)] at hr
        have hj0 : j - ps.length = 0 := by
          by_cases e : j - ps.length = 0
          · exact e
          · rw [List.getElem?_eq_none (by simp; omega)] at hr; cases hr
        rw [hj0] at hr
        simp at hr
        subst hr
        cases hb : q.2.ownBlock with
        | none => exact Or.inl rfl
        | some k =>
          refine Or.inr fun e => ?_
          have h3 := (h.2.1 q (List.mem_of_getElem? hq)).2 k hb
          have h4 := (hp k e.symm).1
          omega
    · rw [List.getElem?_append_right (by omega)] at hq
      have hi0 : i - ps.length = 0 := by
        by_cases e : i - ps.length = 0
        · exact e
        · rw [List.getElem?_eq_none (by simp; omega)] at hq; cases hq
      rw [hi0] at hq
      simp at hq
      subst hq
      by_cases hj1 : j < ps.length
      · rw [List.getElem?_append_left hj1] at hr
        cases hb : p.2.ownBlock with
        | none => exact Or.inl rfl
        | some k =>
          refine Or.inr fun e => ?_
          have h3 := (h.2.1 r (List.mem_of_getElem? hr)).2 k e.symm
          have h4 := (hp k hb).1
          omega
      · rw [List.getElem?_append_right (by omega)] at hr
        have hj0 : j - ps.length = 0 := by
          by_cases e : j - ps.length = 0
          · exact e
          · rw [List.getElem?_eq_none (by simp; omega)] at hr; cases hr
        omega

/-- A list of records of the call's own: its row, and the rows of its numbers. -/
def OwnRecs (w : World) (lo hi : Nat) (v : Value) (ps : List (R × Value)) : Prop :=
  w.ownsRow lo 194 2 v ps.length (flat ps) ∧ (∀ k, v.ownBlock = some k → k < hi) ∧ Inner w lo hi ps

theorem OwnRecs.below {w w' : World} {lo hi B : Nat} {v : Value} {ps : List (R × Value)} (h : OwnRecs w lo hi v ps) (hb : Below B w w') (hB : hi ≤ B) : OwnRecs w' lo hi v ps :=
  ⟨ownsRow_below h.1 hb (fun k hk => by have := h.2.1 k hk; omega), h.2.1, h.2.2.below hb hB⟩

theorem OwnRecs.recs {w : World} {lo hi : Nat} {v : Value} {ps : List (R × Value)} (h : OwnRecs w lo hi v ps) : Recs w v (ps.map (·.1)) := by
  obtain ⟨h1, _, h3⟩ := h
  by_cases hp : ps = []
  · subst hp
    rcases h1.2 with ⟨hv, _⟩ | ⟨g, cap, cur, hv, _⟩
    · exact Or.inl ⟨rfl, none, 0, hv⟩
    · exact Or.inl ⟨rfl, _, cap, hv⟩
  · rcases h1.2 with ⟨_, hn⟩ | ⟨g, cap, cur, hv, _⟩
    · exact absurd (List.length_eq_zero_iff.1 hn) hp
    · subst hv
      refine Or.inr ⟨g, 0, cap, by simp, by simpa using hp, fun i r hr => ?_⟩
      rw [List.getElem?_map] at hr
      cases hpi : ps[i]? with
      | none => rw [hpi] at hr; cases hr
      | some p =>
        rw [hpi] at hr
        simp at hr
        subst hr
        have hil : i < ps.length := by
          by_cases e : i < ps.length
          · exact e
          · rw [List.getElem?_eq_none (by omega)] at hpi; cases hpi
        obtain ⟨f0, f1⟩ := flat_get ps i p hpi
        refine ⟨p.2, ?_, ?_, ints_of_any (h3.2.1 p (List.mem_of_getElem? hpi)).1⟩
        · rw [Nat.zero_add, h1.cellAt _ (by omega)]; exact f0
        · rw [Nat.zero_add, h1.cellAt _ (by omega)]; exact f1

end Go.Proofs.YtkkkdgpbmmjieaaGreatDoor.T

namespace Go.Proofs.YtkkkdgpbmmjieaaGreatDoor.T
open Go.RowKit

theorem infoTrip : (Tryz.prog.info? 194).map (fun i => (i.zero, i.size, i.bytes)) = some (some (.agg #[.slice none 0 0, .int .i64 0]), 2, 32) := by kernel_rfl

def zeroP : R × Value := (([], 0), .slice none 0 0)

theorem made_two (n : Nat) : (madeCells #[.slice none 0 0, .int .i64 0] (n * 2)).toList = flat (List.replicate n zeroP) := by
  apply List.ext_getElem?
  intro i
  by_cases h : i < n * 2
  · have hq : i / 2 < n := by omega
    have hget : (List.replicate n zeroP)[i / 2]? = some zeroP := by simp [hq]
    obtain ⟨f0, f1⟩ := flat_get _ _ _ hget
    have hl : (madeCells #[.slice none 0 0, .int .i64 0] (n * 2)).toList[i]? = some (#[Value.slice none 0 0, .int .i64 0][i % 2]!) := by
      simp [madeCells, h]
    rw [hl]
    rcases (show i % 2 = 0 ∨ i % 2 = 1 by omega) with h0 | h0
    · rw [show i / 2 * 2 = i by omega] at f0; rw [f0, h0]; rfl
    · rw [show i / 2 * 2 + 1 = i by omega] at f1; rw [f1, h0]; rfl
  · rw [List.getElem?_eq_none (by simp [madeCells]; omega), List.getElem?_eq_none (by rw [flat_length]; simp; omega)]

/-- The value v is a list of just these records that the call itself has made, from lo on. -/
def Made (w : World) (lo : Nat) (v : Value) (rs : List R) : Prop := ∃ ps : List (R × Value), ps.map (·.1) = rs ∧ OwnRecs w lo w.heap.size v ps

theorem Made.recs {w : World} {lo : Nat} {v : Value} {rs : List R} (h : Made w lo v rs) : Recs w v rs := by
  obtain ⟨ps, rfl, ho⟩ := h
  exact ho.recs

/-- Two stores into a row of trips. -/
theorem stored2 {w : World} {base g n cap : Nat} {ps : List (R × Value)} (h : w.ownsRow base 194 2 (.slice (some ⟨g, 0, none⟩) n cap) n (flat ps)) (k : Nat) (hk : k < ps.length) (r : R) (u : Value) :
    ((w.setCell ⟨g, k * 2, none⟩ u).setCell ⟨g, k * 2 + 1, none⟩ (.int .i64 r.2)).ownsRow base 194 2 (.slice (some ⟨g, 0, none⟩) n cap) n (flat (ps.set k (r, u))) ∧
    w.grownBy ((w.setCell ⟨g, k * 2, none⟩ u).setCell ⟨g, k * 2 + 1, none⟩ (.int .i64 r.2)) (some g) := by
  have a1 := h.stored (k * 2) u
  have a2 := a1.1.stored (k * 2 + 1) (.int .i64 r.2)
  rw [flat_set ps k r u hk] at a2
  refine ⟨a2.1, ?_⟩
  refine ⟨rfl, rfl, rfl, by simp, fun j hj hne => ?_⟩
  rw [a2.2.block j (by simpa using hj) hne, a1.2.block j hj hne]

theorem rep_set (ps : List (R × Value)) (m : Nat) (p : R × Value) : (ps ++ List.replicate (m + 1) zeroP).set ps.length p = (ps ++ [p]) ++ List.replicate m zeroP := by
  rw [List.set_append_right _ _ (Nat.le_refl _), Nat.sub_self, List.replicate_succ]
  simp

/-- What one round of a copy does. -/
theorem toTrips_step {wr w2 : World} {W n k : Nat} {ps : List (R × Value)} {r : R} (hk : ps.length = k) (hkn : k < n)
    (hrow : wr.ownsRow W 194 2 (.slice (some ⟨W, 0, none⟩) n n) n (flat (ps ++ List.replicate (n - k) zeroP))) (hin : Inner wr W wr.heap.size ps) (hWr : W < wr.heap.size)
    (hb : Below wr.heap.size wr w2) (hown : w2.ownsRow (wr.heap.size + 3) 3 1 (.slice (some ⟨wr.heap.size + 3, 0, none⟩) r.1.length r.1.length) r.1.length (r.1.map (Value.int .i64))) :
    Hid (((w2.setCell ⟨W, k * 2, none⟩ (.slice (some ⟨wr.heap.size + 3, 0, none⟩) r.1.length r.1.length)).setCell ⟨W, k * 2 + 1, none⟩ (.int .i64 r.2)).ownsRow W 194 2 (.slice (some ⟨W, 0, none⟩) n n) n (flat ((ps ++ [(r, .slice (some ⟨wr.heap.size + 3, 0, none⟩) r.1.length r.1.length)]) ++ List.replicate (n - (k + 1)) zeroP)) ∧
    Inner ((w2.setCell ⟨W, k * 2, none⟩ (.slice (some ⟨wr.heap.size + 3, 0, none⟩) r.1.length r.1.length)).setCell ⟨W, k * 2 + 1, none⟩ (.int .i64 r.2)) W
      ((w2.setCell ⟨W, k * 2, none⟩ (.slice (some ⟨wr.heap.size + 3, 0, none⟩) r.1.length r.1.length)).setCell ⟨W, k * 2 + 1, none⟩ (.int .i64 r.2)).heap.size (ps ++ [(r, .slice (some ⟨wr.heap.size + 3, 0, none⟩) r.1.length r.1.length)])) := by
  have row2 := ownsRow_below hrow hb (fun j hj => by simp [Value.ownBlock] at hj; omega)
  have in2 := hin.below hb (Nat.le_refl _)
  obtain ⟨cur2, hc2⟩ := row_block hown
  have hlt : wr.heap.size + 3 < w2.heap.size := by
    by_cases h : wr.heap.size + 3 < w2.heap.size
    · exact h
    · rw [Array.getElem?_eq_none (by omega)] at hc2; cases hc2
  have in3 : Inner w2 W w2.heap.size (ps ++ [(r, .slice (some ⟨wr.heap.size + 3, 0, none⟩) r.1.length r.1.length)]) :=
    in2.snoc hb.size (Nat.le_refl _) (ownsRow_base hown (by omega)) (fun j hj => by simp [Value.ownBlock] at hj; omega)
  have st := stored2 row2 k (by simp; omega) r (.slice (some ⟨wr.heap.size + 3, 0, none⟩) r.1.length r.1.length)
  obtain ⟨cur, hcur⟩ := row_block row2
  refine ⟨?_, ?_⟩
  · have h := st.1
    rw [show n - k = (n - (k + 1)) + 1 by omega, ← hk, rep_set] at h
    rw [hk] at h
    rw [← hk, hk]
    exact h
  · have h := in3.kept st.2 (fun p hp => by
      have := in3.apart hcur (by decide) p hp
      exact Or.inr this)
    exact h.mono (by simp) (Nat.le_refl _)

end Go.Proofs.YtkkkdgpbmmjieaaGreatDoor.T

namespace Go.Proofs.YtkkkdgpbmmjieaaGreatDoor.T
open Go.RowKit

theorem Made.setBelow {w : World} {lo : Nat} {v : Value} {rs : List R} (h : Made w lo v rs) {a : Addr} (ha : a.block < lo) (x : Value) : Made (w.setCell a x) lo v rs := by
  obtain ⟨ps, hp, h1, h2, h3⟩ := h
  have hs : (w.setCell a x).heap.size = w.heap.size := by simp
  refine ⟨ps, hp, ownsRow_setCell_below h1 ha x, by rw [hs]; exact h2, ?_⟩
  rw [hs]
  exact ⟨by rw [hs]; exact h3.1, fun p hp => ⟨ownsRow_setCell_below (h3.2.1 p hp).1 ha x, (h3.2.1 p hp).2⟩, h3.2.2⟩

theorem Made.below {w w' : World} {lo B : Nat} {v : Value} {rs : List R} (h : Made w lo v rs) (hb : Below B w w') (hB : w.heap.size ≤ B) : Made w' lo v rs := by
  obtain ⟨ps, hp, ho⟩ := h
  obtain ⟨h1, h2, h3⟩ := ho.below hb hB
  exact ⟨ps, hp, h1, fun k hk => Nat.lt_of_lt_of_le (h2 k hk) hb.size, h3.mono hb.size (Nat.le_refl _)⟩

theorem Made.lo {w : World} {lo lo' : Nat} {v : Value} {rs : List R} (h : Made w lo v rs) (hl : lo' ≤ lo) : Made w lo' v rs := by
  obtain ⟨ps, hp, h1, h2, h3⟩ := h
  exact ⟨ps, hp, ownsRow_base h1 hl, h2, h3.1, fun p hp => ⟨ownsRow_base (h3.2.1 p hp).1 hl, (h3.2.1 p hp).2⟩, h3.2.2⟩

theorem Made.none (w : World) (lo : Nat) : Made w lo (.slice none 0 0) [] :=
  ⟨[], rfl, World.ownsRow_nil _ _ _ _, fun k hk => by simp [Value.ownBlock] at hk, Inner.nil _ _ _ (Nat.le_refl _)⟩

set_option maxHeartbeats 1000000 in
/-- A list that lies behind what has turned is as it was. -/
theorem OwnRecs.mid {w w' : World} {l0 h0 lo hi : Nat} {v : Value} {ps : List (R × Value)} (h : OwnRecs w l0 h0 v ps) (hb : Mid lo hi w w') (hB : hi ≤ l0) : OwnRecs w' l0 h0 v ps := by
  obtain ⟨h1, h2, h3⟩ := h
  refine ⟨ownsRow_mid h1 hb (fun k hk => Or.inr (by have := (h1.lt k hk).1; omega)), h2, Nat.le_trans h3.1 hb.size, fun p hp => ⟨?_, (h3.2.1 p hp).2⟩, h3.2.2⟩
  exact ownsRow_mid (h3.2.1 p hp).1 hb (fun k hk => Or.inr (by have := ((h3.2.1 p hp).1.lt k hk).1; omega))

def markR (r : R) (k : Int) : R := (markI r.1.length k, k + r.1.length)
/-- The number with which record i begins. -/
def kAt (rs : List R) (k : Int) (i : Nat) : Int := k + i + pre rs i
def dftP : R × Value := (([], 0), .slice none 0 0)
/-- The list when i records have been marked. -/
def stg (ps : List (R × Value)) (k : Int) (i : Nat) : List (R × Value) :=
  (List.range ps.length).map fun j => if j < i then (markR (ps.getD j dftP).1 (kAt (ps.map (·.1)) k j), (ps.getD j dftP).2) else ps.getD j dftP
/-- Records, all marked. -/
def markAll (rs : List R) (k : Int) : List R := (List.range rs.length).map fun j => markR (rs.getD j ([], 0)) (kAt rs k j)

theorem stg_length (ps : List (R × Value)) (k : Int) (i : Nat) : (stg ps k i).length = ps.length := by simp [stg]
theorem stg_get (ps : List (R × Value)) (k : Int) (i j : Nat) (p : R × Value) (h : ps[j]? = some p) : (stg ps k i)[j]? = some (if j < i then (markR p.1 (kAt (ps.map (·.1)) k j), p.2) else p) := by
  have hj : j < ps.length := by
    by_cases e : j < ps.length
    · exact e
    · rw [List.getElem?_eq_none (by omega)] at h; cases h
  have hg : ps.getD j dftP = p := by rw [List.getD_eq_getElem?_getD, h]; rfl
  unfold stg
  rw [List.getElem?_map, List.getElem?_range hj]
  simp only [Option.map_some, hg]
theorem stg_zero (ps : List (R × Value)) (k : Int) : stg ps k 0 = ps := by
  apply List.ext_getElem?
  intro j
  by_cases hj : j < ps.length
  · rw [stg_get ps k 0 j ps[j] (by simp [hj])]; simp [hj]
  · rw [List.getElem?_eq_none (by rw [stg_length]; omega), List.getElem?_eq_none (by omega)]
theorem stg_succ (ps : List (R × Value)) (k : Int) (i : Nat) (p : R × Value) (h : ps[i]? = some p) : stg ps k (i + 1) = (stg ps k i).set i (markR p.1 (kAt (ps.map (·.1)) k i), p.2) := by
  have hil : i < ps.length := by
    by_cases e : i < ps.length
    · exact e
    · rw [List.getElem?_eq_none (by omega)] at h; cases h
  apply List.ext_getElem?
  intro j
  by_cases hj : j < ps.length
  · rw [stg_get ps k (i + 1) j ps[j] (by simp [hj]), List.getElem?_set]
    by_cases hij : i = j
    · subst hij
      have hp : ps[i] = p := by rw [List.getElem?_eq_getElem hj] at h; simpa using h
      rw [if_pos rfl, if_pos (show i < (stg ps k i).length by rw [stg_length]; exact hj), if_pos (show i < i + 1 by omega), hp]
    · rw [if_neg hij, stg_get ps k i j ps[j] (by simp [hj])]
      by_cases hji : j < i
      · rw [if_pos (by omega), if_pos hji]
      · rw [if_neg (by omega), if_neg hji]
  · rw [List.getElem?_eq_none (by rw [stg_length]; omega), List.getElem?_eq_none (by rw [List.length_set, stg_length]; omega)]
theorem stg_all (ps : List (R × Value)) (k : Int) : (stg ps k ps.length).map (·.1) = markAll (ps.map (·.1)) k := by
  apply List.ext_getElem?
  intro j
  by_cases hj : j < ps.length
  · rw [List.getElem?_map, stg_get ps k ps.length j ps[j] (by simp [hj]), if_pos hj]
    simp [markAll, hj, List.getD_eq_getElem?_getD]
  · rw [List.getElem?_eq_none (by rw [List.length_map, stg_length]; omega), List.getElem?_eq_none (by simp [markAll]; omega)]
theorem markAll_length (rs : List R) (k : Int) : (markAll rs k).length = rs.length := by simp [markAll]
theorem markAll_get (rs : List R) (k : Int) (i : Nat) (r : R) (h : rs[i]? = some r) : (markAll rs k)[i]? = some (markR r (kAt rs k i)) := by
  have hj : i < rs.length := by
    by_cases e : i < rs.length
    · exact e
    · rw [List.getElem?_eq_none (by omega)] at h; cases h
  unfold markAll
  rw [List.getElem?_map, List.getElem?_range hj]
  simp [List.getD_eq_getElem?_getD, h]
theorem kAt_zero (rs : List R) (k : Int) : kAt rs k 0 = k := by simp [kAt, pre_zero]
theorem kAt_succ (rs : List R) (k : Int) (i : Nat) (r : R) (h : rs[i]? = some r) : kAt rs k (i + 1) = kAt rs k i + 1 + r.1.length := by
  unfold kAt; rw [pre_succ rs i r h]; omega
theorem kAt_bd (rs : List R) (k : Int) (i : Nat) (hi : i ≤ rs.length) (h : tot rs ≤ 1048576) (hk : 0 ≤ k) (hk1 : k ≤ 1000) : 0 ≤ kAt rs k i ∧ kAt rs k i ≤ 900000000 := by
  have := pre_le rs i
  unfold kAt tot at *; omega

theorem flat_set1 (ps : List (R × Value)) (i : Nat) (p : R × Value) (r : R) (h : ps[i]? = some p) :
    (flat ps).set (i * 2 + 1) (.int .i64 r.2) = flat (ps.set i (r, p.2)) := by
  induction ps generalizing i with
  | nil => simp at h
  | cons q t ih =>
    cases i with
    | zero => simp at h; subst h; simp [flat]
    | succ i =>
      have := ih i (by simpa using h)
      rw [show (i + 1) * 2 = i * 2 + 2 by omega]
      simp only [flat, List.set_cons_succ]
      rw [this]

/-- One trip marked: its numbers, then its state. -/
theorem mark_step {wr w2 w3 : World} {lo hi g n cap i : Nat} {qs : List (R × Value)} {r0 : R} {u : Value} {r : R} (hq : qs[i]? = some (r0, u))
    (ho : OwnRecs wr lo hi (.slice (some ⟨g, 0, none⟩) n cap) qs) (hqn : qs.length = n)
    (hown : w2.ownsRow lo 3 1 u r.1.length (r.1.map (Value.int .i64))) (hg : wr.grownBy w2 u.ownBlock)
    (h3 : w3 = w2.setCell ⟨g, i * 2 + 1, none⟩ (.int .i64 r.2)) :
    OwnRecs w3 lo hi (.slice (some ⟨g, 0, none⟩) n cap) (qs.set i (r, u)) ∧ Mid lo hi wr w3 := by
  obtain ⟨row, hgb, inn⟩ := ho
  rw [hqn] at row
  obtain ⟨cur, hcur⟩ := row_block row
  have ap := inn.apart hcur (by decide)
  have hmem := List.mem_of_getElem? hq
  have hug : u.ownBlock ≠ some g := ap (r0, u) hmem
  have row2 := row.kept hg (Or.inr (fun e => hug e.symm))
  have a1 := row2.stored (i * 2 + 1) (.int .i64 r.2)
  rw [flat_set1 qs i (r0, u) r hq] at a1
  rw [← h3] at a1
  have hgl := row.lt g rfl
  have hgh := hgb g rfl
  refine ⟨⟨by rw [List.length_set, hqn]; exact a1.1, hgb, Nat.le_trans (Nat.le_trans inn.1 hg.size) a1.2.size, fun p hp => ?_, fun a b p q hp hq' hab => ?_⟩, ?_⟩
  · obtain ⟨j, hj, hpj⟩ := List.mem_iff_getElem.1 hp
    rw [List.length_set] at hj
    by_cases hij : i = j
    · subst hij
      simp at hpj
      subst hpj
      exact ⟨hown.kept a1.2 (Or.inr hug), (inn.2.1 (r0, u) hmem).2⟩
    · rw [List.getElem_set_ne hij] at hpj
      have hpm : p ∈ qs := by rw [← hpj]; exact List.getElem_mem hj
      refine ⟨((inn.2.1 p hpm).1.kept hg ?_).kept a1.2 (Or.inr (ap p hpm)), (inn.2.1 p hpm).2⟩
      exact inn.2.2 j i p (r0, u) (by rw [List.getElem?_eq_getElem hj, hpj]) hq (fun e => hij e.symm)
  · have same : ∀ (c : Nat) (x : R × Value), (qs.set i (r, u))[c]? = some x → ∃ y, qs[c]? = some y ∧ y.2 = x.2 := by
      intro c x hx
      rw [List.getElem?_set] at hx
      by_cases hic : i = c
      · subst hic
        rw [if_pos rfl] at hx
        split at hx
        · simp at hx; exact ⟨(r0, u), hq, by rw [← hx]⟩
        · cases hx
      · rw [if_neg hic] at hx; exact ⟨x, hx, rfl⟩
    obtain ⟨y, hy, e1⟩ := same a p hp
    obtain ⟨z, hz, e2⟩ := same b q hq'
    rw [← e1, ← e2]
    exact inn.2.2 a b y z hy hz hab
  · exact (Mid.of_grown hg (fun k hk => ⟨((inn.2.1 (r0, u) hmem).1.lt k hk).1, (inn.2.1 (r0, u) hmem).2 k hk⟩)).trans (Mid.of_grown a1.2 (fun k hk => by simp at hk; omega))

end Go.Proofs.YtkkkdgpbmmjieaaGreatDoor.T

namespace Go.Proofs.YtkkkdgpbmmjieaaGreatDoor.T
open Go.RowKit

def tOk (r : R) : Bool := Pl.manyOk r.1 && Pl.inB r.2 1 5
def tripsOk (rs : List R) : Bool := rs.all tOk && decide (rs.length ≤ 6)

theorem all_snoc (rs : List R) (k : Nat) (r : R) (h : rs[k]? = some r) : (rs.take (k + 1)).all tOk = ((rs.take k).all tOk && tOk r) := by
  have hk : k < rs.length := by
    by_cases hk : k < rs.length
    · exact hk
    · rw [List.getElem?_eq_none (by omega)] at h; cases h
  rw [List.getElem?_eq_getElem hk] at h
  simp only [Option.some.injEq] at h
  rw [List.take_succ_eq_append_getElem hk, h]
  simp
theorem all_bad (rs : List R) (k : Nat) (r : R) (h : rs[k]? = some r) (hb : tOk r = false) : rs.all tOk = false := by
  rw [List.all_eq_false]
  exact ⟨r, List.mem_of_getElem? h, by rw [hb]; decide⟩
theorem tripsOk_bad {rs : List R} (h : rs.all tOk = false) : tripsOk rs = false := by unfold tripsOk; rw [h]; rfl

theorem stateOk_any (s : Int) (w : World) :
    Calls Tryz.prog 224 #[.int .i64 s] w fun e w' => e = .returned (.bool (Pl.inB s 1 5)) ∧ w' = w := by
  by_cases h1 : 1 ≤ s
  all_goals by_cases h2 : s ≤ 5
  all_goals
    go_enter Tryz.func224, Tryz.ntmps224
    go_wp2
    go_ret
    exact ⟨by simp [Pl.inB, h1, h2], rfl⟩

set_option maxHeartbeats 1000000 in
theorem implTripsOk_any (v : Value) (rs : List R) (w : World) (hv : Recs w v rs) (hl : tot rs ≤ 1048576) :
    Calls Tryz.prog 220 #[v] w fun e w' => e = .returned (.bool (tripsOk rs)) ∧ Below w.heap.size w w' := by
  have hlen := tot_len rs
  have HM : Hid (∀ r ∈ rs, r.1.length ≤ 1048576) := fun r hr => Nat.le_trans (tot_mem rs r hr) hl
  by_cases h6 : 6 < (rs.length : Int)
  · have HE : Hid (tripsOk rs = false) := by
      have : decide (rs.length ≤ 6) = false := by simp; omega
      show _ = _; unfold tripsOk; rw [this]; simp
    obtain ⟨ao, cap, rfl⟩ := hv.shape
    clear hv
    go_enter Tryz.func220, Tryz.ntmps220
    go_wp2
    go_ret
    exact ⟨by rw [HE.out]; rfl, Below.refl _ _⟩
  rcases hv with ⟨rfl, ao, cap, rfl⟩ | ⟨b, off, cap, rfl, hz, hc⟩
  · go_enter Tryz.func220, Tryz.ntmps220
    go_wp2
    refine wp_loop_rounds 1 ?_
    rw [rounds_succ]
    go_wp2
    go_ret
    exact ⟨rfl, Below.refl _ _⟩
  have HC : Hid (∀ i r, rs[i]? = some r → ∃ u, RecCells w b (off + i * 2) r u) := hc
  have hzl : 0 < rs.length := List.length_pos_iff.2 hz
  clear hc hz
  go_enter Tryz.func220, Tryz.ntmps220
  go_wp2
  go_loopw [10] (fun i wr => ∃ k : Nat, k ≤ rs.length ∧ i = .int .i64 k ∧ Hid ((rs.take k).all tOk = true) ∧ Below w.heap.size w wr) (fun i _ => rs.length - (intOf i).toNat)
  case atStart => exact ⟨0, Nat.zero_le _, rfl, rfl, Below.refl _ _⟩
  case round =>
    obtain ⟨k, hk, rfl, HA, hbe⟩ := hrel
    by_cases hlt : k < rs.length
    · obtain ⟨r, hr⟩ : ∃ r, Hid (rs[k]? = some r) := ⟨rs[k], by show _ = _; simp [hlt]⟩
      have hrl : r.1.length ≤ 1048576 := HM.out r (List.mem_of_getElem? hr.out)
      obtain ⟨u, hu⟩ := HC.out k r hr.out
      obtain ⟨c0, c1, hI⟩ := hu.later hbe (Nat.le_refl _)
      have hbw : b < wr.heap.size := World.block_lt_of_cell? _ _ c0
      have HI : Hid (∀ W, Below wr.heap.size wr W → Ints W u r.1) := fun W h => hI.later h (Nat.le_refl _)
      obtain ⟨au, cu, rfl⟩ := hI.shape
      have HB : Hid (Below w.heap.size w wr) := hbe
      have hws := hbe.size
      clear hI hu hbe
      cases h1 : Pl.manyOk r.1
      · have HE : Hid (tripsOk rs = false) := tripsOk_bad (all_bad rs k r hr.out (by unfold tOk; rw [h1]; rfl))
        have HS : Hid (∀ W, Below wr.heap.size wr W → Calls Tryz.prog 213 #[.slice au r.1.length cu] W fun e w' => e = .returned (.bool false) ∧ w' = W) := fun W h => by
          have := wanted_any _ r.1 W (HI.out W h) hrl
          rw [h1] at this; exact this
        clear h1
        go_wp2_with (first | (go_at_call 213; refine (HS.out _ ?_).mono ?_; exact (Below.refl _ _).alloc (Nat.le_refl _) _; rintro e w2 ⟨rfl, rfl⟩))
        go_ret
        exact ⟨by rw [HE.out]; rfl, HB.out.alloc hws _⟩
      have HS : Hid (∀ W, Below wr.heap.size wr W → Calls Tryz.prog 213 #[.slice au r.1.length cu] W fun e w' => e = .returned (.bool true) ∧ w' = W) := fun W h => by
        have := wanted_any _ r.1 W (HI.out W h) hrl
        rw [h1] at this; exact this
      cases h2 : Pl.inB r.2 1 5
      · have HE : Hid (tripsOk rs = false) := tripsOk_bad (all_bad rs k r hr.out (by unfold tOk; rw [h2, h1]; rfl))
        have HN : Hid (∀ W, Calls Tryz.prog 224 #[.int .i64 r.2] W fun e w' => e = .returned (.bool false) ∧ w' = W) := fun W => by
          have := stateOk_any r.2 W
          rw [h2] at this; exact this
        clear h1 h2
        go_wp2_with (first | (go_at_call 213; refine (HS.out _ ?_).mono ?_; exact (Below.refl _ _).alloc (Nat.le_refl _) _; rintro e w2 ⟨rfl, rfl⟩) | (go_at_call 224; refine (HN.out _).mono ?_; rintro e w3 ⟨rfl, rfl⟩))
        go_ret
        exact ⟨by rw [HE.out]; rfl, HB.out.alloc hws _⟩
      · have HA2 : Hid ((rs.take (k + 1)).all tOk = true) := by show _ = _; rw [all_snoc rs k r hr.out, HA.out]; unfold tOk; rw [h1, h2]; rfl
        have HN : Hid (∀ W, Calls Tryz.prog 224 #[.int .i64 r.2] W fun e w' => e = .returned (.bool true) ∧ w' = W) := fun W => by
          have := stateOk_any r.2 W
          rw [h2] at this; exact this
        clear h1 h2
        go_wp2_with (first | (go_at_call 213; refine (HS.out _ ?_).mono ?_; exact (Below.refl _ _).alloc (Nat.le_refl _) _; rintro e w2 ⟨rfl, rfl⟩) | (go_at_call 224; refine (HN.out _).mono ?_; rintro e w3 ⟨rfl, rfl⟩))
        go_roundw
        case rel => exact ⟨k + 1, by omega, by go_num, HA2, HB.out.alloc hws _⟩
        case measure => simp [intOf]; omega
    · have HE : Hid (tripsOk rs = true) := by
        show _ = _
        have hke : k = rs.length := by omega
        have := HA.out
        rw [hke, List.take_length] at this
        have h66 : decide (rs.length ≤ 6) = true := by simp; omega
        unfold tripsOk; rw [this, h66]; rfl
      go_wp2
      go_ret
      exact ⟨by rw [HE.out]; rfl, hbe⟩

end Go.Proofs.YtkkkdgpbmmjieaaGreatDoor.T

namespace Go.Proofs.YtkkkdgpbmmjieaaGreatDoor.T
open Go.RowKit

/-- The state of a trip behind a record that is no beginning; 0, if that may not come. -/
def nextS (s k : Int) : Int := if k = 5 ∧ s = 1 then 2 else if k = 6 ∧ s = 1 then 3 else if k = 7 ∧ s = 2 then 4 else if k = 7 ∧ s = 3 then 5 else 0

/-- The trip of this number; nothing, and 0, if there is none. -/
def tripAt (rs : List R) (t : Int) : R := rs.getD (t - 1).toNat ([], 0)

/-- A record may come, if it is ok. -/
def mayL (rs : List R) (r : Rc) : Bool := if r.1 = 4 then decide (r.2.1 = rs.length + 1) else decide (nextS (tripAt rs r.2.1).2 r.1 ≠ 0)
/-- Trips behind a record that may come. -/
def doL (rs : List R) (r : Rc) : List R := if r.1 = 4 then rs ++ [(r.2.2, 1)] else rs.set (r.2.1 - 1).toNat ((tripAt rs r.2.1).1, nextS (tripAt rs r.2.1).2 r.1)

def tMay (rs : List R) (r : Rc) : Bool := tripsOk rs && (rOk r && mayL rs r)

def stepT (rs : List R) (r : Rc) : Option (List R) := if (rOk r && mayL rs r) = true then some (doL rs r) else none
def runT (qs : List Rc) : Option (List R) := qs.foldl (fun o r => o.bind fun rs => stepT rs r) (some [])

theorem nextS_0 (k : Int) : nextS 0 k = 0 := by unfold nextS; simp
theorem nextS_nz {s k : Int} (h : nextS s k ≠ 0) : 2 ≤ nextS s k ∧ nextS s k ≤ 5 := by
  unfold nextS at h ⊢
  split
  · omega
  · split
    · omega
    · split
      · omega
      · split
        · omega
        · simp_all

theorem rOk_trip {r : Rc} (h : rOk r = true) : 1 ≤ r.2.1 ∧ r.2.1 ≤ 6 := by
  unfold rOk Pl.recOk at h
  simp only [Bool.and_eq_true] at h
  exact Pl.inB_true h.1
theorem rOk_begin {r : Rc} (h : rOk r = true) (h4 : r.1 = 4) : Pl.manyOk r.2.2 = true := by
  unfold rOk Pl.recOk at h
  simp only [Bool.and_eq_true] at h
  have h2 := h.2
  rw [h4] at h2
  simpa using h2
theorem manyOk_three {zs : List Int} (h : Pl.manyOk zs = true) : zs.length = 3 := by
  unfold Pl.manyOk at h
  simp at h
  exact h.1.2

/-- At most six trips, each of three numbers. -/
def Fit (rs : List R) : Prop := rs.length ≤ 6 ∧ ∀ r ∈ rs, r.1.length = 3

theorem Fit.nil : Fit [] := ⟨by simp, fun r h => by simp at h⟩
theorem Fit.tot {rs : List R} (h : Fit rs) : T.tot rs ≤ 1048576 := by
  have : pre rs rs.length = 3 * rs.length := by
    unfold pre
    rw [List.take_length]
    have h2 := h.2
    clear h
    induction rs with
    | nil => rfl
    | cons a t ih =>
      have h3 := h2 a (by simp)
      have := ih (fun r hr => h2 r (by simp [hr]))
      simp only [List.map_cons, List.sum_cons, List.length_cons, h3, this]
      omega
  have h1 := h.1
  unfold T.tot
  omega
theorem fit_ok {rs : List R} (h : tripsOk rs = true) : Fit rs := by
  unfold tripsOk at h
  simp at h
  refine ⟨h.2, fun r hr => ?_⟩
  have h1 := h.1 r.1 r.2 hr
  unfold tOk at h1
  simp at h1
  exact manyOk_three h1.1

theorem tripAt_get {rs : List R} {t : Int} {r : R} (h : rs[(t - 1).toNat]? = some r) : tripAt rs t = r := by unfold tripAt; rw [List.getD_eq_getElem?_getD, h]; rfl
theorem tripAt_none {rs : List R} {t : Int} (h : rs[(t - 1).toNat]? = none) : tripAt rs t = ([], 0) := by unfold tripAt; rw [List.getD_eq_getElem?_getD, h]; rfl

/-- What may come is of a trip that there is. -/
theorem mayL_at {rs : List R} {r : Rc} (h : mayL rs r = true) (h4 : r.1 ≠ 4) : ∃ x, rs[(r.2.1 - 1).toNat]? = some x := by
  cases hg : rs[(r.2.1 - 1).toNat]? with
  | some x => exact ⟨x, rfl⟩
  | none =>
    unfold mayL at h
    rw [if_neg h4, tripAt_none hg] at h
    simp [nextS_0] at h

theorem Fit.doL {rs : List R} {r : Rc} (h : Fit rs) (h1 : rOk r = true) (h2 : mayL rs r = true) : Fit (doL rs r) := by
  unfold T.doL
  by_cases h4 : r.1 = 4
  · rw [if_pos h4]
    have h3 := manyOk_three (rOk_begin h1 h4)
    have h6 := rOk_trip h1
    unfold mayL at h2
    rw [if_pos h4] at h2
    simp at h2
    refine ⟨by simp; omega, fun x hx => ?_⟩
    rcases List.mem_append.1 hx with hx | hx
    · exact h.2 x hx
    · simp at hx; subst hx; exact h3
  · rw [if_neg h4]
    obtain ⟨x, hx⟩ := mayL_at h2 h4
    rw [tripAt_get hx]
    refine ⟨by rw [List.length_set]; exact h.1, fun y hy => ?_⟩
    rcases List.mem_or_eq_of_mem_set hy with hy | hy
    · exact h.2 y hy
    · subst hy; exact h.2 x (List.mem_of_getElem? hx)

theorem runT_nil : runT [] = some [] := rfl
theorem runT_snoc (qs : List Rc) (r : Rc) : runT (qs ++ [r]) = (runT qs).bind fun rs => stepT rs r := by simp [runT, List.foldl_append]
theorem foldl_none (qs : List Rc) : qs.foldl (fun (o : Option (List R)) r => o.bind fun rs => stepT rs r) none = none := by
  induction qs with
  | nil => rfl
  | cons a t ih => exact ih
theorem runT_cut {qs : List Rc} {k : Nat} (h : runT (qs.take k) = none) : runT qs = none := by
  have h2 : runT qs = (qs.drop k).foldl (fun o r => o.bind fun rs => stepT rs r) (runT (qs.take k)) := by
    unfold runT
    rw [← List.foldl_append, List.take_append_drop]
  rw [h2, h, foldl_none]
theorem take_snoc {qs : List Rc} {k : Nat} {r : Rc} (h : qs[k]? = some r) : qs.take (k + 1) = qs.take k ++ [r] := by
  have hk : k < qs.length := by
    by_cases hk : k < qs.length
    · exact hk
    · rw [List.getElem?_eq_none (by omega)] at h; cases h
  rw [List.getElem?_eq_getElem hk] at h
  simp only [Option.some.injEq] at h
  rw [List.take_succ_eq_append_getElem hk, h]
theorem runT_bad {qs : List Rc} {k : Nat} {r : Rc} {rs : List R} (h : qs[k]? = some r) (hr : runT (qs.take k) = some rs) (hb : (rOk r && mayL rs r) = false) : runT qs = none := by
  refine runT_cut (k := k + 1) ?_
  rw [take_snoc h, runT_snoc, hr]
  show stepT rs r = none
  unfold stepT
  rw [hb]
  rfl
theorem runT_good {qs : List Rc} {k : Nat} {r : Rc} {rs : List R} (h : qs[k]? = some r) (hr : runT (qs.take k) = some rs) (hb : (rOk r && mayL rs r) = true) : runT (qs.take (k + 1)) = some (doL rs r) := by
  rw [take_snoc h, runT_snoc, hr]
  show stepT rs r = some _
  unfold stepT
  rw [hb]
  rfl
theorem runT_fit {qs : List Rc} {rs : List R} (h : runT qs = some rs) : Fit rs := by
  have key : ∀ k, k ≤ qs.length → ∀ rs, runT (qs.take k) = some rs → Fit rs := by
    intro k
    induction k with
    | zero => intro _ rs h; rw [List.take_zero, runT_nil] at h; cases h; exact Fit.nil
    | succ k ih =>
      intro hk rs h
      have hg : qs[k]? = some qs[k] := List.getElem?_eq_getElem (by omega)
      rw [take_snoc hg, runT_snoc] at h
      cases hr : runT (qs.take k) with
      | none => rw [hr] at h; cases h
      | some xs =>
        rw [hr] at h
        have h' : stepT xs qs[k] = some rs := h
        unfold stepT at h'
        split at h'
        · next hb =>
          simp only [Option.some.injEq] at h'
          subst h'
          simp only [Bool.and_eq_true] at hb
          exact (ih (by omega) xs hr).doL hb.1 hb.2
        · cases h'
  refine key qs.length (Nat.le_refl _) rs ?_
  rw [List.take_length]; exact h

end Go.Proofs.YtkkkdgpbmmjieaaGreatDoor.T

namespace Go.Proofs.YtkkkdgpbmmjieaaGreatDoor
open Go.RowKit

/-- An answer in form, of one of so many trips. -/
def ansOk (n : Int) (p : Wd) : Bool := Pl.wOk p.1 p.2.1 p.2.2.1 p.2.2.2 && decide (4 ≤ p.1) && decide (p.2.2.1 ≤ n)
def toldOk (n : Int) (ws : List Wd) : Bool := ws.all (ansOk n) && decide ws.Nodup

theorem wOk_parts {k h t m : Int} (h0 : Pl.wOk k h t m = true) : (1 ≤ k ∧ k ≤ 7) ∧ (1 ≤ h ∧ h ≤ 3) ∧ (1 ≤ t ∧ t ≤ 6) ∧ Pl.wMany k m = true := by
  have e1 : Pl.inB k 1 7 = true := by
    cases e : Pl.inB k 1 7
    · rw [Pl.wOk_k e] at h0; cases h0
    · rfl
  have e2 : Pl.inB h 1 3 = true := by
    cases e : Pl.inB h 1 3
    · rw [Pl.wOk_h e] at h0; cases h0
    · rfl
  have e3 : Pl.inB t 1 6 = true := by
    cases e : Pl.inB t 1 6
    · rw [Pl.wOk_t e] at h0; cases h0
    · rfl
  rw [Pl.wOk_m e1 e2 e3] at h0
  exact ⟨Pl.inB_true e1, Pl.inB_true e2, Pl.inB_true e3, h0⟩
theorem ansOk_parts {n : Int} {p : Wd} (h : ansOk n p = true) : (4 ≤ p.1 ∧ p.1 ≤ 7) ∧ (1 ≤ p.2.1 ∧ p.2.1 ≤ 3) ∧ (1 ≤ p.2.2.1 ∧ p.2.2.1 ≤ 6) ∧ p.2.2.2 = 0 ∧ p.2.2.1 ≤ n := by
  unfold ansOk at h
  simp only [Bool.and_eq_true, decide_eq_true_eq] at h
  obtain ⟨⟨h1, h2⟩, h3⟩ := h
  obtain ⟨k, hh, t, m⟩ := wOk_parts h1
  rw [Pl.wMany_0 p.2.2.2 (by omega)] at m
  exact ⟨⟨h2, k.2⟩, hh, t, by simpa using m, h3⟩

/-- So it was told. -/
def told (ws : List Wd) (k h t : Int) : Bool := ws.any fun p => decide (p.1 = k) && decide (p.2.1 = h) && decide (p.2.2.1 = t)
theorem told_nil (k h t : Int) : told [] k h t = false := rfl
theorem told_snoc (ws : List Wd) (p : Wd) (k h t : Int) : told (ws ++ [p]) k h t = (told ws k h t || (decide (p.1 = k) && decide (p.2.1 = h) && decide (p.2.2.1 = t))) := by simp [told]
theorem told_mem {n : Int} {ws : List Wd} {p : Wd} (ha : ws.all (ansOk n) = true) (hp : ansOk n p = true) : told ws p.1 p.2.1 p.2.2.1 = ws.contains p := by
  have hm := (ansOk_parts hp).2.2.2.1
  rw [Bool.eq_iff_iff]
  simp only [told, List.any_eq_true, List.contains_iff_mem, Bool.and_eq_true, decide_eq_true_eq]
  constructor
  · rintro ⟨q, hq, ⟨h1, h2⟩, h3⟩
    have hqm := (ansOk_parts (List.all_eq_true.1 ha q hq)).2.2.2.1
    have : q = p := by
      obtain ⟨q0, q1, q2, q3⟩ := q
      obtain ⟨p0, p1, p2, p3⟩ := p
      simp only at *
      subst h1 h2 h3 hm hqm
      rfl
    exact this ▸ hq
  · intro h
    exact ⟨p, h, ⟨rfl, rfl⟩, rfl⟩

theorem wget (ws : List Wd) (k : Nat) (h : k < ws.length) : ws.getD k (0, 0, 0, 0) = ws[k] := by
  rw [List.getD_eq_getElem?_getD, List.getElem?_eq_getElem h]; rfl
theorem toldOk_nil (n : Int) : toldOk n [] = true := rfl
theorem toldOk_bad {n : Int} {ws : List Wd} {k : Nat} (h : k < ws.length) (hb : ansOk n (ws.getD k (0, 0, 0, 0)) = false) : toldOk n ws = false := by
  have : ws.all (ansOk n) = false := by
    rw [List.all_eq_false]
    exact ⟨ws[k], List.getElem_mem h, by rw [← wget ws k h, hb]; decide⟩
  unfold toldOk
  rw [this]
  rfl
theorem toldOk_twice {n : Int} {ws : List Wd} {k : Nat} (h : k < ws.length) (hb : (ws.take k).contains (ws.getD k (0, 0, 0, 0)) = true) : toldOk n ws = false := by
  have hn : ¬ ws.Nodup := by
    intro hnd
    have h1 : (ws.take (k + 1)).Nodup := hnd.sublist (List.take_sublist _ _)
    rw [wtake ws k h, List.nodup_append] at h1
    have h2 := h1.2.2 _ (List.contains_iff_mem.1 hb) _ (List.mem_singleton.2 rfl)
    exact h2 rfl
  unfold toldOk
  rw [decide_eq_false hn]
  simp
theorem toldOk_more {n : Int} {ws : List Wd} {k : Nat} (h : k < ws.length) (h1 : toldOk n (ws.take k) = true) (h2 : ansOk n (ws.getD k (0, 0, 0, 0)) = true) (h3 : (ws.take k).contains (ws.getD k (0, 0, 0, 0)) = false) : toldOk n (ws.take (k + 1)) = true := by
  unfold toldOk at *
  simp only [Bool.and_eq_true, decide_eq_true_eq] at *
  rw [wtake ws k h]
  refine ⟨by simp only [List.all_append, h1.1, Bool.true_and]; simp only [List.all_cons, List.all_nil, Bool.and_true]; exact h2, ?_⟩
  rw [List.nodup_append]
  refine ⟨h1.2, by simp, fun a ha b hb => ?_⟩
  simp only [List.mem_singleton] at hb
  subst hb
  intro e
  subst e
  have := List.contains_iff_mem.2 ha
  rw [this] at h3
  cases h3
theorem toldOk_all {n : Int} {ws : List Wd} (h : toldOk n ws = true) : ws.all (ansOk n) = true := by
  unfold toldOk at h
  simp only [Bool.and_eq_true] at h
  exact h.1

/-- A desk is ok. -/
def dkOk (up : Bool) (rs : List R) (f : Int) (ws : List Wd) : Bool := logOk rs f && ((T.runT rs).isSome && (toldOk ((T.runT rs).getD []).length ws && (up || ws.isEmpty)))

end Go.Proofs.YtkkkdgpbmmjieaaGreatDoor

namespace Go.Proofs.YtkkkdgpbmmjieaaGreatDoor
open Go.RowKit
open Go.Maps

/-- What an element of the book reads as: the number of the block in which the set lies. -/
def refElem : Value → Option (DataW Unit × List MemPlace)
  | .map (some B) => some (.lit (.int .i64 (B : Nat)), [])
  | .map none => some (.nil, [])
  | _ => none
theorem refElem_none {v : Value} {ps : List MemPlace} (h : refElem v = some (.nil, ps)) : v = .map none := by
  unfold refElem at h
  split at h
  · simp at h
  · rfl
  · cases h
theorem refElem_some {v : Value} {ps : List MemPlace} {B : Nat} (h : refElem v = some (.lit (.int .i64 (B : Nat)), ps)) : v = .map (some B) := by
  unfold refElem at h
  split at h
  · rename_i C
    simp at h
    have e : C = B := by omega
    rw [e]
  · simp at h
  · cases h

/-- How an answer is told as a key. -/
def rkey (k h : Int) : Lit := .string (keyBytes [.int .i64 k, .int .i64 h])
abbrev replyV (k h : Int) : Value := .agg #[.int .i64 k, .int .i64 h]
theorem laidOut_ : laidOutB Tryz.prog = true := by kernel_rfl
theorem replyLaw : Keyed Tryz.prog 234 := Keyed.of_law (deep_law_laid laidOut_ (m := 2) (by omega) (of_decide_eq_true (by kernel_rfl)) (by kernel_rfl) (by rw [Tryz.underlying234]))
theorem tripLaw : Keyed Tryz.prog 3 := int_keyed Tryz.underlying3
theorem replyKeyType : Tryz.prog.keyType 234 = true := by kernel_rfl
theorem replyCells : Tryz.prog.cellsOf 234 = 2 := by kernel_rfl
theorem i64_wf {a : Int} (h : 0 ≤ a) (h1 : a ≤ 1000) : (Lit.int .i64 a).wf = true := WalkArith.wf_i64 (by omega)
theorem typesMany : ∃ n, Tryz.prog.types.size = n + 3 := ⟨Tryz.prog.types.size - 3, by kernel_rfl⟩
theorem replyKey {k h : Int} (hk : 0 ≤ k) (hk1 : k ≤ 1000) (hh : 0 ≤ h) (hh1 : h ≤ 1000) : keyOf Tryz.prog 234 (replyV k h) = some (rkey k h) := by
  obtain ⟨n, hn⟩ := typesMany
  have f : (replyV k h).formed Tryz.prog 234 = true := by simp [Value.formed, Tryz.underlying234, replyCells]
  have c1 : Tryz.prog.cellsOf 3 = 1 := by kernel_rfl
  unfold keyOf
  rw [Tryz.underlying234]
  simp only [replyKeyType, f, Bool.and_self, if_true]
  rw [hn]
  unfold Program.keyLits
  rw [Tryz.underlying234]
  simp [replyCells, Value.cells, Program.keyLits, Tryz.underlying3, c1, i64_wf hk hk1, i64_wf hh hh1, rkey]
theorem rkey_inj {k h k' h' : Int} (hk : 0 ≤ k) (hk1 : k ≤ 1000) (hh : 0 ≤ h) (hh1 : h ≤ 1000) (gk : 0 ≤ k') (gk1 : k' ≤ 1000) (gh : 0 ≤ h') (gh1 : h' ≤ 1000) (e : rkey k h = rkey k' h') : k = k' ∧ h = h' := by
  have := replyLaw.inj (replyKey hk hk1 hh hh1) (e ▸ replyKey gk gk1 gh gh1)
  simpa using this
theorem rkey_lit (k h : Int) : WideAt.IsKeyLit (rkey k h) := trivial
theorem tripKey {t : Int} (h : 0 ≤ t) (h1 : t ≤ 1000) : keyOf Tryz.prog 3 (.int .i64 t) = some (.int .i64 t) := keyOf_int_mk Tryz.underlying3 (i64_wf h h1)
theorem zeroUnit (w : World) : (zeroValue 250).run Tryz.prog w = .ok (.agg #[]) w := by kernel_rfl
theorem zeroSet (w : World) : (zeroValue 231).run Tryz.prog w = .ok (.map none) w := by kernel_rfl
theorem below_grown {W w' : World} (h : Below W.heap.size W w') (row : Option Nat) : W.grownBy w' row := ⟨h.os, h.tape, h.output, h.size, fun i hi _ => h.block i hi⟩

set_option maxHeartbeats 1000000 in
theorem setHas_any (B n : Nat) (S : DataW Unit) (k h : Int) (W : World) (ho : W.ownsMap Tryz.prog 234 unitElem B n S) (hk : 0 ≤ k) (hk1 : k ≤ 1000) (hh : 0 ≤ h) (hh1 : h ≤ 1000) :
    Calls Tryz.prog 189 #[.map (some B), replyV k h] W fun e w' => e = .returned (.bool (Maps.has S (rkey k h))) ∧ Below W.heap.size W w' := by
  have HK := hide_it (replyKey hk hk1 hh hh1)
  have HO := hide_it ho
  clear ho
  go_enter Tryz.func189, Tryz.ntmps189
  go_wp2_with (first | (at_lookup; refine wpList_lookup_own_unit _ rfl _ _ 231 rfl 234 250 replyLaw Tryz.underlying231 (zeroUnit _) B n S rfl (HO.out.alloc _) _ _ rfl HK.out ?_) | go_in)
  go_ret
  exact ⟨rfl, below2 _ _ _⟩

set_option maxHeartbeats 1000000 in
theorem setHas_none (k h : Int) (W : World) (hk : 0 ≤ k) (hk1 : k ≤ 1000) (hh : 0 ≤ h) (hh1 : h ≤ 1000) :
    Calls Tryz.prog 189 #[.map none, replyV k h] W fun e w' => e = .returned (.bool false) ∧ Below W.heap.size W w' := by
  have hl : ∀ w : World, (Instr.lookup 231 (.map none) (replyV k h) true).run Tryz.prog w = .ok (.tuple #[.agg #[], .bool false]) w := fun w => by
    have := Maps.look_nil (w := w) true replyLaw Tryz.underlying231 (zeroUnit w) (replyKey hk hk1 hh hh1)
    simpa using this
  go_enter Tryz.func189, Tryz.ntmps189
  go_wp2
  go_ret
  exact ⟨rfl, below2 _ _ _⟩

set_option maxHeartbeats 1000000 in
theorem setAdd_old (B n : Nat) (S : DataW Unit) (k h : Int) (W : World) (ho : W.ownsMap Tryz.prog 234 unitElem B n S) (hk : 0 ≤ k) (hk1 : k ≤ 1000) (hh : 0 ≤ h) (hh1 : h ≤ 1000) (hs : Maps.has S (rkey k h) = true) :
    Calls Tryz.prog 182 #[.map (some B), replyV k h] W fun e w' => e = .returned (.bool false) ∧ Below W.heap.size W w' := by
  have HH : Hid (∀ o, Calls Tryz.prog 189 #[.map (some B), replyV k h] (W.alloc o) fun e w' => e = .returned (.bool true) ∧ Below (W.alloc o).heap.size (W.alloc o) w') := fun o => by
    have := setHas_any B n S k h (W.alloc o) (ho.alloc o) hk hk1 hh hh1
    rw [hs] at this
    exact this
  clear ho hs
  go_enter Tryz.func182, Tryz.ntmps182
  go_wp2_with fail
  refine (HH.out _).mono ?_
  rintro e w1 ⟨rfl, hb⟩
  have B1 := hide_it (below_after hb)
  clear hb
  go_wp2
  go_ret
  exact ⟨rfl, B1.out⟩

set_option maxHeartbeats 1000000 in
theorem setAdd_new (B n : Nat) (S : DataW Unit) (k h : Int) (W : World) (ho : W.ownsMap Tryz.prog 234 unitElem B n S) (hn : n < 100000000) (hk : 0 ≤ k) (hk1 : k ≤ 1000) (hh : 0 ≤ h) (hh1 : h ≤ 1000) (hs : Maps.has S (rkey k h) = false) :
    Calls Tryz.prog 182 #[.map (some B), replyV k h] W fun e w' => e = .returned (.bool true) ∧ W.grownBy w' (some B) ∧ w'.ownsMap Tryz.prog 234 unitElem B (n + 1) (S.put (rkey k h) (.agg [])) := by
  have HK := hide_it (replyKey hk hk1 hh hh1)
  have HO := hide_it ho
  have HH : Hid (∀ o, Calls Tryz.prog 189 #[.map (some B), replyV k h] (W.alloc o) fun e w' => e = .returned (.bool false) ∧ Below (W.alloc o).heap.size (W.alloc o) w') := fun o => by
    have := setHas_any B n S k h (W.alloc o) (ho.alloc o) hk hk1 hh hh1
    rw [hs] at this
    exact this
  clear ho hs
  have X0 : Hid (Blk (W.alloc (.cells #[.int .i64 k, .int .i64 h] 234)) W.heap.size #[.int .i64 k, .int .i64 h] 234) := Blk.new _ _ _
  have HN := hide_it hn
  clear hn
  obtain ⟨S1, hS1⟩ : ∃ x, Hid (S.put (rkey k h) (.agg []) = x) := ⟨_, rfl⟩
  rw [hS1.out]
  go_enter Tryz.func182, Tryz.ntmps182
  go_wp2_with fail
  refine (HH.out _).mono ?_
  rintro e w1 ⟨rfl, hb⟩
  obtain ⟨c0, c1⟩ := (X0.out.after hb).cells2
  have O1 := hide_it ((HO.out.alloc (.cells #[.int .i64 k, .int .i64 h] 234)).kept (below_grown hb none) (by simp))
  have G1 := hide_it (below_grown (below_after hb) (some B))
  clear hb
  go_wp2_with (first | (at_mapUpdate; refine wpList_mapUpdate_own _ rfl _ _ _ 231 rfl 234 250 replyLaw Tryz.underlying231 unitElem B n S rfl O1.out (by have := HN.out; unfold maxLen; omega) _ _ _ rfl rfl HK.out _ [] unitElem_mk ?_; intro w2 hown2 hgrow2; have O2 := hide_it hown2; have G2 := hide_it hgrow2; clear hown2 hgrow2) | go_in)
  go_ret
  exact ⟨rfl, grownBy_trans G1.out G2.out, hS1.out ▸ O2.out⟩

/-- A book in memory of its own, from lo on, its map in block b, which reads as D: these words were told; no map has more than N entries. -/
structure BkD (W : World) (lo b N : Nat) (ws : List Wd) (D : DataW Unit) : Prop where
  low : lo ≤ b
  own : W.ownsMap Tryz.prog 3 refElem b N D
  sets : ∀ t : Int, 1 ≤ t → t ≤ 6 →
      (D.atKey (.int .i64 t) .nil = .nil ∧ ∀ k h, told ws k h t = false) ∨
      (∃ (B : Nat) (S : DataW Unit), D.atKey (.int .i64 t) .nil = .lit (.int .i64 B) ∧ lo ≤ B ∧ B ≠ b ∧ W.ownsMap Tryz.prog 234 unitElem B N S ∧
        ∀ k h : Int, 0 ≤ k → k ≤ 10 → 0 ≤ h → h ≤ 10 → Maps.has S (rkey k h) = told ws k h t)
  apart : ∀ (t t' : Int) (B : Nat), 1 ≤ t → t ≤ 6 → 1 ≤ t' → t' ≤ 6 → t ≠ t' → D.atKey (.int .i64 t) .nil = .lit (.int .i64 B) → D.atKey (.int .i64 t') .nil ≠ .lit (.int .i64 B)
def BkN (W : World) (lo b N : Nat) (ws : List Wd) : Prop := ∃ D : DataW Unit, BkD W lo b N ws D
theorem BkN.lt {W : World} {lo b N : Nat} {ws : List Wd} (h : BkN W lo b N ws) : b < W.heap.size := by
  obtain ⟨D, h1⟩ := h
  exact h1.own.lt
theorem BkN.kept {W W' : World} {lo b N : Nat} {ws : List Wd} {row : Option Nat} (h : BkN W lo b N ws) (hg : W.grownBy W' row) (hr : ∀ g, row = some g → g < lo) : BkN W' lo b N ws := by
  obtain ⟨D, h0, h1, h2, h3⟩ := h
  have ne : ∀ B, lo ≤ B → some B ≠ row := fun B hB e => by have := hr B e.symm; omega
  refine ⟨D, h0, h1.kept hg (ne _ h0), fun t ht ht6 => ?_, h3⟩
  rcases h2 t ht ht6 with a | ⟨B, S, a1, a2, a3, a4, a5⟩
  · exact Or.inl a
  · exact Or.inr ⟨B, S, a1, a2, a3, a4.kept hg (ne _ a2), a5⟩
theorem BkN.after {W W' : World} {lo b N : Nat} {ws : List Wd} (h : BkN W lo b N ws) (hb : Below W.heap.size W W') : BkN W' lo b N ws := h.kept (below_grown hb none) (fun g hg => by cases hg)
theorem BkN.mono {W : World} {lo b N N' : Nat} {ws : List Wd} (h : BkN W lo b N ws) (hn : N ≤ N') : BkN W lo b N' ws := by
  obtain ⟨D, h0, h1, h2, h3⟩ := h
  refine ⟨D, h0, h1.mono hn, fun t ht ht6 => ?_, h3⟩
  rcases h2 t ht ht6 with a | ⟨B, S, a1, a2, a3, a4, a5⟩
  · exact Or.inl a
  · exact Or.inr ⟨B, S, a1, a2, a3, a4.mono hn, a5⟩
theorem atKey_empty (k : Lit) (z : DataW Unit) : (DataW.map []).atKey k z = z := rfl
theorem BkN.new (W : World) : BkN (W.alloc (.map #[] 0)) W.heap.size W.heap.size 0 [] :=
  ⟨.map [], Nat.le_refl _, World.ownsMap_made _ _ _ _, fun t _ _ => Or.inl ⟨atKey_empty _ _, fun _ _ => rfl⟩, fun t t' B _ _ _ _ _ e => by rw [atKey_empty] at e; cases e⟩

theorem told_other {ws : List Wd} {p : Wd} {k h t : Int} (ht : p.2.2.1 ≠ t) : told (ws ++ [p]) k h t = told ws k h t := by
  rw [told_snoc, decide_eq_false ht]; simp
theorem tripLit_ne {t t' : Int} (h : t' ≠ t) : (Lit.int .i64 t' : Lit) ≠ .int .i64 t := fun e => h (by simpa using e)

/-- The set of a trip has one answer more. -/
theorem has_more {S : DataW Unit} {ws : List Wd} {p : Wd} {t : Int} (hS : IsMap S) (hp : (0 ≤ p.1 ∧ p.1 ≤ 10) ∧ 0 ≤ p.2.1 ∧ p.2.1 ≤ 10) (ht : p.2.2.1 = t) (h5 : ∀ k h : Int, 0 ≤ k → k ≤ 10 → 0 ≤ h → h ≤ 10 → Maps.has S (rkey k h) = told ws k h t) :
    ∀ k h : Int, 0 ≤ k → k ≤ 10 → 0 ≤ h → h ≤ 10 → Maps.has (S.put (rkey p.1 p.2.1) (.agg [])) (rkey k h) = told (ws ++ [p]) k h t := by
  intro k h k0 k1 h0 h1
  rw [told_snoc]
  by_cases e : p.1 = k ∧ p.2.1 = h
  · obtain ⟨rfl, rfl⟩ := e
    rw [has_put_same hS (rkey_lit _ _)]
    simp [ht]
  · have hne : rkey k h ≠ rkey p.1 p.2.1 := fun e2 => e (by
      have := rkey_inj k0 (by omega) h0 (by omega) hp.1.1 (by omega) hp.2.1 (by omega) e2
      omega)
    rw [has_put_other hne, h5 k h k0 k1 h0 h1]
    have : (decide (p.1 = k) && decide (p.2.1 = h) && decide (p.2.2.1 = t)) = false := by
      simp only [Bool.and_eq_false_iff, decide_eq_false_iff_not]
      by_cases e1 : p.1 = k
      · exact Or.inl (Or.inr fun e2 => e ⟨e1, e2⟩)
      · exact Or.inl (Or.inl e1)
    rw [this]; simp

theorem tripLit_key (t : Int) : WideAt.IsKeyLit (.int .i64 t) := trivial

/-- One answer more in the set of its trip. -/
theorem BkD.more {W w1 : World} {lo b N B : Nat} {ws : List Wd} {p : Wd} {D S : DataW Unit} (hd : BkD W lo b N ws D)
    (hk : 0 ≤ p.1 ∧ p.1 ≤ 10) (hh : 0 ≤ p.2.1 ∧ p.2.1 ≤ 10) (ht : 1 ≤ p.2.2.1 ∧ p.2.2.1 ≤ 6)
    (a1 : D.atKey (.int .i64 p.2.2.1) .nil = .lit (.int .i64 B)) (a2 : lo ≤ B) (a3 : B ≠ b) (a4 : W.ownsMap Tryz.prog 234 unitElem B N S)
    (a5 : ∀ k h : Int, 0 ≤ k → k ≤ 10 → 0 ≤ h → h ≤ 10 → Maps.has S (rkey k h) = told ws k h p.2.2.1)
    (hg : W.grownBy w1 (some B)) (ho : w1.ownsMap Tryz.prog 234 unitElem B (N + 1) (S.put (rkey p.1 p.2.1) (.agg []))) : BkN w1 lo b (N + 1) (ws ++ [p]) := by
  obtain ⟨h0, h1, h2, h3⟩ := hd
  refine ⟨D, h0, (h1.kept hg (by simpa using fun e => a3 e.symm)).mono (by omega), fun t t1 t6 => ?_, h3⟩
  by_cases et : p.2.2.1 = t
  · subst et
    exact Or.inr ⟨B, _, a1, a2, a3, ho, has_more a4.isMap ⟨hk, hh⟩ rfl a5⟩
  · rcases h2 t t1 t6 with ⟨b1, b2⟩ | ⟨B', S', b1, b2, b3, b4, b5⟩
    · exact Or.inl ⟨b1, fun k h => by rw [told_other et]; exact b2 k h⟩
    · refine Or.inr ⟨B', S', b1, b2, b3, (b4.kept hg ?_).mono (by omega), fun k h k0 k1 q0 q1 => by rw [told_other et]; exact b5 k h k0 k1 q0 q1⟩
      intro e
      simp only [Option.some.injEq] at e
      subst e
      exact h3 _ _ _ ht.1 ht.2 t1 t6 et a1 b1

/-- A trip of which nothing was told has a set, with nothing in it. -/
theorem BkD.made {W w2 : World} {lo b N : Nat} {o : Obj} {ws : List Wd} {D : DataW Unit} {t0 : Int} (hd : BkD W lo b N ws D)
    (ht : 1 ≤ t0 ∧ t0 ≤ 6) (hno : ∀ k h, told ws k h t0 = false)
    (hg : ((W.alloc o).alloc (.map #[] 0)).grownBy w2 (some b)) (ho : w2.ownsMap Tryz.prog 3 refElem b (N + 1) (D.put (.int .i64 t0) (.lit (.int .i64 ((W.heap.size + 1 : Nat) : Int))))) :
    BkD w2 lo b (N + 1) ws (D.put (.int .i64 t0) (.lit (.int .i64 ((W.heap.size + 1 : Nat) : Int)))) ∧ w2.ownsMap Tryz.prog 234 unitElem (W.heap.size + 1) (N + 1) (.map [] : DataW Unit) ∧ (D.put (.int .i64 t0) (.lit (.int .i64 ((W.heap.size + 1 : Nat) : Int)))).atKey (.int .i64 t0) .nil = .lit (.int .i64 ((W.heap.size + 1 : Nat) : Int)) := by
  obtain ⟨h0, h1, h2, h3⟩ := hd
  have hb := h1.lt
  have e0 : (D.put (.int .i64 t0) (.lit (.int .i64 ((W.heap.size + 1 : Nat) : Int)))).atKey (.int .i64 t0) .nil = .lit (.int .i64 ((W.heap.size + 1 : Nat) : Int)) := atKey_put_same h1.isMap (tripLit_key _) _ _
  have m0 : w2.ownsMap Tryz.prog 234 unitElem (W.heap.size + 1) 0 (.map [] : DataW Unit) := by
    have := World.ownsMap_made (H := Unit) (W.alloc o) Tryz.prog 234 unitElem
    rw [size1] at this
    exact this.kept hg (fun e => by simp at e; omega)
  refine ⟨⟨h0, ho, fun t t1 t6 => ?_, fun t t' B' t1 t6 s1 s6 hne e1 e2 => ?_⟩, m0.mono (by omega), e0⟩
  · by_cases et : t0 = t
    · subst et
      exact Or.inr ⟨_, _, e0, by omega, by omega, m0.mono (by omega), fun k h _ _ _ _ => by rw [hno k h]; rfl⟩
    · have ne := tripLit_ne (fun e => et e.symm : t ≠ t0)
      rcases h2 t t1 t6 with ⟨b1, b2⟩ | ⟨B', S', b1, b2, b3, b4, b5⟩
      · exact Or.inl ⟨by rw [atKey_put_other ne]; exact b1, b2⟩
      · exact Or.inr ⟨B', S', by rw [atKey_put_other ne]; exact b1, b2, b3, ((((b4.alloc o).alloc (.map #[] 0)).kept hg (by simpa using b3))).mono (by omega), b5⟩
  · have old : ∀ s : Int, 1 ≤ s → s ≤ 6 → s ≠ t0 → ∀ C : Nat, (D.put (.int .i64 t0) (.lit (.int .i64 ((W.heap.size + 1 : Nat) : Int)))).atKey (.int .i64 s) .nil = .lit (.int .i64 C) → D.atKey (.int .i64 s) .nil = .lit (.int .i64 C) ∧ C < W.heap.size := by
      intro s q1 q6 hs C hC
      rw [atKey_put_other (tripLit_ne hs)] at hC
      rcases h2 s q1 q6 with ⟨b1, _⟩ | ⟨B'', S'', b1, b2, b3, b4, b5⟩
      · rw [b1] at hC; cases hC
      · rw [b1] at hC
        simp at hC
        have : B'' = C := by omega
        subst this
        exact ⟨b1, b4.lt⟩
    by_cases c1 : t = t0
    · subst c1
      rw [e0] at e1
      simp at e1
      have := (old t' s1 s6 (fun e => hne e.symm) B' e2).2
      omega
    · by_cases c2 : t' = t0
      · subst c2
        rw [e0] at e2
        simp at e2
        have := (old t t1 t6 c1 B' e1).2
        omega
      · exact h3 t t' B' t1 t6 s1 s6 hne (old t t1 t6 c1 B' e1).1 (old t' s1 s6 c2 B' e2).1

end Go.Proofs.YtkkkdgpbmmjieaaGreatDoor

namespace Go.Proofs.YtkkkdgpbmmjieaaGreatDoor
open Go.RowKit
open Go.Maps

section
variable {P : Program} (w : World) {ops : Array Oper} {rest : List Oper} {o : Oper} {a : Act} {Q : Exit → Act → World → Prop}
/-- A look into a map whose answer is known. -/
theorem wpList_lookup_run (hg : o.guard = none) (m x : Operand) (t : TypeId) (c : Bool) (hop : o.op = Op.lookup t m x c) (M X v : Value) (hm : a.eval m = M) (hx : a.eval x = X)
    (hrun : (Instr.lookup t M X c).run P w = .ok v w) (hK : wpList P ops Q rest (a.put o.dst v) w) : wpList P ops Q (o :: rest) a w := by
  refine wpList_plain hg fun K' hK' => ?_
  unfold Oper.wp
  simp [execOp, hop, hm, hx, hrun, Result.andThen]
  exact hK' _ _ hK
end

theorem eqlSome (B : Nat) (w : World) : Sem.run Tryz.prog (binOp BinOp.eql 231 (.map (some B)) (.map none)) w = .ok (.bool false) w := by kernel_rfl
theorem eqlNone (w : World) : Sem.run Tryz.prog (binOp BinOp.eql 231 (.map none) (.map none)) w = .ok (.bool true) w := by kernel_rfl

set_option maxHeartbeats 2000000 in
set_option maxRecDepth 10000 in
theorem bookAdd_old (lo b N : Nat) (ws : List Wd) (p : Wd) (W : World) (hb : BkN W lo b N ws) (hk : 0 ≤ p.1 ∧ p.1 ≤ 10) (hh : 0 ≤ p.2.1 ∧ p.2.1 ≤ 10) (ht : 1 ≤ p.2.2.1 ∧ p.2.2.1 ≤ 6) (hold : told ws p.1 p.2.1 p.2.2.1 = true) :
    Calls Tryz.prog 159 #[.map (some b), wordV p.1 p.2.1 p.2.2.1 p.2.2.2] W fun e w' => e = .returned (.bool false) ∧ Below W.heap.size W w' := by
  obtain ⟨D, h0, h1, h2, h3⟩ := hb
  rcases h2 _ ht.1 ht.2 with ⟨_, a⟩ | ⟨B, S, a1, a2, a3, a4, a5⟩
  · rw [a] at hold; cases hold
  have hl : Hid (∀ o, (Instr.lookup 126 (.map (some b)) (.int .i64 p.2.2.1) false).run Tryz.prog (W.alloc o) = .ok (.map (some B)) (W.alloc o)) := fun o => by
    obtain ⟨v, ps, r1, r2⟩ := (h1.alloc o).lookup tripLaw Tryz.underlying126 (zeroSet _) (zd := .nil) (zp := []) rfl (tripKey (by omega) (by omega : p.2.2.1 ≤ 1000))
    rw [a1] at r2
    rw [refElem_some r2] at r1
    exact r1
  have HC : Hid (∀ o, Calls Tryz.prog 182 #[.map (some B), replyV p.1 p.2.1] (W.alloc o) fun e w' => e = .returned (.bool false) ∧ Below (W.alloc o).heap.size (W.alloc o) w') := fun o =>
    setAdd_old B _ S p.1 p.2.1 (W.alloc o) (a4.alloc o) hk.1 (by omega) hh.1 (by omega) (by rw [a5 _ _ hk.1 hk.2 hh.1 hh.2]; exact hold)
  obtain ⟨k, h, t, m⟩ := p
  simp only at hl HC
  have l1 := hl.out (.cells #[.int .i64 k, .int .i64 h, .int .i64 t, .int .i64 m] 82)
  clear hl a1 a2 a3 a4 a5 h0 h1 h2 h3 hold hk hh ht
  go_enter Tryz.func159, Tryz.ntmps159
  have e1 := eqlSome B
  go_wp2_with (go_at_call 182; refine (HC.out _).mono ?_; rintro e w1 ⟨rfl, hb⟩)
  go_ret
  exact ⟨rfl, below_after (by assumption)⟩

theorem Blk.grown {w w' : World} {b : Nat} {cs : Array Value} {ty : TypeId} {row : Option Nat} (h : Blk w b cs ty) (hg : w.grownBy w' row) (hne : some b ≠ row) : Blk w' b cs ty := by
  unfold Blk; rw [hg.block b h.lt hne]; exact h

set_option maxHeartbeats 2000000 in
set_option maxRecDepth 10000 in
theorem bookAdd_new (lo b N : Nat) (ws : List Wd) (p : Wd) (W : World) (hb : BkN W lo b N ws) (hN : N < 10000000) (hk : 0 ≤ p.1 ∧ p.1 ≤ 10) (hh : 0 ≤ p.2.1 ∧ p.2.1 ≤ 10) (ht : 1 ≤ p.2.2.1 ∧ p.2.2.1 ≤ 6) (hold : told ws p.1 p.2.1 p.2.2.1 = false) :
    Calls Tryz.prog 159 #[.map (some b), wordV p.1 p.2.1 p.2.2.1 p.2.2.2] W fun e w' => e = .returned (.bool true) ∧ BkN w' lo b (N + 2) (ws ++ [p]) ∧ Below lo W w' := by
  obtain ⟨D, hd⟩ := hb
  have h0 := hd.low
  have h1 := hd.own
  have hbl := h1.lt
  have hlo : lo ≤ W.heap.size := by omega
  rcases hd.sets _ ht.1 ht.2 with ⟨an, a⟩ | ⟨B, S, a1, a2, a3, a4, a5⟩
  · have hl : Hid (∀ o, (Instr.lookup 126 (.map (some b)) (.int .i64 p.2.2.1) false).run Tryz.prog (W.alloc o) = .ok (.map none) (W.alloc o)) := fun o => by
      obtain ⟨v, ps, r1, r2⟩ := (h1.alloc o).lookup tripLaw Tryz.underlying126 (zeroSet _) (zd := .nil) (zp := []) rfl (tripKey (by omega) (by omega : p.2.2.1 ≤ 1000))
      rw [an] at r2
      rw [refElem_none r2] at r1
      exact r1
    have HM : Hid (∀ o w2, ((W.alloc o).alloc (.map #[] 0)).grownBy w2 (some b) → w2.ownsMap Tryz.prog 3 refElem b (N + 1) (D.put (.int .i64 p.2.2.1) (.lit (.int .i64 ((W.heap.size + 1 : Nat) : Int)))) →
        (Instr.lookup 126 (.map (some b)) (.int .i64 p.2.2.1) false).run Tryz.prog w2 = .ok (.map (some (W.heap.size + 1))) w2 ∧
        Calls Tryz.prog 182 #[.map (some (W.heap.size + 1)), replyV p.1 p.2.1] w2 fun e w' => e = .returned (.bool true) ∧ BkN w' lo b (N + 2) (ws ++ [p]) ∧ Below lo W w') := fun o w2 hg ho => by
      obtain ⟨hd2, mo, e0⟩ := BkD.made hd ht a hg ho
      constructor
      · obtain ⟨v, ps, r1, r2⟩ := ho.lookup tripLaw Tryz.underlying126 (zeroSet _) (zd := .nil) (zp := []) rfl (tripKey (by omega) (by omega : p.2.2.1 ≤ 1000))
        rw [e0] at r2
        rw [refElem_some r2] at r1
        exact r1
      · refine (setAdd_new (W.heap.size + 1) (N + 1) (.map []) p.1 p.2.1 w2 mo (by omega) hk.1 (by omega) hh.1 (by omega) rfl).mono ?_
        rintro e w3 ⟨he, g3, o3⟩
        refine ⟨he, hd2.more hk hh ht e0 (by omega) (by omega) mo (fun k h _ _ _ _ => by rw [a k h]; rfl) g3 o3, ?_⟩
        have b1 : Below lo W ((W.alloc o).alloc (.map #[] 0)) := (below2 W _ _).mono hlo
        have b2 : Below lo W w2 := b1.grown hg (by simp; omega) (fun j hj => by simp at hj; omega)
        exact b2.grown g3 (by have := hg.size; simp at this; omega) (fun j hj => by simp at hj; omega)
    have hbl' := hbl
    have HX : Hid (∀ o w2, ((W.alloc o).alloc (.map #[] 0)).grownBy w2 (some b) → ∀ cs ty, Blk (W.alloc o) W.heap.size cs ty → Blk w2 W.heap.size cs ty) := fun o w2 hg cs ty hB =>
      (hB.alloc _).grown hg (fun e => by simp at e; omega)
    have HMk : Hid (∀ w : World, w.ownsMap Tryz.prog 3 refElem b N D → w.ownsMap Tryz.prog 3 refElem b N D) := fun _ h => h
    have HO := hide_it h1
    have HN := hide_it hN
    obtain ⟨k, h, t, m⟩ := p
    simp only at hl HM ht
    have HK : Hid (keyOf Tryz.prog 3 (.int .i64 t) = some (.int .i64 t)) := tripKey (by omega) (by omega)
    have l1 := hl.out (.cells #[.int .i64 k, .int .i64 h, .int .i64 t, .int .i64 m] 82)
    have e1 := eqlNone
    have hmm := @run_makeMap Tryz.prog
    clear hl hd h0 h1 hbl hbl' hlo an a hold hk hh ht hN HMk
    go_enter Tryz.func159, Tryz.ntmps159
    go_wp2_with (first | (at_mapUpdate; refine wpList_mapUpdate_own _ rfl _ _ _ 126 rfl 3 231 tripLaw Tryz.underlying126 refElem b N D rfl ((HO.out.alloc _).alloc _) (by have := HN.out; unfold maxLen; omega) _ _ _ rfl rfl HK.out (.lit (.int .i64 ((W.heap.size + 1 : Nat) : Int))) [] rfl ?_; intro w2 hown2 hgrow2; have Q2 := HM.out _ w2 hgrow2 hown2; have l2 := Q2.1; have C2 := hide_it Q2.2; obtain ⟨c0, c1, c2, c3⟩ := (HX.out _ w2 hgrow2 _ _ (Blk.new _ _ _)).cells4; clear Q2 hown2 hgrow2) | (go_at_call 182; refine C2.out.mono ?_; rintro e w3 ⟨rfl, hb1, hb2⟩; have B1 := hide_it hb1; have B2 := hide_it hb2; clear hb1 hb2))
    go_ret
    exact ⟨rfl, B1.out, B2.out⟩
  · have hl : Hid (∀ o, (Instr.lookup 126 (.map (some b)) (.int .i64 p.2.2.1) false).run Tryz.prog (W.alloc o) = .ok (.map (some B)) (W.alloc o)) := fun o => by
      obtain ⟨v, ps, r1, r2⟩ := (h1.alloc o).lookup tripLaw Tryz.underlying126 (zeroSet _) (zd := .nil) (zp := []) rfl (tripKey (by omega) (by omega : p.2.2.1 ≤ 1000))
      rw [a1] at r2
      rw [refElem_some r2] at r1
      exact r1
    have HC : Hid (∀ o, Calls Tryz.prog 182 #[.map (some B), replyV p.1 p.2.1] (W.alloc o) fun e w' => e = .returned (.bool true) ∧ BkN w' lo b (N + 2) (ws ++ [p]) ∧ Below lo W w') := fun o => by
      refine (setAdd_new B N S p.1 p.2.1 (W.alloc o) (a4.alloc o) (by omega) hk.1 (by omega) hh.1 (by omega) (by rw [a5 _ _ hk.1 hk.2 hh.1 hh.2]; exact hold)).mono ?_
      rintro e w3 ⟨he, g3, o3⟩
      have hg : W.grownBy w3 (some B) := grownBy_trans (World.grownBy_alloc W o _) g3
      refine ⟨he, (hd.more hk hh ht a1 a2 a3 a4 a5 hg o3).mono (by omega), (Below.refl lo W).grown hg hlo (fun j hj => by simp at hj; omega)⟩
    obtain ⟨k, h, t, m⟩ := p
    simp only at hl HC
    have l1 := hl.out (.cells #[.int .i64 k, .int .i64 h, .int .i64 t, .int .i64 m] 82)
    clear hl a1 a2 a3 a4 a5 h0 h1 hd hold hk hh ht hN hlo hbl
    have e1 := eqlSome B
    go_enter Tryz.func159, Tryz.ntmps159
    go_wp2_with (go_at_call 182; refine (HC.out _).mono ?_; rintro e w1 ⟨rfl, hb1, hb2⟩; have B1 := hide_it hb1; have B2 := hide_it hb2; clear hb1 hb2)
    go_ret
    exact ⟨rfl, B1.out, B2.out⟩

end Go.Proofs.YtkkkdgpbmmjieaaGreatDoor

namespace Go.Proofs.YtkkkdgpbmmjieaaGreatDoor
open Go.RowKit

/-- Each block of cells is as it was. -/
def Cel (w w' : World) : Prop := w.heap.size ≤ w'.heap.size ∧ w'.os = w.os ∧ w'.tape = w.tape ∧ w'.output = w.output ∧ ∀ (b : Nat) (cs : Array Value) (ty : TypeId) (fz : Nat × Nat), w.heap[b]? = some (.cells cs ty fz) → w'.heap[b]? = w.heap[b]?
theorem Cel.refl (w : World) : Cel w w := ⟨Nat.le_refl _, rfl, rfl, rfl, fun _ _ _ _ _ => rfl⟩
theorem Cel.trans {a b c : World} (h : Cel a b) (k : Cel b c) : Cel a c :=
  ⟨Nat.le_trans h.1 k.1, k.2.1.trans h.2.1, k.2.2.1.trans h.2.2.1, k.2.2.2.1.trans h.2.2.2.1, fun x cs ty fz hx => by have e := h.2.2.2.2 x cs ty fz hx; rw [k.2.2.2.2 x cs ty fz (by rw [e]; exact hx)]; exact e⟩
theorem Cel.of_below {w w' : World} (h : Below w.heap.size w w') : Cel w w' :=
  ⟨h.size, h.os, h.tape, h.output, fun b _ _ _ hb => h.block b (lt_of_heap hb)⟩
theorem Cel.of_grown {w w' : World} {row : Option Nat} (h : w.grownBy w' row) (hr : ∀ g, row = some g → ∃ m n, w.heap[g]? = some (.map m n)) : Cel w w' :=
  ⟨h.size, h.os, h.tape, h.output, fun b _ _ _ hb => h.block b (lt_of_heap hb) (fun e => by
    obtain ⟨m, n, hm⟩ := hr b e.symm
    rw [hb] at hm; cases hm)⟩
theorem Cel.blk {w w' : World} {b : Nat} {cs : Array Value} {ty : TypeId} (h : Cel w w') (hb : Blk w b cs ty) : Blk w' b cs ty := by
  unfold Blk at *; rw [h.2.2.2.2 b cs ty (0, 0) hb]; exact hb
theorem mapObj {H : Type} {P : Program} {k : TypeId} {R : Value → Option (DataW H × List MemPlace)} {w : World} {b n : Nat} {D : DataW H} (h : w.ownsMap P k R b n D) : ∃ es c, w.heap[b]? = some (.map es c) := by
  obtain ⟨es, c, hb, _⟩ := h
  exact ⟨es, c, hb⟩
theorem Cel.row {w w' : World} {base : Nat} {e : TypeId} {size n : Nat} {v : Value} {xs : List Value} (h : Cel w w') (hr : w.ownsRow base e size v n xs) : w'.ownsRow base e size v n xs := by
  refine ⟨hr.1, ?_⟩
  rcases hr.2 with h1 | ⟨g, cap, cur, h1, h2, h3, h4⟩
  · exact Or.inl h1
  · exact Or.inr ⟨g, cap, cur, h1, h2, by rw [h.2.2.2.2 g cur e (0, 0) h3]; exact h3, h4⟩
theorem Cel.inner {w w' : World} {lo hi : Nat} {ps : List (R × Value)} (h : Cel w w') (hi' : Inner w lo hi ps) : Inner w' lo hi ps :=
  ⟨Nat.le_trans hi'.1 h.1, fun p hp => ⟨h.row (hi'.2.1 p hp).1, (hi'.2.1 p hp).2⟩, hi'.2.2⟩
theorem Cel.own {w w' : World} {lo hi : Nat} {v : Value} {ps : List (R × Value)} (h : Cel w w') (ho : OwnRecs w lo hi v ps) : OwnRecs w' lo hi v ps :=
  ⟨h.row ho.1, ho.2.1, h.inner ho.2.2⟩
/-- A store into a block of cells, or one that grows, leaves the book. -/
theorem BkN.keptC {W W' : World} {lo b N : Nat} {ws : List Wd} {row : Option Nat} (h : BkN W lo b N ws) (hg : W.grownBy W' row) (hr : ∀ g, row = some g → ∃ cs ty fz, W.heap[g]? = some (.cells cs ty fz)) : BkN W' lo b N ws := by
  obtain ⟨D, h0, h1, h2, h3⟩ := h
  have ne : ∀ B, (∃ es c, W.heap[B]? = some (.map es c)) → some B ≠ row := fun B hB e => by
    obtain ⟨cs, ty, fz, hc⟩ := hr B e.symm
    obtain ⟨es, c, hm⟩ := hB
    rw [hc] at hm; cases hm
  refine ⟨D, h0, h1.kept hg (ne _ (mapObj h1)), fun t ht ht6 => ?_, h3⟩
  rcases h2 t ht ht6 with a | ⟨B, S, a1, a2, a3, a4, a5⟩
  · exact Or.inl a
  · exact Or.inr ⟨B, S, a1, a2, a3, a4.kept hg (ne _ (mapObj a4)), a5⟩

set_option maxHeartbeats 2000000 in
set_option maxRecDepth 10000 in
theorem bookAdd_newC (lo b N : Nat) (ws : List Wd) (p : Wd) (W : World) (hb : BkN W lo b N ws) (hN : N < 10000000) (hk : 0 ≤ p.1 ∧ p.1 ≤ 10) (hh : 0 ≤ p.2.1 ∧ p.2.1 ≤ 10) (ht : 1 ≤ p.2.2.1 ∧ p.2.2.1 ≤ 6) (hold : told ws p.1 p.2.1 p.2.2.1 = false) :
    Calls Tryz.prog 159 #[.map (some b), wordV p.1 p.2.1 p.2.2.1 p.2.2.2] W fun e w' => e = .returned (.bool true) ∧ BkN w' lo b (N + 2) (ws ++ [p]) ∧ (Below lo W w' ∧ Cel W w') := by
  obtain ⟨D, hd⟩ := hb
  have h0 := hd.low
  have h1 := hd.own
  have hbl := h1.lt
  have hlo : lo ≤ W.heap.size := by omega
  rcases hd.sets _ ht.1 ht.2 with ⟨an, a⟩ | ⟨B, S, a1, a2, a3, a4, a5⟩
  · have hl : Hid (∀ o, (Instr.lookup 126 (.map (some b)) (.int .i64 p.2.2.1) false).run Tryz.prog (W.alloc o) = .ok (.map none) (W.alloc o)) := fun o => by
      obtain ⟨v, ps, r1, r2⟩ := (h1.alloc o).lookup tripLaw Tryz.underlying126 (zeroSet _) (zd := .nil) (zp := []) rfl (tripKey (by omega) (by omega : p.2.2.1 ≤ 1000))
      rw [an] at r2
      rw [refElem_none r2] at r1
      exact r1
    have HM : Hid (∀ o w2, ((W.alloc o).alloc (.map #[] 0)).grownBy w2 (some b) → w2.ownsMap Tryz.prog 3 refElem b (N + 1) (D.put (.int .i64 p.2.2.1) (.lit (.int .i64 ((W.heap.size + 1 : Nat) : Int)))) →
        (Instr.lookup 126 (.map (some b)) (.int .i64 p.2.2.1) false).run Tryz.prog w2 = .ok (.map (some (W.heap.size + 1))) w2 ∧
        Calls Tryz.prog 182 #[.map (some (W.heap.size + 1)), replyV p.1 p.2.1] w2 fun e w' => e = .returned (.bool true) ∧ BkN w' lo b (N + 2) (ws ++ [p]) ∧ (Below lo W w' ∧ Cel W w')) := fun o w2 hg ho => by
      obtain ⟨hd2, mo, e0⟩ := BkD.made hd ht a hg ho
      constructor
      · obtain ⟨v, ps, r1, r2⟩ := ho.lookup tripLaw Tryz.underlying126 (zeroSet _) (zd := .nil) (zp := []) rfl (tripKey (by omega) (by omega : p.2.2.1 ≤ 1000))
        rw [e0] at r2
        rw [refElem_some r2] at r1
        exact r1
      · refine (setAdd_new (W.heap.size + 1) (N + 1) (.map []) p.1 p.2.1 w2 mo (by omega) hk.1 (by omega) hh.1 (by omega) rfl).mono ?_
        rintro e w3 ⟨he, g3, o3⟩
        refine ⟨he, hd2.more hk hh ht e0 (by omega) (by omega) mo (fun k h _ _ _ _ => by rw [a k h]; rfl) g3 o3, ?_⟩
        have b1 : Below lo W ((W.alloc o).alloc (.map #[] 0)) := (below2 W _ _).mono hlo
        have b2 : Below lo W w2 := b1.grown hg (by simp; omega) (fun j hj => by simp at hj; omega)
        refine ⟨b2.grown g3 (by have := hg.size; simp at this; omega) (fun j hj => by simp at hj; omega), ?_⟩
        have c1 : Cel W ((W.alloc o).alloc (.map #[] 0)) := (Cel.of_below (below2 W _ _))
        have c2 : Cel ((W.alloc o).alloc (.map #[] 0)) w2 := Cel.of_grown hg (fun g hg2 => by
          simp only [Option.some.injEq] at hg2; subst hg2
          exact mapObj ((h1.alloc o).alloc (.map #[] 0)))
        exact (c1.trans c2).trans (Cel.of_grown g3 (fun g hg2 => by simp only [Option.some.injEq] at hg2; subst hg2; exact mapObj mo))
    have hbl' := hbl
    have HX : Hid (∀ o w2, ((W.alloc o).alloc (.map #[] 0)).grownBy w2 (some b) → ∀ cs ty, Blk (W.alloc o) W.heap.size cs ty → Blk w2 W.heap.size cs ty) := fun o w2 hg cs ty hB =>
      (hB.alloc _).grown hg (fun e => by simp at e; omega)
    have HMk : Hid (∀ w : World, w.ownsMap Tryz.prog 3 refElem b N D → w.ownsMap Tryz.prog 3 refElem b N D) := fun _ h => h
    have HO := hide_it h1
    have HN := hide_it hN
    obtain ⟨k, h, t, m⟩ := p
    simp only at hl HM ht
    have HK : Hid (keyOf Tryz.prog 3 (.int .i64 t) = some (.int .i64 t)) := tripKey (by omega) (by omega)
    have l1 := hl.out (.cells #[.int .i64 k, .int .i64 h, .int .i64 t, .int .i64 m] 82)
    have e1 := eqlNone
    have hmm := @run_makeMap Tryz.prog
    clear hl hd h0 h1 hbl hbl' hlo an a hold hk hh ht hN HMk
    go_enter Tryz.func159, Tryz.ntmps159
    go_wp2_with (first | (at_mapUpdate; refine wpList_mapUpdate_own _ rfl _ _ _ 126 rfl 3 231 tripLaw Tryz.underlying126 refElem b N D rfl ((HO.out.alloc _).alloc _) (by have := HN.out; unfold maxLen; omega) _ _ _ rfl rfl HK.out (.lit (.int .i64 ((W.heap.size + 1 : Nat) : Int))) [] rfl ?_; intro w2 hown2 hgrow2; have Q2 := HM.out _ w2 hgrow2 hown2; have l2 := Q2.1; have C2 := hide_it Q2.2; obtain ⟨c0, c1, c2, c3⟩ := (HX.out _ w2 hgrow2 _ _ (Blk.new _ _ _)).cells4; clear Q2 hown2 hgrow2) | (go_at_call 182; refine C2.out.mono ?_; rintro e w3 ⟨rfl, hb1, hb2⟩; have B1 := hide_it hb1; have B2 := hide_it hb2; clear hb1 hb2))
    go_ret
    exact ⟨rfl, B1.out, B2.out⟩
  · have hl : Hid (∀ o, (Instr.lookup 126 (.map (some b)) (.int .i64 p.2.2.1) false).run Tryz.prog (W.alloc o) = .ok (.map (some B)) (W.alloc o)) := fun o => by
      obtain ⟨v, ps, r1, r2⟩ := (h1.alloc o).lookup tripLaw Tryz.underlying126 (zeroSet _) (zd := .nil) (zp := []) rfl (tripKey (by omega) (by omega : p.2.2.1 ≤ 1000))
      rw [a1] at r2
      rw [refElem_some r2] at r1
      exact r1
    have HC : Hid (∀ o, Calls Tryz.prog 182 #[.map (some B), replyV p.1 p.2.1] (W.alloc o) fun e w' => e = .returned (.bool true) ∧ BkN w' lo b (N + 2) (ws ++ [p]) ∧ (Below lo W w' ∧ Cel W w')) := fun o => by
      refine (setAdd_new B N S p.1 p.2.1 (W.alloc o) (a4.alloc o) (by omega) hk.1 (by omega) hh.1 (by omega) (by rw [a5 _ _ hk.1 hk.2 hh.1 hh.2]; exact hold)).mono ?_
      rintro e w3 ⟨he, g3, o3⟩
      have hg : W.grownBy w3 (some B) := grownBy_trans (World.grownBy_alloc W o _) g3
      refine ⟨he, (hd.more hk hh ht a1 a2 a3 a4 a5 hg o3).mono (by omega), (Below.refl lo W).grown hg hlo (fun j hj => by simp at hj; omega), Cel.of_grown hg (fun g hg2 => by simp only [Option.some.injEq] at hg2; subst hg2; exact mapObj a4)⟩
    obtain ⟨k, h, t, m⟩ := p
    simp only at hl HC
    have l1 := hl.out (.cells #[.int .i64 k, .int .i64 h, .int .i64 t, .int .i64 m] 82)
    clear hl a1 a2 a3 a4 a5 h0 h1 hd hold hk hh ht hN hlo hbl
    have e1 := eqlSome B
    go_enter Tryz.func159, Tryz.ntmps159
    go_wp2_with (go_at_call 182; refine (HC.out _).mono ?_; rintro e w1 ⟨rfl, hb1, hb2⟩; have B1 := hide_it hb1; have B2 := hide_it hb2; clear hb1 hb2)
    go_ret
    exact ⟨rfl, B1.out, B2.out⟩


end Go.Proofs.YtkkkdgpbmmjieaaGreatDoor
