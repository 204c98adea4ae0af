/- FnExactDeskHear answers true at every desk and every word, and they read afterwards as they read before: at every argument DeskHear answers as its model. The card: the sentinel's variable starts as the program's text lays it. -/
import Derived.Test.YtgknnigjlnfplaaGreatDoorBase9
import Derived.Deep.RegionHeld
import Derived.Test.YtgknnigjlnfplaaGreatDoorRows
import Derived.ProofKit
import Derived.Lib.SmallJoins

namespace Go.Proofs.YtgknnigjlnfplaaGreatDoor
open Go.RowKit

theorem dkHear_tot (up : Bool) (rs : List R) (f : Int) (ws : List Wd) (p : Wd) (hl : tot rs ≤ 1048576) (hlw : ws.length ≤ 1048576) : tot (dkHear up rs f ws p).2.1 ≤ 1048576 ∧ (dkHear up rs f ws p).2.2.2.length ≤ 1048576 := by
  unfold dkHear
  split
  · next h =>
    have h18 := T.runT_room (run_some h)
    have h72 := toldOk_len (dkOk_parts h).2.2.1
    have hall : rs.all rOk = true := by
      have := dkOk_log h
      unfold logOk at this
      simp only [Bool.and_eq_true] at this
      exact this.1
    have h3 := pre_okD rs hall
    have ht : tot rs ≤ 1048000 := by
      unfold tot pre
      rw [List.take_length]
      omega
    unfold hearD
    split
    · have := hearW_len ws p
      exact ⟨hearR_tot ht, by show (hearW ws p).length ≤ _; omega⟩
    · exact ⟨hl, hlw⟩
  · simp [dkZ, tot, pre]
theorem after2 {w W : World} {o o' : Obj} (h : Below ((w.alloc o).alloc o').heap.size ((w.alloc o).alloc o') W) : Below w.heap.size w W := (below2 w o o').trans (h.mono (by simp; omega))
theorem le_at {a b c : Nat} (h : Hid (b = c)) (hl : a ≤ c) : Hid (a ≤ b) := by show a ≤ b; rw [h.out]; exact hl
theorem lt_at {a b c : Nat} (h : Hid (b = c)) (hl : a < c) : a < b := by rw [h.out]; exact hl
theorem alc_new (W : World) (cs : Array Value) (ty : TypeId) : ∃ X b, Hid (X = W.alloc (.cells cs ty)) ∧ Hid (b = W.heap.size) ∧ Below W.heap.size W X ∧ Hid (Blk X b cs ty) :=
  ⟨_, _, rfl, rfl, alloc_below _ _, Blk.new _ _ _⟩
theorem bel_d4 {B W : World} {b : Nat} {x0 x1 x2 x3 : Value} (h : Below B.heap.size B W) (hb : B.heap.size ≤ b) : Below B.heap.size B ((((W.setCell ⟨b, 0, none⟩ x0).setCell ⟨b, 1, none⟩ x1).setCell ⟨b, 2, none⟩ x2).setCell ⟨b, 3, none⟩ x3) :=
  Below.setCell (Below.setCell (Below.setCell (Below.setCell h hb _) hb _) hb _) hb _
theorem dkown_kept {w w' : World} {lo hi : Nat} {v u : Value} {ps : List (R × Value)} {ws : List Wd} (hk : Kept [36] w w') (h : DkOwn w lo hi v u ps ws) : DkOwn w' lo hi v u ps ws := by
  obtain ⟨h0, l, t, h1, h2, h3, h4, h5⟩ := h
  exact ⟨Nat.le_trans h0 hk.size, l, t, h1, h2, hk.own h3 (by decide) (by decide), hk.row h4 (by decide), h5⟩
theorem dk_split {W X : World} {v u : Value} {ps : List (R × Value)} {rs : List R} {ws : List Wd} (hp : ps.map (·.1) = rs) (h : DkOwn X W.heap.size X.heap.size v u ps ws) : ∃ lo hi, Hid (ps.map (·.1) = rs) ∧ Hid (DkOwn X lo hi v u ps ws) ∧ Hid (hi ≤ X.heap.size) ∧ Hid (lo = W.heap.size) ∧ Hid (hi = X.heap.size) :=
  ⟨_, _, hp, h, Nat.le_refl _, rfl, rfl⟩
/-- A desk's lists as rows. -/
def RowsD (w : World) (v u : Value) (rs : List R) (ws : List Wd) : Prop :=
  ∃ lo qs, qs.map (·.1) = rs ∧ w.ownsRow lo 81 3 v qs.length (flat qs) ∧ (∀ q ∈ qs, w.ownsRow lo 3 1 q.2 q.1.2.2.length (q.1.2.2.map (Value.int .i64))) ∧ w.ownsRow lo 39 4 u ws.length (wflat ws)
theorem RowsD.after {w w' : World} {v u : Value} {rs : List R} {ws : List Wd} (h : RowsD w v u rs ws) (hb : Below w.heap.size w w') : RowsD w' v u rs ws := by
  obtain ⟨lo, qs, h1, h2, h3, h4⟩ := h
  exact ⟨lo, qs, h1, ownsRow_below h2 hb (fun k hk => (h2.lt k hk).2), fun q hq => ownsRow_below (h3 q hq) hb (fun k hk => ((h3 q hq).lt k hk).2), ownsRow_below h4 hb (fun k hk => (h4.lt k hk).2)⟩
theorem RowsD.kept {w w' : World} {v u : Value} {rs : List R} {ws : List Wd} (h : RowsD w v u rs ws) (hk : Kept [36] w w') : RowsD w' v u rs ws := by
  obtain ⟨lo, qs, h1, h2, h3, h4⟩ := h
  exact ⟨lo, qs, h1, hk.row h2 (by decide), fun q hq => hk.row (h3 q hq) (by decide), hk.row h4 (by decide)⟩
theorem RowsD.at_ {w : World} {v u : Value} {rs : List R} {ws : List Wd} (h : RowsD w v u rs ws) : DkAt w v u rs ws := by
  obtain ⟨lo, qs, h1, h2, h3, h4⟩ := h
  have hr := recs_of_rows h2 (fun q hq => ints_of_any (h3 q hq))
  rw [h1] at hr
  exact ⟨hr, words_of_row h4⟩
/-- A desk comes back that reads so. -/
def DkSee (w w' : World) (e : Ending) (up : Bool) (rs : List R) (f : Int) (ws : List Wd) : Prop :=
  ∃ ao cap au cu, e = .returned (deskV up (.slice ao rs.length cap) f (.slice au ws.length cu)) ∧ RowsD w' (.slice ao rs.length cap) (.slice au ws.length cu) rs ws ∧ Below w.heap.size w w'
theorem see_of {w w' : World} {e : Ending} {up : Bool} {rs : List R} {f : Int} {ws : List Wd} (h : ShO w w' e w.heap.size (up, rs, f, ws)) : DkSee w w' e up rs f ws := by
  obtain ⟨v', u', qs, rfl, h1, h2, h3, h4, h5⟩ := h
  have hR : RowsD w' v' u' rs ws := ⟨_, qs, h1, h2, h3, h4⟩
  obtain ⟨a1, c1, a2, c2, rfl, rfl⟩ := hR.at_.shape
  exact ⟨a1, c1, a2, c2, rfl, hR, h5⟩
structure MetS (B W : World) (bh : Nat) (up : Bool) (v : Value) (f : Int) (u : Value) (rs : List R) (ws : List Wd) : Prop where
  be : Below B.heap.size B W
  ho : Blk W bh #[.bool up, v, .int .i64 f, u] 36
  at_ : DkAt W v u rs ws
  hh : B.heap.size ≤ bh
structure MetG (B W : World) (bh : Nat) (up : Bool) (v : Value) (f : Int) (u : Value) (ps : List (R × Value)) (ws : List Wd) (lo hi : Nat) : Prop where
  be : Below B.heap.size B W
  ho : Blk W bh #[.bool up, v, .int .i64 f, u] 36
  ow : DkOwn W lo hi v u ps ws
  hh : B.heap.size ≤ bh
  ah : bh < lo ∨ hi ≤ bh
  hl : B.heap.size ≤ lo

set_option maxHeartbeats 1000000 in
theorem lawDHear_great (up : Bool) (v u : Value) (rs : List R) (f : Int) (ws : List Wd) (k h t m : Int) (w : World) (hv : DkAt w v u rs ws) (hl : (rs.length : Int) ≤ 9223372036854775807) (hls : ∀ r ∈ rs, (r.2.2.length : Int) ≤ 9223372036854775807) (hlw : (ws.length : Int) ≤ 9223372036854775807) (hg : 1048576 < ((tot rs + ws.length : Nat) : Int)) :
    Calls Tryz.prog 3 #[deskV up v f u, wordV k h t m] w fun e w' => e = .returned (.bool true) ∧ Below w.heap.size w w' := by
  have HS : Hid (∀ o o', Calls Tryz.prog 4 #[deskV up v f u, .int .i64 1048576] ((w.alloc o).alloc o') fun e w' => e = .returned (.int .i64 (-1)) ∧ Below ((w.alloc o).alloc o').heap.size ((w.alloc o).alloc o') w') := fun o o' => by
    have := szDesk_any up v u rs f ws 1048576 ((w.alloc o).alloc o') (hv.later (below2 w o o') (Nat.le_refl _)) hl hls hlw (by omega) (by omega)
    rw [leftOf_neg (by omega)] at this
    exact this
  obtain ⟨av, cv, au, cu, rfl, rfl⟩ := hv.shape
  clear hv hl hls hg hlw
  go_enter Tryz.func3, Tryz.ntmps3
  go_wp2_with (go_at_call 4; refine (HS.out _ _).mono ?_; rintro e w1 ⟨rfl, hb⟩)
  go_ret
  exact ⟨rfl, after2 (by assumption)⟩

set_option maxRecDepth 100000 in
set_option maxHeartbeats 32000000 in
theorem lawDHear_small (up : Bool) (v u : Value) (rs : List R) (f : Int) (ws : List Wd) (k h t m : Int) (a : Addr) (w : World) (hv : DkAt w v u rs ws) (ha : ErrAt w a) (hlt : tot rs + ws.length ≤ 1048576) :
    Calls Tryz.prog 3 #[deskV up v f u, wordV k h t m] w fun e w' => e = .returned (.bool true) ∧ Below w.heap.size w w' := by
  have hrl := tot_len rs
  have hl : tot rs ≤ 1048576 := by omega
  have hlw : ws.length ≤ 1048576 := by omega
  have HS : Hid (∀ o o', Calls Tryz.prog 4 #[deskV up v f u, .int .i64 1048576] ((w.alloc o).alloc o') fun e w' => e = .returned (.int .i64 (1048576 - ((tot rs + ws.length : Nat) : Int))) ∧ Below ((w.alloc o).alloc o').heap.size ((w.alloc o).alloc o') w') := fun o o' => by
    have := szDesk_any up v u rs f ws 1048576 ((w.alloc o).alloc o') (hv.later (below2 w o o') (Nat.le_refl _)) (by omega) (fun r hr => by have := tot_mem rs r hr; omega) (by omega) (by omega) (by omega)
    rw [leftOf_pos (by omega)] at this
    exact this
  obtain ⟨TT, hTT⟩ : ∃ x, tot rs + ws.length = x := ⟨_, rfl⟩
  rw [hTT] at HS hlt
  clear hTT
  have HV : Hid (∀ W, Below w.heap.size w W → DkAt W v u rs ws) := fun W h => hv.later h (Nat.le_refl _)
  have HA : Hid (∀ W, Below w.heap.size w W → ErrAt W a) := fun W h => ha.later h (Nat.le_refl _)
  obtain ⟨av, cv, au, cu, hvs, hus⟩ := hv.shape
  have H0 : Hid (Blk ((w.alloc (.cells #[.bool up, v, .int .i64 f, u] 27)).alloc (.cells #[.int .i64 k, .int .i64 h, .int .i64 t, .int .i64 m] 29)) w.heap.size #[.bool up, v, .int .i64 f, u] 27) := (Blk.new _ _ _).alloc _
  have K0 : Hid (Blk ((w.alloc (.cells #[.bool up, v, .int .i64 f, u] 27)).alloc (.cells #[.int .i64 k, .int .i64 h, .int .i64 t, .int .i64 m] 29)) (w.heap.size + 1) #[.int .i64 k, .int .i64 h, .int .i64 t, .int .i64 m] 29) := Blk.new2 _ _ _ _
  clear hv ha
  subst hvs hus
  -- what comes out
  obtain ⟨⟨UP, RS, F, WS⟩, hO⟩ : ∃ o : Dk, Hid (dkHear up rs f ws (k, h, t, m) = o) := ⟨_, rfl⟩
  have hRl : tot RS ≤ 1048576 ∧ WS.length ≤ 1048576 := by have := dkHear_tot up rs f ws (k, h, t, m) hl hlw; rw [hO.out] at this; exact this
  obtain ⟨hRl, hWl⟩ := hRl
  have HSP : Hid (∀ (x y : Value) (W : World), DkIn W x y rs ws → Calls Tryz.prog 5 #[deskV up x f y, wordV k h t m] W fun e w' => DkSee W w' e UP RS F WS) := fun x y W h1 => by
    have := specDHear_any up x y rs f ws (k, h, t, m) W h1 hl hlw; rw [hO.out] at this; exact this.mono fun e w' h => see_of h
  have HIM : Hid (∀ (x y : Value) (W : World), DkIn W x y rs ws → ErrAt W a → Calls Tryz.prog 8 #[deskV up x f y, wordV k h t m] W fun e w' => DkOut W w' e UP RS F WS) := fun x y W h1 h2 => by
    have := implDHear_any up x y rs f ws (k, h, t, m) a W h1 hl hlw h2; rw [hO.out] at this; exact this
  have HKO : Hid (0 ≤ kDk RS 1 WS.length ∧ kDk RS 1 WS.length ≤ 1000000000) := by
    have := kAt_bd RS 1 RS.length (Nat.le_refl _) hRl (by omega) (by omega)
    constructor <;> (unfold kDk; omega)
  have HKX : Hid (0 ≤ kDk rs 1 ws.length ∧ kDk rs 1 ws.length ≤ 1000000000) := by
    have := kAt_bd rs 1 rs.length (Nat.le_refl _) hl (by omega) (by omega)
    constructor <;> (unfold kDk; omega)
  obtain ⟨KO, hKO⟩ : ∃ x, Hid (kDk RS 1 WS.length = x) := ⟨_, rfl⟩
  obtain ⟨KX, hKX⟩ : ∃ x, Hid (kDk rs 1 ws.length = x) := ⟨_, rfl⟩
  obtain ⟨hko0, hko1⟩ := HKO.out
  obtain ⟨hkx0, hkx1⟩ := HKX.out
  rw [hKO.out] at hko0 hko1
  rw [hKX.out] at hkx0 hkx1
  go_enter Tryz.func3, Tryz.ntmps3
  go_wp2_with fail
  refine (HS.out _ _).mono ?_
  rintro e w1 ⟨rfl, hb1⟩
  have B1 := hide_it (after2 hb1)
  have T1 := hide_it (H0.out.after hb1)
  have K1 := hide_it (K0.out.after hb1)
  have hz1 : w.heap.size + 1 < w1.heap.size := K1.out.lt
  clear hb1
  obtain ⟨c0, c1, c2, c3⟩ := T1.out.cells4
  obtain ⟨y0, y1, y2, y3⟩ := K1.out.cells4
  have KK : Hid (∀ W, Below w1.heap.size w1 W → (let w' := W; (w'.cell? ⟨w.heap.size, 0, none⟩ = some (.bool up) ∧ w'.cell? ⟨w.heap.size, 1, none⟩ = some (.slice av rs.length cv) ∧ w'.cell? ⟨w.heap.size, 2, none⟩ = some (.int .i64 f) ∧ w'.cell? ⟨w.heap.size, 3, none⟩ = some (.slice au ws.length cu)) ∧ (w'.cell? ⟨w.heap.size + 1, 0, none⟩ = some (.int .i64 k) ∧ w'.cell? ⟨w.heap.size + 1, 1, none⟩ = some (.int .i64 h) ∧ w'.cell? ⟨w.heap.size + 1, 2, none⟩ = some (.int .i64 t) ∧ w'.cell? ⟨w.heap.size + 1, 3, none⟩ = some (.int .i64 m)))) := fun W hb => ⟨(T1.out.after hb).cells4, (K1.out.after hb).cells4⟩
  go_wp2_with fail
  go_cut [6] (fun p W => ∃ bh a5 c5 b5 d5, p = .pointer (some ⟨bh, 0, none⟩) ∧ Hid (MetS w1 W bh UP (.slice a5 RS.length c5) F (.slice b5 WS.length d5) RS WS))
  case first =>
    as_aux_lemma =>
      obtain ⟨wddh5, hwddh5⟩ : ∃ W, Hid (W = w1.drew) := ⟨_, rfl⟩
      have LW : Hid (Below w1.heap.size w1 wddh5) := by show Below _ _ _; rw [hwddh5.out]; exact (Below.refl _ _).drew
      refine wp_region_held_drew (S := fun w' => (w'.cell? ⟨w.heap.size, 0, none⟩ = some (.bool up) ∧ w'.cell? ⟨w.heap.size, 1, none⟩ = some (.slice av rs.length cv) ∧ w'.cell? ⟨w.heap.size, 2, none⟩ = some (.int .i64 f) ∧ w'.cell? ⟨w.heap.size, 3, none⟩ = some (.slice au ws.length cu)) ∧ (w'.cell? ⟨w.heap.size + 1, 0, none⟩ = some (.int .i64 k) ∧ w'.cell? ⟨w.heap.size + 1, 1, none⟩ = some (.int .i64 h) ∧ w'.cell? ⟨w.heap.size + 1, 2, none⟩ = some (.int .i64 t) ∧ w'.cell? ⟨w.heap.size + 1, 3, none⟩ = some (.int .i64 m))) (by kernel_rfl) (KK.out _ (Below.refl _ _).drew) (fun hHeld => ?_)
      rw [← hwddh5.out] at hHeld ⊢
      refine takeD (i := 0) (v := ?_) (some 18) rfl rfl (by kernel_rfl) (by kernel_rfl) (by kernel_rfl) (fun _ _ _ h => h) (by rfl) hHeld ?_ ?_
      rotate_left
      · intro W hSw
        try dsimp only at hSw
        go_simp
        try with_reducible rfl
      try simp only [Act.put]
      try simp only [List.setIfInBounds_toArray]
      try simp only [List.set_cons_succ]
      try simp only [List.set_cons_zero]
      refine takeD (i := 2) (v := ?_) (some 20) rfl rfl (by kernel_rfl) (by kernel_rfl) (by kernel_rfl) (fun _ _ _ h => h) (by rfl) hHeld ?_ ?_
      rotate_left
      · intro W hSw
        try dsimp only at hSw
        go_simp
        try with_reducible rfl
      try simp only [Act.put]
      try simp only [List.setIfInBounds_toArray]
      try simp only [List.set_cons_succ]
      try simp only [List.set_cons_zero]
      refine wpAnyH_ready (rs := [1, 5]) (by kernel_rfl) (by simp) ?_
      refine AllReadyH.cons rfl (fun K hK => ?_) (AllReadyH.cons rfl (fun K hK => ?_) AllReadyH.nil)
      go_simp
      refine (toDesk_any up _ _ rs f ws wddh5 (HV.out _ (B1.out.trans (LW.out.mono B1.out.size))) hl hlw).mono ?_
      rintro e wr1 ⟨aH, cH, bH, dH, pH, rfl, hpH, hoH, hb⟩
      have VH := hide_it (hoH.in_ hpH)
      clear hpH hoH
      replace LW : Hid (Below w1.heap.size w1 wr1) := LW.out.trans (hb.mono LW.out.size)
      clear hb
      try dsimp only
      refine hK.out _ _ (KK.out _ LW.out) (fun hHeld => ?_)
      clear hK K
      refine wpAnyH_ready (rs := [3, 5]) (by kernel_rfl) (by simp) ?_
      refine AllReadyH.cons rfl (fun K hK => ?_) (AllReadyH.cons rfl (fun K hK => ?_) AllReadyH.nil)
      go_simp
      refine (toWord_any k h t m wr1).mono ?_
      rintro e wr2 ⟨rfl, hb⟩
      replace VH := hide_it (VH.out.later hb (Nat.le_refl _))
      replace LW : Hid (Below w1.heap.size w1 wr2) := LW.out.trans (hb.mono LW.out.size)
      clear hb
      try dsimp only
      refine hK.out _ _ (KK.out _ LW.out) (fun hHeld => ?_)
      clear hK K
      refine wpAnyH_ready (rs := [4, 5]) (by kernel_rfl) (by simp) ?_
      refine AllReadyH.cons rfl (fun K hK => ?_) (AllReadyH.cons rfl (fun K hK => ?_) AllReadyH.nil)
      go_simp
      refine (HSP.out _ _ wr2 VH.out).mono ?_
      rintro e wr3 ⟨aC, cC, bC, dC, rfl, ho, hb⟩
      have O := hide_it ho
      clear ho VH
      replace LW : Hid (Below w1.heap.size w1 wr3) := LW.out.trans (hb.mono LW.out.size)
      clear hb
      try dsimp only
      refine hK.out _ _ (KK.out _ LW.out) (fun hHeld => ?_)
      clear hK K
      refine wpAnyH_ready (rs := [5]) (by kernel_rfl) (by simp) ?_
      refine AllReadyH.cons rfl (fun K hK => ?_) AllReadyH.nil
      go_simp
      obtain ⟨wr4, bh, hX, hB, hb, YH⟩ := alc_new wr3 #[.bool false, .slice none 0 0, .int .i64 0, .slice none 0 0] 36
      have LBH : Hid (w1.heap.size ≤ bh) := le_at hB LW.out.size
      replace O := hide_it (O.out.after hb)
      replace LW : Hid (Below w1.heap.size w1 wr4) := LW.out.trans (hb.mono LW.out.size)
      clear hb
      rw [← hX.out]
      try dsimp only
      refine hK.out _ _ (KK.out _ LW.out) (fun hHeld => ?_)
      clear hK K
      rw [← hB.out]
      clear hX hB
      rotate_left
      go_simp
      obtain ⟨wr3, bh, hX, hB, hb, YH⟩ := alc_new wr2 #[.bool false, .slice none 0 0, .int .i64 0, .slice none 0 0] 36
      have LBH : Hid (w1.heap.size ≤ bh) := le_at hB LW.out.size
      replace VH := hide_it (VH.out.later hb (Nat.le_refl _))
      replace LW : Hid (Below w1.heap.size w1 wr3) := LW.out.trans (hb.mono LW.out.size)
      clear hb
      rw [← hX.out]
      try dsimp only
      refine hK.out _ _ (KK.out _ LW.out) (fun hHeld => ?_)
      clear hK K
      rw [← hB.out]
      clear hX hB
      refine wpAnyH_ready (rs := [4]) (by kernel_rfl) (by simp) ?_
      refine AllReadyH.cons rfl (fun K hK => ?_) AllReadyH.nil
      go_simp
      refine (HSP.out _ _ wr3 VH.out).mono ?_
      rintro e wr4 ⟨aC, cC, bC, dC, rfl, ho, hb⟩
      have O := hide_it ho
      clear ho VH
      replace YH := hide_it (YH.out.after hb)
      replace LW : Hid (Below w1.heap.size w1 wr4) := LW.out.trans (hb.mono LW.out.size)
      clear hb
      try dsimp only
      refine hK.out _ _ (KK.out _ LW.out) (fun hHeld => ?_)
      clear hK K
      rotate_left
      go_simp
      obtain ⟨wr2, bh, hX, hB, hb, YH⟩ := alc_new wr1 #[.bool false, .slice none 0 0, .int .i64 0, .slice none 0 0] 36
      have LBH : Hid (w1.heap.size ≤ bh) := le_at hB LW.out.size
      replace VH := hide_it (VH.out.later hb (Nat.le_refl _))
      replace LW : Hid (Below w1.heap.size w1 wr2) := LW.out.trans (hb.mono LW.out.size)
      clear hb
      rw [← hX.out]
      try dsimp only
      refine hK.out _ _ (KK.out _ LW.out) (fun hHeld => ?_)
      clear hK K
      rw [← hB.out]
      clear hX hB
      refine wpAnyH_ready (rs := [3]) (by kernel_rfl) (by simp) ?_
      refine AllReadyH.cons rfl (fun K hK => ?_) AllReadyH.nil
      go_simp
      refine (toWord_any k h t m wr2).mono ?_
      rintro e wr3 ⟨rfl, hb⟩
      replace YH := hide_it (YH.out.after hb)
      replace VH := hide_it (VH.out.later hb (Nat.le_refl _))
      replace LW : Hid (Below w1.heap.size w1 wr3) := LW.out.trans (hb.mono LW.out.size)
      clear hb
      try dsimp only
      refine hK.out _ _ (KK.out _ LW.out) (fun hHeld => ?_)
      clear hK K
      refine wpAnyH_ready (rs := [4]) (by kernel_rfl) (by simp) ?_
      refine AllReadyH.cons rfl (fun K hK => ?_) AllReadyH.nil
      go_simp
      refine (HSP.out _ _ wr3 VH.out).mono ?_
      rintro e wr4 ⟨aC, cC, bC, dC, rfl, ho, hb⟩
      have O := hide_it ho
      clear ho VH
      replace YH := hide_it (YH.out.after hb)
      replace LW : Hid (Below w1.heap.size w1 wr4) := LW.out.trans (hb.mono LW.out.size)
      clear hb
      try dsimp only
      refine hK.out _ _ (KK.out _ LW.out) (fun hHeld => ?_)
      clear hK K
      rotate_left
      go_simp
      obtain ⟨wr1, bh, hX, hB, hb, YH⟩ := alc_new wddh5 #[.bool false, .slice none 0 0, .int .i64 0, .slice none 0 0] 36
      have LBH : Hid (w1.heap.size ≤ bh) := le_at hB LW.out.size
      replace LW : Hid (Below w1.heap.size w1 wr1) := LW.out.trans (hb.mono LW.out.size)
      clear hb
      rw [← hX.out]
      try dsimp only
      refine hK.out _ _ (KK.out _ LW.out) (fun hHeld => ?_)
      clear hK K
      rw [← hB.out]
      clear hX hB
      refine wpAnyH_ready (rs := [1]) (by kernel_rfl) (by simp) ?_
      refine AllReadyH.cons rfl (fun K hK => ?_) AllReadyH.nil
      go_simp
      refine (toDesk_any up _ _ rs f ws wr1 (HV.out _ (B1.out.trans (LW.out.mono B1.out.size))) hl hlw).mono ?_
      rintro e wr2 ⟨aH, cH, bH, dH, pH, rfl, hpH, hoH, hb⟩
      have VH := hide_it (hoH.in_ hpH)
      clear hpH hoH
      replace YH := hide_it (YH.out.after hb)
      replace LW : Hid (Below w1.heap.size w1 wr2) := LW.out.trans (hb.mono LW.out.size)
      clear hb
      try dsimp only
      refine hK.out _ _ (KK.out _ LW.out) (fun hHeld => ?_)
      clear hK K
      refine wpAnyH_ready (rs := [3]) (by kernel_rfl) (by simp) ?_
      refine AllReadyH.cons rfl (fun K hK => ?_) AllReadyH.nil
      go_simp
      refine (toWord_any k h t m wr2).mono ?_
      rintro e wr3 ⟨rfl, hb⟩
      replace YH := hide_it (YH.out.after hb)
      replace VH := hide_it (VH.out.later hb (Nat.le_refl _))
      replace LW : Hid (Below w1.heap.size w1 wr3) := LW.out.trans (hb.mono LW.out.size)
      clear hb
      try dsimp only
      refine hK.out _ _ (KK.out _ LW.out) (fun hHeld => ?_)
      clear hK K
      refine wpAnyH_ready (rs := [4]) (by kernel_rfl) (by simp) ?_
      refine AllReadyH.cons rfl (fun K hK => ?_) AllReadyH.nil
      go_simp
      refine (HSP.out _ _ wr3 VH.out).mono ?_
      rintro e wr4 ⟨aC, cC, bC, dC, rfl, ho, hb⟩
      have O := hide_it ho
      clear ho VH
      replace YH := hide_it (YH.out.after hb)
      replace LW : Hid (Below w1.heap.size w1 wr4) := LW.out.trans (hb.mono LW.out.size)
      clear hb
      try dsimp only
      refine hK.out _ _ (KK.out _ LW.out) (fun hHeld => ?_)
      clear hK K
      rotate_left
      all_goals
        refine wpAnyH_ready (rs := [6]) (by kernel_rfl) (by simp) ?_
        refine AllReadyH.cons rfl (fun K hK => ?_) AllReadyH.nil
        go_simp
        obtain ⟨c0, c1, c2, c3⟩ := YH.out.cells4
        have cf0 := YH.out.free 0
        have cf1 := YH.out.free 1
        have cf2 := YH.out.free 2
        have cf3 := YH.out.free 3
        go_simp
        obtain ⟨wr5, hX⟩ : ∃ W, Hid (W = ((((wr4.setCell ⟨bh, 0, none⟩ (.bool UP)).setCell ⟨bh, 1, none⟩ (.slice aC RS.length cC)).setCell ⟨bh, 2, none⟩ (.int .i64 F)).setCell ⟨bh, 3, none⟩ (.slice bC WS.length dC))) := ⟨_, rfl⟩
        have KS := kept_set4 YH.out (.bool UP) (.slice aC RS.length cC) (.int .i64 F) (.slice bC WS.length dC)
        have YH2 : Hid (Blk wr5 bh #[.bool UP, .slice aC RS.length cC, .int .i64 F, .slice bC WS.length dC] 36) := by show Blk _ _ _ _; rw [hX.out]; exact KS.2
        replace O : Hid (RowsD wr5 (.slice aC RS.length cC) (.slice bC WS.length dC) RS WS) := by show RowsD _ _ _ _ _; rw [hX.out]; exact O.out.kept KS.1
        replace LW : Hid (Below w1.heap.size w1 wr5) := by show Below _ _ _; rw [hX.out]; exact bel_d4 LW.out LBH.out
        rw [← hX.out]
        clear KS hX c0 cf0 c1 cf1 c2 cf2 c3 cf3
        try dsimp only
        refine hK.out _ _ (KK.out _ LW.out) (fun hHeld => ?_)
        clear hK K
        refine wpAnyH_done (by kernel_rfl) ?_ _
        go_wp2_with fail
        go_meet
        case rel => exact ⟨bh, aC, cC, bC, dC, rfl, hide_it ⟨LW.out, YH2.out, O.out.at_, LBH.out⟩⟩
  case rest =>
    obtain ⟨bh5, a3, cap3, b3, dap3, rfl, M3⟩ := hcut
    rename World => w4
    have B4 := hide_it (B1.out.trans (M3.out.be.mono B1.out.size))
    have T4 := hide_it (T1.out.after M3.out.be)
    have K4 := hide_it (K1.out.after M3.out.be)
    have V4 : Hid (DkAt w4 (.slice a3 RS.length cap3) (.slice b3 WS.length dap3) RS WS) := M3.out.at_
    have Z4 : Hid (Blk w4 bh5 #[.bool UP, .slice a3 RS.length cap3, .int .i64 F, .slice b3 WS.length dap3] 36) := M3.out.ho
    have hz4 : w.heap.size ≤ w4.heap.size := B4.out.size
    clear M3 c0 c1 c2 c3 y0 y1 y2 y3 KK
    obtain ⟨c0, c1, c2, c3⟩ := T4.out.cells4
    go_wp2_with fail
    refine (toDesk_any up _ _ rs f ws w4 (HV.out _ B4.out) hl hlw).mono ?_
    rintro e w5 ⟨a5, cap5, b5, dap5, ps5, rfl, hp5, ho5, hb5⟩
    have HP5 := hide_it hp5
    have O5 := hide_it ho5
    have E5 := hide_it hb5
    clear hp5 ho5 hb5 c0 c1 c2 c3
    obtain ⟨w6, hw6⟩ : ∃ W, Hid (W = w5.alloc (.cells #[.bool up, .slice a5 rs.length cap5, .int .i64 f, .slice b5 ws.length dap5] 36)) := ⟨_, rfl⟩
    have al6 := hide_it (show Below w5.heap.size w5 w6 by rw [hw6.out]; exact alloc_below _ _)
    have HS6 := hide_it (show w6.heap.size = w5.heap.size + 1 by rw [hw6.out]; simp)
    have E6 := hide_it (E5.out.trans (al6.out.mono E5.out.size))
    have O6 := hide_it (O5.out.below al6.out (Nat.le_refl _))
    have X6 : Hid (Blk w6 w5.heap.size #[.bool up, .slice a5 rs.length cap5, .int .i64 f, .slice b5 ws.length dap5] 36) := by show Blk _ _ _ _; rw [hw6.out]; exact Blk.new _ _ _
    have R6 := hide_it (O6.out.in_ HP5.out)
    have B6 := hide_it (B4.out.trans (E6.out.mono hz4))
    have K6 := hide_it (K4.out.after E6.out)
    have KK : Hid (∀ W, Below w6.heap.size w6 W → (let w' := W; (w'.cell? ⟨w5.heap.size, 0, none⟩ = some (.bool up) ∧ w'.cell? ⟨w5.heap.size, 1, none⟩ = some (.slice a5 rs.length cap5) ∧ w'.cell? ⟨w5.heap.size, 2, none⟩ = some (.int .i64 f) ∧ w'.cell? ⟨w5.heap.size, 3, none⟩ = some (.slice b5 ws.length dap5)) ∧ (w'.cell? ⟨w.heap.size + 1, 0, none⟩ = some (.int .i64 k) ∧ w'.cell? ⟨w.heap.size + 1, 1, none⟩ = some (.int .i64 h) ∧ w'.cell? ⟨w.heap.size + 1, 2, none⟩ = some (.int .i64 t) ∧ w'.cell? ⟨w.heap.size + 1, 3, none⟩ = some (.int .i64 m)))) := fun W hb => ⟨(X6.out.after hb).cells4, (K6.out.after hb).cells4⟩
    go_wp2_with fail
    rw [← hw6.out]
    go_cut [8] (fun p W => ∃ bh a5 c5 b5 d5 ps lo hi, p = .pointer (some ⟨bh, 0, none⟩) ∧ Hid (ps.map (·.1) = RS) ∧ Hid (MetG w6 W bh UP (.slice a5 RS.length c5) F (.slice b5 WS.length d5) ps WS lo hi))
    case first =>
      as_aux_lemma =>
        obtain ⟨wddh7, hwddh7⟩ : ∃ W, Hid (W = w6.drew) := ⟨_, rfl⟩
        have LW : Hid (Below w6.heap.size w6 wddh7) := by show Below _ _ _; rw [hwddh7.out]; exact (Below.refl _ _).drew
        have VH := hide_it (R6.out.later LW.out (Nat.le_refl _))
        refine wp_region_held_drew (S := fun w' => (w'.cell? ⟨w5.heap.size, 0, none⟩ = some (.bool up) ∧ w'.cell? ⟨w5.heap.size, 1, none⟩ = some (.slice a5 rs.length cap5) ∧ w'.cell? ⟨w5.heap.size, 2, none⟩ = some (.int .i64 f) ∧ w'.cell? ⟨w5.heap.size, 3, none⟩ = some (.slice b5 ws.length dap5)) ∧ (w'.cell? ⟨w.heap.size + 1, 0, none⟩ = some (.int .i64 k) ∧ w'.cell? ⟨w.heap.size + 1, 1, none⟩ = some (.int .i64 h) ∧ w'.cell? ⟨w.heap.size + 1, 2, none⟩ = some (.int .i64 t) ∧ w'.cell? ⟨w.heap.size + 1, 3, none⟩ = some (.int .i64 m))) (by kernel_rfl) (KK.out _ (Below.refl _ _).drew) (fun hHeld => ?_)
        rw [← hwddh7.out] at hHeld ⊢
        refine takeD (i := 0) (v := ?_) (some 25) rfl rfl (by kernel_rfl) (by kernel_rfl) (by kernel_rfl) (fun _ _ _ h => h) (by rfl) hHeld ?_ ?_
        rotate_left
        · intro W hSw
          try dsimp only at hSw
          go_simp
          try with_reducible rfl
        try simp only [Act.put]
        try simp only [List.setIfInBounds_toArray]
        try simp only [List.set_cons_succ]
        try simp only [List.set_cons_zero]
        refine takeD (i := 1) (v := ?_) (some 26) rfl rfl (by kernel_rfl) (by kernel_rfl) (by kernel_rfl) (fun _ _ _ h => h) (by rfl) hHeld ?_ ?_
        rotate_left
        · intro W hSw
          try dsimp only at hSw
          go_simp
          try with_reducible rfl
        try simp only [Act.put]
        try simp only [List.setIfInBounds_toArray]
        try simp only [List.set_cons_succ]
        try simp only [List.set_cons_zero]
        refine wpAnyH_ready (rs := [2, 4]) (by kernel_rfl) (by simp) ?_
        refine AllReadyH.cons rfl (fun K hK => ?_) (AllReadyH.cons rfl (fun K hK => ?_) AllReadyH.nil)
        go_simp
        refine (toWord_any k h t m wddh7).mono ?_
        rintro e wr1 ⟨rfl, hb⟩
        replace VH := hide_it (VH.out.later hb (Nat.le_refl _))
        replace LW : Hid (Below w6.heap.size w6 wr1) := LW.out.trans (hb.mono LW.out.size)
        clear hb
        try dsimp only
        refine hK.out _ _ (KK.out _ LW.out) (fun hHeld => ?_)
        clear hK K
        refine wpAnyH_ready (rs := [3, 4]) (by kernel_rfl) (by simp) ?_
        refine AllReadyH.cons rfl (fun K hK => ?_) (AllReadyH.cons rfl (fun K hK => ?_) AllReadyH.nil)
        go_simp
        refine (HIM.out _ _ wr1 VH.out (HA.out _ (B6.out.trans (LW.out.mono B6.out.size)))).mono ?_
        rintro e wr2 ⟨aC, cC, bC, dC, pC, rfl, hpC, hoC, hb⟩
        obtain ⟨lo, hi, P, O, Z, hlo, hhi⟩ := dk_split hpC hoC
        have LL : Hid (w6.heap.size ≤ lo) := le_at hlo LW.out.size
        clear hpC hoC hlo hhi VH
        replace LW : Hid (Below w6.heap.size w6 wr2) := LW.out.trans (hb.mono LW.out.size)
        clear hb
        try dsimp only
        refine hK.out _ _ (KK.out _ LW.out) (fun hHeld => ?_)
        clear hK K
        refine wpAnyH_ready (rs := [4]) (by kernel_rfl) (by simp) ?_
        refine AllReadyH.cons rfl (fun K hK => ?_) AllReadyH.nil
        go_simp
        obtain ⟨wr3, bh, hX, hB, hb, YH⟩ := alc_new wr2 #[.bool false, .slice none 0 0, .int .i64 0, .slice none 0 0] 36
        have LBH : Hid (w6.heap.size ≤ bh) := le_at hB LW.out.size
        have AH : Hid (bh < lo ∨ hi ≤ bh) := Or.inr (le_at hB Z.out)
        replace O := hide_it (O.out.below hb Z.out)
        replace Z : Hid (hi ≤ wr3.heap.size) := Nat.le_trans Z.out hb.size
        replace LW : Hid (Below w6.heap.size w6 wr3) := LW.out.trans (hb.mono LW.out.size)
        clear hb
        rw [← hX.out]
        try dsimp only
        refine hK.out _ _ (KK.out _ LW.out) (fun hHeld => ?_)
        clear hK K
        rw [← hB.out]
        clear hX hB
        rotate_left
        go_simp
        obtain ⟨wr2, bh, hX, hB, hb, YH⟩ := alc_new wr1 #[.bool false, .slice none 0 0, .int .i64 0, .slice none 0 0] 36
        have LBH : Hid (w6.heap.size ≤ bh) := le_at hB LW.out.size
        replace VH := hide_it (VH.out.later hb (Nat.le_refl _))
        replace LW : Hid (Below w6.heap.size w6 wr2) := LW.out.trans (hb.mono LW.out.size)
        clear hb
        rw [← hX.out]
        try dsimp only
        refine hK.out _ _ (KK.out _ LW.out) (fun hHeld => ?_)
        clear hK K
        rw [← hB.out]
        clear hX hB
        refine wpAnyH_ready (rs := [3]) (by kernel_rfl) (by simp) ?_
        refine AllReadyH.cons rfl (fun K hK => ?_) AllReadyH.nil
        go_simp
        refine (HIM.out _ _ wr2 VH.out (HA.out _ (B6.out.trans (LW.out.mono B6.out.size)))).mono ?_
        rintro e wr3 ⟨aC, cC, bC, dC, pC, rfl, hpC, hoC, hb⟩
        obtain ⟨lo, hi, P, O, Z, hlo, hhi⟩ := dk_split hpC hoC
        have LL : Hid (w6.heap.size ≤ lo) := le_at hlo LW.out.size
        have AH : Hid (bh < lo ∨ hi ≤ bh) := Or.inl (lt_at hlo YH.out.lt)
        clear hpC hoC hlo hhi VH
        replace YH := hide_it (YH.out.after hb)
        replace LW : Hid (Below w6.heap.size w6 wr3) := LW.out.trans (hb.mono LW.out.size)
        clear hb
        try dsimp only
        refine hK.out _ _ (KK.out _ LW.out) (fun hHeld => ?_)
        clear hK K
        rotate_left
        go_simp
        obtain ⟨wr1, bh, hX, hB, hb, YH⟩ := alc_new wddh7 #[.bool false, .slice none 0 0, .int .i64 0, .slice none 0 0] 36
        have LBH : Hid (w6.heap.size ≤ bh) := le_at hB LW.out.size
        replace VH := hide_it (VH.out.later hb (Nat.le_refl _))
        replace LW : Hid (Below w6.heap.size w6 wr1) := LW.out.trans (hb.mono LW.out.size)
        clear hb
        rw [← hX.out]
        try dsimp only
        refine hK.out _ _ (KK.out _ LW.out) (fun hHeld => ?_)
        clear hK K
        rw [← hB.out]
        clear hX hB
        refine wpAnyH_ready (rs := [2]) (by kernel_rfl) (by simp) ?_
        refine AllReadyH.cons rfl (fun K hK => ?_) AllReadyH.nil
        go_simp
        refine (toWord_any k h t m wr1).mono ?_
        rintro e wr2 ⟨rfl, hb⟩
        replace YH := hide_it (YH.out.after hb)
        replace VH := hide_it (VH.out.later hb (Nat.le_refl _))
        replace LW : Hid (Below w6.heap.size w6 wr2) := LW.out.trans (hb.mono LW.out.size)
        clear hb
        try dsimp only
        refine hK.out _ _ (KK.out _ LW.out) (fun hHeld => ?_)
        clear hK K
        refine wpAnyH_ready (rs := [3]) (by kernel_rfl) (by simp) ?_
        refine AllReadyH.cons rfl (fun K hK => ?_) AllReadyH.nil
        go_simp
        refine (HIM.out _ _ wr2 VH.out (HA.out _ (B6.out.trans (LW.out.mono B6.out.size)))).mono ?_
        rintro e wr3 ⟨aC, cC, bC, dC, pC, rfl, hpC, hoC, hb⟩
        obtain ⟨lo, hi, P, O, Z, hlo, hhi⟩ := dk_split hpC hoC
        have LL : Hid (w6.heap.size ≤ lo) := le_at hlo LW.out.size
        have AH : Hid (bh < lo ∨ hi ≤ bh) := Or.inl (lt_at hlo YH.out.lt)
        clear hpC hoC hlo hhi VH
        replace YH := hide_it (YH.out.after hb)
        replace LW : Hid (Below w6.heap.size w6 wr3) := LW.out.trans (hb.mono LW.out.size)
        clear hb
        try dsimp only
        refine hK.out _ _ (KK.out _ LW.out) (fun hHeld => ?_)
        clear hK K
        rotate_left
        all_goals
          refine wpAnyH_ready (rs := [5]) (by kernel_rfl) (by simp) ?_
          refine AllReadyH.cons rfl (fun K hK => ?_) AllReadyH.nil
          go_simp
          obtain ⟨c0, c1, c2, c3⟩ := YH.out.cells4
          have cf0 := YH.out.free 0
          have cf1 := YH.out.free 1
          have cf2 := YH.out.free 2
          have cf3 := YH.out.free 3
          go_simp
          obtain ⟨wr4, hX⟩ : ∃ W, Hid (W = ((((wr3.setCell ⟨bh, 0, none⟩ (.bool UP)).setCell ⟨bh, 1, none⟩ (.slice aC RS.length cC)).setCell ⟨bh, 2, none⟩ (.int .i64 F)).setCell ⟨bh, 3, none⟩ (.slice bC WS.length dC))) := ⟨_, rfl⟩
          have KS := kept_set4 YH.out (.bool UP) (.slice aC RS.length cC) (.int .i64 F) (.slice bC WS.length dC)
          have YH2 : Hid (Blk wr4 bh #[.bool UP, .slice aC RS.length cC, .int .i64 F, .slice bC WS.length dC] 36) := by show Blk _ _ _ _; rw [hX.out]; exact KS.2
          replace O : Hid (DkOwn wr4 lo hi (.slice aC RS.length cC) (.slice bC WS.length dC) pC WS) := by show DkOwn _ _ _ _ _ _ _; rw [hX.out]; exact dkown_kept KS.1 O.out
          replace LW : Hid (Below w6.heap.size w6 wr4) := by show Below _ _ _; rw [hX.out]; exact bel_d4 LW.out LBH.out
          rw [← hX.out]
          clear KS hX c0 cf0 c1 cf1 c2 cf2 c3 cf3
          try dsimp only
          refine hK.out _ _ (KK.out _ LW.out) (fun hHeld => ?_)
          clear hK K
          refine wpAnyH_done (by kernel_rfl) ?_ _
          go_wp2_with fail
          go_meet
          case rel => exact ⟨bh, aC, cC, bC, dC, pC, lo, hi, rfl, P, hide_it ⟨LW.out, YH2.out, O.out, LBH.out, AH.out, LL.out⟩⟩
    case rest =>
      obtain ⟨bg, a7, cap7, b7, dap7, ps7, lo7, hi7, rfl, HP7, M7⟩ := hcut
      rename World => w8
      have E8 := hide_it (E6.out.trans (M7.out.be.mono E6.out.size))
      have HH7 := hide_it (show w6.heap.size ≤ bg ∧ w6.heap.size ≤ lo7 ∧ hi7 ≤ w8.heap.size ∧ w6.heap.size ≤ w8.heap.size from ⟨M7.out.hh, M7.out.hl, M7.out.ow.1, M7.out.be.size⟩)
      have AG7 := hide_it M7.out.ah
      have O8 := hide_it M7.out.ow
      have O8x := hide_it (O6.out.below M7.out.be (by have := HS6.out; omega))
      have X8 := hide_it (X6.out.after M7.out.be)
      have G8 := hide_it M7.out.ho
      have R8 := hide_it (O8.out.at' HP7.out)
      have V8 := hide_it (V4.out.later E8.out (Nat.le_refl _))
      have Z8 := hide_it (Z4.out.after E8.out)
      clear M7 KK
      obtain ⟨g0, g1, g2, g3⟩ := G8.out.cells4
      obtain ⟨z0, z1, z2, z3⟩ := Z8.out.cells4
      go_wp2_with fail
      refine (eqDesk_any UP _ _ _ _ RS F WS w8 R8.out V8.out hRl hWl).mono ?_
      rintro e w9 ⟨rfl, hb9⟩
      have L9 := hide_it hb9
      clear hb9 g0 g1 g2 g3 z0 z1 z2 z3
      have HS9 := hide_it L9.out.size
      have E9 := hide_it (E8.out.trans (L9.out.mono E8.out.size))
      have O9 := hide_it (O8.out.below L9.out (by have := HH7.out; omega))
      have O9x := hide_it (O8x.out.below L9.out (by have := HH7.out; have := HS6.out; omega))
      have X9 := hide_it (X8.out.after L9.out)
      have G9 := hide_it (G8.out.after L9.out)
      have T9 := hide_it (T4.out.after E9.out)
      have hz9 : w.heap.size ≤ w9.heap.size := Nat.le_trans hz4 E9.out.size
      have B9 := hide_it (B4.out.trans (E9.out.mono hz4))
      have R9x := hide_it (O9x.out.at' HP5.out)
      obtain ⟨c0, c1, c2, c3⟩ := T9.out.cells4
      obtain ⟨x0, x1, x2, x3⟩ := X9.out.cells4
      go_wp2_with fail
      go_region_held (fun w' => (w'.cell? ⟨w5.heap.size, 0, none⟩ = some (.bool up) ∧ w'.cell? ⟨w5.heap.size, 1, none⟩ = some (.slice a5 rs.length cap5) ∧ w'.cell? ⟨w5.heap.size, 2, none⟩ = some (.int .i64 f) ∧ w'.cell? ⟨w5.heap.size, 3, none⟩ = some (.slice b5 ws.length dap5)) ∧ (w'.cell? ⟨w.heap.size, 0, none⟩ = some (.bool up) ∧ w'.cell? ⟨w.heap.size, 1, none⟩ = some (.slice av rs.length cv) ∧ w'.cell? ⟨w.heap.size, 2, none⟩ = some (.int .i64 f) ∧ w'.cell? ⟨w.heap.size, 3, none⟩ = some (.slice au ws.length cu))) (go_keep)
        (first
        | (go_at_call 6; refine (toDesk_any up _ _ rs f ws _ ?_ hl hlw).mono ?_; exact (HV.out _ B9.out.drew); rintro e w10 ⟨a10, cap10, b10, dap10, ps10, rfl, hp10, ho10, hb10⟩; have hb10' := (Below.refl w9.heap.size w9).drew.trans hb10; have L10 := hide_it hb10'; have y10 := R9x.out.later hb10' (Nat.le_refl _); have v10 := ho10.at' hp10; obtain ⟨x100, x101, x102, x103⟩ := (X9.out.after hb10').cells4; obtain ⟨c100, c101, c102, c103⟩ := (T9.out.after hb10').cells4; clear hb10 hb10' hp10 ho10)
        | (go_at_call 9; refine (eqDesk_any up _ _ _ _ rs f ws _ ?_ ?_ hl hlw).mono ?_; assumption; assumption; rintro e w11 ⟨rfl, hb11⟩; have L11 := hide_it (L10.out.trans (hb11.mono L10.out.size)); obtain ⟨x110, x111, x112, x113⟩ := (X9.out.after L11.out).cells4; obtain ⟨c110, c111, c112, c113⟩ := (T9.out.after L11.out).cells4; clear hb11))
      clear c0 c1 c2 c3 x0 x1 x2 x3
      -- x0 is marked
      have hl5 : ps5.length = rs.length := by have := congrArg List.length HP5.out; simpa using this
      have hl7 : ps7.length = RS.length := by have := congrArg List.length HP7.out; simpa using this
      have HL5 := hide_it hl5
      have HL7 := hide_it hl7
      have SZ := hide_it (show w5.heap.size + 1 = w6.heap.size ∧ w4.heap.size ≤ w5.heap.size ∧ w6.heap.size ≤ bg ∧ w6.heap.size ≤ lo7 ∧ hi7 ≤ w8.heap.size ∧ w8.heap.size ≤ w9.heap.size from ⟨HS6.out.symm, E5.out.size, HH7.out.1, HH7.out.2.1, HH7.out.2.2.1, HS9.out⟩)
      clear hl5 hl7
      have E11 := hide_it (E9.out.trans (L11.out.mono E9.out.size))
      have O11x := hide_it (O9x.out.below L11.out (by have := SZ.out; have := HH7.out; omega))
      have O11 := hide_it (O9.out.below L11.out (by have := SZ.out; omega))
      have G11 := hide_it (G9.out.after L11.out)
      have hmk : Calls Tryz.prog 10 #[deskV up (.slice a5 rs.length cap5) f (.slice b5 ws.length dap5), .int .i64 1] w11 fun e w' => e = .returned (.int .i64 KX) ∧ Mid w4.heap.size w5.heap.size w11 w' := by
        have h := markDesk_any up (.slice a5 rs.length cap5) (.slice b5 ws.length dap5) ps5 f ws 1 w4.heap.size w5.heap.size w11 O11x.out (by rw [HP5.out]; exact hl) hlw (by omega) (by omega)
        rw [HP5.out, hKX.out] at h
        exact h.mono fun e w' h => ⟨h.1, h.2.2⟩
      have HMK := hide_it hmk
      clear hmk
      go_wp2_with fail
      refine HMK.out.mono ?_
      rintro e w12 ⟨rfl, hM12⟩
      have E12 := hide_it (E11.out.trans (hM12.below (Nat.le_refl _) E11.out.size))
      have O12 := hide_it (O11.out.mid hM12 (by have := SZ.out; omega))
      have G12 := hide_it (G11.out.mid hM12 (Or.inr (by have := SZ.out; omega)))
      have Z12 := hide_it (Z4.out.after E12.out)
      have V12 := hide_it (V4.out.later E12.out (Nat.le_refl _))
      have HS12 := hide_it (show w9.heap.size ≤ w12.heap.size from Nat.le_trans L11.out.size hM12.size)
      have R12 := hide_it (O12.out.at' HP7.out)
      clear hM12
      obtain ⟨g0, g1, g2, g3⟩ := G12.out.cells4
      obtain ⟨z0, z1, z2, z3⟩ := Z12.out.cells4
      go_wp2_with fail
      refine (eqDesk_any UP _ _ _ _ RS F WS w12 R12.out V12.out hRl hWl).mono ?_
      rintro e w13 ⟨rfl, hb13⟩
      have E13 := hide_it (E12.out.trans (hb13.mono E12.out.size))
      have O13 := hide_it (O12.out.below hb13 (by have := SZ.out; have := HS12.out; omega))
      have G13 := hide_it (G12.out.after hb13)
      clear hb13 g0 g1 g2 g3 z0 z1 z2 z3
      -- g0 is marked, and held
      have hmk : Calls Tryz.prog 10 #[deskV UP (.slice a7 RS.length cap7) F (.slice b7 WS.length dap7), .int .i64 1] w13 fun e w' => e = .returned (.int .i64 KO) ∧ DkAt w' (.slice a7 RS.length cap7) (.slice b7 WS.length dap7) (markAll RS 1) (markW WS.length (kAt RS 1 RS.length)) ∧ Mid lo7 hi7 w13 w' := by
        have h := markDesk_any UP (.slice a7 RS.length cap7) (.slice b7 WS.length dap7) ps7 F WS 1 lo7 hi7 w13 O13.out (by rw [HP7.out]; exact hRl) hWl (by omega) (by omega)
        rw [HP7.out, HL7.out, hKO.out] at h
        exact h
      have HMK2 := hide_it hmk
      clear hmk
      obtain ⟨g0, g1, g2, g3⟩ := G13.out.cells4
      go_wp2_with fail
      refine HMK2.out.mono ?_
      rintro e w14 ⟨rfl, hR14, hM14⟩
      have E14 := hide_it (E13.out.trans (hM14.below (show w4.heap.size ≤ lo7 by have := SZ.out; omega) E13.out.size))
      have G14 := hide_it (G13.out.mid hM14 AG7.out)
      have R14 := hide_it hR14
      have HLD : Hid (∀ W, DkAt W (.slice a7 RS.length cap7) (.slice b7 WS.length dap7) (markAll RS 1) (markW WS.length (kAt RS 1 RS.length)) → Calls Tryz.prog 11 #[deskV UP (.slice a7 RS.length cap7) F (.slice b7 WS.length dap7), .int .i64 1] W fun e w' => e = .returned (.int .i64 KO) ∧ Below W.heap.size W w') := fun W h => by
        have := heldDesk_any UP (.slice a7 RS.length cap7) (.slice b7 WS.length dap7) RS F WS.length 1 W h hRl hWl (by omega) (by omega)
        rw [hKO.out] at this
        exact this
      clear hM14 hR14 g0 g1 g2 g3
      obtain ⟨g0, g1, g2, g3⟩ := G14.out.cells4
      go_wp2_with fail
      refine (HLD.out w14 R14.out).mono ?_
      rintro e w15 ⟨rfl, hb15⟩
      have E15 := hide_it (E14.out.trans (hb15.mono E14.out.size))
      have N15 := hide_it hb15
      have T15 := hide_it (T4.out.after E15.out)
      have K15 := hide_it (K4.out.after E15.out)
      have B15 := hide_it (B4.out.trans (E15.out.mono hz4))
      clear hb15 g0 g1 g2 g3
      -- once more
      have KK : Hid (∀ W, Below w15.heap.size w15 W → (let w' := W; (w'.cell? ⟨w.heap.size, 0, none⟩ = some (.bool up) ∧ w'.cell? ⟨w.heap.size, 1, none⟩ = some (.slice av rs.length cv) ∧ w'.cell? ⟨w.heap.size, 2, none⟩ = some (.int .i64 f) ∧ w'.cell? ⟨w.heap.size, 3, none⟩ = some (.slice au ws.length cu)) ∧ (w'.cell? ⟨w.heap.size + 1, 0, none⟩ = some (.int .i64 k) ∧ w'.cell? ⟨w.heap.size + 1, 1, none⟩ = some (.int .i64 h) ∧ w'.cell? ⟨w.heap.size + 1, 2, none⟩ = some (.int .i64 t) ∧ w'.cell? ⟨w.heap.size + 1, 3, none⟩ = some (.int .i64 m)))) := fun W hb => ⟨(T15.out.after hb).cells4, (K15.out.after hb).cells4⟩
      go_wp2_with fail
      go_cut [12] (fun p W => ∃ bh a5 c5 b5 d5 ps lo hi, p = .pointer (some ⟨bh, 0, none⟩) ∧ Hid (ps.map (·.1) = RS) ∧ Hid (MetG w15 W bh UP (.slice a5 RS.length c5) F (.slice b5 WS.length d5) ps WS lo hi))
      case first =>
        as_aux_lemma =>
          obtain ⟨wddh24, hwddh24⟩ : ∃ W, Hid (W = w15.drew) := ⟨_, rfl⟩
          have LW : Hid (Below w15.heap.size w15 wddh24) := by show Below _ _ _; rw [hwddh24.out]; exact (Below.refl _ _).drew
          refine wp_region_held_drew (S := fun w' => (w'.cell? ⟨w.heap.size, 0, none⟩ = some (.bool up) ∧ w'.cell? ⟨w.heap.size, 1, none⟩ = some (.slice av rs.length cv) ∧ w'.cell? ⟨w.heap.size, 2, none⟩ = some (.int .i64 f) ∧ w'.cell? ⟨w.heap.size, 3, none⟩ = some (.slice au ws.length cu)) ∧ (w'.cell? ⟨w.heap.size + 1, 0, none⟩ = some (.int .i64 k) ∧ w'.cell? ⟨w.heap.size + 1, 1, none⟩ = some (.int .i64 h) ∧ w'.cell? ⟨w.heap.size + 1, 2, none⟩ = some (.int .i64 t) ∧ w'.cell? ⟨w.heap.size + 1, 3, none⟩ = some (.int .i64 m))) (by kernel_rfl) (KK.out _ (Below.refl _ _).drew) (fun hHeld => ?_)
          rw [← hwddh24.out] at hHeld ⊢
          refine takeD (i := 0) (v := ?_) (some 60) rfl rfl (by kernel_rfl) (by kernel_rfl) (by kernel_rfl) (fun _ _ _ h => h) (by rfl) hHeld ?_ ?_
          rotate_left
          · intro W hSw
            try dsimp only at hSw
            go_simp
            try with_reducible rfl
          try simp only [Act.put]
          try simp only [List.setIfInBounds_toArray]
          try simp only [List.set_cons_succ]
          try simp only [List.set_cons_zero]
          refine takeD (i := 2) (v := ?_) (some 62) rfl rfl (by kernel_rfl) (by kernel_rfl) (by kernel_rfl) (fun _ _ _ h => h) (by rfl) hHeld ?_ ?_
          rotate_left
          · intro W hSw
            try dsimp only at hSw
            go_simp
            try with_reducible rfl
          try simp only [Act.put]
          try simp only [List.setIfInBounds_toArray]
          try simp only [List.set_cons_succ]
          try simp only [List.set_cons_zero]
          refine wpAnyH_ready (rs := [1, 5]) (by kernel_rfl) (by simp) ?_
          refine AllReadyH.cons rfl (fun K hK => ?_) (AllReadyH.cons rfl (fun K hK => ?_) AllReadyH.nil)
          go_simp
          refine (toDesk_any up _ _ rs f ws wddh24 (HV.out _ (B15.out.trans (LW.out.mono B15.out.size))) hl hlw).mono ?_
          rintro e wr1 ⟨aH, cH, bH, dH, pH, rfl, hpH, hoH, hb⟩
          have VH := hide_it (hoH.in_ hpH)
          clear hpH hoH
          replace LW : Hid (Below w15.heap.size w15 wr1) := LW.out.trans (hb.mono LW.out.size)
          clear hb
          try dsimp only
          refine hK.out _ _ (KK.out _ LW.out) (fun hHeld => ?_)
          clear hK K
          refine wpAnyH_ready (rs := [3, 5]) (by kernel_rfl) (by simp) ?_
          refine AllReadyH.cons rfl (fun K hK => ?_) (AllReadyH.cons rfl (fun K hK => ?_) AllReadyH.nil)
          go_simp
          refine (toWord_any k h t m wr1).mono ?_
          rintro e wr2 ⟨rfl, hb⟩
          replace VH := hide_it (VH.out.later hb (Nat.le_refl _))
          replace LW : Hid (Below w15.heap.size w15 wr2) := LW.out.trans (hb.mono LW.out.size)
          clear hb
          try dsimp only
          refine hK.out _ _ (KK.out _ LW.out) (fun hHeld => ?_)
          clear hK K
          refine wpAnyH_ready (rs := [4, 5]) (by kernel_rfl) (by simp) ?_
          refine AllReadyH.cons rfl (fun K hK => ?_) (AllReadyH.cons rfl (fun K hK => ?_) AllReadyH.nil)
          go_simp
          refine (HIM.out _ _ wr2 VH.out (HA.out _ (B15.out.trans (LW.out.mono B15.out.size)))).mono ?_
          rintro e wr3 ⟨aC, cC, bC, dC, pC, rfl, hpC, hoC, hb⟩
          obtain ⟨lo, hi, P, O, Z, hlo, hhi⟩ := dk_split hpC hoC
          have LL : Hid (w15.heap.size ≤ lo) := le_at hlo LW.out.size
          clear hpC hoC hlo hhi VH
          replace LW : Hid (Below w15.heap.size w15 wr3) := LW.out.trans (hb.mono LW.out.size)
          clear hb
          try dsimp only
          refine hK.out _ _ (KK.out _ LW.out) (fun hHeld => ?_)
          clear hK K
          refine wpAnyH_ready (rs := [5]) (by kernel_rfl) (by simp) ?_
          refine AllReadyH.cons rfl (fun K hK => ?_) AllReadyH.nil
          go_simp
          obtain ⟨wr4, bh, hX, hB, hb, YH⟩ := alc_new wr3 #[.bool false, .slice none 0 0, .int .i64 0, .slice none 0 0] 36
          have LBH : Hid (w15.heap.size ≤ bh) := le_at hB LW.out.size
          have AH : Hid (bh < lo ∨ hi ≤ bh) := Or.inr (le_at hB Z.out)
          replace O := hide_it (O.out.below hb Z.out)
          replace Z : Hid (hi ≤ wr4.heap.size) := Nat.le_trans Z.out hb.size
          replace LW : Hid (Below w15.heap.size w15 wr4) := LW.out.trans (hb.mono LW.out.size)
          clear hb
          rw [← hX.out]
          try dsimp only
          refine hK.out _ _ (KK.out _ LW.out) (fun hHeld => ?_)
          clear hK K
          rw [← hB.out]
          clear hX hB
          rotate_left
          go_simp
          obtain ⟨wr3, bh, hX, hB, hb, YH⟩ := alc_new wr2 #[.bool false, .slice none 0 0, .int .i64 0, .slice none 0 0] 36
          have LBH : Hid (w15.heap.size ≤ bh) := le_at hB LW.out.size
          replace VH := hide_it (VH.out.later hb (Nat.le_refl _))
          replace LW : Hid (Below w15.heap.size w15 wr3) := LW.out.trans (hb.mono LW.out.size)
          clear hb
          rw [← hX.out]
          try dsimp only
          refine hK.out _ _ (KK.out _ LW.out) (fun hHeld => ?_)
          clear hK K
          rw [← hB.out]
          clear hX hB
          refine wpAnyH_ready (rs := [4]) (by kernel_rfl) (by simp) ?_
          refine AllReadyH.cons rfl (fun K hK => ?_) AllReadyH.nil
          go_simp
          refine (HIM.out _ _ wr3 VH.out (HA.out _ (B15.out.trans (LW.out.mono B15.out.size)))).mono ?_
          rintro e wr4 ⟨aC, cC, bC, dC, pC, rfl, hpC, hoC, hb⟩
          obtain ⟨lo, hi, P, O, Z, hlo, hhi⟩ := dk_split hpC hoC
          have LL : Hid (w15.heap.size ≤ lo) := le_at hlo LW.out.size
          have AH : Hid (bh < lo ∨ hi ≤ bh) := Or.inl (lt_at hlo YH.out.lt)
          clear hpC hoC hlo hhi VH
          replace YH := hide_it (YH.out.after hb)
          replace LW : Hid (Below w15.heap.size w15 wr4) := LW.out.trans (hb.mono LW.out.size)
          clear hb
          try dsimp only
          refine hK.out _ _ (KK.out _ LW.out) (fun hHeld => ?_)
          clear hK K
          rotate_left
          go_simp
          obtain ⟨wr2, bh, hX, hB, hb, YH⟩ := alc_new wr1 #[.bool false, .slice none 0 0, .int .i64 0, .slice none 0 0] 36
          have LBH : Hid (w15.heap.size ≤ bh) := le_at hB LW.out.size
          replace VH := hide_it (VH.out.later hb (Nat.le_refl _))
          replace LW : Hid (Below w15.heap.size w15 wr2) := LW.out.trans (hb.mono LW.out.size)
          clear hb
          rw [← hX.out]
          try dsimp only
          refine hK.out _ _ (KK.out _ LW.out) (fun hHeld => ?_)
          clear hK K
          rw [← hB.out]
          clear hX hB
          refine wpAnyH_ready (rs := [3]) (by kernel_rfl) (by simp) ?_
          refine AllReadyH.cons rfl (fun K hK => ?_) AllReadyH.nil
          go_simp
          refine (toWord_any k h t m wr2).mono ?_
          rintro e wr3 ⟨rfl, hb⟩
          replace YH := hide_it (YH.out.after hb)
          replace VH := hide_it (VH.out.later hb (Nat.le_refl _))
          replace LW : Hid (Below w15.heap.size w15 wr3) := LW.out.trans (hb.mono LW.out.size)
          clear hb
          try dsimp only
          refine hK.out _ _ (KK.out _ LW.out) (fun hHeld => ?_)
          clear hK K
          refine wpAnyH_ready (rs := [4]) (by kernel_rfl) (by simp) ?_
          refine AllReadyH.cons rfl (fun K hK => ?_) AllReadyH.nil
          go_simp
          refine (HIM.out _ _ wr3 VH.out (HA.out _ (B15.out.trans (LW.out.mono B15.out.size)))).mono ?_
          rintro e wr4 ⟨aC, cC, bC, dC, pC, rfl, hpC, hoC, hb⟩
          obtain ⟨lo, hi, P, O, Z, hlo, hhi⟩ := dk_split hpC hoC
          have LL : Hid (w15.heap.size ≤ lo) := le_at hlo LW.out.size
          have AH : Hid (bh < lo ∨ hi ≤ bh) := Or.inl (lt_at hlo YH.out.lt)
          clear hpC hoC hlo hhi VH
          replace YH := hide_it (YH.out.after hb)
          replace LW : Hid (Below w15.heap.size w15 wr4) := LW.out.trans (hb.mono LW.out.size)
          clear hb
          try dsimp only
          refine hK.out _ _ (KK.out _ LW.out) (fun hHeld => ?_)
          clear hK K
          rotate_left
          go_simp
          obtain ⟨wr1, bh, hX, hB, hb, YH⟩ := alc_new wddh24 #[.bool false, .slice none 0 0, .int .i64 0, .slice none 0 0] 36
          have LBH : Hid (w15.heap.size ≤ bh) := le_at hB LW.out.size
          replace LW : Hid (Below w15.heap.size w15 wr1) := LW.out.trans (hb.mono LW.out.size)
          clear hb
          rw [← hX.out]
          try dsimp only
          refine hK.out _ _ (KK.out _ LW.out) (fun hHeld => ?_)
          clear hK K
          rw [← hB.out]
          clear hX hB
          refine wpAnyH_ready (rs := [1]) (by kernel_rfl) (by simp) ?_
          refine AllReadyH.cons rfl (fun K hK => ?_) AllReadyH.nil
          go_simp
          refine (toDesk_any up _ _ rs f ws wr1 (HV.out _ (B15.out.trans (LW.out.mono B15.out.size))) hl hlw).mono ?_
          rintro e wr2 ⟨aH, cH, bH, dH, pH, rfl, hpH, hoH, hb⟩
          have VH := hide_it (hoH.in_ hpH)
          clear hpH hoH
          replace YH := hide_it (YH.out.after hb)
          replace LW : Hid (Below w15.heap.size w15 wr2) := LW.out.trans (hb.mono LW.out.size)
          clear hb
          try dsimp only
          refine hK.out _ _ (KK.out _ LW.out) (fun hHeld => ?_)
          clear hK K
          refine wpAnyH_ready (rs := [3]) (by kernel_rfl) (by simp) ?_
          refine AllReadyH.cons rfl (fun K hK => ?_) AllReadyH.nil
          go_simp
          refine (toWord_any k h t m wr2).mono ?_
          rintro e wr3 ⟨rfl, hb⟩
          replace YH := hide_it (YH.out.after hb)
          replace VH := hide_it (VH.out.later hb (Nat.le_refl _))
          replace LW : Hid (Below w15.heap.size w15 wr3) := LW.out.trans (hb.mono LW.out.size)
          clear hb
          try dsimp only
          refine hK.out _ _ (KK.out _ LW.out) (fun hHeld => ?_)
          clear hK K
          refine wpAnyH_ready (rs := [4]) (by kernel_rfl) (by simp) ?_
          refine AllReadyH.cons rfl (fun K hK => ?_) AllReadyH.nil
          go_simp
          refine (HIM.out _ _ wr3 VH.out (HA.out _ (B15.out.trans (LW.out.mono B15.out.size)))).mono ?_
          rintro e wr4 ⟨aC, cC, bC, dC, pC, rfl, hpC, hoC, hb⟩
          obtain ⟨lo, hi, P, O, Z, hlo, hhi⟩ := dk_split hpC hoC
          have LL : Hid (w15.heap.size ≤ lo) := le_at hlo LW.out.size
          have AH : Hid (bh < lo ∨ hi ≤ bh) := Or.inl (lt_at hlo YH.out.lt)
          clear hpC hoC hlo hhi VH
          replace YH := hide_it (YH.out.after hb)
          replace LW : Hid (Below w15.heap.size w15 wr4) := LW.out.trans (hb.mono LW.out.size)
          clear hb
          try dsimp only
          refine hK.out _ _ (KK.out _ LW.out) (fun hHeld => ?_)
          clear hK K
          rotate_left
          all_goals
            refine wpAnyH_ready (rs := [6]) (by kernel_rfl) (by simp) ?_
            refine AllReadyH.cons rfl (fun K hK => ?_) AllReadyH.nil
            go_simp
            obtain ⟨c0, c1, c2, c3⟩ := YH.out.cells4
            have cf0 := YH.out.free 0
            have cf1 := YH.out.free 1
            have cf2 := YH.out.free 2
            have cf3 := YH.out.free 3
            go_simp
            obtain ⟨wr5, hX⟩ : ∃ W, Hid (W = ((((wr4.setCell ⟨bh, 0, none⟩ (.bool UP)).setCell ⟨bh, 1, none⟩ (.slice aC RS.length cC)).setCell ⟨bh, 2, none⟩ (.int .i64 F)).setCell ⟨bh, 3, none⟩ (.slice bC WS.length dC))) := ⟨_, rfl⟩
            have KS := kept_set4 YH.out (.bool UP) (.slice aC RS.length cC) (.int .i64 F) (.slice bC WS.length dC)
            have YH2 : Hid (Blk wr5 bh #[.bool UP, .slice aC RS.length cC, .int .i64 F, .slice bC WS.length dC] 36) := by show Blk _ _ _ _; rw [hX.out]; exact KS.2
            replace O : Hid (DkOwn wr5 lo hi (.slice aC RS.length cC) (.slice bC WS.length dC) pC WS) := by show DkOwn _ _ _ _ _ _ _; rw [hX.out]; exact dkown_kept KS.1 O.out
            replace LW : Hid (Below w15.heap.size w15 wr5) := by show Below _ _ _; rw [hX.out]; exact bel_d4 LW.out LBH.out
            rw [← hX.out]
            clear KS hX c0 cf0 c1 cf1 c2 cf2 c3 cf3
            try dsimp only
            refine hK.out _ _ (KK.out _ LW.out) (fun hHeld => ?_)
            clear hK K
            refine wpAnyH_done (by kernel_rfl) ?_ _
            go_wp2_with fail
            go_meet
            case rel => exact ⟨bh, aC, cC, bC, dC, pC, lo, hi, rfl, P, hide_it ⟨LW.out, YH2.out, O.out, LBH.out, AH.out, LL.out⟩⟩
      case rest =>
        obtain ⟨bi, a17, cap17, b17, dap17, ps17, lo17, hi17, rfl, HP17, M17⟩ := hcut
        rename World => w18
        have E18 := hide_it (E15.out.trans (M17.out.be.mono E15.out.size))
        have N18 := hide_it (N15.out.trans (M17.out.be.mono N15.out.size))
        have V18 := hide_it (M17.out.ow.at' HP17.out)
        have Y18 := hide_it (V4.out.later E18.out (Nat.le_refl _))
        have I18 := hide_it M17.out.ho
        have Z18 := hide_it (Z4.out.after E18.out)
        clear M17 KK
        obtain ⟨g0, g1, g2, g3⟩ := I18.out.cells4
        obtain ⟨z0, z1, z2, z3⟩ := Z18.out.cells4
        go_wp2_with fail
        refine (eqDesk_any UP _ _ _ _ RS F WS w18 V18.out Y18.out hRl hWl).mono ?_
        rintro e w19 ⟨rfl, hb19⟩
        have E19 := hide_it (E18.out.trans (hb19.mono E18.out.size))
        have N19 := hide_it (N18.out.trans (hb19.mono N18.out.size))
        clear hb19 g0 g1 g2 g3 z0 z1 z2 z3
        obtain ⟨g0, g1, g2, g3⟩ := (G14.out.after N19.out).cells4
        have R19 := hide_it (R14.out.later N19.out (Nat.le_refl _))
        go_wp2_with fail
        refine (HLD.out w19 R19.out).mono ?_
        rintro e w20 ⟨rfl, hb20⟩
        have B20 := hide_it (B4.out.trans ((E19.out.trans (hb20.mono E19.out.size)).mono hz4))
        clear hb20 g0 g1 g2 g3
        go_wp2
        go_ret
        exact ⟨rfl, B20.out⟩

theorem lawDHear_any (up : Bool) (v u : Value) (rs : List R) (f : Int) (ws : List Wd) (k h t m : Int) (a : Addr) (w : World) (hv : DkAt w v u rs ws) (ha : ErrAt w a) (hm : (rs.length : Int) ≤ 9223372036854775807) (hms : ∀ r ∈ rs, (r.2.2.length : Int) ≤ 9223372036854775807) (hmw : (ws.length : Int) ≤ 9223372036854775807) :
    Calls Tryz.prog 3 #[deskV up v f u, wordV k h t m] w fun e w' => e = .returned (.bool true) ∧ Below w.heap.size w w' := by
  by_cases hl : tot rs + ws.length ≤ 1048576
  · exact lawDHear_small up v u rs f ws k h t m a w hv ha hl
  · exact lawDHear_great up v u rs f ws k h t m w hv hm hms hmw (by omega)

end Go.Proofs.YtgknnigjlnfplaaGreatDoor

namespace Go.Proofs.YtgknnigjlnfplaaGreatDoor
open Go.ChangeShapes Go.WideShapes Go.ChangeAt Go.WideMaps Go.WideElems Go.RowKit Go.Joins

theorem cellsWordO : Tryz.prog.cellsOf 29 = 4 := by kernel_rfl

section
variable {H : Type} {enc : TypeId × Value → H} {W : World}

set_option maxRecDepth 100000 in
/-- A word that came in. -/
theorem open_word {base : Nat} {v : Value} {d : DataW H} {p : List MemPlace} (hval : Value.okWide Tryz.prog W .any base 29 v) (h : DataW.Trod enc Tryz.prog W 0 (fun _ => true) true 29 v d p) :
    ∃ k h t m : Int, v = wordV k h t m := by
  obtain ⟨c0, c1, c2, c3, y0, y1, y2, y3, m, rfl, rfl, rfl, hy0, hy1, hy2, hy3⟩ := open_agg4 Tryz.underlying29 (by kernel_rfl) cellsWordO hval h
  obtain ⟨a0, e0, _, _⟩ := DataW.trod_int Tryz.underlying3 hy0
  obtain ⟨a1, e1, _, _⟩ := DataW.trod_int Tryz.underlying3 hy1
  obtain ⟨a2, e2, _, _⟩ := DataW.trod_int Tryz.underlying3 hy2
  obtain ⟨a3, e3, _, _⟩ := DataW.trod_int Tryz.underlying3 hy3
  simp at e0 e1 e2 e3
  subst e0 e1 e2 e3
  exact ⟨a0, a1, a2, a3, rfl⟩

end
end Go.Proofs.YtgknnigjlnfplaaGreatDoor

namespace Go.Proofs.YtgknnigjlnfplaaGreatDoor
open Go.ChangeShapes Go.WideShapes Go.ChangeAt Go.WideMaps Go.WideElems Go.RowKit Go.Joins

set_option maxRecDepth 100000 in
theorem deskHear_lifted (os : Os) (started : os.Started) (H : Type) (enc : TypeId × Value → H) :
    ReturnsInHanded {} Tryz.checked os 3 .any (fun w args => (Rows.fnExactDeskHearSpec.pre enc Tryz.prog Tryz.f3 [] false w args ∧ laidMetH Tryz.prog laidErr w) ∧ sizedMet enc Tryz.prog Tryz.f3 (OpenSpec.ofChange Rows.fnExactDeskHearSpec) false w args)
      (Rows.fnExactDeskHearSpec.post enc Tryz.prog Tryz.f3 false true false false) := by
  refine returnsInHanded_of_change_and (C := Tryz.checked) (X := fun w _ => laidMetH Tryz.prog laidErr w) (fun _ _ _ hh h => h.of_heap hh) own started (by kernel_rfl) Tryz.func3
    (ChangeSpec.witness_shaped (enc := enc) (C := Tryz.checked) (os := os) (X := fun w _ => laidMetH Tryz.prog laidErr w) false (World.doorLaid Tryz.prog 28 os) #[deskV false (.slice none 0 0) 0 (.slice none 0 0), wordV 0 0 0 0] 8 rfl (World.shaped_of_RefB (by kernel_rfl) (by kernel_rfl)) (by kernel_rfl) (by kernel_rfl) (by kernel_rfl) (door_met os _)) ?_
  intro W base args ds gs before hval0 hW _ _ hL _
  have hval : ∀ (j : Nat) t v, Tryz.f3.params[j]? = some t → args[j]? = some v → Value.okWide Tryz.prog W .any base t v := hval0
  have hW' := hW
  obtain ⟨p, q, hA0, hV0, rfl, hfz, hnd⟩ := hW
  have hA : DataW.TrodAll enc Tryz.prog W 0 (fun _ => true) true Tryz.f3.params.toList args.toList ds p := hA0
  have hV : DataW.TrodVars enc Tryz.prog W (fun _ => true) ["loop.example/concierge/impl.errNoRec"] gs q := hV0
  rw [Tryz.params3] at hA hval
  obtain ⟨v0, v1, d0, d1, p0, p1, rfl, rfl, rfl, h0, h1⟩ := trodAll_two hA
  obtain ⟨a, hErr, hvar⟩ := of_laid hL
  have vr : ∀ {X : World}, X.var? Tryz.prog "loop.example/concierge/impl.errNoRec" = some #[.iface 163 (.pointer (some a))] → ∀ sp : Nat → Bool,
      DataW.TrodVars enc Tryz.prog X sp ["loop.example/concierge/impl.errNoRec"] [tok enc (.iface 163 (.pointer (some a)))] [.cell 0 0] :=
    fun x0 sp => vars_read1 enc gErr gErrType Tryz.underlying120 x0 trivial sp
  obtain ⟨rfl, rfl⟩ := hV.unique (vr hvar _)
  clear hA0 hV0 hval0
  obtain ⟨wk, wh, wt, wm, rfl⟩ := open_word (hval 1 29 v1 rfl rfl) h1
  obtain ⟨up, x, f, y, rs, ws, rfl, hR, hlen, hlens, hlenw⟩ := open_desk (hval 0 27 v0 rfl rfl) h0
  refine (lawDHear_any up x y rs f ws wk wh wt wm a W hR hErr hlen hlens hlenw).mono fun e W' ⟨he, hb⟩ => ?_
  subst he
  have hlt : ∀ x ∈ p0, x.block < W.heap.size := fun x hx => hW'.lt x (by simp [hx])
  have hlt1 : ∀ x ∈ p1, x.block < W.heap.size := fun x hx => hW'.lt x (by simp [hx])
  refine ⟨_, rfl, _, _, _, [], p0 ++ p1, [.cell 0 0], hW', ?_, ?_, ?_, hb.frame _, fun h => by cases h⟩
  · exact trodAll_mk1 (shut_bool Tryz.underlying4 true)
  · exact trodAll_mk2 (Below.trod laidOut (by kernel_rfl) (of_decide_eq_true (by kernel_rfl)) h0 hb hlt) (Below.trod laidOut (by kernel_rfl) (of_decide_eq_true (by kernel_rfl)) h1 hb hlt1)
  · exact vr (var?_below hb gErr (World.block_lt_of_cell? _ _ hErr) hvar) _

theorem deskHear_said : Rows.FnExactDeskHearSaid :=
  OpenClaim.holds_of_wide 3 Tryz.f3 rfl rfl rfl rfl rfl rfl rfl ⟨rfl, rfl, rfl, rfl, rfl⟩ rfl rfl rfl rfl rfl (by kernel_rfl) Tryz.func3 (by kernel_rfl)
    (of_decide_eq_true (by kernel_rfl)) (by unfold Func.isWrapper; first | (rw [if_pos (by decide +kernel)]; kernel_rfl) | (rw [if_neg (by decide +kernel)]; exact ⟨rfl, rfl⟩))
    (fun os started H enc _ => deskHear_lifted os started H enc)

theorem deskHear_plain (f : FuncId) (fn : Func) (hf : Tryz.pinned.checked.prog.funcNamed "loop.example/concierge/laws.FnExactDeskHear" = some f) (hfn : Tryz.pinned.checked.prog.funcs[f]? = some fn) :
    true = Tryz.pinned.checked.prog.looks [] ∧ ∀ (j : Nat) t, fn.params[j]? = some t → Tryz.pinned.checked.prog.wantsStandIn t = false := by
  obtain rfl : f = 3 := Option.some.inj ((show Tryz.prog.funcNamed "loop.example/concierge/laws.FnExactDeskHear" = some 3 by kernel_rfl).symm.trans hf) |>.symm
  obtain rfl : fn = Tryz.f3 := (Option.some.inj (Tryz.func3.symm.trans hfn)).symm
  refine ⟨by kernel_rfl, fun j t ht => ?_⟩
  rw [Tryz.params3] at ht
  have hm := Array.mem_of_getElem? ht
  simp at hm
  rcases hm with rfl | rfl
  · exact (show Tryz.prog.wantsStandIn 27 = false by kernel_rfl)
  · exact (show Tryz.prog.wantsStandIn 29 = false by kernel_rfl)

theorem deskHear_card : Rows.FnExactDeskHearCardSaid :=
  Claim7.holds_tied_plain_at .later [] _ _ _ _ deskHear_said (fun _ h => by cases h) (by kernel_rfl) (fun _ h => by cases h) fnExactDeskHear_row_tie rfl ⟨rfl, rfl⟩ (by kernel_rfl) rfl deskHear_plain (by kernel_rfl)
#print axioms deskHear_card

end Go.Proofs.YtgknnigjlnfplaaGreatDoor
