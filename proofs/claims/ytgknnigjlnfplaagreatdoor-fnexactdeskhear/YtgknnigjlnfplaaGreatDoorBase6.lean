/- What the last text of this claim stands on, part 6: plain facts and contracts; the last text says what is proved. -/
import Derived.Test.YtgknnigjlnfplaaGreatDoorBase5

namespace Go.Proofs.YtgknnigjlnfplaaGreatDoor
open Go.RowKit

theorem Trio.grown {w w' : World} {B : Nat} {v : Value} {f : Int} {r : R} {u : Value} {row : Option Nat} (h : Trio w B v f r u) (hg : w.grownBy w' row) (hr : ∀ k, row = some k → k < B) : Trio w' B v f r u := by
  have hs := h.size
  obtain ⟨h0, h1, h2⟩ := h
  exact ⟨by rw [hg.block B (by omega) (fun e => by have := hr _ e.symm; omega)]; exact h0, by rw [hg.block (B + 1) (by omega) (fun e => by have := hr _ e.symm; omega)]; exact h1, by rw [hg.block (B + 2) hs (fun e => by have := hr _ e.symm; omega)]; exact h2⟩

/-- A store into a log's own block leaves lists of records as they are. -/
theorem Made.setApart {w : World} {lo b j : Nat} {v : Value} {rs : List R} {cur : Array Value} {fz : Nat × Nat} (h : Made w lo v rs) (hh : w.heap[b]? = some (.cells cur 33 fz)) (x : Value) : Made (w.setCell ⟨b, j, Option.none⟩ x) lo v rs := by
  obtain ⟨ps, hp, h1, h2, h3⟩ := h
  have hs : (w.setCell ⟨b, j, Option.none⟩ x).heap.size = w.heap.size := by simp
  refine ⟨ps, hp, ownsRow_setCell_ne h1 (row_apart h1 hh (by decide)) x, by rw [hs]; exact h2, ?_⟩
  rw [hs]
  exact ⟨by rw [hs]; exact h3.1, fun p hp => ⟨ownsRow_setCell_ne (h3.2.1 p hp).1 (row_apart (h3.2.1 p hp).1 hh (by decide)) x, (h3.2.1 p hp).2⟩, h3.2.2⟩

set_option maxRecDepth 100000 in
set_option maxHeartbeats 4000000 in
theorem l1Add_full (v : Value) (n : Nat) (f : Int) (r : R) (u : Value) (w : World) (hv : ∃ ao cap, v = .slice ao n cap) (h40 : 40 ≤ (n : Int)) :
    Calls Tryz.prog 77 #[.agg #[v, .int .i64 f], .agg #[.int .i64 r.1, .int .i64 r.2.1, u]] w fun e w' => e = .returned (.tuple #[.agg #[v, .int .i64 f], .bool false]) ∧ Below w.heap.size w w' := by
  obtain ⟨ao, cap, rfl⟩ := hv
  go_enter Tryz.func77, Tryz.ntmps77
  go_wp2
  refine bodyPost_ret (v := .tuple #[.agg #[.slice ao n cap, .int .i64 f], .bool false]) (by simp [results, Tryz.results77, go_sem]) rfl ⟨rfl, ?_⟩
  exact below3 w _ _ _

theorem Mid.setUp {lo hi : Nat} {w W : World} (h : Mid lo hi w W) {a : Addr} (ha : w.heap.size ≤ a.block) (x : Value) : Mid lo hi w (W.setCell a x) :=
  ⟨h.os, h.tape, h.output, by have := h.size; simpa using this, fun k hk hh => by rw [Below.heap_setCell _ _ _ _ (by omega)]; exact h.block k hk hh⟩

set_option maxRecDepth 100000 in
set_option maxHeartbeats 4000000 in
theorem l1Add_mid (ao : Option Addr) (cap : Nat) (ps : List (R × Value)) (f : Int) (r : R) (au : Option Addr) (cu lo hi : Nat) (w : World) (ho : OwnRecs w lo hi (.slice ao ps.length cap) ps) (hlo : lo ≤ w.heap.size)
    (hu : w.ownsRow lo 3 1 (.slice au r.2.2.length cu) r.2.2.length (r.2.2.map (Value.int .i64))) (hub : ∀ k, (Value.slice au r.2.2.length cu).ownBlock = some k → hi ≤ k) (h40 : (ps.length : Int) < 40) :
    Calls Tryz.prog 77 #[.agg #[.slice ao ps.length cap, .int .i64 f], .agg #[.int .i64 r.1, .int .i64 r.2.1, .slice au r.2.2.length cu]] w fun e w' => ∃ g cap', e = .returned (.tuple #[.agg #[.slice (some ⟨g, 0, none⟩) (ps.length + 1) cap', .int .i64 f], .bool true]) ∧ Made w' lo (.slice (some ⟨g, 0, none⟩) (ps.length + 1) cap') (ps.map (·.1) ++ [r]) ∧ Below lo w w' ∧ Mid lo hi w w' := by
  obtain ⟨i0, hi0, hz0, hz1, hz2⟩ := info_parts infoRec
  have HO := hide_it ho
  have HU := hide_it hu
  have HUB := hide_it hub
  have HT := hide_it (Trio.new w (.slice ao ps.length cap) f r (.slice au r.2.2.length cu))
  have ROW : Hid (∀ o1 o2 o3 o4, ((((w.alloc o1).alloc o2).alloc o3).alloc o4).ownsRow lo 81 3 (.slice ao ps.length cap) ps.length (flat ps)) := fun o1 o2 o3 o4 => (((ho.1.alloc o1).alloc o2).alloc o3).alloc o4
  clear ho hu hub
  go_enter Tryz.func77, Tryz.ntmps77
  go_wp2_with (at_builtin; refine wpList_append_lies _ rfl _ _ 31 rfl lo 81 i0 (.agg #[.int .i64 0, .int .i64 0, .slice none 0 0]) 3 40 Tryz.underlying31 hi0 hz0 hz1 hz2 rfl (by decide) (.slice ao ps.length cap) ps.length (flat ps) rfl (ROW.out _ _ _ _) ⟨w.heap.size + 3, 0, none⟩ 1 1 [.int .i64 r.1, .int .i64 r.2.1, .slice au r.2.2.length cu] rfl rfl ?c1 (one3 _ _ _) (by decide) ?c3 ?c4 ?c5 _ rfl ?_)
  case c1 =>
    have h := news3 (((w.alloc (.cells #[.slice ao ps.length cap, .int .i64 f] 33)).alloc (.cells #[.int .i64 r.1, .int .i64 r.2.1, .slice au r.2.2.length cu] 81)).alloc (.cells #[.slice none 0 0, .int .i64 0] 33)) r.1 r.2.1 (.slice au r.2.2.length cu) 81
    rw [size3] at h
    exact h
  case c3 => unfold maxLen; omega
  case c4 => omega
  case c5 => simp; omega
  · intro g cap' w5 hown5 hgrow5 _ _
    have hhi := HO.out.2.2.1
    have HT4 := hide_it (HT.out.later (alloc_below _ (.cells #[.int .i64 r.1, .int .i64 r.2.1, .slice au r.2.2.length cu] 81)) (by rw [size3]; exact Nat.le_refl _))
    have HT5 := hide_it (HT4.out.grown hgrow5 (fun k hk => by have := HO.out.2.1 k hk; omega))
    have IN4 := hide_it (HO.out.2.2.below (below4 w (.cells #[.slice ao ps.length cap, .int .i64 f] 33) (.cells #[.int .i64 r.1, .int .i64 r.2.1, .slice au r.2.2.length cu] 81) (.cells #[.slice none 0 0, .int .i64 0] 33) (.cells #[.int .i64 r.1, .int .i64 r.2.1, .slice au r.2.2.length cu] 81)) hhi)
    have HU4 := hide_it ((((HU.out.alloc (.cells #[.slice ao ps.length cap, .int .i64 f] 33)).alloc (.cells #[.int .i64 r.1, .int .i64 r.2.1, .slice au r.2.2.length cu] 81)).alloc (.cells #[.slice none 0 0, .int .i64 0] 33)).alloc (.cells #[.int .i64 r.1, .int .i64 r.2.1, .slice au r.2.2.length cu] 81))
    have st := append_step (r := r) (ROW.out _ _ _ _) IN4.out (by simp; omega) HU4.out (fun k hk => ⟨HUB.out k hk, (HU4.out.lt k hk).2⟩) hown5 hgrow5
    have MD : Hid (Made w5 lo (.slice (some ⟨g, 0, none⟩) (ps.length + 1) cap') (ps.map (·.1) ++ [r])) := by
      refine ⟨ps ++ [(r, .slice au r.2.2.length cu)], by simp, ?_, fun k hk => (st.1.lt k hk).2, st.2⟩
      have h := st.1
      exact h
    have LO5 := hide_it (addBelow (ROW.out _ _ _ _) hgrow5 (by simp; omega))
    have BE5 := hide_it (((below4 w _ _ _ _).mono hlo).trans LO5.out)
    have MI5 := hide_it ((Mid.of_below (lo := lo) (hi := hi) (below4 w (.cells #[.slice ao ps.length cap, .int .i64 f] 33) (.cells #[.int .i64 r.1, .int .i64 r.2.1, .slice au r.2.2.length cu] 81) (.cells #[.slice none 0 0, .int .i64 0] 33) (.cells #[.int .i64 r.1, .int .i64 r.2.1, .slice au r.2.2.length cu] 81)) (Nat.le_refl _)).trans (Mid.of_grown hgrow5 (fun k hk => ⟨(HO.out.1.lt k hk).1, HO.out.2.1 k hk⟩)))
    obtain ⟨⟨l0, l1⟩, ⟨q0, q1, q2⟩, ⟨e0, e1, e2, e3⟩⟩ := HT5.out.cells
    have fz := frozen_of_row w5 w.heap.size 0 _ _ HT5.out.1
    have hz5 : w.heap.size + 4 ≤ w5.heap.size := by have := LO5.out.size; simp at this; omega
    clear hown5 hgrow5 st
    go_wp2
    refine bodyPost_ret (v := .tuple #[.agg #[.slice (some ⟨g, 0, none⟩) (ps.length + 1) cap', .int .i64 f], .bool true]) (by simp [results, Tryz.results77, go_sem, e0, e1]) rfl ⟨g, cap', rfl, ?_, ?_, ?_⟩
    · have a1 := MD.out.setApart (j := 0) HT5.out.1 (.slice (some ⟨g, 0, none⟩) (ps.length + 1) cap')
      have h2 : (w5.setCell ⟨w.heap.size, 0, none⟩ (.slice (some ⟨g, 0, none⟩) (ps.length + 1) cap')).heap[w.heap.size + 2]? = some (.cells #[.slice none 0 0, .int .i64 0] 33 (0, 0)) := by
        rw [Below.heap_setCell _ _ _ _ (by simp)]; exact HT5.out.2.2
      have a2 := a1.setApart (j := 0) h2 (.slice (some ⟨g, 0, none⟩) (ps.length + 1) cap')
      exact a2.setApart (j := 1) (heap_setCell_same _ (w.heap.size + 2) 0 _ _ _ h2) (.int .i64 f)
    · exact ((BE5.out.setCell (by simp; omega) _).setCell (by simp; omega) _).setCell (by simp; omega) _
    · exact ((MI5.out.setUp (by simp) _).setUp (by simp; omega) _).setUp (by simp; omega) _

theorem l1Add_room (ao : Option Addr) (cap : Nat) (ps : List (R × Value)) (f : Int) (r : R) (au : Option Addr) (cu lo hi : Nat) (w : World) (ho : OwnRecs w lo hi (.slice ao ps.length cap) ps) (hlo : lo ≤ w.heap.size)
    (hu : w.ownsRow lo 3 1 (.slice au r.2.2.length cu) r.2.2.length (r.2.2.map (Value.int .i64))) (hub : ∀ k, (Value.slice au r.2.2.length cu).ownBlock = some k → hi ≤ k) (h40 : (ps.length : Int) < 40) :
    Calls Tryz.prog 77 #[.agg #[.slice ao ps.length cap, .int .i64 f], .agg #[.int .i64 r.1, .int .i64 r.2.1, .slice au r.2.2.length cu]] w fun e w' => ∃ g cap', e = .returned (.tuple #[.agg #[.slice (some ⟨g, 0, none⟩) (ps.length + 1) cap', .int .i64 f], .bool true]) ∧ Made w' lo (.slice (some ⟨g, 0, none⟩) (ps.length + 1) cap') (ps.map (·.1) ++ [r]) ∧ Below lo w w' :=
  (l1Add_mid ao cap ps f r au cu lo hi w ho hlo hu hub h40).mono fun _ _ ⟨g, cap', h1, h2, h3, _⟩ => ⟨g, cap', h1, h2, h3⟩

end Go.Proofs.YtgknnigjlnfplaaGreatDoor

namespace Go.Proofs.YtgknnigjlnfplaaGreatDoor
open Go.RowKit

/-- A record that is ok is written down. -/
def dkMay (up : Bool) (rs : List R) (r : R) : Bool := up && T.mayL (T.ofO rs) r
theorem run_some {up : Bool} {rs : List R} {f : Int} {ws : List Wd} (h : dkOk up rs f ws = true) : T.runT rs = some (T.ofO rs) := by
  unfold dkOk at h
  simp only [Bool.and_eq_true] at h
  obtain ⟨x, hx⟩ := Option.isSome_iff_exists.1 h.2.1
  unfold T.ofO
  rw [hx]
  rfl
theorem may_eq {up : Bool} {rs : List R} {f : Int} {ws : List Wd} {r : R} (h : dkOk up rs f ws = true) (hr : rOk r = true) : T.tMay (T.ofO rs) r = T.mayL (T.ofO rs) r := by
  unfold T.tMay
  rw [T.runT_ok (run_some h), hr]
  simp
theorem add_eq {up : Bool} {rs : List R} {f : Int} {ws : List Wd} {r : R} (h : dkOk up rs f ws = true) (hr : rOk r = true) : addR rs f r = rs ++ [r] ∧ addF rs f r = f ∧ addB rs f r = true := by
  have h1 := dkOk_log h
  have h2 := T.runT_room (run_some h)
  have hk : addOk rs f r = true := by unfold addOk; rw [h1, hr]; rfl
  refine ⟨?_, ?_, ?_⟩
  · unfold addR; rw [hk, if_pos rfl, if_neg (by omega)]
  · unfold addF; rw [hk, if_pos rfl]
  · unfold addB; rw [hk]; simp; omega

/-- What the clerk's block holds, as a call of one of its methods begins. -/
def ClAt (w : World) (c lo hi : Nat) (up : Bool) (v : Value) (f : Int) (u all forced : Value) (mb : Option Nat) (ps : List (R × Value)) (rs : List R) (ws : List Wd) (ts : List T.R) : Prop :=
  Blk w c #[.bool up, v, .int .i64 f, u, all, forced, .map mb] 54 ∧ ps.map (·.1) = rs ∧ DkOwn w lo hi v u ps ws ∧ T.Made w lo all ts
theorem ClAt.after {w w' : World} {c lo hi : Nat} {up : Bool} {v : Value} {f : Int} {u all forced : Value} {mb : Option Nat} {ps : List (R × Value)} {rs : List R} {ws : List Wd} {ts : List T.R} (h : ClAt w c lo hi up v f u all forced mb ps rs ws ts) (hb : Below w.heap.size w w') : ClAt w' c lo hi up v f u all forced mb ps rs ws ts :=
  ⟨h.1.after hb, h.2.1, h.2.2.1.below hb h.2.2.1.1, h.2.2.2.below hb (Nat.le_refl _)⟩

/-- What comes of a record that the clerk was to write down. -/
def WrOut (w w' : World) (e : Ending) (c lo : Nat) (up : Bool) (f : Int) (u all forced : Value) (mb : Option Nat) (rs : List R) (ws : List Wd) (ts : List T.R) (r : R) : Prop :=
  (dkMay up rs r = false ∧ e = .returned (.bool false) ∧ Below w.heap.size w w') ∨
  (dkMay up rs r = true ∧ e = .returned (.bool true) ∧ Mid c (c + 1) w w' ∧ ∃ a3 c3 ps3, ClAt w' c lo w'.heap.size up (.slice a3 (rs ++ [r]).length c3) f u all forced mb ps3 (rs ++ [r]) ws ts)

theorem T.Made.setB {w : World} {lo b j : Nat} {v : Value} {rs : List T.R} {cur : Array Value} {ty : TypeId} (h : T.Made w lo v rs) (hh : Blk w b cur ty) (h1 : 91 ≠ ty) (h2 : 3 ≠ ty) (x : Value) : T.Made (w.setCell ⟨b, j, Option.none⟩ x) lo v rs := by
  obtain ⟨ps, hp, q1, q2, q3⟩ := h
  have hs : (w.setCell ⟨b, j, Option.none⟩ x).heap.size = w.heap.size := by simp
  refine ⟨ps, hp, ownsRow_setCell_ne q1 (fun g hg => row_apart q1 hh h1 g hg) x, by rw [hs]; exact q2, ?_⟩
  rw [hs]
  exact ⟨by rw [hs]; exact q3.1, fun p hp => ⟨ownsRow_setCell_ne (q3.2.1 p hp).1 (fun g hg => row_apart (q3.2.1 p hp).1 hh h2 g hg) x, (q3.2.1 p hp).2⟩, q3.2.2⟩
theorem DkOwn.newLog' {w w' : World} {lo hi : Nat} {v v' u : Value} {ps ps' : List (R × Value)} {ws : List Wd} (h : DkOwn w lo hi v u ps ws) (hl : lo ≤ w.heap.size) (hm : OwnRecs w' w.heap.size w'.heap.size v' ps') (hb : Below w.heap.size w w') : DkOwn w' lo w'.heap.size v' u ps' ws := h.newLog hl hm hb

set_option maxHeartbeats 16000000 in
set_option maxRecDepth 20000 in
theorem write_any (c lo hi : Nat) (up : Bool) (v : Value) (f : Int) (u all forced : Value) (mb : Option Nat) (ps : List (R × Value)) (rs : List R) (ws : List Wd) (r : R) (x : Value) (a : Addr) (w : World)
    (hc : ClAt w c lo hi up v f u all forced mb ps rs ws (T.ofO rs)) (hlo : lo ≤ c) (hfo : ∃ af nf cf, forced = .slice af nf cf) (hl : tot rs ≤ 1048576) (hx : Ints w x r.2.2) (hrl : r.2.2.length ≤ 1048576) (hok : dkOk up rs f ws = true) (hr : rOk r = true) (ha : ErrAt w a) :
    Calls Tryz.prog 45 #[.pointer (some ⟨c, 0, none⟩), .agg #[.int .i64 r.1, .int .i64 r.2.1, x]] w fun e w' => WrOut w w' e c lo up f u all forced mb rs ws (T.ofO rs) r := by
  have HC : Hid (∀ W, Below w.heap.size w W → ClAt W c lo hi up v f u all forced mb ps rs ws (T.ofO rs)) := fun W h => hc.after h
  have hcl := hc.1.lt
  have HX : Hid (∀ W, Below w.heap.size w W → Ints W x r.2.2) := fun W h => hx.later h (Nat.le_refl _)
  have HA : Hid (∀ W, Below w.heap.size w W → ErrAt W a) := fun W h => ha.later h (Nat.le_refl _)
  obtain ⟨av, cv, au, cu, rfl, rfl⟩ := (hc.2.2.1.at' hc.2.1).shape
  obtain ⟨aa, ca, rfl⟩ := hc.2.2.2.recs.shape
  obtain ⟨af, nf, cf, rfl⟩ := hfo
  obtain ⟨ax, cx, rfl⟩ := hx.shape
  have hfit := T.ofO_fit rs
  have HM : Hid (∀ W, Below w.heap.size w W → Calls Tryz.prog 70 #[.slice aa (T.ofO rs).length ca, .agg #[.int .i64 r.1, .int .i64 r.2.1, .slice ax r.2.2.length cx]] W fun e w' => e = .returned (.bool (T.mayL (T.ofO rs) r)) ∧ Below W.heap.size W w') := fun W h => by
    have := T.implMay_any (.slice aa (T.ofO rs).length ca) (T.ofO rs) r _ a W (HC.out W h).2.2.2.recs hfit.tot (HX.out W h) hrl (HA.out W h)
    rw [may_eq hok hr] at this
    exact this
  have HAD : Hid (∀ W, Below w.heap.size w W → Calls Tryz.prog 71 #[.agg #[.slice av rs.length cv, .int .i64 f], .agg #[.int .i64 r.1, .int .i64 r.2.1, .slice ax r.2.2.length cx]] W fun e w' => LogOut2 W w' e (rs ++ [r]) f true) := fun W h => by
    have := implAdd_any (.slice av rs.length cv) rs f r _ a W ((HC.out W h).2.2.1.at' (HC.out W h).2.1).1 hl (HX.out W h) hrl (HA.out W h)
    rw [(add_eq hok hr).1, (add_eq hok hr).2.1, (add_eq hok hr).2.2] at this
    exact this
  clear hc hx ha hok hr hfit
  obtain ⟨ts, hts⟩ : ∃ q, T.ofO rs = q := ⟨_, rfl⟩
  have HD : Hid (dkMay up rs r = (up && T.mayL ts r)) := by show _ = _; unfold dkMay; rw [hts]
  rw [hts] at HC HM ⊢
  clear hts
  obtain ⟨MM, hMM⟩ : ∃ q, T.mayL ts r = q := ⟨_, rfl⟩
  rw [hMM] at HM HD
  clear hMM
  obtain ⟨w0, hw0⟩ : ∃ W, Hid (W = w.alloc (.cells #[.int .i64 r.1, .int .i64 r.2.1, .slice ax r.2.2.length cx] 81)) := ⟨_, rfl⟩
  have B0 : Hid (Below w.heap.size w w0) := by show Below _ _ _; rw [hw0.out]; exact alloc_below _ _
  have R0 : Hid (Blk w0 w.heap.size #[.int .i64 r.1, .int .i64 r.2.1, .slice ax r.2.2.length cx] 81) := by show Blk _ _ _ _; rw [hw0.out]; exact Blk.new _ _ _
  have C0 := hide_it (HC.out w0 B0.out).1
  obtain ⟨c0, c1, c2, c3, c4, c5, c6⟩ := C0.out.cells7
  obtain ⟨r0, r1, r2⟩ := R0.out.cells3
  cases up
  · go_enter Tryz.func45, Tryz.ntmps45
    go_wp2_with fail
    rw [← hw0.out]
    refine wp_region_held_drew (S := fun w' => (w'.cell? ⟨c, 0, none⟩ = some (.bool false) ∧ w'.cell? ⟨c, 1, none⟩ = some (.slice av rs.length cv) ∧ w'.cell? ⟨c, 2, none⟩ = some (.int .i64 f) ∧ w'.cell? ⟨c, 3, none⟩ = some (.slice au ws.length cu) ∧ w'.cell? ⟨c, 4, none⟩ = some (.slice aa ts.length ca) ∧ w'.cell? ⟨c, 5, none⟩ = some (.slice af nf cf) ∧ w'.cell? ⟨c, 6, none⟩ = some (.map mb)) ∧ (w'.cell? ⟨w.heap.size, 0, none⟩ = some (.int .i64 r.1) ∧ w'.cell? ⟨w.heap.size, 1, none⟩ = some (.int .i64 r.2.1) ∧ w'.cell? ⟨w.heap.size, 2, none⟩ = some (.slice ax r.2.2.length cx))) (by kernel_rfl) ⟨⟨c0, c1, c2, c3, c4, c5, c6⟩, r0, r1, r2⟩ (fun hHeld => ?_)
    clear c0 c1 c2 c3 c4 c5 c6 r0 r1 r2
    refine takeD (i := 0) (v := ?_) (some 5) rfl rfl (by kernel_rfl) (by kernel_rfl) (by kernel_rfl) (fun _ _ _ h => h) (by rfl) hHeld ?_ ?_
    rotate_left
    · intro W hSw
      try dsimp only at hSw
      go_simp
      try with_reducible rfl
    try simp only [Act.put]
    try simp only [List.setIfInBounds_toArray]
    try simp only [List.set_cons_succ]
    try simp only [List.set_cons_zero]
    refine takeD (i := 1) (v := ?_) (some 6) rfl rfl (by kernel_rfl) (by kernel_rfl) (by kernel_rfl) (fun _ _ _ h => h) (by rfl) hHeld ?_ ?_
    rotate_left
    · intro W hSw
      try dsimp only at hSw
      go_simp
      try with_reducible rfl
    try simp only [Act.put]
    try simp only [List.setIfInBounds_toArray]
    try simp only [List.set_cons_succ]
    try simp only [List.set_cons_zero]
    refine takeD (i := 2) (v := ?_) (some 7) rfl rfl (by kernel_rfl) (by kernel_rfl) (by kernel_rfl) (fun _ _ _ h => h) (by rfl) hHeld ?_ ?_
    rotate_left
    · intro W hSw
      try dsimp only at hSw
      go_simp
      try with_reducible rfl
    try simp only [Act.put]
    try simp only [List.setIfInBounds_toArray]
    try simp only [List.set_cons_succ]
    try simp only [List.set_cons_zero]
    refine takeD (i := 3) (v := ?_) (some 8) rfl rfl (by kernel_rfl) (by kernel_rfl) (by kernel_rfl) (fun _ _ _ h => h) (by rfl) hHeld ?_ ?_
    rotate_left
    · intro W hSw
      try dsimp only at hSw
      go_simp
      try with_reducible rfl
    try simp only [Act.put]
    try simp only [List.setIfInBounds_toArray]
    try simp only [List.set_cons_succ]
    try simp only [List.set_cons_zero]
    refine takeD (i := 4) (v := ?_) (some 9) rfl rfl (by kernel_rfl) (by kernel_rfl) (by kernel_rfl) (fun _ _ _ h => h) (by rfl) hHeld ?_ ?_
    rotate_left
    · intro W hSw
      try dsimp only at hSw
      go_simp
      try with_reducible rfl
    try simp only [Act.put]
    try simp only [List.setIfInBounds_toArray]
    try simp only [List.set_cons_succ]
    try simp only [List.set_cons_zero]
    refine takeD (i := 5) (v := .bool true) (some 10) rfl rfl (by kernel_rfl) (by kernel_rfl) (by kernel_rfl) (fun _ _ _ h => h) (by rfl) hHeld ?_ ?_
    · intro W hSw
      try dsimp only at hSw
      first | (go_simp; done) | (go_simp; simp [*]; done) | (go_simp; simp; omega)
    try simp only [Act.put]
    try simp only [List.setIfInBounds_toArray]
    try simp only [List.set_cons_succ]
    try simp only [List.set_cons_zero]
    refine takeD (i := 6) (v := .bool true) (some 11) rfl rfl (by kernel_rfl) (by kernel_rfl) (by kernel_rfl) (fun _ _ _ h => h) (by rfl) hHeld ?_ ?_
    · intro W hSw
      try dsimp only at hSw
      first | (go_simp; done) | (go_simp; simp [*]; done) | (go_simp; simp; omega)
    try simp only [Act.put]
    try simp only [List.setIfInBounds_toArray]
    try simp only [List.set_cons_succ]
    try simp only [List.set_cons_zero]
    refine skipD (i := 7) (some 12) rfl rfl (by kernel_rfl) (by kernel_rfl) (by kernel_rfl) (fun _ _ _ h => h) (by rfl) hHeld ?_
    try simp only [Act.put]
    try simp only [List.setIfInBounds_toArray]
    try simp only [List.set_cons_succ]
    try simp only [List.set_cons_zero]
    refine skipD (i := 8) (some 13) rfl rfl (by kernel_rfl) (by kernel_rfl) (by kernel_rfl) (fun _ _ _ h => h) (by rfl) hHeld ?_
    try simp only [Act.put]
    try simp only [List.setIfInBounds_toArray]
    try simp only [List.set_cons_succ]
    try simp only [List.set_cons_zero]
    refine skipD (i := 9) (some 14) rfl rfl (by kernel_rfl) (by kernel_rfl) (by kernel_rfl) (fun _ _ _ h => h) (by rfl) hHeld ?_
    try simp only [Act.put]
    try simp only [List.setIfInBounds_toArray]
    try simp only [List.set_cons_succ]
    try simp only [List.set_cons_zero]
    refine skipD (i := 10) (some 15) rfl rfl (by kernel_rfl) (by kernel_rfl) (by kernel_rfl) (fun _ _ _ h => h) (by rfl) hHeld ?_
    try simp only [Act.put]
    try simp only [List.setIfInBounds_toArray]
    try simp only [List.set_cons_succ]
    try simp only [List.set_cons_zero]
    refine skipD (i := 11) (some 16) rfl rfl (by kernel_rfl) (by kernel_rfl) (by kernel_rfl) (fun _ _ _ h => h) (by rfl) hHeld ?_
    try simp only [Act.put]
    try simp only [List.setIfInBounds_toArray]
    try simp only [List.set_cons_succ]
    try simp only [List.set_cons_zero]
    refine skipD (i := 12) (some 17) rfl rfl (by kernel_rfl) (by kernel_rfl) (by kernel_rfl) (fun _ _ _ h => h) (by rfl) hHeld ?_
    try simp only [Act.put]
    try simp only [List.setIfInBounds_toArray]
    try simp only [List.set_cons_succ]
    try simp only [List.set_cons_zero]
    refine skipD (i := 13) (some 18) rfl rfl (by kernel_rfl) (by kernel_rfl) (by kernel_rfl) (fun _ _ _ h => h) (by rfl) hHeld ?_
    try simp only [Act.put]
    try simp only [List.setIfInBounds_toArray]
    try simp only [List.set_cons_succ]
    try simp only [List.set_cons_zero]
    refine takeD (i := 14) (v := .bool true) (some 19) rfl rfl (by kernel_rfl) (by kernel_rfl) (by kernel_rfl) (fun _ _ _ h => h) (by rfl) hHeld ?_ ?_
    · intro W hSw
      try dsimp only at hSw
      first | (go_simp; done) | (go_simp; simp [*]; done) | (go_simp; simp; omega)
    try simp only [Act.put]
    try simp only [List.setIfInBounds_toArray]
    try simp only [List.set_cons_succ]
    try simp only [List.set_cons_zero]
    refine wpAnyH_done (by kernel_rfl) ?_ _
    go_wp2
    go_ret
    exact Or.inl ⟨by rw [HD.out]; rfl, rfl, B0.out.drew⟩
  go_enter Tryz.func45, Tryz.ntmps45
  go_wp2_with fail
  rw [← hw0.out]
  refine wp_region_held_drew (S := fun w' => (w'.cell? ⟨c, 0, none⟩ = some (.bool true) ∧ w'.cell? ⟨c, 1, none⟩ = some (.slice av rs.length cv) ∧ w'.cell? ⟨c, 2, none⟩ = some (.int .i64 f) ∧ w'.cell? ⟨c, 3, none⟩ = some (.slice au ws.length cu) ∧ w'.cell? ⟨c, 4, none⟩ = some (.slice aa ts.length ca) ∧ w'.cell? ⟨c, 5, none⟩ = some (.slice af nf cf) ∧ w'.cell? ⟨c, 6, none⟩ = some (.map mb)) ∧ (w'.cell? ⟨w.heap.size, 0, none⟩ = some (.int .i64 r.1) ∧ w'.cell? ⟨w.heap.size, 1, none⟩ = some (.int .i64 r.2.1) ∧ w'.cell? ⟨w.heap.size, 2, none⟩ = some (.slice ax r.2.2.length cx))) (by kernel_rfl) ⟨⟨c0, c1, c2, c3, c4, c5, c6⟩, r0, r1, r2⟩ (fun hHeld => ?_)
  clear c0 c1 c2 c3 c4 c5 c6 r0 r1 r2
  refine takeD (i := 0) (v := ?_) (some 5) rfl rfl (by kernel_rfl) (by kernel_rfl) (by kernel_rfl) (fun _ _ _ h => h) (by rfl) hHeld ?_ ?_
  rotate_left
  · intro W hSw
    try dsimp only at hSw
    go_simp
    try with_reducible rfl
  try simp only [Act.put]
  try simp only [List.setIfInBounds_toArray]
  try simp only [List.set_cons_succ]
  try simp only [List.set_cons_zero]
  refine takeD (i := 1) (v := ?_) (some 6) rfl rfl (by kernel_rfl) (by kernel_rfl) (by kernel_rfl) (fun _ _ _ h => h) (by rfl) hHeld ?_ ?_
  rotate_left
  · intro W hSw
    try dsimp only at hSw
    go_simp
    try with_reducible rfl
  try simp only [Act.put]
  try simp only [List.setIfInBounds_toArray]
  try simp only [List.set_cons_succ]
  try simp only [List.set_cons_zero]
  refine takeD (i := 2) (v := ?_) (some 7) rfl rfl (by kernel_rfl) (by kernel_rfl) (by kernel_rfl) (fun _ _ _ h => h) (by rfl) hHeld ?_ ?_
  rotate_left
  · intro W hSw
    try dsimp only at hSw
    go_simp
    try with_reducible rfl
  try simp only [Act.put]
  try simp only [List.setIfInBounds_toArray]
  try simp only [List.set_cons_succ]
  try simp only [List.set_cons_zero]
  refine takeD (i := 3) (v := ?_) (some 8) rfl rfl (by kernel_rfl) (by kernel_rfl) (by kernel_rfl) (fun _ _ _ h => h) (by rfl) hHeld ?_ ?_
  rotate_left
  · intro W hSw
    try dsimp only at hSw
    go_simp
    try with_reducible rfl
  try simp only [Act.put]
  try simp only [List.setIfInBounds_toArray]
  try simp only [List.set_cons_succ]
  try simp only [List.set_cons_zero]
  refine takeD (i := 4) (v := ?_) (some 9) rfl rfl (by kernel_rfl) (by kernel_rfl) (by kernel_rfl) (fun _ _ _ h => h) (by rfl) hHeld ?_ ?_
  rotate_left
  · intro W hSw
    try dsimp only at hSw
    go_simp
    try with_reducible rfl
  try simp only [Act.put]
  try simp only [List.setIfInBounds_toArray]
  try simp only [List.set_cons_succ]
  try simp only [List.set_cons_zero]
  refine takeD (i := 5) (v := .bool false) (some 10) rfl rfl (by kernel_rfl) (by kernel_rfl) (by kernel_rfl) (fun _ _ _ h => h) (by rfl) hHeld ?_ ?_
  · intro W hSw
    try dsimp only at hSw
    first | (go_simp; done) | (go_simp; simp [*]; done) | (go_simp; simp; omega)
  try simp only [Act.put]
  try simp only [List.setIfInBounds_toArray]
  try simp only [List.set_cons_succ]
  try simp only [List.set_cons_zero]
  refine takeD (i := 6) (v := .bool false) (some 11) rfl rfl (by kernel_rfl) (by kernel_rfl) (by kernel_rfl) (fun _ _ _ h => h) (by rfl) hHeld ?_ ?_
  · intro W hSw
    try dsimp only at hSw
    first | (go_simp; done) | (go_simp; simp [*]; done) | (go_simp; simp; omega)
  try simp only [Act.put]
  try simp only [List.setIfInBounds_toArray]
  try simp only [List.set_cons_succ]
  try simp only [List.set_cons_zero]
  refine takeD (i := 7) (v := ?_) (some 12) rfl rfl (by kernel_rfl) (by kernel_rfl) (by kernel_rfl) (fun _ _ _ h => h) (by rfl) hHeld ?_ ?_
  rotate_left
  · intro W hSw
    try dsimp only at hSw
    go_simp
    try with_reducible rfl
  try simp only [Act.put]
  try simp only [List.setIfInBounds_toArray]
  try simp only [List.set_cons_succ]
  try simp only [List.set_cons_zero]
  refine takeD (i := 8) (v := ?_) (some 13) rfl rfl (by kernel_rfl) (by kernel_rfl) (by kernel_rfl) (fun _ _ _ h => h) (by rfl) hHeld ?_ ?_
  rotate_left
  · intro W hSw
    try dsimp only at hSw
    go_simp
    try with_reducible rfl
  try simp only [Act.put]
  try simp only [List.setIfInBounds_toArray]
  try simp only [List.set_cons_succ]
  try simp only [List.set_cons_zero]
  refine takeD (i := 9) (v := ?_) (some 14) rfl rfl (by kernel_rfl) (by kernel_rfl) (by kernel_rfl) (fun _ _ _ h => h) (by rfl) hHeld ?_ ?_
  rotate_left
  · intro W hSw
    try dsimp only at hSw
    go_simp
    try with_reducible rfl
  try simp only [Act.put]
  try simp only [List.setIfInBounds_toArray]
  try simp only [List.set_cons_succ]
  try simp only [List.set_cons_zero]
  refine takeD (i := 10) (v := ?_) (some 15) rfl rfl (by kernel_rfl) (by kernel_rfl) (by kernel_rfl) (fun _ _ _ h => h) (by rfl) hHeld ?_ ?_
  rotate_left
  · intro W hSw
    try dsimp only at hSw
    go_simp
    try with_reducible rfl
  try simp only [Act.put]
  try simp only [List.setIfInBounds_toArray]
  try simp only [List.set_cons_succ]
  try simp only [List.set_cons_zero]
  refine takeD (i := 11) (v := ?_) (some 16) rfl rfl (by kernel_rfl) (by kernel_rfl) (by kernel_rfl) (fun _ _ _ h => h) (by rfl) hHeld ?_ ?_
  rotate_left
  · intro W hSw
    try dsimp only at hSw
    go_simp
    try with_reducible rfl
  try simp only [Act.put]
  try simp only [List.setIfInBounds_toArray]
  try simp only [List.set_cons_succ]
  try simp only [List.set_cons_zero]
  refine wpAnyH_ready (rs := [12]) (by kernel_rfl) (by simp) ?_
  refine AllReadyH.cons rfl (fun K hK => ?_) AllReadyH.nil
  go_simp
  refine (HM.out _ B0.out.drew).mono ?_
  rintro e w1 ⟨rfl, hb1⟩
  have L1 := hide_it ((Below.refl w0.heap.size w0).drew.trans hb1)
  have B1 := hide_it (B0.out.trans (L1.out.mono B0.out.size))
  have C1 := hide_it (HC.out w1 B1.out).1
  have R1 := hide_it (R0.out.after L1.out)
  clear hb1
  try dsimp only
  refine hK.out _ _ ⟨C1.out.cells7, R1.out.cells3⟩ (fun hHeld => ?_)
  clear hK K
  cases MM
  · refine takeD (i := 13) (v := .bool true) (some 18) rfl rfl (by kernel_rfl) (by kernel_rfl) (by kernel_rfl) (fun _ _ _ h => h) (by rfl) hHeld ?_ ?_
    · intro W hSw
      try dsimp only at hSw
      first | (go_simp; done) | (go_simp; simp [*]; done) | (go_simp; simp; omega)
    try simp only [Act.put]
    try simp only [List.setIfInBounds_toArray]
    try simp only [List.set_cons_succ]
    try simp only [List.set_cons_zero]
    refine takeD (i := 14) (v := .bool true) (some 19) rfl rfl (by kernel_rfl) (by kernel_rfl) (by kernel_rfl) (fun _ _ _ h => h) (by rfl) hHeld ?_ ?_
    · intro W hSw
      try dsimp only at hSw
      first | (go_simp; done) | (go_simp; simp [*]; done) | (go_simp; simp; omega)
    try simp only [Act.put]
    try simp only [List.setIfInBounds_toArray]
    try simp only [List.set_cons_succ]
    try simp only [List.set_cons_zero]
    refine wpAnyH_done (by kernel_rfl) ?_ _
    go_wp2
    go_ret
    exact Or.inl ⟨by rw [HD.out]; rfl, rfl, B1.out⟩
  · refine takeD (i := 13) (v := .bool false) (some 18) rfl rfl (by kernel_rfl) (by kernel_rfl) (by kernel_rfl) (fun _ _ _ h => h) (by rfl) hHeld ?_ ?_
    · intro W hSw
      try dsimp only at hSw
      first | (go_simp; done) | (go_simp; simp [*]; done) | (go_simp; simp; omega)
    try simp only [Act.put]
    try simp only [List.setIfInBounds_toArray]
    try simp only [List.set_cons_succ]
    try simp only [List.set_cons_zero]
    refine takeD (i := 14) (v := .bool false) (some 19) rfl rfl (by kernel_rfl) (by kernel_rfl) (by kernel_rfl) (fun _ _ _ h => h) (by rfl) hHeld ?_ ?_
    · intro W hSw
      try dsimp only at hSw
      first | (go_simp; done) | (go_simp; simp [*]; done) | (go_simp; simp; omega)
    try simp only [Act.put]
    try simp only [List.setIfInBounds_toArray]
    try simp only [List.set_cons_succ]
    try simp only [List.set_cons_zero]
    refine wpAnyH_done (by kernel_rfl) ?_ _
    go_wp2
    obtain ⟨c0, c1, c2, c3, c4, c5, c6⟩ := C1.out.cells7
    obtain ⟨r0, r1, r2⟩ := R1.out.cells3
    refine wp_region_held_drew (S := fun w' => (w'.cell? ⟨c, 0, none⟩ = some (.bool true) ∧ w'.cell? ⟨c, 3, none⟩ = some (.slice au ws.length cu) ∧ w'.cell? ⟨c, 4, none⟩ = some (.slice aa ts.length ca) ∧ w'.cell? ⟨c, 5, none⟩ = some (.slice af nf cf) ∧ w'.cell? ⟨c, 6, none⟩ = some (.map mb)) ∧ (w'.cell? ⟨w.heap.size, 0, none⟩ = some (.int .i64 r.1) ∧ w'.cell? ⟨w.heap.size, 1, none⟩ = some (.int .i64 r.2.1) ∧ w'.cell? ⟨w.heap.size, 2, none⟩ = some (.slice ax r.2.2.length cx))) (by kernel_rfl) ⟨⟨c0, c3, c4, c5, c6⟩, r0, r1, r2⟩ (fun hHeld => ?_)
    clear c0 c3 c4 c5 c6 r0 r1 r2
    have d1 : w1.drew.cell? ⟨c, 1, none⟩ = some (.slice av rs.length cv) := c1
    have d2 : w1.drew.cell? ⟨c, 2, none⟩ = some (.int .i64 f) := c2
    refine takeD (i := 0) (v := ?_) (some 21) rfl rfl (by kernel_rfl) (by kernel_rfl) (by kernel_rfl) (fun _ _ _ h => h) (by rfl) hHeld ?_ ?_
    rotate_left
    · intro W hSw
      try dsimp only at hSw
      go_simp
      try with_reducible rfl
    try simp only [Act.put]
    try simp only [List.setIfInBounds_toArray]
    try simp only [List.set_cons_succ]
    try simp only [List.set_cons_zero]
    refine takeD (i := 1) (v := ?_) (some 22) rfl rfl (by kernel_rfl) (by kernel_rfl) (by kernel_rfl) (fun _ _ _ h => h) (by rfl) hHeld ?_ ?_
    rotate_left
    · intro W hSw
      try dsimp only at hSw
      go_simp
      try with_reducible rfl
    try simp only [Act.put]
    try simp only [List.setIfInBounds_toArray]
    try simp only [List.set_cons_succ]
    try simp only [List.set_cons_zero]
    refine takeD (i := 2) (v := ?_) (some 23) rfl rfl (by kernel_rfl) (by kernel_rfl) (by kernel_rfl) (fun _ _ _ h => h) (by rfl) hHeld ?_ ?_
    rotate_left
    · intro W hSw
      try dsimp only at hSw
      go_simp
      try with_reducible rfl
    try simp only [Act.put]
    try simp only [List.setIfInBounds_toArray]
    try simp only [List.set_cons_succ]
    try simp only [List.set_cons_zero]
    refine takeD (i := 3) (v := ?_) (some 24) rfl rfl (by kernel_rfl) (by kernel_rfl) (by kernel_rfl) (fun _ _ _ h => h) (by rfl) hHeld ?_ ?_
    rotate_left
    · intro W hSw
      try dsimp only at hSw
      go_simp
      try with_reducible rfl
    try simp only [Act.put]
    try simp only [List.setIfInBounds_toArray]
    try simp only [List.set_cons_succ]
    try simp only [List.set_cons_zero]
    refine takeD (i := 4) (v := ?_) (some 25) rfl rfl (by kernel_rfl) (by kernel_rfl) (by kernel_rfl) (fun _ _ _ h => h) (by rfl) hHeld ?_ ?_
    rotate_left
    · intro W hSw
      try dsimp only at hSw
      go_simp
      try with_reducible rfl
    try simp only [Act.put]
    try simp only [List.setIfInBounds_toArray]
    try simp only [List.set_cons_succ]
    try simp only [List.set_cons_zero]
    refine takeD (i := 6) (v := ?_) (some 27) rfl rfl (by kernel_rfl) (by kernel_rfl) (by kernel_rfl) (fun _ _ _ h => h) (by rfl) hHeld ?_ ?_
    rotate_left
    · intro W hSw
      try dsimp only at hSw
      go_simp
      try with_reducible rfl
    try simp only [Act.put]
    try simp only [List.setIfInBounds_toArray]
    try simp only [List.set_cons_succ]
    try simp only [List.set_cons_zero]
    refine wpAnyH_ready (rs := [5]) (by kernel_rfl) (by simp) ?_
    refine AllReadyH.cons rfl (fun K hK => ?_) AllReadyH.nil
    go_simp
    refine hK.out _ _ hHeld (fun hHeld => ?_)
    clear hK K c1 c2 d1 d2
    refine wpAnyH_ready (rs := [7]) (by kernel_rfl) (by simp) ?_
    refine AllReadyH.cons rfl (fun K hK => ?_) AllReadyH.nil
    go_simp
    refine (HAD.out _ B1.out.drew).mono ?_
    rintro e w2 ⟨a3, c3, rfl, hm2, hb2⟩
    have L2 := hide_it ((Below.refl w1.heap.size w1).drew.trans hb2)
    have B2 := hide_it (B1.out.trans (L2.out.mono B1.out.size))
    have C2 := hide_it (HC.out w2 B2.out).1
    have T2 := hide_it (HC.out w2 B2.out).2.2.2
    have R2 := hide_it (R1.out.after L2.out)
    have O1 := hide_it (HC.out w1 B1.out)
    obtain ⟨ps3, hp3, ho3⟩ := hm2
    have P3 := hide_it hp3
    have O2 : Hid (DkOwn w2 lo w2.heap.size (.slice a3 (rs ++ [r]).length c3) (.slice au ws.length cu) ps3 ws) := O1.out.2.2.1.newLog (by have := C1.out.lt; omega) (by simpa using ho3) L2.out
    obtain ⟨NN, hNN⟩ : ∃ q, Hid ((rs ++ [r]).length = q) := ⟨_, rfl⟩
    rw [hNN.out] at O2 ⊢
    clear hb2 hp3 ho3
    try dsimp only
    obtain ⟨y0, y1, y2, y3, y4, y5, y6⟩ := C2.out.cells7
    refine hK.out _ _ ⟨⟨y0, y3, y4, y5, y6⟩, R2.out.cells3⟩ (fun hHeld => ?_)
    clear hK K
    refine takeD (i := 8) (v := ?_) (some 20) rfl rfl (by kernel_rfl) (by kernel_rfl) (by kernel_rfl) (fun _ _ _ h => h) (by rfl) hHeld ?_ ?_
    rotate_left
    · intro W hSw
      try dsimp only at hSw
      go_simp
      try with_reducible rfl
    try simp only [Act.put]
    try simp only [List.setIfInBounds_toArray]
    try simp only [List.set_cons_succ]
    try simp only [List.set_cons_zero]
    refine takeD (i := 9) (v := ?_) (some 29) rfl rfl (by kernel_rfl) (by kernel_rfl) (by kernel_rfl) (fun _ _ _ h => h) (by rfl) hHeld ?_ ?_
    rotate_left
    · intro W hSw
      try dsimp only at hSw
      go_simp
      try with_reducible rfl
    try simp only [Act.put]
    try simp only [List.setIfInBounds_toArray]
    try simp only [List.set_cons_succ]
    try simp only [List.set_cons_zero]
    refine takeD (i := 10) (v := ?_) (some 30) rfl rfl (by kernel_rfl) (by kernel_rfl) (by kernel_rfl) (fun _ _ _ h => h) (by rfl) hHeld ?_ ?_
    rotate_left
    · intro W hSw
      try dsimp only at hSw
      go_simp
      try with_reducible rfl
    try simp only [Act.put]
    try simp only [List.setIfInBounds_toArray]
    try simp only [List.set_cons_succ]
    try simp only [List.set_cons_zero]
    refine takeD (i := 11) (v := ?_) (some 31) rfl rfl (by kernel_rfl) (by kernel_rfl) (by kernel_rfl) (fun _ _ _ h => h) (by rfl) hHeld ?_ ?_
    rotate_left
    · intro W hSw
      try dsimp only at hSw
      go_simp
      try with_reducible rfl
    try simp only [Act.put]
    try simp only [List.setIfInBounds_toArray]
    try simp only [List.set_cons_succ]
    try simp only [List.set_cons_zero]
    refine takeD (i := 12) (v := ?_) (some 32) rfl rfl (by kernel_rfl) (by kernel_rfl) (by kernel_rfl) (fun _ _ _ h => h) (by rfl) hHeld ?_ ?_
    rotate_left
    · intro W hSw
      try dsimp only at hSw
      go_simp
      try with_reducible rfl
    try simp only [Act.put]
    try simp only [List.setIfInBounds_toArray]
    try simp only [List.set_cons_succ]
    try simp only [List.set_cons_zero]
    refine takeD (i := 13) (v := ?_) (some 33) rfl rfl (by kernel_rfl) (by kernel_rfl) (by kernel_rfl) (fun _ _ _ h => h) (by rfl) hHeld ?_ ?_
    rotate_left
    · intro W hSw
      try dsimp only at hSw
      go_simp
      try with_reducible rfl
    try simp only [Act.put]
    try simp only [List.setIfInBounds_toArray]
    try simp only [List.set_cons_succ]
    try simp only [List.set_cons_zero]
    obtain ⟨yf0, yf1, yf2, yf3, yf4, yf5, yf6⟩ := C2.out.free7
    refine wpAnyH_ready (rs := [14]) (by kernel_rfl) (by simp) ?_
    refine AllReadyH.cons rfl (fun K hK => ?_) AllReadyH.nil
    go_simp
    have C3 := hide_it ((C2.out.set_ 1 (.slice a3 NN c3)).set_ 2 (.int .i64 f))
    have R3 := hide_it ((R2.out.other (a := ⟨c, 1, none⟩) (by simp; omega) (.slice a3 NN c3)).other (a := ⟨c, 2, none⟩) (by simp; omega) (.int .i64 f))
    have O3 := hide_it ((O2.out.setB (j := 1) C2.out (by decide) (by decide) (by decide) (.slice a3 NN c3)).setB (j := 2) (C2.out.set_ 1 _) (by decide) (by decide) (by decide) (.int .i64 f))
    have T3 : Hid (T.Made ((w2.setCell ⟨c, 1, none⟩ (.slice a3 NN c3)).setCell ⟨c, 2, none⟩ (.int .i64 f)) lo (.slice aa ts.length ca) ts) := (T2.out.setB (j := 1) C2.out (by decide) (by decide) (.slice a3 NN c3)).setB (j := 2) (C2.out.set_ 1 _) (by decide) (by decide) (.int .i64 f)
    have M3 : Hid (Mid c (c + 1) w ((w2.setCell ⟨c, 1, none⟩ (.slice a3 NN c3)).setCell ⟨c, 2, none⟩ (.int .i64 f))) := ((Mid.of_below B2.out (Nat.le_refl _)).trans (Mid.one _)).trans (Mid.one _)
    obtain ⟨w3, hw3⟩ : ∃ W, Hid (W = (w2.setCell ⟨c, 1, none⟩ (.slice a3 NN c3)).setCell ⟨c, 2, none⟩ (.int .i64 f)) := ⟨_, rfl⟩
    rw [← hw3.out] at C3 R3 O3 T3 M3 ⊢
    have hs3 : w3.heap.size = w2.heap.size := by rw [hw3.out]; simp
    obtain ⟨x0, x1, x2, x3, x4, x5, x6⟩ := C3.out.cells7
    refine hK.out _ _ ⟨⟨x0, x3, x4, x5, x6⟩, R3.out.cells3⟩ (fun hHeld => ?_)
    refine wpAnyH_done (by kernel_rfl) ?_ _
    clear x0 x1 x2 x3 x4 x5 x6 y0 y1 y2 y3 y4 y5 y6 yf0 yf1 yf2 yf3 yf4 yf5 yf6 hK K
    go_wp2
    go_ret
    refine Or.inr ⟨by rw [HD.out]; rfl, rfl, M3.out, a3, c3, ps3, ?_⟩
    rw [hNN.out]
    exact ⟨C3.out, P3.out, by rw [hs3]; exact O3.out, T3.out⟩

end Go.Proofs.YtgknnigjlnfplaaGreatDoor

namespace Go.Proofs.YtgknnigjlnfplaaGreatDoor
open Go.RowKit

/-- The houses of which a trip wants any, up to a place. -/
def wantsK (zs : List Int) (n : Nat) : List Int := ((List.range n).filter fun i => decide (0 < zs.getD i 0)).map fun i => ((i : Nat) : Int) + 1
def wants (zs : List Int) : List Int := wantsK zs zs.length
theorem wantsK_zero (zs : List Int) : wantsK zs 0 = [] := rfl
theorem wantsK_yes {zs : List Int} {n : Nat} (h : 0 < zs.getD n 0) : wantsK zs (n + 1) = wantsK zs n ++ [((n : Nat) : Int) + 1] := by
  unfold wantsK
  rw [List.range_succ, List.filter_append, List.map_append, List.filter_cons_of_pos (p := fun i => decide (0 < zs.getD i 0)) (decide_eq_true h)]
  rfl
theorem wantsK_no {zs : List Int} {n : Nat} (h : ¬ 0 < zs.getD n 0) : wantsK zs (n + 1) = wantsK zs n := by
  unfold wantsK
  rw [List.range_succ, List.filter_append, List.map_append, List.filter_cons_of_neg (p := fun i => decide (0 < zs.getD i 0)) (by simpa using h)]
  simp
theorem wantsK_len (zs : List Int) (n : Nat) : (wantsK zs n).length ≤ n := by
  unfold wantsK
  rw [List.length_map]
  exact Nat.le_trans (List.length_filter_le _ _) (by simp)
theorem wantsK_mem {zs : List Int} {n : Nat} {h : Int} : h ∈ wantsK zs n ↔ ∃ i : Nat, i < n ∧ 0 < zs.getD i 0 ∧ h = (i : Int) + 1 := by
  unfold wantsK
  simp only [List.mem_map, List.mem_filter, List.mem_range, decide_eq_true_eq]
  constructor
  · rintro ⟨i, ⟨h1, h2⟩, h3⟩; exact ⟨i, h1, h2, h3.symm⟩
  · rintro ⟨i, h1, h2, h3⟩; exact ⟨i, ⟨h1, h2⟩, h3.symm⟩

/-- Whether all, or any, of the houses that a trip wants said so. -/
def allT (ws : List Wd) (k t : Int) (zs : List Int) : Bool := (wants zs).all fun h => told ws k h t
def anyT (ws : List Wd) (k t : Int) (zs : List Int) : Bool := (wants zs).any fun h => told ws k h t
/-- The record by which a trip goes on; 0, if none. -/
def decK (ws : List Wd) (t : Int) (tr : T.R) (sure : Bool) : Int :=
  if tr.2 = 1 then (if anyT ws 5 t tr.1 = true then 6 else if allT ws 4 t tr.1 = true then 5 else 0)
  else if tr.2 = 2 then (if (sure && allT ws 6 t tr.1) = true then 7 else 0)
  else if tr.2 = 3 then (if (sure && allT ws 7 t tr.1) = true then 7 else 0) else 0
def sureT (rs : List R) (f t : Int) : Bool := decide ((T.tripAt (T.ofO (rs.take f.toNat)) t).2 = (T.tripAt (T.ofO rs) t).2)
def hearW (ws : List Wd) (p : Wd) : List Wd := if ws.contains p = true then ws else ws ++ [p]
def hearK (rs : List R) (f : Int) (ws : List Wd) (t : Int) : Int := decK ws t (T.tripAt (T.ofO rs) t) (sureT rs f t)
def hearR (rs : List R) (f : Int) (ws : List Wd) (t : Int) : List R := if hearK rs f ws t = 0 then rs else rs ++ [(hearK rs f ws t, t, [])]
def dkHears (up : Bool) (rs : List R) (p : Wd) : Bool := up && ansOk (T.ofO rs).length p
/-- A desk that is ok behind a word. -/
def hearD (up : Bool) (rs : List R) (f : Int) (ws : List Wd) (p : Wd) : Dk := if dkHears up rs p = true then (up, hearR rs f (hearW ws p) p.2.2.1, f, hearW ws p) else (up, rs, f, ws)
def dkHear (up : Bool) (rs : List R) (f : Int) (ws : List Wd) (p : Wd) : Dk := if dkOk up rs f ws = true then hearD up rs f ws p else dkZ

theorem dkOk_parts {up : Bool} {rs : List R} {f : Int} {ws : List Wd} (h : dkOk up rs f ws = true) : logOk rs f = true ∧ T.runT rs = some (T.ofO rs) ∧ toldOk (T.ofO rs).length ws = true ∧ (up = true ∨ ws = []) := by
  have hr := run_some h
  unfold dkOk at h
  rw [hr] at h
  simp only [Bool.and_eq_true, Bool.or_eq_true, Option.getD_some, List.isEmpty_iff] at h
  exact ⟨h.1, hr, h.2.2.1, h.2.2.2⟩
theorem dkOk_of {up : Bool} {rs : List R} {f : Int} {ws : List Wd} {ts : List T.R} (h1 : logOk rs f = true) (h2 : T.runT rs = some ts) (h3 : toldOk ts.length ws = true) (h4 : up = true ∨ ws = []) : dkOk up rs f ws = true := by
  unfold dkOk
  rw [h2]
  simp only [Bool.and_eq_true, Bool.or_eq_true, Option.getD_some, List.isEmpty_iff]
  exact ⟨h1, rfl, h3, h4⟩
theorem toldOk_snoc {n : Int} {ws : List Wd} {p : Wd} (h : toldOk n ws = true) (hp : ansOk n p = true) (hc : ws.contains p = false) : toldOk n (ws ++ [p]) = true := by
  unfold toldOk at *
  simp only [Bool.and_eq_true, decide_eq_true_eq] at *
  refine ⟨by rw [List.all_append, h.1]; simp [hp], ?_⟩
  rw [List.nodup_append]
  refine ⟨h.2, by simp, fun a ha b hb => ?_⟩
  simp only [List.mem_singleton] at hb
  subst hb
  intro e
  subst e
  have := List.contains_iff_mem.2 ha
  rw [this] at hc
  cases hc
theorem hearW_ok {n : Int} {ws : List Wd} {p : Wd} (h : toldOk n ws = true) (hp : ansOk n p = true) : toldOk n (hearW ws p) = true := by
  unfold hearW
  cases hc : ws.contains p
  · rw [if_neg (by decide)]; exact toldOk_snoc h hp hc
  · rw [if_pos rfl]; exact h
theorem hearW_len (ws : List Wd) (p : Wd) : (hearW ws p).length ≤ ws.length + 1 := by unfold hearW; split <;> simp
theorem hears_ok {up : Bool} {rs : List R} {f : Int} {ws : List Wd} {p : Wd} (h : dkOk up rs f ws = true) (hp : dkHears up rs p = true) : dkOk up rs f (hearW ws p) = true := by
  obtain ⟨h1, h2, h3, h4⟩ := dkOk_parts h
  simp only [dkHears, Bool.and_eq_true] at hp
  exact dkOk_of h1 h2 (hearW_ok h3 hp.2) (Or.inl hp.1)
/-- Words that are told of so many trips at most are not many: each is one of four kinds, of three houses, of six trips. -/
theorem decK_state {ws : List Wd} {t : Int} {tr : T.R} {sure : Bool} (h : decK ws t tr sure ≠ 0) : (tr.2 = 1 ∧ (decK ws t tr sure = 6 ∨ decK ws t tr sure = 5)) ∨ ((tr.2 = 2 ∨ tr.2 = 3) ∧ decK ws t tr sure = 7) := by
  unfold decK at *
  by_cases h1 : tr.2 = 1
  · left
    rw [if_pos h1] at *
    refine ⟨h1, ?_⟩
    by_cases c : anyT ws 5 t tr.1 = true
    · rw [if_pos c]; exact Or.inl rfl
    · rw [if_neg c] at *
      by_cases c2 : allT ws 4 t tr.1 = true
      · rw [if_pos c2]; exact Or.inr rfl
      · rw [if_neg c2] at h; exact absurd rfl h
  · right
    rw [if_neg h1] at *
    by_cases h2 : tr.2 = 2
    · rw [if_pos h2] at *
      refine ⟨Or.inl h2, ?_⟩
      by_cases c : (sure && allT ws 6 t tr.1) = true
      · rw [if_pos c]
      · rw [if_neg c] at h; exact absurd rfl h
    · rw [if_neg h2] at *
      by_cases h3 : tr.2 = 3
      · rw [if_pos h3] at *
        refine ⟨Or.inr h3, ?_⟩
        by_cases c : (sure && allT ws 7 t tr.1) = true
        · rw [if_pos c]
        · rw [if_neg c] at h; exact absurd rfl h
      · rw [if_neg h3] at h; exact absurd rfl h
/-- What is decided may be written down. -/
theorem decK_may {ws : List Wd} {t : Int} {ts : List T.R} {sure : Bool} (h : decK ws t (T.tripAt ts t) sure ≠ 0) : T.mayL ts (decK ws t (T.tripAt ts t) sure, t, []) = true := by
  have h2 := decK_state h
  have go : ∀ k : Int, k ≠ 4 → T.nextS (T.tripAt ts t).2 k ≠ 0 → T.mayL ts (k, t, []) = true := fun k hk hn => by
    unfold T.mayL
    rw [if_neg hk]
    exact decide_eq_true hn
  rcases h2 with ⟨h1, e | e⟩ | ⟨h1, e⟩
  · rw [e]; exact go 6 (by decide) (by rw [h1]; decide)
  · rw [e]; exact go 5 (by decide) (by rw [h1]; decide)
  · rw [e]; exact go 7 (by decide) (by rcases h1 with h1 | h1 <;> (rw [h1]; decide))
theorem decK_rec {ws : List Wd} {t : Int} {tr : T.R} {sure : Bool} (h : decK ws t tr sure ≠ 0) (ht : 1 ≤ t ∧ t ≤ 6) : rOk (decK ws t tr sure, t, []) = true := by
  have : ∀ k : Int, k = 5 ∨ k = 6 ∨ k = 7 → rOk ((k, t, []) : R) = true := fun k hk => by
    show Pl.recOk k t [] = true
    rw [Pl.recOk_p k t [] (Pl.inB_mk ht.1 ht.2) (by omega) (by omega)]
    rcases hk with rfl | rfl | rfl <;> decide
  rcases decK_state h with ⟨_, e | e⟩ | ⟨_, e⟩ <;> rw [e] <;> exact this _ (by omega)
theorem hearR_tot {rs : List R} {f : Int} {ws : List Wd} {t : Int} (h : tot rs ≤ 1048000) : tot (hearR rs f ws t) ≤ 1048576 := by
  unfold hearR
  split
  · omega
  · unfold tot pre at *
    rw [List.take_length] at *
    simp
    omega
end Go.Proofs.YtgknnigjlnfplaaGreatDoor

namespace Go.Proofs.YtgknnigjlnfplaaGreatDoor
open Go.RowKit

set_option maxHeartbeats 2000000 in
theorem tells_any (lo b N : Nat) (ws : List Wd) (k h t : Int) (W : World) (hb : BkN W lo b N ws) (hk : 0 ≤ k ∧ k ≤ 10) (hh : 0 ≤ h ∧ h ≤ 10) (ht : 1 ≤ t ∧ t ≤ 6) :
    Calls Tryz.prog 87 #[.map (some b), .int .i64 k, .int .i64 h, .int .i64 t] W fun e w' => e = .returned (.bool (told ws k h t)) ∧ Below W.heap.size W w' := by
  obtain ⟨D, h0, h1, h2, h3⟩ := hb
  rcases h2 _ ht.1 ht.2 with ⟨an, a⟩ | ⟨B, S, a1, a2, a3, a4, a5⟩
  · have l1 : (Instr.lookup 52 (.map (some b)) (.int .i64 t) false).run Tryz.prog W = .ok (.map none) W := by
      obtain ⟨v, ps, r1, r2⟩ := h1.lookup tripLaw Tryz.underlying52 (zeroSet _) (zd := .nil) (zp := []) rfl (tripKey (by omega) (by omega : t ≤ 1000))
      rw [an] at r2
      rw [refElem_none r2] at r1
      exact r1
    have HC := hide_it (setHas_none k h W hk.1 (by omega) hh.1 (by omega))
    rw [a k h]
    clear h0 h1 h2 h3 an a hk hh ht
    go_enter Tryz.func87, Tryz.ntmps87
    go_wp2_with (go_at_call 86; refine HC.out.mono ?_; rintro e w1 ⟨rfl, hb⟩)
    go_ret
    exact ⟨rfl, by assumption⟩
  · have l1 : (Instr.lookup 52 (.map (some b)) (.int .i64 t) false).run Tryz.prog W = .ok (.map (some B)) W := by
      obtain ⟨v, ps, r1, r2⟩ := h1.lookup tripLaw Tryz.underlying52 (zeroSet _) (zd := .nil) (zp := []) rfl (tripKey (by omega) (by omega : t ≤ 1000))
      rw [a1] at r2
      rw [refElem_some r2] at r1
      exact r1
    have HC := hide_it (setHas_any B _ S k h W a4 hk.1 (by omega) hh.1 (by omega))
    rw [← a5 k h hk.1 hk.2 hh.1 hh.2]
    clear h0 h1 h2 h3 a1 a2 a3 a4 a5 hk hh ht
    go_enter Tryz.func87, Tryz.ntmps87
    go_wp2_with (go_at_call 86; refine HC.out.mono ?_; rintro e w1 ⟨rfl, hb⟩)
    go_ret
    exact ⟨rfl, by assumption⟩

/-- What is said to the houses of a trip in this state, and what is answered. -/
def talkA (s : Int) : Int := if s = 1 then 1 else if s = 2 then 2 else if s = 3 then 3 else 0
def talkB (s : Int) : Int := if s = 1 then 4 else if s = 2 then 6 else if s = 3 then 7 else 0
theorem talk_any (s : Int) (w : World) :
    Calls Tryz.prog 67 #[.int .i64 s] w fun e w' => e = .returned (.tuple #[.int .i64 (talkA s), .int .i64 (talkB s)]) ∧ w' = w := by
  have go : ∀ a b : Int, talkA s = a → talkB s = b → (Calls Tryz.prog 67 #[.int .i64 s] w fun e w' => e = .returned (.tuple #[.int .i64 a, .int .i64 b]) ∧ w' = w) → Calls Tryz.prog 67 #[.int .i64 s] w fun e w' => e = .returned (.tuple #[.int .i64 (talkA s), .int .i64 (talkB s)]) ∧ w' = w := fun a b ha hb h => by rw [ha, hb]; exact h
  by_cases h1 : s = 1
  · subst h1
    refine go 1 4 rfl rfl ?_
    go_enter Tryz.func67, Tryz.ntmps67
    go_wp2
    go_ret2
    exact ⟨rfl, rfl⟩
  by_cases h2 : s = 2
  · subst h2
    refine go 2 6 rfl rfl ?_
    go_enter Tryz.func67, Tryz.ntmps67
    go_wp2
    go_ret2
    exact ⟨rfl, rfl⟩
  by_cases h3 : s = 3
  · subst h3
    refine go 3 7 rfl rfl ?_
    go_enter Tryz.func67, Tryz.ntmps67
    go_wp2
    go_ret2
    exact ⟨rfl, rfl⟩
  · refine go 0 0 (by simp [talkA, h1, h2, h3]) (by simp [talkB, h1, h2, h3]) ?_
    clear go
    have e1 : ((1 : Int) == s) = false := by simp; omega
    go_enter Tryz.func67, Tryz.ntmps67
    go_wp2
    go_ret2
    exact ⟨rfl, rfl⟩

theorem ints_cell {w : World} {v : Value} {zs : List Int} (h : Ints w v zs) (hne : zs ≠ []) : ∃ b off cap, v = .slice (some ⟨b, off, none⟩) zs.length cap ∧ ∀ k, k < zs.length → w.cell? ⟨b, off + k, none⟩ = some (.int .i64 (zs.getD k 0)) := by
  rcases h with ⟨h0, _⟩ | ⟨b, off, cap, h1, _, h2⟩
  · exact absurd h0 hne
  · exact ⟨b, off, cap, h1, h2⟩

def howN (ws : List Wd) (k t : Int) (hs : List Int) : Nat := (hs.filter fun h => told ws k h t).length
theorem howN_zero (ws : List Wd) (k t : Int) : howN ws k t [] = 0 := rfl
theorem howN_snoc (ws : List Wd) (k t : Int) (hs : List Int) (h : Int) : howN ws k t (hs ++ [h]) = howN ws k t hs + if told ws k h t = true then 1 else 0 := by
  unfold howN
  rw [List.filter_append]
  cases e : told ws k h t <;> simp [e]
theorem howN_le (ws : List Wd) (k t : Int) (hs : List Int) : howN ws k t hs ≤ hs.length := List.length_filter_le _ _
theorem take_snocI (zs : List Int) (k : Nat) (h : k < zs.length) : zs.take (k + 1) = zs.take k ++ [zs.getD k 0] := by
  rw [List.take_succ_eq_append_getElem h, List.getD_eq_getElem?_getD, List.getElem?_eq_getElem h]; rfl
set_option maxHeartbeats 2000000 in
theorem howMany_any (lo b N : Nat) (ws : List Wd) (k t : Int) (v : Value) (hs : List Int) (W : World) (hb : BkN W lo b N ws) (hv : Ints W v hs) (hl : hs.length ≤ 10) (hhs : ∀ h ∈ hs, 0 ≤ h ∧ h ≤ 10) (hk : 0 ≤ k ∧ k ≤ 10) (ht : 1 ≤ t ∧ t ≤ 6) :
    Calls Tryz.prog 68 #[.map (some b), .int .i64 k, v, .int .i64 t] W fun e w' => e = .returned (.int .i64 (howN ws k t hs)) ∧ Below W.heap.size W w' := by
  have HT : Hid (∀ (h : Int) (W' : World), Below W.heap.size W W' → 0 ≤ h ∧ h ≤ 10 → Calls Tryz.prog 87 #[.map (some b), .int .i64 k, .int .i64 h, .int .i64 t] W' fun e w' => e = .returned (.bool (told ws k h t)) ∧ Below W'.heap.size W' w') := fun h W' hbb hh =>
    tells_any lo b N ws k h t W' (hb.after hbb) hk hh ht
  have HI : Hid (∀ W', Below W.heap.size W W' → Ints W' v hs) := fun W' hbb => hv.later hbb (Nat.le_refl _)
  have HH := hide_it hhs
  obtain ⟨av, cv, rfl⟩ := hv.shape
  clear hb hv hk ht hhs
  go_enter Tryz.func68, Tryz.ntmps68
  go_wp2
  go_loopw [9, 14] (fun c i wr => ∃ q : Nat, q ≤ hs.length ∧ i = .int .i64 q ∧ c = .int .i64 (howN ws k t (hs.take q)) ∧ Hid (Below W.heap.size W wr)) (fun _ i _ => hs.length - (intOf i).toNat)
  case atStart => exact ⟨0, Nat.zero_le _, rfl, rfl, Below.refl _ _⟩
  case round =>
    obtain ⟨q, hq, rfl, rfl, HB⟩ := hrel
    have hle := howN_le ws k t (hs.take q)
    have hle2 : (hs.take q).length ≤ q := List.length_take_le _ _
    by_cases hlt : q < hs.length
    · obtain ⟨b1, off, cap, hvv, hc⟩ := ints_cell (HI.out wr HB.out) (by intro e; rw [e] at hlt; simp at hlt)
      simp only [Value.slice.injEq] at hvv
      obtain ⟨rfl, -, rfl⟩ := hvv
      obtain ⟨h, hh⟩ : ∃ h, hs.getD q 0 = h := ⟨_, rfl⟩
      have c0 := hc q hlt
      rw [hh] at c0
      have hmem : 0 ≤ h ∧ h ≤ 10 := HH.out h (by rw [← hh, List.getD_eq_getElem?_getD, List.getElem?_eq_getElem hlt]; exact List.getElem_mem hlt)
      have HS : Hid (howN ws k t (hs.take (q + 1)) = howN ws k t (hs.take q) + if told ws k h t = true then 1 else 0) := by show _ = _; rw [take_snocI hs q hlt, hh, howN_snoc]
      have HC := hide_it (HT.out h wr HB.out hmem)
      clear hc hmem hh
      obtain ⟨M, hM⟩ : ∃ M, howN ws k t (hs.take q) = M := ⟨_, rfl⟩
      rw [hM] at HS hle ⊢
      obtain ⟨bb, hbb⟩ : ∃ x, told ws k h t = x := ⟨_, rfl⟩
      rw [hbb] at HC HS
      clear hbb hM
      cases bb
      · go_wp2_with (go_at_call 87; refine HC.out.mono ?_; rintro e w1 ⟨rfl, hb⟩; have B1 := hide_it (HB.out.trans (hb.mono HB.out.size)); clear hb)
        go_roundw
        case rel => exact ⟨q + 1, by omega, by go_num, by rw [HS.out]; rfl, B1⟩
        case measure => simp [intOf]; omega
      · go_wp2_with (go_at_call 87; refine HC.out.mono ?_; rintro e w1 ⟨rfl, hb⟩; have B1 := hide_it (HB.out.trans (hb.mono HB.out.size)); clear hb)
        go_roundw
        case rel => exact ⟨q + 1, by omega, by go_num, by rw [HS.out]; go_num, B1⟩
        case measure => simp [intOf]; omega
    · have hqe : hs.take q = hs := List.take_of_length_le (by omega)
      rw [hqe]
      go_wp2
      go_ret
      exact ⟨rfl, HB.out⟩

end Go.Proofs.YtgknnigjlnfplaaGreatDoor

namespace Go.Proofs.YtgknnigjlnfplaaGreatDoor
open Go.RowKit

theorem newI (w : World) (z : Int) (o : TypeId) : ∀ (j : Nat) (x : Value), [Value.int .i64 z][j]? = some x → (w.alloc (.cells #[.int .i64 z] o)).cell? ((⟨w.heap.size, 0, none⟩ : Addr).add j) = some x := by
  intro j x hj
  match j, hj with
  | 0, hj => simp at hj; subst hj; simp [Addr.add]
theorem oneI (z : Int) : ∀ x ∈ [Value.int .i64 z], x.oneCell' = true := by
  intro x hx; simp at hx; subst hx; rfl
def HsO (w w' : World) (e : Ending) (hs : List Int) : Prop := ∃ ao cap, e = .returned (.slice ao hs.length cap) ∧ Ints w' (.slice ao hs.length cap) hs ∧ Below w.heap.size w w'
theorem row_shape' {w : World} {base : Nat} {e : TypeId} {size n : Nat} {v : Value} {xs : List Value} (h : w.ownsRow base e size v n xs) : ∃ ao cap, v = .slice ao n cap := by
  rcases h.2 with ⟨h1, h2⟩ | ⟨g, cap, _, h1, _⟩
  · exact ⟨none, 0, by rw [h1, h2]⟩
  · exact ⟨_, _, h1⟩

set_option maxRecDepth 100000 in
set_option maxHeartbeats 4000000 in
theorem housesOf_any (v : Value) (zs : List Int) (s : Int) (w : World) (hv : Ints w v zs) (hl : zs.length ≤ 3) :
    Calls Tryz.prog 66 #[.agg #[v, .int .i64 s]] w fun e w' => HsO w w' e (wants zs) := by
  obtain ⟨i0, hi, hz0, hz1, hz2⟩ := info_parts info3
  obtain ⟨w0, hw0⟩ : ∃ W, Hid (W = w.alloc (.cells #[v, .int .i64 s] 91)) := ⟨_, rfl⟩
  have B0 : Hid (Below w.heap.size w w0) := by show Below _ _ _; rw [hw0.out]; exact alloc_below _ _
  have X0 : Hid (Blk w0 w.heap.size #[v, .int .i64 s] 91) := by show Blk _ _ _ _; rw [hw0.out]; exact Blk.new _ _ _
  have HI : Hid (∀ W, Below w.heap.size w W → Ints W v zs) := fun W hb => hv.later hb (Nat.le_refl _)
  obtain ⟨av, cv, rfl⟩ := hv.shape
  clear hv
  obtain ⟨x0, x1⟩ := X0.out.cells2
  go_enter Tryz.func66, Tryz.ntmps66
  go_wp2
  rw [← hw0.out]
  clear x0 x1
  go_loopw [3, 9] (fun o i wr => ∃ q : Nat, q ≤ zs.length ∧ i = .int .i64 q ∧ Hid (wr.ownsRow w.heap.size 3 1 o (wantsK zs q).length ((wantsK zs q).map (Value.int .i64))) ∧ Hid (Below w.heap.size w wr)) (fun _ i _ => zs.length - (intOf i).toNat)
  case atStart => exact ⟨0, Nat.zero_le _, rfl, World.ownsRow_nil _ _ _ _, B0⟩
  case round =>
    obtain ⟨q, hq, rfl, HO, HB⟩ := hrel
    have hql := wantsK_len zs q
    by_cases hlt : q < zs.length
    · obtain ⟨b1, off, cap, hvv, hc⟩ := ints_cell (HI.out wr HB.out) (by intro e; rw [e] at hlt; simp at hlt)
      simp only [Value.slice.injEq] at hvv
      obtain ⟨rfl, -, rfl⟩ := hvv
      obtain ⟨z, hz⟩ : ∃ z, zs.getD q 0 = z := ⟨_, rfl⟩
      have c0 := hc q hlt
      rw [hz] at c0
      clear hc
      by_cases hpos : 0 < z
      · have HW : Hid (wantsK zs (q + 1) = wantsK zs q ++ [((q : Nat) : Int) + 1]) := wantsK_yes (by rw [hz]; exact hpos)
        clear hz
        obtain ⟨ao, ca, rfl⟩ := row_shape' HO.out
        have ROW : Hid (∀ o, (wr.alloc o).ownsRow w.heap.size 3 1 (.slice ao (wantsK zs q).length ca) (wantsK zs q).length ((wantsK zs q).map (Value.int .i64))) := fun o => HO.out.alloc o
        obtain ⟨K, hK⟩ : ∃ K, wantsK zs q = K := ⟨_, rfl⟩
        rw [hK] at HW ROW hql ⊢
        have hwr := HB.out.size
        have HKw := hide_it hK
        clear hK HO
        go_wp2_with (at_builtin; refine wpList_append_own _ rfl _ _ 79 rfl w.heap.size 3 i0 (.int .i64 0) 1 8 Tryz.underlying79 hi hz0 hz1 hz2 rfl (by decide) (.slice ao K.length ca) K.length (K.map (Value.int .i64)) rfl (ROW.out _) ⟨wr.heap.size, 0, none⟩ 1 1 [.int .i64 ((q : Int) + 1)] rfl rfl (newI wr _ _) (oneI _) ?c3 ?c4 ?c5 ?_)
        case c3 => unfold maxLen; omega
        case c4 => omega
        case c5 => simp; omega
        intro v' w2 hown hgrow _
        have B2 : Hid (Below w.heap.size w w2) := (HB.out.alloc hwr _).grown hgrow (by simp; omega) (fun j hj => (ROW.out (.cells #[.int .i64 ((q : Int) + 1)] 3)).lt j hj |>.1)
        have O2 : Hid (w2.ownsRow w.heap.size 3 1 v' (wantsK zs (q + 1)).length ((wantsK zs (q + 1)).map (Value.int .i64))) := by show w2.ownsRow _ _ _ _ _ _; rw [HW.out]; simpa using hown
        clear hown hgrow
        go_wp2
        go_roundw
        case rel => exact ⟨q + 1, by omega, by go_num, O2, B2⟩
        case measure => simp [intOf]; omega
      · have HW : Hid (wantsK zs (q + 1) = wantsK zs q) := wantsK_no (by rw [hz]; exact hpos)
        clear hz
        go_wp2
        go_roundw
        case rel => exact ⟨q + 1, by omega, by go_num, by rw [HW.out]; exact HO, HB⟩
        case measure => simp [intOf]; omega
    · have hqe : q = zs.length := by omega
      subst hqe
      obtain ⟨ao, ca, rfl⟩ := row_shape' HO.out
      have HF : Hid (Ints wr (.slice ao (wants zs).length ca) (wants zs)) := ints_of_any HO.out
      go_wp2
      go_ret
      exact ⟨ao, ca, rfl, HF.out, HB.out⟩

theorem ckHears_any (c b : Nat) (up : Bool) (v : Value) (f : Int) (u : Value) (aa : Option Addr) (n ca : Nat) (forced : Value) (p : Wd) (w : World) (hc : Blk w c #[.bool up, v, .int .i64 f, u, .slice aa n ca, forced, .map (some b)] 54) :
    Calls Tryz.prog 20 #[.pointer (some ⟨c, 0, none⟩), wordV p.1 p.2.1 p.2.2.1 p.2.2.2] w fun e w' => e = .returned (.bool (up && ansOk n p)) ∧ Below w.heap.size w w' := by
  obtain ⟨w0, hw0⟩ : ∃ W, Hid (W = w.alloc (.cells #[.int .i64 p.1, .int .i64 p.2.1, .int .i64 p.2.2.1, .int .i64 p.2.2.2] 39)) := ⟨_, rfl⟩
  have B0 : Hid (Below w.heap.size w w0) := by show Below _ _ _; rw [hw0.out]; exact alloc_below _ _
  have X0 : Hid (Blk w0 w.heap.size #[.int .i64 p.1, .int .i64 p.2.1, .int .i64 p.2.2.1, .int .i64 p.2.2.2] 39) := by show Blk _ _ _ _; rw [hw0.out]; exact Blk.new _ _ _
  have C0 := hide_it (hc.after B0.out)
  have HC := hide_it (fun W => answerOk_any p n W)
  obtain ⟨AA, hAA⟩ : ∃ x, ansOk n p = x := ⟨_, rfl⟩
  rw [hAA] at HC ⊢
  clear hAA hc
  obtain ⟨c0, c1, c2, c3, c4, c5, c6⟩ := C0.out.cells7
  obtain ⟨x0, x1, x2, x3⟩ := X0.out.cells4
  cases up
  · go_enter Tryz.func20, Tryz.ntmps20
    go_wp2_with fail
    rw [← hw0.out]
    refine wp_region_held_drew (S := fun w' => (w'.cell? ⟨c, 0, none⟩ = some (.bool false) ∧ w'.cell? ⟨c, 1, none⟩ = some (v) ∧ w'.cell? ⟨c, 2, none⟩ = some (.int .i64 f) ∧ w'.cell? ⟨c, 3, none⟩ = some (u) ∧ w'.cell? ⟨c, 4, none⟩ = some (.slice aa n ca) ∧ w'.cell? ⟨c, 5, none⟩ = some (forced) ∧ w'.cell? ⟨c, 6, none⟩ = some (.map (some b))) ∧ (w'.cell? ⟨w.heap.size, 0, none⟩ = some (.int .i64 p.1) ∧ w'.cell? ⟨w.heap.size, 1, none⟩ = some (.int .i64 p.2.1) ∧ w'.cell? ⟨w.heap.size, 2, none⟩ = some (.int .i64 p.2.2.1) ∧ w'.cell? ⟨w.heap.size, 3, none⟩ = some (.int .i64 p.2.2.2))) (by kernel_rfl) ⟨⟨c0, c1, c2, c3, c4, c5, c6⟩, x0, x1, x2, x3⟩ (fun hHeld => ?_)
    clear c0 c1 c2 c3 c4 c5 c6 x0 x1 x2 x3
    refine takeD (i := 0) (v := ?_) (some 5) rfl rfl (by kernel_rfl) (by kernel_rfl) (by kernel_rfl) (fun _ _ _ h => h) (by rfl) hHeld ?_ ?_
    rotate_left
    · intro W hSw
      try dsimp only at hSw
      go_simp
      try with_reducible rfl
    try simp only [Act.put]
    try simp only [List.setIfInBounds_toArray]
    try simp only [List.set_cons_succ]
    try simp only [List.set_cons_zero]
    refine takeD (i := 1) (v := ?_) (some 6) rfl rfl (by kernel_rfl) (by kernel_rfl) (by kernel_rfl) (fun _ _ _ h => h) (by rfl) hHeld ?_ ?_
    rotate_left
    · intro W hSw
      try dsimp only at hSw
      go_simp
      try with_reducible rfl
    try simp only [Act.put]
    try simp only [List.setIfInBounds_toArray]
    try simp only [List.set_cons_succ]
    try simp only [List.set_cons_zero]
    refine takeD (i := 2) (v := ?_) (some 7) rfl rfl (by kernel_rfl) (by kernel_rfl) (by kernel_rfl) (fun _ _ _ h => h) (by rfl) hHeld ?_ ?_
    rotate_left
    · intro W hSw
      try dsimp only at hSw
      go_simp
      try with_reducible rfl
    try simp only [Act.put]
    try simp only [List.setIfInBounds_toArray]
    try simp only [List.set_cons_succ]
    try simp only [List.set_cons_zero]
    refine takeD (i := 3) (v := ?_) (some 8) rfl rfl (by kernel_rfl) (by kernel_rfl) (by kernel_rfl) (fun _ _ _ h => h) (by rfl) hHeld ?_ ?_
    rotate_left
    · intro W hSw
      try dsimp only at hSw
      go_simp
      try with_reducible rfl
    try simp only [Act.put]
    try simp only [List.setIfInBounds_toArray]
    try simp only [List.set_cons_succ]
    try simp only [List.set_cons_zero]
    refine takeD (i := 4) (v := ?_) (some 9) rfl rfl (by kernel_rfl) (by kernel_rfl) (by kernel_rfl) (fun _ _ _ h => h) (by rfl) hHeld ?_ ?_
    rotate_left
    · intro W hSw
      try dsimp only at hSw
      go_simp
      try with_reducible rfl
    try simp only [Act.put]
    try simp only [List.setIfInBounds_toArray]
    try simp only [List.set_cons_succ]
    try simp only [List.set_cons_zero]
    refine takeD (i := 5) (v := .bool false) (some 10) rfl rfl (by kernel_rfl) (by kernel_rfl) (by kernel_rfl) (fun _ _ _ h => h) (by rfl) hHeld ?_ ?_
    · intro W hSw
      try dsimp only at hSw
      first | (go_simp; done) | (go_simp; simp; done) | (go_simp; omega) | (go_simp; simp [*])
    try simp only [Act.put]
    try simp only [List.setIfInBounds_toArray]
    try simp only [List.set_cons_succ]
    try simp only [List.set_cons_zero]
    refine skipD (i := 6) (some 11) rfl rfl (by kernel_rfl) (by kernel_rfl) (by kernel_rfl) (fun _ _ _ h => h) (by rfl) hHeld ?_
    try simp only [Act.put]
    try simp only [List.setIfInBounds_toArray]
    try simp only [List.set_cons_succ]
    try simp only [List.set_cons_zero]
    refine skipD (i := 7) (some 12) rfl rfl (by kernel_rfl) (by kernel_rfl) (by kernel_rfl) (fun _ _ _ h => h) (by rfl) hHeld ?_
    try simp only [Act.put]
    try simp only [List.setIfInBounds_toArray]
    try simp only [List.set_cons_succ]
    try simp only [List.set_cons_zero]
    refine skipD (i := 8) (some 13) rfl rfl (by kernel_rfl) (by kernel_rfl) (by kernel_rfl) (fun _ _ _ h => h) (by rfl) hHeld ?_
    try simp only [Act.put]
    try simp only [List.setIfInBounds_toArray]
    try simp only [List.set_cons_succ]
    try simp only [List.set_cons_zero]
    refine skipD (i := 9) (some 14) rfl rfl (by kernel_rfl) (by kernel_rfl) (by kernel_rfl) (fun _ _ _ h => h) (by rfl) hHeld ?_
    try simp only [Act.put]
    try simp only [List.setIfInBounds_toArray]
    try simp only [List.set_cons_succ]
    try simp only [List.set_cons_zero]
    refine skipD (i := 10) (some 15) rfl rfl (by kernel_rfl) (by kernel_rfl) (by kernel_rfl) (fun _ _ _ h => h) (by rfl) hHeld ?_
    try simp only [Act.put]
    try simp only [List.setIfInBounds_toArray]
    try simp only [List.set_cons_succ]
    try simp only [List.set_cons_zero]
    refine skipD (i := 11) (some 16) rfl rfl (by kernel_rfl) (by kernel_rfl) (by kernel_rfl) (fun _ _ _ h => h) (by rfl) hHeld ?_
    try simp only [Act.put]
    try simp only [List.setIfInBounds_toArray]
    try simp only [List.set_cons_succ]
    try simp only [List.set_cons_zero]
    refine skipD (i := 12) (some 17) rfl rfl (by kernel_rfl) (by kernel_rfl) (by kernel_rfl) (fun _ _ _ h => h) (by rfl) hHeld ?_
    try simp only [Act.put]
    try simp only [List.setIfInBounds_toArray]
    try simp only [List.set_cons_succ]
    try simp only [List.set_cons_zero]
    refine takeD (i := 13) (v := .bool false) (some 18) rfl rfl (by kernel_rfl) (by kernel_rfl) (by kernel_rfl) (fun _ _ _ h => h) (by rfl) hHeld ?_ ?_
    · intro W hSw
      try dsimp only at hSw
      first | (go_simp; done) | (go_simp; simp; done) | (go_simp; omega) | (go_simp; simp [*])
    try simp only [Act.put]
    try simp only [List.setIfInBounds_toArray]
    try simp only [List.set_cons_succ]
    try simp only [List.set_cons_zero]
    refine takeD (i := 14) (v := ?_) (some 4) rfl rfl (by kernel_rfl) (by kernel_rfl) (by kernel_rfl) (fun _ _ _ h => h) (by rfl) hHeld ?_ ?_
    rotate_left
    · intro W hSw
      try dsimp only at hSw
      go_simp
      try with_reducible rfl
    try simp only [Act.put]
    try simp only [List.setIfInBounds_toArray]
    try simp only [List.set_cons_succ]
    try simp only [List.set_cons_zero]
    refine wpAnyH_done (by kernel_rfl) ?_ _
    go_wp2
    go_ret
    exact ⟨rfl, B0.out.drew⟩
  · go_enter Tryz.func20, Tryz.ntmps20
    go_wp2_with fail
    rw [← hw0.out]
    refine wp_region_held_drew (S := fun w' => (w'.cell? ⟨c, 0, none⟩ = some (.bool true) ∧ w'.cell? ⟨c, 1, none⟩ = some (v) ∧ w'.cell? ⟨c, 2, none⟩ = some (.int .i64 f) ∧ w'.cell? ⟨c, 3, none⟩ = some (u) ∧ w'.cell? ⟨c, 4, none⟩ = some (.slice aa n ca) ∧ w'.cell? ⟨c, 5, none⟩ = some (forced) ∧ w'.cell? ⟨c, 6, none⟩ = some (.map (some b))) ∧ (w'.cell? ⟨w.heap.size, 0, none⟩ = some (.int .i64 p.1) ∧ w'.cell? ⟨w.heap.size, 1, none⟩ = some (.int .i64 p.2.1) ∧ w'.cell? ⟨w.heap.size, 2, none⟩ = some (.int .i64 p.2.2.1) ∧ w'.cell? ⟨w.heap.size, 3, none⟩ = some (.int .i64 p.2.2.2))) (by kernel_rfl) ⟨⟨c0, c1, c2, c3, c4, c5, c6⟩, x0, x1, x2, x3⟩ (fun hHeld => ?_)
    clear c0 c1 c2 c3 c4 c5 c6 x0 x1 x2 x3
    refine takeD (i := 0) (v := ?_) (some 5) rfl rfl (by kernel_rfl) (by kernel_rfl) (by kernel_rfl) (fun _ _ _ h => h) (by rfl) hHeld ?_ ?_
    rotate_left
    · intro W hSw
      try dsimp only at hSw
      go_simp
      try with_reducible rfl
    try simp only [Act.put]
    try simp only [List.setIfInBounds_toArray]
    try simp only [List.set_cons_succ]
    try simp only [List.set_cons_zero]
    refine takeD (i := 1) (v := ?_) (some 6) rfl rfl (by kernel_rfl) (by kernel_rfl) (by kernel_rfl) (fun _ _ _ h => h) (by rfl) hHeld ?_ ?_
    rotate_left
    · intro W hSw
      try dsimp only at hSw
      go_simp
      try with_reducible rfl
    try simp only [Act.put]
    try simp only [List.setIfInBounds_toArray]
    try simp only [List.set_cons_succ]
    try simp only [List.set_cons_zero]
    refine takeD (i := 2) (v := ?_) (some 7) rfl rfl (by kernel_rfl) (by kernel_rfl) (by kernel_rfl) (fun _ _ _ h => h) (by rfl) hHeld ?_ ?_
    rotate_left
    · intro W hSw
      try dsimp only at hSw
      go_simp
      try with_reducible rfl
    try simp only [Act.put]
    try simp only [List.setIfInBounds_toArray]
    try simp only [List.set_cons_succ]
    try simp only [List.set_cons_zero]
    refine takeD (i := 3) (v := ?_) (some 8) rfl rfl (by kernel_rfl) (by kernel_rfl) (by kernel_rfl) (fun _ _ _ h => h) (by rfl) hHeld ?_ ?_
    rotate_left
    · intro W hSw
      try dsimp only at hSw
      go_simp
      try with_reducible rfl
    try simp only [Act.put]
    try simp only [List.setIfInBounds_toArray]
    try simp only [List.set_cons_succ]
    try simp only [List.set_cons_zero]
    refine takeD (i := 4) (v := ?_) (some 9) rfl rfl (by kernel_rfl) (by kernel_rfl) (by kernel_rfl) (fun _ _ _ h => h) (by rfl) hHeld ?_ ?_
    rotate_left
    · intro W hSw
      try dsimp only at hSw
      go_simp
      try with_reducible rfl
    try simp only [Act.put]
    try simp only [List.setIfInBounds_toArray]
    try simp only [List.set_cons_succ]
    try simp only [List.set_cons_zero]
    refine takeD (i := 5) (v := .bool true) (some 10) rfl rfl (by kernel_rfl) (by kernel_rfl) (by kernel_rfl) (fun _ _ _ h => h) (by rfl) hHeld ?_ ?_
    · intro W hSw
      try dsimp only at hSw
      first | (go_simp; done) | (go_simp; simp; done) | (go_simp; omega) | (go_simp; simp [*])
    try simp only [Act.put]
    try simp only [List.setIfInBounds_toArray]
    try simp only [List.set_cons_succ]
    try simp only [List.set_cons_zero]
    refine takeD (i := 6) (v := ?_) (some 11) rfl rfl (by kernel_rfl) (by kernel_rfl) (by kernel_rfl) (fun _ _ _ h => h) (by rfl) hHeld ?_ ?_
    rotate_left
    · intro W hSw
      try dsimp only at hSw
      go_simp
      try with_reducible rfl
    try simp only [Act.put]
    try simp only [List.setIfInBounds_toArray]
    try simp only [List.set_cons_succ]
    try simp only [List.set_cons_zero]
    refine takeD (i := 7) (v := ?_) (some 12) rfl rfl (by kernel_rfl) (by kernel_rfl) (by kernel_rfl) (fun _ _ _ h => h) (by rfl) hHeld ?_ ?_
    rotate_left
    · intro W hSw
      try dsimp only at hSw
      go_simp
      try with_reducible rfl
    try simp only [Act.put]
    try simp only [List.setIfInBounds_toArray]
    try simp only [List.set_cons_succ]
    try simp only [List.set_cons_zero]
    refine takeD (i := 8) (v := ?_) (some 13) rfl rfl (by kernel_rfl) (by kernel_rfl) (by kernel_rfl) (fun _ _ _ h => h) (by rfl) hHeld ?_ ?_
    rotate_left
    · intro W hSw
      try dsimp only at hSw
      go_simp
      try with_reducible rfl
    try simp only [Act.put]
    try simp only [List.setIfInBounds_toArray]
    try simp only [List.set_cons_succ]
    try simp only [List.set_cons_zero]
    refine takeD (i := 9) (v := ?_) (some 14) rfl rfl (by kernel_rfl) (by kernel_rfl) (by kernel_rfl) (fun _ _ _ h => h) (by rfl) hHeld ?_ ?_
    rotate_left
    · intro W hSw
      try dsimp only at hSw
      go_simp
      try with_reducible rfl
    try simp only [Act.put]
    try simp only [List.setIfInBounds_toArray]
    try simp only [List.set_cons_succ]
    try simp only [List.set_cons_zero]
    refine takeD (i := 10) (v := ?_) (some 15) rfl rfl (by kernel_rfl) (by kernel_rfl) (by kernel_rfl) (fun _ _ _ h => h) (by rfl) hHeld ?_ ?_
    rotate_left
    · intro W hSw
      try dsimp only at hSw
      go_simp
      try with_reducible rfl
    try simp only [Act.put]
    try simp only [List.setIfInBounds_toArray]
    try simp only [List.set_cons_succ]
    try simp only [List.set_cons_zero]
    refine takeD (i := 11) (v := ?_) (some 16) rfl rfl (by kernel_rfl) (by kernel_rfl) (by kernel_rfl) (fun _ _ _ h => h) (by rfl) hHeld ?_ ?_
    rotate_left
    · intro W hSw
      try dsimp only at hSw
      go_simp
      try with_reducible rfl
    try simp only [Act.put]
    try simp only [List.setIfInBounds_toArray]
    try simp only [List.set_cons_succ]
    try simp only [List.set_cons_zero]
    refine wpAnyH_ready (rs := [12]) (by kernel_rfl) (by simp) ?_
    refine AllReadyH.cons rfl (fun K hK => ?_) AllReadyH.nil
    go_simp
    refine (HC.out _).mono ?_
    rintro e w1 ⟨rfl, hb⟩
    have B1 := hide_it (B0.out.drew.trans (hb.mono B0.out.drew.size))
    have L1 := hide_it ((Below.refl w0.heap.size w0).drew.trans hb)
    clear hb
    try dsimp only
    refine hK.out _ _ ⟨(C0.out.after L1.out).cells7, (X0.out.after L1.out).cells4⟩ (fun hHeld => ?_)
    clear hK K
    refine takeD (i := 13) (v := ?_) (some 18) rfl rfl (by kernel_rfl) (by kernel_rfl) (by kernel_rfl) (fun _ _ _ h => h) (by rfl) hHeld ?_ ?_
    rotate_left
    · intro W hSw
      try dsimp only at hSw
      go_simp
      try with_reducible rfl
    try simp only [Act.put]
    try simp only [List.setIfInBounds_toArray]
    try simp only [List.set_cons_succ]
    try simp only [List.set_cons_zero]
    refine takeD (i := 14) (v := ?_) (some 4) rfl rfl (by kernel_rfl) (by kernel_rfl) (by kernel_rfl) (fun _ _ _ h => h) (by rfl) hHeld ?_ ?_
    rotate_left
    · intro W hSw
      try dsimp only at hSw
      go_simp
      try with_reducible rfl
    try simp only [Act.put]
    try simp only [List.setIfInBounds_toArray]
    try simp only [List.set_cons_succ]
    try simp only [List.set_cons_zero]
    refine wpAnyH_done (by kernel_rfl) ?_ _
    go_wp2
    go_ret
    exact ⟨rfl, B1.out⟩

theorem trip_cell {w : World} {v : Value} {ts : List T.R} {i : Nat} {t : T.R} (h : T.Recs w v ts) (hi : ts[i]? = some t) : ∃ b off cap u, v = .slice (some ⟨b, off, none⟩) ts.length cap ∧ T.RecCells w b (off + i * 2) t u := by
  rcases h with ⟨h0, _⟩ | ⟨b, off, cap, h1, _, h2⟩
  · rw [h0] at hi; simp at hi
  · obtain ⟨u, hu⟩ := h2 i t hi
    exact ⟨b, off, cap, u, h1, hu⟩

theorem forcedState_any (c : Nat) (x0 x1 x2 x3 x4 x6 : Value) (af : Option Addr) (cf : Nat) (fts : List T.R) (t : Int) (w : World) (hc : Blk w c #[x0, x1, x2, x3, x4, .slice af fts.length cf, x6] 54) (hf : T.Recs w (.slice af fts.length cf) fts) (ht : 1 ≤ t ∧ t ≤ 6) :
    Calls Tryz.prog 69 #[.pointer (some ⟨c, 0, none⟩), .int .i64 t] w fun e w' => e = .returned (.int .i64 (T.tripAt fts t).2) ∧ Below w.heap.size w w' := by
  obtain ⟨c0, c1, c2, c3, c4, c5, c6⟩ := hc.cells7
  clear hc
  by_cases h : (fts.length : Int) < t
  · have e : T.tripAt fts t = ([], 0) := T.tripAt_none (List.getElem?_eq_none (by omega))
    rw [e]
    go_enter Tryz.func69, Tryz.ntmps69
    go_wp2
    go_ret
    exact ⟨rfl, by first | exact Below.refl _ _ | exact (Below.refl _ _).drew⟩
  · obtain ⟨N, hN⟩ : ∃ N : Nat, (t - 1).toNat = N := ⟨_, rfl⟩
    obtain rfl : t = (N : Int) + 1 := by omega
    obtain ⟨q, hq⟩ : ∃ q, fts[N]? = some q := ⟨_, List.getElem?_eq_getElem (by omega)⟩
    have e : T.tripAt fts ((N : Int) + 1) = q := T.tripAt_get (by rw [hN]; exact hq)
    obtain ⟨b, off, cap, u, hv, r0, r1, _⟩ := trip_cell hf hq
    simp only [Value.slice.injEq] at hv
    obtain ⟨rfl, -, rfl⟩ := hv
    have hN2 : (N : Int) < (fts.length : Int) := by omega
    rw [e]
    clear hf hN hq e
    go_enter Tryz.func69, Tryz.ntmps69
    go_wp2
    go_ret
    exact ⟨rfl, by first | exact Below.refl _ _ | exact (Below.refl _ _).drew⟩

end Go.Proofs.YtgknnigjlnfplaaGreatDoor

namespace Go.Proofs.YtgknnigjlnfplaaGreatDoor
open Go.RowKit

theorem Blk.new3 (w : World) (o1 o2 : Obj) (cs : Array Value) (ty : TypeId) : Blk (((w.alloc o1).alloc o2).alloc (.cells cs ty)) (w.heap.size + 1 + 1) cs ty := by
  have h := Blk.new ((w.alloc o1).alloc o2) cs ty
  simpa using h

/-- An object that is cells of one of these types. -/
def Bad (ts : List TypeId) (o : Obj) : Prop := ∃ cs ty fz, o = .cells cs ty fz ∧ ty ∈ ts
/-- All but such objects is as it was. -/
structure Kept (ts : List TypeId) (w w' : World) : Prop where
  os : w'.os = w.os
  tape : w'.tape = w.tape
  output : w'.output = w.output
  size : w.heap.size ≤ w'.heap.size
  keep : ∀ (b : Nat) (o : Obj), w.heap[b]? = some o → ¬ Bad ts o → w'.heap[b]? = some o
theorem Kept.refl (ts : List TypeId) (w : World) : Kept ts w w := ⟨rfl, rfl, rfl, Nat.le_refl _, fun _ _ h _ => h⟩
theorem Kept.trans {ts : List TypeId} {a b c : World} (h : Kept ts a b) (k : Kept ts b c) : Kept ts a c :=
  ⟨k.os.trans h.os, k.tape.trans h.tape, k.output.trans h.output, Nat.le_trans h.size k.size, fun x o hx hb => k.keep x o (h.keep x o hx hb) hb⟩
theorem Kept.of_below {ts : List TypeId} {w w' : World} (h : Below w.heap.size w w') : Kept ts w w' :=
  ⟨h.os, h.tape, h.output, h.size, fun b o hb _ => by rw [h.block b (lt_of_heap hb)]; exact hb⟩
theorem Kept.of_grown {ts : List TypeId} {w w' : World} {row : Option Nat} (h : w.grownBy w' row) (hr : ∀ g, row = some g → ∃ o, w.heap[g]? = some o ∧ Bad ts o) : Kept ts w w' :=
  ⟨h.os, h.tape, h.output, h.size, fun b o hb hn => by
    rw [h.block b (lt_of_heap hb) (fun e => by
      obtain ⟨o', ho, hbad⟩ := hr b e.symm
      rw [hb] at ho
      simp only [Option.some.injEq] at ho
      subst ho
      exact hn hbad)]
    exact hb⟩
theorem Kept.mono {ts ts' : List TypeId} {w w' : World} (h : Kept ts w w') (hs : ∀ t ∈ ts, t ∈ ts') : Kept ts' w w' :=
  ⟨h.os, h.tape, h.output, h.size, fun b o hb hn => h.keep b o hb (fun ⟨cs, ty, fz, e, hm⟩ => hn ⟨cs, ty, fz, e, hs _ hm⟩)⟩
theorem bad_cells {ts : List TypeId} {w : World} {b : Nat} {cs : Array Value} {ty : TypeId} (h : Blk w b cs ty) (hm : ty ∈ ts) : ∃ o, w.heap[b]? = some o ∧ Bad ts o := ⟨_, h, cs, ty, (0, 0), rfl, hm⟩
theorem not_bad {ts : List TypeId} {cs : Array Value} {ty : TypeId} {fz : Nat × Nat} (h : ty ∉ ts) : ¬ Bad ts (.cells cs ty fz) := fun ⟨_, _, _, e, hm⟩ => by
  simp only [Obj.cells.injEq] at e
  rw [← e.2.1] at hm
  exact h hm
theorem Kept.set_ {ts : List TypeId} {w : World} {b i : Nat} {cs : Array Value} {ty : TypeId} (h : Blk w b cs ty) (hm : ty ∈ ts) (x : Value) : Kept ts w (w.setCell ⟨b, i, none⟩ x) :=
  Kept.of_grown (row := some b) ⟨rfl, rfl, rfl, by simp, fun k _ hk => Below.heap_setCell _ _ _ _ (by simp; intro e; exact hk (by rw [e]))⟩ (fun g hg => by
    simp only [Option.some.injEq] at hg; subst hg; exact bad_cells h hm)
/-- Four cells of a block are stored. -/
abbrev set4 (w : World) (b : Nat) (y0 y1 y2 y3 : Value) : World := (((w.setCell ⟨b, 0, none⟩ y0).setCell ⟨b, 1, none⟩ y1).setCell ⟨b, 2, none⟩ y2).setCell ⟨b, 3, none⟩ y3
theorem kept_set4 {w : World} {b : Nat} {x0 x1 x2 x3 : Value} {ty : TypeId} (h : Blk w b #[x0, x1, x2, x3] ty) (y0 y1 y2 y3 : Value) : Kept [ty] w (set4 w b y0 y1 y2 y3) ∧ Blk (set4 w b y0 y1 y2 y3) b #[y0, y1, y2, y3] ty :=
  ⟨(((Kept.set_ h (by simp) _).trans (Kept.set_ (h.set_ 0 y0) (by simp) _)).trans (Kept.set_ ((h.set_ 0 y0).set_ 1 y1) (by simp) _)).trans (Kept.set_ (((h.set_ 0 y0).set_ 1 y1).set_ 2 y2) (by simp) _), (((h.set_ 0 y0).set_ 1 y1).set_ 2 y2).set_ 3 y3⟩
theorem other_set4 {w : World} {b c : Nat} {cs : Array Value} {ty : TypeId} (h : Blk w c cs ty) (hn : c ≠ b) (y0 y1 y2 y3 : Value) : Blk (set4 w b y0 y1 y2 y3) c cs ty := (((h.other hn _).other hn _).other hn _).other hn _
theorem Kept.blk {ts : List TypeId} {w w' : World} {b : Nat} {cs : Array Value} {ty : TypeId} (h : Kept ts w w') (hb : Blk w b cs ty) (hn : ty ∉ ts) : Blk w' b cs ty := h.keep b _ hb (not_bad hn)
theorem Kept.row {ts : List TypeId} {w w' : World} {base : Nat} {e : TypeId} {size n : Nat} {v : Value} {xs : List Value} (h : Kept ts w w') (hr : w.ownsRow base e size v n xs) (hn : e ∉ ts) : w'.ownsRow base e size v n xs := by
  refine ⟨hr.1, ?_⟩
  rcases hr.2 with h1 | ⟨g, cap, cur, h1, h2, h3, h4⟩
  · exact Or.inl h1
  · exact Or.inr ⟨g, cap, cur, h1, h2, h.keep g _ h3 (not_bad hn), h4⟩
/-- A row grows, or turns: its block is of its type. -/
theorem Kept.of_row {ts : List TypeId} {w w' : World} {base : Nat} {e : TypeId} {size n : Nat} {v : Value} {xs : List Value} (hr : w.ownsRow base e size v n xs) (h : w.grownBy w' v.ownBlock) (hm : e ∈ ts) : Kept ts w w' :=
  Kept.of_grown h (fun g hg => by
    rcases hr.2 with ⟨h1, _⟩ | ⟨g', cap, cur, h1, h2, h3, h4⟩
    · rw [h1] at hg; simp [Value.ownBlock] at hg
    · rw [h1] at hg
      simp [Value.ownBlock] at hg
      subst hg
      exact ⟨_, h3, _, _, _, rfl, hm⟩)
theorem Kept.inner {ts : List TypeId} {w w' : World} {lo hi : Nat} {ps : List (R × Value)} (h : Kept ts w w') (hi' : Inner w lo hi ps) (hn : 3 ∉ ts) : Inner w' lo hi ps :=
  ⟨Nat.le_trans hi'.1 h.size, fun p hp => ⟨h.row (hi'.2.1 p hp).1 hn, (hi'.2.1 p hp).2⟩, hi'.2.2⟩
theorem Kept.own {ts : List TypeId} {w w' : World} {lo hi : Nat} {v : Value} {ps : List (R × Value)} (h : Kept ts w w') (ho : OwnRecs w lo hi v ps) (h1 : 81 ∉ ts) (hn : 3 ∉ ts) : OwnRecs w' lo hi v ps :=
  ⟨h.row ho.1 h1, ho.2.1, h.inner ho.2.2 hn⟩
theorem Kept.tinner {ts : List TypeId} {w w' : World} {lo hi : Nat} {ps : List (T.R × Value)} (h : Kept ts w w') (hi' : T.Inner w lo hi ps) (hn : 3 ∉ ts) : T.Inner w' lo hi ps :=
  ⟨Nat.le_trans hi'.1 h.size, fun p hp => ⟨h.row (hi'.2.1 p hp).1 hn, (hi'.2.1 p hp).2⟩, hi'.2.2⟩
theorem Kept.town {ts : List TypeId} {w w' : World} {lo hi : Nat} {v : Value} {ps : List (T.R × Value)} (h : Kept ts w w') (ho : T.OwnRecs w lo hi v ps) (h1 : 91 ∉ ts) (hn : 3 ∉ ts) : T.OwnRecs w' lo hi v ps :=
  ⟨h.row ho.1 h1, ho.2.1, h.tinner ho.2.2 hn⟩
theorem Kept.tmade {ts : List TypeId} {w w' : World} {lo : Nat} {v : Value} {rs : List T.R} (h : Kept ts w w') (ho : T.Made w lo v rs) (h1 : 91 ∉ ts) (hn : 3 ∉ ts) : T.Made w' lo v rs := by
  obtain ⟨ps, hp, o1, o2, o3⟩ := ho
  obtain ⟨q1, q2, q3⟩ := h.town ⟨o1, o2, o3⟩ h1 hn
  exact ⟨ps, hp, q1, fun k hk => Nat.lt_of_lt_of_le (q2 k hk) h.size, ⟨Nat.le_refl _, fun p hp => ⟨(q3.2.1 p hp).1, fun k hk => Nat.lt_of_lt_of_le ((q3.2.1 p hp).2 k hk) h.size⟩, q3.2.2⟩⟩
theorem Kept.bkn {ts : List TypeId} {W W' : World} {lo b N : Nat} {ws : List Wd} (hk : Kept ts W W') (h : BkN W lo b N ws) : BkN W' lo b N ws := by
  have mp : ∀ {B n : Nat} {k : TypeId} {H : Type} {Rr : Value → Option (DataW H × List MemPlace)} {D : DataW H}, W.ownsMap Tryz.prog k Rr B n D → W'.ownsMap Tryz.prog k Rr B n D := fun h => by
    obtain ⟨es, cl, hb, hr⟩ := h
    exact ⟨es, cl, hk.keep _ _ hb (fun ⟨_, _, _, e, _⟩ => by cases e), hr⟩
  obtain ⟨D, h0, h1, h2, h3⟩ := h
  refine ⟨D, h0, mp h1, fun t ht ht6 => ?_, h3⟩
  rcases h2 t ht ht6 with a | ⟨B, S, a1, a2, a3, a4, a5⟩
  · exact Or.inl a
  · exact Or.inr ⟨B, S, a1, a2, a3, mp a4, a5⟩
/-- What turns no block of cells keeps all of them. -/
theorem Cel.tmade {w w' : World} {lo : Nat} {v : Value} {rs : List T.R} (h : Cel w w') (ho : T.Made w lo v rs) : T.Made w' lo v rs := by
  obtain ⟨ps, hp, o1, o2, o3⟩ := ho
  exact ⟨ps, hp, h.row o1, fun k hk => Nat.lt_of_lt_of_le (o2 k hk) h.1, ⟨Nat.le_refl _, fun p hp => ⟨h.row (o3.2.1 p hp).1, fun k hk => Nat.lt_of_lt_of_le ((o3.2.1 p hp).2 k hk) h.1⟩, o3.2.2⟩⟩

/-- All blocks but those of S are as they were. -/
structure Turn (S : Nat → Prop) (w w' : World) : Prop where
  os : w'.os = w.os
  tape : w'.tape = w.tape
  output : w'.output = w.output
  size : w.heap.size ≤ w'.heap.size
  block : ∀ k, k < w.heap.size → ¬ S k → w'.heap[k]? = w.heap[k]?
theorem Turn.refl (S : Nat → Prop) (w : World) : Turn S w w := ⟨rfl, rfl, rfl, Nat.le_refl _, fun _ _ _ => rfl⟩
theorem Turn.trans {S : Nat → Prop} {a b c : World} (h : Turn S a b) (k : Turn S b c) : Turn S a c :=
  ⟨k.os.trans h.os, k.tape.trans h.tape, k.output.trans h.output, Nat.le_trans h.size k.size, fun x hx hn => by rw [k.block x (Nat.lt_of_lt_of_le hx h.size) hn]; exact h.block x hx hn⟩
theorem Turn.of_below {S : Nat → Prop} {w w' : World} (h : Below w.heap.size w w') : Turn S w w' := ⟨h.os, h.tape, h.output, h.size, fun k hk _ => h.block k hk⟩
theorem Turn.of_grown {S : Nat → Prop} {w w' : World} {row : Option Nat} (h : w.grownBy w' row) (hr : ∀ g, row = some g → S g) : Turn S w w' :=
  ⟨h.os, h.tape, h.output, h.size, fun k hk hn => h.block k hk (fun e => hn (hr k e.symm))⟩
theorem Turn.mono {S S' : Nat → Prop} {w w' : World} (h : Turn S w w') (hs : ∀ k, S k → S' k) : Turn S' w w' := ⟨h.os, h.tape, h.output, h.size, fun k hk hn => h.block k hk (fun e => hn (hs k e))⟩
/-- What is new may turn later. -/
theorem Turn.trans' {S S' : Nat → Prop} {a b c : World} (h : Turn S a b) (k : Turn S' b c) (hs : ∀ k, S' k → k < a.heap.size → S k) : Turn S a c :=
  ⟨k.os.trans h.os, k.tape.trans h.tape, k.output.trans h.output, Nat.le_trans h.size k.size, fun x hx hn => by rw [k.block x (Nat.lt_of_lt_of_le hx h.size) (fun e => hn (hs x e hx))]; exact h.block x hx hn⟩
theorem Turn.row {S : Nat → Prop} {w w' : World} {base : Nat} {e : TypeId} {size n : Nat} {v : Value} {xs : List Value} (h : Turn S w w') (hr : w.ownsRow base e size v n xs) (hn : ∀ g, v.ownBlock = some g → ¬ S g) : w'.ownsRow base e size v n xs := by
  refine ⟨hr.1, ?_⟩
  rcases hr.2 with h1 | ⟨g, cap, cur, h1, h2, h3, h4⟩
  · exact Or.inl h1
  · refine Or.inr ⟨g, cap, cur, h1, h2, ?_, h4⟩
    rw [h.block g (lt_of_heap h3) (hn g (by rw [h1]; rfl))]
    exact h3
theorem Turn.blk {S : Nat → Prop} {w w' : World} {b : Nat} {cs : Array Value} {ty : TypeId} (h : Turn S w w') (hb : Blk w b cs ty) (hn : ¬ S b) : Blk w' b cs ty := by
  unfold Blk; rw [h.block b hb.lt hn]; exact hb
theorem Turn.below {S : Nat → Prop} {w w' : World} {lo : Nat} (h : Turn S w w') (hs : ∀ k, S k → lo ≤ k) (hl : lo ≤ w.heap.size) : Below lo w w' := by
  refine (Below.refl lo w).trans ?_
  exact ⟨h.os, h.tape, h.output, h.size, fun k hk => h.block k (by omega) (fun e => by have := hs k e; omega)⟩
/-- A row of records, and their numbers in rows: a list of records. -/
theorem recs_of_rows {w : World} {base : Nat} {v : Value} {ps : List (R × Value)} (h : w.ownsRow base 81 3 v ps.length (flat ps)) (hi : ∀ p ∈ ps, Ints w p.2 p.1.2.2) : Recs w v (ps.map (·.1)) := by
  rcases h.2 with ⟨h1, h2⟩ | ⟨g, cap, cur, h1, h2, h3, h4, h5, h6, h7⟩
  · have : ps = [] := List.length_eq_zero_iff.1 h2
    subst this
    exact Or.inl ⟨rfl, none, 0, h1⟩
  · by_cases hne : ps = []
    · subst hne; exact Or.inl ⟨rfl, _, _, h1⟩
    · refine Or.inr ⟨g, 0, cap, by rw [h1]; simp, by simpa using hne, fun i r hir => ?_⟩
      simp only [List.getElem?_map, Option.map_eq_some_iff] at hir
      obtain ⟨p, hp, rfl⟩ := hir
      obtain ⟨f0, f1, f2⟩ := flat_get ps i p hp
      have cell : ∀ j x, (flat ps)[j]? = some x → w.cell? ⟨g, j, none⟩ = some x := fun j x hx => by
        rw [cell_of_row w _ _ _ _ _ h3]
        rw [← h7, List.getElem?_take] at hx
        split at hx
        · simpa using hx
        · cases hx
      exact ⟨p.2, by simpa using cell _ _ f0, by simpa using cell _ _ f1, by simpa using cell _ _ f2, hi p (List.mem_of_getElem? hp)⟩

end Go.Proofs.YtgknnigjlnfplaaGreatDoor

namespace Go.Proofs.YtgknnigjlnfplaaGreatDoor
open Go.RowKit

theorem news4 (w : World) (p : Wd) (ty : TypeId) : ∀ (j : Nat) (x : Value), [Value.int .i64 p.1, .int .i64 p.2.1, .int .i64 p.2.2.1, .int .i64 p.2.2.2][j]? = some x → (w.alloc (.cells #[.int .i64 p.1, .int .i64 p.2.1, .int .i64 p.2.2.1, .int .i64 p.2.2.2] ty)).cell? ((⟨w.heap.size, 0, none⟩ : Addr).add j) = some x := by
  intro j x hj
  match j, hj with
  | 0, hj => simp at hj; subst hj; simp [Addr.add]
  | 1, hj => simp at hj; subst hj; simp [Addr.add]
  | 2, hj => simp at hj; subst hj; simp [Addr.add]
  | 3, hj => simp at hj; subst hj; simp [Addr.add]
theorem one4 (p : Wd) : ∀ x ∈ [Value.int .i64 p.1, .int .i64 p.2.1, .int .i64 p.2.2.1, .int .i64 p.2.2.2], x.oneCell' = true := by
  intro x hx; simp at hx; rcases hx with rfl | rfl | rfl | rfl <;> rfl

/-- A clerk at work: its block, its desk's lists, its trips by all records and by those forced, its book. -/
structure Ck (w : World) (c lo hi : Nat) (up : Bool) (v : Value) (f : Int) (u all forced : Value) (b N : Nat) (ps : List (R × Value)) (rs : List R) (ws : List Wd) (ts fts : List T.R) : Prop where
  blk : Blk w c #[.bool up, v, .int .i64 f, u, all, forced, .map (some b)] 54
  map : ps.map (·.1) = rs
  own : DkOwn w lo hi v u ps ws
  all : T.Made w lo all ts
  frc : T.Made w lo forced fts
  bk : BkN w lo b N ws
theorem Ck.after {w w' : World} {c lo hi : Nat} {up : Bool} {v : Value} {f : Int} {u all forced : Value} {b N : Nat} {ps : List (R × Value)} {rs : List R} {ws : List Wd} {ts fts : List T.R} (h : Ck w c lo hi up v f u all forced b N ps rs ws ts fts) (hb : Below w.heap.size w w') : Ck w' c lo hi up v f u all forced b N ps rs ws ts fts :=
  ⟨h.blk.after hb, h.map, h.own.below hb h.own.1, h.all.below hb (Nat.le_refl _), h.frc.below hb (Nat.le_refl _), h.bk.after hb⟩
theorem Ck.cl {w : World} {c lo hi : Nat} {up : Bool} {v : Value} {f : Int} {u all forced : Value} {b N : Nat} {ps : List (R × Value)} {rs : List R} {ws : List Wd} {ts fts : List T.R} (h : Ck w c lo hi up v f u all forced b N ps rs ws ts fts) : ClAt w c lo hi up v f u all forced (some b) ps rs ws ts := ⟨h.blk, h.map, h.own, h.all⟩

theorem words_one (w : World) (p : Wd) : Words (w.alloc (.cells #[.int .i64 p.1, .int .i64 p.2.1, .int .i64 p.2.2.1, .int .i64 p.2.2.2] 39)) (.slice (some ⟨w.heap.size, 0, none⟩) 1 1) [p] := by
  refine Or.inr ⟨w.heap.size, 0, 1, rfl, by simp, fun k hk => ?_⟩
  obtain rfl : k = 0 := by simpa using hk
  exact (Blk.new w #[.int .i64 p.1, .int .i64 p.2.1, .int .i64 p.2.2.1, .int .i64 p.2.2.2] 39).cells4
theorem box_kept {w w' : World} {b : Nat} {x0 x1 x2 x3 : Value} {ty : TypeId} {row : Option Nat} (h : Blk w b #[x0, x1, x2, x3] ty) (hg : w.grownBy w' row) (hn : row ≠ some b) : w'.cell? ⟨b, 0, none⟩ = some x0 ∧ w'.cell? ⟨b, 1, none⟩ = some x1 ∧ w'.cell? ⟨b, 2, none⟩ = some x2 ∧ w'.cell? ⟨b, 3, none⟩ = some x3 :=
  (h.grown hg (fun e => hn e.symm)).cells4
theorem Cel.dkown {w w' : World} {lo hi : Nat} {v u : Value} {ps : List (R × Value)} {ws : List Wd} (h : Cel w w') (ho : DkOwn w lo hi v u ps ws) : DkOwn w' lo hi v u ps ws := by
  obtain ⟨h0, l, t, h1, h2, h3, h4, h5⟩ := ho
  exact ⟨Nat.le_trans h0 h.1, l, t, h1, h2, h.own h3, h.row h4, h5⟩
theorem store_held {w : World} {c b : Nat} {x0 x1 x2 x3 x4 x5 x6 y : Value} {z0 z1 z2 z3 : Value} {ty : TypeId} (hc : Blk w c #[x0, x1, x2, x3, x4, x5, x6] ty) (hx : w.cell? ⟨b, 0, none⟩ = some z0 ∧ w.cell? ⟨b, 1, none⟩ = some z1 ∧ w.cell? ⟨b, 2, none⟩ = some z2 ∧ w.cell? ⟨b, 3, none⟩ = some z3) (hn : c ≠ b) :
    ((w.setCell ⟨c, 3, none⟩ y).cell? ⟨c, 0, none⟩ = some x0 ∧ (w.setCell ⟨c, 3, none⟩ y).cell? ⟨c, 1, none⟩ = some x1 ∧ (w.setCell ⟨c, 3, none⟩ y).cell? ⟨c, 2, none⟩ = some x2 ∧ (w.setCell ⟨c, 3, none⟩ y).cell? ⟨c, 4, none⟩ = some x4 ∧ (w.setCell ⟨c, 3, none⟩ y).cell? ⟨c, 5, none⟩ = some x5 ∧ (w.setCell ⟨c, 3, none⟩ y).cell? ⟨c, 6, none⟩ = some x6) ∧
    ((w.setCell ⟨c, 3, none⟩ y).cell? ⟨b, 0, none⟩ = some z0 ∧ (w.setCell ⟨c, 3, none⟩ y).cell? ⟨b, 1, none⟩ = some z1 ∧ (w.setCell ⟨c, 3, none⟩ y).cell? ⟨b, 2, none⟩ = some z2 ∧ (w.setCell ⟨c, 3, none⟩ y).cell? ⟨b, 3, none⟩ = some z3) := by
  have h := (hc.set_ 3 y).cells7
  refine ⟨⟨h.1, h.2.1, h.2.2.1, h.2.2.2.2⟩, ?_⟩
  have e : ∀ i, (w.setCell ⟨c, 3, none⟩ y).cell? ⟨b, i, none⟩ = w.cell? ⟨b, i, none⟩ := fun i => World.cell?_of_block (Below.heap_setCell _ _ _ _ (fun h => hn h.symm))
  rw [e, e, e, e]
  exact hx
def NtOut (w w' : World) (e : Ending) (c lo : Nat) (up : Bool) (v : Value) (f : Int) (all forced : Value) (b : Nat) (ps : List (R × Value)) (rs : List R) (ws : List Wd) (ts fts : List T.R) (p : Wd) : Prop :=
  e = .returned (.tuple #[]) ∧ ∃ au cu N, Ck w' c lo w'.heap.size up v f (.slice au (hearW ws p).length cu) all forced b N ps rs (hearW ws p) ts fts ∧ Below lo w w'

/-- Words that a desk was told, one more. -/
theorem told_more {w w2 w3 : World} {c lo hi : Nat} {v u u' x0 x1 x2 x4 x5 x6 : Value} {ps : List (R × Value)} {ws : List Wd} {p : Wd} (hw : Below w.heap.size w w2) (ho : DkOwn w lo hi v u ps ws) (hlo : lo ≤ w.heap.size)
    (hc : Blk w2 c #[x0, x1, x2, u, x4, x5, x6] 54)
    (hown : w3.ownsRow lo 39 4 u' (ws.length + 1) (wflat ws ++ [.int .i64 p.1, .int .i64 p.2.1, .int .i64 p.2.2.1, .int .i64 p.2.2.2])) (hg : w2.grownBy w3 u.ownBlock) (loc : u'.ownBlock = u.ownBlock ∨ u'.ownBlock = some w2.heap.size) :
    DkOwn (w3.setCell ⟨c, 3, none⟩ u') lo (w3.setCell ⟨c, 3, none⟩ u').heap.size v u' ps (ws ++ [p]) ∧ Kept [39, 54] w2 (w3.setCell ⟨c, 3, none⟩ u') ∧ Blk (w3.setCell ⟨c, 3, none⟩ u') c #[x0, x1, x2, u', x4, x5, x6] 54 ∧ Below lo w w3 := by
  obtain ⟨h0, l, t, h1, h2, h3, h4, h5⟩ := ho
  have o2 := h3.below hw (Nat.le_trans h2 h0)
  have r2 := ownsRow_below h4 hw (fun k hk => by have := (h5 k hk).1; omega)
  have k1 : Kept [39] w2 w3 := Kept.of_row r2 hg (by decide)
  have c3 := k1.blk hc (by decide)
  have k2 : Kept [54] w3 (w3.setCell ⟨c, 3, none⟩ u') := Kept.set_ c3 (by decide) _
  have hrow : w3.ownsRow lo 39 4 u' (ws ++ [p]).length (wflat (ws ++ [p])) := by
    rw [wflat_append]; simpa [wflat] using hown
  have r4 := k2.row hrow (by decide)
  have o4 := k2.own (k1.own o2 (by decide) (by decide)) (by decide) (by decide)
  have hz : (w3.setCell ⟨c, 3, none⟩ u').heap.size = w3.heap.size := by simp
  have hs := hg.size
  have hw2 := hw.size
  refine ⟨⟨Nat.le_refl _, l, t, h1, by omega, o4, r4, fun g hgg => ?_⟩, (k1.mono (by decide)).trans (k2.mono (by decide)), ?_, ?_⟩
  · have hlt := (r4.lt g hgg).2
    refine ⟨hlt, ?_⟩
    rcases loc with e | e
    · exact (h5 g (by rw [← e]; exact hgg)).2
    · rw [e] at hgg
      simp only [Option.some.injEq] at hgg
      right; omega
  · exact c3.set_ 3 u'
  · exact (hw.mono hlo).grown hg (by omega) (fun j hj => (h4.lt j hj).1)

set_option maxRecDepth 100000 in
set_option maxHeartbeats 8000000 in
theorem note_any (c lo hi : Nat) (up : Bool) (v : Value) (f : Int) (u all forced : Value) (b N : Nat) (ps : List (R × Value)) (rs : List R) (ws : List Wd) (ts fts : List T.R) (p : Wd) (w : World)
    (hc : Ck w c lo hi up v f u all forced b N ps rs ws ts fts) (hlo : lo ≤ c) (hN : N < 10000000) (hwl : ws.length ≤ 1048576) (ht : toldOk ts.length ws = true) (hp : ansOk ts.length p = true) :
    Calls Tryz.prog 21 #[.pointer (some ⟨c, 0, none⟩), wordV p.1 p.2.1 p.2.2.1 p.2.2.2] w fun e w' => NtOut w w' e c lo up v f all forced b ps rs ws ts fts p := by
  obtain ⟨i0, hi0, hz0, hz1, hz2⟩ := info_parts infoWord
  obtain ⟨pk, ph, pt, pm, pn⟩ := ansOk_parts hp
  have hte := told_mem (toldOk_all ht) hp
  have hcl := hc.blk.lt
  have HOW := hide_it hc.own
  obtain ⟨av, cv, au, cu, rfl, rfl⟩ := (hc.own.at' hc.map).shape
  obtain ⟨aa, ca, rfl⟩ := hc.all.recs.shape
  obtain ⟨af, cf, rfl⟩ := hc.frc.recs.shape
  obtain ⟨w0, hw0⟩ : ∃ W, Hid (W = w.alloc (.cells #[.int .i64 p.1, .int .i64 p.2.1, .int .i64 p.2.2.1, .int .i64 p.2.2.2] 39)) := ⟨_, rfl⟩
  have A0 : Hid (Below w.heap.size w w0) := by show Below _ _ _; rw [hw0.out]; exact alloc_below _ _
  have X0 : Hid (Blk w0 w.heap.size #[.int .i64 p.1, .int .i64 p.2.1, .int .i64 p.2.2.1, .int .i64 p.2.2.2] 39) := by show Blk _ _ _ _; rw [hw0.out]; exact Blk.new _ _ _
  have C0 := hide_it (hc.after A0.out)
  have hs0 : w0.heap.size = w.heap.size + 1 := by rw [hw0.out]; simp
  have D0 := hide_it (C0.out.after (Below.refl w0.heap.size w0).drew)
  obtain ⟨c0, c1, c2, c3, c4, c5, c6⟩ := C0.out.blk.cells7
  obtain ⟨x0, x1, x2, x3⟩ := X0.out.cells4
  cases hct : ws.contains p
  · rw [hct] at hte
    have HW : Hid (hearW ws p = ws ++ [p]) := by show _ = _; unfold hearW; rw [hct]; rfl
    have HC := hide_it (bookAdd_newC lo b N ws p w0.drew D0.out.bk hN (by omega) (by omega) pt hte)
    clear hte hct ht hp pk ph pt pm pn hc
    go_enter Tryz.func21, Tryz.ntmps21
    go_wp2_with fail
    rw [← hw0.out]
    refine wp_region_held_drew (S := fun w' => (w'.cell? ⟨c, 0, none⟩ = some (.bool up) ∧ w'.cell? ⟨c, 1, none⟩ = some (.slice av rs.length cv) ∧ w'.cell? ⟨c, 2, none⟩ = some (.int .i64 f) ∧ w'.cell? ⟨c, 3, none⟩ = some (.slice au ws.length cu) ∧ w'.cell? ⟨c, 4, none⟩ = some (.slice aa ts.length ca) ∧ w'.cell? ⟨c, 5, none⟩ = some (.slice af fts.length cf) ∧ w'.cell? ⟨c, 6, none⟩ = some (.map (some b))) ∧ (w'.cell? ⟨w.heap.size, 0, none⟩ = some (.int .i64 p.1) ∧ w'.cell? ⟨w.heap.size, 1, none⟩ = some (.int .i64 p.2.1) ∧ w'.cell? ⟨w.heap.size, 2, none⟩ = some (.int .i64 p.2.2.1) ∧ w'.cell? ⟨w.heap.size, 3, none⟩ = some (.int .i64 p.2.2.2))) (by kernel_rfl) ⟨⟨c0, c1, c2, c3, c4, c5, c6⟩, x0, x1, x2, x3⟩ (fun hHeld => ?_)
    clear c0 c1 c2 c3 c4 c5 c6 x0 x1 x2 x3
    refine takeD (i := 0) (v := ?_) (some 4) rfl rfl (by kernel_rfl) (by kernel_rfl) (by kernel_rfl) (fun _ _ _ h => h) (by rfl) hHeld ?_ ?_
    rotate_left
    · intro W hSw
      try dsimp only at hSw
      go_simp
      try with_reducible rfl
    try simp only [Act.put]
    try simp only [List.setIfInBounds_toArray]
    try simp only [List.set_cons_succ]
    try simp only [List.set_cons_zero]
    refine takeD (i := 1) (v := ?_) (some 5) rfl rfl (by kernel_rfl) (by kernel_rfl) (by kernel_rfl) (fun _ _ _ h => h) (by rfl) hHeld ?_ ?_
    rotate_left
    · intro W hSw
      try dsimp only at hSw
      go_simp
      try with_reducible rfl
    try simp only [Act.put]
    try simp only [List.setIfInBounds_toArray]
    try simp only [List.set_cons_succ]
    try simp only [List.set_cons_zero]
    refine takeD (i := 2) (v := ?_) (some 6) rfl rfl (by kernel_rfl) (by kernel_rfl) (by kernel_rfl) (fun _ _ _ h => h) (by rfl) hHeld ?_ ?_
    rotate_left
    · intro W hSw
      try dsimp only at hSw
      go_simp
      try with_reducible rfl
    try simp only [Act.put]
    try simp only [List.setIfInBounds_toArray]
    try simp only [List.set_cons_succ]
    try simp only [List.set_cons_zero]
    refine takeD (i := 3) (v := ?_) (some 7) rfl rfl (by kernel_rfl) (by kernel_rfl) (by kernel_rfl) (fun _ _ _ h => h) (by rfl) hHeld ?_ ?_
    rotate_left
    · intro W hSw
      try dsimp only at hSw
      go_simp
      try with_reducible rfl
    try simp only [Act.put]
    try simp only [List.setIfInBounds_toArray]
    try simp only [List.set_cons_succ]
    try simp only [List.set_cons_zero]
    refine takeD (i := 4) (v := ?_) (some 8) rfl rfl (by kernel_rfl) (by kernel_rfl) (by kernel_rfl) (fun _ _ _ h => h) (by rfl) hHeld ?_ ?_
    rotate_left
    · intro W hSw
      try dsimp only at hSw
      go_simp
      try with_reducible rfl
    try simp only [Act.put]
    try simp only [List.setIfInBounds_toArray]
    try simp only [List.set_cons_succ]
    try simp only [List.set_cons_zero]
    refine wpAnyH_ready (rs := [5]) (by kernel_rfl) (by simp) ?_
    refine AllReadyH.cons rfl (fun K hK => ?_) AllReadyH.nil
    go_simp
    refine HC.out.mono ?_
    rintro e w1 ⟨rfl, hk1, hb1, hcel⟩
    have K1 := hide_it hk1
    have L1 := hide_it hb1
    have E1 := hide_it hcel
    have C1 := hide_it (hcel.blk D0.out.blk)
    have X1 := hide_it (hcel.blk (X0.out.drew))
    clear hk1 hb1 hcel
    try dsimp only
    refine hK.out _ _ ⟨C1.out.cells7, X1.out.cells4⟩ (fun hHeld => ?_)
    clear hK K
    refine wpAnyH_done (by kernel_rfl) ?_ _
    obtain ⟨c0, c1, c2, c3, c4, c5, c6⟩ := C1.out.cells7
    obtain ⟨x0, x1, x2, x3⟩ := X1.out.cells4
    have HM := hide_it D0.out.map
    have O1 := hide_it (E1.out.dkown D0.out.own)
    have T1 := hide_it (E1.out.tmade D0.out.all)
    have F1 := hide_it (E1.out.tmade D0.out.frc)
    have hlo1 : lo ≤ w1.heap.size := by have := L1.out.size; have := E1.out.1; simp at this; omega
    have HUX : Hid ((Value.slice au ws.length cu).ownBlock ≠ some w.heap.size) := fun e => by
      obtain ⟨h0, _, _, _, _, _, _, h5⟩ := HOW.out
      have := (h5 _ e).1; omega
    have HUC : Hid (c ≠ w.heap.size) := by show c ≠ _; omega
    have d3 : w1.drew.cell? ⟨c, 3, none⟩ = some (.slice au ws.length cu) := c3
    go_wp2_with fail
    refine wp_region_held_drew (S := fun w' => (w'.cell? ⟨c, 0, none⟩ = some (.bool up) ∧ w'.cell? ⟨c, 1, none⟩ = some (.slice av rs.length cv) ∧ w'.cell? ⟨c, 2, none⟩ = some (.int .i64 f) ∧ w'.cell? ⟨c, 4, none⟩ = some (.slice aa ts.length ca) ∧ w'.cell? ⟨c, 5, none⟩ = some (.slice af fts.length cf) ∧ w'.cell? ⟨c, 6, none⟩ = some (.map (some b))) ∧ (w'.cell? ⟨w.heap.size, 0, none⟩ = some (.int .i64 p.1) ∧ w'.cell? ⟨w.heap.size, 1, none⟩ = some (.int .i64 p.2.1) ∧ w'.cell? ⟨w.heap.size, 2, none⟩ = some (.int .i64 p.2.2.1) ∧ w'.cell? ⟨w.heap.size, 3, none⟩ = some (.int .i64 p.2.2.2))) (by kernel_rfl) ⟨⟨c0, c1, c2, c4, c5, c6⟩, x0, x1, x2, x3⟩ (fun hHeld => ?_)
    clear c0 c1 c2 c3 c4 c5 c6 x0 x1 x2 x3
    refine takeD (i := 0) (v := ?_) (some 10) rfl rfl (by kernel_rfl) (by kernel_rfl) (by kernel_rfl) (fun _ _ _ h => h) (by rfl) hHeld ?_ ?_
    rotate_left
    · intro W hSw
      try dsimp only at hSw
      go_simp
      try with_reducible rfl
    try simp only [Act.put]
    try simp only [List.setIfInBounds_toArray]
    try simp only [List.set_cons_succ]
    try simp only [List.set_cons_zero]
    refine takeD (i := 1) (v := ?_) (some 11) rfl rfl (by kernel_rfl) (by kernel_rfl) (by kernel_rfl) (fun _ _ _ h => h) (by rfl) hHeld ?_ ?_
    rotate_left
    · intro W hSw
      try dsimp only at hSw
      go_simp
      try with_reducible rfl
    try simp only [Act.put]
    try simp only [List.setIfInBounds_toArray]
    try simp only [List.set_cons_succ]
    try simp only [List.set_cons_zero]
    refine takeD (i := 2) (v := ?_) (some 12) rfl rfl (by kernel_rfl) (by kernel_rfl) (by kernel_rfl) (fun _ _ _ h => h) (by rfl) hHeld ?_ ?_
    rotate_left
    · intro W hSw
      try dsimp only at hSw
      go_simp
      try with_reducible rfl
    try simp only [Act.put]
    try simp only [List.setIfInBounds_toArray]
    try simp only [List.set_cons_succ]
    try simp only [List.set_cons_zero]
    refine takeD (i := 3) (v := ?_) (some 13) rfl rfl (by kernel_rfl) (by kernel_rfl) (by kernel_rfl) (fun _ _ _ h => h) (by rfl) hHeld ?_ ?_
    rotate_left
    · intro W hSw
      try dsimp only at hSw
      go_simp
      try with_reducible rfl
    try simp only [Act.put]
    try simp only [List.setIfInBounds_toArray]
    try simp only [List.set_cons_succ]
    try simp only [List.set_cons_zero]
    refine takeD (i := 4) (v := ?_) (some 14) rfl rfl (by kernel_rfl) (by kernel_rfl) (by kernel_rfl) (fun _ _ _ h => h) (by rfl) hHeld ?_ ?_
    rotate_left
    · intro W hSw
      try dsimp only at hSw
      go_simp
      try with_reducible rfl
    try simp only [Act.put]
    try simp only [List.setIfInBounds_toArray]
    try simp only [List.set_cons_succ]
    try simp only [List.set_cons_zero]
    refine takeD (i := 6) (v := ?_) (some 16) rfl rfl (by kernel_rfl) (by kernel_rfl) (by kernel_rfl) (fun _ _ _ h => h) (by rfl) hHeld ?_ ?_
    rotate_left
    · intro W hSw
      try dsimp only at hSw
      go_simp
      try with_reducible rfl
    try simp only [Act.put]
    try simp only [List.setIfInBounds_toArray]
    try simp only [List.set_cons_succ]
    try simp only [List.set_cons_zero]
    refine wpAnyH_ready (rs := [5, 7]) (by kernel_rfl) (by simp) ?_
    refine AllReadyH.cons rfl (fun K hK => ?_) (AllReadyH.cons rfl (fun K hK => ?_) AllReadyH.nil)
    · go_simp
      
      try dsimp only
      refine hK.out _ _ hHeld (fun hHeld => ?_)
      clear hK K
      refine wpAnyH_ready (rs := [7]) (by kernel_rfl) (by simp) ?_
      refine AllReadyH.cons rfl (fun K hK => ?_) AllReadyH.nil
      go_simp
      obtain ⟨w2, hw2⟩ : ∃ W, Hid (W = (w1.alloc (.cells #[.int .i64 p.1, .int .i64 p.2.1, .int .i64 p.2.2.1, .int .i64 p.2.2.2] 39)).drew) := ⟨_, rfl⟩
      rw [← hw2.out]
      have al2 : Below w1.heap.size w1 w2 := by rw [hw2.out]; exact (alloc_below w1 _).drew
      have C2 := hide_it (C1.out.after al2)
      have X2 := hide_it (X1.out.after al2)
      have P2 : Hid (Words w2 (.slice (some ⟨w1.heap.size, 0, none⟩) 1 1) [p]) := by show Words _ _ _; rw [hw2.out]; exact (words_one w1 p).later (Below.refl _ _).drew (Nat.le_refl _)
      have O2 := hide_it (O1.out.below al2 O1.out.1)
      have L2 := hide_it (L1.out.trans (al2.mono hlo1))
      have E2 := hide_it (E1.out.trans (Cel.of_below al2))
      have K2 := hide_it (K1.out.after al2)
      have A2 := hide_it al2
      have hlo2 : lo ≤ w2.heap.size := Nat.le_trans hlo1 al2.size
      clear al2
      have d3 := C2.out.cells7.2.2.2.1
      try dsimp only
      refine hK.out _ _ ⟨⟨C2.out.cells7.1, C2.out.cells7.2.1, C2.out.cells7.2.2.1, C2.out.cells7.2.2.2.2⟩, X2.out.cells4⟩ (fun hHeld => ?_)
      clear hK K
      refine wpAnyH_ready (rs := [8]) (by kernel_rfl) (by simp) ?_
      refine AllReadyH.cons rfl (fun K hK => ?_) AllReadyH.nil
      skip
      refine step_append_words rfl _ _ rfl lo (.slice au ws.length cu) (.slice (some ⟨w1.heap.size, 0, none⟩) 1 1) ws.length (wflat ws) [p] rfl rfl (by obtain ⟨_, _, _, _, _, _, h4, _⟩ := O2.out; exact h4) P2.out (by simp; omega) hlo2 ?_
      intro a3 c3 w3 hown hgrow loc
      have TM := told_more (p := p) (Below.refl w2.heap.size w2) O2.out hlo2 C2.out (by simpa [wflat] using hown) hgrow loc
      have k3 : Kept [39] w2 w3 := Kept.of_row (by obtain ⟨_, _, _, _, _, _, h4, _⟩ := O2.out; exact h4) hgrow (by decide)
      have C3 := hide_it (k3.blk C2.out (by decide))
      have TM3 := hide_it TM
      have X3 : Hid (w3.cell? ⟨w.heap.size, 0, none⟩ = some (.int .i64 p.1) ∧ w3.cell? ⟨w.heap.size, 1, none⟩ = some (.int .i64 p.2.1) ∧ w3.cell? ⟨w.heap.size, 2, none⟩ = some (.int .i64 p.2.2.1) ∧ w3.cell? ⟨w.heap.size, 3, none⟩ = some (.int .i64 p.2.2.2)) := box_kept X2.out hgrow HUX.out
      clear TM k3 hown hgrow loc
      obtain ⟨m0, m1, m2, m3, m4, m5, m6⟩ := C3.out.cells7
      obtain ⟨n0, n1, n2, n3, n4, n5, n6⟩ := C3.out.free7
      try dsimp only
      refine hK.out _ _ ⟨⟨m0, m1, m2, m4, m5, m6⟩, X3.out⟩ (fun hHeld => ?_)
      clear hK K
      refine takeD (i := 9) (v := ?_) (some 19) rfl rfl (by kernel_rfl) (by kernel_rfl) (by kernel_rfl) (fun _ _ _ h => h) (by rfl) hHeld ?_ ?_
      rotate_left
      · intro W hSw
        try dsimp only at hSw
        go_simp
        try with_reducible rfl
      try simp only [Act.put]
      try simp only [List.setIfInBounds_toArray]
      try simp only [List.set_cons_succ]
      try simp only [List.set_cons_zero]
      refine takeD (i := 10) (v := ?_) (some 20) rfl rfl (by kernel_rfl) (by kernel_rfl) (by kernel_rfl) (fun _ _ _ h => h) (by rfl) hHeld ?_ ?_
      rotate_left
      · intro W hSw
        try dsimp only at hSw
        go_simp
        try with_reducible rfl
      try simp only [Act.put]
      try simp only [List.setIfInBounds_toArray]
      try simp only [List.set_cons_succ]
      try simp only [List.set_cons_zero]
      refine takeD (i := 11) (v := ?_) (some 21) rfl rfl (by kernel_rfl) (by kernel_rfl) (by kernel_rfl) (fun _ _ _ h => h) (by rfl) hHeld ?_ ?_
      rotate_left
      · intro W hSw
        try dsimp only at hSw
        go_simp
        try with_reducible rfl
      try simp only [Act.put]
      try simp only [List.setIfInBounds_toArray]
      try simp only [List.set_cons_succ]
      try simp only [List.set_cons_zero]
      refine wpAnyH_ready (rs := [12]) (by kernel_rfl) (by simp) ?_
      refine AllReadyH.cons rfl (fun K hK => ?_) AllReadyH.nil
      go_simp
      
      try dsimp only
      refine hK.out _ _ (store_held (b := w.heap.size) C3.out X3.out HUC.out) (fun hHeld => ?_)
      clear hK K
      refine wpAnyH_done (by kernel_rfl) ?_ _
      have K3 := hide_it (TM3.out.2.1.bkn K2.out)
      have T3 := hide_it (TM3.out.2.1.tmade (T1.out.below A2.out (Nat.le_refl _)) (by decide) (by decide))
      have F3 := hide_it (TM3.out.2.1.tmade (F1.out.below A2.out (Nat.le_refl _)) (by decide) (by decide))
      go_wp2
      refine bodyPost_end (v := .tuple #[]) (by simp [results, Tryz.results21, go_sem]) rfl ⟨rfl, a3, c3, N + 2, ?_, ?_⟩
      · rw [HW.out]
        refine ⟨?_, HM.out, ?_, T3.out, F3.out, K3.out⟩
        · simpa using TM3.out.2.2.1
        · simpa using TM3.out.1
      · refine Below.setCell ?_ hlo _
        exact ((A0.out.drew.mono (by omega)).trans L2.out).trans TM3.out.2.2.2
    · go_simp
      obtain ⟨w2, hw2⟩ : ∃ W, Hid (W = (w1.alloc (.cells #[.int .i64 p.1, .int .i64 p.2.1, .int .i64 p.2.2.1, .int .i64 p.2.2.2] 39)).drew) := ⟨_, rfl⟩
      rw [← hw2.out]
      have al2 : Below w1.heap.size w1 w2 := by rw [hw2.out]; exact (alloc_below w1 _).drew
      have C2 := hide_it (C1.out.after al2)
      have X2 := hide_it (X1.out.after al2)
      have P2 : Hid (Words w2 (.slice (some ⟨w1.heap.size, 0, none⟩) 1 1) [p]) := by show Words _ _ _; rw [hw2.out]; exact (words_one w1 p).later (Below.refl _ _).drew (Nat.le_refl _)
      have O2 := hide_it (O1.out.below al2 O1.out.1)
      have L2 := hide_it (L1.out.trans (al2.mono hlo1))
      have E2 := hide_it (E1.out.trans (Cel.of_below al2))
      have K2 := hide_it (K1.out.after al2)
      have A2 := hide_it al2
      have hlo2 : lo ≤ w2.heap.size := Nat.le_trans hlo1 al2.size
      clear al2
      have d3 := C2.out.cells7.2.2.2.1
      try dsimp only
      refine hK.out _ _ ⟨⟨C2.out.cells7.1, C2.out.cells7.2.1, C2.out.cells7.2.2.1, C2.out.cells7.2.2.2.2⟩, X2.out.cells4⟩ (fun hHeld => ?_)
      clear hK K
      refine wpAnyH_ready (rs := [5]) (by kernel_rfl) (by simp) ?_
      refine AllReadyH.cons rfl (fun K hK => ?_) AllReadyH.nil
      go_simp
      
      try dsimp only
      refine hK.out _ _ hHeld (fun hHeld => ?_)
      clear hK K
      refine wpAnyH_ready (rs := [8]) (by kernel_rfl) (by simp) ?_
      refine AllReadyH.cons rfl (fun K hK => ?_) AllReadyH.nil
      skip
      refine step_append_words rfl _ _ rfl lo (.slice au ws.length cu) (.slice (some ⟨w1.heap.size, 0, none⟩) 1 1) ws.length (wflat ws) [p] rfl rfl (by obtain ⟨_, _, _, _, _, _, h4, _⟩ := O2.out; exact h4) P2.out (by simp; omega) hlo2 ?_
      intro a3 c3 w3 hown hgrow loc
      have TM := told_more (p := p) (Below.refl w2.heap.size w2) O2.out hlo2 C2.out (by simpa [wflat] using hown) hgrow loc
      have k3 : Kept [39] w2 w3 := Kept.of_row (by obtain ⟨_, _, _, _, _, _, h4, _⟩ := O2.out; exact h4) hgrow (by decide)
      have C3 := hide_it (k3.blk C2.out (by decide))
      have TM3 := hide_it TM
      have X3 : Hid (w3.cell? ⟨w.heap.size, 0, none⟩ = some (.int .i64 p.1) ∧ w3.cell? ⟨w.heap.size, 1, none⟩ = some (.int .i64 p.2.1) ∧ w3.cell? ⟨w.heap.size, 2, none⟩ = some (.int .i64 p.2.2.1) ∧ w3.cell? ⟨w.heap.size, 3, none⟩ = some (.int .i64 p.2.2.2)) := box_kept X2.out hgrow HUX.out
      clear TM k3 hown hgrow loc
      obtain ⟨m0, m1, m2, m3, m4, m5, m6⟩ := C3.out.cells7
      obtain ⟨n0, n1, n2, n3, n4, n5, n6⟩ := C3.out.free7
      try dsimp only
      refine hK.out _ _ ⟨⟨m0, m1, m2, m4, m5, m6⟩, X3.out⟩ (fun hHeld => ?_)
      clear hK K
      refine takeD (i := 9) (v := ?_) (some 19) rfl rfl (by kernel_rfl) (by kernel_rfl) (by kernel_rfl) (fun _ _ _ h => h) (by rfl) hHeld ?_ ?_
      rotate_left
      · intro W hSw
        try dsimp only at hSw
        go_simp
        try with_reducible rfl
      try simp only [Act.put]
      try simp only [List.setIfInBounds_toArray]
      try simp only [List.set_cons_succ]
      try simp only [List.set_cons_zero]
      refine takeD (i := 10) (v := ?_) (some 20) rfl rfl (by kernel_rfl) (by kernel_rfl) (by kernel_rfl) (fun _ _ _ h => h) (by rfl) hHeld ?_ ?_
      rotate_left
      · intro W hSw
        try dsimp only at hSw
        go_simp
        try with_reducible rfl
      try simp only [Act.put]
      try simp only [List.setIfInBounds_toArray]
      try simp only [List.set_cons_succ]
      try simp only [List.set_cons_zero]
      refine takeD (i := 11) (v := ?_) (some 21) rfl rfl (by kernel_rfl) (by kernel_rfl) (by kernel_rfl) (fun _ _ _ h => h) (by rfl) hHeld ?_ ?_
      rotate_left
      · intro W hSw
        try dsimp only at hSw
        go_simp
        try with_reducible rfl
      try simp only [Act.put]
      try simp only [List.setIfInBounds_toArray]
      try simp only [List.set_cons_succ]
      try simp only [List.set_cons_zero]
      refine wpAnyH_ready (rs := [12]) (by kernel_rfl) (by simp) ?_
      refine AllReadyH.cons rfl (fun K hK => ?_) AllReadyH.nil
      go_simp
      
      try dsimp only
      refine hK.out _ _ (store_held (b := w.heap.size) C3.out X3.out HUC.out) (fun hHeld => ?_)
      clear hK K
      refine wpAnyH_done (by kernel_rfl) ?_ _
      have K3 := hide_it (TM3.out.2.1.bkn K2.out)
      have T3 := hide_it (TM3.out.2.1.tmade (T1.out.below A2.out (Nat.le_refl _)) (by decide) (by decide))
      have F3 := hide_it (TM3.out.2.1.tmade (F1.out.below A2.out (Nat.le_refl _)) (by decide) (by decide))
      go_wp2
      refine bodyPost_end (v := .tuple #[]) (by simp [results, Tryz.results21, go_sem]) rfl ⟨rfl, a3, c3, N + 2, ?_, ?_⟩
      · rw [HW.out]
        refine ⟨?_, HM.out, ?_, T3.out, F3.out, K3.out⟩
        · simpa using TM3.out.2.2.1
        · simpa using TM3.out.1
      · refine Below.setCell ?_ hlo _
        exact ((A0.out.drew.mono (by omega)).trans L2.out).trans TM3.out.2.2.2
  · rw [hct] at hte
    have HW : Hid (hearW ws p = ws) := by show _ = _; unfold hearW; rw [hct]; rfl
    have HC := hide_it (bookAdd_old lo b N ws p w0.drew D0.out.bk (by omega) (by omega) pt hte)
    clear hte hct ht hp pk ph pt pm pn hc
    go_enter Tryz.func21, Tryz.ntmps21
    go_wp2_with fail
    rw [← hw0.out]
    refine wp_region_held_drew (S := fun w' => (w'.cell? ⟨c, 0, none⟩ = some (.bool up) ∧ w'.cell? ⟨c, 1, none⟩ = some (.slice av rs.length cv) ∧ w'.cell? ⟨c, 2, none⟩ = some (.int .i64 f) ∧ w'.cell? ⟨c, 3, none⟩ = some (.slice au ws.length cu) ∧ w'.cell? ⟨c, 4, none⟩ = some (.slice aa ts.length ca) ∧ w'.cell? ⟨c, 5, none⟩ = some (.slice af fts.length cf) ∧ w'.cell? ⟨c, 6, none⟩ = some (.map (some b))) ∧ (w'.cell? ⟨w.heap.size, 0, none⟩ = some (.int .i64 p.1) ∧ w'.cell? ⟨w.heap.size, 1, none⟩ = some (.int .i64 p.2.1) ∧ w'.cell? ⟨w.heap.size, 2, none⟩ = some (.int .i64 p.2.2.1) ∧ w'.cell? ⟨w.heap.size, 3, none⟩ = some (.int .i64 p.2.2.2))) (by kernel_rfl) ⟨⟨c0, c1, c2, c3, c4, c5, c6⟩, x0, x1, x2, x3⟩ (fun hHeld => ?_)
    clear c0 c1 c2 c3 c4 c5 c6 x0 x1 x2 x3
    refine takeD (i := 0) (v := ?_) (some 4) rfl rfl (by kernel_rfl) (by kernel_rfl) (by kernel_rfl) (fun _ _ _ h => h) (by rfl) hHeld ?_ ?_
    rotate_left
    · intro W hSw
      try dsimp only at hSw
      go_simp
      try with_reducible rfl
    try simp only [Act.put]
    try simp only [List.setIfInBounds_toArray]
    try simp only [List.set_cons_succ]
    try simp only [List.set_cons_zero]
    refine takeD (i := 1) (v := ?_) (some 5) rfl rfl (by kernel_rfl) (by kernel_rfl) (by kernel_rfl) (fun _ _ _ h => h) (by rfl) hHeld ?_ ?_
    rotate_left
    · intro W hSw
      try dsimp only at hSw
      go_simp
      try with_reducible rfl
    try simp only [Act.put]
    try simp only [List.setIfInBounds_toArray]
    try simp only [List.set_cons_succ]
    try simp only [List.set_cons_zero]
    refine takeD (i := 2) (v := ?_) (some 6) rfl rfl (by kernel_rfl) (by kernel_rfl) (by kernel_rfl) (fun _ _ _ h => h) (by rfl) hHeld ?_ ?_
    rotate_left
    · intro W hSw
      try dsimp only at hSw
      go_simp
      try with_reducible rfl
    try simp only [Act.put]
    try simp only [List.setIfInBounds_toArray]
    try simp only [List.set_cons_succ]
    try simp only [List.set_cons_zero]
    refine takeD (i := 3) (v := ?_) (some 7) rfl rfl (by kernel_rfl) (by kernel_rfl) (by kernel_rfl) (fun _ _ _ h => h) (by rfl) hHeld ?_ ?_
    rotate_left
    · intro W hSw
      try dsimp only at hSw
      go_simp
      try with_reducible rfl
    try simp only [Act.put]
    try simp only [List.setIfInBounds_toArray]
    try simp only [List.set_cons_succ]
    try simp only [List.set_cons_zero]
    refine takeD (i := 4) (v := ?_) (some 8) rfl rfl (by kernel_rfl) (by kernel_rfl) (by kernel_rfl) (fun _ _ _ h => h) (by rfl) hHeld ?_ ?_
    rotate_left
    · intro W hSw
      try dsimp only at hSw
      go_simp
      try with_reducible rfl
    try simp only [Act.put]
    try simp only [List.setIfInBounds_toArray]
    try simp only [List.set_cons_succ]
    try simp only [List.set_cons_zero]
    refine wpAnyH_ready (rs := [5]) (by kernel_rfl) (by simp) ?_
    refine AllReadyH.cons rfl (fun K hK => ?_) AllReadyH.nil
    go_simp
    refine HC.out.mono ?_
    rintro e w1 ⟨rfl, hb1⟩
    have C1 := hide_it (D0.out.after hb1)
    have X1 := hide_it (X0.out.drew.after hb1)
    have B1 := hide_it (A0.out.trans ((((Below.refl w0.heap.size w0).drew).trans hb1).mono A0.out.size))
    clear hb1
    try dsimp only
    refine hK.out _ _ ⟨C1.out.blk.cells7, X1.out.cells4⟩ (fun hHeld => ?_)
    clear hK K
    refine wpAnyH_done (by kernel_rfl) ?_ _
    go_wp2
    refine bodyPost_end (v := .tuple #[]) (by simp [results, Tryz.results21, go_sem]) rfl ⟨rfl, au, cu, N, ?_, ?_⟩
    · rw [HW.out]
      exact ⟨C1.out.blk, C1.out.map, C1.out.own.hi C1.out.own.1 (Nat.le_refl _), C1.out.all, C1.out.frc, C1.out.bk⟩
    · exact B1.out.mono (by omega)

end Go.Proofs.YtgknnigjlnfplaaGreatDoor
