/- What the last text of this claim stands on, part 6: plain facts and contracts; the last text says what is proved. -/
import Derived.Test.YtkhpjhjfobkmpaaGreatDoorBase5

namespace Go.Proofs.YtkhpjhjfobkmpaaGreatDoor
open Go.RowKit

theorem Trio.grown {w w' : World} {B : Nat} {v : Value} {f : Int} {r : R} {u : Value} {row : Option Nat} (h : Trio w B v f r u) (hg : w.grownBy w' row) (hr : ∀ k, row = some k → k < B) : Trio w' B v f r u := by
  have hs := h.size
  obtain ⟨h0, h1, h2⟩ := h
  exact ⟨by rw [hg.block B (by omega) (fun e => by have := hr _ e.symm; omega)]; exact h0, by rw [hg.block (B + 1) (by omega) (fun e => by have := hr _ e.symm; omega)]; exact h1, by rw [hg.block (B + 2) hs (fun e => by have := hr _ e.symm; omega)]; exact h2⟩

/-- A store into a log's own block leaves lists of records as they are. -/
theorem Made.setApart {w : World} {lo b j : Nat} {v : Value} {rs : List R} {cur : Array Value} {fz : Nat × Nat} (h : Made w lo v rs) (hh : w.heap[b]? = some (.cells cur 32 fz)) (x : Value) : Made (w.setCell ⟨b, j, Option.none⟩ x) lo v rs := by
  obtain ⟨ps, hp, h1, h2, h3⟩ := h
  have hs : (w.setCell ⟨b, j, Option.none⟩ x).heap.size = w.heap.size := by simp
  refine ⟨ps, hp, ownsRow_setCell_ne h1 (row_apart h1 hh (by decide)) x, by rw [hs]; exact h2, ?_⟩
  rw [hs]
  exact ⟨by rw [hs]; exact h3.1, fun p hp => ⟨ownsRow_setCell_ne (h3.2.1 p hp).1 (row_apart (h3.2.1 p hp).1 hh (by decide)) x, (h3.2.1 p hp).2⟩, h3.2.2⟩

set_option maxRecDepth 100000 in
set_option maxHeartbeats 4000000 in
theorem l1Add_full (v : Value) (n : Nat) (f : Int) (r : R) (u : Value) (w : World) (hv : ∃ ao cap, v = .slice ao n cap) (h40 : 40 ≤ (n : Int)) :
    Calls Tryz.prog 48 #[.agg #[v, .int .i64 f], .agg #[.int .i64 r.1, .int .i64 r.2.1, u]] w fun e w' => e = .returned (.tuple #[.agg #[v, .int .i64 f], .bool false]) ∧ Below w.heap.size w w' := by
  obtain ⟨ao, cap, rfl⟩ := hv
  go_enter Tryz.func48, Tryz.ntmps48
  go_wp2
  refine bodyPost_ret (v := .tuple #[.agg #[.slice ao n cap, .int .i64 f], .bool false]) (by simp [results, Tryz.results48, go_sem]) rfl ⟨rfl, ?_⟩
  exact below3 w _ _ _

theorem Mid.setUp {lo hi : Nat} {w W : World} (h : Mid lo hi w W) {a : Addr} (ha : w.heap.size ≤ a.block) (x : Value) : Mid lo hi w (W.setCell a x) :=
  ⟨h.os, h.tape, h.output, by have := h.size; simpa using this, fun k hk hh => by rw [Below.heap_setCell _ _ _ _ (by omega)]; exact h.block k hk hh⟩

set_option maxRecDepth 100000 in
set_option maxHeartbeats 4000000 in
theorem l1Add_mid (ao : Option Addr) (cap : Nat) (ps : List (R × Value)) (f : Int) (r : R) (au : Option Addr) (cu lo hi : Nat) (w : World) (ho : OwnRecs w lo hi (.slice ao ps.length cap) ps) (hlo : lo ≤ w.heap.size)
    (hu : w.ownsRow lo 3 1 (.slice au r.2.2.length cu) r.2.2.length (r.2.2.map (Value.int .i64))) (hub : ∀ k, (Value.slice au r.2.2.length cu).ownBlock = some k → hi ≤ k) (h40 : (ps.length : Int) < 40) :
    Calls Tryz.prog 48 #[.agg #[.slice ao ps.length cap, .int .i64 f], .agg #[.int .i64 r.1, .int .i64 r.2.1, .slice au r.2.2.length cu]] w fun e w' => ∃ g cap', e = .returned (.tuple #[.agg #[.slice (some ⟨g, 0, none⟩) (ps.length + 1) cap', .int .i64 f], .bool true]) ∧ Made w' lo (.slice (some ⟨g, 0, none⟩) (ps.length + 1) cap') (ps.map (·.1) ++ [r]) ∧ Below lo w w' ∧ Mid lo hi w w' := by
  obtain ⟨i0, hi0, hz0, hz1, hz2⟩ := info_parts infoRec
  have HO := hide_it ho
  have HU := hide_it hu
  have HUB := hide_it hub
  have HT := hide_it (Trio.new w (.slice ao ps.length cap) f r (.slice au r.2.2.length cu))
  have ROW : Hid (∀ o1 o2 o3 o4, ((((w.alloc o1).alloc o2).alloc o3).alloc o4).ownsRow lo 56 3 (.slice ao ps.length cap) ps.length (flat ps)) := fun o1 o2 o3 o4 => (((ho.1.alloc o1).alloc o2).alloc o3).alloc o4
  clear ho hu hub
  go_enter Tryz.func48, Tryz.ntmps48
  go_wp2_with (at_builtin; refine wpList_append_lies _ rfl _ _ 30 rfl lo 56 i0 (.agg #[.int .i64 0, .int .i64 0, .slice none 0 0]) 3 40 Tryz.underlying30 hi0 hz0 hz1 hz2 rfl (by decide) (.slice ao ps.length cap) ps.length (flat ps) rfl (ROW.out _ _ _ _) ⟨w.heap.size + 3, 0, none⟩ 1 1 [.int .i64 r.1, .int .i64 r.2.1, .slice au r.2.2.length cu] rfl rfl ?c1 (one3 _ _ _) (by decide) ?c3 ?c4 ?c5 _ rfl ?_)
  case c1 =>
    have h := news3 (((w.alloc (.cells #[.slice ao ps.length cap, .int .i64 f] 32)).alloc (.cells #[.int .i64 r.1, .int .i64 r.2.1, .slice au r.2.2.length cu] 56)).alloc (.cells #[.slice none 0 0, .int .i64 0] 32)) r.1 r.2.1 (.slice au r.2.2.length cu) 56
    rw [size3] at h
    exact h
  case c3 => unfold maxLen; omega
  case c4 => omega
  case c5 => simp; omega
  · intro g cap' w5 hown5 hgrow5 _ _
    have hhi := HO.out.2.2.1
    have HT4 := hide_it (HT.out.later (alloc_below _ (.cells #[.int .i64 r.1, .int .i64 r.2.1, .slice au r.2.2.length cu] 56)) (by rw [size3]; exact Nat.le_refl _))
    have HT5 := hide_it (HT4.out.grown hgrow5 (fun k hk => by have := HO.out.2.1 k hk; omega))
    have IN4 := hide_it (HO.out.2.2.below (below4 w (.cells #[.slice ao ps.length cap, .int .i64 f] 32) (.cells #[.int .i64 r.1, .int .i64 r.2.1, .slice au r.2.2.length cu] 56) (.cells #[.slice none 0 0, .int .i64 0] 32) (.cells #[.int .i64 r.1, .int .i64 r.2.1, .slice au r.2.2.length cu] 56)) hhi)
    have HU4 := hide_it ((((HU.out.alloc (.cells #[.slice ao ps.length cap, .int .i64 f] 32)).alloc (.cells #[.int .i64 r.1, .int .i64 r.2.1, .slice au r.2.2.length cu] 56)).alloc (.cells #[.slice none 0 0, .int .i64 0] 32)).alloc (.cells #[.int .i64 r.1, .int .i64 r.2.1, .slice au r.2.2.length cu] 56))
    have st := append_step (r := r) (ROW.out _ _ _ _) IN4.out (by simp; omega) HU4.out (fun k hk => ⟨HUB.out k hk, (HU4.out.lt k hk).2⟩) hown5 hgrow5
    have MD : Hid (Made w5 lo (.slice (some ⟨g, 0, none⟩) (ps.length + 1) cap') (ps.map (·.1) ++ [r])) := by
      refine ⟨ps ++ [(r, .slice au r.2.2.length cu)], by simp, ?_, fun k hk => (st.1.lt k hk).2, st.2⟩
      have h := st.1
      exact h
    have LO5 := hide_it (addBelow (ROW.out _ _ _ _) hgrow5 (by simp; omega))
    have BE5 := hide_it (((below4 w _ _ _ _).mono hlo).trans LO5.out)
    have MI5 := hide_it ((Mid.of_below (lo := lo) (hi := hi) (below4 w (.cells #[.slice ao ps.length cap, .int .i64 f] 32) (.cells #[.int .i64 r.1, .int .i64 r.2.1, .slice au r.2.2.length cu] 56) (.cells #[.slice none 0 0, .int .i64 0] 32) (.cells #[.int .i64 r.1, .int .i64 r.2.1, .slice au r.2.2.length cu] 56)) (Nat.le_refl _)).trans (Mid.of_grown hgrow5 (fun k hk => ⟨(HO.out.1.lt k hk).1, HO.out.2.1 k hk⟩)))
    obtain ⟨⟨l0, l1⟩, ⟨q0, q1, q2⟩, ⟨e0, e1, e2, e3⟩⟩ := HT5.out.cells
    have fz := frozen_of_row w5 w.heap.size 0 _ _ HT5.out.1
    have hz5 : w.heap.size + 4 ≤ w5.heap.size := by have := LO5.out.size; simp at this; omega
    clear hown5 hgrow5 st
    go_wp2
    refine bodyPost_ret (v := .tuple #[.agg #[.slice (some ⟨g, 0, none⟩) (ps.length + 1) cap', .int .i64 f], .bool true]) (by simp [results, Tryz.results48, go_sem, e0, e1]) rfl ⟨g, cap', rfl, ?_, ?_, ?_⟩
    · have a1 := MD.out.setApart (j := 0) HT5.out.1 (.slice (some ⟨g, 0, none⟩) (ps.length + 1) cap')
      have h2 : (w5.setCell ⟨w.heap.size, 0, none⟩ (.slice (some ⟨g, 0, none⟩) (ps.length + 1) cap')).heap[w.heap.size + 2]? = some (.cells #[.slice none 0 0, .int .i64 0] 32 (0, 0)) := by
        rw [Below.heap_setCell _ _ _ _ (by simp)]; exact HT5.out.2.2
      have a2 := a1.setApart (j := 0) h2 (.slice (some ⟨g, 0, none⟩) (ps.length + 1) cap')
      exact a2.setApart (j := 1) (heap_setCell_same _ (w.heap.size + 2) 0 _ _ _ h2) (.int .i64 f)
    · exact ((BE5.out.setCell (by simp; omega) _).setCell (by simp; omega) _).setCell (by simp; omega) _
    · exact ((MI5.out.setUp (by simp) _).setUp (by simp; omega) _).setUp (by simp; omega) _

theorem l1Add_room (ao : Option Addr) (cap : Nat) (ps : List (R × Value)) (f : Int) (r : R) (au : Option Addr) (cu lo hi : Nat) (w : World) (ho : OwnRecs w lo hi (.slice ao ps.length cap) ps) (hlo : lo ≤ w.heap.size)
    (hu : w.ownsRow lo 3 1 (.slice au r.2.2.length cu) r.2.2.length (r.2.2.map (Value.int .i64))) (hub : ∀ k, (Value.slice au r.2.2.length cu).ownBlock = some k → hi ≤ k) (h40 : (ps.length : Int) < 40) :
    Calls Tryz.prog 48 #[.agg #[.slice ao ps.length cap, .int .i64 f], .agg #[.int .i64 r.1, .int .i64 r.2.1, .slice au r.2.2.length cu]] w fun e w' => ∃ g cap', e = .returned (.tuple #[.agg #[.slice (some ⟨g, 0, none⟩) (ps.length + 1) cap', .int .i64 f], .bool true]) ∧ Made w' lo (.slice (some ⟨g, 0, none⟩) (ps.length + 1) cap') (ps.map (·.1) ++ [r]) ∧ Below lo w w' :=
  (l1Add_mid ao cap ps f r au cu lo hi w ho hlo hu hub h40).mono fun _ _ ⟨g, cap', h1, h2, h3, _⟩ => ⟨g, cap', h1, h2, h3⟩

end Go.Proofs.YtkhpjhjfobkmpaaGreatDoor

namespace Go.Proofs.YtkhpjhjfobkmpaaGreatDoor
open Go.RowKit

/-- A record that is ok is written down. -/
def dkMay (up : Bool) (rs : List R) (r : R) : Bool := up && T.mayL (T.ofO rs) r
theorem run_some {up : Bool} {rs : List R} {f : Int} {ws : List Wd} (h : dkOk up rs f ws = true) : T.runT rs = some (T.ofO rs) := by
  unfold dkOk at h
  simp only [Bool.and_eq_true] at h
  obtain ⟨x, hx⟩ := Option.isSome_iff_exists.1 h.2.1
  unfold T.ofO
  rw [hx]
  rfl
theorem may_eq {up : Bool} {rs : List R} {f : Int} {ws : List Wd} {r : R} (h : dkOk up rs f ws = true) (hr : rOk r = true) : T.tMay (T.ofO rs) r = T.mayL (T.ofO rs) r := by
  unfold T.tMay
  rw [T.runT_ok (run_some h), hr]
  simp
theorem add_eq {up : Bool} {rs : List R} {f : Int} {ws : List Wd} {r : R} (h : dkOk up rs f ws = true) (hr : rOk r = true) : addR rs f r = rs ++ [r] ∧ addF rs f r = f ∧ addB rs f r = true := by
  have h1 := dkOk_log h
  have h2 := T.runT_room (run_some h)
  have hk : addOk rs f r = true := by unfold addOk; rw [h1, hr]; rfl
  refine ⟨?_, ?_, ?_⟩
  · unfold addR; rw [hk, if_pos rfl, if_neg (by omega)]
  · unfold addF; rw [hk, if_pos rfl]
  · unfold addB; rw [hk]; simp; omega

/-- What the clerk's block holds, as a call of one of its methods begins. -/
def ClAt (w : World) (c lo hi : Nat) (up : Bool) (v : Value) (f : Int) (u all forced : Value) (mb : Option Nat) (ps : List (R × Value)) (rs : List R) (ws : List Wd) (ts : List T.R) : Prop :=
  Blk w c #[.bool up, v, .int .i64 f, u, all, forced, .map mb] 66 ∧ ps.map (·.1) = rs ∧ DkOwn w lo hi v u ps ws ∧ T.Made w lo all ts
theorem ClAt.after {w w' : World} {c lo hi : Nat} {up : Bool} {v : Value} {f : Int} {u all forced : Value} {mb : Option Nat} {ps : List (R × Value)} {rs : List R} {ws : List Wd} {ts : List T.R} (h : ClAt w c lo hi up v f u all forced mb ps rs ws ts) (hb : Below w.heap.size w w') : ClAt w' c lo hi up v f u all forced mb ps rs ws ts :=
  ⟨h.1.after hb, h.2.1, h.2.2.1.below hb h.2.2.1.1, h.2.2.2.below hb (Nat.le_refl _)⟩

/-- What comes of a record that the clerk was to write down. -/
def WrOut (w w' : World) (e : Ending) (c lo : Nat) (up : Bool) (f : Int) (u all forced : Value) (mb : Option Nat) (rs : List R) (ws : List Wd) (ts : List T.R) (r : R) : Prop :=
  (dkMay up rs r = false ∧ e = .returned (.bool false) ∧ Below w.heap.size w w') ∨
  (dkMay up rs r = true ∧ e = .returned (.bool true) ∧ Mid c (c + 1) w w' ∧ ∃ a3 c3 ps3, ClAt w' c lo w'.heap.size up (.slice a3 (rs ++ [r]).length c3) f u all forced mb ps3 (rs ++ [r]) ws ts)

theorem T.Made.setB {w : World} {lo b j : Nat} {v : Value} {rs : List T.R} {cur : Array Value} {ty : TypeId} (h : T.Made w lo v rs) (hh : Blk w b cur ty) (h1 : 102 ≠ ty) (h2 : 3 ≠ ty) (x : Value) : T.Made (w.setCell ⟨b, j, Option.none⟩ x) lo v rs := by
  obtain ⟨ps, hp, q1, q2, q3⟩ := h
  have hs : (w.setCell ⟨b, j, Option.none⟩ x).heap.size = w.heap.size := by simp
  refine ⟨ps, hp, ownsRow_setCell_ne q1 (fun g hg => row_apart q1 hh h1 g hg) x, by rw [hs]; exact q2, ?_⟩
  rw [hs]
  exact ⟨by rw [hs]; exact q3.1, fun p hp => ⟨ownsRow_setCell_ne (q3.2.1 p hp).1 (fun g hg => row_apart (q3.2.1 p hp).1 hh h2 g hg) x, (q3.2.1 p hp).2⟩, q3.2.2⟩
theorem DkOwn.newLog' {w w' : World} {lo hi : Nat} {v v' u : Value} {ps ps' : List (R × Value)} {ws : List Wd} (h : DkOwn w lo hi v u ps ws) (hl : lo ≤ w.heap.size) (hm : OwnRecs w' w.heap.size w'.heap.size v' ps') (hb : Below w.heap.size w w') : DkOwn w' lo w'.heap.size v' u ps' ws := h.newLog hl hm hb

set_option maxHeartbeats 16000000 in
set_option maxRecDepth 20000 in
theorem write_any (c lo hi : Nat) (up : Bool) (v : Value) (f : Int) (u all forced : Value) (mb : Option Nat) (ps : List (R × Value)) (rs : List R) (ws : List Wd) (r : R) (x : Value) (a : Addr) (w : World)
    (hc : ClAt w c lo hi up v f u all forced mb ps rs ws (T.ofO rs)) (hlo : lo ≤ c) (hfo : ∃ af nf cf, forced = .slice af nf cf) (hl : tot rs ≤ 1048576) (hx : Ints w x r.2.2) (hrl : r.2.2.length ≤ 1048576) (hok : dkOk up rs f ws = true) (hr : rOk r = true) (ha : ErrAt w a) :
    Calls Tryz.prog 56 #[.pointer (some ⟨c, 0, none⟩), .agg #[.int .i64 r.1, .int .i64 r.2.1, x]] w fun e w' => WrOut w w' e c lo up f u all forced mb rs ws (T.ofO rs) r := by
  have HC : Hid (∀ W, Below w.heap.size w W → ClAt W c lo hi up v f u all forced mb ps rs ws (T.ofO rs)) := fun W h => hc.after h
  have hcl := hc.1.lt
  have HX : Hid (∀ W, Below w.heap.size w W → Ints W x r.2.2) := fun W h => hx.later h (Nat.le_refl _)
  have HA : Hid (∀ W, Below w.heap.size w W → ErrAt W a) := fun W h => ha.later h (Nat.le_refl _)
  obtain ⟨av, cv, au, cu, rfl, rfl⟩ := (hc.2.2.1.at' hc.2.1).shape
  obtain ⟨aa, ca, rfl⟩ := hc.2.2.2.recs.shape
  obtain ⟨af, nf, cf, rfl⟩ := hfo
  obtain ⟨ax, cx, rfl⟩ := hx.shape
  have hfit := T.ofO_fit rs
  have HM : Hid (∀ W, Below w.heap.size w W → Calls Tryz.prog 74 #[.slice aa (T.ofO rs).length ca, .agg #[.int .i64 r.1, .int .i64 r.2.1, .slice ax r.2.2.length cx]] W fun e w' => e = .returned (.bool (T.mayL (T.ofO rs) r)) ∧ Below W.heap.size W w') := fun W h => by
    have := T.implMay_any (.slice aa (T.ofO rs).length ca) (T.ofO rs) r _ a W (HC.out W h).2.2.2.recs hfit.tot (HX.out W h) hrl (HA.out W h)
    rw [may_eq hok hr] at this
    exact this
  have HAD : Hid (∀ W, Below w.heap.size w W → Calls Tryz.prog 75 #[.agg #[.slice av rs.length cv, .int .i64 f], .agg #[.int .i64 r.1, .int .i64 r.2.1, .slice ax r.2.2.length cx]] W fun e w' => LogOut2 W w' e (rs ++ [r]) f true) := fun W h => by
    have := implAdd_any (.slice av rs.length cv) rs f r _ a W ((HC.out W h).2.2.1.at' (HC.out W h).2.1).1 hl (HX.out W h) hrl (HA.out W h)
    rw [(add_eq hok hr).1, (add_eq hok hr).2.1, (add_eq hok hr).2.2] at this
    exact this
  clear hc hx ha hok hr hfit
  obtain ⟨ts, hts⟩ : ∃ q, T.ofO rs = q := ⟨_, rfl⟩
  have HD : Hid (dkMay up rs r = (up && T.mayL ts r)) := by show _ = _; unfold dkMay; rw [hts]
  rw [hts] at HC HM ⊢
  clear hts
  obtain ⟨MM, hMM⟩ : ∃ q, T.mayL ts r = q := ⟨_, rfl⟩
  rw [hMM] at HM HD
  clear hMM
  obtain ⟨w0, hw0⟩ : ∃ W, Hid (W = w.alloc (.cells #[.int .i64 r.1, .int .i64 r.2.1, .slice ax r.2.2.length cx] 56)) := ⟨_, rfl⟩
  have B0 : Hid (Below w.heap.size w w0) := by show Below _ _ _; rw [hw0.out]; exact alloc_below _ _
  have R0 : Hid (Blk w0 w.heap.size #[.int .i64 r.1, .int .i64 r.2.1, .slice ax r.2.2.length cx] 56) := by show Blk _ _ _ _; rw [hw0.out]; exact Blk.new _ _ _
  have C0 := hide_it (HC.out w0 B0.out).1
  obtain ⟨c0, c1, c2, c3, c4, c5, c6⟩ := C0.out.cells7
  obtain ⟨r0, r1, r2⟩ := R0.out.cells3
  cases up
  · go_enter Tryz.func56, Tryz.ntmps56
    go_wp2_with fail
    rw [← hw0.out]
    refine wp_region_held_drew (S := fun w' => (w'.cell? ⟨c, 0, none⟩ = some (.bool false) ∧ w'.cell? ⟨c, 1, none⟩ = some (.slice av rs.length cv) ∧ w'.cell? ⟨c, 2, none⟩ = some (.int .i64 f) ∧ w'.cell? ⟨c, 3, none⟩ = some (.slice au ws.length cu) ∧ w'.cell? ⟨c, 4, none⟩ = some (.slice aa ts.length ca) ∧ w'.cell? ⟨c, 5, none⟩ = some (.slice af nf cf) ∧ w'.cell? ⟨c, 6, none⟩ = some (.map mb)) ∧ (w'.cell? ⟨w.heap.size, 0, none⟩ = some (.int .i64 r.1) ∧ w'.cell? ⟨w.heap.size, 1, none⟩ = some (.int .i64 r.2.1) ∧ w'.cell? ⟨w.heap.size, 2, none⟩ = some (.slice ax r.2.2.length cx))) (by kernel_rfl) ⟨⟨c0, c1, c2, c3, c4, c5, c6⟩, r0, r1, r2⟩ (fun hHeld => ?_)
    clear c0 c1 c2 c3 c4 c5 c6 r0 r1 r2
    refine takeD (i := 0) (v := ?_) (some 5) rfl rfl (by kernel_rfl) (by kernel_rfl) (by kernel_rfl) (fun _ _ _ h => h) (by rfl) hHeld ?_ ?_
    rotate_left
    · intro W hSw
      try dsimp only at hSw
      go_simp
      try with_reducible rfl
    try simp only [Act.put]
    try simp only [List.setIfInBounds_toArray]
    try simp only [List.set_cons_succ]
    try simp only [List.set_cons_zero]
    refine takeD (i := 1) (v := ?_) (some 6) rfl rfl (by kernel_rfl) (by kernel_rfl) (by kernel_rfl) (fun _ _ _ h => h) (by rfl) hHeld ?_ ?_
    rotate_left
    · intro W hSw
      try dsimp only at hSw
      go_simp
      try with_reducible rfl
    try simp only [Act.put]
    try simp only [List.setIfInBounds_toArray]
    try simp only [List.set_cons_succ]
    try simp only [List.set_cons_zero]
    refine takeD (i := 2) (v := ?_) (some 7) rfl rfl (by kernel_rfl) (by kernel_rfl) (by kernel_rfl) (fun _ _ _ h => h) (by rfl) hHeld ?_ ?_
    rotate_left
    · intro W hSw
      try dsimp only at hSw
      go_simp
      try with_reducible rfl
    try simp only [Act.put]
    try simp only [List.setIfInBounds_toArray]
    try simp only [List.set_cons_succ]
    try simp only [List.set_cons_zero]
    refine takeD (i := 3) (v := ?_) (some 8) rfl rfl (by kernel_rfl) (by kernel_rfl) (by kernel_rfl) (fun _ _ _ h => h) (by rfl) hHeld ?_ ?_
    rotate_left
    · intro W hSw
      try dsimp only at hSw
      go_simp
      try with_reducible rfl
    try simp only [Act.put]
    try simp only [List.setIfInBounds_toArray]
    try simp only [List.set_cons_succ]
    try simp only [List.set_cons_zero]
    refine takeD (i := 4) (v := ?_) (some 9) rfl rfl (by kernel_rfl) (by kernel_rfl) (by kernel_rfl) (fun _ _ _ h => h) (by rfl) hHeld ?_ ?_
    rotate_left
    · intro W hSw
      try dsimp only at hSw
      go_simp
      try with_reducible rfl
    try simp only [Act.put]
    try simp only [List.setIfInBounds_toArray]
    try simp only [List.set_cons_succ]
    try simp only [List.set_cons_zero]
    refine takeD (i := 5) (v := .bool true) (some 10) rfl rfl (by kernel_rfl) (by kernel_rfl) (by kernel_rfl) (fun _ _ _ h => h) (by rfl) hHeld ?_ ?_
    · intro W hSw
      try dsimp only at hSw
      first | (go_simp; done) | (go_simp; simp [*]; done) | (go_simp; simp; omega)
    try simp only [Act.put]
    try simp only [List.setIfInBounds_toArray]
    try simp only [List.set_cons_succ]
    try simp only [List.set_cons_zero]
    refine takeD (i := 6) (v := .bool true) (some 11) rfl rfl (by kernel_rfl) (by kernel_rfl) (by kernel_rfl) (fun _ _ _ h => h) (by rfl) hHeld ?_ ?_
    · intro W hSw
      try dsimp only at hSw
      first | (go_simp; done) | (go_simp; simp [*]; done) | (go_simp; simp; omega)
    try simp only [Act.put]
    try simp only [List.setIfInBounds_toArray]
    try simp only [List.set_cons_succ]
    try simp only [List.set_cons_zero]
    refine skipD (i := 7) (some 12) rfl rfl (by kernel_rfl) (by kernel_rfl) (by kernel_rfl) (fun _ _ _ h => h) (by rfl) hHeld ?_
    try simp only [Act.put]
    try simp only [List.setIfInBounds_toArray]
    try simp only [List.set_cons_succ]
    try simp only [List.set_cons_zero]
    refine skipD (i := 8) (some 13) rfl rfl (by kernel_rfl) (by kernel_rfl) (by kernel_rfl) (fun _ _ _ h => h) (by rfl) hHeld ?_
    try simp only [Act.put]
    try simp only [List.setIfInBounds_toArray]
    try simp only [List.set_cons_succ]
    try simp only [List.set_cons_zero]
    refine skipD (i := 9) (some 14) rfl rfl (by kernel_rfl) (by kernel_rfl) (by kernel_rfl) (fun _ _ _ h => h) (by rfl) hHeld ?_
    try simp only [Act.put]
    try simp only [List.setIfInBounds_toArray]
    try simp only [List.set_cons_succ]
    try simp only [List.set_cons_zero]
    refine skipD (i := 10) (some 15) rfl rfl (by kernel_rfl) (by kernel_rfl) (by kernel_rfl) (fun _ _ _ h => h) (by rfl) hHeld ?_
    try simp only [Act.put]
    try simp only [List.setIfInBounds_toArray]
    try simp only [List.set_cons_succ]
    try simp only [List.set_cons_zero]
    refine skipD (i := 11) (some 16) rfl rfl (by kernel_rfl) (by kernel_rfl) (by kernel_rfl) (fun _ _ _ h => h) (by rfl) hHeld ?_
    try simp only [Act.put]
    try simp only [List.setIfInBounds_toArray]
    try simp only [List.set_cons_succ]
    try simp only [List.set_cons_zero]
    refine skipD (i := 12) (some 17) rfl rfl (by kernel_rfl) (by kernel_rfl) (by kernel_rfl) (fun _ _ _ h => h) (by rfl) hHeld ?_
    try simp only [Act.put]
    try simp only [List.setIfInBounds_toArray]
    try simp only [List.set_cons_succ]
    try simp only [List.set_cons_zero]
    refine skipD (i := 13) (some 18) rfl rfl (by kernel_rfl) (by kernel_rfl) (by kernel_rfl) (fun _ _ _ h => h) (by rfl) hHeld ?_
    try simp only [Act.put]
    try simp only [List.setIfInBounds_toArray]
    try simp only [List.set_cons_succ]
    try simp only [List.set_cons_zero]
    refine takeD (i := 14) (v := .bool true) (some 19) rfl rfl (by kernel_rfl) (by kernel_rfl) (by kernel_rfl) (fun _ _ _ h => h) (by rfl) hHeld ?_ ?_
    · intro W hSw
      try dsimp only at hSw
      first | (go_simp; done) | (go_simp; simp [*]; done) | (go_simp; simp; omega)
    try simp only [Act.put]
    try simp only [List.setIfInBounds_toArray]
    try simp only [List.set_cons_succ]
    try simp only [List.set_cons_zero]
    refine wpAnyH_done (by kernel_rfl) ?_ _
    go_wp2
    go_ret
    exact Or.inl ⟨by rw [HD.out]; rfl, rfl, B0.out.drew⟩
  go_enter Tryz.func56, Tryz.ntmps56
  go_wp2_with fail
  rw [← hw0.out]
  refine wp_region_held_drew (S := fun w' => (w'.cell? ⟨c, 0, none⟩ = some (.bool true) ∧ w'.cell? ⟨c, 1, none⟩ = some (.slice av rs.length cv) ∧ w'.cell? ⟨c, 2, none⟩ = some (.int .i64 f) ∧ w'.cell? ⟨c, 3, none⟩ = some (.slice au ws.length cu) ∧ w'.cell? ⟨c, 4, none⟩ = some (.slice aa ts.length ca) ∧ w'.cell? ⟨c, 5, none⟩ = some (.slice af nf cf) ∧ w'.cell? ⟨c, 6, none⟩ = some (.map mb)) ∧ (w'.cell? ⟨w.heap.size, 0, none⟩ = some (.int .i64 r.1) ∧ w'.cell? ⟨w.heap.size, 1, none⟩ = some (.int .i64 r.2.1) ∧ w'.cell? ⟨w.heap.size, 2, none⟩ = some (.slice ax r.2.2.length cx))) (by kernel_rfl) ⟨⟨c0, c1, c2, c3, c4, c5, c6⟩, r0, r1, r2⟩ (fun hHeld => ?_)
  clear c0 c1 c2 c3 c4 c5 c6 r0 r1 r2
  refine takeD (i := 0) (v := ?_) (some 5) rfl rfl (by kernel_rfl) (by kernel_rfl) (by kernel_rfl) (fun _ _ _ h => h) (by rfl) hHeld ?_ ?_
  rotate_left
  · intro W hSw
    try dsimp only at hSw
    go_simp
    try with_reducible rfl
  try simp only [Act.put]
  try simp only [List.setIfInBounds_toArray]
  try simp only [List.set_cons_succ]
  try simp only [List.set_cons_zero]
  refine takeD (i := 1) (v := ?_) (some 6) rfl rfl (by kernel_rfl) (by kernel_rfl) (by kernel_rfl) (fun _ _ _ h => h) (by rfl) hHeld ?_ ?_
  rotate_left
  · intro W hSw
    try dsimp only at hSw
    go_simp
    try with_reducible rfl
  try simp only [Act.put]
  try simp only [List.setIfInBounds_toArray]
  try simp only [List.set_cons_succ]
  try simp only [List.set_cons_zero]
  refine takeD (i := 2) (v := ?_) (some 7) rfl rfl (by kernel_rfl) (by kernel_rfl) (by kernel_rfl) (fun _ _ _ h => h) (by rfl) hHeld ?_ ?_
  rotate_left
  · intro W hSw
    try dsimp only at hSw
    go_simp
    try with_reducible rfl
  try simp only [Act.put]
  try simp only [List.setIfInBounds_toArray]
  try simp only [List.set_cons_succ]
  try simp only [List.set_cons_zero]
  refine takeD (i := 3) (v := ?_) (some 8) rfl rfl (by kernel_rfl) (by kernel_rfl) (by kernel_rfl) (fun _ _ _ h => h) (by rfl) hHeld ?_ ?_
  rotate_left
  · intro W hSw
    try dsimp only at hSw
    go_simp
    try with_reducible rfl
  try simp only [Act.put]
  try simp only [List.setIfInBounds_toArray]
  try simp only [List.set_cons_succ]
  try simp only [List.set_cons_zero]
  refine takeD (i := 4) (v := ?_) (some 9) rfl rfl (by kernel_rfl) (by kernel_rfl) (by kernel_rfl) (fun _ _ _ h => h) (by rfl) hHeld ?_ ?_
  rotate_left
  · intro W hSw
    try dsimp only at hSw
    go_simp
    try with_reducible rfl
  try simp only [Act.put]
  try simp only [List.setIfInBounds_toArray]
  try simp only [List.set_cons_succ]
  try simp only [List.set_cons_zero]
  refine takeD (i := 5) (v := .bool false) (some 10) rfl rfl (by kernel_rfl) (by kernel_rfl) (by kernel_rfl) (fun _ _ _ h => h) (by rfl) hHeld ?_ ?_
  · intro W hSw
    try dsimp only at hSw
    first | (go_simp; done) | (go_simp; simp [*]; done) | (go_simp; simp; omega)
  try simp only [Act.put]
  try simp only [List.setIfInBounds_toArray]
  try simp only [List.set_cons_succ]
  try simp only [List.set_cons_zero]
  refine takeD (i := 6) (v := .bool false) (some 11) rfl rfl (by kernel_rfl) (by kernel_rfl) (by kernel_rfl) (fun _ _ _ h => h) (by rfl) hHeld ?_ ?_
  · intro W hSw
    try dsimp only at hSw
    first | (go_simp; done) | (go_simp; simp [*]; done) | (go_simp; simp; omega)
  try simp only [Act.put]
  try simp only [List.setIfInBounds_toArray]
  try simp only [List.set_cons_succ]
  try simp only [List.set_cons_zero]
  refine takeD (i := 7) (v := ?_) (some 12) rfl rfl (by kernel_rfl) (by kernel_rfl) (by kernel_rfl) (fun _ _ _ h => h) (by rfl) hHeld ?_ ?_
  rotate_left
  · intro W hSw
    try dsimp only at hSw
    go_simp
    try with_reducible rfl
  try simp only [Act.put]
  try simp only [List.setIfInBounds_toArray]
  try simp only [List.set_cons_succ]
  try simp only [List.set_cons_zero]
  refine takeD (i := 8) (v := ?_) (some 13) rfl rfl (by kernel_rfl) (by kernel_rfl) (by kernel_rfl) (fun _ _ _ h => h) (by rfl) hHeld ?_ ?_
  rotate_left
  · intro W hSw
    try dsimp only at hSw
    go_simp
    try with_reducible rfl
  try simp only [Act.put]
  try simp only [List.setIfInBounds_toArray]
  try simp only [List.set_cons_succ]
  try simp only [List.set_cons_zero]
  refine takeD (i := 9) (v := ?_) (some 14) rfl rfl (by kernel_rfl) (by kernel_rfl) (by kernel_rfl) (fun _ _ _ h => h) (by rfl) hHeld ?_ ?_
  rotate_left
  · intro W hSw
    try dsimp only at hSw
    go_simp
    try with_reducible rfl
  try simp only [Act.put]
  try simp only [List.setIfInBounds_toArray]
  try simp only [List.set_cons_succ]
  try simp only [List.set_cons_zero]
  refine takeD (i := 10) (v := ?_) (some 15) rfl rfl (by kernel_rfl) (by kernel_rfl) (by kernel_rfl) (fun _ _ _ h => h) (by rfl) hHeld ?_ ?_
  rotate_left
  · intro W hSw
    try dsimp only at hSw
    go_simp
    try with_reducible rfl
  try simp only [Act.put]
  try simp only [List.setIfInBounds_toArray]
  try simp only [List.set_cons_succ]
  try simp only [List.set_cons_zero]
  refine takeD (i := 11) (v := ?_) (some 16) rfl rfl (by kernel_rfl) (by kernel_rfl) (by kernel_rfl) (fun _ _ _ h => h) (by rfl) hHeld ?_ ?_
  rotate_left
  · intro W hSw
    try dsimp only at hSw
    go_simp
    try with_reducible rfl
  try simp only [Act.put]
  try simp only [List.setIfInBounds_toArray]
  try simp only [List.set_cons_succ]
  try simp only [List.set_cons_zero]
  refine wpAnyH_ready (rs := [12]) (by kernel_rfl) (by simp) ?_
  refine AllReadyH.cons rfl (fun K hK => ?_) AllReadyH.nil
  go_simp
  refine (HM.out _ B0.out.drew).mono ?_
  rintro e w1 ⟨rfl, hb1⟩
  have L1 := hide_it ((Below.refl w0.heap.size w0).drew.trans hb1)
  have B1 := hide_it (B0.out.trans (L1.out.mono B0.out.size))
  have C1 := hide_it (HC.out w1 B1.out).1
  have R1 := hide_it (R0.out.after L1.out)
  clear hb1
  try dsimp only
  refine hK.out _ _ ⟨C1.out.cells7, R1.out.cells3⟩ (fun hHeld => ?_)
  clear hK K
  cases MM
  · refine takeD (i := 13) (v := .bool true) (some 18) rfl rfl (by kernel_rfl) (by kernel_rfl) (by kernel_rfl) (fun _ _ _ h => h) (by rfl) hHeld ?_ ?_
    · intro W hSw
      try dsimp only at hSw
      first | (go_simp; done) | (go_simp; simp [*]; done) | (go_simp; simp; omega)
    try simp only [Act.put]
    try simp only [List.setIfInBounds_toArray]
    try simp only [List.set_cons_succ]
    try simp only [List.set_cons_zero]
    refine takeD (i := 14) (v := .bool true) (some 19) rfl rfl (by kernel_rfl) (by kernel_rfl) (by kernel_rfl) (fun _ _ _ h => h) (by rfl) hHeld ?_ ?_
    · intro W hSw
      try dsimp only at hSw
      first | (go_simp; done) | (go_simp; simp [*]; done) | (go_simp; simp; omega)
    try simp only [Act.put]
    try simp only [List.setIfInBounds_toArray]
    try simp only [List.set_cons_succ]
    try simp only [List.set_cons_zero]
    refine wpAnyH_done (by kernel_rfl) ?_ _
    go_wp2
    go_ret
    exact Or.inl ⟨by rw [HD.out]; rfl, rfl, B1.out⟩
  · refine takeD (i := 13) (v := .bool false) (some 18) rfl rfl (by kernel_rfl) (by kernel_rfl) (by kernel_rfl) (fun _ _ _ h => h) (by rfl) hHeld ?_ ?_
    · intro W hSw
      try dsimp only at hSw
      first | (go_simp; done) | (go_simp; simp [*]; done) | (go_simp; simp; omega)
    try simp only [Act.put]
    try simp only [List.setIfInBounds_toArray]
    try simp only [List.set_cons_succ]
    try simp only [List.set_cons_zero]
    refine takeD (i := 14) (v := .bool false) (some 19) rfl rfl (by kernel_rfl) (by kernel_rfl) (by kernel_rfl) (fun _ _ _ h => h) (by rfl) hHeld ?_ ?_
    · intro W hSw
      try dsimp only at hSw
      first | (go_simp; done) | (go_simp; simp [*]; done) | (go_simp; simp; omega)
    try simp only [Act.put]
    try simp only [List.setIfInBounds_toArray]
    try simp only [List.set_cons_succ]
    try simp only [List.set_cons_zero]
    refine wpAnyH_done (by kernel_rfl) ?_ _
    go_wp2
    obtain ⟨c0, c1, c2, c3, c4, c5, c6⟩ := C1.out.cells7
    obtain ⟨r0, r1, r2⟩ := R1.out.cells3
    refine wp_region_held_drew (S := fun w' => (w'.cell? ⟨c, 0, none⟩ = some (.bool true) ∧ w'.cell? ⟨c, 3, none⟩ = some (.slice au ws.length cu) ∧ w'.cell? ⟨c, 4, none⟩ = some (.slice aa ts.length ca) ∧ w'.cell? ⟨c, 5, none⟩ = some (.slice af nf cf) ∧ w'.cell? ⟨c, 6, none⟩ = some (.map mb)) ∧ (w'.cell? ⟨w.heap.size, 0, none⟩ = some (.int .i64 r.1) ∧ w'.cell? ⟨w.heap.size, 1, none⟩ = some (.int .i64 r.2.1) ∧ w'.cell? ⟨w.heap.size, 2, none⟩ = some (.slice ax r.2.2.length cx))) (by kernel_rfl) ⟨⟨c0, c3, c4, c5, c6⟩, r0, r1, r2⟩ (fun hHeld => ?_)
    clear c0 c3 c4 c5 c6 r0 r1 r2
    have d1 : w1.drew.cell? ⟨c, 1, none⟩ = some (.slice av rs.length cv) := c1
    have d2 : w1.drew.cell? ⟨c, 2, none⟩ = some (.int .i64 f) := c2
    refine takeD (i := 0) (v := ?_) (some 21) rfl rfl (by kernel_rfl) (by kernel_rfl) (by kernel_rfl) (fun _ _ _ h => h) (by rfl) hHeld ?_ ?_
    rotate_left
    · intro W hSw
      try dsimp only at hSw
      go_simp
      try with_reducible rfl
    try simp only [Act.put]
    try simp only [List.setIfInBounds_toArray]
    try simp only [List.set_cons_succ]
    try simp only [List.set_cons_zero]
    refine takeD (i := 1) (v := ?_) (some 22) rfl rfl (by kernel_rfl) (by kernel_rfl) (by kernel_rfl) (fun _ _ _ h => h) (by rfl) hHeld ?_ ?_
    rotate_left
    · intro W hSw
      try dsimp only at hSw
      go_simp
      try with_reducible rfl
    try simp only [Act.put]
    try simp only [List.setIfInBounds_toArray]
    try simp only [List.set_cons_succ]
    try simp only [List.set_cons_zero]
    refine takeD (i := 2) (v := ?_) (some 23) rfl rfl (by kernel_rfl) (by kernel_rfl) (by kernel_rfl) (fun _ _ _ h => h) (by rfl) hHeld ?_ ?_
    rotate_left
    · intro W hSw
      try dsimp only at hSw
      go_simp
      try with_reducible rfl
    try simp only [Act.put]
    try simp only [List.setIfInBounds_toArray]
    try simp only [List.set_cons_succ]
    try simp only [List.set_cons_zero]
    refine takeD (i := 3) (v := ?_) (some 24) rfl rfl (by kernel_rfl) (by kernel_rfl) (by kernel_rfl) (fun _ _ _ h => h) (by rfl) hHeld ?_ ?_
    rotate_left
    · intro W hSw
      try dsimp only at hSw
      go_simp
      try with_reducible rfl
    try simp only [Act.put]
    try simp only [List.setIfInBounds_toArray]
    try simp only [List.set_cons_succ]
    try simp only [List.set_cons_zero]
    refine takeD (i := 4) (v := ?_) (some 25) rfl rfl (by kernel_rfl) (by kernel_rfl) (by kernel_rfl) (fun _ _ _ h => h) (by rfl) hHeld ?_ ?_
    rotate_left
    · intro W hSw
      try dsimp only at hSw
      go_simp
      try with_reducible rfl
    try simp only [Act.put]
    try simp only [List.setIfInBounds_toArray]
    try simp only [List.set_cons_succ]
    try simp only [List.set_cons_zero]
    refine takeD (i := 6) (v := ?_) (some 27) rfl rfl (by kernel_rfl) (by kernel_rfl) (by kernel_rfl) (fun _ _ _ h => h) (by rfl) hHeld ?_ ?_
    rotate_left
    · intro W hSw
      try dsimp only at hSw
      go_simp
      try with_reducible rfl
    try simp only [Act.put]
    try simp only [List.setIfInBounds_toArray]
    try simp only [List.set_cons_succ]
    try simp only [List.set_cons_zero]
    refine wpAnyH_ready (rs := [5]) (by kernel_rfl) (by simp) ?_
    refine AllReadyH.cons rfl (fun K hK => ?_) AllReadyH.nil
    go_simp
    refine hK.out _ _ hHeld (fun hHeld => ?_)
    clear hK K c1 c2 d1 d2
    refine wpAnyH_ready (rs := [7]) (by kernel_rfl) (by simp) ?_
    refine AllReadyH.cons rfl (fun K hK => ?_) AllReadyH.nil
    go_simp
    refine (HAD.out _ B1.out.drew).mono ?_
    rintro e w2 ⟨a3, c3, rfl, hm2, hb2⟩
    have L2 := hide_it ((Below.refl w1.heap.size w1).drew.trans hb2)
    have B2 := hide_it (B1.out.trans (L2.out.mono B1.out.size))
    have C2 := hide_it (HC.out w2 B2.out).1
    have T2 := hide_it (HC.out w2 B2.out).2.2.2
    have R2 := hide_it (R1.out.after L2.out)
    have O1 := hide_it (HC.out w1 B1.out)
    obtain ⟨ps3, hp3, ho3⟩ := hm2
    have P3 := hide_it hp3
    have O2 : Hid (DkOwn w2 lo w2.heap.size (.slice a3 (rs ++ [r]).length c3) (.slice au ws.length cu) ps3 ws) := O1.out.2.2.1.newLog (by have := C1.out.lt; omega) (by simpa using ho3) L2.out
    obtain ⟨NN, hNN⟩ : ∃ q, Hid ((rs ++ [r]).length = q) := ⟨_, rfl⟩
    rw [hNN.out] at O2 ⊢
    clear hb2 hp3 ho3
    try dsimp only
    obtain ⟨y0, y1, y2, y3, y4, y5, y6⟩ := C2.out.cells7
    refine hK.out _ _ ⟨⟨y0, y3, y4, y5, y6⟩, R2.out.cells3⟩ (fun hHeld => ?_)
    clear hK K
    refine takeD (i := 8) (v := ?_) (some 20) rfl rfl (by kernel_rfl) (by kernel_rfl) (by kernel_rfl) (fun _ _ _ h => h) (by rfl) hHeld ?_ ?_
    rotate_left
    · intro W hSw
      try dsimp only at hSw
      go_simp
      try with_reducible rfl
    try simp only [Act.put]
    try simp only [List.setIfInBounds_toArray]
    try simp only [List.set_cons_succ]
    try simp only [List.set_cons_zero]
    refine takeD (i := 9) (v := ?_) (some 29) rfl rfl (by kernel_rfl) (by kernel_rfl) (by kernel_rfl) (fun _ _ _ h => h) (by rfl) hHeld ?_ ?_
    rotate_left
    · intro W hSw
      try dsimp only at hSw
      go_simp
      try with_reducible rfl
    try simp only [Act.put]
    try simp only [List.setIfInBounds_toArray]
    try simp only [List.set_cons_succ]
    try simp only [List.set_cons_zero]
    refine takeD (i := 10) (v := ?_) (some 30) rfl rfl (by kernel_rfl) (by kernel_rfl) (by kernel_rfl) (fun _ _ _ h => h) (by rfl) hHeld ?_ ?_
    rotate_left
    · intro W hSw
      try dsimp only at hSw
      go_simp
      try with_reducible rfl
    try simp only [Act.put]
    try simp only [List.setIfInBounds_toArray]
    try simp only [List.set_cons_succ]
    try simp only [List.set_cons_zero]
    refine takeD (i := 11) (v := ?_) (some 31) rfl rfl (by kernel_rfl) (by kernel_rfl) (by kernel_rfl) (fun _ _ _ h => h) (by rfl) hHeld ?_ ?_
    rotate_left
    · intro W hSw
      try dsimp only at hSw
      go_simp
      try with_reducible rfl
    try simp only [Act.put]
    try simp only [List.setIfInBounds_toArray]
    try simp only [List.set_cons_succ]
    try simp only [List.set_cons_zero]
    refine takeD (i := 12) (v := ?_) (some 32) rfl rfl (by kernel_rfl) (by kernel_rfl) (by kernel_rfl) (fun _ _ _ h => h) (by rfl) hHeld ?_ ?_
    rotate_left
    · intro W hSw
      try dsimp only at hSw
      go_simp
      try with_reducible rfl
    try simp only [Act.put]
    try simp only [List.setIfInBounds_toArray]
    try simp only [List.set_cons_succ]
    try simp only [List.set_cons_zero]
    refine takeD (i := 13) (v := ?_) (some 33) rfl rfl (by kernel_rfl) (by kernel_rfl) (by kernel_rfl) (fun _ _ _ h => h) (by rfl) hHeld ?_ ?_
    rotate_left
    · intro W hSw
      try dsimp only at hSw
      go_simp
      try with_reducible rfl
    try simp only [Act.put]
    try simp only [List.setIfInBounds_toArray]
    try simp only [List.set_cons_succ]
    try simp only [List.set_cons_zero]
    obtain ⟨yf0, yf1, yf2, yf3, yf4, yf5, yf6⟩ := C2.out.free7
    refine wpAnyH_ready (rs := [14]) (by kernel_rfl) (by simp) ?_
    refine AllReadyH.cons rfl (fun K hK => ?_) AllReadyH.nil
    go_simp
    have C3 := hide_it ((C2.out.set_ 1 (.slice a3 NN c3)).set_ 2 (.int .i64 f))
    have R3 := hide_it ((R2.out.other (a := ⟨c, 1, none⟩) (by simp; omega) (.slice a3 NN c3)).other (a := ⟨c, 2, none⟩) (by simp; omega) (.int .i64 f))
    have O3 := hide_it ((O2.out.setB (j := 1) C2.out (by decide) (by decide) (by decide) (.slice a3 NN c3)).setB (j := 2) (C2.out.set_ 1 _) (by decide) (by decide) (by decide) (.int .i64 f))
    have T3 : Hid (T.Made ((w2.setCell ⟨c, 1, none⟩ (.slice a3 NN c3)).setCell ⟨c, 2, none⟩ (.int .i64 f)) lo (.slice aa ts.length ca) ts) := (T2.out.setB (j := 1) C2.out (by decide) (by decide) (.slice a3 NN c3)).setB (j := 2) (C2.out.set_ 1 _) (by decide) (by decide) (.int .i64 f)
    have M3 : Hid (Mid c (c + 1) w ((w2.setCell ⟨c, 1, none⟩ (.slice a3 NN c3)).setCell ⟨c, 2, none⟩ (.int .i64 f))) := ((Mid.of_below B2.out (Nat.le_refl _)).trans (Mid.one _)).trans (Mid.one _)
    obtain ⟨w3, hw3⟩ : ∃ W, Hid (W = (w2.setCell ⟨c, 1, none⟩ (.slice a3 NN c3)).setCell ⟨c, 2, none⟩ (.int .i64 f)) := ⟨_, rfl⟩
    rw [← hw3.out] at C3 R3 O3 T3 M3 ⊢
    have hs3 : w3.heap.size = w2.heap.size := by rw [hw3.out]; simp
    obtain ⟨x0, x1, x2, x3, x4, x5, x6⟩ := C3.out.cells7
    refine hK.out _ _ ⟨⟨x0, x3, x4, x5, x6⟩, R3.out.cells3⟩ (fun hHeld => ?_)
    refine wpAnyH_done (by kernel_rfl) ?_ _
    clear x0 x1 x2 x3 x4 x5 x6 y0 y1 y2 y3 y4 y5 y6 yf0 yf1 yf2 yf3 yf4 yf5 yf6 hK K
    go_wp2
    go_ret
    refine Or.inr ⟨by rw [HD.out]; rfl, rfl, M3.out, a3, c3, ps3, ?_⟩
    rw [hNN.out]
    exact ⟨C3.out, P3.out, by rw [hs3]; exact O3.out, T3.out⟩

end Go.Proofs.YtkhpjhjfobkmpaaGreatDoor

namespace Go.Proofs.YtkhpjhjfobkmpaaGreatDoor
open Go.RowKit

/-- What comes of a record that somebody asks for. -/
def AsOut (w w' : World) (e : Ending) (c lo : Nat) (up : Bool) (v : Value) (f : Int) (u : Value) (rs : List R) (ws : List Wd) (r : R) : Prop :=
  (rOk r = false ∧ e = .returned (.tuple #[deskV false (.slice none 0 0) 0 (.slice none 0 0), .bool false]) ∧ Below w.heap.size w w') ∨
  (rOk r = true ∧ dkMay up rs r = false ∧ e = .returned (.tuple #[deskV up v f u, .bool false]) ∧ Below w.heap.size w w') ∨
  (rOk r = true ∧ dkMay up rs r = true ∧ Below c w w' ∧ ∃ a3 c3 ps3, e = .returned (.tuple #[deskV up (.slice a3 (rs ++ [r]).length c3) f u, .bool true]) ∧ ps3.map (·.1) = rs ++ [r] ∧ DkOwn w' lo w'.heap.size (.slice a3 (rs ++ [r]).length c3) u ps3 ws)

set_option maxHeartbeats 8000000 in
set_option maxRecDepth 20000 in
theorem asked_any (c lo hi : Nat) (up : Bool) (v : Value) (f : Int) (u all forced : Value) (mb : Option Nat) (ps : List (R × Value)) (rs : List R) (ws : List Wd) (r : R) (x : Value) (a : Addr) (w : World)
    (hc : ClAt w c lo hi up v f u all forced mb ps rs ws (T.ofO rs)) (hlo : lo ≤ c) (hfo : ∃ af nf cf, forced = .slice af nf cf) (hl : tot rs ≤ 1048576) (hx : Ints w x r.2.2) (hrl : r.2.2.length ≤ 1048576) (hok : dkOk up rs f ws = true) (ha : ErrAt w a) :
    Calls Tryz.prog 28 #[.pointer (some ⟨c, 0, none⟩), .agg #[.int .i64 r.1, .int .i64 r.2.1, x]] w fun e w' => AsOut w w' e c lo up v f u rs ws r := by
  have HC : Hid (∀ W, Below w.heap.size w W → ClAt W c lo hi up v f u all forced mb ps rs ws (T.ofO rs)) := fun W h => hc.after h
  have hcl := hc.1.lt
  have HQ : Hid (∀ W, Below w.heap.size w W → Calls Tryz.prog 55 #[.agg #[.int .i64 r.1, .int .i64 r.2.1, x]] W fun e w' => e = .returned (.bool (rOk r)) ∧ Below W.heap.size W w') := fun W h =>
    implOk_any r.1 r.2.1 _ r.2.2 a W (hx.later h (Nat.le_refl _)) hrl (ha.later h (Nat.le_refl _))
  have HW : Hid (rOk r = true → ∀ W, Below w.heap.size w W → Calls Tryz.prog 56 #[.pointer (some ⟨c, 0, none⟩), .agg #[.int .i64 r.1, .int .i64 r.2.1, x]] W fun e w' => WrOut W w' e c lo up f u all forced mb rs ws (T.ofO rs) r) := fun hr W h =>
    write_any c lo hi up v f u all forced mb ps rs ws r x a W (HC.out W h) hlo hfo hl (hx.later h (Nat.le_refl _)) hrl hok hr (ha.later h (Nat.le_refl _))
  obtain ⟨av, cv, au, cu, rfl, rfl⟩ := (hc.2.2.1.at' hc.2.1).shape
  obtain ⟨aa, ca, rfl⟩ := hc.2.2.2.recs.shape
  obtain ⟨af, nf, cf, rfl⟩ := hfo
  obtain ⟨ax, cx, rfl⟩ := hx.shape
  clear hc hx ha hok
  obtain ⟨w0, hw0⟩ : ∃ W, Hid (W = (w.alloc (.cells #[.int .i64 r.1, .int .i64 r.2.1, .slice ax r.2.2.length cx] 56)).alloc (.cells #[.bool false, .slice none 0 0, .int .i64 0, .slice none 0 0] 35)) := ⟨_, rfl⟩
  have B0 : Hid (Below w.heap.size w w0) := by show Below _ _ _; rw [hw0.out]; exact below2 _ _ _
  have R0 : Hid (Blk w0 w.heap.size #[.int .i64 r.1, .int .i64 r.2.1, .slice ax r.2.2.length cx] 56) := by show Blk _ _ _ _; rw [hw0.out]; exact (Blk.new _ _ _).alloc _
  have Z0 : Hid (Blk w0 (w.heap.size + 1) #[.bool false, .slice none 0 0, .int .i64 0, .slice none 0 0] 35) := by show Blk _ _ _ _; rw [hw0.out]; exact Blk.new2 _ _ _ _
  have hs0 : w0.heap.size = w.heap.size + 2 := by rw [hw0.out, size2]
  obtain ⟨QQ, hQQ⟩ : ∃ q, Hid (rOk r = q) := ⟨_, rfl⟩
  rw [hQQ.out] at HQ HW
  go_enter Tryz.func28, Tryz.ntmps28
  go_wp2_with fail
  rw [← hw0.out]
  refine (HQ.out _ B0.out).mono ?_
  rintro e w1 ⟨rfl, hb1⟩
  have B1 := hide_it (B0.out.trans (hb1.mono B0.out.size))
  have R1 := hide_it (R0.out.after hb1)
  have Z1 := hide_it (Z0.out.after hb1)
  have hs1 : w.heap.size + 2 ≤ w1.heap.size := by have := hb1.size; omega
  clear hb1
  cases QQ
  · obtain ⟨z0, z1, z2, z3⟩ := Z1.out.cells4
    obtain ⟨zf0, zf1, zf2, zf3⟩ := Z1.out.free4
    go_wp2
    refine bodyPost_ret (v := .tuple #[deskV false (.slice none 0 0) 0 (.slice none 0 0), .bool false]) (by simp [results, Tryz.results28, go_sem, *]) rfl ?_
    refine Or.inl ⟨hQQ.out, rfl, ?_⟩
    iterate 4 (refine Below.setCell ?_ (by first | (simp; done) | (simp; omega)) _)
    exact B1.out
  · obtain ⟨r0, r1, r2⟩ := R1.out.cells3
    have HW2 := hide_it (HW.out rfl)
    clear HW
    go_wp2_with fail
    refine (HW2.out w1 B1.out).mono ?_
    rintro e w2 ho2
    rcases ho2 with ⟨hd, rfl, hb2⟩ | ⟨hd, rfl, hM2, a3, c3, ps3, hC2⟩
    · have HD := hide_it hd
      have B2 := hide_it (B1.out.trans (hb2.mono B1.out.size))
      have C2 := hide_it (HC.out w2 B2.out).1
      obtain ⟨y0, y1, y2, y3, y4, y5, y6⟩ := C2.out.cells7
      obtain ⟨z0, z1, z2, z3⟩ := (Z1.out.after hb2).cells4
      obtain ⟨zf0, zf1, zf2, zf3⟩ := (Z1.out.after hb2).free4
      clear hd hb2 r0 r1 r2
      go_wp2
      refine bodyPost_ret (v := .tuple #[deskV up (.slice av rs.length cv) f (.slice au ws.length cu), .bool false]) (by simp [results, Tryz.results28, go_sem, *]) rfl ?_
      refine Or.inr (Or.inl ⟨hQQ.out, HD.out, rfl, ?_⟩)
      iterate 4 (refine Below.setCell ?_ (by first | (simp; done) | (simp; omega)) _)
      exact B2.out
    · have HD := hide_it hd
      have O2 := hide_it hC2.2.2.1
      have P2 := hide_it hC2.2.1
      have B2 : Hid (Below c w w2) := (B1.out.mono (by omega)).trans (hM2.below (Nat.le_refl _) (by omega))
      obtain ⟨y0, y1, y2, y3, y4, y5, y6⟩ := hC2.1.cells7
      have Z2 := hide_it (Z1.out.mid hM2 (Or.inr (by omega)))
      obtain ⟨z0, z1, z2, z3⟩ := Z2.out.cells4
      obtain ⟨zf0, zf1, zf2, zf3⟩ := Z2.out.free4
      clear hd hM2 hC2 r0 r1 r2
      go_wp2
      refine bodyPost_ret (v := .tuple #[deskV up (.slice a3 (rs ++ [r]).length c3) f (.slice au ws.length cu), .bool true]) (by simp [results, Tryz.results28, go_sem, *]) rfl ?_
      refine Or.inr (Or.inr ⟨hQQ.out, HD.out, ?_, a3, c3, ps3, rfl, P2.out, ?_⟩)
      · iterate 4 (refine Below.setCell ?_ (by simp; omega) _)
        exact B2.out
      · have e0 := O2.out.setB (j := 0) Z2.out (by decide) (by decide) (by decide) (.bool up)
        have e1 := e0.setB (j := 1) (Z2.out.set_ 0 _) (by decide) (by decide) (by decide) (.slice a3 (rs ++ [r]).length c3)
        have e2 := e1.setB (j := 2) ((Z2.out.set_ 0 _).set_ 1 _) (by decide) (by decide) (by decide) (.int .i64 f)
        have e3 := e2.setB (j := 3) (((Z2.out.set_ 0 _).set_ 1 _).set_ 2 _) (by decide) (by decide) (by decide) (.slice au ws.length cu)
        simpa using e3

/-- What a desk is behind a record that somebody asked for, and whether it was written down. -/
def dkAsk (up : Bool) (rs : List R) (f : Int) (ws : List Wd) (r : R) : Dk × Bool := if dkOk up rs f ws = true ∧ rOk r = true then (if dkMay up rs r = true then ((up, rs ++ [r], f, ws), true) else ((up, rs, f, ws), false)) else (dkZ, false)
def DkO2 (w w' : World) (e : Ending) (o : Dk × Bool) : Prop := DkOut2 w w' e o.1.1 o.1.2.1 o.1.2.2.1 o.1.2.2.2 o.2
theorem DkO2.none_ {w w' : World} (h : Below w.heap.size w w') : DkO2 w w' (.returned (.tuple #[deskV false (.slice none 0 0) 0 (.slice none 0 0), .bool false])) (dkZ, false) := by
  obtain ⟨ps, hp, ho⟩ := Made.none w' w.heap.size
  exact ⟨none, 0, none, 0, ps, rfl, hp, ⟨ho, World.ownsRow_nil _ _ _ _, fun g hg => by simp [Value.ownBlock] at hg⟩, h⟩

end Go.Proofs.YtkhpjhjfobkmpaaGreatDoor

namespace Go.Proofs.YtkhpjhjfobkmpaaGreatDoor
open Go.RowKit

def LwOut (w w' : World) (e : Ending) (lo : Nat) (up : Bool) (v : Value) (f : Int) (u : Value) (rs : List R) (ws : List Wd) (r : R) : Prop :=
  (dkMay up rs r = false ∧ e = .returned (.tuple #[deskV up v f u, .bool false]) ∧ Below w.heap.size w w') ∨
  (dkMay up rs r = true ∧ Below lo w w' ∧ ∃ a3 c3 ps3, e = .returned (.tuple #[deskV up (.slice a3 (rs ++ [r]).length c3) f u, .bool true]) ∧ ps3.map (·.1) = rs ++ [r] ∧ DkTy w' lo w'.heap.size (.slice a3 (rs ++ [r]).length c3) u ps3 ws)

theorem DkTy.setB {w : World} {lo hi b j : Nat} {v u : Value} {ps : List (R × Value)} {ws : List Wd} {cur : Array Value} {ty : TypeId} (h : DkTy w lo hi v u ps ws) (hh : Blk w b cur ty) (h1 : 56 ≠ ty) (h2 : 3 ≠ ty) (h3 : 48 ≠ ty) (x : Value) : DkTy (w.setCell ⟨b, j, Option.none⟩ x) lo hi v u ps ws :=
  ⟨h.1.setB hh h1 h2 x, ownsRow_setCell_ne h.2.1 (fun g hg => row_apart h.2.1 hh h3 g hg) x, h.2.2⟩

set_option maxHeartbeats 16000000 in
set_option maxRecDepth 20000 in
theorem l13Write_any (up : Bool) (v : Value) (f : Int) (u : Value) (ps : List (R × Value)) (rs : List R) (ws : List Wd) (r : R) (ax : Option Addr) (cx lo hi : Nat) (w : World)
    (ho : DkOwn w lo hi v u ps ws) (hp : ps.map (·.1) = rs) (hlo : lo ≤ w.heap.size) (hlh : lo ≤ hi) (hl : tot rs ≤ 1048576) (hx : w.ownsRow hi 3 1 (.slice ax r.2.2.length cx) r.2.2.length (r.2.2.map (Value.int .i64))) (hok : dkOk up rs f ws = true) (hr : rOk r = true) :
    Calls Tryz.prog 23 #[deskV up v f u, .agg #[.int .i64 r.1, .int .i64 r.2.1, .slice ax r.2.2.length cx]] w fun e w' => LwOut w w' e lo up v f u rs ws r := by
  obtain ⟨hf0, hf1, -⟩ := logOk_f (dkOk_log hok)
  have hroom := T.runT_room (run_some hok)
  obtain ⟨ht1, ht6⟩ := T.rOk_trip hr
  have HI := hide_it (ho.in_ hp)
  have HO := hide_it ho
  have HX := hide_it hx
  have HP := hide_it hp
  obtain ⟨av, cv, au, cu, rfl, rfl⟩ := (ho.at' hp).shape
  have HT : Hid (∀ W, Below w.heap.size w W → Calls Tryz.prog 40 #[deskV up (.slice av rs.length cv) f (.slice au ws.length cu), .bool false] W fun e w' => TrL W w' e (T.ofO rs)) := fun W h =>
    l13Trips_any up _ _ rs f ws false W (HI.out.later h (Nat.le_refl _)) hl hf0 hf1
  have hfit := T.ofO_fit rs
  have HM : Hid (∀ (y : Value) (W : World), T.Recs W y (T.ofO rs) → Calls Tryz.prog 47 #[y, .agg #[.int .i64 r.1, .int .i64 r.2.1, .slice ax r.2.2.length cx]] W fun e w' => e = .returned (.bool (T.mayL (T.ofO rs) r)) ∧ Below W.heap.size W w') := fun y W h =>
    T.l12May_any y (T.ofO rs) r.1 r.2.1 _ r.2.2 W h hfit.tot ⟨_, _, _, rfl⟩ ht1 ht6
  have hpl : ps.length = rs.length := by have := congrArg List.length hp; simpa using this
  have HAD : Hid (∀ W, Below w.heap.size w W → Calls Tryz.prog 48 #[.agg #[.slice av rs.length cv, .int .i64 f], .agg #[.int .i64 r.1, .int .i64 r.2.1, .slice ax r.2.2.length cx]] W fun e w' => ∃ g cap' ps3, e = .returned (.tuple #[.agg #[.slice (some ⟨g, 0, none⟩) (rs ++ [r]).length cap', .int .i64 f], .bool true]) ∧ ps3.map (·.1) = rs ++ [r] ∧ DkTy w' lo w'.heap.size (.slice (some ⟨g, 0, none⟩) (rs ++ [r]).length cap') (.slice au ws.length cu) ps3 ws ∧ Below lo W w' ∧ Mid lo hi W w') := fun W h => by
    have hoW := HO.out.below h HO.out.1
    obtain ⟨q0, l0, t, q1', q2, q3', q4, q5'⟩ := hoW
    obtain ⟨l, q1, ql, q3, q5⟩ : ∃ l, lo ≤ l ∧ l ≤ hi ∧ OwnRecs W l t (.slice av rs.length cv) ps ∧ ∀ g, (Value.slice au ws.length cu).ownBlock = some g → g < hi ∧ (g < l ∨ t ≤ g) := by
      by_cases hl0 : l0 ≤ hi
      · exact ⟨l0, q1', hl0, q3', q5'⟩
      · exact ⟨hi, hlh, Nat.le_refl _, q3'.lo' (by omega), fun g hg => ⟨(q5' g hg).1, Or.inl (q5' g hg).1⟩⟩
    have hxW := ownsRow_below HX.out h (fun k hk => (HX.out.lt k hk).2)
    rw [← hpl] at q3 ⊢
    have hadd := l1Add_mid av cv ps f r ax cx l t W q3 (by omega) (ownsRow_base hxW ql) (fun k hk => by have := (hxW.lt k hk).1; omega) (by omega)
    refine hadd.mono ?_
    rintro e w' ⟨g, cap', he, hm, hb, hM⟩
    rw [HP.out] at hm
    obtain ⟨ps3, hp3, ho3⟩ := hm
    have hlen : (rs ++ [r]).length = ps.length + 1 := by rw [List.length_append, hpl]; rfl
    refine ⟨g, cap', ps3, by rw [hlen]; exact he, hp3, ?_, hb.mono q1, ⟨hM.os, hM.tape, hM.output, hM.size, fun j hj hh => hM.block j hj (by omega)⟩⟩
    rw [hlen]
    refine ⟨ho3.lo' q1, ownsRow_mid q4 hM (fun k hk => (q5 k hk).2), fun k hk => by have := (q4.lt k hk).2; have := hM.size; omega⟩
  clear ho hx hok hr hfit hp hf0 hf1
  obtain ⟨ts, hts⟩ : ∃ q, T.ofO rs = q := ⟨_, rfl⟩
  have HD : Hid (dkMay up rs r = (up && T.mayL ts r)) := by show _ = _; unfold dkMay; rw [hts]
  rw [hts] at HT HM
  clear hts
  obtain ⟨MM, hMM⟩ : ∃ q, T.mayL ts r = q := ⟨_, rfl⟩
  rw [hMM] at HM HD
  clear hMM
  have hhi := HO.out.1
  obtain ⟨w0, hw0⟩ : ∃ W, Hid (W = ((w.alloc (.cells #[.bool up, .slice av rs.length cv, .int .i64 f, .slice au ws.length cu] 35)).alloc (.cells #[.int .i64 r.1, .int .i64 r.2.1, .slice ax r.2.2.length cx] 56)).alloc (.cells #[.bool false, .slice none 0 0, .int .i64 0, .slice none 0 0] 35)) := ⟨_, rfl⟩
  have B0 : Hid (Below w.heap.size w w0) := by show Below _ _ _; rw [hw0.out]; exact below3 _ _ _ _
  have X0 : Hid (Blk w0 w.heap.size #[.bool up, .slice av rs.length cv, .int .i64 f, .slice au ws.length cu] 35) := by show Blk _ _ _ _; rw [hw0.out]; exact ((Blk.new _ _ _).alloc _).alloc _
  have R0 : Hid (Blk w0 (w.heap.size + 1) #[.int .i64 r.1, .int .i64 r.2.1, .slice ax r.2.2.length cx] 56) := by show Blk _ _ _ _; rw [hw0.out]; exact (Blk.new2 _ _ _ _).alloc _
  have Z0 : Hid (Blk w0 (w.heap.size + 1 + 1) #[.bool false, .slice none 0 0, .int .i64 0, .slice none 0 0] 35) := by
    show Blk _ _ _ _
    rw [hw0.out]
    have h := Blk.new ((w.alloc (.cells #[.bool up, .slice av rs.length cv, .int .i64 f, .slice au ws.length cu] 35)).alloc (.cells #[.int .i64 r.1, .int .i64 r.2.1, .slice ax r.2.2.length cx] 56)) #[.bool false, .slice none 0 0, .int .i64 0, .slice none 0 0] 35
    rw [size2] at h
    exact h
  have hs0 : w0.heap.size = w.heap.size + 3 := by rw [hw0.out, size3]
  have HS0 := hide_it hs0
  clear hs0
  obtain ⟨x0, x1, x2, x3⟩ := X0.out.cells4
  obtain ⟨r0, r1, r2⟩ := R0.out.cells3
  cases up
  · go_enter Tryz.func23, Tryz.ntmps23
    go_wp2_with fail
    rw [← hw0.out]
    refine wp_region_held_drew (S := fun w' => (w'.cell? ⟨w.heap.size, 0, none⟩ = some (.bool false) ∧ w'.cell? ⟨w.heap.size, 1, none⟩ = some (.slice av rs.length cv) ∧ w'.cell? ⟨w.heap.size, 2, none⟩ = some (.int .i64 f) ∧ w'.cell? ⟨w.heap.size, 3, none⟩ = some (.slice au ws.length cu)) ∧ (w'.cell? ⟨w.heap.size + 1, 0, none⟩ = some (.int .i64 r.1) ∧ w'.cell? ⟨w.heap.size + 1, 1, none⟩ = some (.int .i64 r.2.1) ∧ w'.cell? ⟨w.heap.size + 1, 2, none⟩ = some (.slice ax r.2.2.length cx))) (by kernel_rfl) ⟨⟨x0, x1, x2, x3⟩, r0, r1, r2⟩ (fun hHeld => ?_)
    clear x0 x1 x2 x3 r0 r1 r2
    refine takeD (i := 0) (v := ?_) (some 8) rfl rfl (by kernel_rfl) (by kernel_rfl) (by kernel_rfl) (fun _ _ _ h => h) (by rfl) hHeld ?_ ?_
    rotate_left
    · intro W hSw
      try dsimp only at hSw
      go_simp
      try with_reducible rfl
    try simp only [Act.put]
    try simp only [List.setIfInBounds_toArray]
    try simp only [List.set_cons_succ]
    try simp only [List.set_cons_zero]
    refine takeD (i := 1) (v := ?_) (some 9) rfl rfl (by kernel_rfl) (by kernel_rfl) (by kernel_rfl) (fun _ _ _ h => h) (by rfl) hHeld ?_ ?_
    rotate_left
    · intro W hSw
      try dsimp only at hSw
      go_simp
      try with_reducible rfl
    try simp only [Act.put]
    try simp only [List.setIfInBounds_toArray]
    try simp only [List.set_cons_succ]
    try simp only [List.set_cons_zero]
    refine takeD (i := 2) (v := .bool true) (some 10) rfl rfl (by kernel_rfl) (by kernel_rfl) (by kernel_rfl) (fun _ _ _ h => h) (by rfl) hHeld ?_ ?_
    · intro W hSw
      try dsimp only at hSw
      first | (go_simp; done) | (go_simp; simp [*]; done) | (go_simp; simp; omega)
    try simp only [Act.put]
    try simp only [List.setIfInBounds_toArray]
    try simp only [List.set_cons_succ]
    try simp only [List.set_cons_zero]
    refine takeD (i := 3) (v := .bool true) (some 11) rfl rfl (by kernel_rfl) (by kernel_rfl) (by kernel_rfl) (fun _ _ _ h => h) (by rfl) hHeld ?_ ?_
    · intro W hSw
      try dsimp only at hSw
      first | (go_simp; done) | (go_simp; simp [*]; done) | (go_simp; simp; omega)
    try simp only [Act.put]
    try simp only [List.setIfInBounds_toArray]
    try simp only [List.set_cons_succ]
    try simp only [List.set_cons_zero]
    refine skipD (i := 4) (some 12) rfl rfl (by kernel_rfl) (by kernel_rfl) (by kernel_rfl) (fun _ _ _ h => h) (by rfl) hHeld ?_
    try simp only [Act.put]
    try simp only [List.setIfInBounds_toArray]
    try simp only [List.set_cons_succ]
    try simp only [List.set_cons_zero]
    refine skipD (i := 5) (some 13) rfl rfl (by kernel_rfl) (by kernel_rfl) (by kernel_rfl) (fun _ _ _ h => h) (by rfl) hHeld ?_
    try simp only [Act.put]
    try simp only [List.setIfInBounds_toArray]
    try simp only [List.set_cons_succ]
    try simp only [List.set_cons_zero]
    refine skipD (i := 6) (some 14) rfl rfl (by kernel_rfl) (by kernel_rfl) (by kernel_rfl) (fun _ _ _ h => h) (by rfl) hHeld ?_
    try simp only [Act.put]
    try simp only [List.setIfInBounds_toArray]
    try simp only [List.set_cons_succ]
    try simp only [List.set_cons_zero]
    refine skipD (i := 7) (some 15) rfl rfl (by kernel_rfl) (by kernel_rfl) (by kernel_rfl) (fun _ _ _ h => h) (by rfl) hHeld ?_
    try simp only [Act.put]
    try simp only [List.setIfInBounds_toArray]
    try simp only [List.set_cons_succ]
    try simp only [List.set_cons_zero]
    refine skipD (i := 8) (some 16) rfl rfl (by kernel_rfl) (by kernel_rfl) (by kernel_rfl) (fun _ _ _ h => h) (by rfl) hHeld ?_
    try simp only [Act.put]
    try simp only [List.setIfInBounds_toArray]
    try simp only [List.set_cons_succ]
    try simp only [List.set_cons_zero]
    refine takeD (i := 9) (v := .bool true) (some 17) rfl rfl (by kernel_rfl) (by kernel_rfl) (by kernel_rfl) (fun _ _ _ h => h) (by rfl) hHeld ?_ ?_
    · intro W hSw
      try dsimp only at hSw
      first | (go_simp; done) | (go_simp; simp [*]; done) | (go_simp; simp; omega)
    try simp only [Act.put]
    try simp only [List.setIfInBounds_toArray]
    try simp only [List.set_cons_succ]
    try simp only [List.set_cons_zero]
    refine wpAnyH_done (by kernel_rfl) ?_ _
    obtain ⟨z0, z1, z2, z3⟩ := Z0.out.cells4
    obtain ⟨zf0, zf1, zf2, zf3⟩ := Z0.out.free4
    obtain ⟨x0, x1, x2, x3⟩ := X0.out.cells4
    go_wp2
    refine bodyPost_ret (v := .tuple #[deskV false (.slice av rs.length cv) f (.slice au ws.length cu), .bool false]) (by simp [results, Tryz.results23, go_sem, *]) rfl ?_
    refine Or.inl ⟨by rw [HD.out]; rfl, rfl, ?_⟩
    try refine Below.drew ?_
    iterate 4 (refine Below.setCell ?_ (show w.heap.size ≤ w.heap.size + 1 + 1 by omega) _)
    first | exact B0.out | exact B0.out.drew
  go_enter Tryz.func23, Tryz.ntmps23
  go_wp2_with fail
  rw [← hw0.out]
  refine wp_region_held_drew (S := fun w' => (w'.cell? ⟨w.heap.size, 0, none⟩ = some (.bool true) ∧ w'.cell? ⟨w.heap.size, 1, none⟩ = some (.slice av rs.length cv) ∧ w'.cell? ⟨w.heap.size, 2, none⟩ = some (.int .i64 f) ∧ w'.cell? ⟨w.heap.size, 3, none⟩ = some (.slice au ws.length cu)) ∧ (w'.cell? ⟨w.heap.size + 1, 0, none⟩ = some (.int .i64 r.1) ∧ w'.cell? ⟨w.heap.size + 1, 1, none⟩ = some (.int .i64 r.2.1) ∧ w'.cell? ⟨w.heap.size + 1, 2, none⟩ = some (.slice ax r.2.2.length cx))) (by kernel_rfl) ⟨⟨x0, x1, x2, x3⟩, r0, r1, r2⟩ (fun hHeld => ?_)
  clear x0 x1 x2 x3 r0 r1 r2
  refine takeD (i := 0) (v := ?_) (some 8) rfl rfl (by kernel_rfl) (by kernel_rfl) (by kernel_rfl) (fun _ _ _ h => h) (by rfl) hHeld ?_ ?_
  rotate_left
  · intro W hSw
    try dsimp only at hSw
    go_simp
    try with_reducible rfl
  try simp only [Act.put]
  try simp only [List.setIfInBounds_toArray]
  try simp only [List.set_cons_succ]
  try simp only [List.set_cons_zero]
  refine takeD (i := 1) (v := ?_) (some 9) rfl rfl (by kernel_rfl) (by kernel_rfl) (by kernel_rfl) (fun _ _ _ h => h) (by rfl) hHeld ?_ ?_
  rotate_left
  · intro W hSw
    try dsimp only at hSw
    go_simp
    try with_reducible rfl
  try simp only [Act.put]
  try simp only [List.setIfInBounds_toArray]
  try simp only [List.set_cons_succ]
  try simp only [List.set_cons_zero]
  refine takeD (i := 2) (v := .bool false) (some 10) rfl rfl (by kernel_rfl) (by kernel_rfl) (by kernel_rfl) (fun _ _ _ h => h) (by rfl) hHeld ?_ ?_
  · intro W hSw
    try dsimp only at hSw
    first | (go_simp; done) | (go_simp; simp [*]; done) | (go_simp; simp; omega)
  try simp only [Act.put]
  try simp only [List.setIfInBounds_toArray]
  try simp only [List.set_cons_succ]
  try simp only [List.set_cons_zero]
  refine takeD (i := 3) (v := .bool false) (some 11) rfl rfl (by kernel_rfl) (by kernel_rfl) (by kernel_rfl) (fun _ _ _ h => h) (by rfl) hHeld ?_ ?_
  · intro W hSw
    try dsimp only at hSw
    first | (go_simp; done) | (go_simp; simp [*]; done) | (go_simp; simp; omega)
  try simp only [Act.put]
  try simp only [List.setIfInBounds_toArray]
  try simp only [List.set_cons_succ]
  try simp only [List.set_cons_zero]
  refine takeD (i := 4) (v := ?_) (some 12) rfl rfl (by kernel_rfl) (by kernel_rfl) (by kernel_rfl) (fun _ _ _ h => h) (by rfl) hHeld ?_ ?_
  rotate_left
  · intro W hSw
    try dsimp only at hSw
    go_simp
    try with_reducible rfl
  try simp only [Act.put]
  try simp only [List.setIfInBounds_toArray]
  try simp only [List.set_cons_succ]
  try simp only [List.set_cons_zero]
  refine takeD (i := 6) (v := ?_) (some 14) rfl rfl (by kernel_rfl) (by kernel_rfl) (by kernel_rfl) (fun _ _ _ h => h) (by rfl) hHeld ?_ ?_
  rotate_left
  · intro W hSw
    try dsimp only at hSw
    go_simp
    try with_reducible rfl
  try simp only [Act.put]
  try simp only [List.setIfInBounds_toArray]
  try simp only [List.set_cons_succ]
  try simp only [List.set_cons_zero]
  refine wpAnyH_ready (rs := [5]) (by kernel_rfl) (by simp) ?_
  refine AllReadyH.cons rfl (fun K hK => ?_) AllReadyH.nil
  go_simp
  refine (HT.out _ B0.out.drew).mono ?_
  rintro e w1 ⟨a1, c1, rfl, hm1, hb1⟩
  have L1 := hide_it ((Below.refl w0.heap.size w0).drew.trans hb1)
  have B1 := hide_it (B0.out.trans (L1.out.mono B0.out.size))
  have T1 := hide_it hm1.recs
  clear hb1 hm1
  try dsimp only
  refine hK.out _ _ ⟨(X0.out.after L1.out).cells4, (R0.out.after L1.out).cells3⟩ (fun hHeld => ?_)
  clear hK K
  refine wpAnyH_ready (rs := [7]) (by kernel_rfl) (by simp) ?_
  refine AllReadyH.cons rfl (fun K hK => ?_) AllReadyH.nil
  go_simp
  refine (HM.out _ _ T1.out).mono ?_
  rintro e w2 ⟨rfl, hb2⟩
  have L2 := hide_it (L1.out.trans (hb2.mono L1.out.size))
  have B2 := hide_it (B0.out.trans (L2.out.mono B0.out.size))
  clear hb2
  try dsimp only
  refine hK.out _ _ ⟨(X0.out.after L2.out).cells4, (R0.out.after L2.out).cells3⟩ (fun hHeld => ?_)
  clear hK K
  cases MM
  · refine takeD (i := 8) (v := .bool true) (some 16) rfl rfl (by kernel_rfl) (by kernel_rfl) (by kernel_rfl) (fun _ _ _ h => h) (by rfl) hHeld ?_ ?_
    · intro W hSw
      try dsimp only at hSw
      first | (go_simp; done) | (go_simp; simp [*]; done) | (go_simp; simp; omega)
    try simp only [Act.put]
    try simp only [List.setIfInBounds_toArray]
    try simp only [List.set_cons_succ]
    try simp only [List.set_cons_zero]
    refine takeD (i := 9) (v := .bool true) (some 17) rfl rfl (by kernel_rfl) (by kernel_rfl) (by kernel_rfl) (fun _ _ _ h => h) (by rfl) hHeld ?_ ?_
    · intro W hSw
      try dsimp only at hSw
      first | (go_simp; done) | (go_simp; simp [*]; done) | (go_simp; simp; omega)
    try simp only [Act.put]
    try simp only [List.setIfInBounds_toArray]
    try simp only [List.set_cons_succ]
    try simp only [List.set_cons_zero]
    refine wpAnyH_done (by kernel_rfl) ?_ _
    obtain ⟨z0, z1, z2, z3⟩ := (Z0.out.after L2.out).cells4
    obtain ⟨zf0, zf1, zf2, zf3⟩ := (Z0.out.after L2.out).free4
    obtain ⟨x0, x1, x2, x3⟩ := (X0.out.after L2.out).cells4
    go_wp2
    refine bodyPost_ret (v := .tuple #[deskV true (.slice av rs.length cv) f (.slice au ws.length cu), .bool false]) (by simp [results, Tryz.results23, go_sem, *]) rfl ?_
    refine Or.inl ⟨by rw [HD.out]; rfl, rfl, ?_⟩
    try refine Below.drew ?_
    iterate 4 (refine Below.setCell ?_ (show w.heap.size ≤ w.heap.size + 1 + 1 by omega) _)
    exact B2.out
  · refine takeD (i := 8) (v := .bool false) (some 16) rfl rfl (by kernel_rfl) (by kernel_rfl) (by kernel_rfl) (fun _ _ _ h => h) (by rfl) hHeld ?_ ?_
    · intro W hSw
      try dsimp only at hSw
      first | (go_simp; done) | (go_simp; simp [*]; done) | (go_simp; simp; omega)
    try simp only [Act.put]
    try simp only [List.setIfInBounds_toArray]
    try simp only [List.set_cons_succ]
    try simp only [List.set_cons_zero]
    refine takeD (i := 9) (v := .bool false) (some 17) rfl rfl (by kernel_rfl) (by kernel_rfl) (by kernel_rfl) (fun _ _ _ h => h) (by rfl) hHeld ?_ ?_
    · intro W hSw
      try dsimp only at hSw
      first | (go_simp; done) | (go_simp; simp [*]; done) | (go_simp; simp; omega)
    try simp only [Act.put]
    try simp only [List.setIfInBounds_toArray]
    try simp only [List.set_cons_succ]
    try simp only [List.set_cons_zero]
    refine wpAnyH_done (by kernel_rfl) ?_ _
    obtain ⟨x0, x1, x2, x3⟩ := (X0.out.after L2.out).cells4
    obtain ⟨r0, r1, r2⟩ := (R0.out.after L2.out).cells3
    go_wp2_with fail
    refine (HAD.out w2 B2.out).mono ?_
    rintro e w3 ⟨g, cap', ps3, rfl, hp3, ho3, hb3, hM3⟩
    have hs2 := L2.out.size
    have X3 := hide_it ((X0.out.after L2.out).mid hM3 (Or.inr hhi))
    have Z3 := hide_it ((Z0.out.after L2.out).mid hM3 (Or.inr (by omega)))
    have O3 := hide_it ho3
    have P3 := hide_it hp3
    have B3 : Hid (Below lo w w3) := (B2.out.mono hlo).trans hb3
    have hs3 : w2.heap.size ≤ w3.heap.size := hM3.size
    obtain ⟨NN, hNN⟩ : ∃ q, Hid ((rs ++ [r]).length = q) := ⟨_, rfl⟩
    rw [hNN.out] at O3 ⊢
    clear hp3 ho3 hb3 hM3 x0 x1 x2 x3 r0 r1 r2
    have hxl := X3.out.lt
    have hzl := Z3.out.lt
    obtain ⟨x0, x1, x2, x3⟩ := X3.out.cells4
    obtain ⟨xf0, xf1, xf2, xf3⟩ := X3.out.free4
    obtain ⟨z0, z1, z2, z3⟩ := Z3.out.cells4
    obtain ⟨zf0, zf1, zf2, zf3⟩ := Z3.out.free4
    have k0 := fun x => cellAlloc x0 x
    have k1 := fun x => cellAlloc x1 x
    have k2 := fun x => cellAlloc x2 x
    have k3 := fun x => cellAlloc x3 x
    have p1 := fun x => frozenAlloc xf1 hxl x
    have p2 := fun x => frozenAlloc xf2 hxl x
    have m0 := fun x => cellAlloc z0 x
    have m1 := fun x => cellAlloc z1 x
    have m2 := fun x => cellAlloc z2 x
    have m3 := fun x => cellAlloc z3 x
    have n0 := fun x => frozenAlloc zf0 hzl x
    have n1 := fun x => frozenAlloc zf1 hzl x
    have n2 := fun x => frozenAlloc zf2 hzl x
    have n3 := fun x => frozenAlloc zf3 hzl x
    go_wp2
    refine bodyPost_ret (v := .tuple #[deskV true (.slice (some ⟨g, 0, none⟩) NN cap') f (.slice au ws.length cu), .bool true]) (by simp [results, Tryz.results23, go_sem, *]) rfl ?_
    refine Or.inr ⟨by rw [HD.out]; rfl, ?_, some ⟨g, 0, none⟩, cap', ps3, by rw [hNN.out], P3.out, ?_⟩
    · clear k0 k1 k2 k3 p1 p2 m0 m1 m2 m3 n0 n1 n2 n3 x0 x1 x2 x3 xf0 xf1 xf2 xf3 z0 z1 z2 z3 zf0 zf1 zf2 zf3
      refine Below.alloc ?_ (by simp; omega) _
      iterate 4 (refine Below.setCell ?_ (show lo ≤ w.heap.size + 1 + 1 by omega) _)
      iterate 2 (refine Below.setCell ?_ (show lo ≤ w.heap.size by omega) _)
      exact B3.out
    · clear k0 k1 k2 k3 p1 p2 m0 m1 m2 m3 n0 n1 n2 n3 x0 x1 x2 x3 xf0 xf1 xf2 xf3 z0 z1 z2 z3 zf0 zf1 zf2 zf3
      rw [hNN.out]
      have e1 := O3.out.setB (j := 1) X3.out (by decide) (by decide) (by decide) (.slice (some ⟨g, 0, none⟩) NN cap')
      have e2 := e1.setB (j := 2) (X3.out.set_ 1 _) (by decide) (by decide) (by decide) (.int .i64 f)
      have Y2 := (Z3.out.other (a := ⟨w.heap.size, 1, none⟩) (by simp; omega) (.slice (some ⟨g, 0, none⟩) NN cap')).other (a := ⟨w.heap.size, 2, none⟩) (by simp; omega) (.int .i64 f)
      have f0 := e2.setB (j := 0) Y2 (by decide) (by decide) (by decide) (.bool true)
      have f1 := f0.setB (j := 1) (Y2.set_ 0 _) (by decide) (by decide) (by decide) (.slice (some ⟨g, 0, none⟩) NN cap')
      have f2 := f1.setB (j := 2) ((Y2.set_ 0 _).set_ 1 _) (by decide) (by decide) (by decide) (.int .i64 f)
      have f3 := f2.setB (j := 3) (((Y2.set_ 0 _).set_ 1 _).set_ 2 _) (by decide) (by decide) (by decide) (.slice au ws.length cu)
      exact DkTy.hi (f3.below (alloc_below _ _) (by simp)) (by simp) (Nat.le_refl _)

end Go.Proofs.YtkhpjhjfobkmpaaGreatDoor

namespace Go.Proofs.YtkhpjhjfobkmpaaGreatDoor
open Go.RowKit

theorem recOk_lenD {k t : Int} {zs : List Int} (h : Pl.recOk k t zs = true) : zs.length ≤ 3 := by
  simp only [Pl.recOk, Bool.and_eq_true] at h
  have h2 := h.2
  split at h2
  · simp only [Pl.holdOk, Bool.and_eq_true, beq_iff_eq] at h2; omega
  · split at h2
    · simp only [Pl.manyOk, Bool.and_eq_true, beq_iff_eq] at h2; omega
    · simp only [Bool.and_eq_true, beq_iff_eq] at h2; omega
theorem pre_okD (rs : List R) (h : rs.all rOk = true) : (rs.map fun r => r.2.2.length).sum ≤ 3 * rs.length := by
  induction rs with
  | nil => simp
  | cons r t ih =>
    simp only [List.all_cons, Bool.and_eq_true] at h
    have h1 := ih h.2
    have h2 := recOk_lenD h.1
    simp only [List.map_cons, List.sum_cons, List.length_cons]
    omega
theorem dkAsk_tot (up : Bool) (rs : List R) (f : Int) (ws : List Wd) (r : R) (hl : tot rs ≤ 1048576) (hlw : ws.length ≤ 1048576) (hr : r.2.2.length ≤ 3) : tot (dkAsk up rs f ws r).1.2.1 ≤ 1048576 ∧ (dkAsk up rs f ws r).1.2.2.2.length ≤ 1048576 := by
  unfold dkAsk
  split
  · next h =>
    have h18 := T.runT_room (run_some h.1)
    split
    · refine ⟨?_, hlw⟩
      have hall : rs.all rOk = true := by
        have := dkOk_log h.1
        unfold logOk at this
        simp only [Bool.and_eq_true] at this
        exact this.1
      have h3 := pre_okD rs hall
      show tot (rs ++ [r]) ≤ 1048576
      unfold tot pre
      rw [List.take_length]
      simp
      omega
    · exact ⟨hl, hlw⟩
  · simp [dkZ, tot, pre]
theorem rOk_give (trip : Int) : rOk ((6, trip, []) : R) = Pl.inB trip 1 6 := by
  unfold rOk Pl.recOk
  cases Pl.inB trip 1 6 <;> rfl

end Go.Proofs.YtkhpjhjfobkmpaaGreatDoor
