/- FnExactDeskBegin answers true at every desk and every list of numbers, and they read afterwards as they read before: at every argument DeskBegin answers as its model. The card: the sentinel's variable starts as the program's text lays it. -/
import Derived.Test.YtkhpjhjfobkmpaaGreatDoorBase6
import Derived.Deep.RegionHeld

namespace Go.Proofs.YtkhpjhjfobkmpaaGreatDoor
open Go.RowKit

/-- One more record, its numbers in a row apart from all others. -/
theorem Inner.snocD {w : World} {lo hi hi' : Nat} {ps : List (R × Value)} {p : R × Value} (h : Inner w lo hi ps) (h1 : hi ≤ hi') (h2 : hi' ≤ w.heap.size)
    (ho : w.ownsRow lo 3 1 p.2 p.1.2.2.length (p.1.2.2.map (Value.int .i64))) (hp : ∀ k, p.2.ownBlock = some k → k < hi') (hd : ∀ q ∈ ps, q.2.ownBlock = none ∨ q.2.ownBlock ≠ p.2.ownBlock) : Inner w lo hi' (ps ++ [p]) := by
  refine ⟨h2, fun q hq => ?_, fun i j q r hq hr hij => ?_⟩
  · rcases List.mem_append.1 hq with hq | hq
    · exact ⟨(h.2.1 q hq).1, fun k hk => by have := (h.2.1 q hq).2 k hk; omega⟩
    · simp at hq; subst hq; exact ⟨ho, hp⟩
  · have last : ∀ (c : Nat) (x : R × Value), ¬ c < ps.length → (ps ++ [p])[c]? = some x → c = ps.length ∧ x = p := by
      intro c x hc hx
      rw [List.getElem?_append_right (by omega)] at hx
      have h0 : c - ps.length = 0 := by
        by_cases e : c - ps.length = 0
        · exact e
        · rw [List.getElem?_eq_none (by simp; omega)] at hx; cases hx
      rw [h0] at hx
      simp at hx
      exact ⟨by omega, hx.symm⟩
    by_cases hi1 : i < ps.length
    · rw [List.getElem?_append_left hi1] at hq
      by_cases hj1 : j < ps.length
      · rw [List.getElem?_append_left hj1] at hr
        exact h.2.2 i j q r hq hr hij
      · obtain ⟨_, rfl⟩ := last j r hj1 hr
        exact hd q (List.mem_of_getElem? hq)
    · obtain ⟨e1, rfl⟩ := last i q hi1 hq
      by_cases hj1 : j < ps.length
      · rw [List.getElem?_append_left hj1] at hr
        cases hb : q.2.ownBlock with
        | none => exact Or.inl rfl
        | some k =>
          refine Or.inr fun e => ?_
          rcases hd r (List.mem_of_getElem? hr) with e2 | e2
          · rw [e2] at e; cases e
          · rw [hb] at e2; exact e2 e.symm
      · obtain ⟨e2, _⟩ := last j r hj1 hr
        omega

theorem append_stepD {w3 w4 : World} {W0 hi : Nat} {v v' : Value} {ps : List (R × Value)} {r : R} {u : Value}
    (hrow : w3.ownsRow W0 56 3 v ps.length (flat ps)) (hin : Inner w3 W0 hi ps) (hhi : hi ≤ w3.heap.size)
    (ho : w3.ownsRow W0 3 1 u r.2.2.length (r.2.2.map (Value.int .i64))) (hu : ∀ k, u.ownBlock = some k → k < w3.heap.size) (hd : ∀ q ∈ ps, q.2.ownBlock = none ∨ q.2.ownBlock ≠ u.ownBlock)
    (hown : w4.ownsRow W0 56 3 v' (ps.length + 1) (flat ps ++ [.int .i64 r.1, .int .i64 r.2.1, u])) (hg : w3.grownBy w4 v.ownBlock) :
    w4.ownsRow W0 56 3 v' (ps ++ [(r, u)]).length (flat (ps ++ [(r, u)])) ∧ Inner w4 W0 w4.heap.size (ps ++ [(r, u)]) := by
  refine ⟨?_, ?_⟩
  · rw [flat_append, List.length_append]; exact hown
  · have in3 : Inner w3 W0 w3.heap.size (ps ++ [(r, u)]) := hin.snocD hhi (Nat.le_refl _) ho hu hd
    have h := in3.kept hg (fun p hp => by
      rcases hrow.2 with ⟨hv, _⟩ | ⟨g, cap, cur, hv, _, hh, _⟩
      · by_cases e : p.2.ownBlock = none
        · exact Or.inl e
        · exact Or.inr (by rw [hv]; simpa [Value.ownBlock] using e)
      · refine Or.inr ?_
        rw [hv]
        exact in3.apart hh (by decide) p hp)
    exact h.mono hg.size (Nat.le_refl _)

set_option maxHeartbeats 4000000 in
set_option maxRecDepth 20000 in
theorem l1Add_any (ao : Option Addr) (cap : Nat) (ps : List (R × Value)) (f : Int) (r : R) (au : Option Addr) (cu lo l hi : Nat) (w : World) (hol : OwnRecs w l hi (.slice ao ps.length cap) ps) (hll : lo ≤ l) (hlo : lo ≤ w.heap.size)
    (hu : w.ownsRow lo 3 1 (.slice au r.2.2.length cu) r.2.2.length (r.2.2.map (Value.int .i64))) (hud : ∀ q ∈ ps, q.2.ownBlock = none ∨ q.2.ownBlock ≠ (Value.slice au r.2.2.length cu).ownBlock) (h40 : (ps.length : Int) < 40) :
    Calls Tryz.prog 48 #[.agg #[.slice ao ps.length cap, .int .i64 f], .agg #[.int .i64 r.1, .int .i64 r.2.1, .slice au r.2.2.length cu]] w fun e w' => ∃ g cap', e = .returned (.tuple #[.agg #[.slice (some ⟨g, 0, none⟩) (ps.length + 1) cap', .int .i64 f], .bool true]) ∧ Made w' lo (.slice (some ⟨g, 0, none⟩) (ps.length + 1) cap') (ps.map (·.1) ++ [r]) ∧ Below lo w w' ∧ Mid l hi w w' := by
  have ho := hol.lo' hll
  have HOL := hide_it hol
  clear hol
  obtain ⟨i0, hi0, hz0, hz1, hz2⟩ := info_parts infoRec
  have HO := hide_it ho
  have HU := hide_it hu
  have HUB := hide_it hud
  have HT := hide_it (Trio.new w (.slice ao ps.length cap) f r (.slice au r.2.2.length cu))
  have ROW : Hid (∀ o1 o2 o3 o4, ((((w.alloc o1).alloc o2).alloc o3).alloc o4).ownsRow lo 56 3 (.slice ao ps.length cap) ps.length (flat ps)) := fun o1 o2 o3 o4 => (((ho.1.alloc o1).alloc o2).alloc o3).alloc o4
  clear ho hu hud
  go_enter Tryz.func48, Tryz.ntmps48
  go_wp2_with (at_builtin; refine wpList_append_lies _ rfl _ _ 30 rfl lo 56 i0 (.agg #[.int .i64 0, .int .i64 0, .slice none 0 0]) 3 40 Tryz.underlying30 hi0 hz0 hz1 hz2 rfl (by decide) (.slice ao ps.length cap) ps.length (flat ps) rfl (ROW.out _ _ _ _) ⟨w.heap.size + 3, 0, none⟩ 1 1 [.int .i64 r.1, .int .i64 r.2.1, .slice au r.2.2.length cu] rfl rfl ?c1 (one3 _ _ _) (by decide) ?c3 ?c4 ?c5 _ rfl ?_)
  case c1 =>
    have h := news3 (((w.alloc (.cells #[.slice ao ps.length cap, .int .i64 f] 32)).alloc (.cells #[.int .i64 r.1, .int .i64 r.2.1, .slice au r.2.2.length cu] 56)).alloc (.cells #[.slice none 0 0, .int .i64 0] 32)) r.1 r.2.1 (.slice au r.2.2.length cu) 56
    rw [size3] at h
    exact h
  case c3 => unfold maxLen; omega
  case c4 => omega
  case c5 => simp; omega
  · intro g cap' w5 hown5 hgrow5 _ _
    have hhi := HO.out.2.2.1
    have HT4 := hide_it (HT.out.later (alloc_below _ (.cells #[.int .i64 r.1, .int .i64 r.2.1, .slice au r.2.2.length cu] 56)) (by rw [size3]; exact Nat.le_refl _))
    have HT5 := hide_it (HT4.out.grown hgrow5 (fun k hk => by have := HO.out.2.1 k hk; omega))
    have IN4 := hide_it (HO.out.2.2.below (below4 w (.cells #[.slice ao ps.length cap, .int .i64 f] 32) (.cells #[.int .i64 r.1, .int .i64 r.2.1, .slice au r.2.2.length cu] 56) (.cells #[.slice none 0 0, .int .i64 0] 32) (.cells #[.int .i64 r.1, .int .i64 r.2.1, .slice au r.2.2.length cu] 56)) hhi)
    have HU4 := hide_it ((((HU.out.alloc (.cells #[.slice ao ps.length cap, .int .i64 f] 32)).alloc (.cells #[.int .i64 r.1, .int .i64 r.2.1, .slice au r.2.2.length cu] 56)).alloc (.cells #[.slice none 0 0, .int .i64 0] 32)).alloc (.cells #[.int .i64 r.1, .int .i64 r.2.1, .slice au r.2.2.length cu] 56))
    have st := append_stepD (r := r) (ROW.out _ _ _ _) IN4.out (by simp; omega) HU4.out (fun k hk => (HU4.out.lt k hk).2) HUB.out hown5 hgrow5
    have MD : Hid (Made w5 lo (.slice (some ⟨g, 0, none⟩) (ps.length + 1) cap') (ps.map (·.1) ++ [r])) := by
      refine ⟨ps ++ [(r, .slice au r.2.2.length cu)], by simp, ?_, fun k hk => (st.1.lt k hk).2, st.2⟩
      have h := st.1
      exact h
    have LO5 := hide_it (addBelow (ROW.out _ _ _ _) hgrow5 (by simp; omega))
    have BE5 := hide_it (((below4 w _ _ _ _).mono hlo).trans LO5.out)
    have MI5 := hide_it ((Mid.of_below (lo := l) (hi := hi) (below4 w (.cells #[.slice ao ps.length cap, .int .i64 f] 32) (.cells #[.int .i64 r.1, .int .i64 r.2.1, .slice au r.2.2.length cu] 56) (.cells #[.slice none 0 0, .int .i64 0] 32) (.cells #[.int .i64 r.1, .int .i64 r.2.1, .slice au r.2.2.length cu] 56)) (Nat.le_refl _)).trans (Mid.of_grown hgrow5 (fun k hk => ⟨(HOL.out.1.lt k hk).1, HO.out.2.1 k hk⟩)))
    obtain ⟨⟨l0, l1⟩, ⟨q0, q1, q2⟩, ⟨e0, e1, e2, e3⟩⟩ := HT5.out.cells
    have fz := frozen_of_row w5 w.heap.size 0 _ _ HT5.out.1
    have hz5 : w.heap.size + 4 ≤ w5.heap.size := by have := LO5.out.size; simp at this; omega
    clear hown5 hgrow5 st
    go_wp2
    refine bodyPost_ret (v := .tuple #[.agg #[.slice (some ⟨g, 0, none⟩) (ps.length + 1) cap', .int .i64 f], .bool true]) (by simp [results, Tryz.results48, go_sem, e0, e1]) rfl ⟨g, cap', rfl, ?_, ?_, ?_⟩
    · have a1 := MD.out.setApart (j := 0) HT5.out.1 (.slice (some ⟨g, 0, none⟩) (ps.length + 1) cap')
      have h2 : (w5.setCell ⟨w.heap.size, 0, none⟩ (.slice (some ⟨g, 0, none⟩) (ps.length + 1) cap')).heap[w.heap.size + 2]? = some (.cells #[.slice none 0 0, .int .i64 0] 32 (0, 0)) := by
        rw [Below.heap_setCell _ _ _ _ (by simp)]; exact HT5.out.2.2
      have a2 := a1.setApart (j := 0) h2 (.slice (some ⟨g, 0, none⟩) (ps.length + 1) cap')
      exact a2.setApart (j := 1) (heap_setCell_same _ (w.heap.size + 2) 0 _ _ _ h2) (.int .i64 f)
    · exact ((BE5.out.setCell (by simp; omega) _).setCell (by simp; omega) _).setCell (by simp; omega) _
    · exact ((MI5.out.setUp (by simp) _).setUp (by simp; omega) _).setUp (by simp; omega) _

end Go.Proofs.YtkhpjhjfobkmpaaGreatDoor

namespace Go.Proofs.YtkhpjhjfobkmpaaGreatDoor
open Go.RowKit

def LwOutL (w w' : World) (e : Ending) (lo' lo hi : Nat) (up : Bool) (v : Value) (f : Int) (u : Value) (rs : List R) (ws : List Wd) (r : R) : Prop :=
  (dkMay up rs r = false ∧ e = .returned (.tuple #[deskV up v f u, .bool false]) ∧ Below w.heap.size w w') ∨
  (dkMay up rs r = true ∧ (Below lo' w w' ∧ Mid lo hi w w') ∧ ∃ a3 c3 ps3, e = .returned (.tuple #[deskV up (.slice a3 (rs ++ [r]).length c3) f u, .bool true]) ∧ ps3.map (·.1) = rs ++ [r] ∧ DkTy w' lo' w'.heap.size (.slice a3 (rs ++ [r]).length c3) u ps3 ws)

set_option maxHeartbeats 16000000 in
set_option maxRecDepth 20000 in
theorem l13WriteL_any (up : Bool) (v : Value) (f : Int) (u : Value) (ps : List (R × Value)) (rs : List R) (ws : List Wd) (r : R) (ax : Option Addr) (cx lo' lo hi : Nat) (w : World)
    (ho : DkOwn w lo hi v u ps ws) (hp : ps.map (·.1) = rs) (hlh : lo ≤ hi) (hll : lo' ≤ lo) (hl : tot rs ≤ 1048576) (hxb : ∀ k, (Value.slice ax r.2.2.length cx).ownBlock = some k → k < lo) (hx : w.ownsRow lo' 3 1 (.slice ax r.2.2.length cx) r.2.2.length (r.2.2.map (Value.int .i64))) (hok : dkOk up rs f ws = true) (hr : rOk r = true) :
    Calls Tryz.prog 23 #[deskV up v f u, .agg #[.int .i64 r.1, .int .i64 r.2.1, .slice ax r.2.2.length cx]] w fun e w' => LwOutL w w' e lo' lo hi up v f u rs ws r := by
  obtain ⟨hf0, hf1, -⟩ := logOk_f (dkOk_log hok)
  have hroom := T.runT_room (run_some hok)
  obtain ⟨ht1, ht6⟩ := T.rOk_trip hr
  have HI := hide_it (ho.in_ hp)
  have HO := hide_it ho
  have HX := hide_it hx
  have HP := hide_it hp
  obtain ⟨av, cv, au, cu, rfl, rfl⟩ := (ho.at' hp).shape
  have HT : Hid (∀ W, Below w.heap.size w W → Calls Tryz.prog 40 #[deskV up (.slice av rs.length cv) f (.slice au ws.length cu), .bool false] W fun e w' => TrL W w' e (T.ofO rs)) := fun W h =>
    l13Trips_any up _ _ rs f ws false W (HI.out.later h (Nat.le_refl _)) hl hf0 hf1
  have hfit := T.ofO_fit rs
  have HM : Hid (∀ (y : Value) (W : World), T.Recs W y (T.ofO rs) → Calls Tryz.prog 47 #[y, .agg #[.int .i64 r.1, .int .i64 r.2.1, .slice ax r.2.2.length cx]] W fun e w' => e = .returned (.bool (T.mayL (T.ofO rs) r)) ∧ Below W.heap.size W w') := fun y W h =>
    T.l12May_any y (T.ofO rs) r.1 r.2.1 _ r.2.2 W h hfit.tot ⟨_, _, _, rfl⟩ ht1 ht6
  have hpl : ps.length = rs.length := by have := congrArg List.length hp; simpa using this
  have HAD : Hid (∀ W, Below w.heap.size w W → Calls Tryz.prog 48 #[.agg #[.slice av rs.length cv, .int .i64 f], .agg #[.int .i64 r.1, .int .i64 r.2.1, .slice ax r.2.2.length cx]] W fun e w' => ∃ g cap' ps3, e = .returned (.tuple #[.agg #[.slice (some ⟨g, 0, none⟩) (rs ++ [r]).length cap', .int .i64 f], .bool true]) ∧ ps3.map (·.1) = rs ++ [r] ∧ DkTy w' lo' w'.heap.size (.slice (some ⟨g, 0, none⟩) (rs ++ [r]).length cap') (.slice au ws.length cu) ps3 ws ∧ Below lo' W w' ∧ Mid lo hi W w') := fun W h => by
    have hoW := HO.out.below h HO.out.1
    obtain ⟨q0, l0, t, q1', q2, q3', q4, q5'⟩ := hoW
    obtain ⟨l, q1, ql, q3, q5⟩ : ∃ l, lo ≤ l ∧ l ≤ hi ∧ OwnRecs W l t (.slice av rs.length cv) ps ∧ ∀ g, (Value.slice au ws.length cu).ownBlock = some g → g < hi ∧ (g < l ∨ t ≤ g) := by
      by_cases hl0 : l0 ≤ hi
      · exact ⟨l0, q1', hl0, q3', q5'⟩
      · exact ⟨hi, hlh, Nat.le_refl _, q3'.lo' (by omega), fun g hg => ⟨(q5' g hg).1, Or.inl (q5' g hg).1⟩⟩
    have hxW := ownsRow_below HX.out h (fun k hk => (HX.out.lt k hk).2)
    rw [← hpl] at q3 ⊢
    have hadd := l1Add_any av cv ps f r ax cx lo' l t W q3 (by omega) (by omega) hxW (fun q hq => by
      cases hb : q.2.ownBlock with
      | none => exact Or.inl rfl
      | some k =>
        refine Or.inr fun e => ?_
        have h1 := ((q3.2.2.2.1 q hq).1.lt k hb).1
        have h2 := hxb k e.symm
        omega) (by omega)
    refine hadd.mono ?_
    rintro e w' ⟨g, cap', he, hm, hb, hM⟩
    rw [HP.out] at hm
    obtain ⟨ps3, hp3, ho3⟩ := hm
    have hlen : (rs ++ [r]).length = ps.length + 1 := by rw [List.length_append, hpl]; rfl
    refine ⟨g, cap', ps3, by rw [hlen]; exact he, hp3, ?_, hb, ⟨hM.os, hM.tape, hM.output, hM.size, fun j hj hh => hM.block j hj (by omega)⟩⟩
    rw [hlen]
    refine ⟨ho3, ownsRow_base (base' := lo') (ownsRow_mid q4 hM (fun k hk => (q5 k hk).2)) hll, fun k hk => by have := (q4.lt k hk).2; have := hM.size; omega⟩
  clear ho hx hok hr hfit hp hf0 hf1
  obtain ⟨ts, hts⟩ : ∃ q, T.ofO rs = q := ⟨_, rfl⟩
  have HD : Hid (dkMay up rs r = (up && T.mayL ts r)) := by show _ = _; unfold dkMay; rw [hts]
  rw [hts] at HT HM
  clear hts
  obtain ⟨MM, hMM⟩ : ∃ q, T.mayL ts r = q := ⟨_, rfl⟩
  rw [hMM] at HM HD
  clear hMM
  have hhi := HO.out.1
  obtain ⟨w0, hw0⟩ : ∃ W, Hid (W = ((w.alloc (.cells #[.bool up, .slice av rs.length cv, .int .i64 f, .slice au ws.length cu] 35)).alloc (.cells #[.int .i64 r.1, .int .i64 r.2.1, .slice ax r.2.2.length cx] 56)).alloc (.cells #[.bool false, .slice none 0 0, .int .i64 0, .slice none 0 0] 35)) := ⟨_, rfl⟩
  have B0 : Hid (Below w.heap.size w w0) := by show Below _ _ _; rw [hw0.out]; exact below3 _ _ _ _
  have X0 : Hid (Blk w0 w.heap.size #[.bool up, .slice av rs.length cv, .int .i64 f, .slice au ws.length cu] 35) := by show Blk _ _ _ _; rw [hw0.out]; exact ((Blk.new _ _ _).alloc _).alloc _
  have R0 : Hid (Blk w0 (w.heap.size + 1) #[.int .i64 r.1, .int .i64 r.2.1, .slice ax r.2.2.length cx] 56) := by show Blk _ _ _ _; rw [hw0.out]; exact (Blk.new2 _ _ _ _).alloc _
  have Z0 : Hid (Blk w0 (w.heap.size + 1 + 1) #[.bool false, .slice none 0 0, .int .i64 0, .slice none 0 0] 35) := by
    show Blk _ _ _ _
    rw [hw0.out]
    have h := Blk.new ((w.alloc (.cells #[.bool up, .slice av rs.length cv, .int .i64 f, .slice au ws.length cu] 35)).alloc (.cells #[.int .i64 r.1, .int .i64 r.2.1, .slice ax r.2.2.length cx] 56)) #[.bool false, .slice none 0 0, .int .i64 0, .slice none 0 0] 35
    rw [size2] at h
    exact h
  have hs0 : w0.heap.size = w.heap.size + 3 := by rw [hw0.out, size3]
  have HS0 := hide_it hs0
  clear hs0
  obtain ⟨x0, x1, x2, x3⟩ := X0.out.cells4
  obtain ⟨r0, r1, r2⟩ := R0.out.cells3
  cases up
  · go_enter Tryz.func23, Tryz.ntmps23
    go_wp2_with fail
    rw [← hw0.out]
    refine wp_region_held_drew (S := fun w' => (w'.cell? ⟨w.heap.size, 0, none⟩ = some (.bool false) ∧ w'.cell? ⟨w.heap.size, 1, none⟩ = some (.slice av rs.length cv) ∧ w'.cell? ⟨w.heap.size, 2, none⟩ = some (.int .i64 f) ∧ w'.cell? ⟨w.heap.size, 3, none⟩ = some (.slice au ws.length cu)) ∧ (w'.cell? ⟨w.heap.size + 1, 0, none⟩ = some (.int .i64 r.1) ∧ w'.cell? ⟨w.heap.size + 1, 1, none⟩ = some (.int .i64 r.2.1) ∧ w'.cell? ⟨w.heap.size + 1, 2, none⟩ = some (.slice ax r.2.2.length cx))) (by kernel_rfl) ⟨⟨x0, x1, x2, x3⟩, r0, r1, r2⟩ (fun hHeld => ?_)
    clear x0 x1 x2 x3 r0 r1 r2
    refine takeD (i := 0) (v := ?_) (some 8) rfl rfl (by kernel_rfl) (by kernel_rfl) (by kernel_rfl) (fun _ _ _ h => h) (by rfl) hHeld ?_ ?_
    rotate_left
    · intro W hSw
      try dsimp only at hSw
      go_simp
      try with_reducible rfl
    try simp only [Act.put]
    try simp only [List.setIfInBounds_toArray]
    try simp only [List.set_cons_succ]
    try simp only [List.set_cons_zero]
    refine takeD (i := 1) (v := ?_) (some 9) rfl rfl (by kernel_rfl) (by kernel_rfl) (by kernel_rfl) (fun _ _ _ h => h) (by rfl) hHeld ?_ ?_
    rotate_left
    · intro W hSw
      try dsimp only at hSw
      go_simp
      try with_reducible rfl
    try simp only [Act.put]
    try simp only [List.setIfInBounds_toArray]
    try simp only [List.set_cons_succ]
    try simp only [List.set_cons_zero]
    refine takeD (i := 2) (v := .bool true) (some 10) rfl rfl (by kernel_rfl) (by kernel_rfl) (by kernel_rfl) (fun _ _ _ h => h) (by rfl) hHeld ?_ ?_
    · intro W hSw
      try dsimp only at hSw
      first | (go_simp; done) | (go_simp; simp [*]; done) | (go_simp; simp; omega)
    try simp only [Act.put]
    try simp only [List.setIfInBounds_toArray]
    try simp only [List.set_cons_succ]
    try simp only [List.set_cons_zero]
    refine takeD (i := 3) (v := .bool true) (some 11) rfl rfl (by kernel_rfl) (by kernel_rfl) (by kernel_rfl) (fun _ _ _ h => h) (by rfl) hHeld ?_ ?_
    · intro W hSw
      try dsimp only at hSw
      first | (go_simp; done) | (go_simp; simp [*]; done) | (go_simp; simp; omega)
    try simp only [Act.put]
    try simp only [List.setIfInBounds_toArray]
    try simp only [List.set_cons_succ]
    try simp only [List.set_cons_zero]
    refine skipD (i := 4) (some 12) rfl rfl (by kernel_rfl) (by kernel_rfl) (by kernel_rfl) (fun _ _ _ h => h) (by rfl) hHeld ?_
    try simp only [Act.put]
    try simp only [List.setIfInBounds_toArray]
    try simp only [List.set_cons_succ]
    try simp only [List.set_cons_zero]
    refine skipD (i := 5) (some 13) rfl rfl (by kernel_rfl) (by kernel_rfl) (by kernel_rfl) (fun _ _ _ h => h) (by rfl) hHeld ?_
    try simp only [Act.put]
    try simp only [List.setIfInBounds_toArray]
    try simp only [List.set_cons_succ]
    try simp only [List.set_cons_zero]
    refine skipD (i := 6) (some 14) rfl rfl (by kernel_rfl) (by kernel_rfl) (by kernel_rfl) (fun _ _ _ h => h) (by rfl) hHeld ?_
    try simp only [Act.put]
    try simp only [List.setIfInBounds_toArray]
    try simp only [List.set_cons_succ]
    try simp only [List.set_cons_zero]
    refine skipD (i := 7) (some 15) rfl rfl (by kernel_rfl) (by kernel_rfl) (by kernel_rfl) (fun _ _ _ h => h) (by rfl) hHeld ?_
    try simp only [Act.put]
    try simp only [List.setIfInBounds_toArray]
    try simp only [List.set_cons_succ]
    try simp only [List.set_cons_zero]
    refine skipD (i := 8) (some 16) rfl rfl (by kernel_rfl) (by kernel_rfl) (by kernel_rfl) (fun _ _ _ h => h) (by rfl) hHeld ?_
    try simp only [Act.put]
    try simp only [List.setIfInBounds_toArray]
    try simp only [List.set_cons_succ]
    try simp only [List.set_cons_zero]
    refine takeD (i := 9) (v := .bool true) (some 17) rfl rfl (by kernel_rfl) (by kernel_rfl) (by kernel_rfl) (fun _ _ _ h => h) (by rfl) hHeld ?_ ?_
    · intro W hSw
      try dsimp only at hSw
      first | (go_simp; done) | (go_simp; simp [*]; done) | (go_simp; simp; omega)
    try simp only [Act.put]
    try simp only [List.setIfInBounds_toArray]
    try simp only [List.set_cons_succ]
    try simp only [List.set_cons_zero]
    refine wpAnyH_done (by kernel_rfl) ?_ _
    obtain ⟨z0, z1, z2, z3⟩ := Z0.out.cells4
    obtain ⟨zf0, zf1, zf2, zf3⟩ := Z0.out.free4
    obtain ⟨x0, x1, x2, x3⟩ := X0.out.cells4
    go_wp2
    refine bodyPost_ret (v := .tuple #[deskV false (.slice av rs.length cv) f (.slice au ws.length cu), .bool false]) (by simp [results, Tryz.results23, go_sem, *]) rfl ?_
    refine Or.inl ⟨by rw [HD.out]; rfl, rfl, ?_⟩
    try refine Below.drew ?_
    iterate 4 (refine Below.setCell ?_ (show w.heap.size ≤ w.heap.size + 1 + 1 by omega) _)
    first | exact B0.out | exact B0.out.drew
  go_enter Tryz.func23, Tryz.ntmps23
  go_wp2_with fail
  rw [← hw0.out]
  refine wp_region_held_drew (S := fun w' => (w'.cell? ⟨w.heap.size, 0, none⟩ = some (.bool true) ∧ w'.cell? ⟨w.heap.size, 1, none⟩ = some (.slice av rs.length cv) ∧ w'.cell? ⟨w.heap.size, 2, none⟩ = some (.int .i64 f) ∧ w'.cell? ⟨w.heap.size, 3, none⟩ = some (.slice au ws.length cu)) ∧ (w'.cell? ⟨w.heap.size + 1, 0, none⟩ = some (.int .i64 r.1) ∧ w'.cell? ⟨w.heap.size + 1, 1, none⟩ = some (.int .i64 r.2.1) ∧ w'.cell? ⟨w.heap.size + 1, 2, none⟩ = some (.slice ax r.2.2.length cx))) (by kernel_rfl) ⟨⟨x0, x1, x2, x3⟩, r0, r1, r2⟩ (fun hHeld => ?_)
  clear x0 x1 x2 x3 r0 r1 r2
  refine takeD (i := 0) (v := ?_) (some 8) rfl rfl (by kernel_rfl) (by kernel_rfl) (by kernel_rfl) (fun _ _ _ h => h) (by rfl) hHeld ?_ ?_
  rotate_left
  · intro W hSw
    try dsimp only at hSw
    go_simp
    try with_reducible rfl
  try simp only [Act.put]
  try simp only [List.setIfInBounds_toArray]
  try simp only [List.set_cons_succ]
  try simp only [List.set_cons_zero]
  refine takeD (i := 1) (v := ?_) (some 9) rfl rfl (by kernel_rfl) (by kernel_rfl) (by kernel_rfl) (fun _ _ _ h => h) (by rfl) hHeld ?_ ?_
  rotate_left
  · intro W hSw
    try dsimp only at hSw
    go_simp
    try with_reducible rfl
  try simp only [Act.put]
  try simp only [List.setIfInBounds_toArray]
  try simp only [List.set_cons_succ]
  try simp only [List.set_cons_zero]
  refine takeD (i := 2) (v := .bool false) (some 10) rfl rfl (by kernel_rfl) (by kernel_rfl) (by kernel_rfl) (fun _ _ _ h => h) (by rfl) hHeld ?_ ?_
  · intro W hSw
    try dsimp only at hSw
    first | (go_simp; done) | (go_simp; simp [*]; done) | (go_simp; simp; omega)
  try simp only [Act.put]
  try simp only [List.setIfInBounds_toArray]
  try simp only [List.set_cons_succ]
  try simp only [List.set_cons_zero]
  refine takeD (i := 3) (v := .bool false) (some 11) rfl rfl (by kernel_rfl) (by kernel_rfl) (by kernel_rfl) (fun _ _ _ h => h) (by rfl) hHeld ?_ ?_
  · intro W hSw
    try dsimp only at hSw
    first | (go_simp; done) | (go_simp; simp [*]; done) | (go_simp; simp; omega)
  try simp only [Act.put]
  try simp only [List.setIfInBounds_toArray]
  try simp only [List.set_cons_succ]
  try simp only [List.set_cons_zero]
  refine takeD (i := 4) (v := ?_) (some 12) rfl rfl (by kernel_rfl) (by kernel_rfl) (by kernel_rfl) (fun _ _ _ h => h) (by rfl) hHeld ?_ ?_
  rotate_left
  · intro W hSw
    try dsimp only at hSw
    go_simp
    try with_reducible rfl
  try simp only [Act.put]
  try simp only [List.setIfInBounds_toArray]
  try simp only [List.set_cons_succ]
  try simp only [List.set_cons_zero]
  refine takeD (i := 6) (v := ?_) (some 14) rfl rfl (by kernel_rfl) (by kernel_rfl) (by kernel_rfl) (fun _ _ _ h => h) (by rfl) hHeld ?_ ?_
  rotate_left
  · intro W hSw
    try dsimp only at hSw
    go_simp
    try with_reducible rfl
  try simp only [Act.put]
  try simp only [List.setIfInBounds_toArray]
  try simp only [List.set_cons_succ]
  try simp only [List.set_cons_zero]
  refine wpAnyH_ready (rs := [5]) (by kernel_rfl) (by simp) ?_
  refine AllReadyH.cons rfl (fun K hK => ?_) AllReadyH.nil
  go_simp
  refine (HT.out _ B0.out.drew).mono ?_
  rintro e w1 ⟨a1, c1, rfl, hm1, hb1⟩
  have L1 := hide_it ((Below.refl w0.heap.size w0).drew.trans hb1)
  have B1 := hide_it (B0.out.trans (L1.out.mono B0.out.size))
  have T1 := hide_it hm1.recs
  clear hb1 hm1
  try dsimp only
  refine hK.out _ _ ⟨(X0.out.after L1.out).cells4, (R0.out.after L1.out).cells3⟩ (fun hHeld => ?_)
  clear hK K
  refine wpAnyH_ready (rs := [7]) (by kernel_rfl) (by simp) ?_
  refine AllReadyH.cons rfl (fun K hK => ?_) AllReadyH.nil
  go_simp
  refine (HM.out _ _ T1.out).mono ?_
  rintro e w2 ⟨rfl, hb2⟩
  have L2 := hide_it (L1.out.trans (hb2.mono L1.out.size))
  have B2 := hide_it (B0.out.trans (L2.out.mono B0.out.size))
  clear hb2
  try dsimp only
  refine hK.out _ _ ⟨(X0.out.after L2.out).cells4, (R0.out.after L2.out).cells3⟩ (fun hHeld => ?_)
  clear hK K
  cases MM
  · refine takeD (i := 8) (v := .bool true) (some 16) rfl rfl (by kernel_rfl) (by kernel_rfl) (by kernel_rfl) (fun _ _ _ h => h) (by rfl) hHeld ?_ ?_
    · intro W hSw
      try dsimp only at hSw
      first | (go_simp; done) | (go_simp; simp [*]; done) | (go_simp; simp; omega)
    try simp only [Act.put]
    try simp only [List.setIfInBounds_toArray]
    try simp only [List.set_cons_succ]
    try simp only [List.set_cons_zero]
    refine takeD (i := 9) (v := .bool true) (some 17) rfl rfl (by kernel_rfl) (by kernel_rfl) (by kernel_rfl) (fun _ _ _ h => h) (by rfl) hHeld ?_ ?_
    · intro W hSw
      try dsimp only at hSw
      first | (go_simp; done) | (go_simp; simp [*]; done) | (go_simp; simp; omega)
    try simp only [Act.put]
    try simp only [List.setIfInBounds_toArray]
    try simp only [List.set_cons_succ]
    try simp only [List.set_cons_zero]
    refine wpAnyH_done (by kernel_rfl) ?_ _
    obtain ⟨z0, z1, z2, z3⟩ := (Z0.out.after L2.out).cells4
    obtain ⟨zf0, zf1, zf2, zf3⟩ := (Z0.out.after L2.out).free4
    obtain ⟨x0, x1, x2, x3⟩ := (X0.out.after L2.out).cells4
    go_wp2
    refine bodyPost_ret (v := .tuple #[deskV true (.slice av rs.length cv) f (.slice au ws.length cu), .bool false]) (by simp [results, Tryz.results23, go_sem, *]) rfl ?_
    refine Or.inl ⟨by rw [HD.out]; rfl, rfl, ?_⟩
    try refine Below.drew ?_
    iterate 4 (refine Below.setCell ?_ (show w.heap.size ≤ w.heap.size + 1 + 1 by omega) _)
    exact B2.out
  · refine takeD (i := 8) (v := .bool false) (some 16) rfl rfl (by kernel_rfl) (by kernel_rfl) (by kernel_rfl) (fun _ _ _ h => h) (by rfl) hHeld ?_ ?_
    · intro W hSw
      try dsimp only at hSw
      first | (go_simp; done) | (go_simp; simp [*]; done) | (go_simp; simp; omega)
    try simp only [Act.put]
    try simp only [List.setIfInBounds_toArray]
    try simp only [List.set_cons_succ]
    try simp only [List.set_cons_zero]
    refine takeD (i := 9) (v := .bool false) (some 17) rfl rfl (by kernel_rfl) (by kernel_rfl) (by kernel_rfl) (fun _ _ _ h => h) (by rfl) hHeld ?_ ?_
    · intro W hSw
      try dsimp only at hSw
      first | (go_simp; done) | (go_simp; simp [*]; done) | (go_simp; simp; omega)
    try simp only [Act.put]
    try simp only [List.setIfInBounds_toArray]
    try simp only [List.set_cons_succ]
    try simp only [List.set_cons_zero]
    refine wpAnyH_done (by kernel_rfl) ?_ _
    obtain ⟨x0, x1, x2, x3⟩ := (X0.out.after L2.out).cells4
    obtain ⟨r0, r1, r2⟩ := (R0.out.after L2.out).cells3
    go_wp2_with fail
    refine (HAD.out w2 B2.out).mono ?_
    rintro e w3 ⟨g, cap', ps3, rfl, hp3, ho3, hb3, hM3⟩
    have hs2 := L2.out.size
    have X3 := hide_it ((X0.out.after L2.out).mid hM3 (Or.inr hhi))
    have Z3 := hide_it ((Z0.out.after L2.out).mid hM3 (Or.inr (by omega)))
    have O3 := hide_it ho3
    have P3 := hide_it hp3
    have B3 : Hid (Below lo' w w3) := (B2.out.mono (by omega)).trans hb3
    have hs3 : w2.heap.size ≤ w3.heap.size := hM3.size
    have M3 := hide_it ((Mid.of_below (lo := lo) (hi := hi) B2.out (Nat.le_refl _)).trans hM3)
    obtain ⟨NN, hNN⟩ : ∃ q, Hid ((rs ++ [r]).length = q) := ⟨_, rfl⟩
    rw [hNN.out] at O3 ⊢
    clear hp3 ho3 hb3 hM3 x0 x1 x2 x3 r0 r1 r2
    have hxl := X3.out.lt
    have hzl := Z3.out.lt
    obtain ⟨x0, x1, x2, x3⟩ := X3.out.cells4
    obtain ⟨xf0, xf1, xf2, xf3⟩ := X3.out.free4
    obtain ⟨z0, z1, z2, z3⟩ := Z3.out.cells4
    obtain ⟨zf0, zf1, zf2, zf3⟩ := Z3.out.free4
    have k0 := fun x => cellAlloc x0 x
    have k1 := fun x => cellAlloc x1 x
    have k2 := fun x => cellAlloc x2 x
    have k3 := fun x => cellAlloc x3 x
    have p1 := fun x => frozenAlloc xf1 hxl x
    have p2 := fun x => frozenAlloc xf2 hxl x
    have m0 := fun x => cellAlloc z0 x
    have m1 := fun x => cellAlloc z1 x
    have m2 := fun x => cellAlloc z2 x
    have m3 := fun x => cellAlloc z3 x
    have n0 := fun x => frozenAlloc zf0 hzl x
    have n1 := fun x => frozenAlloc zf1 hzl x
    have n2 := fun x => frozenAlloc zf2 hzl x
    have n3 := fun x => frozenAlloc zf3 hzl x
    go_wp2
    refine bodyPost_ret (v := .tuple #[deskV true (.slice (some ⟨g, 0, none⟩) NN cap') f (.slice au ws.length cu), .bool true]) (by simp [results, Tryz.results23, go_sem, *]) rfl ?_
    refine Or.inr ⟨by rw [HD.out]; rfl, ⟨?_, ?_⟩, some ⟨g, 0, none⟩, cap', ps3, by rw [hNN.out], P3.out, ?_⟩
    · clear k0 k1 k2 k3 p1 p2 m0 m1 m2 m3 n0 n1 n2 n3 x0 x1 x2 x3 xf0 xf1 xf2 xf3 z0 z1 z2 z3 zf0 zf1 zf2 zf3
      refine Below.alloc ?_ (by simp; omega) _
      iterate 4 (refine Below.setCell ?_ (show lo' ≤ w.heap.size + 1 + 1 by omega) _)
      iterate 2 (refine Below.setCell ?_ (show lo' ≤ w.heap.size by omega) _)
      exact B3.out
    · clear k0 k1 k2 k3 p1 p2 m0 m1 m2 m3 n0 n1 n2 n3 x0 x1 x2 x3 xf0 xf1 xf2 xf3 z0 z1 z2 z3 zf0 zf1 zf2 zf3
      refine Mid.trans ?_ (Mid.of_below (alloc_below _ _) (Nat.le_refl _))
      iterate 4 (refine Mid.setUp ?_ (show w.heap.size ≤ w.heap.size + 1 + 1 by omega) _)
      iterate 2 (refine Mid.setUp ?_ (Nat.le_refl w.heap.size) _)
      exact M3.out
    · clear k0 k1 k2 k3 p1 p2 m0 m1 m2 m3 n0 n1 n2 n3 x0 x1 x2 x3 xf0 xf1 xf2 xf3 z0 z1 z2 z3 zf0 zf1 zf2 zf3
      rw [hNN.out]
      have e1 := O3.out.setB (j := 1) X3.out (by decide) (by decide) (by decide) (.slice (some ⟨g, 0, none⟩) NN cap')
      have e2 := e1.setB (j := 2) (X3.out.set_ 1 _) (by decide) (by decide) (by decide) (.int .i64 f)
      have Y2 := (Z3.out.other (a := ⟨w.heap.size, 1, none⟩) (by simp; omega) (.slice (some ⟨g, 0, none⟩) NN cap')).other (a := ⟨w.heap.size, 2, none⟩) (by simp; omega) (.int .i64 f)
      have f0 := e2.setB (j := 0) Y2 (by decide) (by decide) (by decide) (.bool true)
      have f1 := f0.setB (j := 1) (Y2.set_ 0 _) (by decide) (by decide) (by decide) (.slice (some ⟨g, 0, none⟩) NN cap')
      have f2 := f1.setB (j := 2) ((Y2.set_ 0 _).set_ 1 _) (by decide) (by decide) (by decide) (.int .i64 f)
      have f3 := f2.setB (j := 3) (((Y2.set_ 0 _).set_ 1 _).set_ 2 _) (by decide) (by decide) (by decide) (.slice au ws.length cu)
      exact DkTy.hi (f3.below (alloc_below _ _) (by simp)) (by simp) (Nat.le_refl _)

end Go.Proofs.YtkhpjhjfobkmpaaGreatDoor

namespace Go.Proofs.YtkhpjhjfobkmpaaGreatDoor
open Go.RowKit

set_option maxHeartbeats 16000000 in
set_option maxRecDepth 20000 in
theorem specDBegin_any (up : Bool) (v u : Value) (rs : List R) (f : Int) (ws : List Wd) (y : Value) (zs : List Int) (w : World) (hv : DkIn w v u rs ws) (hy : Ints w y zs) (hzl : zs.length ≤ 1048576) (hl : tot rs ≤ 1048576) (hlw : ws.length ≤ 1048576) :
    Calls Tryz.prog 6 #[deskV up v f u, y] w fun e w' => DkO2 w w' e (dkAsk up rs f ws ((4, ((T.ofO rs).length : Int) + 1, zs) : R)) := by
  have hrl := tot_len rs
  have HV : Hid (∀ W, Below w.heap.size w W → DkIn W v u rs ws) := fun W h => hv.later h (Nat.le_refl _)
  have HY : Hid (∀ W, Below w.heap.size w W → Ints W y zs) := fun W h => hy.later h (Nat.le_refl _)
  have HOK : Hid (∀ W, Below w.heap.size w W → Calls Tryz.prog 21 #[deskV up v f u] W fun e w' => e = .returned (.bool (dkOk up rs f ws)) ∧ Below W.heap.size W w') := fun W h =>
    specDeskOk_any up v u rs f ws W (HV.out W h).1 hl hlw hv.2.2
  have HT : Hid (∀ W, Below w.heap.size w W → Calls Tryz.prog 20 #[deskV up v f u, .bool false] W fun e w' => TrL W w' e (dkTrips up rs f ws false)) := fun W h =>
    specDTrips_any up v u rs f ws false W (HV.out W h) hl hlw
  obtain ⟨av, cv, au, cu, rfl, rfl⟩ := hv.1.shape
  obtain ⟨ay, cy, rfl⟩ := hy.shape
  clear hv hy
  have HLL : Hid (dkOk up rs f ws = true → (dkTrips up rs f ws false).length = (T.ofO rs).length) := fun h => by simp [dkTrips, cutF, h]
  have hL6 : (dkTrips up rs f ws false).length ≤ 6 := by
    unfold dkTrips
    split
    · exact (T.ofO_fit _).1
    · simp
  obtain ⟨LS, hLS⟩ : ∃ q, dkTrips up rs f ws false = q := ⟨_, rfl⟩
  rw [hLS] at HT HLL hL6
  clear hLS
  obtain ⟨KK, hKK⟩ : ∃ q, Hid (dkOk up rs f ws = q) := ⟨_, rfl⟩
  rw [hKK.out] at HOK HLL
  obtain ⟨w0, hw0⟩ : ∃ W, Hid (W = (w.alloc (.cells #[.bool up, .slice av rs.length cv, .int .i64 f, .slice au ws.length cu] 35)).alloc (.cells #[.bool false, .slice none 0 0, .int .i64 0, .slice none 0 0] 35)) := ⟨_, rfl⟩
  have B0 : Hid (Below w.heap.size w w0) := by show Below _ _ _; rw [hw0.out]; exact below2 _ _ _
  have X0 : Hid (Blk w0 w.heap.size #[.bool up, .slice av rs.length cv, .int .i64 f, .slice au ws.length cu] 35) := by show Blk _ _ _ _; rw [hw0.out]; exact (Blk.new _ _ _).alloc _
  have Z0 : Hid (Blk w0 (w.heap.size + 1) #[.bool false, .slice none 0 0, .int .i64 0, .slice none 0 0] 35) := by show Blk _ _ _ _; rw [hw0.out]; exact Blk.new2 _ _ _ _
  have hs0 : w0.heap.size = w.heap.size + 2 := by rw [hw0.out, size2]
  go_enter Tryz.func6, Tryz.ntmps6
  go_wp2_with fail
  rw [← hw0.out]
  refine (HT.out _ B0.out).mono ?_
  rintro e w1 ⟨a1, c1, rfl, -, hb1⟩
  have X1 := hide_it (X0.out.after hb1)
  have Z1 := hide_it (Z0.out.after hb1)
  have B1 := hide_it (B0.out.trans (hb1.mono B0.out.size))
  have hs1 : w.heap.size + 2 ≤ w1.heap.size := by have := hb1.size; omega
  clear hb1
  obtain ⟨LL, hLL⟩ : ∃ q, Hid (LS.length = q) := ⟨_, rfl⟩
  rw [hLL.out] at HLL hL6 ⊢
  go_wp2_with (at_builtin; refine wpList_append_ints rfl _ _ rfl w1.heap.size (.slice (some ⟨w1.heap.size, 0, none⟩) 0 0) (.slice ay zs.length cy) 0 [] zs rfl rfl (T.lit0 w1 _ _) (HY.out _ (B1.out.alloc B1.out.size _)) (by omega) (by simp) ?_; intro ax cx w3 hown hgrow; try simp only [Nat.zero_add, List.nil_append] at hown; have hbA : Below w1.heap.size w1 w3 := (((Below.refl w1.heap.size w1).alloc (Nat.le_refl _) _).grown hgrow (by simp) (fun j hj => by simp [Value.ownBlock] at hj; omega)); obtain ⟨x0, x1, x2, x3⟩ := (X1.out.after hbA).cells4; have k0 := fun x => cellAlloc x0 x; have k1 := fun x => cellAlloc x1 x; have k2 := fun x => cellAlloc x2 x; have k3 := fun x => cellAlloc x3 x; have L3 := hide_it hbA; have O3 := hide_it hown; clear hown hgrow hbA)
  clear k0 k1 k2 k3 x0 x1 x2 x3
  obtain ⟨w4, hw4⟩ : ∃ W, Hid (W = w3.alloc (.cells #[.int .i64 4, .int .i64 ((LL : Int) + 1), .slice ax zs.length cx] 56)) := ⟨_, rfl⟩
  rw [← hw4.out]
  have L4 : Hid (Below w1.heap.size w1 w4) := by show Below _ _ _; rw [hw4.out]; exact L3.out.alloc L3.out.size _
  have R4 : Hid (Blk w4 w3.heap.size #[.int .i64 4, .int .i64 ((LL : Int) + 1), .slice ax zs.length cx] 56) := by show Blk _ _ _ _; rw [hw4.out]; exact Blk.new _ _ _
  have B4 := hide_it (B1.out.trans (L4.out.mono B1.out.size))
  have O4 : Hid (w4.ownsRow w1.heap.size 3 1 (.slice ax zs.length cx) zs.length (zs.map (Value.int .i64))) := by show World.ownsRow _ _ _ _ _ _ _; rw [hw4.out]; exact O3.out.alloc _
  have X4 := hide_it (X1.out.after L4.out)
  have Z4 := hide_it (Z1.out.after L4.out)
  have hs4 : w3.heap.size + 1 = w4.heap.size := by rw [hw4.out]; simp
  have hs3 := L3.out.size
  refine (HOK.out _ B4.out).mono ?_
  rintro e w5 ⟨rfl, hb5⟩
  have X5 := hide_it (X4.out.after hb5)
  have Z5 := hide_it (Z4.out.after hb5)
  have R5 := hide_it (R4.out.after hb5)
  have O5 := hide_it (ownsRow_below O4.out hb5 (fun k hk => (O4.out.lt k hk).2))
  have B5 := hide_it (B4.out.trans (hb5.mono B4.out.size))
  have hs5 := hb5.size
  clear hb5
  obtain ⟨z0, z1, z2, z3⟩ := Z5.out.cells4
  obtain ⟨zf0, zf1, zf2, zf3⟩ := Z5.out.free4
  cases KK
  · have HR : Hid (dkAsk up rs f ws ((4, ((T.ofO rs).length : Int) + 1, zs) : R) = (dkZ, false)) := by show _ = _; simp [dkAsk, hKK.out]
    go_wp2
    refine bodyPost_ret (v := .tuple #[deskV false (.slice none 0 0) 0 (.slice none 0 0), .bool false]) (by simp [results, Tryz.results6, go_sem, *]) rfl ?_
    rw [HR.out]
    refine DkO2.none_ ?_
    iterate 4 (refine Below.setCell ?_ (by first | (simp; done) | (simp; omega)) _)
    exact B5.out
  have hLe : LL = (T.ofO rs).length := HLL.out rfl
  have I5 : Ints w5 (.slice ax zs.length cx) zs := ints_of_any O5.out
  have HQ : Hid (Calls Tryz.prog 22 #[.agg #[.int .i64 4, .int .i64 ((LL : Int) + 1), .slice ax zs.length cx]] w5 fun e w' => e = .returned (.bool (rOk ((4, ((T.ofO rs).length : Int) + 1, zs) : R))) ∧ Below w5.heap.size w5 w') := by
    have := specOk_any 4 ((LL : Int) + 1) _ zs w5 I5 hzl
    rw [hLe] at this ⊢
    exact this
  obtain ⟨QQ, hQQ⟩ : ∃ q, Hid (rOk ((4, ((T.ofO rs).length : Int) + 1, zs) : R) = q) := ⟨_, rfl⟩
  rw [hQQ.out] at HQ
  have HLe := hide_it hLe
  clear hLe I5
  obtain ⟨r0, r1, r2⟩ := R5.out.cells3
  go_wp2_with fail
  refine HQ.out.mono ?_
  rintro e w6 ⟨rfl, hb6⟩
  have X6 := hide_it (X5.out.after hb6)
  have Z6 := hide_it (Z5.out.after hb6)
  have R6 := hide_it (R5.out.after hb6)
  have O6 := hide_it (ownsRow_below O5.out hb6 (fun k hk => (O5.out.lt k hk).2))
  have B6 := hide_it (B5.out.trans (hb6.mono B5.out.size))
  have HK6 := hide_it (fun k hk => (O5.out.lt k hk).2)
  have hs6 := hb6.size
  clear hb6 r0 r1 r2 z0 z1 z2 z3 zf0 zf1 zf2 zf3
  obtain ⟨z0, z1, z2, z3⟩ := Z6.out.cells4
  obtain ⟨zf0, zf1, zf2, zf3⟩ := Z6.out.free4
  cases QQ
  · have HR : Hid (dkAsk up rs f ws ((4, ((T.ofO rs).length : Int) + 1, zs) : R) = (dkZ, false)) := by show _ = _; simp [dkAsk, hQQ.out]
    go_wp2
    refine bodyPost_ret (v := .tuple #[deskV false (.slice none 0 0) 0 (.slice none 0 0), .bool false]) (by simp [results, Tryz.results6, go_sem, *]) rfl ?_
    rw [HR.out]
    refine DkO2.none_ ?_
    iterate 4 (refine Below.setCell ?_ (by first | (simp; done) | (simp; omega)) _)
    exact B6.out
  clear z0 z1 z2 z3 zf0 zf1 zf2 zf3
  obtain ⟨x0, x1, x2, x3⟩ := X6.out.cells4
  obtain ⟨r0, r1, r2⟩ := R6.out.cells3
  go_wp2
  refine wp_region_held_drew (S := fun w' => (w'.cell? ⟨w.heap.size, 0, none⟩ = some (.bool up) ∧ w'.cell? ⟨w.heap.size, 1, none⟩ = some (.slice av rs.length cv) ∧ w'.cell? ⟨w.heap.size, 2, none⟩ = some (.int .i64 f) ∧ w'.cell? ⟨w.heap.size, 3, none⟩ = some (.slice au ws.length cu)) ∧ (w'.cell? ⟨w3.heap.size, 0, none⟩ = some (.int .i64 4) ∧ w'.cell? ⟨w3.heap.size, 1, none⟩ = some (.int .i64 ((LL : Int) + 1)) ∧ w'.cell? ⟨w3.heap.size, 2, none⟩ = some (.slice ax zs.length cx))) (by kernel_rfl) ⟨⟨x0, x1, x2, x3⟩, r0, r1, r2⟩ (fun hHeld => ?_)
  clear x0 x1 x2 x3 r0 r1 r2
  refine takeD (i := 0) (v := ?_) (some 24) rfl rfl (by kernel_rfl) (by kernel_rfl) (by kernel_rfl) (fun _ _ _ h => h) (by rfl) hHeld ?_ ?_
  rotate_left
  · intro W hSw
    try dsimp only at hSw
    go_simp
    try with_reducible rfl
  try simp only [Act.put]
  try simp only [List.setIfInBounds_toArray]
  try simp only [List.set_cons_succ]
  try simp only [List.set_cons_zero]
  refine takeD (i := 2) (v := ?_) (some 26) rfl rfl (by kernel_rfl) (by kernel_rfl) (by kernel_rfl) (fun _ _ _ h => h) (by rfl) hHeld ?_ ?_
  rotate_left
  · intro W hSw
    try dsimp only at hSw
    go_simp
    try with_reducible rfl
  try simp only [Act.put]
  try simp only [List.setIfInBounds_toArray]
  try simp only [List.set_cons_succ]
  try simp only [List.set_cons_zero]
  refine wpAnyH_ready (rs := [1]) (by kernel_rfl) (by simp) ?_
  refine AllReadyH.cons rfl (fun K hK => ?_) AllReadyH.nil
  go_simp
  refine (l13Copy_any up _ _ rs f ws _ (HV.out _ B6.out.drew).1 hl hlw).mono ?_
  rintro e w7 ⟨ao, cap, a2, c2, ps, rfl, hp7, ho7, hb7⟩
  have L7 := hide_it ((Below.refl w6.heap.size w6).drew.trans hb7)
  have B7 := hide_it (B6.out.trans (L7.out.mono B6.out.size))
  have P7 := hide_it hp7
  have O7 : Hid (DkOwn w7 w6.heap.size w7.heap.size (.slice ao rs.length cap) (.slice a2 ws.length c2) ps ws) := ho7
  have Z7 := hide_it (Z6.out.after L7.out)
  have hs7 := L7.out.size
  have R7 := hide_it (R6.out.after L7.out)
  have X7 := hide_it (X6.out.after L7.out)
  have HW := hide_it (l13WriteL_any up _ f _ ps rs ws (4, (LL : Int) + 1, zs) ax cx w1.heap.size w6.heap.size w7.heap.size w7 O7.out hp7 hs7 (by omega) hl (fun k hk => by have := (O5.out.lt k hk).2; omega) (ownsRow_below O6.out L7.out (fun k hk => (O6.out.lt k hk).2)) hKK.out (by rw [HLe.out]; exact hQQ.out))
  clear hb7 hp7 ho7
  try dsimp only
  refine hK.out _ _ ⟨X7.out.cells4, R7.out.cells3⟩ (fun hHeld => ?_)
  clear hK K
  refine wpAnyH_ready (rs := [3]) (by kernel_rfl) (by simp) ?_
  refine AllReadyH.cons rfl (fun K hK => ?_) AllReadyH.nil
  go_simp
  refine HW.out.mono ?_
  rintro e w8 ho8
  have hQ2 : Hid (rOk ((4, (LL : Int) + 1, zs) : R) = true) := by show _ = _; rw [HLe.out]; exact hQQ.out
  rcases ho8 with ⟨hd, rfl, hb8⟩ | ⟨hd, hb8, a3, c3, ps3, rfl, hp8, ho9⟩
  · have HR : Hid (dkAsk up rs f ws ((4, ((T.ofO rs).length : Int) + 1, zs) : R) = ((up, rs, f, ws), false)) := by show _ = _; rw [← HLe.out]; simp [dkAsk, hKK.out, hd, hQ2.out]
    have B8 := hide_it (B7.out.trans (hb8.mono B7.out.size))
    have O8 := hide_it (O7.out.below hb8 (Nat.le_refl _))
    have X8 := hide_it (X7.out.after hb8)
    have R8 := hide_it (R7.out.after hb8)
    have Z8 := hide_it (Z7.out.after hb8)
    have hs8 := hb8.size
    clear hd hb8
    try dsimp only
    refine hK.out _ _ ⟨X8.out.cells4, R8.out.cells3⟩ (fun hHeld => ?_)
    clear hK K
    refine takeD (i := 4) (v := ?_) (some 28) rfl rfl (by kernel_rfl) (by kernel_rfl) (by kernel_rfl) (fun _ _ _ h => h) (by rfl) hHeld ?_ ?_
    rotate_left
    · intro W hSw
      try dsimp only at hSw
      go_simp
      try with_reducible rfl
    try simp only [Act.put]
    try simp only [List.setIfInBounds_toArray]
    try simp only [List.set_cons_succ]
    try simp only [List.set_cons_zero]
    refine takeD (i := 5) (v := ?_) (some 29) rfl rfl (by kernel_rfl) (by kernel_rfl) (by kernel_rfl) (fun _ _ _ h => h) (by rfl) hHeld ?_ ?_
    rotate_left
    · intro W hSw
      try dsimp only at hSw
      go_simp
      try with_reducible rfl
    try simp only [Act.put]
    try simp only [List.setIfInBounds_toArray]
    try simp only [List.set_cons_succ]
    try simp only [List.set_cons_zero]
    obtain ⟨z0, z1, z2, z3⟩ := Z8.out.cells4
    obtain ⟨zf0, zf1, zf2, zf3⟩ := Z8.out.free4
    refine wpAnyH_ready (rs := [6]) (by kernel_rfl) (by simp) ?_
    refine AllReadyH.cons rfl (fun K hK => ?_) AllReadyH.nil
    go_simp
    refine hK.out _ _ ?_ (fun hHeld => ?_)
    · have XF := (X8.out.other (a := ⟨w.heap.size + 1, 0, none⟩) (by simp) (.bool up)).other (a := ⟨w.heap.size + 1, 1, none⟩) (by simp) (.slice ao rs.length cap) |>.other (a := ⟨w.heap.size + 1, 2, none⟩) (by simp) (.int .i64 f) |>.other (a := ⟨w.heap.size + 1, 3, none⟩) (by simp) (.slice a2 ws.length c2)
      have RF := (R8.out.other (a := ⟨w.heap.size + 1, 0, none⟩) (by simp; omega) (.bool up)).other (a := ⟨w.heap.size + 1, 1, none⟩) (by simp; omega) (.slice ao rs.length cap) |>.other (a := ⟨w.heap.size + 1, 2, none⟩) (by simp; omega) (.int .i64 f) |>.other (a := ⟨w.heap.size + 1, 3, none⟩) (by simp; omega) (.slice a2 ws.length c2)
      exact ⟨XF.cells4, RF.cells3⟩
    clear hK K
    refine takeD (i := 7) (v := ?_) (some 5) rfl rfl (by kernel_rfl) (by kernel_rfl) (by kernel_rfl) (fun _ _ _ h => h) (by rfl) hHeld ?_ ?_
    rotate_left
    · intro W hSw
      try dsimp only at hSw
      go_simp
      try with_reducible rfl
    try simp only [Act.put]
    try simp only [List.setIfInBounds_toArray]
    try simp only [List.set_cons_succ]
    try simp only [List.set_cons_zero]
    refine wpAnyH_done (by kernel_rfl) ?_ _
    go_wp2
    refine bodyPost_ret (v := .tuple #[deskV up (.slice ao rs.length cap) f (.slice a2 ws.length c2), .bool false]) (by simp [results, Tryz.results6, go_sem, *]) rfl ?_
    rw [HR.out]
    refine ⟨ao, cap, a2, c2, ps, rfl, P7.out, ?_, ?_⟩
    · refine DkOwn.ty (DkOwn.lo ?_ (show w.heap.size ≤ w6.heap.size by omega))
      iterate 4 (refine DkOwn.setBelow ?_ (by omega) _)
      simpa using O8.out.hi (by omega) (Nat.le_refl _)
    · iterate 4 (refine Below.setCell ?_ (by first | (simp; done) | (simp; omega)) _)
      exact B8.out
  · have HR : Hid (dkAsk up rs f ws ((4, ((T.ofO rs).length : Int) + 1, zs) : R) = ((up, rs ++ [(4, (LL : Int) + 1, zs)], f, ws), true)) := by show _ = _; rw [← HLe.out]; simp [dkAsk, hKK.out, hd, hQ2.out]
    obtain ⟨hb8, hM8⟩ := hb8
    have B8 : Hid (Below w.heap.size w w8) := B7.out.trans (hb8.mono (by omega))
    have O8 := hide_it ho9
    have P8 := hide_it hp8
    have X8 := hide_it (X7.out.mid hM8 (Or.inl (by omega)))
    have R8 := hide_it (R7.out.mid hM8 (Or.inl (by omega)))
    have Z8 := hide_it (Z7.out.mid hM8 (Or.inl (by omega)))
    obtain ⟨NN, hNN⟩ : ∃ q, Hid ((rs ++ [((4, (LL : Int) + 1, zs) : R)]).length = q) := ⟨_, rfl⟩
    rw [hNN.out] at O8 ⊢
    have hs8 := hM8.size
    clear hd hb8 hM8 hp8 ho9
    try dsimp only
    refine hK.out _ _ ⟨X8.out.cells4, R8.out.cells3⟩ (fun hHeld => ?_)
    clear hK K
    refine takeD (i := 4) (v := ?_) (some 28) rfl rfl (by kernel_rfl) (by kernel_rfl) (by kernel_rfl) (fun _ _ _ h => h) (by rfl) hHeld ?_ ?_
    rotate_left
    · intro W hSw
      try dsimp only at hSw
      go_simp
      try with_reducible rfl
    try simp only [Act.put]
    try simp only [List.setIfInBounds_toArray]
    try simp only [List.set_cons_succ]
    try simp only [List.set_cons_zero]
    refine takeD (i := 5) (v := ?_) (some 29) rfl rfl (by kernel_rfl) (by kernel_rfl) (by kernel_rfl) (fun _ _ _ h => h) (by rfl) hHeld ?_ ?_
    rotate_left
    · intro W hSw
      try dsimp only at hSw
      go_simp
      try with_reducible rfl
    try simp only [Act.put]
    try simp only [List.setIfInBounds_toArray]
    try simp only [List.set_cons_succ]
    try simp only [List.set_cons_zero]
    obtain ⟨z0, z1, z2, z3⟩ := Z8.out.cells4
    obtain ⟨zf0, zf1, zf2, zf3⟩ := Z8.out.free4
    refine wpAnyH_ready (rs := [6]) (by kernel_rfl) (by simp) ?_
    refine AllReadyH.cons rfl (fun K hK => ?_) AllReadyH.nil
    go_simp
    refine hK.out _ _ ?_ (fun hHeld => ?_)
    · have XF := (X8.out.other (a := ⟨w.heap.size + 1, 0, none⟩) (by simp) (.bool up)).other (a := ⟨w.heap.size + 1, 1, none⟩) (by simp) (.slice a3 NN c3) |>.other (a := ⟨w.heap.size + 1, 2, none⟩) (by simp) (.int .i64 f) |>.other (a := ⟨w.heap.size + 1, 3, none⟩) (by simp) (.slice a2 ws.length c2)
      have RF := (R8.out.other (a := ⟨w.heap.size + 1, 0, none⟩) (by simp; omega) (.bool up)).other (a := ⟨w.heap.size + 1, 1, none⟩) (by simp; omega) (.slice a3 NN c3) |>.other (a := ⟨w.heap.size + 1, 2, none⟩) (by simp; omega) (.int .i64 f) |>.other (a := ⟨w.heap.size + 1, 3, none⟩) (by simp; omega) (.slice a2 ws.length c2)
      exact ⟨XF.cells4, RF.cells3⟩
    clear hK K
    refine takeD (i := 7) (v := ?_) (some 5) rfl rfl (by kernel_rfl) (by kernel_rfl) (by kernel_rfl) (fun _ _ _ h => h) (by rfl) hHeld ?_ ?_
    rotate_left
    · intro W hSw
      try dsimp only at hSw
      go_simp
      try with_reducible rfl
    try simp only [Act.put]
    try simp only [List.setIfInBounds_toArray]
    try simp only [List.set_cons_succ]
    try simp only [List.set_cons_zero]
    refine wpAnyH_done (by kernel_rfl) ?_ _
    go_wp2
    refine bodyPost_ret (v := .tuple #[deskV up (.slice a3 NN c3) f (.slice a2 ws.length c2), .bool true]) (by simp [results, Tryz.results6, go_sem, *]) rfl ?_
    rw [HR.out]
    refine ⟨a3, c3, a2, c2, ps3, by rw [hNN.out], P8.out, ?_, ?_⟩
    · rw [hNN.out]
      have e0 := O8.out.setB (j := 0) Z8.out (by decide) (by decide) (by decide) (.bool up)
      have e1 := e0.setB (j := 1) (Z8.out.set_ 0 _) (by decide) (by decide) (by decide) (.slice a3 NN c3)
      have e2 := e1.setB (j := 2) ((Z8.out.set_ 0 _).set_ 1 _) (by decide) (by decide) (by decide) (.int .i64 f)
      have e3 := e2.setB (j := 3) (((Z8.out.set_ 0 _).set_ 1 _).set_ 2 _) (by decide) (by decide) (by decide) (.slice a2 ws.length c2)
      have e4 := (e3.hi (hi' := w8.heap.size) (Nat.le_refl _) (by simp)).lo (show w.heap.size ≤ w1.heap.size by omega)
      simpa using e4
    · iterate 4 (refine Below.setCell ?_ (by first | (simp; done) | (simp; omega)) _)
      exact B8.out

end Go.Proofs.YtkhpjhjfobkmpaaGreatDoor

namespace Go.Proofs.YtkhpjhjfobkmpaaGreatDoor
open Go.RowKit

set_option maxHeartbeats 8000000 in
set_option maxRecDepth 20000 in
theorem implDBegin_any (up : Bool) (v u : Value) (rs : List R) (f : Int) (ws : List Wd) (y : Value) (zs : List Int) (a : Addr) (w : World) (hv : DkIn w v u rs ws) (hy : Ints w y zs) (hzl : zs.length ≤ 1048576) (hl : tot rs ≤ 1048576) (hlw : ws.length ≤ 1048576) (ha : ErrAt w a) :
    Calls Tryz.prog 9 #[deskV up v f u, y] w fun e w' => DkO2 w w' e (dkAsk up rs f ws (4, ((T.ofO rs).length : Int) + 1, zs)) := by
  have hrl := tot_len rs
  have HC : Hid (∀ W, Below w.heap.size w W → Calls Tryz.prog 27 #[deskV up v f u] W fun e w' => ClOut W w' e up rs f ws) := fun W h =>
    clerkOf_any up v u rs f ws a W (hv.1.later h (Nat.le_refl _)) hl hlw hv.2.1 (ha.later h (Nat.le_refl _))
  have HA : Hid (∀ W, Below w.heap.size w W → ErrAt W a) := fun W h => ha.later h (Nat.le_refl _)
  have HY : Hid (∀ W, Below w.heap.size w W → Ints W y zs) := fun W h => hy.later h (Nat.le_refl _)
  obtain ⟨ay, cy, rfl⟩ := hy.shape
  obtain ⟨av, cv, au, cu, rfl, rfl⟩ := hv.1.shape
  have hO6 := (T.ofO_fit rs).1
  clear hv ha hy
  obtain ⟨w0, hw0⟩ : ∃ W, Hid (W = (w.alloc (.cells #[.bool up, .slice av rs.length cv, .int .i64 f, .slice au ws.length cu] 35)).alloc (.cells #[.bool false, .slice none 0 0, .int .i64 0, .slice none 0 0] 35)) := ⟨_, rfl⟩
  have B0 : Hid (Below w.heap.size w w0) := by show Below _ _ _; rw [hw0.out]; exact below2 _ _ _
  have Z0 : Hid (Blk w0 (w.heap.size + 1) #[.bool false, .slice none 0 0, .int .i64 0, .slice none 0 0] 35) := by show Blk _ _ _ _; rw [hw0.out]; exact Blk.new2 _ _ _ _
  have hs0 : w0.heap.size = w.heap.size + 2 := by rw [hw0.out, size2]
  go_enter Tryz.func9, Tryz.ntmps9
  go_wp2_with fail
  rw [← hw0.out]
  refine (HC.out _ B0.out).mono ?_
  rintro e w1 ⟨hb1, hc⟩
  have Z1 := hide_it (Z0.out.after hb1)
  have B1 := hide_it (B0.out.trans (hb1.mono B0.out.size))
  have hs1 : w.heap.size + 2 ≤ w1.heap.size := by have := hb1.size; omega
  clear hb1
  obtain ⟨z0, z1, z2, z3⟩ := Z1.out.cells4
  obtain ⟨zf0, zf1, zf2, zf3⟩ := Z1.out.free4
  have k0 := fun x => cellAlloc z0 x
  have k1 := fun x => cellAlloc z1 x
  have k2 := fun x => cellAlloc z2 x
  have k3 := fun x => cellAlloc z3 x
  have q0 := fun x => frozenAlloc zf0 (by omega) x
  have q1 := fun x => frozenAlloc zf1 (by omega) x
  have q2 := fun x => frozenAlloc zf2 (by omega) x
  have q3 := fun x => frozenAlloc zf3 (by omega) x
  rcases hc with ⟨hok, rfl⟩ | ⟨hok, ao, cap, a2, c2, aa, ca, af, cf, b, ps, rfl, hp2, ho2, hma, hmf, -⟩
  · have HR : Hid (dkAsk up rs f ws (4, ((T.ofO rs).length : Int) + 1, zs) = (dkZ, false)) := by show _ = _; simp [dkAsk, hok]
    clear hok
    go_wp2
    refine bodyPost_ret (v := .tuple #[deskV false (.slice none 0 0) 0 (.slice none 0 0), .bool false]) (by simp [results, Tryz.results9, go_sem, *]) rfl ?_
    rw [HR.out]
    refine DkO2.none_ ?_
    iterate 4 (refine Below.setCell ?_ (by first | (simp; done) | (simp; omega)) _)
    exact B1.out.alloc (by omega) _
  obtain ⟨wA, hwA⟩ : ∃ W, Hid (W = w1.alloc (.cells #[.bool up, .slice ao rs.length cap, .int .i64 f, .slice a2 ws.length c2, .slice aa (T.ofO rs).length ca, .slice af (T.ofO (rs.take f.toNat)).length cf, .map (some b)] 66)) := ⟨_, rfl⟩
  have LA : Hid (Below w1.heap.size w1 wA) := by show Below _ _ _; rw [hwA.out]; exact alloc_below _ _
  have BA := hide_it (B1.out.trans (LA.out.mono B1.out.size))
  have hsA : w1.heap.size + 1 = wA.heap.size := by rw [hwA.out]; simp
  have ZA := hide_it (Z1.out.after LA.out)
  have CA : Hid (ClAt wA w1.heap.size w0.heap.size w1.heap.size up (.slice ao rs.length cap) f (.slice a2 ws.length c2) (.slice aa (T.ofO rs).length ca) (.slice af (T.ofO (rs.take f.toNat)).length cf) (some b) ps rs ws (T.ofO rs)) := by
    refine ⟨?_, hp2, ho2.below LA.out (Nat.le_refl _), (hma.below LA.out (Nat.le_refl _))⟩
    rw [hwA.out]
    exact Blk.new _ _ _
  have HOK := hide_it hok
  have IA := HY.out wA BA.out
  have HW := hide_it (asked_any w1.heap.size w0.heap.size w1.heap.size up _ f _ _ _ (some b) ps rs ws (4, ((T.ofO rs).length : Int) + 1, zs) _ a wA CA.out (by omega) ⟨_, _, _, rfl⟩ hl IA hzl hok (HA.out _ BA.out))
  have OA := hide_it CA.out.2.2.1
  have P2 := hide_it hp2
  clear hp2 ho2 hma hmf hok IA
  go_wp2_with fail
  rw [← hwA.out]
  refine HW.out.mono ?_
  rintro e w2 ho2
  clear k0 k1 k2 k3 q0 q1 q2 q3 z0 z1 z2 z3 zf0 zf1 zf2 zf3
  rcases ho2 with ⟨hr, rfl, hb2⟩ | ⟨hr, hd, rfl, hb2⟩ | ⟨hr, hd, hb2, a3, c3, ps3, rfl, hp3, ho3⟩
  · have HR : Hid (dkAsk up rs f ws (4, ((T.ofO rs).length : Int) + 1, zs) = (dkZ, false)) := by show _ = _; simp [dkAsk, hr]
    have B2 := hide_it (BA.out.trans (hb2.mono BA.out.size))
    obtain ⟨z0, z1, z2, z3⟩ := (ZA.out.after hb2).cells4
    obtain ⟨zf0, zf1, zf2, zf3⟩ := (ZA.out.after hb2).free4
    clear hr hb2
    go_wp2
    refine bodyPost_ret (v := .tuple #[deskV false (.slice none 0 0) 0 (.slice none 0 0), .bool false]) (by simp [results, Tryz.results9, go_sem, *]) rfl ?_
    rw [HR.out]
    refine DkO2.none_ ?_
    iterate 4 (refine Below.setCell ?_ (by first | (simp; done) | (simp; omega)) _)
    exact B2.out
  · have HR : Hid (dkAsk up rs f ws (4, ((T.ofO rs).length : Int) + 1, zs) = ((up, rs, f, ws), false)) := by show _ = _; simp [dkAsk, hr, hd, HOK.out]
    have B2 := hide_it (BA.out.trans (hb2.mono BA.out.size))
    have O2 := hide_it (OA.out.below hb2 (by omega))
    have hs2 := hb2.size
    obtain ⟨z0, z1, z2, z3⟩ := (ZA.out.after hb2).cells4
    obtain ⟨zf0, zf1, zf2, zf3⟩ := (ZA.out.after hb2).free4
    clear hr hd hb2
    go_wp2
    refine bodyPost_ret (v := .tuple #[deskV up (.slice ao rs.length cap) f (.slice a2 ws.length c2), .bool false]) (by simp [results, Tryz.results9, go_sem, *]) rfl ?_
    rw [HR.out]
    refine ⟨ao, cap, a2, c2, ps, rfl, P2.out, ?_, ?_⟩
    · refine DkOwn.ty (DkOwn.lo (lo := w0.heap.size) ?_ (by omega))
      iterate 4 (refine DkOwn.setBelow ?_ (by omega) _)
      simpa using O2.out.hi (by omega) (Nat.le_refl _)
    · iterate 4 (refine Below.setCell ?_ (by first | (simp; done) | (simp; omega)) _)
      exact B2.out
  · have HR : Hid (dkAsk up rs f ws (4, ((T.ofO rs).length : Int) + 1, zs) = ((up, rs ++ [(4, ((T.ofO rs).length : Int) + 1, zs)], f, ws), true)) := by show _ = _; simp [dkAsk, hr, hd, HOK.out]
    have B2 : Hid (Below w.heap.size w w2) := BA.out.trans (hb2.mono (by omega))
    have O3 := hide_it ho3
    have P3 := hide_it hp3
    have Z2 := hide_it (ZA.out.later hb2 (by omega))
    obtain ⟨z0, z1, z2, z3⟩ := Z2.out.cells4
    obtain ⟨zf0, zf1, zf2, zf3⟩ := Z2.out.free4
    have hzz := Z2.out.lt
    clear hr hd hb2 hp3 ho3
    go_wp2
    refine bodyPost_ret (v := .tuple #[deskV up (.slice a3 (rs ++ [(4, ((T.ofO rs).length : Int) + 1, zs)]).length c3) f (.slice a2 ws.length c2), .bool true]) (by simp [results, Tryz.results9, go_sem, *]) rfl ?_
    rw [HR.out]
    refine ⟨a3, c3, a2, c2, ps3, rfl, P3.out, ?_, ?_⟩
    · refine DkOwn.ty (DkOwn.lo (lo := w0.heap.size) ?_ (by omega))
      iterate 4 (refine DkOwn.setBelow ?_ (by omega) _)
      simpa using O3.out
    · iterate 4 (refine Below.setCell ?_ (by first | (simp; done) | (simp; omega)) _)
      exact B2.out

end Go.Proofs.YtkhpjhjfobkmpaaGreatDoor

namespace Go.Proofs.YtkhpjhjfobkmpaaGreatDoor
open Go.RowKit

theorem Mid.widen {lo hi lo' hi' : Nat} {w w' : World} (h : Mid lo hi w w') (h1 : lo' ≤ lo) (h2 : hi ≤ hi') : Mid lo' hi' w w' := by
  obtain ⟨a, b, c, d, e⟩ := h
  exact ⟨a, b, c, d, fun k hk hb => e k hk (by omega)⟩

theorem rOk_len3 {r : R} (h : rOk r = true) : r.2.2.length ≤ 3 := by
  unfold rOk Pl.recOk at h
  simp only [Bool.and_eq_true] at h
  have h2 := h.2
  by_cases h1 : r.1 = 1
  · rw [if_pos h1] at h2
    simp [Pl.holdOk] at h2; omega
  · rw [if_neg h1] at h2
    by_cases h4 : r.1 = 4
    · rw [if_pos h4] at h2
      simp [Pl.manyOk] at h2; omega
    · rw [if_neg h4] at h2
      simp only [Bool.and_eq_true, beq_iff_eq] at h2; omega

theorem dkAsk_tot2 (up : Bool) (rs : List R) (f : Int) (ws : List Wd) (r : R) (hl : tot rs ≤ 1048576) (hlw : ws.length ≤ 1048576) : tot (dkAsk up rs f ws r).1.2.1 ≤ 1048576 ∧ (dkAsk up rs f ws r).1.2.2.2.length ≤ 1048576 := by
  by_cases hr : r.2.2.length ≤ 3
  · exact dkAsk_tot up rs f ws r hl hlw hr
  · have h0 : rOk r = false := by
      cases h : rOk r
      · rfl
      · exact absurd (rOk_len3 h) hr
    have : dkAsk up rs f ws r = (dkZ, false) := by simp [dkAsk, h0]
    rw [this]
    simp [dkZ, tot, pre]

set_option maxHeartbeats 1000000 in
theorem lawDBegin_great0 (up : Bool) (v u : Value) (rs : List R) (f : Int) (ws : List Wd) (y : Value) (zs : List Int) (w : World) (hv : DkAt w v u rs ws) (hy : Ints w y zs) (hzl : 1048576 < (zs.length : Int)) :
    Calls Tryz.prog 3 #[deskV up v f u, y] w fun e w' => e = .returned (.bool true) ∧ Below w.heap.size w w' := by
  obtain ⟨av, cv, au, cu, rfl, rfl⟩ := hv.shape
  obtain ⟨ay, cy, rfl⟩ := hy.shape
  clear hv hy
  go_enter Tryz.func3, Tryz.ntmps3
  go_wp2
  go_ret
  exact ⟨rfl, alloc_below w _⟩

set_option maxHeartbeats 1000000 in
theorem lawDBegin_great (up : Bool) (v u : Value) (rs : List R) (f : Int) (ws : List Wd) (y : Value) (zs : List Int) (w : World) (hv : DkAt w v u rs ws) (hy : Ints w y zs) (hzl : zs.length ≤ 1048576) (hl : (rs.length : Int) ≤ 9223372036854775807) (hls : ∀ r ∈ rs, (r.2.2.length : Int) ≤ 9223372036854775807) (hlw : (ws.length : Int) ≤ 9223372036854775807) (hg : 1048576 < ((tot rs + ws.length : Nat) : Int)) :
    Calls Tryz.prog 3 #[deskV up v f u, y] w fun e w' => e = .returned (.bool true) ∧ Below w.heap.size w w' := by
  have HS : Hid (∀ o, Calls Tryz.prog 5 #[deskV up v f u, .int .i64 1048576] (w.alloc o) fun e w' => e = .returned (.int .i64 (-1)) ∧ Below (w.alloc o).heap.size (w.alloc o) w') := fun o => by
    have := szDesk_any up v u rs f ws 1048576 (w.alloc o) (hv.later (alloc_below w o) (Nat.le_refl _)) hl hls hlw (by omega) (by omega)
    rw [leftOf_neg (by omega)] at this
    exact this
  obtain ⟨av, cv, au, cu, rfl, rfl⟩ := hv.shape
  obtain ⟨ay, cy, rfl⟩ := hy.shape
  clear hv hl hls hg hlw hy
  go_enter Tryz.func3, Tryz.ntmps3
  go_wp2_with (go_at_call 5; refine (HS.out _).mono ?_; rintro e w1 ⟨rfl, hb⟩)
  go_ret
  exact ⟨rfl, below_after (by assumption)⟩

set_option maxHeartbeats 8000000 in
theorem lawDBegin_small (up : Bool) (v u : Value) (rs : List R) (f : Int) (ws : List Wd) (y : Value) (zs : List Int) (a : Addr) (w : World) (hv : DkAt w v u rs ws) (hy : Ints w y zs) (hzl : zs.length ≤ 1048576) (ha : ErrAt w a) (hlt : tot rs + ws.length ≤ 1048576) :
    Calls Tryz.prog 3 #[deskV up v f u, y] w fun e w' => e = .returned (.bool true) ∧ Below w.heap.size w w' := by
  have hrl := tot_len rs
  have hl : tot rs ≤ 1048576 := by omega
  have hlw : ws.length ≤ 1048576 := by omega
  have HS : Hid (∀ o, Calls Tryz.prog 5 #[deskV up v f u, .int .i64 1048576] (w.alloc o) fun e w' => e = .returned (.int .i64 (1048576 - ((tot rs + ws.length : Nat) : Int))) ∧ Below (w.alloc o).heap.size (w.alloc o) w') := fun o => by
    have := szDesk_any up v u rs f ws 1048576 (w.alloc o) (hv.later (alloc_below w o) (Nat.le_refl _)) (by omega) (fun r hr => by have := tot_mem rs r hr; omega) (by omega) (by omega) (by omega)
    rw [leftOf_pos (by omega)] at this
    exact this
  obtain ⟨TT, hTT⟩ : ∃ x, tot rs + ws.length = x := ⟨_, rfl⟩
  rw [hTT] at HS hlt
  clear hTT
  have HV : Hid (∀ W, Below w.heap.size w W → DkAt W v u rs ws) := fun W h => hv.later h (Nat.le_refl _)
  have HA : Hid (∀ W, Below w.heap.size w W → ErrAt W a) := fun W h => ha.later h (Nat.le_refl _)
  obtain ⟨av, cv, au, cu, hvs, hus⟩ := hv.shape
  have H0 : Hid (Blk (w.alloc (.cells #[.bool up, v, .int .i64 f, u] 27)) w.heap.size #[.bool up, v, .int .i64 f, u] 27) := Blk.new _ _ _
  obtain ⟨ay, cy, hys⟩ := hy.shape
  have HY : Hid (∀ W, Below w.heap.size w W → Ints W y zs) := fun W h => hy.later h (Nat.le_refl _)
  clear hv ha hy
  subst hvs hus hys
  -- what comes out
  obtain ⟨⟨⟨UP, RS, F, WS⟩, BB⟩, hO⟩ : ∃ o : Dk × Bool, Hid (dkAsk up rs f ws ((4, ((T.ofO rs).length : Int) + 1, zs) : R) = o) := ⟨_, rfl⟩
  have hRl : tot RS ≤ 1048576 ∧ WS.length ≤ 1048576 := by have := dkAsk_tot2 up rs f ws ((4, ((T.ofO rs).length : Int) + 1, zs) : R) hl hlw; rw [hO.out] at this; exact this
  obtain ⟨hRl, hWl⟩ := hRl
  have HSP : Hid (∀ (x y z : Value) (W : World), DkIn W x y rs ws → Ints W z zs → Calls Tryz.prog 6 #[deskV up x f y, z] W fun e w' => DkOut2 W w' e UP RS F WS BB) := fun x y z W h hz => by
    have := specDBegin_any up x y rs f ws z zs W h hz hzl hl hlw; rw [hO.out] at this; exact this
  have HIM : Hid (∀ (x y z : Value) (W : World), DkIn W x y rs ws → Ints W z zs → ErrAt W a → Calls Tryz.prog 9 #[deskV up x f y, z] W fun e w' => DkOut2 W w' e UP RS F WS BB) := fun x y z W h hz h2 => by
    have := implDBegin_any up x y rs f ws z zs a W h hz hzl hl hlw h2; rw [hO.out] at this; exact this
  have HKO : Hid (0 ≤ kDk RS 1 WS.length ∧ kDk RS 1 WS.length ≤ 1000000000) := by
    have := kAt_bd RS 1 RS.length (Nat.le_refl _) hRl (by omega) (by omega)
    constructor <;> (unfold kDk; omega)
  have HKX : Hid (0 ≤ kDk rs 1 ws.length ∧ kDk rs 1 ws.length ≤ 1000000000) := by
    have := kAt_bd rs 1 rs.length (Nat.le_refl _) hl (by omega) (by omega)
    constructor <;> (unfold kDk; omega)
  obtain ⟨KO, hKO⟩ : ∃ x, Hid (kDk RS 1 WS.length = x) := ⟨_, rfl⟩
  obtain ⟨KX, hKX⟩ : ∃ x, Hid (kDk rs 1 ws.length = x) := ⟨_, rfl⟩
  obtain ⟨hko0, hko1⟩ := HKO.out
  obtain ⟨hkx0, hkx1⟩ := HKX.out
  rw [hKO.out] at hko0 hko1
  rw [hKX.out] at hkx0 hkx1
  have hbb : (BB != BB) = false := by simp
  have hbb2 : (BB == BB) = true := by simp
  go_enter Tryz.func3, Tryz.ntmps3
  -- how great it is
  go_wp2_with fail
  refine (HS.out _).mono ?_
  rintro e w1 ⟨rfl, hb1⟩
  have B1 := hide_it (below_after hb1)
  have T1 := hide_it (H0.out.after hb1)
  have hz1 : w.heap.size ≤ w1.heap.size := B1.out.size
  clear hb1
  obtain ⟨c0, c1, c2, c3⟩ := T1.out.cells4
  -- w0
  go_wp2_with fail
  refine (toDesk_any up _ _ rs f ws w1 (HV.out _ B1.out) hl hlw).mono ?_
  rintro e w2 ⟨a2, cap2, b2, dap2, ps2, rfl, hp2, ho2, hb2⟩
  have B2 := hide_it (B1.out.trans (hb2.mono hz1))
  have T2 := hide_it (T1.out.after hb2)
  have V2 := hide_it (ho2.in_ hp2)
  have hz2 : w.heap.size ≤ w2.heap.size := B2.out.size
  clear hb2 ho2 hp2 c0 c1 c2 c3
  go_wp2_with fail
  refine (toInts_any _ zs w2 (HY.out _ B2.out) hzl).mono ?_
  rintro e w2n ⟨rfl, hown2, hbn2⟩
  obtain ⟨g2, hg2⟩ : ∃ g, Hid (g = w2.heap.size) := ⟨_, rfl⟩
  rw [← hg2.out] at hown2 ⊢
  have I2 := hide_it (ints_of_row hown2)
  have RI2 := hide_it hown2
  have Bn2 := hide_it (B2.out.trans (hbn2.mono hz2))
  have Tn2 := hide_it (T2.out.after hbn2)
  have Vn2 := hide_it (V2.out.later hbn2 (Nat.le_refl _))
  have hzn2 : w.heap.size ≤ w2n.heap.size := Bn2.out.size
  clear hbn2 hown2 RI2
  go_wp2_with fail
  refine (HSP.out _ _ _ w2n Vn2.out I2.out).mono ?_
  rintro e w3 ⟨a3, cap3, b3, dap3, ps3, rfl, hp3, ho3, hb3⟩
  have B3 := hide_it (Bn2.out.trans (hb3.mono hzn2))
  have T3 := hide_it (Tn2.out.after hb3)
  have V3 := hide_it (ho3.at' hp3)
  have hz3 : w.heap.size ≤ w3.heap.size := B3.out.size
  clear hb3 ho3 hp3
  -- x0
  obtain ⟨c0, c1, c2, c3⟩ := T3.out.cells4
  have k0 := fun x => cellAlloc c0 x
  have k1 := fun x => cellAlloc c1 x
  have k2 := fun x => cellAlloc c2 x
  have k3 := fun x => cellAlloc c3 x
  have hws3 : w.heap.size < w3.heap.size := T3.out.lt
  obtain ⟨w4, hw4⟩ : ∃ W, Hid (W = w3.alloc (.cells #[.bool UP, (.slice a3 RS.length cap3), .int .i64 F, (.slice b3 WS.length dap3)] 35)) := ⟨_, rfl⟩
  go_wp2_with fail
  rw [← hw4.out]
  have al4 := hide_it (show Below w3.heap.size w3 w4 by rw [hw4.out]; exact alloc_below _ _)
  have B4 := hide_it (B3.out.trans (al4.out.mono hz3))
  have T4 := hide_it (T3.out.after al4.out)
  have V4 := hide_it (V3.out.later al4.out (Nat.le_refl _))
  have Z4 : Hid (Blk w4 w3.heap.size #[.bool UP, (.slice a3 RS.length cap3), .int .i64 F, (.slice b3 WS.length dap3)] 35) := by show Blk _ _ _ _; rw [hw4.out]; exact Blk.new _ _ _
  clear k0 k1 k2 k3 c0 c1 c2 c3
  refine (toDesk_any up _ _ rs f ws w4 (HV.out _ B4.out) hl hlw).mono ?_
  rintro e w5 ⟨a5, cap5, b5, dap5, ps5, rfl, hp5, ho5, hb5⟩
  have HP5 := hide_it hp5
  have O5 := hide_it ho5
  have E5 := hide_it hb5
  clear hp5 ho5 hb5
  -- g0
  obtain ⟨w6, hw6⟩ : ∃ W, Hid (W = w5.alloc (.cells #[.bool up, (.slice a5 rs.length cap5), .int .i64 f, (.slice b5 ws.length dap5)] 35)) := ⟨_, rfl⟩
  go_wp2_with fail
  rw [← hw6.out]
  have al6 := hide_it (show Below w5.heap.size w5 w6 by rw [hw6.out]; exact alloc_below _ _)
  have HS6 := hide_it (show w6.heap.size = w5.heap.size + 1 by rw [hw6.out]; simp)
  have E6 := hide_it (E5.out.trans (al6.out.mono E5.out.size))
  have O6 := hide_it (O5.out.below al6.out (Nat.le_refl _))
  have X6 : Hid (Blk w6 w5.heap.size #[.bool up, (.slice a5 rs.length cap5), .int .i64 f, (.slice b5 ws.length dap5)] 35) := by show Blk _ _ _ _; rw [hw6.out]; exact Blk.new _ _ _
  have hz4 : w.heap.size ≤ w4.heap.size := B4.out.size
  have B6 := hide_it (B4.out.trans (E6.out.mono hz4))
  refine (toInts_any _ zs w6 (HY.out _ B6.out) hzl).mono ?_
  rintro e w6n ⟨rfl, hown6, hbn6⟩
  obtain ⟨g6, hg6⟩ : ∃ g, Hid (g = w6.heap.size) := ⟨_, rfl⟩
  rw [← hg6.out] at hown6 ⊢
  have I6 := hide_it (ints_of_row hown6)
  have RI6 := hide_it hown6
  have HSn6 := hide_it (show w6.heap.size < w6n.heap.size by have := (hown6.lt g6 (by simp [Value.ownBlock])).2; rw [← hg6.out]; exact this)
  have En6 := hide_it (E6.out.trans (hbn6.mono E6.out.size))
  have On6 := hide_it (O6.out.below hbn6 (by have := HS6.out; omega))
  have Xn6 := hide_it (X6.out.after hbn6)
  have Bn6 := hide_it (B4.out.trans (En6.out.mono hz4))
  clear hbn6 hown6
  obtain ⟨x0, x1, x2, x3⟩ := Xn6.out.cells4
  go_wp2_with fail
  clear x0 x1 x2 x3
  refine (HIM.out _ _ _ w6n (On6.out.in_ HP5.out) I6.out (HA.out _ Bn6.out)).mono ?_
  rintro e w7 ⟨a7, cap7, b7, dap7, ps7, rfl, hp7, ho7, hb7⟩
  have HP7 := hide_it hp7
  have O7 := hide_it ho7
  have X7 := hide_it (Xn6.out.after hb7)
  have RI7 := hide_it (ownsRow_below RI6.out hb7 (fun k hk => (RI6.out.lt k hk).2))
  have O7x := hide_it (On6.out.below hb7 (by have := HS6.out; have := HSn6.out; omega))
  have E7 := hide_it (En6.out.trans (hb7.mono En6.out.size))
  have HS7 := hide_it hb7.size
  clear hp7 ho7 hb7
  obtain ⟨w8, hw8⟩ : ∃ W, Hid (W = w7.alloc (.cells #[.bool UP, (.slice a7 RS.length cap7), .int .i64 F, (.slice b7 WS.length dap7)] 35)) := ⟨_, rfl⟩
  have Z7 := hide_it (Z4.out.after E7.out)
  obtain ⟨z0, z1, z2, z3⟩ := Z7.out.cells4
  have k0 := fun x => cellAlloc z0 x
  have k1 := fun x => cellAlloc z1 x
  have k2 := fun x => cellAlloc z2 x
  have k3 := fun x => cellAlloc z3 x
  have hlt37 : w3.heap.size < w7.heap.size := Z7.out.lt
  go_wp2_with fail
  rw [← hw8.out]
  have al8 := hide_it (show Below w7.heap.size w7 w8 by rw [hw8.out]; exact alloc_below _ _)
  have HS8 := hide_it (show w8.heap.size = w7.heap.size + 1 by rw [hw8.out]; simp)
  have E8 := hide_it (E7.out.trans (al8.out.mono E7.out.size))
  have O8 := hide_it (O7.out.below al8.out (Nat.le_refl _))
  have O8x := hide_it (O7x.out.below al8.out (by have := HS6.out; have := HSn6.out; have := HS7.out; omega))
  have X8 := hide_it (X7.out.after al8.out)
  have RI8 := hide_it (ownsRow_below RI7.out al8.out (fun k hk => (RI7.out.lt k hk).2))
  have G8 : Hid (Blk w8 w7.heap.size #[.bool UP, (.slice a7 RS.length cap7), .int .i64 F, (.slice b7 WS.length dap7)] 35) := by show Blk _ _ _ _; rw [hw8.out]; exact Blk.new _ _ _
  have R8 := hide_it (O8.out.at' HP7.out)
  have V8 := hide_it (V4.out.later E8.out (Nat.le_refl _))
  clear k0 k1 k2 k3 z0 z1 z2 z3
  refine (eqDesk_any UP _ _ _ _ RS F WS w8 R8.out V8.out hRl hWl).mono ?_
  rintro e w9 ⟨rfl, hb9⟩
  have E9 := hide_it (E8.out.trans (hb9.mono E8.out.size))
  have O9 := hide_it (O8.out.below hb9 (by have := HS8.out; omega))
  have O9x := hide_it (O8x.out.below hb9 (by have := HS6.out; have := HSn6.out; have := HS7.out; have := HS8.out; omega))
  have X9 := hide_it (X8.out.after hb9)
  have RI9 := hide_it (ownsRow_below RI8.out hb9 (fun k hk => (RI8.out.lt k hk).2))
  have G9 := hide_it (G8.out.after hb9)
  have T9 := hide_it (T4.out.after E9.out)
  have HS9 := hide_it hb9.size
  have hz9 : w.heap.size ≤ w9.heap.size := Nat.le_trans hz4 E9.out.size
  have B9 := hide_it (B4.out.trans (E9.out.mono hz4))
  have R9x := hide_it (O9x.out.at' HP5.out)
  clear hb9
  obtain ⟨c0, c1, c2, c3⟩ := T9.out.cells4
  obtain ⟨x0, x1, x2, x3⟩ := X9.out.cells4
  go_wp2_with fail
  go_region_held (fun w' => (w'.cell? ⟨w5.heap.size, 0, none⟩ = some (.bool up) ∧ w'.cell? ⟨w5.heap.size, 1, none⟩ = some (.slice a5 rs.length cap5) ∧ w'.cell? ⟨w5.heap.size, 2, none⟩ = some (.int .i64 f) ∧ w'.cell? ⟨w5.heap.size, 3, none⟩ = some (.slice b5 ws.length dap5)) ∧ (w'.cell? ⟨w.heap.size, 0, none⟩ = some (.bool up) ∧ w'.cell? ⟨w.heap.size, 1, none⟩ = some (.slice av rs.length cv) ∧ w'.cell? ⟨w.heap.size, 2, none⟩ = some (.int .i64 f) ∧ w'.cell? ⟨w.heap.size, 3, none⟩ = some (.slice au ws.length cu))) (go_keep)
    (first
    | (go_at_call 7; refine (toDesk_any up _ _ rs f ws _ ?_ hl hlw).mono ?_; exact (HV.out _ B9.out.drew); rintro e w10 ⟨a10, cap10, b10, dap10, ps10, rfl, hp10, ho10, hb10⟩; have hb10' := (Below.refl w9.heap.size w9).drew.trans hb10; have L10 := hide_it hb10'; have y10 := R9x.out.later hb10' (Nat.le_refl _); have v10 := ho10.at' hp10; obtain ⟨x100, x101, x102, x103⟩ := (X9.out.after hb10').cells4; obtain ⟨c100, c101, c102, c103⟩ := (T9.out.after hb10').cells4; clear hb10 hb10' hp10 ho10)
    | (go_at_call 10; refine (eqDesk_any up _ _ _ _ rs f ws _ ?_ ?_ hl hlw).mono ?_; assumption; assumption; rintro e w11 ⟨rfl, hb11⟩; have L11 := hide_it (L10.out.trans (hb11.mono L10.out.size)); obtain ⟨x110, x111, x112, x113⟩ := (X9.out.after L11.out).cells4; obtain ⟨c110, c111, c112, c113⟩ := (T9.out.after L11.out).cells4; clear hb11))
  clear c0 c1 c2 c3 x0 x1 x2 x3
  have RI11 := hide_it (ownsRow_below RI9.out L11.out (fun k hk => (RI9.out.lt k hk).2))
  have En11 := hide_it (E9.out.trans (L11.out.mono E9.out.size))
  have Bn11 := hide_it (B4.out.trans (En11.out.mono hz4))
  have In11 := hide_it (ints_of_row RI11.out)
  go_wp2_with fail
  refine (toInts_any _ zs w11 (HY.out _ Bn11.out) hzl).mono ?_
  rintro e w11n ⟨rfl, hownA, hbA⟩
  have In12 := hide_it (ints_of_row hownA)
  have In11a := hide_it (In11.out.later hbA (Nat.le_refl _))
  have Ln11 := hide_it (L11.out.trans (hbA.mono L11.out.size))
  clear hownA hbA
  go_wp2_with fail
  refine (eqInts_any _ _ zs w11n In11a.out In12.out hzl).mono ?_
  rintro e w11m ⟨rfl, hbA⟩
  have L11m := hide_it (Ln11.out.trans (hbA.mono Ln11.out.size))
  have RI11m := hide_it (ownsRow_below RI9.out L11m.out (fun k hk => (RI9.out.lt k hk).2))
  clear hbA RI11 En11 Bn11 In11 In12 In11a Ln11
  obtain ⟨x0, x1, x2, x3⟩ := (X9.out.after L11m.out).cells4
  -- x0 is marked
  have hl5 : ps5.length = rs.length := by have := congrArg List.length HP5.out; simpa using this
  have hl7 : ps7.length = RS.length := by have := congrArg List.length HP7.out; simpa using this
  have HL5 := hide_it hl5
  have HL7 := hide_it hl7
  have h56 : w5.heap.size + 1 = w6.heap.size := HS6.out.symm
  have h66 : w6.heap.size < w6n.heap.size := HSn6.out
  have h67 : w6n.heap.size ≤ w7.heap.size := HS7.out
  have h78 : w7.heap.size + 1 = w8.heap.size := HS8.out.symm
  have h89 : w8.heap.size ≤ w9.heap.size := HS9.out
  have h45 : w4.heap.size ≤ w5.heap.size := E5.out.size
  have SZ := hide_it (show w5.heap.size < w6.heap.size ∧ w6.heap.size < w6n.heap.size ∧ w6n.heap.size ≤ w7.heap.size ∧ w7.heap.size < w8.heap.size ∧ w8.heap.size ≤ w9.heap.size ∧ w4.heap.size ≤ w5.heap.size by omega)
  clear hl5 hl7 h56 h66 h67 h78 h89 h45
  have E11 := hide_it (E9.out.trans (L11m.out.mono E9.out.size))
  have O11x := hide_it (O9x.out.below L11m.out (by have := SZ.out; omega))
  have O11 := hide_it (O9.out.below L11m.out (by have := SZ.out; omega))
  have G11 := hide_it (G9.out.after L11m.out)
  have hmk : Calls Tryz.prog 12 #[deskV up (.slice a5 rs.length cap5) f (.slice b5 ws.length dap5), .int .i64 1] w11m fun e w' => e = .returned (.int .i64 KX) ∧ Mid w4.heap.size w5.heap.size w11m w' := by
    have h := markDesk_any up (.slice a5 rs.length cap5) (.slice b5 ws.length dap5) ps5 f ws 1 w4.heap.size w5.heap.size w11m O11x.out (by rw [HP5.out]; exact hl) hlw (by omega) (by omega)
    rw [HP5.out, hKX.out] at h
    exact h.mono fun e w' h => ⟨h.1, h.2.2⟩
  have HMK := hide_it hmk
  clear hmk
  go_wp2_with fail
  refine HMK.out.mono ?_
  rintro e w12a ⟨rfl, hM12a⟩
  have RI12 := hide_it (show w12a.ownsRow g6 3 1 (.slice (some ⟨g6, 0, none⟩) zs.length zs.length) zs.length (zs.map (Value.int .i64)) from ownsRow_mid RI11m.out hM12a (fun k hk => by simp [Value.ownBlock] at hk; subst hk; exact Or.inr (by have := SZ.out; have := hg6.out; omega)))
  have HMI : Hid (Calls Tryz.prog 13 #[.slice (some ⟨g6, 0, none⟩) zs.length zs.length, .int .i64 KX] w12a fun e w' => e = .returned (.int .i64 (KX + zs.length)) ∧ Mid g6 (g6 + 1) w12a w') :=
    (markInts_any _ _ KX g6 zs.length w12a RI12.out hzl hkx0 hkx1).mono fun e w' h => ⟨h.1, Mid.of_grown h.2.2 (fun k hk => by simp [Value.ownBlock] at hk; omega)⟩
  have M12a := hide_it hM12a
  clear hM12a
  go_wp2_with fail
  refine HMI.out.mono ?_
  rintro e w12 ⟨rfl, hM12b⟩
  have hM12 : Mid w4.heap.size w6n.heap.size w11m w12 := (M12a.out.widen (Nat.le_refl _) (by have := SZ.out; omega)).trans (hM12b.widen (by have := SZ.out; have := hg6.out; omega) (by have := SZ.out; have := hg6.out; omega))
  have hkk0 : (0 : Int) ≤ KX + zs.length := by omega
  have hkk1 : KX + (zs.length : Int) ≤ 2000000000 := by omega
  clear hM12b
  have E12 := hide_it (E11.out.trans (hM12.below (Nat.le_refl _) E11.out.size))
  have O12 := hide_it (O11.out.mid hM12 (by have := SZ.out; omega))
  have G12 := hide_it (G11.out.mid hM12 (Or.inr (by have := SZ.out; omega)))
  have Z12 := hide_it (Z4.out.after E12.out)
  have V12 := hide_it (V4.out.later E12.out (Nat.le_refl _))
  have HS12 := hide_it (show w9.heap.size ≤ w12.heap.size from Nat.le_trans L11m.out.size hM12.size)
  have R12 := hide_it (O12.out.at' HP7.out)
  clear hM12
  obtain ⟨g0, g1, g2, g3⟩ := G12.out.cells4
  obtain ⟨z0, z1, z2, z3⟩ := Z12.out.cells4
  go_wp2_with fail
  refine (eqDesk_any UP _ _ _ _ RS F WS w12 R12.out V12.out hRl hWl).mono ?_
  rintro e w13 ⟨rfl, hb13⟩
  have E13 := hide_it (E12.out.trans (hb13.mono E12.out.size))
  have O13 := hide_it (O12.out.below hb13 (by have := SZ.out; have := HS12.out; omega))
  have G13 := hide_it (G12.out.after hb13)
  have HS13 := hide_it hb13.size
  clear hb13 g0 g1 g2 g3 z0 z1 z2 z3
  -- g0 is marked, and held
  have hmk : Calls Tryz.prog 12 #[deskV UP (.slice a7 RS.length cap7) F (.slice b7 WS.length dap7), .int .i64 1] w13 fun e w' => e = .returned (.int .i64 KO) ∧ DkAt w' (.slice a7 RS.length cap7) (.slice b7 WS.length dap7) (markAll RS 1) (markW WS.length (kAt RS 1 RS.length)) ∧ Mid w6n.heap.size w7.heap.size w13 w' := by
    have h := markDeskT_any UP (.slice a7 RS.length cap7) (.slice b7 WS.length dap7) ps7 F WS 1 w6n.heap.size w7.heap.size w13 O13.out (by rw [HP7.out]; exact hRl) hWl (by omega) (by omega)
    rw [HP7.out, HL7.out, hKO.out] at h
    exact h
  have HMK2 := hide_it hmk
  clear hmk
  obtain ⟨g0, g1, g2, g3⟩ := G13.out.cells4
  go_wp2_with fail
  refine HMK2.out.mono ?_
  rintro e w14 ⟨rfl, hR14, hM14⟩
  have E14 := hide_it (E13.out.trans (hM14.below (show w4.heap.size ≤ w6n.heap.size by have := SZ.out; omega) E13.out.size))
  have G14 := hide_it (G13.out.mid hM14 (Or.inr (Nat.le_refl _)))
  have R14 := hide_it hR14
  have HLD : Hid (∀ W, DkAt W (.slice a7 RS.length cap7) (.slice b7 WS.length dap7) (markAll RS 1) (markW WS.length (kAt RS 1 RS.length)) → Calls Tryz.prog 14 #[deskV UP (.slice a7 RS.length cap7) F (.slice b7 WS.length dap7), .int .i64 1] W fun e w' => e = .returned (.int .i64 KO) ∧ Below W.heap.size W w') := fun W h => by
    have := heldDesk_any UP (.slice a7 RS.length cap7) (.slice b7 WS.length dap7) RS F WS.length 1 W h hRl hWl (by omega) (by omega)
    rw [hKO.out] at this
    exact this
  clear hM14 hR14 g0 g1 g2 g3
  obtain ⟨g0, g1, g2, g3⟩ := G14.out.cells4
  go_wp2_with fail
  refine (HLD.out w14 R14.out).mono ?_
  rintro e w15 ⟨rfl, hb15⟩
  have E15 := hide_it (E14.out.trans (hb15.mono E14.out.size))
  have N15 := hide_it hb15
  have T15 := hide_it (T4.out.after E15.out)
  have B15 := hide_it (B4.out.trans (E15.out.mono hz4))
  clear hb15 g0 g1 g2 g3
  obtain ⟨c0, c1, c2, c3⟩ := T15.out.cells4
  go_wp2_with fail
  -- once more
  refine (toDesk_any up _ _ rs f ws w15 (HV.out _ B15.out) hl hlw).mono ?_
  rintro e w16 ⟨a16, cap16, b16, dap16, ps16, rfl, hp16, ho16, hb16⟩
  have V16 := hide_it (ho16.in_ hp16)
  have E16 := hide_it (E15.out.trans (hb16.mono E15.out.size))
  have N16 := hide_it (N15.out.trans (hb16.mono N15.out.size))
  have B16 := hide_it (B15.out.trans (hb16.mono B15.out.size))
  clear ho16 hp16 hb16 c0 c1 c2 c3
  go_wp2_with fail
  refine (toInts_any _ zs w16 (HY.out _ B16.out) hzl).mono ?_
  rintro e w16n ⟨rfl, hown16, hbn16⟩
  obtain ⟨g16, hg16⟩ : ∃ g, Hid (g = w16.heap.size) := ⟨_, rfl⟩
  rw [← hg16.out] at hown16 ⊢
  have I16 := hide_it (ints_of_row hown16)
  have RI16 := hide_it hown16
  have Vn16 := hide_it (V16.out.later hbn16 (Nat.le_refl _))
  have En16 := hide_it (E16.out.trans (hbn16.mono E16.out.size))
  have Nn16 := hide_it (N16.out.trans (hbn16.mono N16.out.size))
  have Bn16 := hide_it (B16.out.trans (hbn16.mono B16.out.size))
  clear hbn16 hown16
  go_wp2_with fail
  refine (HIM.out _ _ _ w16n Vn16.out I16.out (HA.out _ Bn16.out)).mono ?_
  rintro e w17 ⟨a17, cap17, b17, dap17, ps17, rfl, hp17, ho17, hb17⟩
  have V17 := hide_it (ho17.at' hp17)
  have E17 := hide_it (En16.out.trans (hb17.mono En16.out.size))
  have N17 := hide_it (Nn16.out.trans (hb17.mono Nn16.out.size))
  clear ho17 hp17 hb17
  obtain ⟨w18, hw18⟩ : ∃ W, Hid (W = w17.alloc (.cells #[.bool UP, (.slice a17 RS.length cap17), .int .i64 F, (.slice b17 WS.length dap17)] 35)) := ⟨_, rfl⟩
  obtain ⟨z0, z1, z2, z3⟩ := (Z4.out.after E17.out).cells4
  have k0 := fun x => cellAlloc z0 x
  have k1 := fun x => cellAlloc z1 x
  have k2 := fun x => cellAlloc z2 x
  have k3 := fun x => cellAlloc z3 x
  have hlt317 : w3.heap.size < w17.heap.size := World.block_lt_of_cell? _ _ z0
  go_wp2_with fail
  rw [← hw18.out]
  have al18 := hide_it (show Below w17.heap.size w17 w18 by rw [hw18.out]; exact alloc_below _ _)
  have E18 := hide_it (E17.out.trans (al18.out.mono E17.out.size))
  have N18 := hide_it (N17.out.trans (al18.out.mono N17.out.size))
  have V18 := hide_it (V17.out.later al18.out (Nat.le_refl _))
  have Y18 := hide_it (V4.out.later E18.out (Nat.le_refl _))
  clear k0 k1 k2 k3 z0 z1 z2 z3
  refine (eqDesk_any UP _ _ _ _ RS F WS w18 V18.out Y18.out hRl hWl).mono ?_
  rintro e w19 ⟨rfl, hb19⟩
  have E19 := hide_it (E18.out.trans (hb19.mono E18.out.size))
  have N19 := hide_it (N18.out.trans (hb19.mono N18.out.size))
  clear hb19
  obtain ⟨g0, g1, g2, g3⟩ := (G14.out.after N19.out).cells4
  have R19 := hide_it (R14.out.later N19.out (Nat.le_refl _))
  go_wp2_with fail
  refine (HLD.out w19 R19.out).mono ?_
  rintro e w20 ⟨rfl, hb20⟩
  have B20 := hide_it (B4.out.trans ((E19.out.trans (hb20.mono E19.out.size)).mono hz4))
  clear hb20 g0 g1 g2 g3
  go_wp2
  go_ret
  exact ⟨rfl, B20.out⟩

theorem lawDBegin_any (up : Bool) (v u : Value) (rs : List R) (f : Int) (ws : List Wd) (y : Value) (zs : List Int) (a : Addr) (w : World) (hv : DkAt w v u rs ws) (hy : Ints w y zs) (ha : ErrAt w a) (hm : (rs.length : Int) ≤ 9223372036854775807) (hms : ∀ r ∈ rs, (r.2.2.length : Int) ≤ 9223372036854775807) (hmw : (ws.length : Int) ≤ 9223372036854775807) :
    Calls Tryz.prog 3 #[deskV up v f u, y] w fun e w' => e = .returned (.bool true) ∧ Below w.heap.size w w' := by
  by_cases hzl : zs.length ≤ 1048576
  · by_cases hl : tot rs + ws.length ≤ 1048576
    · exact lawDBegin_small up v u rs f ws y zs a w hv hy hzl ha hl
    · exact lawDBegin_great up v u rs f ws y zs w hv hy hzl hm hms hmw (by omega)
  · exact lawDBegin_great0 up v u rs f ws y zs w hv hy (by omega)

end Go.Proofs.YtkhpjhjfobkmpaaGreatDoor

namespace Go.Proofs.YtkhpjhjfobkmpaaGreatDoor
open Go.ChangeShapes Go.WideShapes Go.ChangeAt Go.WideMaps Go.WideElems Go.RowKit Go.Joins

set_option maxRecDepth 100000 in
theorem deskBegin_lifted (os : Os) (started : os.Started) (H : Type) (enc : TypeId × Value → H) :
    ReturnsInHanded {} Tryz.checked os 3 .any (fun w args => (Rows.fnExactDeskBeginSpec.pre enc Tryz.prog Tryz.f3 [] false w args ∧ laidMetH Tryz.prog laidErr w) ∧ sizedMet enc Tryz.prog Tryz.f3 (OpenSpec.ofChange Rows.fnExactDeskBeginSpec) false w args)
      (Rows.fnExactDeskBeginSpec.post enc Tryz.prog Tryz.f3 false true false false) := by
  refine returnsInHanded_of_change_and (C := Tryz.checked) (X := fun w _ => laidMetH Tryz.prog laidErr w) (fun _ _ _ hh h => h.of_heap hh) own started (by kernel_rfl) Tryz.func3
    (ChangeSpec.witness_shaped (enc := enc) (C := Tryz.checked) (os := os) (X := fun w _ => laidMetH Tryz.prog laidErr w) false (World.doorLaid Tryz.prog 28 os) #[deskV false (.slice none 0 0) 0 (.slice none 0 0), .slice none 0 0] 8 rfl (World.shaped_of_RefB (by kernel_rfl) (by kernel_rfl)) (by kernel_rfl) (by kernel_rfl) (by kernel_rfl) (door_met os _)) ?_
  intro W base args ds gs before hval0 hW _ _ hL _
  have hval : ∀ (j : Nat) t v, Tryz.f3.params[j]? = some t → args[j]? = some v → Value.okWide Tryz.prog W .any base t v := hval0
  have hW' := hW
  obtain ⟨p, q, hA0, hV0, rfl, hfz, hnd⟩ := hW
  have hA : DataW.TrodAll enc Tryz.prog W 0 (fun _ => true) true Tryz.f3.params.toList args.toList ds p := hA0
  have hV : DataW.TrodVars enc Tryz.prog W (fun _ => true) ["loop.example/concierge/impl.errNoRec"] gs q := hV0
  rw [Tryz.params3] at hA hval
  obtain ⟨v0, v1, d0, d1, p0, p1, rfl, rfl, rfl, h0, h1⟩ := trodAll_two hA
  obtain ⟨a, hErr, hvar⟩ := of_laid hL
  have vr : ∀ {X : World}, X.var? Tryz.prog "loop.example/concierge/impl.errNoRec" = some #[.iface 166 (.pointer (some a))] → ∀ sp : Nat → Bool,
      DataW.TrodVars enc Tryz.prog X sp ["loop.example/concierge/impl.errNoRec"] [tok enc (.iface 166 (.pointer (some a)))] [.cell 0 0] :=
    fun x0 sp => vars_read1 enc gErr gErrType Tryz.underlying113 x0 trivial sp
  obtain ⟨rfl, rfl⟩ := hV.unique (vr hvar _)
  clear hA0 hV0 hval0
  obtain ⟨ai, ni, ci, rfl⟩ := okWide_slice Tryz.underlying28 (hval 1 28 v1 rfl rfl)
  obtain ⟨zs, hI⟩ : ∃ zs : List Int, Ints W (.slice ai ni ci) zs := by
    obtain ⟨fuel, hf⟩ := h1
    obtain ⟨zs, h, _⟩ := ints_of_trod (c := .slice ai ni ci) (by simpa [Value.cells] using hf)
    exact ⟨zs, h⟩
  obtain ⟨up, x, f, y, rs, ws, rfl, hR, hlen, hlens, hlenw⟩ := open_desk (hval 0 27 v0 rfl rfl) h0
  refine (lawDBegin_any up x y rs f ws (.slice ai ni ci) zs a W hR hI hErr hlen hlens hlenw).mono fun e W' ⟨he, hb⟩ => ?_
  subst he
  have hlt : ∀ x ∈ p0, x.block < W.heap.size := fun x hx => hW'.lt x (by simp [hx])
  have hlt1 : ∀ x ∈ p1, x.block < W.heap.size := fun x hx => hW'.lt x (by simp [hx])
  refine ⟨_, rfl, _, _, _, [], p0 ++ p1, [.cell 0 0], hW', ?_, ?_, ?_, hb.frame _, fun h => by cases h⟩
  · exact trodAll_mk1 (shut_bool Tryz.underlying4 true)
  · exact trodAll_mk2 (Below.trod laidOut (by kernel_rfl) (of_decide_eq_true (by kernel_rfl)) h0 hb hlt) (Below.trod laidOut (by kernel_rfl) (of_decide_eq_true (by kernel_rfl)) h1 hb hlt1)
  · exact vr (var?_below hb gErr (World.block_lt_of_cell? _ _ hErr) hvar) _

theorem deskBegin_said : Rows.FnExactDeskBeginSaid :=
  OpenClaim.holds_of_wide 3 Tryz.f3 rfl rfl rfl rfl rfl rfl rfl ⟨rfl, rfl, rfl, rfl, rfl⟩ rfl rfl rfl rfl rfl (by kernel_rfl) Tryz.func3 (by kernel_rfl)
    (of_decide_eq_true (by kernel_rfl)) (by unfold Func.isWrapper; first | (rw [if_pos (by decide +kernel)]; kernel_rfl) | (rw [if_neg (by decide +kernel)]; exact ⟨rfl, rfl⟩))
    (fun os started H enc _ => deskBegin_lifted os started H enc)

theorem deskBegin_plain (f : FuncId) (fn : Func) (hf : Tryz.pinned.checked.prog.funcNamed "loop.example/concierge/laws.FnExactDeskBegin" = some f) (hfn : Tryz.pinned.checked.prog.funcs[f]? = some fn) :
    true = Tryz.pinned.checked.prog.looks [] ∧ ∀ (j : Nat) t, fn.params[j]? = some t → Tryz.pinned.checked.prog.wantsStandIn t = false := by
  obtain rfl : f = 3 := Option.some.inj ((show Tryz.prog.funcNamed "loop.example/concierge/laws.FnExactDeskBegin" = some 3 by kernel_rfl).symm.trans hf) |>.symm
  obtain rfl : fn = Tryz.f3 := (Option.some.inj (Tryz.func3.symm.trans hfn)).symm
  refine ⟨by kernel_rfl, fun j t ht => ?_⟩
  rw [Tryz.params3] at ht
  have hm := Array.mem_of_getElem? ht
  simp at hm
  rcases hm with rfl | rfl
  · exact (show Tryz.prog.wantsStandIn 27 = false by kernel_rfl)
  · exact (show Tryz.prog.wantsStandIn 28 = false by kernel_rfl)

theorem deskBegin_card : Rows.FnExactDeskBeginCardSaid :=
  Claim7.holds_tied_plain_at .later [] _ _ _ _ deskBegin_said (fun _ h => by cases h) (by kernel_rfl) (fun _ h => by cases h) fnExactDeskBegin_row_tie rfl ⟨rfl, rfl⟩ (by kernel_rfl) rfl deskBegin_plain (by kernel_rfl)
#print axioms deskBegin_card

end Go.Proofs.YtkhpjhjfobkmpaaGreatDoor
