/- What the last text of this claim stands on, part 5: plain facts and contracts; the last text says what is proved. -/
import Derived.Test.YtogfpnenoeonoaaDoorBase4
import Derived.BigQuiet
import Derived.Deep.RegionHeld

namespace Go.Proofs.YtogfpnenoeonoaaDoor
open Go.RowKit

theorem eqlWord (k h t m k' h' t' m' : Int) (w : World) : Sem.run Tryd.prog (binOp BinOp.eql 54 (wordV k h t m) (wordV k' h' t' m')) w = .ok (.bool (decide (k = k') && (decide (h = h') && (decide (t = t') && decide (m = m'))))) w := by
  by_cases e1 : k = k'
  · subst e1
    by_cases e2 : h = h'
    · subst e2
      by_cases e3 : t = t'
      · subst e3
        by_cases e4 : m = m'
        · subst e4
          go_simp
        · go_simp
      · go_simp
    · go_simp
  · go_simp

theorem not_contains {hs : List Wd} {k : Nat} {q p : Wd} (h : k < hs.length) (hp : hs.getD k (0, 0, 0, 0) = p) (h1 : (hs.take k).contains q = false) (h2 : p ≠ q) : (hs.take (k + 1)).contains q = false := by
  rw [wtake hs k h, hp]
  rw [Bool.eq_false_iff] at h1 ⊢
  intro h3
  have h4 := List.contains_iff_mem.1 h3
  rcases List.mem_append.1 h4 with h4 | h4
  · exact h1 (List.contains_iff_mem.2 h4)
  · simp only [List.mem_singleton] at h4
    exact h2 h4.symm
theorem yes_contains {hs : List Wd} {k : Nat} {p : Wd} (h : k < hs.length) (hp : hs.getD k (0, 0, 0, 0) = p) : hs.contains p = true := by
  rw [← hp, wget hs k h]
  exact List.contains_iff_mem.2 (List.getElem_mem h)
theorem word_ne {p q : Wd} (h : p ≠ q) : (decide (p.1 = q.1) && (decide (p.2.1 = q.2.1) && (decide (p.2.2.1 = q.2.2.1) && decide (p.2.2.2 = q.2.2.2)))) = false := by
  rw [Bool.eq_false_iff]
  intro e
  simp only [Bool.and_eq_true, decide_eq_true_eq] at e
  apply h
  obtain ⟨p0, p1, p2, p3⟩ := p
  obtain ⟨q0, q1, q2, q3⟩ := q
  simp only at e
  obtain ⟨rfl, rfl, rfl, rfl⟩ := e
  rfl

set_option maxHeartbeats 2000000 in
theorem l13Told_any (v : Value) (hs : List Wd) (q : Wd) (w : World) (hv : Words w v hs) (hl : hs.length ≤ 1048576) :
    Calls Tryd.prog 31 #[v, wordV q.1 q.2.1 q.2.2.1 q.2.2.2] w fun e w' => e = .returned (.bool (hs.contains q)) ∧ Below w.heap.size w w' := by
  rcases hv with ⟨rfl, ao, cap, rfl, -⟩ | ⟨b, off, cap, rfl, hz, hc⟩
  · go_enter Tryd.func31, Tryd.ntmps31
    go_wp2
    refine wp_loop_rounds 1 ?_
    rw [rounds_succ]
    go_wp2
    go_ret
    exact ⟨rfl, alloc_below _ _⟩
  have HC : Hid (∀ k, k < hs.length → w.cell? ⟨b, off + k * 4, none⟩ = some (.int .i64 (hs.getD k (0, 0, 0, 0)).1) ∧ w.cell? ⟨b, off + k * 4 + 1, none⟩ = some (.int .i64 (hs.getD k (0, 0, 0, 0)).2.1) ∧ w.cell? ⟨b, off + k * 4 + 2, none⟩ = some (.int .i64 (hs.getD k (0, 0, 0, 0)).2.2.1) ∧ w.cell? ⟨b, off + k * 4 + 3, none⟩ = some (.int .i64 (hs.getD k (0, 0, 0, 0)).2.2.2)) := hc
  have hzl : 0 < hs.length := List.length_pos_iff.2 hz
  have hbw : b < w.heap.size := World.block_lt_of_cell? _ _ (hc 0 hzl).1
  clear hc hz
  obtain ⟨w0, hw0⟩ : ∃ W, Hid (W = w.alloc (.cells #[.int .i64 q.1, .int .i64 q.2.1, .int .i64 q.2.2.1, .int .i64 q.2.2.2] 54)) := ⟨_, rfl⟩
  have B0 : Hid (Below w.heap.size w w0) := by show Below _ _ _; rw [hw0.out]; exact alloc_below _ _
  have X0 : Hid (Blk w0 w.heap.size #[.int .i64 q.1, .int .i64 q.2.1, .int .i64 q.2.2.1, .int .i64 q.2.2.2] 54) := by show Blk _ _ _ _; rw [hw0.out]; exact Blk.new _ _ _
  go_enter Tryd.func31, Tryd.ntmps31
  go_wp2
  rw [← hw0.out]
  go_loopw [5] (fun i wr => ∃ k : Nat, k ≤ hs.length ∧ i = .int .i64 k ∧ Hid ((hs.take k).contains q = false) ∧ Hid (Below w0.heap.size w0 wr)) (fun i _ => hs.length - (intOf i).toNat)
  case atStart => exact ⟨0, Nat.zero_le _, rfl, by show _ = _; simp, Below.refl _ _⟩
  case round =>
    obtain ⟨k, hk, rfl, HN, HB⟩ := hrel
    have HBw := hide_it (B0.out.trans (HB.out.mono B0.out.size))
    by_cases hlt : k < hs.length
    · obtain ⟨p, HP⟩ : ∃ p, Hid (hs.getD k (0, 0, 0, 0) = p) := ⟨_, rfl⟩
      have hcl := HC.out k hlt
      rw [HP.out] at hcl
      obtain ⟨c0, c1, c2, c3⟩ := hcl
      replace c0 := T.cellBelow c0 HBw.out hbw
      replace c1 := T.cellBelow c1 HBw.out hbw
      replace c2 := T.cellBelow c2 HBw.out hbw
      replace c3 := T.cellBelow c3 HBw.out hbw
      obtain ⟨x0, x1, x2, x3⟩ := (X0.out.after HB.out).cells4
      have hli : (k : Int) < (hs.length : Int) := by omega
      by_cases heq : p = q
      · subst heq
        have HY : Hid (hs.contains p = true) := yes_contains hlt HP.out
        go_wp2
        go_quiet (fail)
        go_wp2
        go_ret
        exact ⟨by rw [HY.out]; rfl, below_drewN HBw.out _⟩
      · have HNN : Hid ((hs.take (k + 1)).contains q = false) := not_contains hlt HP.out HN.out heq
        have he : ∀ W : World, Sem.run Tryd.prog (binOp BinOp.eql 54 (wordV p.1 p.2.1 p.2.2.1 p.2.2.2) (wordV q.1 q.2.1 q.2.2.1 q.2.2.2)) W = .ok (.bool false) W := fun W => by
          rw [eqlWord, word_ne heq]
        clear heq
        go_wp2
        go_quiet (fail)
        go_wp2
        go_roundw
        case rel => exact ⟨k + 1, by omega, by go_num, HNN, below_drewN HB.out _⟩
        case measure => simp [intOf]; omega
    · have HNN : Hid (hs.contains q = false) := by
        have hke : k = hs.length := by omega
        have := HN.out
        rw [hke, List.take_length] at this
        exact this
      go_wp2
      go_ret
      exact ⟨by rw [HNN.out]; rfl, HBw.out⟩

theorem Words.cut {w : World} {N cap : Nat} {ao : Option Addr} {hs : List Wd} (h : Words w (.slice ao hs.length cap) hs) (hN : N ≤ hs.length) : Words w (.slice ao N cap) (hs.take N) := by
  rcases h with ⟨rfl, ao', cap', e, hn⟩ | ⟨b, off, cap', e, hz, hc⟩
  · simp at hN
    subst hN
    simp at e
    obtain ⟨rfl, rfl⟩ := e
    exact Or.inl ⟨rfl, _, _, rfl, hn⟩
  · simp only [Value.slice.injEq] at e
    obtain ⟨rfl, -, rfl⟩ := e
    by_cases h0 : N = 0
    · subst h0
      exact Or.inl ⟨rfl, _, _, rfl, fun h => by cases h⟩
    · have hl : (hs.take N).length = N := by rw [List.length_take]; omega
      refine Or.inr ⟨b, off, cap, by rw [hl], by intro e; rw [e] at hl; simp at hl; omega, fun k hk => ?_⟩
      rw [hl] at hk
      have hg : (hs.take N).getD k (0, 0, 0, 0) = hs.getD k (0, 0, 0, 0) := by
        simp only [List.getD_eq_getElem?_getD, List.getElem?_take, hk, if_true]
      rw [hg]
      exact hc k (by omega)

set_option maxHeartbeats 16000000 in
theorem specDeskOk_any (up : Bool) (v u : Value) (rs : List R) (f : Int) (ws : List Wd) (w : World) (hv : DkAt w v u rs ws) (hl : tot rs ≤ 1048576) (hlw : ws.length ≤ 1048576) (hfu : Form u ws.length) :
    Calls Tryd.prog 9 #[deskV up v f u] w fun e w' => e = .returned (.bool (dkOk up rs f ws)) ∧ Below w.heap.size w w' := by
  have HV : Hid (∀ W, Below w.heap.size w W → DkAt W v u rs ws) := fun W h => hv.later h (Nat.le_refl _)
  have HO : Hid (∀ o, Calls Tryd.prog 28 #[v] (w.alloc o) fun e w' => T.TrOut (w.alloc o) w' e (T.ofO rs) (T.runT rs).isSome) := fun o =>
    T.l12Of_any v rs (w.alloc o) (hv.1.later (alloc_below w o) (Nat.le_refl _)) hl
  have HL : Hid (∀ W, Below w.heap.size w W → Calls Tryd.prog 29 #[.agg #[v, .int .i64 f]] W fun e w' => e = .returned (.bool (logOk rs f)) ∧ Below W.heap.size W w') := fun W h =>
    specLogOk_any v rs f W (hv.1.later h (Nat.le_refl _)) hl
  obtain ⟨av, cv, au, cu, rfl, rfl⟩ := hv.shape
  clear hv
  have hfc : ∀ k : Nat, k ≤ ws.length → k ≤ cu := fun k hk => by
    rcases hfu with ⟨e, h0⟩ | ⟨g, cap, e, h1⟩
    · omega
    · simp at e; omega
  clear hfu
  have HE : Hid (dkOk up rs f ws = (logOk rs f && ((T.runT rs).isSome && (toldOk (T.ofO rs).length ws && (up || ws.isEmpty))))) := rfl
  have hfit := T.ofO_fit rs
  rw [HE.out]
  clear HE
  obtain ⟨LL, hLL⟩ : ∃ x, logOk rs f = x := ⟨_, rfl⟩
  obtain ⟨OO, hOO⟩ : ∃ x, T.ofO rs = x := ⟨_, rfl⟩
  obtain ⟨SS, hSS⟩ : ∃ x, (T.runT rs).isSome = x := ⟨_, rfl⟩
  rw [hLL] at HL
  rw [hOO, hSS] at HO
  rw [hOO] at hfit
  rw [hLL, hOO, hSS]
  clear hLL hOO hSS
  have hO6 : OO.length ≤ 6 := hfit.1
  clear hfit
  have X0 : Hid (Blk (w.alloc (.cells #[.bool up, .slice av rs.length cv, .int .i64 f, .slice au ws.length cu] 35)) w.heap.size #[.bool up, .slice av rs.length cv, .int .i64 f, .slice au ws.length cu] 35) := Blk.new _ _ _
  go_enter Tryd.func9, Tryd.ntmps9
  go_wp2_with fail
  refine (HO.out _).mono ?_
  rintro e w1 ⟨ao, co, rfl, -, hb1⟩
  have B1 := hide_it (below_after hb1)
  have X1 := hide_it (X0.out.after hb1)
  obtain ⟨x0, x1, x2, x3⟩ := X1.out.cells4
  clear hb1
  go_wp2_with fail
  refine (HL.out w1 B1.out).mono ?_
  rintro e w2 ⟨rfl, hb2⟩
  have B2 := hide_it (B1.out.trans (hb2.mono B1.out.size))
  have X2 := hide_it (X1.out.after hb2)
  clear hb2 x0 x1 x2 x3
  cases LL
  · go_wp2
    go_ret
    exact ⟨rfl, B2.out⟩
  cases SS
  · go_wp2
    go_ret
    exact ⟨rfl, B2.out⟩
  go_wp2
  go_loopw [5] (fun i wr => ∃ k : Nat, k ≤ ws.length ∧ i = .int .i64 k ∧ Hid (toldOk OO.length (ws.take k) = true) ∧ Hid (Below w2.heap.size w2 wr)) (fun i _ => ws.length - (intOf i).toNat)
  case atStart => exact ⟨0, Nat.zero_le _, rfl, rfl, Below.refl _ _⟩
  case round =>
    obtain ⟨k, hk, rfl, HT, HB⟩ := hrel
    have HBw := hide_it (B2.out.trans (HB.out.mono B2.out.size))
    have XR := hide_it (X2.out.after HB.out)
    have hwr : w.heap.size < wr.heap.size := XR.out.lt
    by_cases hlt : k < ws.length
    · obtain ⟨p, HP⟩ : ∃ p, Hid (ws.getD k (0, 0, 0, 0) = p) := ⟨_, rfl⟩
      rcases (HV.out wr HBw.out).2 with ⟨h0, _⟩ | ⟨b, off, cap, hvv, _, hcl⟩
      · rw [h0] at hlt; simp at hlt
      simp only [Value.slice.injEq] at hvv
      obtain ⟨rfl, -, rfl⟩ := hvv
      obtain ⟨c0, c1, c2, c3⟩ := hcl k hlt
      rw [HP.out] at c0 c1 c2 c3
      have hbw : b < wr.heap.size := World.block_lt_of_cell? _ _ c0
      clear hcl
      obtain ⟨-, -, -, x3⟩ := XR.out.cells4
      have HA : Hid (∀ W, Calls Tryd.prog 30 #[wordV p.1 p.2.1 p.2.2.1 p.2.2.2] W fun e w' => e = .returned (.bool (Pl.wOk p.1 p.2.1 p.2.2.1 p.2.2.2)) ∧ Below W.heap.size W w') := fun W => specWordOk_any _ _ _ _ W
      have HT2 : Hid (∀ W, Below w.heap.size w W → Calls Tryd.prog 31 #[.slice (some ⟨b, off, none⟩) k cu, wordV p.1 p.2.1 p.2.2.1 p.2.2.2] W fun e w' => e = .returned (.bool ((ws.take k).contains p)) ∧ Below W.heap.size W w') := fun W h => by
        have := l13Told_any _ (ws.take k) p W (Words.cut (HV.out W h).2 hk) (by rw [List.length_take]; omega)
        exact this
      obtain ⟨wB, hwB⟩ : ∃ W, Hid (W = wr.alloc (.cells #[.int .i64 p.1, .int .i64 p.2.1, .int .i64 p.2.2.1, .int .i64 p.2.2.2] 54)) := ⟨_, rfl⟩
      have D1 : Hid (Blk wB wr.heap.size #[.int .i64 p.1, .int .i64 p.2.1, .int .i64 p.2.2.1, .int .i64 p.2.2.2] 54) := by show Blk _ _ _ _; rw [hwB.out]; exact Blk.new _ _ _
      have XB : Hid (Blk wB w.heap.size #[.bool up, .slice av rs.length cv, .int .i64 f, .slice (some ⟨b, off, none⟩) ws.length cu] 35) := by show Blk _ _ _ _; rw [hwB.out]; exact XR.out.alloc _
      have LB : Hid (Below wr.heap.size wr wB) := by show Below _ _ _; rw [hwB.out]; exact alloc_below _ _
      have BW : Hid (∀ W, Below wB.heap.size wB W → Below w.heap.size w W) := fun W h => HBw.out.trans ((LB.out.trans (h.mono LB.out.size)).mono (by omega))
      have BW2 : Hid (∀ W, Below wB.heap.size wB W → Below w2.heap.size w2 W) := fun W h => HB.out.trans ((LB.out.trans (h.mono LB.out.size)).mono HB.out.size)
      have hcap := hfc k hk
      have HFC := hide_it hfc
      clear hfc
      go_wp2
      rw [← hwB.out]
      clear x3 c0 c1 c2 c3
      obtain ⟨d0, d1, d2, d3⟩ := D1.out.cells4
      obtain ⟨-, -, -, x3⟩ := XB.out.cells4
      obtain ⟨aa, haa⟩ : ∃ x, Pl.wOk p.1 p.2.1 p.2.2.1 p.2.2.2 = x := ⟨_, rfl⟩
      rw [haa] at HA
      cases aa
      · have HN : Hid (toldOk OO.length ws = false) := toldOk_bad hlt (by rw [HP.out]; unfold ansOk; rw [haa]; rfl)
        clear haa
        refine wp_region_held_drew (S := fun w' => (w'.cell? ⟨wr.heap.size, 0, none⟩ = some (.int .i64 p.1) ∧ w'.cell? ⟨wr.heap.size, 1, none⟩ = some (.int .i64 p.2.1) ∧ w'.cell? ⟨wr.heap.size, 2, none⟩ = some (.int .i64 p.2.2.1) ∧ w'.cell? ⟨wr.heap.size, 3, none⟩ = some (.int .i64 p.2.2.2)) ∧ w'.cell? ⟨w.heap.size, 3, none⟩ = some (.slice (some ⟨b, off, none⟩) ws.length cu)) (by kernel_rfl) ⟨⟨d0, d1, d2, d3⟩, x3⟩ (fun hHeld => ?_)
        clear d0 d1 d2 d3 x3
        refine takeD (i := 0) (v := ?_) (some 34) rfl rfl (by kernel_rfl) (by kernel_rfl) (by kernel_rfl) (fun _ _ _ h => h) (by rfl) hHeld ?_ ?_
        rotate_left
        · intro W hSw
          try dsimp only at hSw
          go_simp
          try with_reducible rfl
        try simp only [Act.put]
        try simp only [List.setIfInBounds_toArray]
        try simp only [List.set_cons_succ]
        try simp only [List.set_cons_zero]
        refine wpAnyH_ready (rs := [1]) (by kernel_rfl) (by simp) ?_
        refine AllReadyH.cons rfl (fun K hK => ?_) AllReadyH.nil
        go_simp
        refine (HA.out _).mono ?_
        rintro e w2 ⟨rfl, hb2⟩
        have L2 := hide_it ((Below.refl wB.heap.size wB).drew.trans hb2)
        clear hb2
        obtain ⟨d0, d1, d2, d3⟩ := (D1.out.after L2.out).cells4
        obtain ⟨-, -, -, x3⟩ := (XB.out.after L2.out).cells4
        try dsimp only
        refine hK.out _ _ ⟨⟨d0, d1, d2, d3⟩, x3⟩ (fun hHeld => ?_)
        clear hK K d0 d1 d2 d3 x3
        refine takeD (i := 2) (v := .bool true) (some 36) rfl rfl (by kernel_rfl) (by kernel_rfl) (by kernel_rfl) (fun _ _ _ h => h) (by rfl) hHeld ?_ ?_
        · intro W hSw
          try dsimp only at hSw
          first | (go_simp; done) | (go_simp; simp [*]; done) | (go_simp; simp; omega)
        try simp only [Act.put]
        try simp only [List.setIfInBounds_toArray]
        try simp only [List.set_cons_succ]
        try simp only [List.set_cons_zero]
        refine takeD (i := 3) (v := .bool true) (some 37) rfl rfl (by kernel_rfl) (by kernel_rfl) (by kernel_rfl) (fun _ _ _ h => h) (by rfl) hHeld ?_ ?_
        · intro W hSw
          try dsimp only at hSw
          first | (go_simp; done) | (go_simp; simp [*]; done) | (go_simp; simp; omega)
        try simp only [Act.put]
        try simp only [List.setIfInBounds_toArray]
        try simp only [List.set_cons_succ]
        try simp only [List.set_cons_zero]
        refine skipD (i := 4) (some 38) rfl rfl (by kernel_rfl) (by kernel_rfl) (by kernel_rfl) (fun _ _ _ h => h) (by rfl) hHeld ?_
        try simp only [Act.put]
        try simp only [List.setIfInBounds_toArray]
        try simp only [List.set_cons_succ]
        try simp only [List.set_cons_zero]
        refine skipD (i := 5) (some 39) rfl rfl (by kernel_rfl) (by kernel_rfl) (by kernel_rfl) (fun _ _ _ h => h) (by rfl) hHeld ?_
        try simp only [Act.put]
        try simp only [List.setIfInBounds_toArray]
        try simp only [List.set_cons_succ]
        try simp only [List.set_cons_zero]
        refine skipD (i := 6) (some 40) rfl rfl (by kernel_rfl) (by kernel_rfl) (by kernel_rfl) (fun _ _ _ h => h) (by rfl) hHeld ?_
        try simp only [Act.put]
        try simp only [List.setIfInBounds_toArray]
        try simp only [List.set_cons_succ]
        try simp only [List.set_cons_zero]
        refine takeD (i := 7) (v := .bool true) (some 41) rfl rfl (by kernel_rfl) (by kernel_rfl) (by kernel_rfl) (fun _ _ _ h => h) (by rfl) hHeld ?_ ?_
        · intro W hSw
          try dsimp only at hSw
          first | (go_simp; done) | (go_simp; simp [*]; done) | (go_simp; simp; omega)
        try simp only [Act.put]
        try simp only [List.setIfInBounds_toArray]
        try simp only [List.set_cons_succ]
        try simp only [List.set_cons_zero]
        refine takeD (i := 8) (v := .bool true) (some 42) rfl rfl (by kernel_rfl) (by kernel_rfl) (by kernel_rfl) (fun _ _ _ h => h) (by rfl) hHeld ?_ ?_
        · intro W hSw
          try dsimp only at hSw
          first | (go_simp; done) | (go_simp; simp [*]; done) | (go_simp; simp; omega)
        try simp only [Act.put]
        try simp only [List.setIfInBounds_toArray]
        try simp only [List.set_cons_succ]
        try simp only [List.set_cons_zero]
        refine skipD (i := 9) (some 43) rfl rfl (by kernel_rfl) (by kernel_rfl) (by kernel_rfl) (fun _ _ _ h => h) (by rfl) hHeld ?_
        try simp only [Act.put]
        try simp only [List.setIfInBounds_toArray]
        try simp only [List.set_cons_succ]
        try simp only [List.set_cons_zero]
        refine skipD (i := 10) (some 44) rfl rfl (by kernel_rfl) (by kernel_rfl) (by kernel_rfl) (fun _ _ _ h => h) (by rfl) hHeld ?_
        try simp only [Act.put]
        try simp only [List.setIfInBounds_toArray]
        try simp only [List.set_cons_succ]
        try simp only [List.set_cons_zero]
        refine skipD (i := 11) (some 45) rfl rfl (by kernel_rfl) (by kernel_rfl) (by kernel_rfl) (fun _ _ _ h => h) (by rfl) hHeld ?_
        try simp only [Act.put]
        try simp only [List.setIfInBounds_toArray]
        try simp only [List.set_cons_succ]
        try simp only [List.set_cons_zero]
        refine skipD (i := 12) (some 46) rfl rfl (by kernel_rfl) (by kernel_rfl) (by kernel_rfl) (fun _ _ _ h => h) (by rfl) hHeld ?_
        try simp only [Act.put]
        try simp only [List.setIfInBounds_toArray]
        try simp only [List.set_cons_succ]
        try simp only [List.set_cons_zero]
        refine skipD (i := 13) (some 47) rfl rfl (by kernel_rfl) (by kernel_rfl) (by kernel_rfl) (fun _ _ _ h => h) (by rfl) hHeld ?_
        try simp only [Act.put]
        try simp only [List.setIfInBounds_toArray]
        try simp only [List.set_cons_succ]
        try simp only [List.set_cons_zero]
        refine takeD (i := 14) (v := .bool true) (some 48) rfl rfl (by kernel_rfl) (by kernel_rfl) (by kernel_rfl) (fun _ _ _ h => h) (by rfl) hHeld ?_ ?_
        · intro W hSw
          try dsimp only at hSw
          first | (go_simp; done) | (go_simp; simp [*]; done) | (go_simp; simp; omega)
        try simp only [Act.put]
        try simp only [List.setIfInBounds_toArray]
        try simp only [List.set_cons_succ]
        try simp only [List.set_cons_zero]
        refine takeD (i := 15) (v := .bool true) (some 49) rfl rfl (by kernel_rfl) (by kernel_rfl) (by kernel_rfl) (fun _ _ _ h => h) (by rfl) hHeld ?_ ?_
        · intro W hSw
          try dsimp only at hSw
          first | (go_simp; done) | (go_simp; simp [*]; done) | (go_simp; simp; omega)
        try simp only [Act.put]
        try simp only [List.setIfInBounds_toArray]
        try simp only [List.set_cons_succ]
        try simp only [List.set_cons_zero]
        refine skipD (i := 16) (some 50) rfl rfl (by kernel_rfl) (by kernel_rfl) (by kernel_rfl) (fun _ _ _ h => h) (by rfl) hHeld ?_
        try simp only [Act.put]
        try simp only [List.setIfInBounds_toArray]
        try simp only [List.set_cons_succ]
        try simp only [List.set_cons_zero]
        refine skipD (i := 17) (some 51) rfl rfl (by kernel_rfl) (by kernel_rfl) (by kernel_rfl) (fun _ _ _ h => h) (by rfl) hHeld ?_
        try simp only [Act.put]
        try simp only [List.setIfInBounds_toArray]
        try simp only [List.set_cons_succ]
        try simp only [List.set_cons_zero]
        refine skipD (i := 18) (some 52) rfl rfl (by kernel_rfl) (by kernel_rfl) (by kernel_rfl) (fun _ _ _ h => h) (by rfl) hHeld ?_
        try simp only [Act.put]
        try simp only [List.setIfInBounds_toArray]
        try simp only [List.set_cons_succ]
        try simp only [List.set_cons_zero]
        refine skipD (i := 19) (some 53) rfl rfl (by kernel_rfl) (by kernel_rfl) (by kernel_rfl) (fun _ _ _ h => h) (by rfl) hHeld ?_
        try simp only [Act.put]
        try simp only [List.setIfInBounds_toArray]
        try simp only [List.set_cons_succ]
        try simp only [List.set_cons_zero]
        refine skipD (i := 20) (some 54) rfl rfl (by kernel_rfl) (by kernel_rfl) (by kernel_rfl) (fun _ _ _ h => h) (by rfl) hHeld ?_
        try simp only [Act.put]
        try simp only [List.setIfInBounds_toArray]
        try simp only [List.set_cons_succ]
        try simp only [List.set_cons_zero]
        refine skipD (i := 21) (some 55) rfl rfl (by kernel_rfl) (by kernel_rfl) (by kernel_rfl) (fun _ _ _ h => h) (by rfl) hHeld ?_
        try simp only [Act.put]
        try simp only [List.setIfInBounds_toArray]
        try simp only [List.set_cons_succ]
        try simp only [List.set_cons_zero]
        refine takeD (i := 22) (v := .bool true) (some 56) rfl rfl (by kernel_rfl) (by kernel_rfl) (by kernel_rfl) (fun _ _ _ h => h) (by rfl) hHeld ?_ ?_
        · intro W hSw
          try dsimp only at hSw
          first | (go_simp; done) | (go_simp; simp [*]; done) | (go_simp; simp; omega)
        try simp only [Act.put]
        try simp only [List.setIfInBounds_toArray]
        try simp only [List.set_cons_succ]
        try simp only [List.set_cons_zero]
        refine wpAnyH_done (by kernel_rfl) ?_ _
        go_wp2
        go_ret
        exact ⟨by rw [HN.out]; simp, BW.out _ L2.out⟩
      by_cases h4 : p.1 < 4
      · have HN : Hid (toldOk OO.length ws = false) := toldOk_bad hlt (by rw [HP.out]; unfold ansOk; rw [haa, decide_eq_false (by omega)]; rfl)
        clear haa
        refine wp_region_held_drew (S := fun w' => (w'.cell? ⟨wr.heap.size, 0, none⟩ = some (.int .i64 p.1) ∧ w'.cell? ⟨wr.heap.size, 1, none⟩ = some (.int .i64 p.2.1) ∧ w'.cell? ⟨wr.heap.size, 2, none⟩ = some (.int .i64 p.2.2.1) ∧ w'.cell? ⟨wr.heap.size, 3, none⟩ = some (.int .i64 p.2.2.2)) ∧ w'.cell? ⟨w.heap.size, 3, none⟩ = some (.slice (some ⟨b, off, none⟩) ws.length cu)) (by kernel_rfl) ⟨⟨d0, d1, d2, d3⟩, x3⟩ (fun hHeld => ?_)
        clear d0 d1 d2 d3 x3
        refine takeD (i := 0) (v := ?_) (some 34) rfl rfl (by kernel_rfl) (by kernel_rfl) (by kernel_rfl) (fun _ _ _ h => h) (by rfl) hHeld ?_ ?_
        rotate_left
        · intro W hSw
          try dsimp only at hSw
          go_simp
          try with_reducible rfl
        try simp only [Act.put]
        try simp only [List.setIfInBounds_toArray]
        try simp only [List.set_cons_succ]
        try simp only [List.set_cons_zero]
        refine wpAnyH_ready (rs := [1]) (by kernel_rfl) (by simp) ?_
        refine AllReadyH.cons rfl (fun K hK => ?_) AllReadyH.nil
        go_simp
        refine (HA.out _).mono ?_
        rintro e w2 ⟨rfl, hb2⟩
        have L2 := hide_it ((Below.refl wB.heap.size wB).drew.trans hb2)
        clear hb2
        obtain ⟨d0, d1, d2, d3⟩ := (D1.out.after L2.out).cells4
        obtain ⟨-, -, -, x3⟩ := (XB.out.after L2.out).cells4
        try dsimp only
        refine hK.out _ _ ⟨⟨d0, d1, d2, d3⟩, x3⟩ (fun hHeld => ?_)
        clear hK K d0 d1 d2 d3 x3
        refine takeD (i := 2) (v := .bool false) (some 36) rfl rfl (by kernel_rfl) (by kernel_rfl) (by kernel_rfl) (fun _ _ _ h => h) (by rfl) hHeld ?_ ?_
        · intro W hSw
          try dsimp only at hSw
          first | (go_simp; done) | (go_simp; simp [*]; done) | (go_simp; simp; omega)
        try simp only [Act.put]
        try simp only [List.setIfInBounds_toArray]
        try simp only [List.set_cons_succ]
        try simp only [List.set_cons_zero]
        refine takeD (i := 3) (v := .bool false) (some 37) rfl rfl (by kernel_rfl) (by kernel_rfl) (by kernel_rfl) (fun _ _ _ h => h) (by rfl) hHeld ?_ ?_
        · intro W hSw
          try dsimp only at hSw
          first | (go_simp; done) | (go_simp; simp [*]; done) | (go_simp; simp; omega)
        try simp only [Act.put]
        try simp only [List.setIfInBounds_toArray]
        try simp only [List.set_cons_succ]
        try simp only [List.set_cons_zero]
        refine takeD (i := 4) (v := ?_) (some 38) rfl rfl (by kernel_rfl) (by kernel_rfl) (by kernel_rfl) (fun _ _ _ h => h) (by rfl) hHeld ?_ ?_
        rotate_left
        · intro W hSw
          try dsimp only at hSw
          go_simp
          try with_reducible rfl
        try simp only [Act.put]
        try simp only [List.setIfInBounds_toArray]
        try simp only [List.set_cons_succ]
        try simp only [List.set_cons_zero]
        refine takeD (i := 5) (v := ?_) (some 39) rfl rfl (by kernel_rfl) (by kernel_rfl) (by kernel_rfl) (fun _ _ _ h => h) (by rfl) hHeld ?_ ?_
        rotate_left
        · intro W hSw
          try dsimp only at hSw
          go_simp
          try with_reducible rfl
        try simp only [Act.put]
        try simp only [List.setIfInBounds_toArray]
        try simp only [List.set_cons_succ]
        try simp only [List.set_cons_zero]
        refine takeD (i := 6) (v := .bool true) (some 40) rfl rfl (by kernel_rfl) (by kernel_rfl) (by kernel_rfl) (fun _ _ _ h => h) (by rfl) hHeld ?_ ?_
        · intro W hSw
          try dsimp only at hSw
          first | (go_simp; done) | (go_simp; simp [*]; done) | (go_simp; simp; omega)
        try simp only [Act.put]
        try simp only [List.setIfInBounds_toArray]
        try simp only [List.set_cons_succ]
        try simp only [List.set_cons_zero]
        refine takeD (i := 7) (v := .bool true) (some 41) rfl rfl (by kernel_rfl) (by kernel_rfl) (by kernel_rfl) (fun _ _ _ h => h) (by rfl) hHeld ?_ ?_
        · intro W hSw
          try dsimp only at hSw
          first | (go_simp; done) | (go_simp; simp [*]; done) | (go_simp; simp; omega)
        try simp only [Act.put]
        try simp only [List.setIfInBounds_toArray]
        try simp only [List.set_cons_succ]
        try simp only [List.set_cons_zero]
        refine takeD (i := 8) (v := .bool true) (some 42) rfl rfl (by kernel_rfl) (by kernel_rfl) (by kernel_rfl) (fun _ _ _ h => h) (by rfl) hHeld ?_ ?_
        · intro W hSw
          try dsimp only at hSw
          first | (go_simp; done) | (go_simp; simp [*]; done) | (go_simp; simp; omega)
        try simp only [Act.put]
        try simp only [List.setIfInBounds_toArray]
        try simp only [List.set_cons_succ]
        try simp only [List.set_cons_zero]
        refine skipD (i := 9) (some 43) rfl rfl (by kernel_rfl) (by kernel_rfl) (by kernel_rfl) (fun _ _ _ h => h) (by rfl) hHeld ?_
        try simp only [Act.put]
        try simp only [List.setIfInBounds_toArray]
        try simp only [List.set_cons_succ]
        try simp only [List.set_cons_zero]
        refine skipD (i := 10) (some 44) rfl rfl (by kernel_rfl) (by kernel_rfl) (by kernel_rfl) (fun _ _ _ h => h) (by rfl) hHeld ?_
        try simp only [Act.put]
        try simp only [List.setIfInBounds_toArray]
        try simp only [List.set_cons_succ]
        try simp only [List.set_cons_zero]
        refine skipD (i := 11) (some 45) rfl rfl (by kernel_rfl) (by kernel_rfl) (by kernel_rfl) (fun _ _ _ h => h) (by rfl) hHeld ?_
        try simp only [Act.put]
        try simp only [List.setIfInBounds_toArray]
        try simp only [List.set_cons_succ]
        try simp only [List.set_cons_zero]
        refine skipD (i := 12) (some 46) rfl rfl (by kernel_rfl) (by kernel_rfl) (by kernel_rfl) (fun _ _ _ h => h) (by rfl) hHeld ?_
        try simp only [Act.put]
        try simp only [List.setIfInBounds_toArray]
        try simp only [List.set_cons_succ]
        try simp only [List.set_cons_zero]
        refine skipD (i := 13) (some 47) rfl rfl (by kernel_rfl) (by kernel_rfl) (by kernel_rfl) (fun _ _ _ h => h) (by rfl) hHeld ?_
        try simp only [Act.put]
        try simp only [List.setIfInBounds_toArray]
        try simp only [List.set_cons_succ]
        try simp only [List.set_cons_zero]
        refine takeD (i := 14) (v := .bool true) (some 48) rfl rfl (by kernel_rfl) (by kernel_rfl) (by kernel_rfl) (fun _ _ _ h => h) (by rfl) hHeld ?_ ?_
        · intro W hSw
          try dsimp only at hSw
          first | (go_simp; done) | (go_simp; simp [*]; done) | (go_simp; simp; omega)
        try simp only [Act.put]
        try simp only [List.setIfInBounds_toArray]
        try simp only [List.set_cons_succ]
        try simp only [List.set_cons_zero]
        refine takeD (i := 15) (v := .bool true) (some 49) rfl rfl (by kernel_rfl) (by kernel_rfl) (by kernel_rfl) (fun _ _ _ h => h) (by rfl) hHeld ?_ ?_
        · intro W hSw
          try dsimp only at hSw
          first | (go_simp; done) | (go_simp; simp [*]; done) | (go_simp; simp; omega)
        try simp only [Act.put]
        try simp only [List.setIfInBounds_toArray]
        try simp only [List.set_cons_succ]
        try simp only [List.set_cons_zero]
        refine skipD (i := 16) (some 50) rfl rfl (by kernel_rfl) (by kernel_rfl) (by kernel_rfl) (fun _ _ _ h => h) (by rfl) hHeld ?_
        try simp only [Act.put]
        try simp only [List.setIfInBounds_toArray]
        try simp only [List.set_cons_succ]
        try simp only [List.set_cons_zero]
        refine skipD (i := 17) (some 51) rfl rfl (by kernel_rfl) (by kernel_rfl) (by kernel_rfl) (fun _ _ _ h => h) (by rfl) hHeld ?_
        try simp only [Act.put]
        try simp only [List.setIfInBounds_toArray]
        try simp only [List.set_cons_succ]
        try simp only [List.set_cons_zero]
        refine skipD (i := 18) (some 52) rfl rfl (by kernel_rfl) (by kernel_rfl) (by kernel_rfl) (fun _ _ _ h => h) (by rfl) hHeld ?_
        try simp only [Act.put]
        try simp only [List.setIfInBounds_toArray]
        try simp only [List.set_cons_succ]
        try simp only [List.set_cons_zero]
        refine skipD (i := 19) (some 53) rfl rfl (by kernel_rfl) (by kernel_rfl) (by kernel_rfl) (fun _ _ _ h => h) (by rfl) hHeld ?_
        try simp only [Act.put]
        try simp only [List.setIfInBounds_toArray]
        try simp only [List.set_cons_succ]
        try simp only [List.set_cons_zero]
        refine skipD (i := 20) (some 54) rfl rfl (by kernel_rfl) (by kernel_rfl) (by kernel_rfl) (fun _ _ _ h => h) (by rfl) hHeld ?_
        try simp only [Act.put]
        try simp only [List.setIfInBounds_toArray]
        try simp only [List.set_cons_succ]
        try simp only [List.set_cons_zero]
        refine skipD (i := 21) (some 55) rfl rfl (by kernel_rfl) (by kernel_rfl) (by kernel_rfl) (fun _ _ _ h => h) (by rfl) hHeld ?_
        try simp only [Act.put]
        try simp only [List.setIfInBounds_toArray]
        try simp only [List.set_cons_succ]
        try simp only [List.set_cons_zero]
        refine takeD (i := 22) (v := .bool true) (some 56) rfl rfl (by kernel_rfl) (by kernel_rfl) (by kernel_rfl) (fun _ _ _ h => h) (by rfl) hHeld ?_ ?_
        · intro W hSw
          try dsimp only at hSw
          first | (go_simp; done) | (go_simp; simp [*]; done) | (go_simp; simp; omega)
        try simp only [Act.put]
        try simp only [List.setIfInBounds_toArray]
        try simp only [List.set_cons_succ]
        try simp only [List.set_cons_zero]
        refine wpAnyH_done (by kernel_rfl) ?_ _
        go_wp2
        go_ret
        exact ⟨by rw [HN.out]; simp, BW.out _ L2.out⟩
      by_cases hn : (OO.length : Int) < p.2.2.1
      · have HN : Hid (toldOk OO.length ws = false) := toldOk_bad hlt (by rw [HP.out]; unfold ansOk; rw [haa, decide_eq_true (by omega), decide_eq_false (by omega)]; rfl)
        clear haa
        refine wp_region_held_drew (S := fun w' => (w'.cell? ⟨wr.heap.size, 0, none⟩ = some (.int .i64 p.1) ∧ w'.cell? ⟨wr.heap.size, 1, none⟩ = some (.int .i64 p.2.1) ∧ w'.cell? ⟨wr.heap.size, 2, none⟩ = some (.int .i64 p.2.2.1) ∧ w'.cell? ⟨wr.heap.size, 3, none⟩ = some (.int .i64 p.2.2.2)) ∧ w'.cell? ⟨w.heap.size, 3, none⟩ = some (.slice (some ⟨b, off, none⟩) ws.length cu)) (by kernel_rfl) ⟨⟨d0, d1, d2, d3⟩, x3⟩ (fun hHeld => ?_)
        clear d0 d1 d2 d3 x3
        refine takeD (i := 0) (v := ?_) (some 34) rfl rfl (by kernel_rfl) (by kernel_rfl) (by kernel_rfl) (fun _ _ _ h => h) (by rfl) hHeld ?_ ?_
        rotate_left
        · intro W hSw
          try dsimp only at hSw
          go_simp
          try with_reducible rfl
        try simp only [Act.put]
        try simp only [List.setIfInBounds_toArray]
        try simp only [List.set_cons_succ]
        try simp only [List.set_cons_zero]
        refine wpAnyH_ready (rs := [1]) (by kernel_rfl) (by simp) ?_
        refine AllReadyH.cons rfl (fun K hK => ?_) AllReadyH.nil
        go_simp
        refine (HA.out _).mono ?_
        rintro e w2 ⟨rfl, hb2⟩
        have L2 := hide_it ((Below.refl wB.heap.size wB).drew.trans hb2)
        clear hb2
        obtain ⟨d0, d1, d2, d3⟩ := (D1.out.after L2.out).cells4
        obtain ⟨-, -, -, x3⟩ := (XB.out.after L2.out).cells4
        try dsimp only
        refine hK.out _ _ ⟨⟨d0, d1, d2, d3⟩, x3⟩ (fun hHeld => ?_)
        clear hK K d0 d1 d2 d3 x3
        refine takeD (i := 2) (v := .bool false) (some 36) rfl rfl (by kernel_rfl) (by kernel_rfl) (by kernel_rfl) (fun _ _ _ h => h) (by rfl) hHeld ?_ ?_
        · intro W hSw
          try dsimp only at hSw
          first | (go_simp; done) | (go_simp; simp [*]; done) | (go_simp; simp; omega)
        try simp only [Act.put]
        try simp only [List.setIfInBounds_toArray]
        try simp only [List.set_cons_succ]
        try simp only [List.set_cons_zero]
        refine takeD (i := 3) (v := .bool false) (some 37) rfl rfl (by kernel_rfl) (by kernel_rfl) (by kernel_rfl) (fun _ _ _ h => h) (by rfl) hHeld ?_ ?_
        · intro W hSw
          try dsimp only at hSw
          first | (go_simp; done) | (go_simp; simp [*]; done) | (go_simp; simp; omega)
        try simp only [Act.put]
        try simp only [List.setIfInBounds_toArray]
        try simp only [List.set_cons_succ]
        try simp only [List.set_cons_zero]
        refine takeD (i := 4) (v := ?_) (some 38) rfl rfl (by kernel_rfl) (by kernel_rfl) (by kernel_rfl) (fun _ _ _ h => h) (by rfl) hHeld ?_ ?_
        rotate_left
        · intro W hSw
          try dsimp only at hSw
          go_simp
          try with_reducible rfl
        try simp only [Act.put]
        try simp only [List.setIfInBounds_toArray]
        try simp only [List.set_cons_succ]
        try simp only [List.set_cons_zero]
        refine takeD (i := 5) (v := ?_) (some 39) rfl rfl (by kernel_rfl) (by kernel_rfl) (by kernel_rfl) (fun _ _ _ h => h) (by rfl) hHeld ?_ ?_
        rotate_left
        · intro W hSw
          try dsimp only at hSw
          go_simp
          try with_reducible rfl
        try simp only [Act.put]
        try simp only [List.setIfInBounds_toArray]
        try simp only [List.set_cons_succ]
        try simp only [List.set_cons_zero]
        refine takeD (i := 6) (v := .bool false) (some 40) rfl rfl (by kernel_rfl) (by kernel_rfl) (by kernel_rfl) (fun _ _ _ h => h) (by rfl) hHeld ?_ ?_
        · intro W hSw
          try dsimp only at hSw
          first | (go_simp; done) | (go_simp; simp [*]; done) | (go_simp; simp; omega)
        try simp only [Act.put]
        try simp only [List.setIfInBounds_toArray]
        try simp only [List.set_cons_succ]
        try simp only [List.set_cons_zero]
        refine takeD (i := 7) (v := .bool false) (some 41) rfl rfl (by kernel_rfl) (by kernel_rfl) (by kernel_rfl) (fun _ _ _ h => h) (by rfl) hHeld ?_ ?_
        · intro W hSw
          try dsimp only at hSw
          first | (go_simp; done) | (go_simp; simp [*]; done) | (go_simp; simp; omega)
        try simp only [Act.put]
        try simp only [List.setIfInBounds_toArray]
        try simp only [List.set_cons_succ]
        try simp only [List.set_cons_zero]
        refine takeD (i := 8) (v := .bool false) (some 42) rfl rfl (by kernel_rfl) (by kernel_rfl) (by kernel_rfl) (fun _ _ _ h => h) (by rfl) hHeld ?_ ?_
        · intro W hSw
          try dsimp only at hSw
          first | (go_simp; done) | (go_simp; simp [*]; done) | (go_simp; simp; omega)
        try simp only [Act.put]
        try simp only [List.setIfInBounds_toArray]
        try simp only [List.set_cons_succ]
        try simp only [List.set_cons_zero]
        refine takeD (i := 9) (v := ?_) (some 43) rfl rfl (by kernel_rfl) (by kernel_rfl) (by kernel_rfl) (fun _ _ _ h => h) (by rfl) hHeld ?_ ?_
        rotate_left
        · intro W hSw
          try dsimp only at hSw
          go_simp
          try with_reducible rfl
        try simp only [Act.put]
        try simp only [List.setIfInBounds_toArray]
        try simp only [List.set_cons_succ]
        try simp only [List.set_cons_zero]
        refine takeD (i := 10) (v := ?_) (some 44) rfl rfl (by kernel_rfl) (by kernel_rfl) (by kernel_rfl) (fun _ _ _ h => h) (by rfl) hHeld ?_ ?_
        rotate_left
        · intro W hSw
          try dsimp only at hSw
          go_simp
          try with_reducible rfl
        try simp only [Act.put]
        try simp only [List.setIfInBounds_toArray]
        try simp only [List.set_cons_succ]
        try simp only [List.set_cons_zero]
        refine takeD (i := 11) (v := ?_) (some 45) rfl rfl (by kernel_rfl) (by kernel_rfl) (by kernel_rfl) (fun _ _ _ h => h) (by rfl) hHeld ?_ ?_
        rotate_left
        · intro W hSw
          try dsimp only at hSw
          go_simp
          try with_reducible rfl
        try simp only [Act.put]
        try simp only [List.setIfInBounds_toArray]
        try simp only [List.set_cons_succ]
        try simp only [List.set_cons_zero]
        refine takeD (i := 12) (v := ?_) (some 46) rfl rfl (by kernel_rfl) (by kernel_rfl) (by kernel_rfl) (fun _ _ _ h => h) (by rfl) hHeld ?_ ?_
        rotate_left
        · intro W hSw
          try dsimp only at hSw
          go_simp
          try with_reducible rfl
        try simp only [Act.put]
        try simp only [List.setIfInBounds_toArray]
        try simp only [List.set_cons_succ]
        try simp only [List.set_cons_zero]
        refine takeD (i := 13) (v := .bool true) (some 47) rfl rfl (by kernel_rfl) (by kernel_rfl) (by kernel_rfl) (fun _ _ _ h => h) (by rfl) hHeld ?_ ?_
        · intro W hSw
          try dsimp only at hSw
          first | (go_simp; done) | (go_simp; simp [*]; done) | (go_simp; simp; omega)
        try simp only [Act.put]
        try simp only [List.setIfInBounds_toArray]
        try simp only [List.set_cons_succ]
        try simp only [List.set_cons_zero]
        refine takeD (i := 14) (v := .bool true) (some 48) rfl rfl (by kernel_rfl) (by kernel_rfl) (by kernel_rfl) (fun _ _ _ h => h) (by rfl) hHeld ?_ ?_
        · intro W hSw
          try dsimp only at hSw
          first | (go_simp; done) | (go_simp; simp [*]; done) | (go_simp; simp; omega)
        try simp only [Act.put]
        try simp only [List.setIfInBounds_toArray]
        try simp only [List.set_cons_succ]
        try simp only [List.set_cons_zero]
        refine takeD (i := 15) (v := .bool true) (some 49) rfl rfl (by kernel_rfl) (by kernel_rfl) (by kernel_rfl) (fun _ _ _ h => h) (by rfl) hHeld ?_ ?_
        · intro W hSw
          try dsimp only at hSw
          first | (go_simp; done) | (go_simp; simp [*]; done) | (go_simp; simp; omega)
        try simp only [Act.put]
        try simp only [List.setIfInBounds_toArray]
        try simp only [List.set_cons_succ]
        try simp only [List.set_cons_zero]
        refine skipD (i := 16) (some 50) rfl rfl (by kernel_rfl) (by kernel_rfl) (by kernel_rfl) (fun _ _ _ h => h) (by rfl) hHeld ?_
        try simp only [Act.put]
        try simp only [List.setIfInBounds_toArray]
        try simp only [List.set_cons_succ]
        try simp only [List.set_cons_zero]
        refine skipD (i := 17) (some 51) rfl rfl (by kernel_rfl) (by kernel_rfl) (by kernel_rfl) (fun _ _ _ h => h) (by rfl) hHeld ?_
        try simp only [Act.put]
        try simp only [List.setIfInBounds_toArray]
        try simp only [List.set_cons_succ]
        try simp only [List.set_cons_zero]
        refine skipD (i := 18) (some 52) rfl rfl (by kernel_rfl) (by kernel_rfl) (by kernel_rfl) (fun _ _ _ h => h) (by rfl) hHeld ?_
        try simp only [Act.put]
        try simp only [List.setIfInBounds_toArray]
        try simp only [List.set_cons_succ]
        try simp only [List.set_cons_zero]
        refine skipD (i := 19) (some 53) rfl rfl (by kernel_rfl) (by kernel_rfl) (by kernel_rfl) (fun _ _ _ h => h) (by rfl) hHeld ?_
        try simp only [Act.put]
        try simp only [List.setIfInBounds_toArray]
        try simp only [List.set_cons_succ]
        try simp only [List.set_cons_zero]
        refine skipD (i := 20) (some 54) rfl rfl (by kernel_rfl) (by kernel_rfl) (by kernel_rfl) (fun _ _ _ h => h) (by rfl) hHeld ?_
        try simp only [Act.put]
        try simp only [List.setIfInBounds_toArray]
        try simp only [List.set_cons_succ]
        try simp only [List.set_cons_zero]
        refine skipD (i := 21) (some 55) rfl rfl (by kernel_rfl) (by kernel_rfl) (by kernel_rfl) (fun _ _ _ h => h) (by rfl) hHeld ?_
        try simp only [Act.put]
        try simp only [List.setIfInBounds_toArray]
        try simp only [List.set_cons_succ]
        try simp only [List.set_cons_zero]
        refine takeD (i := 22) (v := .bool true) (some 56) rfl rfl (by kernel_rfl) (by kernel_rfl) (by kernel_rfl) (fun _ _ _ h => h) (by rfl) hHeld ?_ ?_
        · intro W hSw
          try dsimp only at hSw
          first | (go_simp; done) | (go_simp; simp [*]; done) | (go_simp; simp; omega)
        try simp only [Act.put]
        try simp only [List.setIfInBounds_toArray]
        try simp only [List.set_cons_succ]
        try simp only [List.set_cons_zero]
        refine wpAnyH_done (by kernel_rfl) ?_ _
        go_wp2
        go_ret
        exact ⟨by rw [HN.out]; simp, BW.out _ L2.out⟩
      have HAN : Hid (ansOk OO.length p = true) := by show _ = _; unfold ansOk; rw [haa, decide_eq_true (by omega), decide_eq_true (by omega)]; rfl
      clear haa
      obtain ⟨cc, hcc⟩ : ∃ x, (ws.take k).contains p = x := ⟨_, rfl⟩
      rw [hcc] at HT2
      have HCC := hide_it hcc
      clear hcc
      refine wp_region_held_drew (S := fun w' => (w'.cell? ⟨wr.heap.size, 0, none⟩ = some (.int .i64 p.1) ∧ w'.cell? ⟨wr.heap.size, 1, none⟩ = some (.int .i64 p.2.1) ∧ w'.cell? ⟨wr.heap.size, 2, none⟩ = some (.int .i64 p.2.2.1) ∧ w'.cell? ⟨wr.heap.size, 3, none⟩ = some (.int .i64 p.2.2.2)) ∧ w'.cell? ⟨w.heap.size, 3, none⟩ = some (.slice (some ⟨b, off, none⟩) ws.length cu)) (by kernel_rfl) ⟨⟨d0, d1, d2, d3⟩, x3⟩ (fun hHeld => ?_)
      clear d0 d1 d2 d3 x3
      refine takeD (i := 0) (v := ?_) (some 34) rfl rfl (by kernel_rfl) (by kernel_rfl) (by kernel_rfl) (fun _ _ _ h => h) (by rfl) hHeld ?_ ?_
      rotate_left
      · intro W hSw
        try dsimp only at hSw
        go_simp
        try with_reducible rfl
      try simp only [Act.put]
      try simp only [List.setIfInBounds_toArray]
      try simp only [List.set_cons_succ]
      try simp only [List.set_cons_zero]
      refine wpAnyH_ready (rs := [1]) (by kernel_rfl) (by simp) ?_
      refine AllReadyH.cons rfl (fun K hK => ?_) AllReadyH.nil
      go_simp
      refine (HA.out _).mono ?_
      rintro e w2 ⟨rfl, hb2⟩
      have L2 := hide_it ((Below.refl wB.heap.size wB).drew.trans hb2)
      clear hb2
      obtain ⟨d0, d1, d2, d3⟩ := (D1.out.after L2.out).cells4
      obtain ⟨-, -, -, x3⟩ := (XB.out.after L2.out).cells4
      try dsimp only
      refine hK.out _ _ ⟨⟨d0, d1, d2, d3⟩, x3⟩ (fun hHeld => ?_)
      clear hK K d0 d1 d2 d3 x3
      refine takeD (i := 2) (v := .bool false) (some 36) rfl rfl (by kernel_rfl) (by kernel_rfl) (by kernel_rfl) (fun _ _ _ h => h) (by rfl) hHeld ?_ ?_
      · intro W hSw
        try dsimp only at hSw
        first | (go_simp; done) | (go_simp; simp [*]; done) | (go_simp; simp; omega)
      try simp only [Act.put]
      try simp only [List.setIfInBounds_toArray]
      try simp only [List.set_cons_succ]
      try simp only [List.set_cons_zero]
      refine takeD (i := 3) (v := .bool false) (some 37) rfl rfl (by kernel_rfl) (by kernel_rfl) (by kernel_rfl) (fun _ _ _ h => h) (by rfl) hHeld ?_ ?_
      · intro W hSw
        try dsimp only at hSw
        first | (go_simp; done) | (go_simp; simp [*]; done) | (go_simp; simp; omega)
      try simp only [Act.put]
      try simp only [List.setIfInBounds_toArray]
      try simp only [List.set_cons_succ]
      try simp only [List.set_cons_zero]
      refine takeD (i := 4) (v := ?_) (some 38) rfl rfl (by kernel_rfl) (by kernel_rfl) (by kernel_rfl) (fun _ _ _ h => h) (by rfl) hHeld ?_ ?_
      rotate_left
      · intro W hSw
        try dsimp only at hSw
        go_simp
        try with_reducible rfl
      try simp only [Act.put]
      try simp only [List.setIfInBounds_toArray]
      try simp only [List.set_cons_succ]
      try simp only [List.set_cons_zero]
      refine takeD (i := 5) (v := ?_) (some 39) rfl rfl (by kernel_rfl) (by kernel_rfl) (by kernel_rfl) (fun _ _ _ h => h) (by rfl) hHeld ?_ ?_
      rotate_left
      · intro W hSw
        try dsimp only at hSw
        go_simp
        try with_reducible rfl
      try simp only [Act.put]
      try simp only [List.setIfInBounds_toArray]
      try simp only [List.set_cons_succ]
      try simp only [List.set_cons_zero]
      refine takeD (i := 6) (v := .bool false) (some 40) rfl rfl (by kernel_rfl) (by kernel_rfl) (by kernel_rfl) (fun _ _ _ h => h) (by rfl) hHeld ?_ ?_
      · intro W hSw
        try dsimp only at hSw
        first | (go_simp; done) | (go_simp; simp [*]; done) | (go_simp; simp; omega)
      try simp only [Act.put]
      try simp only [List.setIfInBounds_toArray]
      try simp only [List.set_cons_succ]
      try simp only [List.set_cons_zero]
      refine takeD (i := 7) (v := .bool false) (some 41) rfl rfl (by kernel_rfl) (by kernel_rfl) (by kernel_rfl) (fun _ _ _ h => h) (by rfl) hHeld ?_ ?_
      · intro W hSw
        try dsimp only at hSw
        first | (go_simp; done) | (go_simp; simp [*]; done) | (go_simp; simp; omega)
      try simp only [Act.put]
      try simp only [List.setIfInBounds_toArray]
      try simp only [List.set_cons_succ]
      try simp only [List.set_cons_zero]
      refine takeD (i := 8) (v := .bool false) (some 42) rfl rfl (by kernel_rfl) (by kernel_rfl) (by kernel_rfl) (fun _ _ _ h => h) (by rfl) hHeld ?_ ?_
      · intro W hSw
        try dsimp only at hSw
        first | (go_simp; done) | (go_simp; simp [*]; done) | (go_simp; simp; omega)
      try simp only [Act.put]
      try simp only [List.setIfInBounds_toArray]
      try simp only [List.set_cons_succ]
      try simp only [List.set_cons_zero]
      refine takeD (i := 9) (v := ?_) (some 43) rfl rfl (by kernel_rfl) (by kernel_rfl) (by kernel_rfl) (fun _ _ _ h => h) (by rfl) hHeld ?_ ?_
      rotate_left
      · intro W hSw
        try dsimp only at hSw
        go_simp
        try with_reducible rfl
      try simp only [Act.put]
      try simp only [List.setIfInBounds_toArray]
      try simp only [List.set_cons_succ]
      try simp only [List.set_cons_zero]
      refine takeD (i := 10) (v := ?_) (some 44) rfl rfl (by kernel_rfl) (by kernel_rfl) (by kernel_rfl) (fun _ _ _ h => h) (by rfl) hHeld ?_ ?_
      rotate_left
      · intro W hSw
        try dsimp only at hSw
        go_simp
        try with_reducible rfl
      try simp only [Act.put]
      try simp only [List.setIfInBounds_toArray]
      try simp only [List.set_cons_succ]
      try simp only [List.set_cons_zero]
      refine takeD (i := 11) (v := ?_) (some 45) rfl rfl (by kernel_rfl) (by kernel_rfl) (by kernel_rfl) (fun _ _ _ h => h) (by rfl) hHeld ?_ ?_
      rotate_left
      · intro W hSw
        try dsimp only at hSw
        go_simp
        try with_reducible rfl
      try simp only [Act.put]
      try simp only [List.setIfInBounds_toArray]
      try simp only [List.set_cons_succ]
      try simp only [List.set_cons_zero]
      refine takeD (i := 12) (v := ?_) (some 46) rfl rfl (by kernel_rfl) (by kernel_rfl) (by kernel_rfl) (fun _ _ _ h => h) (by rfl) hHeld ?_ ?_
      rotate_left
      · intro W hSw
        try dsimp only at hSw
        go_simp
        try with_reducible rfl
      try simp only [Act.put]
      try simp only [List.setIfInBounds_toArray]
      try simp only [List.set_cons_succ]
      try simp only [List.set_cons_zero]
      refine takeD (i := 13) (v := .bool false) (some 47) rfl rfl (by kernel_rfl) (by kernel_rfl) (by kernel_rfl) (fun _ _ _ h => h) (by rfl) hHeld ?_ ?_
      · intro W hSw
        try dsimp only at hSw
        first | (go_simp; done) | (go_simp; simp [*]; done) | (go_simp; simp; omega)
      try simp only [Act.put]
      try simp only [List.setIfInBounds_toArray]
      try simp only [List.set_cons_succ]
      try simp only [List.set_cons_zero]
      refine takeD (i := 14) (v := .bool false) (some 48) rfl rfl (by kernel_rfl) (by kernel_rfl) (by kernel_rfl) (fun _ _ _ h => h) (by rfl) hHeld ?_ ?_
      · intro W hSw
        try dsimp only at hSw
        first | (go_simp; done) | (go_simp; simp [*]; done) | (go_simp; simp; omega)
      try simp only [Act.put]
      try simp only [List.setIfInBounds_toArray]
      try simp only [List.set_cons_succ]
      try simp only [List.set_cons_zero]
      refine takeD (i := 15) (v := .bool false) (some 49) rfl rfl (by kernel_rfl) (by kernel_rfl) (by kernel_rfl) (fun _ _ _ h => h) (by rfl) hHeld ?_ ?_
      · intro W hSw
        try dsimp only at hSw
        first | (go_simp; done) | (go_simp; simp [*]; done) | (go_simp; simp; omega)
      try simp only [Act.put]
      try simp only [List.setIfInBounds_toArray]
      try simp only [List.set_cons_succ]
      try simp only [List.set_cons_zero]
      refine takeD (i := 16) (v := ?_) (some 50) rfl rfl (by kernel_rfl) (by kernel_rfl) (by kernel_rfl) (fun _ _ _ h => h) (by rfl) hHeld ?_ ?_
      rotate_left
      · intro W hSw
        try dsimp only at hSw
        go_simp
        try with_reducible rfl
      try simp only [Act.put]
      try simp only [List.setIfInBounds_toArray]
      try simp only [List.set_cons_succ]
      try simp only [List.set_cons_zero]
      refine takeD (i := 17) (v := ?_) (some 51) rfl rfl (by kernel_rfl) (by kernel_rfl) (by kernel_rfl) (fun _ _ _ h => h) (by rfl) hHeld ?_ ?_
      rotate_left
      · intro W hSw
        try dsimp only at hSw
        go_simp
        try with_reducible rfl
      try simp only [Act.put]
      try simp only [List.setIfInBounds_toArray]
      try simp only [List.set_cons_succ]
      try simp only [List.set_cons_zero]
      refine takeD (i := 18) (v := ?_) (some 52) rfl rfl (by kernel_rfl) (by kernel_rfl) (by kernel_rfl) (fun _ _ _ h => h) (by rfl) hHeld ?_ ?_
      rotate_left
      · intro W hSw
        try dsimp only at hSw
        go_simp
        try with_reducible rfl
      try simp only [Act.put]
      try simp only [List.setIfInBounds_toArray]
      try simp only [List.set_cons_succ]
      try simp only [List.set_cons_zero]
      refine takeD (i := 19) (v := ?_) (some 53) rfl rfl (by kernel_rfl) (by kernel_rfl) (by kernel_rfl) (fun _ _ _ h => h) (by rfl) hHeld ?_ ?_
      rotate_left
      · intro W hSw
        try dsimp only at hSw
        go_simp
        try with_reducible rfl
      try simp only [Act.put]
      try simp only [List.setIfInBounds_toArray]
      try simp only [List.set_cons_succ]
      try simp only [List.set_cons_zero]
      refine takeD (i := 20) (v := ?_) (some 54) rfl rfl (by kernel_rfl) (by kernel_rfl) (by kernel_rfl) (fun _ _ _ h => h) (by rfl) hHeld ?_ ?_
      rotate_left
      · intro W hSw
        try dsimp only at hSw
        go_simp
        try with_reducible rfl
      try simp only [Act.put]
      try simp only [List.setIfInBounds_toArray]
      try simp only [List.set_cons_succ]
      try simp only [List.set_cons_zero]
      refine wpAnyH_ready (rs := [21]) (by kernel_rfl) (by simp) ?_
      refine AllReadyH.cons rfl (fun K hK => ?_) AllReadyH.nil
      go_simp
      refine (HT2.out _ (BW.out _ L2.out)).mono ?_
      rintro e w3 ⟨rfl, hb3⟩
      have L3 := hide_it (L2.out.trans (hb3.mono L2.out.size))
      clear hb3
      obtain ⟨d0, d1, d2, d3⟩ := (D1.out.after L3.out).cells4
      obtain ⟨-, -, -, x3⟩ := (XB.out.after L3.out).cells4
      try dsimp only
      refine hK.out _ _ ⟨⟨d0, d1, d2, d3⟩, x3⟩ (fun hHeld => ?_)
      clear hK K d0 d1 d2 d3 x3
      refine takeD (i := 22) (v := .bool cc) (some 56) rfl rfl (by kernel_rfl) (by kernel_rfl) (by kernel_rfl) (fun _ _ _ h => h) (by rfl) hHeld ?_ ?_
      · intro W hSw
        try dsimp only at hSw
        first | (go_simp; done) | (go_simp; simp [*]; done) | (go_simp; simp; omega)
      try simp only [Act.put]
      try simp only [List.setIfInBounds_toArray]
      try simp only [List.set_cons_succ]
      try simp only [List.set_cons_zero]
      refine wpAnyH_done (by kernel_rfl) ?_ _
      cases cc
      · have HTk : Hid (toldOk OO.length (ws.take (k + 1)) = true) := toldOk_more hlt HT.out (by rw [HP.out]; exact HAN.out) (by rw [HP.out]; exact HCC.out)
        have B3 := hide_it (BW2.out _ L3.out)
        go_wp2
        go_roundw
        case rel => exact ⟨k + 1, by omega, by go_num, HTk, B3⟩
        case measure => simp [intOf]; omega
      · have HN : Hid (toldOk OO.length ws = false) := toldOk_twice hlt (by rw [HP.out]; exact HCC.out)
        go_wp2
        go_ret
        exact ⟨by rw [HN.out]; simp, BW.out _ L3.out⟩
    · have hke : k = ws.length := by omega
      have HT2 : Hid (toldOk OO.length ws = true) := by have := HT.out; rw [hke, List.take_length] at this; exact this
      clear hke
      obtain ⟨x0, x1, x2, x3⟩ := XR.out.cells4
      cases up
      · by_cases hz : ws.length = 0
        · have hz' : ws = [] := List.length_eq_zero_iff.1 hz
          have HZ := hide_it hz'
          clear hz'
          go_wp2
          go_ret
          exact ⟨by rw [HT2.out, HZ.out]; rfl, HBw.out⟩
        · have HZ : Hid (ws.isEmpty = false) := by
            show _ = _
            rw [Bool.eq_false_iff]
            intro e
            rw [List.isEmpty_iff] at e
            rw [e] at hz
            simp at hz
          have HZ2 := hide_it hz
          go_wp2
          go_ret
          exact ⟨by rw [HT2.out, HZ.out]; have := HZ2.out; simp; intro e; rw [e] at this; simp at this, HBw.out⟩
      · go_wp2
        go_ret
        exact ⟨by rw [HT2.out]; rfl, HBw.out⟩


end Go.Proofs.YtogfpnenoeonoaaDoor

namespace Go.Proofs.YtogfpnenoeonoaaDoor
open Go.RowKit

/-- A desk as plain data: whether it is up, its records, how many of them are forced, what it was told. -/
abbrev Dk := Bool × List R × Int × List Wd
def dkZ : Dk := (false, [], 0, [])
def dkRise (up : Bool) (rs : List R) (f : Int) (ws : List Wd) : Dk := if dkOk up rs f ws = true then (true, rs, f, ws) else dkZ
def dkForce (up : Bool) (rs : List R) (f : Int) (ws : List Wd) : Dk := if dkOk up rs f ws = true then (up, rs, if up = true then (rs.length : Int) else f, ws) else dkZ
def DkO (w w' : World) (e : Ending) (o : Dk) : Prop := DkOut w w' e o.1 o.2.1 o.2.2.1 o.2.2.2
theorem DkO.none_ {w w' : World} (h : Below w.heap.size w w') : DkO w w' (.returned (deskV false (.slice none 0 0) 0 (.slice none 0 0))) dkZ := by
  obtain ⟨ps, hp, ho⟩ := Made.none w' w.heap.size
  exact ⟨none, 0, none, 0, ps, rfl, hp, ⟨Nat.le_refl _, w.heap.size, w'.heap.size, Nat.le_refl _, Nat.le_refl _, ho, World.ownsRow_nil _ _ _ _, fun g hg => by simp [Value.ownBlock] at hg⟩, h⟩
theorem dkOk_log {up : Bool} {rs : List R} {f : Int} {ws : List Wd} (h : dkOk up rs f ws = true) : logOk rs f = true := by
  unfold dkOk at h
  simp only [Bool.and_eq_true] at h
  exact h.1
theorem dkRise_tot (up : Bool) (rs : List R) (f : Int) (ws : List Wd) (hl : tot rs ≤ 1048576) (hlw : ws.length ≤ 1048576) : tot (dkRise up rs f ws).2.1 ≤ 1048576 ∧ (dkRise up rs f ws).2.2.2.length ≤ 1048576 := by
  unfold dkRise; split
  · exact ⟨hl, hlw⟩
  · simp [dkZ, tot, pre]
theorem dkForce_tot (up : Bool) (rs : List R) (f : Int) (ws : List Wd) (hl : tot rs ≤ 1048576) (hlw : ws.length ≤ 1048576) : tot (dkForce up rs f ws).2.1 ≤ 1048576 ∧ (dkForce up rs f ws).2.2.2.length ≤ 1048576 := by
  unfold dkForce; split
  · exact ⟨hl, hlw⟩
  · simp [dkZ, tot, pre]
/-- What is set outside leaves a desk's lists. -/
theorem DkOwn.setAbove {w : World} {lo hi b i : Nat} {v u : Value} {ps : List (R × Value)} {ws : List Wd} (h : DkOwn w lo hi v u ps ws) (hb : hi ≤ b) (x : Value) : DkOwn (w.setCell ⟨b, i, none⟩ x) lo hi v u ps ws :=
  h.below ((Below.refl hi w).setCell hb x) (Nat.le_refl _)
/-- A log of its own in the place of the old one. -/
theorem DkOwn.newLog {w w' : World} {lo hi : Nat} {v v' u : Value} {ps ps' : List (R × Value)} {ws : List Wd} (h : DkOwn w lo hi v u ps ws) (hl : lo ≤ w.heap.size) (hm : OwnRecs w' w.heap.size w'.heap.size v' ps') (hb : Below w.heap.size w w') : DkOwn w' lo w'.heap.size v' u ps' ws := by
  obtain ⟨h0, l, t, h1, h2, h3, h4, h5⟩ := h
  exact ⟨Nat.le_refl _, w.heap.size, w'.heap.size, hl, Nat.le_refl _, hm, ownsRow_below h4 hb (fun g hg => by have := (h5 g hg).1; omega), fun g hg => ⟨by have := (h5 g hg).1; have := hb.size; omega, Or.inl (by have := (h5 g hg).1; omega)⟩⟩

/-- A log, and words in a row that was begun ahead of it. -/
theorem DkOwn.mk2 {w w' : World} {lo l b : Nat} {v u : Value} {ps : List (R × Value)} {ws : List Wd} (h : OwnRecs w l w.heap.size v ps) (hg : w.grownBy w' (some b)) (hbl : b < l) (hlo : lo ≤ l) (hr : w'.ownsRow lo 54 4 u ws.length (wflat ws)) (hloc : u.ownBlock = some b ∨ u.ownBlock = some w.heap.size) : DkOwn w' lo w'.heap.size v u ps ws := by
  refine ⟨Nat.le_refl _, l, w.heap.size, hlo, hg.size, h.mid (Mid.of_grown (lo := b) (hi := b + 1) hg (fun k e => by simp at e; omega)) hbl, hr, fun g hg' => ⟨(hr.lt g hg').2, ?_⟩⟩
  rcases hloc with e | e
  · rw [e] at hg'
    simp at hg'
    omega
  · rw [e] at hg'
    simp at hg'
    omega

set_option maxHeartbeats 2000000 in
theorem implDeskOk_any (up : Bool) (v u : Value) (rs : List R) (f : Int) (ws : List Wd) (a : Addr) (w : World) (hv : DkAt w v u rs ws) (hl : tot rs ≤ 1048576) (hlw : ws.length ≤ 1048576) (hfv : Form v rs.length) (ha : ErrAt w a) :
    Calls Tryd.prog 11 #[deskV up v f u] w fun e w' => e = .returned (.bool (dkOk up rs f ws)) ∧ Below w.heap.size w w' := by
  have HC : Hid (∀ o, Calls Tryd.prog 34 #[deskV up v f u] (w.alloc o) fun e w' => ClOut (w.alloc o) w' e up rs f ws) := fun o =>
    clerkOf_any up v u rs f ws a (w.alloc o) (hv.later (alloc_below w o) (Nat.le_refl _)) hl hlw hfv (ha.later (alloc_below w o) (Nat.le_refl _))
  obtain ⟨av, cv, au, cu, rfl, rfl⟩ := hv.shape
  clear hv ha hfv
  go_enter Tryd.func11, Tryd.ntmps11
  go_wp2_with fail
  refine (HC.out _).mono ?_
  rintro e w1 ⟨hb, hc⟩
  have B1 := hide_it (below_after hb)
  have hz1 := B1.out.size
  clear hb
  rcases hc with ⟨hk, rfl⟩ | ⟨hk, ao, cap, a2, c2, aa, ca, af, cf, b, ps, rfl, -⟩
  · have HK := hide_it hk
    clear hk
    go_wp2
    go_ret
    exact ⟨by rw [HK.out]; rfl, B1.out.alloc hz1 _⟩
  · have HK := hide_it hk
    clear hk
    go_wp2
    go_ret
    exact ⟨by rw [HK.out]; rfl, B1.out.alloc hz1 _⟩

set_option maxHeartbeats 8000000 in
set_option maxRecDepth 20000 in
theorem l13Copy_any (up : Bool) (v u : Value) (rs : List R) (f : Int) (ws : List Wd) (w : World) (hv : DkAt w v u rs ws) (hl : tot rs ≤ 1048576) (hlw : ws.length ≤ 1048576) :
    Calls Tryd.prog 43 #[deskV up v f u] w fun e w' => DkOut w w' e up rs f ws := by
  have HV : Hid (∀ W, Below w.heap.size w W → DkAt W v u rs ws) := fun W h => hv.later h (Nat.le_refl _)
  have HS : Hid (∀ W, Below w.heap.size w W → Calls Tryd.prog 64 #[.agg #[v, .int .i64 f]] W fun e w' => LogOut W w' e rs f) := fun W h => l1Copy_any v rs f W (hv.1.later h (Nat.le_refl _)) hl
  obtain ⟨av, cv, au, cu, rfl, rfl⟩ := hv.shape
  clear hv
  obtain ⟨w0, hw0⟩ : ∃ W, Hid (W = (w.alloc (.cells #[.bool up, .slice av rs.length cv, .int .i64 f, .slice au ws.length cu] 35)).alloc (.cells #[.bool false, .slice none 0 0, .int .i64 0, .slice none 0 0] 35)) := ⟨_, rfl⟩
  have B0 : Hid (Below w.heap.size w w0) := by show Below _ _ _; rw [hw0.out]; exact below2 _ _ _
  have X0 : Hid (Blk w0 w.heap.size #[.bool up, .slice av rs.length cv, .int .i64 f, .slice au ws.length cu] 35) := by show Blk _ _ _ _; rw [hw0.out]; exact (Blk.new _ _ _).alloc _
  have Y0 : Hid (Blk w0 (w.heap.size + 1) #[.bool false, .slice none 0 0, .int .i64 0, .slice none 0 0] 35) := by show Blk _ _ _ _; rw [hw0.out]; exact Blk.new2 _ _ _ _
  have hs0 : w0.heap.size = w.heap.size + 2 := by rw [hw0.out, size2]
  have HS0 := hide_it hs0
  clear hs0
  obtain ⟨x0, x1, x2, x3⟩ := X0.out.cells4
  go_enter Tryd.func43, Tryd.ntmps43
  go_wp2_with fail
  rw [← hw0.out]
  refine wp_region_held_drew (S := fun w' => w'.cell? ⟨w.heap.size, 0, none⟩ = some (.bool up) ∧ w'.cell? ⟨w.heap.size, 1, none⟩ = some (.slice av rs.length cv) ∧ w'.cell? ⟨w.heap.size, 2, none⟩ = some (.int .i64 f) ∧ w'.cell? ⟨w.heap.size, 3, none⟩ = some (.slice au ws.length cu)) (by kernel_rfl) ⟨x0, x1, x2, x3⟩ (fun hHeld => ?_)
  clear x0 x1 x2 x3
  refine takeD (i := 0) (v := ?_) (some 3) rfl rfl (by kernel_rfl) (by kernel_rfl) (by kernel_rfl) (fun _ _ _ h => h) (by rfl) hHeld ?_ ?_
  rotate_left
  · intro W hSw
    try dsimp only at hSw
    go_simp
    try with_reducible rfl
  try simp only [Act.put]
  try simp only [List.setIfInBounds_toArray]
  try simp only [List.set_cons_succ]
  try simp only [List.set_cons_zero]
  refine takeD (i := 1) (v := ?_) (some 4) rfl rfl (by kernel_rfl) (by kernel_rfl) (by kernel_rfl) (fun _ _ _ h => h) (by rfl) hHeld ?_ ?_
  rotate_left
  · intro W hSw
    try dsimp only at hSw
    go_simp
    try with_reducible rfl
  try simp only [Act.put]
  try simp only [List.setIfInBounds_toArray]
  try simp only [List.set_cons_succ]
  try simp only [List.set_cons_zero]
  refine takeD (i := 2) (v := ?_) (some 5) rfl rfl (by kernel_rfl) (by kernel_rfl) (by kernel_rfl) (fun _ _ _ h => h) (by rfl) hHeld ?_ ?_
  rotate_left
  · intro W hSw
    try dsimp only at hSw
    go_simp
    try with_reducible rfl
  try simp only [Act.put]
  try simp only [List.setIfInBounds_toArray]
  try simp only [List.set_cons_succ]
  try simp only [List.set_cons_zero]
  refine takeD (i := 3) (v := ?_) (some 6) rfl rfl (by kernel_rfl) (by kernel_rfl) (by kernel_rfl) (fun _ _ _ h => h) (by rfl) hHeld ?_ ?_
  rotate_left
  · intro W hSw
    try dsimp only at hSw
    go_simp
    try with_reducible rfl
  try simp only [Act.put]
  try simp only [List.setIfInBounds_toArray]
  try simp only [List.set_cons_succ]
  try simp only [List.set_cons_zero]
  refine takeD (i := 6) (v := ?_) (some 9) rfl rfl (by kernel_rfl) (by kernel_rfl) (by kernel_rfl) (fun _ _ _ h => h) (by rfl) hHeld ?_ ?_
  rotate_left
  · intro W hSw
    try dsimp only at hSw
    go_simp
    try with_reducible rfl
  try simp only [Act.put]
  try simp only [List.setIfInBounds_toArray]
  try simp only [List.set_cons_succ]
  try simp only [List.set_cons_zero]
  refine takeD (i := 7) (v := ?_) (some 10) rfl rfl (by kernel_rfl) (by kernel_rfl) (by kernel_rfl) (fun _ _ _ h => h) (by rfl) hHeld ?_ ?_
  rotate_left
  · intro W hSw
    try dsimp only at hSw
    go_simp
    try with_reducible rfl
  try simp only [Act.put]
  try simp only [List.setIfInBounds_toArray]
  try simp only [List.set_cons_succ]
  try simp only [List.set_cons_zero]
  refine wpAnyH_ready (rs := [4, 5]) (by kernel_rfl) (by simp) ?_
  refine AllReadyH.cons rfl (fun K hK => ?_) (AllReadyH.cons rfl (fun K hK => ?_) AllReadyH.nil)
  · go_simp
    refine (HS.out _ B0.out.drew).mono ?_
    rintro e w1 ⟨ao, cap, rfl, hm, hb⟩
    have L1 := hide_it ((Below.refl w0.heap.size w0).drew.trans hb)
    have X1 := hide_it (X0.out.after L1.out)
    have M1 := hide_it hm
    have B1 := hide_it (B0.out.trans (L1.out.mono B0.out.size))
    clear hm hb
    try dsimp only
    refine hK.out _ _ X1.out.cells4 (fun hHeld => ?_)
    clear hK K
    refine wpAnyH_ready (rs := [5]) (by kernel_rfl) (by simp) ?_
    refine AllReadyH.cons rfl (fun K hK => ?_) AllReadyH.nil
    go_simp
    refine hK.out _ _ (X1.out.alloc _).cells4 (fun hHeld => ?_)
    clear hK K
    refine wpAnyH_ready (rs := [8]) (by kernel_rfl) (by simp) ?_
    refine AllReadyH.cons rfl (fun K hK => ?_) AllReadyH.nil
    refine step_append_words rfl _ _ rfl w1.heap.size (.slice (some ⟨w1.heap.size, 0, none⟩) 0 0) (.slice au ws.length cu) 0 [] ws rfl rfl (T.lit0 w1 _ _) (HV.out _ (B1.out.alloc B1.out.size _)).2 (by omega) (by simp) ?_
    intro a2 c2 w2 hown hgrow hloc
    clear hloc
    simp only [Nat.zero_add, List.nil_append] at hown
    have hbA : Below w1.heap.size w1 w2 := (((Below.refl w1.heap.size w1).alloc (Nat.le_refl _) _).grown hgrow (by simp) (fun j hj => by simp [Value.ownBlock] at hj; omega))
    have L2 := hide_it (L1.out.trans (hbA.mono L1.out.size))
    obtain ⟨ps, hp, ho⟩ := M1.out
    have OD : Hid (DkOwn w2 w0.heap.size w2.heap.size (.slice ao rs.length cap) (.slice a2 ws.length c2) ps ws) := DkOwn.mk_ (by simpa using ho) hown hbA L1.out.size
    have HPS := hide_it hp
    have X2 := hide_it (X0.out.after L2.out)
    have Y2 := hide_it (Y0.out.after L2.out)
    have B2 := hide_it (B0.out.trans (L2.out.mono B0.out.size))
    have hz2 : w.heap.size + 2 ≤ w2.heap.size := by have := L2.out.size; have := HS0.out; omega
    clear hown hgrow hbA hp ho
    simp only [Nat.zero_add, Act.put]
    refine hK.out _ _ X2.out.cells4 (fun hHeld => ?_)
    clear hK K
    try simp only [List.setIfInBounds_toArray]
    try simp only [List.set_cons_succ]
    try simp only [List.set_cons_zero]
    refine takeD (i := 9) (v := ?_) (some 12) rfl rfl (by kernel_rfl) (by kernel_rfl) (by kernel_rfl) (fun _ _ _ h => h) (by rfl) hHeld ?_ ?_
    rotate_left
    · intro W hSw
      try dsimp only at hSw
      go_simp
      try with_reducible rfl
    try simp only [Act.put]
    try simp only [List.setIfInBounds_toArray]
    try simp only [List.set_cons_succ]
    try simp only [List.set_cons_zero]
    obtain ⟨z0, z1, z2, z3⟩ := Y2.out.cells4
    obtain ⟨zf0, zf1, zf2, zf3⟩ := Y2.out.free4
    refine wpAnyH_ready (rs := [10]) (by kernel_rfl) (by simp) ?_
    refine AllReadyH.cons rfl (fun K hK => ?_) AllReadyH.nil
    go_simp
    refine hK.out _ _ ?_ (fun hHeld => ?_)
    · have XF := (X2.out.other (a := ⟨w.heap.size + 1, 0, none⟩) (by simp) (.bool up)).other (a := ⟨w.heap.size + 1, 1, none⟩) (by simp) (.slice ao rs.length cap) |>.other (a := ⟨w.heap.size + 1, 2, none⟩) (by simp) (.int .i64 f) |>.other (a := ⟨w.heap.size + 1, 3, none⟩) (by simp) (.slice a2 ws.length c2)
      exact XF.cells4
    refine wpAnyH_done (by kernel_rfl) ?_ _
    go_wp2
    refine bodyPost_ret (v := deskV up (.slice ao rs.length cap) f (.slice a2 ws.length c2)) (by simp [results, Tryd.results43, go_sem, *]) rfl ?_
    refine ⟨ao, cap, a2, c2, ps, rfl, HPS.out, ?_, ?_⟩
    · refine DkOwn.lo (lo := w0.heap.size) ?_ (by have := HS0.out; omega)
      repeat (refine DkOwn.setBelow ?_ (by have := HS0.out; omega) _)
      simpa using OD.out
    · repeat (refine Below.setCell ?_ (by first | (simp; done) | (simp; omega)) _)
      exact B2.out
  · go_simp
    refine hK.out _ _ (X0.out.drew.alloc _).cells4 (fun hHeld => ?_)
    clear hK K
    refine wpAnyH_ready (rs := [4]) (by kernel_rfl) (by simp) ?_
    refine AllReadyH.cons rfl (fun K hK => ?_) AllReadyH.nil
    go_simp
    refine (HS.out _ (B0.out.drew.alloc (by have := HS0.out; simp; omega) _)).mono ?_
    rintro e w1 ⟨ao, cap, rfl, hm, hb⟩
    have L1 := hide_it (((Below.refl w0.heap.size w0).drew.alloc (Nat.le_refl _) _).trans (hb.mono (by simp)))
    have X1 := hide_it (X0.out.after L1.out)
    have LIT := hide_it (ownsRow_below (T.lit0 w0.drew 54 4) hb (fun k hk => by simp [Value.ownBlock] at hk; simp; omega))
    have M1 := hide_it hm
    have B1 := hide_it (B0.out.trans (L1.out.mono B0.out.size))
    clear hm hb
    try dsimp only
    refine hK.out _ _ X1.out.cells4 (fun hHeld => ?_)
    clear hK K
    refine wpAnyH_ready (rs := [8]) (by kernel_rfl) (by simp) ?_
    refine AllReadyH.cons rfl (fun K hK => ?_) AllReadyH.nil
    refine step_append_words rfl _ _ rfl w0.heap.size (.slice (some ⟨w0.heap.size, 0, none⟩) 0 0) (.slice au ws.length cu) 0 [] ws rfl rfl LIT.out (HV.out _ B1.out).2 (by omega) L1.out.size ?_
    intro a2 c2 w2 hown hgrow hloc
    simp only [Nat.zero_add, List.nil_append] at hown hloc
    have hbB : Below w0.heap.size w1 w2 := ((Below.refl w0.heap.size w1).grown hgrow L1.out.size (fun j hj => by simp [Value.ownBlock] at hj; omega))
    have L2 := hide_it (L1.out.trans hbB)
    obtain ⟨ps, hp, ho⟩ := M1.out
    have OD : Hid (DkOwn w2 w0.heap.size w2.heap.size (.slice ao rs.length cap) (.slice a2 ws.length c2) ps ws) := DkOwn.mk2 (b := w0.heap.size) ho (by simpa [Value.ownBlock] using hgrow) (by simp) (by simp) hown (by simpa [Value.ownBlock] using hloc)
    have HPS := hide_it hp
    have X2 := hide_it (X0.out.after L2.out)
    have Y2 := hide_it (Y0.out.after L2.out)
    have B2 := hide_it (B0.out.trans (L2.out.mono B0.out.size))
    have hz2 : w.heap.size + 2 ≤ w2.heap.size := by have := L2.out.size; have := HS0.out; omega
    clear hown hgrow hbB hp ho hloc
    simp only [Nat.zero_add, Act.put]
    refine hK.out _ _ X2.out.cells4 (fun hHeld => ?_)
    clear hK K
    try simp only [List.setIfInBounds_toArray]
    try simp only [List.set_cons_succ]
    try simp only [List.set_cons_zero]
    refine takeD (i := 9) (v := ?_) (some 12) rfl rfl (by kernel_rfl) (by kernel_rfl) (by kernel_rfl) (fun _ _ _ h => h) (by rfl) hHeld ?_ ?_
    rotate_left
    · intro W hSw
      try dsimp only at hSw
      go_simp
      try with_reducible rfl
    try simp only [Act.put]
    try simp only [List.setIfInBounds_toArray]
    try simp only [List.set_cons_succ]
    try simp only [List.set_cons_zero]
    obtain ⟨z0, z1, z2, z3⟩ := Y2.out.cells4
    obtain ⟨zf0, zf1, zf2, zf3⟩ := Y2.out.free4
    refine wpAnyH_ready (rs := [10]) (by kernel_rfl) (by simp) ?_
    refine AllReadyH.cons rfl (fun K hK => ?_) AllReadyH.nil
    go_simp
    refine hK.out _ _ ?_ (fun hHeld => ?_)
    · have XF := (X2.out.other (a := ⟨w.heap.size + 1, 0, none⟩) (by simp) (.bool up)).other (a := ⟨w.heap.size + 1, 1, none⟩) (by simp) (.slice ao rs.length cap) |>.other (a := ⟨w.heap.size + 1, 2, none⟩) (by simp) (.int .i64 f) |>.other (a := ⟨w.heap.size + 1, 3, none⟩) (by simp) (.slice a2 ws.length c2)
      exact XF.cells4
    refine wpAnyH_done (by kernel_rfl) ?_ _
    go_wp2
    refine bodyPost_ret (v := deskV up (.slice ao rs.length cap) f (.slice a2 ws.length c2)) (by simp [results, Tryd.results43, go_sem, *]) rfl ?_
    refine ⟨ao, cap, a2, c2, ps, rfl, HPS.out, ?_, ?_⟩
    · refine DkOwn.lo (lo := w0.heap.size) ?_ (by have := HS0.out; omega)
      repeat (refine DkOwn.setBelow ?_ (by have := HS0.out; omega) _)
      simpa using OD.out
    · repeat (refine Below.setCell ?_ (by first | (simp; done) | (simp; omega)) _)
      exact B2.out

end Go.Proofs.YtogfpnenoeonoaaDoor

namespace Go.Proofs.YtogfpnenoeonoaaDoor
open Go.RowKit

/-- A fall of a log that was just copied. -/
theorem l1Fall_made {W : World} {lo cap : Nat} {ao : Option Addr} {rs : List R} {f keep : Int} (hm : Made W lo (.slice ao rs.length cap) rs) (hl : rs.length ≤ 1048576) (h0 : 0 ≤ f) (h1 : f ≤ rs.length) :
    Calls Tryd.prog 67 #[.agg #[.slice ao rs.length cap, .int .i64 f], .int .i64 keep] W fun e w' => e = .returned (.agg #[.slice ao (fallN rs.length f keep) cap, .int .i64 (fallN rs.length f keep)]) ∧ Below W.heap.size W w' := by
  rcases hm.form with ⟨rfl, rfl, rfl⟩ | ⟨g, rfl, hc⟩
  · have hf : f = 0 := by simp at h1; omega
    subst hf
    have hN : fallN 0 0 keep = 0 := by have := fallN_le (n := 0) (f := 0) (keep := keep) (by omega) (by omega); omega
    have h := l1Fall_nil keep W
    simp only [List.length_nil, hN]
    exact h
  · exact l1Fall_some g 0 rs.length cap f keep W hc hl h0 h1

end Go.Proofs.YtogfpnenoeonoaaDoor

namespace Go.Proofs.YtogfpnenoeonoaaDoor
open Go.RowKit

/-- The lists of a desk as they came to a call: readable, each nil or a row with room. -/
def DkIn (w : World) (v u : Value) (rs : List R) (ws : List Wd) : Prop := DkAt w v u rs ws ∧ Form v rs.length ∧ Form u ws.length
theorem DkIn.later {B : Nat} {w w' : World} {v u : Value} {rs : List R} {ws : List Wd} (h : DkIn w v u rs ws) (hb : Below B w w') (hB : w.heap.size ≤ B) : DkIn w' v u rs ws := ⟨h.1.later hb hB, h.2⟩
theorem DkOwn.in_ {w : World} {lo hi : Nat} {v u : Value} {ps : List (R × Value)} {rs : List R} {ws : List Wd} (h : DkOwn w lo hi v u ps ws) (hp : ps.map (·.1) = rs) : DkIn w v u rs ws := by
  have hl : ps.length = rs.length := by have := congrArg List.length hp; simpa using this
  refine ⟨h.at' hp, ?_, ?_⟩
  · obtain ⟨_, l, t, _, _, h3, _, _⟩ := h
    have := form_of_row h3.1
    rw [hl] at this
    exact this
  · obtain ⟨_, l, t, _, _, _, h4, _⟩ := h
    exact form_of_row h4

theorem OwnRecs.setB {w : World} {lo hi b j : Nat} {v : Value} {ps : List (R × Value)} {cur : Array Value} {ty : TypeId} (h : OwnRecs w lo hi v ps) (hh : Blk w b cur ty) (h1 : 79 ≠ ty) (h2 : 3 ≠ ty) (x : Value) : OwnRecs (w.setCell ⟨b, j, Option.none⟩ x) lo hi v ps := by
  obtain ⟨q1, q2, q3⟩ := h
  have hs : (w.setCell ⟨b, j, Option.none⟩ x).heap.size = w.heap.size := by simp
  exact ⟨ownsRow_setCell_ne q1 (fun g hg => row_apart q1 hh h1 g hg) x, q2, by rw [hs]; exact q3.1, fun p hp => ⟨ownsRow_setCell_ne (q3.2.1 p hp).1 (fun g hg => row_apart (q3.2.1 p hp).1 hh h2 g hg) x, (q3.2.1 p hp).2⟩, q3.2.2⟩
theorem DkOwn.setB {w : World} {lo hi b j : Nat} {v u : Value} {ps : List (R × Value)} {ws : List Wd} {cur : Array Value} {ty : TypeId} (h : DkOwn w lo hi v u ps ws) (hh : Blk w b cur ty) (h1 : 79 ≠ ty) (h2 : 3 ≠ ty) (h3 : 54 ≠ ty) (x : Value) : DkOwn (w.setCell ⟨b, j, Option.none⟩ x) lo hi v u ps ws := by
  obtain ⟨q0, l, t, q1, q2, q3, q4, q5⟩ := h
  exact ⟨by simpa using q0, l, t, q1, q2, q3.setB hh h1 h2 x, ownsRow_setCell_ne q4 (fun g hg => row_apart q4 hh h3 g hg) x, q5⟩

def dkFall (up : Bool) (rs : List R) (f : Int) (ws : List Wd) (keep : Int) : Dk := if dkOk up rs f ws = true then (false, rs.take (fallN rs.length f keep), (fallN rs.length f keep : Int), []) else dkZ
theorem dkFall_tot (up : Bool) (rs : List R) (f : Int) (ws : List Wd) (keep : Int) (hl : tot rs ≤ 1048576) : tot (dkFall up rs f ws keep).2.1 ≤ 1048576 ∧ (dkFall up rs f ws keep).2.2.2.length ≤ 1048576 := by
  unfold dkFall; split
  · next h =>
    obtain ⟨h0, h1, _⟩ := logOk_f (dkOk_log h)
    exact ⟨Nat.le_trans (pre_take rs _ (fallN_le h0 h1)) hl, by simp⟩
  · simp [dkZ, tot, pre]

set_option maxHeartbeats 8000000 in
set_option maxRecDepth 20000 in
theorem specDRise_any (up : Bool) (v u : Value) (rs : List R) (f : Int) (ws : List Wd) (w : World) (hv : DkIn w v u rs ws) (hl : tot rs ≤ 1048576) (hlw : ws.length ≤ 1048576) :
    Calls Tryd.prog 24 #[deskV up v f u] w fun e w' => DkO w w' e (dkRise up rs f ws) := by
  have hrl := tot_len rs
  have HV : Hid (∀ W, Below w.heap.size w W → DkIn W v u rs ws) := fun W h => hv.later h (Nat.le_refl _)
  have HOK : Hid (∀ W, Below w.heap.size w W → Calls Tryd.prog 9 #[deskV up v f u] W fun e w' => e = .returned (.bool (dkOk up rs f ws)) ∧ Below W.heap.size W w') := fun W h =>
    specDeskOk_any up v u rs f ws W (HV.out W h).1 hl hlw hv.2.2
  obtain ⟨av, cv, au, cu, rfl, rfl⟩ := hv.1.shape
  clear hv
  obtain ⟨w0, hw0⟩ : ∃ W, Hid (W = (w.alloc (.cells #[.bool up, .slice av rs.length cv, .int .i64 f, .slice au ws.length cu] 35)).alloc (.cells #[.bool false, .slice none 0 0, .int .i64 0, .slice none 0 0] 35)) := ⟨_, rfl⟩
  have B0 : Hid (Below w.heap.size w w0) := by show Below _ _ _; rw [hw0.out]; exact below2 _ _ _
  have X0 : Hid (Blk w0 w.heap.size #[.bool up, .slice av rs.length cv, .int .i64 f, .slice au ws.length cu] 35) := by show Blk _ _ _ _; rw [hw0.out]; exact (Blk.new _ _ _).alloc _
  have Z0 : Hid (Blk w0 (w.heap.size + 1) #[.bool false, .slice none 0 0, .int .i64 0, .slice none 0 0] 35) := by show Blk _ _ _ _; rw [hw0.out]; exact Blk.new2 _ _ _ _
  have hs0 : w0.heap.size = w.heap.size + 2 := by rw [hw0.out, size2]
  cases hok : dkOk up rs f ws
  · have HR : Hid (dkRise up rs f ws = dkZ) := by show _ = _; simp [dkRise, hok]
    rw [hok] at HOK
    rw [HR.out]
    clear hok
    go_enter Tryd.func24, Tryd.ntmps24
    go_wp2_with fail
    rw [← hw0.out]
    refine (HOK.out _ B0.out).mono ?_
    rintro e w1 ⟨rfl, hb⟩
    obtain ⟨z0, z1, z2, z3⟩ := (Z0.out.after hb).cells4
    obtain ⟨zf0, zf1, zf2, zf3⟩ := (Z0.out.after hb).free4
    have HB := hide_it (B0.out.trans (hb.mono B0.out.size))
    clear hb
    go_wp2
    refine bodyPost_ret (v := deskV false (.slice none 0 0) 0 (.slice none 0 0)) (by simp [results, Tryd.results24, go_sem, *]) rfl (DkO.none_ ?_)
    repeat (refine Below.setCell ?_ (by first | (simp; done) | (simp; omega)) _)
    exact HB.out
  · have HR : Hid (dkRise up rs f ws = (true, rs, f, ws)) := by show _ = _; simp [dkRise, hok]
    rw [hok] at HOK
    have HLK := hide_it (dkOk_log hok)
    rw [HR.out]
    clear HR hok
    go_enter Tryd.func24, Tryd.ntmps24
    go_wp2_with fail
    rw [← hw0.out]
    refine (HOK.out _ B0.out).mono ?_
    rintro e w1 ⟨rfl, hb1⟩
    have X1 := hide_it (X0.out.after hb1)
    have Z1 := hide_it (Z0.out.after hb1)
    have B1 := hide_it (B0.out.trans (hb1.mono B0.out.size))
    have hs1 : w.heap.size + 2 ≤ w1.heap.size := by have := hb1.size; omega
    obtain ⟨x0, x1, x2, x3⟩ := X1.out.cells4
    clear hb1
    go_wp2_with fail
    refine (l13Copy_any up _ _ rs f ws w1 (HV.out _ B1.out).1 hl hlw).mono ?_
    rintro e w2 ⟨ao, cap, a2, c2, ps, rfl, hp2, ho2, hb2⟩
    have Z2 := hide_it (Z1.out.after hb2)
    have B2 := hide_it (B1.out.trans (hb2.mono B1.out.size))
    have O2 := hide_it ho2
    have P2 := hide_it hp2
    have hs2 : w.heap.size + 2 ≤ w2.heap.size := by have := hb2.size; omega
    have S12 := hide_it hb2.size
    clear hb2 hp2 ho2 x0 x1 x2 x3
    obtain ⟨z0, z1, z2, z3⟩ := Z2.out.cells4
    obtain ⟨zf0, zf1, zf2, zf3⟩ := Z2.out.free4
    have k0 := fun x => cellAlloc z0 x
    have k1 := fun x => cellAlloc z1 x
    have k2 := fun x => cellAlloc z2 x
    have k3 := fun x => cellAlloc z3 x
    have q0 := fun x => frozenAlloc zf0 (by omega) x
    have q1 := fun x => frozenAlloc zf1 (by omega) x
    have q2 := fun x => frozenAlloc zf2 (by omega) x
    have q3 := fun x => frozenAlloc zf3 (by omega) x
    go_wp2
    refine bodyPost_ret (v := deskV true (.slice ao rs.length cap) f (.slice a2 ws.length c2)) (by simp [results, Tryd.results24, go_sem, *]) rfl ?_
    skip
    refine ⟨ao, cap, a2, c2, ps, rfl, P2.out, ?_, ?_⟩
    · refine DkOwn.lo (lo := w1.heap.size) ?_ (by omega)
      iterate 4 (refine DkOwn.setBelow ?_ (by omega) _)
      refine DkOwn.hi (O2.out.below (alloc_below _ _) (Nat.le_refl _)) (by simp) (by simp)
    · iterate 4 (refine Below.setCell ?_ (by first | (simp; done) | (simp; omega)) _)
      exact B2.out.alloc (by omega) _

set_option maxHeartbeats 8000000 in
set_option maxRecDepth 20000 in
theorem implDRise_any (up : Bool) (v u : Value) (rs : List R) (f : Int) (ws : List Wd) (a : Addr) (w : World) (hv : DkIn w v u rs ws) (hl : tot rs ≤ 1048576) (hlw : ws.length ≤ 1048576) (ha : ErrAt w a) :
    Calls Tryd.prog 25 #[deskV up v f u] w fun e w' => DkO w w' e (dkRise up rs f ws) := by
  have hrl := tot_len rs
  have HC : Hid (∀ W, Below w.heap.size w W → Calls Tryd.prog 34 #[deskV up v f u] W fun e w' => ClOut W w' e up rs f ws) := fun W h =>
    clerkOf_any up v u rs f ws a W (hv.1.later h (Nat.le_refl _)) hl hlw hv.2.1 (ha.later h (Nat.le_refl _))
  have HA : Hid (∀ W, Below w.heap.size w W → ErrAt W a) := fun W h => ha.later h (Nat.le_refl _)
  obtain ⟨av, cv, au, cu, rfl, rfl⟩ := hv.1.shape
  clear hv ha
  obtain ⟨w0, hw0⟩ : ∃ W, Hid (W = (w.alloc (.cells #[.bool up, .slice av rs.length cv, .int .i64 f, .slice au ws.length cu] 35)).alloc (.cells #[.bool false, .slice none 0 0, .int .i64 0, .slice none 0 0] 35)) := ⟨_, rfl⟩
  have B0 : Hid (Below w.heap.size w w0) := by show Below _ _ _; rw [hw0.out]; exact below2 _ _ _
  have Z0 : Hid (Blk w0 (w.heap.size + 1) #[.bool false, .slice none 0 0, .int .i64 0, .slice none 0 0] 35) := by show Blk _ _ _ _; rw [hw0.out]; exact Blk.new2 _ _ _ _
  have hs0 : w0.heap.size = w.heap.size + 2 := by rw [hw0.out, size2]
  go_enter Tryd.func25, Tryd.ntmps25
  go_wp2_with fail
  rw [← hw0.out]
  refine (HC.out _ B0.out).mono ?_
  rintro e w1 ⟨hb1, hc⟩
  have Z1 := hide_it (Z0.out.after hb1)
  have B1 := hide_it (B0.out.trans (hb1.mono B0.out.size))
  have hs1 : w.heap.size + 2 ≤ w1.heap.size := by have := hb1.size; omega
  clear hb1
  obtain ⟨z0, z1, z2, z3⟩ := Z1.out.cells4
  obtain ⟨zf0, zf1, zf2, zf3⟩ := Z1.out.free4
  have k0 := fun x => cellAlloc z0 x
  have k1 := fun x => cellAlloc z1 x
  have k2 := fun x => cellAlloc z2 x
  have k3 := fun x => cellAlloc z3 x
  have q0 := fun x => frozenAlloc zf0 (by omega) x
  have q1 := fun x => frozenAlloc zf1 (by omega) x
  have q2 := fun x => frozenAlloc zf2 (by omega) x
  have q3 := fun x => frozenAlloc zf3 (by omega) x
  rcases hc with ⟨hok, rfl⟩ | ⟨hok, ao, cap, a2, c2, aa, ca, af, cf, b, ps, rfl, hp2, ho2, -, -, -⟩
  · have HR : Hid (dkRise up rs f ws = dkZ) := by show _ = _; simp [dkRise, hok]
    clear hok
    go_wp2
    refine bodyPost_ret (v := deskV false (.slice none 0 0) 0 (.slice none 0 0)) (by simp [results, Tryd.results25, go_sem, *]) rfl ?_
    rw [HR.out]
    refine DkO.none_ ?_
    iterate 4 (refine Below.setCell ?_ (by first | (simp; done) | (simp; omega)) _)
    exact B1.out.alloc (by omega) _
  · have HR : Hid (dkRise up rs f ws = (true, rs, f, ws)) := by show _ = _; simp [dkRise, hok]
    have HLK := hide_it (dkOk_log hok)
    clear hok
    have O2 := hide_it ho2
    have P2 := hide_it hp2
    clear hp2 ho2
    go_wp2
    refine bodyPost_ret (v := deskV true (.slice ao rs.length cap) f (.slice a2 ws.length c2)) (by simp [results, Tryd.results25, go_sem, *]) rfl ?_
    rw [HR.out]
    refine ⟨ao, cap, a2, c2, ps, rfl, P2.out, ?_, ?_⟩
    · refine DkOwn.lo (lo := w0.heap.size) ?_ (by omega)
      iterate 4 (refine DkOwn.setBelow ?_ (by omega) _)
      refine DkOwn.hi (O2.out.below (alloc_below _ _) (Nat.le_refl _)) (by simp) (by simp)
    · iterate 4 (refine Below.setCell ?_ (by first | (simp; done) | (simp; omega)) _)
      exact B1.out.alloc (by omega) _

set_option maxHeartbeats 8000000 in
set_option maxRecDepth 20000 in
theorem specDForce_any (up : Bool) (v u : Value) (rs : List R) (f : Int) (ws : List Wd) (w : World) (hv : DkIn w v u rs ws) (hl : tot rs ≤ 1048576) (hlw : ws.length ≤ 1048576) :
    Calls Tryd.prog 19 #[deskV up v f u] w fun e w' => DkO w w' e (dkForce up rs f ws) := by
  have hrl := tot_len rs
  have HV : Hid (∀ W, Below w.heap.size w W → DkIn W v u rs ws) := fun W h => hv.later h (Nat.le_refl _)
  have HOK : Hid (∀ W, Below w.heap.size w W → Calls Tryd.prog 9 #[deskV up v f u] W fun e w' => e = .returned (.bool (dkOk up rs f ws)) ∧ Below W.heap.size W w') := fun W h =>
    specDeskOk_any up v u rs f ws W (HV.out W h).1 hl hlw hv.2.2
  obtain ⟨av, cv, au, cu, rfl, rfl⟩ := hv.1.shape
  clear hv
  obtain ⟨w0, hw0⟩ : ∃ W, Hid (W = (w.alloc (.cells #[.bool up, .slice av rs.length cv, .int .i64 f, .slice au ws.length cu] 35)).alloc (.cells #[.bool false, .slice none 0 0, .int .i64 0, .slice none 0 0] 35)) := ⟨_, rfl⟩
  have B0 : Hid (Below w.heap.size w w0) := by show Below _ _ _; rw [hw0.out]; exact below2 _ _ _
  have X0 : Hid (Blk w0 w.heap.size #[.bool up, .slice av rs.length cv, .int .i64 f, .slice au ws.length cu] 35) := by show Blk _ _ _ _; rw [hw0.out]; exact (Blk.new _ _ _).alloc _
  have Z0 : Hid (Blk w0 (w.heap.size + 1) #[.bool false, .slice none 0 0, .int .i64 0, .slice none 0 0] 35) := by show Blk _ _ _ _; rw [hw0.out]; exact Blk.new2 _ _ _ _
  have hs0 : w0.heap.size = w.heap.size + 2 := by rw [hw0.out, size2]
  cases hok : dkOk up rs f ws
  · have HR : Hid (dkForce up rs f ws = dkZ) := by show _ = _; simp [dkForce, hok]
    rw [hok] at HOK
    rw [HR.out]
    clear hok
    go_enter Tryd.func19, Tryd.ntmps19
    go_wp2_with fail
    rw [← hw0.out]
    refine (HOK.out _ B0.out).mono ?_
    rintro e w1 ⟨rfl, hb⟩
    obtain ⟨z0, z1, z2, z3⟩ := (Z0.out.after hb).cells4
    obtain ⟨zf0, zf1, zf2, zf3⟩ := (Z0.out.after hb).free4
    have HB := hide_it (B0.out.trans (hb.mono B0.out.size))
    clear hb
    go_wp2
    refine bodyPost_ret (v := deskV false (.slice none 0 0) 0 (.slice none 0 0)) (by simp [results, Tryd.results19, go_sem, *]) rfl (DkO.none_ ?_)
    repeat (refine Below.setCell ?_ (by first | (simp; done) | (simp; omega)) _)
    exact HB.out
  · have HR : Hid (dkForce up rs f ws = (up, rs, if up = true then (rs.length : Int) else f, ws)) := by show _ = _; simp [dkForce, hok]
    rw [hok] at HOK
    have HLK := hide_it (dkOk_log hok)
    rw [HR.out]
    clear HR hok
    go_enter Tryd.func19, Tryd.ntmps19
    go_wp2_with fail
    rw [← hw0.out]
    refine (HOK.out _ B0.out).mono ?_
    rintro e w1 ⟨rfl, hb1⟩
    have X1 := hide_it (X0.out.after hb1)
    have Z1 := hide_it (Z0.out.after hb1)
    have B1 := hide_it (B0.out.trans (hb1.mono B0.out.size))
    have hs1 : w.heap.size + 2 ≤ w1.heap.size := by have := hb1.size; omega
    obtain ⟨x0, x1, x2, x3⟩ := X1.out.cells4
    clear hb1
    go_wp2_with fail
    refine (l13Copy_any up _ _ rs f ws w1 (HV.out _ B1.out).1 hl hlw).mono ?_
    rintro e w2 ⟨ao, cap, a2, c2, ps, rfl, hp2, ho2, hb2⟩
    have Z2 := hide_it (Z1.out.after hb2)
    have B2 := hide_it (B1.out.trans (hb2.mono B1.out.size))
    have O2 := hide_it ho2
    have P2 := hide_it hp2
    have hs2 : w.heap.size + 2 ≤ w2.heap.size := by have := hb2.size; omega
    have S12 := hide_it hb2.size
    clear hb2 hp2 ho2 x0 x1 x2 x3
    obtain ⟨z0, z1, z2, z3⟩ := Z2.out.cells4
    obtain ⟨zf0, zf1, zf2, zf3⟩ := Z2.out.free4
    have k0 := fun x => cellAlloc z0 x
    have k1 := fun x => cellAlloc z1 x
    have k2 := fun x => cellAlloc z2 x
    have k3 := fun x => cellAlloc z3 x
    have q0 := fun x => frozenAlloc zf0 (by omega) x
    have q1 := fun x => frozenAlloc zf1 (by omega) x
    have q2 := fun x => frozenAlloc zf2 (by omega) x
    have q3 := fun x => frozenAlloc zf3 (by omega) x
    cases up
    · go_wp2
      refine bodyPost_ret (v := deskV false (.slice ao rs.length cap) f (.slice a2 ws.length c2)) (by simp [results, Tryd.results19, go_sem, *]) rfl ?_
      skip
      refine ⟨ao, cap, a2, c2, ps, rfl, P2.out, ?_, ?_⟩
      · refine DkOwn.lo (lo := w1.heap.size) ?_ (by omega)
        iterate 4 (refine DkOwn.setBelow ?_ (by omega) _)
        refine DkOwn.hi (O2.out.below (alloc_below _ _) (Nat.le_refl _)) (by simp) (by simp)
      · iterate 4 (refine Below.setCell ?_ (by first | (simp; done) | (simp; omega)) _)
        exact B2.out.alloc (by omega) _
    · go_wp2
      refine bodyPost_ret (v := deskV true (.slice ao rs.length cap) rs.length (.slice a2 ws.length c2)) (by simp [results, Tryd.results19, go_sem, *]) rfl ?_
      skip
      refine ⟨ao, cap, a2, c2, ps, rfl, P2.out, ?_, ?_⟩
      · refine DkOwn.lo (lo := w1.heap.size) ?_ (by omega)
        iterate 4 (refine DkOwn.setBelow ?_ (by omega) _)
        refine DkOwn.hi (O2.out.below (alloc_below _ _) (Nat.le_refl _)) (by simp) (by simp)
      · iterate 4 (refine Below.setCell ?_ (by first | (simp; done) | (simp; omega)) _)
        exact B2.out.alloc (by omega) _

set_option maxHeartbeats 8000000 in
set_option maxRecDepth 20000 in
theorem implDForce_any (up : Bool) (v u : Value) (rs : List R) (f : Int) (ws : List Wd) (a : Addr) (w : World) (hv : DkIn w v u rs ws) (hl : tot rs ≤ 1048576) (hlw : ws.length ≤ 1048576) (ha : ErrAt w a) :
    Calls Tryd.prog 20 #[deskV up v f u] w fun e w' => DkO w w' e (dkForce up rs f ws) := by
  have hrl := tot_len rs
  have HC : Hid (∀ W, Below w.heap.size w W → Calls Tryd.prog 34 #[deskV up v f u] W fun e w' => ClOut W w' e up rs f ws) := fun W h =>
    clerkOf_any up v u rs f ws a W (hv.1.later h (Nat.le_refl _)) hl hlw hv.2.1 (ha.later h (Nat.le_refl _))
  have HA : Hid (∀ W, Below w.heap.size w W → ErrAt W a) := fun W h => ha.later h (Nat.le_refl _)
  obtain ⟨av, cv, au, cu, rfl, rfl⟩ := hv.1.shape
  clear hv ha
  obtain ⟨w0, hw0⟩ : ∃ W, Hid (W = (w.alloc (.cells #[.bool up, .slice av rs.length cv, .int .i64 f, .slice au ws.length cu] 35)).alloc (.cells #[.bool false, .slice none 0 0, .int .i64 0, .slice none 0 0] 35)) := ⟨_, rfl⟩
  have B0 : Hid (Below w.heap.size w w0) := by show Below _ _ _; rw [hw0.out]; exact below2 _ _ _
  have Z0 : Hid (Blk w0 (w.heap.size + 1) #[.bool false, .slice none 0 0, .int .i64 0, .slice none 0 0] 35) := by show Blk _ _ _ _; rw [hw0.out]; exact Blk.new2 _ _ _ _
  have hs0 : w0.heap.size = w.heap.size + 2 := by rw [hw0.out, size2]
  go_enter Tryd.func20, Tryd.ntmps20
  go_wp2_with fail
  rw [← hw0.out]
  refine (HC.out _ B0.out).mono ?_
  rintro e w1 ⟨hb1, hc⟩
  have Z1 := hide_it (Z0.out.after hb1)
  have B1 := hide_it (B0.out.trans (hb1.mono B0.out.size))
  have hs1 : w.heap.size + 2 ≤ w1.heap.size := by have := hb1.size; omega
  clear hb1
  obtain ⟨z0, z1, z2, z3⟩ := Z1.out.cells4
  obtain ⟨zf0, zf1, zf2, zf3⟩ := Z1.out.free4
  have k0 := fun x => cellAlloc z0 x
  have k1 := fun x => cellAlloc z1 x
  have k2 := fun x => cellAlloc z2 x
  have k3 := fun x => cellAlloc z3 x
  have q0 := fun x => frozenAlloc zf0 (by omega) x
  have q1 := fun x => frozenAlloc zf1 (by omega) x
  have q2 := fun x => frozenAlloc zf2 (by omega) x
  have q3 := fun x => frozenAlloc zf3 (by omega) x
  rcases hc with ⟨hok, rfl⟩ | ⟨hok, ao, cap, a2, c2, aa, ca, af, cf, b, ps, rfl, hp2, ho2, -, -, -⟩
  · have HR : Hid (dkForce up rs f ws = dkZ) := by show _ = _; simp [dkForce, hok]
    clear hok
    go_wp2
    refine bodyPost_ret (v := deskV false (.slice none 0 0) 0 (.slice none 0 0)) (by simp [results, Tryd.results20, go_sem, *]) rfl ?_
    rw [HR.out]
    refine DkO.none_ ?_
    iterate 4 (refine Below.setCell ?_ (by first | (simp; done) | (simp; omega)) _)
    exact B1.out.alloc (by omega) _
  · have HR : Hid (dkForce up rs f ws = (up, rs, if up = true then (rs.length : Int) else f, ws)) := by show _ = _; simp [dkForce, hok]
    have HLK := hide_it (dkOk_log hok)
    clear hok
    have O2 := hide_it ho2
    have P2 := hide_it hp2
    clear hp2 ho2
    cases up
    · go_wp2
      refine bodyPost_ret (v := deskV false (.slice ao rs.length cap) f (.slice a2 ws.length c2)) (by simp [results, Tryd.results20, go_sem, *]) rfl ?_
      rw [HR.out]
      refine ⟨ao, cap, a2, c2, ps, rfl, P2.out, ?_, ?_⟩
      · refine DkOwn.lo (lo := w0.heap.size) ?_ (by omega)
        iterate 4 (refine DkOwn.setBelow ?_ (by omega) _)
        refine DkOwn.hi (O2.out.below (alloc_below _ _) (Nat.le_refl _)) (by simp) (by simp)
      · iterate 4 (refine Below.setCell ?_ (by first | (simp; done) | (simp; omega)) _)
        exact B1.out.alloc (by omega) _
    · obtain ⟨wA, hwA⟩ : ∃ W, Hid (W = w1.alloc (.cells #[.bool true, .slice ao rs.length cap, .int .i64 f, .slice a2 ws.length c2, .slice aa (T.ofO rs).length ca, .slice af (T.ofO (rs.take f.toNat)).length cf, .map (some b)] 62)) := ⟨_, rfl⟩
      have C1 : Hid (Blk wA w1.heap.size #[.bool true, .slice ao rs.length cap, .int .i64 f, .slice a2 ws.length c2, .slice aa (T.ofO rs).length ca, .slice af (T.ofO (rs.take f.toNat)).length cf, .map (some b)] 62) := by show Blk _ _ _ _; rw [hwA.out]; exact Blk.new _ _ _
      have LA : Hid (Below w1.heap.size w1 wA) := by show Below _ _ _; rw [hwA.out]; exact alloc_below _ _
      have BA := hide_it (B1.out.trans (LA.out.mono B1.out.size))
      have OA := hide_it (O2.out.below LA.out (Nat.le_refl _))
      have ZA := hide_it (Z1.out.after LA.out)
      have HF := hide_it (implForce_any (.slice ao rs.length cap) rs f a wA (OA.out.at' P2.out).1 hl (HA.out _ BA.out))
      have HFE : Hid (forceR rs f = rs ∧ forceF rs f = rs.length) := by constructor <;> simp [forceR, forceF, HLK.out]
      have hsA : w1.heap.size + 1 = wA.heap.size := by rw [hwA.out]; simp
      go_wp2_with fail
      rw [← hwA.out]
      refine HF.out.mono ?_
      rintro e w2 ⟨a3, c3, rfl, hm3, hb3⟩
      rw [HFE.out.1] at hm3
      rw [HFE.out.1, HFE.out.2]
      obtain ⟨ps3, hp3, ho3⟩ := hm3
      have O3 := hide_it (OA.out.newLog (by omega) ho3 hb3)
      have P3 := hide_it hp3
      have C3 := hide_it (C1.out.after hb3)
      have Z3 := hide_it (ZA.out.after hb3)
      have B3 := hide_it (BA.out.trans (hb3.mono BA.out.size))
      have hs3 : wA.heap.size ≤ w2.heap.size := hb3.size
      clear hb3 hp3 ho3 k0 k1 k2 k3 q0 q1 q2 q3 z0 z1 z2 z3 zf0 zf1 zf2 zf3
      obtain ⟨y0, y1, y2, y3, y4, y5, y6⟩ := C3.out.cells7
      obtain ⟨yf0, yf1, yf2, yf3, yf4, yf5, yf6⟩ := C3.out.free7
      obtain ⟨z0, z1, z2, z3⟩ := Z3.out.cells4
      obtain ⟨zf0, zf1, zf2, zf3⟩ := Z3.out.free4
      go_wp2
      refine bodyPost_ret (v := deskV true (.slice a3 rs.length c3) rs.length (.slice a2 ws.length c2)) (by simp [results, Tryd.results20, go_sem, *]) rfl ?_
      rw [HR.out]
      refine ⟨a3, c3, a2, c2, ps3, rfl, P3.out, ?_, ?_⟩
      · refine DkOwn.lo (lo := w0.heap.size) ?_ (by omega)
        iterate 4 (refine DkOwn.setBelow ?_ (by omega) _)
        have e1 := O3.out.setB (j := 1) C3.out (by decide) (by decide) (by decide) (.slice a3 rs.length c3)
        have e2 := e1.setB (j := 2) (C3.out.set_ 1 (.slice a3 rs.length c3)) (by decide) (by decide) (by decide) (.int .i64 rs.length)
        simpa using e2
      · iterate 6 (refine Below.setCell ?_ (by first | (simp; done) | (simp; omega)) _)
        exact B3.out

end Go.Proofs.YtogfpnenoeonoaaDoor

namespace Go.Proofs.YtogfpnenoeonoaaDoor
open Go.RowKit

theorem l1Fall_form (ao : Option Addr) (n cap : Nat) (f keep : Int) (w : World) (hf : Form (.slice ao n cap) n) (hn2 : n ≤ 1048576) (h0 : 0 ≤ f) (h1 : f ≤ n) :
    Calls Tryd.prog 67 #[.agg #[.slice ao n cap, .int .i64 f], .int .i64 keep] w fun e w' => e = .returned (.agg #[.slice ao (fallN n f keep) cap, .int .i64 (fallN n f keep)]) ∧ Below w.heap.size w w' := by
  rcases hf with ⟨e, rfl⟩ | ⟨g, cap', e, hc⟩
  · simp at e
    obtain ⟨rfl, rfl⟩ := e
    have : f = 0 := by omega
    subst this
    have hz : fallN 0 0 keep = 0 := by
      have := fallN_le (n := 0) (f := 0) (keep := keep) (by omega) (by simp)
      omega
    rw [hz]
    exact l1Fall_nil keep w
  · simp at e
    obtain ⟨rfl, rfl⟩ := e
    exact l1Fall_some g 0 n cap f keep w hc hn2 h0 h1

set_option maxHeartbeats 8000000 in
set_option maxRecDepth 20000 in
theorem l13Fall_any (up : Bool) (ao : Option Addr) (n cap : Nat) (f keep : Int) (au : Option Addr) (m cu : Nat) (w : World) (hf : Form (.slice ao n cap) n) (hn2 : n ≤ 1048576) (h0 : 0 ≤ f) (h1 : f ≤ n) :
    Calls Tryd.prog 47 #[deskV up (.slice ao n cap) f (.slice au m cu), .int .i64 keep] w fun e w' => ∃ g, e = .returned (deskV false (.slice ao (fallN n f keep) cap) (fallN n f keep) (.slice (some ⟨g, 0, none⟩) 0 0)) ∧
      w'.ownsRow w.heap.size 54 4 (.slice (some ⟨g, 0, none⟩) 0 0) 0 [] ∧ Below w.heap.size w w' := by
  have HS : Hid (∀ W, Calls Tryd.prog 67 #[.agg #[.slice ao n cap, .int .i64 f], .int .i64 keep] W fun e w' => e = .returned (.agg #[.slice ao (fallN n f keep) cap, .int .i64 (fallN n f keep)]) ∧ Below W.heap.size W w') := fun W => l1Fall_form ao n cap f keep W hf hn2 h0 h1
  clear hf h0 h1
  obtain ⟨NN, hNN⟩ : ∃ x, fallN n f keep = x := ⟨_, rfl⟩
  rw [hNN] at HS ⊢
  clear hNN
  obtain ⟨w0, hw0⟩ : ∃ W, Hid (W = (w.alloc (.cells #[.bool false, .slice ao n cap, .int .i64 f, .slice au m cu] 35)).alloc (.cells #[.bool false, .slice none 0 0, .int .i64 0, .slice none 0 0] 35)) := ⟨_, rfl⟩
  have B0 : Hid (Below w.heap.size w w0) := by show Below _ _ _; rw [hw0.out]; exact below2 _ _ _
  have X0 : Hid (Blk w0 w.heap.size #[.bool false, .slice ao n cap, .int .i64 f, .slice au m cu] 35) := by show Blk _ _ _ _; rw [hw0.out]; exact (Blk.new _ _ _).alloc _
  have Z0 : Hid (Blk w0 (w.heap.size + 1) #[.bool false, .slice none 0 0, .int .i64 0, .slice none 0 0] 35) := by show Blk _ _ _ _; rw [hw0.out]; exact Blk.new2 _ _ _ _
  have hs0 : w0.heap.size = w.heap.size + 2 := by rw [hw0.out, size2]
  go_enter Tryd.func47, Tryd.ntmps47
  go_wp2_with fail
  rw [← hw0.out]
  refine (HS.out _).mono ?_
  rintro e w1 ⟨rfl, hb⟩
  have X1 := hide_it (X0.out.after hb)
  have Z1 := hide_it (Z0.out.after hb)
  have B1 := hide_it (B0.out.trans (hb.mono B0.out.size))
  have hs1 : w.heap.size + 2 ≤ w1.heap.size := by have := hb.size; omega
  clear hb
  obtain ⟨x0, x1, x2, x3⟩ := X1.out.cells4
  obtain ⟨xf0, xf1, xf2, xf3⟩ := X1.out.free4
  have X2 : Blk ((w1.setCell ⟨w.heap.size, 1, none⟩ (.slice ao NN cap)).setCell ⟨w.heap.size, 2, none⟩ (.int .i64 NN)) w.heap.size #[.bool false, .slice ao NN cap, .int .i64 NN, .slice au m cu] 35 := (X1.out.set_ 1 _).set_ 2 _
  have Z2 : Blk ((w1.setCell ⟨w.heap.size, 1, none⟩ (.slice ao NN cap)).setCell ⟨w.heap.size, 2, none⟩ (.int .i64 NN)) (w.heap.size + 1) #[.bool false, .slice none 0 0, .int .i64 0, .slice none 0 0] 35 := (Z1.out.other (by simp) _).other (by simp) _
  have a0 := fun x => cellAlloc X2.cells4.1 x
  have a1 := fun x => cellAlloc X2.cells4.2.1 x
  have a2 := fun x => cellAlloc X2.cells4.2.2.1 x
  have a3 := fun x => cellAlloc X2.cells4.2.2.2 x
  have b3 := fun x => frozenAlloc X2.free4.2.2.2 X2.lt x
  have c0 := fun x => cellAlloc Z2.cells4.1 x
  have c1 := fun x => cellAlloc Z2.cells4.2.1 x
  have c2 := fun x => cellAlloc Z2.cells4.2.2.1 x
  have c3 := fun x => cellAlloc Z2.cells4.2.2.2 x
  have d0 := fun x => frozenAlloc Z2.free4.1 Z2.lt x
  have d1 := fun x => frozenAlloc Z2.free4.2.1 Z2.lt x
  have d2 := fun x => frozenAlloc Z2.free4.2.2.1 Z2.lt x
  have d3 := fun x => frozenAlloc Z2.free4.2.2.2 Z2.lt x
  have HX2 := hide_it X2
  clear X2 Z2
  go_wp2
  refine bodyPost_ret (v := deskV false (.slice ao NN cap) NN (.slice (some ⟨w1.heap.size, 0, none⟩) 0 0)) (by simp [results, Tryd.results47, go_sem, *]) rfl ?_
  refine ⟨w1.heap.size, rfl, ?_, ?_⟩
  · have h0 := T.lit0 ((w1.setCell ⟨w.heap.size, 1, none⟩ (.slice ao NN cap)).setCell ⟨w.heap.size, 2, none⟩ (.int .i64 NN)) 54 4
    have hsz : ((w1.setCell ⟨w.heap.size, 1, none⟩ (.slice ao NN cap)).setCell ⟨w.heap.size, 2, none⟩ (.int .i64 NN)).heap.size = w1.heap.size := by simp
    have h1 := ownsRow_base (base' := w.heap.size + 2) h0 (by rw [hsz]; omega)
    rw [hsz] at h1
    refine ownsRow_base (base := w.heap.size + 2) ?_ (by omega)
    iterate 5 (refine ownsRow_setCell_below ?_ (by simp) _)
    exact h1
  · iterate 5 (refine Below.setCell ?_ (by first | (simp; done) | (simp; omega)) _)
    exact ((B1.out.setCell (by simp) _).setCell (by simp) _).alloc (by simp; omega) _

set_option maxHeartbeats 8000000 in
set_option maxRecDepth 20000 in
theorem specDFall_any (up : Bool) (v u : Value) (rs : List R) (f : Int) (ws : List Wd) (keep : Int) (w : World) (hv : DkIn w v u rs ws) (hl : tot rs ≤ 1048576) (hlw : ws.length ≤ 1048576) :
    Calls Tryd.prog 22 #[deskV up v f u, .int .i64 keep] w fun e w' => DkO w w' e (dkFall up rs f ws keep) := by
  have hrl := tot_len rs
  have HV : Hid (∀ W, Below w.heap.size w W → DkIn W v u rs ws) := fun W h => hv.later h (Nat.le_refl _)
  have HOK : Hid (∀ W, Below w.heap.size w W → Calls Tryd.prog 9 #[deskV up v f u] W fun e w' => e = .returned (.bool (dkOk up rs f ws)) ∧ Below W.heap.size W w') := fun W h =>
    specDeskOk_any up v u rs f ws W (HV.out W h).1 hl hlw hv.2.2
  obtain ⟨av, cv, au, cu, rfl, rfl⟩ := hv.1.shape
  clear hv
  obtain ⟨w0, hw0⟩ : ∃ W, Hid (W = (w.alloc (.cells #[.bool up, .slice av rs.length cv, .int .i64 f, .slice au ws.length cu] 35)).alloc (.cells #[.bool false, .slice none 0 0, .int .i64 0, .slice none 0 0] 35)) := ⟨_, rfl⟩
  have B0 : Hid (Below w.heap.size w w0) := by show Below _ _ _; rw [hw0.out]; exact below2 _ _ _
  have X0 : Hid (Blk w0 w.heap.size #[.bool up, .slice av rs.length cv, .int .i64 f, .slice au ws.length cu] 35) := by show Blk _ _ _ _; rw [hw0.out]; exact (Blk.new _ _ _).alloc _
  have Z0 : Hid (Blk w0 (w.heap.size + 1) #[.bool false, .slice none 0 0, .int .i64 0, .slice none 0 0] 35) := by show Blk _ _ _ _; rw [hw0.out]; exact Blk.new2 _ _ _ _
  have hs0 : w0.heap.size = w.heap.size + 2 := by rw [hw0.out, size2]
  cases hok : dkOk up rs f ws
  · have HR : Hid (dkFall up rs f ws keep = dkZ) := by show _ = _; simp [dkFall, hok]
    rw [hok] at HOK
    rw [HR.out]
    clear hok
    go_enter Tryd.func22, Tryd.ntmps22
    go_wp2_with fail
    rw [← hw0.out]
    refine (HOK.out _ B0.out).mono ?_
    rintro e w1 ⟨rfl, hb⟩
    obtain ⟨z0, z1, z2, z3⟩ := (Z0.out.after hb).cells4
    obtain ⟨zf0, zf1, zf2, zf3⟩ := (Z0.out.after hb).free4
    have HB := hide_it (B0.out.trans (hb.mono B0.out.size))
    clear hb
    go_wp2
    refine bodyPost_ret (v := deskV false (.slice none 0 0) 0 (.slice none 0 0)) (by simp [results, Tryd.results22, go_sem, *]) rfl (DkO.none_ ?_)
    repeat (refine Below.setCell ?_ (by first | (simp; done) | (simp; omega)) _)
    exact HB.out
  · have HR : Hid (dkFall up rs f ws keep = (false, rs.take (fallN rs.length f keep), (fallN rs.length f keep : Int), [])) := by show _ = _; simp [dkFall, hok]
    rw [hok] at HOK
    have HLK := hide_it (dkOk_log hok)
    rw [HR.out]
    clear HR hok
    go_enter Tryd.func22, Tryd.ntmps22
    go_wp2_with fail
    rw [← hw0.out]
    refine (HOK.out _ B0.out).mono ?_
    rintro e w1 ⟨rfl, hb1⟩
    have X1 := hide_it (X0.out.after hb1)
    have Z1 := hide_it (Z0.out.after hb1)
    have B1 := hide_it (B0.out.trans (hb1.mono B0.out.size))
    have hs1 : w.heap.size + 2 ≤ w1.heap.size := by have := hb1.size; omega
    obtain ⟨x0, x1, x2, x3⟩ := X1.out.cells4
    clear hb1
    go_wp2_with fail
    refine (l13Copy_any up _ _ rs f ws w1 (HV.out _ B1.out).1 hl hlw).mono ?_
    rintro e w2 ⟨ao, cap, a2, c2, ps, rfl, hp2, ho2, hb2⟩
    have Z2 := hide_it (Z1.out.after hb2)
    have B2 := hide_it (B1.out.trans (hb2.mono B1.out.size))
    have O2 := hide_it ho2
    have P2 := hide_it hp2
    have hs2 : w.heap.size + 2 ≤ w2.heap.size := by have := hb2.size; omega
    have S12 := hide_it hb2.size
    clear hb2 hp2 ho2 x0 x1 x2 x3
    obtain ⟨z0, z1, z2, z3⟩ := Z2.out.cells4
    obtain ⟨zf0, zf1, zf2, zf3⟩ := Z2.out.free4
    have k0 := fun x => cellAlloc z0 x
    have k1 := fun x => cellAlloc z1 x
    have k2 := fun x => cellAlloc z2 x
    have k3 := fun x => cellAlloc z3 x
    have q0 := fun x => frozenAlloc zf0 (by omega) x
    have q1 := fun x => frozenAlloc zf1 (by omega) x
    have q2 := fun x => frozenAlloc zf2 (by omega) x
    have q3 := fun x => frozenAlloc zf3 (by omega) x
    obtain ⟨hf0, hf1, -⟩ := logOk_f HLK.out
    have hNle := fallN_le (keep := keep) hf0 hf1
    have IN2 := hide_it (O2.out.in_ P2.out)
    have HF := hide_it (l13Fall_any up ao rs.length cap f keep a2 ws.length c2 w2 IN2.out.2.1 (by omega) hf0 hf1)
    obtain ⟨NN, hNN⟩ : ∃ x, fallN rs.length f keep = x := ⟨_, rfl⟩
    rw [hNN] at HF hNle
    have HNN := hide_it hNN
    have HNL := hide_it hNle
    clear hf0 hf1 hNN hNle k0 k1 k2 k3 q0 q1 q2 q3 z0 z1 z2 z3 zf0 zf1 zf2 zf3
    go_wp2_with fail
    refine HF.out.mono ?_
    rintro e w3 ⟨g, rfl, hr3, hb3⟩
    have M2 : Made w2 w1.heap.size (.slice ao rs.length cap) rs := by
      obtain ⟨q0, l, t, q1, q2, q3, q4, q5⟩ := O2.out
      have hi := q3.2.2.mono q2 q0
      exact Made.lo ⟨ps, P2.out, q3.1, fun k hk => by have := q3.2.1 k hk; omega, hi⟩ q1
    obtain ⟨ps', hp', ho'⟩ := M2.take HNL.out
    have hlt : (rs.take NN).length = NN := by rw [List.length_take]; have := HNL.out; omega
    have O3 : Hid (DkOwn w3 w1.heap.size w3.heap.size (.slice ao NN cap) (.slice (some ⟨g, 0, none⟩) 0 0) ps' []) := DkOwn.mk_ ho' hr3 hb3 S12.out
    have P3 := hide_it hp'
    have HLT := hide_it hlt
    have Z3 := hide_it (Z2.out.after hb3)
    have B3 := hide_it (B2.out.trans (hb3.mono B2.out.size))
    have hs3 : w.heap.size + 2 ≤ w3.heap.size := by have := hb3.size; omega
    clear hr3 hb3 hp' ho' M2 hlt
    obtain ⟨z0, z1, z2, z3⟩ := Z3.out.cells4
    obtain ⟨zf0, zf1, zf2, zf3⟩ := Z3.out.free4
    go_wp2
    refine bodyPost_ret (v := deskV false (.slice ao NN cap) NN (.slice (some ⟨g, 0, none⟩) 0 0)) (by simp [results, Tryd.results22, go_sem, *]) rfl ?_
    rw [HNN.out]
    refine ⟨ao, cap, some ⟨g, 0, none⟩, 0, ps', by rw [HLT.out]; rfl, P3.out, ?_, ?_⟩
    · rw [HLT.out]
      refine DkOwn.lo (lo := w1.heap.size) ?_ (by omega)
      iterate 4 (refine DkOwn.setBelow ?_ (by omega) _)
      simpa using O3.out
    · iterate 4 (refine Below.setCell ?_ (by first | (simp; done) | (simp; omega)) _)
      exact B3.out

set_option maxHeartbeats 8000000 in
set_option maxRecDepth 20000 in
theorem implDFall_any (up : Bool) (v u : Value) (rs : List R) (f : Int) (ws : List Wd) (keep : Int) (a : Addr) (w : World) (hv : DkIn w v u rs ws) (hl : tot rs ≤ 1048576) (hlw : ws.length ≤ 1048576) (ha : ErrAt w a) :
    Calls Tryd.prog 23 #[deskV up v f u, .int .i64 keep] w fun e w' => DkO w w' e (dkFall up rs f ws keep) := by
  have hrl := tot_len rs
  have HC : Hid (∀ W, Below w.heap.size w W → Calls Tryd.prog 34 #[deskV up v f u] W fun e w' => ClOut W w' e up rs f ws) := fun W h =>
    clerkOf_any up v u rs f ws a W (hv.1.later h (Nat.le_refl _)) hl hlw hv.2.1 (ha.later h (Nat.le_refl _))
  have HA : Hid (∀ W, Below w.heap.size w W → ErrAt W a) := fun W h => ha.later h (Nat.le_refl _)
  obtain ⟨av, cv, au, cu, rfl, rfl⟩ := hv.1.shape
  clear hv ha
  obtain ⟨w0, hw0⟩ : ∃ W, Hid (W = (w.alloc (.cells #[.bool up, .slice av rs.length cv, .int .i64 f, .slice au ws.length cu] 35)).alloc (.cells #[.bool false, .slice none 0 0, .int .i64 0, .slice none 0 0] 35)) := ⟨_, rfl⟩
  have B0 : Hid (Below w.heap.size w w0) := by show Below _ _ _; rw [hw0.out]; exact below2 _ _ _
  have Z0 : Hid (Blk w0 (w.heap.size + 1) #[.bool false, .slice none 0 0, .int .i64 0, .slice none 0 0] 35) := by show Blk _ _ _ _; rw [hw0.out]; exact Blk.new2 _ _ _ _
  have hs0 : w0.heap.size = w.heap.size + 2 := by rw [hw0.out, size2]
  go_enter Tryd.func23, Tryd.ntmps23
  go_wp2_with fail
  rw [← hw0.out]
  refine (HC.out _ B0.out).mono ?_
  rintro e w1 ⟨hb1, hc⟩
  have Z1 := hide_it (Z0.out.after hb1)
  have B1 := hide_it (B0.out.trans (hb1.mono B0.out.size))
  have hs1 : w.heap.size + 2 ≤ w1.heap.size := by have := hb1.size; omega
  clear hb1
  obtain ⟨z0, z1, z2, z3⟩ := Z1.out.cells4
  obtain ⟨zf0, zf1, zf2, zf3⟩ := Z1.out.free4
  have k0 := fun x => cellAlloc z0 x
  have k1 := fun x => cellAlloc z1 x
  have k2 := fun x => cellAlloc z2 x
  have k3 := fun x => cellAlloc z3 x
  have q0 := fun x => frozenAlloc zf0 (by omega) x
  have q1 := fun x => frozenAlloc zf1 (by omega) x
  have q2 := fun x => frozenAlloc zf2 (by omega) x
  have q3 := fun x => frozenAlloc zf3 (by omega) x
  rcases hc with ⟨hok, rfl⟩ | ⟨hok, ao, cap, a2, c2, aa, ca, af, cf, b, ps, rfl, hp2, ho2, -, -, -⟩
  · have HR : Hid (dkFall up rs f ws keep = dkZ) := by show _ = _; simp [dkFall, hok]
    clear hok
    go_wp2
    refine bodyPost_ret (v := deskV false (.slice none 0 0) 0 (.slice none 0 0)) (by simp [results, Tryd.results23, go_sem, *]) rfl ?_
    rw [HR.out]
    refine DkO.none_ ?_
    iterate 4 (refine Below.setCell ?_ (by first | (simp; done) | (simp; omega)) _)
    exact B1.out.alloc (by omega) _
  · have HR : Hid (dkFall up rs f ws keep = (false, rs.take (fallN rs.length f keep), (fallN rs.length f keep : Int), [])) := by show _ = _; simp [dkFall, hok]
    have HLK := hide_it (dkOk_log hok)
    clear hok
    have O2 := hide_it ho2
    have P2 := hide_it hp2
    clear hp2 ho2
    obtain ⟨wA, hwA⟩ : ∃ W, Hid (W = w1.alloc (.cells #[.bool up, .slice ao rs.length cap, .int .i64 f, .slice a2 ws.length c2, .slice aa (T.ofO rs).length ca, .slice af (T.ofO (rs.take f.toNat)).length cf, .map (some b)] 62)) := ⟨_, rfl⟩
    have LA : Hid (Below w1.heap.size w1 wA) := by show Below _ _ _; rw [hwA.out]; exact alloc_below _ _
    have BA := hide_it (B1.out.trans (LA.out.mono B1.out.size))
    have OA := hide_it (O2.out.below LA.out (Nat.le_refl _))
    have ZA := hide_it (Z1.out.after LA.out)
    have INA := hide_it (OA.out.in_ P2.out)
    have HF := hide_it (implFall_form (.slice ao rs.length cap) rs f keep a wA INA.out.1.1 INA.out.2.1 hl (HA.out _ BA.out))
    have HFE : Hid (fallR rs f keep = rs.take (fallN rs.length f keep) ∧ fallF rs f keep = fallN rs.length f keep) := by constructor <;> simp [fallR, fallF, HLK.out]
    have hsA : w1.heap.size + 1 = wA.heap.size := by rw [hwA.out]; simp
    go_wp2_with fail
    rw [← hwA.out]
    refine HF.out.mono ?_
    rintro e w2 ⟨a3, c3, rfl, hm3, hb3⟩
    rw [HFE.out.1] at hm3
    rw [HFE.out.1, HFE.out.2]
    obtain ⟨ps3, hp3, ho3⟩ := hm3
    have O3 := hide_it ho3
    have P3 := hide_it hp3
    have Z3 := hide_it (ZA.out.after hb3)
    have B3 := hide_it (BA.out.trans (hb3.mono BA.out.size))
    have hs3 : wA.heap.size ≤ w2.heap.size := hb3.size
    clear hb3 hp3 ho3 k0 k1 k2 k3 q0 q1 q2 q3 z0 z1 z2 z3 zf0 zf1 zf2 zf3
    obtain ⟨z0, z1, z2, z3⟩ := Z3.out.cells4
    obtain ⟨zf0, zf1, zf2, zf3⟩ := Z3.out.free4
    obtain ⟨TT, hTT⟩ : ∃ x, rs.take (fallN rs.length f keep) = x := ⟨_, rfl⟩
    obtain ⟨NN, hNN⟩ : ∃ x, fallN rs.length f keep = x := ⟨_, rfl⟩
    rw [hTT] at O3 P3
    rw [hTT, hNN] at HR
    rw [hTT, hNN]
    clear hTT hNN HFE HF
    go_wp2
    refine bodyPost_ret (v := deskV false (.slice a3 TT.length c3) NN (.slice none 0 0)) (by simp [results, Tryd.results23, go_sem, *]) rfl ?_
    rw [HR.out]
    refine ⟨a3, c3, none, 0, ps3, rfl, P3.out, ?_, ?_⟩
    · refine DkOwn.lo (lo := wA.heap.size) ?_ (by omega)
      iterate 4 (refine DkOwn.setBelow ?_ (by omega) _)
      have : DkOwn w2 wA.heap.size w2.heap.size (.slice a3 TT.length c3) (.slice none 0 0) ps3 [] := ⟨Nat.le_refl _, wA.heap.size, w2.heap.size, Nat.le_refl _, Nat.le_refl _, O3.out, World.ownsRow_nil _ _ _ _, fun g hg => by simp [Value.ownBlock] at hg⟩
      simpa using this
    · iterate 4 (refine Below.setCell ?_ (by first | (simp; done) | (simp; omega)) _)
      exact B3.out

end Go.Proofs.YtogfpnenoeonoaaDoor
