/- What the last text of this claim stands on, part 5: plain facts and contracts; the last text says what is proved. -/
import Derived.Test.YtgknnigjlnfplaaGreatDoorBase4
import Derived.BigQuiet
import Derived.Deep.RegionHeld

namespace Go.Proofs.YtgknnigjlnfplaaGreatDoor
open Go.RowKit

theorem eqlWord (k h t m k' h' t' m' : Int) (w : World) : Sem.run Tryz.prog (binOp BinOp.eql 39 (wordV k h t m) (wordV k' h' t' m')) w = .ok (.bool (decide (k = k') && (decide (h = h') && (decide (t = t') && decide (m = m'))))) w := by
  by_cases e1 : k = k'
  · subst e1
    by_cases e2 : h = h'
    · subst e2
      by_cases e3 : t = t'
      · subst e3
        by_cases e4 : m = m'
        · subst e4
          go_simp
        · go_simp
      · go_simp
    · go_simp
  · go_simp

theorem not_contains {hs : List Wd} {k : Nat} {q p : Wd} (h : k < hs.length) (hp : hs.getD k (0, 0, 0, 0) = p) (h1 : (hs.take k).contains q = false) (h2 : p ≠ q) : (hs.take (k + 1)).contains q = false := by
  rw [wtake hs k h, hp]
  rw [Bool.eq_false_iff] at h1 ⊢
  intro h3
  have h4 := List.contains_iff_mem.1 h3
  rcases List.mem_append.1 h4 with h4 | h4
  · exact h1 (List.contains_iff_mem.2 h4)
  · simp only [List.mem_singleton] at h4
    exact h2 h4.symm
theorem yes_contains {hs : List Wd} {k : Nat} {p : Wd} (h : k < hs.length) (hp : hs.getD k (0, 0, 0, 0) = p) : hs.contains p = true := by
  rw [← hp, wget hs k h]
  exact List.contains_iff_mem.2 (List.getElem_mem h)
theorem word_ne {p q : Wd} (h : p ≠ q) : (decide (p.1 = q.1) && (decide (p.2.1 = q.2.1) && (decide (p.2.2.1 = q.2.2.1) && decide (p.2.2.2 = q.2.2.2)))) = false := by
  rw [Bool.eq_false_iff]
  intro e
  simp only [Bool.and_eq_true, decide_eq_true_eq] at e
  apply h
  obtain ⟨p0, p1, p2, p3⟩ := p
  obtain ⟨q0, q1, q2, q3⟩ := q
  simp only at e
  obtain ⟨rfl, rfl, rfl, rfl⟩ := e
  rfl

set_option maxHeartbeats 2000000 in
theorem l13Told_any (v : Value) (hs : List Wd) (q : Wd) (w : World) (hv : Words w v hs) (hl : hs.length ≤ 1048576) :
    Calls Tryz.prog 33 #[v, wordV q.1 q.2.1 q.2.2.1 q.2.2.2] w fun e w' => e = .returned (.bool (hs.contains q)) ∧ Below w.heap.size w w' := by
  rcases hv with ⟨rfl, ao, cap, rfl, -⟩ | ⟨b, off, cap, rfl, hz, hc⟩
  · go_enter Tryz.func33, Tryz.ntmps33
    go_wp2
    refine wp_loop_rounds 1 ?_
    rw [rounds_succ]
    go_wp2
    go_ret
    exact ⟨rfl, alloc_below _ _⟩
  have HC : Hid (∀ k, k < hs.length → w.cell? ⟨b, off + k * 4, none⟩ = some (.int .i64 (hs.getD k (0, 0, 0, 0)).1) ∧ w.cell? ⟨b, off + k * 4 + 1, none⟩ = some (.int .i64 (hs.getD k (0, 0, 0, 0)).2.1) ∧ w.cell? ⟨b, off + k * 4 + 2, none⟩ = some (.int .i64 (hs.getD k (0, 0, 0, 0)).2.2.1) ∧ w.cell? ⟨b, off + k * 4 + 3, none⟩ = some (.int .i64 (hs.getD k (0, 0, 0, 0)).2.2.2)) := hc
  have hzl : 0 < hs.length := List.length_pos_iff.2 hz
  have hbw : b < w.heap.size := World.block_lt_of_cell? _ _ (hc 0 hzl).1
  clear hc hz
  obtain ⟨w0, hw0⟩ : ∃ W, Hid (W = w.alloc (.cells #[.int .i64 q.1, .int .i64 q.2.1, .int .i64 q.2.2.1, .int .i64 q.2.2.2] 39)) := ⟨_, rfl⟩
  have B0 : Hid (Below w.heap.size w w0) := by show Below _ _ _; rw [hw0.out]; exact alloc_below _ _
  have X0 : Hid (Blk w0 w.heap.size #[.int .i64 q.1, .int .i64 q.2.1, .int .i64 q.2.2.1, .int .i64 q.2.2.2] 39) := by show Blk _ _ _ _; rw [hw0.out]; exact Blk.new _ _ _
  go_enter Tryz.func33, Tryz.ntmps33
  go_wp2
  rw [← hw0.out]
  go_loopw [5] (fun i wr => ∃ k : Nat, k ≤ hs.length ∧ i = .int .i64 k ∧ Hid ((hs.take k).contains q = false) ∧ Hid (Below w0.heap.size w0 wr)) (fun i _ => hs.length - (intOf i).toNat)
  case atStart => exact ⟨0, Nat.zero_le _, rfl, by show _ = _; simp, Below.refl _ _⟩
  case round =>
    obtain ⟨k, hk, rfl, HN, HB⟩ := hrel
    have HBw := hide_it (B0.out.trans (HB.out.mono B0.out.size))
    by_cases hlt : k < hs.length
    · obtain ⟨p, HP⟩ : ∃ p, Hid (hs.getD k (0, 0, 0, 0) = p) := ⟨_, rfl⟩
      have hcl := HC.out k hlt
      rw [HP.out] at hcl
      obtain ⟨c0, c1, c2, c3⟩ := hcl
      replace c0 := T.cellBelow c0 HBw.out hbw
      replace c1 := T.cellBelow c1 HBw.out hbw
      replace c2 := T.cellBelow c2 HBw.out hbw
      replace c3 := T.cellBelow c3 HBw.out hbw
      obtain ⟨x0, x1, x2, x3⟩ := (X0.out.after HB.out).cells4
      have hli : (k : Int) < (hs.length : Int) := by omega
      by_cases heq : p = q
      · subst heq
        have HY : Hid (hs.contains p = true) := yes_contains hlt HP.out
        go_wp2
        go_quiet (fail)
        go_wp2
        go_ret
        exact ⟨by rw [HY.out]; rfl, below_drewN HBw.out _⟩
      · have HNN : Hid ((hs.take (k + 1)).contains q = false) := not_contains hlt HP.out HN.out heq
        have he : ∀ W : World, Sem.run Tryz.prog (binOp BinOp.eql 39 (wordV p.1 p.2.1 p.2.2.1 p.2.2.2) (wordV q.1 q.2.1 q.2.2.1 q.2.2.2)) W = .ok (.bool false) W := fun W => by
          rw [eqlWord, word_ne heq]
        clear heq
        go_wp2
        go_quiet (fail)
        go_wp2
        go_roundw
        case rel => exact ⟨k + 1, by omega, by go_num, HNN, below_drewN HB.out _⟩
        case measure => simp [intOf]; omega
    · have HNN : Hid (hs.contains q = false) := by
        have hke : k = hs.length := by omega
        have := HN.out
        rw [hke, List.take_length] at this
        exact this
      go_wp2
      go_ret
      exact ⟨by rw [HNN.out]; rfl, HBw.out⟩

theorem Words.cut {w : World} {N cap : Nat} {ao : Option Addr} {hs : List Wd} (h : Words w (.slice ao hs.length cap) hs) (hN : N ≤ hs.length) : Words w (.slice ao N cap) (hs.take N) := by
  rcases h with ⟨rfl, ao', cap', e, hn⟩ | ⟨b, off, cap', e, hz, hc⟩
  · simp at hN
    subst hN
    simp at e
    obtain ⟨rfl, rfl⟩ := e
    exact Or.inl ⟨rfl, _, _, rfl, hn⟩
  · simp only [Value.slice.injEq] at e
    obtain ⟨rfl, -, rfl⟩ := e
    by_cases h0 : N = 0
    · subst h0
      exact Or.inl ⟨rfl, _, _, rfl, fun h => by cases h⟩
    · have hl : (hs.take N).length = N := by rw [List.length_take]; omega
      refine Or.inr ⟨b, off, cap, by rw [hl], by intro e; rw [e] at hl; simp at hl; omega, fun k hk => ?_⟩
      rw [hl] at hk
      have hg : (hs.take N).getD k (0, 0, 0, 0) = hs.getD k (0, 0, 0, 0) := by
        simp only [List.getD_eq_getElem?_getD, List.getElem?_take, hk, if_true]
      rw [hg]
      exact hc k (by omega)

set_option maxHeartbeats 16000000 in
theorem specDeskOk_any (up : Bool) (v u : Value) (rs : List R) (f : Int) (ws : List Wd) (w : World) (hv : DkAt w v u rs ws) (hl : tot rs ≤ 1048576) (hlw : ws.length ≤ 1048576) (hfu : Form u ws.length) :
    Calls Tryz.prog 14 #[deskV up v f u] w fun e w' => e = .returned (.bool (dkOk up rs f ws)) ∧ Below w.heap.size w w' := by
  have HV : Hid (∀ W, Below w.heap.size w W → DkAt W v u rs ws) := fun W h => hv.later h (Nat.le_refl _)
  have HO : Hid (∀ o, Calls Tryz.prog 30 #[v] (w.alloc o) fun e w' => T.TrOut (w.alloc o) w' e (T.ofO rs) (T.runT rs).isSome) := fun o =>
    T.l12Of_any v rs (w.alloc o) (hv.1.later (alloc_below w o) (Nat.le_refl _)) hl
  have HL : Hid (∀ W, Below w.heap.size w W → Calls Tryz.prog 31 #[.agg #[v, .int .i64 f]] W fun e w' => e = .returned (.bool (logOk rs f)) ∧ Below W.heap.size W w') := fun W h =>
    specLogOk_any v rs f W (hv.1.later h (Nat.le_refl _)) hl
  obtain ⟨av, cv, au, cu, rfl, rfl⟩ := hv.shape
  clear hv
  have hfc : ∀ k : Nat, k ≤ ws.length → k ≤ cu := fun k hk => by
    rcases hfu with ⟨e, h0⟩ | ⟨g, cap, e, h1⟩
    · omega
    · simp at e; omega
  clear hfu
  have HE : Hid (dkOk up rs f ws = (logOk rs f && ((T.runT rs).isSome && (toldOk (T.ofO rs).length ws && (up || ws.isEmpty))))) := rfl
  have hfit := T.ofO_fit rs
  rw [HE.out]
  clear HE
  obtain ⟨LL, hLL⟩ : ∃ x, logOk rs f = x := ⟨_, rfl⟩
  obtain ⟨OO, hOO⟩ : ∃ x, T.ofO rs = x := ⟨_, rfl⟩
  obtain ⟨SS, hSS⟩ : ∃ x, (T.runT rs).isSome = x := ⟨_, rfl⟩
  rw [hLL] at HL
  rw [hOO, hSS] at HO
  rw [hOO] at hfit
  rw [hLL, hOO, hSS]
  clear hLL hOO hSS
  have hO6 : OO.length ≤ 6 := hfit.1
  clear hfit
  have X0 : Hid (Blk (w.alloc (.cells #[.bool up, .slice av rs.length cv, .int .i64 f, .slice au ws.length cu] 36)) w.heap.size #[.bool up, .slice av rs.length cv, .int .i64 f, .slice au ws.length cu] 36) := Blk.new _ _ _
  go_enter Tryz.func14, Tryz.ntmps14
  go_wp2_with fail
  refine (HO.out _).mono ?_
  rintro e w1 ⟨ao, co, rfl, -, hb1⟩
  have B1 := hide_it (below_after hb1)
  have X1 := hide_it (X0.out.after hb1)
  obtain ⟨x0, x1, x2, x3⟩ := X1.out.cells4
  clear hb1
  go_wp2_with fail
  refine (HL.out w1 B1.out).mono ?_
  rintro e w2 ⟨rfl, hb2⟩
  have B2 := hide_it (B1.out.trans (hb2.mono B1.out.size))
  have X2 := hide_it (X1.out.after hb2)
  clear hb2 x0 x1 x2 x3
  cases LL
  · go_wp2
    go_ret
    exact ⟨rfl, B2.out⟩
  cases SS
  · go_wp2
    go_ret
    exact ⟨rfl, B2.out⟩
  go_wp2
  go_loopw [5] (fun i wr => ∃ k : Nat, k ≤ ws.length ∧ i = .int .i64 k ∧ Hid (toldOk OO.length (ws.take k) = true) ∧ Hid (Below w2.heap.size w2 wr)) (fun i _ => ws.length - (intOf i).toNat)
  case atStart => exact ⟨0, Nat.zero_le _, rfl, rfl, Below.refl _ _⟩
  case round =>
    obtain ⟨k, hk, rfl, HT, HB⟩ := hrel
    have HBw := hide_it (B2.out.trans (HB.out.mono B2.out.size))
    have XR := hide_it (X2.out.after HB.out)
    have hwr : w.heap.size < wr.heap.size := XR.out.lt
    by_cases hlt : k < ws.length
    · obtain ⟨p, HP⟩ : ∃ p, Hid (ws.getD k (0, 0, 0, 0) = p) := ⟨_, rfl⟩
      rcases (HV.out wr HBw.out).2 with ⟨h0, _⟩ | ⟨b, off, cap, hvv, _, hcl⟩
      · rw [h0] at hlt; simp at hlt
      simp only [Value.slice.injEq] at hvv
      obtain ⟨rfl, -, rfl⟩ := hvv
      obtain ⟨c0, c1, c2, c3⟩ := hcl k hlt
      rw [HP.out] at c0 c1 c2 c3
      have hbw : b < wr.heap.size := World.block_lt_of_cell? _ _ c0
      clear hcl
      obtain ⟨-, -, -, x3⟩ := XR.out.cells4
      have HA : Hid (∀ W, Calls Tryz.prog 32 #[wordV p.1 p.2.1 p.2.2.1 p.2.2.2] W fun e w' => e = .returned (.bool (Pl.wOk p.1 p.2.1 p.2.2.1 p.2.2.2)) ∧ Below W.heap.size W w') := fun W => specWordOk_any _ _ _ _ W
      have HT2 : Hid (∀ W, Below w.heap.size w W → Calls Tryz.prog 33 #[.slice (some ⟨b, off, none⟩) k cu, wordV p.1 p.2.1 p.2.2.1 p.2.2.2] W fun e w' => e = .returned (.bool ((ws.take k).contains p)) ∧ Below W.heap.size W w') := fun W h => by
        have := l13Told_any _ (ws.take k) p W (Words.cut (HV.out W h).2 hk) (by rw [List.length_take]; omega)
        exact this
      obtain ⟨wB, hwB⟩ : ∃ W, Hid (W = wr.alloc (.cells #[.int .i64 p.1, .int .i64 p.2.1, .int .i64 p.2.2.1, .int .i64 p.2.2.2] 39)) := ⟨_, rfl⟩
      have D1 : Hid (Blk wB wr.heap.size #[.int .i64 p.1, .int .i64 p.2.1, .int .i64 p.2.2.1, .int .i64 p.2.2.2] 39) := by show Blk _ _ _ _; rw [hwB.out]; exact Blk.new _ _ _
      have XB : Hid (Blk wB w.heap.size #[.bool up, .slice av rs.length cv, .int .i64 f, .slice (some ⟨b, off, none⟩) ws.length cu] 36) := by show Blk _ _ _ _; rw [hwB.out]; exact XR.out.alloc _
      have LB : Hid (Below wr.heap.size wr wB) := by show Below _ _ _; rw [hwB.out]; exact alloc_below _ _
      have BW : Hid (∀ W, Below wB.heap.size wB W → Below w.heap.size w W) := fun W h => HBw.out.trans ((LB.out.trans (h.mono LB.out.size)).mono (by omega))
      have BW2 : Hid (∀ W, Below wB.heap.size wB W → Below w2.heap.size w2 W) := fun W h => HB.out.trans ((LB.out.trans (h.mono LB.out.size)).mono HB.out.size)
      have hcap := hfc k hk
      have HFC := hide_it hfc
      clear hfc
      go_wp2
      rw [← hwB.out]
      clear x3 c0 c1 c2 c3
      obtain ⟨d0, d1, d2, d3⟩ := D1.out.cells4
      obtain ⟨-, -, -, x3⟩ := XB.out.cells4
      obtain ⟨aa, haa⟩ : ∃ x, Pl.wOk p.1 p.2.1 p.2.2.1 p.2.2.2 = x := ⟨_, rfl⟩
      rw [haa] at HA
      cases aa
      · have HN : Hid (toldOk OO.length ws = false) := toldOk_bad hlt (by rw [HP.out]; unfold ansOk; rw [haa]; rfl)
        clear haa
        refine wp_region_held_drew (S := fun w' => (w'.cell? ⟨wr.heap.size, 0, none⟩ = some (.int .i64 p.1) ∧ w'.cell? ⟨wr.heap.size, 1, none⟩ = some (.int .i64 p.2.1) ∧ w'.cell? ⟨wr.heap.size, 2, none⟩ = some (.int .i64 p.2.2.1) ∧ w'.cell? ⟨wr.heap.size, 3, none⟩ = some (.int .i64 p.2.2.2)) ∧ w'.cell? ⟨w.heap.size, 3, none⟩ = some (.slice (some ⟨b, off, none⟩) ws.length cu)) (by kernel_rfl) ⟨⟨d0, d1, d2, d3⟩, x3⟩ (fun hHeld => ?_)
        clear d0 d1 d2 d3 x3
        refine takeD (i := 0) (v := ?_) (some 34) rfl rfl (by kernel_rfl) (by kernel_rfl) (by kernel_rfl) (fun _ _ _ h => h) (by rfl) hHeld ?_ ?_
        rotate_left
        · intro W hSw
          try dsimp only at hSw
          go_simp
          try with_reducible rfl
        try simp only [Act.put]
        try simp only [List.setIfInBounds_toArray]
        try simp only [List.set_cons_succ]
        try simp only [List.set_cons_zero]
        refine wpAnyH_ready (rs := [1]) (by kernel_rfl) (by simp) ?_
        refine AllReadyH.cons rfl (fun K hK => ?_) AllReadyH.nil
        go_simp
        refine (HA.out _).mono ?_
        rintro e w2 ⟨rfl, hb2⟩
        have L2 := hide_it ((Below.refl wB.heap.size wB).drew.trans hb2)
        clear hb2
        obtain ⟨d0, d1, d2, d3⟩ := (D1.out.after L2.out).cells4
        obtain ⟨-, -, -, x3⟩ := (XB.out.after L2.out).cells4
        try dsimp only
        refine hK.out _ _ ⟨⟨d0, d1, d2, d3⟩, x3⟩ (fun hHeld => ?_)
        clear hK K d0 d1 d2 d3 x3
        refine takeD (i := 2) (v := .bool true) (some 36) rfl rfl (by kernel_rfl) (by kernel_rfl) (by kernel_rfl) (fun _ _ _ h => h) (by rfl) hHeld ?_ ?_
        · intro W hSw
          try dsimp only at hSw
          first | (go_simp; done) | (go_simp; simp [*]; done) | (go_simp; simp; omega)
        try simp only [Act.put]
        try simp only [List.setIfInBounds_toArray]
        try simp only [List.set_cons_succ]
        try simp only [List.set_cons_zero]
        refine takeD (i := 3) (v := .bool true) (some 37) rfl rfl (by kernel_rfl) (by kernel_rfl) (by kernel_rfl) (fun _ _ _ h => h) (by rfl) hHeld ?_ ?_
        · intro W hSw
          try dsimp only at hSw
          first | (go_simp; done) | (go_simp; simp [*]; done) | (go_simp; simp; omega)
        try simp only [Act.put]
        try simp only [List.setIfInBounds_toArray]
        try simp only [List.set_cons_succ]
        try simp only [List.set_cons_zero]
        refine skipD (i := 4) (some 38) rfl rfl (by kernel_rfl) (by kernel_rfl) (by kernel_rfl) (fun _ _ _ h => h) (by rfl) hHeld ?_
        try simp only [Act.put]
        try simp only [List.setIfInBounds_toArray]
        try simp only [List.set_cons_succ]
        try simp only [List.set_cons_zero]
        refine skipD (i := 5) (some 39) rfl rfl (by kernel_rfl) (by kernel_rfl) (by kernel_rfl) (fun _ _ _ h => h) (by rfl) hHeld ?_
        try simp only [Act.put]
        try simp only [List.setIfInBounds_toArray]
        try simp only [List.set_cons_succ]
        try simp only [List.set_cons_zero]
        refine skipD (i := 6) (some 40) rfl rfl (by kernel_rfl) (by kernel_rfl) (by kernel_rfl) (fun _ _ _ h => h) (by rfl) hHeld ?_
        try simp only [Act.put]
        try simp only [List.setIfInBounds_toArray]
        try simp only [List.set_cons_succ]
        try simp only [List.set_cons_zero]
        refine takeD (i := 7) (v := .bool true) (some 41) rfl rfl (by kernel_rfl) (by kernel_rfl) (by kernel_rfl) (fun _ _ _ h => h) (by rfl) hHeld ?_ ?_
        · intro W hSw
          try dsimp only at hSw
          first | (go_simp; done) | (go_simp; simp [*]; done) | (go_simp; simp; omega)
        try simp only [Act.put]
        try simp only [List.setIfInBounds_toArray]
        try simp only [List.set_cons_succ]
        try simp only [List.set_cons_zero]
        refine takeD (i := 8) (v := .bool true) (some 42) rfl rfl (by kernel_rfl) (by kernel_rfl) (by kernel_rfl) (fun _ _ _ h => h) (by rfl) hHeld ?_ ?_
        · intro W hSw
          try dsimp only at hSw
          first | (go_simp; done) | (go_simp; simp [*]; done) | (go_simp; simp; omega)
        try simp only [Act.put]
        try simp only [List.setIfInBounds_toArray]
        try simp only [List.set_cons_succ]
        try simp only [List.set_cons_zero]
        refine skipD (i := 9) (some 43) rfl rfl (by kernel_rfl) (by kernel_rfl) (by kernel_rfl) (fun _ _ _ h => h) (by rfl) hHeld ?_
        try simp only [Act.put]
        try simp only [List.setIfInBounds_toArray]
        try simp only [List.set_cons_succ]
        try simp only [List.set_cons_zero]
        refine skipD (i := 10) (some 44) rfl rfl (by kernel_rfl) (by kernel_rfl) (by kernel_rfl) (fun _ _ _ h => h) (by rfl) hHeld ?_
        try simp only [Act.put]
        try simp only [List.setIfInBounds_toArray]
        try simp only [List.set_cons_succ]
        try simp only [List.set_cons_zero]
        refine skipD (i := 11) (some 45) rfl rfl (by kernel_rfl) (by kernel_rfl) (by kernel_rfl) (fun _ _ _ h => h) (by rfl) hHeld ?_
        try simp only [Act.put]
        try simp only [List.setIfInBounds_toArray]
        try simp only [List.set_cons_succ]
        try simp only [List.set_cons_zero]
        refine skipD (i := 12) (some 46) rfl rfl (by kernel_rfl) (by kernel_rfl) (by kernel_rfl) (fun _ _ _ h => h) (by rfl) hHeld ?_
        try simp only [Act.put]
        try simp only [List.setIfInBounds_toArray]
        try simp only [List.set_cons_succ]
        try simp only [List.set_cons_zero]
        refine skipD (i := 13) (some 47) rfl rfl (by kernel_rfl) (by kernel_rfl) (by kernel_rfl) (fun _ _ _ h => h) (by rfl) hHeld ?_
        try simp only [Act.put]
        try simp only [List.setIfInBounds_toArray]
        try simp only [List.set_cons_succ]
        try simp only [List.set_cons_zero]
        refine takeD (i := 14) (v := .bool true) (some 48) rfl rfl (by kernel_rfl) (by kernel_rfl) (by kernel_rfl) (fun _ _ _ h => h) (by rfl) hHeld ?_ ?_
        · intro W hSw
          try dsimp only at hSw
          first | (go_simp; done) | (go_simp; simp [*]; done) | (go_simp; simp; omega)
        try simp only [Act.put]
        try simp only [List.setIfInBounds_toArray]
        try simp only [List.set_cons_succ]
        try simp only [List.set_cons_zero]
        refine takeD (i := 15) (v := .bool true) (some 49) rfl rfl (by kernel_rfl) (by kernel_rfl) (by kernel_rfl) (fun _ _ _ h => h) (by rfl) hHeld ?_ ?_
        · intro W hSw
          try dsimp only at hSw
          first | (go_simp; done) | (go_simp; simp [*]; done) | (go_simp; simp; omega)
        try simp only [Act.put]
        try simp only [List.setIfInBounds_toArray]
        try simp only [List.set_cons_succ]
        try simp only [List.set_cons_zero]
        refine skipD (i := 16) (some 50) rfl rfl (by kernel_rfl) (by kernel_rfl) (by kernel_rfl) (fun _ _ _ h => h) (by rfl) hHeld ?_
        try simp only [Act.put]
        try simp only [List.setIfInBounds_toArray]
        try simp only [List.set_cons_succ]
        try simp only [List.set_cons_zero]
        refine skipD (i := 17) (some 51) rfl rfl (by kernel_rfl) (by kernel_rfl) (by kernel_rfl) (fun _ _ _ h => h) (by rfl) hHeld ?_
        try simp only [Act.put]
        try simp only [List.setIfInBounds_toArray]
        try simp only [List.set_cons_succ]
        try simp only [List.set_cons_zero]
        refine skipD (i := 18) (some 52) rfl rfl (by kernel_rfl) (by kernel_rfl) (by kernel_rfl) (fun _ _ _ h => h) (by rfl) hHeld ?_
        try simp only [Act.put]
        try simp only [List.setIfInBounds_toArray]
        try simp only [List.set_cons_succ]
        try simp only [List.set_cons_zero]
        refine skipD (i := 19) (some 53) rfl rfl (by kernel_rfl) (by kernel_rfl) (by kernel_rfl) (fun _ _ _ h => h) (by rfl) hHeld ?_
        try simp only [Act.put]
        try simp only [List.setIfInBounds_toArray]
        try simp only [List.set_cons_succ]
        try simp only [List.set_cons_zero]
        refine skipD (i := 20) (some 54) rfl rfl (by kernel_rfl) (by kernel_rfl) (by kernel_rfl) (fun _ _ _ h => h) (by rfl) hHeld ?_
        try simp only [Act.put]
        try simp only [List.setIfInBounds_toArray]
        try simp only [List.set_cons_succ]
        try simp only [List.set_cons_zero]
        refine skipD (i := 21) (some 55) rfl rfl (by kernel_rfl) (by kernel_rfl) (by kernel_rfl) (fun _ _ _ h => h) (by rfl) hHeld ?_
        try simp only [Act.put]
        try simp only [List.setIfInBounds_toArray]
        try simp only [List.set_cons_succ]
        try simp only [List.set_cons_zero]
        refine takeD (i := 22) (v := .bool true) (some 56) rfl rfl (by kernel_rfl) (by kernel_rfl) (by kernel_rfl) (fun _ _ _ h => h) (by rfl) hHeld ?_ ?_
        · intro W hSw
          try dsimp only at hSw
          first | (go_simp; done) | (go_simp; simp [*]; done) | (go_simp; simp; omega)
        try simp only [Act.put]
        try simp only [List.setIfInBounds_toArray]
        try simp only [List.set_cons_succ]
        try simp only [List.set_cons_zero]
        refine wpAnyH_done (by kernel_rfl) ?_ _
        go_wp2
        go_ret
        exact ⟨by rw [HN.out]; simp, BW.out _ L2.out⟩
      by_cases h4 : p.1 < 4
      · have HN : Hid (toldOk OO.length ws = false) := toldOk_bad hlt (by rw [HP.out]; unfold ansOk; rw [haa, decide_eq_false (by omega)]; rfl)
        clear haa
        refine wp_region_held_drew (S := fun w' => (w'.cell? ⟨wr.heap.size, 0, none⟩ = some (.int .i64 p.1) ∧ w'.cell? ⟨wr.heap.size, 1, none⟩ = some (.int .i64 p.2.1) ∧ w'.cell? ⟨wr.heap.size, 2, none⟩ = some (.int .i64 p.2.2.1) ∧ w'.cell? ⟨wr.heap.size, 3, none⟩ = some (.int .i64 p.2.2.2)) ∧ w'.cell? ⟨w.heap.size, 3, none⟩ = some (.slice (some ⟨b, off, none⟩) ws.length cu)) (by kernel_rfl) ⟨⟨d0, d1, d2, d3⟩, x3⟩ (fun hHeld => ?_)
        clear d0 d1 d2 d3 x3
        refine takeD (i := 0) (v := ?_) (some 34) rfl rfl (by kernel_rfl) (by kernel_rfl) (by kernel_rfl) (fun _ _ _ h => h) (by rfl) hHeld ?_ ?_
        rotate_left
        · intro W hSw
          try dsimp only at hSw
          go_simp
          try with_reducible rfl
        try simp only [Act.put]
        try simp only [List.setIfInBounds_toArray]
        try simp only [List.set_cons_succ]
        try simp only [List.set_cons_zero]
        refine wpAnyH_ready (rs := [1]) (by kernel_rfl) (by simp) ?_
        refine AllReadyH.cons rfl (fun K hK => ?_) AllReadyH.nil
        go_simp
        refine (HA.out _).mono ?_
        rintro e w2 ⟨rfl, hb2⟩
        have L2 := hide_it ((Below.refl wB.heap.size wB).drew.trans hb2)
        clear hb2
        obtain ⟨d0, d1, d2, d3⟩ := (D1.out.after L2.out).cells4
        obtain ⟨-, -, -, x3⟩ := (XB.out.after L2.out).cells4
        try dsimp only
        refine hK.out _ _ ⟨⟨d0, d1, d2, d3⟩, x3⟩ (fun hHeld => ?_)
        clear hK K d0 d1 d2 d3 x3
        refine takeD (i := 2) (v := .bool false) (some 36) rfl rfl (by kernel_rfl) (by kernel_rfl) (by kernel_rfl) (fun _ _ _ h => h) (by rfl) hHeld ?_ ?_
        · intro W hSw
          try dsimp only at hSw
          first | (go_simp; done) | (go_simp; simp [*]; done) | (go_simp; simp; omega)
        try simp only [Act.put]
        try simp only [List.setIfInBounds_toArray]
        try simp only [List.set_cons_succ]
        try simp only [List.set_cons_zero]
        refine takeD (i := 3) (v := .bool false) (some 37) rfl rfl (by kernel_rfl) (by kernel_rfl) (by kernel_rfl) (fun _ _ _ h => h) (by rfl) hHeld ?_ ?_
        · intro W hSw
          try dsimp only at hSw
          first | (go_simp; done) | (go_simp; simp [*]; done) | (go_simp; simp; omega)
        try simp only [Act.put]
        try simp only [List.setIfInBounds_toArray]
        try simp only [List.set_cons_succ]
        try simp only [List.set_cons_zero]
        refine takeD (i := 4) (v := ?_) (some 38) rfl rfl (by kernel_rfl) (by kernel_rfl) (by kernel_rfl) (fun _ _ _ h => h) (by rfl) hHeld ?_ ?_
        rotate_left
        · intro W hSw
          try dsimp only at hSw
          go_simp
          try with_reducible rfl
        try simp only [Act.put]
        try simp only [List.setIfInBounds_toArray]
        try simp only [List.set_cons_succ]
        try simp only [List.set_cons_zero]
        refine takeD (i := 5) (v := ?_) (some 39) rfl rfl (by kernel_rfl) (by kernel_rfl) (by kernel_rfl) (fun _ _ _ h => h) (by rfl) hHeld ?_ ?_
        rotate_left
        · intro W hSw
          try dsimp only at hSw
          go_simp
          try with_reducible rfl
        try simp only [Act.put]
        try simp only [List.setIfInBounds_toArray]
        try simp only [List.set_cons_succ]
        try simp only [List.set_cons_zero]
        refine takeD (i := 6) (v := .bool true) (some 40) rfl rfl (by kernel_rfl) (by kernel_rfl) (by kernel_rfl) (fun _ _ _ h => h) (by rfl) hHeld ?_ ?_
        · intro W hSw
          try dsimp only at hSw
          first | (go_simp; done) | (go_simp; simp [*]; done) | (go_simp; simp; omega)
        try simp only [Act.put]
        try simp only [List.setIfInBounds_toArray]
        try simp only [List.set_cons_succ]
        try simp only [List.set_cons_zero]
        refine takeD (i := 7) (v := .bool true) (some 41) rfl rfl (by kernel_rfl) (by kernel_rfl) (by kernel_rfl) (fun _ _ _ h => h) (by rfl) hHeld ?_ ?_
        · intro W hSw
          try dsimp only at hSw
          first | (go_simp; done) | (go_simp; simp [*]; done) | (go_simp; simp; omega)
        try simp only [Act.put]
        try simp only [List.setIfInBounds_toArray]
        try simp only [List.set_cons_succ]
        try simp only [List.set_cons_zero]
        refine takeD (i := 8) (v := .bool true) (some 42) rfl rfl (by kernel_rfl) (by kernel_rfl) (by kernel_rfl) (fun _ _ _ h => h) (by rfl) hHeld ?_ ?_
        · intro W hSw
          try dsimp only at hSw
          first | (go_simp; done) | (go_simp; simp [*]; done) | (go_simp; simp; omega)
        try simp only [Act.put]
        try simp only [List.setIfInBounds_toArray]
        try simp only [List.set_cons_succ]
        try simp only [List.set_cons_zero]
        refine skipD (i := 9) (some 43) rfl rfl (by kernel_rfl) (by kernel_rfl) (by kernel_rfl) (fun _ _ _ h => h) (by rfl) hHeld ?_
        try simp only [Act.put]
        try simp only [List.setIfInBounds_toArray]
        try simp only [List.set_cons_succ]
        try simp only [List.set_cons_zero]
        refine skipD (i := 10) (some 44) rfl rfl (by kernel_rfl) (by kernel_rfl) (by kernel_rfl) (fun _ _ _ h => h) (by rfl) hHeld ?_
        try simp only [Act.put]
        try simp only [List.setIfInBounds_toArray]
        try simp only [List.set_cons_succ]
        try simp only [List.set_cons_zero]
        refine skipD (i := 11) (some 45) rfl rfl (by kernel_rfl) (by kernel_rfl) (by kernel_rfl) (fun _ _ _ h => h) (by rfl) hHeld ?_
        try simp only [Act.put]
        try simp only [List.setIfInBounds_toArray]
        try simp only [List.set_cons_succ]
        try simp only [List.set_cons_zero]
        refine skipD (i := 12) (some 46) rfl rfl (by kernel_rfl) (by kernel_rfl) (by kernel_rfl) (fun _ _ _ h => h) (by rfl) hHeld ?_
        try simp only [Act.put]
        try simp only [List.setIfInBounds_toArray]
        try simp only [List.set_cons_succ]
        try simp only [List.set_cons_zero]
        refine skipD (i := 13) (some 47) rfl rfl (by kernel_rfl) (by kernel_rfl) (by kernel_rfl) (fun _ _ _ h => h) (by rfl) hHeld ?_
        try simp only [Act.put]
        try simp only [List.setIfInBounds_toArray]
        try simp only [List.set_cons_succ]
        try simp only [List.set_cons_zero]
        refine takeD (i := 14) (v := .bool true) (some 48) rfl rfl (by kernel_rfl) (by kernel_rfl) (by kernel_rfl) (fun _ _ _ h => h) (by rfl) hHeld ?_ ?_
        · intro W hSw
          try dsimp only at hSw
          first | (go_simp; done) | (go_simp; simp [*]; done) | (go_simp; simp; omega)
        try simp only [Act.put]
        try simp only [List.setIfInBounds_toArray]
        try simp only [List.set_cons_succ]
        try simp only [List.set_cons_zero]
        refine takeD (i := 15) (v := .bool true) (some 49) rfl rfl (by kernel_rfl) (by kernel_rfl) (by kernel_rfl) (fun _ _ _ h => h) (by rfl) hHeld ?_ ?_
        · intro W hSw
          try dsimp only at hSw
          first | (go_simp; done) | (go_simp; simp [*]; done) | (go_simp; simp; omega)
        try simp only [Act.put]
        try simp only [List.setIfInBounds_toArray]
        try simp only [List.set_cons_succ]
        try simp only [List.set_cons_zero]
        refine skipD (i := 16) (some 50) rfl rfl (by kernel_rfl) (by kernel_rfl) (by kernel_rfl) (fun _ _ _ h => h) (by rfl) hHeld ?_
        try simp only [Act.put]
        try simp only [List.setIfInBounds_toArray]
        try simp only [List.set_cons_succ]
        try simp only [List.set_cons_zero]
        refine skipD (i := 17) (some 51) rfl rfl (by kernel_rfl) (by kernel_rfl) (by kernel_rfl) (fun _ _ _ h => h) (by rfl) hHeld ?_
        try simp only [Act.put]
        try simp only [List.setIfInBounds_toArray]
        try simp only [List.set_cons_succ]
        try simp only [List.set_cons_zero]
        refine skipD (i := 18) (some 52) rfl rfl (by kernel_rfl) (by kernel_rfl) (by kernel_rfl) (fun _ _ _ h => h) (by rfl) hHeld ?_
        try simp only [Act.put]
        try simp only [List.setIfInBounds_toArray]
        try simp only [List.set_cons_succ]
        try simp only [List.set_cons_zero]
        refine skipD (i := 19) (some 53) rfl rfl (by kernel_rfl) (by kernel_rfl) (by kernel_rfl) (fun _ _ _ h => h) (by rfl) hHeld ?_
        try simp only [Act.put]
        try simp only [List.setIfInBounds_toArray]
        try simp only [List.set_cons_succ]
        try simp only [List.set_cons_zero]
        refine skipD (i := 20) (some 54) rfl rfl (by kernel_rfl) (by kernel_rfl) (by kernel_rfl) (fun _ _ _ h => h) (by rfl) hHeld ?_
        try simp only [Act.put]
        try simp only [List.setIfInBounds_toArray]
        try simp only [List.set_cons_succ]
        try simp only [List.set_cons_zero]
        refine skipD (i := 21) (some 55) rfl rfl (by kernel_rfl) (by kernel_rfl) (by kernel_rfl) (fun _ _ _ h => h) (by rfl) hHeld ?_
        try simp only [Act.put]
        try simp only [List.setIfInBounds_toArray]
        try simp only [List.set_cons_succ]
        try simp only [List.set_cons_zero]
        refine takeD (i := 22) (v := .bool true) (some 56) rfl rfl (by kernel_rfl) (by kernel_rfl) (by kernel_rfl) (fun _ _ _ h => h) (by rfl) hHeld ?_ ?_
        · intro W hSw
          try dsimp only at hSw
          first | (go_simp; done) | (go_simp; simp [*]; done) | (go_simp; simp; omega)
        try simp only [Act.put]
        try simp only [List.setIfInBounds_toArray]
        try simp only [List.set_cons_succ]
        try simp only [List.set_cons_zero]
        refine wpAnyH_done (by kernel_rfl) ?_ _
        go_wp2
        go_ret
        exact ⟨by rw [HN.out]; simp, BW.out _ L2.out⟩
      by_cases hn : (OO.length : Int) < p.2.2.1
      · have HN : Hid (toldOk OO.length ws = false) := toldOk_bad hlt (by rw [HP.out]; unfold ansOk; rw [haa, decide_eq_true (by omega), decide_eq_false (by omega)]; rfl)
        clear haa
        refine wp_region_held_drew (S := fun w' => (w'.cell? ⟨wr.heap.size, 0, none⟩ = some (.int .i64 p.1) ∧ w'.cell? ⟨wr.heap.size, 1, none⟩ = some (.int .i64 p.2.1) ∧ w'.cell? ⟨wr.heap.size, 2, none⟩ = some (.int .i64 p.2.2.1) ∧ w'.cell? ⟨wr.heap.size, 3, none⟩ = some (.int .i64 p.2.2.2)) ∧ w'.cell? ⟨w.heap.size, 3, none⟩ = some (.slice (some ⟨b, off, none⟩) ws.length cu)) (by kernel_rfl) ⟨⟨d0, d1, d2, d3⟩, x3⟩ (fun hHeld => ?_)
        clear d0 d1 d2 d3 x3
        refine takeD (i := 0) (v := ?_) (some 34) rfl rfl (by kernel_rfl) (by kernel_rfl) (by kernel_rfl) (fun _ _ _ h => h) (by rfl) hHeld ?_ ?_
        rotate_left
        · intro W hSw
          try dsimp only at hSw
          go_simp
          try with_reducible rfl
        try simp only [Act.put]
        try simp only [List.setIfInBounds_toArray]
        try simp only [List.set_cons_succ]
        try simp only [List.set_cons_zero]
        refine wpAnyH_ready (rs := [1]) (by kernel_rfl) (by simp) ?_
        refine AllReadyH.cons rfl (fun K hK => ?_) AllReadyH.nil
        go_simp
        refine (HA.out _).mono ?_
        rintro e w2 ⟨rfl, hb2⟩
        have L2 := hide_it ((Below.refl wB.heap.size wB).drew.trans hb2)
        clear hb2
        obtain ⟨d0, d1, d2, d3⟩ := (D1.out.after L2.out).cells4
        obtain ⟨-, -, -, x3⟩ := (XB.out.after L2.out).cells4
        try dsimp only
        refine hK.out _ _ ⟨⟨d0, d1, d2, d3⟩, x3⟩ (fun hHeld => ?_)
        clear hK K d0 d1 d2 d3 x3
        refine takeD (i := 2) (v := .bool false) (some 36) rfl rfl (by kernel_rfl) (by kernel_rfl) (by kernel_rfl) (fun _ _ _ h => h) (by rfl) hHeld ?_ ?_
        · intro W hSw
          try dsimp only at hSw
          first | (go_simp; done) | (go_simp; simp [*]; done) | (go_simp; simp; omega)
        try simp only [Act.put]
        try simp only [List.setIfInBounds_toArray]
        try simp only [List.set_cons_succ]
        try simp only [List.set_cons_zero]
        refine takeD (i := 3) (v := .bool false) (some 37) rfl rfl (by kernel_rfl) (by kernel_rfl) (by kernel_rfl) (fun _ _ _ h => h) (by rfl) hHeld ?_ ?_
        · intro W hSw
          try dsimp only at hSw
          first | (go_simp; done) | (go_simp; simp [*]; done) | (go_simp; simp; omega)
        try simp only [Act.put]
        try simp only [List.setIfInBounds_toArray]
        try simp only [List.set_cons_succ]
        try simp only [List.set_cons_zero]
        refine takeD (i := 4) (v := ?_) (some 38) rfl rfl (by kernel_rfl) (by kernel_rfl) (by kernel_rfl) (fun _ _ _ h => h) (by rfl) hHeld ?_ ?_
        rotate_left
        · intro W hSw
          try dsimp only at hSw
          go_simp
          try with_reducible rfl
        try simp only [Act.put]
        try simp only [List.setIfInBounds_toArray]
        try simp only [List.set_cons_succ]
        try simp only [List.set_cons_zero]
        refine takeD (i := 5) (v := ?_) (some 39) rfl rfl (by kernel_rfl) (by kernel_rfl) (by kernel_rfl) (fun _ _ _ h => h) (by rfl) hHeld ?_ ?_
        rotate_left
        · intro W hSw
          try dsimp only at hSw
          go_simp
          try with_reducible rfl
        try simp only [Act.put]
        try simp only [List.setIfInBounds_toArray]
        try simp only [List.set_cons_succ]
        try simp only [List.set_cons_zero]
        refine takeD (i := 6) (v := .bool false) (some 40) rfl rfl (by kernel_rfl) (by kernel_rfl) (by kernel_rfl) (fun _ _ _ h => h) (by rfl) hHeld ?_ ?_
        · intro W hSw
          try dsimp only at hSw
          first | (go_simp; done) | (go_simp; simp [*]; done) | (go_simp; simp; omega)
        try simp only [Act.put]
        try simp only [List.setIfInBounds_toArray]
        try simp only [List.set_cons_succ]
        try simp only [List.set_cons_zero]
        refine takeD (i := 7) (v := .bool false) (some 41) rfl rfl (by kernel_rfl) (by kernel_rfl) (by kernel_rfl) (fun _ _ _ h => h) (by rfl) hHeld ?_ ?_
        · intro W hSw
          try dsimp only at hSw
          first | (go_simp; done) | (go_simp; simp [*]; done) | (go_simp; simp; omega)
        try simp only [Act.put]
        try simp only [List.setIfInBounds_toArray]
        try simp only [List.set_cons_succ]
        try simp only [List.set_cons_zero]
        refine takeD (i := 8) (v := .bool false) (some 42) rfl rfl (by kernel_rfl) (by kernel_rfl) (by kernel_rfl) (fun _ _ _ h => h) (by rfl) hHeld ?_ ?_
        · intro W hSw
          try dsimp only at hSw
          first | (go_simp; done) | (go_simp; simp [*]; done) | (go_simp; simp; omega)
        try simp only [Act.put]
        try simp only [List.setIfInBounds_toArray]
        try simp only [List.set_cons_succ]
        try simp only [List.set_cons_zero]
        refine takeD (i := 9) (v := ?_) (some 43) rfl rfl (by kernel_rfl) (by kernel_rfl) (by kernel_rfl) (fun _ _ _ h => h) (by rfl) hHeld ?_ ?_
        rotate_left
        · intro W hSw
          try dsimp only at hSw
          go_simp
          try with_reducible rfl
        try simp only [Act.put]
        try simp only [List.setIfInBounds_toArray]
        try simp only [List.set_cons_succ]
        try simp only [List.set_cons_zero]
        refine takeD (i := 10) (v := ?_) (some 44) rfl rfl (by kernel_rfl) (by kernel_rfl) (by kernel_rfl) (fun _ _ _ h => h) (by rfl) hHeld ?_ ?_
        rotate_left
        · intro W hSw
          try dsimp only at hSw
          go_simp
          try with_reducible rfl
        try simp only [Act.put]
        try simp only [List.setIfInBounds_toArray]
        try simp only [List.set_cons_succ]
        try simp only [List.set_cons_zero]
        refine takeD (i := 11) (v := ?_) (some 45) rfl rfl (by kernel_rfl) (by kernel_rfl) (by kernel_rfl) (fun _ _ _ h => h) (by rfl) hHeld ?_ ?_
        rotate_left
        · intro W hSw
          try dsimp only at hSw
          go_simp
          try with_reducible rfl
        try simp only [Act.put]
        try simp only [List.setIfInBounds_toArray]
        try simp only [List.set_cons_succ]
        try simp only [List.set_cons_zero]
        refine takeD (i := 12) (v := ?_) (some 46) rfl rfl (by kernel_rfl) (by kernel_rfl) (by kernel_rfl) (fun _ _ _ h => h) (by rfl) hHeld ?_ ?_
        rotate_left
        · intro W hSw
          try dsimp only at hSw
          go_simp
          try with_reducible rfl
        try simp only [Act.put]
        try simp only [List.setIfInBounds_toArray]
        try simp only [List.set_cons_succ]
        try simp only [List.set_cons_zero]
        refine takeD (i := 13) (v := .bool true) (some 47) rfl rfl (by kernel_rfl) (by kernel_rfl) (by kernel_rfl) (fun _ _ _ h => h) (by rfl) hHeld ?_ ?_
        · intro W hSw
          try dsimp only at hSw
          first | (go_simp; done) | (go_simp; simp [*]; done) | (go_simp; simp; omega)
        try simp only [Act.put]
        try simp only [List.setIfInBounds_toArray]
        try simp only [List.set_cons_succ]
        try simp only [List.set_cons_zero]
        refine takeD (i := 14) (v := .bool true) (some 48) rfl rfl (by kernel_rfl) (by kernel_rfl) (by kernel_rfl) (fun _ _ _ h => h) (by rfl) hHeld ?_ ?_
        · intro W hSw
          try dsimp only at hSw
          first | (go_simp; done) | (go_simp; simp [*]; done) | (go_simp; simp; omega)
        try simp only [Act.put]
        try simp only [List.setIfInBounds_toArray]
        try simp only [List.set_cons_succ]
        try simp only [List.set_cons_zero]
        refine takeD (i := 15) (v := .bool true) (some 49) rfl rfl (by kernel_rfl) (by kernel_rfl) (by kernel_rfl) (fun _ _ _ h => h) (by rfl) hHeld ?_ ?_
        · intro W hSw
          try dsimp only at hSw
          first | (go_simp; done) | (go_simp; simp [*]; done) | (go_simp; simp; omega)
        try simp only [Act.put]
        try simp only [List.setIfInBounds_toArray]
        try simp only [List.set_cons_succ]
        try simp only [List.set_cons_zero]
        refine skipD (i := 16) (some 50) rfl rfl (by kernel_rfl) (by kernel_rfl) (by kernel_rfl) (fun _ _ _ h => h) (by rfl) hHeld ?_
        try simp only [Act.put]
        try simp only [List.setIfInBounds_toArray]
        try simp only [List.set_cons_succ]
        try simp only [List.set_cons_zero]
        refine skipD (i := 17) (some 51) rfl rfl (by kernel_rfl) (by kernel_rfl) (by kernel_rfl) (fun _ _ _ h => h) (by rfl) hHeld ?_
        try simp only [Act.put]
        try simp only [List.setIfInBounds_toArray]
        try simp only [List.set_cons_succ]
        try simp only [List.set_cons_zero]
        refine skipD (i := 18) (some 52) rfl rfl (by kernel_rfl) (by kernel_rfl) (by kernel_rfl) (fun _ _ _ h => h) (by rfl) hHeld ?_
        try simp only [Act.put]
        try simp only [List.setIfInBounds_toArray]
        try simp only [List.set_cons_succ]
        try simp only [List.set_cons_zero]
        refine skipD (i := 19) (some 53) rfl rfl (by kernel_rfl) (by kernel_rfl) (by kernel_rfl) (fun _ _ _ h => h) (by rfl) hHeld ?_
        try simp only [Act.put]
        try simp only [List.setIfInBounds_toArray]
        try simp only [List.set_cons_succ]
        try simp only [List.set_cons_zero]
        refine skipD (i := 20) (some 54) rfl rfl (by kernel_rfl) (by kernel_rfl) (by kernel_rfl) (fun _ _ _ h => h) (by rfl) hHeld ?_
        try simp only [Act.put]
        try simp only [List.setIfInBounds_toArray]
        try simp only [List.set_cons_succ]
        try simp only [List.set_cons_zero]
        refine skipD (i := 21) (some 55) rfl rfl (by kernel_rfl) (by kernel_rfl) (by kernel_rfl) (fun _ _ _ h => h) (by rfl) hHeld ?_
        try simp only [Act.put]
        try simp only [List.setIfInBounds_toArray]
        try simp only [List.set_cons_succ]
        try simp only [List.set_cons_zero]
        refine takeD (i := 22) (v := .bool true) (some 56) rfl rfl (by kernel_rfl) (by kernel_rfl) (by kernel_rfl) (fun _ _ _ h => h) (by rfl) hHeld ?_ ?_
        · intro W hSw
          try dsimp only at hSw
          first | (go_simp; done) | (go_simp; simp [*]; done) | (go_simp; simp; omega)
        try simp only [Act.put]
        try simp only [List.setIfInBounds_toArray]
        try simp only [List.set_cons_succ]
        try simp only [List.set_cons_zero]
        refine wpAnyH_done (by kernel_rfl) ?_ _
        go_wp2
        go_ret
        exact ⟨by rw [HN.out]; simp, BW.out _ L2.out⟩
      have HAN : Hid (ansOk OO.length p = true) := by show _ = _; unfold ansOk; rw [haa, decide_eq_true (by omega), decide_eq_true (by omega)]; rfl
      clear haa
      obtain ⟨cc, hcc⟩ : ∃ x, (ws.take k).contains p = x := ⟨_, rfl⟩
      rw [hcc] at HT2
      have HCC := hide_it hcc
      clear hcc
      refine wp_region_held_drew (S := fun w' => (w'.cell? ⟨wr.heap.size, 0, none⟩ = some (.int .i64 p.1) ∧ w'.cell? ⟨wr.heap.size, 1, none⟩ = some (.int .i64 p.2.1) ∧ w'.cell? ⟨wr.heap.size, 2, none⟩ = some (.int .i64 p.2.2.1) ∧ w'.cell? ⟨wr.heap.size, 3, none⟩ = some (.int .i64 p.2.2.2)) ∧ w'.cell? ⟨w.heap.size, 3, none⟩ = some (.slice (some ⟨b, off, none⟩) ws.length cu)) (by kernel_rfl) ⟨⟨d0, d1, d2, d3⟩, x3⟩ (fun hHeld => ?_)
      clear d0 d1 d2 d3 x3
      refine takeD (i := 0) (v := ?_) (some 34) rfl rfl (by kernel_rfl) (by kernel_rfl) (by kernel_rfl) (fun _ _ _ h => h) (by rfl) hHeld ?_ ?_
      rotate_left
      · intro W hSw
        try dsimp only at hSw
        go_simp
        try with_reducible rfl
      try simp only [Act.put]
      try simp only [List.setIfInBounds_toArray]
      try simp only [List.set_cons_succ]
      try simp only [List.set_cons_zero]
      refine wpAnyH_ready (rs := [1]) (by kernel_rfl) (by simp) ?_
      refine AllReadyH.cons rfl (fun K hK => ?_) AllReadyH.nil
      go_simp
      refine (HA.out _).mono ?_
      rintro e w2 ⟨rfl, hb2⟩
      have L2 := hide_it ((Below.refl wB.heap.size wB).drew.trans hb2)
      clear hb2
      obtain ⟨d0, d1, d2, d3⟩ := (D1.out.after L2.out).cells4
      obtain ⟨-, -, -, x3⟩ := (XB.out.after L2.out).cells4
      try dsimp only
      refine hK.out _ _ ⟨⟨d0, d1, d2, d3⟩, x3⟩ (fun hHeld => ?_)
      clear hK K d0 d1 d2 d3 x3
      refine takeD (i := 2) (v := .bool false) (some 36) rfl rfl (by kernel_rfl) (by kernel_rfl) (by kernel_rfl) (fun _ _ _ h => h) (by rfl) hHeld ?_ ?_
      · intro W hSw
        try dsimp only at hSw
        first | (go_simp; done) | (go_simp; simp [*]; done) | (go_simp; simp; omega)
      try simp only [Act.put]
      try simp only [List.setIfInBounds_toArray]
      try simp only [List.set_cons_succ]
      try simp only [List.set_cons_zero]
      refine takeD (i := 3) (v := .bool false) (some 37) rfl rfl (by kernel_rfl) (by kernel_rfl) (by kernel_rfl) (fun _ _ _ h => h) (by rfl) hHeld ?_ ?_
      · intro W hSw
        try dsimp only at hSw
        first | (go_simp; done) | (go_simp; simp [*]; done) | (go_simp; simp; omega)
      try simp only [Act.put]
      try simp only [List.setIfInBounds_toArray]
      try simp only [List.set_cons_succ]
      try simp only [List.set_cons_zero]
      refine takeD (i := 4) (v := ?_) (some 38) rfl rfl (by kernel_rfl) (by kernel_rfl) (by kernel_rfl) (fun _ _ _ h => h) (by rfl) hHeld ?_ ?_
      rotate_left
      · intro W hSw
        try dsimp only at hSw
        go_simp
        try with_reducible rfl
      try simp only [Act.put]
      try simp only [List.setIfInBounds_toArray]
      try simp only [List.set_cons_succ]
      try simp only [List.set_cons_zero]
      refine takeD (i := 5) (v := ?_) (some 39) rfl rfl (by kernel_rfl) (by kernel_rfl) (by kernel_rfl) (fun _ _ _ h => h) (by rfl) hHeld ?_ ?_
      rotate_left
      · intro W hSw
        try dsimp only at hSw
        go_simp
        try with_reducible rfl
      try simp only [Act.put]
      try simp only [List.setIfInBounds_toArray]
      try simp only [List.set_cons_succ]
      try simp only [List.set_cons_zero]
      refine takeD (i := 6) (v := .bool false) (some 40) rfl rfl (by kernel_rfl) (by kernel_rfl) (by kernel_rfl) (fun _ _ _ h => h) (by rfl) hHeld ?_ ?_
      · intro W hSw
        try dsimp only at hSw
        first | (go_simp; done) | (go_simp; simp [*]; done) | (go_simp; simp; omega)
      try simp only [Act.put]
      try simp only [List.setIfInBounds_toArray]
      try simp only [List.set_cons_succ]
      try simp only [List.set_cons_zero]
      refine takeD (i := 7) (v := .bool false) (some 41) rfl rfl (by kernel_rfl) (by kernel_rfl) (by kernel_rfl) (fun _ _ _ h => h) (by rfl) hHeld ?_ ?_
      · intro W hSw
        try dsimp only at hSw
        first | (go_simp; done) | (go_simp; simp [*]; done) | (go_simp; simp; omega)
      try simp only [Act.put]
      try simp only [List.setIfInBounds_toArray]
      try simp only [List.set_cons_succ]
      try simp only [List.set_cons_zero]
      refine takeD (i := 8) (v := .bool false) (some 42) rfl rfl (by kernel_rfl) (by kernel_rfl) (by kernel_rfl) (fun _ _ _ h => h) (by rfl) hHeld ?_ ?_
      · intro W hSw
        try dsimp only at hSw
        first | (go_simp; done) | (go_simp; simp [*]; done) | (go_simp; simp; omega)
      try simp only [Act.put]
      try simp only [List.setIfInBounds_toArray]
      try simp only [List.set_cons_succ]
      try simp only [List.set_cons_zero]
      refine takeD (i := 9) (v := ?_) (some 43) rfl rfl (by kernel_rfl) (by kernel_rfl) (by kernel_rfl) (fun _ _ _ h => h) (by rfl) hHeld ?_ ?_
      rotate_left
      · intro W hSw
        try dsimp only at hSw
        go_simp
        try with_reducible rfl
      try simp only [Act.put]
      try simp only [List.setIfInBounds_toArray]
      try simp only [List.set_cons_succ]
      try simp only [List.set_cons_zero]
      refine takeD (i := 10) (v := ?_) (some 44) rfl rfl (by kernel_rfl) (by kernel_rfl) (by kernel_rfl) (fun _ _ _ h => h) (by rfl) hHeld ?_ ?_
      rotate_left
      · intro W hSw
        try dsimp only at hSw
        go_simp
        try with_reducible rfl
      try simp only [Act.put]
      try simp only [List.setIfInBounds_toArray]
      try simp only [List.set_cons_succ]
      try simp only [List.set_cons_zero]
      refine takeD (i := 11) (v := ?_) (some 45) rfl rfl (by kernel_rfl) (by kernel_rfl) (by kernel_rfl) (fun _ _ _ h => h) (by rfl) hHeld ?_ ?_
      rotate_left
      · intro W hSw
        try dsimp only at hSw
        go_simp
        try with_reducible rfl
      try simp only [Act.put]
      try simp only [List.setIfInBounds_toArray]
      try simp only [List.set_cons_succ]
      try simp only [List.set_cons_zero]
      refine takeD (i := 12) (v := ?_) (some 46) rfl rfl (by kernel_rfl) (by kernel_rfl) (by kernel_rfl) (fun _ _ _ h => h) (by rfl) hHeld ?_ ?_
      rotate_left
      · intro W hSw
        try dsimp only at hSw
        go_simp
        try with_reducible rfl
      try simp only [Act.put]
      try simp only [List.setIfInBounds_toArray]
      try simp only [List.set_cons_succ]
      try simp only [List.set_cons_zero]
      refine takeD (i := 13) (v := .bool false) (some 47) rfl rfl (by kernel_rfl) (by kernel_rfl) (by kernel_rfl) (fun _ _ _ h => h) (by rfl) hHeld ?_ ?_
      · intro W hSw
        try dsimp only at hSw
        first | (go_simp; done) | (go_simp; simp [*]; done) | (go_simp; simp; omega)
      try simp only [Act.put]
      try simp only [List.setIfInBounds_toArray]
      try simp only [List.set_cons_succ]
      try simp only [List.set_cons_zero]
      refine takeD (i := 14) (v := .bool false) (some 48) rfl rfl (by kernel_rfl) (by kernel_rfl) (by kernel_rfl) (fun _ _ _ h => h) (by rfl) hHeld ?_ ?_
      · intro W hSw
        try dsimp only at hSw
        first | (go_simp; done) | (go_simp; simp [*]; done) | (go_simp; simp; omega)
      try simp only [Act.put]
      try simp only [List.setIfInBounds_toArray]
      try simp only [List.set_cons_succ]
      try simp only [List.set_cons_zero]
      refine takeD (i := 15) (v := .bool false) (some 49) rfl rfl (by kernel_rfl) (by kernel_rfl) (by kernel_rfl) (fun _ _ _ h => h) (by rfl) hHeld ?_ ?_
      · intro W hSw
        try dsimp only at hSw
        first | (go_simp; done) | (go_simp; simp [*]; done) | (go_simp; simp; omega)
      try simp only [Act.put]
      try simp only [List.setIfInBounds_toArray]
      try simp only [List.set_cons_succ]
      try simp only [List.set_cons_zero]
      refine takeD (i := 16) (v := ?_) (some 50) rfl rfl (by kernel_rfl) (by kernel_rfl) (by kernel_rfl) (fun _ _ _ h => h) (by rfl) hHeld ?_ ?_
      rotate_left
      · intro W hSw
        try dsimp only at hSw
        go_simp
        try with_reducible rfl
      try simp only [Act.put]
      try simp only [List.setIfInBounds_toArray]
      try simp only [List.set_cons_succ]
      try simp only [List.set_cons_zero]
      refine takeD (i := 17) (v := ?_) (some 51) rfl rfl (by kernel_rfl) (by kernel_rfl) (by kernel_rfl) (fun _ _ _ h => h) (by rfl) hHeld ?_ ?_
      rotate_left
      · intro W hSw
        try dsimp only at hSw
        go_simp
        try with_reducible rfl
      try simp only [Act.put]
      try simp only [List.setIfInBounds_toArray]
      try simp only [List.set_cons_succ]
      try simp only [List.set_cons_zero]
      refine takeD (i := 18) (v := ?_) (some 52) rfl rfl (by kernel_rfl) (by kernel_rfl) (by kernel_rfl) (fun _ _ _ h => h) (by rfl) hHeld ?_ ?_
      rotate_left
      · intro W hSw
        try dsimp only at hSw
        go_simp
        try with_reducible rfl
      try simp only [Act.put]
      try simp only [List.setIfInBounds_toArray]
      try simp only [List.set_cons_succ]
      try simp only [List.set_cons_zero]
      refine takeD (i := 19) (v := ?_) (some 53) rfl rfl (by kernel_rfl) (by kernel_rfl) (by kernel_rfl) (fun _ _ _ h => h) (by rfl) hHeld ?_ ?_
      rotate_left
      · intro W hSw
        try dsimp only at hSw
        go_simp
        try with_reducible rfl
      try simp only [Act.put]
      try simp only [List.setIfInBounds_toArray]
      try simp only [List.set_cons_succ]
      try simp only [List.set_cons_zero]
      refine takeD (i := 20) (v := ?_) (some 54) rfl rfl (by kernel_rfl) (by kernel_rfl) (by kernel_rfl) (fun _ _ _ h => h) (by rfl) hHeld ?_ ?_
      rotate_left
      · intro W hSw
        try dsimp only at hSw
        go_simp
        try with_reducible rfl
      try simp only [Act.put]
      try simp only [List.setIfInBounds_toArray]
      try simp only [List.set_cons_succ]
      try simp only [List.set_cons_zero]
      refine wpAnyH_ready (rs := [21]) (by kernel_rfl) (by simp) ?_
      refine AllReadyH.cons rfl (fun K hK => ?_) AllReadyH.nil
      go_simp
      refine (HT2.out _ (BW.out _ L2.out)).mono ?_
      rintro e w3 ⟨rfl, hb3⟩
      have L3 := hide_it (L2.out.trans (hb3.mono L2.out.size))
      clear hb3
      obtain ⟨d0, d1, d2, d3⟩ := (D1.out.after L3.out).cells4
      obtain ⟨-, -, -, x3⟩ := (XB.out.after L3.out).cells4
      try dsimp only
      refine hK.out _ _ ⟨⟨d0, d1, d2, d3⟩, x3⟩ (fun hHeld => ?_)
      clear hK K d0 d1 d2 d3 x3
      refine takeD (i := 22) (v := .bool cc) (some 56) rfl rfl (by kernel_rfl) (by kernel_rfl) (by kernel_rfl) (fun _ _ _ h => h) (by rfl) hHeld ?_ ?_
      · intro W hSw
        try dsimp only at hSw
        first | (go_simp; done) | (go_simp; simp [*]; done) | (go_simp; simp; omega)
      try simp only [Act.put]
      try simp only [List.setIfInBounds_toArray]
      try simp only [List.set_cons_succ]
      try simp only [List.set_cons_zero]
      refine wpAnyH_done (by kernel_rfl) ?_ _
      cases cc
      · have HTk : Hid (toldOk OO.length (ws.take (k + 1)) = true) := toldOk_more hlt HT.out (by rw [HP.out]; exact HAN.out) (by rw [HP.out]; exact HCC.out)
        have B3 := hide_it (BW2.out _ L3.out)
        go_wp2
        go_roundw
        case rel => exact ⟨k + 1, by omega, by go_num, HTk, B3⟩
        case measure => simp [intOf]; omega
      · have HN : Hid (toldOk OO.length ws = false) := toldOk_twice hlt (by rw [HP.out]; exact HCC.out)
        go_wp2
        go_ret
        exact ⟨by rw [HN.out]; simp, BW.out _ L3.out⟩
    · have hke : k = ws.length := by omega
      have HT2 : Hid (toldOk OO.length ws = true) := by have := HT.out; rw [hke, List.take_length] at this; exact this
      clear hke
      obtain ⟨x0, x1, x2, x3⟩ := XR.out.cells4
      cases up
      · by_cases hz : ws.length = 0
        · have hz' : ws = [] := List.length_eq_zero_iff.1 hz
          have HZ := hide_it hz'
          clear hz'
          go_wp2
          go_ret
          exact ⟨by rw [HT2.out, HZ.out]; rfl, HBw.out⟩
        · have HZ : Hid (ws.isEmpty = false) := by
            show _ = _
            rw [Bool.eq_false_iff]
            intro e
            rw [List.isEmpty_iff] at e
            rw [e] at hz
            simp at hz
          have HZ2 := hide_it hz
          go_wp2
          go_ret
          exact ⟨by rw [HT2.out, HZ.out]; have := HZ2.out; simp; intro e; rw [e] at this; simp at this, HBw.out⟩
      · go_wp2
        go_ret
        exact ⟨by rw [HT2.out]; rfl, HBw.out⟩


end Go.Proofs.YtgknnigjlnfplaaGreatDoor

namespace Go.Proofs.YtgknnigjlnfplaaGreatDoor
open Go.RowKit

/-- A desk as plain data: whether it is up, its records, how many of them are forced, what it was told. -/
abbrev Dk := Bool × List R × Int × List Wd
def dkZ : Dk := (false, [], 0, [])
def dkRise (up : Bool) (rs : List R) (f : Int) (ws : List Wd) : Dk := if dkOk up rs f ws = true then (true, rs, f, ws) else dkZ
def dkForce (up : Bool) (rs : List R) (f : Int) (ws : List Wd) : Dk := if dkOk up rs f ws = true then (up, rs, if up = true then (rs.length : Int) else f, ws) else dkZ
def DkO (w w' : World) (e : Ending) (o : Dk) : Prop := DkOut w w' e o.1 o.2.1 o.2.2.1 o.2.2.2
theorem DkO.none_ {w w' : World} (h : Below w.heap.size w w') : DkO w w' (.returned (deskV false (.slice none 0 0) 0 (.slice none 0 0))) dkZ := by
  obtain ⟨ps, hp, ho⟩ := Made.none w' w.heap.size
  exact ⟨none, 0, none, 0, ps, rfl, hp, ⟨Nat.le_refl _, w.heap.size, w'.heap.size, Nat.le_refl _, Nat.le_refl _, ho, World.ownsRow_nil _ _ _ _, fun g hg => by simp [Value.ownBlock] at hg⟩, h⟩
theorem dkOk_log {up : Bool} {rs : List R} {f : Int} {ws : List Wd} (h : dkOk up rs f ws = true) : logOk rs f = true := by
  unfold dkOk at h
  simp only [Bool.and_eq_true] at h
  exact h.1
theorem dkRise_tot (up : Bool) (rs : List R) (f : Int) (ws : List Wd) (hl : tot rs ≤ 1048576) (hlw : ws.length ≤ 1048576) : tot (dkRise up rs f ws).2.1 ≤ 1048576 ∧ (dkRise up rs f ws).2.2.2.length ≤ 1048576 := by
  unfold dkRise; split
  · exact ⟨hl, hlw⟩
  · simp [dkZ, tot, pre]
theorem dkForce_tot (up : Bool) (rs : List R) (f : Int) (ws : List Wd) (hl : tot rs ≤ 1048576) (hlw : ws.length ≤ 1048576) : tot (dkForce up rs f ws).2.1 ≤ 1048576 ∧ (dkForce up rs f ws).2.2.2.length ≤ 1048576 := by
  unfold dkForce; split
  · exact ⟨hl, hlw⟩
  · simp [dkZ, tot, pre]
/-- What is set outside leaves a desk's lists. -/
theorem DkOwn.setAbove {w : World} {lo hi b i : Nat} {v u : Value} {ps : List (R × Value)} {ws : List Wd} (h : DkOwn w lo hi v u ps ws) (hb : hi ≤ b) (x : Value) : DkOwn (w.setCell ⟨b, i, none⟩ x) lo hi v u ps ws :=
  h.below ((Below.refl hi w).setCell hb x) (Nat.le_refl _)
/-- A log of its own in the place of the old one. -/
theorem DkOwn.newLog {w w' : World} {lo hi : Nat} {v v' u : Value} {ps ps' : List (R × Value)} {ws : List Wd} (h : DkOwn w lo hi v u ps ws) (hl : lo ≤ w.heap.size) (hm : OwnRecs w' w.heap.size w'.heap.size v' ps') (hb : Below w.heap.size w w') : DkOwn w' lo w'.heap.size v' u ps' ws := by
  obtain ⟨h0, l, t, h1, h2, h3, h4, h5⟩ := h
  exact ⟨Nat.le_refl _, w.heap.size, w'.heap.size, hl, Nat.le_refl _, hm, ownsRow_below h4 hb (fun g hg => by have := (h5 g hg).1; omega), fun g hg => ⟨by have := (h5 g hg).1; have := hb.size; omega, Or.inl (by have := (h5 g hg).1; omega)⟩⟩

/-- A log, and words in a row that was begun ahead of it. -/
theorem DkOwn.mk2 {w w' : World} {lo l b : Nat} {v u : Value} {ps : List (R × Value)} {ws : List Wd} (h : OwnRecs w l w.heap.size v ps) (hg : w.grownBy w' (some b)) (hbl : b < l) (hlo : lo ≤ l) (hr : w'.ownsRow lo 39 4 u ws.length (wflat ws)) (hloc : u.ownBlock = some b ∨ u.ownBlock = some w.heap.size) : DkOwn w' lo w'.heap.size v u ps ws := by
  refine ⟨Nat.le_refl _, l, w.heap.size, hlo, hg.size, h.mid (Mid.of_grown (lo := b) (hi := b + 1) hg (fun k e => by simp at e; omega)) hbl, hr, fun g hg' => ⟨(hr.lt g hg').2, ?_⟩⟩
  rcases hloc with e | e
  · rw [e] at hg'
    simp at hg'
    omega
  · rw [e] at hg'
    simp at hg'
    omega

set_option maxHeartbeats 8000000 in
set_option maxRecDepth 20000 in
theorem l13Copy_any (up : Bool) (v u : Value) (rs : List R) (f : Int) (ws : List Wd) (w : World) (hv : DkAt w v u rs ws) (hl : tot rs ≤ 1048576) (hlw : ws.length ≤ 1048576) :
    Calls Tryz.prog 16 #[deskV up v f u] w fun e w' => DkOut w w' e up rs f ws := by
  have HV : Hid (∀ W, Below w.heap.size w W → DkAt W v u rs ws) := fun W h => hv.later h (Nat.le_refl _)
  have HS : Hid (∀ W, Below w.heap.size w W → Calls Tryz.prog 36 #[.agg #[v, .int .i64 f]] W fun e w' => LogOut W w' e rs f) := fun W h => l1Copy_any v rs f W (hv.1.later h (Nat.le_refl _)) hl
  obtain ⟨av, cv, au, cu, rfl, rfl⟩ := hv.shape
  clear hv
  obtain ⟨w0, hw0⟩ : ∃ W, Hid (W = (w.alloc (.cells #[.bool up, .slice av rs.length cv, .int .i64 f, .slice au ws.length cu] 36)).alloc (.cells #[.bool false, .slice none 0 0, .int .i64 0, .slice none 0 0] 36)) := ⟨_, rfl⟩
  have B0 : Hid (Below w.heap.size w w0) := by show Below _ _ _; rw [hw0.out]; exact below2 _ _ _
  have X0 : Hid (Blk w0 w.heap.size #[.bool up, .slice av rs.length cv, .int .i64 f, .slice au ws.length cu] 36) := by show Blk _ _ _ _; rw [hw0.out]; exact (Blk.new _ _ _).alloc _
  have Y0 : Hid (Blk w0 (w.heap.size + 1) #[.bool false, .slice none 0 0, .int .i64 0, .slice none 0 0] 36) := by show Blk _ _ _ _; rw [hw0.out]; exact Blk.new2 _ _ _ _
  have hs0 : w0.heap.size = w.heap.size + 2 := by rw [hw0.out, size2]
  have HS0 := hide_it hs0
  clear hs0
  obtain ⟨x0, x1, x2, x3⟩ := X0.out.cells4
  go_enter Tryz.func16, Tryz.ntmps16
  go_wp2_with fail
  rw [← hw0.out]
  refine wp_region_held_drew (S := fun w' => w'.cell? ⟨w.heap.size, 0, none⟩ = some (.bool up) ∧ w'.cell? ⟨w.heap.size, 1, none⟩ = some (.slice av rs.length cv) ∧ w'.cell? ⟨w.heap.size, 2, none⟩ = some (.int .i64 f) ∧ w'.cell? ⟨w.heap.size, 3, none⟩ = some (.slice au ws.length cu)) (by kernel_rfl) ⟨x0, x1, x2, x3⟩ (fun hHeld => ?_)
  clear x0 x1 x2 x3
  refine takeD (i := 0) (v := ?_) (some 3) rfl rfl (by kernel_rfl) (by kernel_rfl) (by kernel_rfl) (fun _ _ _ h => h) (by rfl) hHeld ?_ ?_
  rotate_left
  · intro W hSw
    try dsimp only at hSw
    go_simp
    try with_reducible rfl
  try simp only [Act.put]
  try simp only [List.setIfInBounds_toArray]
  try simp only [List.set_cons_succ]
  try simp only [List.set_cons_zero]
  refine takeD (i := 1) (v := ?_) (some 4) rfl rfl (by kernel_rfl) (by kernel_rfl) (by kernel_rfl) (fun _ _ _ h => h) (by rfl) hHeld ?_ ?_
  rotate_left
  · intro W hSw
    try dsimp only at hSw
    go_simp
    try with_reducible rfl
  try simp only [Act.put]
  try simp only [List.setIfInBounds_toArray]
  try simp only [List.set_cons_succ]
  try simp only [List.set_cons_zero]
  refine takeD (i := 2) (v := ?_) (some 5) rfl rfl (by kernel_rfl) (by kernel_rfl) (by kernel_rfl) (fun _ _ _ h => h) (by rfl) hHeld ?_ ?_
  rotate_left
  · intro W hSw
    try dsimp only at hSw
    go_simp
    try with_reducible rfl
  try simp only [Act.put]
  try simp only [List.setIfInBounds_toArray]
  try simp only [List.set_cons_succ]
  try simp only [List.set_cons_zero]
  refine takeD (i := 3) (v := ?_) (some 6) rfl rfl (by kernel_rfl) (by kernel_rfl) (by kernel_rfl) (fun _ _ _ h => h) (by rfl) hHeld ?_ ?_
  rotate_left
  · intro W hSw
    try dsimp only at hSw
    go_simp
    try with_reducible rfl
  try simp only [Act.put]
  try simp only [List.setIfInBounds_toArray]
  try simp only [List.set_cons_succ]
  try simp only [List.set_cons_zero]
  refine takeD (i := 6) (v := ?_) (some 9) rfl rfl (by kernel_rfl) (by kernel_rfl) (by kernel_rfl) (fun _ _ _ h => h) (by rfl) hHeld ?_ ?_
  rotate_left
  · intro W hSw
    try dsimp only at hSw
    go_simp
    try with_reducible rfl
  try simp only [Act.put]
  try simp only [List.setIfInBounds_toArray]
  try simp only [List.set_cons_succ]
  try simp only [List.set_cons_zero]
  refine takeD (i := 7) (v := ?_) (some 10) rfl rfl (by kernel_rfl) (by kernel_rfl) (by kernel_rfl) (fun _ _ _ h => h) (by rfl) hHeld ?_ ?_
  rotate_left
  · intro W hSw
    try dsimp only at hSw
    go_simp
    try with_reducible rfl
  try simp only [Act.put]
  try simp only [List.setIfInBounds_toArray]
  try simp only [List.set_cons_succ]
  try simp only [List.set_cons_zero]
  refine wpAnyH_ready (rs := [4, 5]) (by kernel_rfl) (by simp) ?_
  refine AllReadyH.cons rfl (fun K hK => ?_) (AllReadyH.cons rfl (fun K hK => ?_) AllReadyH.nil)
  · go_simp
    refine (HS.out _ B0.out.drew).mono ?_
    rintro e w1 ⟨ao, cap, rfl, hm, hb⟩
    have L1 := hide_it ((Below.refl w0.heap.size w0).drew.trans hb)
    have X1 := hide_it (X0.out.after L1.out)
    have M1 := hide_it hm
    have B1 := hide_it (B0.out.trans (L1.out.mono B0.out.size))
    clear hm hb
    try dsimp only
    refine hK.out _ _ X1.out.cells4 (fun hHeld => ?_)
    clear hK K
    refine wpAnyH_ready (rs := [5]) (by kernel_rfl) (by simp) ?_
    refine AllReadyH.cons rfl (fun K hK => ?_) AllReadyH.nil
    go_simp
    refine hK.out _ _ (X1.out.alloc _).cells4 (fun hHeld => ?_)
    clear hK K
    refine wpAnyH_ready (rs := [8]) (by kernel_rfl) (by simp) ?_
    refine AllReadyH.cons rfl (fun K hK => ?_) AllReadyH.nil
    refine step_append_words rfl _ _ rfl w1.heap.size (.slice (some ⟨w1.heap.size, 0, none⟩) 0 0) (.slice au ws.length cu) 0 [] ws rfl rfl (T.lit0 w1 _ _) (HV.out _ (B1.out.alloc B1.out.size _)).2 (by omega) (by simp) ?_
    intro a2 c2 w2 hown hgrow hloc
    clear hloc
    simp only [Nat.zero_add, List.nil_append] at hown
    have hbA : Below w1.heap.size w1 w2 := (((Below.refl w1.heap.size w1).alloc (Nat.le_refl _) _).grown hgrow (by simp) (fun j hj => by simp [Value.ownBlock] at hj; omega))
    have L2 := hide_it (L1.out.trans (hbA.mono L1.out.size))
    obtain ⟨ps, hp, ho⟩ := M1.out
    have OD : Hid (DkOwn w2 w0.heap.size w2.heap.size (.slice ao rs.length cap) (.slice a2 ws.length c2) ps ws) := DkOwn.mk_ (by simpa using ho) hown hbA L1.out.size
    have HPS := hide_it hp
    have X2 := hide_it (X0.out.after L2.out)
    have Y2 := hide_it (Y0.out.after L2.out)
    have B2 := hide_it (B0.out.trans (L2.out.mono B0.out.size))
    have hz2 : w.heap.size + 2 ≤ w2.heap.size := by have := L2.out.size; have := HS0.out; omega
    clear hown hgrow hbA hp ho
    simp only [Nat.zero_add, Act.put]
    refine hK.out _ _ X2.out.cells4 (fun hHeld => ?_)
    clear hK K
    try simp only [List.setIfInBounds_toArray]
    try simp only [List.set_cons_succ]
    try simp only [List.set_cons_zero]
    refine takeD (i := 9) (v := ?_) (some 12) rfl rfl (by kernel_rfl) (by kernel_rfl) (by kernel_rfl) (fun _ _ _ h => h) (by rfl) hHeld ?_ ?_
    rotate_left
    · intro W hSw
      try dsimp only at hSw
      go_simp
      try with_reducible rfl
    try simp only [Act.put]
    try simp only [List.setIfInBounds_toArray]
    try simp only [List.set_cons_succ]
    try simp only [List.set_cons_zero]
    obtain ⟨z0, z1, z2, z3⟩ := Y2.out.cells4
    obtain ⟨zf0, zf1, zf2, zf3⟩ := Y2.out.free4
    refine wpAnyH_ready (rs := [10]) (by kernel_rfl) (by simp) ?_
    refine AllReadyH.cons rfl (fun K hK => ?_) AllReadyH.nil
    go_simp
    refine hK.out _ _ ?_ (fun hHeld => ?_)
    · have XF := (X2.out.other (a := ⟨w.heap.size + 1, 0, none⟩) (by simp) (.bool up)).other (a := ⟨w.heap.size + 1, 1, none⟩) (by simp) (.slice ao rs.length cap) |>.other (a := ⟨w.heap.size + 1, 2, none⟩) (by simp) (.int .i64 f) |>.other (a := ⟨w.heap.size + 1, 3, none⟩) (by simp) (.slice a2 ws.length c2)
      exact XF.cells4
    refine wpAnyH_done (by kernel_rfl) ?_ _
    go_wp2
    refine bodyPost_ret (v := deskV up (.slice ao rs.length cap) f (.slice a2 ws.length c2)) (by simp [results, Tryz.results16, go_sem, *]) rfl ?_
    refine ⟨ao, cap, a2, c2, ps, rfl, HPS.out, ?_, ?_⟩
    · refine DkOwn.lo (lo := w0.heap.size) ?_ (by have := HS0.out; omega)
      repeat (refine DkOwn.setBelow ?_ (by have := HS0.out; omega) _)
      simpa using OD.out
    · repeat (refine Below.setCell ?_ (by first | (simp; done) | (simp; omega)) _)
      exact B2.out
  · go_simp
    refine hK.out _ _ (X0.out.drew.alloc _).cells4 (fun hHeld => ?_)
    clear hK K
    refine wpAnyH_ready (rs := [4]) (by kernel_rfl) (by simp) ?_
    refine AllReadyH.cons rfl (fun K hK => ?_) AllReadyH.nil
    go_simp
    refine (HS.out _ (B0.out.drew.alloc (by have := HS0.out; simp; omega) _)).mono ?_
    rintro e w1 ⟨ao, cap, rfl, hm, hb⟩
    have L1 := hide_it (((Below.refl w0.heap.size w0).drew.alloc (Nat.le_refl _) _).trans (hb.mono (by simp)))
    have X1 := hide_it (X0.out.after L1.out)
    have LIT := hide_it (ownsRow_below (T.lit0 w0.drew 39 4) hb (fun k hk => by simp [Value.ownBlock] at hk; simp; omega))
    have M1 := hide_it hm
    have B1 := hide_it (B0.out.trans (L1.out.mono B0.out.size))
    clear hm hb
    try dsimp only
    refine hK.out _ _ X1.out.cells4 (fun hHeld => ?_)
    clear hK K
    refine wpAnyH_ready (rs := [8]) (by kernel_rfl) (by simp) ?_
    refine AllReadyH.cons rfl (fun K hK => ?_) AllReadyH.nil
    refine step_append_words rfl _ _ rfl w0.heap.size (.slice (some ⟨w0.heap.size, 0, none⟩) 0 0) (.slice au ws.length cu) 0 [] ws rfl rfl LIT.out (HV.out _ B1.out).2 (by omega) L1.out.size ?_
    intro a2 c2 w2 hown hgrow hloc
    simp only [Nat.zero_add, List.nil_append] at hown hloc
    have hbB : Below w0.heap.size w1 w2 := ((Below.refl w0.heap.size w1).grown hgrow L1.out.size (fun j hj => by simp [Value.ownBlock] at hj; omega))
    have L2 := hide_it (L1.out.trans hbB)
    obtain ⟨ps, hp, ho⟩ := M1.out
    have OD : Hid (DkOwn w2 w0.heap.size w2.heap.size (.slice ao rs.length cap) (.slice a2 ws.length c2) ps ws) := DkOwn.mk2 (b := w0.heap.size) ho (by simpa [Value.ownBlock] using hgrow) (by simp) (by simp) hown (by simpa [Value.ownBlock] using hloc)
    have HPS := hide_it hp
    have X2 := hide_it (X0.out.after L2.out)
    have Y2 := hide_it (Y0.out.after L2.out)
    have B2 := hide_it (B0.out.trans (L2.out.mono B0.out.size))
    have hz2 : w.heap.size + 2 ≤ w2.heap.size := by have := L2.out.size; have := HS0.out; omega
    clear hown hgrow hbB hp ho hloc
    simp only [Nat.zero_add, Act.put]
    refine hK.out _ _ X2.out.cells4 (fun hHeld => ?_)
    clear hK K
    try simp only [List.setIfInBounds_toArray]
    try simp only [List.set_cons_succ]
    try simp only [List.set_cons_zero]
    refine takeD (i := 9) (v := ?_) (some 12) rfl rfl (by kernel_rfl) (by kernel_rfl) (by kernel_rfl) (fun _ _ _ h => h) (by rfl) hHeld ?_ ?_
    rotate_left
    · intro W hSw
      try dsimp only at hSw
      go_simp
      try with_reducible rfl
    try simp only [Act.put]
    try simp only [List.setIfInBounds_toArray]
    try simp only [List.set_cons_succ]
    try simp only [List.set_cons_zero]
    obtain ⟨z0, z1, z2, z3⟩ := Y2.out.cells4
    obtain ⟨zf0, zf1, zf2, zf3⟩ := Y2.out.free4
    refine wpAnyH_ready (rs := [10]) (by kernel_rfl) (by simp) ?_
    refine AllReadyH.cons rfl (fun K hK => ?_) AllReadyH.nil
    go_simp
    refine hK.out _ _ ?_ (fun hHeld => ?_)
    · have XF := (X2.out.other (a := ⟨w.heap.size + 1, 0, none⟩) (by simp) (.bool up)).other (a := ⟨w.heap.size + 1, 1, none⟩) (by simp) (.slice ao rs.length cap) |>.other (a := ⟨w.heap.size + 1, 2, none⟩) (by simp) (.int .i64 f) |>.other (a := ⟨w.heap.size + 1, 3, none⟩) (by simp) (.slice a2 ws.length c2)
      exact XF.cells4
    refine wpAnyH_done (by kernel_rfl) ?_ _
    go_wp2
    refine bodyPost_ret (v := deskV up (.slice ao rs.length cap) f (.slice a2 ws.length c2)) (by simp [results, Tryz.results16, go_sem, *]) rfl ?_
    refine ⟨ao, cap, a2, c2, ps, rfl, HPS.out, ?_, ?_⟩
    · refine DkOwn.lo (lo := w0.heap.size) ?_ (by have := HS0.out; omega)
      repeat (refine DkOwn.setBelow ?_ (by have := HS0.out; omega) _)
      simpa using OD.out
    · repeat (refine Below.setCell ?_ (by first | (simp; done) | (simp; omega)) _)
      exact B2.out

end Go.Proofs.YtgknnigjlnfplaaGreatDoor

namespace Go.Proofs.YtgknnigjlnfplaaGreatDoor
open Go.RowKit

end Go.Proofs.YtgknnigjlnfplaaGreatDoor

namespace Go.Proofs.YtgknnigjlnfplaaGreatDoor
open Go.RowKit

/-- The lists of a desk as they came to a call: readable, each nil or a row with room. -/
def DkIn (w : World) (v u : Value) (rs : List R) (ws : List Wd) : Prop := DkAt w v u rs ws ∧ Form v rs.length ∧ Form u ws.length
theorem DkIn.later {B : Nat} {w w' : World} {v u : Value} {rs : List R} {ws : List Wd} (h : DkIn w v u rs ws) (hb : Below B w w') (hB : w.heap.size ≤ B) : DkIn w' v u rs ws := ⟨h.1.later hb hB, h.2⟩
theorem DkOwn.in_ {w : World} {lo hi : Nat} {v u : Value} {ps : List (R × Value)} {rs : List R} {ws : List Wd} (h : DkOwn w lo hi v u ps ws) (hp : ps.map (·.1) = rs) : DkIn w v u rs ws := by
  have hl : ps.length = rs.length := by have := congrArg List.length hp; simpa using this
  refine ⟨h.at' hp, ?_, ?_⟩
  · obtain ⟨_, l, t, _, _, h3, _, _⟩ := h
    have := form_of_row h3.1
    rw [hl] at this
    exact this
  · obtain ⟨_, l, t, _, _, _, h4, _⟩ := h
    exact form_of_row h4

theorem OwnRecs.setB {w : World} {lo hi b j : Nat} {v : Value} {ps : List (R × Value)} {cur : Array Value} {ty : TypeId} (h : OwnRecs w lo hi v ps) (hh : Blk w b cur ty) (h1 : 81 ≠ ty) (h2 : 3 ≠ ty) (x : Value) : OwnRecs (w.setCell ⟨b, j, Option.none⟩ x) lo hi v ps := by
  obtain ⟨q1, q2, q3⟩ := h
  have hs : (w.setCell ⟨b, j, Option.none⟩ x).heap.size = w.heap.size := by simp
  exact ⟨ownsRow_setCell_ne q1 (fun g hg => row_apart q1 hh h1 g hg) x, q2, by rw [hs]; exact q3.1, fun p hp => ⟨ownsRow_setCell_ne (q3.2.1 p hp).1 (fun g hg => row_apart (q3.2.1 p hp).1 hh h2 g hg) x, (q3.2.1 p hp).2⟩, q3.2.2⟩
theorem DkOwn.setB {w : World} {lo hi b j : Nat} {v u : Value} {ps : List (R × Value)} {ws : List Wd} {cur : Array Value} {ty : TypeId} (h : DkOwn w lo hi v u ps ws) (hh : Blk w b cur ty) (h1 : 81 ≠ ty) (h2 : 3 ≠ ty) (h3 : 39 ≠ ty) (x : Value) : DkOwn (w.setCell ⟨b, j, Option.none⟩ x) lo hi v u ps ws := by
  obtain ⟨q0, l, t, q1, q2, q3, q4, q5⟩ := h
  exact ⟨by simpa using q0, l, t, q1, q2, q3.setB hh h1 h2 x, ownsRow_setCell_ne q4 (fun g hg => row_apart q4 hh h3 g hg) x, q5⟩

def dkFall (up : Bool) (rs : List R) (f : Int) (ws : List Wd) (keep : Int) : Dk := if dkOk up rs f ws = true then (false, rs.take (fallN rs.length f keep), (fallN rs.length f keep : Int), []) else dkZ
theorem dkFall_tot (up : Bool) (rs : List R) (f : Int) (ws : List Wd) (keep : Int) (hl : tot rs ≤ 1048576) : tot (dkFall up rs f ws keep).2.1 ≤ 1048576 ∧ (dkFall up rs f ws keep).2.2.2.length ≤ 1048576 := by
  unfold dkFall; split
  · next h =>
    obtain ⟨h0, h1, _⟩ := logOk_f (dkOk_log h)
    exact ⟨Nat.le_trans (pre_take rs _ (fallN_le h0 h1)) hl, by simp⟩
  · simp [dkZ, tot, pre]

end Go.Proofs.YtgknnigjlnfplaaGreatDoor

namespace Go.Proofs.YtgknnigjlnfplaaGreatDoor
open Go.RowKit

/-- Trips come back, in memory of the call's own. -/
def TrL (w w' : World) (e : Ending) (rs : List T.R) : Prop := ∃ ao cap, e = .returned (.slice ao rs.length cap) ∧ T.Made w' w.heap.size (.slice ao rs.length cap) rs ∧ Below w.heap.size w w'
def cutF (rs : List R) (f : Int) (forced : Bool) : List R := if forced = true then rs.take f.toNat else rs
def dkTrips (up : Bool) (rs : List R) (f : Int) (ws : List Wd) (forced : Bool) : List T.R := if dkOk up rs f ws = true then T.ofO (cutF rs f forced) else []
theorem dkTrips_tot (up : Bool) (rs : List R) (f : Int) (ws : List Wd) (forced : Bool) : T.tot (dkTrips up rs f ws forced) ≤ 1048576 := by
  unfold dkTrips; split
  · exact (T.ofO_fit _).tot
  · exact T.Fit.nil.tot
set_option maxHeartbeats 4000000 in
theorem l13Trips_any (up : Bool) (v u : Value) (rs : List R) (f : Int) (ws : List Wd) (forced : Bool) (w : World) (hv : DkIn w v u rs ws) (hl : tot rs ≤ 1048576) (h0 : 0 ≤ f) (h1 : f ≤ rs.length) :
    Calls Tryz.prog 34 #[deskV up v f u, .bool forced] w fun e w' => TrL w w' e (T.ofO (cutF rs f forced)) := by
  have hrl := tot_len rs
  have HV : Hid (∀ W, Below w.heap.size w W → DkIn W v u rs ws) := fun W h => hv.later h (Nat.le_refl _)
  obtain ⟨av, cv, au, cu, rfl, rfl⟩ := hv.1.shape
  have hcap : rs.length ≤ cv := by
    rcases hv.2.1 with ⟨e, h0⟩ | ⟨g, cap, e, h1⟩
    · omega
    · simp at e; omega
  clear hv
  have HO : Hid (∀ (N : Nat) (W : World), N ≤ rs.length → Below w.heap.size w W → Calls Tryz.prog 30 #[.slice av N cv] W fun e w' => T.TrOut W w' e (T.ofO (rs.take N)) (T.runT (rs.take N)).isSome) := fun N W hN h => by
    have hlen : (rs.take N).length = N := by rw [List.length_take]; omega
    have := T.l12Of_any (.slice av N cv) (rs.take N) W (Recs.take (HV.out W h).1.1 hN) (Nat.le_trans (pre_take rs _ hN) hl)
    exact this
  obtain ⟨F, rfl⟩ := Int.eq_ofNat_of_zero_le h0
  cases forced
  · have HE : Hid (cutF rs F false = rs) := rfl
    rw [HE.out]
    have HC : Hid (∀ W, rs.length ≤ rs.length → Below w.heap.size w W → Calls Tryz.prog 30 #[.slice av rs.length cv] W fun e w' => T.TrOut W w' e (T.ofO rs) (T.runT rs).isSome) := fun W h1 h2 => by
      have := HO.out rs.length W h1 h2
      rw [List.take_length] at this
      exact this
    go_enter Tryz.func34, Tryz.ntmps34
    go_wp2_with fail
    refine (HC.out _ (Nat.le_refl _) (alloc_below _ _)).mono ?_
    rintro e w1 ⟨ao, cap, rfl, hm, hb⟩
    have M1 := hide_it hm
    have B1 := hide_it (below_after hb)
    clear hm hb
    go_wp2
    go_ret
    exact ⟨ao, cap, rfl, M1.out.lo (by simp), B1.out⟩
  · have HE : Hid (cutF rs F true = rs.take F) := by show _ = _; simp [cutF]
    rw [HE.out]
    have HC := hide_it (HO.out F)
    have hF : F ≤ rs.length := by omega
    go_enter Tryz.func34, Tryz.ntmps34
    go_wp2_with fail
    refine (HC.out _ hF (alloc_below _ _)).mono ?_
    rintro e w1 ⟨ao, cap, rfl, hm, hb⟩
    have M1 := hide_it hm
    have B1 := hide_it (below_after hb)
    clear hm hb
    go_wp2
    go_ret
    exact ⟨ao, cap, rfl, M1.out.lo (by simp), B1.out⟩

end Go.Proofs.YtgknnigjlnfplaaGreatDoor

namespace Go.Proofs.YtgknnigjlnfplaaGreatDoor
open Go.RowKit

/-- A block whose type is neither a record's nor a number's is as it was. -/
def Tid (w w' : World) : Prop := ∀ (b : Nat) (cs : Array Value) (ty : TypeId) (fz : Nat × Nat), w.heap[b]? = some (.cells cs ty fz) → ty ≠ 81 → ty ≠ 3 → w'.heap[b]? = w.heap[b]?
theorem Tid.refl (w : World) : Tid w w := fun _ _ _ _ _ _ _ => rfl
theorem Tid.trans {a b c : World} (h : Tid a b) (k : Tid b c) : Tid a c := fun i cs ty fz hi h1 h2 => by
  have e := h i cs ty fz hi h1 h2
  rw [k i cs ty fz (by rw [e]; exact hi) h1 h2, e]
theorem Tid.of_below {w w' : World} (h : Below w.heap.size w w') : Tid w w' := fun i _ _ _ hi _ _ => h.block i (lt_of_heap hi)
theorem Tid.row {w w' : World} {base : Nat} {e : TypeId} {size n : Nat} {v : Value} {xs : List Value} (h : Tid w w') (hr : w.ownsRow base e size v n xs) (h1 : e ≠ 81) (h2 : e ≠ 3) : w'.ownsRow base e size v n xs := by
  obtain ⟨q1, q2⟩ := hr
  refine ⟨q1, ?_⟩
  rcases q2 with q2 | ⟨g, cap, cur, hv, hg, hh, r⟩
  · exact Or.inl q2
  · exact Or.inr ⟨g, cap, cur, hv, hg, by rw [h g _ _ _ hh h1 h2]; exact hh, r⟩

theorem tid_step {wr w2 w3 : World} {lo hi g n cap i a b : Nat} {qs : List (R × Value)} {r0 : R} {u x y : Value} (hq : qs[i]? = some (r0, u))
    (ho : OwnRecs wr lo hi (.slice (some ⟨g, 0, none⟩) n cap) qs) (hqn : qs.length = n)
    (h2 : w2 = (wr.setCell ⟨g, a, none⟩ x).setCell ⟨g, b, none⟩ y) (hg : w2.grownBy w3 u.ownBlock) : Tid wr w3 := by
  intro c cs ty fz hc t1 t2
  obtain ⟨row, hgb, inn⟩ := ho
  rw [hqn] at row
  have hne : c ≠ g := by
    intro e
    subst e
    exact row_apart row hc (fun e => t1 e.symm) c rfl rfl
  have e1 : w2.heap[c]? = wr.heap[c]? := by
    rw [h2, Below.heap_setCell _ _ _ _ (by simpa using hne), Below.heap_setCell _ _ _ _ (by simpa using hne)]
  have hu := (inn.2.1 (r0, u) (List.mem_of_getElem? hq)).1
  have hlt : c < w2.heap.size := lt_of_heap (by rw [e1]; exact hc)
  rw [hg.block c hlt (fun e => row_apart hu hc (fun e => t2 e.symm) c e.symm rfl), e1]

set_option maxHeartbeats 2000000 in
theorem markRecsT_any (v : Value) (ps : List (R × Value)) (k : Int) (lo hi : Nat) (w : World) (ho : OwnRecs w lo hi v ps) (hl : tot (ps.map (·.1)) ≤ 1048576) (hk0 : 0 ≤ k) (hk1 : k ≤ 1000) :
    Calls Tryz.prog 48 #[v, .int .i64 k] w fun e w' => e = .returned (.int .i64 (kAt (ps.map (·.1)) k ps.length)) ∧ OwnRecs w' lo hi v (stg ps k ps.length) ∧ Mid lo hi w w' ∧ Tid w w' := by
  have hlen := tot_len (ps.map (·.1))
  rw [List.length_map] at hlen
  by_cases h0 : ps.length = 0
  · obtain rfl : ps = [] := List.length_eq_zero_iff.1 h0
    have HO : Hid (OwnRecs w lo hi v (stg [] k 0)) := by show OwnRecs _ _ _ _ _; rw [stg_zero]; exact ho
    obtain ⟨ao, cap, rfl⟩ := row_shape ho.1
    clear ho
    go_enter Tryz.func48, Tryz.ntmps48
    go_wp2
    refine wp_loop_rounds 1 ?_
    rw [rounds_succ]
    go_wp2
    go_ret
    exact ⟨by simp [kAt, pre], HO.out, Mid.refl _ _ _, Tid.refl _⟩
  obtain ⟨g, cap, rfl⟩ : ∃ g cap, v = .slice (some ⟨g, 0, none⟩) ps.length cap := by
    rcases ho.1.2 with ⟨_, hn0⟩ | ⟨g, cap, cur, h, _⟩
    · exact absurd hn0 h0
    · exact ⟨g, cap, h⟩
  have H0 : Hid (OwnRecs w lo hi (.slice (some ⟨g, 0, none⟩) ps.length cap) (stg ps k 0)) := by show OwnRecs _ _ _ _ _; rw [stg_zero]; exact ho
  clear ho
  go_enter Tryz.func48, Tryz.ntmps48
  go_wp2
  go_loopw [1, 5] (fun q i wr => ∃ (j : Nat) (K : Int), j ≤ ps.length ∧ i = .int .i64 j ∧ q = .int .i64 K ∧ Hid (K = kAt (ps.map (·.1)) k j) ∧ Hid (OwnRecs wr lo hi (.slice (some ⟨g, 0, none⟩) ps.length cap) (stg ps k j)) ∧ Hid (Mid lo hi w wr) ∧ Hid (Tid w wr)) (fun _ i _ => ps.length - (intOf i).toNat)
  case atStart => exact ⟨0, k, Nat.zero_le _, rfl, rfl, (kAt_zero _ _).symm, H0, Mid.refl _ _ _, Tid.refl _⟩
  case round =>
    obtain ⟨j, K, hj, rfl, rfl, HK, HO, HM, HT⟩ := hrel
    have hKb : 0 ≤ K ∧ K ≤ 900000000 := by rw [HK.out]; exact kAt_bd _ k j (by rw [List.length_map]; exact hj) hl hk0 hk1
    by_cases hlt : j < ps.length
    · obtain ⟨p, hp⟩ : ∃ p, Hid (ps[j]? = some p) := ⟨ps[j], by show _ = _; simp [hlt]⟩
      have HS : Hid ((stg ps k j)[j]? = some (p.1, p.2)) := by
        have := stg_get ps k j j p hp.out
        rw [if_neg (by omega)] at this
        exact this
      have HPM : Hid ((ps.map (·.1))[j]? = some p.1) := by show _ = _; rw [List.getElem?_map, hp.out]; rfl
      have hpl : p.1.2.2.length ≤ 1048576 := Nat.le_trans (tot_mem _ _ (List.mem_of_getElem? HPM.out)) hl
      have row := HO.out.1
      rw [stg_length] at row
      obtain ⟨f0, f1, f2⟩ := flat_get _ j _ HS.out
      have c0 : wr.cell? ⟨g, j * 3, none⟩ = some (.int .i64 p.1.1) := by rw [row.cellAt _ (by omega)]; exact f0
      have c1 : wr.cell? ⟨g, j * 3 + 1, none⟩ = some (.int .i64 p.1.2.1) := by rw [row.cellAt _ (by omega)]; exact f1
      have c2 : wr.cell? ⟨g, j * 3 + 2, none⟩ = some p.2 := by rw [row.cellAt _ (by omega)]; exact f2
      have z0 := row.frozenAt (j * 3)
      have z1 := row.frozenAt (j * 3 + 1)
      clear row f0 f1 f2
      go_wp2_with fail
      have INN := hide_it (mark_inner HS.out HO.out (stg_length ps k j) (j * 3) (j * 3 + 1) (.int .i64 K) (.int .i64 (K + 1)))
      refine (markInts_any p.2 _ (K + 1 + 1) lo p.1.2.2.length _ INN.out hpl (by omega) (by omega)).mono ?_
      rintro e w3 ⟨rfl, hown3, hg3⟩
      have ST := mark_step (r := markR p.1 K) (w3 := w3) HS.out HO.out (stg_length ps k j) rfl (by
        show World.ownsRow _ _ _ _ _ (markI p.1.2.2.length (K + 2)).length ((markI p.1.2.2.length (K + 2)).map (Value.int .i64))
        rw [markI_length, show K + 2 = K + 1 + 1 by omega]; exact hown3) hg3
      have HO3 : Hid (OwnRecs w3 lo hi (.slice (some ⟨g, 0, none⟩) ps.length cap) (stg ps k (j + 1))) := by
        show OwnRecs _ _ _ _ _
        rw [stg_succ ps k j p hp.out, ← HK.out]; exact ST.1
      have HM3 : Hid (Mid lo hi w w3) := HM.out.trans ST.2
      have HT3 : Hid (Tid w w3) := HT.out.trans (tid_step (w3 := w3) HS.out HO.out (stg_length ps k j) rfl hg3)
      have HK3 : Hid (K + 1 + 1 + p.1.2.2.length = kAt (ps.map (·.1)) k (j + 1)) := by
        show _ = _
        rw [kAt_succ _ k j p.1 HPM.out, ← HK.out]; omega
      clear ST hown3 hg3
      go_wp2
      go_roundw
      case rel => exact ⟨j + 1, _, by omega, by go_num, rfl, HK3, HO3, HM3, HT3⟩
      case measure => simp [intOf]; omega
    · have HJ : Hid (j = ps.length) := by show _ = _; omega
      have HO2 : Hid (OwnRecs wr lo hi (.slice (some ⟨g, 0, none⟩) ps.length cap) (stg ps k ps.length)) := by
        have := HO.out; rw [HJ.out] at this; exact this
      have HK2 : Hid (kAt (ps.map (·.1)) k ps.length = K) := by show _ = _; rw [HK.out, HJ.out]
      go_wp2
      go_ret
      exact ⟨by rw [HK2.out]; rfl, HO2.out, HM.out, HT.out⟩

theorem markLogT_any (v : Value) (ps : List (R × Value)) (f k : Int) (lo hi : Nat) (w : World) (ho : OwnRecs w lo hi v ps) (hl : tot (ps.map (·.1)) ≤ 1048576) (hk0 : 0 ≤ k) (hk1 : k ≤ 1000) :
    Calls Tryz.prog 25 #[.agg #[v, .int .i64 f], .int .i64 k] w fun e w' => e = .returned (.int .i64 (kAt (ps.map (·.1)) k ps.length)) ∧ OwnRecs w' lo hi v (stg ps k ps.length) ∧ Mid lo hi w w' ∧ Tid w w' := by
  have HS : Hid (∀ o, Calls Tryz.prog 48 #[v, .int .i64 k] (w.alloc o) fun e w' => e = .returned (.int .i64 (kAt (ps.map (·.1)) k ps.length)) ∧ OwnRecs w' lo hi v (stg ps k ps.length) ∧ Mid lo hi w w' ∧ Tid w w') := fun o => by
    have hb := (Below.refl w.heap.size w).alloc (Nat.le_refl _) o
    refine (markRecsT_any v ps k lo hi (w.alloc o) (ho.below hb ho.2.2.1) hl hk0 hk1).mono ?_
    rintro e w' ⟨h1, h2, h3, h4⟩
    exact ⟨h1, h2, (Mid.of_below hb (Nat.le_refl _)).trans h3, (Tid.of_below hb).trans h4⟩
  obtain ⟨ao, cap, rfl⟩ := row_shape ho.1
  clear ho
  go_enter Tryz.func25, Tryz.ntmps25
  go_wp2_with (go_at_call 48; refine (HS.out _).mono ?_; rintro e w1 ⟨rfl, h2, h3, h4⟩)
  go_ret
  exact ⟨rfl, by assumption, by assumption, by assumption⟩

end Go.Proofs.YtgknnigjlnfplaaGreatDoor

namespace Go.Proofs.YtgknnigjlnfplaaGreatDoor
open Go.RowKit

/-- The lists of a desk in memory of their own, from lo on and below hi. -/
def DkTy (w : World) (lo hi : Nat) (v u : Value) (ps : List (R × Value)) (ws : List Wd) : Prop :=
  OwnRecs w lo hi v ps ∧ w.ownsRow lo 39 4 u ws.length (wflat ws) ∧ ∀ g, u.ownBlock = some g → g < hi
theorem DkTy.below {w w' : World} {lo hi B : Nat} {v u : Value} {ps : List (R × Value)} {ws : List Wd} (h : DkTy w lo hi v u ps ws) (hb : Below B w w') (hB : hi ≤ B) : DkTy w' lo hi v u ps ws :=
  ⟨h.1.below hb hB, ownsRow_below h.2.1 hb (fun g hg => by have := h.2.2 g hg; omega), h.2.2⟩
theorem DkTy.mid {w w' : World} {l0 h0 lo hi : Nat} {v u : Value} {ps : List (R × Value)} {ws : List Wd} (h : DkTy w l0 h0 v u ps ws) (hb : Mid lo hi w w') (hB : hi ≤ l0) : DkTy w' l0 h0 v u ps ws :=
  ⟨h.1.mid hb hB, ownsRow_mid h.2.1 hb (fun g hg => Or.inr (by have := (h.2.1.lt g hg).1; omega)), h.2.2⟩
theorem DkTy.at' {w : World} {lo hi : Nat} {v u : Value} {ps : List (R × Value)} {rs : List R} {ws : List Wd} (h : DkTy w lo hi v u ps ws) (hp : ps.map (·.1) = rs) : DkAt w v u rs ws := ⟨hp ▸ h.1.recs, words_of_row h.2.1⟩
theorem OwnRecs.lo' {w : World} {lo lo' hi : Nat} {v : Value} {ps : List (R × Value)} (h : OwnRecs w lo hi v ps) (hl : lo' ≤ lo) : OwnRecs w lo' hi v ps :=
  ⟨ownsRow_base h.1 hl, h.2.1, h.2.2.1, fun p hp => ⟨ownsRow_base (h.2.2.2.1 p hp).1 hl, (h.2.2.2.1 p hp).2⟩, h.2.2.2.2⟩
theorem OwnRecs.hi' {w : World} {lo hi hi' : Nat} {v : Value} {ps : List (R × Value)} (h : OwnRecs w lo hi v ps) (hl : hi ≤ hi') (hs : hi' ≤ w.heap.size) : OwnRecs w lo hi' v ps :=
  ⟨h.1, fun k hk => by have := h.2.1 k hk; omega, h.2.2.mono hl hs⟩
theorem DkTy.lo {w : World} {lo lo' hi : Nat} {v u : Value} {ps : List (R × Value)} {ws : List Wd} (h : DkTy w lo hi v u ps ws) (hl : lo' ≤ lo) : DkTy w lo' hi v u ps ws := ⟨h.1.lo' hl, ownsRow_base h.2.1 hl, h.2.2⟩
theorem DkTy.hi {w : World} {lo hi hi' : Nat} {v u : Value} {ps : List (R × Value)} {ws : List Wd} (h : DkTy w lo hi v u ps ws) (hl : hi ≤ hi') (hs : hi' ≤ w.heap.size) : DkTy w lo hi' v u ps ws := ⟨h.1.hi' hl hs, h.2.1, fun g hg => by have := h.2.2 g hg; omega⟩
theorem DkOwn.ty {w : World} {lo hi : Nat} {v u : Value} {ps : List (R × Value)} {ws : List Wd} (h : DkOwn w lo hi v u ps ws) : DkTy w lo hi v u ps ws := by
  obtain ⟨h0, l, t, h1, h2, h3, h4, h5⟩ := h
  exact ⟨(h3.lo' h1).hi' h2 h0, h4, fun g hg => (h5 g hg).1⟩
theorem DkTy.forms {w : World} {lo hi : Nat} {v u : Value} {ps : List (R × Value)} {rs : List R} {ws : List Wd} (h : DkTy w lo hi v u ps ws) (hp : ps.map (·.1) = rs) : Form v rs.length ∧ Form u ws.length := by
  have hl : ps.length = rs.length := by have := congrArg List.length hp; simpa using this
  exact ⟨hl ▸ form_of_row h.1.1, form_of_row h.2.1⟩

/-- A desk and a yes or no come back, the desk in memory of the call's own. -/
def DkOut2 (w w' : World) (e : Ending) (up : Bool) (rs : List R) (f : Int) (ws : List Wd) (b : Bool) : Prop :=
  ∃ ao cap au cu ps, e = .returned (.tuple #[deskV up (.slice ao rs.length cap) f (.slice au ws.length cu), .bool b]) ∧ ps.map (·.1) = rs ∧ DkTy w' w.heap.size w'.heap.size (.slice ao rs.length cap) (.slice au ws.length cu) ps ws ∧ Below w.heap.size w w'
/-- A desk comes back, in memory of the call's own; its lists may lie mixed. -/
def DkOutT (w w' : World) (e : Ending) (up : Bool) (rs : List R) (f : Int) (ws : List Wd) : Prop :=
  ∃ ao cap au cu ps, e = .returned (deskV up (.slice ao rs.length cap) f (.slice au ws.length cu)) ∧ ps.map (·.1) = rs ∧ DkTy w' w.heap.size w'.heap.size (.slice ao rs.length cap) (.slice au ws.length cu) ps ws ∧ Below w.heap.size w w'

set_option maxHeartbeats 2000000 in
theorem markDeskT_any (up : Bool) (v u : Value) (ps : List (R × Value)) (f : Int) (ws : List Wd) (k : Int) (lo hi : Nat) (w : World) (ho : DkTy w lo hi v u ps ws) (hl : tot (ps.map (·.1)) ≤ 1048576) (hlw : ws.length ≤ 1048576) (hk0 : 0 ≤ k) (hk1 : k ≤ 1000) :
    Calls Tryz.prog 10 #[deskV up v f u, .int .i64 k] w fun e w' => e = .returned (.int .i64 (kDk (ps.map (·.1)) k ws.length)) ∧ DkAt w' v u (markAll (ps.map (·.1)) k) (markW ws.length (kAt (ps.map (·.1)) k ps.length)) ∧ Mid lo hi w w' := by
  obtain ⟨h3, h4, h5⟩ := ho
  have hKb := kAt_bd (ps.map (·.1)) k ps.length (by simp) hl hk0 hk1
  have hll : (ps.map (·.1)).length = ps.length := by simp
  have hlo : ∀ g, u.ownBlock = some g → lo ≤ g := fun g hg => (h4.lt g hg).1
  have hhi := h3.2.2.1
  have HS : Hid (∀ o, Calls Tryz.prog 25 #[.agg #[v, .int .i64 f], .int .i64 k] (w.alloc o) fun e w' => e = .returned (.int .i64 (kAt (ps.map (·.1)) k ps.length)) ∧ OwnRecs w' lo hi v (stg ps k ps.length) ∧ Mid lo hi (w.alloc o) w' ∧ Tid (w.alloc o) w') := fun o =>
    markLogT_any v ps f k lo hi (w.alloc o) (h3.below (alloc_below w o) hhi) hl hk0 hk1
  have HW : Hid (∀ w1, w1.ownsRow lo 39 4 u ws.length (wflat ws) → Calls Tryz.prog 26 #[u, .int .i64 (kAt (ps.map (·.1)) k ps.length)] w1 fun e w' => e = .returned (.int .i64 (kAt (ps.map (·.1)) k ps.length + 4 * ws.length)) ∧ w'.ownsRow lo 39 4 u ws.length (wflat (markW ws.length (kAt (ps.map (·.1)) k ps.length))) ∧ w1.grownBy w' u.ownBlock) := fun w1 h =>
    markWords_any u ws _ lo ws.length w1 h hlw hKb.1 (by omega)
  have HR : Hid (∀ o w1, Tid (w.alloc o) w1 → w1.ownsRow lo 39 4 u ws.length (wflat ws)) := fun o w1 hm => hm.row (h4.alloc o) (by decide) (by decide)
  have HF : Hid (∀ o w1 w2, Mid lo hi (w.alloc o) w1 → OwnRecs w1 lo hi v (stg ps k ps.length) → w1.ownsRow lo 39 4 u ws.length (wflat ws) → w1.grownBy w2 u.ownBlock → w2.ownsRow lo 39 4 u ws.length (wflat (markW ws.length (kAt (ps.map (·.1)) k ps.length))) →
      DkAt w2 v u (markAll (ps.map (·.1)) k) (markW ws.length (kAt (ps.map (·.1)) k ps.length)) ∧ Mid lo hi w w2) := fun o w1 w2 hm hw hr1 hg hr => by
    have apart : ∀ {x : Value} {e : TypeId} {sz n : Nat} {xs : List Value}, w1.ownsRow lo e sz x n xs → e ≠ 39 → x.ownBlock = none ∨ x.ownBlock ≠ u.ownBlock := fun {x e sz n xs} hx he => by
      cases hxo : x.ownBlock with
      | none => exact Or.inl rfl
      | some b =>
        refine Or.inr fun eq => ?_
        obtain ⟨_, q⟩ := hr1
        rcases q with ⟨hv, _⟩ | ⟨g, cap, cur, hv, hgl, hh, _⟩
        · rw [hv] at eq; simp [Value.ownBlock] at eq
        · rw [hv] at eq
          simp [Value.ownBlock] at eq
          subst eq
          exact row_apart hx hh he b hxo rfl
    have keep : OwnRecs w2 lo hi v (stg ps k ps.length) := by
      obtain ⟨q1, q2, q3⟩ := hw
      exact ⟨q1.kept hg (apart q1 (by decide)), q2, q3.kept hg fun p hp => apart (q3.2.1 p hp).1 (by decide)⟩
    refine ⟨⟨?_, ?_⟩, ?_⟩
    · have := keep.recs
      rw [stg_all] at this
      exact this
    · have hlen : (markW ws.length (kAt (ps.map (·.1)) k ps.length)).length = ws.length := markW_length _ _
      have hr' : w2.ownsRow lo 39 4 u (markW ws.length (kAt (ps.map (·.1)) k ps.length)).length (wflat (markW ws.length (kAt (ps.map (·.1)) k ps.length))) := by rw [hlen]; exact hr
      exact words_of_row hr'
    · exact ((Mid.of_below (alloc_below w o) (Nat.le_refl _)).trans hm).trans (Mid.of_grown hg (fun j hj => ⟨hlo j hj, h5 j hj⟩))
  obtain ⟨av, cv, rfl⟩ := row_shape h3.1
  obtain ⟨au, cu, rfl⟩ := row_shape h4
  have HE : Hid (kDk (ps.map (·.1)) k ws.length = kAt (ps.map (·.1)) k ps.length + 4 * ws.length) := by show _ = _; unfold kDk; rw [hll]
  rw [HE.out]
  obtain ⟨K, hK⟩ : ∃ x, kAt (ps.map (·.1)) k ps.length = x := ⟨_, rfl⟩
  rw [hK] at HS HW HF hKb ⊢
  have X0 : Hid (∀ o, Blk (w.alloc (.cells #[.bool up, .slice av ps.length cv, .int .i64 f, .slice au ws.length cu] o)) w.heap.size #[.bool up, .slice av ps.length cv, .int .i64 f, .slice au ws.length cu] o) := fun o => Blk.new _ _ _
  have hwt := hide_it hhi
  clear h3 h4 h5 hlo hll hK HE hhi
  go_enter Tryz.func10, Tryz.ntmps10
  go_wp2_with fail
  refine (HS.out _).mono ?_
  rintro e w1 ⟨rfl, ho1, hm1, ht1⟩
  obtain ⟨x0, x1, x2, x3⟩ := ((X0.out 36).mid hm1 (Or.inr hwt.out)).cells4
  have R1 := hide_it (HR.out _ w1 ht1)
  have F1 := hide_it (fun w2 => HF.out _ w1 w2 hm1 ho1 (HR.out _ w1 ht1))
  clear ho1 hm1 ht1
  go_wp2_with fail
  refine (HW.out w1 R1.out).mono ?_
  rintro e w2 ⟨rfl, hr2, hg2⟩
  have G2 := hide_it (F1.out w2 hg2 hr2)
  clear hr2 hg2
  go_wp2
  go_ret
  exact ⟨rfl, G2.out.1, G2.out.2⟩

end Go.Proofs.YtgknnigjlnfplaaGreatDoor

namespace Go.Proofs.YtgknnigjlnfplaaGreatDoor.T
open Go.RowKit

theorem tripsOk_mk {rs : List R} (h1 : rs.all tOk = true) (h2 : rs.length ≤ 6) : tripsOk rs = true := by unfold tripsOk; rw [h1]; simp [h2]
theorem tripsOk_all {rs : List R} (h : tripsOk rs = true) : rs.all tOk = true ∧ rs.length ≤ 6 := by
  unfold tripsOk at h
  simp only [Bool.and_eq_true, decide_eq_true_eq] at h
  exact h

/-- Ok trips behind a record that may come are ok. -/
theorem doL_ok {rs : List R} {r : Rc} (h : tripsOk rs = true) (h1 : rOk r = true) (h2 : mayL rs r = true) : tripsOk (doL rs r) = true := by
  obtain ⟨ha, hl⟩ := tripsOk_all h
  have hf := ((fit_ok h).doL h1 h2).1
  refine tripsOk_mk ?_ hf
  unfold doL
  by_cases h4 : r.1 = 4
  · rw [if_pos h4, List.all_append, ha]
    have : tOk (r.2.2, 1) = true := by unfold tOk; rw [rOk_begin h1 h4]; rfl
    simp [this]
  · rw [if_neg h4]
    obtain ⟨x, hx⟩ := mayL_at h2 h4
    have hn : nextS x.2 r.1 ≠ 0 := by
      unfold mayL at h2
      rw [if_neg h4, tripAt_get hx] at h2
      simpa using h2
    rw [tripAt_get hx]
    rw [List.all_eq_true]
    intro y hy
    rcases List.mem_or_eq_of_mem_set hy with hy | hy
    · exact List.all_eq_true.1 ha y hy
    · subst hy
      have hxo := List.all_eq_true.1 ha x (List.mem_of_getElem? hx)
      unfold tOk at hxo ⊢
      simp only [Bool.and_eq_true] at hxo ⊢
      have := nextS_nz hn
      exact ⟨hxo.1, Pl.inB_mk (by omega) (by omega)⟩

theorem runT_ok {qs : List Rc} {rs : List R} (h : runT qs = some rs) : tripsOk rs = true := by
  have key : ∀ k, k ≤ qs.length → ∀ rs, runT (qs.take k) = some rs → tripsOk rs = true := by
    intro k
    induction k with
    | zero => intro _ rs h; rw [List.take_zero, runT_nil] at h; cases h; rfl
    | succ k ih =>
      intro hk rs h
      have hg : qs[k]? = some qs[k] := List.getElem?_eq_getElem (by omega)
      rw [take_snoc hg, runT_snoc] at h
      cases hr : runT (qs.take k) with
      | none => rw [hr] at h; cases h
      | some xs =>
        rw [hr] at h
        have h' : stepT xs qs[k] = some rs := h
        unfold stepT at h'
        split at h'
        · next hb =>
          simp only [Option.some.injEq] at h'
          subst h'
          simp only [Bool.and_eq_true] at hb
          exact doL_ok (ih (by omega) xs hr) hb.1 hb.2
        · cases h'
  refine key qs.length (Nat.le_refl _) rs ?_
  rw [List.take_length]; exact h

theorem nextS_twice (s k : Int) : nextS (nextS s k) k = 0 := by
  unfold nextS
  by_cases a : k = 5 ∧ s = 1
  · rw [if_pos a]; simp [a.1]
  rw [if_neg a]
  by_cases b : k = 6 ∧ s = 1
  · rw [if_pos b]; simp [b.1]
  rw [if_neg b]
  by_cases c : k = 7 ∧ s = 2
  · rw [if_pos c]; simp
  rw [if_neg c]
  by_cases d : k = 7 ∧ s = 3
  · rw [if_pos d]; simp
  rw [if_neg d]
  simp

/-- What came does not come again. -/
theorem again_no {rs : List R} {r : Rc} (h1 : rOk r = true) (h2 : mayL rs r = true) : mayL (doL rs r) r = false := by
  obtain ⟨k, t, zs⟩ := r
  obtain ⟨ht1, _⟩ := rOk_trip h1
  dsimp only at ht1
  by_cases h4 : k = 4
  · subst h4
    rw [mayL_4] at h2
    simp at h2
    rw [show doL rs (4, t, zs) = rs ++ [(zs, 1)] by unfold doL; rw [if_pos rfl], mayL_4]
    simp; omega
  · obtain ⟨x, hx⟩ := mayL_at h2 h4
    dsimp only at hx
    have hl := len_lt hx
    have hd : doL rs (k, t, zs) = rs.set (t - 1).toNat (x.1, nextS x.2 k) := by
      unfold doL
      rw [if_neg h4]
      dsimp only
      rw [tripAt_get hx]
    rw [hd, mayL_at' h4 (x := (x.1, nextS x.2 k)) (by rw [List.getElem?_set, if_pos rfl, if_pos hl]), nextS_twice]
    rfl

end Go.Proofs.YtgknnigjlnfplaaGreatDoor.T

namespace Go.Proofs.YtgknnigjlnfplaaGreatDoor.T
open Go.RowKit

/-- How many records make such a trip. -/
def wt (r : R) : Nat := if r.2 = 1 then 1 else if r.2 = 2 ∨ r.2 = 3 then 2 else 3
theorem wt_le (r : R) : wt r ≤ 3 := by
  unfold wt
  split
  · omega
  · split
    · omega
    · omega
theorem wts_le (rs : List R) : (rs.map wt).sum ≤ 3 * rs.length := by
  induction rs with
  | nil => simp
  | cons a t ih =>
    have := wt_le a
    simp only [List.map_cons, List.sum_cons, List.length_cons]
    omega
theorem wts_set (rs : List R) (i : Nat) (x y : R) (h : rs[i]? = some x) (hy : wt y = wt x + 1) : ((rs.set i y).map wt).sum = (rs.map wt).sum + 1 := by
  induction rs generalizing i with
  | nil => simp at h
  | cons a t ih =>
    cases i with
    | zero =>
      simp at h
      subst h
      simp only [List.set_cons_zero, List.map_cons, List.sum_cons]
      omega
    | succ i =>
      have := ih i (by simpa using h)
      simp only [List.set_cons_succ, List.map_cons, List.sum_cons]
      omega
theorem wt_next {s k : Int} {zs : List Int} (h : nextS s k ≠ 0) : wt (zs, nextS s k) = wt (zs, s) + 1 := by
  unfold nextS at h ⊢
  unfold wt
  split
  · next h1 => simp [h1.2]
  · split
    · next h1 h2 => simp [h2.2]
    · split
      · next h1 h2 h3 => simp [h3.2]
      · split
        · next h1 h2 h3 h4 => simp [h4.2]
        · next h1 h2 h3 h4 => simp [h1, h2, h3, h4] at h
theorem wts_do {rs : List R} {r : Rc} (h2 : mayL rs r = true) : ((doL rs r).map wt).sum = (rs.map wt).sum + 1 := by
  unfold doL
  by_cases h4 : r.1 = 4
  · rw [if_pos h4]
    simp [wt]
  · rw [if_neg h4]
    obtain ⟨x, hx⟩ := mayL_at h2 h4
    have hn : nextS x.2 r.1 ≠ 0 := by
      unfold mayL at h2
      rw [if_neg h4, tripAt_get hx] at h2
      simpa using h2
    rw [tripAt_get hx]
    exact wts_set rs _ x _ hx (wt_next hn)
theorem runT_wts {qs : List Rc} {rs : List R} (h : runT qs = some rs) : (rs.map wt).sum = qs.length := by
  have key : ∀ k, k ≤ qs.length → ∀ rs, runT (qs.take k) = some rs → (rs.map wt).sum = k := by
    intro k
    induction k with
    | zero => intro _ rs h; rw [List.take_zero, runT_nil] at h; cases h; rfl
    | succ k ih =>
      intro hk rs h
      have hg : qs[k]? = some qs[k] := List.getElem?_eq_getElem (by omega)
      rw [take_snoc hg, runT_snoc] at h
      cases hr : runT (qs.take k) with
      | none => rw [hr] at h; cases h
      | some xs =>
        rw [hr] at h
        have h' : stepT xs qs[k] = some rs := h
        unfold stepT at h'
        split at h'
        · next hb =>
          simp only [Option.some.injEq] at h'
          subst h'
          simp only [Bool.and_eq_true] at hb
          rw [wts_do hb.2, ih (by omega) xs hr]
        · cases h'
  exact key qs.length (Nat.le_refl _) rs (by rw [List.take_length]; exact h)
/-- Records that make trips are at most eighteen. -/
theorem runT_room {qs : List Rc} {rs : List R} (h : runT qs = some rs) : qs.length ≤ 18 := by
  have h1 := runT_wts h
  have h2 := wts_le rs
  have h3 := (runT_fit h).1
  omega

end Go.Proofs.YtgknnigjlnfplaaGreatDoor.T

namespace Go.Proofs.YtgknnigjlnfplaaGreatDoor
open Go.RowKit

/-- A log and a yes or no come back, the log in memory of the call's own. -/
def LogOut2 (w w' : World) (e : Ending) (rs : List R) (f : Int) (b : Bool) : Prop :=
  ∃ ao cap, e = .returned (.tuple #[.agg #[.slice ao rs.length cap, .int .i64 f], .bool b]) ∧ Made w' w.heap.size (.slice ao rs.length cap) rs ∧ Below w.heap.size w w'

def addOk (rs : List R) (f : Int) (r : R) : Bool := logOk rs f && rOk r
def addR (rs : List R) (f : Int) (r : R) : List R := if addOk rs f r then (if rs.length = 40 then rs else rs ++ [r]) else []
def addF (rs : List R) (f : Int) (r : R) : Int := if addOk rs f r then f else 0
def addB (rs : List R) (f : Int) (r : R) : Bool := addOk rs f r && decide (rs.length ≠ 40)

/-- The three blocks of a call that takes a log and a record and gives back a log. -/
def Trio (w : World) (B : Nat) (v : Value) (f : Int) (r : R) (u : Value) : Prop :=
  w.heap[B]? = some (.cells #[v, .int .i64 f] 33 (0, 0)) ∧ w.heap[B + 1]? = some (.cells #[.int .i64 r.1, .int .i64 r.2.1, u] 81 (0, 0)) ∧ w.heap[B + 2]? = some (.cells #[.slice none 0 0, .int .i64 0] 33 (0, 0))

theorem Trio.size {w : World} {B : Nat} {v : Value} {f : Int} {r : R} {u : Value} (h : Trio w B v f r u) : B + 2 < w.heap.size := lt_of_heap h.2.2
theorem Trio.later {w w' : World} {B L : Nat} {v : Value} {f : Int} {r : R} {u : Value} (h : Trio w B v f r u) (hb : Below L w w') (hL : B + 3 ≤ L) : Trio w' B v f r u := by
  obtain ⟨h0, h1, h2⟩ := h
  exact ⟨by rw [hb.block B (by omega)]; exact h0, by rw [hb.block (B + 1) (by omega)]; exact h1, by rw [hb.block (B + 2) (by omega)]; exact h2⟩
theorem Trio.new (w : World) (v : Value) (f : Int) (r : R) (u : Value) : Trio (((w.alloc (.cells #[v, .int .i64 f] 33)).alloc (.cells #[.int .i64 r.1, .int .i64 r.2.1, u] 81)).alloc (.cells #[.slice none 0 0, .int .i64 0] 33)) w.heap.size v f r u := by
  refine ⟨?_, ?_, ?_⟩
  · rw [Below.heap_alloc _ _ _ (by simp; omega), Below.heap_alloc _ _ _ (by simp)]; exact heap_alloc_new w _
  · rw [Below.heap_alloc _ _ _ (by simp)]
    have := heap_alloc_new (w.alloc (.cells #[v, .int .i64 f] 33)) (.cells #[.int .i64 r.1, .int .i64 r.2.1, u] 81)
    rw [size1] at this
    exact this
  · have := heap_alloc_new ((w.alloc (.cells #[v, .int .i64 f] 33)).alloc (.cells #[.int .i64 r.1, .int .i64 r.2.1, u] 81)) (.cells #[.slice none 0 0, .int .i64 0] 33)
    rw [size2] at this
    exact this
theorem Trio.cells {w : World} {B : Nat} {v : Value} {f : Int} {r : R} {u : Value} (h : Trio w B v f r u) :
    (w.cell? ⟨B, 0, none⟩ = some v ∧ w.cell? ⟨B, 1, none⟩ = some (.int .i64 f)) ∧ (w.cell? ⟨B + 1, 0, none⟩ = some (.int .i64 r.1) ∧ w.cell? ⟨B + 1, 1, none⟩ = some (.int .i64 r.2.1) ∧ w.cell? ⟨B + 1, 2, none⟩ = some u) ∧
    (w.cell? ⟨B + 2, 0, none⟩ = some (.slice none 0 0) ∧ w.cell? ⟨B + 2, 1, none⟩ = some (.int .i64 0) ∧ w.frozen? ⟨B + 2, 0, none⟩ = false ∧ w.frozen? ⟨B + 2, 1, none⟩ = false) := by
  obtain ⟨h0, h1, h2⟩ := h
  refine ⟨⟨?_, ?_⟩, ⟨?_, ?_, ?_⟩, ⟨?_, ?_, frozen_of_row w _ _ _ _ h2, frozen_of_row w _ _ _ _ h2⟩⟩
  · rw [cell_of_row w _ _ _ _ _ h0]; rfl
  · rw [cell_of_row w _ _ _ _ _ h0]; rfl
  · rw [cell_of_row w _ _ _ _ _ h1]; rfl
  · rw [cell_of_row w _ _ _ _ _ h1]; rfl
  · rw [cell_of_row w _ _ _ _ _ h1]; rfl
  · rw [cell_of_row w _ _ _ _ _ h2]; rfl
  · rw [cell_of_row w _ _ _ _ _ h2]; rfl

theorem set2 (w : World) (b2 : Nat) (x y : Value) {b o : Nat} (h : b ≠ b2) : ((w.setCell ⟨b2, 0, none⟩ x).setCell ⟨b2, 1, none⟩ y).cell? ⟨b, o, none⟩ = w.cell? ⟨b, o, none⟩ := by
  rw [World.cell?_of_block (w := w.setCell ⟨b2, 0, none⟩ x) (a := ⟨b, o, none⟩) (Below.heap_setCell _ _ _ _ h), World.cell?_of_block (w := w) (a := ⟨b, o, none⟩) (Below.heap_setCell _ _ _ _ h)]

theorem addRow {w3 w4 : World} {lo n cap3 : Nat} {a3 : Option Addr} {ps : List (R × Value)} (ho : OwnRecs w3 lo w3.heap.size (.slice a3 n cap3) ps) (hpl : ps.length = n) (hb : Below w3.heap.size w3 w4) (o : Obj) :
    (w4.alloc o).ownsRow lo 81 3 (.slice a3 n cap3) n (flat ps) := by
  have h := ho.1
  rw [hpl] at h
  exact (ownsRow_below h hb (fun j hj => (h.lt j hj).2)).alloc o

theorem addBelow {W w5 : World} {lo n cap3 : Nat} {a3 : Option Addr} {xs : List Value} (hr : W.ownsRow lo 81 3 (.slice a3 n cap3) n xs) (hg : W.grownBy w5 (Value.slice a3 n cap3).ownBlock) (hlo : lo ≤ W.heap.size) : Below lo W w5 :=
  (Below.refl _ _).grown hg hlo (fun k hk => (hr.lt k hk).1)

/-- What comes of a list with one more record. -/
theorem implAdd_step {w3 w4 w5 : World} {lo n cap3 g5 cap5 cap4 : Nat} {a3 a4 : Option Addr} {rs : List R} {ps : List (R × Value)} {r : R} {o : Obj} (hlo : lo ≤ w3.heap.size) (hps : ps.map (·.1) = rs) (ho : OwnRecs w3 lo w3.heap.size (.slice a3 n cap3) ps) (hb : Below w3.heap.size w3 w4)
    (hown4 : w4.ownsRow (w3.heap.size + 2) 3 1 (.slice a4 r.2.2.length cap4) r.2.2.length (r.2.2.map (Value.int .i64)))
    (hown5 : w5.ownsRow lo 81 3 (.slice (some ⟨g5, 0, none⟩) (n + 1) cap5) (n + 1) (flat ps ++ [.int .i64 r.1, .int .i64 r.2.1, .slice a4 r.2.2.length cap4]))
    (hg5 : (w4.alloc o).grownBy w5 (Value.slice a3 n cap3).ownBlock) : Made w5 lo (.slice (some ⟨g5, 0, none⟩) (n + 1) cap5) (rs ++ [r]) := by
  have hpl : ps.length = n := by
    have h1 := hown5.1
    rw [List.length_append, flat_length] at h1
    simp at h1; omega
  have row4 := addRow ho hpl hb o
  have al := (Below.refl w4.heap.size w4).alloc (Nat.le_refl _) o
  have hs : (w4.alloc o).heap.size = w4.heap.size + 1 := by simp
  have hbs := hb.size
  have in4 : Inner (w4.alloc o) lo w3.heap.size ps := (ho.2.2.below hb (Nat.le_refl _)).below al hbs
  have lo3 : lo ≤ w3.heap.size + 2 := by omega
  rw [← hpl] at row4 hown5 hg5
  have st := append_step (r := r) row4 in4 (by omega) ((ownsRow_base hown4 lo3).alloc o) (fun k hk => by have := hown4.lt k hk; omega) hown5 hg5
  refine ⟨ps ++ [(r, .slice a4 r.2.2.length cap4)], by rw [List.map_append, hps]; rfl, ?_⟩
  rw [← hpl]
  exact ⟨st.1, fun k hk => (st.1.lt k hk).2, st.2⟩

set_option maxRecDepth 100000 in
set_option maxHeartbeats 4000000 in
theorem implAdd_any (v : Value) (rs : List R) (f : Int) (r : R) (u : Value) (a : Addr) (w : World) (hv : Recs w v rs) (hl : tot rs ≤ 1048576) (hu : Ints w u r.2.2) (hrl : r.2.2.length ≤ 1048576) (ha : ErrAt w a) :
    Calls Tryz.prog 71 #[.agg #[v, .int .i64 f], .agg #[.int .i64 r.1, .int .i64 r.2.1, u]] w fun e w' => LogOut2 w w' e (addR rs f r) (addF rs f r) (addB rs f r) := by
  obtain ⟨i0, hi, hz0, hz1, hz2⟩ := info_parts infoRec
  have hrsl := tot_len rs
  have HV : Hid (∀ W, Below w.heap.size w W → Recs W v rs) := fun W h => hv.later h (Nat.le_refl _)
  have HU : Hid (∀ W, Below w.heap.size w W → Ints W u r.2.2) := fun W h => hu.later h (Nat.le_refl _)
  have HA : Hid (∀ W, Below w.heap.size w W → ErrAt W a) := fun W h => ha.later h (Nat.le_refl _)
  have HT := hide_it (Trio.new w v f r u)
  obtain ⟨av, cv, hvs⟩ := hv.shape
  obtain ⟨au, cu, hus⟩ := hu.shape
  clear hv hu ha
  subst hvs hus
  have HS : Hid (∀ o1 o2 o3, Calls Tryz.prog 38 #[.agg #[.slice av rs.length cv, .int .i64 f]] (((w.alloc o1).alloc o2).alloc o3) fun e w' => e = .returned (.bool (logOk rs f)) ∧ Below (w.heap.size + 3) (((w.alloc o1).alloc o2).alloc o3) w') := fun o1 o2 o3 => by
    have := implLogOk_any _ rs f a _ (HV.out _ (below3 w o1 o2 o3)) hl (HA.out _ (below3 w o1 o2 o3))
    rw [size3] at this
    exact this
  cases hok : logOk rs f
  · have HR : Hid (addR rs f r = [] ∧ addF rs f r = 0 ∧ addB rs f r = false) := by refine ⟨?_, ?_, ?_⟩ <;> simp [addR, addF, addB, addOk, hok]
    rw [hok] at HS
    clear hok
    go_enter Tryz.func71, Tryz.ntmps71
    go_wp2_with fail
    refine (HS.out _ _ _).mono ?_
    rintro e w1 ⟨rfl, hb⟩
    have HB := hide_it ((below3 w _ _ _).trans (hb.mono (by omega)))
    have HT1 := hide_it (HT.out.later hb (Nat.le_refl _))
    obtain ⟨⟨l0, l1⟩, ⟨q0, q1, q2⟩, ⟨r0, r1, z0, z1⟩⟩ := HT1.out.cells
    have hz : w.heap.size + 3 ≤ w1.heap.size := by have := hb.size; rw [size3] at this; exact this
    clear hb
    go_wp2
    refine bodyPost_ret (v := .tuple #[.agg #[.slice none 0 0, .int .i64 0], .bool false]) (by simp [results, Tryz.results71, go_sem, r0, r1]) rfl ?_
    unfold LogOut2
    rw [HR.out.1, HR.out.2.1, HR.out.2.2]
    refine ⟨none, 0, rfl, Made.none _ _, ?_⟩
    exact (HB.out.setCell (by simp; omega) _).setCell (by simp; omega) _
  have HQ : Hid (∀ W, Below w.heap.size w W → Calls Tryz.prog 60 #[.agg #[.int .i64 r.1, .int .i64 r.2.1, .slice au r.2.2.length cu]] W fun e w' => e = .returned (.bool (rOk r)) ∧ Below W.heap.size W w') := fun W h => implOk_any r.1 r.2.1 _ r.2.2 a W (HU.out _ h) hrl (HA.out _ h)
  cases hrok : rOk r
  · have HR : Hid (addR rs f r = [] ∧ addF rs f r = 0 ∧ addB rs f r = false) := by refine ⟨?_, ?_, ?_⟩ <;> simp [addR, addF, addB, addOk, hrok]
    rw [hok] at HS
    rw [hrok] at HQ
    clear hok hrok
    go_enter Tryz.func71, Tryz.ntmps71
    go_wp2_with fail
    refine (HS.out _ _ _).mono ?_
    rintro e w1 ⟨rfl, hb⟩
    have HB := hide_it ((below3 w _ _ _).trans (hb.mono (by omega)))
    have HT1 := hide_it (HT.out.later hb (Nat.le_refl _))
    obtain ⟨⟨l0, l1⟩, ⟨q0, q1, q2⟩, -⟩ := HT1.out.cells
    have hz : w.heap.size + 3 ≤ w1.heap.size := by have := hb.size; rw [size3] at this; exact this
    clear hb
    go_wp2_with fail
    refine (HQ.out _ HB.out).mono ?_
    rintro e w2 ⟨rfl, hb2⟩
    have HB2 := hide_it (HB.out.trans (hb2.mono HB.out.size))
    have HT2 := hide_it (HT1.out.later hb2 (by omega))
    obtain ⟨-, -, ⟨r0, r1, z0, z1⟩⟩ := HT2.out.cells
    clear hb2
    go_wp2
    refine bodyPost_ret (v := .tuple #[.agg #[.slice none 0 0, .int .i64 0], .bool false]) (by simp [results, Tryz.results71, go_sem, r0, r1]) rfl ?_
    unfold LogOut2
    rw [HR.out.1, HR.out.2.1, HR.out.2.2]
    refine ⟨none, 0, rfl, Made.none _ _, ?_⟩
    exact (HB2.out.setCell (by simp; omega) _).setCell (by simp; omega) _
  obtain ⟨hf0, hfn, hn40⟩ := logOk_f hok
  rw [hok] at HS
  rw [hrok] at HQ
  have HOK : Hid (addOk rs f r = true) := by show _ = _; simp [addOk, hok, hrok]
  clear hok hrok
  go_enter Tryz.func71, Tryz.ntmps71
  go_wp2_with fail
  refine (HS.out _ _ _).mono ?_
  rintro e w1 ⟨rfl, hb⟩
  have HB := hide_it ((below3 w _ _ _).trans (hb.mono (by omega)))
  have HT1 := hide_it (HT.out.later hb (Nat.le_refl _))
  obtain ⟨⟨l0, l1⟩, ⟨q0, q1, q2⟩, -⟩ := HT1.out.cells
  have hz : w.heap.size + 3 ≤ w1.heap.size := by have := hb.size; rw [size3] at this; exact this
  clear hb
  go_wp2_with fail
  refine (HQ.out _ HB.out).mono ?_
  rintro e w2 ⟨rfl, hb2⟩
  have HB2 := hide_it (HB.out.trans (hb2.mono HB.out.size))
  have HT2 := hide_it (HT1.out.later hb2 (by omega))
  have hzz : w.heap.size + 3 ≤ w2.heap.size := Nat.le_trans hz hb2.size
  clear hb2 l0 l1 q0 q1 q2
  obtain ⟨⟨l0, l1⟩, -, -⟩ := HT2.out.cells
  go_wp2_with fail
  refine (copyRecs_any _ rs w2 (HV.out _ HB2.out) hl).mono ?_
  rintro e w3 ⟨a3, cap3, rfl, hm3, hb3⟩
  have HB3 := hide_it (HB2.out.trans (hb3.mono HB2.out.size))
  have HT3 := hide_it (HT2.out.later hb3 hzz)
  have HM3 := hide_it hm3
  have hz3 : w.heap.size + 3 ≤ w3.heap.size := Nat.le_trans hzz hb3.size
  have HZ23 := hide_it hb3.size
  clear hm3 hb3 l0 l1
  by_cases h40 : (rs.length : Int) = 40
  · have HR : Hid (addR rs f r = rs ∧ addF rs f r = f ∧ addB rs f r = false) := by
      have h4 : rs.length = 40 := by omega
      refine ⟨?_, ?_, ?_⟩ <;> simp [addR, addF, addB, HOK.out, h4]
    obtain ⟨⟨l0, l1⟩, -, ⟨r0, r1, z0, z1⟩⟩ := HT3.out.cells
    go_wp2
    refine bodyPost_ret (v := .tuple #[.agg #[.slice a3 rs.length cap3, .int .i64 f], .bool false]) (by simp [results, Tryz.results71, go_sem, r0, r1]) rfl ?_
    unfold LogOut2
    rw [HR.out.1, HR.out.2.1, HR.out.2.2]
    refine ⟨a3, cap3, rfl, ?_, ?_⟩
    · exact ((HM3.out.setBelow (by simp; omega) _).setBelow (by simp; omega) _).lo (by omega)
    · exact (HB3.out.setCell (by simp; omega) _).setCell (by simp; omega) _
  · have HR : Hid (addR rs f r = rs ++ [r] ∧ addF rs f r = f ∧ addB rs f r = true) := by
      have h4 : ¬ rs.length = 40 := by omega
      refine ⟨?_, ?_, ?_⟩ <;> simp [addR, addF, addB, HOK.out, h4]
    obtain ⟨⟨l0, l1⟩, ⟨q0, q1, q2⟩, -⟩ := HT3.out.cells
    obtain ⟨ps, hps, ho3⟩ := HM3.out
    have HPS := hide_it hps
    have HPL : Hid (ps.length = rs.length) := by have := congrArg List.length hps; show _ = _; simpa using this
    have HO3 := hide_it ho3
    clear hps ho3
    go_wp2_with fail
    go_region_held_law (fun w' => w'.cell? ⟨w.heap.size + 1, 0, none⟩ = some (.int .i64 r.1) ∧ w'.cell? ⟨w.heap.size + 1, 1, none⟩ = some (.int .i64 r.2.1) ∧ w'.cell? ⟨w.heap.size + 1, 2, none⟩ = some (.slice au r.2.2.length cu) ∧ w'.cell? ⟨w.heap.size, 1, none⟩ = some (.int .i64 f)) (first | (refine ⟨(set2 _ _ _ _ ?_).trans ?_, (set2 _ _ _ _ ?_).trans ?_, (set2 _ _ _ _ ?_).trans ?_, (set2 _ _ _ _ ?_).trans ?_⟩ <;> first | omega | assumption) | go_keep)
      (first
        | (refine step_append_lies _ rfl _ _ 31 rfl w2.heap.size 81 i0 (.agg #[.int .i64 0, .int .i64 0, .slice none 0 0]) 3 40 Tryz.underlying31 hi hz0 hz1 hz2 rfl (by decide) (.slice a3 rs.length cap3) rs.length (flat ps) rfl (by exact (ROW4.out _)) ⟨w4.heap.size, 0, none⟩ 1 1 [.int .i64 r.1, .int .i64 r.2.1, .slice a4 r.2.2.length cap4] rfl rfl (by exact news3 _ _ _ _ _) (by exact one3 _ _ _) (by decide) (by unfold maxLen; omega) (by omega) (by have := HZ23.out; simp; omega) _ rfl ?_; intro g5 cap5 w5 hown5 hgrow5 _ _; have ST := hide_it (implAdd_step HZ23.out HPS.out HO3.out HB4.out HW4.out hown5 hgrow5); have LO5 := hide_it (addBelow (ROW4.out _) hgrow5 (by have := HZ23.out; simp; omega)); obtain ⟨⟨m0, m1⟩, ⟨s0, s1, s2⟩, ⟨e0, e1, e2, e3⟩⟩ := ((HT4.out.later (alloc_below _ _) (by omega)).later LO5.out hzz).cells; have hz5 : w.heap.size + 3 ≤ w5.heap.size := (by have := LO5.out.size; simp at this; omega); clear hown5 hgrow5)
        | (go_simp; go_at_call 84; refine (copyRec_any r.1 r.2.1 _ r.2.2 _ ?_ hrl).mono ?_; exact HU.out _ HB3.out.drew; rintro e w4 ⟨a4, cap4, rfl, hown4, hb4⟩; have HB4 := hide_it ((Below.refl w3.heap.size w3).drew.trans hb4); have HW4 := hide_it hown4; have HT4 := hide_it (HT3.out.later HB4.out hz3); obtain ⟨⟨m0, m1⟩, ⟨s0, s1, s2⟩, ⟨e0, e1, e2, e3⟩⟩ := HT4.out.cells; have m1o := (fun x => cellAlloc m1 x); have s0o := (fun x => cellAlloc s0 x); have s1o := (fun x => cellAlloc s1 x); have s2o := (fun x => cellAlloc s2 x); have hz4 : w.heap.size + 3 ≤ w4.heap.size := Nat.le_trans hz3 HB4.out.size; have hz24 : w2.heap.size ≤ w4.heap.size := Nat.le_trans HZ23.out HB4.out.size; have ROW4 : Hid (∀ o, (w4.alloc o).ownsRow w2.heap.size 81 3 (.slice a3 rs.length cap3) rs.length (flat ps)) := (fun o => addRow HO3.out HPL.out HB4.out o); clear hown4 hb4))
    have BE5 := hide_it ((((HB3.out.trans (HB4.out.mono (by omega))).alloc (by omega) _).trans (LO5.out.mono (show w.heap.size ≤ w2.heap.size by omega))))
    have HLr : Hid ((rs ++ [r]).length = rs.length + 1) := by show _ = _; simp
    go_wp2
    refine bodyPost_ret (v := .tuple #[.agg #[.slice (some ⟨g5, 0, none⟩) (rs.length + 1) cap5, .int .i64 f], .bool true]) (by simp [results, Tryz.results71, go_sem, e0, e1]) rfl ?_
    unfold LogOut2
    rw [HR.out.1, HR.out.2.1, HR.out.2.2, HLr.out]
    refine ⟨_, cap5, rfl, ?_, ?_⟩
    · exact ((ST.out.setBelow (by simp; omega) _).setBelow (by simp; omega) _).lo (by omega)
    · exact (BE5.out.setCell (by simp; omega) _).setCell (by simp; omega) _

end Go.Proofs.YtgknnigjlnfplaaGreatDoor
