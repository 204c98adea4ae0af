/- FnLogLess answers true whatever the codes, and they read afterwards as they read before: promise 10 at every drawn log. The card: the sentinel's variable starts as the program's text lays it. -/
import Derived.Test.YtaogachhmdmoaaaDoorBase2
import Derived.Deep.RegionHeld

namespace Go.Proofs.YtaogachhmdmoaaaDoor
open Go.RowKit

set_option maxHeartbeats 2000000 in
theorem drawLogOk_any (v : Value) (n : Nat) (w : World) (hv : CodeAt w v n) (hn : n ≤ 1048576) :
    Calls Tryd.prog 18 #[v] w fun e w' => ∃ u f rs, e = .returned (.agg #[u, .int .i64 f]) ∧ GotLog w w' u rs := by
  have HO : Hid (∀ o, Calls Tryd.prog 19 #[v] (w.alloc o) fun e w' => e = .returned (.pointer (some ⟨w.heap.size + 1, 0, none⟩)) ∧ Rd w' (w.heap.size + 1) 0 ∧ w'.heap.size = w.heap.size + 2 ∧ Below (w.heap.size + 1) (w.alloc o) w') := fun o => by
    have := open_any v n (w.alloc o) (hv.later (alloc_below w o) (Nat.le_refl _)) hn
    rw [size1] at this
    exact this
  obtain ⟨ao, cap, rfl, _⟩ := hv
  go_enter Tryd.func18, Tryd.ntmps18
  go_wp2_with fail
  refine (HO.out _).mono ?_
  rintro e w1 ⟨rfl, hr1, hs1, hb1⟩
  have R1 := hide_it hr1
  have B1 := hide_it ((alloc_below w _).trans (hb1.mono (by omega)))
  have Z1 : Hid (Blk w1 w.heap.size #[.slice none 0 0, .int .i64 0] 31) := by show Blk _ _ _ _; exact (by rw [hb1.block _ (by omega)]; exact heap_alloc_new w _ : w1.heap[w.heap.size]? = some (.cells #[.slice none 0 0, .int .i64 0] 31 (0, 0)))
  have S1 := hide_it hs1
  clear hr1 hb1 hs1
  go_wp2_with fail
  refine (log_draw (w.heap.size + 1) 0 w1 R1.out (by omega)).mono ?_
  rintro e w2 ⟨u, f, ps, q, L, rfl, hl, hq0, hq4, hs⟩
  obtain ⟨au, cu, hus⟩ : ∃ ao cap, u = .slice ao ps.length cap := row_shape hs.row
  subst hus
  have LO := hide_it hs
  have Z2 := hide_it (Z1.out.mid hs.mid (Or.inl (by omega)))
  have S2 : Hid (w.heap.size + 2 ≤ w2.heap.size) := by show _ ≤ _; have := hs.mid.size; have := S1.out; omega
  obtain ⟨w3, hw3⟩ : ∃ W, Hid (W = w2.alloc (.cells #[.slice au ps.length cu, .int .i64 f] 31)) := ⟨_, rfl⟩
  have M3 : Hid (Mid (w.heap.size + 1) (w.heap.size + 1 + 1) w2 w3) := by show Mid _ _ _ _; rw [hw3.out]; exact (Mid.refl _ _ _).alloc _
  have R3 : Hid (Rd w3 (w.heap.size + 1) q) := by show Rd _ _ _; rw [hw3.out]; exact hs.rd.alloc _
  have L3 : Hid (Blk w3 w2.heap.size #[.slice au ps.length cu, .int .i64 f] 31) := by show Blk _ _ _ _; rw [hw3.out]; exact Blk.new _ _ _
  have Z3 : Hid (Blk w3 w.heap.size #[.slice none 0 0, .int .i64 0] 31) := by show Blk _ _ _ _; rw [hw3.out]; exact Z2.out.alloc _
  clear hs Z2
  go_wp2_with fail
  rw [← hw3.out]
  refine (pick_any _ q 4 _ R3.out (by omega) (by omega) (by omega)).mono ?_
  rintro e w4 ⟨x, rfl, lx, ux, r4, m4⟩
  have M4 := hide_it (M3.out.trans m4)
  have R4 := hide_it r4
  have L4 := hide_it (L3.out.mid m4 (Or.inr (by have := S2.out; omega)))
  have Z4 := hide_it (Z3.out.mid m4 (Or.inl (by omega)))
  clear r4 m4
  obtain ⟨l0, l1⟩ := L4.out.cells2
  obtain ⟨z0, z1⟩ := Z4.out.cells2
  have zf0 := Z4.out.free 0
  have zf1 := Z4.out.free 1
  by_cases hx : x = 0
  · have hxb : (x == 0) = true := by simpa using hx
    clear hx l0 l1 z0 z1 zf0 zf1
    go_wp2_with fail
    refine (pick_any _ (q + 1) 12 _ R4.out (by omega) (by omega) (by omega)).mono ?_
    rintro e w5 ⟨y, rfl, ly, uy, r5, m5⟩
    have M5 := hide_it (M4.out.trans m5)
    have R5 := hide_it r5
    have L5 := hide_it (L4.out.mid m5 (Or.inr (by have := S2.out; omega)))
    have Z5 := hide_it (Z4.out.mid m5 (Or.inl (by omega)))
    clear r5 m5
    have hw1 : IntKind.i64.wrap (y - 1) = y - 1 := by simp [IntKind.wrap, IntKind.bits, IntKind.signed]; omega
    obtain ⟨l0, l1⟩ := L5.out.cells2
    have lf1 := L5.out.free 1
    have ZS := hide_it (Z5.out.other (a := ⟨w2.heap.size, 1, none⟩) (by have := S2.out; simp; omega) (.int .i64 (y - 1)))
    have LS := hide_it (L5.out.set_ 1 (.int .i64 (y - 1)))
    obtain ⟨z0, z1⟩ := ZS.out.cells2
    have zf0 := ZS.out.free 0
    have zf1 := ZS.out.free 1
    obtain ⟨k0, k1⟩ := LS.out.cells2
    have M6 := hide_it (M5.out.setNew (Nat.le_refl w2.heap.size) (i := 1) (.int .i64 (y - 1)))
    have R6 := hide_it (R5.out.setApart (g := w2.heap.size) (i := 1) (by have := S2.out; omega) (.int .i64 (y - 1)))
    go_wp2
    refine bodyPost_ret (v := .agg #[.slice au ps.length cu, .int .i64 (y - 1)]) (by simp [results, Tryd.results18, go_sem, *]) rfl ⟨_, y - 1, ps.map (·.1), rfl, ?_⟩
    exact GotLog.of B1.out (by omega) (LO.out.step M6.out R6.out) hl (set2_mid _ _ _ _) (by have := S1.out; omega) (Nat.le_refl _)
  · have hxb : (x == 0) = false := by simpa using hx
    clear hx
    go_wp2
    refine bodyPost_ret (v := .agg #[.slice au ps.length cu, .int .i64 f]) (by simp [results, Tryd.results18, go_sem, z0, z1]) rfl ⟨_, f, ps.map (·.1), rfl, ?_⟩
    exact GotLog.of B1.out (by omega) (LO.out.step M4.out R4.out) hl (set2_mid _ _ _ _) (by have := S1.out; omega) (Nat.le_refl _)

end Go.Proofs.YtaogachhmdmoaaaDoor

namespace Go.Proofs.YtaogachhmdmoaaaDoor
open Go.RowKit

theorem sl_drew {w0 w1 : World} (h : Below w0.drew.heap.size w0.drew w1) : Below w0.heap.size w0 w1 := (Below.refl w0.heap.size w0).drew.trans h

set_option maxRecDepth 100000 in
set_option maxHeartbeats 8000000 in
theorem lawP10_small (vc : Value) (nc : Nat) (am : Option Addr) (nm cm : Nat) (a : Addr) (w : World) (hc : CodeAt w vc nc) (hcn : nc ≤ 1048576) (hmn : nm ≤ 1048576) (ha : ErrAt w a) :
    Calls Tryd.prog 5 #[vc, .slice am nm cm] w fun e w' => e = .returned (.bool true) ∧ Below w.heap.size w w' := by
  have HD := hide_it (drawLogOk_any vc nc w hc hcn)
  have HA : Hid (∀ W, Below w.heap.size w W → ErrAt W a) := fun W hb => ha.later hb (Nat.le_refl _)
  obtain ⟨ac, cc, rfl, _⟩ := hc
  have hci : (nc : Int) ≤ 1048576 := by omega
  have hmi : (nm : Int) ≤ 1048576 := by omega
  clear hcn ha hmn
  go_enter Tryd.func5, Tryd.ntmps5
  go_wp2_with fail
  refine HD.out.mono ?_
  rintro e w1 ⟨u, f, rs, rfl, hu, hform, htot, hb1⟩
  obtain ⟨au, cu, hus⟩ := hu.shape
  subst hus
  have hl : tot rs ≤ 1048576 := by omega
  have U1 := hide_it hu
  have FU := hide_it hform
  have B1 := hide_it hb1
  clear hu hform hb1 htot HD
  obtain ⟨BB, hBB⟩ : ∃ b, Hid (logOk rs f = b) := ⟨_, rfl⟩
  have HIM : Hid (∀ W, Recs W (.slice au rs.length cu) rs → ErrAt W a → Calls Tryd.prog 17 #[.agg #[.slice au rs.length cu, .int .i64 f]] W fun e w' => e = .returned (.bool BB) ∧ Below W.heap.size W w') := fun W h h2 => by
    have := implLogOk_any _ rs f a W h hl h2; rw [hBB.out] at this; exact this
  have HSP : Hid (∀ W, Recs W (.slice au rs.length cu) rs → Calls Tryd.prog 14 #[.agg #[.slice au rs.length cu, .int .i64 f]] W fun e w' => e = .returned (.bool BB) ∧ Below W.heap.size W w') := fun W h => by
    have := specLogOk_any _ rs f W h hl; rw [hBB.out] at this; exact this
  obtain ⟨w2, hw2⟩ : ∃ W, Hid (W = w1.alloc (.cells #[.slice au rs.length cu, .int .i64 f] 31)) := ⟨_, rfl⟩
  have alw2 : Below w1.heap.size w1 w2 := by rw [hw2.out]; exact alloc_below _ _
  replace B1 := hide_it (B1.out.trans (alw2.mono B1.out.size))
  replace U1 := hide_it (U1.out.later alw2 (Nat.le_refl _))
  have L : Hid (Blk w2 (w1.heap.size) #[.slice au rs.length cu, .int .i64 f] 31) := by show Blk _ _ _ _; rw [hw2.out]; exact Blk.new _ _ _
  clear alw2
  go_wp2_with fail
  rw [← hw2.out]
  refine (HIM.out _ U1.out (HA.out _ B1.out)).mono ?_
  rintro e w3 ⟨rfl, hb⟩
  replace B1 := hide_it (B1.out.trans (hb.mono B1.out.size))
  replace U1 := hide_it (U1.out.later hb (Nat.le_refl _))
  replace L := hide_it (L.out.after hb)
  clear hb
  obtain ⟨L_0, L_1⟩ := L.out.cells2
  go_wp2_with fail
  refine (HSP.out _ U1.out).mono ?_
  rintro e w4 ⟨rfl, hb⟩
  clear L_0 L_1
  replace B1 := hide_it (B1.out.trans (hb.mono B1.out.size))
  replace U1 := hide_it (U1.out.later hb (Nat.le_refl _))
  replace L := hide_it (L.out.after hb)
  clear hb
  cases BB
  · skip
    obtain ⟨L_0, L_1⟩ := L.out.cells2
    go_wp2_with fail
    refine (HSP.out _ U1.out).mono ?_
    rintro e w5 ⟨rfl, hb⟩
    clear L_0 L_1
    replace B1 := hide_it (B1.out.trans (hb.mono B1.out.size))
    replace U1 := hide_it (U1.out.later hb (Nat.le_refl _))
    replace L := hide_it (L.out.after hb)
    clear hb
    go_wp2
    go_ret
    exact ⟨rfl, B1.out⟩
  · have hbb := hBB.out
    obtain ⟨hf0, hfn, h40⟩ := logOk_f hbb
    obtain ⟨N, hN⟩ : ∃ N : Nat, nm % (rs.length + 1) = N := ⟨_, rfl⟩
    have hNl : N ≤ rs.length := by rw [← hN]; have := Nat.mod_lt nm (show 0 < rs.length + 1 by omega); omega
    have hNt : Int.tmod (nm : Int) ((rs.length : Int) + 1) = (N : Int) := by
      rw [← hN]
      have : ((rs.length : Int) + 1) = ((rs.length + 1 : Nat) : Int) := by simp
      rw [this]
      exact (Int.ofNat_tmod _ _).symm
    have hNz : ¬ ((rs.length : Int) + 1 = 0) := by omega
    have hco : (rs.length : Int) ≤ (cu : Int) := by rcases FU.out with ⟨h, h2⟩ | ⟨g, cap, h, hc⟩ <;> simp only [Value.slice.injEq] at h <;> omega
    have hNc : (N : Int) ≤ (cu : Int) := by omega
    have hw1 : IntKind.i64.wrap ((rs.length : Int) + 1) = (rs.length : Int) + 1 := by simp [IntKind.wrap, IntKind.bits, IntKind.signed]; omega
    have hw2 : IntKind.i64.wrap (N : Int) = (N : Int) := by simp [IntKind.wrap, IntKind.bits, IntKind.signed]; omega
    have hw3 : IntKind.i64.wrap ((N : Int) + 1) = (N : Int) + 1 := by simp [IntKind.wrap, IntKind.bits, IntKind.signed]; omega
    obtain ⟨M, hM⟩ : ∃ M, (if f < (N : Int) then f else (N : Int)) = M := ⟨_, rfl⟩
    have hTl : (rs.take N).length = N := by rw [List.length_take]; omega
    have hMb : 0 ≤ M ∧ M ≤ N := by rw [← hM]; split <;> omega
    have OK1 : logOk (rs.take N) M = true := by
      simp only [logOk, Bool.and_eq_true, decide_eq_true_eq] at hbb ⊢
      exact ⟨List.all_eq_true.2 fun x hx => List.all_eq_true.1 hbb.1 x (List.mem_of_mem_take hx), by omega, Pl.inB_mk (by omega) (by rw [hTl]; omega)⟩
    have OK2 : logOk (rs.take N) ((N : Int) + 1) = false := by
      cases e : logOk (rs.take N) ((N : Int) + 1) with
      | false => rfl
      | true => have := (logOk_f e).2.1; rw [hTl] at this; omega
    have OK3 : logOk rs (-1) = false := by
      cases e : logOk rs (-1) with
      | false => rfl
      | true => have := (logOk_f e).1; omega
    have hTt : tot (rs.take N) ≤ 1048576 := Nat.le_trans (pre_take rs N hNl) hl
    have RT : Hid (∀ W, Below w4.heap.size w4 W → Recs W (.slice au N cu) (rs.take N)) := fun W hb => (U1.out.later hb (Nat.le_refl _)).take hNl
    have I1 : Hid (∀ W, Recs W (.slice au N cu) (rs.take N) → ErrAt W a → Calls Tryd.prog 17 #[.agg #[.slice au N cu, .int .i64 M]] W fun e w' => e = .returned (.bool true) ∧ Below W.heap.size W w') := fun W h h2 => by
      have := implLogOk_any _ _ M a W h hTt h2; rw [OK1] at this; exact this
    have I2 : Hid (∀ W, Recs W (.slice au N cu) (rs.take N) → ErrAt W a → Calls Tryd.prog 17 #[.agg #[.slice au N cu, .int .i64 ((N : Int) + 1)]] W fun e w' => e = .returned (.bool false) ∧ Below W.heap.size W w') := fun W h h2 => by
      have := implLogOk_any _ _ ((N : Int) + 1) a W h hTt h2; rw [OK2] at this; exact this
    have I3 : Hid (∀ W, Recs W (.slice au rs.length cu) rs → ErrAt W a → Calls Tryd.prog 17 #[.agg #[.slice au rs.length cu, .int .i64 (-1)]] W fun e w' => e = .returned (.bool false) ∧ Below W.heap.size W w') := fun W h h2 => by
      have := implLogOk_any _ _ (-1) a W h hl h2; rw [OK3] at this; exact this
    clear hbb hN hTl hMb OK1 OK2 OK3 hf0 hfn h40 hTt hBB HIM HSP hco
    have E9 : Hid (Below w4.heap.size w4 w4) := Below.refl _ _
    obtain ⟨L_0, L_1⟩ := L.out.cells2
    go_wp2_with fail
    have KB : Hid (∀ W, Below w4.heap.size w4 W → (W.cell? ⟨w1.heap.size, 0, none⟩ = some (.slice au rs.length cu) ∧ W.cell? ⟨w1.heap.size, 1, none⟩ = some (.int .i64 f))) := fun W hb => (L.out.after hb).cells2
    clear L_0 L_1
    have LB : Hid (Below w4.heap.size w4 w4) := Below.refl _ _
    have hdr : Below w4.heap.size w4 w4.drew := (Below.refl _ _).drew
    replace B1 := hide_it (B1.out.trans (hdr.mono B1.out.size))
    replace U1 := hide_it (U1.out.later hdr (Nat.le_refl _))
    replace L := hide_it (L.out.after hdr)
    replace E9 := hide_it (E9.out.trans (hdr.mono E9.out.size))
    replace LB := hide_it (LB.out.trans (hdr.mono LB.out.size))
    clear hdr
    refine wp_region_held_drew (S := fun w' => (w'.cell? ⟨w1.heap.size, 0, none⟩ = some (.slice au rs.length cu) ∧ w'.cell? ⟨w1.heap.size, 1, none⟩ = some (.int .i64 f))) (by kernel_rfl) (KB.out _ (Below.refl _ _).drew) (fun hHeld => ?_)
    refine takeD (i := 0) (v := ?_) (some 39) rfl rfl (by kernel_rfl) (by kernel_rfl) (by kernel_rfl) (fun _ _ _ h => h) (by rfl) hHeld ?_ ?_
    rotate_left
    · intro W hSw
      try dsimp only at hSw
      go_simp
      try with_reducible rfl
    try simp only [Act.put]
    try simp only [List.setIfInBounds_toArray]
    try simp only [List.set_cons_succ]
    try simp only [List.set_cons_zero]
    refine takeD (i := 1) (v := ?_) (some 40) rfl rfl (by kernel_rfl) (by kernel_rfl) (by kernel_rfl) (fun _ _ _ h => h) (by rfl) hHeld ?_ ?_
    rotate_left
    · intro W hSw
      try dsimp only at hSw
      go_simp
      try with_reducible rfl
    try simp only [Act.put]
    try simp only [List.setIfInBounds_toArray]
    try simp only [List.set_cons_succ]
    try simp only [List.set_cons_zero]
    refine takeD (i := 2) (v := ?_) (some 41) rfl rfl (by kernel_rfl) (by kernel_rfl) (by kernel_rfl) (fun _ _ _ h => h) (by rfl) hHeld ?_ ?_
    rotate_left
    · intro W hSw
      try dsimp only at hSw
      go_simp
      try with_reducible rfl
    try simp only [Act.put]
    try simp only [List.setIfInBounds_toArray]
    try simp only [List.set_cons_succ]
    try simp only [List.set_cons_zero]
    refine takeD (i := 3) (v := ?_) (some 42) rfl rfl (by kernel_rfl) (by kernel_rfl) (by kernel_rfl) (fun _ _ _ h => h) (by rfl) hHeld ?_ ?_
    rotate_left
    · intro W hSw
      try dsimp only at hSw
      go_simp
      try with_reducible rfl
    try simp only [Act.put]
    try simp only [List.setIfInBounds_toArray]
    try simp only [List.set_cons_succ]
    try simp only [List.set_cons_zero]
    refine takeD (i := 4) (v := ?_) (some 43) rfl rfl (by kernel_rfl) (by kernel_rfl) (by kernel_rfl) (fun _ _ _ h => h) (by rfl) hHeld ?_ ?_
    rotate_left
    · intro W hSw
      try dsimp only at hSw
      go_simp
      try with_reducible rfl
    try simp only [Act.put]
    try simp only [List.setIfInBounds_toArray]
    try simp only [List.set_cons_succ]
    try simp only [List.set_cons_zero]
    refine takeD (i := 5) (v := ?_) (some 44) rfl rfl (by kernel_rfl) (by kernel_rfl) (by kernel_rfl) (fun _ _ _ h => h) (by rfl) hHeld ?_ ?_
    rotate_left
    · intro W hSw
      try dsimp only at hSw
      go_simp
      try with_reducible rfl
    try simp only [Act.put]
    try simp only [List.setIfInBounds_toArray]
    try simp only [List.set_cons_succ]
    try simp only [List.set_cons_zero]
    refine takeD (i := 6) (v := ?_) (some 45) rfl rfl (by kernel_rfl) (by kernel_rfl) (by kernel_rfl) (fun _ _ _ h => h) (by rfl) hHeld ?_ ?_
    rotate_left
    · intro W hSw
      try dsimp only at hSw
      go_simp
      try with_reducible rfl
    try simp only [Act.put]
    try simp only [List.setIfInBounds_toArray]
    try simp only [List.set_cons_succ]
    try simp only [List.set_cons_zero]
    refine takeD (i := 7) (v := ?_) (some 46) rfl rfl (by kernel_rfl) (by kernel_rfl) (by kernel_rfl) (fun _ _ _ h => h) (by rfl) hHeld ?_ ?_
    rotate_left
    · intro W hSw
      try dsimp only at hSw
      go_simp
      try with_reducible rfl
    try simp only [Act.put]
    try simp only [List.setIfInBounds_toArray]
    try simp only [List.set_cons_succ]
    try simp only [List.set_cons_zero]
    refine takeD (i := 8) (v := ?_) (some 47) rfl rfl (by kernel_rfl) (by kernel_rfl) (by kernel_rfl) (fun _ _ _ h => h) (by rfl) hHeld ?_ ?_
    rotate_left
    · intro W hSw
      try dsimp only at hSw
      go_simp
      try with_reducible rfl
    try simp only [Act.put]
    try simp only [List.setIfInBounds_toArray]
    try simp only [List.set_cons_succ]
    try simp only [List.set_cons_zero]
    refine wpAnyH_ready (rs := [9]) (by kernel_rfl) (by simp) ?_
    refine AllReadyH.cons rfl (fun K hK => ?_) AllReadyH.nil
    go_simp
    refine (I1.out _ (RT.out _ E9.out) (HA.out _ B1.out)).mono ?_
    rintro e w5 ⟨rfl, hb⟩
    replace B1 := hide_it (B1.out.trans (hb.mono B1.out.size))
    replace U1 := hide_it (U1.out.later hb (Nat.le_refl _))
    replace L := hide_it (L.out.after hb)
    replace E9 := hide_it (E9.out.trans (hb.mono E9.out.size))
    replace LB := hide_it (LB.out.trans (hb.mono LB.out.size))
    clear hb
    try dsimp only
    refine hK.out _ _ (KB.out _ LB.out) (fun hHeld => ?_)
    clear hK K
    refine takeD (i := 10) (v := ?_) (some 49) rfl rfl (by kernel_rfl) (by kernel_rfl) (by kernel_rfl) (fun _ _ _ h => h) (by rfl) hHeld ?_ ?_
    rotate_left
    · intro W hSw
      try dsimp only at hSw
      go_simp
      try with_reducible rfl
    try simp only [Act.put]
    try simp only [List.setIfInBounds_toArray]
    try simp only [List.set_cons_succ]
    try simp only [List.set_cons_zero]
    refine takeD (i := 11) (v := ?_) (some 50) rfl rfl (by kernel_rfl) (by kernel_rfl) (by kernel_rfl) (fun _ _ _ h => h) (by rfl) hHeld ?_ ?_
    rotate_left
    · intro W hSw
      try dsimp only at hSw
      go_simp
      try with_reducible rfl
    try simp only [Act.put]
    try simp only [List.setIfInBounds_toArray]
    try simp only [List.set_cons_succ]
    try simp only [List.set_cons_zero]
    refine takeD (i := 12) (v := ?_) (some 51) rfl rfl (by kernel_rfl) (by kernel_rfl) (by kernel_rfl) (fun _ _ _ h => h) (by rfl) hHeld ?_ ?_
    rotate_left
    · intro W hSw
      try dsimp only at hSw
      go_simp
      try with_reducible rfl
    try simp only [Act.put]
    try simp only [List.setIfInBounds_toArray]
    try simp only [List.set_cons_succ]
    try simp only [List.set_cons_zero]
    refine takeD (i := 13) (v := ?_) (some 52) rfl rfl (by kernel_rfl) (by kernel_rfl) (by kernel_rfl) (fun _ _ _ h => h) (by rfl) hHeld ?_ ?_
    rotate_left
    · intro W hSw
      try dsimp only at hSw
      go_simp
      try with_reducible rfl
    try simp only [Act.put]
    try simp only [List.setIfInBounds_toArray]
    try simp only [List.set_cons_succ]
    try simp only [List.set_cons_zero]
    refine takeD (i := 14) (v := ?_) (some 53) rfl rfl (by kernel_rfl) (by kernel_rfl) (by kernel_rfl) (fun _ _ _ h => h) (by rfl) hHeld ?_ ?_
    rotate_left
    · intro W hSw
      try dsimp only at hSw
      go_simp
      try with_reducible rfl
    try simp only [Act.put]
    try simp only [List.setIfInBounds_toArray]
    try simp only [List.set_cons_succ]
    try simp only [List.set_cons_zero]
    refine takeD (i := 15) (v := ?_) (some 54) rfl rfl (by kernel_rfl) (by kernel_rfl) (by kernel_rfl) (fun _ _ _ h => h) (by rfl) hHeld ?_ ?_
    rotate_left
    · intro W hSw
      try dsimp only at hSw
      go_simp
      try with_reducible rfl
    try simp only [Act.put]
    try simp only [List.setIfInBounds_toArray]
    try simp only [List.set_cons_succ]
    try simp only [List.set_cons_zero]
    refine takeD (i := 16) (v := ?_) (some 55) rfl rfl (by kernel_rfl) (by kernel_rfl) (by kernel_rfl) (fun _ _ _ h => h) (by rfl) hHeld ?_ ?_
    rotate_left
    · intro W hSw
      try dsimp only at hSw
      go_simp
      try with_reducible rfl
    try simp only [Act.put]
    try simp only [List.setIfInBounds_toArray]
    try simp only [List.set_cons_succ]
    try simp only [List.set_cons_zero]
    refine takeD (i := 17) (v := ?_) (some 56) rfl rfl (by kernel_rfl) (by kernel_rfl) (by kernel_rfl) (fun _ _ _ h => h) (by rfl) hHeld ?_ ?_
    rotate_left
    · intro W hSw
      try dsimp only at hSw
      go_simp
      try with_reducible rfl
    try simp only [Act.put]
    try simp only [List.setIfInBounds_toArray]
    try simp only [List.set_cons_succ]
    try simp only [List.set_cons_zero]
    refine wpAnyH_ready (rs := [18]) (by kernel_rfl) (by simp) ?_
    refine AllReadyH.cons rfl (fun K hK => ?_) AllReadyH.nil
    go_simp
    refine (I2.out _ (RT.out _ E9.out) (HA.out _ B1.out)).mono ?_
    rintro e w6 ⟨rfl, hb⟩
    replace B1 := hide_it (B1.out.trans (hb.mono B1.out.size))
    replace U1 := hide_it (U1.out.later hb (Nat.le_refl _))
    replace L := hide_it (L.out.after hb)
    replace E9 := hide_it (E9.out.trans (hb.mono E9.out.size))
    replace LB := hide_it (LB.out.trans (hb.mono LB.out.size))
    clear hb
    try dsimp only
    refine hK.out _ _ (KB.out _ LB.out) (fun hHeld => ?_)
    clear hK K
    refine takeD (i := 19) (v := ?_) (some 58) rfl rfl (by kernel_rfl) (by kernel_rfl) (by kernel_rfl) (fun _ _ _ h => h) (by rfl) hHeld ?_ ?_
    rotate_left
    · intro W hSw
      try dsimp only at hSw
      go_simp
      try with_reducible rfl
    try simp only [Act.put]
    try simp only [List.setIfInBounds_toArray]
    try simp only [List.set_cons_succ]
    try simp only [List.set_cons_zero]
    refine takeD (i := 20) (v := ?_) (some 59) rfl rfl (by kernel_rfl) (by kernel_rfl) (by kernel_rfl) (fun _ _ _ h => h) (by rfl) hHeld ?_ ?_
    rotate_left
    · intro W hSw
      try dsimp only at hSw
      go_simp
      try with_reducible rfl
    try simp only [Act.put]
    try simp only [List.setIfInBounds_toArray]
    try simp only [List.set_cons_succ]
    try simp only [List.set_cons_zero]
    refine takeD (i := 21) (v := ?_) (some 60) rfl rfl (by kernel_rfl) (by kernel_rfl) (by kernel_rfl) (fun _ _ _ h => h) (by rfl) hHeld ?_ ?_
    rotate_left
    · intro W hSw
      try dsimp only at hSw
      go_simp
      try with_reducible rfl
    try simp only [Act.put]
    try simp only [List.setIfInBounds_toArray]
    try simp only [List.set_cons_succ]
    try simp only [List.set_cons_zero]
    refine takeD (i := 22) (v := ?_) (some 61) rfl rfl (by kernel_rfl) (by kernel_rfl) (by kernel_rfl) (fun _ _ _ h => h) (by rfl) hHeld ?_ ?_
    rotate_left
    · intro W hSw
      try dsimp only at hSw
      go_simp
      try with_reducible rfl
    try simp only [Act.put]
    try simp only [List.setIfInBounds_toArray]
    try simp only [List.set_cons_succ]
    try simp only [List.set_cons_zero]
    refine takeD (i := 23) (v := ?_) (some 62) rfl rfl (by kernel_rfl) (by kernel_rfl) (by kernel_rfl) (fun _ _ _ h => h) (by rfl) hHeld ?_ ?_
    rotate_left
    · intro W hSw
      try dsimp only at hSw
      go_simp
      try with_reducible rfl
    try simp only [Act.put]
    try simp only [List.setIfInBounds_toArray]
    try simp only [List.set_cons_succ]
    try simp only [List.set_cons_zero]
    refine takeD (i := 24) (v := ?_) (some 63) rfl rfl (by kernel_rfl) (by kernel_rfl) (by kernel_rfl) (fun _ _ _ h => h) (by rfl) hHeld ?_ ?_
    rotate_left
    · intro W hSw
      try dsimp only at hSw
      go_simp
      try with_reducible rfl
    try simp only [Act.put]
    try simp only [List.setIfInBounds_toArray]
    try simp only [List.set_cons_succ]
    try simp only [List.set_cons_zero]
    refine wpAnyH_ready (rs := [25]) (by kernel_rfl) (by simp) ?_
    refine AllReadyH.cons rfl (fun K hK => ?_) AllReadyH.nil
    go_simp
    refine (I3.out _ U1.out (HA.out _ B1.out)).mono ?_
    rintro e w7 ⟨rfl, hb⟩
    replace B1 := hide_it (B1.out.trans (hb.mono B1.out.size))
    replace U1 := hide_it (U1.out.later hb (Nat.le_refl _))
    replace L := hide_it (L.out.after hb)
    replace E9 := hide_it (E9.out.trans (hb.mono E9.out.size))
    replace LB := hide_it (LB.out.trans (hb.mono LB.out.size))
    clear hb
    try dsimp only
    refine hK.out _ _ (KB.out _ LB.out) (fun hHeld => ?_)
    clear hK K
    refine takeD (i := 26) (v := ?_) (some 65) rfl rfl (by kernel_rfl) (by kernel_rfl) (by kernel_rfl) (fun _ _ _ h => h) (by rfl) hHeld ?_ ?_
    rotate_left
    · intro W hSw
      try dsimp only at hSw
      go_simp
      try with_reducible rfl
    try simp only [Act.put]
    try simp only [List.setIfInBounds_toArray]
    try simp only [List.set_cons_succ]
    try simp only [List.set_cons_zero]
    refine takeD (i := 27) (v := ?_) (some 66) rfl rfl (by kernel_rfl) (by kernel_rfl) (by kernel_rfl) (fun _ _ _ h => h) (by rfl) hHeld ?_ ?_
    rotate_left
    · intro W hSw
      try dsimp only at hSw
      go_simp
      try with_reducible rfl
    try simp only [Act.put]
    try simp only [List.setIfInBounds_toArray]
    try simp only [List.set_cons_succ]
    try simp only [List.set_cons_zero]
    refine takeD (i := 28) (v := ?_) (some 4) rfl rfl (by kernel_rfl) (by kernel_rfl) (by kernel_rfl) (fun _ _ _ h => h) (by rfl) hHeld ?_ ?_
    rotate_left
    · intro W hSw
      try dsimp only at hSw
      go_simp
      try with_reducible rfl
    try simp only [Act.put]
    try simp only [List.setIfInBounds_toArray]
    try simp only [List.set_cons_succ]
    try simp only [List.set_cons_zero]
    refine wpAnyH_done (by kernel_rfl) ?_ _
    clear KB LB
    go_wp2
    go_ret
    exact ⟨rfl, B1.out⟩

end Go.Proofs.YtaogachhmdmoaaaDoor

namespace Go.Proofs.YtaogachhmdmoaaaDoor
open Go.ChangeShapes Go.WideShapes Go.ChangeAt Go.WideMaps Go.WideElems Go.RowKit Go.Joins

set_option maxRecDepth 100000 in
set_option maxHeartbeats 2000000 in
theorem lawP10_great1 (ac : Option Addr) (nc cc : Nat) (am : Option Addr) (nm cm : Nat) (w : World) (h : 1048576 < (nc : Int)) :
    Calls Tryd.prog 5 #[.slice ac nc cc, .slice am nm cm] w fun e w' => e = .returned (.bool true) ∧ Below w.heap.size w w' := by
  go_enter Tryd.func5, Tryd.ntmps5
  go_wp2
  go_ret
  exact ⟨rfl, Below.refl _ _⟩

set_option maxRecDepth 100000 in
set_option maxHeartbeats 2000000 in
theorem lawP10_great2 (ac : Option Addr) (nc cc : Nat) (am : Option Addr) (nm cm : Nat) (w : World) (hc : (nc : Int) ≤ 1048576) (h : 1048576 < (nm : Int)) :
    Calls Tryd.prog 5 #[.slice ac nc cc, .slice am nm cm] w fun e w' => e = .returned (.bool true) ∧ Below w.heap.size w w' := by
  go_enter Tryd.func5, Tryd.ntmps5
  go_wp2
  go_ret
  exact ⟨rfl, Below.refl _ _⟩

theorem lawP10_any (vc vm : Value) (nc nm : Nat) (a : Addr) (w : World) (hc : CodeAt w vc nc) (hm : CodeAt w vm nm) (ha : ErrAt w a) :
    Calls Tryd.prog 5 #[vc, vm] w fun e w' => e = .returned (.bool true) ∧ Below w.heap.size w w' := by
  obtain ⟨am, cm, rfl, _⟩ := hm
  by_cases h1 : nc ≤ 1048576
  · by_cases h2 : nm ≤ 1048576
    · exact lawP10_small vc nc am nm cm a w hc h1 h2 ha
    · obtain ⟨ac, cc, rfl, _⟩ := hc
      exact lawP10_great2 ac nc cc am nm cm w (by omega) (by omega)
  · obtain ⟨ac, cc, rfl, _⟩ := hc
    exact lawP10_great1 ac nc cc am nm cm w (by omega)

set_option maxRecDepth 100000 in
theorem p10_lifted (os : Os) (started : os.Started) (H : Type) (enc : TypeId × Value → H) :
    ReturnsInHanded {} Tryd.checked os 5 .any (fun w args => (Rows.fnLogLessSpec.pre enc Tryd.prog Tryd.f5 [] false w args ∧ laidMetH Tryd.prog laidErr w) ∧ sizedMet enc Tryd.prog Tryd.f5 (OpenSpec.ofChange Rows.fnLogLessSpec) false w args)
      (Rows.fnLogLessSpec.post enc Tryd.prog Tryd.f5 false true false false) := by
  refine returnsInHanded_of_change_and (C := Tryd.checked) (X := fun w _ => laidMetH Tryd.prog laidErr w) (fun _ _ _ hh h => h.of_heap hh) own started (by kernel_rfl) Tryd.func5
    (ChangeSpec.witness_shaped (enc := enc) (C := Tryd.checked) (os := os) (X := fun w _ => laidMetH Tryd.prog laidErr w) false (World.doorLaid Tryd.prog 28 os) #[.slice none 0 0, .slice none 0 0] 8 rfl (World.shaped_of_RefB (by kernel_rfl) (by kernel_rfl)) (by kernel_rfl) (by kernel_rfl) (by kernel_rfl) (door_met os _)) ?_
  intro W base args ds gs before hval0 hW _ _ hL _
  have hval : ∀ (j : Nat) t v, Tryd.f5.params[j]? = some t → args[j]? = some v → Value.okWide Tryd.prog W .any base t v := hval0
  have hW' := hW
  obtain ⟨p, q, hA0, hV0, rfl, hfz, hnd⟩ := hW
  have hA : DataW.TrodAll enc Tryd.prog W 0 (fun _ => true) true Tryd.f5.params.toList args.toList ds p := hA0
  have hV : DataW.TrodVars enc Tryd.prog W (fun _ => true) ["loop.example/concierge/impl.errNoRec"] gs q := hV0
  rw [Tryd.params5] at hA hval
  obtain ⟨v0, v1, d0, d1, p0, p1, rfl, rfl, rfl, h0, h1⟩ := trodAll_two hA
  obtain ⟨a, hErr, hvar⟩ := of_laid hL
  have vr : ∀ {X : World}, X.var? Tryd.prog "loop.example/concierge/impl.errNoRec" = some #[.iface 88 (.pointer (some a))] → ∀ sp : Nat → Bool,
      DataW.TrodVars enc Tryd.prog X sp ["loop.example/concierge/impl.errNoRec"] [tok enc (.iface 88 (.pointer (some a)))] [.cell 0 0] :=
    fun x0 sp => vars_read1 enc gErr gErrType Tryd.underlying49 x0 trivial sp
  obtain ⟨rfl, rfl⟩ := hV.unique (vr hvar _)
  clear hA0 hV0 hval0
  obtain ⟨nc, hC, _⟩ := open_code (hval 0 22 v0 rfl rfl) h0
  obtain ⟨nm, hM, _⟩ := open_code (hval 1 22 v1 rfl rfl) h1
  refine (lawP10_any v0 v1 nc nm a W hC hM hErr).mono fun e W' ⟨he, hb⟩ => ?_
  subst he
  have hlt : ∀ x ∈ p0, x.block < W.heap.size := fun x hx => hW'.lt x (by simp [hx])
  have hlt1 : ∀ x ∈ p1, x.block < W.heap.size := fun x hx => hW'.lt x (by simp [hx])
  refine ⟨_, rfl, _, _, _, [], p0 ++ p1, [.cell 0 0], hW', ?_, ?_, ?_, hb.frame _, fun h => by cases h⟩
  · exact trodAll_mk1 (shut_bool Tryd.underlying4 true)
  · exact trodAll_mk2 (Below.trod laidOut (by kernel_rfl) (of_decide_eq_true (by kernel_rfl)) h0 hb hlt) (Below.trod laidOut (by kernel_rfl) (of_decide_eq_true (by kernel_rfl)) h1 hb hlt1)
  · exact vr (var?_below hb gErr (World.block_lt_of_cell? _ _ hErr) hvar) _

theorem p10_said : Rows.FnLogLessSaid :=
  OpenClaim.holds_of_wide 5 Tryd.f5 rfl rfl rfl rfl rfl rfl rfl ⟨rfl, rfl, rfl, rfl, rfl⟩ rfl rfl rfl rfl rfl (by kernel_rfl) Tryd.func5 (by kernel_rfl)
    (of_decide_eq_true (by kernel_rfl)) (by unfold Func.isWrapper; first | (rw [if_pos (by decide +kernel)]; kernel_rfl) | (rw [if_neg (by decide +kernel)]; exact ⟨rfl, rfl⟩))
    (fun os started H enc _ => p10_lifted os started H enc)

theorem p10_plain (f : FuncId) (fn : Func) (hf : Tryd.pinned.checked.prog.funcNamed "loop.example/concierge/laws.FnLogLess" = some f) (hfn : Tryd.pinned.checked.prog.funcs[f]? = some fn) :
    true = Tryd.pinned.checked.prog.looks [] ∧ ∀ (j : Nat) t, fn.params[j]? = some t → Tryd.pinned.checked.prog.wantsStandIn t = false := by
  obtain rfl : f = 5 := Option.some.inj ((show Tryd.prog.funcNamed "loop.example/concierge/laws.FnLogLess" = some 5 by kernel_rfl).symm.trans hf) |>.symm
  obtain rfl : fn = Tryd.f5 := (Option.some.inj (Tryd.func5.symm.trans hfn)).symm
  refine ⟨by kernel_rfl, fun j t ht => ?_⟩
  rw [Tryd.params5] at ht
  obtain rfl : t = 22 := by simpa using Array.mem_of_getElem? ht
  exact (show Tryd.prog.wantsStandIn 22 = false by kernel_rfl)

theorem p10_card : Rows.FnLogLessCardSaid :=
  Claim7.holds_tied_plain_at .later [] _ _ _ _ p10_said (fun _ h => by cases h) (by kernel_rfl) (fun _ h => by cases h) fnLogLess_row_tie rfl ⟨rfl, rfl⟩ (by kernel_rfl) rfl p10_plain (by kernel_rfl)
#print axioms p10_card

end Go.Proofs.YtaogachhmdmoaaaDoor
