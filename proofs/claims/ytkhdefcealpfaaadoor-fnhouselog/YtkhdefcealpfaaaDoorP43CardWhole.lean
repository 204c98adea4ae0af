/- FnHouseLog answers true whatever the codes, and they read afterwards as they read before: promise 43 at every drawn house. The card: the sentinel's variable starts as the program's text lays it. -/
import Derived.Test.YtkhdefcealpfaaaDoorBase5
import Derived.Deep.RegionHeldLaw

namespace Go.Proofs.YtkhdefcealpfaaaDoor

/-- An operation is taken first, its slot written out. -/
theorem takeD {P : Program} {md : Region.Mode} {ops : Array Oper} {Q : Exit → Act → World → Prop} {S : World → Prop} {i : Nat} {oi : Oper} {v : Value} {fuel : Nat} {listed : Array Bool} {a : Act} {w : World} (d : Option Nat) (hi : ops[i]? = some oi) (hd : oi.dst = d)
    (hs : Region.noSelect ops = true) (hf : Region.free md ops listed i = true) (hr : (Region.ready md ops listed).contains i = true)
    (hQ : ∀ c a w, Q (.panic c) (a.put d v) w → Q (.panic c) a w) (hw : Region.wanted oi (yielded ops a.tmps) = true) (hS : S w) (hy : ∀ w, S w → (execOp a.eval oi).run P w = .ok (.value v) w)
    (h : wpAnyH P md ops Q S fuel (listed.setIfInBounds i true) (a.put d v) w) : wpAnyH P md ops Q S (fuel + 1) listed a w := by
  subst hd
  exact wpAnyH_take hi hs hf hr hQ (Or.inl ⟨hw, hy⟩) hS h

/-- An operation that its guard passes over is taken first, its slot written out. -/
theorem skipD {P : Program} {md : Region.Mode} {ops : Array Oper} {Q : Exit → Act → World → Prop} {S : World → Prop} {i : Nat} {oi : Oper} {fuel : Nat} {listed : Array Bool} {a : Act} {w : World} (d : Option Nat) (hi : ops[i]? = some oi) (hd : oi.dst = d)
    (hs : Region.noSelect ops = true) (hf : Region.free md ops listed i = true) (hr : (Region.ready md ops listed).contains i = true)
    (hQ : ∀ c a w, Q (.panic c) (a.put d undef) w → Q (.panic c) a w) (hw : Region.wanted oi (yielded ops a.tmps) = false) (hS : S w)
    (h : wpAnyH P md ops Q S fuel (listed.setIfInBounds i true) (a.put d undef) w) : wpAnyH P md ops Q S (fuel + 1) listed a w := by
  subst hd
  exact wpAnyH_take hi hs hf hr hQ (Or.inr ⟨hw, rfl⟩) hS h

/-- What holds behind every operation may be weakened. -/
theorem heldMono {P : Program} {md : Region.Mode} {ops : Array Oper} {Q : Exit → Act → World → Prop} {S S2 : World → Prop} (hS : ∀ w, S2 w → S w) :
    ∀ (fuel : Nat) (listed : Array Bool) (a : Act) (w : World), wpAnyH P md ops Q S2 fuel listed a w → wpAnyH P md ops Q S fuel listed a w
  | 0, _, _, _, h => h
  | fuel + 1, _, _, _, h => ⟨h.1, fun i hi => wpOp_mono (fun a' w' h' => ⟨hS _ h'.1, heldMono hS fuel _ a' w' h'.2⟩) (h.2 i hi)⟩

end Go.Proofs.YtkhdefcealpfaaaDoor

namespace Go.Proofs.YtkhdefcealpfaaaDoor
open Go.RowKit

theorem logOk_cut {rs : List R} {f : Int} {n : Nat} (h : logOk rs f = true) (hn : n ≤ rs.length) : logOk (rs.take n) (min (n : Int) f) = true := by
  have h40 := logOk_f h
  simp only [logOk, Bool.and_eq_true] at h ⊢
  have hl : (rs.take n).length = n := by rw [List.length_take]; omega
  refine ⟨?_, ?_, ?_⟩
  · rw [List.all_eq_true] at h ⊢
    exact fun x hx => h.1 x (List.mem_of_mem_take hx)
  · rw [hl]
    have := h.2.1
    simp at this ⊢
    omega
  · rw [hl]
    exact Pl.inB_mk (by omega) (by omega)
/-- A beginning of a house's records makes a stock, and with the others left out the house is ok. -/
theorem house_cut {id room : Int} {rs : List R} {f : Int} {n : Nat} (h : hoOk id room rs f = true) (hn : n ≤ rs.length) :
    ∃ hs, Pl.sOf room (rs.take n) = some hs ∧ Pl.sOk room hs = true ∧ hs.length = 6 ∧ hoOk id room (rs.take n) (min (n : Int) f) = true := by
  obtain ⟨h1, h2, h3⟩ := hoOk_parts h
  obtain ⟨hs, e⟩ := Option.isSome_iff_exists.1 h3
  obtain ⟨h4, e4⟩ := Pl.sOf_take n e
  obtain ⟨o1, o2⟩ := Pl.sOf_ok e4
  exact ⟨h4, e4, o1, o2, by rw [hoOk_of h1 (logOk_cut h2 hn), e4]; rfl⟩
theorem form_cap {o : Option Addr} {n m cap : Nat} (h : Form (.slice o n cap) m) : n ≤ cap := by
  rcases h with ⟨e, h0⟩ | ⟨g, c, e, h1⟩
  · simp at e; omega
  · simp at e; omega

theorem Holds.setApart' {W : World} {u : Value} {hs : List Pl.H} {a : Addr} (h : Holds W u hs) (ha : ∀ g, u.ownBlock = some g → a.block ≠ g) (x : Value) : Holds (W.setCell a x) u hs := by
  rcases h with h | ⟨b, off, cap, rfl, hz, hc⟩
  · exact Or.inl h
  · have hne : b ≠ a.block := fun e => ha b rfl e.symm
    have e : (W.setCell a x).heap[b]? = W.heap[b]? := Below.heap_setCell _ _ _ _ hne
    refine Or.inr ⟨b, off, cap, rfl, hz, fun k hk => ⟨?_, ?_⟩⟩
    · rw [← (hc k hk).1]; exact World.cell?_of_block (a := ⟨b, _, none⟩) e
    · rw [← (hc k hk).2]; exact World.cell?_of_block (a := ⟨b, _, none⟩) e

set_option maxRecDepth 100000 in
set_option maxHeartbeats 8000000 in
theorem lawP43_small (vc : Value) (nc : Nat) (am : Option Addr) (nm cm : Nat) (a : Addr) (w : World) (hc : CodeAt w vc nc) (hcn : nc ≤ 1048576) (hmn : nm ≤ 1048576) (ha : ErrAt w a) :
    Calls Tryd.prog 6 #[vc, .slice am nm cm] w fun e w' => e = .returned (.bool true) ∧ Below w.heap.size w w' := by
  have HD := hide_it (drawHouseOk_any vc nc w hc hcn)
  have HA : Hid (∀ W, Below w.heap.size w W → ErrAt W a) := fun W hb => ha.later hb (Nat.le_refl _)
  obtain ⟨ac, cc, rfl, _⟩ := hc
  have hci : (nc : Int) ≤ 1048576 := by omega
  have hmi : (nm : Int) ≤ 1048576 := by omega
  clear hcn ha
  go_enter Tryd.func6, Tryd.ntmps6
  go_wp2_with fail
  refine HD.out.mono ?_
  rintro e w1 ⟨id, up, room, o, f, rs, rfl, hl9, hR, hfm, hb1⟩
  have hl : tot rs ≤ 1048576 := by omega
  have B1 := hide_it hb1
  have R1 := hide_it hR
  obtain ⟨ao, co, rfl⟩ := hR.shape
  have hcap := form_cap hfm
  clear hb1 hR HD hfm
  obtain ⟨BB, hBB⟩ : ∃ b, Hid (hoOk id room rs f = b) := ⟨_, rfl⟩
  obtain ⟨w2, hw2⟩ : ∃ W, Hid (W = w1.alloc (.cells #[.int .i64 id, .bool up, .int .i64 room, .slice ao rs.length co, .int .i64 f] 29)) := ⟨_, rfl⟩
  have al2 : Hid (Below w1.heap.size w1 w2) := by show Below _ _ _; rw [hw2.out]; exact alloc_below _ _
  have L2 : Hid (Blk w2 w1.heap.size #[.int .i64 id, .bool up, .int .i64 room, .slice ao rs.length co, .int .i64 f] 29) := by show Blk _ _ _ _; rw [hw2.out]; exact Blk.new _ _ _
  have B2 := hide_it (B1.out.trans (al2.out.mono B1.out.size))
  have R2 := hide_it (R1.out.later al2.out (Nat.le_refl _))
  have IM : Hid (∀ W, Below w2.heap.size w2 W → Calls Tryd.prog 11 #[houseV id up room (.slice ao rs.length co) f] W fun e w' => e = .returned (.bool BB) ∧ Below W.heap.size W w') := fun W hb => by
    have := implHouseOk_any id up room _ rs f a W (R2.out.later hb (Nat.le_refl _)) hl (HA.out _ (B2.out.trans (hb.mono B2.out.size))); rw [hBB.out] at this; exact this
  have SP : Hid (∀ W, Below w2.heap.size w2 W → Calls Tryd.prog 17 #[houseV id up room (.slice ao rs.length co) f] W fun e w' => e = .returned (.bool BB) ∧ Below W.heap.size W w') := fun W hb => by
    have := specHouseOk_any id up room _ rs f W (R2.out.later hb (Nat.le_refl _)) hl; rw [hBB.out] at this; exact this
  go_wp2_with fail
  rw [← hw2.out]
  refine (IM.out w2 (Below.refl _ _)).mono ?_
  rintro e w3 ⟨rfl, hb3⟩
  have E3 := hide_it hb3
  clear hb3
  obtain ⟨l0, l1, l2, l3, l4⟩ := (L2.out.after E3.out).cells5
  cases BB
  · go_wp2_with fail
    refine (SP.out w3 E3.out).mono ?_
    rintro e w4 ⟨rfl, hb4⟩
    have E4 := hide_it (E3.out.trans (hb4.mono E3.out.size))
    clear hb4 l0 l1 l2 l3 l4
    obtain ⟨l0, l1, l2, l3, l4⟩ := (L2.out.after E4.out).cells5
    go_wp2_with fail
    refine (SP.out w4 E4.out).mono ?_
    rintro e w5 ⟨rfl, hb5⟩
    have B5 := hide_it (B2.out.trans ((E4.out.trans (hb5.mono E4.out.size)).mono B2.out.size))
    clear hb5
    go_wp2
    go_ret
    exact ⟨rfl, B5.out⟩
  go_wp2_with fail
  refine (SP.out w3 E3.out).mono ?_
  rintro e w4 ⟨rfl, hb4⟩
  have E4 := hide_it (E3.out.trans (hb4.mono E3.out.size))
  clear hb4 l0 l1 l2 l3 l4
  obtain ⟨l0, l1, l2, l3, l4⟩ := (L2.out.after E4.out).cells5
  obtain ⟨N, hN⟩ : ∃ N : Nat, nm % (rs.length + 1) = N := ⟨_, rfl⟩
  have hNl : N ≤ rs.length := by rw [← hN]; have := Nat.mod_lt nm (show 0 < rs.length + 1 by omega); omega
  have hNt : Int.tmod (nm : Int) ((rs.length : Int) + 1) = (N : Int) := by
    rw [← hN]
    have : ((rs.length : Int) + 1) = ((rs.length + 1 : Nat) : Int) := by simp
    rw [this]
    exact (Int.ofNat_tmod _ _).symm
  have hNz : ¬ ((rs.length : Int) + 1 = 0) := by omega
  have hNc : (N : Int) ≤ (co : Int) := by omega
  have hrl := tot_len rs
  have hr9 : (rs.length : Int) ≤ 1048576 := by omega
  clear hN
  obtain ⟨hs, eS, okS, h6, okH⟩ := house_cut hBB.out hNl
  have RT : Hid (∀ W, Below w2.heap.size w2 W → Recs W (.slice ao N co) (rs.take N)) := fun W hb => (R2.out.later hb (Nat.le_refl _)).take hNl
  have htk : tot (rs.take N) ≤ 1048576 := Nat.le_trans (pre_take rs N hNl) hl
  have HOF : Hid (∀ W, Below w2.heap.size w2 W → Calls Tryd.prog 18 #[.int .i64 room, .slice ao N co] W fun e w' => StOut W w' e room hs true) := fun W hb => by
    have := implOf_any room _ (rs.take N) a W (RT.out W hb) htk (HA.out _ (B2.out.trans (hb.mono B2.out.size)))
    rw [eS] at this; exact this
  have h9 : hs.length ≤ 1048576 := by omega
  have OKS := hide_it okS
  have OKH := hide_it okH
  clear eS okS okH h6
  have KK : Hid (∀ W, Below w4.heap.size w4 W → (W.cell? ⟨w1.heap.size, 2, none⟩ = some (.int .i64 room) ∧ W.cell? ⟨w1.heap.size, 3, none⟩ = some (.slice ao rs.length co))) := fun W hb => by
    obtain ⟨_, _, h2, h3, _⟩ := (L2.out.later (E4.out.trans (hb.mono E4.out.size)) L2.out.lt).cells5
    exact ⟨h2, h3⟩
  obtain ⟨wd, hwd⟩ : ∃ W, Hid (W = w4.drew) := ⟨_, rfl⟩
  have Ld : Hid (Below w4.heap.size w4 wd) := by show Below _ _ _; rw [hwd.out]; exact (Below.refl _ _).drew
  go_wp2_with fail
  go_cut [8, 9] (fun p b W => ∃ (X : Nat) (a5 : Option Addr) (c5 : Nat), p = .pointer (some ⟨X, 0, none⟩) ∧ b = .bool true ∧ Hid (Blk W X #[.int .i64 room, .slice a5 hs.length c5] 37) ∧ Hid (Holds W (.slice a5 hs.length c5) hs) ∧ Hid (Below w4.heap.size w4 W))
  case first =>
    refine wp_region_held_drew (S := fun w' => (w'.cell? ⟨w1.heap.size, 2, none⟩ = some (.int .i64 room) ∧ w'.cell? ⟨w1.heap.size, 3, none⟩ = some (.slice ao rs.length co))) (by kernel_rfl) ⟨l2, l3⟩ (fun hHeld => ?_)
    rw [← hwd.out] at hHeld ⊢
    refine takeD (i := 0) (v := ?_) (some 44) rfl rfl (by kernel_rfl) (by kernel_rfl) (by kernel_rfl) (fun _ _ _ h => h) (by rfl) hHeld ?_ ?_
    rotate_left
    · intro W hSw
      try dsimp only at hSw
      go_simp
      try with_reducible rfl
    try simp only [Act.put]
    try simp only [List.setIfInBounds_toArray]
    try simp only [List.set_cons_succ]
    try simp only [List.set_cons_zero]
    refine takeD (i := 1) (v := ?_) (some 45) rfl rfl (by kernel_rfl) (by kernel_rfl) (by kernel_rfl) (fun _ _ _ h => h) (by rfl) hHeld ?_ ?_
    rotate_left
    · intro W hSw
      try dsimp only at hSw
      go_simp
      try with_reducible rfl
    try simp only [Act.put]
    try simp only [List.setIfInBounds_toArray]
    try simp only [List.set_cons_succ]
    try simp only [List.set_cons_zero]
    refine takeD (i := 2) (v := ?_) (some 46) rfl rfl (by kernel_rfl) (by kernel_rfl) (by kernel_rfl) (fun _ _ _ h => h) (by rfl) hHeld ?_ ?_
    rotate_left
    · intro W hSw
      try dsimp only at hSw
      go_simp
      try with_reducible rfl
    try simp only [Act.put]
    try simp only [List.setIfInBounds_toArray]
    try simp only [List.set_cons_succ]
    try simp only [List.set_cons_zero]
    refine takeD (i := 3) (v := ?_) (some 47) rfl rfl (by kernel_rfl) (by kernel_rfl) (by kernel_rfl) (fun _ _ _ h => h) (by rfl) hHeld ?_ ?_
    rotate_left
    · intro W hSw
      try dsimp only at hSw
      go_simp
      try with_reducible rfl
    try simp only [Act.put]
    try simp only [List.setIfInBounds_toArray]
    try simp only [List.set_cons_succ]
    try simp only [List.set_cons_zero]
    refine takeD (i := 4) (v := ?_) (some 48) rfl rfl (by kernel_rfl) (by kernel_rfl) (by kernel_rfl) (fun _ _ _ h => h) (by rfl) hHeld ?_ ?_
    rotate_left
    · intro W hSw
      try dsimp only at hSw
      go_simp
      try with_reducible rfl
    try simp only [Act.put]
    try simp only [List.setIfInBounds_toArray]
    try simp only [List.set_cons_succ]
    try simp only [List.set_cons_zero]
    refine takeD (i := 5) (v := ?_) (some 49) rfl rfl (by kernel_rfl) (by kernel_rfl) (by kernel_rfl) (fun _ _ _ h => h) (by rfl) hHeld ?_ ?_
    rotate_left
    · intro W hSw
      try dsimp only at hSw
      go_simp
      try with_reducible rfl
    try simp only [Act.put]
    try simp only [List.setIfInBounds_toArray]
    try simp only [List.set_cons_succ]
    try simp only [List.set_cons_zero]
    refine takeD (i := 6) (v := ?_) (some 50) rfl rfl (by kernel_rfl) (by kernel_rfl) (by kernel_rfl) (fun _ _ _ h => h) (by rfl) hHeld ?_ ?_
    rotate_left
    · intro W hSw
      try dsimp only at hSw
      go_simp
      try with_reducible rfl
    try simp only [Act.put]
    try simp only [List.setIfInBounds_toArray]
    try simp only [List.set_cons_succ]
    try simp only [List.set_cons_zero]
    refine wpAnyH_ready (rs := [7, 11]) (by kernel_rfl) (by simp) ?_
    refine AllReadyH.cons rfl (fun K hK => ?_) (AllReadyH.cons rfl (fun K hK => ?_) AllReadyH.nil)
    · go_simp
      refine (HOF.out _ (E4.out.trans (Ld.out.mono E4.out.size))).mono ?_
      rintro e wr1 ⟨a5, c5, rfl, ho5, hb5⟩
      have V1 : Hid (Holds wr1 (.slice a5 hs.length c5) hs) := hide_it (holds_of_row ho5)
      have O1 : Hid (∀ g, (Value.slice a5 hs.length c5).ownBlock = some g → wd.heap.size ≤ g ∧ g < wr1.heap.size) := fun g hg => ho5.lt g hg
      have L1 : Hid (Below w4.heap.size w4 wr1) := Ld.out.trans (hb5.mono Ld.out.size)
      clear ho5 hb5
      try dsimp only
      refine hK.out _ _ (KK.out _ L1.out) (fun hHeld => ?_)
      clear hK K
      refine takeD (i := 8) (v := ?_) (some 43) rfl rfl (by kernel_rfl) (by kernel_rfl) (by kernel_rfl) (fun _ _ _ h => h) (by rfl) hHeld ?_ ?_
      rotate_left
      · intro W hSw
        try dsimp only at hSw
        go_simp
        try with_reducible rfl
      try simp only [Act.put]
      try simp only [List.setIfInBounds_toArray]
      try simp only [List.set_cons_succ]
      try simp only [List.set_cons_zero]
      refine takeD (i := 9) (v := ?_) (some 52) rfl rfl (by kernel_rfl) (by kernel_rfl) (by kernel_rfl) (fun _ _ _ h => h) (by rfl) hHeld ?_ ?_
      rotate_left
      · intro W hSw
        try dsimp only at hSw
        go_simp
        try with_reducible rfl
      try simp only [Act.put]
      try simp only [List.setIfInBounds_toArray]
      try simp only [List.set_cons_succ]
      try simp only [List.set_cons_zero]
      refine takeD (i := 10) (v := ?_) (some 53) rfl rfl (by kernel_rfl) (by kernel_rfl) (by kernel_rfl) (fun _ _ _ h => h) (by rfl) hHeld ?_ ?_
      rotate_left
      · intro W hSw
        try dsimp only at hSw
        go_simp
        try with_reducible rfl
      try simp only [Act.put]
      try simp only [List.setIfInBounds_toArray]
      try simp only [List.set_cons_succ]
      try simp only [List.set_cons_zero]
      refine wpAnyH_ready (rs := [11]) (by kernel_rfl) (by simp) ?_
      refine AllReadyH.cons rfl (fun K hK => ?_) AllReadyH.nil
      go_simp
      obtain ⟨wr2, hwr2⟩ : ∃ W, Hid (W = wr1.alloc (.cells #[.int .i64 0, .slice none 0 0] 37)) := ⟨_, rfl⟩
      have al2 : Below wr1.heap.size wr1 wr2 := by rw [hwr2.out]; exact alloc_below _ _
      have L2 : Hid (Below w4.heap.size w4 wr2) := L1.out.trans (al2.mono L1.out.size)
      have X2 : Hid (Blk wr2 wr1.heap.size #[.int .i64 0, .slice none 0 0] 37) := by show Blk _ _ _ _; rw [hwr2.out]; exact Blk.new _ _ _
      have V2 := hide_it (V1.out.later al2 (Nat.le_refl _))
      clear al2
      rw [← hwr2.out]
      try dsimp only
      refine hK.out _ _ (KK.out _ L2.out) (fun hHeld => ?_)
      clear hK K
      refine wpAnyH_ready (rs := [12]) (by kernel_rfl) (by simp) ?_
      refine AllReadyH.cons rfl (fun K hK => ?_) AllReadyH.nil
      go_simp
      obtain ⟨c0, c1⟩ := X2.out.cells2
      have cf0 := X2.out.free 0
      have cf1 := X2.out.free 1
      go_simp
      obtain ⟨wr3, hwr3⟩ : ∃ W, Hid (W = (wr2.setCell ⟨wr1.heap.size, 0, none⟩ (.int .i64 room)).setCell ⟨wr1.heap.size, 1, none⟩ (.slice a5 hs.length c5)) := ⟨_, rfl⟩
      have XZ3 : Hid (Blk wr3 wr1.heap.size #[.int .i64 room, .slice a5 hs.length c5] 37) := by
        show Blk _ _ _ _
        rw [hwr3.out]
        have := (X2.out.set_ 0 (.int .i64 room)).set_ 1 (.slice a5 hs.length c5)
        simpa using this
      have NE3 : Hid (∀ g, (Value.slice a5 hs.length c5).ownBlock = some g → wr1.heap.size ≠ g) := fun g hg => by have := O1.out g hg; omega
      have VZ3 : Hid (Holds wr3 (.slice a5 hs.length c5) hs) := by show Holds _ _ _; rw [hwr3.out]; exact (V2.out.setApart' (a := ⟨wr1.heap.size, 0, none⟩) NE3.out _).setApart' (a := ⟨wr1.heap.size, 1, none⟩) NE3.out _
      have hle3 : w4.heap.size ≤ wr1.heap.size := (L1.out.size)
      have L3 : Hid (Below w4.heap.size w4 wr3) := by show Below _ _ _; rw [hwr3.out]; exact (L2.out.setCell (by simpa using hle3) _).setCell (by simpa using hle3) _
      rw [← hwr3.out]
      clear c0 c1 cf0 cf1
      try dsimp only
      refine hK.out _ _ (KK.out _ L3.out) (fun hHeld => ?_)
      clear hK K
      refine takeD (i := 13) (v := ?_) (some 9) rfl rfl (by kernel_rfl) (by kernel_rfl) (by kernel_rfl) (fun _ _ _ h => h) (by rfl) hHeld ?_ ?_
      rotate_left
      · intro W hSw
        try dsimp only at hSw
        go_simp
        try with_reducible rfl
      try simp only [Act.put]
      try simp only [List.setIfInBounds_toArray]
      try simp only [List.set_cons_succ]
      try simp only [List.set_cons_zero]
      refine wpAnyH_done (by kernel_rfl) ?_ _
      go_wp2_with fail
      go_meet
      case rel => exact ⟨_, a5, c5, rfl, rfl, XZ3, VZ3, L3⟩
    · go_simp
      obtain ⟨wr4, hwr4⟩ : ∃ W, Hid (W = wd.alloc (.cells #[.int .i64 0, .slice none 0 0] 37)) := ⟨_, rfl⟩
      have al4 : Below wd.heap.size wd wr4 := by rw [hwr4.out]; exact alloc_below _ _
      have L4 : Hid (Below w4.heap.size w4 wr4) := Ld.out.trans (al4.mono Ld.out.size)
      have X4 : Hid (Blk wr4 wd.heap.size #[.int .i64 0, .slice none 0 0] 37) := by show Blk _ _ _ _; rw [hwr4.out]; exact Blk.new _ _ _
      clear al4
      rw [← hwr4.out]
      try dsimp only
      refine hK.out _ _ (KK.out _ L4.out) (fun hHeld => ?_)
      clear hK K
      refine wpAnyH_ready (rs := [7]) (by kernel_rfl) (by simp) ?_
      refine AllReadyH.cons rfl (fun K hK => ?_) AllReadyH.nil
      go_simp
      refine (HOF.out _ (E4.out.trans (L4.out.mono E4.out.size))).mono ?_
      rintro e wr5 ⟨a5, c5, rfl, ho5, hb5⟩
      have V5 : Hid (Holds wr5 (.slice a5 hs.length c5) hs) := hide_it (holds_of_row ho5)
      have O5 : Hid (∀ g, (Value.slice a5 hs.length c5).ownBlock = some g → wr4.heap.size ≤ g ∧ g < wr5.heap.size) := fun g hg => ho5.lt g hg
      have L5 : Hid (Below w4.heap.size w4 wr5) := L4.out.trans (hb5.mono L4.out.size)
      have X5 := hide_it (X4.out.after hb5)
      have XL5 : Hid (wd.heap.size < wr4.heap.size) := X4.out.lt
      clear ho5 hb5
      try dsimp only
      refine hK.out _ _ (KK.out _ L5.out) (fun hHeld => ?_)
      clear hK K
      refine takeD (i := 8) (v := ?_) (some 43) rfl rfl (by kernel_rfl) (by kernel_rfl) (by kernel_rfl) (fun _ _ _ h => h) (by rfl) hHeld ?_ ?_
      rotate_left
      · intro W hSw
        try dsimp only at hSw
        go_simp
        try with_reducible rfl
      try simp only [Act.put]
      try simp only [List.setIfInBounds_toArray]
      try simp only [List.set_cons_succ]
      try simp only [List.set_cons_zero]
      refine takeD (i := 9) (v := ?_) (some 52) rfl rfl (by kernel_rfl) (by kernel_rfl) (by kernel_rfl) (fun _ _ _ h => h) (by rfl) hHeld ?_ ?_
      rotate_left
      · intro W hSw
        try dsimp only at hSw
        go_simp
        try with_reducible rfl
      try simp only [Act.put]
      try simp only [List.setIfInBounds_toArray]
      try simp only [List.set_cons_succ]
      try simp only [List.set_cons_zero]
      refine takeD (i := 10) (v := ?_) (some 53) rfl rfl (by kernel_rfl) (by kernel_rfl) (by kernel_rfl) (fun _ _ _ h => h) (by rfl) hHeld ?_ ?_
      rotate_left
      · intro W hSw
        try dsimp only at hSw
        go_simp
        try with_reducible rfl
      try simp only [Act.put]
      try simp only [List.setIfInBounds_toArray]
      try simp only [List.set_cons_succ]
      try simp only [List.set_cons_zero]
      refine wpAnyH_ready (rs := [12]) (by kernel_rfl) (by simp) ?_
      refine AllReadyH.cons rfl (fun K hK => ?_) AllReadyH.nil
      go_simp
      obtain ⟨c0, c1⟩ := X5.out.cells2
      have cf0 := X5.out.free 0
      have cf1 := X5.out.free 1
      go_simp
      obtain ⟨wr6, hwr6⟩ : ∃ W, Hid (W = (wr5.setCell ⟨wd.heap.size, 0, none⟩ (.int .i64 room)).setCell ⟨wd.heap.size, 1, none⟩ (.slice a5 hs.length c5)) := ⟨_, rfl⟩
      have XZ6 : Hid (Blk wr6 wd.heap.size #[.int .i64 room, .slice a5 hs.length c5] 37) := by
        show Blk _ _ _ _
        rw [hwr6.out]
        have := (X5.out.set_ 0 (.int .i64 room)).set_ 1 (.slice a5 hs.length c5)
        simpa using this
      have NE6 : Hid (∀ g, (Value.slice a5 hs.length c5).ownBlock = some g → wd.heap.size ≠ g) := fun g hg => by have := O5.out g hg; have := XL5.out; omega
      have VZ6 : Hid (Holds wr6 (.slice a5 hs.length c5) hs) := by show Holds _ _ _; rw [hwr6.out]; exact (V5.out.setApart' (a := ⟨wd.heap.size, 0, none⟩) NE6.out _).setApart' (a := ⟨wd.heap.size, 1, none⟩) NE6.out _
      have hle6 : w4.heap.size ≤ wd.heap.size := (Ld.out.size)
      have L6 : Hid (Below w4.heap.size w4 wr6) := by show Below _ _ _; rw [hwr6.out]; exact (L5.out.setCell (by simpa using hle6) _).setCell (by simpa using hle6) _
      rw [← hwr6.out]
      clear c0 c1 cf0 cf1
      try dsimp only
      refine hK.out _ _ (KK.out _ L6.out) (fun hHeld => ?_)
      clear hK K
      refine takeD (i := 13) (v := ?_) (some 9) rfl rfl (by kernel_rfl) (by kernel_rfl) (by kernel_rfl) (fun _ _ _ h => h) (by rfl) hHeld ?_ ?_
      rotate_left
      · intro W hSw
        try dsimp only at hSw
        go_simp
        try with_reducible rfl
      try simp only [Act.put]
      try simp only [List.setIfInBounds_toArray]
      try simp only [List.set_cons_succ]
      try simp only [List.set_cons_zero]
      refine wpAnyH_done (by kernel_rfl) ?_ _
      go_wp2_with fail
      go_meet
      case rel => exact ⟨_, a5, c5, rfl, rfl, XZ6, VZ6, L6⟩
  case rest =>
    obtain ⟨X, a5, c5, rfl, rfl, X5, V5, L5⟩ := hcut
    have E5 := hide_it (E4.out.trans (L5.out.mono E4.out.size))
    clear l0 l1 l2 l3 l4
    obtain ⟨l0, l1, l2, l3, l4⟩ := (L2.out.after E5.out).cells5
    have k0 := fun o => cellAlloc l0 o
    have k1 := fun o => cellAlloc l1 o
    have k2 := fun o => cellAlloc l2 o
    have k3 := fun o => cellAlloc l3 o
    have k4 := fun o => cellAlloc l4 o
    have hlt : w1.heap.size < wc.heap.size := World.block_lt_of_cell? _ _ l0
    obtain ⟨w6, hw6⟩ : ∃ W, Hid (W = wc.alloc (.cells #[.int .i64 id, .bool up, .int .i64 room, .slice ao rs.length co, .int .i64 f] 29)) := ⟨_, rfl⟩
    have al6 : Below wc.heap.size wc w6 := by rw [hw6.out]; exact alloc_below _ _
    have Y6 : Hid (Blk w6 wc.heap.size #[.int .i64 id, .bool up, .int .i64 room, .slice ao rs.length co, .int .i64 f] 29) := by show Blk _ _ _ _; rw [hw6.out]; exact Blk.new _ _ _
    have E6 := hide_it (E5.out.trans (al6.mono E5.out.size))
    have X6 := hide_it (X5.out.after al6)
    have V6 := hide_it (V5.out.later al6 (Nat.le_refl _))
    have L6 := hide_it (L5.out.trans (al6.mono L5.out.size))
    have HXl := hide_it X5.out.lt
    have hWl := hide_it (show w4.heap.size ≤ wc.heap.size from L5.out.size)
    clear al6
    go_wp2_with fail
    rw [← hw6.out]
    clear k0 k1 k2 k3 k4 l0 l1 l2 l3 l4
    obtain ⟨l0, l1, l2, l3, l4⟩ := (L2.out.after E6.out).cells5
    obtain ⟨y0, y1, y2, y3, y4⟩ := Y6.out.cells5
    obtain ⟨yf0, yf1, yf2, yf3, yf4⟩ := Y6.out.free5
    have hN0 : (0 : Int) ≤ (N : Int) := by omega
    have hNr : (N : Int) ≤ (rs.length : Int) := by omega
    go_region_law (fail)
    all_goals
      obtain ⟨M, hM⟩ : ∃ M, (if f < (N : Int) then f else (N : Int)) = M := ⟨_, rfl⟩
      have hMm : M = min (N : Int) f := by rw [← hM]; split <;> omega
      have OKM := OKH.out
      rw [← hMm] at OKM
      have OKM := hide_it OKM
      rw [hM]
      clear hM hMm
      obtain ⟨w7, hw7⟩ : ∃ W, Hid (W = ((w6.setCell ⟨wc.heap.size, 3, none⟩ (.slice ao N co)).setCell ⟨wc.heap.size, 4, none⟩ (.int .i64 M)).drew) := ⟨_, rfl⟩
      have Y7 : Hid (Blk w7 wc.heap.size #[.int .i64 id, .bool up, .int .i64 room, .slice ao N co, .int .i64 M] 29) := by
        show Blk _ _ _ _
        rw [hw7.out]
        have := ((Y6.out.set_ 3 (.slice ao N co)).set_ 4 (.int .i64 M)).drew
        simpa using this
      have L7 : Hid (Below w4.heap.size w4 w7) := by show Below _ _ _; rw [hw7.out]; exact ((L6.out.setCell (by simpa using hWl.out) _).setCell (by simpa using hWl.out) _).drew
      have X7 : Hid (Blk w7 X #[.int .i64 room, .slice a5 hs.length c5] 37) := by
        show Blk _ _ _ _
        rw [hw7.out]
        exact ((X6.out.other (a := ⟨wc.heap.size, 3, none⟩) (by have := HXl.out; simp; omega) _).other (a := ⟨wc.heap.size, 4, none⟩) (by have := HXl.out; simp; omega) _).drew
      have V7 : Hid (Holds w7 (.slice a5 hs.length c5) hs) := by
        have hm : Below wc.heap.size wc w7 := by
          rw [hw7.out, hw6.out]
          exact (((alloc_below wc _).setCell (by simp) _).setCell (by simp) _).drew
        exact V5.out.later hm (Nat.le_refl _)
      have E7 := hide_it (E4.out.trans (L7.out.mono E4.out.size))
      have B7 := hide_it (B2.out.trans (E7.out.mono B2.out.size))
      rw [← hw7.out]
      clear l0 l1 l2 l3 l4 y0 y1 y2 y3 y4 yf0 yf1 yf2 yf3 yf4
      obtain ⟨x0, x1⟩ := X7.out.cells2
      go_wp2_with fail
      have hst := implStockOk_any room _ hs w7 V7.out h9
      rw [OKS.out] at hst
      refine hst.mono ?_
      clear hst
      rintro e w8 ⟨rfl, hb8⟩
      have E8 := hide_it (E7.out.trans (hb8.mono E7.out.size))
      have B8 := hide_it (B7.out.trans (hb8.mono B7.out.size))
      obtain ⟨y0, y1, y2, y3, y4⟩ := (Y7.out.after hb8).cells5
      clear hb8 x0 x1
      have htl : (rs.take N).length = N := by rw [List.length_take]; omega
      have hho := implHouseOk_any id up room (.slice ao N co) (rs.take N) M a w8 (RT.out _ E8.out) htk (HA.out _ B8.out)
      rw [OKM.out] at hho
      have HHO := hide_it hho
      clear hho htl
      go_wp2_with fail
      refine HHO.out.mono ?_
      rintro e w9 ⟨rfl, hb9⟩
      have B9 := hide_it (B8.out.trans (hb9.mono B8.out.size))
      clear hb9
      go_wp2
      go_ret
      exact ⟨rfl, B9.out⟩

end Go.Proofs.YtkhdefcealpfaaaDoor

namespace Go.Proofs.YtkhdefcealpfaaaDoor
open Go.ChangeShapes Go.WideShapes Go.ChangeAt Go.WideMaps Go.WideElems Go.RowKit Go.Joins

set_option maxHeartbeats 1000000 in
theorem lawP43_great1 (ac : Option Addr) (nc cc : Nat) (am : Option Addr) (nm cm : Nat) (w : World) (h : 1048576 < (nc : Int)) :
    Calls Tryd.prog 6 #[.slice ac nc cc, .slice am nm cm] w fun e w' => e = .returned (.bool true) ∧ Below w.heap.size w w' := by
  go_enter Tryd.func6, Tryd.ntmps6
  go_wp2
  go_ret
  exact ⟨rfl, Below.refl _ _⟩

set_option maxHeartbeats 1000000 in
theorem lawP43_great2 (ac : Option Addr) (nc cc : Nat) (am : Option Addr) (nm cm : Nat) (w : World) (hc : (nc : Int) ≤ 1048576) (h : 1048576 < (nm : Int)) :
    Calls Tryd.prog 6 #[.slice ac nc cc, .slice am nm cm] w fun e w' => e = .returned (.bool true) ∧ Below w.heap.size w w' := by
  go_enter Tryd.func6, Tryd.ntmps6
  go_wp2
  go_ret
  exact ⟨rfl, Below.refl _ _⟩

theorem lawP43_any (vc vm : Value) (nc nm : Nat) (a : Addr) (w : World) (hc : CodeAt w vc nc) (hm : CodeAt w vm nm) (ha : ErrAt w a) :
    Calls Tryd.prog 6 #[vc, vm] w fun e w' => e = .returned (.bool true) ∧ Below w.heap.size w w' := by
  obtain ⟨am, cm, rfl, _⟩ := hm
  by_cases h1 : nc ≤ 1048576
  · by_cases h2 : nm ≤ 1048576
    · exact lawP43_small vc nc am nm cm a w hc h1 h2 ha
    · obtain ⟨ac, cc, rfl, _⟩ := hc
      exact lawP43_great2 ac nc cc am nm cm w (by omega) (by omega)
  · obtain ⟨ac, cc, rfl, _⟩ := hc
    exact lawP43_great1 ac nc cc am nm cm w (by omega)

set_option maxRecDepth 100000 in
theorem p43_lifted (os : Os) (started : os.Started) (H : Type) (enc : TypeId × Value → H) :
    ReturnsInHanded {} Tryd.checked os 6 .any (fun w args => (Rows.fnHouseLogSpec.pre enc Tryd.prog Tryd.f6 [] false w args ∧ laidMetH Tryd.prog laidErr w) ∧ sizedMet enc Tryd.prog Tryd.f6 (OpenSpec.ofChange Rows.fnHouseLogSpec) false w args)
      (Rows.fnHouseLogSpec.post enc Tryd.prog Tryd.f6 false true false false) := by
  refine returnsInHanded_of_change_and (C := Tryd.checked) (X := fun w _ => laidMetH Tryd.prog laidErr w) (fun _ _ _ hh h => h.of_heap hh) own started (by kernel_rfl) Tryd.func6
    (ChangeSpec.witness_shaped (enc := enc) (C := Tryd.checked) (os := os) (X := fun w _ => laidMetH Tryd.prog laidErr w) false (World.doorLaid Tryd.prog 28 os) #[.slice none 0 0, .slice none 0 0] 8 rfl (World.shaped_of_RefB (by kernel_rfl) (by kernel_rfl)) (by kernel_rfl) (by kernel_rfl) (by kernel_rfl) (door_met os _)) ?_
  intro W base args ds gs before hval0 hW _ _ hL _
  have hval : ∀ (j : Nat) t v, Tryd.f6.params[j]? = some t → args[j]? = some v → Value.okWide Tryd.prog W .any base t v := hval0
  have hW' := hW
  obtain ⟨p, q, hA0, hV0, rfl, hfz, hnd⟩ := hW
  have hA : DataW.TrodAll enc Tryd.prog W 0 (fun _ => true) true Tryd.f6.params.toList args.toList ds p := hA0
  have hV : DataW.TrodVars enc Tryd.prog W (fun _ => true) ["loop.example/concierge/impl.errNoRec"] gs q := hV0
  rw [Tryd.params6] at hA hval
  obtain ⟨v0, v1, d0, d1, p0, p1, rfl, rfl, rfl, h0, h1⟩ := trodAll_two hA
  obtain ⟨a, hErr, hvar⟩ := of_laid hL
  have vr : ∀ {X : World}, X.var? Tryd.prog "loop.example/concierge/impl.errNoRec" = some #[.iface 130 (.pointer (some a))] → ∀ sp : Nat → Bool,
      DataW.TrodVars enc Tryd.prog X sp ["loop.example/concierge/impl.errNoRec"] [tok enc (.iface 130 (.pointer (some a)))] [.cell 0 0] :=
    fun x0 sp => vars_read1 enc gErr gErrType Tryd.underlying92 x0 trivial sp
  obtain ⟨rfl, rfl⟩ := hV.unique (vr hvar _)
  clear hA0 hV0 hval0
  obtain ⟨nc, hC, _⟩ := open_code (hval 0 22 v0 rfl rfl) h0
  obtain ⟨nm, hM, _⟩ := open_code (hval 1 22 v1 rfl rfl) h1
  refine (lawP43_any v0 v1 nc nm a W hC hM hErr).mono fun e W' ⟨he, hb⟩ => ?_
  subst he
  have hlt : ∀ x ∈ p0, x.block < W.heap.size := fun x hx => hW'.lt x (by simp [hx])
  have hlt1 : ∀ x ∈ p1, x.block < W.heap.size := fun x hx => hW'.lt x (by simp [hx])
  refine ⟨_, rfl, _, _, _, [], p0 ++ p1, [.cell 0 0], hW', ?_, ?_, ?_, hb.frame _, fun h => by cases h⟩
  · exact trodAll_mk1 (shut_bool Tryd.underlying4 true)
  · exact trodAll_mk2 (Below.trod laidOut (by kernel_rfl) (of_decide_eq_true (by kernel_rfl)) h0 hb hlt) (Below.trod laidOut (by kernel_rfl) (of_decide_eq_true (by kernel_rfl)) h1 hb hlt1)
  · exact vr (var?_below hb gErr (World.block_lt_of_cell? _ _ hErr) hvar) _

theorem p43_said : Rows.FnHouseLogSaid :=
  OpenClaim.holds_of_wide 6 Tryd.f6 rfl rfl rfl rfl rfl rfl rfl ⟨rfl, rfl, rfl, rfl, rfl⟩ rfl rfl rfl rfl rfl (by kernel_rfl) Tryd.func6 (by kernel_rfl)
    (of_decide_eq_true (by kernel_rfl)) (by unfold Func.isWrapper; first | (rw [if_pos (by decide +kernel)]; kernel_rfl) | (rw [if_neg (by decide +kernel)]; exact ⟨rfl, rfl⟩))
    (fun os started H enc _ => p43_lifted os started H enc)

theorem p43_plain (f : FuncId) (fn : Func) (hf : Tryd.pinned.checked.prog.funcNamed "loop.example/concierge/laws.FnHouseLog" = some f) (hfn : Tryd.pinned.checked.prog.funcs[f]? = some fn) :
    true = Tryd.pinned.checked.prog.looks [] ∧ ∀ (j : Nat) t, fn.params[j]? = some t → Tryd.pinned.checked.prog.wantsStandIn t = false := by
  obtain rfl : f = 6 := Option.some.inj ((show Tryd.prog.funcNamed "loop.example/concierge/laws.FnHouseLog" = some 6 by kernel_rfl).symm.trans hf) |>.symm
  obtain rfl : fn = Tryd.f6 := (Option.some.inj (Tryd.func6.symm.trans hfn)).symm
  refine ⟨by kernel_rfl, fun j t ht => ?_⟩
  rw [Tryd.params6] at ht
  obtain rfl : t = 22 := by simpa using Array.mem_of_getElem? ht
  exact (show Tryd.prog.wantsStandIn 22 = false by kernel_rfl)

theorem p43_card : Rows.FnHouseLogCardSaid :=
  Claim7.holds_tied_plain_at .later [] _ _ _ _ p43_said (fun _ h => by cases h) (by kernel_rfl) (fun _ h => by cases h) fnHouseLog_row_tie rfl ⟨rfl, rfl⟩ (by kernel_rfl) rfl p43_plain (by kernel_rfl)
#print axioms p43_card

end Go.Proofs.YtkhdefcealpfaaaDoor
