/- What the last text of this claim stands on, part 6: plain facts and contracts; the last text says what is proved. -/
import Derived.Test.YtkkkdgpbmmjieaaGreatDoorWorldHoldsCardPart5
import Derived.Deep.RegionWith
import Derived.Deep.RegionHeld
import Derived.Laws.EntriesVeiled

namespace Go.Proofs.YtkkkdgpbmmjieaaGreatDoor
open Go.RowKit

/-- A desk as plain data: whether it is up, its records, how many of them are forced, what it was told. -/
abbrev Dk := Bool × List R × Int × List Wd
def dkZ : Dk := (false, [], 0, [])
def dkRise (up : Bool) (rs : List R) (f : Int) (ws : List Wd) : Dk := if dkOk up rs f ws = true then (true, rs, f, ws) else dkZ
def dkForce (up : Bool) (rs : List R) (f : Int) (ws : List Wd) : Dk := if dkOk up rs f ws = true then (up, rs, if up = true then (rs.length : Int) else f, ws) else dkZ
def DkO (w w' : World) (e : Ending) (o : Dk) : Prop := DkOut w w' e o.1 o.2.1 o.2.2.1 o.2.2.2
theorem DkO.none_ {w w' : World} (h : Below w.heap.size w w') : DkO w w' (.returned (deskV false (.slice none 0 0) 0 (.slice none 0 0))) dkZ := by
  obtain ⟨ps, hp, ho⟩ := Made.none w' w.heap.size
  exact ⟨none, 0, none, 0, ps, rfl, hp, ⟨Nat.le_refl _, w.heap.size, w'.heap.size, Nat.le_refl _, Nat.le_refl _, ho, World.ownsRow_nil _ _ _ _, fun g hg => by simp [Value.ownBlock] at hg⟩, h⟩
theorem dkOk_log {up : Bool} {rs : List R} {f : Int} {ws : List Wd} (h : dkOk up rs f ws = true) : logOk rs f = true := by
  unfold dkOk at h
  simp only [Bool.and_eq_true] at h
  exact h.1
theorem dkRise_tot (up : Bool) (rs : List R) (f : Int) (ws : List Wd) (hl : tot rs ≤ 1048576) (hlw : ws.length ≤ 1048576) : tot (dkRise up rs f ws).2.1 ≤ 1048576 ∧ (dkRise up rs f ws).2.2.2.length ≤ 1048576 := by
  unfold dkRise; split
  · exact ⟨hl, hlw⟩
  · simp [dkZ, tot, pre]
theorem dkForce_tot (up : Bool) (rs : List R) (f : Int) (ws : List Wd) (hl : tot rs ≤ 1048576) (hlw : ws.length ≤ 1048576) : tot (dkForce up rs f ws).2.1 ≤ 1048576 ∧ (dkForce up rs f ws).2.2.2.length ≤ 1048576 := by
  unfold dkForce; split
  · exact ⟨hl, hlw⟩
  · simp [dkZ, tot, pre]
/-- What is set outside leaves a desk's lists. -/
theorem DkOwn.setAbove {w : World} {lo hi b i : Nat} {v u : Value} {ps : List (R × Value)} {ws : List Wd} (h : DkOwn w lo hi v u ps ws) (hb : hi ≤ b) (x : Value) : DkOwn (w.setCell ⟨b, i, none⟩ x) lo hi v u ps ws :=
  h.below ((Below.refl hi w).setCell hb x) (Nat.le_refl _)
/-- A log of its own in the place of the old one. -/
theorem DkOwn.newLog {w w' : World} {lo hi : Nat} {v v' u : Value} {ps ps' : List (R × Value)} {ws : List Wd} (h : DkOwn w lo hi v u ps ws) (hl : lo ≤ w.heap.size) (hm : OwnRecs w' w.heap.size w'.heap.size v' ps') (hb : Below w.heap.size w w') : DkOwn w' lo w'.heap.size v' u ps' ws := by
  obtain ⟨h0, l, t, h1, h2, h3, h4, h5⟩ := h
  exact ⟨Nat.le_refl _, w.heap.size, w'.heap.size, hl, Nat.le_refl _, hm, ownsRow_below h4 hb (fun g hg => by have := (h5 g hg).1; omega), fun g hg => ⟨by have := (h5 g hg).1; have := hb.size; omega, Or.inl (by have := (h5 g hg).1; omega)⟩⟩

/-- A log, and words in a row that was begun ahead of it. -/
theorem DkOwn.mk2 {w w' : World} {lo l b : Nat} {v u : Value} {ps : List (R × Value)} {ws : List Wd} (h : OwnRecs w l w.heap.size v ps) (hg : w.grownBy w' (some b)) (hbl : b < l) (hlo : lo ≤ l) (hr : w'.ownsRow lo 82 4 u ws.length (wflat ws)) (hloc : u.ownBlock = some b ∨ u.ownBlock = some w.heap.size) : DkOwn w' lo w'.heap.size v u ps ws := by
  refine ⟨Nat.le_refl _, l, w.heap.size, hlo, hg.size, h.mid (Mid.of_grown (lo := b) (hi := b + 1) hg (fun k e => by simp at e; omega)) hbl, hr, fun g hg' => ⟨(hr.lt g hg').2, ?_⟩⟩
  rcases hloc with e | e
  · rw [e] at hg'
    simp at hg'
    omega
  · rw [e] at hg'
    simp at hg'
    omega

set_option maxHeartbeats 2000000 in
theorem implDeskOk_any (up : Bool) (v u : Value) (rs : List R) (f : Int) (ws : List Wd) (a : Addr) (w : World) (hv : DkAt w v u rs ws) (hl : tot rs ≤ 1048576) (hlw : ws.length ≤ 1048576) (hfv : Form v rs.length) (ha : ErrAt w a) :
    Calls Tryz.prog 43 #[deskV up v f u] w fun e w' => e = .returned (.bool (dkOk up rs f ws)) ∧ Below w.heap.size w w' := by
  have HC : Hid (∀ o, Calls Tryz.prog 76 #[deskV up v f u] (w.alloc o) fun e w' => ClOut (w.alloc o) w' e up rs f ws) := fun o =>
    clerkOf_any up v u rs f ws a (w.alloc o) (hv.later (alloc_below w o) (Nat.le_refl _)) hl hlw hfv (ha.later (alloc_below w o) (Nat.le_refl _))
  obtain ⟨av, cv, au, cu, rfl, rfl⟩ := hv.shape
  clear hv ha hfv
  go_enter Tryz.func43, Tryz.ntmps43
  go_wp2_with fail
  refine (HC.out _).mono ?_
  rintro e w1 ⟨hb, hc⟩
  have B1 := hide_it (below_after hb)
  have hz1 := B1.out.size
  clear hb
  rcases hc with ⟨hk, rfl⟩ | ⟨hk, ao, cap, a2, c2, aa, ca, af, cf, b, ps, rfl, -⟩
  · have HK := hide_it hk
    clear hk
    go_wp2
    go_ret
    exact ⟨by rw [HK.out]; rfl, B1.out.alloc hz1 _⟩
  · have HK := hide_it hk
    clear hk
    go_wp2
    go_ret
    exact ⟨by rw [HK.out]; rfl, B1.out.alloc hz1 _⟩

set_option maxHeartbeats 8000000 in
set_option maxRecDepth 20000 in
theorem l13Copy_any (up : Bool) (v u : Value) (rs : List R) (f : Int) (ws : List Wd) (w : World) (hv : DkAt w v u rs ws) (hl : tot rs ≤ 1048576) (hlw : ws.length ≤ 1048576) :
    Calls Tryz.prog 90 #[deskV up v f u] w fun e w' => DkOut w w' e up rs f ws := by
  have HV : Hid (∀ W, Below w.heap.size w W → DkAt W v u rs ws) := fun W h => hv.later h (Nat.le_refl _)
  have HS : Hid (∀ W, Below w.heap.size w W → Calls Tryz.prog 139 #[.agg #[v, .int .i64 f]] W fun e w' => LogOut W w' e rs f) := fun W h => l1Copy_any v rs f W (hv.1.later h (Nat.le_refl _)) hl
  obtain ⟨av, cv, au, cu, rfl, rfl⟩ := hv.shape
  clear hv
  obtain ⟨w0, hw0⟩ : ∃ W, Hid (W = (w.alloc (.cells #[.bool up, .slice av rs.length cv, .int .i64 f, .slice au ws.length cu] 38)).alloc (.cells #[.bool false, .slice none 0 0, .int .i64 0, .slice none 0 0] 38)) := ⟨_, rfl⟩
  have B0 : Hid (Below w.heap.size w w0) := by show Below _ _ _; rw [hw0.out]; exact below2 _ _ _
  have X0 : Hid (Blk w0 w.heap.size #[.bool up, .slice av rs.length cv, .int .i64 f, .slice au ws.length cu] 38) := by show Blk _ _ _ _; rw [hw0.out]; exact (Blk.new _ _ _).alloc _
  have Y0 : Hid (Blk w0 (w.heap.size + 1) #[.bool false, .slice none 0 0, .int .i64 0, .slice none 0 0] 38) := by show Blk _ _ _ _; rw [hw0.out]; exact Blk.new2 _ _ _ _
  have hs0 : w0.heap.size = w.heap.size + 2 := by rw [hw0.out, size2]
  have HS0 := hide_it hs0
  clear hs0
  obtain ⟨x0, x1, x2, x3⟩ := X0.out.cells4
  go_enter Tryz.func90, Tryz.ntmps90
  go_wp2_with fail
  rw [← hw0.out]
  refine wp_region_held_drew (S := fun w' => w'.cell? ⟨w.heap.size, 0, none⟩ = some (.bool up) ∧ w'.cell? ⟨w.heap.size, 1, none⟩ = some (.slice av rs.length cv) ∧ w'.cell? ⟨w.heap.size, 2, none⟩ = some (.int .i64 f) ∧ w'.cell? ⟨w.heap.size, 3, none⟩ = some (.slice au ws.length cu)) (by kernel_rfl) ⟨x0, x1, x2, x3⟩ (fun hHeld => ?_)
  clear x0 x1 x2 x3
  refine takeD (i := 0) (v := ?_) (some 3) rfl rfl (by kernel_rfl) (by kernel_rfl) (by kernel_rfl) (fun _ _ _ h => h) (by rfl) hHeld ?_ ?_
  rotate_left
  · intro W hSw
    try dsimp only at hSw
    go_simp
    try with_reducible rfl
  try simp only [Act.put]
  try simp only [List.setIfInBounds_toArray]
  try simp only [List.set_cons_succ]
  try simp only [List.set_cons_zero]
  refine takeD (i := 1) (v := ?_) (some 4) rfl rfl (by kernel_rfl) (by kernel_rfl) (by kernel_rfl) (fun _ _ _ h => h) (by rfl) hHeld ?_ ?_
  rotate_left
  · intro W hSw
    try dsimp only at hSw
    go_simp
    try with_reducible rfl
  try simp only [Act.put]
  try simp only [List.setIfInBounds_toArray]
  try simp only [List.set_cons_succ]
  try simp only [List.set_cons_zero]
  refine takeD (i := 2) (v := ?_) (some 5) rfl rfl (by kernel_rfl) (by kernel_rfl) (by kernel_rfl) (fun _ _ _ h => h) (by rfl) hHeld ?_ ?_
  rotate_left
  · intro W hSw
    try dsimp only at hSw
    go_simp
    try with_reducible rfl
  try simp only [Act.put]
  try simp only [List.setIfInBounds_toArray]
  try simp only [List.set_cons_succ]
  try simp only [List.set_cons_zero]
  refine takeD (i := 3) (v := ?_) (some 6) rfl rfl (by kernel_rfl) (by kernel_rfl) (by kernel_rfl) (fun _ _ _ h => h) (by rfl) hHeld ?_ ?_
  rotate_left
  · intro W hSw
    try dsimp only at hSw
    go_simp
    try with_reducible rfl
  try simp only [Act.put]
  try simp only [List.setIfInBounds_toArray]
  try simp only [List.set_cons_succ]
  try simp only [List.set_cons_zero]
  refine takeD (i := 6) (v := ?_) (some 9) rfl rfl (by kernel_rfl) (by kernel_rfl) (by kernel_rfl) (fun _ _ _ h => h) (by rfl) hHeld ?_ ?_
  rotate_left
  · intro W hSw
    try dsimp only at hSw
    go_simp
    try with_reducible rfl
  try simp only [Act.put]
  try simp only [List.setIfInBounds_toArray]
  try simp only [List.set_cons_succ]
  try simp only [List.set_cons_zero]
  refine takeD (i := 7) (v := ?_) (some 10) rfl rfl (by kernel_rfl) (by kernel_rfl) (by kernel_rfl) (fun _ _ _ h => h) (by rfl) hHeld ?_ ?_
  rotate_left
  · intro W hSw
    try dsimp only at hSw
    go_simp
    try with_reducible rfl
  try simp only [Act.put]
  try simp only [List.setIfInBounds_toArray]
  try simp only [List.set_cons_succ]
  try simp only [List.set_cons_zero]
  refine wpAnyH_ready (rs := [4, 5]) (by kernel_rfl) (by simp) ?_
  refine AllReadyH.cons rfl (fun K hK => ?_) (AllReadyH.cons rfl (fun K hK => ?_) AllReadyH.nil)
  · go_simp
    refine (HS.out _ B0.out.drew).mono ?_
    rintro e w1 ⟨ao, cap, rfl, hm, hb⟩
    have L1 := hide_it ((Below.refl w0.heap.size w0).drew.trans hb)
    have X1 := hide_it (X0.out.after L1.out)
    have M1 := hide_it hm
    have B1 := hide_it (B0.out.trans (L1.out.mono B0.out.size))
    clear hm hb
    try dsimp only
    refine hK.out _ _ X1.out.cells4 (fun hHeld => ?_)
    clear hK K
    refine wpAnyH_ready (rs := [5]) (by kernel_rfl) (by simp) ?_
    refine AllReadyH.cons rfl (fun K hK => ?_) AllReadyH.nil
    go_simp
    refine hK.out _ _ (X1.out.alloc _).cells4 (fun hHeld => ?_)
    clear hK K
    refine wpAnyH_ready (rs := [8]) (by kernel_rfl) (by simp) ?_
    refine AllReadyH.cons rfl (fun K hK => ?_) AllReadyH.nil
    refine step_append_words rfl _ _ rfl w1.heap.size (.slice (some ⟨w1.heap.size, 0, none⟩) 0 0) (.slice au ws.length cu) 0 [] ws rfl rfl (T.lit0 w1 _ _) (HV.out _ (B1.out.alloc B1.out.size _)).2 (by omega) (by simp) ?_
    intro a2 c2 w2 hown hgrow hloc
    clear hloc
    simp only [Nat.zero_add, List.nil_append] at hown
    have hbA : Below w1.heap.size w1 w2 := (((Below.refl w1.heap.size w1).alloc (Nat.le_refl _) _).grown hgrow (by simp) (fun j hj => by simp [Value.ownBlock] at hj; omega))
    have L2 := hide_it (L1.out.trans (hbA.mono L1.out.size))
    obtain ⟨ps, hp, ho⟩ := M1.out
    have OD : Hid (DkOwn w2 w0.heap.size w2.heap.size (.slice ao rs.length cap) (.slice a2 ws.length c2) ps ws) := DkOwn.mk_ (by simpa using ho) hown hbA L1.out.size
    have HPS := hide_it hp
    have X2 := hide_it (X0.out.after L2.out)
    have Y2 := hide_it (Y0.out.after L2.out)
    have B2 := hide_it (B0.out.trans (L2.out.mono B0.out.size))
    have hz2 : w.heap.size + 2 ≤ w2.heap.size := by have := L2.out.size; have := HS0.out; omega
    clear hown hgrow hbA hp ho
    simp only [Nat.zero_add, Act.put]
    refine hK.out _ _ X2.out.cells4 (fun hHeld => ?_)
    clear hK K
    try simp only [List.setIfInBounds_toArray]
    try simp only [List.set_cons_succ]
    try simp only [List.set_cons_zero]
    refine takeD (i := 9) (v := ?_) (some 12) rfl rfl (by kernel_rfl) (by kernel_rfl) (by kernel_rfl) (fun _ _ _ h => h) (by rfl) hHeld ?_ ?_
    rotate_left
    · intro W hSw
      try dsimp only at hSw
      go_simp
      try with_reducible rfl
    try simp only [Act.put]
    try simp only [List.setIfInBounds_toArray]
    try simp only [List.set_cons_succ]
    try simp only [List.set_cons_zero]
    obtain ⟨z0, z1, z2, z3⟩ := Y2.out.cells4
    obtain ⟨zf0, zf1, zf2, zf3⟩ := Y2.out.free4
    refine wpAnyH_ready (rs := [10]) (by kernel_rfl) (by simp) ?_
    refine AllReadyH.cons rfl (fun K hK => ?_) AllReadyH.nil
    go_simp
    refine hK.out _ _ ?_ (fun hHeld => ?_)
    · have XF := (X2.out.other (a := ⟨w.heap.size + 1, 0, none⟩) (by simp) (.bool up)).other (a := ⟨w.heap.size + 1, 1, none⟩) (by simp) (.slice ao rs.length cap) |>.other (a := ⟨w.heap.size + 1, 2, none⟩) (by simp) (.int .i64 f) |>.other (a := ⟨w.heap.size + 1, 3, none⟩) (by simp) (.slice a2 ws.length c2)
      exact XF.cells4
    refine wpAnyH_done (by kernel_rfl) ?_ _
    go_wp2
    refine bodyPost_ret (v := deskV up (.slice ao rs.length cap) f (.slice a2 ws.length c2)) (by simp [results, Tryz.results90, go_sem, *]) rfl ?_
    refine ⟨ao, cap, a2, c2, ps, rfl, HPS.out, ?_, ?_⟩
    · refine DkOwn.lo (lo := w0.heap.size) ?_ (by have := HS0.out; omega)
      repeat (refine DkOwn.setBelow ?_ (by have := HS0.out; omega) _)
      simpa using OD.out
    · repeat (refine Below.setCell ?_ (by first | (simp; done) | (simp; omega)) _)
      exact B2.out
  · go_simp
    refine hK.out _ _ (X0.out.drew.alloc _).cells4 (fun hHeld => ?_)
    clear hK K
    refine wpAnyH_ready (rs := [4]) (by kernel_rfl) (by simp) ?_
    refine AllReadyH.cons rfl (fun K hK => ?_) AllReadyH.nil
    go_simp
    refine (HS.out _ (B0.out.drew.alloc (by have := HS0.out; simp; omega) _)).mono ?_
    rintro e w1 ⟨ao, cap, rfl, hm, hb⟩
    have L1 := hide_it (((Below.refl w0.heap.size w0).drew.alloc (Nat.le_refl _) _).trans (hb.mono (by simp)))
    have X1 := hide_it (X0.out.after L1.out)
    have LIT := hide_it (ownsRow_below (T.lit0 w0.drew 82 4) hb (fun k hk => by simp [Value.ownBlock] at hk; simp; omega))
    have M1 := hide_it hm
    have B1 := hide_it (B0.out.trans (L1.out.mono B0.out.size))
    clear hm hb
    try dsimp only
    refine hK.out _ _ X1.out.cells4 (fun hHeld => ?_)
    clear hK K
    refine wpAnyH_ready (rs := [8]) (by kernel_rfl) (by simp) ?_
    refine AllReadyH.cons rfl (fun K hK => ?_) AllReadyH.nil
    refine step_append_words rfl _ _ rfl w0.heap.size (.slice (some ⟨w0.heap.size, 0, none⟩) 0 0) (.slice au ws.length cu) 0 [] ws rfl rfl LIT.out (HV.out _ B1.out).2 (by omega) L1.out.size ?_
    intro a2 c2 w2 hown hgrow hloc
    simp only [Nat.zero_add, List.nil_append] at hown hloc
    have hbB : Below w0.heap.size w1 w2 := ((Below.refl w0.heap.size w1).grown hgrow L1.out.size (fun j hj => by simp [Value.ownBlock] at hj; omega))
    have L2 := hide_it (L1.out.trans hbB)
    obtain ⟨ps, hp, ho⟩ := M1.out
    have OD : Hid (DkOwn w2 w0.heap.size w2.heap.size (.slice ao rs.length cap) (.slice a2 ws.length c2) ps ws) := DkOwn.mk2 (b := w0.heap.size) ho (by simpa [Value.ownBlock] using hgrow) (by simp) (by simp) hown (by simpa [Value.ownBlock] using hloc)
    have HPS := hide_it hp
    have X2 := hide_it (X0.out.after L2.out)
    have Y2 := hide_it (Y0.out.after L2.out)
    have B2 := hide_it (B0.out.trans (L2.out.mono B0.out.size))
    have hz2 : w.heap.size + 2 ≤ w2.heap.size := by have := L2.out.size; have := HS0.out; omega
    clear hown hgrow hbB hp ho hloc
    simp only [Nat.zero_add, Act.put]
    refine hK.out _ _ X2.out.cells4 (fun hHeld => ?_)
    clear hK K
    try simp only [List.setIfInBounds_toArray]
    try simp only [List.set_cons_succ]
    try simp only [List.set_cons_zero]
    refine takeD (i := 9) (v := ?_) (some 12) rfl rfl (by kernel_rfl) (by kernel_rfl) (by kernel_rfl) (fun _ _ _ h => h) (by rfl) hHeld ?_ ?_
    rotate_left
    · intro W hSw
      try dsimp only at hSw
      go_simp
      try with_reducible rfl
    try simp only [Act.put]
    try simp only [List.setIfInBounds_toArray]
    try simp only [List.set_cons_succ]
    try simp only [List.set_cons_zero]
    obtain ⟨z0, z1, z2, z3⟩ := Y2.out.cells4
    obtain ⟨zf0, zf1, zf2, zf3⟩ := Y2.out.free4
    refine wpAnyH_ready (rs := [10]) (by kernel_rfl) (by simp) ?_
    refine AllReadyH.cons rfl (fun K hK => ?_) AllReadyH.nil
    go_simp
    refine hK.out _ _ ?_ (fun hHeld => ?_)
    · have XF := (X2.out.other (a := ⟨w.heap.size + 1, 0, none⟩) (by simp) (.bool up)).other (a := ⟨w.heap.size + 1, 1, none⟩) (by simp) (.slice ao rs.length cap) |>.other (a := ⟨w.heap.size + 1, 2, none⟩) (by simp) (.int .i64 f) |>.other (a := ⟨w.heap.size + 1, 3, none⟩) (by simp) (.slice a2 ws.length c2)
      exact XF.cells4
    refine wpAnyH_done (by kernel_rfl) ?_ _
    go_wp2
    refine bodyPost_ret (v := deskV up (.slice ao rs.length cap) f (.slice a2 ws.length c2)) (by simp [results, Tryz.results90, go_sem, *]) rfl ?_
    refine ⟨ao, cap, a2, c2, ps, rfl, HPS.out, ?_, ?_⟩
    · refine DkOwn.lo (lo := w0.heap.size) ?_ (by have := HS0.out; omega)
      repeat (refine DkOwn.setBelow ?_ (by have := HS0.out; omega) _)
      simpa using OD.out
    · repeat (refine Below.setCell ?_ (by first | (simp; done) | (simp; omega)) _)
      exact B2.out

end Go.Proofs.YtkkkdgpbmmjieaaGreatDoor

namespace Go.Proofs.YtkkkdgpbmmjieaaGreatDoor
open Go.RowKit

/-- A fall of a log that was just copied. -/
theorem l1Fall_made {W : World} {lo cap : Nat} {ao : Option Addr} {rs : List R} {f keep : Int} (hm : Made W lo (.slice ao rs.length cap) rs) (hl : rs.length ≤ 1048576) (h0 : 0 ≤ f) (h1 : f ≤ rs.length) :
    Calls Tryz.prog 138 #[.agg #[.slice ao rs.length cap, .int .i64 f], .int .i64 keep] W fun e w' => e = .returned (.agg #[.slice ao (fallN rs.length f keep) cap, .int .i64 (fallN rs.length f keep)]) ∧ Below W.heap.size W w' := by
  rcases hm.form with ⟨rfl, rfl, rfl⟩ | ⟨g, rfl, hc⟩
  · have hf : f = 0 := by simp at h1; omega
    subst hf
    have hN : fallN 0 0 keep = 0 := by have := fallN_le (n := 0) (f := 0) (keep := keep) (by omega) (by omega); omega
    have h := l1Fall_nil keep W
    simp only [List.length_nil, hN]
    exact h
  · exact l1Fall_some g 0 rs.length cap f keep W hc hl h0 h1

end Go.Proofs.YtkkkdgpbmmjieaaGreatDoor

namespace Go.Proofs.YtkkkdgpbmmjieaaGreatDoor
open Go.RowKit

/-- The lists of a desk as they came to a call: readable, each nil or a row with room. -/
def DkIn (w : World) (v u : Value) (rs : List R) (ws : List Wd) : Prop := DkAt w v u rs ws ∧ Form v rs.length ∧ Form u ws.length
theorem DkIn.later {B : Nat} {w w' : World} {v u : Value} {rs : List R} {ws : List Wd} (h : DkIn w v u rs ws) (hb : Below B w w') (hB : w.heap.size ≤ B) : DkIn w' v u rs ws := ⟨h.1.later hb hB, h.2⟩
theorem DkOwn.in_ {w : World} {lo hi : Nat} {v u : Value} {ps : List (R × Value)} {rs : List R} {ws : List Wd} (h : DkOwn w lo hi v u ps ws) (hp : ps.map (·.1) = rs) : DkIn w v u rs ws := by
  have hl : ps.length = rs.length := by have := congrArg List.length hp; simpa using this
  refine ⟨h.at' hp, ?_, ?_⟩
  · obtain ⟨_, l, t, _, _, h3, _, _⟩ := h
    have := form_of_row h3.1
    rw [hl] at this
    exact this
  · obtain ⟨_, l, t, _, _, _, h4, _⟩ := h
    exact form_of_row h4

theorem OwnRecs.setB {w : World} {lo hi b j : Nat} {v : Value} {ps : List (R × Value)} {cur : Array Value} {ty : TypeId} (h : OwnRecs w lo hi v ps) (hh : Blk w b cur ty) (h1 : 161 ≠ ty) (h2 : 3 ≠ ty) (x : Value) : OwnRecs (w.setCell ⟨b, j, Option.none⟩ x) lo hi v ps := by
  obtain ⟨q1, q2, q3⟩ := h
  have hs : (w.setCell ⟨b, j, Option.none⟩ x).heap.size = w.heap.size := by simp
  exact ⟨ownsRow_setCell_ne q1 (fun g hg => row_apart q1 hh h1 g hg) x, q2, by rw [hs]; exact q3.1, fun p hp => ⟨ownsRow_setCell_ne (q3.2.1 p hp).1 (fun g hg => row_apart (q3.2.1 p hp).1 hh h2 g hg) x, (q3.2.1 p hp).2⟩, q3.2.2⟩
theorem DkOwn.setB {w : World} {lo hi b j : Nat} {v u : Value} {ps : List (R × Value)} {ws : List Wd} {cur : Array Value} {ty : TypeId} (h : DkOwn w lo hi v u ps ws) (hh : Blk w b cur ty) (h1 : 161 ≠ ty) (h2 : 3 ≠ ty) (h3 : 82 ≠ ty) (x : Value) : DkOwn (w.setCell ⟨b, j, Option.none⟩ x) lo hi v u ps ws := by
  obtain ⟨q0, l, t, q1, q2, q3, q4, q5⟩ := h
  exact ⟨by simpa using q0, l, t, q1, q2, q3.setB hh h1 h2 x, ownsRow_setCell_ne q4 (fun g hg => row_apart q4 hh h3 g hg) x, q5⟩

def dkFall (up : Bool) (rs : List R) (f : Int) (ws : List Wd) (keep : Int) : Dk := if dkOk up rs f ws = true then (false, rs.take (fallN rs.length f keep), (fallN rs.length f keep : Int), []) else dkZ
theorem dkFall_tot (up : Bool) (rs : List R) (f : Int) (ws : List Wd) (keep : Int) (hl : tot rs ≤ 1048576) : tot (dkFall up rs f ws keep).2.1 ≤ 1048576 ∧ (dkFall up rs f ws keep).2.2.2.length ≤ 1048576 := by
  unfold dkFall; split
  · next h =>
    obtain ⟨h0, h1, _⟩ := logOk_f (dkOk_log h)
    exact ⟨Nat.le_trans (pre_take rs _ (fallN_le h0 h1)) hl, by simp⟩
  · simp [dkZ, tot, pre]

set_option maxHeartbeats 8000000 in
set_option maxRecDepth 20000 in
theorem implDRise_any (up : Bool) (v u : Value) (rs : List R) (f : Int) (ws : List Wd) (a : Addr) (w : World) (hv : DkIn w v u rs ws) (hl : tot rs ≤ 1048576) (hlw : ws.length ≤ 1048576) (ha : ErrAt w a) :
    Calls Tryz.prog 107 #[deskV up v f u] w fun e w' => DkO w w' e (dkRise up rs f ws) := by
  have hrl := tot_len rs
  have HC : Hid (∀ W, Below w.heap.size w W → Calls Tryz.prog 76 #[deskV up v f u] W fun e w' => ClOut W w' e up rs f ws) := fun W h =>
    clerkOf_any up v u rs f ws a W (hv.1.later h (Nat.le_refl _)) hl hlw hv.2.1 (ha.later h (Nat.le_refl _))
  have HA : Hid (∀ W, Below w.heap.size w W → ErrAt W a) := fun W h => ha.later h (Nat.le_refl _)
  obtain ⟨av, cv, au, cu, rfl, rfl⟩ := hv.1.shape
  clear hv ha
  obtain ⟨w0, hw0⟩ : ∃ W, Hid (W = (w.alloc (.cells #[.bool up, .slice av rs.length cv, .int .i64 f, .slice au ws.length cu] 38)).alloc (.cells #[.bool false, .slice none 0 0, .int .i64 0, .slice none 0 0] 38)) := ⟨_, rfl⟩
  have B0 : Hid (Below w.heap.size w w0) := by show Below _ _ _; rw [hw0.out]; exact below2 _ _ _
  have Z0 : Hid (Blk w0 (w.heap.size + 1) #[.bool false, .slice none 0 0, .int .i64 0, .slice none 0 0] 38) := by show Blk _ _ _ _; rw [hw0.out]; exact Blk.new2 _ _ _ _
  have hs0 : w0.heap.size = w.heap.size + 2 := by rw [hw0.out, size2]
  go_enter Tryz.func107, Tryz.ntmps107
  go_wp2_with fail
  rw [← hw0.out]
  refine (HC.out _ B0.out).mono ?_
  rintro e w1 ⟨hb1, hc⟩
  have Z1 := hide_it (Z0.out.after hb1)
  have B1 := hide_it (B0.out.trans (hb1.mono B0.out.size))
  have hs1 : w.heap.size + 2 ≤ w1.heap.size := by have := hb1.size; omega
  clear hb1
  obtain ⟨z0, z1, z2, z3⟩ := Z1.out.cells4
  obtain ⟨zf0, zf1, zf2, zf3⟩ := Z1.out.free4
  have k0 := fun x => cellAlloc z0 x
  have k1 := fun x => cellAlloc z1 x
  have k2 := fun x => cellAlloc z2 x
  have k3 := fun x => cellAlloc z3 x
  have q0 := fun x => frozenAlloc zf0 (by omega) x
  have q1 := fun x => frozenAlloc zf1 (by omega) x
  have q2 := fun x => frozenAlloc zf2 (by omega) x
  have q3 := fun x => frozenAlloc zf3 (by omega) x
  rcases hc with ⟨hok, rfl⟩ | ⟨hok, ao, cap, a2, c2, aa, ca, af, cf, b, ps, rfl, hp2, ho2, -, -, -⟩
  · have HR : Hid (dkRise up rs f ws = dkZ) := by show _ = _; simp [dkRise, hok]
    clear hok
    go_wp2
    refine bodyPost_ret (v := deskV false (.slice none 0 0) 0 (.slice none 0 0)) (by simp [results, Tryz.results107, go_sem, *]) rfl ?_
    rw [HR.out]
    refine DkO.none_ ?_
    iterate 4 (refine Below.setCell ?_ (by first | (simp; done) | (simp; omega)) _)
    exact B1.out.alloc (by omega) _
  · have HR : Hid (dkRise up rs f ws = (true, rs, f, ws)) := by show _ = _; simp [dkRise, hok]
    have HLK := hide_it (dkOk_log hok)
    clear hok
    have O2 := hide_it ho2
    have P2 := hide_it hp2
    clear hp2 ho2
    go_wp2
    refine bodyPost_ret (v := deskV true (.slice ao rs.length cap) f (.slice a2 ws.length c2)) (by simp [results, Tryz.results107, go_sem, *]) rfl ?_
    rw [HR.out]
    refine ⟨ao, cap, a2, c2, ps, rfl, P2.out, ?_, ?_⟩
    · refine DkOwn.lo (lo := w0.heap.size) ?_ (by omega)
      iterate 4 (refine DkOwn.setBelow ?_ (by omega) _)
      refine DkOwn.hi (O2.out.below (alloc_below _ _) (Nat.le_refl _)) (by simp) (by simp)
    · iterate 4 (refine Below.setCell ?_ (by first | (simp; done) | (simp; omega)) _)
      exact B1.out.alloc (by omega) _

set_option maxHeartbeats 8000000 in
set_option maxRecDepth 20000 in
theorem implDForce_any (up : Bool) (v u : Value) (rs : List R) (f : Int) (ws : List Wd) (a : Addr) (w : World) (hv : DkIn w v u rs ws) (hl : tot rs ≤ 1048576) (hlw : ws.length ≤ 1048576) (ha : ErrAt w a) :
    Calls Tryz.prog 101 #[deskV up v f u] w fun e w' => DkO w w' e (dkForce up rs f ws) := by
  have hrl := tot_len rs
  have HC : Hid (∀ W, Below w.heap.size w W → Calls Tryz.prog 76 #[deskV up v f u] W fun e w' => ClOut W w' e up rs f ws) := fun W h =>
    clerkOf_any up v u rs f ws a W (hv.1.later h (Nat.le_refl _)) hl hlw hv.2.1 (ha.later h (Nat.le_refl _))
  have HA : Hid (∀ W, Below w.heap.size w W → ErrAt W a) := fun W h => ha.later h (Nat.le_refl _)
  obtain ⟨av, cv, au, cu, rfl, rfl⟩ := hv.1.shape
  clear hv ha
  obtain ⟨w0, hw0⟩ : ∃ W, Hid (W = (w.alloc (.cells #[.bool up, .slice av rs.length cv, .int .i64 f, .slice au ws.length cu] 38)).alloc (.cells #[.bool false, .slice none 0 0, .int .i64 0, .slice none 0 0] 38)) := ⟨_, rfl⟩
  have B0 : Hid (Below w.heap.size w w0) := by show Below _ _ _; rw [hw0.out]; exact below2 _ _ _
  have Z0 : Hid (Blk w0 (w.heap.size + 1) #[.bool false, .slice none 0 0, .int .i64 0, .slice none 0 0] 38) := by show Blk _ _ _ _; rw [hw0.out]; exact Blk.new2 _ _ _ _
  have hs0 : w0.heap.size = w.heap.size + 2 := by rw [hw0.out, size2]
  go_enter Tryz.func101, Tryz.ntmps101
  go_wp2_with fail
  rw [← hw0.out]
  refine (HC.out _ B0.out).mono ?_
  rintro e w1 ⟨hb1, hc⟩
  have Z1 := hide_it (Z0.out.after hb1)
  have B1 := hide_it (B0.out.trans (hb1.mono B0.out.size))
  have hs1 : w.heap.size + 2 ≤ w1.heap.size := by have := hb1.size; omega
  clear hb1
  obtain ⟨z0, z1, z2, z3⟩ := Z1.out.cells4
  obtain ⟨zf0, zf1, zf2, zf3⟩ := Z1.out.free4
  have k0 := fun x => cellAlloc z0 x
  have k1 := fun x => cellAlloc z1 x
  have k2 := fun x => cellAlloc z2 x
  have k3 := fun x => cellAlloc z3 x
  have q0 := fun x => frozenAlloc zf0 (by omega) x
  have q1 := fun x => frozenAlloc zf1 (by omega) x
  have q2 := fun x => frozenAlloc zf2 (by omega) x
  have q3 := fun x => frozenAlloc zf3 (by omega) x
  rcases hc with ⟨hok, rfl⟩ | ⟨hok, ao, cap, a2, c2, aa, ca, af, cf, b, ps, rfl, hp2, ho2, -, -, -⟩
  · have HR : Hid (dkForce up rs f ws = dkZ) := by show _ = _; simp [dkForce, hok]
    clear hok
    go_wp2
    refine bodyPost_ret (v := deskV false (.slice none 0 0) 0 (.slice none 0 0)) (by simp [results, Tryz.results101, go_sem, *]) rfl ?_
    rw [HR.out]
    refine DkO.none_ ?_
    iterate 4 (refine Below.setCell ?_ (by first | (simp; done) | (simp; omega)) _)
    exact B1.out.alloc (by omega) _
  · have HR : Hid (dkForce up rs f ws = (up, rs, if up = true then (rs.length : Int) else f, ws)) := by show _ = _; simp [dkForce, hok]
    have HLK := hide_it (dkOk_log hok)
    clear hok
    have O2 := hide_it ho2
    have P2 := hide_it hp2
    clear hp2 ho2
    cases up
    · go_wp2
      refine bodyPost_ret (v := deskV false (.slice ao rs.length cap) f (.slice a2 ws.length c2)) (by simp [results, Tryz.results101, go_sem, *]) rfl ?_
      rw [HR.out]
      refine ⟨ao, cap, a2, c2, ps, rfl, P2.out, ?_, ?_⟩
      · refine DkOwn.lo (lo := w0.heap.size) ?_ (by omega)
        iterate 4 (refine DkOwn.setBelow ?_ (by omega) _)
        refine DkOwn.hi (O2.out.below (alloc_below _ _) (Nat.le_refl _)) (by simp) (by simp)
      · iterate 4 (refine Below.setCell ?_ (by first | (simp; done) | (simp; omega)) _)
        exact B1.out.alloc (by omega) _
    · obtain ⟨wA, hwA⟩ : ∃ W, Hid (W = w1.alloc (.cells #[.bool true, .slice ao rs.length cap, .int .i64 f, .slice a2 ws.length c2, .slice aa (T.ofO rs).length ca, .slice af (T.ofO (rs.take f.toNat)).length cf, .map (some b)] 128)) := ⟨_, rfl⟩
      have C1 : Hid (Blk wA w1.heap.size #[.bool true, .slice ao rs.length cap, .int .i64 f, .slice a2 ws.length c2, .slice aa (T.ofO rs).length ca, .slice af (T.ofO (rs.take f.toNat)).length cf, .map (some b)] 128) := by show Blk _ _ _ _; rw [hwA.out]; exact Blk.new _ _ _
      have LA : Hid (Below w1.heap.size w1 wA) := by show Below _ _ _; rw [hwA.out]; exact alloc_below _ _
      have BA := hide_it (B1.out.trans (LA.out.mono B1.out.size))
      have OA := hide_it (O2.out.below LA.out (Nat.le_refl _))
      have ZA := hide_it (Z1.out.after LA.out)
      have HF := hide_it (implForce_any (.slice ao rs.length cap) rs f a wA (OA.out.at' P2.out).1 hl (HA.out _ BA.out))
      have HFE : Hid (forceR rs f = rs ∧ forceF rs f = rs.length) := by constructor <;> simp [forceR, forceF, HLK.out]
      have hsA : w1.heap.size + 1 = wA.heap.size := by rw [hwA.out]; simp
      go_wp2_with fail
      rw [← hwA.out]
      refine HF.out.mono ?_
      rintro e w2 ⟨a3, c3, rfl, hm3, hb3⟩
      rw [HFE.out.1] at hm3
      rw [HFE.out.1, HFE.out.2]
      obtain ⟨ps3, hp3, ho3⟩ := hm3
      have O3 := hide_it (OA.out.newLog (by omega) ho3 hb3)
      have P3 := hide_it hp3
      have C3 := hide_it (C1.out.after hb3)
      have Z3 := hide_it (ZA.out.after hb3)
      have B3 := hide_it (BA.out.trans (hb3.mono BA.out.size))
      have hs3 : wA.heap.size ≤ w2.heap.size := hb3.size
      clear hb3 hp3 ho3 k0 k1 k2 k3 q0 q1 q2 q3 z0 z1 z2 z3 zf0 zf1 zf2 zf3
      obtain ⟨y0, y1, y2, y3, y4, y5, y6⟩ := C3.out.cells7
      obtain ⟨yf0, yf1, yf2, yf3, yf4, yf5, yf6⟩ := C3.out.free7
      obtain ⟨z0, z1, z2, z3⟩ := Z3.out.cells4
      obtain ⟨zf0, zf1, zf2, zf3⟩ := Z3.out.free4
      go_wp2
      refine bodyPost_ret (v := deskV true (.slice a3 rs.length c3) rs.length (.slice a2 ws.length c2)) (by simp [results, Tryz.results101, go_sem, *]) rfl ?_
      rw [HR.out]
      refine ⟨a3, c3, a2, c2, ps3, rfl, P3.out, ?_, ?_⟩
      · refine DkOwn.lo (lo := w0.heap.size) ?_ (by omega)
        iterate 4 (refine DkOwn.setBelow ?_ (by omega) _)
        have e1 := O3.out.setB (j := 1) C3.out (by decide) (by decide) (by decide) (.slice a3 rs.length c3)
        have e2 := e1.setB (j := 2) (C3.out.set_ 1 (.slice a3 rs.length c3)) (by decide) (by decide) (by decide) (.int .i64 rs.length)
        simpa using e2
      · iterate 6 (refine Below.setCell ?_ (by first | (simp; done) | (simp; omega)) _)
        exact B3.out

end Go.Proofs.YtkkkdgpbmmjieaaGreatDoor

namespace Go.Proofs.YtkkkdgpbmmjieaaGreatDoor
open Go.RowKit

/-- A world as a value: its desk, its houses, the words under way. -/
abbrev worldV (up : Bool) (v : Value) (f : Int) (u hv nv : Value) : Value := .agg #[.bool up, v, .int .i64 f, u, hv, nv]
/-- The lists of a world, as they lie. -/
def WdAt (w : World) (v u hv nv : Value) (rs : List R) (ws : List Wd) (hs : List Hd) (ns : List Wd) : Prop := DkAt w v u rs ws ∧ Houses w hv hs ∧ Words w nv ns
theorem WdAt.later {B : Nat} {w w' : World} {v u hv nv : Value} {rs : List R} {ws : List Wd} {hs : List Hd} {ns : List Wd} (h : WdAt w v u hv nv rs ws hs ns) (hb : Below B w w') (hB : w.heap.size ≤ B) : WdAt w' v u hv nv rs ws hs ns :=
  ⟨h.1.later hb hB, h.2.1.later hb hB, h.2.2.later hb hB⟩
theorem WdAt.shape {w : World} {v u hv nv : Value} {rs : List R} {ws : List Wd} {hs : List Hd} {ns : List Wd} (h : WdAt w v u hv nv rs ws hs ns) : ∃ a1 c1 a2 c2 a3 c3 a4 c4, v = .slice a1 rs.length c1 ∧ u = .slice a2 ws.length c2 ∧ hv = .slice a3 hs.length c3 ∧ nv = .slice a4 ns.length c4 := by
  obtain ⟨a1, c1, a2, c2, h1, h2⟩ := h.1.shape
  obtain ⟨a3, c3, h3⟩ := h.2.1.shape
  obtain ⟨a4, c4, h4⟩ := h.2.2.shape
  exact ⟨a1, c1, a2, c2, a3, c3, a4, c4, h1, h2, h3, h4⟩
/-- All that a world can be: small enough for the language's own lengths. -/
structure WdFit (rs : List R) (ws : List Wd) (hs : List Hd) (ns : List Wd) : Prop where
  r : (rs.length : Int) ≤ 9223372036854775807
  rr : ∀ r ∈ rs, (r.2.2.length : Int) ≤ 9223372036854775807
  w : (ws.length : Int) ≤ 9223372036854775807
  h : (hs.length : Int) ≤ 9223372036854775807
  hr : ∀ h ∈ hs, (h.2.2.2.1.length : Int) ≤ 9223372036854775807
  hrr : ∀ h ∈ hs, ∀ r ∈ h.2.2.2.1, (r.2.2.length : Int) ≤ 9223372036854775807
  n : (ns.length : Int) ≤ 9223372036854775807
def wdTot (rs : List R) (ws : List Wd) (hs : List Hd) (ns : List Wd) : Nat := tot rs + ws.length + htot hs + ns.length
theorem Blk.cells6 {w : World} {b : Nat} {x0 x1 x2 x3 x4 x5 : Value} {ty : TypeId} (h : Blk w b #[x0, x1, x2, x3, x4, x5] ty) :
    w.cell? ⟨b, 0, none⟩ = some x0 ∧ w.cell? ⟨b, 1, none⟩ = some x1 ∧ w.cell? ⟨b, 2, none⟩ = some x2 ∧ w.cell? ⟨b, 3, none⟩ = some x3 ∧ w.cell? ⟨b, 4, none⟩ = some x4 ∧ w.cell? ⟨b, 5, none⟩ = some x5 := by
  refine ⟨?_, ?_, ?_, ?_, ?_, ?_⟩ <;> (rw [h.cell]; rfl)

set_option maxHeartbeats 2000000 in
theorem szWorld_any (up : Bool) (v u hv nv : Value) (rs : List R) (f : Int) (ws : List Wd) (hs : List Hd) (ns : List Wd) (left : Int) (w : World) (hw : WdAt w v u hv nv rs ws hs ns) (hf : WdFit rs ws hs ns) (h0 : 0 ≤ left) (h1 : left ≤ 1048576) :
    Calls Tryz.prog 7 #[worldV up v f u hv nv, .int .i64 left] w fun e w' => e = .returned (.int .i64 (leftOf left (wdTot rs ws hs ns))) ∧ Below w.heap.size w w' := by
  have X0 : Hid (Blk (w.alloc (.cells #[.bool up, v, .int .i64 f, u, hv, nv] 30)) w.heap.size #[.bool up, v, .int .i64 f, u, hv, nv] 30) := Blk.new _ _ _
  obtain ⟨w0, hw0⟩ : ∃ W, Hid (W = w.alloc (.cells #[.bool up, v, .int .i64 f, u, hv, nv] 30)) := ⟨_, rfl⟩
  have B0 : Hid (Below w.heap.size w w0) := by show Below _ _ _; rw [hw0.out]; exact alloc_below _ _
  rw [← hw0.out] at X0
  have HW : Hid (∀ W, Below w.heap.size w W → WdAt W v u hv nv rs ws hs ns) := fun W h => hw.later h (Nat.le_refl _)
  have HF := hide_it hf
  have H1 : Hid (∀ l : Int, 0 ≤ l → l ≤ 1048576 → ∀ W, Below w.heap.size w W → Calls Tryz.prog 34 #[deskV up v f u, .int .i64 l] W fun e w' => e = .returned (.int .i64 (leftOf l (tot rs + ws.length))) ∧ Below W.heap.size W w') := fun l h0 h1 W h =>
    szDesk_any up v u rs f ws l W (HW.out W h).1 HF.out.r HF.out.rr HF.out.w h0 h1
  have H2 : Hid (∀ l : Int, 0 ≤ l → l ≤ 1048576 → ∀ W, Below w.heap.size w W → Calls Tryz.prog 35 #[hv, .int .i64 l] W fun e w' => e = .returned (.int .i64 (leftOf l (htot hs))) ∧ Below W.heap.size W w') := fun l h0 h1 W h =>
    szHouses_any hv hs l W (HW.out W h).2.1 HF.out.h HF.out.hr HF.out.hrr h0 h1
  obtain ⟨av, cv, au, cu, ah, ch, an, cn, rfl, rfl, rfl, rfl⟩ := hw.shape
  have H3 : Hid (∀ l : Int, 0 ≤ l → l ≤ 1048576 → ∀ W, Calls Tryz.prog 36 #[.slice an ns.length cn, .int .i64 l] W fun e w' => e = .returned (.int .i64 (leftOf l ns.length)) ∧ w' = W) := fun l h0 h1 W =>
    szWords_any an ns.length cn l W HF.out.n h0 h1
  obtain ⟨x0, x1, x2, x3, x4, x5⟩ := X0.out.cells6
  clear hw hf
  obtain ⟨TD, hTD⟩ : ∃ x, tot rs + ws.length = x := ⟨_, rfl⟩
  obtain ⟨TH, hTH⟩ : ∃ x, htot hs = x := ⟨_, rfl⟩
  obtain ⟨TN, hTN⟩ : ∃ x, ns.length = x := ⟨_, rfl⟩
  have HT : Hid (wdTot rs ws hs ns = TD + TH + TN) := by show _ = _; unfold wdTot; omega
  rw [hTD] at H1
  rw [hTH] at H2
  rw [hTN] at H3
  have HTN := hide_it hTN
  clear hTD hTH hTN
  by_cases hd : left - (TD : Int) < 0
  · have HE : Hid (leftOf left (wdTot rs ws hs ns) = -1) := leftOf_neg (by rw [HT.out]; omega)
    have HS := hide_it (H1.out left h0 h1 w0 B0.out)
    rw [leftOf_neg hd] at HS
    go_enter Tryz.func7, Tryz.ntmps7
    go_wp2_with fail
    rw [← hw0.out]
    refine HS.out.mono ?_
    rintro e w1 ⟨rfl, hb⟩
    have B1 := hide_it (B0.out.trans (hb.mono B0.out.size))
    clear hb
    go_wp2
    go_ret
    exact ⟨by rw [HE.out]; rfl, B1.out⟩
  have HS := hide_it (H1.out left h0 h1 w0 B0.out)
  rw [leftOf_pos hd] at HS
  obtain ⟨L1, hL1⟩ : ∃ x : Int, left - (TD : Int) = x := ⟨_, rfl⟩
  rw [hL1] at HS
  have h10 : 0 ≤ L1 := by omega
  have h11 : L1 ≤ 1048576 := by omega
  go_enter Tryz.func7, Tryz.ntmps7
  go_wp2_with fail
  rw [← hw0.out]
  refine HS.out.mono ?_
  rintro e w1 ⟨rfl, hb⟩
  have B1 := hide_it (B0.out.trans (hb.mono B0.out.size))
  have X1 := hide_it (X0.out.after hb)
  clear hb x0 x1 x2 x3 x4 x5 HS
  obtain ⟨x0, x1, x2, x3, x4, x5⟩ := X1.out.cells6
  by_cases hh : L1 - (TH : Int) < 0
  · have HE : Hid (leftOf left (wdTot rs ws hs ns) = -1) := leftOf_neg (by rw [HT.out]; omega)
    have HS := hide_it (H2.out L1 h10 h11 w1 B1.out)
    rw [leftOf_neg hh] at HS
    go_wp2_with fail
    refine HS.out.mono ?_
    rintro e w2 ⟨rfl, hb⟩
    have B2 := hide_it (B1.out.trans (hb.mono B1.out.size))
    clear hb
    go_wp2
    go_ret
    exact ⟨by rw [HE.out]; rfl, B2.out⟩
  have HS := hide_it (H2.out L1 h10 h11 w1 B1.out)
  rw [leftOf_pos hh] at HS
  obtain ⟨L2, hL2⟩ : ∃ x : Int, L1 - (TH : Int) = x := ⟨_, rfl⟩
  rw [hL2] at HS
  have h20 : 0 ≤ L2 := by omega
  have h21 : L2 ≤ 1048576 := by omega
  go_wp2_with fail
  refine HS.out.mono ?_
  rintro e w2 ⟨rfl, hb⟩
  have B2 := hide_it (B1.out.trans (hb.mono B1.out.size))
  have X2 := hide_it (X1.out.after hb)
  clear hb x0 x1 x2 x3 x4 x5 HS
  obtain ⟨x0, x1, x2, x3, x4, x5⟩ := X2.out.cells6
  have HS := hide_it (H3.out L2 h20 h21 w2)
  rw [HTN.out] at x5
  by_cases hn : L2 - (TN : Int) < 0
  · have HE : Hid (leftOf left (wdTot rs ws hs ns) = -1) := leftOf_neg (by rw [HT.out]; omega)
    rw [leftOf_neg hn] at HS
    go_wp2_with fail
    refine HS.out.mono ?_
    rintro e w3 ⟨rfl, rfl⟩
    go_wp2
    go_ret
    exact ⟨by rw [HE.out]; rfl, B2.out⟩
  · have HE : Hid (leftOf left (wdTot rs ws hs ns) = L2 - (TN : Int)) := by show _ = _; rw [leftOf_pos (by rw [HT.out]; omega), HT.out]; omega
    rw [leftOf_pos hn] at HS
    go_wp2_with fail
    refine HS.out.mono ?_
    rintro e w3 ⟨rfl, rfl⟩
    go_wp2
    go_ret
    exact ⟨by rw [HE.out]; rfl, B2.out⟩

end Go.Proofs.YtkkkdgpbmmjieaaGreatDoor

namespace Go.Proofs.YtkkkdgpbmmjieaaGreatDoor
open Go.ChangeShapes Go.WideShapes Go.ChangeAt Go.WideMaps Go.WideElems Go.RowKit Go.Joins

theorem cellsHouseL : Tryz.prog.cellsOf 113 = 5 := by kernel_rfl
theorem cellsWorldL : Tryz.prog.cellsOf 30 = 6 := by kernel_rfl
theorem cellsHousesL : Tryz.prog.cellsOf 28 = 1 := by kernel_rfl
theorem array6 {α : Type} {cs : Array α} (h : cs.size = 6) : ∃ c0 c1 c2 c3 c4 c5, cs = #[c0, c1, c2, c3, c4, c5] := by
  obtain ⟨l⟩ := cs
  match l, h with
  | [c0, c1, c2, c3, c4, c5], _ => exact ⟨c0, c1, c2, c3, c4, c5, rfl⟩

section
variable {H : Type} {enc : TypeId × Value → H} {W : World}

/-- How great the records of a house can be at most. -/
def HFit (h : Hd) : Prop := (h.2.2.2.1.length : Int) ≤ 9223372036854775807 ∧ ∀ r ∈ h.2.2.2.1, (r.2.2.length : Int) ≤ 9223372036854775807

set_option maxRecDepth 100000 in
theorem house_of_trod {fuel : Nat} {b o : Nat} {cs : List Value} {y : DataW H × List MemPlace} (hc : W.cells? 0 ⟨b, o, none⟩ 5 = some cs) (h : DataW.trod enc Tryz.prog W 0 (fun _ => true) true fuel 113 cs = some y) :
    ∃ (p : Hd) (u : Value), HCells W b o p u ∧ HFit p := by
  obtain ⟨y0, y1, y2, y3, n, _, hl, h0, h1, h2, h3⟩ := trod_struct4 Tryz.underlying113 h
  rw [cellsHouseL] at hl
  match cs, hl with
  | [c0, c1, c2, c3, c4], _ =>
    simp only [cellsInt, cellsBool, cellsLogL] at h0 h1 h2 h3
    obtain ⟨id, e0, _, _⟩ := DataW.trod_int Tryz.underlying3 h0
    obtain ⟨up, e1, _⟩ := DataW.trod_bool Tryz.underlying4 h1
    obtain ⟨room, e2, _, _⟩ := DataW.trod_int Tryz.underlying3 h2
    simp at e0 e1 e2
    subst e0 e1 e2
    obtain ⟨z0, z1, m, hy, _, g0, g1⟩ := trod_struct2 Tryz.underlying24 h3
    simp only [cellsInt, cellsRecsL] at g0 g1
    obtain ⟨f, e4, _, _⟩ := DataW.trod_int Tryz.underlying3 g1
    simp at e4
    subst e4
    obtain ⟨rs, r1, r2, r3⟩ := recs_of_trod (c := c3) (by simpa using g0)
    obtain ⟨_, _, hcs⟩ := World.cells?_some hc
    refine ⟨(id, up, room, rs, f), c3, ⟨?_, ?_, ?_, ?_, ?_, r1⟩, r2, r3⟩
    · simpa [Addr.add] using hcs 0 (by omega)
    · simpa [Addr.add] using hcs 1 (by omega)
    · simpa [Addr.add] using hcs 2 (by omega)
    · simpa [Addr.add] using hcs 3 (by omega)
    · simpa [Addr.add] using hcs 4 (by omega)

theorem houses_of_trod {fuel : Nat} {c : Value} {y : DataW H × List MemPlace} (h : DataW.trod enc Tryz.prog W 0 (fun _ => true) true fuel 28 [c] = some y) :
    ∃ hs : List Hd, Houses W c hs ∧ (hs.length : Int) ≤ 9223372036854775807 ∧ ∀ h ∈ hs, HFit h := by
  rcases Deep.open_slice Tryz.underlying28 h with ⟨hcs, hx⟩ | ⟨a, len, cap, m, n, D, Pq, hcs, _, hl, hm, hmm, hx, hel⟩
  · simp at hcs
    subst hcs
    exact ⟨[], Or.inl ⟨rfl, _, _, rfl⟩, by simp, fun r hr => by simp at hr⟩
  · simp at hcs
    subst hcs
    simp only [if_pos] at hmm
    rw [cellsHouseL] at hel
    by_cases h0 : len = 0
    · subst h0
      exact ⟨[], Or.inl ⟨rfl, _, _, rfl⟩, by simp, fun r hr => by simp at hr⟩
    · obtain ⟨b, off, spot⟩ := a
      have hspot : spot = none := by
        obtain ⟨cs', hc, _⟩ := hel 0 (by omega)
        obtain ⟨_, hlen', hcs⟩ := World.cells?_some hc
        have h1 := hcs 0 (by omega)
        rw [List.getElem?_eq_getElem (by omega)] at h1
        simpa [Addr.add] using World.cell?_spot h1
      subst hspot
      have each : ∀ i : Nat, ∃ p : Hd × Value, i < len → HCells W b (off + i * 5) p.1 p.2 ∧ HFit p.1 := fun i => by
        by_cases hi : i < len
        · obtain ⟨cs', hc, ht⟩ := hel i (by omega)
          rw [add_plain] at hc
          obtain ⟨r, u, h1, h2⟩ := house_of_trod hc ht
          exact ⟨(r, u), fun _ => ⟨h1, h2⟩⟩
        · exact ⟨((0, false, 0, [], 0), .slice none 0 0), fun h => absurd h hi⟩
      obtain ⟨F, hF⟩ := Classical.axiomOfChoice each
      have hlen : ((List.range len).map fun i => (F i).1).length = len := by simp
      refine ⟨(List.range len).map fun i => (F i).1, Or.inr ⟨b, off, cap, by rw [hlen], by intro e; rw [e] at hlen; simp at hlen; omega, fun i r hr => ?_⟩, by rw [hlen]; unfold maxLen at hm; omega, fun r hr => ?_⟩
      · have hi : i < len := by
          by_cases e : i < len
          · exact e
          · rw [List.getElem?_eq_none (by rw [hlen]; omega)] at hr; cases hr
        simp [hi] at hr
        subst hr
        exact ⟨(F i).2, (hF i hi).1⟩
      · simp at hr
        obtain ⟨i, hi, rfl⟩ := hr
        exact (hF i hi).2

set_option maxRecDepth 100000 in
/-- A world that came in. -/
theorem open_world {base : Nat} {v : Value} {d : DataW H} {p : List MemPlace} (hval : Value.okWide Tryz.prog W .any base 30 v) (h : DataW.Trod enc Tryz.prog W 0 (fun _ => true) true 30 v d p) :
    ∃ (up : Bool) (x : Value) (f : Int) (y z t : Value) (rs : List R) (ws : List Wd) (hs : List Hd) (ns : List Wd), v = worldV up x f y z t ∧ WdAt W x y z t rs ws hs ns ∧ WdFit rs ws hs ns := by
  obtain ⟨cs, rfl, hsz⟩ := okWide_struct Tryz.underlying30 hval
  obtain ⟨c0, c1, c2, c3, c4, c5, rfl⟩ := array6 (hsz.trans cellsWorldL)
  obtain ⟨fuel, hf⟩ := h
  obtain ⟨y0, y1, y2, n, hx, _, h0, h1, h2⟩ := Deep.trod_struct3 Tryz.underlying30 hf
  simp only [Value.cells, cellsDeskL, cellsHousesL, cellsWordsL] at h0 h1 h2
  obtain ⟨q0, q1, q2, m, hq, _, g0, g1, g2⟩ := Deep.trod_struct3 Tryz.underlying27 h0
  simp only [cellsBool, cellsLogL, cellsWordsL] at g0 g1 g2
  obtain ⟨up, e0, _⟩ := DataW.trod_bool Tryz.underlying4 g0
  simp at e0
  subst e0
  obtain ⟨z0, z1, m2, hy, _, k0, k1⟩ := trod_struct2 Tryz.underlying24 g1
  simp only [cellsInt, cellsRecsL] at k0 k1
  obtain ⟨f, e4, _, _⟩ := DataW.trod_int Tryz.underlying3 k1
  simp at e4
  subst e4
  obtain ⟨rs, r1, r2, r3⟩ := recs_of_trod (c := c1) (by simpa using k0)
  obtain ⟨ws, s1, s2⟩ := words_of_trod (c := c3) (by simpa using g2)
  obtain ⟨hs, t1, t2, t3⟩ := houses_of_trod (c := c4) (by simpa using h1)
  obtain ⟨ns, u1, u2⟩ := words_of_trod (c := c5) (by simpa using h2)
  exact ⟨up, _, f, _, _, _, rs, ws, hs, ns, rfl, ⟨⟨r1, s1⟩, t1, u1⟩, ⟨r2, r3, s2, t2, fun h hh => (t3 h hh).1, fun h hh => (t3 h hh).2, u2⟩⟩

end
end Go.Proofs.YtkkkdgpbmmjieaaGreatDoor

namespace Go.Proofs.YtkkkdgpbmmjieaaGreatDoor
open Go.RowKit

theorem Blk.free6 {w : World} {b : Nat} {cs : Array Value} {ty : TypeId} (h : Blk w b cs ty) :
    w.frozen? ⟨b, 0, none⟩ = false ∧ w.frozen? ⟨b, 1, none⟩ = false ∧ w.frozen? ⟨b, 2, none⟩ = false ∧ w.frozen? ⟨b, 3, none⟩ = false ∧ w.frozen? ⟨b, 4, none⟩ = false ∧ w.frozen? ⟨b, 5, none⟩ = false :=
  ⟨h.free 0, h.free 1, h.free 2, h.free 3, h.free 4, h.free 5⟩
/-- A world comes back, in memory of the call's own: the desk's first, then the houses', then the words'. -/
def WdOut (w w' : World) (e : Ending) (up : Bool) (rs : List R) (f : Int) (ws : List Wd) (hs : List Hd) (ns : List Wd) : Prop :=
  ∃ a1 c1 a2 c2 a3 c3 a4 c4 ps hps, e = .returned (worldV up (.slice a1 rs.length c1) f (.slice a2 ws.length c2) (.slice a3 hs.length c3) (.slice a4 ns.length c4)) ∧ ps.map (·.1) = rs ∧ DkOwn w' w.heap.size w'.heap.size (.slice a1 rs.length c1) (.slice a2 ws.length c2) ps ws ∧ hps.map (·.1) = hs ∧ HMade w' w.heap.size (.slice a3 hs.length c3) hps ∧ w'.ownsRow w.heap.size 82 4 (.slice a4 ns.length c4) ns.length (wflat ns) ∧ Below w.heap.size w w'

theorem HMade.below {w w' : World} {lo : Nat} {v : Value} {ps : List (Hd × Value)} (h : HMade w lo v ps) (hb : Below w.heap.size w w') : HMade w' lo v ps :=
  ⟨ownsRow_below h.1 hb (fun k hk => (h.1.lt k hk).2), fun p hp => (h.2 p hp).below hb (Nat.le_refl _)⟩
theorem HMade.setBelow {w : World} {lo b i : Nat} {v : Value} {ps : List (Hd × Value)} (h : HMade w lo v ps) (hb : b < lo) (x : Value) : HMade (w.setCell ⟨b, i, none⟩ x) lo v ps :=
  ⟨ownsRow_setCell_below h.1 hb x, fun p hp => (h.2 p hp).setBelow hb x⟩
theorem HMade.lo {w : World} {lo lo' : Nat} {v : Value} {ps : List (Hd × Value)} (h : HMade w lo v ps) (hl : lo' ≤ lo) : HMade w lo' v ps :=
  ⟨ownsRow_base h.1 hl, fun p hp => (h.2 p hp).lo hl⟩

set_option maxHeartbeats 4000000 in
theorem toWorld_any (up : Bool) (v u hv nv : Value) (rs : List R) (f : Int) (ws : List Wd) (hs : List Hd) (ns : List Wd) (w : World) (hw : WdAt w v u hv nv rs ws hs ns) (hl : wdTot rs ws hs ns ≤ 1048576) :
    Calls Tryz.prog 9 #[worldV up v f u hv nv] w fun e w' => WdOut w w' e up rs f ws hs ns := by
  have hl1 : tot rs ≤ 1048576 := by unfold wdTot at hl; omega
  have hl2 : ws.length ≤ 1048576 := by unfold wdTot at hl; omega
  have hl3 : htot hs ≤ 1048576 := by unfold wdTot at hl; omega
  have hl4 : ns.length ≤ 1048576 := by unfold wdTot at hl; omega
  have HW : Hid (∀ W, Below w.heap.size w W → WdAt W v u hv nv rs ws hs ns) := fun W h => hw.later h (Nat.le_refl _)
  obtain ⟨av, cv, au, cu, ah, ch, an, cn, rfl, rfl, rfl, rfl⟩ := hw.shape
  obtain ⟨w0, hw0⟩ : ∃ W, Hid (W = ((w.alloc (.cells #[.bool up, .slice av rs.length cv, .int .i64 f, .slice au ws.length cu, .slice ah hs.length ch, .slice an ns.length cn] 30)).alloc (.cells #[.bool false, .slice none 0 0, .int .i64 0, .slice none 0 0, .slice none 0 0, .slice none 0 0] 41)).alloc (.cells #[.bool false, .slice none 0 0, .int .i64 0, .slice none 0 0, .slice none 0 0, .slice none 0 0] 41)) := ⟨_, rfl⟩
  have B0 : Hid (Below w.heap.size w w0) := by show Below _ _ _; rw [hw0.out]; exact below3 _ _ _ _
  have hs0 : w0.heap.size = w.heap.size + 3 := by rw [hw0.out]; simp
  have X0 : Hid (Blk w0 w.heap.size #[.bool up, .slice av rs.length cv, .int .i64 f, .slice au ws.length cu, .slice ah hs.length ch, .slice an ns.length cn] 30) := by show Blk _ _ _ _; rw [hw0.out]; exact ((Blk.new _ _ _).alloc _).alloc _
  have R0 : Hid (Blk w0 (w.heap.size + 1) #[.bool false, .slice none 0 0, .int .i64 0, .slice none 0 0, .slice none 0 0, .slice none 0 0] 41) := by show Blk _ _ _ _; rw [hw0.out]; exact (Blk.new2 _ _ _ _).alloc _
  have O0 : Hid (Blk w0 (w.heap.size + 1 + 1) #[.bool false, .slice none 0 0, .int .i64 0, .slice none 0 0, .slice none 0 0, .slice none 0 0] 41) := by show Blk _ _ _ _; rw [hw0.out]; exact Blk.new3 _ _ _ _ _
  clear hw hl
  go_enter Tryz.func9, Tryz.ntmps9
  go_wp2_with fail
  rw [← hw0.out]
  refine (toDesk_any up _ _ rs f ws w0 (HW.out _ B0.out).1 hl1 hl2).mono ?_
  rintro e w1 ⟨a1, c1, a2, c2, ps, rfl, hp1, ho1, hb1⟩
  have X1 := hide_it (X0.out.after hb1)
  have R1 := hide_it (R0.out.after hb1)
  have O1 := hide_it (O0.out.after hb1)
  have B1 := hide_it (B0.out.trans (hb1.mono B0.out.size))
  have D1 := hide_it ho1
  have HP1 := hide_it hp1
  have hs1 : w0.heap.size ≤ w1.heap.size := hb1.size
  clear hb1 ho1 hp1
  obtain ⟨x0, x1, x2, x3, x4, x5⟩ := X1.out.cells6
  obtain ⟨o0, o1, o2, o3, o4, o5⟩ := O1.out.cells6
  obtain ⟨f0, f1, f2, f3, f4, f5⟩ := O1.out.free6
  obtain ⟨w2, hw2⟩ : ∃ W, Hid (W = (((w1.setCell ⟨w.heap.size + 1 + 1, 0, none⟩ (.bool up)).setCell ⟨w.heap.size + 1 + 1, 1, none⟩ (.slice a1 rs.length c1)).setCell ⟨w.heap.size + 1 + 1, 2, none⟩ (.int .i64 f)).setCell ⟨w.heap.size + 1 + 1, 3, none⟩ (.slice a2 ws.length c2)) := ⟨_, rfl⟩
  have X2 : Hid (Blk w2 w.heap.size #[.bool up, .slice av rs.length cv, .int .i64 f, .slice au ws.length cu, .slice ah hs.length ch, .slice an ns.length cn] 30) := by show Blk _ _ _ _; rw [hw2.out]; exact other_set4 X1.out (by omega) _ _ _ _
  have R2 : Hid (Blk w2 (w.heap.size + 1) #[.bool false, .slice none 0 0, .int .i64 0, .slice none 0 0, .slice none 0 0, .slice none 0 0] 41) := by show Blk _ _ _ _; rw [hw2.out]; exact other_set4 R1.out (by omega) _ _ _ _
  have O2 : Hid (Blk w2 (w.heap.size + 1 + 1) #[.bool up, .slice a1 rs.length c1, .int .i64 f, .slice a2 ws.length c2, .slice none 0 0, .slice none 0 0] 41) := by
    show Blk _ _ _ _; rw [hw2.out]
    have := (((O1.out.set_ 0 (.bool up)).set_ 1 (.slice a1 rs.length c1)).set_ 2 (.int .i64 f)).set_ 3 (.slice a2 ws.length c2)
    simpa using this
  have D2 : Hid (DkOwn w2 w0.heap.size w1.heap.size (.slice a1 rs.length c1) (.slice a2 ws.length c2) ps ws) := by
    show DkOwn _ _ _ _ _ _ _; rw [hw2.out]
    exact (((D1.out.setBelow (by omega) _).setBelow (by omega) _).setBelow (by omega) _).setBelow (by omega) _
  have B2 : Hid (Below w.heap.size w w2) := by
    show Below _ _ _; rw [hw2.out]
    iterate 4 (refine Below.setCell ?_ (by show w.heap.size ≤ w.heap.size + 1 + 1; omega) _)
    exact B1.out
  have hs2 : w2.heap.size = w1.heap.size := by rw [hw2.out]; simp
  have HH := hide_it (toHouses_any (.slice ah hs.length ch) hs w2 (HW.out _ B2.out).2.1 hl3)
  go_wp2_with fail
  rw [← hw2.out]
  clear x0 x1 x2 x3 x4 x5 o0 o1 o2 o3 o4 o5 f0 f1 f2 f3 f4 f5
  refine HH.out.mono ?_
  rintro e w3 ⟨rfl, ⟨hps, hh1, hh2⟩, hb3⟩
  obtain ⟨a3, ha3⟩ : ∃ a3, Hid ((some (⟨w2.heap.size, 0, none⟩ : Addr)) = a3) := ⟨_, rfl⟩
  rw [ha3.out] at hh2 ⊢
  obtain ⟨c3, hc3⟩ : ∃ c3, Hid (c3 = hs.length) := ⟨_, rfl⟩
  have H3 : Hid (HMade w3 w2.heap.size (.slice a3 hs.length c3) hps) := by show HMade _ _ _ _; rw [hc3.out]; exact hh2
  have HP3 := hide_it hh1
  have X3 := hide_it (X2.out.after hb3)
  have R3 := hide_it (R2.out.after hb3)
  have O3 := hide_it (O2.out.after hb3)
  have D3 := hide_it (D2.out.below hb3 (by omega))
  have B3 := hide_it (B2.out.trans (hb3.mono B2.out.size))
  have hs3 : w2.heap.size ≤ w3.heap.size := hb3.size
  clear hb3 hh1 hh2 HH
  obtain ⟨x0, x1, x2, x3, x4, x5⟩ := X3.out.cells6
  obtain ⟨o0, o1, o2, o3, o4, o5⟩ := O3.out.cells6
  obtain ⟨f0, f1, f2, f3, f4, f5⟩ := O3.out.free6
  obtain ⟨w4, hw4⟩ : ∃ W, Hid (W = w3.setCell ⟨w.heap.size + 1 + 1, 4, none⟩ (.slice a3 hs.length hs.length)) := ⟨_, rfl⟩
  have X4 : Hid (Blk w4 w.heap.size #[.bool up, .slice av rs.length cv, .int .i64 f, .slice au ws.length cu, .slice ah hs.length ch, .slice an ns.length cn] 30) := by show Blk _ _ _ _; rw [hw4.out]; exact X3.out.other (by show w.heap.size ≠ w.heap.size + 1 + 1; omega) _
  have R4 : Hid (Blk w4 (w.heap.size + 1) #[.bool false, .slice none 0 0, .int .i64 0, .slice none 0 0, .slice none 0 0, .slice none 0 0] 41) := by show Blk _ _ _ _; rw [hw4.out]; exact R3.out.other (by show w.heap.size + 1 ≠ w.heap.size + 1 + 1; omega) _
  have O4 : Hid (Blk w4 (w.heap.size + 1 + 1) #[.bool up, .slice a1 rs.length c1, .int .i64 f, .slice a2 ws.length c2, .slice a3 hs.length hs.length, .slice none 0 0] 41) := by
    show Blk _ _ _ _; rw [hw4.out]
    have := O3.out.set_ 4 (.slice a3 hs.length hs.length)
    simpa using this
  have D4 : Hid (DkOwn w4 w0.heap.size w1.heap.size (.slice a1 rs.length c1) (.slice a2 ws.length c2) ps ws) := by
    show DkOwn _ _ _ _ _ _ _; rw [hw4.out]; exact D3.out.setBelow (by omega) _
  have H4 : Hid (HMade w4 w2.heap.size (.slice a3 hs.length c3) hps) := by show HMade _ _ _ _; rw [hw4.out]; exact H3.out.setBelow (by omega) _
  have B4 : Hid (Below w.heap.size w w4) := by show Below _ _ _; rw [hw4.out]; refine Below.setCell B3.out (by show w.heap.size ≤ w.heap.size + 1 + 1; omega) _
  have hs4 : w4.heap.size = w3.heap.size := by rw [hw4.out]; simp
  have HN := hide_it (toWords_any (.slice an ns.length cn) ns w4 (HW.out _ B4.out).2.2 hl4)
  go_wp2_with fail
  rw [← hw4.out]
  clear x0 x1 x2 x3 x4 x5 o0 o1 o2 o3 o4 o5 f0 f1 f2 f3 f4 f5
  refine HN.out.mono ?_
  rintro e w5 ⟨rfl, hn5, hb5⟩
  obtain ⟨a4, ha4⟩ : ∃ a4, Hid ((some (⟨w4.heap.size, 0, none⟩ : Addr)) = a4) := ⟨_, rfl⟩
  rw [ha4.out] at hn5 ⊢
  have N5 := hide_it hn5
  have R5 := hide_it (R4.out.after hb5)
  have O5 := hide_it (O4.out.after hb5)
  have D5 := hide_it (D4.out.below hb5 (by omega))
  have H5 := hide_it (H4.out.below hb5)
  have B5 := hide_it (B4.out.trans (hb5.mono B4.out.size))
  have hs5 : w4.heap.size ≤ w5.heap.size := hb5.size
  clear hb5 hn5 HN
  obtain ⟨o0, o1, o2, o3, o4, o5⟩ := O5.out.cells6
  obtain ⟨f0, f1, f2, f3, f4, f5⟩ := O5.out.free6
  obtain ⟨r0, r1, r2, r3, r4, r5⟩ := R5.out.cells6
  obtain ⟨g0, g1, g2, g3, g4, g5⟩ := R5.out.free6
  have O6 : Hid (Blk (w5.setCell ⟨w.heap.size + 1 + 1, 5, none⟩ (.slice a4 ns.length ns.length)) (w.heap.size + 1 + 1) #[.bool up, .slice a1 rs.length c1, .int .i64 f, .slice a2 ws.length c2, .slice a3 hs.length hs.length, .slice a4 ns.length ns.length] 41) := by
    have := O5.out.set_ 5 (.slice a4 ns.length ns.length)
    show Blk _ _ _ _
    simpa using this
  obtain ⟨p0, p1, p2, p3, p4, p5⟩ := O6.out.cells6
  have hc : c3 = hs.length := hc3.out
  subst hc
  go_wp2
  refine bodyPost_ret (v := worldV up (.slice a1 rs.length c1) f (.slice a2 ws.length c2) (.slice a3 hs.length hs.length) (.slice a4 ns.length ns.length)) (by simp [results, Tryz.results9, go_sem, *]) rfl ?_
  refine ⟨a1, c1, a2, c2, a3, hs.length, a4, ns.length, ps, hps, rfl, HP1.out, ?_, HP3.out, ?_, ?_, ?_⟩
  · refine DkOwn.hi (hi := w1.heap.size) (DkOwn.lo (lo := w0.heap.size) ?_ (by omega)) (by simp; omega) (Nat.le_refl _)
    iterate 7 (refine DkOwn.setBelow ?_ (by omega) _)
    exact D5.out
  · refine HMade.lo (lo := w2.heap.size) ?_ (by omega)
    iterate 7 (refine HMade.setBelow ?_ (by omega) _)
    exact H5.out
  · refine ownsRow_base (base := w4.heap.size) ?_ (by omega)
    iterate 7 (refine ownsRow_setCell_below ?_ (by show _ < w4.heap.size; simp; omega) _)
    exact N5.out
  · iterate 7 (refine Below.setCell ?_ (by first | (simp; done) | (simp; omega)) _)
    exact B5.out

set_option maxHeartbeats 4000000 in
theorem eqWorld_any (up : Bool) (v1 u1 h1 n1 v2 u2 h2 n2 : Value) (rs : List R) (f : Int) (ws : List Wd) (hs : List Hd) (ns : List Wd) (w : World) (hw1 : WdAt w v1 u1 h1 n1 rs ws hs ns) (hw2 : WdAt w v2 u2 h2 n2 rs ws hs ns) (hl : wdTot rs ws hs ns ≤ 1048576) :
    Calls Tryz.prog 11 #[worldV up v1 f u1 h1 n1, worldV up v2 f u2 h2 n2] w fun e w' => e = .returned (.bool true) ∧ Below w.heap.size w w' := by
  have hl1 : tot rs ≤ 1048576 := by unfold wdTot at hl; omega
  have hl2 : ws.length ≤ 1048576 := by unfold wdTot at hl; omega
  have hl3 : htot hs ≤ 1048576 := by unfold wdTot at hl; omega
  have hl4 : ns.length ≤ 1048576 := by unfold wdTot at hl; omega
  have H1 : Hid (∀ W, Below w.heap.size w W → WdAt W v1 u1 h1 n1 rs ws hs ns) := fun W h => hw1.later h (Nat.le_refl _)
  have H2 : Hid (∀ W, Below w.heap.size w W → WdAt W v2 u2 h2 n2 rs ws hs ns) := fun W h => hw2.later h (Nat.le_refl _)
  obtain ⟨a1, c1, a2, c2, a3, c3, a4, c4, rfl, rfl, rfl, rfl⟩ := hw1.shape
  obtain ⟨b1, d1, b2, d2, b3, d3, b4, d4, rfl, rfl, rfl, rfl⟩ := hw2.shape
  clear hw1 hw2 hl
  obtain ⟨w0, hw0⟩ : ∃ W, Hid (W = (w.alloc (.cells #[.bool up, .slice a1 rs.length c1, .int .i64 f, .slice a2 ws.length c2, .slice a3 hs.length c3, .slice a4 ns.length c4] 41)).alloc (.cells #[.bool up, .slice b1 rs.length d1, .int .i64 f, .slice b2 ws.length d2, .slice b3 hs.length d3, .slice b4 ns.length d4] 41)) := ⟨_, rfl⟩
  have B0 : Hid (Below w.heap.size w w0) := by show Below _ _ _; rw [hw0.out]; exact below2 _ _ _
  have X0 : Hid (Blk w0 w.heap.size #[.bool up, .slice a1 rs.length c1, .int .i64 f, .slice a2 ws.length c2, .slice a3 hs.length c3, .slice a4 ns.length c4] 41) := by show Blk _ _ _ _; rw [hw0.out]; exact (Blk.new _ _ _).alloc _
  have Y0 : Hid (Blk w0 (w.heap.size + 1) #[.bool up, .slice b1 rs.length d1, .int .i64 f, .slice b2 ws.length d2, .slice b3 hs.length d3, .slice b4 ns.length d4] 41) := by show Blk _ _ _ _; rw [hw0.out]; exact Blk.new2 _ _ _ _
  have HD := hide_it (eqDesk_any up _ _ _ _ rs f ws w0 (H1.out _ B0.out).1 (H2.out _ B0.out).1 hl1 hl2)
  go_enter Tryz.func11, Tryz.ntmps11
  go_wp2_with fail
  rw [← hw0.out]
  refine HD.out.mono ?_
  rintro e w1 ⟨rfl, hb1⟩
  have X1 := hide_it (X0.out.after hb1)
  have Y1 := hide_it (Y0.out.after hb1)
  have B1 := hide_it (B0.out.trans (hb1.mono B0.out.size))
  clear hb1 HD
  obtain ⟨x0, x1, x2, x3, x4, x5⟩ := X1.out.cells6
  obtain ⟨y0, y1, y2, y3, y4, y5⟩ := Y1.out.cells6
  have HH := hide_it (eqHouses_any _ _ hs w1 (H1.out _ B1.out).2.1 (H2.out _ B1.out).2.1 hl3)
  go_wp2_with fail
  clear x0 x1 x2 x3 x4 x5 y0 y1 y2 y3 y4 y5
  refine HH.out.mono ?_
  rintro e w2 ⟨rfl, hb2⟩
  have X2 := hide_it (X1.out.after hb2)
  have Y2 := hide_it (Y1.out.after hb2)
  have B2 := hide_it (B1.out.trans (hb2.mono B1.out.size))
  clear hb2 HH
  obtain ⟨x0, x1, x2, x3, x4, x5⟩ := X2.out.cells6
  obtain ⟨y0, y1, y2, y3, y4, y5⟩ := Y2.out.cells6
  have HN := hide_it (eqWords_any _ _ ns w2 (H1.out _ B2.out).2.2 (H2.out _ B2.out).2.2 hl4)
  go_wp2_with fail
  clear x0 x1 x2 x3 x4 x5 y0 y1 y2 y3 y4 y5
  refine HN.out.mono ?_
  rintro e w3 ⟨rfl, hb3⟩
  have B3 := hide_it (B2.out.trans (hb3.mono B2.out.size))
  clear hb3 HN
  go_wp2
  go_ret
  exact ⟨rfl, B3.out⟩

end Go.Proofs.YtkkkdgpbmmjieaaGreatDoor

namespace Go.Proofs.YtkkkdgpbmmjieaaGreatDoor
namespace Pl

/-- A hold as plain data: how many, and in which state. -/
abbrev H := Int × Int

def hOk (h : H) : Bool := if h.2 = 0 then decide (h.1 = 0) else if h.2 = 1 ∨ h.2 = 2 then inB h.1 1 3 else if h.2 = 3 then inB h.1 0 3 else false
def hHad (h : H) : Int := if h.2 = 1 ∨ h.2 = 2 then h.1 else 0
def free (room : Int) (hs : List H) : Int := room - (hs.map hHad).sum
def sOk (room : Int) (hs : List H) : Bool := hs.all hOk && inB room 0 9 && (hs.length == 6) && decide (0 ≤ free room hs)
def sFree (room : Int) (hs : List H) : Int := if sOk room hs = true then free room hs else -1

theorem hOk_0 (m : Int) : hOk (m, 0) = decide (m = 0) := by simp [hOk]
theorem hOk_1 (m : Int) : hOk (m, 1) = inB m 1 3 := by simp [hOk]
theorem hOk_2 (m : Int) : hOk (m, 2) = inB m 1 3 := by simp [hOk]
theorem hOk_3 (m : Int) : hOk (m, 3) = inB m 0 3 := by simp [hOk]
theorem hOk_x (m s : Int) (h0 : s ≠ 0) (h1 : s ≠ 1) (h2 : s ≠ 2) (h3 : s ≠ 3) : hOk (m, s) = false := by simp [hOk, h0, h1, h2, h3]
theorem hHad_1 (m : Int) : hHad (m, 1) = m := by simp [hHad]
theorem hHad_2 (m : Int) : hHad (m, 2) = m := by simp [hHad]
theorem hHad_x (m s : Int) (h1 : s ≠ 1) (h2 : s ≠ 2) : hHad (m, s) = 0 := by simp [hHad, h1, h2]

theorem hHad_bd (h : H) (hk : hOk h = true) : 0 ≤ hHad h ∧ hHad h ≤ 3 := by
  obtain ⟨m, s⟩ := h
  by_cases h1 : s = 1
  · subst h1; rw [hHad_1]; rw [hOk_1] at hk; have := inB_true hk; omega
  by_cases h2 : s = 2
  · subst h2; rw [hHad_2]; rw [hOk_2] at hk; have := inB_true hk; omega
  rw [hHad_x m s h1 h2]; omega

theorem htake (hs : List H) (k : Nat) (h : k < hs.length) : hs.take (k + 1) = hs.take k ++ [hs.getD k (0, 0)] := by
  rw [List.take_succ_eq_append_getElem h]; simp [List.getD_eq_getElem?_getD, h]
theorem free_snoc (room : Int) (hs : List H) (k : Nat) (h : k < hs.length) : free room (hs.take (k + 1)) = free room (hs.take k) - hHad (hs.getD k (0, 0)) := by
  rw [htake hs k h]; simp [free]; omega
theorem free_nil (room : Int) : free room [] = room := by simp [free]
theorem hall_snoc (hs : List H) (k : Nat) (h : k < hs.length) : (hs.take (k + 1)).all hOk = ((hs.take k).all hOk && hOk (hs.getD k (0, 0))) := by
  rw [htake hs k h]; simp
theorem hall_bad (hs : List H) (k : Nat) (h : k < hs.length) (hp : hOk (hs.getD k (0, 0)) = false) : hs.all hOk = false := by
  rw [List.all_eq_false]
  refine ⟨hs.getD k (0, 0), ?_, by rw [hp]; decide⟩
  simp [List.getD_eq_getElem?_getD, h]
theorem hsum_bd (hs : List H) (h : hs.all hOk = true) : 0 ≤ (hs.map hHad).sum ∧ (hs.map hHad).sum ≤ 3 * hs.length := by
  induction hs with
  | nil => simp
  | cons z zs ih =>
    simp only [List.all_cons, Bool.and_eq_true] at h
    have := hHad_bd z h.1
    have := ih h.2
    simp; omega
theorem free_bd (room : Int) (hs : List H) (h : hs.all hOk = true) : room - 3 * hs.length ≤ free room hs ∧ free room hs ≤ room := by
  have := hsum_bd hs h
  unfold free; omega

theorem sOk_parts {room : Int} {hs : List H} (h : sOk room hs = true) : hs.all hOk = true ∧ inB room 0 9 = true ∧ hs.length = 6 ∧ 0 ≤ free room hs := by
  unfold sOk at h
  simp only [Bool.and_eq_true, beq_iff_eq, decide_eq_true_eq] at h
  exact ⟨h.1.1.1, h.1.1.2, h.1.2, h.2⟩
theorem sOk_mk {room : Int} {hs : List H} (h1 : hs.all hOk = true) (h2 : inB room 0 9 = true) (h3 : hs.length = 6) : sOk room hs = decide (0 ≤ free room hs) := by
  simp [sOk, h1, h2, h3]
theorem sOk_all {room : Int} {hs : List H} (h : hs.all hOk = false) : sOk room hs = false := by simp [sOk, h]
theorem sOk_room {room : Int} {hs : List H} (h : inB room 0 9 = false) : sOk room hs = false := by simp [sOk, h]
theorem sOk_len {room : Int} {hs : List H} (h : hs.length ≠ 6) : sOk room hs = false := by simp [sOk, h]
theorem sFree_no {room : Int} {hs : List H} (h : sOk room hs = false) : sFree room hs = -1 := by simp [sFree, h]
theorem sFree_yes {room : Int} {hs : List H} (h : sOk room hs = true) : sFree room hs = free room hs := by simp [sFree, h]
theorem sFree_max {room : Int} {hs : List H} (h1 : hs.all hOk = true) (h2 : inB room 0 9 = true) (h3 : hs.length = 6) : sFree room hs = max (free room hs) (-1) := by
  by_cases h : 0 ≤ free room hs
  · rw [sFree_yes (by rw [sOk_mk h1 h2 h3]; simpa using h)]; omega
  · rw [sFree_no (by rw [sOk_mk h1 h2 h3]; simpa using h)]; omega
theorem sFree_ok (room : Int) (hs : List H) : decide (0 ≤ sFree room hs) = sOk room hs := by
  cases h : sOk room hs
  · rw [sFree_no h]; decide
  · rw [sFree_yes h]; have := (sOk_parts h).2.2.2; simpa using this
theorem sFree_bd (room : Int) (hs : List H) : -1 ≤ sFree room hs ∧ sFree room hs ≤ 9 := by
  cases h : sOk room hs
  · rw [sFree_no h]; omega
  · rw [sFree_yes h]
    obtain ⟨h1, h2, h3, h4⟩ := sOk_parts h
    have := inB_true h2
    have := free_bd room hs h1
    omega

/-- What a record makes of its trip's hold; nothing, if it may not come. -/
def next (h : H) (k m free : Int) : Option H :=
  if k = 1 then (if h.2 = 0 ∧ m ≤ free then some (m, 1) else none)
  else if k = 2 then (if h.2 = 1 then some (h.1, 2) else none)
  else if k = 3 then (if h.2 = 1 ∨ h.2 = 0 then some (h.1, 3) else none)
  else none
/-- The place of a trip's hold. -/
def at_ (t : Int) : Nat := (t - 1).toNat
def hAt (hs : List H) (t : Int) : H := hs.getD (at_ t) (0, 0)
/-- What a record makes of its trip's hold in a stock; nothing, if it may not come. -/
def behind (room : Int) (hs : List H) (k t : Int) (zs : List Int) : Option H :=
  if sOk room hs = true ∧ recOk k t zs = true then next (hAt hs t) k (zs.headD 0) (free room hs) else none
def sMay (room : Int) (hs : List H) (k t : Int) (zs : List Int) : Bool := (behind room hs k t zs).isSome
def sDo (room : Int) (hs : List H) (k t : Int) (zs : List Int) : Option (List H) := (behind room hs k t zs).map fun h => hs.set (at_ t) h

theorem behind_stock {room : Int} {hs : List H} (k t : Int) (zs : List Int) (h : sOk room hs = false) : behind room hs k t zs = none := by simp [behind, h]
theorem behind_rec (room : Int) (hs : List H) {k t : Int} {zs : List Int} (h : recOk k t zs = false) : behind room hs k t zs = none := by simp [behind, h]
theorem behind_ok {room : Int} {hs : List H} {k t : Int} {zs : List Int} (h : sOk room hs = true) (h2 : recOk k t zs = true) : behind room hs k t zs = next (hAt hs t) k (zs.headD 0) (free room hs) := by simp [behind, h, h2]

theorem recOk_trip {k t : Int} {zs : List Int} (h : recOk k t zs = true) : 1 ≤ t ∧ t ≤ 6 := by
  cases ht : inB t 1 6
  · rw [recOk_t k t zs ht] at h; cases h
  · exact inB_true ht
theorem recOk_kind {k t : Int} {zs : List Int} (h : recOk k t zs = true) : 1 ≤ k ∧ k ≤ 7 := by
  by_cases h1 : k = 1
  · omega
  by_cases h4 : k = 4
  · omega
  have ht := inB_mk (recOk_trip h).1 (recOk_trip h).2
  rw [recOk_p k t zs ht h1 h4] at h
  simp only [Bool.and_eq_true] at h
  have := inB_true h.1
  omega
theorem recOk_hold {t : Int} {zs : List Int} (h : recOk 1 t zs = true) : ∃ z, zs = [z] ∧ 1 ≤ z ∧ z ≤ 3 := by
  have ht := inB_mk (recOk_trip h).1 (recOk_trip h).2
  rw [recOk_1 t zs ht] at h
  simp only [holdOk, Bool.and_eq_true, beq_iff_eq] at h
  obtain ⟨z, rfl⟩ := List.length_eq_one_iff.1 h.1
  exact ⟨z, rfl, by simpa using inB_true h.2⟩
theorem at_lt {k t : Int} {zs : List Int} (h : recOk k t zs = true) : at_ t < 6 := by
  have := recOk_trip h
  unfold at_; omega

theorem hAt_mem (hs : List H) (t : Int) (h : at_ t < hs.length) : hAt hs t ∈ hs := by
  unfold hAt
  simp [List.getD_eq_getElem?_getD, h]
theorem sum_set (hs : List H) (i : Nat) (h : H) (hi : i < hs.length) : ((hs.set i h).map hHad).sum = (hs.map hHad).sum - hHad (hs.getD i (0, 0)) + hHad h := by
  induction hs generalizing i with
  | nil => simp at hi
  | cons z zs ih =>
    cases i with
    | zero => simp; omega
    | succ i =>
      have := ih i (by simpa using hi)
      simp at this ⊢
      omega
theorem free_set (room : Int) (hs : List H) (i : Nat) (h : H) (hi : i < hs.length) : free room (hs.set i h) = free room hs + hHad (hs.getD i (0, 0)) - hHad h := by
  unfold free; rw [sum_set hs i h hi]; omega
theorem all_set (hs : List H) (i : Nat) (h : H) (ha : hs.all hOk = true) (hh : hOk h = true) : (hs.set i h).all hOk = true := by
  rw [List.all_eq_true] at ha ⊢
  intro x hx
  rcases List.mem_or_eq_of_mem_set hx with h1 | h1
  · exact ha x h1
  · rw [h1]; exact hh

/-- A stock behind a record that may come is ok. -/
theorem behind_keeps {room : Int} {hs : List H} {k t : Int} {zs : List Int} {h : H} (hb : behind room hs k t zs = some h) : sOk room (hs.set (at_ t) h) = true := by
  unfold behind at hb
  by_cases hc : sOk room hs = true ∧ recOk k t zs = true
  · rw [if_pos hc] at hb
    obtain ⟨h1, h2, h3, h4⟩ := sOk_parts hc.1
    have hat := at_lt hc.2
    have hmem := hAt_mem hs t (by omega)
    have hok := (List.all_eq_true.1 h1) _ hmem
    have key : hOk h = true ∧ hHad h ≤ free room hs + hHad (hAt hs t) := by
      have hbd := hHad_bd _ hok
      unfold next at hb
      by_cases k1 : k = 1
      · rw [if_pos k1] at hb
        subst k1
        by_cases c : (hAt hs t).2 = 0 ∧ zs.headD 0 ≤ free room hs
        · rw [if_pos c] at hb
          simp at hb
          obtain ⟨z, rfl, z1, z2⟩ := recOk_hold hc.2
          simp at hb c
          subst hb
          rw [hOk_1, hHad_1]
          exact ⟨inB_mk z1 z2, by omega⟩
        · rw [if_neg c] at hb; cases hb
      rw [if_neg k1] at hb
      by_cases k2 : k = 2
      · rw [if_pos k2] at hb
        by_cases c : (hAt hs t).2 = 1
        · rw [if_pos c] at hb
          simp at hb
          subst hb
          have e : hAt hs t = ((hAt hs t).1, 1) := by rw [← c]
          rw [e, hOk_1] at hok
          rw [e, hHad_1]
          rw [hOk_2, hHad_2]
          exact ⟨by simpa using hok, by simp; omega⟩
        · rw [if_neg c] at hb; cases hb
      rw [if_neg k2] at hb
      by_cases k3 : k = 3
      · rw [if_pos k3] at hb
        by_cases c : (hAt hs t).2 = 1 ∨ (hAt hs t).2 = 0
        · rw [if_pos c] at hb
          simp at hb
          subst hb
          rw [hOk_3, hHad_x _ _ (by decide) (by decide)]
          refine ⟨?_, by omega⟩
          rcases c with c | c
          · have e : hAt hs t = ((hAt hs t).1, 1) := by rw [← c]
            rw [e, hOk_1] at hok
            have := inB_true hok
            exact inB_mk (by omega) (by omega)
          · have e : hAt hs t = ((hAt hs t).1, 0) := by rw [← c]
            rw [e, hOk_0] at hok
            have := of_decide_eq_true hok
            exact inB_mk (by omega) (by omega)
        · rw [if_neg c] at hb; cases hb
      · rw [if_neg k3] at hb; cases hb
    rw [sOk_mk (all_set hs _ h h1 key.1) h2 (by rw [List.length_set]; exact h3), free_set room hs _ h (by omega)]
    have e : hHad (hs.getD (at_ t) (0, 0)) = hHad (hAt hs t) := rfl
    have := key.2
    rw [e]
    exact decide_eq_true (by omega)
  · rw [if_neg hc] at hb; cases hb

/-- A stock of which nobody has anything. -/
def noHolds : List H := List.replicate 6 (0, 0)
theorem new_ok (room : Int) (h : inB room 0 9 = true) : sOk room noHolds = true := by
  rw [sOk_mk (by decide) h (by decide)]
  have := inB_true h
  simp [free, noHolds, hHad]; omega

/-- A stock behind records; nothing, if one may not come. -/
def sRun (room : Int) : List (Int × Int × List Int) → List H → Option (List H)
  | [], hs => some hs
  | r :: t, hs => match sDo room hs r.1 r.2.1 r.2.2 with
    | none => none
    | some h => sRun room t h
def sOf (room : Int) (rs : List (Int × Int × List Int)) : Option (List H) := if inB room 0 9 = true then sRun room rs noHolds else none

theorem sDo_len {room : Int} {hs hs' : List H} {k t : Int} {zs : List Int} (h : sDo room hs k t zs = some hs') : hs'.length = hs.length := by
  unfold sDo at h
  cases hb : behind room hs k t zs with
  | none => rw [hb] at h; cases h
  | some x => rw [hb] at h; simp at h; rw [← h, List.length_set]
theorem sDo_keeps {room : Int} {hs hs' : List H} {k t : Int} {zs : List Int} (h : sDo room hs k t zs = some hs') : sOk room hs' = true := by
  unfold sDo at h
  cases hb : behind room hs k t zs with
  | none => rw [hb] at h; cases h
  | some x => rw [hb] at h; simp at h; rw [← h]; exact behind_keeps hb

end Pl
end Go.Proofs.YtkkkdgpbmmjieaaGreatDoor

namespace Go.Proofs.YtkkkdgpbmmjieaaGreatDoor
open Go.RowKit

/-- Holds, as they lie in a row. -/
def hflat : List Pl.H → List Value
  | [] => []
  | h :: t => .int .i64 h.1 :: .int .i64 h.2 :: hflat t

theorem hflat_length (hs : List Pl.H) : (hflat hs).length = hs.length * 2 := by
  induction hs with
  | nil => rfl
  | cons p t ih => simp only [hflat, List.length_cons, ih]; omega
theorem hflat_get (hs : List Pl.H) (i : Nat) (h : i < hs.length) :
    (hflat hs)[i * 2]? = some (.int .i64 (hs.getD i (0, 0)).1) ∧ (hflat hs)[i * 2 + 1]? = some (.int .i64 (hs.getD i (0, 0)).2) := by
  induction hs generalizing i with
  | nil => simp at h
  | cons q t ih =>
    cases i with
    | zero => simp [hflat]
    | succ i =>
      have := ih i (by simpa using h)
      rw [show (i + 1) * 2 = i * 2 + 2 by omega]
      simpa [hflat] using this
theorem hflat_set (hs : List Pl.H) (k : Nat) (p : Pl.H) (h : k < hs.length) :
    ((hflat hs).set (k * 2) (.int .i64 p.1)).set (k * 2 + 1) (.int .i64 p.2) = hflat (hs.set k p) := by
  induction hs generalizing k with
  | nil => simp at h
  | cons q t ih =>
    cases k with
    | zero => simp [hflat]
    | succ k =>
      have := ih k (by simpa using h)
      rw [show (k + 1) * 2 = k * 2 + 2 by omega]
      simp only [hflat, List.set_cons_succ]
      rw [this]
theorem hflat_append (ps qs : List Pl.H) : hflat (ps ++ qs) = hflat ps ++ hflat qs := by
  induction ps with
  | nil => rfl
  | cons p t ih => simp [hflat, ih]

/-- The value v is a slice of just these holds in the world w. -/
def Holds (w : World) (v : Value) (hs : List Pl.H) : Prop :=
  (hs = [] ∧ ∃ ao cap, v = .slice ao 0 cap ∧ (ao = none → cap = 0)) ∨
  (∃ b off cap, v = .slice (some ⟨b, off, none⟩) hs.length cap ∧ hs ≠ [] ∧ ∀ k, k < hs.length → w.cell? ⟨b, off + k * 2, none⟩ = some (.int .i64 (hs.getD k (0, 0)).1) ∧ w.cell? ⟨b, off + k * 2 + 1, none⟩ = some (.int .i64 (hs.getD k (0, 0)).2))

theorem Holds.later {B : Nat} {w w' : World} {v : Value} {hs : List Pl.H} (h : Holds w v hs) (hb : Below B w w') (hB : w.heap.size ≤ B) : Holds w' v hs := by
  rcases h with h | ⟨b, off, cap, hv, hz, hc⟩
  · exact Or.inl h
  · refine Or.inr ⟨b, off, cap, hv, hz, fun k hk => ?_⟩
    obtain ⟨h1, h2⟩ := hc k hk
    have hl := World.block_lt_of_cell? _ _ h1
    simp at hl
    exact ⟨by rw [← h1]; exact hb.cell (p := ⟨b, off + k * 2, none⟩) (by simp; omega), by rw [← h2]; exact hb.cell (p := ⟨b, off + k * 2 + 1, none⟩) (by simp; omega)⟩

theorem Holds.shape {w : World} {v : Value} {hs : List Pl.H} (h : Holds w v hs) : ∃ ao cap, v = .slice ao hs.length cap := by
  rcases h with ⟨rfl, ao, cap, rfl, _⟩ | ⟨b, off, cap, rfl, _, _⟩
  · exact ⟨ao, cap, rfl⟩
  · exact ⟨_, cap, rfl⟩

/-- A row of holds that the call owns is a list of them. -/
theorem holds_of_row {w : World} {base : Nat} {v : Value} {hs : List Pl.H} (h : w.ownsRow base 93 2 v hs.length (hflat hs)) : Holds w v hs := by
  rcases h.2 with ⟨hv, hn⟩ | ⟨g, cap, cur, hv, _⟩
  · have : hs = [] := List.length_eq_zero_iff.1 hn
    exact Or.inl ⟨this, none, 0, hv, fun _ => rfl⟩
  · by_cases hz : hs = []
    · subst hz; exact Or.inl ⟨rfl, _, _, hv, fun h => by cases h⟩
    · subst hv
      refine Or.inr ⟨g, 0, cap, rfl, hz, fun k hk => ?_⟩
      obtain ⟨f0, f1⟩ := hflat_get hs k hk
      exact ⟨by rw [Nat.zero_add, h.cellAt _ (by omega)]; exact f0, by rw [Nat.zero_add, h.cellAt _ (by omega)]; exact f1⟩

theorem infoHold : (Tryz.prog.info? 93).map (fun i => (i.zero, i.size, i.bytes)) = some (some (.agg #[.int .i64 0, .int .i64 0]), 2, 16) := by kernel_rfl

theorem made_two (n : Nat) : (madeCells #[.int .i64 0, .int .i64 0] (n * 2)).toList = hflat (List.replicate n (0, 0)) := by
  apply List.ext_getElem?
  intro i
  by_cases h : i < n * 2
  · have hq : i / 2 < n := by omega
    obtain ⟨f0, f1⟩ := hflat_get (List.replicate n (0, 0)) (i / 2) (by simpa using hq)
    have hl : (madeCells #[.int .i64 0, .int .i64 0] (n * 2)).toList[i]? = some (#[Value.int .i64 0, .int .i64 0][i % 2]!) := by
      simp [madeCells, h]
    have hd : (List.replicate n ((0, 0) : Pl.H)).getD (i / 2) (0, 0) = (0, 0) := by simp [List.getD_eq_getElem?_getD, hq]
    rw [hd] at f0 f1
    rw [hl]
    rcases (show i % 2 = 0 ∨ i % 2 = 1 by omega) with h0 | h0
    · rw [show i / 2 * 2 = i by omega] at f0; rw [f0, h0]; rfl
    · rw [show i / 2 * 2 + 1 = i by omega] at f1; rw [f1, h0]; rfl
  · rw [List.getElem?_eq_none (by simp [madeCells]; omega), List.getElem?_eq_none (by rw [hflat_length]; simp; omega)]

/-- Two stores into a row of holds. -/
theorem stored2 {w : World} {base g n cap : Nat} {hs : List Pl.H} (h : w.ownsRow base 93 2 (.slice (some ⟨g, 0, none⟩) n cap) n (hflat hs)) (k : Nat) (hk : k < hs.length) (p : Pl.H) :
    ((w.setCell ⟨g, k * 2, none⟩ (.int .i64 p.1)).setCell ⟨g, k * 2 + 1, none⟩ (.int .i64 p.2)).ownsRow base 93 2 (.slice (some ⟨g, 0, none⟩) n cap) n (hflat (hs.set k p)) ∧
    w.grownBy ((w.setCell ⟨g, k * 2, none⟩ (.int .i64 p.1)).setCell ⟨g, k * 2 + 1, none⟩ (.int .i64 p.2)) (some g) := by
  have a1 := h.stored (k * 2) (.int .i64 p.1)
  have a2 := a1.1.stored (k * 2 + 1) (.int .i64 p.2)
  rw [hflat_set hs k p hk] at a2
  exact ⟨a2.1, grownBy_trans a1.2 a2.2⟩

theorem eqHold_any (m s : Int) (w : World) :
    Calls Tryz.prog 52 #[.agg #[.int .i64 m, .int .i64 s], .agg #[.int .i64 m, .int .i64 s]] w fun e w' => e = .returned (.bool true) ∧ Below w.heap.size w w' := by
  go_enter Tryz.func52, Tryz.ntmps52
  go_wp2
  go_ret
  exact ⟨rfl, below2 w _ _⟩

set_option maxHeartbeats 1000000 in
theorem eqHolds_any (v1 v2 : Value) (hs : List Pl.H) (w : World) (h1 : Holds w v1 hs) (h2 : Holds w v2 hs) (hl : hs.length ≤ 1048576) :
    Calls Tryz.prog 14 #[v1, v2] w fun e w' => e = .returned (.bool true) ∧ Below w.heap.size w w' := by
  rcases h1 with ⟨rfl, ao, cap, rfl, -⟩ | ⟨b, off, cap, rfl, hz, hc⟩
  · obtain ⟨ao2, cap2, rfl⟩ := h2.shape
    clear h2
    go_enter Tryz.func14, Tryz.ntmps14
    go_wp2
    refine wp_loop_rounds 1 ?_
    rw [rounds_succ]
    go_wp2
    go_ret
    exact ⟨rfl, Below.refl _ _⟩
  rcases h2 with ⟨h, _⟩ | ⟨b2, off2, cap2, rfl, _, hc2⟩
  · exact absurd h hz
  have HC : Hid (∀ k, k < hs.length → w.cell? ⟨b, off + k * 2, none⟩ = some (.int .i64 (hs.getD k (0, 0)).1) ∧ w.cell? ⟨b, off + k * 2 + 1, none⟩ = some (.int .i64 (hs.getD k (0, 0)).2)) := hc
  have HC2 : Hid (∀ k, k < hs.length → w.cell? ⟨b2, off2 + k * 2, none⟩ = some (.int .i64 (hs.getD k (0, 0)).1) ∧ w.cell? ⟨b2, off2 + k * 2 + 1, none⟩ = some (.int .i64 (hs.getD k (0, 0)).2)) := hc2
  have hzl : 0 < hs.length := List.length_pos_iff.2 hz
  have hbw : b < w.heap.size := World.block_lt_of_cell? _ _ (hc 0 hzl).1
  have hbw2 : b2 < w.heap.size := World.block_lt_of_cell? _ _ (hc2 0 hzl).1
  clear hc hc2 hz
  go_enter Tryz.func14, Tryz.ntmps14
  go_wp2
  go_loopw [5] (fun i wr => ∃ k : Nat, k ≤ hs.length ∧ i = .int .i64 k ∧ Below w.heap.size w wr) (fun i _ => hs.length - (intOf i).toNat)
  case atStart => exact ⟨0, Nat.zero_le _, rfl, Below.refl _ _⟩
  case round =>
    obtain ⟨k, hk, rfl, hbe⟩ := hrel
    by_cases hlt : k < hs.length
    · obtain ⟨m, s, HZ⟩ : ∃ m s, Hid (hs.getD k (0, 0) = (m, s)) := ⟨_, _, rfl⟩
      have c0 : wr.cell? ⟨b, off + k * 2, none⟩ = some (.int .i64 m) := by rw [hbe.cell (p := ⟨b, off + k * 2, none⟩) hbw, (HC.out k hlt).1, HZ.out]
      have c1 : wr.cell? ⟨b, off + k * 2 + 1, none⟩ = some (.int .i64 s) := by rw [hbe.cell (p := ⟨b, off + k * 2 + 1, none⟩) hbw, (HC.out k hlt).2, HZ.out]
      have d0 : wr.cell? ⟨b2, off2 + k * 2, none⟩ = some (.int .i64 m) := by rw [hbe.cell (p := ⟨b2, off2 + k * 2, none⟩) hbw2, (HC2.out k hlt).1, HZ.out]
      have d1 : wr.cell? ⟨b2, off2 + k * 2 + 1, none⟩ = some (.int .i64 s) := by rw [hbe.cell (p := ⟨b2, off2 + k * 2 + 1, none⟩) hbw2, (HC2.out k hlt).2, HZ.out]
      have hli : (k : Int) < (hs.length : Int) := by omega
      have HB : Hid (Below w.heap.size w wr) := hbe
      clear hbe
      go_wp2
      go_region_with (go_at_call 52; refine (eqHold_any _ _ _).mono ?_; rintro e w2 ⟨rfl, hb2⟩; have HB2 := HB.out.drew.trans (hb2.mono HB.out.size); clear hb2)
      all_goals (try go_wp2)
      all_goals
        go_roundw
        case rel => exact ⟨k + 1, by omega, by go_num, HB2⟩
        case measure => simp [intOf]; omega
    · go_wp2
      go_ret
      exact ⟨rfl, hbe⟩

end Go.Proofs.YtkkkdgpbmmjieaaGreatDoor

namespace Go.Proofs.YtkkkdgpbmmjieaaGreatDoor
open Go.RowKit

theorem al_below (w : World) (o : Obj) : Below w.heap.size w (w.alloc o) := (Below.refl _ _).alloc (Nat.le_refl _) o
theorem al_after {w : World} {o : Obj} {w' : World} (h : Below (w.alloc o).heap.size (w.alloc o) w') : Below w.heap.size w w' := (al_below w o).trans (h.mono (by simp))

set_option maxHeartbeats 1000000 in
theorem holdOk_any (m s : Int) (w : World) :
    Calls Tryz.prog 218 #[.agg #[.int .i64 m, .int .i64 s]] w fun e w' => e = .returned (.bool (Pl.hOk (m, s))) ∧ Below w.heap.size w w' := by
  by_cases h0 : s = 0
  · subst h0
    rw [Pl.hOk_0]
    by_cases hm : m = 0
    all_goals
      go_enter Tryz.func218, Tryz.ntmps218
      go_wp2
      go_ret
      exact ⟨by simp [hm], al_below _ _⟩
  by_cases h1 : s = 1
  · subst h1
    rw [Pl.hOk_1]
    by_cases hm : 1 ≤ m
    · by_cases hn : m ≤ 3
      all_goals
        go_enter Tryz.func218, Tryz.ntmps218
        go_wp2
        go_ret
        exact ⟨by simp [Pl.inB]; omega, al_below _ _⟩
    · go_enter Tryz.func218, Tryz.ntmps218
      go_wp2
      go_ret
      exact ⟨by simp [Pl.inB]; omega, al_below _ _⟩
  by_cases h2 : s = 2
  · subst h2
    rw [Pl.hOk_2]
    by_cases hm : 1 ≤ m
    · by_cases hn : m ≤ 3
      all_goals
        go_enter Tryz.func218, Tryz.ntmps218
        go_wp2
        go_ret
        exact ⟨by simp [Pl.inB]; omega, al_below _ _⟩
    · go_enter Tryz.func218, Tryz.ntmps218
      go_wp2
      go_ret
      exact ⟨by simp [Pl.inB]; omega, al_below _ _⟩
  by_cases h3 : s = 3
  · subst h3
    rw [Pl.hOk_3]
    by_cases hm : 0 ≤ m
    · by_cases hn : m ≤ 3
      all_goals
        go_enter Tryz.func218, Tryz.ntmps218
        go_wp2
        go_ret
        exact ⟨by simp [Pl.inB]; omega, al_below _ _⟩
    · go_enter Tryz.func218, Tryz.ntmps218
      go_wp2
      go_ret
      exact ⟨by simp [Pl.inB]; omega, al_below _ _⟩
  rw [Pl.hOk_x m s h0 h1 h2 h3]
  go_enter Tryz.func218, Tryz.ntmps218
  go_wp2
  go_ret
  exact ⟨rfl, al_below _ _⟩

theorem had_any (m s : Int) (w : World) :
    Calls Tryz.prog 219 #[.agg #[.int .i64 m, .int .i64 s]] w fun e w' => e = .returned (.int .i64 (Pl.hHad (m, s))) ∧ Below w.heap.size w w' := by
  by_cases h1 : s = 1
  · subst h1
    rw [Pl.hHad_1]
    go_enter Tryz.func219, Tryz.ntmps219
    go_wp2
    go_ret
    exact ⟨rfl, al_below _ _⟩
  by_cases h2 : s = 2
  · subst h2
    rw [Pl.hHad_2]
    go_enter Tryz.func219, Tryz.ntmps219
    go_wp2
    go_ret
    exact ⟨rfl, al_below _ _⟩
  rw [Pl.hHad_x m s h1 h2]
  have e1 : (s == 1) = false := by simp [h1]
  have e2 : (s == 2) = false := by simp [h2]
  go_enter Tryz.func219, Tryz.ntmps219
  go_wp2
  go_ret
  exact ⟨rfl, al_below _ _⟩

theorem roomOk_any (room : Int) (w : World) :
    Calls Tryz.prog 150 #[.int .i64 room] w fun e w' => e = .returned (.bool (Pl.inB room 0 9)) ∧ w' = w := by
  by_cases h1 : 0 ≤ room
  all_goals by_cases h2 : room ≤ 9
  all_goals
    go_enter Tryz.func150, Tryz.ntmps150
    go_wp2
    go_ret
    exact ⟨by simp [Pl.inB, h1, h2], rfl⟩

theorem hall_take (hs : List Pl.H) (k : Nat) (h : hs.all Pl.hOk = true) : (hs.take k).all Pl.hOk = true := by
  rw [List.all_eq_true] at h ⊢
  exact fun x hx => h x (List.mem_of_mem_take hx)

set_option maxHeartbeats 1000000 in
theorem l2Free_any (room : Int) (v : Value) (hs : List Pl.H) (w : World) (hv : Holds w v hs) (hl : hs.length ≤ 6) (hok : hs.all Pl.hOk = true) (hr : Pl.inB room 0 9 = true) :
    Calls Tryz.prog 153 #[.agg #[.int .i64 room, v]] w fun e w' => e = .returned (.int .i64 (Pl.free room hs)) ∧ Below w.heap.size w w' := by
  have hroom := Pl.inB_true hr
  have HOK : Hid (hs.all Pl.hOk = true) := hok
  rcases hv with ⟨rfl, ao, cap, rfl, -⟩ | ⟨b, off, cap, rfl, hz, hc⟩
  · rw [Pl.free_nil]
    clear hok hr
    go_enter Tryz.func153, Tryz.ntmps153
    go_wp2
    refine wp_loop_rounds 1 ?_
    rw [rounds_succ]
    go_wp2
    go_ret
    exact ⟨rfl, al_below _ _⟩
  have HC : Hid (∀ k, k < hs.length → w.cell? ⟨b, off + k * 2, none⟩ = some (.int .i64 (hs.getD k (0, 0)).1) ∧ w.cell? ⟨b, off + k * 2 + 1, none⟩ = some (.int .i64 (hs.getD k (0, 0)).2)) := hc
  have hzl : 0 < hs.length := List.length_pos_iff.2 hz
  have hbw : b < w.heap.size := World.block_lt_of_cell? _ _ (hc 0 hzl).1
  clear hc hz hok hr
  go_enter Tryz.func153, Tryz.ntmps153
  go_wp2
  go_loop [3, 4] (fun n i => ∃ (k : Nat) (N : Int), k ≤ hs.length ∧ i = .int .i64 k ∧ n = .int .i64 N ∧ Hid (N = Pl.free room (hs.take k))) (fun _ i => hs.length - (intOf i).toNat)
  case atStart => exact ⟨0, room, Nat.zero_le _, rfl, rfl, by show _ = _; simp [Pl.free]⟩
  case round =>
    obtain ⟨k, N, hk, rfl, rfl, HN⟩ := hrel
    have hNb : -1000 ≤ N ∧ N ≤ 9 := by
      have := Pl.free_bd room (hs.take k) (hall_take hs k HOK.out)
      have := HN.out
      simp at *
      omega
    by_cases hlt : k < hs.length
    · obtain ⟨m, s, HZ⟩ : ∃ m s, Hid (hs.getD k (0, 0) = (m, s)) := ⟨_, _, rfl⟩
      have c0 : w.cell? ⟨b, off + k * 2, none⟩ = some (.int .i64 m) := by rw [(HC.out k hlt).1, HZ.out]
      have c1 : w.cell? ⟨b, off + k * 2 + 1, none⟩ = some (.int .i64 s) := by rw [(HC.out k hlt).2, HZ.out]
      have HF : Hid (Pl.free room (hs.take (k + 1)) = N - Pl.hHad (m, s)) := by show _ = _; rw [Pl.free_snoc room hs k hlt, ← HN.out, HZ.out]
      have hmem : (m, s) ∈ hs := by rw [← HZ.out]; simp [List.getD_eq_getElem?_getD, hlt]
      have hbd := Pl.hHad_bd (m, s) ((List.all_eq_true.1 HOK.out) _ hmem)
      clear hmem
      by_cases h1 : s = 1
      · subst h1
        rw [Pl.hHad_1] at hbd HF
        go_wp2
        go_round
        case rel => exact ⟨k + 1, _, by omega, by go_num, rfl, HF.out.symm⟩
        case measure => simp [intOf]; omega
      by_cases h2 : s = 2
      · subst h2
        rw [Pl.hHad_2] at hbd HF
        go_wp2
        go_round
        case rel => exact ⟨k + 1, _, by omega, by go_num, rfl, HF.out.symm⟩
        case measure => simp [intOf]; omega
      rw [Pl.hHad_x m s h1 h2] at hbd HF
      have e1 : (s == 1) = false := by simp [h1]
      have e2 : (s == 2) = false := by simp [h2]
      go_wp2
      go_round
      case rel => exact ⟨k + 1, _, by omega, by go_num, rfl, by show _ = _; rw [HF.out]; omega⟩
      case measure => simp [intOf]; omega
    · have HE : Hid (Pl.free room hs = N) := by
        show _ = _
        have hke : k = hs.length := by omega
        rw [HN.out, hke, List.take_length]
      go_wp2
      go_ret
      exact ⟨by rw [HE.out]; rfl, al_below _ _⟩

/-- Two values lie at the head of this block. -/
def Duo (w : World) (b : Nat) (x y : Value) : Prop := w.cell? ⟨b, 0, none⟩ = some x ∧ w.cell? ⟨b, 1, none⟩ = some y
theorem Duo.later {B : Nat} {w w' : World} {b : Nat} {x y : Value} (h : Duo w b x y) (hb : Below B w w') (hB : w.heap.size ≤ B) : Duo w' b x y := by
  obtain ⟨h0, h1⟩ := h
  have hlt := World.block_lt_of_cell? _ _ h0
  simp at hlt
  exact ⟨by rw [← h0]; exact hb.cell (p := ⟨b, 0, none⟩) (by simp; omega), by rw [← h1]; exact hb.cell (p := ⟨b, 1, none⟩) (by simp; omega)⟩
theorem Duo.new (w : World) (x y : Value) (ty : TypeId) : Duo (w.alloc (.cells #[x, y] ty)) w.heap.size x y := by
  refine ⟨?_, ?_⟩ <;> simp
theorem Duo.lt {w : World} {b : Nat} {x y : Value} (h : Duo w b x y) : b < w.heap.size := by simpa using World.block_lt_of_cell? _ _ h.1

set_option maxHeartbeats 2000000 in
theorem implFree_any (room : Int) (v : Value) (hs : List Pl.H) (w : World) (hv : Holds w v hs) (hl : hs.length ≤ 1048576) :
    Calls Tryz.prog 205 #[.agg #[.int .i64 room, v]] w fun e w' => e = .returned (.int .i64 (Pl.sFree room hs)) ∧ Below w.heap.size w w' := by
  cases hr : Pl.inB room 0 9
  · rw [Pl.sFree_no (Pl.sOk_room hr)]
    obtain ⟨ao, cap, rfl⟩ := hv.shape
    clear hv
    go_enter Tryz.func205, Tryz.ntmps205
    go_wp2_with (go_at_call 150; refine (roomOk_any _ _).mono ?_; rintro e w1 ⟨rfl, rfl⟩; rw [hr])
    go_ret
    exact ⟨rfl, al_below _ _⟩
  by_cases h6 : (hs.length : Int) = 6
  · have hl6 : hs.length = 6 := by omega
    have HL6 := hide_it hl6
    have HR := hide_it hr
    have hrb := Pl.inB_true hr
    rcases hv with ⟨rfl, _⟩ | ⟨b, off, cap, rfl, hz, hc⟩
    · simp at hl6
    have HC : Hid (∀ W, Below w.heap.size w W → ∀ k, k < 6 → W.cell? ⟨b, off + k * 2, none⟩ = some (.int .i64 (hs.getD k (0, 0)).1) ∧ W.cell? ⟨b, off + k * 2 + 1, none⟩ = some (.int .i64 (hs.getD k (0, 0)).2)) := fun W h k hk => by
      obtain ⟨h1, h2⟩ := hc k (by omega)
      have hl := World.block_lt_of_cell? _ _ h1
      simp at hl
      exact ⟨by rw [← h1]; exact h.cell (p := ⟨b, off + k * 2, none⟩) (by simp; omega), by rw [← h2]; exact h.cell (p := ⟨b, off + k * 2 + 1, none⟩) (by simp; omega)⟩
    clear hc hz
    rw [hl6]
    clear hl6 h6 hl
    go_enter Tryz.func205, Tryz.ntmps205
    go_wp2_with (go_at_call 150; refine (roomOk_any _ _).mono ?_; rintro e w1 ⟨rfl, rfl⟩; rw [hr])
    go_loopw [3, 21] (fun n i wr => ∃ (k : Nat) (N : Int), k ≤ 6 ∧ i = .int .i64 k ∧ n = .int .i64 N ∧ Hid (N = Pl.free room (hs.take k)) ∧ Hid ((hs.take k).all Pl.hOk = true) ∧ Hid (Below w.heap.size w wr)) (fun _ i _ => 6 - (intOf i).toNat)
    case atStart => exact ⟨0, room, Nat.zero_le _, rfl, rfl, by show _ = _; simp [Pl.free], rfl, al_below _ _⟩
    case round =>
      obtain ⟨k, N, hk, rfl, rfl, HN, HA, HB⟩ := hrel
      have hNb : -1000 ≤ N ∧ N ≤ 9 := by
        have := Pl.free_bd room (hs.take k) HA.out
        have := HN.out
        simp at *
        omega
      by_cases hlt : k < 6
      · have HLT : Hid (k < hs.length) := by show _ < _; rw [HL6.out]; exact hlt
        obtain ⟨m, s, HZ⟩ : ∃ m s, Hid (hs.getD k (0, 0) = (m, s)) := ⟨_, _, rfl⟩
        have c0 : wr.cell? ⟨b, off + k * 2, none⟩ = some (.int .i64 m) := by rw [(HC.out wr HB.out k hlt).1, HZ.out]
        have c1 : wr.cell? ⟨b, off + k * 2 + 1, none⟩ = some (.int .i64 s) := by rw [(HC.out wr HB.out k hlt).2, HZ.out]
        have HBA : Hid (∀ o, Below w.heap.size w (wr.alloc o)) := fun o => HB.out.alloc HB.out.size o
        cases hok : Pl.hOk (m, s)
        · have HE : Hid (Pl.sFree room hs = -1) := Pl.sFree_no (Pl.sOk_all (Pl.hall_bad hs k HLT.out (by rw [HZ.out]; exact hok)))
          go_wp2_with fail
          refine (holdOk_any m s _).mono ?_
          rintro e w2 ⟨rfl, hb2⟩
          rw [hok]
          have HB2 := hide_it ((HBA.out _).trans (hb2.mono (HBA.out _).size))
          clear hb2
          go_wp2
          go_ret
          exact ⟨by rw [HE.out]; rfl, HB2.out⟩
        · have HA2 : Hid ((hs.take (k + 1)).all Pl.hOk = true) := by show _ = _; rw [Pl.hall_snoc hs k HLT.out, HA.out, HZ.out, hok]; rfl
          have HF : Hid (N - Pl.hHad (m, s) = Pl.free room (hs.take (k + 1))) := by show _ = _; rw [Pl.free_snoc room hs k HLT.out, ← HN.out, HZ.out]
          have hbd := Pl.hHad_bd (m, s) hok
          have HX := hide_it (Duo.new wr (.int .i64 m) (.int .i64 s) 93)
          go_wp2_with fail
          refine (holdOk_any m s _).mono ?_
          rintro e w2 ⟨rfl, hb2⟩
          rw [hok]
          have HB2 := hide_it ((HBA.out _).trans (hb2.mono (HBA.out _).size))
          obtain ⟨x0, x1⟩ := HX.out.later hb2 (Nat.le_refl _)
          clear hb2
          go_wp2_with fail
          refine (had_any m s _).mono ?_
          rintro e w3 ⟨rfl, hb3⟩
          have HB3 := hide_it (HB2.out.trans (hb3.mono HB2.out.size))
          clear hb3 x0 x1
          go_wp2
          go_roundw
          case rel => exact ⟨k + 1, _, by omega, by go_num, rfl, HF, HA2, HB3⟩
          case measure => simp [intOf]; omega
      · have HE : Hid (Pl.sFree room hs = max N (-1)) := by
          show _ = _
          have hke : k = hs.length := by have := HL6.out; omega
          have h1 := HA.out
          have h2 := HN.out
          rw [hke, List.take_length] at h1 h2
          rw [Pl.sFree_max h1 HR.out HL6.out, h2]
        by_cases hm : -1 ≤ N
        all_goals
          go_wp2
          go_ret
          exact ⟨by rw [HE.out]; simp; omega, HB.out⟩
  · rw [Pl.sFree_no (Pl.sOk_len (by omega))]
    obtain ⟨ao, cap, rfl⟩ := hv.shape
    clear hv
    go_enter Tryz.func205, Tryz.ntmps205
    go_wp2_with (go_at_call 150; refine (roomOk_any _ _).mono ?_; rintro e w1 ⟨rfl, rfl⟩; rw [hr])
    go_ret
    exact ⟨rfl, al_below _ _⟩

theorem implStockOk_any (room : Int) (v : Value) (hs : List Pl.H) (w : World) (hv : Holds w v hs) (hl : hs.length ≤ 1048576) :
    Calls Tryz.prog 203 #[.agg #[.int .i64 room, v]] w fun e w' => e = .returned (.bool (Pl.sOk room hs)) ∧ Below w.heap.size w w' := by
  have HV : Hid (∀ W, Below w.heap.size w W → Holds W v hs) := fun W h => hv.later h (Nat.le_refl _)
  have hbd := Pl.sFree_bd room hs
  obtain ⟨ao, cap, rfl⟩ := hv.shape
  rw [← Pl.sFree_ok]
  clear hv
  go_enter Tryz.func203, Tryz.ntmps203
  go_wp2_with (go_at_call 205; refine (implFree_any room _ hs _ (HV.out _ (al_below _ _)) hl).mono ?_; rintro e w1 ⟨rfl, hb1⟩; have HB1 := hide_it (al_after hb1); clear hb1)
  go_ret
  exact ⟨rfl, HB1.out⟩

end Go.Proofs.YtkkkdgpbmmjieaaGreatDoor

namespace Go.Proofs.YtkkkdgpbmmjieaaGreatDoor
open Go.RowKit

/-- Holds, all marked. -/
def markH (n : Nat) (k : Int) : List Pl.H := (List.range n).map fun i => (k + 2 * (i : Nat), k + 2 * (i : Nat) + 1)
theorem markH_length (n : Nat) (k : Int) : (markH n k).length = n := by simp [markH]
theorem markH_get? (n : Nat) (k : Int) (i : Nat) (h : i < n) : (markH n k)[i]? = some (k + 2 * i, k + 2 * i + 1) := by simp [markH, h]
theorem markH_get (n : Nat) (k : Int) (i : Nat) (h : i < n) : (markH n k).getD i (0, 0) = (k + 2 * i, k + 2 * i + 1) := by
  rw [List.getD_eq_getElem?_getD, markH_get? n k i h]; rfl

theorem mixH_set (A xs : List Pl.H) (i : Nat) (hA : A.length = xs.length) (hi : i < xs.length) (x : Pl.H) (hx : A[i]? = some x) : (A.take i ++ xs.drop i).set i x = A.take (i + 1) ++ xs.drop (i + 1) := by
  have hi' : i < A.length := by omega
  rw [List.set_append_right _ _ (by simp; omega)]
  have h1 : i - (A.take i).length = 0 := by simp; omega
  rw [h1, List.drop_eq_getElem_cons hi, List.set_cons_zero, List.take_succ_eq_append_getElem hi']
  rw [List.getElem?_eq_getElem hi'] at hx
  simp only [Option.some.injEq] at hx
  rw [hx]; simp

set_option maxHeartbeats 1000000 in
theorem markHolds_any (v : Value) (hs : List Pl.H) (k : Int) (lo n : Nat) (w : World) (hv : w.ownsRow lo 93 2 v n (hflat hs)) (hn : n ≤ 1048576) (hk0 : 0 ≤ k) (hk1 : k ≤ 1000000000) :
    Calls Tryz.prog 16 #[v, .int .i64 k] w fun e w' => e = .returned (.int .i64 (k + 2 * n)) ∧ w'.ownsRow lo 93 2 v n (hflat (markH n k)) ∧ w.grownBy w' v.ownBlock := by
  have hxl : hs.length = n := by have := hv.1; rw [hflat_length] at this; omega
  by_cases h0 : n = 0
  · subst h0
    obtain rfl : hs = [] := List.length_eq_zero_iff.1 hxl
    have HV : Hid (w.ownsRow lo 93 2 v 0 (hflat (markH 0 k))) := hv
    obtain ⟨ao, cap, rfl⟩ := row_shape hv
    clear hv hxl
    go_enter Tryz.func16, Tryz.ntmps16
    go_wp2
    refine wp_loop_rounds 1 ?_
    rw [rounds_succ]
    go_wp2
    go_ret
    exact ⟨by simp, HV.out, World.grownBy.refl _ _⟩
  obtain ⟨g, cap, rfl⟩ : ∃ g cap, v = .slice (some ⟨g, 0, none⟩) n cap := by
    rcases hv.2 with ⟨_, hn0⟩ | ⟨g, cap, cur, h, _⟩
    · exact absurd hn0 h0
    · exact ⟨g, cap, h⟩
  have HX : Hid (hs.length = n) := hxl
  have H0 : Hid (w.ownsRow lo 93 2 (.slice (some ⟨g, 0, none⟩) n cap) n (hflat ((markH n k).take 0 ++ hs.drop 0))) := by show World.ownsRow _ _ _ _ _ _ _; simpa using hv
  clear hv hxl
  go_enter Tryz.func16, Tryz.ntmps16
  go_wp2
  go_loopw [1, 5] (fun q i wr => ∃ j : Nat, j ≤ n ∧ i = .int .i64 j ∧ q = .int .i64 (k + 2 * j) ∧ Hid (wr.ownsRow lo 93 2 (.slice (some ⟨g, 0, none⟩) n cap) n (hflat ((markH n k).take j ++ hs.drop j))) ∧ Hid (w.grownBy wr (some g))) (fun _ i _ => n - (intOf i).toNat)
  case atStart => exact ⟨0, Nat.zero_le _, rfl, by simp, H0, World.grownBy.refl _ _⟩
  case round =>
    obtain ⟨j, hj, rfl, rfl, HO, HG⟩ := hrel
    by_cases hlt : j < n
    · have cellEx : ∀ i, i < n * 2 → ∃ x, wr.cell? ⟨g, i, none⟩ = some x := fun i hi => by
        have h1 := HO.out.cellAt i hi
        have h2 : i < (hflat ((markH n k).take j ++ hs.drop j)).length := by rw [HO.out.1]; exact hi
        exact ⟨_, by rw [h1, List.getElem?_eq_getElem h2]⟩
      obtain ⟨x0, hx0⟩ := cellEx (j * 2) (by omega)
      obtain ⟨x1, hx1⟩ := cellEx (j * 2 + 1) (by omega)
      have f0 := HO.out.frozenAt (j * 2)
      have f1 := HO.out.frozenAt (j * 2 + 1)
      have st := stored2 HO.out j (by rw [List.length_append, List.length_take, markH_length, List.length_drop, HX.out]; omega) (k + 2 * j, k + 2 * j + 1)
      have ST := hide_it st
      clear cellEx st
      go_wp2
      go_roundw
      case rel =>
        refine ⟨j + 1, by omega, by go_num, by go_num, ?_, grownBy_trans HG.out ST.out.2⟩
        have h := ST.out.1
        rw [mixH_set _ _ j (by rw [markH_length, HX.out]) (by rw [HX.out]; omega) _ (markH_get? n k j hlt)] at h
        exact h
      case measure => simp [intOf]; omega
    · have HO2 : Hid (wr.ownsRow lo 93 2 (.slice (some ⟨g, 0, none⟩) n cap) n (hflat (markH n k))) := by
        have hje : j = n := by omega
        have := HO.out
        rw [hje, List.take_of_length_le (by rw [markH_length]; omega), List.drop_of_length_le (by rw [HX.out]; omega), List.append_nil] at this
        exact this
      have hje : (j : Int) = n := by omega
      go_wp2
      go_ret
      exact ⟨by simp [hje], HO2.out, HG.out⟩

set_option maxHeartbeats 1000000 in
theorem heldHolds_any (v : Value) (n : Nat) (k : Int) (w : World) (hv : Holds w v (markH n k)) (hn : n ≤ 1048576) (hk0 : 0 ≤ k) (hk1 : k ≤ 1000000000) :
    Calls Tryz.prog 17 #[v, .int .i64 k] w fun e w' => e = .returned (.int .i64 (k + 2 * n)) ∧ w' = w := by
  rcases hv with ⟨hz, ao, cap, rfl, -⟩ | ⟨b, off, cap, rfl, hz, hc⟩
  · have h0 : n = 0 := by have := congrArg List.length hz; rw [markH_length] at this; simpa using this
    subst h0
    clear hz
    go_enter Tryz.func17, Tryz.ntmps17
    go_wp2
    refine wp_loop_rounds 1 ?_
    rw [rounds_succ]
    go_wp2
    go_ret
    exact ⟨by simp, rfl⟩
  · rw [markH_length] at hc ⊢
    have HC : Hid (∀ j, j < n → w.cell? ⟨b, off + j * 2, none⟩ = some (.int .i64 (k + 2 * j)) ∧ w.cell? ⟨b, off + j * 2 + 1, none⟩ = some (.int .i64 (k + 2 * j + 1))) := fun j hj => by
      have := hc j hj
      rw [markH_get n k j hj] at this
      exact this
    clear hc hz
    go_enter Tryz.func17, Tryz.ntmps17
    go_wp2
    go_loop [1, 5] (fun q i => ∃ j : Nat, j ≤ n ∧ i = .int .i64 j ∧ q = .int .i64 (k + 2 * j)) (fun _ i => n - (intOf i).toNat)
    case atStart => exact ⟨0, Nat.zero_le _, rfl, by simp⟩
    case round =>
      obtain ⟨j, hj, rfl, rfl⟩ := hrel
      by_cases hlt : j < n
      · obtain ⟨c0, c1⟩ := HC.out j hlt
        go_wp2
        go_round
        case rel => exact ⟨j + 1, by omega, by go_num, by go_num⟩
        case measure => simp [intOf]; omega
      · have hje : (j : Int) = n := by omega
        go_wp2
        go_ret
        exact ⟨by simp, rfl⟩

theorem holds_mid {l h : Nat} {w w' : World} {lo n : Nat} {v : Value} {hs : List Pl.H} (ho : w.ownsRow lo 93 2 v n (hflat hs)) (hm : Mid l h w w') (hd : ∀ i, v.ownBlock = some i → i < l ∨ h ≤ i) : w'.ownsRow lo 93 2 v n (hflat hs) := ownsRow_mid ho hm hd

end Go.Proofs.YtkkkdgpbmmjieaaGreatDoor

namespace Go.Proofs.YtkkkdgpbmmjieaaGreatDoor
open Go.RowKit

theorem next_1 (m s z F : Int) : Pl.next (m, s) 1 z F = if s = 0 ∧ z ≤ F then some (z, 1) else none := by simp [Pl.next]
theorem next_2 (m s z F : Int) : Pl.next (m, s) 2 z F = if s = 1 then some (m, 2) else none := by simp [Pl.next]
theorem next_3 (m s z F : Int) : Pl.next (m, s) 3 z F = if s = 1 ∨ s = 0 then some (m, 3) else none := by simp [Pl.next]
theorem next_x (h : Pl.H) (k z F : Int) (h1 : k ≠ 1) (h2 : k ≠ 2) (h3 : k ≠ 3) : Pl.next h k z F = none := by simp [Pl.next, h1, h2, h3]

/-- The place of a trip. -/
theorem trip_at {k t : Int} {zs : List Int} (h : Pl.recOk k t zs = true) : ∃ i : Nat, i < 6 ∧ t = (i : Int) + 1 ∧ Pl.at_ t = i := by
  have := Pl.recOk_trip h
  exact ⟨(t - 1).toNat, by omega, by omega, rfl⟩

set_option maxHeartbeats 4000000 in
theorem l2May_any (room : Int) (v : Value) (hs : List Pl.H) (k t : Int) (u : Value) (zs : List Int) (w : World) (hv : Holds w v hs) (hu : Ints w u zs) (hok : Pl.sOk room hs = true) (hrec : Pl.recOk k t zs = true) :
    Calls Tryz.prog 120 #[.agg #[.int .i64 room, v], .agg #[.int .i64 k, .int .i64 t, u]] w fun e w' => e = .returned (.bool (Pl.next (Pl.hAt hs t) k (zs.headD 0) (Pl.free room hs)).isSome) ∧ Below w.heap.size w w' := by
  obtain ⟨p1, p2, p3, p4⟩ := Pl.sOk_parts hok
  obtain ⟨i, hi, rfl, hat⟩ := trip_at hrec
  have hkb := Pl.recOk_kind hrec
  have HV : Hid (∀ W, Below w.heap.size w W → Holds W v hs) := fun W h => hv.later h (Nat.le_refl _)
  obtain ⟨F, hF⟩ : ∃ F, Pl.free room hs = F := ⟨_, rfl⟩
  have HF : Hid (∀ W, Below w.heap.size w W → Calls Tryz.prog 153 #[.agg #[.int .i64 room, v]] W fun e w' => e = .returned (.int .i64 F) ∧ Below W.heap.size W w') := fun W h => by
    have := l2Free_any room v hs W (HV.out W h) (by omega) p1 p2
    rw [hF] at this
    exact this
  rw [hF]
  obtain ⟨m, s, hms⟩ : ∃ m s, Pl.hAt hs ((i : Int) + 1) = (m, s) := ⟨_, _, rfl⟩
  rw [hms]
  rcases hv with ⟨rfl, _⟩ | ⟨b, off, cap, rfl, hz, hc⟩
  · simp at p3
  have hmsd : hs.getD i (0, 0) = (m, s) := by rw [← hat]; exact hms
  obtain ⟨c0, c1⟩ := hc i (by omega)
  rw [hmsd] at c0 c1
  have hbw : b < w.heap.size := World.block_lt_of_cell? _ _ c0
  rw [p3] at HF ⊢
  clear hc hz p1 p2 p3 p4 hok hat hms hmsd hF HV
  by_cases k1 : k = 1
  · subst k1
    obtain ⟨z, rfl, z1, z3⟩ := Pl.recOk_hold hrec
    rcases hu with ⟨h, _⟩ | ⟨b2, off2, cap2, rfl, hz2, hc2⟩
    · simp at h
    have d0 : w.cell? ⟨b2, off2, none⟩ = some (.int .i64 z) := hc2 0 (by simp)
    have hb2 : b2 < w.heap.size := World.block_lt_of_cell? _ _ d0
    rw [next_1, List.headD_cons]
    clear hc2 hz2 hrec hkb
    by_cases hs0 : s = 0
    · subst hs0
      have HR : Hid (∀ W, Below (((w.alloc (.cells #[.int .i64 room, .slice (some ⟨b, off, none⟩) 6 cap] 95)).alloc (.cells #[.int .i64 1, .int .i64 ((i : Int) + 1), .slice (some ⟨b2, off2, none⟩) 1 cap2] 161)).drew).heap.size (((w.alloc (.cells #[.int .i64 room, .slice (some ⟨b, off, none⟩) 6 cap] 95)).alloc (.cells #[.int .i64 1, .int .i64 ((i : Int) + 1), .slice (some ⟨b2, off2, none⟩) 1 cap2] 161)).drew) W →
          W.cell? ⟨w.heap.size, 0, none⟩ = some (.int .i64 room) ∧ W.cell? ⟨w.heap.size, 1, none⟩ = some (.slice (some ⟨b, off, none⟩) 6 cap) ∧ W.cell? ⟨w.heap.size + 1, 2, none⟩ = some (.slice (some ⟨b2, off2, none⟩) 1 cap2) ∧ W.cell? ⟨b2, off2, none⟩ = some (.int .i64 z)) := fun W h => by
        obtain ⟨hc, _⟩ := bcell h
        refine ⟨?_, ?_, ?_, ?_⟩
        · rw [hc _ _ (by simp; try omega)]; simp [go_sem]
        · rw [hc _ _ (by simp; try omega)]; simp [go_sem]
        · rw [hc _ _ (by simp; try omega)]; simp [go_sem]
        · rw [hc _ _ (by simp; try omega)]; exact ((below2 w _ _).drew.cell (p := ⟨b2, off2, none⟩) hb2).trans d0
      by_cases hzF : z ≤ F
      · rw [if_pos ⟨rfl, hzF⟩]
        go_enter Tryz.func120, Tryz.ntmps120
        go_wp2
        go_region_held (fun w' => w'.cell? ⟨w.heap.size, 0, none⟩ = some (.int .i64 room) ∧ w'.cell? ⟨w.heap.size, 1, none⟩ = some (.slice (some ⟨b, off, none⟩) 6 cap) ∧ w'.cell? ⟨w.heap.size + 1, 2, none⟩ = some (.slice (some ⟨b2, off2, none⟩) 1 cap2) ∧ w'.cell? ⟨b2, off2, none⟩ = some (.int .i64 z)) (go_keep)
          ((go_at_call 153; refine (HF.out _ ((below2 w _ _).drew)).mono ?_; rintro e w1 ⟨rfl, hb1⟩; have HB1 := hide_it ((below2 w _ _).drew.trans (hb1.mono (by simp; omega))); obtain ⟨y0, y1, y2, y3⟩ := HR.out _ hb1; clear hb1))
        all_goals (try go_wp2)
        all_goals (go_ret; exact ⟨rfl, HB1.out⟩)
      · rw [if_neg (by omega)]
        go_enter Tryz.func120, Tryz.ntmps120
        go_wp2
        go_region_held (fun w' => w'.cell? ⟨w.heap.size, 0, none⟩ = some (.int .i64 room) ∧ w'.cell? ⟨w.heap.size, 1, none⟩ = some (.slice (some ⟨b, off, none⟩) 6 cap) ∧ w'.cell? ⟨w.heap.size + 1, 2, none⟩ = some (.slice (some ⟨b2, off2, none⟩) 1 cap2) ∧ w'.cell? ⟨b2, off2, none⟩ = some (.int .i64 z)) (go_keep)
          ((go_at_call 153; refine (HF.out _ ((below2 w _ _).drew)).mono ?_; rintro e w1 ⟨rfl, hb1⟩; have HB1 := hide_it ((below2 w _ _).drew.trans (hb1.mono (by simp; omega))); obtain ⟨y0, y1, y2, y3⟩ := HR.out _ hb1; clear hb1))
        all_goals (try go_wp2)
        all_goals (go_ret; exact ⟨by simp; omega, HB1.out⟩)
    · rw [if_neg (by omega)]
      go_enter Tryz.func120, Tryz.ntmps120
      go_wp2
      go_quiet (fail)
      go_wp2
      go_ret
      exact ⟨rfl, below_drewN (below2 w _ _) _⟩
  obtain ⟨au, cu, rfl⟩ := hu.shape
  clear hu
  by_cases k2 : k = 2
  · subst k2
    rw [next_2]
    by_cases hs1 : s = 1
    · rw [if_pos hs1]
      go_enter Tryz.func120, Tryz.ntmps120
      go_wp2
      go_ret
      exact ⟨by simp, below2 w _ _⟩
    · rw [if_neg hs1]
      go_enter Tryz.func120, Tryz.ntmps120
      go_wp2
      go_ret
      exact ⟨by simp [hs1], below2 w _ _⟩
  by_cases k3 : k = 3
  · subst k3
    rw [next_3]
    by_cases hs1 : s = 1
    · rw [if_pos (Or.inl hs1)]
      subst hs1
      go_enter Tryz.func120, Tryz.ntmps120
      go_wp2
      go_ret
      exact ⟨rfl, below2 w _ _⟩
    by_cases hs0 : s = 0
    · rw [if_pos (Or.inr hs0)]
      subst hs0
      go_enter Tryz.func120, Tryz.ntmps120
      go_wp2
      go_ret
      exact ⟨rfl, below2 w _ _⟩
    · rw [if_neg (by omega)]
      have e1 : (s == 1) = false := by simp [hs1]
      have e2 : (s == 0) = false := by simp [hs0]
      go_enter Tryz.func120, Tryz.ntmps120
      go_wp2
      go_ret
      exact ⟨rfl, below2 w _ _⟩
  rw [next_x _ _ _ _ k1 k2 k3]
  have e1 : (k == 1) = false := by simp [k1]
  have e2 : (k == 2) = false := by simp [k2]
  have e3 : (k == 3) = false := by simp [k3]
  go_enter Tryz.func120, Tryz.ntmps120
  go_wp2
  go_ret
  exact ⟨rfl, below2 w _ _⟩

end Go.Proofs.YtkkkdgpbmmjieaaGreatDoor

namespace Go.Proofs.YtkkkdgpbmmjieaaGreatDoor
open Go.RowKit

/-- What a step answers. -/
def StepOut (W w' : World) (e : Ending) (o : Option Pl.H) : Prop :=
  ∃ p q : Int, e = .returned (.tuple #[.agg #[.int .i64 p, .int .i64 q], .bool o.isSome]) ∧ (∀ h, o = some h → h = (p, q)) ∧ Below W.heap.size W w'

set_option maxHeartbeats 2000000 in
theorem noStep_any (m s k t : Int) (u : Value) (z F : Int) (w : World) (k1 : k ≠ 1) (k2 : k ≠ 2) (k3 : k ≠ 3) (hu : ∃ au n cu, u = .slice au n cu) :
    Calls Tryz.prog 214 #[.agg #[.int .i64 m, .int .i64 s], .agg #[.int .i64 k, .int .i64 t, u], .int .i64 F] w fun e w' => StepOut w w' e (Pl.next (m, s) k z F) := by
  obtain ⟨au, n, cu, rfl⟩ := hu
  rw [next_x _ _ _ _ k1 k2 k3]
  go_enter Tryz.func214, Tryz.ntmps214
  go_wp2
  refine bodyPost_ret (v := .tuple #[.agg #[.int .i64 m, .int .i64 s], .bool false]) (by simp [results, Tryz.results214, go_sem]) rfl ⟨m, s, rfl, (fun h hh => by cases hh), ?_⟩
  first | exact below3 w _ _ _ | exact (below3 w _ _ _).setCell (by simp) _ | exact ((below3 w _ _ _).setCell (by simp) _).setCell (by simp) _ | trace_state

theorem StepOut.mk {W w' : World} {p q : Int} {o : Option Pl.H} (h : ∀ x, o = some x → x = (p, q)) (hb : Below W.heap.size W w') : StepOut W w' (.returned (.tuple #[.agg #[.int .i64 p, .int .i64 q], .bool o.isSome])) o := ⟨p, q, rfl, h, hb⟩

set_option maxHeartbeats 2000000 in
theorem closeStep_any (m s t : Int) (u : Value) (z F : Int) (w : World) (hu : ∃ au n cu, u = .slice au n cu) :
    Calls Tryz.prog 216 #[.agg #[.int .i64 m, .int .i64 s], .agg #[.int .i64 2, .int .i64 t, u], .int .i64 F] w fun e w' => StepOut w w' e (Pl.next (m, s) 2 z F) := by
  obtain ⟨au, n, cu, rfl⟩ := hu
  rw [next_2]
  by_cases hs1 : s = 1
  · rw [if_pos hs1]
    subst hs1
    go_enter Tryz.func216, Tryz.ntmps216
    go_wp2
    go_region
    go_wp2
    exact bodyPost_ret (v := .tuple #[.agg #[.int .i64 m, .int .i64 2], .bool true]) (by simp [results, Tryz.results216, go_sem]) rfl (StepOut.mk (o := some (m, 2)) (fun h hh => by simpa using hh.symm) (below3 w _ _ _).drew)
  · rw [if_neg hs1]
    have e1 : (s == 1) = false := by simp [hs1]
    go_enter Tryz.func216, Tryz.ntmps216
    go_wp2
    go_region
    go_wp2
    exact bodyPost_ret (v := .tuple #[.agg #[.int .i64 m, .int .i64 2], .bool false]) (by simp [results, Tryz.results216, go_sem]) rfl (StepOut.mk (o := none) (fun h hh => by cases hh) (below3 w _ _ _).drew)

set_option maxHeartbeats 2000000 in
theorem undoStep_any (m s t : Int) (u : Value) (z F : Int) (w : World) (hu : ∃ au n cu, u = .slice au n cu) :
    Calls Tryz.prog 217 #[.agg #[.int .i64 m, .int .i64 s], .agg #[.int .i64 3, .int .i64 t, u], .int .i64 F] w fun e w' => StepOut w w' e (Pl.next (m, s) 3 z F) := by
  obtain ⟨au, n, cu, rfl⟩ := hu
  rw [next_3]
  by_cases hs1 : s = 1
  · rw [if_pos (Or.inl hs1)]
    subst hs1
    go_enter Tryz.func217, Tryz.ntmps217
    go_wp2
    go_region
    go_wp2
    exact bodyPost_ret (v := .tuple #[.agg #[.int .i64 m, .int .i64 3], .bool true]) (by simp [results, Tryz.results217, go_sem]) rfl (StepOut.mk (o := some (m, 3)) (fun h hh => by simpa using hh.symm) (below3 w _ _ _).drew)
  have e1 : (s == 1) = false := by simp [hs1]
  by_cases hs0 : s = 0
  · rw [if_pos (Or.inr hs0)]
    subst hs0
    clear e1 hs1
    go_enter Tryz.func217, Tryz.ntmps217
    go_wp2
    go_region
    go_wp2
    exact bodyPost_ret (v := .tuple #[.agg #[.int .i64 m, .int .i64 3], .bool true]) (by simp [results, Tryz.results217, go_sem]) rfl (StepOut.mk (o := some (m, 3)) (fun h hh => by simpa using hh.symm) (below3 w _ _ _).drew)
  · rw [if_neg (by omega)]
    have e0 : (s == 0) = false := by simp [hs0]
    go_enter Tryz.func217, Tryz.ntmps217
    go_wp2
    go_region
    go_wp2
    exact bodyPost_ret (v := .tuple #[.agg #[.int .i64 m, .int .i64 3], .bool false]) (by simp [results, Tryz.results217, go_sem]) rfl (StepOut.mk (o := none) (fun h hh => by cases hh) (below3 w _ _ _).drew)

set_option maxHeartbeats 2000000 in
theorem holdStep_any (m s t : Int) (b2 off2 cap2 : Nat) (z F : Int) (w : World) (d0 : w.cell? ⟨b2, off2, none⟩ = some (.int .i64 z)) :
    Calls Tryz.prog 215 #[.agg #[.int .i64 m, .int .i64 s], .agg #[.int .i64 1, .int .i64 t, .slice (some ⟨b2, off2, none⟩) 1 cap2], .int .i64 F] w fun e w' => StepOut w w' e (Pl.next (m, s) 1 z F) := by
  have hb2 : b2 < w.heap.size := World.block_lt_of_cell? _ _ d0
  have HQ : Hid (∀ o, (((w.alloc (.cells #[.int .i64 m, .int .i64 s] 93)).alloc (.cells #[.int .i64 1, .int .i64 t, .slice (some ⟨b2, off2, none⟩) 1 cap2] 161)).alloc o).drew.cell? ⟨w.heap.size, 1, none⟩ = some (.int .i64 s) ∧
      (((w.alloc (.cells #[.int .i64 m, .int .i64 s] 93)).alloc (.cells #[.int .i64 1, .int .i64 t, .slice (some ⟨b2, off2, none⟩) 1 cap2] 161)).alloc o).drew.cell? ⟨w.heap.size + 1, 2, none⟩ = some (.slice (some ⟨b2, off2, none⟩) 1 cap2) ∧
      (((w.alloc (.cells #[.int .i64 m, .int .i64 s] 93)).alloc (.cells #[.int .i64 1, .int .i64 t, .slice (some ⟨b2, off2, none⟩) 1 cap2] 161)).alloc o).drew.cell? ⟨b2, off2, none⟩ = some (.int .i64 z)) := fun o => by
    obtain ⟨hc, _⟩ := bcell (al_below ((w.alloc (.cells #[.int .i64 m, .int .i64 s] 93)).alloc (.cells #[.int .i64 1, .int .i64 t, .slice (some ⟨b2, off2, none⟩) 1 cap2] 161)) o).drew
    refine ⟨?_, ?_, ?_⟩
    · rw [hc _ _ (by simp; omega)]; simp [go_sem]
    · rw [hc _ _ (by simp)]; simp [go_sem]
    · rw [hc _ _ (by simp; omega)]; exact ((below2 w _ _).cell (p := ⟨b2, off2, none⟩) hb2).trans d0
  rw [next_1]
  by_cases hs0 : s = 0
  · subst hs0
    by_cases hzF : z ≤ F
    · rw [if_pos ⟨rfl, hzF⟩]
      go_enter Tryz.func215, Tryz.ntmps215
      go_wp2
      go_region_held (fun w' => w'.cell? ⟨w.heap.size, 1, none⟩ = some (.int .i64 0) ∧ w'.cell? ⟨w.heap.size + 1, 2, none⟩ = some (.slice (some ⟨b2, off2, none⟩) 1 cap2) ∧ w'.cell? ⟨b2, off2, none⟩ = some (.int .i64 z)) (first | (go_keep; done) | exact HQ.out _) (fail)
      go_wp2
      exact bodyPost_ret (v := .tuple #[.agg #[.int .i64 z, .int .i64 1], .bool true]) (by simp [results, Tryz.results215, go_sem]) rfl (StepOut.mk (o := some (z, 1)) (fun h hh => by simpa using hh.symm) (below3 w _ _ _).drew)
    · rw [if_neg (by omega)]
      go_enter Tryz.func215, Tryz.ntmps215
      go_wp2
      go_region_held (fun w' => w'.cell? ⟨w.heap.size, 1, none⟩ = some (.int .i64 0) ∧ w'.cell? ⟨w.heap.size + 1, 2, none⟩ = some (.slice (some ⟨b2, off2, none⟩) 1 cap2) ∧ w'.cell? ⟨b2, off2, none⟩ = some (.int .i64 z)) (first | (go_keep; done) | exact HQ.out _) (fail)
      go_wp2
      exact bodyPost_ret (v := .tuple #[.agg #[.int .i64 z, .int .i64 1], .bool false]) (by simp [results, Tryz.results215, go_sem]; try omega) rfl (StepOut.mk (o := none) (fun h hh => by cases hh) (below3 w _ _ _).drew)
  · rw [if_neg (by omega)]
    have e0 : (s == 0) = false := by simp [hs0]
    have hq : ∀ o1 o2 o3, (((w.alloc o1).alloc o2).alloc o3).cell? ⟨b2, off2, none⟩ = some (.int .i64 z) := fun o1 o2 o3 => ((below3 w o1 o2 o3).cell (p := ⟨b2, off2, none⟩) hb2).trans d0
    go_enter Tryz.func215, Tryz.ntmps215
    go_wp2
    go_region
    go_wp2
    exact bodyPost_ret (v := .tuple #[.agg #[.int .i64 z, .int .i64 1], .bool false]) (by simp [results, Tryz.results215, go_sem]) rfl (StepOut.mk (o := none) (fun h hh => by cases hh) (below3 w _ _ _).drew)

set_option maxHeartbeats 2000000 in
theorem steps_any (w : World) :
    Calls Tryz.prog 204 #[] w fun e w' => e = .returned (.agg #[.func (.func 214) #[] #[], .func (.func 215) #[] #[], .func (.func 216) #[] #[], .func (.func 217) #[] #[], .func (.func 214) #[] #[], .func (.func 214) #[] #[], .func (.func 214) #[] #[], .func (.func 214) #[] #[]]) ∧ Below w.heap.size w w' := by
  go_enter Tryz.func204, Tryz.ntmps204
  go_wp2
  exact bodyPost_ret (v := .agg #[.func (.func 214) #[] #[], .func (.func 215) #[] #[], .func (.func 216) #[] #[], .func (.func 217) #[] #[], .func (.func 214) #[] #[], .func (.func 214) #[] #[], .func (.func 214) #[] #[], .func (.func 214) #[] #[]]) (by simp [results, Tryz.results204, go_sem]) rfl ⟨rfl, al_below _ _⟩

end Go.Proofs.YtkkkdgpbmmjieaaGreatDoor
