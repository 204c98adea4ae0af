/- FnExactDeskGive answers true at every desk and every number, and they read afterwards as they read before: at every argument DeskGive answers as its model. The card: the sentinel's variable starts as the program's text lays it. -/
import Derived.Test.YtogfpnenoeonoabGreatDoorBase6
import Derived.Deep.RegionHeld

namespace Go.Proofs.YtogfpnenoeonoabGreatDoor
open Go.RowKit

def LwOut (w w' : World) (e : Ending) (lo : Nat) (up : Bool) (v : Value) (f : Int) (u : Value) (rs : List R) (ws : List Wd) (r : R) : Prop :=
  (dkMay up rs r = false ∧ e = .returned (.tuple #[deskV up v f u, .bool false]) ∧ Below w.heap.size w w') ∨
  (dkMay up rs r = true ∧ Below lo w w' ∧ ∃ a3 c3 ps3, e = .returned (.tuple #[deskV up (.slice a3 (rs ++ [r]).length c3) f u, .bool true]) ∧ ps3.map (·.1) = rs ++ [r] ∧ DkTy w' lo w'.heap.size (.slice a3 (rs ++ [r]).length c3) u ps3 ws)

theorem DkTy.setB {w : World} {lo hi b j : Nat} {v u : Value} {ps : List (R × Value)} {ws : List Wd} {cur : Array Value} {ty : TypeId} (h : DkTy w lo hi v u ps ws) (hh : Blk w b cur ty) (h1 : 58 ≠ ty) (h2 : 3 ≠ ty) (h3 : 50 ≠ ty) (x : Value) : DkTy (w.setCell ⟨b, j, Option.none⟩ x) lo hi v u ps ws :=
  ⟨h.1.setB hh h1 h2 x, ownsRow_setCell_ne h.2.1 (fun g hg => row_apart h.2.1 hh h3 g hg) x, h.2.2⟩

set_option maxHeartbeats 16000000 in
set_option maxRecDepth 20000 in
theorem l13Write_any (up : Bool) (v : Value) (f : Int) (u : Value) (ps : List (R × Value)) (rs : List R) (ws : List Wd) (r : R) (ax : Option Addr) (cx lo hi : Nat) (w : World)
    (ho : DkOwn w lo hi v u ps ws) (hp : ps.map (·.1) = rs) (hlo : lo ≤ w.heap.size) (hlh : lo ≤ hi) (hl : tot rs ≤ 1048576) (hx : w.ownsRow hi 3 1 (.slice ax r.2.2.length cx) r.2.2.length (r.2.2.map (Value.int .i64))) (hok : dkOk up rs f ws = true) (hr : rOk r = true) :
    Calls Tryz.prog 26 #[deskV up v f u, .agg #[.int .i64 r.1, .int .i64 r.2.1, .slice ax r.2.2.length cx]] w fun e w' => LwOut w w' e lo up v f u rs ws r := by
  obtain ⟨hf0, hf1, -⟩ := logOk_f (dkOk_log hok)
  have hroom := T.runT_room (run_some hok)
  obtain ⟨ht1, ht6⟩ := T.rOk_trip hr
  have HI := hide_it (ho.in_ hp)
  have HO := hide_it ho
  have HX := hide_it hx
  have HP := hide_it hp
  obtain ⟨av, cv, au, cu, rfl, rfl⟩ := (ho.at' hp).shape
  have HT : Hid (∀ W, Below w.heap.size w W → Calls Tryz.prog 44 #[deskV up (.slice av rs.length cv) f (.slice au ws.length cu), .bool false] W fun e w' => TrL W w' e (T.ofO rs)) := fun W h =>
    l13Trips_any up _ _ rs f ws false W (HI.out.later h (Nat.le_refl _)) hl hf0 hf1
  have hfit := T.ofO_fit rs
  have HM : Hid (∀ (y : Value) (W : World), T.Recs W y (T.ofO rs) → Calls Tryz.prog 50 #[y, .agg #[.int .i64 r.1, .int .i64 r.2.1, .slice ax r.2.2.length cx]] W fun e w' => e = .returned (.bool (T.mayL (T.ofO rs) r)) ∧ Below W.heap.size W w') := fun y W h =>
    T.l12May_any y (T.ofO rs) r.1 r.2.1 _ r.2.2 W h hfit.tot ⟨_, _, _, rfl⟩ ht1 ht6
  have hpl : ps.length = rs.length := by have := congrArg List.length hp; simpa using this
  have HAD : Hid (∀ W, Below w.heap.size w W → Calls Tryz.prog 51 #[.agg #[.slice av rs.length cv, .int .i64 f], .agg #[.int .i64 r.1, .int .i64 r.2.1, .slice ax r.2.2.length cx]] W fun e w' => ∃ g cap' ps3, e = .returned (.tuple #[.agg #[.slice (some ⟨g, 0, none⟩) (rs ++ [r]).length cap', .int .i64 f], .bool true]) ∧ ps3.map (·.1) = rs ++ [r] ∧ DkTy w' lo w'.heap.size (.slice (some ⟨g, 0, none⟩) (rs ++ [r]).length cap') (.slice au ws.length cu) ps3 ws ∧ Below lo W w' ∧ Mid lo hi W w') := fun W h => by
    have hoW := HO.out.below h HO.out.1
    obtain ⟨q0, l0, t, q1', q2, q3', q4, q5'⟩ := hoW
    obtain ⟨l, q1, ql, q3, q5⟩ : ∃ l, lo ≤ l ∧ l ≤ hi ∧ OwnRecs W l t (.slice av rs.length cv) ps ∧ ∀ g, (Value.slice au ws.length cu).ownBlock = some g → g < hi ∧ (g < l ∨ t ≤ g) := by
      by_cases hl0 : l0 ≤ hi
      · exact ⟨l0, q1', hl0, q3', q5'⟩
      · exact ⟨hi, hlh, Nat.le_refl _, q3'.lo' (by omega), fun g hg => ⟨(q5' g hg).1, Or.inl (q5' g hg).1⟩⟩
    have hxW := ownsRow_below HX.out h (fun k hk => (HX.out.lt k hk).2)
    rw [← hpl] at q3 ⊢
    have hadd := l1Add_mid av cv ps f r ax cx l t W q3 (by omega) (ownsRow_base hxW ql) (fun k hk => by have := (hxW.lt k hk).1; omega) (by omega)
    refine hadd.mono ?_
    rintro e w' ⟨g, cap', he, hm, hb, hM⟩
    rw [HP.out] at hm
    obtain ⟨ps3, hp3, ho3⟩ := hm
    have hlen : (rs ++ [r]).length = ps.length + 1 := by rw [List.length_append, hpl]; rfl
    refine ⟨g, cap', ps3, by rw [hlen]; exact he, hp3, ?_, hb.mono q1, ⟨hM.os, hM.tape, hM.output, hM.size, fun j hj hh => hM.block j hj (by omega)⟩⟩
    rw [hlen]
    refine ⟨ho3.lo' q1, ownsRow_mid q4 hM (fun k hk => (q5 k hk).2), fun k hk => by have := (q4.lt k hk).2; have := hM.size; omega⟩
  clear ho hx hok hr hfit hp hf0 hf1
  obtain ⟨ts, hts⟩ : ∃ q, T.ofO rs = q := ⟨_, rfl⟩
  have HD : Hid (dkMay up rs r = (up && T.mayL ts r)) := by show _ = _; unfold dkMay; rw [hts]
  rw [hts] at HT HM
  clear hts
  obtain ⟨MM, hMM⟩ : ∃ q, T.mayL ts r = q := ⟨_, rfl⟩
  rw [hMM] at HM HD
  clear hMM
  have hhi := HO.out.1
  obtain ⟨w0, hw0⟩ : ∃ W, Hid (W = ((w.alloc (.cells #[.bool up, .slice av rs.length cv, .int .i64 f, .slice au ws.length cu] 35)).alloc (.cells #[.int .i64 r.1, .int .i64 r.2.1, .slice ax r.2.2.length cx] 58)).alloc (.cells #[.bool false, .slice none 0 0, .int .i64 0, .slice none 0 0] 35)) := ⟨_, rfl⟩
  have B0 : Hid (Below w.heap.size w w0) := by show Below _ _ _; rw [hw0.out]; exact below3 _ _ _ _
  have X0 : Hid (Blk w0 w.heap.size #[.bool up, .slice av rs.length cv, .int .i64 f, .slice au ws.length cu] 35) := by show Blk _ _ _ _; rw [hw0.out]; exact ((Blk.new _ _ _).alloc _).alloc _
  have R0 : Hid (Blk w0 (w.heap.size + 1) #[.int .i64 r.1, .int .i64 r.2.1, .slice ax r.2.2.length cx] 58) := by show Blk _ _ _ _; rw [hw0.out]; exact (Blk.new2 _ _ _ _).alloc _
  have Z0 : Hid (Blk w0 (w.heap.size + 1 + 1) #[.bool false, .slice none 0 0, .int .i64 0, .slice none 0 0] 35) := by
    show Blk _ _ _ _
    rw [hw0.out]
    have h := Blk.new ((w.alloc (.cells #[.bool up, .slice av rs.length cv, .int .i64 f, .slice au ws.length cu] 35)).alloc (.cells #[.int .i64 r.1, .int .i64 r.2.1, .slice ax r.2.2.length cx] 58)) #[.bool false, .slice none 0 0, .int .i64 0, .slice none 0 0] 35
    rw [size2] at h
    exact h
  have hs0 : w0.heap.size = w.heap.size + 3 := by rw [hw0.out, size3]
  have HS0 := hide_it hs0
  clear hs0
  obtain ⟨x0, x1, x2, x3⟩ := X0.out.cells4
  obtain ⟨r0, r1, r2⟩ := R0.out.cells3
  cases up
  · go_enter Tryz.func26, Tryz.ntmps26
    go_wp2_with fail
    rw [← hw0.out]
    refine wp_region_held_drew (S := fun w' => (w'.cell? ⟨w.heap.size, 0, none⟩ = some (.bool false) ∧ w'.cell? ⟨w.heap.size, 1, none⟩ = some (.slice av rs.length cv) ∧ w'.cell? ⟨w.heap.size, 2, none⟩ = some (.int .i64 f) ∧ w'.cell? ⟨w.heap.size, 3, none⟩ = some (.slice au ws.length cu)) ∧ (w'.cell? ⟨w.heap.size + 1, 0, none⟩ = some (.int .i64 r.1) ∧ w'.cell? ⟨w.heap.size + 1, 1, none⟩ = some (.int .i64 r.2.1) ∧ w'.cell? ⟨w.heap.size + 1, 2, none⟩ = some (.slice ax r.2.2.length cx))) (by kernel_rfl) ⟨⟨x0, x1, x2, x3⟩, r0, r1, r2⟩ (fun hHeld => ?_)
    clear x0 x1 x2 x3 r0 r1 r2
    refine takeD (i := 0) (v := ?_) (some 8) rfl rfl (by kernel_rfl) (by kernel_rfl) (by kernel_rfl) (fun _ _ _ h => h) (by rfl) hHeld ?_ ?_
    rotate_left
    · intro W hSw
      try dsimp only at hSw
      go_simp
      try with_reducible rfl
    try simp only [Act.put]
    try simp only [List.setIfInBounds_toArray]
    try simp only [List.set_cons_succ]
    try simp only [List.set_cons_zero]
    refine takeD (i := 1) (v := ?_) (some 9) rfl rfl (by kernel_rfl) (by kernel_rfl) (by kernel_rfl) (fun _ _ _ h => h) (by rfl) hHeld ?_ ?_
    rotate_left
    · intro W hSw
      try dsimp only at hSw
      go_simp
      try with_reducible rfl
    try simp only [Act.put]
    try simp only [List.setIfInBounds_toArray]
    try simp only [List.set_cons_succ]
    try simp only [List.set_cons_zero]
    refine takeD (i := 2) (v := .bool true) (some 10) rfl rfl (by kernel_rfl) (by kernel_rfl) (by kernel_rfl) (fun _ _ _ h => h) (by rfl) hHeld ?_ ?_
    · intro W hSw
      try dsimp only at hSw
      first | (go_simp; done) | (go_simp; simp [*]; done) | (go_simp; simp; omega)
    try simp only [Act.put]
    try simp only [List.setIfInBounds_toArray]
    try simp only [List.set_cons_succ]
    try simp only [List.set_cons_zero]
    refine takeD (i := 3) (v := .bool true) (some 11) rfl rfl (by kernel_rfl) (by kernel_rfl) (by kernel_rfl) (fun _ _ _ h => h) (by rfl) hHeld ?_ ?_
    · intro W hSw
      try dsimp only at hSw
      first | (go_simp; done) | (go_simp; simp [*]; done) | (go_simp; simp; omega)
    try simp only [Act.put]
    try simp only [List.setIfInBounds_toArray]
    try simp only [List.set_cons_succ]
    try simp only [List.set_cons_zero]
    refine skipD (i := 4) (some 12) rfl rfl (by kernel_rfl) (by kernel_rfl) (by kernel_rfl) (fun _ _ _ h => h) (by rfl) hHeld ?_
    try simp only [Act.put]
    try simp only [List.setIfInBounds_toArray]
    try simp only [List.set_cons_succ]
    try simp only [List.set_cons_zero]
    refine skipD (i := 5) (some 13) rfl rfl (by kernel_rfl) (by kernel_rfl) (by kernel_rfl) (fun _ _ _ h => h) (by rfl) hHeld ?_
    try simp only [Act.put]
    try simp only [List.setIfInBounds_toArray]
    try simp only [List.set_cons_succ]
    try simp only [List.set_cons_zero]
    refine skipD (i := 6) (some 14) rfl rfl (by kernel_rfl) (by kernel_rfl) (by kernel_rfl) (fun _ _ _ h => h) (by rfl) hHeld ?_
    try simp only [Act.put]
    try simp only [List.setIfInBounds_toArray]
    try simp only [List.set_cons_succ]
    try simp only [List.set_cons_zero]
    refine skipD (i := 7) (some 15) rfl rfl (by kernel_rfl) (by kernel_rfl) (by kernel_rfl) (fun _ _ _ h => h) (by rfl) hHeld ?_
    try simp only [Act.put]
    try simp only [List.setIfInBounds_toArray]
    try simp only [List.set_cons_succ]
    try simp only [List.set_cons_zero]
    refine skipD (i := 8) (some 16) rfl rfl (by kernel_rfl) (by kernel_rfl) (by kernel_rfl) (fun _ _ _ h => h) (by rfl) hHeld ?_
    try simp only [Act.put]
    try simp only [List.setIfInBounds_toArray]
    try simp only [List.set_cons_succ]
    try simp only [List.set_cons_zero]
    refine takeD (i := 9) (v := .bool true) (some 17) rfl rfl (by kernel_rfl) (by kernel_rfl) (by kernel_rfl) (fun _ _ _ h => h) (by rfl) hHeld ?_ ?_
    · intro W hSw
      try dsimp only at hSw
      first | (go_simp; done) | (go_simp; simp [*]; done) | (go_simp; simp; omega)
    try simp only [Act.put]
    try simp only [List.setIfInBounds_toArray]
    try simp only [List.set_cons_succ]
    try simp only [List.set_cons_zero]
    refine wpAnyH_done (by kernel_rfl) ?_ _
    obtain ⟨z0, z1, z2, z3⟩ := Z0.out.cells4
    obtain ⟨zf0, zf1, zf2, zf3⟩ := Z0.out.free4
    obtain ⟨x0, x1, x2, x3⟩ := X0.out.cells4
    go_wp2
    refine bodyPost_ret (v := .tuple #[deskV false (.slice av rs.length cv) f (.slice au ws.length cu), .bool false]) (by simp [results, Tryz.results26, go_sem, *]) rfl ?_
    refine Or.inl ⟨by rw [HD.out]; rfl, rfl, ?_⟩
    try refine Below.drew ?_
    iterate 4 (refine Below.setCell ?_ (show w.heap.size ≤ w.heap.size + 1 + 1 by omega) _)
    first | exact B0.out | exact B0.out.drew
  go_enter Tryz.func26, Tryz.ntmps26
  go_wp2_with fail
  rw [← hw0.out]
  refine wp_region_held_drew (S := fun w' => (w'.cell? ⟨w.heap.size, 0, none⟩ = some (.bool true) ∧ w'.cell? ⟨w.heap.size, 1, none⟩ = some (.slice av rs.length cv) ∧ w'.cell? ⟨w.heap.size, 2, none⟩ = some (.int .i64 f) ∧ w'.cell? ⟨w.heap.size, 3, none⟩ = some (.slice au ws.length cu)) ∧ (w'.cell? ⟨w.heap.size + 1, 0, none⟩ = some (.int .i64 r.1) ∧ w'.cell? ⟨w.heap.size + 1, 1, none⟩ = some (.int .i64 r.2.1) ∧ w'.cell? ⟨w.heap.size + 1, 2, none⟩ = some (.slice ax r.2.2.length cx))) (by kernel_rfl) ⟨⟨x0, x1, x2, x3⟩, r0, r1, r2⟩ (fun hHeld => ?_)
  clear x0 x1 x2 x3 r0 r1 r2
  refine takeD (i := 0) (v := ?_) (some 8) rfl rfl (by kernel_rfl) (by kernel_rfl) (by kernel_rfl) (fun _ _ _ h => h) (by rfl) hHeld ?_ ?_
  rotate_left
  · intro W hSw
    try dsimp only at hSw
    go_simp
    try with_reducible rfl
  try simp only [Act.put]
  try simp only [List.setIfInBounds_toArray]
  try simp only [List.set_cons_succ]
  try simp only [List.set_cons_zero]
  refine takeD (i := 1) (v := ?_) (some 9) rfl rfl (by kernel_rfl) (by kernel_rfl) (by kernel_rfl) (fun _ _ _ h => h) (by rfl) hHeld ?_ ?_
  rotate_left
  · intro W hSw
    try dsimp only at hSw
    go_simp
    try with_reducible rfl
  try simp only [Act.put]
  try simp only [List.setIfInBounds_toArray]
  try simp only [List.set_cons_succ]
  try simp only [List.set_cons_zero]
  refine takeD (i := 2) (v := .bool false) (some 10) rfl rfl (by kernel_rfl) (by kernel_rfl) (by kernel_rfl) (fun _ _ _ h => h) (by rfl) hHeld ?_ ?_
  · intro W hSw
    try dsimp only at hSw
    first | (go_simp; done) | (go_simp; simp [*]; done) | (go_simp; simp; omega)
  try simp only [Act.put]
  try simp only [List.setIfInBounds_toArray]
  try simp only [List.set_cons_succ]
  try simp only [List.set_cons_zero]
  refine takeD (i := 3) (v := .bool false) (some 11) rfl rfl (by kernel_rfl) (by kernel_rfl) (by kernel_rfl) (fun _ _ _ h => h) (by rfl) hHeld ?_ ?_
  · intro W hSw
    try dsimp only at hSw
    first | (go_simp; done) | (go_simp; simp [*]; done) | (go_simp; simp; omega)
  try simp only [Act.put]
  try simp only [List.setIfInBounds_toArray]
  try simp only [List.set_cons_succ]
  try simp only [List.set_cons_zero]
  refine takeD (i := 4) (v := ?_) (some 12) rfl rfl (by kernel_rfl) (by kernel_rfl) (by kernel_rfl) (fun _ _ _ h => h) (by rfl) hHeld ?_ ?_
  rotate_left
  · intro W hSw
    try dsimp only at hSw
    go_simp
    try with_reducible rfl
  try simp only [Act.put]
  try simp only [List.setIfInBounds_toArray]
  try simp only [List.set_cons_succ]
  try simp only [List.set_cons_zero]
  refine takeD (i := 6) (v := ?_) (some 14) rfl rfl (by kernel_rfl) (by kernel_rfl) (by kernel_rfl) (fun _ _ _ h => h) (by rfl) hHeld ?_ ?_
  rotate_left
  · intro W hSw
    try dsimp only at hSw
    go_simp
    try with_reducible rfl
  try simp only [Act.put]
  try simp only [List.setIfInBounds_toArray]
  try simp only [List.set_cons_succ]
  try simp only [List.set_cons_zero]
  refine wpAnyH_ready (rs := [5]) (by kernel_rfl) (by simp) ?_
  refine AllReadyH.cons rfl (fun K hK => ?_) AllReadyH.nil
  go_simp
  refine (HT.out _ B0.out.drew).mono ?_
  rintro e w1 ⟨a1, c1, rfl, hm1, hb1⟩
  have L1 := hide_it ((Below.refl w0.heap.size w0).drew.trans hb1)
  have B1 := hide_it (B0.out.trans (L1.out.mono B0.out.size))
  have T1 := hide_it hm1.recs
  clear hb1 hm1
  try dsimp only
  refine hK.out _ _ ⟨(X0.out.after L1.out).cells4, (R0.out.after L1.out).cells3⟩ (fun hHeld => ?_)
  clear hK K
  refine wpAnyH_ready (rs := [7]) (by kernel_rfl) (by simp) ?_
  refine AllReadyH.cons rfl (fun K hK => ?_) AllReadyH.nil
  go_simp
  refine (HM.out _ _ T1.out).mono ?_
  rintro e w2 ⟨rfl, hb2⟩
  have L2 := hide_it (L1.out.trans (hb2.mono L1.out.size))
  have B2 := hide_it (B0.out.trans (L2.out.mono B0.out.size))
  clear hb2
  try dsimp only
  refine hK.out _ _ ⟨(X0.out.after L2.out).cells4, (R0.out.after L2.out).cells3⟩ (fun hHeld => ?_)
  clear hK K
  cases MM
  · refine takeD (i := 8) (v := .bool true) (some 16) rfl rfl (by kernel_rfl) (by kernel_rfl) (by kernel_rfl) (fun _ _ _ h => h) (by rfl) hHeld ?_ ?_
    · intro W hSw
      try dsimp only at hSw
      first | (go_simp; done) | (go_simp; simp [*]; done) | (go_simp; simp; omega)
    try simp only [Act.put]
    try simp only [List.setIfInBounds_toArray]
    try simp only [List.set_cons_succ]
    try simp only [List.set_cons_zero]
    refine takeD (i := 9) (v := .bool true) (some 17) rfl rfl (by kernel_rfl) (by kernel_rfl) (by kernel_rfl) (fun _ _ _ h => h) (by rfl) hHeld ?_ ?_
    · intro W hSw
      try dsimp only at hSw
      first | (go_simp; done) | (go_simp; simp [*]; done) | (go_simp; simp; omega)
    try simp only [Act.put]
    try simp only [List.setIfInBounds_toArray]
    try simp only [List.set_cons_succ]
    try simp only [List.set_cons_zero]
    refine wpAnyH_done (by kernel_rfl) ?_ _
    obtain ⟨z0, z1, z2, z3⟩ := (Z0.out.after L2.out).cells4
    obtain ⟨zf0, zf1, zf2, zf3⟩ := (Z0.out.after L2.out).free4
    obtain ⟨x0, x1, x2, x3⟩ := (X0.out.after L2.out).cells4
    go_wp2
    refine bodyPost_ret (v := .tuple #[deskV true (.slice av rs.length cv) f (.slice au ws.length cu), .bool false]) (by simp [results, Tryz.results26, go_sem, *]) rfl ?_
    refine Or.inl ⟨by rw [HD.out]; rfl, rfl, ?_⟩
    try refine Below.drew ?_
    iterate 4 (refine Below.setCell ?_ (show w.heap.size ≤ w.heap.size + 1 + 1 by omega) _)
    exact B2.out
  · refine takeD (i := 8) (v := .bool false) (some 16) rfl rfl (by kernel_rfl) (by kernel_rfl) (by kernel_rfl) (fun _ _ _ h => h) (by rfl) hHeld ?_ ?_
    · intro W hSw
      try dsimp only at hSw
      first | (go_simp; done) | (go_simp; simp [*]; done) | (go_simp; simp; omega)
    try simp only [Act.put]
    try simp only [List.setIfInBounds_toArray]
    try simp only [List.set_cons_succ]
    try simp only [List.set_cons_zero]
    refine takeD (i := 9) (v := .bool false) (some 17) rfl rfl (by kernel_rfl) (by kernel_rfl) (by kernel_rfl) (fun _ _ _ h => h) (by rfl) hHeld ?_ ?_
    · intro W hSw
      try dsimp only at hSw
      first | (go_simp; done) | (go_simp; simp [*]; done) | (go_simp; simp; omega)
    try simp only [Act.put]
    try simp only [List.setIfInBounds_toArray]
    try simp only [List.set_cons_succ]
    try simp only [List.set_cons_zero]
    refine wpAnyH_done (by kernel_rfl) ?_ _
    obtain ⟨x0, x1, x2, x3⟩ := (X0.out.after L2.out).cells4
    obtain ⟨r0, r1, r2⟩ := (R0.out.after L2.out).cells3
    go_wp2_with fail
    refine (HAD.out w2 B2.out).mono ?_
    rintro e w3 ⟨g, cap', ps3, rfl, hp3, ho3, hb3, hM3⟩
    have hs2 := L2.out.size
    have X3 := hide_it ((X0.out.after L2.out).mid hM3 (Or.inr hhi))
    have Z3 := hide_it ((Z0.out.after L2.out).mid hM3 (Or.inr (by omega)))
    have O3 := hide_it ho3
    have P3 := hide_it hp3
    have B3 : Hid (Below lo w w3) := (B2.out.mono hlo).trans hb3
    have hs3 : w2.heap.size ≤ w3.heap.size := hM3.size
    obtain ⟨NN, hNN⟩ : ∃ q, Hid ((rs ++ [r]).length = q) := ⟨_, rfl⟩
    rw [hNN.out] at O3 ⊢
    clear hp3 ho3 hb3 hM3 x0 x1 x2 x3 r0 r1 r2
    have hxl := X3.out.lt
    have hzl := Z3.out.lt
    obtain ⟨x0, x1, x2, x3⟩ := X3.out.cells4
    obtain ⟨xf0, xf1, xf2, xf3⟩ := X3.out.free4
    obtain ⟨z0, z1, z2, z3⟩ := Z3.out.cells4
    obtain ⟨zf0, zf1, zf2, zf3⟩ := Z3.out.free4
    have k0 := fun x => cellAlloc x0 x
    have k1 := fun x => cellAlloc x1 x
    have k2 := fun x => cellAlloc x2 x
    have k3 := fun x => cellAlloc x3 x
    have p1 := fun x => frozenAlloc xf1 hxl x
    have p2 := fun x => frozenAlloc xf2 hxl x
    have m0 := fun x => cellAlloc z0 x
    have m1 := fun x => cellAlloc z1 x
    have m2 := fun x => cellAlloc z2 x
    have m3 := fun x => cellAlloc z3 x
    have n0 := fun x => frozenAlloc zf0 hzl x
    have n1 := fun x => frozenAlloc zf1 hzl x
    have n2 := fun x => frozenAlloc zf2 hzl x
    have n3 := fun x => frozenAlloc zf3 hzl x
    go_wp2
    refine bodyPost_ret (v := .tuple #[deskV true (.slice (some ⟨g, 0, none⟩) NN cap') f (.slice au ws.length cu), .bool true]) (by simp [results, Tryz.results26, go_sem, *]) rfl ?_
    refine Or.inr ⟨by rw [HD.out]; rfl, ?_, some ⟨g, 0, none⟩, cap', ps3, by rw [hNN.out], P3.out, ?_⟩
    · clear k0 k1 k2 k3 p1 p2 m0 m1 m2 m3 n0 n1 n2 n3 x0 x1 x2 x3 xf0 xf1 xf2 xf3 z0 z1 z2 z3 zf0 zf1 zf2 zf3
      refine Below.alloc ?_ (by simp; omega) _
      iterate 4 (refine Below.setCell ?_ (show lo ≤ w.heap.size + 1 + 1 by omega) _)
      iterate 2 (refine Below.setCell ?_ (show lo ≤ w.heap.size by omega) _)
      exact B3.out
    · clear k0 k1 k2 k3 p1 p2 m0 m1 m2 m3 n0 n1 n2 n3 x0 x1 x2 x3 xf0 xf1 xf2 xf3 z0 z1 z2 z3 zf0 zf1 zf2 zf3
      rw [hNN.out]
      have e1 := O3.out.setB (j := 1) X3.out (by decide) (by decide) (by decide) (.slice (some ⟨g, 0, none⟩) NN cap')
      have e2 := e1.setB (j := 2) (X3.out.set_ 1 _) (by decide) (by decide) (by decide) (.int .i64 f)
      have Y2 := (Z3.out.other (a := ⟨w.heap.size, 1, none⟩) (by simp; omega) (.slice (some ⟨g, 0, none⟩) NN cap')).other (a := ⟨w.heap.size, 2, none⟩) (by simp; omega) (.int .i64 f)
      have f0 := e2.setB (j := 0) Y2 (by decide) (by decide) (by decide) (.bool true)
      have f1 := f0.setB (j := 1) (Y2.set_ 0 _) (by decide) (by decide) (by decide) (.slice (some ⟨g, 0, none⟩) NN cap')
      have f2 := f1.setB (j := 2) ((Y2.set_ 0 _).set_ 1 _) (by decide) (by decide) (by decide) (.int .i64 f)
      have f3 := f2.setB (j := 3) (((Y2.set_ 0 _).set_ 1 _).set_ 2 _) (by decide) (by decide) (by decide) (.slice au ws.length cu)
      exact DkTy.hi (f3.below (alloc_below _ _) (by simp)) (by simp) (Nat.le_refl _)

end Go.Proofs.YtogfpnenoeonoabGreatDoor

namespace Go.Proofs.YtogfpnenoeonoabGreatDoor
open Go.RowKit

theorem recOk_lenD {k t : Int} {zs : List Int} (h : Pl.recOk k t zs = true) : zs.length ≤ 3 := by
  simp only [Pl.recOk, Bool.and_eq_true] at h
  have h2 := h.2
  split at h2
  · simp only [Pl.holdOk, Bool.and_eq_true, beq_iff_eq] at h2; omega
  · split at h2
    · simp only [Pl.manyOk, Bool.and_eq_true, beq_iff_eq] at h2; omega
    · simp only [Bool.and_eq_true, beq_iff_eq] at h2; omega
theorem pre_okD (rs : List R) (h : rs.all rOk = true) : (rs.map fun r => r.2.2.length).sum ≤ 3 * rs.length := by
  induction rs with
  | nil => simp
  | cons r t ih =>
    simp only [List.all_cons, Bool.and_eq_true] at h
    have h1 := ih h.2
    have h2 := recOk_lenD h.1
    simp only [List.map_cons, List.sum_cons, List.length_cons]
    omega
theorem dkAsk_tot (up : Bool) (rs : List R) (f : Int) (ws : List Wd) (r : R) (hl : tot rs ≤ 1048576) (hlw : ws.length ≤ 1048576) (hr : r.2.2.length ≤ 3) : tot (dkAsk up rs f ws r).1.2.1 ≤ 1048576 ∧ (dkAsk up rs f ws r).1.2.2.2.length ≤ 1048576 := by
  unfold dkAsk
  split
  · next h =>
    have h18 := T.runT_room (run_some h.1)
    split
    · refine ⟨?_, hlw⟩
      have hall : rs.all rOk = true := by
        have := dkOk_log h.1
        unfold logOk at this
        simp only [Bool.and_eq_true] at this
        exact this.1
      have h3 := pre_okD rs hall
      show tot (rs ++ [r]) ≤ 1048576
      unfold tot pre
      rw [List.take_length]
      simp
      omega
    · exact ⟨hl, hlw⟩
  · simp [dkZ, tot, pre]
theorem rOk_give (trip : Int) : rOk ((6, trip, []) : R) = Pl.inB trip 1 6 := by
  unfold rOk Pl.recOk
  cases Pl.inB trip 1 6 <;> rfl

set_option maxHeartbeats 8000000 in
set_option maxRecDepth 20000 in
theorem specDGive_any (up : Bool) (v u : Value) (rs : List R) (f : Int) (ws : List Wd) (trip : Int) (w : World) (hv : DkIn w v u rs ws) (hl : tot rs ≤ 1048576) (hlw : ws.length ≤ 1048576) :
    Calls Tryz.prog 16 #[deskV up v f u, .int .i64 trip] w fun e w' => DkO2 w w' e (dkAsk up rs f ws (6, trip, [])) := by
  have hrl := tot_len rs
  have HV : Hid (∀ W, Below w.heap.size w W → DkIn W v u rs ws) := fun W h => hv.later h (Nat.le_refl _)
  have HOK : Hid (∀ W, Below w.heap.size w W → Calls Tryz.prog 24 #[deskV up v f u] W fun e w' => e = .returned (.bool (dkOk up rs f ws)) ∧ Below W.heap.size W w') := fun W h =>
    specDeskOk_any up v u rs f ws W (HV.out W h).1 hl hlw hv.2.2
  obtain ⟨av, cv, au, cu, rfl, rfl⟩ := hv.1.shape
  clear hv
  obtain ⟨w0, hw0⟩ : ∃ W, Hid (W = (w.alloc (.cells #[.bool up, .slice av rs.length cv, .int .i64 f, .slice au ws.length cu] 35)).alloc (.cells #[.bool false, .slice none 0 0, .int .i64 0, .slice none 0 0] 35)) := ⟨_, rfl⟩
  have B0 : Hid (Below w.heap.size w w0) := by show Below _ _ _; rw [hw0.out]; exact below2 _ _ _
  have X0 : Hid (Blk w0 w.heap.size #[.bool up, .slice av rs.length cv, .int .i64 f, .slice au ws.length cu] 35) := by show Blk _ _ _ _; rw [hw0.out]; exact (Blk.new _ _ _).alloc _
  have Z0 : Hid (Blk w0 (w.heap.size + 1) #[.bool false, .slice none 0 0, .int .i64 0, .slice none 0 0] 35) := by show Blk _ _ _ _; rw [hw0.out]; exact Blk.new2 _ _ _ _
  have hs0 : w0.heap.size = w.heap.size + 2 := by rw [hw0.out, size2]
  obtain ⟨II, hII⟩ : ∃ q, Pl.inB trip 1 6 = q := ⟨_, rfl⟩
  have HI : Hid (∀ W, Calls Tryz.prog 38 #[.int .i64 trip, .int .i64 1, .int .i64 6] W fun e w' => e = .returned (.bool II) ∧ w' = W) := fun W => by rw [← hII]; exact in_any trip 1 6 W
  have HRK : Hid (rOk ((6, trip, []) : R) = II) := (rOk_give trip).trans hII
  clear hII
  obtain ⟨KK, hKK⟩ : ∃ q, Hid (dkOk up rs f ws = q) := ⟨_, rfl⟩
  rw [hKK.out] at HOK
  go_enter Tryz.func16, Tryz.ntmps16
  go_wp2_with fail
  rw [← hw0.out]
  refine (HOK.out _ B0.out).mono ?_
  rintro e w1 ⟨rfl, hb1⟩
  have X1 := hide_it (X0.out.after hb1)
  have Z1 := hide_it (Z0.out.after hb1)
  have B1 := hide_it (B0.out.trans (hb1.mono B0.out.size))
  have hs1 : w.heap.size + 2 ≤ w1.heap.size := by have := hb1.size; omega
  clear hb1
  obtain ⟨z0, z1, z2, z3⟩ := Z1.out.cells4
  obtain ⟨zf0, zf1, zf2, zf3⟩ := Z1.out.free4
  cases KK
  · have HR : Hid (dkAsk up rs f ws (6, trip, []) = (dkZ, false)) := by show _ = _; simp [dkAsk, hKK.out]
    go_wp2
    refine bodyPost_ret (v := .tuple #[deskV false (.slice none 0 0) 0 (.slice none 0 0), .bool false]) (by simp [results, Tryz.results16, go_sem, *]) rfl ?_
    rw [HR.out]
    refine DkO2.none_ ?_
    iterate 4 (refine Below.setCell ?_ (by first | (simp; done) | (simp; omega)) _)
    exact B1.out
  go_wp2_with fail
  refine (HI.out _).mono ?_
  rintro e w1' ⟨rfl, rfl⟩
  cases II
  · have HR : Hid (dkAsk up rs f ws (6, trip, []) = (dkZ, false)) := by show _ = _; simp [dkAsk, HRK.out]
    go_wp2
    refine bodyPost_ret (v := .tuple #[deskV false (.slice none 0 0) 0 (.slice none 0 0), .bool false]) (by simp [results, Tryz.results16, go_sem, *]) rfl ?_
    rw [HR.out]
    refine DkO2.none_ ?_
    iterate 4 (refine Below.setCell ?_ (by first | (simp; done) | (simp; omega)) _)
    exact B1.out
  obtain ⟨x0, x1, x2, x3⟩ := X1.out.cells4
  go_wp2_with fail
  refine (l13Copy_any up _ _ rs f ws _ (HV.out _ B1.out).1 hl hlw).mono ?_
  rintro e w2 ⟨ao, cap, a2, c2, ps, rfl, hp2, ho2, hb2⟩
  have Z2 := hide_it (Z1.out.after hb2)
  have B2 := hide_it (B1.out.trans (hb2.mono B1.out.size))
  have P2 := hide_it hp2
  have S12 := hide_it hb2.size
  obtain ⟨w3, hw3⟩ : ∃ W, Hid (W = w2.alloc (.cells #[] 3)) := ⟨_, rfl⟩
  have L3 : Hid (Below w2.heap.size w2 w3) := by show Below _ _ _; rw [hw3.out]; exact alloc_below _ _
  have O3 := hide_it (ho2.below L3.out (Nat.le_refl _))
  have Z3 := hide_it (Z2.out.after L3.out)
  have B3 := hide_it (B2.out.trans (L3.out.mono B2.out.size))
  have X3 : w3.ownsRow w2.heap.size 3 1 (.slice (some ⟨w2.heap.size, 0, none⟩) ([] : List Int).length 0) ([] : List Int).length (([] : List Int).map (Value.int .i64)) := by rw [hw3.out]; exact T.lit0 w2 _ _
  have hs3 : w2.heap.size + 1 = w3.heap.size := by rw [hw3.out]; simp
  have HW := hide_it (l13Write_any up _ f _ ps rs ws (6, trip, []) (some ⟨w2.heap.size, 0, none⟩) 0 _ w2.heap.size w3 O3.out hp2 (by have := S12.out; omega) S12.out hl X3 hKK.out HRK.out)
  have hs2 : w.heap.size + 2 ≤ w2.heap.size := by have := S12.out; omega
  clear hb2 hp2 ho2 x0 x1 x2 x3 z0 z1 z2 z3 zf0 zf1 zf2 zf3 X3
  go_wp2_with fail
  rw [← hw3.out]
  refine HW.out.mono ?_
  rintro e w4 ho4
  rcases ho4 with ⟨hd, rfl, hb4⟩ | ⟨hd, hb4, a3, c3, ps3, rfl, hp3, ho3⟩
  · have HR : Hid (dkAsk up rs f ws (6, trip, []) = ((up, rs, f, ws), false)) := by show _ = _; simp [dkAsk, HRK.out, hd, hKK.out]
    have B4 := hide_it (B3.out.trans (hb4.mono B3.out.size))
    have O4 := hide_it (O3.out.below hb4 (by omega))
    have hs4 := hb4.size
    obtain ⟨z0, z1, z2, z3⟩ := (Z3.out.after hb4).cells4
    obtain ⟨zf0, zf1, zf2, zf3⟩ := (Z3.out.after hb4).free4
    have S12' := S12.out
    clear hd hb4
    go_wp2
    refine bodyPost_ret (v := .tuple #[deskV up (.slice ao rs.length cap) f (.slice a2 ws.length c2), .bool false]) (by simp [results, Tryz.results16, go_sem, *]) rfl ?_
    rw [HR.out]
    refine ⟨ao, cap, a2, c2, ps, rfl, P2.out, ?_, ?_⟩
    · refine DkOwn.ty (DkOwn.lo ?_ (show w.heap.size ≤ w1'.heap.size by omega))
      iterate 4 (refine DkOwn.setBelow ?_ (by omega) _)
      simpa using O4.out.hi (by omega) (Nat.le_refl _)
    · iterate 4 (refine Below.setCell ?_ (by first | (simp; done) | (simp; omega)) _)
      exact B4.out
  · have HR : Hid (dkAsk up rs f ws (6, trip, []) = ((up, rs ++ [(6, trip, [])], f, ws), true)) := by show _ = _; simp [dkAsk, HRK.out, hd, hKK.out]
    have S12' := S12.out
    have B4 : Hid (Below w.heap.size w w4) := B3.out.trans (hb4.mono (by omega))
    have O4 := hide_it ho3
    have P3 := hide_it hp3
    have Z4 := hide_it (Z3.out.later hb4 (by omega))
    obtain ⟨z0, z1, z2, z3⟩ := Z4.out.cells4
    obtain ⟨zf0, zf1, zf2, zf3⟩ := Z4.out.free4
    have hzz := Z4.out.lt
    clear hd hb4 hp3 ho3
    go_wp2
    refine bodyPost_ret (v := .tuple #[deskV up (.slice a3 (rs ++ [(6, trip, [])]).length c3) f (.slice a2 ws.length c2), .bool true]) (by simp [results, Tryz.results16, go_sem, *]) rfl ?_
    rw [HR.out]
    refine ⟨a3, c3, a2, c2, ps3, rfl, P3.out, ?_, ?_⟩
    · have e0 := O4.out.setB (j := 0) Z4.out (by decide) (by decide) (by decide) (.bool up)
      have e1 := e0.setB (j := 1) (Z4.out.set_ 0 _) (by decide) (by decide) (by decide) (.slice a3 (rs ++ [(6, trip, [])]).length c3)
      have e2 := e1.setB (j := 2) ((Z4.out.set_ 0 _).set_ 1 _) (by decide) (by decide) (by decide) (.int .i64 f)
      have e3 := e2.setB (j := 3) (((Z4.out.set_ 0 _).set_ 1 _).set_ 2 _) (by decide) (by decide) (by decide) (.slice a2 ws.length c2)
      have e4 := (e3.hi (hi' := w4.heap.size) (Nat.le_refl _) (by simp)).lo (show w.heap.size ≤ w1'.heap.size by omega)
      simpa using e4
    · iterate 4 (refine Below.setCell ?_ (by first | (simp; done) | (simp; omega)) _)
      exact B4.out

end Go.Proofs.YtogfpnenoeonoabGreatDoor

namespace Go.Proofs.YtogfpnenoeonoabGreatDoor
open Go.RowKit

set_option maxHeartbeats 1000000 in
theorem lawDGive_great (up : Bool) (v u : Value) (rs : List R) (f : Int) (ws : List Wd) (trip : Int) (w : World) (hv : DkAt w v u rs ws) (hl : (rs.length : Int) ≤ 9223372036854775807) (hls : ∀ r ∈ rs, (r.2.2.length : Int) ≤ 9223372036854775807) (hlw : (ws.length : Int) ≤ 9223372036854775807) (hg : 1048576 < ((tot rs + ws.length : Nat) : Int)) :
    Calls Tryz.prog 4 #[deskV up v f u, .int .i64 trip] w fun e w' => e = .returned (.bool true) ∧ Below w.heap.size w w' := by
  have HS : Hid (∀ o, Calls Tryz.prog 6 #[deskV up v f u, .int .i64 1048576] (w.alloc o) fun e w' => e = .returned (.int .i64 (-1)) ∧ Below (w.alloc o).heap.size (w.alloc o) w') := fun o => by
    have := szDesk_any up v u rs f ws 1048576 (w.alloc o) (hv.later (alloc_below w o) (Nat.le_refl _)) hl hls hlw (by omega) (by omega)
    rw [leftOf_neg (by omega)] at this
    exact this
  obtain ⟨av, cv, au, cu, rfl, rfl⟩ := hv.shape
  clear hv hl hls hg hlw
  go_enter Tryz.func4, Tryz.ntmps4
  go_wp2_with (go_at_call 6; refine (HS.out _).mono ?_; rintro e w1 ⟨rfl, hb⟩)
  go_ret
  exact ⟨rfl, below_after (by assumption)⟩

set_option maxHeartbeats 8000000 in
theorem lawDGive_small (up : Bool) (v u : Value) (rs : List R) (f : Int) (ws : List Wd) (trip : Int) (a : Addr) (w : World) (hv : DkAt w v u rs ws) (ha : ErrAt w a) (hlt : tot rs + ws.length ≤ 1048576) :
    Calls Tryz.prog 4 #[deskV up v f u, .int .i64 trip] w fun e w' => e = .returned (.bool true) ∧ Below w.heap.size w w' := by
  have hrl := tot_len rs
  have hl : tot rs ≤ 1048576 := by omega
  have hlw : ws.length ≤ 1048576 := by omega
  have HS : Hid (∀ o, Calls Tryz.prog 6 #[deskV up v f u, .int .i64 1048576] (w.alloc o) fun e w' => e = .returned (.int .i64 (1048576 - ((tot rs + ws.length : Nat) : Int))) ∧ Below (w.alloc o).heap.size (w.alloc o) w') := fun o => by
    have := szDesk_any up v u rs f ws 1048576 (w.alloc o) (hv.later (alloc_below w o) (Nat.le_refl _)) (by omega) (fun r hr => by have := tot_mem rs r hr; omega) (by omega) (by omega) (by omega)
    rw [leftOf_pos (by omega)] at this
    exact this
  obtain ⟨TT, hTT⟩ : ∃ x, tot rs + ws.length = x := ⟨_, rfl⟩
  rw [hTT] at HS hlt
  clear hTT
  have HV : Hid (∀ W, Below w.heap.size w W → DkAt W v u rs ws) := fun W h => hv.later h (Nat.le_refl _)
  have HA : Hid (∀ W, Below w.heap.size w W → ErrAt W a) := fun W h => ha.later h (Nat.le_refl _)
  obtain ⟨av, cv, au, cu, hvs, hus⟩ := hv.shape
  have H0 : Hid (Blk (w.alloc (.cells #[.bool up, v, .int .i64 f, u] 27)) w.heap.size #[.bool up, v, .int .i64 f, u] 27) := Blk.new _ _ _
  clear hv ha
  subst hvs hus
  -- what comes out
  obtain ⟨⟨⟨UP, RS, F, WS⟩, BB⟩, hO⟩ : ∃ o : Dk × Bool, Hid (dkAsk up rs f ws (6, trip, []) = o) := ⟨_, rfl⟩
  have hRl : tot RS ≤ 1048576 ∧ WS.length ≤ 1048576 := by have := dkAsk_tot up rs f ws (6, trip, []) hl hlw (by simp); rw [hO.out] at this; exact this
  obtain ⟨hRl, hWl⟩ := hRl
  have HSP : Hid (∀ (x y : Value) (W : World), DkIn W x y rs ws → Calls Tryz.prog 16 #[deskV up x f y, .int .i64 trip] W fun e w' => DkOut2 W w' e UP RS F WS BB) := fun x y W h => by
    have := specDGive_any up x y rs f ws trip W h hl hlw; rw [hO.out] at this; exact this
  have HIM : Hid (∀ (x y : Value) (W : World), DkIn W x y rs ws → ErrAt W a → Calls Tryz.prog 17 #[deskV up x f y, .int .i64 trip] W fun e w' => DkOut2 W w' e UP RS F WS BB) := fun x y W h h2 => by
    have := implDGive_any up x y rs f ws trip a W h hl hlw h2; rw [hO.out] at this; exact this
  have HKO : Hid (0 ≤ kDk RS 1 WS.length ∧ kDk RS 1 WS.length ≤ 1000000000) := by
    have := kAt_bd RS 1 RS.length (Nat.le_refl _) hRl (by omega) (by omega)
    constructor <;> (unfold kDk; omega)
  have HKX : Hid (0 ≤ kDk rs 1 ws.length ∧ kDk rs 1 ws.length ≤ 1000000000) := by
    have := kAt_bd rs 1 rs.length (Nat.le_refl _) hl (by omega) (by omega)
    constructor <;> (unfold kDk; omega)
  obtain ⟨KO, hKO⟩ : ∃ x, Hid (kDk RS 1 WS.length = x) := ⟨_, rfl⟩
  obtain ⟨KX, hKX⟩ : ∃ x, Hid (kDk rs 1 ws.length = x) := ⟨_, rfl⟩
  obtain ⟨hko0, hko1⟩ := HKO.out
  obtain ⟨hkx0, hkx1⟩ := HKX.out
  rw [hKO.out] at hko0 hko1
  rw [hKX.out] at hkx0 hkx1
  have hbb : (BB != BB) = false := by simp
  have hbb2 : (BB == BB) = true := by simp
  go_enter Tryz.func4, Tryz.ntmps4
  -- how great it is
  go_wp2_with fail
  refine (HS.out _).mono ?_
  rintro e w1 ⟨rfl, hb1⟩
  have B1 := hide_it (below_after hb1)
  have T1 := hide_it (H0.out.after hb1)
  have hz1 : w.heap.size ≤ w1.heap.size := B1.out.size
  clear hb1
  obtain ⟨c0, c1, c2, c3⟩ := T1.out.cells4
  -- w0
  go_wp2_with fail
  refine (toDesk_any up _ _ rs f ws w1 (HV.out _ B1.out) hl hlw).mono ?_
  rintro e w2 ⟨a2, cap2, b2, dap2, ps2, rfl, hp2, ho2, hb2⟩
  have B2 := hide_it (B1.out.trans (hb2.mono hz1))
  have T2 := hide_it (T1.out.after hb2)
  have V2 := hide_it (ho2.in_ hp2)
  have hz2 : w.heap.size ≤ w2.heap.size := B2.out.size
  clear hb2 ho2 hp2 c0 c1 c2 c3
  go_wp2_with fail
  refine (HSP.out _ _ w2 V2.out).mono ?_
  rintro e w3 ⟨a3, cap3, b3, dap3, ps3, rfl, hp3, ho3, hb3⟩
  have B3 := hide_it (B2.out.trans (hb3.mono hz2))
  have T3 := hide_it (T2.out.after hb3)
  have V3 := hide_it (ho3.at' hp3)
  have hz3 : w.heap.size ≤ w3.heap.size := B3.out.size
  clear hb3 ho3 hp3
  -- x0
  obtain ⟨c0, c1, c2, c3⟩ := T3.out.cells4
  have k0 := fun x => cellAlloc c0 x
  have k1 := fun x => cellAlloc c1 x
  have k2 := fun x => cellAlloc c2 x
  have k3 := fun x => cellAlloc c3 x
  have hws3 : w.heap.size < w3.heap.size := T3.out.lt
  obtain ⟨w4, hw4⟩ : ∃ W, Hid (W = w3.alloc (.cells #[.bool UP, (.slice a3 RS.length cap3), .int .i64 F, (.slice b3 WS.length dap3)] 35)) := ⟨_, rfl⟩
  go_wp2_with fail
  rw [← hw4.out]
  have al4 := hide_it (show Below w3.heap.size w3 w4 by rw [hw4.out]; exact alloc_below _ _)
  have B4 := hide_it (B3.out.trans (al4.out.mono hz3))
  have T4 := hide_it (T3.out.after al4.out)
  have V4 := hide_it (V3.out.later al4.out (Nat.le_refl _))
  have Z4 : Hid (Blk w4 w3.heap.size #[.bool UP, (.slice a3 RS.length cap3), .int .i64 F, (.slice b3 WS.length dap3)] 35) := by show Blk _ _ _ _; rw [hw4.out]; exact Blk.new _ _ _
  clear k0 k1 k2 k3 c0 c1 c2 c3
  refine (toDesk_any up _ _ rs f ws w4 (HV.out _ B4.out) hl hlw).mono ?_
  rintro e w5 ⟨a5, cap5, b5, dap5, ps5, rfl, hp5, ho5, hb5⟩
  have HP5 := hide_it hp5
  have O5 := hide_it ho5
  have E5 := hide_it hb5
  clear hp5 ho5 hb5
  -- g0
  obtain ⟨w6, hw6⟩ : ∃ W, Hid (W = w5.alloc (.cells #[.bool up, (.slice a5 rs.length cap5), .int .i64 f, (.slice b5 ws.length dap5)] 35)) := ⟨_, rfl⟩
  go_wp2_with fail
  rw [← hw6.out]
  have al6 := hide_it (show Below w5.heap.size w5 w6 by rw [hw6.out]; exact alloc_below _ _)
  have HS6 := hide_it (show w6.heap.size = w5.heap.size + 1 by rw [hw6.out]; simp)
  have E6 := hide_it (E5.out.trans (al6.out.mono E5.out.size))
  have O6 := hide_it (O5.out.below al6.out (Nat.le_refl _))
  have X6 : Hid (Blk w6 w5.heap.size #[.bool up, (.slice a5 rs.length cap5), .int .i64 f, (.slice b5 ws.length dap5)] 35) := by show Blk _ _ _ _; rw [hw6.out]; exact Blk.new _ _ _
  have hz4 : w.heap.size ≤ w4.heap.size := B4.out.size
  have B6 := hide_it (B4.out.trans (E6.out.mono hz4))
  refine (HIM.out _ _ w6 (O6.out.in_ HP5.out) (HA.out _ B6.out)).mono ?_
  rintro e w7 ⟨a7, cap7, b7, dap7, ps7, rfl, hp7, ho7, hb7⟩
  have HP7 := hide_it hp7
  have O7 := hide_it ho7
  have X7 := hide_it (X6.out.after hb7)
  have O7x := hide_it (O6.out.below hb7 (by have := HS6.out; omega))
  have E7 := hide_it (E6.out.trans (hb7.mono E6.out.size))
  have HS7 := hide_it hb7.size
  clear hp7 ho7 hb7
  obtain ⟨w8, hw8⟩ : ∃ W, Hid (W = w7.alloc (.cells #[.bool UP, (.slice a7 RS.length cap7), .int .i64 F, (.slice b7 WS.length dap7)] 35)) := ⟨_, rfl⟩
  have Z7 := hide_it (Z4.out.after E7.out)
  obtain ⟨z0, z1, z2, z3⟩ := Z7.out.cells4
  have k0 := fun x => cellAlloc z0 x
  have k1 := fun x => cellAlloc z1 x
  have k2 := fun x => cellAlloc z2 x
  have k3 := fun x => cellAlloc z3 x
  have hlt37 : w3.heap.size < w7.heap.size := Z7.out.lt
  go_wp2_with fail
  rw [← hw8.out]
  have al8 := hide_it (show Below w7.heap.size w7 w8 by rw [hw8.out]; exact alloc_below _ _)
  have HS8 := hide_it (show w8.heap.size = w7.heap.size + 1 by rw [hw8.out]; simp)
  have E8 := hide_it (E7.out.trans (al8.out.mono E7.out.size))
  have O8 := hide_it (O7.out.below al8.out (Nat.le_refl _))
  have O8x := hide_it (O7x.out.below al8.out (by have := HS6.out; have := HS7.out; omega))
  have X8 := hide_it (X7.out.after al8.out)
  have G8 : Hid (Blk w8 w7.heap.size #[.bool UP, (.slice a7 RS.length cap7), .int .i64 F, (.slice b7 WS.length dap7)] 35) := by show Blk _ _ _ _; rw [hw8.out]; exact Blk.new _ _ _
  have R8 := hide_it (O8.out.at' HP7.out)
  have V8 := hide_it (V4.out.later E8.out (Nat.le_refl _))
  clear k0 k1 k2 k3 z0 z1 z2 z3
  refine (eqDesk_any UP _ _ _ _ RS F WS w8 R8.out V8.out hRl hWl).mono ?_
  rintro e w9 ⟨rfl, hb9⟩
  have E9 := hide_it (E8.out.trans (hb9.mono E8.out.size))
  have O9 := hide_it (O8.out.below hb9 (by have := HS8.out; omega))
  have O9x := hide_it (O8x.out.below hb9 (by have := HS6.out; have := HS7.out; have := HS8.out; omega))
  have X9 := hide_it (X8.out.after hb9)
  have G9 := hide_it (G8.out.after hb9)
  have T9 := hide_it (T4.out.after E9.out)
  have HS9 := hide_it hb9.size
  have hz9 : w.heap.size ≤ w9.heap.size := Nat.le_trans hz4 E9.out.size
  have B9 := hide_it (B4.out.trans (E9.out.mono hz4))
  have R9x := hide_it (O9x.out.at' HP5.out)
  clear hb9
  obtain ⟨c0, c1, c2, c3⟩ := T9.out.cells4
  obtain ⟨x0, x1, x2, x3⟩ := X9.out.cells4
  go_wp2_with fail
  go_region_held (fun w' => (w'.cell? ⟨w5.heap.size, 0, none⟩ = some (.bool up) ∧ w'.cell? ⟨w5.heap.size, 1, none⟩ = some (.slice a5 rs.length cap5) ∧ w'.cell? ⟨w5.heap.size, 2, none⟩ = some (.int .i64 f) ∧ w'.cell? ⟨w5.heap.size, 3, none⟩ = some (.slice b5 ws.length dap5)) ∧ (w'.cell? ⟨w.heap.size, 0, none⟩ = some (.bool up) ∧ w'.cell? ⟨w.heap.size, 1, none⟩ = some (.slice av rs.length cv) ∧ w'.cell? ⟨w.heap.size, 2, none⟩ = some (.int .i64 f) ∧ w'.cell? ⟨w.heap.size, 3, none⟩ = some (.slice au ws.length cu))) (go_keep)
    (first
    | (go_at_call 8; refine (toDesk_any up _ _ rs f ws _ ?_ hl hlw).mono ?_; exact (HV.out _ B9.out.drew); rintro e w10 ⟨a10, cap10, b10, dap10, ps10, rfl, hp10, ho10, hb10⟩; have hb10' := (Below.refl w9.heap.size w9).drew.trans hb10; have L10 := hide_it hb10'; have y10 := R9x.out.later hb10' (Nat.le_refl _); have v10 := ho10.at' hp10; obtain ⟨x100, x101, x102, x103⟩ := (X9.out.after hb10').cells4; obtain ⟨c100, c101, c102, c103⟩ := (T9.out.after hb10').cells4; clear hb10 hb10' hp10 ho10)
    | (go_at_call 11; refine (eqDesk_any up _ _ _ _ rs f ws _ ?_ ?_ hl hlw).mono ?_; assumption; assumption; rintro e w11 ⟨rfl, hb11⟩; have L11 := hide_it (L10.out.trans (hb11.mono L10.out.size)); obtain ⟨x110, x111, x112, x113⟩ := (X9.out.after L11.out).cells4; obtain ⟨c110, c111, c112, c113⟩ := (T9.out.after L11.out).cells4; clear hb11))
  clear c0 c1 c2 c3 x0 x1 x2 x3
  -- x0 is marked
  have hl5 : ps5.length = rs.length := by have := congrArg List.length HP5.out; simpa using this
  have hl7 : ps7.length = RS.length := by have := congrArg List.length HP7.out; simpa using this
  have HL5 := hide_it hl5
  have HL7 := hide_it hl7
  have h56 : w5.heap.size + 1 = w6.heap.size := HS6.out.symm
  have h67 : w6.heap.size ≤ w7.heap.size := HS7.out
  have h78 : w7.heap.size + 1 = w8.heap.size := HS8.out.symm
  have h89 : w8.heap.size ≤ w9.heap.size := HS9.out
  have h45 : w4.heap.size ≤ w5.heap.size := E5.out.size
  have SZ := hide_it (show w5.heap.size < w6.heap.size ∧ w6.heap.size ≤ w7.heap.size ∧ w7.heap.size < w8.heap.size ∧ w8.heap.size ≤ w9.heap.size ∧ w4.heap.size ≤ w5.heap.size by omega)
  clear hl5 hl7 h56 h67 h78 h89 h45
  have E11 := hide_it (E9.out.trans (L11.out.mono E9.out.size))
  have O11x := hide_it (O9x.out.below L11.out (by have := SZ.out; omega))
  have O11 := hide_it (O9.out.below L11.out (by have := SZ.out; omega))
  have G11 := hide_it (G9.out.after L11.out)
  have hmk : Calls Tryz.prog 13 #[deskV up (.slice a5 rs.length cap5) f (.slice b5 ws.length dap5), .int .i64 1] w11 fun e w' => e = .returned (.int .i64 KX) ∧ Mid w4.heap.size w5.heap.size w11 w' := by
    have h := markDesk_any up (.slice a5 rs.length cap5) (.slice b5 ws.length dap5) ps5 f ws 1 w4.heap.size w5.heap.size w11 O11x.out (by rw [HP5.out]; exact hl) hlw (by omega) (by omega)
    rw [HP5.out, hKX.out] at h
    exact h.mono fun e w' h => ⟨h.1, h.2.2⟩
  have HMK := hide_it hmk
  clear hmk
  go_wp2_with fail
  refine HMK.out.mono ?_
  rintro e w12 ⟨rfl, hM12⟩
  have E12 := hide_it (E11.out.trans (hM12.below (Nat.le_refl _) E11.out.size))
  have O12 := hide_it (O11.out.mid hM12 (by have := SZ.out; omega))
  have G12 := hide_it (G11.out.mid hM12 (Or.inr (by have := SZ.out; omega)))
  have Z12 := hide_it (Z4.out.after E12.out)
  have V12 := hide_it (V4.out.later E12.out (Nat.le_refl _))
  have HS12 := hide_it (show w9.heap.size ≤ w12.heap.size from Nat.le_trans L11.out.size hM12.size)
  have R12 := hide_it (O12.out.at' HP7.out)
  clear hM12
  obtain ⟨g0, g1, g2, g3⟩ := G12.out.cells4
  obtain ⟨z0, z1, z2, z3⟩ := Z12.out.cells4
  go_wp2_with fail
  refine (eqDesk_any UP _ _ _ _ RS F WS w12 R12.out V12.out hRl hWl).mono ?_
  rintro e w13 ⟨rfl, hb13⟩
  have E13 := hide_it (E12.out.trans (hb13.mono E12.out.size))
  have O13 := hide_it (O12.out.below hb13 (by have := SZ.out; have := HS12.out; omega))
  have G13 := hide_it (G12.out.after hb13)
  have HS13 := hide_it hb13.size
  clear hb13 g0 g1 g2 g3 z0 z1 z2 z3
  -- g0 is marked, and held
  have hmk : Calls Tryz.prog 13 #[deskV UP (.slice a7 RS.length cap7) F (.slice b7 WS.length dap7), .int .i64 1] w13 fun e w' => e = .returned (.int .i64 KO) ∧ DkAt w' (.slice a7 RS.length cap7) (.slice b7 WS.length dap7) (markAll RS 1) (markW WS.length (kAt RS 1 RS.length)) ∧ Mid w6.heap.size w7.heap.size w13 w' := by
    have h := markDeskT_any UP (.slice a7 RS.length cap7) (.slice b7 WS.length dap7) ps7 F WS 1 w6.heap.size w7.heap.size w13 O13.out (by rw [HP7.out]; exact hRl) hWl (by omega) (by omega)
    rw [HP7.out, HL7.out, hKO.out] at h
    exact h
  have HMK2 := hide_it hmk
  clear hmk
  obtain ⟨g0, g1, g2, g3⟩ := G13.out.cells4
  go_wp2_with fail
  refine HMK2.out.mono ?_
  rintro e w14 ⟨rfl, hR14, hM14⟩
  have E14 := hide_it (E13.out.trans (hM14.below (show w4.heap.size ≤ w6.heap.size by have := SZ.out; omega) E13.out.size))
  have G14 := hide_it (G13.out.mid hM14 (Or.inr (Nat.le_refl _)))
  have R14 := hide_it hR14
  have HLD : Hid (∀ W, DkAt W (.slice a7 RS.length cap7) (.slice b7 WS.length dap7) (markAll RS 1) (markW WS.length (kAt RS 1 RS.length)) → Calls Tryz.prog 15 #[deskV UP (.slice a7 RS.length cap7) F (.slice b7 WS.length dap7), .int .i64 1] W fun e w' => e = .returned (.int .i64 KO) ∧ Below W.heap.size W w') := fun W h => by
    have := heldDesk_any UP (.slice a7 RS.length cap7) (.slice b7 WS.length dap7) RS F WS.length 1 W h hRl hWl (by omega) (by omega)
    rw [hKO.out] at this
    exact this
  clear hM14 hR14 g0 g1 g2 g3
  obtain ⟨g0, g1, g2, g3⟩ := G14.out.cells4
  go_wp2_with fail
  refine (HLD.out w14 R14.out).mono ?_
  rintro e w15 ⟨rfl, hb15⟩
  have E15 := hide_it (E14.out.trans (hb15.mono E14.out.size))
  have N15 := hide_it hb15
  have T15 := hide_it (T4.out.after E15.out)
  have B15 := hide_it (B4.out.trans (E15.out.mono hz4))
  clear hb15 g0 g1 g2 g3
  obtain ⟨c0, c1, c2, c3⟩ := T15.out.cells4
  go_wp2_with fail
  -- once more
  refine (toDesk_any up _ _ rs f ws w15 (HV.out _ B15.out) hl hlw).mono ?_
  rintro e w16 ⟨a16, cap16, b16, dap16, ps16, rfl, hp16, ho16, hb16⟩
  have V16 := hide_it (ho16.in_ hp16)
  have E16 := hide_it (E15.out.trans (hb16.mono E15.out.size))
  have N16 := hide_it (N15.out.trans (hb16.mono N15.out.size))
  have B16 := hide_it (B15.out.trans (hb16.mono B15.out.size))
  clear ho16 hp16 hb16 c0 c1 c2 c3
  go_wp2_with fail
  refine (HIM.out _ _ w16 V16.out (HA.out _ B16.out)).mono ?_
  rintro e w17 ⟨a17, cap17, b17, dap17, ps17, rfl, hp17, ho17, hb17⟩
  have V17 := hide_it (ho17.at' hp17)
  have E17 := hide_it (E16.out.trans (hb17.mono E16.out.size))
  have N17 := hide_it (N16.out.trans (hb17.mono N16.out.size))
  clear ho17 hp17 hb17
  obtain ⟨w18, hw18⟩ : ∃ W, Hid (W = w17.alloc (.cells #[.bool UP, (.slice a17 RS.length cap17), .int .i64 F, (.slice b17 WS.length dap17)] 35)) := ⟨_, rfl⟩
  obtain ⟨z0, z1, z2, z3⟩ := (Z4.out.after E17.out).cells4
  have k0 := fun x => cellAlloc z0 x
  have k1 := fun x => cellAlloc z1 x
  have k2 := fun x => cellAlloc z2 x
  have k3 := fun x => cellAlloc z3 x
  have hlt317 : w3.heap.size < w17.heap.size := World.block_lt_of_cell? _ _ z0
  go_wp2_with fail
  rw [← hw18.out]
  have al18 := hide_it (show Below w17.heap.size w17 w18 by rw [hw18.out]; exact alloc_below _ _)
  have E18 := hide_it (E17.out.trans (al18.out.mono E17.out.size))
  have N18 := hide_it (N17.out.trans (al18.out.mono N17.out.size))
  have V18 := hide_it (V17.out.later al18.out (Nat.le_refl _))
  have Y18 := hide_it (V4.out.later E18.out (Nat.le_refl _))
  clear k0 k1 k2 k3 z0 z1 z2 z3
  refine (eqDesk_any UP _ _ _ _ RS F WS w18 V18.out Y18.out hRl hWl).mono ?_
  rintro e w19 ⟨rfl, hb19⟩
  have E19 := hide_it (E18.out.trans (hb19.mono E18.out.size))
  have N19 := hide_it (N18.out.trans (hb19.mono N18.out.size))
  clear hb19
  obtain ⟨g0, g1, g2, g3⟩ := (G14.out.after N19.out).cells4
  have R19 := hide_it (R14.out.later N19.out (Nat.le_refl _))
  go_wp2_with fail
  refine (HLD.out w19 R19.out).mono ?_
  rintro e w20 ⟨rfl, hb20⟩
  have B20 := hide_it (B4.out.trans ((E19.out.trans (hb20.mono E19.out.size)).mono hz4))
  clear hb20 g0 g1 g2 g3
  go_wp2
  go_ret
  exact ⟨rfl, B20.out⟩

theorem lawDGive_any (up : Bool) (v u : Value) (rs : List R) (f : Int) (ws : List Wd) (trip : Int) (a : Addr) (w : World) (hv : DkAt w v u rs ws) (ha : ErrAt w a) (hm : (rs.length : Int) ≤ 9223372036854775807) (hms : ∀ r ∈ rs, (r.2.2.length : Int) ≤ 9223372036854775807) (hmw : (ws.length : Int) ≤ 9223372036854775807) :
    Calls Tryz.prog 4 #[deskV up v f u, .int .i64 trip] w fun e w' => e = .returned (.bool true) ∧ Below w.heap.size w w' := by
  by_cases hl : tot rs + ws.length ≤ 1048576
  · exact lawDGive_small up v u rs f ws trip a w hv ha hl
  · exact lawDGive_great up v u rs f ws trip w hv hm hms hmw (by omega)

end Go.Proofs.YtogfpnenoeonoabGreatDoor

namespace Go.Proofs.YtogfpnenoeonoabGreatDoor
open Go.ChangeShapes Go.WideShapes Go.ChangeAt Go.WideMaps Go.WideElems Go.RowKit Go.Joins

set_option maxRecDepth 100000 in
theorem deskGive_lifted (os : Os) (started : os.Started) (H : Type) (enc : TypeId × Value → H) :
    ReturnsInHanded {} Tryz.checked os 4 .any (fun w args => (Rows.fnExactDeskGiveSpec.pre enc Tryz.prog Tryz.f4 [] false w args ∧ laidMetH Tryz.prog laidErr w) ∧ sizedMet enc Tryz.prog Tryz.f4 (OpenSpec.ofChange Rows.fnExactDeskGiveSpec) false w args)
      (Rows.fnExactDeskGiveSpec.post enc Tryz.prog Tryz.f4 false true false false) := by
  refine returnsInHanded_of_change_and (C := Tryz.checked) (X := fun w _ => laidMetH Tryz.prog laidErr w) (fun _ _ _ hh h => h.of_heap hh) own started (by kernel_rfl) Tryz.func4
    (ChangeSpec.witness_shaped (enc := enc) (C := Tryz.checked) (os := os) (X := fun w _ => laidMetH Tryz.prog laidErr w) false (World.doorLaid Tryz.prog 28 os) #[deskV false (.slice none 0 0) 0 (.slice none 0 0), .int .i64 0] 8 rfl (World.shaped_of_RefB (by kernel_rfl) (by kernel_rfl)) (by kernel_rfl) (by kernel_rfl) (by kernel_rfl) (door_met os _)) ?_
  intro W base args ds gs before hval0 hW _ _ hL _
  have hval : ∀ (j : Nat) t v, Tryz.f4.params[j]? = some t → args[j]? = some v → Value.okWide Tryz.prog W .any base t v := hval0
  have hW' := hW
  obtain ⟨p, q, hA0, hV0, rfl, hfz, hnd⟩ := hW
  have hA : DataW.TrodAll enc Tryz.prog W 0 (fun _ => true) true Tryz.f4.params.toList args.toList ds p := hA0
  have hV : DataW.TrodVars enc Tryz.prog W (fun _ => true) ["loop.example/concierge/impl.errNoRec"] gs q := hV0
  rw [Tryz.params4] at hA hval
  obtain ⟨v0, v1, d0, d1, p0, p1, rfl, rfl, rfl, h0, h1⟩ := trodAll_two hA
  obtain ⟨a, hErr, hvar⟩ := of_laid hL
  have vr : ∀ {X : World}, X.var? Tryz.prog "loop.example/concierge/impl.errNoRec" = some #[.iface 168 (.pointer (some a))] → ∀ sp : Nat → Bool,
      DataW.TrodVars enc Tryz.prog X sp ["loop.example/concierge/impl.errNoRec"] [tok enc (.iface 168 (.pointer (some a)))] [.cell 0 0] :=
    fun x0 sp => vars_read1 enc gErr gErrType Tryz.underlying115 x0 trivial sp
  obtain ⟨rfl, rfl⟩ := hV.unique (vr hvar _)
  clear hA0 hV0 hval0
  obtain ⟨trip, rfl, rfl, rfl, wk⟩ := open_int Tryz.underlying3 (hval 1 3 v1 rfl rfl) h1
  obtain ⟨up, x, f, y, rs, ws, rfl, hR, hlen, hlens, hlenw⟩ := open_desk (hval 0 27 v0 rfl rfl) h0
  refine (lawDGive_any up x y rs f ws trip a W hR hErr hlen hlens hlenw).mono fun e W' ⟨he, hb⟩ => ?_
  subst he
  have hlt : ∀ x ∈ p0, x.block < W.heap.size := fun x hx => hW'.lt x (by simp [hx])
  refine ⟨_, rfl, _, _, _, [], p0 ++ [], [.cell 0 0], hW', ?_, ?_, ?_, hb.frame _, fun h => by cases h⟩
  · exact trodAll_mk1 (shut_bool Tryz.underlying4 true)
  · exact trodAll_mk2 (Below.trod laidOut (by kernel_rfl) (of_decide_eq_true (by kernel_rfl)) h0 hb hlt) (shut_int Tryz.underlying3 wk)
  · exact vr (var?_below hb gErr (World.block_lt_of_cell? _ _ hErr) hvar) _

theorem deskGive_said : Rows.FnExactDeskGiveSaid :=
  OpenClaim.holds_of_wide 4 Tryz.f4 rfl rfl rfl rfl rfl rfl rfl ⟨rfl, rfl, rfl, rfl, rfl⟩ rfl rfl rfl rfl rfl (by kernel_rfl) Tryz.func4 (by kernel_rfl)
    (of_decide_eq_true (by kernel_rfl)) (by unfold Func.isWrapper; first | (rw [if_pos (by decide +kernel)]; kernel_rfl) | (rw [if_neg (by decide +kernel)]; exact ⟨rfl, rfl⟩))
    (fun os started H enc _ => deskGive_lifted os started H enc)

theorem deskGive_plain (f : FuncId) (fn : Func) (hf : Tryz.pinned.checked.prog.funcNamed "loop.example/concierge/laws.FnExactDeskGive" = some f) (hfn : Tryz.pinned.checked.prog.funcs[f]? = some fn) :
    true = Tryz.pinned.checked.prog.looks [] ∧ ∀ (j : Nat) t, fn.params[j]? = some t → Tryz.pinned.checked.prog.wantsStandIn t = false := by
  obtain rfl : f = 4 := Option.some.inj ((show Tryz.prog.funcNamed "loop.example/concierge/laws.FnExactDeskGive" = some 4 by kernel_rfl).symm.trans hf) |>.symm
  obtain rfl : fn = Tryz.f4 := (Option.some.inj (Tryz.func4.symm.trans hfn)).symm
  refine ⟨by kernel_rfl, fun j t ht => ?_⟩
  rw [Tryz.params4] at ht
  have hm := Array.mem_of_getElem? ht
  simp at hm
  rcases hm with rfl | rfl
  · exact (show Tryz.prog.wantsStandIn 27 = false by kernel_rfl)
  · exact (show Tryz.prog.wantsStandIn 3 = false by kernel_rfl)

theorem deskGive_card : Rows.FnExactDeskGiveCardSaid :=
  Claim7.holds_tied_plain_at .later [] _ _ _ _ deskGive_said (fun _ h => by cases h) (by kernel_rfl) (fun _ h => by cases h) fnExactDeskGive_row_tie rfl ⟨rfl, rfl⟩ (by kernel_rfl) rfl deskGive_plain (by kernel_rfl)
#print axioms deskGive_card

end Go.Proofs.YtogfpnenoeonoabGreatDoor
