/- Contracts of the specification's l13Write and DeskGive. For all that together has at most 1048576 records, numbers and words. -/
import Derived.Test.YtogfpnenoeonoabGreatDoorBase6

namespace Go.Proofs.YtogfpnenoeonoabGreatDoor
open Go.RowKit

def LwOut (w w' : World) (e : Ending) (lo : Nat) (up : Bool) (v : Value) (f : Int) (u : Value) (rs : List R) (ws : List Wd) (r : R) : Prop :=
  (dkMay up rs r = false ∧ e = .returned (.tuple #[deskV up v f u, .bool false]) ∧ Below w.heap.size w w') ∨
  (dkMay up rs r = true ∧ Below lo w w' ∧ ∃ a3 c3 ps3, e = .returned (.tuple #[deskV up (.slice a3 (rs ++ [r]).length c3) f u, .bool true]) ∧ ps3.map (·.1) = rs ++ [r] ∧ DkTy w' lo w'.heap.size (.slice a3 (rs ++ [r]).length c3) u ps3 ws)

theorem DkTy.setB {w : World} {lo hi b j : Nat} {v u : Value} {ps : List (R × Value)} {ws : List Wd} {cur : Array Value} {ty : TypeId} (h : DkTy w lo hi v u ps ws) (hh : Blk w b cur ty) (h1 : 58 ≠ ty) (h2 : 3 ≠ ty) (h3 : 50 ≠ ty) (x : Value) : DkTy (w.setCell ⟨b, j, Option.none⟩ x) lo hi v u ps ws :=
  ⟨h.1.setB hh h1 h2 x, ownsRow_setCell_ne h.2.1 (fun g hg => row_apart h.2.1 hh h3 g hg) x, h.2.2⟩

set_option maxHeartbeats 16000000 in
set_option maxRecDepth 20000 in
theorem l13Write_any (up : Bool) (v : Value) (f : Int) (u : Value) (ps : List (R × Value)) (rs : List R) (ws : List Wd) (r : R) (ax : Option Addr) (cx lo hi : Nat) (w : World)
    (ho : DkOwn w lo hi v u ps ws) (hp : ps.map (·.1) = rs) (hlo : lo ≤ w.heap.size) (hlh : lo ≤ hi) (hl : tot rs ≤ 1048576) (hx : w.ownsRow hi 3 1 (.slice ax r.2.2.length cx) r.2.2.length (r.2.2.map (Value.int .i64))) (hok : dkOk up rs f ws = true) (hr : rOk r = true) :
    Calls Tryz.prog 26 #[deskV up v f u, .agg #[.int .i64 r.1, .int .i64 r.2.1, .slice ax r.2.2.length cx]] w fun e w' => LwOut w w' e lo up v f u rs ws r := by
  obtain ⟨hf0, hf1, -⟩ := logOk_f (dkOk_log hok)
  have hroom := T.runT_room (run_some hok)
  obtain ⟨ht1, ht6⟩ := T.rOk_trip hr
  have HI := hide_it (ho.in_ hp)
  have HO := hide_it ho
  have HX := hide_it hx
  have HP := hide_it hp
  obtain ⟨av, cv, au, cu, rfl, rfl⟩ := (ho.at' hp).shape
  have HT : Hid (∀ W, Below w.heap.size w W → Calls Tryz.prog 44 #[deskV up (.slice av rs.length cv) f (.slice au ws.length cu), .bool false] W fun e w' => TrL W w' e (T.ofO rs)) := fun W h =>
    l13Trips_any up _ _ rs f ws false W (HI.out.later h (Nat.le_refl _)) hl hf0 hf1
  have hfit := T.ofO_fit rs
  have HM : Hid (∀ (y : Value) (W : World), T.Recs W y (T.ofO rs) → Calls Tryz.prog 50 #[y, .agg #[.int .i64 r.1, .int .i64 r.2.1, .slice ax r.2.2.length cx]] W fun e w' => e = .returned (.bool (T.mayL (T.ofO rs) r)) ∧ Below W.heap.size W w') := fun y W h =>
    T.l12May_any y (T.ofO rs) r.1 r.2.1 _ r.2.2 W h hfit.tot ⟨_, _, _, rfl⟩ ht1 ht6
  have hpl : ps.length = rs.length := by have := congrArg List.length hp; simpa using this
  have HAD : Hid (∀ W, Below w.heap.size w W → Calls Tryz.prog 51 #[.agg #[.slice av rs.length cv, .int .i64 f], .agg #[.int .i64 r.1, .int .i64 r.2.1, .slice ax r.2.2.length cx]] W fun e w' => ∃ g cap' ps3, e = .returned (.tuple #[.agg #[.slice (some ⟨g, 0, none⟩) (rs ++ [r]).length cap', .int .i64 f], .bool true]) ∧ ps3.map (·.1) = rs ++ [r] ∧ DkTy w' lo w'.heap.size (.slice (some ⟨g, 0, none⟩) (rs ++ [r]).length cap') (.slice au ws.length cu) ps3 ws ∧ Below lo W w' ∧ Mid lo hi W w') := fun W h => by
    have hoW := HO.out.below h HO.out.1
    obtain ⟨q0, l0, t, q1', q2, q3', q4, q5'⟩ := hoW
    obtain ⟨l, q1, ql, q3, q5⟩ : ∃ l, lo ≤ l ∧ l ≤ hi ∧ OwnRecs W l t (.slice av rs.length cv) ps ∧ ∀ g, (Value.slice au ws.length cu).ownBlock = some g → g < hi ∧ (g < l ∨ t ≤ g) := by
      by_cases hl0 : l0 ≤ hi
      · exact ⟨l0, q1', hl0, q3', q5'⟩
      · exact ⟨hi, hlh, Nat.le_refl _, q3'.lo' (by omega), fun g hg => ⟨(q5' g hg).1, Or.inl (q5' g hg).1⟩⟩
    have hxW := ownsRow_below HX.out h (fun k hk => (HX.out.lt k hk).2)
    rw [← hpl] at q3 ⊢
    have hadd := l1Add_mid av cv ps f r ax cx l t W q3 (by omega) (ownsRow_base hxW ql) (fun k hk => by have := (hxW.lt k hk).1; omega) (by omega)
    refine hadd.mono ?_
    rintro e w' ⟨g, cap', he, hm, hb, hM⟩
    rw [HP.out] at hm
    obtain ⟨ps3, hp3, ho3⟩ := hm
    have hlen : (rs ++ [r]).length = ps.length + 1 := by rw [List.length_append, hpl]; rfl
    refine ⟨g, cap', ps3, by rw [hlen]; exact he, hp3, ?_, hb.mono q1, ⟨hM.os, hM.tape, hM.output, hM.size, fun j hj hh => hM.block j hj (by omega)⟩⟩
    rw [hlen]
    refine ⟨ho3.lo' q1, ownsRow_mid q4 hM (fun k hk => (q5 k hk).2), fun k hk => by have := (q4.lt k hk).2; have := hM.size; omega⟩
  clear ho hx hok hr hfit hp hf0 hf1
  obtain ⟨ts, hts⟩ : ∃ q, T.ofO rs = q := ⟨_, rfl⟩
  have HD : Hid (dkMay up rs r = (up && T.mayL ts r)) := by show _ = _; unfold dkMay; rw [hts]
  rw [hts] at HT HM
  clear hts
  obtain ⟨MM, hMM⟩ : ∃ q, T.mayL ts r = q := ⟨_, rfl⟩
  rw [hMM] at HM HD
  clear hMM
  have hhi := HO.out.1
  obtain ⟨w0, hw0⟩ : ∃ W, Hid (W = ((w.alloc (.cells #[.bool up, .slice av rs.length cv, .int .i64 f, .slice au ws.length cu] 35)).alloc (.cells #[.int .i64 r.1, .int .i64 r.2.1, .slice ax r.2.2.length cx] 58)).alloc (.cells #[.bool false, .slice none 0 0, .int .i64 0, .slice none 0 0] 35)) := ⟨_, rfl⟩
  have B0 : Hid (Below w.heap.size w w0) := by show Below _ _ _; rw [hw0.out]; exact below3 _ _ _ _
  have X0 : Hid (Blk w0 w.heap.size #[.bool up, .slice av rs.length cv, .int .i64 f, .slice au ws.length cu] 35) := by show Blk _ _ _ _; rw [hw0.out]; exact ((Blk.new _ _ _).alloc _).alloc _
  have R0 : Hid (Blk w0 (w.heap.size + 1) #[.int .i64 r.1, .int .i64 r.2.1, .slice ax r.2.2.length cx] 58) := by show Blk _ _ _ _; rw [hw0.out]; exact (Blk.new2 _ _ _ _).alloc _
  have Z0 : Hid (Blk w0 (w.heap.size + 1 + 1) #[.bool false, .slice none 0 0, .int .i64 0, .slice none 0 0] 35) := by
    show Blk _ _ _ _
    rw [hw0.out]
    have h := Blk.new ((w.alloc (.cells #[.bool up, .slice av rs.length cv, .int .i64 f, .slice au ws.length cu] 35)).alloc (.cells #[.int .i64 r.1, .int .i64 r.2.1, .slice ax r.2.2.length cx] 58)) #[.bool false, .slice none 0 0, .int .i64 0, .slice none 0 0] 35
    rw [size2] at h
    exact h
  have hs0 : w0.heap.size = w.heap.size + 3 := by rw [hw0.out, size3]
  have HS0 := hide_it hs0
  clear hs0
  obtain ⟨x0, x1, x2, x3⟩ := X0.out.cells4
  obtain ⟨r0, r1, r2⟩ := R0.out.cells3
  cases up
  · go_enter Tryz.func26, Tryz.ntmps26
    go_wp2_with fail
    rw [← hw0.out]
    refine wp_region_held_drew (S := fun w' => (w'.cell? ⟨w.heap.size, 0, none⟩ = some (.bool false) ∧ w'.cell? ⟨w.heap.size, 1, none⟩ = some (.slice av rs.length cv) ∧ w'.cell? ⟨w.heap.size, 2, none⟩ = some (.int .i64 f) ∧ w'.cell? ⟨w.heap.size, 3, none⟩ = some (.slice au ws.length cu)) ∧ (w'.cell? ⟨w.heap.size + 1, 0, none⟩ = some (.int .i64 r.1) ∧ w'.cell? ⟨w.heap.size + 1, 1, none⟩ = some (.int .i64 r.2.1) ∧ w'.cell? ⟨w.heap.size + 1, 2, none⟩ = some (.slice ax r.2.2.length cx))) (by kernel_rfl) ⟨⟨x0, x1, x2, x3⟩, r0, r1, r2⟩ (fun hHeld => ?_)
    clear x0 x1 x2 x3 r0 r1 r2
    refine takeD (i := 0) (v := ?_) (some 8) rfl rfl (by kernel_rfl) (by kernel_rfl) (by kernel_rfl) (fun _ _ _ h => h) (by rfl) hHeld ?_ ?_
    rotate_left
    · intro W hSw
      try dsimp only at hSw
      go_simp
      try with_reducible rfl
    try simp only [Act.put]
    try simp only [List.setIfInBounds_toArray]
    try simp only [List.set_cons_succ]
    try simp only [List.set_cons_zero]
    refine takeD (i := 1) (v := ?_) (some 9) rfl rfl (by kernel_rfl) (by kernel_rfl) (by kernel_rfl) (fun _ _ _ h => h) (by rfl) hHeld ?_ ?_
    rotate_left
    · intro W hSw
      try dsimp only at hSw
      go_simp
      try with_reducible rfl
    try simp only [Act.put]
    try simp only [List.setIfInBounds_toArray]
    try simp only [List.set_cons_succ]
    try simp only [List.set_cons_zero]
    refine takeD (i := 2) (v := .bool true) (some 10) rfl rfl (by kernel_rfl) (by kernel_rfl) (by kernel_rfl) (fun _ _ _ h => h) (by rfl) hHeld ?_ ?_
    · intro W hSw
      try dsimp only at hSw
      first | (go_simp; done) | (go_simp; simp [*]; done) | (go_simp; simp; omega)
    try simp only [Act.put]
    try simp only [List.setIfInBounds_toArray]
    try simp only [List.set_cons_succ]
    try simp only [List.set_cons_zero]
    refine takeD (i := 3) (v := .bool true) (some 11) rfl rfl (by kernel_rfl) (by kernel_rfl) (by kernel_rfl) (fun _ _ _ h => h) (by rfl) hHeld ?_ ?_
    · intro W hSw
      try dsimp only at hSw
      first | (go_simp; done) | (go_simp; simp [*]; done) | (go_simp; simp; omega)
    try simp only [Act.put]
    try simp only [List.setIfInBounds_toArray]
    try simp only [List.set_cons_succ]
    try simp only [List.set_cons_zero]
    refine skipD (i := 4) (some 12) rfl rfl (by kernel_rfl) (by kernel_rfl) (by kernel_rfl) (fun _ _ _ h => h) (by rfl) hHeld ?_
    try simp only [Act.put]
    try simp only [List.setIfInBounds_toArray]
    try simp only [List.set_cons_succ]
    try simp only [List.set_cons_zero]
    refine skipD (i := 5) (some 13) rfl rfl (by kernel_rfl) (by kernel_rfl) (by kernel_rfl) (fun _ _ _ h => h) (by rfl) hHeld ?_
    try simp only [Act.put]
    try simp only [List.setIfInBounds_toArray]
    try simp only [List.set_cons_succ]
    try simp only [List.set_cons_zero]
    refine skipD (i := 6) (some 14) rfl rfl (by kernel_rfl) (by kernel_rfl) (by kernel_rfl) (fun _ _ _ h => h) (by rfl) hHeld ?_
    try simp only [Act.put]
    try simp only [List.setIfInBounds_toArray]
    try simp only [List.set_cons_succ]
    try simp only [List.set_cons_zero]
    refine skipD (i := 7) (some 15) rfl rfl (by kernel_rfl) (by kernel_rfl) (by kernel_rfl) (fun _ _ _ h => h) (by rfl) hHeld ?_
    try simp only [Act.put]
    try simp only [List.setIfInBounds_toArray]
    try simp only [List.set_cons_succ]
    try simp only [List.set_cons_zero]
    refine skipD (i := 8) (some 16) rfl rfl (by kernel_rfl) (by kernel_rfl) (by kernel_rfl) (fun _ _ _ h => h) (by rfl) hHeld ?_
    try simp only [Act.put]
    try simp only [List.setIfInBounds_toArray]
    try simp only [List.set_cons_succ]
    try simp only [List.set_cons_zero]
    refine takeD (i := 9) (v := .bool true) (some 17) rfl rfl (by kernel_rfl) (by kernel_rfl) (by kernel_rfl) (fun _ _ _ h => h) (by rfl) hHeld ?_ ?_
    · intro W hSw
      try dsimp only at hSw
      first | (go_simp; done) | (go_simp; simp [*]; done) | (go_simp; simp; omega)
    try simp only [Act.put]
    try simp only [List.setIfInBounds_toArray]
    try simp only [List.set_cons_succ]
    try simp only [List.set_cons_zero]
    refine wpAnyH_done (by kernel_rfl) ?_ _
    obtain ⟨z0, z1, z2, z3⟩ := Z0.out.cells4
    obtain ⟨zf0, zf1, zf2, zf3⟩ := Z0.out.free4
    obtain ⟨x0, x1, x2, x3⟩ := X0.out.cells4
    go_wp2
    refine bodyPost_ret (v := .tuple #[deskV false (.slice av rs.length cv) f (.slice au ws.length cu), .bool false]) (by simp [results, Tryz.results26, go_sem, *]) rfl ?_
    refine Or.inl ⟨by rw [HD.out]; rfl, rfl, ?_⟩
    try refine Below.drew ?_
    iterate 4 (refine Below.setCell ?_ (show w.heap.size ≤ w.heap.size + 1 + 1 by omega) _)
    first | exact B0.out | exact B0.out.drew
  go_enter Tryz.func26, Tryz.ntmps26
  go_wp2_with fail
  rw [← hw0.out]
  refine wp_region_held_drew (S := fun w' => (w'.cell? ⟨w.heap.size, 0, none⟩ = some (.bool true) ∧ w'.cell? ⟨w.heap.size, 1, none⟩ = some (.slice av rs.length cv) ∧ w'.cell? ⟨w.heap.size, 2, none⟩ = some (.int .i64 f) ∧ w'.cell? ⟨w.heap.size, 3, none⟩ = some (.slice au ws.length cu)) ∧ (w'.cell? ⟨w.heap.size + 1, 0, none⟩ = some (.int .i64 r.1) ∧ w'.cell? ⟨w.heap.size + 1, 1, none⟩ = some (.int .i64 r.2.1) ∧ w'.cell? ⟨w.heap.size + 1, 2, none⟩ = some (.slice ax r.2.2.length cx))) (by kernel_rfl) ⟨⟨x0, x1, x2, x3⟩, r0, r1, r2⟩ (fun hHeld => ?_)
  clear x0 x1 x2 x3 r0 r1 r2
  refine takeD (i := 0) (v := ?_) (some 8) rfl rfl (by kernel_rfl) (by kernel_rfl) (by kernel_rfl) (fun _ _ _ h => h) (by rfl) hHeld ?_ ?_
  rotate_left
  · intro W hSw
    try dsimp only at hSw
    go_simp
    try with_reducible rfl
  try simp only [Act.put]
  try simp only [List.setIfInBounds_toArray]
  try simp only [List.set_cons_succ]
  try simp only [List.set_cons_zero]
  refine takeD (i := 1) (v := ?_) (some 9) rfl rfl (by kernel_rfl) (by kernel_rfl) (by kernel_rfl) (fun _ _ _ h => h) (by rfl) hHeld ?_ ?_
  rotate_left
  · intro W hSw
    try dsimp only at hSw
    go_simp
    try with_reducible rfl
  try simp only [Act.put]
  try simp only [List.setIfInBounds_toArray]
  try simp only [List.set_cons_succ]
  try simp only [List.set_cons_zero]
  refine takeD (i := 2) (v := .bool false) (some 10) rfl rfl (by kernel_rfl) (by kernel_rfl) (by kernel_rfl) (fun _ _ _ h => h) (by rfl) hHeld ?_ ?_
  · intro W hSw
    try dsimp only at hSw
    first | (go_simp; done) | (go_simp; simp [*]; done) | (go_simp; simp; omega)
  try simp only [Act.put]
  try simp only [List.setIfInBounds_toArray]
  try simp only [List.set_cons_succ]
  try simp only [List.set_cons_zero]
  refine takeD (i := 3) (v := .bool false) (some 11) rfl rfl (by kernel_rfl) (by kernel_rfl) (by kernel_rfl) (fun _ _ _ h => h) (by rfl) hHeld ?_ ?_
  · intro W hSw
    try dsimp only at hSw
    first | (go_simp; done) | (go_simp; simp [*]; done) | (go_simp; simp; omega)
  try simp only [Act.put]
  try simp only [List.setIfInBounds_toArray]
  try simp only [List.set_cons_succ]
  try simp only [List.set_cons_zero]
  refine takeD (i := 4) (v := ?_) (some 12) rfl rfl (by kernel_rfl) (by kernel_rfl) (by kernel_rfl) (fun _ _ _ h => h) (by rfl) hHeld ?_ ?_
  rotate_left
  · intro W hSw
    try dsimp only at hSw
    go_simp
    try with_reducible rfl
  try simp only [Act.put]
  try simp only [List.setIfInBounds_toArray]
  try simp only [List.set_cons_succ]
  try simp only [List.set_cons_zero]
  refine takeD (i := 6) (v := ?_) (some 14) rfl rfl (by kernel_rfl) (by kernel_rfl) (by kernel_rfl) (fun _ _ _ h => h) (by rfl) hHeld ?_ ?_
  rotate_left
  · intro W hSw
    try dsimp only at hSw
    go_simp
    try with_reducible rfl
  try simp only [Act.put]
  try simp only [List.setIfInBounds_toArray]
  try simp only [List.set_cons_succ]
  try simp only [List.set_cons_zero]
  refine wpAnyH_ready (rs := [5]) (by kernel_rfl) (by simp) ?_
  refine AllReadyH.cons rfl (fun K hK => ?_) AllReadyH.nil
  go_simp
  refine (HT.out _ B0.out.drew).mono ?_
  rintro e w1 ⟨a1, c1, rfl, hm1, hb1⟩
  have L1 := hide_it ((Below.refl w0.heap.size w0).drew.trans hb1)
  have B1 := hide_it (B0.out.trans (L1.out.mono B0.out.size))
  have T1 := hide_it hm1.recs
  clear hb1 hm1
  try dsimp only
  refine hK.out _ _ ⟨(X0.out.after L1.out).cells4, (R0.out.after L1.out).cells3⟩ (fun hHeld => ?_)
  clear hK K
  refine wpAnyH_ready (rs := [7]) (by kernel_rfl) (by simp) ?_
  refine AllReadyH.cons rfl (fun K hK => ?_) AllReadyH.nil
  go_simp
  refine (HM.out _ _ T1.out).mono ?_
  rintro e w2 ⟨rfl, hb2⟩
  have L2 := hide_it (L1.out.trans (hb2.mono L1.out.size))
  have B2 := hide_it (B0.out.trans (L2.out.mono B0.out.size))
  clear hb2
  try dsimp only
  refine hK.out _ _ ⟨(X0.out.after L2.out).cells4, (R0.out.after L2.out).cells3⟩ (fun hHeld => ?_)
  clear hK K
  cases MM
  · refine takeD (i := 8) (v := .bool true) (some 16) rfl rfl (by kernel_rfl) (by kernel_rfl) (by kernel_rfl) (fun _ _ _ h => h) (by rfl) hHeld ?_ ?_
    · intro W hSw
      try dsimp only at hSw
      first | (go_simp; done) | (go_simp; simp [*]; done) | (go_simp; simp; omega)
    try simp only [Act.put]
    try simp only [List.setIfInBounds_toArray]
    try simp only [List.set_cons_succ]
    try simp only [List.set_cons_zero]
    refine takeD (i := 9) (v := .bool true) (some 17) rfl rfl (by kernel_rfl) (by kernel_rfl) (by kernel_rfl) (fun _ _ _ h => h) (by rfl) hHeld ?_ ?_
    · intro W hSw
      try dsimp only at hSw
      first | (go_simp; done) | (go_simp; simp [*]; done) | (go_simp; simp; omega)
    try simp only [Act.put]
    try simp only [List.setIfInBounds_toArray]
    try simp only [List.set_cons_succ]
    try simp only [List.set_cons_zero]
    refine wpAnyH_done (by kernel_rfl) ?_ _
    obtain ⟨z0, z1, z2, z3⟩ := (Z0.out.after L2.out).cells4
    obtain ⟨zf0, zf1, zf2, zf3⟩ := (Z0.out.after L2.out).free4
    obtain ⟨x0, x1, x2, x3⟩ := (X0.out.after L2.out).cells4
    go_wp2
    refine bodyPost_ret (v := .tuple #[deskV true (.slice av rs.length cv) f (.slice au ws.length cu), .bool false]) (by simp [results, Tryz.results26, go_sem, *]) rfl ?_
    refine Or.inl ⟨by rw [HD.out]; rfl, rfl, ?_⟩
    try refine Below.drew ?_
    iterate 4 (refine Below.setCell ?_ (show w.heap.size ≤ w.heap.size + 1 + 1 by omega) _)
    exact B2.out
  · refine takeD (i := 8) (v := .bool false) (some 16) rfl rfl (by kernel_rfl) (by kernel_rfl) (by kernel_rfl) (fun _ _ _ h => h) (by rfl) hHeld ?_ ?_
    · intro W hSw
      try dsimp only at hSw
      first | (go_simp; done) | (go_simp; simp [*]; done) | (go_simp; simp; omega)
    try simp only [Act.put]
    try simp only [List.setIfInBounds_toArray]
    try simp only [List.set_cons_succ]
    try simp only [List.set_cons_zero]
    refine takeD (i := 9) (v := .bool false) (some 17) rfl rfl (by kernel_rfl) (by kernel_rfl) (by kernel_rfl) (fun _ _ _ h => h) (by rfl) hHeld ?_ ?_
    · intro W hSw
      try dsimp only at hSw
      first | (go_simp; done) | (go_simp; simp [*]; done) | (go_simp; simp; omega)
    try simp only [Act.put]
    try simp only [List.setIfInBounds_toArray]
    try simp only [List.set_cons_succ]
    try simp only [List.set_cons_zero]
    refine wpAnyH_done (by kernel_rfl) ?_ _
    obtain ⟨x0, x1, x2, x3⟩ := (X0.out.after L2.out).cells4
    obtain ⟨r0, r1, r2⟩ := (R0.out.after L2.out).cells3
    go_wp2_with fail
    refine (HAD.out w2 B2.out).mono ?_
    rintro e w3 ⟨g, cap', ps3, rfl, hp3, ho3, hb3, hM3⟩
    have hs2 := L2.out.size
    have X3 := hide_it ((X0.out.after L2.out).mid hM3 (Or.inr hhi))
    have Z3 := hide_it ((Z0.out.after L2.out).mid hM3 (Or.inr (by omega)))
    have O3 := hide_it ho3
    have P3 := hide_it hp3
    have B3 : Hid (Below lo w w3) := (B2.out.mono hlo).trans hb3
    have hs3 : w2.heap.size ≤ w3.heap.size := hM3.size
    obtain ⟨NN, hNN⟩ : ∃ q, Hid ((rs ++ [r]).length = q) := ⟨_, rfl⟩
    rw [hNN.out] at O3 ⊢
    clear hp3 ho3 hb3 hM3 x0 x1 x2 x3 r0 r1 r2
    have hxl := X3.out.lt
    have hzl := Z3.out.lt
    obtain ⟨x0, x1, x2, x3⟩ := X3.out.cells4
    obtain ⟨xf0, xf1, xf2, xf3⟩ := X3.out.free4
    obtain ⟨z0, z1, z2, z3⟩ := Z3.out.cells4
    obtain ⟨zf0, zf1, zf2, zf3⟩ := Z3.out.free4
    have k0 := fun x => cellAlloc x0 x
    have k1 := fun x => cellAlloc x1 x
    have k2 := fun x => cellAlloc x2 x
    have k3 := fun x => cellAlloc x3 x
    have p1 := fun x => frozenAlloc xf1 hxl x
    have p2 := fun x => frozenAlloc xf2 hxl x
    have m0 := fun x => cellAlloc z0 x
    have m1 := fun x => cellAlloc z1 x
    have m2 := fun x => cellAlloc z2 x
    have m3 := fun x => cellAlloc z3 x
    have n0 := fun x => frozenAlloc zf0 hzl x
    have n1 := fun x => frozenAlloc zf1 hzl x
    have n2 := fun x => frozenAlloc zf2 hzl x
    have n3 := fun x => frozenAlloc zf3 hzl x
    go_wp2
    refine bodyPost_ret (v := .tuple #[deskV true (.slice (some ⟨g, 0, none⟩) NN cap') f (.slice au ws.length cu), .bool true]) (by simp [results, Tryz.results26, go_sem, *]) rfl ?_
    refine Or.inr ⟨by rw [HD.out]; rfl, ?_, some ⟨g, 0, none⟩, cap', ps3, by rw [hNN.out], P3.out, ?_⟩
    · clear k0 k1 k2 k3 p1 p2 m0 m1 m2 m3 n0 n1 n2 n3 x0 x1 x2 x3 xf0 xf1 xf2 xf3 z0 z1 z2 z3 zf0 zf1 zf2 zf3
      refine Below.alloc ?_ (by simp; omega) _
      iterate 4 (refine Below.setCell ?_ (show lo ≤ w.heap.size + 1 + 1 by omega) _)
      iterate 2 (refine Below.setCell ?_ (show lo ≤ w.heap.size by omega) _)
      exact B3.out
    · clear k0 k1 k2 k3 p1 p2 m0 m1 m2 m3 n0 n1 n2 n3 x0 x1 x2 x3 xf0 xf1 xf2 xf3 z0 z1 z2 z3 zf0 zf1 zf2 zf3
      rw [hNN.out]
      have e1 := O3.out.setB (j := 1) X3.out (by decide) (by decide) (by decide) (.slice (some ⟨g, 0, none⟩) NN cap')
      have e2 := e1.setB (j := 2) (X3.out.set_ 1 _) (by decide) (by decide) (by decide) (.int .i64 f)
      have Y2 := (Z3.out.other (a := ⟨w.heap.size, 1, none⟩) (by simp; omega) (.slice (some ⟨g, 0, none⟩) NN cap')).other (a := ⟨w.heap.size, 2, none⟩) (by simp; omega) (.int .i64 f)
      have f0 := e2.setB (j := 0) Y2 (by decide) (by decide) (by decide) (.bool true)
      have f1 := f0.setB (j := 1) (Y2.set_ 0 _) (by decide) (by decide) (by decide) (.slice (some ⟨g, 0, none⟩) NN cap')
      have f2 := f1.setB (j := 2) ((Y2.set_ 0 _).set_ 1 _) (by decide) (by decide) (by decide) (.int .i64 f)
      have f3 := f2.setB (j := 3) (((Y2.set_ 0 _).set_ 1 _).set_ 2 _) (by decide) (by decide) (by decide) (.slice au ws.length cu)
      exact DkTy.hi (f3.below (alloc_below _ _) (by simp)) (by simp) (Nat.le_refl _)

end Go.Proofs.YtogfpnenoeonoabGreatDoor
