/- What the last text of this claim stands on, part 9: plain facts and contracts; the last text says what is proved. -/
import Derived.Test.YtgknnigjlnfplaaGreatDoorBase8

namespace Go.Proofs.YtgknnigjlnfplaaGreatDoor
open Go.RowKit

/-- A desk comes back that reads so. -/
def LhO (w w' : World) (e : Ending) (lo : Nat) (f : Int) (rs : List R) (ws : List Wd) : Prop :=
  ∃ v' u' qs, e = .returned (deskV true v' f u') ∧ qs.map (·.1) = rs ∧ w'.ownsRow lo 81 3 v' qs.length (flat qs) ∧ (∀ q ∈ qs, w'.ownsRow lo 3 1 q.2 q.1.2.2.length (q.1.2.2.map (Value.int .i64))) ∧ w'.ownsRow lo 39 4 u' ws.length (wflat ws) ∧ Below lo w w'

theorem wpList_append_words {ops : Array Oper} {rest : List Oper} {o : Oper} {a : Act} {w : World} {Q : Exit → Act → World → Prop} (hgd : o.guard = none) (s x : Operand)
    (ho : o.op = .call { callee := .builtin .append, args := #[s, x], argTypes := #[34, 34] })
    (base : Nat) (v xv : Value) (n : Nat) (xs : List Value) (hs : List Wd) (he : a.eval s = v) (hx : a.eval x = xv) (hown : w.ownsRow base 39 4 v n xs) (hI : Words w xv hs) (hb : n + hs.length ≤ 4194304) (hbase : base ≤ w.heap.size)
    (h : ∀ ao cap w', w'.ownsRow base 39 4 (.slice ao (n + hs.length) cap) (n + hs.length) (xs ++ wflat hs) → w.grownBy w' v.ownBlock → wpList Tryz.prog ops Q rest (a.put o.dst (.slice ao (n + hs.length) cap)) w') :
    wpList Tryz.prog ops Q (o :: rest) a w := by
  refine wpList_plain hgd fun K hK' => ?_
  obtain ⟨v', w', hrun, r1, r2, -⟩ := run_append_words w base o.type v xv n xs hs hown hI hb hbase
  obtain ⟨ao, cap, rfl⟩ := row_shape r1
  unfold Oper.wp
  simp [execOp, ho, resolve, invoke, builtin, he, hx, hrun, Result.andThen]
  exact hK' _ _ (h ao cap w' r1 r2)

set_option maxRecDepth 100000 in
set_option maxHeartbeats 16000000 in
theorem l13Hear_new (lo hi : Nat) (ps : List (R × Value)) (v : Value) (f : Int) (u : Value) (rs : List R) (ws : List Wd) (p : Wd) (w : World)
    (hv : DkIn w v u rs ws) (hl : tot rs ≤ 1048576) (hlw : ws.length ≤ 1048576) (hlo : lo ≤ w.heap.size) (hok : dkOk true rs f ws = true) (hh : dkHears true rs p = true) (htd : ws.contains p = false) (hlw2 : ws.length + 1 ≤ 1048576) (hps : ps.map (·.1) = rs) (hor : OwnRecs w lo hi v ps) (hu : w.ownsRow lo 39 4 u ws.length (wflat ws)) :
    Calls Tryz.prog 15 #[deskV true v f u, wordV p.1 p.2.1 p.2.2.1 p.2.2.2] w fun e w' => LhO w w' e lo f (hearR rs f (ws ++ [p]) p.2.2.1) (ws ++ [p]) := by
  have HOK2 : Hid (dkOk true rs f (ws ++ [p]) = true) := by
    have := hears_ok hok hh
    unfold hearW at this
    rw [htd] at this
    exact this
  have hpl : ps.length = rs.length := by have := congrArg List.length hps; simpa using this
  have HPS := hide_it hps
  have HOR := hide_it hor
  have HUR := hide_it hu
  have ho : w.ownsRow lo 81 3 v rs.length (flat ps) := by rw [← hpl]; exact hor.1
  have HPL := hide_it hpl
  have HFO := hide_it (show Form v rs.length from hv.2.1)
  clear hps hor hu hpl
  obtain ⟨hf0, hf1, -⟩ := logOk_f (dkOk_log hok)
  have HI := hide_it hv
  obtain ⟨av, cv, au, cu, rfl, rfl⟩ := hv.1.shape
  have HT0 : Hid (∀ W, Below w.heap.size w W → Calls Tryz.prog 34 #[deskV true (.slice av rs.length cv) f (.slice au ws.length cu), .bool false] W fun e w' => TrL W w' e (T.ofO rs)) := fun W h =>
    l13Trips_any true _ _ rs f ws false W (HI.out.later h (Nat.le_refl _)) hl hf0 hf1
  have HLT := hide_it (fun W (h : Below w.heap.size w W) => l13Told_any _ ws p W (HI.out.1.2.later h (Nat.le_refl _)) hlw)
  rw [htd] at HLT
  have HWO := hide_it (fun W => specWordOk_any p.1 p.2.1 p.2.2.1 p.2.2.2 W)
  obtain ⟨p1, p2, p3, p4⟩ := p
  simp only at HWO HLT ⊢
  simp only [dkHears, ansOk, Bool.true_and] at hh
  obtain ⟨WO, hWO⟩ : ∃ x, Pl.wOk p1 p2 p3 p4 = x := ⟨_, rfl⟩
  rw [hWO] at HWO hh
  obtain ⟨TN, hTN⟩ : ∃ x, (T.ofO rs).length = x := ⟨_, rfl⟩
  have HTN := hide_it hTN
  have HP3 : Hid (WO = true → 1 ≤ p3) := fun h => (Pl.wOk_parts (hWO.trans h)).2.2.1.1
  rw [hTN] at hh
  have HT1 : Hid (∀ W, Below w.heap.size w W → Calls Tryz.prog 34 #[deskV true (.slice av rs.length cv) f (.slice au ws.length cu), .bool false] W fun e w' => ∃ ao cap, e = .returned (.slice ao TN cap) ∧ Below W.heap.size W w') := fun W h =>
    (HT0.out W h).mono fun e w' ⟨ao, cap, he, _, hb⟩ => by rw [hTN] at he; exact ⟨ao, cap, he, hb⟩
  clear hTN hWO hv hf0 hf1 HT0
  simp only [Bool.and_eq_true, decide_eq_true_eq] at hh
  obtain ⟨⟨rfl, h4⟩, hle⟩ := hh
  have h4b : ¬ p1 < 4 := by omega
  have hle2 : ¬ (TN : Int) < p3 := by omega
  have HOK := hide_it hok
  have HO := hide_it ho
  clear hok ho
  have ht1 : 1 ≤ p3 := HP3.out rfl
  have HVB : Hid (∀ b, w.heap.size ≤ b → some b ≠ (Value.slice av rs.length cv).ownBlock) := fun b hb e => by have := (HO.out.lt b e.symm).2; omega
  have B0 : Hid (Below w.heap.size w w) := Below.refl _ _
  go_enter Tryz.func15, Tryz.ntmps15
  obtain ⟨w1, hw1⟩ : ∃ W, Hid (W = ((w.alloc (.cells #[.bool true, .slice av rs.length cv, .int .i64 f, .slice au ws.length cu] 36)).alloc (.cells #[.int .i64 p1, .int .i64 p2, .int .i64 p3, .int .i64 p4] 39)).alloc (.cells #[.bool false, .slice none 0 0, .int .i64 0, .slice none 0 0] 36)) := ⟨_, rfl⟩
  have alw1 : Below w.heap.size w w1 := by rw [hw1.out]; exact below3 _ _ _ _
  replace B0 := hide_it (B0.out.trans (alw1.mono B0.out.size))
  have D : Hid (Blk w1 (w.heap.size) #[.bool true, .slice av rs.length cv, .int .i64 f, .slice au ws.length cu] 36) := by show Blk _ _ _ _; rw [hw1.out]; exact ((Blk.new _ _ _).alloc _).alloc _
  have P : Hid (Blk w1 (w.heap.size + 1) #[.int .i64 p1, .int .i64 p2, .int .i64 p3, .int .i64 p4] 39) := by show Blk _ _ _ _; rw [hw1.out]; exact (Blk.new2 _ _ _ _).alloc _
  have Z : Hid (Blk w1 (w.heap.size + 1 + 1) #[.bool false, .slice none 0 0, .int .i64 0, .slice none 0 0] 36) := by show Blk _ _ _ _; rw [hw1.out]; exact Blk.new3 _ _ _ _ _
  clear alw1
  obtain ⟨D_0, D_1, D_2, D_3⟩ := D.out.cells4
  obtain ⟨P_0, P_1, P_2, P_3⟩ := P.out.cells4
  go_wp2_with fail
  rw [← hw1.out]
  have KB : Hid (∀ W, Below w1.heap.size w1 W → (W.cell? ⟨w.heap.size, 0, none⟩ = some (.bool true) ∧ W.cell? ⟨w.heap.size, 1, none⟩ = some (.slice av rs.length cv) ∧ W.cell? ⟨w.heap.size, 2, none⟩ = some (.int .i64 f) ∧ W.cell? ⟨w.heap.size, 3, none⟩ = some (.slice au ws.length cu)) ∧ (W.cell? ⟨w.heap.size + 1, 0, none⟩ = some (.int .i64 p1) ∧ W.cell? ⟨w.heap.size + 1, 1, none⟩ = some (.int .i64 p2) ∧ W.cell? ⟨w.heap.size + 1, 2, none⟩ = some (.int .i64 p3) ∧ W.cell? ⟨w.heap.size + 1, 3, none⟩ = some (.int .i64 p4))) := fun W hb => ⟨(D.out.after hb).cells4, (P.out.after hb).cells4⟩
  clear D_0 D_1 D_2 D_3 P_0 P_1 P_2 P_3
  have LB : Hid (Below w1.heap.size w1 w1) := Below.refl _ _
  have hdr : Below w1.heap.size w1 w1.drew := (Below.refl _ _).drew
  replace B0 := hide_it (B0.out.trans (hdr.mono B0.out.size))
  replace D := hide_it (D.out.after hdr)
  replace P := hide_it (P.out.after hdr)
  replace Z := hide_it (Z.out.after hdr)
  replace LB := hide_it (LB.out.trans (hdr.mono LB.out.size))
  clear hdr
  refine wp_region_held_drew (S := fun w' => (w'.cell? ⟨w.heap.size, 0, none⟩ = some (.bool true) ∧ w'.cell? ⟨w.heap.size, 1, none⟩ = some (.slice av rs.length cv) ∧ w'.cell? ⟨w.heap.size, 2, none⟩ = some (.int .i64 f) ∧ w'.cell? ⟨w.heap.size, 3, none⟩ = some (.slice au ws.length cu)) ∧ (w'.cell? ⟨w.heap.size + 1, 0, none⟩ = some (.int .i64 p1) ∧ w'.cell? ⟨w.heap.size + 1, 1, none⟩ = some (.int .i64 p2) ∧ w'.cell? ⟨w.heap.size + 1, 2, none⟩ = some (.int .i64 p3) ∧ w'.cell? ⟨w.heap.size + 1, 3, none⟩ = some (.int .i64 p4))) (by kernel_rfl) (KB.out _ (Below.refl _ _).drew) (fun hHeld => ?_)
  refine takeD (i := 0) (v := ?_) (some 5) rfl rfl (by kernel_rfl) (by kernel_rfl) (by kernel_rfl) (fun _ _ _ h => h) (by rfl) hHeld ?_ ?_
  rotate_left
  · intro W hSw
    try dsimp only at hSw
    go_simp
    try with_reducible rfl
  try simp only [Act.put]
  try simp only [List.setIfInBounds_toArray]
  try simp only [List.set_cons_succ]
  try simp only [List.set_cons_zero]
  refine takeD (i := 1) (v := ?_) (some 6) rfl rfl (by kernel_rfl) (by kernel_rfl) (by kernel_rfl) (fun _ _ _ h => h) (by rfl) hHeld ?_ ?_
  rotate_left
  · intro W hSw
    try dsimp only at hSw
    go_simp
    try with_reducible rfl
  try simp only [Act.put]
  try simp only [List.setIfInBounds_toArray]
  try simp only [List.set_cons_succ]
  try simp only [List.set_cons_zero]
  refine takeD (i := 2) (v := ?_) (some 7) rfl rfl (by kernel_rfl) (by kernel_rfl) (by kernel_rfl) (fun _ _ _ h => h) (by rfl) hHeld ?_ ?_
  rotate_left
  · intro W hSw
    try dsimp only at hSw
    go_simp
    try with_reducible rfl
  try simp only [Act.put]
  try simp only [List.setIfInBounds_toArray]
  try simp only [List.set_cons_succ]
  try simp only [List.set_cons_zero]
  refine takeD (i := 3) (v := .bool false) (some 8) rfl rfl (by kernel_rfl) (by kernel_rfl) (by kernel_rfl) (fun _ _ _ h => h) (by rfl) hHeld ?_ ?_
  · intro W hSw
    try dsimp only at hSw
    first | (go_simp; done) | (go_simp; simp; done) | (go_simp; omega) | (go_simp; simp [*])
  try simp only [Act.put]
  try simp only [List.setIfInBounds_toArray]
  try simp only [List.set_cons_succ]
  try simp only [List.set_cons_zero]
  refine takeD (i := 4) (v := ?_) (some 9) rfl rfl (by kernel_rfl) (by kernel_rfl) (by kernel_rfl) (fun _ _ _ h => h) (by rfl) hHeld ?_ ?_
  rotate_left
  · intro W hSw
    try dsimp only at hSw
    go_simp
    try with_reducible rfl
  try simp only [Act.put]
  try simp only [List.setIfInBounds_toArray]
  try simp only [List.set_cons_succ]
  try simp only [List.set_cons_zero]
  refine wpAnyH_ready (rs := [5]) (by kernel_rfl) (by simp) ?_
  refine AllReadyH.cons rfl (fun K hK => ?_) AllReadyH.nil
  go_simp
  refine (HWO.out _).mono ?_
  rintro e w2 ⟨rfl, hb⟩
  replace B0 := hide_it (B0.out.trans (hb.mono B0.out.size))
  replace D := hide_it (D.out.after hb)
  replace P := hide_it (P.out.after hb)
  replace Z := hide_it (Z.out.after hb)
  replace LB := hide_it (LB.out.trans (hb.mono LB.out.size))
  clear hb
  try dsimp only
  refine hK.out _ _ (KB.out _ LB.out) (fun hHeld => ?_)
  clear hK K
  refine takeD (i := 6) (v := ?_) (some 11) rfl rfl (by kernel_rfl) (by kernel_rfl) (by kernel_rfl) (fun _ _ _ h => h) (by rfl) hHeld ?_ ?_
  rotate_left
  · intro W hSw
    try dsimp only at hSw
    go_simp
    try with_reducible rfl
  try simp only [Act.put]
  try simp only [List.setIfInBounds_toArray]
  try simp only [List.set_cons_succ]
  try simp only [List.set_cons_zero]
  refine takeD (i := 7) (v := ?_) (some 12) rfl rfl (by kernel_rfl) (by kernel_rfl) (by kernel_rfl) (fun _ _ _ h => h) (by rfl) hHeld ?_ ?_
  rotate_left
  · intro W hSw
    try dsimp only at hSw
    go_simp
    try with_reducible rfl
  try simp only [Act.put]
  try simp only [List.setIfInBounds_toArray]
  try simp only [List.set_cons_succ]
  try simp only [List.set_cons_zero]
  refine takeD (i := 8) (v := .bool false) (some 13) rfl rfl (by kernel_rfl) (by kernel_rfl) (by kernel_rfl) (fun _ _ _ h => h) (by rfl) hHeld ?_ ?_
  · intro W hSw
    try dsimp only at hSw
    first | (go_simp; done) | (go_simp; simp; done) | (go_simp; omega) | (go_simp; simp [*])
  try simp only [Act.put]
  try simp only [List.setIfInBounds_toArray]
  try simp only [List.set_cons_succ]
  try simp only [List.set_cons_zero]
  refine takeD (i := 9) (v := ?_) (some 14) rfl rfl (by kernel_rfl) (by kernel_rfl) (by kernel_rfl) (fun _ _ _ h => h) (by rfl) hHeld ?_ ?_
  rotate_left
  · intro W hSw
    try dsimp only at hSw
    go_simp
    try with_reducible rfl
  try simp only [Act.put]
  try simp only [List.setIfInBounds_toArray]
  try simp only [List.set_cons_succ]
  try simp only [List.set_cons_zero]
  refine takeD (i := 10) (v := ?_) (some 15) rfl rfl (by kernel_rfl) (by kernel_rfl) (by kernel_rfl) (fun _ _ _ h => h) (by rfl) hHeld ?_ ?_
  rotate_left
  · intro W hSw
    try dsimp only at hSw
    go_simp
    try with_reducible rfl
  try simp only [Act.put]
  try simp only [List.setIfInBounds_toArray]
  try simp only [List.set_cons_succ]
  try simp only [List.set_cons_zero]
  refine takeD (i := 11) (v := .bool false) (some 16) rfl rfl (by kernel_rfl) (by kernel_rfl) (by kernel_rfl) (fun _ _ _ h => h) (by rfl) hHeld ?_ ?_
  · intro W hSw
    try dsimp only at hSw
    first | (go_simp; done) | (go_simp; simp; done) | (go_simp; omega) | (go_simp; simp [*])
  try simp only [Act.put]
  try simp only [List.setIfInBounds_toArray]
  try simp only [List.set_cons_succ]
  try simp only [List.set_cons_zero]
  refine takeD (i := 12) (v := ?_) (some 17) rfl rfl (by kernel_rfl) (by kernel_rfl) (by kernel_rfl) (fun _ _ _ h => h) (by rfl) hHeld ?_ ?_
  rotate_left
  · intro W hSw
    try dsimp only at hSw
    go_simp
    try with_reducible rfl
  try simp only [Act.put]
  try simp only [List.setIfInBounds_toArray]
  try simp only [List.set_cons_succ]
  try simp only [List.set_cons_zero]
  refine takeD (i := 13) (v := .bool false) (some 18) rfl rfl (by kernel_rfl) (by kernel_rfl) (by kernel_rfl) (fun _ _ _ h => h) (by rfl) hHeld ?_ ?_
  · intro W hSw
    try dsimp only at hSw
    first | (go_simp; done) | (go_simp; simp; done) | (go_simp; omega) | (go_simp; simp [*])
  try simp only [Act.put]
  try simp only [List.setIfInBounds_toArray]
  try simp only [List.set_cons_succ]
  try simp only [List.set_cons_zero]
  refine takeD (i := 14) (v := ?_) (some 19) rfl rfl (by kernel_rfl) (by kernel_rfl) (by kernel_rfl) (fun _ _ _ h => h) (by rfl) hHeld ?_ ?_
  rotate_left
  · intro W hSw
    try dsimp only at hSw
    go_simp
    try with_reducible rfl
  try simp only [Act.put]
  try simp only [List.setIfInBounds_toArray]
  try simp only [List.set_cons_succ]
  try simp only [List.set_cons_zero]
  refine takeD (i := 15) (v := ?_) (some 20) rfl rfl (by kernel_rfl) (by kernel_rfl) (by kernel_rfl) (fun _ _ _ h => h) (by rfl) hHeld ?_ ?_
  rotate_left
  · intro W hSw
    try dsimp only at hSw
    go_simp
    try with_reducible rfl
  try simp only [Act.put]
  try simp only [List.setIfInBounds_toArray]
  try simp only [List.set_cons_succ]
  try simp only [List.set_cons_zero]
  refine takeD (i := 16) (v := ?_) (some 21) rfl rfl (by kernel_rfl) (by kernel_rfl) (by kernel_rfl) (fun _ _ _ h => h) (by rfl) hHeld ?_ ?_
  rotate_left
  · intro W hSw
    try dsimp only at hSw
    go_simp
    try with_reducible rfl
  try simp only [Act.put]
  try simp only [List.setIfInBounds_toArray]
  try simp only [List.set_cons_succ]
  try simp only [List.set_cons_zero]
  refine wpAnyH_ready (rs := [17]) (by kernel_rfl) (by simp) ?_
  refine AllReadyH.cons rfl (fun K hK => ?_) AllReadyH.nil
  go_simp
  refine (HT1.out _ B0.out).mono ?_
  rintro e w3 ⟨ao, cap, rfl, hb⟩
  replace B0 := hide_it (B0.out.trans (hb.mono B0.out.size))
  replace D := hide_it (D.out.after hb)
  replace P := hide_it (P.out.after hb)
  replace Z := hide_it (Z.out.after hb)
  replace LB := hide_it (LB.out.trans (hb.mono LB.out.size))
  clear hb
  try dsimp only
  refine hK.out _ _ (KB.out _ LB.out) (fun hHeld => ?_)
  clear hK K
  refine takeD (i := 18) (v := ?_) (some 23) rfl rfl (by kernel_rfl) (by kernel_rfl) (by kernel_rfl) (fun _ _ _ h => h) (by rfl) hHeld ?_ ?_
  rotate_left
  · intro W hSw
    try dsimp only at hSw
    go_simp
    try with_reducible rfl
  try simp only [Act.put]
  try simp only [List.setIfInBounds_toArray]
  try simp only [List.set_cons_succ]
  try simp only [List.set_cons_zero]
  refine takeD (i := 19) (v := .bool false) (some 24) rfl rfl (by kernel_rfl) (by kernel_rfl) (by kernel_rfl) (fun _ _ _ h => h) (by rfl) hHeld ?_ ?_
  · intro W hSw
    try dsimp only at hSw
    first | (go_simp; done) | (go_simp; simp; done) | (go_simp; omega) | (go_simp; simp [*])
  try simp only [Act.put]
  try simp only [List.setIfInBounds_toArray]
  try simp only [List.set_cons_succ]
  try simp only [List.set_cons_zero]
  refine takeD (i := 20) (v := ?_) (some 25) rfl rfl (by kernel_rfl) (by kernel_rfl) (by kernel_rfl) (fun _ _ _ h => h) (by rfl) hHeld ?_ ?_
  rotate_left
  · intro W hSw
    try dsimp only at hSw
    go_simp
    try with_reducible rfl
  try simp only [Act.put]
  try simp only [List.setIfInBounds_toArray]
  try simp only [List.set_cons_succ]
  try simp only [List.set_cons_zero]
  refine wpAnyH_done (by kernel_rfl) ?_ _
  clear KB LB
  obtain ⟨D_0, D_1, D_2, D_3⟩ := D.out.cells4
  obtain ⟨P_0, P_1, P_2, P_3⟩ := P.out.cells4
  go_wp2_with fail
  refine (HLT.out _ B0.out).mono ?_
  rintro e w4 ⟨rfl, hb⟩
  clear D_0 D_1 D_2 D_3 P_0 P_1 P_2 P_3
  replace B0 := hide_it (B0.out.trans (hb.mono B0.out.size))
  replace D := hide_it (D.out.after hb)
  replace P := hide_it (P.out.after hb)
  replace Z := hide_it (Z.out.after hb)
  clear hb
  obtain ⟨D_0, D_1, D_2, D_3⟩ := D.out.cells4
  obtain ⟨P_0, P_1, P_2, P_3⟩ := P.out.cells4
  go_wp2_with (at_builtin; refine wpList_append_words rfl _ _ rfl lo (.slice au ws.length cu) (.slice (some ⟨w4.heap.size, 0, none⟩) 1 1) ws.length (wflat ws) [(p1, p2, p3, p4)] rfl rfl ((ownsRow_below HUR.out B0.out (fun j hj => (HUR.out.lt j hj).2)).alloc _) ?c1 (by simp; omega) (by have := B0.out.size; simp; omega) ?_)
  case c1 =>
    refine Or.inr ⟨w4.heap.size, 0, 1, rfl, by simp, fun k hk => ?_⟩
    have h0 : k = 0 := by simp at hk; exact hk
    subst h0
    simp [go_sem]
  intro a5 c5 w5 hown hgrow
  try simp only [List.length_cons, List.length_nil, Nat.zero_add] at hown
  try simp only [List.length_cons, List.length_nil, Nat.zero_add]
  clear D_0 D_1 D_2 D_3 P_0 P_1 P_2 P_3
  have hzs := D.out.lt
  have hzs2 := Z.out.lt
  have HNE : ∀ b, w.heap.size ≤ b → some b ≠ (Value.slice au ws.length cu).ownBlock := fun b hb e => by have := (HUR.out.lt b e.symm).2; omega
  have D5 := hide_it ((D.out.alloc (.cells #[.int .i64 p1, .int .i64 p2, .int .i64 p3, .int .i64 p4] 39)).grown hgrow (HNE _ (Nat.le_refl _)))
  have P5 := hide_it ((P.out.alloc (.cells #[.int .i64 p1, .int .i64 p2, .int .i64 p3, .int .i64 p4] 39)).grown hgrow (HNE _ (by omega)))
  have Z5 := hide_it ((Z.out.alloc (.cells #[.int .i64 p1, .int .i64 p2, .int .i64 p3, .int .i64 p4] 39)).grown hgrow (HNE _ (by omega)))
  have hrow4 := (ownsRow_below HUR.out B0.out (fun j hj => (HUR.out.lt j hj).2)).alloc (.cells #[.int .i64 p1, .int .i64 p2, .int .i64 p3, .int .i64 p4] 39)
  have K45 : Kept [39] _ w5 := Kept.of_row hrow4 hgrow (by decide)
  obtain ⟨w6, hw6⟩ : ∃ W, Hid (W = w5.setCell ⟨w.heap.size, 3, none⟩ (.slice a5 (ws.length + 1) c5)) := ⟨_, rfl⟩
  have K56 : Kept [36] w5 w6 := by rw [hw6.out]; exact Kept.set_ D5.out (by simp) _
  have hhi : hi ≤ w.heap.size := HOR.out.2.2.1
  have O6 : Hid (OwnRecs w6 lo hi (.slice av rs.length cv) ps) := K56.own (K45.own ((HOR.out.below B0.out hhi).below (alloc_below w4 _) (by have := B0.out.size; omega)) (by decide) (by decide)) (by decide) (by decide)
  have hpl2 : (ws ++ [((p1, p2, p3, p4) : Wd)]).length = ws.length + 1 := by simp
  have U6 : Hid (w6.ownsRow lo 39 4 (.slice a5 (ws.length + 1) c5) (ws ++ [((p1, p2, p3, p4) : Wd)]).length (wflat (ws ++ [((p1, p2, p3, p4) : Wd)]))) := by
    rw [hpl2, wflat_append]; exact K56.row hown (by decide)
  have B5 : Below lo w w5 := ((B0.out.mono hlo).alloc (by have := B0.out.size; omega) _).grown hgrow (by have := B0.out.size; simp; omega) (fun j hj => (HUR.out.lt j hj).1)
  have B6 : Hid (Below lo w w6) := by show Below _ _ _; rw [hw6.out]; exact B5.setCell (by simpa using hlo) _
  have R6 : Hid (Recs w6 (.slice av rs.length cv) rs) := by have := O6.out.recs; rw [HPS.out] at this; exact this
  have V6 : Hid (w6.ownsRow lo 81 3 (.slice av rs.length cv) rs.length (flat ps)) := by have := O6.out.1; rw [HPL.out] at this; exact this
  have Z6 : Hid (Blk w6 (w.heap.size + 1 + 1) #[.bool false, .slice none 0 0, .int .i64 0, .slice none 0 0] 36) := by show Blk _ _ _ _; rw [hw6.out]; exact Z5.out.other (show w.heap.size + 1 + 1 ≠ w.heap.size by omega) _
  have D6 : Hid (Blk w6 w.heap.size #[.bool true, .slice av rs.length cv, .int .i64 f, .slice a5 (ws.length + 1) c5] 36) := by show Blk _ _ _ _; rw [hw6.out]; exact D5.out.set_ 3 _
  have P6 : Hid (Blk w6 (w.heap.size + 1) #[.int .i64 p1, .int .i64 p2, .int .i64 p3, .int .i64 p4] 39) := by show Blk _ _ _ _; rw [hw6.out]; exact P5.out.other (show w.heap.size + 1 ≠ w.heap.size by omega) _
  have I6 : Hid (DkIn w6 (.slice av rs.length cv) (.slice a5 (ws.length + 1) c5) rs (ws ++ [((p1, p2, p3, p4) : Wd)])) := ⟨⟨R6.out, words_of_row U6.out⟩, HFO.out, form_of_row U6.out⟩
  have HDG := hide_it (l13Decide_g _ f _ (flat ps) rs (ws ++ [((p1, p2, p3, p4) : Wd)]) p3 lo w6 I6.out V6.out (Nat.le_trans hlo B6.out.size) hl (by rw [hpl2]; exact hlw2) HOK2.out ⟨ht1, by rw [HTN.out]; exact hle⟩)
  have hs6 : w.heap.size ≤ w6.heap.size := B6.out.size
  have HS6 := hide_it (show w.heap.size + 2 < w6.heap.size from Z6.out.lt)
  clear hown hgrow hrow4 K45 K56 B5 hhi HNE
  obtain ⟨d0, d1, d2, d3⟩ := D5.out.cells4
  obtain ⟨df0, df1, df2, df3⟩ := D5.out.free4
  obtain ⟨e0, e1, e2, e3⟩ := P5.out.cells4
  have hnp : ¬ w.heap.size + 1 = w.heap.size := by omega
  go_wp2_with fail
  rw [← hw6.out]
  refine HDG.out.mono ?_
  rintro e w7 hd
  clear d0 d1 d2 d3 df0 df1 df2 df3 e0 e1 e2 e3
  rcases hd with ⟨hk0, rfl, hb⟩ | ⟨hk0, g, c3, x, rfl, hown, hgrow, hloc, hrow⟩
  · have HR : Hid (hearR rs f (ws ++ [((p1, p2, p3, p4) : Wd)]) p3 = rs) := by show _ = _; unfold hearR; rw [if_pos hk0]
    clear hk0
    have Z7 := hide_it (Z6.out.after hb)
    have O7 := hide_it (O6.out.below hb (Nat.le_trans HOR.out.2.2.1 hs6))
    have U7 := hide_it (ownsRow_below U6.out hb (fun j hj => (U6.out.lt j hj).2))
    have B7 := hide_it (B6.out.trans (hb.mono (Nat.le_trans hlo hs6)))
    have hs7 := hb.size
    clear hb
    obtain ⟨z0, z1, z2, z3⟩ := Z7.out.cells4
    obtain ⟨zf0, zf1, zf2, zf3⟩ := Z7.out.free4
    go_wp2
    refine bodyPost_ret (v := deskV true (.slice av rs.length cv) f (.slice a5 (ws.length + 1) c5)) (by simp [results, Tryz.results15, deskV, go_sem, *]) rfl ?_
    obtain ⟨q3, q4⟩ := kept_set4 Z7.out (.bool true) (.slice av rs.length cv) (.int .i64 f) (.slice a5 (ws.length + 1) c5)
    have h9 := q3.own O7.out (by decide) (by decide)
    refine ⟨_, _, ps, rfl, by rw [HR.out]; exact HPS.out, h9.1, fun q hq => (h9.2.2.2.1 q hq).1, q3.row U7.out (by decide), ?_⟩
    exact (((B7.out.setCell (by simp; omega) _).setCell (by simp; omega) _).setCell (by simp; omega) _).setCell (by simp; omega) _
  · have HR : Hid (hearR rs f (ws ++ [((p1, p2, p3, p4) : Wd)]) p3 = rs ++ [(hearK rs f (ws ++ [((p1, p2, p3, p4) : Wd)]) p3, p3, [])]) := by show _ = _; unfold hearR; rw [if_neg hk0]
    have hvl : ∀ j, (Value.slice av rs.length cv).ownBlock = some j → lo ≤ j ∧ j < w.heap.size := fun j hj => ⟨(HO.out.lt j hj).1, (HO.out.lt j hj).2⟩
    have K67 : Kept [81] w6 w7 := Kept.of_row V6.out hgrow (by decide)
    have I7 := hide_it (K67.inner O6.out.2.2 (by decide))
    have U7 := hide_it (K67.row U6.out (by decide))
    have Z7 := hide_it (K67.blk Z6.out (by decide))
    have O7 := hide_it hown
    have B7 : Hid (Below lo w w7) := B6.out.grown hgrow (Nat.le_trans hlo hs6) (fun j hj => (hvl j hj).1)
    have hs7 := hgrow.size
    obtain ⟨KK, hKK⟩ : ∃ k, hearK rs f (ws ++ [((p1, p2, p3, p4) : Wd)]) p3 = k := ⟨_, rfl⟩
    rw [hKK] at HR O7
    have X7 := hide_it (ownsRow_base hrow (Nat.le_trans hlo hs6))
    clear hk0 hown hgrow hloc hrow K67 hvl hKK
    obtain ⟨z0, z1, z2, z3⟩ := Z7.out.cells4
    obtain ⟨zf0, zf1, zf2, zf3⟩ := Z7.out.free4
    go_wp2
    refine bodyPost_ret (v := deskV true (.slice (some ⟨g, 0, none⟩) (rs.length + 1) c3) f (.slice a5 (ws.length + 1) c5)) (by simp [results, Tryz.results15, deskV, go_sem, *]) rfl ?_
    obtain ⟨q3, q4⟩ := kept_set4 Z7.out (.bool true) (.slice (some ⟨g, 0, none⟩) (rs.length + 1) c3) (.int .i64 f) (.slice a5 (ws.length + 1) c5)
    have h8 := q3.row O7.out (by decide)
    have i8 := q3.inner I7.out (by decide)
    have r8 := q3.row X7.out (by decide)
    have hlen : (ps ++ [(((KK, p3, []) : R), Value.slice (some ⟨x, 0, none⟩) 0 0)]).length = rs.length + 1 := by rw [List.length_append, HPL.out]; rfl
    refine ⟨_, _, ps ++ [(((KK, p3, []) : R), Value.slice (some ⟨x, 0, none⟩) 0 0)], rfl, by rw [List.map_append, HPS.out, HR.out]; rfl, by rw [hlen, flat_append]; exact h8, fun q hq => ?_, q3.row U7.out (by decide), ?_⟩
    · rcases List.mem_append.1 hq with hq | hq
      · exact (i8.2.1 q hq).1
      · simp at hq; subst hq; exact r8
    · exact (((B7.out.setCell (by simp; omega) _).setCell (by simp; omega) _).setCell (by simp; omega) _).setCell (by simp; omega) _

end Go.Proofs.YtgknnigjlnfplaaGreatDoor

namespace Go.Proofs.YtgknnigjlnfplaaGreatDoor
open Go.RowKit

theorem nodup_len : ∀ (n : Nat) (l : List Nat), l.Nodup → (∀ x ∈ l, x < n) → l.length ≤ n
  | 0, l, _, h => by
    cases l with
    | nil => simp
    | cons a l => exact absurd (h a (by simp)) (by omega)
  | n + 1, l, hn, h => by
    by_cases hm : n ∈ l
    · have h1 := nodup_len n (l.erase n) (hn.erase n) (fun x hx => by
        have h2 := (List.Nodup.mem_erase_iff hn).1 hx
        have h3 := h x h2.2
        have := h2.1
        omega)
      rw [List.length_erase_of_mem hm] at h1
      omega
    · have h1 := nodup_len n l hn (fun x hx => by
        have h3 := h x hx
        have : x ≠ n := fun e => hm (e ▸ hx)
        omega)
      omega
/-- A desk was told at most 72 words. -/
theorem toldOk_len {n : Int} {ws : List Wd} (h : toldOk n ws = true) : ws.length ≤ 72 := by
  have ha := List.all_eq_true.1 (toldOk_all h)
  have hn : ws.Nodup := by unfold toldOk at h; simp only [Bool.and_eq_true, decide_eq_true_eq] at h; exact h.2
  have parts : ∀ p ∈ ws, 4 ≤ p.1 ∧ p.1 ≤ 7 ∧ 1 ≤ p.2.1 ∧ p.2.1 ≤ 3 ∧ 1 ≤ p.2.2.1 ∧ p.2.2.1 ≤ 6 ∧ p.2.2.2 = 0 := fun p hp => by
    have h1 := ha p hp
    unfold ansOk at h1
    simp only [Bool.and_eq_true, decide_eq_true_eq] at h1
    obtain ⟨a, b, c, d⟩ := wOk_parts h1.1.1
    refine ⟨h1.1.2, a.2, b.1, b.2, c.1, c.2, ?_⟩
    rw [Pl.wMany_0 _ (by omega)] at d
    simpa using d
  let c : Wd → Nat := fun p => ((p.1 - 4) * 18 + (p.2.1 - 1) * 6 + (p.2.2.1 - 1)).toNat
  have hc : (ws.map c).Nodup := by
    unfold List.Nodup
    rw [List.pairwise_map]
    refine List.Pairwise.imp_of_mem (fun {a b} hA hB hne e => hne ?_) hn
    obtain ⟨a1, a2, a3, a4, a5, a6, a7⟩ := parts a hA
    obtain ⟨b1, b2, b3, b4, b5, b6, b7⟩ := parts b hB
    obtain ⟨x1, x2, x3, x4⟩ := a
    obtain ⟨y1, y2, y3, y4⟩ := b
    simp only [c] at e a1 a2 a3 a4 a5 a6 a7 b1 b2 b3 b4 b5 b6 b7
    simp only [Prod.mk.injEq]
    omega
  have := nodup_len 72 (ws.map c) hc (fun x hx => by
    obtain ⟨p, hp, rfl⟩ := List.mem_map.1 hx
    obtain ⟨a1, a2, a3, a4, a5, a6, a7⟩ := parts p hp
    simp only [c]
    omega)
  simpa using this

/-- A desk comes back that reads as this one. -/
def ShO (w w' : World) (e : Ending) (lo : Nat) (o : Dk) : Prop :=
  ∃ v' u' qs, e = .returned (deskV o.1 v' o.2.2.1 u') ∧ qs.map (·.1) = o.2.1 ∧ w'.ownsRow lo 81 3 v' qs.length (flat qs) ∧ (∀ q ∈ qs, w'.ownsRow lo 3 1 q.2 q.1.2.2.length (q.1.2.2.map (Value.int .i64))) ∧ w'.ownsRow lo 39 4 u' o.2.2.2.length (wflat o.2.2.2) ∧ Below lo w w'

theorem l13Hear_all (up : Bool) (lo l hi : Nat) (ps : List (R × Value)) (v : Value) (f : Int) (u : Value) (rs : List R) (ws : List Wd) (p : Wd) (w : World)
    (hv : DkIn w v u rs ws) (hl : tot rs ≤ 1048576) (hll : lo ≤ l) (hlo : lo ≤ w.heap.size) (hor : OwnRecs w l hi v ps) (hps : ps.map (·.1) = rs) (hu : w.ownsRow lo 39 4 u ws.length (wflat ws)) (hok : dkOk up rs f ws = true) :
    Calls Tryz.prog 15 #[deskV up v f u, wordV p.1 p.2.1 p.2.2.1 p.2.2.2] w fun e w' => ShO w w' e lo (hearD up rs f ws p) := by
  have h72 := toldOk_len (dkOk_parts hok).2.2.1
  have hor' : OwnRecs w lo hi v ps := ⟨ownsRow_base hor.1 hll, hor.2.1, hor.2.2.1, fun q hq => ⟨ownsRow_base (hor.2.2.2.1 q hq).1 hll, (hor.2.2.2.1 q hq).2⟩, hor.2.2.2.2⟩
  have hhi : hi ≤ w.heap.size := hor.2.2.1
  unfold hearD
  by_cases hh : dkHears up rs p = true
  · rw [if_pos hh]
    obtain rfl : up = true := by unfold dkHears at hh; simp only [Bool.and_eq_true] at hh; exact hh.1
    unfold hearW
    by_cases ht : ws.contains p = true
    · rw [if_pos ht]
      have hpl : ps.length = rs.length := by have := congrArg List.length hps; simpa using this
      have ho : w.ownsRow lo 81 3 v rs.length (flat ps) := by rw [← hpl]; exact hor'.1
      refine (l13Hear_told (flat ps) lo v f u rs ws p w hv hl (by omega) ho hlo hok hh ht).mono ?_
      rintro e w' hd
      rcases hd with ⟨hk0, rfl, hb⟩ | ⟨hk0, g, c3, x, rfl, hown, hgrow, hloc, hrow⟩
      · have o' := hor'.below hb hhi
        refine ⟨v, u, ps, rfl, ?_, o'.1, fun q hq => (o'.2.2.2.1 q hq).1, ownsRow_below hu hb (fun j hj => (hu.lt j hj).2), hb.mono hlo⟩
        show ps.map (·.1) = hearR rs f ws p.2.2.1
        unfold hearR
        rw [if_pos hk0]
        exact hps
      · have K : Kept [81] w w' := Kept.of_row ho hgrow (by decide)
        have hi' := K.inner hor'.2.2 (by decide)
        have hlen : (ps ++ [(((hearK rs f ws p.2.2.1, p.2.2.1, []) : R), Value.slice (some ⟨x, 0, none⟩) 0 0)]).length = rs.length + 1 := by rw [List.length_append, hpl]; rfl
        refine ⟨_, u, ps ++ [(((hearK rs f ws p.2.2.1, p.2.2.1, []) : R), Value.slice (some ⟨x, 0, none⟩) 0 0)], rfl, ?_, by rw [hlen, flat_append]; exact hown, fun q hq => ?_, K.row hu (by decide), (Below.refl lo w).grown hgrow hlo (fun j hj => (ho.lt j hj).1)⟩
        · show _ = hearR rs f ws p.2.2.1
          unfold hearR
          rw [if_neg hk0, List.map_append, hps]; rfl
        · rcases List.mem_append.1 hq with hq | hq
          · exact (hi'.2.1 q hq).1
          · simp at hq; subst hq; exact ownsRow_base hrow hlo
    · rw [if_neg ht]
      have ht2 : ws.contains p = false := by simpa using ht
      refine (l13Hear_new lo hi ps v f u rs ws p w hv hl (by omega) hlo hok hh ht2 (by omega) hps hor' hu).mono ?_
      rintro e w' ⟨v', u', qs, rfl, h1, h2, h3, h4, h5⟩
      exact ⟨v', u', qs, rfl, h1, h2, h3, h4, h5⟩
  · rw [if_neg hh]
    have hh2 : dkHears up rs p = false := by simpa using hh
    refine (l13Hear_no up v f u rs ws p w hv hl hok hh2).mono ?_
    rintro e w' ⟨rfl, hb⟩
    have o' := hor'.below hb hhi
    exact ⟨v, u, ps, rfl, hps, o'.1, fun q hq => (o'.2.2.2.1 q hq).1, ownsRow_below hu hb (fun j hj => (hu.lt j hj).2), hb.mono hlo⟩

end Go.Proofs.YtgknnigjlnfplaaGreatDoor

namespace Go.Proofs.YtgknnigjlnfplaaGreatDoor
open Go.RowKit

set_option maxRecDepth 100000 in
set_option maxHeartbeats 4000000 in
theorem specDHear_any (up : Bool) (v u : Value) (rs : List R) (f : Int) (ws : List Wd) (p : Wd) (w : World) (hv : DkIn w v u rs ws) (hl : tot rs ≤ 1048576) (hlw : ws.length ≤ 1048576) :
    Calls Tryz.prog 5 #[deskV up v f u, wordV p.1 p.2.1 p.2.2.1 p.2.2.2] w fun e w' => ShO w w' e w.heap.size (dkHear up rs f ws p) := by
  have HV : Hid (∀ W, Below w.heap.size w W → DkIn W v u rs ws) := fun W h => hv.later h (Nat.le_refl _)
  have HOK : Hid (∀ W, Below w.heap.size w W → Calls Tryz.prog 14 #[deskV up v f u] W fun e w' => e = .returned (.bool (dkOk up rs f ws)) ∧ Below W.heap.size W w') := fun W h =>
    specDeskOk_any up v u rs f ws W (HV.out W h).1 hl hlw hv.2.2
  have HFM := hide_it hv.2
  obtain ⟨av, cv, au, cu, rfl, rfl⟩ := hv.1.shape
  clear hv
  obtain ⟨⟨UP, RS, F, WS⟩, hO⟩ : ∃ o : Dk, Hid (hearD up rs f ws p = o) := ⟨_, rfl⟩
  have HALL : Hid (∀ (lo : Nat) (a0 : Option Addr) (cap : Nat) (a2 : Option Addr) (c2 : Nat) (ps : List (R × Value)) (W : World), lo ≤ W.heap.size → ps.map (·.1) = rs → DkOwn W lo W.heap.size (.slice a0 rs.length cap) (.slice a2 ws.length c2) ps ws → dkOk up rs f ws = true → Calls Tryz.prog 15 #[deskV up (.slice a0 rs.length cap) f (.slice a2 ws.length c2), wordV p.1 p.2.1 p.2.2.1 p.2.2.2] W fun e w' => ShO W w' e lo (UP, RS, F, WS)) := fun lo a0 cap a2 c2 ps W hW hp ho hk => by
    have hin := ho.in_ hp
    obtain ⟨h0, l, t, h1, h2, h3, h4, h5⟩ := ho
    rw [← hO.out]
    exact l13Hear_all up lo l t ps _ f _ rs ws p W hin hl h1 hW h3 hp h4 hk
  obtain ⟨p1, p2, p3, p4⟩ := p
  simp only at HALL ⊢
  obtain ⟨w0, hw0⟩ : ∃ W, Hid (W = ((w.alloc (.cells #[.bool up, .slice av rs.length cv, .int .i64 f, .slice au ws.length cu] 36)).alloc (.cells #[.int .i64 p1, .int .i64 p2, .int .i64 p3, .int .i64 p4] 39)).alloc (.cells #[.bool false, .slice none 0 0, .int .i64 0, .slice none 0 0] 36)) := ⟨_, rfl⟩
  have B0 : Hid (Below w.heap.size w w0) := by show Below _ _ _; rw [hw0.out]; exact below3 _ _ _ _
  have X0 : Hid (Blk w0 w.heap.size #[.bool up, .slice av rs.length cv, .int .i64 f, .slice au ws.length cu] 36) := by show Blk _ _ _ _; rw [hw0.out]; exact ((Blk.new _ _ _).alloc _).alloc _
  have Y0 : Hid (Blk w0 (w.heap.size + 1) #[.int .i64 p1, .int .i64 p2, .int .i64 p3, .int .i64 p4] 39) := by show Blk _ _ _ _; rw [hw0.out]; exact (Blk.new2 _ _ _ _).alloc _
  have Z0 : Hid (Blk w0 (w.heap.size + 1 + 1) #[.bool false, .slice none 0 0, .int .i64 0, .slice none 0 0] 36) := by show Blk _ _ _ _; rw [hw0.out]; exact Blk.new3 _ _ _ _ _
  obtain ⟨KK, hKK⟩ : ∃ q, Hid (dkOk up rs f ws = q) := ⟨_, rfl⟩
  rw [hKK.out] at HOK HALL
  go_enter Tryz.func5, Tryz.ntmps5
  go_wp2_with fail
  rw [← hw0.out]
  refine (HOK.out _ B0.out).mono ?_
  rintro e w1 ⟨rfl, hb1⟩
  have X1 := hide_it (X0.out.after hb1)
  have Y1 := hide_it (Y0.out.after hb1)
  have Z1 := hide_it (Z0.out.after hb1)
  have B1 := hide_it (B0.out.trans (hb1.mono B0.out.size))
  clear hb1
  cases KK
  · have HR : Hid (dkHear up rs f ws (p1, p2, p3, p4) = dkZ) := by show _ = _; unfold dkHear; rw [hKK.out]; rfl
    obtain ⟨z0, z1, z2, z3⟩ := Z1.out.cells4
    obtain ⟨zf0, zf1, zf2, zf3⟩ := Z1.out.free4
    go_wp2
    refine bodyPost_ret (v := deskV false (.slice none 0 0) 0 (.slice none 0 0)) (by simp [results, Tryz.results5, go_sem, *]) rfl ?_
    rw [HR.out]
    refine ⟨.slice none 0 0, .slice none 0 0, [], rfl, rfl, World.ownsRow_nil _ _ _ _, (fun q hq => by simp at hq), World.ownsRow_nil _ _ _ _, ?_⟩
    iterate 4 (refine Below.setCell ?_ (by first | (simp; done) | (simp; omega)) _)
    exact B1.out
  have HR : Hid (dkHear up rs f ws (p1, p2, p3, p4) = (UP, RS, F, WS)) := by show _ = _; unfold dkHear; rw [hKK.out]; exact hO.out
  obtain ⟨x0, x1, x2, x3⟩ := X1.out.cells4
  obtain ⟨y0, y1, y2, y3⟩ := Y1.out.cells4
  go_wp2_with fail
  have KB : Hid (∀ W, Below w1.heap.size w1 W → (let w' := W; (w'.cell? ⟨w.heap.size, 0, none⟩ = some (.bool up) ∧ w'.cell? ⟨w.heap.size, 1, none⟩ = some (.slice av rs.length cv) ∧ w'.cell? ⟨w.heap.size, 2, none⟩ = some (.int .i64 f) ∧ w'.cell? ⟨w.heap.size, 3, none⟩ = some (.slice au ws.length cu)) ∧ (w'.cell? ⟨w.heap.size + 1, 0, none⟩ = some (.int .i64 p1) ∧ w'.cell? ⟨w.heap.size + 1, 1, none⟩ = some (.int .i64 p2) ∧ w'.cell? ⟨w.heap.size + 1, 2, none⟩ = some (.int .i64 p3) ∧ w'.cell? ⟨w.heap.size + 1, 3, none⟩ = some (.int .i64 p4)))) := fun W hb => ⟨(X1.out.after hb).cells4, (Y1.out.after hb).cells4⟩
  have hs1 := Z1.out.lt
  clear x0 x1 x2 x3 y0 y1 y2 y3
  refine wp_region_held_drew (S := fun w' => (w'.cell? ⟨w.heap.size, 0, none⟩ = some (.bool up) ∧ w'.cell? ⟨w.heap.size, 1, none⟩ = some (.slice av rs.length cv) ∧ w'.cell? ⟨w.heap.size, 2, none⟩ = some (.int .i64 f) ∧ w'.cell? ⟨w.heap.size, 3, none⟩ = some (.slice au ws.length cu)) ∧ (w'.cell? ⟨w.heap.size + 1, 0, none⟩ = some (.int .i64 p1) ∧ w'.cell? ⟨w.heap.size + 1, 1, none⟩ = some (.int .i64 p2) ∧ w'.cell? ⟨w.heap.size + 1, 2, none⟩ = some (.int .i64 p3) ∧ w'.cell? ⟨w.heap.size + 1, 3, none⟩ = some (.int .i64 p4))) (by kernel_rfl) (KB.out _ (Below.refl _ _).drew) (fun hHeld => ?_)
  refine takeD (i := 0) (v := ?_) (some 9) rfl rfl (by kernel_rfl) (by kernel_rfl) (by kernel_rfl) (fun _ _ _ h => h) (by rfl) hHeld ?_ ?_
  rotate_left
  · intro W hSw
    try dsimp only at hSw
    go_simp
    try with_reducible rfl
  try simp only [Act.put]
  try simp only [List.setIfInBounds_toArray]
  try simp only [List.set_cons_succ]
  try simp only [List.set_cons_zero]
  refine takeD (i := 2) (v := ?_) (some 11) rfl rfl (by kernel_rfl) (by kernel_rfl) (by kernel_rfl) (fun _ _ _ h => h) (by rfl) hHeld ?_ ?_
  rotate_left
  · intro W hSw
    try dsimp only at hSw
    go_simp
    try with_reducible rfl
  try simp only [Act.put]
  try simp only [List.setIfInBounds_toArray]
  try simp only [List.set_cons_succ]
  try simp only [List.set_cons_zero]
  refine wpAnyH_ready (rs := [1]) (by kernel_rfl) (by simp) ?_
  refine AllReadyH.cons rfl (fun K hK => ?_) AllReadyH.nil
  go_simp
  refine (l13Copy_any up _ _ rs f ws _ (HV.out _ B1.out.drew).1 hl hlw).mono ?_
  rintro e w2 ⟨ao, cap, a2, c2, ps, rfl, hp2, ho2, hb2⟩
  have L2 : Hid (Below w1.heap.size w1 w2) := (Below.refl w1.heap.size w1).drew.trans hb2
  have HC := hide_it (HALL.out w1.heap.size ao cap a2 c2 ps w2 L2.out.size hp2 ho2 trivial)
  clear hp2 ho2 hb2
  try dsimp only
  refine hK.out _ _ (KB.out _ L2.out) (fun hHeld => ?_)
  clear hK K
  refine wpAnyH_ready (rs := [3]) (by kernel_rfl) (by simp) ?_
  refine AllReadyH.cons rfl (fun K hK => ?_) AllReadyH.nil
  go_simp
  refine HC.out.mono ?_
  rintro e w3 ⟨v', u', qs, rfl, hq3, r3, n3, s3, b3⟩
  obtain ⟨a8, c8, rfl⟩ := row_shape r3
  obtain ⟨a9, c9, rfl⟩ := row_shape s3
  have L3 : Hid (Below w1.heap.size w1 w3) := L2.out.trans b3
  have Q3 := hide_it hq3
  have R3 := hide_it r3
  have N3 := hide_it n3
  have S3 := hide_it s3
  clear r3 s3 b3 n3 hq3
  obtain ⟨n8, hn8⟩ : ∃ n, Hid (qs.length = n) := ⟨_, rfl⟩
  obtain ⟨n9, hn9⟩ : ∃ n, Hid (WS.length = n) := ⟨_, rfl⟩
  try simp only at S3 ⊢
  rw [hn8.out] at R3 ⊢
  rw [hn9.out] at S3 ⊢
  try dsimp only
  refine hK.out _ _ (KB.out _ L3.out) (fun hHeld => ?_)
  clear hK K
  have Z3 := hide_it (Z1.out.after L3.out)
  refine wpAnyH_ready (rs := [4]) (by kernel_rfl) (by simp) ?_
  refine AllReadyH.cons rfl (fun K hK => ?_) AllReadyH.nil
  go_simp
  obtain ⟨z0, z1, z2, z3⟩ := Z3.out.cells4
  obtain ⟨zf0, zf1, zf2, zf3⟩ := Z3.out.free4
  go_simp
  obtain ⟨w4, hw4⟩ : ∃ W, Hid (W = (((w3.setCell ⟨w.heap.size + 1 + 1, 0, none⟩ (.bool UP)).setCell ⟨w.heap.size + 1 + 1, 1, none⟩ (.slice a8 n8 c8)).setCell ⟨w.heap.size + 1 + 1, 2, none⟩ (.int .i64 F)).setCell ⟨w.heap.size + 1 + 1, 3, none⟩ (.slice a9 n9 c9)) := ⟨_, rfl⟩
  have Z4 : Hid (Blk w4 (w.heap.size + 1 + 1) #[.bool UP, .slice a8 n8 c8, .int .i64 F, .slice a9 n9 c9] 36) := by show Blk _ _ _ _; rw [hw4.out]; exact (((Z3.out.set_ 0 _).set_ 1 _).set_ 2 _).set_ 3 _
  have keep : ∀ {e : TypeId} {sz n : Nat} {x : Value} {xs : List Value}, w3.ownsRow w1.heap.size e sz x n xs → w4.ownsRow w.heap.size e sz x n xs := fun h => by
    rw [hw4.out]
    exact ownsRow_base (ownsRow_setCell_below (ownsRow_setCell_below (ownsRow_setCell_below (ownsRow_setCell_below h (by simpa using hs1) _) (by simpa using hs1) _) (by simpa using hs1) _) (by simpa using hs1) _) B1.out.size
  have R4 := hide_it (keep R3.out)
  have S4 := hide_it (keep S3.out)
  have N4 := hide_it (fun q hq => keep (N3.out q hq))
  have B4 : Hid (Below w.heap.size w w4) := by
    show Below _ _ _
    rw [hw4.out]
    iterate 4 (refine Below.setCell ?_ (by first | (simp; done) | (simp; omega)) _)
    exact B1.out.trans (L3.out.mono B1.out.size)
  rw [← hw4.out]
  clear z0 z1 z2 z3 zf0 zf1 zf2 zf3
  have LK : Hid (Below (w.heap.size + 1 + 1) w1 w4) := by
    show Below _ _ _
    rw [hw4.out]
    iterate 4 (refine Below.setCell ?_ (by simp) _)
    exact L3.out.mono (by omega)
  try dsimp only
  refine hK.out _ _ ⟨(X1.out.later LK.out (by omega)).cells4, (Y1.out.later LK.out (by omega)).cells4⟩ (fun hHeld => ?_)
  clear hK K
  refine wpAnyH_done (by kernel_rfl) ?_ _
  obtain ⟨z0, z1, z2, z3⟩ := Z4.out.cells4
  clear hHeld
  go_wp2
  refine bodyPost_ret (v := deskV UP (.slice a8 n8 c8) F (.slice a9 n9 c9)) (by simp [results, Tryz.results5, go_sem, *]) rfl ?_
  rw [HR.out]
  refine ⟨_, _, qs, rfl, Q3.out, ?_, N4.out, ?_, B4.out⟩
  · rw [hn8.out]; exact R4.out
  · show w4.ownsRow _ _ _ _ WS.length _
    rw [hn9.out]; exact S4.out

end Go.Proofs.YtgknnigjlnfplaaGreatDoor

namespace Go.Proofs.YtgknnigjlnfplaaGreatDoor
open Go.RowKit

def DeOut (w w' : World) (e : Ending) (c lo : Nat) (up : Bool) (f : Int) (u all forced : Value) (b : Nat) (rs : List R) (ws : List Wd) (ts : List T.R) : Prop :=
  e = .returned (.tuple #[]) ∧ ∃ a3 c3 ps3, ClAt w' c lo w'.heap.size up (.slice a3 rs.length c3) f u all forced (some b) ps3 rs ws ts ∧ Below lo w w'

set_option maxRecDepth 100000 in
set_option maxHeartbeats 8000000 in
theorem decide_any (c lo hi : Nat) (v : Value) (f : Int) (u all forced : Value) (b N : Nat) (ps : List (R × Value)) (rs : List R) (ws : List Wd) (t : Int) (a : Addr) (w : World)
    (hc : Ck w c lo hi true v f u all forced b N ps rs ws (T.ofO rs) (T.ofO (rs.take f.toNat))) (hlo : lo ≤ c) (hl : tot rs ≤ 1048576) (hok : dkOk true rs f ws = true) (ht : 1 ≤ t ∧ t ≤ (T.ofO rs).length) (ha : ErrAt w a) :
    Calls Tryz.prog 22 #[.pointer (some ⟨c, 0, none⟩), .int .i64 t] w fun e w' => DeOut w w' e c lo true f u all forced b (hearR rs f ws t) ws (T.ofO rs) := by
  have hfit := T.ofO_fit rs
  have h6 := hfit.1
  have hcl := hc.blk.lt
  have HDC := hide_it (decision_any c lo hi true v f u all forced b N ps rs ws _ _ t w hc hfit ht)
  obtain ⟨K, hK⟩ : ∃ K, hearK rs f ws t = K := ⟨_, rfl⟩
  have eK : decK ws t (T.tripAt (T.ofO rs) t) (decide ((T.tripAt (T.ofO (rs.take f.toNat)) t).2 = (T.tripAt (T.ofO rs) t).2)) = K := hK
  rw [eK] at HDC
  have HC : Hid (∀ W, Below w.heap.size w W → Ck W c lo hi true v f u all forced b N ps rs ws (T.ofO rs) (T.ofO (rs.take f.toNat))) := fun W h => hc.after h
  have HA : Hid (∀ W, Below w.heap.size w W → ErrAt W a) := fun W h => ha.later h (Nat.le_refl _)
  obtain ⟨af, cf, hff⟩ := hc.frc.recs.shape
  obtain ⟨av, cv, au, cu, rfl, rfl⟩ := (hc.own.at' hc.map).shape
  by_cases k0 : K = 0
  · have HR : Hid (hearR rs f ws t = rs) := by show _ = _; unfold hearR; rw [hK, if_pos k0]
    subst k0
    clear hc ha eK hK
    go_enter Tryz.func22, Tryz.ntmps22
    go_wp2_with fail
    refine HDC.out.mono ?_
    rintro e w1 ⟨rfl, hb⟩
    have L1 := hide_it hb
    clear hb
    go_wp2
    refine bodyPost_end (v := .tuple #[]) (by simp [results, Tryz.results22, go_sem]) rfl ⟨rfl, ?_⟩
    rw [HR.out]
    have C1 := HC.out w1 L1.out
    refine ⟨av, cv, ps, ⟨C1.blk, C1.map, C1.own.hi C1.own.1 (Nat.le_refl _), C1.all⟩, L1.out.mono (by omega)⟩
  · have HR : Hid (hearR rs f ws t = rs ++ [(K, t, [])]) := by show _ = _; unfold hearR; rw [hK, if_neg k0]
    have hmay : T.mayL (T.ofO rs) (K, t, []) = true := by
      have := decK_may (ws := ws) (t := t) (ts := T.ofO rs) (sure := sureT rs f t) (by show hearK rs f ws t ≠ 0; rw [hK]; exact k0)
      rw [show decK ws t (T.tripAt (T.ofO rs) t) (sureT rs f t) = K from hK] at this
      exact this
    have hrec : rOk (K, t, []) = true := by
      have := decK_rec (ws := ws) (t := t) (tr := T.tripAt (T.ofO rs) t) (sure := sureT rs f t) (by show hearK rs f ws t ≠ 0; rw [hK]; exact k0) (by omega)
      rw [show decK ws t (T.tripAt (T.ofO rs) t) (sureT rs f t) = K from hK] at this
      exact this
    have HM : Hid (dkMay true rs (K, t, []) = true) := by show _ = _; unfold dkMay; rw [hmay]; rfl
    have HW : Hid (∀ W, Below w.heap.size w W → Calls Tryz.prog 45 #[.pointer (some ⟨c, 0, none⟩), .agg #[.int .i64 K, .int .i64 t, .slice none 0 0]] W fun e w' => WrOut W w' e c lo true f (.slice au ws.length cu) all forced (some b) rs ws (T.ofO rs) (K, t, [])) := fun W h =>
      write_any c lo hi true _ f _ all forced (some b) ps rs ws (K, t, []) _ a W (HC.out W h).cl hlo ⟨_, _, _, hff⟩ hl (Or.inl ⟨rfl, none, 0, rfl, fun _ => rfl⟩) (by simp) hok hrec (HA.out W h)
    have hkn : (K == 0) = false := by simpa using k0
    clear hc ha eK hK hmay hrec
    go_enter Tryz.func22, Tryz.ntmps22
    go_wp2_with fail
    refine HDC.out.mono ?_
    rintro e w1 ⟨rfl, hb⟩
    have L1 := hide_it hb
    clear hb
    go_wp2_with fail
    refine (HW.out w1 L1.out).mono ?_
    rintro e w2 ho2
    rcases ho2 with ⟨hd, -, -⟩ | ⟨-, rfl, hM2, a3, c3, ps3, hC2⟩
    · rw [HM.out] at hd; cases hd
    · have C2 := hide_it hC2
      have M2 := hide_it hM2
      clear hC2 hM2
      go_wp2
      refine bodyPost_end (v := .tuple #[]) (by simp [results, Tryz.results22, go_sem]) rfl ⟨rfl, ?_⟩
      rw [HR.out]
      exact ⟨a3, c3, ps3, C2.out, (L1.out.mono (by omega)).trans (M2.out.below hlo (by have := L1.out.size; omega))⟩

set_option maxRecDepth 100000 in
set_option maxHeartbeats 8000000 in
theorem implDHear_any (up : Bool) (v u : Value) (rs : List R) (f : Int) (ws : List Wd) (p : Wd) (a : Addr) (w : World) (hv : DkIn w v u rs ws) (hl : tot rs ≤ 1048576) (hlw : ws.length ≤ 1048576) (ha : ErrAt w a) :
    Calls Tryz.prog 8 #[deskV up v f u, wordV p.1 p.2.1 p.2.2.1 p.2.2.2] w fun e w' => DkO w w' e (dkHear up rs f ws p) := by
  have HC : Hid (∀ W, Below w.heap.size w W → Calls Tryz.prog 19 #[deskV up v f u] W fun e w' => ClOut W w' e up rs f ws) := fun W h =>
    clerkOf_any up v u rs f ws a W (hv.1.later h (Nat.le_refl _)) hl hlw hv.2.1 (ha.later h (Nat.le_refl _))
  have HA : Hid (∀ W, Below w.heap.size w W → ErrAt W a) := fun W h => ha.later h (Nat.le_refl _)
  obtain ⟨av, cv, au, cu, rfl, rfl⟩ := hv.1.shape
  clear hv ha
  go_enter Tryz.func8, Tryz.ntmps8
  have B0 : Hid (Below w.heap.size w w) := Below.refl _ _
  obtain ⟨w1, hw1⟩ : ∃ W, Hid (W = ((w.alloc (.cells #[.bool up, .slice av rs.length cv, .int .i64 f, .slice au ws.length cu] 36)).alloc (.cells #[.int .i64 p.1, .int .i64 p.2.1, .int .i64 p.2.2.1, .int .i64 p.2.2.2] 39)).alloc (.cells #[.bool false, .slice none 0 0, .int .i64 0, .slice none 0 0] 36)) := ⟨_, rfl⟩
  have alw1 : Below w.heap.size w w1 := by rw [hw1.out]; exact below3 _ _ _ _
  replace B0 := hide_it (B0.out.trans (alw1.mono B0.out.size))
  have DX : Hid (Blk w1 (w.heap.size) #[.bool up, .slice av rs.length cv, .int .i64 f, .slice au ws.length cu] 36) := by show Blk _ _ _ _; rw [hw1.out]; exact ((Blk.new _ _ _).alloc _).alloc _
  have WX : Hid (Blk w1 (w.heap.size + 1) #[.int .i64 p.1, .int .i64 p.2.1, .int .i64 p.2.2.1, .int .i64 p.2.2.2] 39) := by show Blk _ _ _ _; rw [hw1.out]; exact (Blk.new2 _ _ _ _).alloc _
  have ZX : Hid (Blk w1 (w.heap.size + 1 + 1) #[.bool false, .slice none 0 0, .int .i64 0, .slice none 0 0] 36) := by show Blk _ _ _ _; rw [hw1.out]; exact Blk.new3 _ _ _ _ _
  clear alw1
  have hs1 : w.heap.size + 3 = w1.heap.size := by rw [hw1.out]; simp
  go_wp2_with fail
  rw [← hw1.out]
  refine (HC.out _ B0.out).mono ?_
  rintro e w2 ⟨hb, hc⟩
  replace B0 := hide_it (B0.out.trans (hb.mono B0.out.size))
  replace WX := hide_it (WX.out.after hb)
  replace ZX := hide_it (ZX.out.after hb)
  have hs3 := hb.size
  clear hb
  rcases hc with ⟨hok, rfl⟩ | ⟨hok, ao, cap, a2, c2, aa, ca, af, cf, b, ps, rfl, hp2, ho2, hma, hmf, hbk⟩
  · have HR : Hid (dkHear up rs f ws p = dkZ) := by show _ = _; unfold dkHear; rw [hok]; rfl
    clear hok
    obtain ⟨z0, z1, z2, z3⟩ := ZX.out.cells4
    obtain ⟨zf0, zf1, zf2, zf3⟩ := ZX.out.free4
    have k0 := fun x => cellAlloc z0 x
    have k1 := fun x => cellAlloc z1 x
    have k2 := fun x => cellAlloc z2 x
    have k3 := fun x => cellAlloc z3 x
    have q0 := fun x => frozenAlloc zf0 ZX.out.lt x
    have q1 := fun x => frozenAlloc zf1 ZX.out.lt x
    have q2 := fun x => frozenAlloc zf2 ZX.out.lt x
    have q3 := fun x => frozenAlloc zf3 ZX.out.lt x
    go_wp2
    refine bodyPost_ret (v := deskV false (.slice none 0 0) 0 (.slice none 0 0)) (by simp [results, Tryz.results8, go_sem, *]) rfl ?_
    rw [HR.out]
    refine DkO.none_ ?_
    iterate 4 (refine Below.setCell ?_ (by first | (simp; done) | (simp; omega) | omega) _)
    exact B0.out.alloc (by omega) _
  have hrun := (dkOk_parts hok).2.1
  have htold := (dkOk_parts hok).2.2.1
  have NB := hide_it (show w1.heap.size ≤ w2.heap.size from hs3)
  obtain ⟨WX_0, WX_1, WX_2, WX_3⟩ := WX.out.cells4
  have WX_0a := fun o => cellAlloc WX_0 o
  have WX_1a := fun o => cellAlloc WX_1 o
  have WX_2a := fun o => cellAlloc WX_2 o
  have WX_3a := fun o => cellAlloc WX_3 o
  have WX_lt := WX.out.lt
  obtain ⟨w3, hw3⟩ : ∃ W, Hid (W = w2.alloc (.cells #[.bool up, .slice ao rs.length cap, .int .i64 f, .slice a2 ws.length c2, .slice aa (T.ofO rs).length ca, .slice af (T.ofO (rs.take f.toNat)).length cf, .map (some b)] 54)) := ⟨_, rfl⟩
  have alw3 : Below w2.heap.size w2 w3 := by rw [hw3.out]; exact alloc_below _ _
  replace B0 := hide_it (B0.out.trans (alw3.mono B0.out.size))
  replace WX := hide_it (WX.out.after alw3)
  replace ZX := hide_it (ZX.out.after alw3)
  have CX : Hid (Blk w3 (w2.heap.size) #[.bool up, .slice ao rs.length cap, .int .i64 f, .slice a2 ws.length c2, .slice aa (T.ofO rs).length ca, .slice af (T.ofO (rs.take f.toNat)).length cf, .map (some b)] 54) := by show Blk _ _ _ _; rw [hw3.out]; exact Blk.new _ _ _
  clear alw3
  have hal : Below w2.heap.size w2 w3 := by rw [hw3.out]; exact alloc_below _ _
  have CK : Hid (Ck w3 w2.heap.size w1.heap.size w2.heap.size up (.slice ao rs.length cap) f (.slice a2 ws.length c2) (.slice aa (T.ofO rs).length ca) (.slice af (T.ofO (rs.take f.toNat)).length cf) b (2 * ws.length) ps rs ws (T.ofO rs) (T.ofO (rs.take f.toNat))) :=
    ⟨CX.out, hp2, ho2.below hal (Nat.le_refl _), hma.below hal (Nat.le_refl _), hmf.below hal (Nat.le_refl _), hbk.after hal⟩
  have hs4 := hal.size
  have HOK := hide_it hok
  clear hal hp2 ho2 hma hmf hbk hok CX
  have HH := hide_it (ckHears_any w2.heap.size b up _ f _ aa (T.ofO rs).length ca _ p w3 CK.out.blk)
  obtain ⟨HB, hHB⟩ : ∃ x, (up && ansOk (T.ofO rs).length p) = x := ⟨_, rfl⟩
  rw [hHB] at HH
  go_wp2_with fail
  rw [← hw3.out]
  refine (HH.out).mono ?_
  rintro e w4 ⟨rfl, hb⟩
  clear WX_0 WX_1 WX_2 WX_3 WX_0a WX_1a WX_2a WX_3a WX_lt
  replace B0 := hide_it (B0.out.trans (hb.mono B0.out.size))
  replace WX := hide_it (WX.out.after hb)
  replace ZX := hide_it (ZX.out.after hb)
  replace CK := hide_it ((CK.out).after hb)
  clear hb
  have hw2 : w.heap.size + 3 ≤ w2.heap.size := by omega
  cases HB
  · have HR : Hid (dkHear up rs f ws p = (up, rs, f, ws)) := by
      show _ = _
      unfold dkHear hearD dkHears
      rw [if_pos HOK.out, if_neg (by rw [hHB]; decide)]
    clear hHB
    obtain ⟨y0, y1, y2, y3, y4, y5, y6⟩ := CK.out.blk.cells7
    obtain ⟨z0, z1, z2, z3⟩ := ZX.out.cells4
    obtain ⟨zf0, zf1, zf2, zf3⟩ := ZX.out.free4
    have hzl := ZX.out.lt
    have OW := hide_it CK.out.own
    have MP := hide_it CK.out.map
    go_wp2
    refine bodyPost_ret (v := deskV up (.slice ao rs.length cap) f (.slice a2 ws.length c2)) (by simp [results, Tryz.results8, go_sem, *]) rfl ?_
    rw [HR.out]
    refine ⟨ao, cap, a2, c2, ps, rfl, MP.out, ?_, ?_⟩
    · refine DkOwn.lo (lo := w1.heap.size) ?_ (by omega)
      iterate 4 (refine DkOwn.setBelow ?_ (by first | omega | (simp; omega)) _)
      simpa using OW.out.hi OW.out.1 (Nat.le_refl _)
    · iterate 4 (refine Below.setCell ?_ (by first | (simp; done) | (simp; omega) | omega) _)
      exact B0.out
  · obtain ⟨hup, hans⟩ : up = true ∧ ansOk (T.ofO rs).length p = true := by simpa using hHB
    subst hup
    have HR : Hid (dkHear true rs f ws p = (true, hearR rs f (hearW ws p) p.2.2.1, f, hearW ws p)) := by
      show _ = _
      unfold dkHear hearD dkHears
      rw [if_pos HOK.out, if_pos hHB]
    have HAP : Hid (1 ≤ p.2.2.1 ∧ p.2.2.1 ≤ ((T.ofO rs).length : Int)) := by have := ansOk_parts hans; show _ ∧ _; omega
    have HOK2 := hide_it (hears_ok (p := p) HOK.out (by unfold dkHears; exact hHB))
    have HN := hide_it (note_any w2.heap.size w1.heap.size w2.heap.size true _ f _ _ _ b (2 * ws.length) ps rs ws (T.ofO rs) (T.ofO (rs.take f.toNat)) p w4 CK.out (by omega) (by omega) hlw htold hans)
    obtain ⟨x0, x1, x2, x3⟩ := WX.out.cells4
    clear hHB htold hans
    go_wp2_with fail
    clear x0 x1 x2 x3
    refine HN.out.mono ?_
    rintro e w5 ⟨rfl, a5, c5, N5, hck, hb5⟩
    have C5 := hide_it hck
    have B5 : Hid (Below w.heap.size w w5) := B0.out.trans (hb5.mono (by omega))
    have W5 := hide_it (WX.out.later hb5 (by omega))
    have Z5 := hide_it (ZX.out.later hb5 (by omega))
    have HD := hide_it (decide_any w2.heap.size w1.heap.size w5.heap.size _ f _ _ _ b N5 ps rs (hearW ws p) p.2.2.1 a w5 C5.out (by omega) hl HOK2.out HAP.out (HA.out _ B5.out))
    clear hck hb5
    obtain ⟨x0, x1, x2, x3⟩ := W5.out.cells4
    go_wp2_with fail
    clear x0 x1 x2 x3
    refine HD.out.mono ?_
    rintro e w6 ⟨rfl, a6, c6, ps6, hcl6, hb6⟩
    have B6 : Hid (Below w.heap.size w w6) := B5.out.trans (hb6.mono (by omega))
    have Z6 := hide_it (Z5.out.later hb6 (by omega))
    have C6 := hide_it hcl6.1
    have M6 := hide_it hcl6.2.1
    have O6 := hide_it hcl6.2.2.1
    clear hcl6 hb6
    obtain ⟨RS, hRS⟩ : ∃ x, Hid (hearR rs f (hearW ws p) p.2.2.1 = x) := ⟨_, rfl⟩
    obtain ⟨WS, hWS⟩ : ∃ x, Hid (hearW ws p = x) := ⟨_, rfl⟩
    rw [hRS.out, hWS.out] at HR
    rw [hRS.out] at C6 M6 O6
    rw [hWS.out] at C6 O6
    obtain ⟨y0, y1, y2, y3, y4, y5, y6⟩ := C6.out.cells7
    obtain ⟨z0, z1, z2, z3⟩ := Z6.out.cells4
    obtain ⟨zf0, zf1, zf2, zf3⟩ := Z6.out.free4
    have hzl := Z6.out.lt
    go_wp2
    refine bodyPost_ret (v := deskV true (.slice a6 RS.length c6) f (.slice a5 WS.length c5)) (by simp [results, Tryz.results8, go_sem, *]) rfl ?_
    rw [HR.out]
    refine ⟨a6, c6, a5, c5, ps6, rfl, M6.out, ?_, ?_⟩
    · refine DkOwn.lo (lo := w1.heap.size) ?_ (by omega)
      iterate 4 (refine DkOwn.setBelow ?_ (by first | omega | (simp; omega)) _)
      simpa using O6.out
    · iterate 4 (refine Below.setCell ?_ (by first | (simp; done) | (simp; omega) | omega) _)
      exact B6.out

end Go.Proofs.YtgknnigjlnfplaaGreatDoor

namespace Go.Proofs.YtgknnigjlnfplaaGreatDoor
open Go.RowKit

theorem recOk_lenD {k t : Int} {zs : List Int} (h : Pl.recOk k t zs = true) : zs.length ≤ 3 := by
  simp only [Pl.recOk, Bool.and_eq_true] at h
  have h2 := h.2
  split at h2
  · simp only [Pl.holdOk, Bool.and_eq_true, beq_iff_eq] at h2; omega
  · split at h2
    · simp only [Pl.manyOk, Bool.and_eq_true, beq_iff_eq] at h2; omega
    · simp only [Bool.and_eq_true, beq_iff_eq] at h2; omega
theorem pre_okD (rs : List R) (h : rs.all rOk = true) : (rs.map fun r => r.2.2.length).sum ≤ 3 * rs.length := by
  induction rs with
  | nil => simp
  | cons r t ih =>
    simp only [List.all_cons, Bool.and_eq_true] at h
    have h1 := ih h.2
    have h2 := recOk_lenD h.1
    simp only [List.map_cons, List.sum_cons, List.length_cons]
    omega
theorem dkAsk_tot (up : Bool) (rs : List R) (f : Int) (ws : List Wd) (r : R) (hl : tot rs ≤ 1048576) (hlw : ws.length ≤ 1048576) (hr : r.2.2.length ≤ 3) : tot (dkAsk up rs f ws r).1.2.1 ≤ 1048576 ∧ (dkAsk up rs f ws r).1.2.2.2.length ≤ 1048576 := by
  unfold dkAsk
  split
  · next h =>
    have h18 := T.runT_room (run_some h.1)
    split
    · refine ⟨?_, hlw⟩
      have hall : rs.all rOk = true := by
        have := dkOk_log h.1
        unfold logOk at this
        simp only [Bool.and_eq_true] at this
        exact this.1
      have h3 := pre_okD rs hall
      show tot (rs ++ [r]) ≤ 1048576
      unfold tot pre
      rw [List.take_length]
      simp
      omega
    · exact ⟨hl, hlw⟩
  · simp [dkZ, tot, pre]
theorem rOk_give (trip : Int) : rOk ((6, trip, []) : R) = Pl.inB trip 1 6 := by
  unfold rOk Pl.recOk
  cases Pl.inB trip 1 6 <;> rfl

end Go.Proofs.YtgknnigjlnfplaaGreatDoor
