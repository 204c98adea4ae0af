/- What the last text of this claim stands on, part 8: plain facts and contracts; the last text says what is proved. -/
import Derived.Test.YtgknnigjlnfplaaGreatDoorBase7
import Derived.Deep.DeepCutAuto
import Derived.Deep.CutBlock

namespace Go.Proofs.YtgknnigjlnfplaaGreatDoor
open Go.RowKit

/-- A desk comes back, with a record more in its own row, or as it was. -/
def LdG (w w' : World) (e : Ending) (lo : Nat) (v : Value) (f : Int) (u : Value) (xs : List Value) (rs : List R) (K t : Int) : Prop :=
  (K = 0 ∧ e = .returned (deskV true v f u) ∧ Below w.heap.size w w') ∨
  (K ≠ 0 ∧ ∃ g c3 x, e = .returned (deskV true (.slice (some ⟨g, 0, none⟩) (rs.length + 1) c3) f u) ∧ w'.ownsRow lo 81 3 (.slice (some ⟨g, 0, none⟩) (rs.length + 1) c3) (rs.length + 1) (xs ++ [.int .i64 K, .int .i64 t, .slice (some ⟨x, 0, none⟩) 0 0]) ∧ w.grownBy w' v.ownBlock ∧ (v.ownBlock = some g ∨ w.heap.size ≤ g) ∧ w'.ownsRow w.heap.size 3 1 (.slice (some ⟨x, 0, none⟩) 0 0) 0 [])

theorem told_eq {n : Int} {ws : List Wd} (h : toldOk n ws = true) {k t : Int} (hk : 4 ≤ k ∧ k ≤ 7) (ht : 1 ≤ t ∧ t ≤ 6) (hn : t ≤ n) : ∀ x : Int, 1 ≤ x → x ≤ 3 → told ws k x t = ws.contains (k, x, t, 0) := fun x h1 h3 => by
  have hp : ansOk n (k, x, t, 0) = true := by
    unfold ansOk
    have hw : Pl.wOk k x t 0 = true := by
      rw [Pl.wOk_m (Pl.inB_mk (by omega) hk.2) (Pl.inB_mk h1 h3) (Pl.inB_mk ht.1 ht.2), Pl.wMany_0 _ (by omega)]; rfl
    simp only [hw, Bool.true_and, Bool.and_eq_true, decide_eq_true_eq]
    exact ⟨hk.1, hn⟩
  exact told_mem (toldOk_all h) hp

set_option maxRecDepth 100000 in
set_option maxHeartbeats 16000000 in
theorem l13Decide_g (v : Value) (f : Int) (u : Value) (xs : List Value) (rs : List R) (ws : List Wd) (t : Int) (lo : Nat) (w : World)
    (hv : DkIn w v u rs ws) (ho : w.ownsRow lo 81 3 v rs.length xs) (hlo : lo ≤ w.heap.size) (hl : tot rs ≤ 1048576) (hlw : ws.length ≤ 1048576) (hok : dkOk true rs f ws = true) (ht : 1 ≤ t ∧ t ≤ (T.ofO rs).length) :
    Calls Tryz.prog 35 #[deskV true v f u, .int .i64 t] w fun e w' => LdG w w' e lo v f u xs rs (hearK rs f ws t) t := by
  obtain ⟨hf0, hf1, -⟩ := logOk_f (dkOk_log hok)
  have hfit := T.ofO_fit rs
  have h6 : (T.ofO rs).length ≤ 6 := hfit.1
  have htold := (dkOk_parts hok).2.2.1
  obtain ⟨M, hM⟩ : ∃ M : Nat, (t - 1).toNat = M := ⟨_, rfl⟩
  obtain rfl : t = (M : Int) + 1 := by omega
  obtain ⟨⟨zs, s⟩, hq⟩ : ∃ q, (T.ofO rs)[M]? = some q := ⟨_, List.getElem?_eq_getElem (by omega)⟩
  have e0 : T.tripAt (T.ofO rs) ((M : Int) + 1) = (zs, s) := T.tripAt_get (by rw [hM]; exact hq)
  have hz3 : zs.length = 3 := hfit.2 _ (List.mem_of_getElem? hq)
  have HQ := hide_it hq
  have HS0 : Hid (s ≠ 0) := by
    have h1 := T.runT_ok (run_some hok)
    have h2 := List.all_eq_true.1 (T.tripsOk_all h1).1 _ (List.mem_of_getElem? hq)
    simp only [T.tOk, Bool.and_eq_true] at h2
    have := Pl.inB_true h2.2
    show s ≠ 0; omega
  have HO := hide_it ho
  have HI := hide_it hv
  obtain ⟨av, cv, au, cu, rfl, rfl⟩ := hv.1.shape
  have HT0 : Hid (∀ W, Below w.heap.size w W → Calls Tryz.prog 34 #[deskV true (.slice av rs.length cv) f (.slice au ws.length cu), .bool false] W fun e w' => TrL W w' e (T.ofO rs)) := fun W h =>
    l13Trips_any true _ _ rs f ws false W (HI.out.later h (Nat.le_refl _)) hl hf0 hf1
  have HT1 : Hid (∀ W, Below w.heap.size w W → Calls Tryz.prog 34 #[deskV true (.slice av rs.length cv) f (.slice au ws.length cu), .bool true] W fun e w' => TrL W w' e (T.ofO (rs.take f.toNat))) := fun W h =>
    l13Trips_any true _ _ rs f ws true W (HI.out.later h (Nat.le_refl _)) hl hf0 hf1
  have HAN : Hid (∀ (y : Value) (W : World), Below w.heap.size w W → Ints W y zs → Calls Tryz.prog 55 #[deskV true (.slice av rs.length cv) f (.slice au ws.length cu), .int .i64 ((M : Int) + 1), y, .int .i64 5] W fun e w' => e = .returned (.bool (anyT ws 5 ((M : Int) + 1) zs)) ∧ Below W.heap.size W w') := fun y W h hy =>
    l13Any_any true _ f _ y ws zs ((M : Int) + 1) 5 W (HI.out.later h (Nat.le_refl _)).1.2 hlw hy (by omega) (told_eq htold (by omega) (by omega) (by omega))
  have HAL : Hid (∀ (k : Int) (y : Value) (W : World), 4 ≤ k ∧ k ≤ 7 → Below w.heap.size w W → Ints W y zs → Calls Tryz.prog 56 #[deskV true (.slice av rs.length cv) f (.slice au ws.length cu), .int .i64 ((M : Int) + 1), y, .int .i64 k] W fun e w' => e = .returned (.bool (allT ws k ((M : Int) + 1) zs)) ∧ Below W.heap.size W w') := fun k y W hk h hy =>
    l13All_any true _ f _ y ws zs ((M : Int) + 1) k W (HI.out.later h (Nat.le_refl _)).1.2 hlw hy (by omega) (told_eq htold hk (by omega) (by omega))
  have HW : Hid (∀ (k : Int) (g : Nat) (W : World), rOk (k, (M : Int) + 1, []) = true → Below w.heap.size w W → Calls Tryz.prog 57 #[deskV true (.slice av rs.length cv) f (.slice au ws.length cu), .agg #[.int .i64 k, .int .i64 ((M : Int) + 1), .slice (some ⟨g, 0, none⟩) 0 0]] W fun e w' => LwG W w' e lo true (.slice av rs.length cv) f (.slice au ws.length cu) xs rs (k, (M : Int) + 1, []) (.slice (some ⟨g, 0, none⟩) 0 0)) := fun k g W hk h =>
    l13Write_g true _ f _ xs rs ws (k, (M : Int) + 1, []) (some ⟨g, 0, none⟩) 0 0 lo W (HI.out.later h (Nat.le_refl _)) (ownsRow_below HO.out h (fun j hj => (HO.out.lt j hj).2)) (Nat.le_trans hlo h.size) hl hok hk rfl
  obtain ⟨KK, hKK⟩ : ∃ x, hearK rs f ws ((M : Int) + 1) = x := ⟨_, rfl⟩
  have HK : Hid (decK ws ((M : Int) + 1) (zs, s) (decide ((T.tripAt (T.ofO (rs.take f.toNat)) ((M : Int) + 1)).2 = s)) = KK) := by
    show _ = _
    rw [← hKK]
    unfold hearK sureT
    rw [e0]
  rw [hKK]
  have HVB : Hid (∀ b, w.heap.size ≤ b → some b ≠ (Value.slice av rs.length cv).ownBlock) := fun b hb e => by have := (HO.out.lt b e.symm).2; omega
  have HMAY : Hid (KK ≠ 0 → dkMay true rs (KK, (M : Int) + 1, []) = true ∧ rOk (KK, (M : Int) + 1, []) = true) := fun h => by
    have h1 : hearK rs f ws ((M : Int) + 1) ≠ 0 := by rw [hKK]; exact h
    have e1 := decK_may (ws := ws) (t := (M : Int) + 1) (ts := T.ofO rs) (sure := sureT rs f ((M : Int) + 1)) h1
    have e2 := decK_rec (ws := ws) (t := (M : Int) + 1) (tr := T.tripAt (T.ofO rs) ((M : Int) + 1)) (sure := sureT rs f ((M : Int) + 1)) h1 (by omega)
    rw [show decK ws ((M : Int) + 1) (T.tripAt (T.ofO rs) ((M : Int) + 1)) (sureT rs f ((M : Int) + 1)) = KK from hKK] at e1 e2
    exact ⟨by unfold dkMay; rw [e1]; rfl, e2⟩
  obtain ⟨fts, hfts⟩ : ∃ x, T.ofO (rs.take f.toNat) = x := ⟨_, rfl⟩
  have hff := T.ofO_fit (rs.take f.toNat)
  rw [hfts] at HT1 HK hff
  have hM2 : (M : Int) < ((T.ofO rs).length : Int) := by omega
  have hM6 : (M : Int) < 6 := by omega
  obtain ⟨ts, hts⟩ : ∃ x, T.ofO rs = x := ⟨_, rfl⟩
  rw [hts] at HT0 HQ hM2
  obtain ⟨SU, hSU⟩ : ∃ x, Hid (decide ((T.tripAt fts ((M : Int) + 1)).2 = s) = x) := ⟨_, rfl⟩
  rw [hSU.out] at HK
  have hf6 : (fts.length : Int) ≤ 6 := by have := hff.1; omega
  have HZ3 := hide_it hz3
  clear hz3
  clear hfts hts hq e0 hM hKK ht htold hok hv ho hfit h6 hff hf0 hf1
  have B0 : Hid (Below w.heap.size w w) := Below.refl _ _
  go_enter Tryz.func35, Tryz.ntmps35
  go_wp2_with fail
  obtain ⟨w1, hw1⟩ : ∃ W, Hid (W = (w.alloc (.cells #[.bool true, .slice av rs.length cv, .int .i64 f, .slice au ws.length cu] 36)).alloc (.cells #[.bool false, .slice none 0 0, .int .i64 0, .slice none 0 0] 36)) := ⟨_, rfl⟩
  have alw1 : Below w.heap.size w w1 := by rw [hw1.out]; exact below2 _ _ _
  replace B0 := hide_it (B0.out.trans (alw1.mono B0.out.size))
  have DX : Hid (Blk w1 (w.heap.size) #[.bool true, .slice av rs.length cv, .int .i64 f, .slice au ws.length cu] 36) := by show Blk _ _ _ _; rw [hw1.out]; exact (Blk.new _ _ _).alloc _
  have ZX : Hid (Blk w1 (w.heap.size + 1) #[.bool false, .slice none 0 0, .int .i64 0, .slice none 0 0] 36) := by show Blk _ _ _ _; rw [hw1.out]; exact Blk.new2 _ _ _ _
  clear alw1
  rw [← hw1.out]
  refine (HT0.out _ B0.out).mono ?_
  rintro e w2 ⟨a1, c1, rfl, hm1, hb⟩
  replace B0 := hide_it (B0.out.trans (hb.mono B0.out.size))
  replace DX := hide_it (DX.out.after hb)
  replace ZX := hide_it (ZX.out.after hb)
  have H1 := hide_it hm1.recs
  clear hm1
  clear hb
  obtain ⟨b1, o1, c1', u1, hav, r0, r1, rI⟩ := trip_cell H1.out HQ.out
  simp only [Value.slice.injEq] at hav
  obtain ⟨rfl, -, rfl⟩ := hav
  obtain ⟨az, cz, rfl⟩ := rI.shape
  have RI := hide_it rI
  have hwr : IntKind.i64.wrap ((M : Int) + 1 - 1) = (M : Int) := by simp [IntKind.wrap, IntKind.bits, IntKind.signed]; omega
  have hwr2 : IntKind.i64.wrap (M : Int) = (M : Int) := by simp [IntKind.wrap, IntKind.bits, IntKind.signed]; omega
  clear H1 rI
  obtain ⟨DX_0, DX_1, DX_2, DX_3⟩ := DX.out.cells4
  have DX_0a := fun o => cellAlloc DX_0 o
  have DX_1a := fun o => cellAlloc DX_1 o
  have DX_2a := fun o => cellAlloc DX_2 o
  have DX_3a := fun o => cellAlloc DX_3 o
  have DX_lt := DX.out.lt
  obtain ⟨w3, hw3⟩ : ∃ W, Hid (W = w2.alloc (.cells #[.slice az zs.length cz, .int .i64 s] 91)) := ⟨_, rfl⟩
  have alw3 : Below w2.heap.size w2 w3 := by rw [hw3.out]; exact alloc_below _ _
  replace B0 := hide_it (B0.out.trans (alw3.mono B0.out.size))
  replace DX := hide_it (DX.out.after alw3)
  replace ZX := hide_it (ZX.out.after alw3)
  replace RI := hide_it (RI.out.later alw3 (Nat.le_refl _))
  have TX : Hid (Blk w3 (w2.heap.size) #[.slice az zs.length cz, .int .i64 s] 91) := by show Blk _ _ _ _; rw [hw3.out]; exact Blk.new _ _ _
  clear alw3
  go_wp2_with fail
  rw [← hw3.out]
  clear r0 r1
  refine (HT1.out _ B0.out).mono ?_
  rintro e w4 ⟨a2, c2, rfl, hm2, hb⟩
  clear DX_0 DX_1 DX_2 DX_3 DX_0a DX_1a DX_2a DX_3a DX_lt
  replace B0 := hide_it (B0.out.trans (hb.mono B0.out.size))
  replace DX := hide_it (DX.out.after hb)
  replace ZX := hide_it (ZX.out.after hb)
  replace RI := hide_it (RI.out.later hb (Nat.le_refl _))
  replace TX := hide_it (TX.out.after hb)
  have H2 := hide_it hm2.recs
  clear hm2
  clear hb
  obtain ⟨TX_0, TX_1⟩ := TX.out.cells2
  obtain ⟨DX_0, DX_1, DX_2, DX_3⟩ := DX.out.cells4
  go_wp2_with fail
  go_cut [8] (fun x W => x = .bool SU ∧ Hid (Below w4.heap.size w4 W))
  case first =>
    by_cases hle : (M : Int) + 1 ≤ (fts.length : Int)
    · obtain ⟨⟨zs2, s2⟩, hq2⟩ : ∃ q, fts[M]? = some q := ⟨_, List.getElem?_eq_getElem (by omega)⟩
      have e2 : T.tripAt fts ((M : Int) + 1) = (zs2, s2) := T.tripAt_get (by simpa using hq2)
      obtain ⟨b2, o2, c2', u2, hav2, r20, r21, rI2⟩ := trip_cell H2.out hq2
      simp only [Value.slice.injEq] at hav2
      obtain ⟨rfl, -, rfl⟩ := hav2
      have hlt2 : (M : Int) < (fts.length : Int) := by omega
      have hSV : decide (s2 = s) = SU := by rw [← hSU.out, e2]
      clear e2 hq2 rI2
      have r21' := r21
      cases SU
      · have hn : (s2 == s) = false := by simpa using hSV
        refine wp_region_held_drew (S := fun w' => (w'.cell? ⟨w2.heap.size, 0, none⟩ = some (.slice az zs.length cz) ∧ w'.cell? ⟨w2.heap.size, 1, none⟩ = some (.int .i64 s)) ∧ w'.cell? ⟨b2, o2 + M * 2 + 1, none⟩ = some (.int .i64 s2)) (by kernel_rfl) ⟨⟨TX_0, TX_1⟩, r21⟩ (fun hHeld => ?_)
        refine takeD (i := 0) (v := ?_) (some 21) rfl rfl (by kernel_rfl) (by kernel_rfl) (by kernel_rfl) (fun _ _ _ h => h) (by rfl) hHeld ?_ ?_
        rotate_left
        · intro W hSw
          try dsimp only at hSw
          go_simp
          try with_reducible rfl
        try simp only [Act.put]
        try simp only [List.setIfInBounds_toArray]
        try simp only [List.set_cons_succ]
        try simp only [List.set_cons_zero]
        refine takeD (i := 1) (v := ?_) (some 22) rfl rfl (by kernel_rfl) (by kernel_rfl) (by kernel_rfl) (fun _ _ _ h => h) (by rfl) hHeld ?_ ?_
        rotate_left
        · intro W hSw
          try dsimp only at hSw
          go_simp
          try with_reducible rfl
        try simp only [Act.put]
        try simp only [List.setIfInBounds_toArray]
        try simp only [List.set_cons_succ]
        try simp only [List.set_cons_zero]
        refine takeD (i := 2) (v := ?_) (some 23) rfl rfl (by kernel_rfl) (by kernel_rfl) (by kernel_rfl) (fun _ _ _ h => h) (by rfl) hHeld ?_ ?_
        rotate_left
        · intro W hSw
          try dsimp only at hSw
          go_simp
          try with_reducible rfl
        try simp only [Act.put]
        try simp only [List.setIfInBounds_toArray]
        try simp only [List.set_cons_succ]
        try simp only [List.set_cons_zero]
        refine takeD (i := 3) (v := .bool true) (some 24) rfl rfl (by kernel_rfl) (by kernel_rfl) (by kernel_rfl) (fun _ _ _ h => h) (by rfl) hHeld ?_ ?_
        · intro W hSw
          try dsimp only at hSw
          first | (go_simp; done) | (go_simp; simp; done) | (go_simp; omega) | (go_simp; simp [*])
        try simp only [Act.put]
        try simp only [List.setIfInBounds_toArray]
        try simp only [List.set_cons_succ]
        try simp only [List.set_cons_zero]
        refine takeD (i := 4) (v := .bool true) (some 25) rfl rfl (by kernel_rfl) (by kernel_rfl) (by kernel_rfl) (fun _ _ _ h => h) (by rfl) hHeld ?_ ?_
        · intro W hSw
          try dsimp only at hSw
          first | (go_simp; done) | (go_simp; simp; done) | (go_simp; omega) | (go_simp; simp [*])
        try simp only [Act.put]
        try simp only [List.setIfInBounds_toArray]
        try simp only [List.set_cons_succ]
        try simp only [List.set_cons_zero]
        refine takeD (i := 5) (v := ?_) (some 26) rfl rfl (by kernel_rfl) (by kernel_rfl) (by kernel_rfl) (fun _ _ _ h => h) (by rfl) hHeld ?_ ?_
        rotate_left
        · intro W hSw
          try dsimp only at hSw
          go_simp
          try with_reducible rfl
        try simp only [Act.put]
        try simp only [List.setIfInBounds_toArray]
        try simp only [List.set_cons_succ]
        try simp only [List.set_cons_zero]
        refine takeD (i := 6) (v := ?_) (some 27) rfl rfl (by kernel_rfl) (by kernel_rfl) (by kernel_rfl) (fun _ _ _ h => h) (by rfl) hHeld ?_ ?_
        rotate_left
        · intro W hSw
          try dsimp only at hSw
          go_simp
          try with_reducible rfl
        try simp only [Act.put]
        try simp only [List.setIfInBounds_toArray]
        try simp only [List.set_cons_succ]
        try simp only [List.set_cons_zero]
        refine takeD (i := 7) (v := ?_) (some 28) rfl rfl (by kernel_rfl) (by kernel_rfl) (by kernel_rfl) (fun _ _ _ h => h) (by rfl) hHeld ?_ ?_
        rotate_left
        · intro W hSw
          try dsimp only at hSw
          go_simp
          try with_reducible rfl
        try simp only [Act.put]
        try simp only [List.setIfInBounds_toArray]
        try simp only [List.set_cons_succ]
        try simp only [List.set_cons_zero]
        refine takeD (i := 8) (v := ?_) (some 29) rfl rfl (by kernel_rfl) (by kernel_rfl) (by kernel_rfl) (fun _ _ _ h => h) (by rfl) hHeld ?_ ?_
        rotate_left
        · intro W hSw
          try dsimp only at hSw
          go_simp
          try with_reducible rfl
        try simp only [Act.put]
        try simp only [List.setIfInBounds_toArray]
        try simp only [List.set_cons_succ]
        try simp only [List.set_cons_zero]
        refine takeD (i := 9) (v := ?_) (some 30) rfl rfl (by kernel_rfl) (by kernel_rfl) (by kernel_rfl) (fun _ _ _ h => h) (by rfl) hHeld ?_ ?_
        rotate_left
        · intro W hSw
          try dsimp only at hSw
          go_simp
          try with_reducible rfl
        try simp only [Act.put]
        try simp only [List.setIfInBounds_toArray]
        try simp only [List.set_cons_succ]
        try simp only [List.set_cons_zero]
        refine takeD (i := 10) (v := ?_) (some 31) rfl rfl (by kernel_rfl) (by kernel_rfl) (by kernel_rfl) (fun _ _ _ h => h) (by rfl) hHeld ?_ ?_
        rotate_left
        · intro W hSw
          try dsimp only at hSw
          go_simp
          try with_reducible rfl
        try simp only [Act.put]
        try simp only [List.setIfInBounds_toArray]
        try simp only [List.set_cons_succ]
        try simp only [List.set_cons_zero]
        refine takeD (i := 11) (v := ?_) (some 32) rfl rfl (by kernel_rfl) (by kernel_rfl) (by kernel_rfl) (fun _ _ _ h => h) (by rfl) hHeld ?_ ?_
        rotate_left
        · intro W hSw
          try dsimp only at hSw
          go_simp
          try with_reducible rfl
        try simp only [Act.put]
        try simp only [List.setIfInBounds_toArray]
        try simp only [List.set_cons_succ]
        try simp only [List.set_cons_zero]
        refine takeD (i := 12) (v := ?_) (some 33) rfl rfl (by kernel_rfl) (by kernel_rfl) (by kernel_rfl) (fun _ _ _ h => h) (by rfl) hHeld ?_ ?_
        rotate_left
        · intro W hSw
          try dsimp only at hSw
          go_simp
          try with_reducible rfl
        try simp only [Act.put]
        try simp only [List.setIfInBounds_toArray]
        try simp only [List.set_cons_succ]
        try simp only [List.set_cons_zero]
        refine takeD (i := 13) (v := .bool false) (some 34) rfl rfl (by kernel_rfl) (by kernel_rfl) (by kernel_rfl) (fun _ _ _ h => h) (by rfl) hHeld ?_ ?_
        · intro W hSw
          try dsimp only at hSw
          first | (go_simp; done) | (go_simp; simp; done) | (go_simp; omega) | (go_simp; simp [*])
        try simp only [Act.put]
        try simp only [List.setIfInBounds_toArray]
        try simp only [List.set_cons_succ]
        try simp only [List.set_cons_zero]
        refine takeD (i := 14) (v := .bool false) (some 35) rfl rfl (by kernel_rfl) (by kernel_rfl) (by kernel_rfl) (fun _ _ _ h => h) (by rfl) hHeld ?_ ?_
        · intro W hSw
          try dsimp only at hSw
          first | (go_simp; done) | (go_simp; simp; done) | (go_simp; omega) | (go_simp; simp [*])
        try simp only [Act.put]
        try simp only [List.setIfInBounds_toArray]
        try simp only [List.set_cons_succ]
        try simp only [List.set_cons_zero]
        refine takeD (i := 15) (v := ?_) (some 8) rfl rfl (by kernel_rfl) (by kernel_rfl) (by kernel_rfl) (fun _ _ _ h => h) (by rfl) hHeld ?_ ?_
        rotate_left
        · intro W hSw
          try dsimp only at hSw
          go_simp
          try with_reducible rfl
        try simp only [Act.put]
        try simp only [List.setIfInBounds_toArray]
        try simp only [List.set_cons_succ]
        try simp only [List.set_cons_zero]
        refine wpAnyH_done (by kernel_rfl) ?_ _
        go_wp2_with fail
        go_meet
        case rel => exact ⟨rfl, (Below.refl _ _).drew⟩
      · have hn : s2 = s := by simpa using hSV
        subst hn
        refine wp_region_held_drew (S := fun w' => (w'.cell? ⟨w2.heap.size, 0, none⟩ = some (.slice az zs.length cz) ∧ w'.cell? ⟨w2.heap.size, 1, none⟩ = some (.int .i64 s2)) ∧ w'.cell? ⟨b2, o2 + M * 2 + 1, none⟩ = some (.int .i64 s2)) (by kernel_rfl) ⟨⟨TX_0, TX_1⟩, r21⟩ (fun hHeld => ?_)
        refine takeD (i := 0) (v := ?_) (some 21) rfl rfl (by kernel_rfl) (by kernel_rfl) (by kernel_rfl) (fun _ _ _ h => h) (by rfl) hHeld ?_ ?_
        rotate_left
        · intro W hSw
          try dsimp only at hSw
          go_simp
          try with_reducible rfl
        try simp only [Act.put]
        try simp only [List.setIfInBounds_toArray]
        try simp only [List.set_cons_succ]
        try simp only [List.set_cons_zero]
        refine takeD (i := 1) (v := ?_) (some 22) rfl rfl (by kernel_rfl) (by kernel_rfl) (by kernel_rfl) (fun _ _ _ h => h) (by rfl) hHeld ?_ ?_
        rotate_left
        · intro W hSw
          try dsimp only at hSw
          go_simp
          try with_reducible rfl
        try simp only [Act.put]
        try simp only [List.setIfInBounds_toArray]
        try simp only [List.set_cons_succ]
        try simp only [List.set_cons_zero]
        refine takeD (i := 2) (v := ?_) (some 23) rfl rfl (by kernel_rfl) (by kernel_rfl) (by kernel_rfl) (fun _ _ _ h => h) (by rfl) hHeld ?_ ?_
        rotate_left
        · intro W hSw
          try dsimp only at hSw
          go_simp
          try with_reducible rfl
        try simp only [Act.put]
        try simp only [List.setIfInBounds_toArray]
        try simp only [List.set_cons_succ]
        try simp only [List.set_cons_zero]
        refine takeD (i := 3) (v := .bool true) (some 24) rfl rfl (by kernel_rfl) (by kernel_rfl) (by kernel_rfl) (fun _ _ _ h => h) (by rfl) hHeld ?_ ?_
        · intro W hSw
          try dsimp only at hSw
          first | (go_simp; done) | (go_simp; simp; done) | (go_simp; omega) | (go_simp; simp [*])
        try simp only [Act.put]
        try simp only [List.setIfInBounds_toArray]
        try simp only [List.set_cons_succ]
        try simp only [List.set_cons_zero]
        refine takeD (i := 4) (v := .bool true) (some 25) rfl rfl (by kernel_rfl) (by kernel_rfl) (by kernel_rfl) (fun _ _ _ h => h) (by rfl) hHeld ?_ ?_
        · intro W hSw
          try dsimp only at hSw
          first | (go_simp; done) | (go_simp; simp; done) | (go_simp; omega) | (go_simp; simp [*])
        try simp only [Act.put]
        try simp only [List.setIfInBounds_toArray]
        try simp only [List.set_cons_succ]
        try simp only [List.set_cons_zero]
        refine takeD (i := 5) (v := ?_) (some 26) rfl rfl (by kernel_rfl) (by kernel_rfl) (by kernel_rfl) (fun _ _ _ h => h) (by rfl) hHeld ?_ ?_
        rotate_left
        · intro W hSw
          try dsimp only at hSw
          go_simp
          try with_reducible rfl
        try simp only [Act.put]
        try simp only [List.setIfInBounds_toArray]
        try simp only [List.set_cons_succ]
        try simp only [List.set_cons_zero]
        refine takeD (i := 6) (v := ?_) (some 27) rfl rfl (by kernel_rfl) (by kernel_rfl) (by kernel_rfl) (fun _ _ _ h => h) (by rfl) hHeld ?_ ?_
        rotate_left
        · intro W hSw
          try dsimp only at hSw
          go_simp
          try with_reducible rfl
        try simp only [Act.put]
        try simp only [List.setIfInBounds_toArray]
        try simp only [List.set_cons_succ]
        try simp only [List.set_cons_zero]
        refine takeD (i := 7) (v := ?_) (some 28) rfl rfl (by kernel_rfl) (by kernel_rfl) (by kernel_rfl) (fun _ _ _ h => h) (by rfl) hHeld ?_ ?_
        rotate_left
        · intro W hSw
          try dsimp only at hSw
          go_simp
          try with_reducible rfl
        try simp only [Act.put]
        try simp only [List.setIfInBounds_toArray]
        try simp only [List.set_cons_succ]
        try simp only [List.set_cons_zero]
        refine takeD (i := 8) (v := ?_) (some 29) rfl rfl (by kernel_rfl) (by kernel_rfl) (by kernel_rfl) (fun _ _ _ h => h) (by rfl) hHeld ?_ ?_
        rotate_left
        · intro W hSw
          try dsimp only at hSw
          go_simp
          try with_reducible rfl
        try simp only [Act.put]
        try simp only [List.setIfInBounds_toArray]
        try simp only [List.set_cons_succ]
        try simp only [List.set_cons_zero]
        refine takeD (i := 9) (v := ?_) (some 30) rfl rfl (by kernel_rfl) (by kernel_rfl) (by kernel_rfl) (fun _ _ _ h => h) (by rfl) hHeld ?_ ?_
        rotate_left
        · intro W hSw
          try dsimp only at hSw
          go_simp
          try with_reducible rfl
        try simp only [Act.put]
        try simp only [List.setIfInBounds_toArray]
        try simp only [List.set_cons_succ]
        try simp only [List.set_cons_zero]
        refine takeD (i := 10) (v := ?_) (some 31) rfl rfl (by kernel_rfl) (by kernel_rfl) (by kernel_rfl) (fun _ _ _ h => h) (by rfl) hHeld ?_ ?_
        rotate_left
        · intro W hSw
          try dsimp only at hSw
          go_simp
          try with_reducible rfl
        try simp only [Act.put]
        try simp only [List.setIfInBounds_toArray]
        try simp only [List.set_cons_succ]
        try simp only [List.set_cons_zero]
        refine takeD (i := 11) (v := ?_) (some 32) rfl rfl (by kernel_rfl) (by kernel_rfl) (by kernel_rfl) (fun _ _ _ h => h) (by rfl) hHeld ?_ ?_
        rotate_left
        · intro W hSw
          try dsimp only at hSw
          go_simp
          try with_reducible rfl
        try simp only [Act.put]
        try simp only [List.setIfInBounds_toArray]
        try simp only [List.set_cons_succ]
        try simp only [List.set_cons_zero]
        refine takeD (i := 12) (v := ?_) (some 33) rfl rfl (by kernel_rfl) (by kernel_rfl) (by kernel_rfl) (fun _ _ _ h => h) (by rfl) hHeld ?_ ?_
        rotate_left
        · intro W hSw
          try dsimp only at hSw
          go_simp
          try with_reducible rfl
        try simp only [Act.put]
        try simp only [List.setIfInBounds_toArray]
        try simp only [List.set_cons_succ]
        try simp only [List.set_cons_zero]
        refine takeD (i := 13) (v := .bool true) (some 34) rfl rfl (by kernel_rfl) (by kernel_rfl) (by kernel_rfl) (fun _ _ _ h => h) (by rfl) hHeld ?_ ?_
        · intro W hSw
          try dsimp only at hSw
          first | (go_simp; done) | (go_simp; simp; done) | (go_simp; omega) | (go_simp; simp [*])
        try simp only [Act.put]
        try simp only [List.setIfInBounds_toArray]
        try simp only [List.set_cons_succ]
        try simp only [List.set_cons_zero]
        refine takeD (i := 14) (v := .bool true) (some 35) rfl rfl (by kernel_rfl) (by kernel_rfl) (by kernel_rfl) (fun _ _ _ h => h) (by rfl) hHeld ?_ ?_
        · intro W hSw
          try dsimp only at hSw
          first | (go_simp; done) | (go_simp; simp; done) | (go_simp; omega) | (go_simp; simp [*])
        try simp only [Act.put]
        try simp only [List.setIfInBounds_toArray]
        try simp only [List.set_cons_succ]
        try simp only [List.set_cons_zero]
        refine takeD (i := 15) (v := ?_) (some 8) rfl rfl (by kernel_rfl) (by kernel_rfl) (by kernel_rfl) (fun _ _ _ h => h) (by rfl) hHeld ?_ ?_
        rotate_left
        · intro W hSw
          try dsimp only at hSw
          go_simp
          try with_reducible rfl
        try simp only [Act.put]
        try simp only [List.setIfInBounds_toArray]
        try simp only [List.set_cons_succ]
        try simp only [List.set_cons_zero]
        refine wpAnyH_done (by kernel_rfl) ?_ _
        go_wp2_with fail
        go_meet
        case rel => exact ⟨rfl, (Below.refl _ _).drew⟩
    · have e2 : T.tripAt fts ((M : Int) + 1) = ([], 0) := T.tripAt_none (List.getElem?_eq_none (by omega))
      have hSV : SU = false := by
        rw [← hSU.out, e2]; exact decide_eq_false (fun h => HS0.out h.symm)
      subst hSV
      refine wp_region_held_drew (S := fun w' => (w'.cell? ⟨w2.heap.size, 0, none⟩ = some (.slice az zs.length cz) ∧ w'.cell? ⟨w2.heap.size, 1, none⟩ = some (.int .i64 s))) (by kernel_rfl) ⟨TX_0, TX_1⟩ (fun hHeld => ?_)
      refine takeD (i := 0) (v := ?_) (some 21) rfl rfl (by kernel_rfl) (by kernel_rfl) (by kernel_rfl) (fun _ _ _ h => h) (by rfl) hHeld ?_ ?_
      rotate_left
      · intro W hSw
        try dsimp only at hSw
        go_simp
        try with_reducible rfl
      try simp only [Act.put]
      try simp only [List.setIfInBounds_toArray]
      try simp only [List.set_cons_succ]
      try simp only [List.set_cons_zero]
      refine takeD (i := 1) (v := ?_) (some 22) rfl rfl (by kernel_rfl) (by kernel_rfl) (by kernel_rfl) (fun _ _ _ h => h) (by rfl) hHeld ?_ ?_
      rotate_left
      · intro W hSw
        try dsimp only at hSw
        go_simp
        try with_reducible rfl
      try simp only [Act.put]
      try simp only [List.setIfInBounds_toArray]
      try simp only [List.set_cons_succ]
      try simp only [List.set_cons_zero]
      refine takeD (i := 2) (v := ?_) (some 23) rfl rfl (by kernel_rfl) (by kernel_rfl) (by kernel_rfl) (fun _ _ _ h => h) (by rfl) hHeld ?_ ?_
      rotate_left
      · intro W hSw
        try dsimp only at hSw
        go_simp
        try with_reducible rfl
      try simp only [Act.put]
      try simp only [List.setIfInBounds_toArray]
      try simp only [List.set_cons_succ]
      try simp only [List.set_cons_zero]
      refine takeD (i := 3) (v := .bool false) (some 24) rfl rfl (by kernel_rfl) (by kernel_rfl) (by kernel_rfl) (fun _ _ _ h => h) (by rfl) hHeld ?_ ?_
      · intro W hSw
        try dsimp only at hSw
        first | (go_simp; done) | (go_simp; simp; done) | (go_simp; omega) | (go_simp; simp [*])
      try simp only [Act.put]
      try simp only [List.setIfInBounds_toArray]
      try simp only [List.set_cons_succ]
      try simp only [List.set_cons_zero]
      refine takeD (i := 4) (v := .bool false) (some 25) rfl rfl (by kernel_rfl) (by kernel_rfl) (by kernel_rfl) (fun _ _ _ h => h) (by rfl) hHeld ?_ ?_
      · intro W hSw
        try dsimp only at hSw
        first | (go_simp; done) | (go_simp; simp; done) | (go_simp; omega) | (go_simp; simp [*])
      try simp only [Act.put]
      try simp only [List.setIfInBounds_toArray]
      try simp only [List.set_cons_succ]
      try simp only [List.set_cons_zero]
      refine skipD (i := 5) (some 26) rfl rfl (by kernel_rfl) (by kernel_rfl) (by kernel_rfl) (fun _ _ _ h => h) (by rfl) hHeld ?_
      try simp only [Act.put]
      try simp only [List.setIfInBounds_toArray]
      try simp only [List.set_cons_succ]
      try simp only [List.set_cons_zero]
      refine skipD (i := 6) (some 27) rfl rfl (by kernel_rfl) (by kernel_rfl) (by kernel_rfl) (fun _ _ _ h => h) (by rfl) hHeld ?_
      try simp only [Act.put]
      try simp only [List.setIfInBounds_toArray]
      try simp only [List.set_cons_succ]
      try simp only [List.set_cons_zero]
      refine skipD (i := 7) (some 28) rfl rfl (by kernel_rfl) (by kernel_rfl) (by kernel_rfl) (fun _ _ _ h => h) (by rfl) hHeld ?_
      try simp only [Act.put]
      try simp only [List.setIfInBounds_toArray]
      try simp only [List.set_cons_succ]
      try simp only [List.set_cons_zero]
      refine skipD (i := 8) (some 29) rfl rfl (by kernel_rfl) (by kernel_rfl) (by kernel_rfl) (fun _ _ _ h => h) (by rfl) hHeld ?_
      try simp only [Act.put]
      try simp only [List.setIfInBounds_toArray]
      try simp only [List.set_cons_succ]
      try simp only [List.set_cons_zero]
      refine skipD (i := 9) (some 30) rfl rfl (by kernel_rfl) (by kernel_rfl) (by kernel_rfl) (fun _ _ _ h => h) (by rfl) hHeld ?_
      try simp only [Act.put]
      try simp only [List.setIfInBounds_toArray]
      try simp only [List.set_cons_succ]
      try simp only [List.set_cons_zero]
      refine skipD (i := 10) (some 31) rfl rfl (by kernel_rfl) (by kernel_rfl) (by kernel_rfl) (fun _ _ _ h => h) (by rfl) hHeld ?_
      try simp only [Act.put]
      try simp only [List.setIfInBounds_toArray]
      try simp only [List.set_cons_succ]
      try simp only [List.set_cons_zero]
      refine skipD (i := 11) (some 32) rfl rfl (by kernel_rfl) (by kernel_rfl) (by kernel_rfl) (fun _ _ _ h => h) (by rfl) hHeld ?_
      try simp only [Act.put]
      try simp only [List.setIfInBounds_toArray]
      try simp only [List.set_cons_succ]
      try simp only [List.set_cons_zero]
      refine skipD (i := 12) (some 33) rfl rfl (by kernel_rfl) (by kernel_rfl) (by kernel_rfl) (fun _ _ _ h => h) (by rfl) hHeld ?_
      try simp only [Act.put]
      try simp only [List.setIfInBounds_toArray]
      try simp only [List.set_cons_succ]
      try simp only [List.set_cons_zero]
      refine skipD (i := 13) (some 34) rfl rfl (by kernel_rfl) (by kernel_rfl) (by kernel_rfl) (fun _ _ _ h => h) (by rfl) hHeld ?_
      try simp only [Act.put]
      try simp only [List.setIfInBounds_toArray]
      try simp only [List.set_cons_succ]
      try simp only [List.set_cons_zero]
      refine takeD (i := 14) (v := .bool false) (some 35) rfl rfl (by kernel_rfl) (by kernel_rfl) (by kernel_rfl) (fun _ _ _ h => h) (by rfl) hHeld ?_ ?_
      · intro W hSw
        try dsimp only at hSw
        first | (go_simp; done) | (go_simp; simp; done) | (go_simp; omega) | (go_simp; simp [*])
      try simp only [Act.put]
      try simp only [List.setIfInBounds_toArray]
      try simp only [List.set_cons_succ]
      try simp only [List.set_cons_zero]
      refine takeD (i := 15) (v := ?_) (some 8) rfl rfl (by kernel_rfl) (by kernel_rfl) (by kernel_rfl) (fun _ _ _ h => h) (by rfl) hHeld ?_ ?_
      rotate_left
      · intro W hSw
        try dsimp only at hSw
        go_simp
        try with_reducible rfl
      try simp only [Act.put]
      try simp only [List.setIfInBounds_toArray]
      try simp only [List.set_cons_succ]
      try simp only [List.set_cons_zero]
      refine wpAnyH_done (by kernel_rfl) ?_ _
      go_wp2_with fail
      go_meet
      case rel => exact ⟨rfl, (Below.refl _ _).drew⟩
  case rest =>
    obtain ⟨rfl, HBc⟩ := hcut
    have hbc := HBc.out
    clear TX_0 TX_1 DX_0 DX_1 DX_2 DX_3
    replace B0 := hide_it (B0.out.trans (hbc.mono B0.out.size))
    replace DX := hide_it (DX.out.after hbc)
    replace ZX := hide_it (ZX.out.after hbc)
    replace RI := hide_it (RI.out.later hbc (Nat.le_refl _))
    replace TX := hide_it (TX.out.after hbc)
    replace H2 := hide_it (H2.out.later hbc (Nat.le_refl _))
    clear hbc HBc
    go_upto_block 0 with fail
    obtain ⟨w5, rfl⟩ : ∃ W, W = wc := ⟨_, rfl⟩
    go_cut [9] (fun x W => x = .int .i64 KK ∧ Hid (Below w5.heap.size w5 W))
    case first =>
      obtain ⟨tx0, tx1⟩ := TX.out.cells2
      obtain ⟨dx0, dx1, dx2, dx3⟩ := DX.out.cells4
      by_cases s1 : s = 1
      · subst s1
        obtain ⟨FF, hFF⟩ : ∃ x, anyT ws 5 ((M : Int) + 1) zs = x := ⟨_, rfl⟩
        obtain ⟨AH, hAH⟩ : ∃ x, allT ws 4 ((M : Int) + 1) zs = x := ⟨_, rfl⟩
        have HV : (if FF = true then (6 : Int) else if AH = true then 5 else 0) = KK := by rw [← HK.out, ← hFF, ← hAH]; rfl
        have HAN2 := hide_it (fun (y : Value) (W : World) (h : Below w.heap.size w W) (hy : Ints W y zs) => (hFF ▸ HAN.out y W h hy :))
        have HAL2 := hide_it (fun (y : Value) (W : World) (h : Below w.heap.size w W) (hy : Ints W y zs) => (hAH ▸ HAL.out 4 y W (by omega) h hy :))
        clear hFF hAH
        go_wp2_with fail
        refine (HAN2.out _ _ B0.out RI.out).mono ?_
        rintro e w6 ⟨rfl, hb⟩
        have L6 := hide_it hb
        clear hb tx0 tx1 dx0 dx1 dx2 dx3
        obtain ⟨tx0, tx1⟩ := (TX.out.after L6.out).cells2
        obtain ⟨dx0, dx1, dx2, dx3⟩ := (DX.out.after L6.out).cells4
        cases FF
        · go_wp2_with fail
          refine (HAL2.out _ _ (B0.out.trans (L6.out.mono B0.out.size)) (RI.out.later L6.out (Nat.le_refl _))).mono ?_
          rintro e w7 ⟨rfl, hb⟩
          have L7 := hide_it (L6.out.trans (hb.mono L6.out.size))
          clear hb tx0 tx1 dx0 dx1 dx2 dx3
          obtain ⟨tx0, tx1⟩ := (TX.out.after L7.out).cells2
          cases AH
          · obtain rfl : KK = 0 := by simpa using HV.symm
            go_wp2_with fail
            go_meet
            case rel => exact ⟨rfl, L7⟩
          · obtain rfl : KK = 5 := by simpa using HV.symm
            go_wp2_with fail
            go_meet
            case rel => exact ⟨rfl, L7⟩
        · obtain rfl : KK = 6 := by simpa using HV.symm
          go_wp2_with fail
          go_meet
          case rel => exact ⟨rfl, L6⟩
      by_cases s2 : s = 2
      · subst s2
        obtain ⟨AC, hAC⟩ : ∃ x, allT ws 6 ((M : Int) + 1) zs = x := ⟨_, rfl⟩
        have HV : (if (SU && AC) = true then (7 : Int) else 0) = KK := by rw [← HK.out, ← hAC]; rfl
        have HAL2 := hide_it (fun (y : Value) (W : World) (h : Below w.heap.size w W) (hy : Ints W y zs) => (hAC ▸ HAL.out 6 y W (by omega) h hy :))
        clear hAC
        cases SU
        · obtain rfl : KK = 0 := by simpa using HV.symm
          go_wp2_with fail
          go_meet
          case rel => exact ⟨rfl, Below.refl _ _⟩
        · go_wp2_with fail
          refine (HAL2.out _ _ B0.out RI.out).mono ?_
          rintro e w6 ⟨rfl, hb⟩
          have L6 := hide_it hb
          clear hb tx0 tx1 dx0 dx1 dx2 dx3
          obtain ⟨tx0, tx1⟩ := (TX.out.after L6.out).cells2
          cases AC
          · obtain rfl : KK = 0 := by simpa using HV.symm
            go_wp2_with fail
            go_meet
            case rel => exact ⟨rfl, L6⟩
          · obtain rfl : KK = 7 := by simpa using HV.symm
            go_wp2_with fail
            go_meet
            case rel => exact ⟨rfl, L6⟩
      by_cases s3 : s = 3
      · subst s3
        obtain ⟨AC, hAC⟩ : ∃ x, allT ws 7 ((M : Int) + 1) zs = x := ⟨_, rfl⟩
        have HV : (if (SU && AC) = true then (7 : Int) else 0) = KK := by rw [← HK.out, ← hAC]; rfl
        have HAL2 := hide_it (fun (y : Value) (W : World) (h : Below w.heap.size w W) (hy : Ints W y zs) => (hAC ▸ HAL.out 7 y W (by omega) h hy :))
        clear hAC
        cases SU
        · obtain rfl : KK = 0 := by simpa using HV.symm
          go_wp2_with fail
          go_meet
          case rel => exact ⟨rfl, Below.refl _ _⟩
        · go_wp2_with fail
          refine (HAL2.out _ _ B0.out RI.out).mono ?_
          rintro e w6 ⟨rfl, hb⟩
          have L6 := hide_it hb
          clear hb tx0 tx1 dx0 dx1 dx2 dx3
          obtain ⟨tx0, tx1⟩ := (TX.out.after L6.out).cells2
          cases AC
          · obtain rfl : KK = 0 := by simpa using HV.symm
            go_wp2_with fail
            go_meet
            case rel => exact ⟨rfl, L6⟩
          · obtain rfl : KK = 7 := by simpa using HV.symm
            go_wp2_with fail
            go_meet
            case rel => exact ⟨rfl, L6⟩
      have k1 : (s == 1) = false := by simpa using s1
      have k2 : (s == 2) = false := by simpa using s2
      have k3 : (s == 3) = false := by simpa using s3
      obtain rfl : KK = 0 := by rw [← HK.out]; unfold decK; simp [s1, s2, s3]
      go_wp2_with fail
      go_meet
      case rel => exact ⟨rfl, Below.refl _ _⟩
    case rest =>
      obtain ⟨rfl, HBc⟩ := hcut
      have hbc := HBc.out
      replace B0 := hide_it (B0.out.trans (hbc.mono B0.out.size))
      replace DX := hide_it (DX.out.after hbc)
      replace ZX := hide_it (ZX.out.after hbc)
      replace RI := hide_it (RI.out.later hbc (Nat.le_refl _))
      replace TX := hide_it (TX.out.after hbc)
      replace H2 := hide_it (H2.out.later hbc (Nat.le_refl _))
      clear hbc HBc
      obtain ⟨w6, rfl⟩ : ∃ W, W = wc := ⟨_, rfl⟩
      have hw6 := B0.out.size
      have hzl := ZX.out.lt
      by_cases k0 : KK = 0
      · have kn : ¬ (0 : Int) < KK := by omega
        obtain ⟨dx0, dx1, dx2, dx3⟩ := DX.out.cells4
        obtain ⟨z0, z1, z2, z3⟩ := ZX.out.cells4
        obtain ⟨zf0, zf1, zf2, zf3⟩ := ZX.out.free4
        go_wp2
        refine bodyPost_ret (v := deskV true (.slice av rs.length cv) f (.slice au ws.length cu)) (by simp [results, Tryz.results35, go_sem, *]) rfl ?_
        refine Or.inl ⟨by first | exact k0 | rfl, rfl, ?_⟩
        iterate 4 (refine Below.setCell ?_ (by first | (simp; done) | (simp; omega) | omega) _)
        exact B0.out
      have kn : (0 : Int) < KK := by
        rcases decK_state (ws := ws) (t := (M : Int) + 1) (tr := (zs, s)) (sure := SU) (by rw [HK.out]; exact k0) with ⟨_, h | h⟩ | ⟨_, h⟩ <;> rw [HK.out] at h <;> omega
      obtain ⟨hmay, hrec⟩ := HMAY.out k0
      obtain ⟨DX_0, DX_1, DX_2, DX_3⟩ := DX.out.cells4
      have DX_0a := fun o => cellAlloc DX_0 o
      have DX_1a := fun o => cellAlloc DX_1 o
      have DX_2a := fun o => cellAlloc DX_2 o
      have DX_3a := fun o => cellAlloc DX_3 o
      have DX_lt := DX.out.lt
      obtain ⟨w7, hw7⟩ : ∃ W, Hid (W = w6.alloc (.cells #[] 3)) := ⟨_, rfl⟩
      have alw7 : Below w6.heap.size w6 w7 := by rw [hw7.out]; exact alloc_below _ _
      replace B0 := hide_it (B0.out.trans (alw7.mono B0.out.size))
      replace DX := hide_it (DX.out.after alw7)
      replace ZX := hide_it (ZX.out.after alw7)
      replace RI := hide_it (RI.out.later alw7 (Nat.le_refl _))
      replace TX := hide_it (TX.out.after alw7)
      replace H2 := hide_it (H2.out.later alw7 (Nat.le_refl _))
      have NX : Hid (Blk w7 (w6.heap.size) #[] 3) := by show Blk _ _ _ _; rw [hw7.out]; exact Blk.new _ _ _
      clear alw7
      have hrow : Hid (w7.ownsRow w.heap.size 3 1 (.slice (some ⟨w6.heap.size, 0, none⟩) 0 0) 0 []) := by
        show w7.ownsRow _ _ _ _ _ _
        rw [hw7.out]
        exact ownsRow_base (T.lit0 w6 _ _) hw6
      have HWW := hide_it (HW.out KK w6.heap.size w7 hrec B0.out)
      have HM := hide_it hmay
      clear hmay hrec
      go_wp2_with fail
      rw [← hw7.out]
      clear DX_0 DX_1 DX_2 DX_3 DX_0a DX_1a DX_2a DX_3a DX_lt
      refine HWW.out.mono ?_
      rintro e w8 ho
      rcases ho with ⟨hd, -, -⟩ | ⟨-, g, c3, rfl, hown, hgrow, hloc⟩
      · rw [HM.out] at hd; cases hd
      have hlen : (rs ++ [((KK, (M : Int) + 1, []) : R)]).length = rs.length + 1 := by simp
      rw [hlen] at hown ⊢
      have hs78 := hgrow.size
      have D8 := hide_it (DX.out.grown hgrow (HVB.out _ (Nat.le_refl _)))
      have Z8 := hide_it (ZX.out.grown hgrow (HVB.out _ (by omega)))
      have R8 : Hid (w8.ownsRow w.heap.size 3 1 (.slice (some ⟨w6.heap.size, 0, none⟩) 0 0) 0 []) :=
        (Kept.of_row (ts := [81]) (ownsRow_below HO.out B0.out (fun j hj => (HO.out.lt j hj).2)) hgrow (by decide)).row hrow.out (by decide)
      have O8 := hide_it hown
      have G8 := hide_it (grownBy_belowL B0.out hgrow)
      have LC := hide_it (show (Value.slice av rs.length cv).ownBlock = some g ∨ w.heap.size ≤ g from by have := B0.out.size; rcases hloc with h | h; exact Or.inl h; exact Or.inr (by omega))
      clear hown hgrow hloc hlen
      have hdl := D8.out.lt
      have hzl8 := Z8.out.lt
      obtain ⟨dx0, dx1, dx2, dx3⟩ := D8.out.cells4
      obtain ⟨df0, df1, df2, df3⟩ := D8.out.free4
      obtain ⟨z0, z1, z2, z3⟩ := Z8.out.cells4
      obtain ⟨zf0, zf1, zf2, zf3⟩ := Z8.out.free4
      have ka0 := fun x => cellAlloc dx0 x
      have kb0 := fun x => frozenAlloc df0 hdl x
      have kc0 := fun x => cellAlloc z0 x
      have kd0 := fun x => frozenAlloc zf0 hzl8 x
      have ka1 := fun x => cellAlloc dx1 x
      have kb1 := fun x => frozenAlloc df1 hdl x
      have kc1 := fun x => cellAlloc z1 x
      have kd1 := fun x => frozenAlloc zf1 hzl8 x
      have ka2 := fun x => cellAlloc dx2 x
      have kb2 := fun x => frozenAlloc df2 hdl x
      have kc2 := fun x => cellAlloc z2 x
      have kd2 := fun x => frozenAlloc zf2 hzl8 x
      have ka3 := fun x => cellAlloc dx3 x
      have kb3 := fun x => frozenAlloc df3 hdl x
      have kc3 := fun x => cellAlloc z3 x
      have kd3 := fun x => frozenAlloc zf3 hzl8 x
      go_wp2
      refine bodyPost_ret (v := deskV true (.slice (some ⟨g, 0, none⟩) (rs.length + 1) c3) f (.slice au ws.length cu)) (by simp [results, Tryz.results35, go_sem, *]) rfl ?_
      clear ka0 kb0 kc0 kd0 ka1 kb1 kc1 kd1 ka2 kb2 kc2 kd2 ka3 kb3 kc3 kd3 dx0 dx1 dx2 dx3 df0 df1 df2 df3 z0 z1 z2 z3 zf0 zf1 zf2 zf3
      obtain ⟨q1, q2⟩ := kept_set4 D8.out (.bool true) (.slice (some ⟨g, 0, none⟩) (rs.length + 1) c3) (.int .i64 f) (.slice au ws.length cu)
      obtain ⟨q3, q4⟩ := kept_set4 (other_set4 (b := w.heap.size) Z8.out (by omega) (.bool true) (.slice (some ⟨g, 0, none⟩) (rs.length + 1) c3) (.int .i64 f) (.slice au ws.length cu)) (.bool true) (.slice (some ⟨g, 0, none⟩) (rs.length + 1) c3) (.int .i64 f) (.slice au ws.length cu)
      have q5 := q1.trans q3
      refine Or.inr ⟨k0, g, c3, w6.heap.size, rfl, ?_, ?_, LC.out, ?_⟩
      · exact (q5.row O8.out (by decide)).alloc _
      · refine grownBy_belowR ?_ (alloc_below _ _)
        iterate 4 (refine grownBy_setNew ?_ (show w.heap.size ≤ w.heap.size + 1 by omega) _)
        iterate 4 (refine grownBy_setNew ?_ (Nat.le_refl _) _)
        exact G8.out
      · exact (q5.row R8.out (by decide)).alloc _

end Go.Proofs.YtgknnigjlnfplaaGreatDoor

namespace Go.Proofs.YtgknnigjlnfplaaGreatDoor
open Go.RowKit

/-- The desk's own blocks. -/
def DkB (v u : Value) (k : Nat) : Prop := v.ownBlock = some k ∨ u.ownBlock = some k
/-- A desk that heard a word comes back: its words, and its records, in rows of their own. -/
def LhG (w w' : World) (e : Ending) (lo : Nat) (v : Value) (f : Int) (u : Value) (xs : List Value) (rs : List R) (ws : List Wd) (p : Wd) : Prop :=
  ∃ v' u', e = .returned (deskV true v' f u') ∧ w'.ownsRow lo 39 4 u' (hearW ws p).length (wflat (hearW ws p)) ∧ (∀ g, u'.ownBlock = some g → u.ownBlock = some g ∨ w.heap.size ≤ g) ∧ (∀ g, v'.ownBlock = some g → v.ownBlock = some g ∨ w.heap.size ≤ g) ∧ Turn (DkB v u) w w' ∧ Kept [81, 39] w w' ∧
    ((hearK rs f (hearW ws p) p.2.2.1 = 0 ∧ w'.ownsRow lo 81 3 v' rs.length xs ∧ v' = v) ∨
     (hearK rs f (hearW ws p) p.2.2.1 ≠ 0 ∧ ∃ x, w'.ownsRow lo 81 3 v' (rs.length + 1) (xs ++ [.int .i64 (hearK rs f (hearW ws p) p.2.2.1), .int .i64 p.2.2.1, .slice (some ⟨x, 0, none⟩) 0 0]) ∧ w'.ownsRow w.heap.size 3 1 (.slice (some ⟨x, 0, none⟩) 0 0) 0 []))

set_option maxRecDepth 100000 in
set_option maxHeartbeats 16000000 in
theorem l13Hear_no (up : Bool) (v : Value) (f : Int) (u : Value) (rs : List R) (ws : List Wd) (p : Wd) (w : World)
    (hv : DkIn w v u rs ws) (hl : tot rs ≤ 1048576) (hok : dkOk up rs f ws = true) (hh : dkHears up rs p = false) :
    Calls Tryz.prog 15 #[deskV up v f u, wordV p.1 p.2.1 p.2.2.1 p.2.2.2] w fun e w' => e = .returned (deskV up v f u) ∧ Below w.heap.size w w' := by
  obtain ⟨hf0, hf1, -⟩ := logOk_f (dkOk_log hok)
  have HI := hide_it hv
  obtain ⟨av, cv, au, cu, rfl, rfl⟩ := hv.1.shape
  have HT0 : Hid (∀ W, Below w.heap.size w W → Calls Tryz.prog 34 #[deskV up (.slice av rs.length cv) f (.slice au ws.length cu), .bool false] W fun e w' => TrL W w' e (T.ofO rs)) := fun W h =>
    l13Trips_any up _ _ rs f ws false W (HI.out.later h (Nat.le_refl _)) hl hf0 hf1
  have HWO := hide_it (fun W => specWordOk_any p.1 p.2.1 p.2.2.1 p.2.2.2 W)
  obtain ⟨p1, p2, p3, p4⟩ := p
  simp only at HWO ⊢
  simp only [dkHears, ansOk] at hh
  obtain ⟨WO, hWO⟩ : ∃ x, Pl.wOk p1 p2 p3 p4 = x := ⟨_, rfl⟩
  rw [hWO] at HWO hh
  obtain ⟨TN, hTN⟩ : ∃ x, (T.ofO rs).length = x := ⟨_, rfl⟩
  have HTN := hide_it hTN
  rw [hTN] at hh
  have HT1 : Hid (∀ W, Below w.heap.size w W → Calls Tryz.prog 34 #[deskV up (.slice av rs.length cv) f (.slice au ws.length cu), .bool false] W fun e w' => ∃ ao cap, e = .returned (.slice ao TN cap) ∧ Below W.heap.size W w') := fun W h =>
    (HT0.out W h).mono fun e w' ⟨ao, cap, he, _, hb⟩ => by rw [hTN] at he; exact ⟨ao, cap, he, hb⟩
  clear hTN hWO hv hf0 hf1 hok HT0
  have HH := hide_it hh
  clear hh
  have B0 : Hid (Below w.heap.size w w) := Below.refl _ _
  go_enter Tryz.func15, Tryz.ntmps15
  obtain ⟨w1, hw1⟩ : ∃ W, Hid (W = ((w.alloc (.cells #[.bool up, .slice av rs.length cv, .int .i64 f, .slice au ws.length cu] 36)).alloc (.cells #[.int .i64 p1, .int .i64 p2, .int .i64 p3, .int .i64 p4] 39)).alloc (.cells #[.bool false, .slice none 0 0, .int .i64 0, .slice none 0 0] 36)) := ⟨_, rfl⟩
  have alw1 : Below w.heap.size w w1 := by rw [hw1.out]; exact below3 _ _ _ _
  replace B0 := hide_it (B0.out.trans (alw1.mono B0.out.size))
  have D : Hid (Blk w1 (w.heap.size) #[.bool up, .slice av rs.length cv, .int .i64 f, .slice au ws.length cu] 36) := by show Blk _ _ _ _; rw [hw1.out]; exact ((Blk.new _ _ _).alloc _).alloc _
  have P : Hid (Blk w1 (w.heap.size + 1) #[.int .i64 p1, .int .i64 p2, .int .i64 p3, .int .i64 p4] 39) := by show Blk _ _ _ _; rw [hw1.out]; exact (Blk.new2 _ _ _ _).alloc _
  have Z : Hid (Blk w1 (w.heap.size + 1 + 1) #[.bool false, .slice none 0 0, .int .i64 0, .slice none 0 0] 36) := by show Blk _ _ _ _; rw [hw1.out]; exact Blk.new3 _ _ _ _ _
  clear alw1
  obtain ⟨D_0, D_1, D_2, D_3⟩ := D.out.cells4
  obtain ⟨P_0, P_1, P_2, P_3⟩ := P.out.cells4
  go_wp2_with fail
  rw [← hw1.out]
  have HZ := hide_it HH.out
  cases up
  · skip
    have KB : Hid (∀ W, Below w1.heap.size w1 W → (W.cell? ⟨w.heap.size, 0, none⟩ = some (.bool false) ∧ W.cell? ⟨w.heap.size, 1, none⟩ = some (.slice av rs.length cv) ∧ W.cell? ⟨w.heap.size, 2, none⟩ = some (.int .i64 f) ∧ W.cell? ⟨w.heap.size, 3, none⟩ = some (.slice au ws.length cu)) ∧ (W.cell? ⟨w.heap.size + 1, 0, none⟩ = some (.int .i64 p1) ∧ W.cell? ⟨w.heap.size + 1, 1, none⟩ = some (.int .i64 p2) ∧ W.cell? ⟨w.heap.size + 1, 2, none⟩ = some (.int .i64 p3) ∧ W.cell? ⟨w.heap.size + 1, 3, none⟩ = some (.int .i64 p4))) := fun W hb => ⟨(D.out.after hb).cells4, (P.out.after hb).cells4⟩
    clear D_0 D_1 D_2 D_3 P_0 P_1 P_2 P_3
    have LB : Hid (Below w1.heap.size w1 w1) := Below.refl _ _
    have hdr : Below w1.heap.size w1 w1.drew := (Below.refl _ _).drew
    replace B0 := hide_it (B0.out.trans (hdr.mono B0.out.size))
    replace D := hide_it (D.out.after hdr)
    replace P := hide_it (P.out.after hdr)
    replace Z := hide_it (Z.out.after hdr)
    replace LB := hide_it (LB.out.trans (hdr.mono LB.out.size))
    clear hdr
    refine wp_region_held_drew (S := fun w' => (w'.cell? ⟨w.heap.size, 0, none⟩ = some (.bool false) ∧ w'.cell? ⟨w.heap.size, 1, none⟩ = some (.slice av rs.length cv) ∧ w'.cell? ⟨w.heap.size, 2, none⟩ = some (.int .i64 f) ∧ w'.cell? ⟨w.heap.size, 3, none⟩ = some (.slice au ws.length cu)) ∧ (w'.cell? ⟨w.heap.size + 1, 0, none⟩ = some (.int .i64 p1) ∧ w'.cell? ⟨w.heap.size + 1, 1, none⟩ = some (.int .i64 p2) ∧ w'.cell? ⟨w.heap.size + 1, 2, none⟩ = some (.int .i64 p3) ∧ w'.cell? ⟨w.heap.size + 1, 3, none⟩ = some (.int .i64 p4))) (by kernel_rfl) (KB.out _ (Below.refl _ _).drew) (fun hHeld => ?_)
    refine takeD (i := 0) (v := ?_) (some 5) rfl rfl (by kernel_rfl) (by kernel_rfl) (by kernel_rfl) (fun _ _ _ h => h) (by rfl) hHeld ?_ ?_
    rotate_left
    · intro W hSw
      try dsimp only at hSw
      go_simp
      try with_reducible rfl
    try simp only [Act.put]
    try simp only [List.setIfInBounds_toArray]
    try simp only [List.set_cons_succ]
    try simp only [List.set_cons_zero]
    refine takeD (i := 1) (v := ?_) (some 6) rfl rfl (by kernel_rfl) (by kernel_rfl) (by kernel_rfl) (fun _ _ _ h => h) (by rfl) hHeld ?_ ?_
    rotate_left
    · intro W hSw
      try dsimp only at hSw
      go_simp
      try with_reducible rfl
    try simp only [Act.put]
    try simp only [List.setIfInBounds_toArray]
    try simp only [List.set_cons_succ]
    try simp only [List.set_cons_zero]
    refine takeD (i := 2) (v := ?_) (some 7) rfl rfl (by kernel_rfl) (by kernel_rfl) (by kernel_rfl) (fun _ _ _ h => h) (by rfl) hHeld ?_ ?_
    rotate_left
    · intro W hSw
      try dsimp only at hSw
      go_simp
      try with_reducible rfl
    try simp only [Act.put]
    try simp only [List.setIfInBounds_toArray]
    try simp only [List.set_cons_succ]
    try simp only [List.set_cons_zero]
    refine takeD (i := 3) (v := .bool true) (some 8) rfl rfl (by kernel_rfl) (by kernel_rfl) (by kernel_rfl) (fun _ _ _ h => h) (by rfl) hHeld ?_ ?_
    · intro W hSw
      try dsimp only at hSw
      first | (go_simp; done) | (go_simp; simp; done) | (go_simp; omega) | (go_simp; simp [*])
    try simp only [Act.put]
    try simp only [List.setIfInBounds_toArray]
    try simp only [List.set_cons_succ]
    try simp only [List.set_cons_zero]
    refine skipD (i := 4) (some 9) rfl rfl (by kernel_rfl) (by kernel_rfl) (by kernel_rfl) (fun _ _ _ h => h) (by rfl) hHeld ?_
    try simp only [Act.put]
    try simp only [List.setIfInBounds_toArray]
    try simp only [List.set_cons_succ]
    try simp only [List.set_cons_zero]
    refine skipD (i := 5) (some 10) rfl rfl (by kernel_rfl) (by kernel_rfl) (by kernel_rfl) (fun _ _ _ h => h) (by rfl) hHeld ?_
    try simp only [Act.put]
    try simp only [List.setIfInBounds_toArray]
    try simp only [List.set_cons_succ]
    try simp only [List.set_cons_zero]
    refine skipD (i := 6) (some 11) rfl rfl (by kernel_rfl) (by kernel_rfl) (by kernel_rfl) (fun _ _ _ h => h) (by rfl) hHeld ?_
    try simp only [Act.put]
    try simp only [List.setIfInBounds_toArray]
    try simp only [List.set_cons_succ]
    try simp only [List.set_cons_zero]
    refine takeD (i := 7) (v := ?_) (some 12) rfl rfl (by kernel_rfl) (by kernel_rfl) (by kernel_rfl) (fun _ _ _ h => h) (by rfl) hHeld ?_ ?_
    rotate_left
    · intro W hSw
      try dsimp only at hSw
      go_simp
      try with_reducible rfl
    try simp only [Act.put]
    try simp only [List.setIfInBounds_toArray]
    try simp only [List.set_cons_succ]
    try simp only [List.set_cons_zero]
    refine takeD (i := 8) (v := .bool true) (some 13) rfl rfl (by kernel_rfl) (by kernel_rfl) (by kernel_rfl) (fun _ _ _ h => h) (by rfl) hHeld ?_ ?_
    · intro W hSw
      try dsimp only at hSw
      first | (go_simp; done) | (go_simp; simp; done) | (go_simp; omega) | (go_simp; simp [*])
    try simp only [Act.put]
    try simp only [List.setIfInBounds_toArray]
    try simp only [List.set_cons_succ]
    try simp only [List.set_cons_zero]
    refine skipD (i := 9) (some 14) rfl rfl (by kernel_rfl) (by kernel_rfl) (by kernel_rfl) (fun _ _ _ h => h) (by rfl) hHeld ?_
    try simp only [Act.put]
    try simp only [List.setIfInBounds_toArray]
    try simp only [List.set_cons_succ]
    try simp only [List.set_cons_zero]
    refine skipD (i := 10) (some 15) rfl rfl (by kernel_rfl) (by kernel_rfl) (by kernel_rfl) (fun _ _ _ h => h) (by rfl) hHeld ?_
    try simp only [Act.put]
    try simp only [List.setIfInBounds_toArray]
    try simp only [List.set_cons_succ]
    try simp only [List.set_cons_zero]
    refine skipD (i := 11) (some 16) rfl rfl (by kernel_rfl) (by kernel_rfl) (by kernel_rfl) (fun _ _ _ h => h) (by rfl) hHeld ?_
    try simp only [Act.put]
    try simp only [List.setIfInBounds_toArray]
    try simp only [List.set_cons_succ]
    try simp only [List.set_cons_zero]
    refine takeD (i := 12) (v := ?_) (some 17) rfl rfl (by kernel_rfl) (by kernel_rfl) (by kernel_rfl) (fun _ _ _ h => h) (by rfl) hHeld ?_ ?_
    rotate_left
    · intro W hSw
      try dsimp only at hSw
      go_simp
      try with_reducible rfl
    try simp only [Act.put]
    try simp only [List.setIfInBounds_toArray]
    try simp only [List.set_cons_succ]
    try simp only [List.set_cons_zero]
    refine takeD (i := 13) (v := .bool true) (some 18) rfl rfl (by kernel_rfl) (by kernel_rfl) (by kernel_rfl) (fun _ _ _ h => h) (by rfl) hHeld ?_ ?_
    · intro W hSw
      try dsimp only at hSw
      first | (go_simp; done) | (go_simp; simp; done) | (go_simp; omega) | (go_simp; simp [*])
    try simp only [Act.put]
    try simp only [List.setIfInBounds_toArray]
    try simp only [List.set_cons_succ]
    try simp only [List.set_cons_zero]
    refine skipD (i := 14) (some 19) rfl rfl (by kernel_rfl) (by kernel_rfl) (by kernel_rfl) (fun _ _ _ h => h) (by rfl) hHeld ?_
    try simp only [Act.put]
    try simp only [List.setIfInBounds_toArray]
    try simp only [List.set_cons_succ]
    try simp only [List.set_cons_zero]
    refine skipD (i := 15) (some 20) rfl rfl (by kernel_rfl) (by kernel_rfl) (by kernel_rfl) (fun _ _ _ h => h) (by rfl) hHeld ?_
    try simp only [Act.put]
    try simp only [List.setIfInBounds_toArray]
    try simp only [List.set_cons_succ]
    try simp only [List.set_cons_zero]
    refine skipD (i := 16) (some 21) rfl rfl (by kernel_rfl) (by kernel_rfl) (by kernel_rfl) (fun _ _ _ h => h) (by rfl) hHeld ?_
    try simp only [Act.put]
    try simp only [List.setIfInBounds_toArray]
    try simp only [List.set_cons_succ]
    try simp only [List.set_cons_zero]
    refine skipD (i := 17) (some 22) rfl rfl (by kernel_rfl) (by kernel_rfl) (by kernel_rfl) (fun _ _ _ h => h) (by rfl) hHeld ?_
    try simp only [Act.put]
    try simp only [List.setIfInBounds_toArray]
    try simp only [List.set_cons_succ]
    try simp only [List.set_cons_zero]
    refine skipD (i := 18) (some 23) rfl rfl (by kernel_rfl) (by kernel_rfl) (by kernel_rfl) (fun _ _ _ h => h) (by rfl) hHeld ?_
    try simp only [Act.put]
    try simp only [List.setIfInBounds_toArray]
    try simp only [List.set_cons_succ]
    try simp only [List.set_cons_zero]
    refine skipD (i := 19) (some 24) rfl rfl (by kernel_rfl) (by kernel_rfl) (by kernel_rfl) (fun _ _ _ h => h) (by rfl) hHeld ?_
    try simp only [Act.put]
    try simp only [List.setIfInBounds_toArray]
    try simp only [List.set_cons_succ]
    try simp only [List.set_cons_zero]
    refine takeD (i := 20) (v := ?_) (some 25) rfl rfl (by kernel_rfl) (by kernel_rfl) (by kernel_rfl) (fun _ _ _ h => h) (by rfl) hHeld ?_ ?_
    rotate_left
    · intro W hSw
      try dsimp only at hSw
      go_simp
      try with_reducible rfl
    try simp only [Act.put]
    try simp only [List.setIfInBounds_toArray]
    try simp only [List.set_cons_succ]
    try simp only [List.set_cons_zero]
    refine wpAnyH_done (by kernel_rfl) ?_ _
    clear KB LB
    obtain ⟨w2, hw2⟩ : ∃ W, Hid (W = w1.drew) := ⟨_, rfl⟩
    rw [← hw2.out] at B0 D P Z ⊢
    obtain ⟨D_0, D_1, D_2, D_3⟩ := D.out.cells4
    obtain ⟨Z_0, Z_1, Z_2, Z_3⟩ := Z.out.cells4
    have Z_f0 := Z.out.free 0
    have Z_f1 := Z.out.free 1
    have Z_f2 := Z.out.free 2
    have Z_f3 := Z.out.free 3
    go_wp2
    refine bodyPost_ret (v := deskV false (.slice av rs.length cv) f (.slice au ws.length cu)) (by simp [results, Tryz.results15, deskV, go_sem, *]) rfl ⟨rfl, ?_⟩
    exact (((B0.out.setCell (by simp; try omega) _).setCell (by simp; try omega) _).setCell (by simp; try omega) _).setCell (by simp; try omega) _
  cases WO
  · skip
    have KB : Hid (∀ W, Below w1.heap.size w1 W → (W.cell? ⟨w.heap.size, 0, none⟩ = some (.bool true) ∧ W.cell? ⟨w.heap.size, 1, none⟩ = some (.slice av rs.length cv) ∧ W.cell? ⟨w.heap.size, 2, none⟩ = some (.int .i64 f) ∧ W.cell? ⟨w.heap.size, 3, none⟩ = some (.slice au ws.length cu)) ∧ (W.cell? ⟨w.heap.size + 1, 0, none⟩ = some (.int .i64 p1) ∧ W.cell? ⟨w.heap.size + 1, 1, none⟩ = some (.int .i64 p2) ∧ W.cell? ⟨w.heap.size + 1, 2, none⟩ = some (.int .i64 p3) ∧ W.cell? ⟨w.heap.size + 1, 3, none⟩ = some (.int .i64 p4))) := fun W hb => ⟨(D.out.after hb).cells4, (P.out.after hb).cells4⟩
    clear D_0 D_1 D_2 D_3 P_0 P_1 P_2 P_3
    have LB : Hid (Below w1.heap.size w1 w1) := Below.refl _ _
    have hdr : Below w1.heap.size w1 w1.drew := (Below.refl _ _).drew
    replace B0 := hide_it (B0.out.trans (hdr.mono B0.out.size))
    replace D := hide_it (D.out.after hdr)
    replace P := hide_it (P.out.after hdr)
    replace Z := hide_it (Z.out.after hdr)
    replace LB := hide_it (LB.out.trans (hdr.mono LB.out.size))
    clear hdr
    refine wp_region_held_drew (S := fun w' => (w'.cell? ⟨w.heap.size, 0, none⟩ = some (.bool true) ∧ w'.cell? ⟨w.heap.size, 1, none⟩ = some (.slice av rs.length cv) ∧ w'.cell? ⟨w.heap.size, 2, none⟩ = some (.int .i64 f) ∧ w'.cell? ⟨w.heap.size, 3, none⟩ = some (.slice au ws.length cu)) ∧ (w'.cell? ⟨w.heap.size + 1, 0, none⟩ = some (.int .i64 p1) ∧ w'.cell? ⟨w.heap.size + 1, 1, none⟩ = some (.int .i64 p2) ∧ w'.cell? ⟨w.heap.size + 1, 2, none⟩ = some (.int .i64 p3) ∧ w'.cell? ⟨w.heap.size + 1, 3, none⟩ = some (.int .i64 p4))) (by kernel_rfl) (KB.out _ (Below.refl _ _).drew) (fun hHeld => ?_)
    refine takeD (i := 0) (v := ?_) (some 5) rfl rfl (by kernel_rfl) (by kernel_rfl) (by kernel_rfl) (fun _ _ _ h => h) (by rfl) hHeld ?_ ?_
    rotate_left
    · intro W hSw
      try dsimp only at hSw
      go_simp
      try with_reducible rfl
    try simp only [Act.put]
    try simp only [List.setIfInBounds_toArray]
    try simp only [List.set_cons_succ]
    try simp only [List.set_cons_zero]
    refine takeD (i := 1) (v := ?_) (some 6) rfl rfl (by kernel_rfl) (by kernel_rfl) (by kernel_rfl) (fun _ _ _ h => h) (by rfl) hHeld ?_ ?_
    rotate_left
    · intro W hSw
      try dsimp only at hSw
      go_simp
      try with_reducible rfl
    try simp only [Act.put]
    try simp only [List.setIfInBounds_toArray]
    try simp only [List.set_cons_succ]
    try simp only [List.set_cons_zero]
    refine takeD (i := 2) (v := ?_) (some 7) rfl rfl (by kernel_rfl) (by kernel_rfl) (by kernel_rfl) (fun _ _ _ h => h) (by rfl) hHeld ?_ ?_
    rotate_left
    · intro W hSw
      try dsimp only at hSw
      go_simp
      try with_reducible rfl
    try simp only [Act.put]
    try simp only [List.setIfInBounds_toArray]
    try simp only [List.set_cons_succ]
    try simp only [List.set_cons_zero]
    refine takeD (i := 3) (v := .bool false) (some 8) rfl rfl (by kernel_rfl) (by kernel_rfl) (by kernel_rfl) (fun _ _ _ h => h) (by rfl) hHeld ?_ ?_
    · intro W hSw
      try dsimp only at hSw
      first | (go_simp; done) | (go_simp; simp; done) | (go_simp; omega) | (go_simp; simp [*])
    try simp only [Act.put]
    try simp only [List.setIfInBounds_toArray]
    try simp only [List.set_cons_succ]
    try simp only [List.set_cons_zero]
    refine takeD (i := 4) (v := ?_) (some 9) rfl rfl (by kernel_rfl) (by kernel_rfl) (by kernel_rfl) (fun _ _ _ h => h) (by rfl) hHeld ?_ ?_
    rotate_left
    · intro W hSw
      try dsimp only at hSw
      go_simp
      try with_reducible rfl
    try simp only [Act.put]
    try simp only [List.setIfInBounds_toArray]
    try simp only [List.set_cons_succ]
    try simp only [List.set_cons_zero]
    refine wpAnyH_ready (rs := [5]) (by kernel_rfl) (by simp) ?_
    refine AllReadyH.cons rfl (fun K hK => ?_) AllReadyH.nil
    go_simp
    refine (HWO.out _).mono ?_
    rintro e w2 ⟨rfl, hb⟩
    replace B0 := hide_it (B0.out.trans (hb.mono B0.out.size))
    replace D := hide_it (D.out.after hb)
    replace P := hide_it (P.out.after hb)
    replace Z := hide_it (Z.out.after hb)
    replace LB := hide_it (LB.out.trans (hb.mono LB.out.size))
    clear hb
    try dsimp only
    refine hK.out _ _ (KB.out _ LB.out) (fun hHeld => ?_)
    clear hK K
    refine takeD (i := 6) (v := ?_) (some 11) rfl rfl (by kernel_rfl) (by kernel_rfl) (by kernel_rfl) (fun _ _ _ h => h) (by rfl) hHeld ?_ ?_
    rotate_left
    · intro W hSw
      try dsimp only at hSw
      go_simp
      try with_reducible rfl
    try simp only [Act.put]
    try simp only [List.setIfInBounds_toArray]
    try simp only [List.set_cons_succ]
    try simp only [List.set_cons_zero]
    refine takeD (i := 7) (v := ?_) (some 12) rfl rfl (by kernel_rfl) (by kernel_rfl) (by kernel_rfl) (fun _ _ _ h => h) (by rfl) hHeld ?_ ?_
    rotate_left
    · intro W hSw
      try dsimp only at hSw
      go_simp
      try with_reducible rfl
    try simp only [Act.put]
    try simp only [List.setIfInBounds_toArray]
    try simp only [List.set_cons_succ]
    try simp only [List.set_cons_zero]
    refine takeD (i := 8) (v := .bool true) (some 13) rfl rfl (by kernel_rfl) (by kernel_rfl) (by kernel_rfl) (fun _ _ _ h => h) (by rfl) hHeld ?_ ?_
    · intro W hSw
      try dsimp only at hSw
      first | (go_simp; done) | (go_simp; simp; done) | (go_simp; omega) | (go_simp; simp [*])
    try simp only [Act.put]
    try simp only [List.setIfInBounds_toArray]
    try simp only [List.set_cons_succ]
    try simp only [List.set_cons_zero]
    refine skipD (i := 9) (some 14) rfl rfl (by kernel_rfl) (by kernel_rfl) (by kernel_rfl) (fun _ _ _ h => h) (by rfl) hHeld ?_
    try simp only [Act.put]
    try simp only [List.setIfInBounds_toArray]
    try simp only [List.set_cons_succ]
    try simp only [List.set_cons_zero]
    refine skipD (i := 10) (some 15) rfl rfl (by kernel_rfl) (by kernel_rfl) (by kernel_rfl) (fun _ _ _ h => h) (by rfl) hHeld ?_
    try simp only [Act.put]
    try simp only [List.setIfInBounds_toArray]
    try simp only [List.set_cons_succ]
    try simp only [List.set_cons_zero]
    refine skipD (i := 11) (some 16) rfl rfl (by kernel_rfl) (by kernel_rfl) (by kernel_rfl) (fun _ _ _ h => h) (by rfl) hHeld ?_
    try simp only [Act.put]
    try simp only [List.setIfInBounds_toArray]
    try simp only [List.set_cons_succ]
    try simp only [List.set_cons_zero]
    refine takeD (i := 12) (v := ?_) (some 17) rfl rfl (by kernel_rfl) (by kernel_rfl) (by kernel_rfl) (fun _ _ _ h => h) (by rfl) hHeld ?_ ?_
    rotate_left
    · intro W hSw
      try dsimp only at hSw
      go_simp
      try with_reducible rfl
    try simp only [Act.put]
    try simp only [List.setIfInBounds_toArray]
    try simp only [List.set_cons_succ]
    try simp only [List.set_cons_zero]
    refine takeD (i := 13) (v := .bool true) (some 18) rfl rfl (by kernel_rfl) (by kernel_rfl) (by kernel_rfl) (fun _ _ _ h => h) (by rfl) hHeld ?_ ?_
    · intro W hSw
      try dsimp only at hSw
      first | (go_simp; done) | (go_simp; simp; done) | (go_simp; omega) | (go_simp; simp [*])
    try simp only [Act.put]
    try simp only [List.setIfInBounds_toArray]
    try simp only [List.set_cons_succ]
    try simp only [List.set_cons_zero]
    refine skipD (i := 14) (some 19) rfl rfl (by kernel_rfl) (by kernel_rfl) (by kernel_rfl) (fun _ _ _ h => h) (by rfl) hHeld ?_
    try simp only [Act.put]
    try simp only [List.setIfInBounds_toArray]
    try simp only [List.set_cons_succ]
    try simp only [List.set_cons_zero]
    refine skipD (i := 15) (some 20) rfl rfl (by kernel_rfl) (by kernel_rfl) (by kernel_rfl) (fun _ _ _ h => h) (by rfl) hHeld ?_
    try simp only [Act.put]
    try simp only [List.setIfInBounds_toArray]
    try simp only [List.set_cons_succ]
    try simp only [List.set_cons_zero]
    refine skipD (i := 16) (some 21) rfl rfl (by kernel_rfl) (by kernel_rfl) (by kernel_rfl) (fun _ _ _ h => h) (by rfl) hHeld ?_
    try simp only [Act.put]
    try simp only [List.setIfInBounds_toArray]
    try simp only [List.set_cons_succ]
    try simp only [List.set_cons_zero]
    refine skipD (i := 17) (some 22) rfl rfl (by kernel_rfl) (by kernel_rfl) (by kernel_rfl) (fun _ _ _ h => h) (by rfl) hHeld ?_
    try simp only [Act.put]
    try simp only [List.setIfInBounds_toArray]
    try simp only [List.set_cons_succ]
    try simp only [List.set_cons_zero]
    refine skipD (i := 18) (some 23) rfl rfl (by kernel_rfl) (by kernel_rfl) (by kernel_rfl) (fun _ _ _ h => h) (by rfl) hHeld ?_
    try simp only [Act.put]
    try simp only [List.setIfInBounds_toArray]
    try simp only [List.set_cons_succ]
    try simp only [List.set_cons_zero]
    refine skipD (i := 19) (some 24) rfl rfl (by kernel_rfl) (by kernel_rfl) (by kernel_rfl) (fun _ _ _ h => h) (by rfl) hHeld ?_
    try simp only [Act.put]
    try simp only [List.setIfInBounds_toArray]
    try simp only [List.set_cons_succ]
    try simp only [List.set_cons_zero]
    refine takeD (i := 20) (v := ?_) (some 25) rfl rfl (by kernel_rfl) (by kernel_rfl) (by kernel_rfl) (fun _ _ _ h => h) (by rfl) hHeld ?_ ?_
    rotate_left
    · intro W hSw
      try dsimp only at hSw
      go_simp
      try with_reducible rfl
    try simp only [Act.put]
    try simp only [List.setIfInBounds_toArray]
    try simp only [List.set_cons_succ]
    try simp only [List.set_cons_zero]
    refine wpAnyH_done (by kernel_rfl) ?_ _
    clear KB LB
    obtain ⟨D_0, D_1, D_2, D_3⟩ := D.out.cells4
    obtain ⟨Z_0, Z_1, Z_2, Z_3⟩ := Z.out.cells4
    have Z_f0 := Z.out.free 0
    have Z_f1 := Z.out.free 1
    have Z_f2 := Z.out.free 2
    have Z_f3 := Z.out.free 3
    go_wp2
    refine bodyPost_ret (v := deskV true (.slice av rs.length cv) f (.slice au ws.length cu)) (by simp [results, Tryz.results15, deskV, go_sem, *]) rfl ⟨rfl, ?_⟩
    exact (((B0.out.setCell (by simp; try omega) _).setCell (by simp; try omega) _).setCell (by simp; try omega) _).setCell (by simp; try omega) _
  by_cases h4 : p1 < 4
  · skip
    have KB : Hid (∀ W, Below w1.heap.size w1 W → (W.cell? ⟨w.heap.size, 0, none⟩ = some (.bool true) ∧ W.cell? ⟨w.heap.size, 1, none⟩ = some (.slice av rs.length cv) ∧ W.cell? ⟨w.heap.size, 2, none⟩ = some (.int .i64 f) ∧ W.cell? ⟨w.heap.size, 3, none⟩ = some (.slice au ws.length cu)) ∧ (W.cell? ⟨w.heap.size + 1, 0, none⟩ = some (.int .i64 p1) ∧ W.cell? ⟨w.heap.size + 1, 1, none⟩ = some (.int .i64 p2) ∧ W.cell? ⟨w.heap.size + 1, 2, none⟩ = some (.int .i64 p3) ∧ W.cell? ⟨w.heap.size + 1, 3, none⟩ = some (.int .i64 p4))) := fun W hb => ⟨(D.out.after hb).cells4, (P.out.after hb).cells4⟩
    clear D_0 D_1 D_2 D_3 P_0 P_1 P_2 P_3
    have LB : Hid (Below w1.heap.size w1 w1) := Below.refl _ _
    have hdr : Below w1.heap.size w1 w1.drew := (Below.refl _ _).drew
    replace B0 := hide_it (B0.out.trans (hdr.mono B0.out.size))
    replace D := hide_it (D.out.after hdr)
    replace P := hide_it (P.out.after hdr)
    replace Z := hide_it (Z.out.after hdr)
    replace LB := hide_it (LB.out.trans (hdr.mono LB.out.size))
    clear hdr
    refine wp_region_held_drew (S := fun w' => (w'.cell? ⟨w.heap.size, 0, none⟩ = some (.bool true) ∧ w'.cell? ⟨w.heap.size, 1, none⟩ = some (.slice av rs.length cv) ∧ w'.cell? ⟨w.heap.size, 2, none⟩ = some (.int .i64 f) ∧ w'.cell? ⟨w.heap.size, 3, none⟩ = some (.slice au ws.length cu)) ∧ (w'.cell? ⟨w.heap.size + 1, 0, none⟩ = some (.int .i64 p1) ∧ w'.cell? ⟨w.heap.size + 1, 1, none⟩ = some (.int .i64 p2) ∧ w'.cell? ⟨w.heap.size + 1, 2, none⟩ = some (.int .i64 p3) ∧ w'.cell? ⟨w.heap.size + 1, 3, none⟩ = some (.int .i64 p4))) (by kernel_rfl) (KB.out _ (Below.refl _ _).drew) (fun hHeld => ?_)
    refine takeD (i := 0) (v := ?_) (some 5) rfl rfl (by kernel_rfl) (by kernel_rfl) (by kernel_rfl) (fun _ _ _ h => h) (by rfl) hHeld ?_ ?_
    rotate_left
    · intro W hSw
      try dsimp only at hSw
      go_simp
      try with_reducible rfl
    try simp only [Act.put]
    try simp only [List.setIfInBounds_toArray]
    try simp only [List.set_cons_succ]
    try simp only [List.set_cons_zero]
    refine takeD (i := 1) (v := ?_) (some 6) rfl rfl (by kernel_rfl) (by kernel_rfl) (by kernel_rfl) (fun _ _ _ h => h) (by rfl) hHeld ?_ ?_
    rotate_left
    · intro W hSw
      try dsimp only at hSw
      go_simp
      try with_reducible rfl
    try simp only [Act.put]
    try simp only [List.setIfInBounds_toArray]
    try simp only [List.set_cons_succ]
    try simp only [List.set_cons_zero]
    refine takeD (i := 2) (v := ?_) (some 7) rfl rfl (by kernel_rfl) (by kernel_rfl) (by kernel_rfl) (fun _ _ _ h => h) (by rfl) hHeld ?_ ?_
    rotate_left
    · intro W hSw
      try dsimp only at hSw
      go_simp
      try with_reducible rfl
    try simp only [Act.put]
    try simp only [List.setIfInBounds_toArray]
    try simp only [List.set_cons_succ]
    try simp only [List.set_cons_zero]
    refine takeD (i := 3) (v := .bool false) (some 8) rfl rfl (by kernel_rfl) (by kernel_rfl) (by kernel_rfl) (fun _ _ _ h => h) (by rfl) hHeld ?_ ?_
    · intro W hSw
      try dsimp only at hSw
      first | (go_simp; done) | (go_simp; simp; done) | (go_simp; omega) | (go_simp; simp [*])
    try simp only [Act.put]
    try simp only [List.setIfInBounds_toArray]
    try simp only [List.set_cons_succ]
    try simp only [List.set_cons_zero]
    refine takeD (i := 4) (v := ?_) (some 9) rfl rfl (by kernel_rfl) (by kernel_rfl) (by kernel_rfl) (fun _ _ _ h => h) (by rfl) hHeld ?_ ?_
    rotate_left
    · intro W hSw
      try dsimp only at hSw
      go_simp
      try with_reducible rfl
    try simp only [Act.put]
    try simp only [List.setIfInBounds_toArray]
    try simp only [List.set_cons_succ]
    try simp only [List.set_cons_zero]
    refine wpAnyH_ready (rs := [5]) (by kernel_rfl) (by simp) ?_
    refine AllReadyH.cons rfl (fun K hK => ?_) AllReadyH.nil
    go_simp
    refine (HWO.out _).mono ?_
    rintro e w2 ⟨rfl, hb⟩
    replace B0 := hide_it (B0.out.trans (hb.mono B0.out.size))
    replace D := hide_it (D.out.after hb)
    replace P := hide_it (P.out.after hb)
    replace Z := hide_it (Z.out.after hb)
    replace LB := hide_it (LB.out.trans (hb.mono LB.out.size))
    clear hb
    try dsimp only
    refine hK.out _ _ (KB.out _ LB.out) (fun hHeld => ?_)
    clear hK K
    refine takeD (i := 6) (v := ?_) (some 11) rfl rfl (by kernel_rfl) (by kernel_rfl) (by kernel_rfl) (fun _ _ _ h => h) (by rfl) hHeld ?_ ?_
    rotate_left
    · intro W hSw
      try dsimp only at hSw
      go_simp
      try with_reducible rfl
    try simp only [Act.put]
    try simp only [List.setIfInBounds_toArray]
    try simp only [List.set_cons_succ]
    try simp only [List.set_cons_zero]
    refine takeD (i := 7) (v := ?_) (some 12) rfl rfl (by kernel_rfl) (by kernel_rfl) (by kernel_rfl) (fun _ _ _ h => h) (by rfl) hHeld ?_ ?_
    rotate_left
    · intro W hSw
      try dsimp only at hSw
      go_simp
      try with_reducible rfl
    try simp only [Act.put]
    try simp only [List.setIfInBounds_toArray]
    try simp only [List.set_cons_succ]
    try simp only [List.set_cons_zero]
    refine takeD (i := 8) (v := .bool false) (some 13) rfl rfl (by kernel_rfl) (by kernel_rfl) (by kernel_rfl) (fun _ _ _ h => h) (by rfl) hHeld ?_ ?_
    · intro W hSw
      try dsimp only at hSw
      first | (go_simp; done) | (go_simp; simp; done) | (go_simp; omega) | (go_simp; simp [*])
    try simp only [Act.put]
    try simp only [List.setIfInBounds_toArray]
    try simp only [List.set_cons_succ]
    try simp only [List.set_cons_zero]
    refine takeD (i := 9) (v := ?_) (some 14) rfl rfl (by kernel_rfl) (by kernel_rfl) (by kernel_rfl) (fun _ _ _ h => h) (by rfl) hHeld ?_ ?_
    rotate_left
    · intro W hSw
      try dsimp only at hSw
      go_simp
      try with_reducible rfl
    try simp only [Act.put]
    try simp only [List.setIfInBounds_toArray]
    try simp only [List.set_cons_succ]
    try simp only [List.set_cons_zero]
    refine takeD (i := 10) (v := ?_) (some 15) rfl rfl (by kernel_rfl) (by kernel_rfl) (by kernel_rfl) (fun _ _ _ h => h) (by rfl) hHeld ?_ ?_
    rotate_left
    · intro W hSw
      try dsimp only at hSw
      go_simp
      try with_reducible rfl
    try simp only [Act.put]
    try simp only [List.setIfInBounds_toArray]
    try simp only [List.set_cons_succ]
    try simp only [List.set_cons_zero]
    refine takeD (i := 11) (v := .bool true) (some 16) rfl rfl (by kernel_rfl) (by kernel_rfl) (by kernel_rfl) (fun _ _ _ h => h) (by rfl) hHeld ?_ ?_
    · intro W hSw
      try dsimp only at hSw
      first | (go_simp; done) | (go_simp; simp; done) | (go_simp; omega) | (go_simp; simp [*])
    try simp only [Act.put]
    try simp only [List.setIfInBounds_toArray]
    try simp only [List.set_cons_succ]
    try simp only [List.set_cons_zero]
    refine takeD (i := 12) (v := ?_) (some 17) rfl rfl (by kernel_rfl) (by kernel_rfl) (by kernel_rfl) (fun _ _ _ h => h) (by rfl) hHeld ?_ ?_
    rotate_left
    · intro W hSw
      try dsimp only at hSw
      go_simp
      try with_reducible rfl
    try simp only [Act.put]
    try simp only [List.setIfInBounds_toArray]
    try simp only [List.set_cons_succ]
    try simp only [List.set_cons_zero]
    refine takeD (i := 13) (v := .bool true) (some 18) rfl rfl (by kernel_rfl) (by kernel_rfl) (by kernel_rfl) (fun _ _ _ h => h) (by rfl) hHeld ?_ ?_
    · intro W hSw
      try dsimp only at hSw
      first | (go_simp; done) | (go_simp; simp; done) | (go_simp; omega) | (go_simp; simp [*])
    try simp only [Act.put]
    try simp only [List.setIfInBounds_toArray]
    try simp only [List.set_cons_succ]
    try simp only [List.set_cons_zero]
    refine skipD (i := 14) (some 19) rfl rfl (by kernel_rfl) (by kernel_rfl) (by kernel_rfl) (fun _ _ _ h => h) (by rfl) hHeld ?_
    try simp only [Act.put]
    try simp only [List.setIfInBounds_toArray]
    try simp only [List.set_cons_succ]
    try simp only [List.set_cons_zero]
    refine skipD (i := 15) (some 20) rfl rfl (by kernel_rfl) (by kernel_rfl) (by kernel_rfl) (fun _ _ _ h => h) (by rfl) hHeld ?_
    try simp only [Act.put]
    try simp only [List.setIfInBounds_toArray]
    try simp only [List.set_cons_succ]
    try simp only [List.set_cons_zero]
    refine skipD (i := 16) (some 21) rfl rfl (by kernel_rfl) (by kernel_rfl) (by kernel_rfl) (fun _ _ _ h => h) (by rfl) hHeld ?_
    try simp only [Act.put]
    try simp only [List.setIfInBounds_toArray]
    try simp only [List.set_cons_succ]
    try simp only [List.set_cons_zero]
    refine skipD (i := 17) (some 22) rfl rfl (by kernel_rfl) (by kernel_rfl) (by kernel_rfl) (fun _ _ _ h => h) (by rfl) hHeld ?_
    try simp only [Act.put]
    try simp only [List.setIfInBounds_toArray]
    try simp only [List.set_cons_succ]
    try simp only [List.set_cons_zero]
    refine skipD (i := 18) (some 23) rfl rfl (by kernel_rfl) (by kernel_rfl) (by kernel_rfl) (fun _ _ _ h => h) (by rfl) hHeld ?_
    try simp only [Act.put]
    try simp only [List.setIfInBounds_toArray]
    try simp only [List.set_cons_succ]
    try simp only [List.set_cons_zero]
    refine skipD (i := 19) (some 24) rfl rfl (by kernel_rfl) (by kernel_rfl) (by kernel_rfl) (fun _ _ _ h => h) (by rfl) hHeld ?_
    try simp only [Act.put]
    try simp only [List.setIfInBounds_toArray]
    try simp only [List.set_cons_succ]
    try simp only [List.set_cons_zero]
    refine takeD (i := 20) (v := ?_) (some 25) rfl rfl (by kernel_rfl) (by kernel_rfl) (by kernel_rfl) (fun _ _ _ h => h) (by rfl) hHeld ?_ ?_
    rotate_left
    · intro W hSw
      try dsimp only at hSw
      go_simp
      try with_reducible rfl
    try simp only [Act.put]
    try simp only [List.setIfInBounds_toArray]
    try simp only [List.set_cons_succ]
    try simp only [List.set_cons_zero]
    refine wpAnyH_done (by kernel_rfl) ?_ _
    clear KB LB
    obtain ⟨D_0, D_1, D_2, D_3⟩ := D.out.cells4
    obtain ⟨Z_0, Z_1, Z_2, Z_3⟩ := Z.out.cells4
    have Z_f0 := Z.out.free 0
    have Z_f1 := Z.out.free 1
    have Z_f2 := Z.out.free 2
    have Z_f3 := Z.out.free 3
    go_wp2
    refine bodyPost_ret (v := deskV true (.slice av rs.length cv) f (.slice au ws.length cu)) (by simp [results, Tryz.results15, deskV, go_sem, *]) rfl ⟨rfl, ?_⟩
    exact (((B0.out.setCell (by simp; try omega) _).setCell (by simp; try omega) _).setCell (by simp; try omega) _).setCell (by simp; try omega) _
  have h4b : ¬ p1 < 4 := h4
  have hgt : (TN : Int) < p3 := by have := HH.out; simp at this; omega
  have KB : Hid (∀ W, Below w1.heap.size w1 W → (W.cell? ⟨w.heap.size, 0, none⟩ = some (.bool true) ∧ W.cell? ⟨w.heap.size, 1, none⟩ = some (.slice av rs.length cv) ∧ W.cell? ⟨w.heap.size, 2, none⟩ = some (.int .i64 f) ∧ W.cell? ⟨w.heap.size, 3, none⟩ = some (.slice au ws.length cu)) ∧ (W.cell? ⟨w.heap.size + 1, 0, none⟩ = some (.int .i64 p1) ∧ W.cell? ⟨w.heap.size + 1, 1, none⟩ = some (.int .i64 p2) ∧ W.cell? ⟨w.heap.size + 1, 2, none⟩ = some (.int .i64 p3) ∧ W.cell? ⟨w.heap.size + 1, 3, none⟩ = some (.int .i64 p4))) := fun W hb => ⟨(D.out.after hb).cells4, (P.out.after hb).cells4⟩
  clear D_0 D_1 D_2 D_3 P_0 P_1 P_2 P_3
  have LB : Hid (Below w1.heap.size w1 w1) := Below.refl _ _
  have hdr : Below w1.heap.size w1 w1.drew := (Below.refl _ _).drew
  replace B0 := hide_it (B0.out.trans (hdr.mono B0.out.size))
  replace D := hide_it (D.out.after hdr)
  replace P := hide_it (P.out.after hdr)
  replace Z := hide_it (Z.out.after hdr)
  replace LB := hide_it (LB.out.trans (hdr.mono LB.out.size))
  clear hdr
  refine wp_region_held_drew (S := fun w' => (w'.cell? ⟨w.heap.size, 0, none⟩ = some (.bool true) ∧ w'.cell? ⟨w.heap.size, 1, none⟩ = some (.slice av rs.length cv) ∧ w'.cell? ⟨w.heap.size, 2, none⟩ = some (.int .i64 f) ∧ w'.cell? ⟨w.heap.size, 3, none⟩ = some (.slice au ws.length cu)) ∧ (w'.cell? ⟨w.heap.size + 1, 0, none⟩ = some (.int .i64 p1) ∧ w'.cell? ⟨w.heap.size + 1, 1, none⟩ = some (.int .i64 p2) ∧ w'.cell? ⟨w.heap.size + 1, 2, none⟩ = some (.int .i64 p3) ∧ w'.cell? ⟨w.heap.size + 1, 3, none⟩ = some (.int .i64 p4))) (by kernel_rfl) (KB.out _ (Below.refl _ _).drew) (fun hHeld => ?_)
  refine takeD (i := 0) (v := ?_) (some 5) rfl rfl (by kernel_rfl) (by kernel_rfl) (by kernel_rfl) (fun _ _ _ h => h) (by rfl) hHeld ?_ ?_
  rotate_left
  · intro W hSw
    try dsimp only at hSw
    go_simp
    try with_reducible rfl
  try simp only [Act.put]
  try simp only [List.setIfInBounds_toArray]
  try simp only [List.set_cons_succ]
  try simp only [List.set_cons_zero]
  refine takeD (i := 1) (v := ?_) (some 6) rfl rfl (by kernel_rfl) (by kernel_rfl) (by kernel_rfl) (fun _ _ _ h => h) (by rfl) hHeld ?_ ?_
  rotate_left
  · intro W hSw
    try dsimp only at hSw
    go_simp
    try with_reducible rfl
  try simp only [Act.put]
  try simp only [List.setIfInBounds_toArray]
  try simp only [List.set_cons_succ]
  try simp only [List.set_cons_zero]
  refine takeD (i := 2) (v := ?_) (some 7) rfl rfl (by kernel_rfl) (by kernel_rfl) (by kernel_rfl) (fun _ _ _ h => h) (by rfl) hHeld ?_ ?_
  rotate_left
  · intro W hSw
    try dsimp only at hSw
    go_simp
    try with_reducible rfl
  try simp only [Act.put]
  try simp only [List.setIfInBounds_toArray]
  try simp only [List.set_cons_succ]
  try simp only [List.set_cons_zero]
  refine takeD (i := 3) (v := .bool false) (some 8) rfl rfl (by kernel_rfl) (by kernel_rfl) (by kernel_rfl) (fun _ _ _ h => h) (by rfl) hHeld ?_ ?_
  · intro W hSw
    try dsimp only at hSw
    first | (go_simp; done) | (go_simp; simp; done) | (go_simp; omega) | (go_simp; simp [*])
  try simp only [Act.put]
  try simp only [List.setIfInBounds_toArray]
  try simp only [List.set_cons_succ]
  try simp only [List.set_cons_zero]
  refine takeD (i := 4) (v := ?_) (some 9) rfl rfl (by kernel_rfl) (by kernel_rfl) (by kernel_rfl) (fun _ _ _ h => h) (by rfl) hHeld ?_ ?_
  rotate_left
  · intro W hSw
    try dsimp only at hSw
    go_simp
    try with_reducible rfl
  try simp only [Act.put]
  try simp only [List.setIfInBounds_toArray]
  try simp only [List.set_cons_succ]
  try simp only [List.set_cons_zero]
  refine wpAnyH_ready (rs := [5]) (by kernel_rfl) (by simp) ?_
  refine AllReadyH.cons rfl (fun K hK => ?_) AllReadyH.nil
  go_simp
  refine (HWO.out _).mono ?_
  rintro e w2 ⟨rfl, hb⟩
  replace B0 := hide_it (B0.out.trans (hb.mono B0.out.size))
  replace D := hide_it (D.out.after hb)
  replace P := hide_it (P.out.after hb)
  replace Z := hide_it (Z.out.after hb)
  replace LB := hide_it (LB.out.trans (hb.mono LB.out.size))
  clear hb
  try dsimp only
  refine hK.out _ _ (KB.out _ LB.out) (fun hHeld => ?_)
  clear hK K
  refine takeD (i := 6) (v := ?_) (some 11) rfl rfl (by kernel_rfl) (by kernel_rfl) (by kernel_rfl) (fun _ _ _ h => h) (by rfl) hHeld ?_ ?_
  rotate_left
  · intro W hSw
    try dsimp only at hSw
    go_simp
    try with_reducible rfl
  try simp only [Act.put]
  try simp only [List.setIfInBounds_toArray]
  try simp only [List.set_cons_succ]
  try simp only [List.set_cons_zero]
  refine takeD (i := 7) (v := ?_) (some 12) rfl rfl (by kernel_rfl) (by kernel_rfl) (by kernel_rfl) (fun _ _ _ h => h) (by rfl) hHeld ?_ ?_
  rotate_left
  · intro W hSw
    try dsimp only at hSw
    go_simp
    try with_reducible rfl
  try simp only [Act.put]
  try simp only [List.setIfInBounds_toArray]
  try simp only [List.set_cons_succ]
  try simp only [List.set_cons_zero]
  refine takeD (i := 8) (v := .bool false) (some 13) rfl rfl (by kernel_rfl) (by kernel_rfl) (by kernel_rfl) (fun _ _ _ h => h) (by rfl) hHeld ?_ ?_
  · intro W hSw
    try dsimp only at hSw
    first | (go_simp; done) | (go_simp; simp; done) | (go_simp; omega) | (go_simp; simp [*])
  try simp only [Act.put]
  try simp only [List.setIfInBounds_toArray]
  try simp only [List.set_cons_succ]
  try simp only [List.set_cons_zero]
  refine takeD (i := 9) (v := ?_) (some 14) rfl rfl (by kernel_rfl) (by kernel_rfl) (by kernel_rfl) (fun _ _ _ h => h) (by rfl) hHeld ?_ ?_
  rotate_left
  · intro W hSw
    try dsimp only at hSw
    go_simp
    try with_reducible rfl
  try simp only [Act.put]
  try simp only [List.setIfInBounds_toArray]
  try simp only [List.set_cons_succ]
  try simp only [List.set_cons_zero]
  refine takeD (i := 10) (v := ?_) (some 15) rfl rfl (by kernel_rfl) (by kernel_rfl) (by kernel_rfl) (fun _ _ _ h => h) (by rfl) hHeld ?_ ?_
  rotate_left
  · intro W hSw
    try dsimp only at hSw
    go_simp
    try with_reducible rfl
  try simp only [Act.put]
  try simp only [List.setIfInBounds_toArray]
  try simp only [List.set_cons_succ]
  try simp only [List.set_cons_zero]
  refine takeD (i := 11) (v := .bool false) (some 16) rfl rfl (by kernel_rfl) (by kernel_rfl) (by kernel_rfl) (fun _ _ _ h => h) (by rfl) hHeld ?_ ?_
  · intro W hSw
    try dsimp only at hSw
    first | (go_simp; done) | (go_simp; simp; done) | (go_simp; omega) | (go_simp; simp [*])
  try simp only [Act.put]
  try simp only [List.setIfInBounds_toArray]
  try simp only [List.set_cons_succ]
  try simp only [List.set_cons_zero]
  refine takeD (i := 12) (v := ?_) (some 17) rfl rfl (by kernel_rfl) (by kernel_rfl) (by kernel_rfl) (fun _ _ _ h => h) (by rfl) hHeld ?_ ?_
  rotate_left
  · intro W hSw
    try dsimp only at hSw
    go_simp
    try with_reducible rfl
  try simp only [Act.put]
  try simp only [List.setIfInBounds_toArray]
  try simp only [List.set_cons_succ]
  try simp only [List.set_cons_zero]
  refine takeD (i := 13) (v := .bool false) (some 18) rfl rfl (by kernel_rfl) (by kernel_rfl) (by kernel_rfl) (fun _ _ _ h => h) (by rfl) hHeld ?_ ?_
  · intro W hSw
    try dsimp only at hSw
    first | (go_simp; done) | (go_simp; simp; done) | (go_simp; omega) | (go_simp; simp [*])
  try simp only [Act.put]
  try simp only [List.setIfInBounds_toArray]
  try simp only [List.set_cons_succ]
  try simp only [List.set_cons_zero]
  refine takeD (i := 14) (v := ?_) (some 19) rfl rfl (by kernel_rfl) (by kernel_rfl) (by kernel_rfl) (fun _ _ _ h => h) (by rfl) hHeld ?_ ?_
  rotate_left
  · intro W hSw
    try dsimp only at hSw
    go_simp
    try with_reducible rfl
  try simp only [Act.put]
  try simp only [List.setIfInBounds_toArray]
  try simp only [List.set_cons_succ]
  try simp only [List.set_cons_zero]
  refine takeD (i := 15) (v := ?_) (some 20) rfl rfl (by kernel_rfl) (by kernel_rfl) (by kernel_rfl) (fun _ _ _ h => h) (by rfl) hHeld ?_ ?_
  rotate_left
  · intro W hSw
    try dsimp only at hSw
    go_simp
    try with_reducible rfl
  try simp only [Act.put]
  try simp only [List.setIfInBounds_toArray]
  try simp only [List.set_cons_succ]
  try simp only [List.set_cons_zero]
  refine takeD (i := 16) (v := ?_) (some 21) rfl rfl (by kernel_rfl) (by kernel_rfl) (by kernel_rfl) (fun _ _ _ h => h) (by rfl) hHeld ?_ ?_
  rotate_left
  · intro W hSw
    try dsimp only at hSw
    go_simp
    try with_reducible rfl
  try simp only [Act.put]
  try simp only [List.setIfInBounds_toArray]
  try simp only [List.set_cons_succ]
  try simp only [List.set_cons_zero]
  refine wpAnyH_ready (rs := [17]) (by kernel_rfl) (by simp) ?_
  refine AllReadyH.cons rfl (fun K hK => ?_) AllReadyH.nil
  go_simp
  refine (HT1.out _ B0.out).mono ?_
  rintro e w3 ⟨ao, cap, rfl, hb⟩
  replace B0 := hide_it (B0.out.trans (hb.mono B0.out.size))
  replace D := hide_it (D.out.after hb)
  replace P := hide_it (P.out.after hb)
  replace Z := hide_it (Z.out.after hb)
  replace LB := hide_it (LB.out.trans (hb.mono LB.out.size))
  clear hb
  try dsimp only
  refine hK.out _ _ (KB.out _ LB.out) (fun hHeld => ?_)
  clear hK K
  refine takeD (i := 18) (v := ?_) (some 23) rfl rfl (by kernel_rfl) (by kernel_rfl) (by kernel_rfl) (fun _ _ _ h => h) (by rfl) hHeld ?_ ?_
  rotate_left
  · intro W hSw
    try dsimp only at hSw
    go_simp
    try with_reducible rfl
  try simp only [Act.put]
  try simp only [List.setIfInBounds_toArray]
  try simp only [List.set_cons_succ]
  try simp only [List.set_cons_zero]
  refine takeD (i := 19) (v := .bool true) (some 24) rfl rfl (by kernel_rfl) (by kernel_rfl) (by kernel_rfl) (fun _ _ _ h => h) (by rfl) hHeld ?_ ?_
  · intro W hSw
    try dsimp only at hSw
    first | (go_simp; done) | (go_simp; simp; done) | (go_simp; omega) | (go_simp; simp [*])
  try simp only [Act.put]
  try simp only [List.setIfInBounds_toArray]
  try simp only [List.set_cons_succ]
  try simp only [List.set_cons_zero]
  refine takeD (i := 20) (v := ?_) (some 25) rfl rfl (by kernel_rfl) (by kernel_rfl) (by kernel_rfl) (fun _ _ _ h => h) (by rfl) hHeld ?_ ?_
  rotate_left
  · intro W hSw
    try dsimp only at hSw
    go_simp
    try with_reducible rfl
  try simp only [Act.put]
  try simp only [List.setIfInBounds_toArray]
  try simp only [List.set_cons_succ]
  try simp only [List.set_cons_zero]
  refine wpAnyH_done (by kernel_rfl) ?_ _
  clear KB LB
  obtain ⟨D_0, D_1, D_2, D_3⟩ := D.out.cells4
  obtain ⟨Z_0, Z_1, Z_2, Z_3⟩ := Z.out.cells4
  have Z_f0 := Z.out.free 0
  have Z_f1 := Z.out.free 1
  have Z_f2 := Z.out.free 2
  have Z_f3 := Z.out.free 3
  go_wp2
  refine bodyPost_ret (v := deskV true (.slice av rs.length cv) f (.slice au ws.length cu)) (by simp [results, Tryz.results15, deskV, go_sem, *]) rfl ⟨rfl, ?_⟩
  exact (((B0.out.setCell (by simp; try omega) _).setCell (by simp; try omega) _).setCell (by simp; try omega) _).setCell (by simp; try omega) _

end Go.Proofs.YtgknnigjlnfplaaGreatDoor

namespace Go.Proofs.YtgknnigjlnfplaaGreatDoor
open Go.RowKit

set_option maxRecDepth 100000 in
set_option maxHeartbeats 16000000 in
theorem l13Hear_told (xs : List Value) (lo : Nat) (v : Value) (f : Int) (u : Value) (rs : List R) (ws : List Wd) (p : Wd) (w : World)
    (hv : DkIn w v u rs ws) (hl : tot rs ≤ 1048576) (hlw : ws.length ≤ 1048576) (ho : w.ownsRow lo 81 3 v rs.length xs) (hlo : lo ≤ w.heap.size) (hok : dkOk true rs f ws = true) (hh : dkHears true rs p = true) (htd : ws.contains p = true) :
    Calls Tryz.prog 15 #[deskV true v f u, wordV p.1 p.2.1 p.2.2.1 p.2.2.2] w fun e w' => LdG w w' e lo v f u xs rs (hearK rs f ws p.2.2.1) p.2.2.1 := by
  obtain ⟨hf0, hf1, -⟩ := logOk_f (dkOk_log hok)
  have HI := hide_it hv
  obtain ⟨av, cv, au, cu, rfl, rfl⟩ := hv.1.shape
  have HT0 : Hid (∀ W, Below w.heap.size w W → Calls Tryz.prog 34 #[deskV true (.slice av rs.length cv) f (.slice au ws.length cu), .bool false] W fun e w' => TrL W w' e (T.ofO rs)) := fun W h =>
    l13Trips_any true _ _ rs f ws false W (HI.out.later h (Nat.le_refl _)) hl hf0 hf1
  have HLT := hide_it (fun W (h : Below w.heap.size w W) => l13Told_any _ ws p W (HI.out.1.2.later h (Nat.le_refl _)) hlw)
  rw [htd] at HLT
  have HWO := hide_it (fun W => specWordOk_any p.1 p.2.1 p.2.2.1 p.2.2.2 W)
  obtain ⟨p1, p2, p3, p4⟩ := p
  simp only at HWO HLT ⊢
  simp only [dkHears, ansOk, Bool.true_and] at hh
  obtain ⟨WO, hWO⟩ : ∃ x, Pl.wOk p1 p2 p3 p4 = x := ⟨_, rfl⟩
  rw [hWO] at HWO hh
  obtain ⟨TN, hTN⟩ : ∃ x, (T.ofO rs).length = x := ⟨_, rfl⟩
  have HTN := hide_it hTN
  have HP3 : Hid (WO = true → 1 ≤ p3) := fun h => (Pl.wOk_parts (hWO.trans h)).2.2.1.1
  rw [hTN] at hh
  have HT1 : Hid (∀ W, Below w.heap.size w W → Calls Tryz.prog 34 #[deskV true (.slice av rs.length cv) f (.slice au ws.length cu), .bool false] W fun e w' => ∃ ao cap, e = .returned (.slice ao TN cap) ∧ Below W.heap.size W w') := fun W h =>
    (HT0.out W h).mono fun e w' ⟨ao, cap, he, _, hb⟩ => by rw [hTN] at he; exact ⟨ao, cap, he, hb⟩
  clear hTN hWO hv hf0 hf1 HT0
  simp only [Bool.and_eq_true, decide_eq_true_eq] at hh
  obtain ⟨⟨rfl, h4⟩, hle⟩ := hh
  have h4b : ¬ p1 < 4 := by omega
  have hle2 : ¬ (TN : Int) < p3 := by omega
  have HOK := hide_it hok
  have HO := hide_it ho
  clear hok ho
  have ht1 : 1 ≤ p3 := HP3.out rfl
  have HVB : Hid (∀ b, w.heap.size ≤ b → some b ≠ (Value.slice av rs.length cv).ownBlock) := fun b hb e => by have := (HO.out.lt b e.symm).2; omega
  have HDG : Hid (∀ W, Below w.heap.size w W → Calls Tryz.prog 35 #[deskV true (.slice av rs.length cv) f (.slice au ws.length cu), .int .i64 p3] W fun e w' => LdG W w' e lo (.slice av rs.length cv) f (.slice au ws.length cu) xs rs (hearK rs f ws p3) p3) := fun W h =>
    l13Decide_g _ f _ xs rs ws p3 lo W (HI.out.later h (Nat.le_refl _)) (ownsRow_below HO.out h (fun j hj => (HO.out.lt j hj).2)) (Nat.le_trans hlo h.size) hl hlw HOK.out ⟨ht1, by rw [HTN.out]; exact hle⟩
  have B0 : Hid (Below w.heap.size w w) := Below.refl _ _
  go_enter Tryz.func15, Tryz.ntmps15
  obtain ⟨w1, hw1⟩ : ∃ W, Hid (W = ((w.alloc (.cells #[.bool true, .slice av rs.length cv, .int .i64 f, .slice au ws.length cu] 36)).alloc (.cells #[.int .i64 p1, .int .i64 p2, .int .i64 p3, .int .i64 p4] 39)).alloc (.cells #[.bool false, .slice none 0 0, .int .i64 0, .slice none 0 0] 36)) := ⟨_, rfl⟩
  have alw1 : Below w.heap.size w w1 := by rw [hw1.out]; exact below3 _ _ _ _
  replace B0 := hide_it (B0.out.trans (alw1.mono B0.out.size))
  have D : Hid (Blk w1 (w.heap.size) #[.bool true, .slice av rs.length cv, .int .i64 f, .slice au ws.length cu] 36) := by show Blk _ _ _ _; rw [hw1.out]; exact ((Blk.new _ _ _).alloc _).alloc _
  have P : Hid (Blk w1 (w.heap.size + 1) #[.int .i64 p1, .int .i64 p2, .int .i64 p3, .int .i64 p4] 39) := by show Blk _ _ _ _; rw [hw1.out]; exact (Blk.new2 _ _ _ _).alloc _
  have Z : Hid (Blk w1 (w.heap.size + 1 + 1) #[.bool false, .slice none 0 0, .int .i64 0, .slice none 0 0] 36) := by show Blk _ _ _ _; rw [hw1.out]; exact Blk.new3 _ _ _ _ _
  clear alw1
  obtain ⟨D_0, D_1, D_2, D_3⟩ := D.out.cells4
  obtain ⟨P_0, P_1, P_2, P_3⟩ := P.out.cells4
  go_wp2_with fail
  rw [← hw1.out]
  have KB : Hid (∀ W, Below w1.heap.size w1 W → (W.cell? ⟨w.heap.size, 0, none⟩ = some (.bool true) ∧ W.cell? ⟨w.heap.size, 1, none⟩ = some (.slice av rs.length cv) ∧ W.cell? ⟨w.heap.size, 2, none⟩ = some (.int .i64 f) ∧ W.cell? ⟨w.heap.size, 3, none⟩ = some (.slice au ws.length cu)) ∧ (W.cell? ⟨w.heap.size + 1, 0, none⟩ = some (.int .i64 p1) ∧ W.cell? ⟨w.heap.size + 1, 1, none⟩ = some (.int .i64 p2) ∧ W.cell? ⟨w.heap.size + 1, 2, none⟩ = some (.int .i64 p3) ∧ W.cell? ⟨w.heap.size + 1, 3, none⟩ = some (.int .i64 p4))) := fun W hb => ⟨(D.out.after hb).cells4, (P.out.after hb).cells4⟩
  clear D_0 D_1 D_2 D_3 P_0 P_1 P_2 P_3
  have LB : Hid (Below w1.heap.size w1 w1) := Below.refl _ _
  have hdr : Below w1.heap.size w1 w1.drew := (Below.refl _ _).drew
  replace B0 := hide_it (B0.out.trans (hdr.mono B0.out.size))
  replace D := hide_it (D.out.after hdr)
  replace P := hide_it (P.out.after hdr)
  replace Z := hide_it (Z.out.after hdr)
  replace LB := hide_it (LB.out.trans (hdr.mono LB.out.size))
  clear hdr
  refine wp_region_held_drew (S := fun w' => (w'.cell? ⟨w.heap.size, 0, none⟩ = some (.bool true) ∧ w'.cell? ⟨w.heap.size, 1, none⟩ = some (.slice av rs.length cv) ∧ w'.cell? ⟨w.heap.size, 2, none⟩ = some (.int .i64 f) ∧ w'.cell? ⟨w.heap.size, 3, none⟩ = some (.slice au ws.length cu)) ∧ (w'.cell? ⟨w.heap.size + 1, 0, none⟩ = some (.int .i64 p1) ∧ w'.cell? ⟨w.heap.size + 1, 1, none⟩ = some (.int .i64 p2) ∧ w'.cell? ⟨w.heap.size + 1, 2, none⟩ = some (.int .i64 p3) ∧ w'.cell? ⟨w.heap.size + 1, 3, none⟩ = some (.int .i64 p4))) (by kernel_rfl) (KB.out _ (Below.refl _ _).drew) (fun hHeld => ?_)
  refine takeD (i := 0) (v := ?_) (some 5) rfl rfl (by kernel_rfl) (by kernel_rfl) (by kernel_rfl) (fun _ _ _ h => h) (by rfl) hHeld ?_ ?_
  rotate_left
  · intro W hSw
    try dsimp only at hSw
    go_simp
    try with_reducible rfl
  try simp only [Act.put]
  try simp only [List.setIfInBounds_toArray]
  try simp only [List.set_cons_succ]
  try simp only [List.set_cons_zero]
  refine takeD (i := 1) (v := ?_) (some 6) rfl rfl (by kernel_rfl) (by kernel_rfl) (by kernel_rfl) (fun _ _ _ h => h) (by rfl) hHeld ?_ ?_
  rotate_left
  · intro W hSw
    try dsimp only at hSw
    go_simp
    try with_reducible rfl
  try simp only [Act.put]
  try simp only [List.setIfInBounds_toArray]
  try simp only [List.set_cons_succ]
  try simp only [List.set_cons_zero]
  refine takeD (i := 2) (v := ?_) (some 7) rfl rfl (by kernel_rfl) (by kernel_rfl) (by kernel_rfl) (fun _ _ _ h => h) (by rfl) hHeld ?_ ?_
  rotate_left
  · intro W hSw
    try dsimp only at hSw
    go_simp
    try with_reducible rfl
  try simp only [Act.put]
  try simp only [List.setIfInBounds_toArray]
  try simp only [List.set_cons_succ]
  try simp only [List.set_cons_zero]
  refine takeD (i := 3) (v := .bool false) (some 8) rfl rfl (by kernel_rfl) (by kernel_rfl) (by kernel_rfl) (fun _ _ _ h => h) (by rfl) hHeld ?_ ?_
  · intro W hSw
    try dsimp only at hSw
    first | (go_simp; done) | (go_simp; simp; done) | (go_simp; omega) | (go_simp; simp [*])
  try simp only [Act.put]
  try simp only [List.setIfInBounds_toArray]
  try simp only [List.set_cons_succ]
  try simp only [List.set_cons_zero]
  refine takeD (i := 4) (v := ?_) (some 9) rfl rfl (by kernel_rfl) (by kernel_rfl) (by kernel_rfl) (fun _ _ _ h => h) (by rfl) hHeld ?_ ?_
  rotate_left
  · intro W hSw
    try dsimp only at hSw
    go_simp
    try with_reducible rfl
  try simp only [Act.put]
  try simp only [List.setIfInBounds_toArray]
  try simp only [List.set_cons_succ]
  try simp only [List.set_cons_zero]
  refine wpAnyH_ready (rs := [5]) (by kernel_rfl) (by simp) ?_
  refine AllReadyH.cons rfl (fun K hK => ?_) AllReadyH.nil
  go_simp
  refine (HWO.out _).mono ?_
  rintro e w2 ⟨rfl, hb⟩
  replace B0 := hide_it (B0.out.trans (hb.mono B0.out.size))
  replace D := hide_it (D.out.after hb)
  replace P := hide_it (P.out.after hb)
  replace Z := hide_it (Z.out.after hb)
  replace LB := hide_it (LB.out.trans (hb.mono LB.out.size))
  clear hb
  try dsimp only
  refine hK.out _ _ (KB.out _ LB.out) (fun hHeld => ?_)
  clear hK K
  refine takeD (i := 6) (v := ?_) (some 11) rfl rfl (by kernel_rfl) (by kernel_rfl) (by kernel_rfl) (fun _ _ _ h => h) (by rfl) hHeld ?_ ?_
  rotate_left
  · intro W hSw
    try dsimp only at hSw
    go_simp
    try with_reducible rfl
  try simp only [Act.put]
  try simp only [List.setIfInBounds_toArray]
  try simp only [List.set_cons_succ]
  try simp only [List.set_cons_zero]
  refine takeD (i := 7) (v := ?_) (some 12) rfl rfl (by kernel_rfl) (by kernel_rfl) (by kernel_rfl) (fun _ _ _ h => h) (by rfl) hHeld ?_ ?_
  rotate_left
  · intro W hSw
    try dsimp only at hSw
    go_simp
    try with_reducible rfl
  try simp only [Act.put]
  try simp only [List.setIfInBounds_toArray]
  try simp only [List.set_cons_succ]
  try simp only [List.set_cons_zero]
  refine takeD (i := 8) (v := .bool false) (some 13) rfl rfl (by kernel_rfl) (by kernel_rfl) (by kernel_rfl) (fun _ _ _ h => h) (by rfl) hHeld ?_ ?_
  · intro W hSw
    try dsimp only at hSw
    first | (go_simp; done) | (go_simp; simp; done) | (go_simp; omega) | (go_simp; simp [*])
  try simp only [Act.put]
  try simp only [List.setIfInBounds_toArray]
  try simp only [List.set_cons_succ]
  try simp only [List.set_cons_zero]
  refine takeD (i := 9) (v := ?_) (some 14) rfl rfl (by kernel_rfl) (by kernel_rfl) (by kernel_rfl) (fun _ _ _ h => h) (by rfl) hHeld ?_ ?_
  rotate_left
  · intro W hSw
    try dsimp only at hSw
    go_simp
    try with_reducible rfl
  try simp only [Act.put]
  try simp only [List.setIfInBounds_toArray]
  try simp only [List.set_cons_succ]
  try simp only [List.set_cons_zero]
  refine takeD (i := 10) (v := ?_) (some 15) rfl rfl (by kernel_rfl) (by kernel_rfl) (by kernel_rfl) (fun _ _ _ h => h) (by rfl) hHeld ?_ ?_
  rotate_left
  · intro W hSw
    try dsimp only at hSw
    go_simp
    try with_reducible rfl
  try simp only [Act.put]
  try simp only [List.setIfInBounds_toArray]
  try simp only [List.set_cons_succ]
  try simp only [List.set_cons_zero]
  refine takeD (i := 11) (v := .bool false) (some 16) rfl rfl (by kernel_rfl) (by kernel_rfl) (by kernel_rfl) (fun _ _ _ h => h) (by rfl) hHeld ?_ ?_
  · intro W hSw
    try dsimp only at hSw
    first | (go_simp; done) | (go_simp; simp; done) | (go_simp; omega) | (go_simp; simp [*])
  try simp only [Act.put]
  try simp only [List.setIfInBounds_toArray]
  try simp only [List.set_cons_succ]
  try simp only [List.set_cons_zero]
  refine takeD (i := 12) (v := ?_) (some 17) rfl rfl (by kernel_rfl) (by kernel_rfl) (by kernel_rfl) (fun _ _ _ h => h) (by rfl) hHeld ?_ ?_
  rotate_left
  · intro W hSw
    try dsimp only at hSw
    go_simp
    try with_reducible rfl
  try simp only [Act.put]
  try simp only [List.setIfInBounds_toArray]
  try simp only [List.set_cons_succ]
  try simp only [List.set_cons_zero]
  refine takeD (i := 13) (v := .bool false) (some 18) rfl rfl (by kernel_rfl) (by kernel_rfl) (by kernel_rfl) (fun _ _ _ h => h) (by rfl) hHeld ?_ ?_
  · intro W hSw
    try dsimp only at hSw
    first | (go_simp; done) | (go_simp; simp; done) | (go_simp; omega) | (go_simp; simp [*])
  try simp only [Act.put]
  try simp only [List.setIfInBounds_toArray]
  try simp only [List.set_cons_succ]
  try simp only [List.set_cons_zero]
  refine takeD (i := 14) (v := ?_) (some 19) rfl rfl (by kernel_rfl) (by kernel_rfl) (by kernel_rfl) (fun _ _ _ h => h) (by rfl) hHeld ?_ ?_
  rotate_left
  · intro W hSw
    try dsimp only at hSw
    go_simp
    try with_reducible rfl
  try simp only [Act.put]
  try simp only [List.setIfInBounds_toArray]
  try simp only [List.set_cons_succ]
  try simp only [List.set_cons_zero]
  refine takeD (i := 15) (v := ?_) (some 20) rfl rfl (by kernel_rfl) (by kernel_rfl) (by kernel_rfl) (fun _ _ _ h => h) (by rfl) hHeld ?_ ?_
  rotate_left
  · intro W hSw
    try dsimp only at hSw
    go_simp
    try with_reducible rfl
  try simp only [Act.put]
  try simp only [List.setIfInBounds_toArray]
  try simp only [List.set_cons_succ]
  try simp only [List.set_cons_zero]
  refine takeD (i := 16) (v := ?_) (some 21) rfl rfl (by kernel_rfl) (by kernel_rfl) (by kernel_rfl) (fun _ _ _ h => h) (by rfl) hHeld ?_ ?_
  rotate_left
  · intro W hSw
    try dsimp only at hSw
    go_simp
    try with_reducible rfl
  try simp only [Act.put]
  try simp only [List.setIfInBounds_toArray]
  try simp only [List.set_cons_succ]
  try simp only [List.set_cons_zero]
  refine wpAnyH_ready (rs := [17]) (by kernel_rfl) (by simp) ?_
  refine AllReadyH.cons rfl (fun K hK => ?_) AllReadyH.nil
  go_simp
  refine (HT1.out _ B0.out).mono ?_
  rintro e w3 ⟨ao, cap, rfl, hb⟩
  replace B0 := hide_it (B0.out.trans (hb.mono B0.out.size))
  replace D := hide_it (D.out.after hb)
  replace P := hide_it (P.out.after hb)
  replace Z := hide_it (Z.out.after hb)
  replace LB := hide_it (LB.out.trans (hb.mono LB.out.size))
  clear hb
  try dsimp only
  refine hK.out _ _ (KB.out _ LB.out) (fun hHeld => ?_)
  clear hK K
  refine takeD (i := 18) (v := ?_) (some 23) rfl rfl (by kernel_rfl) (by kernel_rfl) (by kernel_rfl) (fun _ _ _ h => h) (by rfl) hHeld ?_ ?_
  rotate_left
  · intro W hSw
    try dsimp only at hSw
    go_simp
    try with_reducible rfl
  try simp only [Act.put]
  try simp only [List.setIfInBounds_toArray]
  try simp only [List.set_cons_succ]
  try simp only [List.set_cons_zero]
  refine takeD (i := 19) (v := .bool false) (some 24) rfl rfl (by kernel_rfl) (by kernel_rfl) (by kernel_rfl) (fun _ _ _ h => h) (by rfl) hHeld ?_ ?_
  · intro W hSw
    try dsimp only at hSw
    first | (go_simp; done) | (go_simp; simp; done) | (go_simp; omega) | (go_simp; simp [*])
  try simp only [Act.put]
  try simp only [List.setIfInBounds_toArray]
  try simp only [List.set_cons_succ]
  try simp only [List.set_cons_zero]
  refine takeD (i := 20) (v := ?_) (some 25) rfl rfl (by kernel_rfl) (by kernel_rfl) (by kernel_rfl) (fun _ _ _ h => h) (by rfl) hHeld ?_ ?_
  rotate_left
  · intro W hSw
    try dsimp only at hSw
    go_simp
    try with_reducible rfl
  try simp only [Act.put]
  try simp only [List.setIfInBounds_toArray]
  try simp only [List.set_cons_succ]
  try simp only [List.set_cons_zero]
  refine wpAnyH_done (by kernel_rfl) ?_ _
  clear KB LB
  obtain ⟨D_0, D_1, D_2, D_3⟩ := D.out.cells4
  obtain ⟨P_0, P_1, P_2, P_3⟩ := P.out.cells4
  go_wp2_with fail
  refine (HLT.out _ B0.out).mono ?_
  rintro e w4 ⟨rfl, hb⟩
  clear D_0 D_1 D_2 D_3 P_0 P_1 P_2 P_3
  replace B0 := hide_it (B0.out.trans (hb.mono B0.out.size))
  replace D := hide_it (D.out.after hb)
  replace P := hide_it (P.out.after hb)
  replace Z := hide_it (Z.out.after hb)
  clear hb
  obtain ⟨D_0, D_1, D_2, D_3⟩ := D.out.cells4
  obtain ⟨P_0, P_1, P_2, P_3⟩ := P.out.cells4
  go_wp2_with fail
  refine (HDG.out _ B0.out).mono ?_
  rintro e w5 hd
  clear D_0 D_1 D_2 D_3 P_0 P_1 P_2 P_3
  rcases hd with ⟨hk0, rfl, hb⟩ | ⟨hk0, g, c3, x, rfl, hown, hgrow, hloc, hrow⟩
  · have HK0 := hide_it hk0
    clear hk0
    replace B0 := hide_it (B0.out.trans (hb.mono B0.out.size))
    replace Z := hide_it (Z.out.after hb)
    clear hb
    obtain ⟨z0, z1, z2, z3⟩ := Z.out.cells4
    obtain ⟨zf0, zf1, zf2, zf3⟩ := Z.out.free4
    go_wp2
    refine bodyPost_ret (v := deskV true (.slice av rs.length cv) f (.slice au ws.length cu)) (by simp [results, Tryz.results15, deskV, go_sem, *]) rfl (Or.inl ⟨HK0.out, rfl, ?_⟩)
    exact (((B0.out.setCell (by simp; try omega) _).setCell (by simp; try omega) _).setCell (by simp; try omega) _).setCell (by simp; try omega) _
  · have HK0 := hide_it hk0
    have Z5 := hide_it (Z.out.grown hgrow (HVB.out _ (by omega)))
    have O5 := hide_it hown
    have G5 := hide_it (grownBy_belowL B0.out hgrow)
    have LC := hide_it (show (Value.slice av rs.length cv).ownBlock = some g ∨ w.heap.size ≤ g from by have := B0.out.size; rcases hloc with h | h; exact Or.inl h; exact Or.inr (by omega))
    have R5 := hide_it (ownsRow_base hrow B0.out.size)
    clear hk0 hown hgrow hloc hrow
    obtain ⟨z0, z1, z2, z3⟩ := Z5.out.cells4
    obtain ⟨zf0, zf1, zf2, zf3⟩ := Z5.out.free4
    go_wp2
    refine bodyPost_ret (v := deskV true (.slice (some ⟨g, 0, none⟩) (rs.length + 1) c3) f (.slice au ws.length cu)) (by simp [results, Tryz.results15, deskV, go_sem, *]) rfl ?_
    obtain ⟨q3, q4⟩ := kept_set4 Z5.out (.bool true) (.slice (some ⟨g, 0, none⟩) (rs.length + 1) c3) (.int .i64 f) (.slice au ws.length cu)
    refine Or.inr ⟨HK0.out, g, c3, x, rfl, q3.row O5.out (by decide), ?_, LC.out, q3.row R5.out (by decide)⟩
    iterate 4 (refine grownBy_setNew ?_ (show w.heap.size ≤ w.heap.size + 1 + 1 by omega) _)
    exact G5.out

end Go.Proofs.YtgknnigjlnfplaaGreatDoor
