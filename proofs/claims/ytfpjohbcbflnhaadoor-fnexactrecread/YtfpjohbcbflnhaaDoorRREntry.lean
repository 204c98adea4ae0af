/- The contract of the program's readEntry: the entry of the record whose text it is, or the sentinel. For every text. -/
import Derived.Test.YtfpjohbcbflnhaaDoorRRNums
import Derived.Test.YtfpjohbcbflnhaaDoorEText3
import Derived.Test.YtfpjohbcbflnhaaDoorCopy
import Derived.Test.YtfpjohbcbflnhaaDoorHeld
import Derived.Deep.DeepCutAuto
namespace Go.Proofs.YtfpjohbcbflnhaaDoor
open Go.RowKit

/-- What readEntry gives. -/
def RdE (s : ByteArray) (a : Addr) (e : Ending) : Prop :=
  (∃ k t zs, e = .returned (.tuple #[entV k t zs, .nilIface]) ∧ Pl.recOk k t zs = true ∧ Pl.RdR s k t zs true) ∨
  (e = .returned (.tuple #[.nilIface, .iface 137 (.pointer (some a))]) ∧ Pl.RdR s 0 0 [] false)

theorem cut_pieceR (l : List UInt8) : ∀ x ∈ Pl.cut l, x.length ≤ l.length := by
  induction l with
  | nil => simp [Pl.cut]
  | cons c r ih =>
    intro x hx
    by_cases h : c = 32
    · subst h
      rw [Pl.cut_blank] at hx
      rcases List.mem_cons.1 hx with rfl | h2
      · simp
      · have := ih x h2; simp; omega
    · obtain ⟨y, t, e⟩ := Pl.cut_cons r
      rw [Pl.cut_other h e] at hx
      rw [e] at ih
      rcases List.mem_cons.1 hx with rfl | h2
      · have := ih y (by simp); simp; omega
      · have := ih x (by simp [h2]); simp; omega

theorem str_neR {a b : ByteArray} (h : a ≠ b) : (a.toList == b.toList) = false := by
  rw [ByteArray.toList_eq, ByteArray.toList_eq]
  cases e : (a.data.toList == b.data.toList) with
  | false => rfl
  | true =>
    exfalso
    apply h
    exact ByteArray.ext (Array.toList_inj.1 (by simpa using e))
theorem ints_from {w : World} {g m c : Nat} {zs : List Int} (hm : zs.length = m) (h : ∀ k, k < m → w.cell? ⟨g, 1 + k, none⟩ = some (.int .i64 (zs.getD k 0))) : Ints w.drew (.slice (some ⟨g, 1, none⟩) m c) zs := by
  by_cases h0 : zs = []
  · subst h0
    simp at hm
    subst hm
    exact .inl ⟨rfl, _, _, rfl, fun h => by cases h⟩
  · refine .inr ⟨g, 1, c, by rw [hm], h0, fun k hk => h k (by omega)⟩
theorem cutB_pieces (s : ByteArray) (hs : s.size ≤ 1000) : ∀ p ∈ Pl.cutB s, p.size ≤ 1000 := by
  intro p hp
  obtain ⟨x, hx, rfl⟩ := List.mem_map.1 hp
  have := cut_pieceR s.data.toList x hx
  have h2 : (Pl.bs x).size = x.length := by simp [Pl.bs, ByteArray.size]
  have h3 : s.data.toList.length = s.size := by simp
  omega

set_option maxRecDepth 100000 in
set_option maxHeartbeats 4000000 in
theorem rentry_any (s : ByteArray) (a : Addr) (w : World) (hE : ErrV w) (ha : ErrAt w a) (hK : Kinds8 w) :
    Calls Tryd.prog 28 #[.string s] w fun e w' => RdE s a e ∧ Below w.heap.size w w' := by
  by_cases hs : 20 < s.size
  · have hsi : (20 : Int) < (s.size : Int) := by omega
    have HR := hide_it (Pl.RdR.long (s := s) (by omega))
    have herr : w.cell? ⟨0, 0, none⟩ = some (.iface 137 (.pointer (some a))) := ha
    clear hE hK
    go_enter Tryd.func28, Tryd.ntmps28
    go_wp2_with fail
    go_quiet (fail)
    go_wp2
    go_ret2
    exact ⟨.inr ⟨rfl, HR.out⟩, below_drewN (Below.refl _ _) _⟩
  have hsi : ¬ (20 : Int) < (s.size : Int) := by omega
  have hs1 : s.size ≤ 1000 := by omega
  have HS := hide_it (split_any s w hs1)
  have HE := hide_it hE
  have HA := hide_it ha
  have HK := hide_it hK
  obtain ⟨ps, hps⟩ : ∃ ps, Hid (Pl.cutB s = ps) := ⟨_, rfl⟩
  have hpz := cutB_pieces s hs1
  have hpl : 1 ≤ (Pl.cutB s).length ∧ (Pl.cutB s).length ≤ s.size + 1 := by have := Pl.cut_length s.data.toList; simpa [Pl.cutB] using this
  rw [hps.out] at HS hpz hpl
  obtain ⟨p, r, hpr⟩ : ∃ p r, Hid (ps = p :: r) := by
    cases ps with
    | nil => simp at hpl
    | cons p r => exact ⟨p, r, rfl⟩
  obtain ⟨n, hn⟩ : ∃ n, Hid (r.length = n) := ⟨_, rfl⟩
  have HZ := hide_it (fun x (hx : x ∈ r) => hpz x (by rw [hpr.out]; simp [hx]))
  rw [hpr.out, List.length_cons, hn.out] at HS hpl
  have hn20 : n ≤ 20 := by omega
  clear hE ha hK hpz hpl
  go_enter Tryd.func28, Tryd.ntmps28
  go_wp2_with fail
  refine HS.out.mono ?_
  rintro e w1 ⟨rfl, hst, hb1⟩
  have B1 := hide_it hb1
  have S1 := hide_it hst
  have SR : Hid (StrsAt w1 w.heap.size 1 r) := fun j hj => by have := hst (j + 1) (by simp; omega); rw [show 1 + j = 0 + (j + 1) by omega, this]; rfl
  clear hst hb1 HS
  by_cases hn0 : n = 0
  · subst hn0
    obtain rfl : r = [] := List.length_eq_zero_iff.1 hn.out
    have NU := hide_it (nums_any w.heap.size 0 0 [] a w1 (fun j hj => by simp at hj) (by simp) (fun _ h => by cases h) (HE.out.later B1.out (Nat.le_refl _)) (HA.out.later B1.out (Nat.le_refl _)))
    have HR := hide_it (Pl.RdR.none_ (s := s) (by rw [hps.out, hpr.out]; rfl))
    clear S1 SR HZ
    go_wp2_with fail
    refine NU.out.mono ?_
    rintro e w2 ⟨hnu, hb2⟩
    have B2 := hide_it (B1.out.trans (hb2.mono B1.out.size))
    clear hb2 NU
    rcases hnu with ⟨v, zz, h1, rfl, ho⟩ | ⟨h1, rfl⟩
    · obtain rfl : zz = [] := by simpa [Pl.numsO] using h1.symm
      obtain ⟨av, cv, rfl⟩ := row_shape ho
      have herr : w2.cell? ⟨0, 0, none⟩ = some (.iface 137 (.pointer (some a))) := HA.out.later B2.out (Nat.le_refl _)
      clear ho h1
      go_wp2_with fail
      go_quiet (fail)
      go_wp2
      go_ret2
      exact ⟨.inr ⟨rfl, HR.out⟩, below_drewN B2.out _⟩
    · simp [Pl.numsO] at h1
  have NU := hide_it (nums_any w.heap.size 1 n r a w1 SR.out (by rw [hn.out]; omega) HZ.out (HE.out.later B1.out (Nat.le_refl _)) (HA.out.later B1.out (Nat.le_refl _)))
  rw [hn.out] at NU
  have hn1 : ¬ (n : Int) = 0 := by omega
  go_wp2_with fail
  refine NU.out.mono ?_
  rintro e w2 ⟨hnu, hb2⟩
  have B2 := hide_it (B1.out.trans (hb2.mono B1.out.size))
  have c0 : w2.cell? ⟨w.heap.size, 0, none⟩ = some (.string p) := by have := (S1.out.later hb2 (Nat.le_refl _)) 0 (by simp); simpa using this
  have hb2' := hide_it hb2
  clear hb2 NU S1 SR
  rcases hnu with ⟨v, zz, h1, rfl, ho⟩ | ⟨h1, rfl⟩
  · have hzl : zz.length = n := (Pl.numsO_length h1).trans hn.out
    obtain ⟨t, zs, rfl⟩ : ∃ t zs, zz = t :: zs := by
      cases zz with
      | nil => simp at hzl; omega
      | cons t zs => exact ⟨t, zs, rfl⟩
    obtain ⟨m, hm⟩ : ∃ m, Hid (zs.length = m) := ⟨_, rfl⟩
    obtain rfl : n = m + 1 := by rw [← hzl, List.length_cons, hm.out]
    rw [List.length_cons, hm.out] at ho
    obtain ⟨g2, cap2, rfl, hcap2⟩ : ∃ g cap, v = .slice (some ⟨g, 0, none⟩) (m + 1) cap ∧ m + 1 ≤ cap := by
      rcases ho.2 with ⟨_, h0⟩ | ⟨g, cap, cur, hv, _, _, hc, _⟩
      · omega
      · exact ⟨g, cap, hv, hc⟩
    have HRO : Hid (Pl.rop (Pl.cutB s) = some (Pl.rKind p, t, zs)) := by show _ = _; rw [hps.out, hpr.out]; simp only [Pl.rop, h1]
    have t0 : w2.cell? ⟨g2, 0, none⟩ = some (.int .i64 t) := by have := ho.cellAt 0 (by omega); simpa using this
    have HIN : Hid (∀ k, k < m → w2.cell? ⟨g2, 1 + k, none⟩ = some (.int .i64 (zs.getD k 0))) := fun k hk => by
      have := ho.cellAt (k + 1) (by omega)
      rw [show 1 + k = k + 1 by omega, this]
      have hk2 : k < zs.length := by rw [hm.out]; exact hk
      simp [List.getD_eq_getElem?_getD, hk2]
    clear h1 hzl ho
    -- REST
    have KD : Hid (Kinds8 w2.drew) := HK.out.later B2.out.drew (Nat.le_refl _)
    have AD : Hid (ErrAt w2.drew a) := HA.out.later B2.out.drew (Nat.le_refl _)
    have hmc : m + 1 ≤ cap2 := hcap2
    have hm0 : (0 : Int) < (m : Int) + 1 + 1 := by omega
    have hm1 : (1 : Int) ≤ (m : Int) + 1 := by omega
    have hm2 : (0 : Int) < (m : Int) + 1 := by omega
    by_cases hc1 : cap2 = 1
    · subst hc1
      obtain rfl : m = 0 := by omega
      cases hok : Pl.recOk (Pl.rKind p) t zs
      · skip
        have IN : Hid (Ints w2.drew (.slice (some ⟨g2, 0, none⟩) 0 0) zs) := by
          show Ints _ _ _
          exact .inl ⟨List.length_eq_zero_iff.1 (by have := hm.out; omega), _, _, rfl, fun h => by cases h⟩
        go_wp2_with fail
        refine wp_region_held_drew (S := fun w' => w'.cell? ⟨w.heap.size, 0, none⟩ = some (.string p) ∧ w'.cell? ⟨g2, 0, none⟩ = some (.int .i64 t)) (by kernel_rfl) ⟨c0, t0⟩ (fun hHeld => ?_)
        refine takeD (i := 0) (v := ?_) (some 28) rfl rfl (by kernel_rfl) (by kernel_rfl) (by kernel_rfl) (fun _ _ _ h => h) (by rfl) hHeld ?_ ?_
        rotate_left
        · intro W hSw
          try dsimp only at hSw
          go_simp
          try with_reducible rfl
        try simp only [Act.put]
        try simp only [List.setIfInBounds_toArray]
        try simp only [List.set_cons_succ]
        try simp only [List.set_cons_zero]
        refine takeD (i := 1) (v := ?_) (some 29) rfl rfl (by kernel_rfl) (by kernel_rfl) (by kernel_rfl) (fun _ _ _ h => h) (by rfl) hHeld ?_ ?_
        rotate_left
        · intro W hSw
          try dsimp only at hSw
          go_simp
          try with_reducible rfl
        try simp only [Act.put]
        try simp only [List.setIfInBounds_toArray]
        try simp only [List.set_cons_succ]
        try simp only [List.set_cons_zero]
        refine takeD (i := 2) (v := ?_) (some 30) rfl rfl (by kernel_rfl) (by kernel_rfl) (by kernel_rfl) (fun _ _ _ h => h) (by rfl) hHeld ?_ ?_
        rotate_left
        · intro W hSw
          try dsimp only at hSw
          go_simp
          try with_reducible rfl
        try simp only [Act.put]
        try simp only [List.setIfInBounds_toArray]
        try simp only [List.set_cons_succ]
        try simp only [List.set_cons_zero]
        refine takeD (i := 4) (v := ?_) (some 32) rfl rfl (by kernel_rfl) (by kernel_rfl) (by kernel_rfl) (fun _ _ _ h => h) (by rfl) hHeld ?_ ?_
        rotate_left
        · intro W hSw
          try dsimp only at hSw
          go_simp
          try with_reducible rfl
        try simp only [Act.put]
        try simp only [List.setIfInBounds_toArray]
        try simp only [List.set_cons_succ]
        try simp only [List.set_cons_zero]
        refine takeD (i := 5) (v := ?_) (some 33) rfl rfl (by kernel_rfl) (by kernel_rfl) (by kernel_rfl) (fun _ _ _ h => h) (by rfl) hHeld ?_ ?_
        rotate_left
        · intro W hSw
          try dsimp only at hSw
          go_simp
          try with_reducible rfl
        try simp only [Act.put]
        try simp only [List.setIfInBounds_toArray]
        try simp only [List.set_cons_succ]
        try simp only [List.set_cons_zero]
        refine takeD (i := 6) (v := ?_) (some 34) rfl rfl (by kernel_rfl) (by kernel_rfl) (by kernel_rfl) (fun _ _ _ h => h) (by rfl) hHeld ?_ ?_
        rotate_left
        · intro W hSw
          try dsimp only at hSw
          go_simp
          try with_reducible rfl
        try simp only [Act.put]
        try simp only [List.setIfInBounds_toArray]
        try simp only [List.set_cons_succ]
        try simp only [List.set_cons_zero]
        refine takeD (i := 7) (v := ?_) (some 35) rfl rfl (by kernel_rfl) (by kernel_rfl) (by kernel_rfl) (fun _ _ _ h => h) (by rfl) hHeld ?_ ?_
        rotate_left
        · intro W hSw
          try dsimp only at hSw
          go_simp
          try with_reducible rfl
        try simp only [Act.put]
        try simp only [List.setIfInBounds_toArray]
        try simp only [List.set_cons_succ]
        try simp only [List.set_cons_zero]
        refine takeD (i := 8) (v := ?_) (some 36) rfl rfl (by kernel_rfl) (by kernel_rfl) (by kernel_rfl) (fun _ _ _ h => h) (by rfl) hHeld ?_ ?_
        rotate_left
        · intro W hSw
          try dsimp only at hSw
          go_simp
          try with_reducible rfl
        try simp only [Act.put]
        try simp only [List.setIfInBounds_toArray]
        try simp only [List.set_cons_succ]
        try simp only [List.set_cons_zero]
        refine wpAnyH_ready (rs := [3]) (by kernel_rfl) (by simp) ?_
        refine AllReadyH.cons rfl (fun K hK => ?_) AllReadyH.nil
        go_simp
        refine (rkind_any p _ KD.out).mono ?_
        rintro e wq ⟨rfl, hwq⟩
        rw [hwq]
        clear hwq
        try dsimp only
        refine hK.out _ _ ⟨c0, t0⟩ (fun hHeld => ?_)
        clear hK K
        refine takeD (i := 9) (v := ?_) (some 37) rfl rfl (by kernel_rfl) (by kernel_rfl) (by kernel_rfl) (fun _ _ _ h => h) (by rfl) hHeld ?_ ?_
        rotate_left
        · intro W hSw
          try dsimp only at hSw
          go_simp
          try with_reducible rfl
        try simp only [Act.put]
        try simp only [List.setIfInBounds_toArray]
        try simp only [List.set_cons_succ]
        try simp only [List.set_cons_zero]
        refine wpAnyH_ready (rs := [10]) (by kernel_rfl) (by simp) ?_
        refine AllReadyH.cons rfl (fun K hK => ?_) AllReadyH.nil
        go_simp
        refine (entry_no (Pl.rKind p) t _ zs a _ IN.out (by rw [hm.out]; omega) AD.out hok).mono ?_
        rintro e w3 ⟨⟨ent, rfl⟩, hb3⟩
        have B3 := hide_it (B2.out.trans (((Below.refl w2.heap.size w2).drew.trans hb3).mono B2.out.size))
        have X3 := hide_it ((Below.refl w2.heap.size w2).drew.trans hb3)
        clear hb3
        try dsimp only
        refine hK.out _ _ ⟨(X3.out.cell (p := ⟨w.heap.size, 0, none⟩) (World.block_lt_of_cell? _ _ c0)).trans c0, (X3.out.cell (p := ⟨g2, 0, none⟩) (World.block_lt_of_cell? _ _ t0)).trans t0⟩ (fun hHeld => ?_)
        clear hK K
        refine takeD (i := 11) (v := ?_) (some 27) rfl rfl (by kernel_rfl) (by kernel_rfl) (by kernel_rfl) (fun _ _ _ h => h) (by rfl) hHeld ?_ ?_
        rotate_left
        · intro W hSw
          try dsimp only at hSw
          go_simp
          try with_reducible rfl
        try simp only [Act.put]
        try simp only [List.setIfInBounds_toArray]
        try simp only [List.set_cons_succ]
        try simp only [List.set_cons_zero]
        refine takeD (i := 12) (v := ?_) (some 39) rfl rfl (by kernel_rfl) (by kernel_rfl) (by kernel_rfl) (fun _ _ _ h => h) (by rfl) hHeld ?_ ?_
        rotate_left
        · intro W hSw
          try dsimp only at hSw
          go_simp
          try with_reducible rfl
        try simp only [Act.put]
        try simp only [List.setIfInBounds_toArray]
        try simp only [List.set_cons_succ]
        try simp only [List.set_cons_zero]
        refine takeD (i := 13) (v := ?_) (some 40) rfl rfl (by kernel_rfl) (by kernel_rfl) (by kernel_rfl) (fun _ _ _ h => h) (by rfl) hHeld ?_ ?_
        rotate_left
        · intro W hSw
          try dsimp only at hSw
          go_simp
          try with_reducible rfl
        try simp only [Act.put]
        try simp only [List.setIfInBounds_toArray]
        try simp only [List.set_cons_succ]
        try simp only [List.set_cons_zero]
        refine takeD (i := 14) (v := ?_) (some 7) rfl rfl (by kernel_rfl) (by kernel_rfl) (by kernel_rfl) (fun _ _ _ h => h) (by rfl) hHeld ?_ ?_
        rotate_left
        · intro W hSw
          try dsimp only at hSw
          go_simp
          try with_reducible rfl
        try simp only [Act.put]
        try simp only [List.setIfInBounds_toArray]
        try simp only [List.set_cons_succ]
        try simp only [List.set_cons_zero]
        refine takeD (i := 15) (v := ?_) (some 6) rfl rfl (by kernel_rfl) (by kernel_rfl) (by kernel_rfl) (fun _ _ _ h => h) (by rfl) hHeld ?_ ?_
        rotate_left
        · intro W hSw
          try dsimp only at hSw
          go_simp
          try with_reducible rfl
        try simp only [Act.put]
        try simp only [List.setIfInBounds_toArray]
        try simp only [List.set_cons_succ]
        try simp only [List.set_cons_zero]
        refine wpAnyH_done (by kernel_rfl) ?_ _
        have HR := hide_it (Pl.RdR.prog HRO.out (.inl hok))
        go_wp2
        go_ret2
        exact ⟨.inr ⟨rfl, HR.out⟩, B3.out⟩
      · skip
        have IN : Hid (Ints w2.drew (.slice (some ⟨g2, 0, none⟩) 0 0) zs) := by
          show Ints _ _ _
          exact .inl ⟨List.length_eq_zero_iff.1 (by have := hm.out; omega), _, _, rfl, fun h => by cases h⟩
        go_wp2_with fail
        refine wp_region_held_drew (S := fun w' => w'.cell? ⟨w.heap.size, 0, none⟩ = some (.string p) ∧ w'.cell? ⟨g2, 0, none⟩ = some (.int .i64 t)) (by kernel_rfl) ⟨c0, t0⟩ (fun hHeld => ?_)
        refine takeD (i := 0) (v := ?_) (some 28) rfl rfl (by kernel_rfl) (by kernel_rfl) (by kernel_rfl) (fun _ _ _ h => h) (by rfl) hHeld ?_ ?_
        rotate_left
        · intro W hSw
          try dsimp only at hSw
          go_simp
          try with_reducible rfl
        try simp only [Act.put]
        try simp only [List.setIfInBounds_toArray]
        try simp only [List.set_cons_succ]
        try simp only [List.set_cons_zero]
        refine takeD (i := 1) (v := ?_) (some 29) rfl rfl (by kernel_rfl) (by kernel_rfl) (by kernel_rfl) (fun _ _ _ h => h) (by rfl) hHeld ?_ ?_
        rotate_left
        · intro W hSw
          try dsimp only at hSw
          go_simp
          try with_reducible rfl
        try simp only [Act.put]
        try simp only [List.setIfInBounds_toArray]
        try simp only [List.set_cons_succ]
        try simp only [List.set_cons_zero]
        refine takeD (i := 2) (v := ?_) (some 30) rfl rfl (by kernel_rfl) (by kernel_rfl) (by kernel_rfl) (fun _ _ _ h => h) (by rfl) hHeld ?_ ?_
        rotate_left
        · intro W hSw
          try dsimp only at hSw
          go_simp
          try with_reducible rfl
        try simp only [Act.put]
        try simp only [List.setIfInBounds_toArray]
        try simp only [List.set_cons_succ]
        try simp only [List.set_cons_zero]
        refine takeD (i := 4) (v := ?_) (some 32) rfl rfl (by kernel_rfl) (by kernel_rfl) (by kernel_rfl) (fun _ _ _ h => h) (by rfl) hHeld ?_ ?_
        rotate_left
        · intro W hSw
          try dsimp only at hSw
          go_simp
          try with_reducible rfl
        try simp only [Act.put]
        try simp only [List.setIfInBounds_toArray]
        try simp only [List.set_cons_succ]
        try simp only [List.set_cons_zero]
        refine takeD (i := 5) (v := ?_) (some 33) rfl rfl (by kernel_rfl) (by kernel_rfl) (by kernel_rfl) (fun _ _ _ h => h) (by rfl) hHeld ?_ ?_
        rotate_left
        · intro W hSw
          try dsimp only at hSw
          go_simp
          try with_reducible rfl
        try simp only [Act.put]
        try simp only [List.setIfInBounds_toArray]
        try simp only [List.set_cons_succ]
        try simp only [List.set_cons_zero]
        refine takeD (i := 6) (v := ?_) (some 34) rfl rfl (by kernel_rfl) (by kernel_rfl) (by kernel_rfl) (fun _ _ _ h => h) (by rfl) hHeld ?_ ?_
        rotate_left
        · intro W hSw
          try dsimp only at hSw
          go_simp
          try with_reducible rfl
        try simp only [Act.put]
        try simp only [List.setIfInBounds_toArray]
        try simp only [List.set_cons_succ]
        try simp only [List.set_cons_zero]
        refine takeD (i := 7) (v := ?_) (some 35) rfl rfl (by kernel_rfl) (by kernel_rfl) (by kernel_rfl) (fun _ _ _ h => h) (by rfl) hHeld ?_ ?_
        rotate_left
        · intro W hSw
          try dsimp only at hSw
          go_simp
          try with_reducible rfl
        try simp only [Act.put]
        try simp only [List.setIfInBounds_toArray]
        try simp only [List.set_cons_succ]
        try simp only [List.set_cons_zero]
        refine takeD (i := 8) (v := ?_) (some 36) rfl rfl (by kernel_rfl) (by kernel_rfl) (by kernel_rfl) (fun _ _ _ h => h) (by rfl) hHeld ?_ ?_
        rotate_left
        · intro W hSw
          try dsimp only at hSw
          go_simp
          try with_reducible rfl
        try simp only [Act.put]
        try simp only [List.setIfInBounds_toArray]
        try simp only [List.set_cons_succ]
        try simp only [List.set_cons_zero]
        refine wpAnyH_ready (rs := [3]) (by kernel_rfl) (by simp) ?_
        refine AllReadyH.cons rfl (fun K hK => ?_) AllReadyH.nil
        go_simp
        refine (rkind_any p _ KD.out).mono ?_
        rintro e wq ⟨rfl, hwq⟩
        rw [hwq]
        clear hwq
        try dsimp only
        refine hK.out _ _ ⟨c0, t0⟩ (fun hHeld => ?_)
        clear hK K
        refine takeD (i := 9) (v := ?_) (some 37) rfl rfl (by kernel_rfl) (by kernel_rfl) (by kernel_rfl) (fun _ _ _ h => h) (by rfl) hHeld ?_ ?_
        rotate_left
        · intro W hSw
          try dsimp only at hSw
          go_simp
          try with_reducible rfl
        try simp only [Act.put]
        try simp only [List.setIfInBounds_toArray]
        try simp only [List.set_cons_succ]
        try simp only [List.set_cons_zero]
        refine wpAnyH_ready (rs := [10]) (by kernel_rfl) (by simp) ?_
        refine AllReadyH.cons rfl (fun K hK => ?_) AllReadyH.nil
        go_simp
        refine (entryE (Pl.rKind p) t _ zs _ IN.out hok).mono ?_
        rintro e w3 ⟨rfl, hb3⟩
        have B3 := hide_it (B2.out.trans (((Below.refl w2.heap.size w2).drew.trans hb3).mono B2.out.size))
        have X3 := hide_it ((Below.refl w2.heap.size w2).drew.trans hb3)
        clear hb3
        try dsimp only
        refine hK.out _ _ ⟨(X3.out.cell (p := ⟨w.heap.size, 0, none⟩) (World.block_lt_of_cell? _ _ c0)).trans c0, (X3.out.cell (p := ⟨g2, 0, none⟩) (World.block_lt_of_cell? _ _ t0)).trans t0⟩ (fun hHeld => ?_)
        clear hK K
        refine takeD (i := 11) (v := ?_) (some 27) rfl rfl (by kernel_rfl) (by kernel_rfl) (by kernel_rfl) (fun _ _ _ h => h) (by rfl) hHeld ?_ ?_
        rotate_left
        · intro W hSw
          try dsimp only at hSw
          go_simp
          try with_reducible rfl
        try simp only [Act.put]
        try simp only [List.setIfInBounds_toArray]
        try simp only [List.set_cons_succ]
        try simp only [List.set_cons_zero]
        refine takeD (i := 12) (v := ?_) (some 39) rfl rfl (by kernel_rfl) (by kernel_rfl) (by kernel_rfl) (fun _ _ _ h => h) (by rfl) hHeld ?_ ?_
        rotate_left
        · intro W hSw
          try dsimp only at hSw
          go_simp
          try with_reducible rfl
        try simp only [Act.put]
        try simp only [List.setIfInBounds_toArray]
        try simp only [List.set_cons_succ]
        try simp only [List.set_cons_zero]
        refine takeD (i := 13) (v := ?_) (some 40) rfl rfl (by kernel_rfl) (by kernel_rfl) (by kernel_rfl) (fun _ _ _ h => h) (by rfl) hHeld ?_ ?_
        rotate_left
        · intro W hSw
          try dsimp only at hSw
          go_simp
          try with_reducible rfl
        try simp only [Act.put]
        try simp only [List.setIfInBounds_toArray]
        try simp only [List.set_cons_succ]
        try simp only [List.set_cons_zero]
        refine takeD (i := 14) (v := ?_) (some 7) rfl rfl (by kernel_rfl) (by kernel_rfl) (by kernel_rfl) (fun _ _ _ h => h) (by rfl) hHeld ?_ ?_
        rotate_left
        · intro W hSw
          try dsimp only at hSw
          go_simp
          try with_reducible rfl
        try simp only [Act.put]
        try simp only [List.setIfInBounds_toArray]
        try simp only [List.set_cons_succ]
        try simp only [List.set_cons_zero]
        refine takeD (i := 15) (v := ?_) (some 6) rfl rfl (by kernel_rfl) (by kernel_rfl) (by kernel_rfl) (fun _ _ _ h => h) (by rfl) hHeld ?_ ?_
        rotate_left
        · intro W hSw
          try dsimp only at hSw
          go_simp
          try with_reducible rfl
        try simp only [Act.put]
        try simp only [List.setIfInBounds_toArray]
        try simp only [List.set_cons_succ]
        try simp only [List.set_cons_zero]
        refine wpAnyH_done (by kernel_rfl) ?_ _
        have TX := hide_it (textE (Pl.rKind p) t zs w3 hok (HK.out.later B3.out (Nat.le_refl _)).at_)
        have RT : Hid (Pl.rTxt (Pl.rKind p) t zs = Pl.rTail (Pl.rHead (Pl.rKind p) t) zs) := Pl.rTxt_yes hok
        obtain ⟨T, hT⟩ : ∃ T, Hid (Pl.rTail (Pl.rHead (Pl.rKind p) t) zs = T) := ⟨_, rfl⟩
        rw [hT.out] at TX RT
        by_cases hTs : T = s
        · have HR := hide_it (show Pl.RdR s (Pl.rKind p) t zs true from .inl ⟨rfl, hok, RT.out.trans hTs⟩)
          obtain ⟨E, hE⟩ : ∃ E, Hid (entV (Pl.rKind p) t zs = E) := ⟨_, rfl⟩
          rw [hE.out] at TX ⊢
          subst hTs
          go_wp2_with fail
          refine TX.out.mono ?_
          rintro e w4 ⟨rfl, hb4⟩
          have B4 := hide_it (B3.out.trans (hb4.mono B3.out.size))
          clear hb4
          go_wp2
          go_ret2
          exact ⟨.inl ⟨Pl.rKind p, t, zs, by rw [hE.out]; rfl, hok, HR.out⟩, B4.out⟩
        · have HR := hide_it (Pl.RdR.prog HRO.out (.inr (by rw [RT.out]; exact hTs)))
          obtain ⟨E, hE⟩ : ∃ E, Hid (entV (Pl.rKind p) t zs = E) := ⟨_, rfl⟩
          rw [hE.out] at TX ⊢
          have hne := str_neR hTs
          clear hTs
          go_wp2_with fail
          refine TX.out.mono ?_
          rintro e w4 ⟨rfl, hb4⟩
          have B4 := hide_it (B3.out.trans (hb4.mono B3.out.size))
          clear hb4
          have herr : w4.cell? ⟨0, 0, none⟩ = some (.iface 137 (.pointer (some a))) := HA.out.later B4.out (Nat.le_refl _)
          go_wp2_with fail
          go_quiet (fail)
          go_wp2
          go_ret2
          exact ⟨.inr ⟨rfl, HR.out⟩, below_drewN B4.out _⟩
    · have hcc : ¬ ((cap2 : Int) - 1 = 0) := by omega
      cases hok : Pl.recOk (Pl.rKind p) t zs
      · skip
        have IN : Hid (Ints w2.drew (.slice (some ⟨g2, 1, none⟩) m (cap2 - 1)) zs) := by
          show Ints _ _ _
          exact ints_from hm.out HIN.out
        go_wp2_with fail
        refine wp_region_held_drew (S := fun w' => w'.cell? ⟨w.heap.size, 0, none⟩ = some (.string p) ∧ w'.cell? ⟨g2, 0, none⟩ = some (.int .i64 t)) (by kernel_rfl) ⟨c0, t0⟩ (fun hHeld => ?_)
        refine takeD (i := 0) (v := ?_) (some 28) rfl rfl (by kernel_rfl) (by kernel_rfl) (by kernel_rfl) (fun _ _ _ h => h) (by rfl) hHeld ?_ ?_
        rotate_left
        · intro W hSw
          try dsimp only at hSw
          go_simp
          try with_reducible rfl
        try simp only [Act.put]
        try simp only [List.setIfInBounds_toArray]
        try simp only [List.set_cons_succ]
        try simp only [List.set_cons_zero]
        refine takeD (i := 1) (v := ?_) (some 29) rfl rfl (by kernel_rfl) (by kernel_rfl) (by kernel_rfl) (fun _ _ _ h => h) (by rfl) hHeld ?_ ?_
        rotate_left
        · intro W hSw
          try dsimp only at hSw
          go_simp
          try with_reducible rfl
        try simp only [Act.put]
        try simp only [List.setIfInBounds_toArray]
        try simp only [List.set_cons_succ]
        try simp only [List.set_cons_zero]
        refine takeD (i := 2) (v := ?_) (some 30) rfl rfl (by kernel_rfl) (by kernel_rfl) (by kernel_rfl) (fun _ _ _ h => h) (by rfl) hHeld ?_ ?_
        rotate_left
        · intro W hSw
          try dsimp only at hSw
          go_simp
          try with_reducible rfl
        try simp only [Act.put]
        try simp only [List.setIfInBounds_toArray]
        try simp only [List.set_cons_succ]
        try simp only [List.set_cons_zero]
        refine takeD (i := 4) (v := ?_) (some 32) rfl rfl (by kernel_rfl) (by kernel_rfl) (by kernel_rfl) (fun _ _ _ h => h) (by rfl) hHeld ?_ ?_
        rotate_left
        · intro W hSw
          try dsimp only at hSw
          go_simp
          try with_reducible rfl
        try simp only [Act.put]
        try simp only [List.setIfInBounds_toArray]
        try simp only [List.set_cons_succ]
        try simp only [List.set_cons_zero]
        refine takeD (i := 5) (v := ?_) (some 33) rfl rfl (by kernel_rfl) (by kernel_rfl) (by kernel_rfl) (fun _ _ _ h => h) (by rfl) hHeld ?_ ?_
        rotate_left
        · intro W hSw
          try dsimp only at hSw
          go_simp
          try with_reducible rfl
        try simp only [Act.put]
        try simp only [List.setIfInBounds_toArray]
        try simp only [List.set_cons_succ]
        try simp only [List.set_cons_zero]
        refine takeD (i := 6) (v := ?_) (some 34) rfl rfl (by kernel_rfl) (by kernel_rfl) (by kernel_rfl) (fun _ _ _ h => h) (by rfl) hHeld ?_ ?_
        rotate_left
        · intro W hSw
          try dsimp only at hSw
          go_simp
          try with_reducible rfl
        try simp only [Act.put]
        try simp only [List.setIfInBounds_toArray]
        try simp only [List.set_cons_succ]
        try simp only [List.set_cons_zero]
        refine takeD (i := 7) (v := ?_) (some 35) rfl rfl (by kernel_rfl) (by kernel_rfl) (by kernel_rfl) (fun _ _ _ h => h) (by rfl) hHeld ?_ ?_
        rotate_left
        · intro W hSw
          try dsimp only at hSw
          go_simp
          try with_reducible rfl
        try simp only [Act.put]
        try simp only [List.setIfInBounds_toArray]
        try simp only [List.set_cons_succ]
        try simp only [List.set_cons_zero]
        refine takeD (i := 8) (v := ?_) (some 36) rfl rfl (by kernel_rfl) (by kernel_rfl) (by kernel_rfl) (fun _ _ _ h => h) (by rfl) hHeld ?_ ?_
        rotate_left
        · intro W hSw
          try dsimp only at hSw
          go_simp
          try with_reducible rfl
        try simp only [Act.put]
        try simp only [List.setIfInBounds_toArray]
        try simp only [List.set_cons_succ]
        try simp only [List.set_cons_zero]
        refine wpAnyH_ready (rs := [3]) (by kernel_rfl) (by simp) ?_
        refine AllReadyH.cons rfl (fun K hK => ?_) AllReadyH.nil
        go_simp
        refine (rkind_any p _ KD.out).mono ?_
        rintro e wq ⟨rfl, hwq⟩
        rw [hwq]
        clear hwq
        try dsimp only
        refine hK.out _ _ ⟨c0, t0⟩ (fun hHeld => ?_)
        clear hK K
        refine takeD (i := 9) (v := ?_) (some 37) rfl rfl (by kernel_rfl) (by kernel_rfl) (by kernel_rfl) (fun _ _ _ h => h) (by rfl) hHeld ?_ ?_
        rotate_left
        · intro W hSw
          try dsimp only at hSw
          go_simp
          try with_reducible rfl
        try simp only [Act.put]
        try simp only [List.setIfInBounds_toArray]
        try simp only [List.set_cons_succ]
        try simp only [List.set_cons_zero]
        refine wpAnyH_ready (rs := [10]) (by kernel_rfl) (by simp) ?_
        refine AllReadyH.cons rfl (fun K hK => ?_) AllReadyH.nil
        go_simp
        refine (entry_no (Pl.rKind p) t _ zs a _ IN.out (by rw [hm.out]; omega) AD.out hok).mono ?_
        rintro e w3 ⟨⟨ent, rfl⟩, hb3⟩
        have B3 := hide_it (B2.out.trans (((Below.refl w2.heap.size w2).drew.trans hb3).mono B2.out.size))
        have X3 := hide_it ((Below.refl w2.heap.size w2).drew.trans hb3)
        clear hb3
        try dsimp only
        refine hK.out _ _ ⟨(X3.out.cell (p := ⟨w.heap.size, 0, none⟩) (World.block_lt_of_cell? _ _ c0)).trans c0, (X3.out.cell (p := ⟨g2, 0, none⟩) (World.block_lt_of_cell? _ _ t0)).trans t0⟩ (fun hHeld => ?_)
        clear hK K
        refine takeD (i := 11) (v := ?_) (some 27) rfl rfl (by kernel_rfl) (by kernel_rfl) (by kernel_rfl) (fun _ _ _ h => h) (by rfl) hHeld ?_ ?_
        rotate_left
        · intro W hSw
          try dsimp only at hSw
          go_simp
          try with_reducible rfl
        try simp only [Act.put]
        try simp only [List.setIfInBounds_toArray]
        try simp only [List.set_cons_succ]
        try simp only [List.set_cons_zero]
        refine takeD (i := 12) (v := ?_) (some 39) rfl rfl (by kernel_rfl) (by kernel_rfl) (by kernel_rfl) (fun _ _ _ h => h) (by rfl) hHeld ?_ ?_
        rotate_left
        · intro W hSw
          try dsimp only at hSw
          go_simp
          try with_reducible rfl
        try simp only [Act.put]
        try simp only [List.setIfInBounds_toArray]
        try simp only [List.set_cons_succ]
        try simp only [List.set_cons_zero]
        refine takeD (i := 13) (v := ?_) (some 40) rfl rfl (by kernel_rfl) (by kernel_rfl) (by kernel_rfl) (fun _ _ _ h => h) (by rfl) hHeld ?_ ?_
        rotate_left
        · intro W hSw
          try dsimp only at hSw
          go_simp
          try with_reducible rfl
        try simp only [Act.put]
        try simp only [List.setIfInBounds_toArray]
        try simp only [List.set_cons_succ]
        try simp only [List.set_cons_zero]
        refine takeD (i := 14) (v := ?_) (some 7) rfl rfl (by kernel_rfl) (by kernel_rfl) (by kernel_rfl) (fun _ _ _ h => h) (by rfl) hHeld ?_ ?_
        rotate_left
        · intro W hSw
          try dsimp only at hSw
          go_simp
          try with_reducible rfl
        try simp only [Act.put]
        try simp only [List.setIfInBounds_toArray]
        try simp only [List.set_cons_succ]
        try simp only [List.set_cons_zero]
        refine takeD (i := 15) (v := ?_) (some 6) rfl rfl (by kernel_rfl) (by kernel_rfl) (by kernel_rfl) (fun _ _ _ h => h) (by rfl) hHeld ?_ ?_
        rotate_left
        · intro W hSw
          try dsimp only at hSw
          go_simp
          try with_reducible rfl
        try simp only [Act.put]
        try simp only [List.setIfInBounds_toArray]
        try simp only [List.set_cons_succ]
        try simp only [List.set_cons_zero]
        refine wpAnyH_done (by kernel_rfl) ?_ _
        have HR := hide_it (Pl.RdR.prog HRO.out (.inl hok))
        go_wp2
        go_ret2
        exact ⟨.inr ⟨rfl, HR.out⟩, B3.out⟩
      · skip
        have IN : Hid (Ints w2.drew (.slice (some ⟨g2, 1, none⟩) m (cap2 - 1)) zs) := by
          show Ints _ _ _
          exact ints_from hm.out HIN.out
        go_wp2_with fail
        refine wp_region_held_drew (S := fun w' => w'.cell? ⟨w.heap.size, 0, none⟩ = some (.string p) ∧ w'.cell? ⟨g2, 0, none⟩ = some (.int .i64 t)) (by kernel_rfl) ⟨c0, t0⟩ (fun hHeld => ?_)
        refine takeD (i := 0) (v := ?_) (some 28) rfl rfl (by kernel_rfl) (by kernel_rfl) (by kernel_rfl) (fun _ _ _ h => h) (by rfl) hHeld ?_ ?_
        rotate_left
        · intro W hSw
          try dsimp only at hSw
          go_simp
          try with_reducible rfl
        try simp only [Act.put]
        try simp only [List.setIfInBounds_toArray]
        try simp only [List.set_cons_succ]
        try simp only [List.set_cons_zero]
        refine takeD (i := 1) (v := ?_) (some 29) rfl rfl (by kernel_rfl) (by kernel_rfl) (by kernel_rfl) (fun _ _ _ h => h) (by rfl) hHeld ?_ ?_
        rotate_left
        · intro W hSw
          try dsimp only at hSw
          go_simp
          try with_reducible rfl
        try simp only [Act.put]
        try simp only [List.setIfInBounds_toArray]
        try simp only [List.set_cons_succ]
        try simp only [List.set_cons_zero]
        refine takeD (i := 2) (v := ?_) (some 30) rfl rfl (by kernel_rfl) (by kernel_rfl) (by kernel_rfl) (fun _ _ _ h => h) (by rfl) hHeld ?_ ?_
        rotate_left
        · intro W hSw
          try dsimp only at hSw
          go_simp
          try with_reducible rfl
        try simp only [Act.put]
        try simp only [List.setIfInBounds_toArray]
        try simp only [List.set_cons_succ]
        try simp only [List.set_cons_zero]
        refine takeD (i := 4) (v := ?_) (some 32) rfl rfl (by kernel_rfl) (by kernel_rfl) (by kernel_rfl) (fun _ _ _ h => h) (by rfl) hHeld ?_ ?_
        rotate_left
        · intro W hSw
          try dsimp only at hSw
          go_simp
          try with_reducible rfl
        try simp only [Act.put]
        try simp only [List.setIfInBounds_toArray]
        try simp only [List.set_cons_succ]
        try simp only [List.set_cons_zero]
        refine takeD (i := 5) (v := ?_) (some 33) rfl rfl (by kernel_rfl) (by kernel_rfl) (by kernel_rfl) (fun _ _ _ h => h) (by rfl) hHeld ?_ ?_
        rotate_left
        · intro W hSw
          try dsimp only at hSw
          go_simp
          try with_reducible rfl
        try simp only [Act.put]
        try simp only [List.setIfInBounds_toArray]
        try simp only [List.set_cons_succ]
        try simp only [List.set_cons_zero]
        refine takeD (i := 6) (v := ?_) (some 34) rfl rfl (by kernel_rfl) (by kernel_rfl) (by kernel_rfl) (fun _ _ _ h => h) (by rfl) hHeld ?_ ?_
        rotate_left
        · intro W hSw
          try dsimp only at hSw
          go_simp
          try with_reducible rfl
        try simp only [Act.put]
        try simp only [List.setIfInBounds_toArray]
        try simp only [List.set_cons_succ]
        try simp only [List.set_cons_zero]
        refine takeD (i := 7) (v := ?_) (some 35) rfl rfl (by kernel_rfl) (by kernel_rfl) (by kernel_rfl) (fun _ _ _ h => h) (by rfl) hHeld ?_ ?_
        rotate_left
        · intro W hSw
          try dsimp only at hSw
          go_simp
          try with_reducible rfl
        try simp only [Act.put]
        try simp only [List.setIfInBounds_toArray]
        try simp only [List.set_cons_succ]
        try simp only [List.set_cons_zero]
        refine takeD (i := 8) (v := ?_) (some 36) rfl rfl (by kernel_rfl) (by kernel_rfl) (by kernel_rfl) (fun _ _ _ h => h) (by rfl) hHeld ?_ ?_
        rotate_left
        · intro W hSw
          try dsimp only at hSw
          go_simp
          try with_reducible rfl
        try simp only [Act.put]
        try simp only [List.setIfInBounds_toArray]
        try simp only [List.set_cons_succ]
        try simp only [List.set_cons_zero]
        refine wpAnyH_ready (rs := [3]) (by kernel_rfl) (by simp) ?_
        refine AllReadyH.cons rfl (fun K hK => ?_) AllReadyH.nil
        go_simp
        refine (rkind_any p _ KD.out).mono ?_
        rintro e wq ⟨rfl, hwq⟩
        rw [hwq]
        clear hwq
        try dsimp only
        refine hK.out _ _ ⟨c0, t0⟩ (fun hHeld => ?_)
        clear hK K
        refine takeD (i := 9) (v := ?_) (some 37) rfl rfl (by kernel_rfl) (by kernel_rfl) (by kernel_rfl) (fun _ _ _ h => h) (by rfl) hHeld ?_ ?_
        rotate_left
        · intro W hSw
          try dsimp only at hSw
          go_simp
          try with_reducible rfl
        try simp only [Act.put]
        try simp only [List.setIfInBounds_toArray]
        try simp only [List.set_cons_succ]
        try simp only [List.set_cons_zero]
        refine wpAnyH_ready (rs := [10]) (by kernel_rfl) (by simp) ?_
        refine AllReadyH.cons rfl (fun K hK => ?_) AllReadyH.nil
        go_simp
        refine (entryE (Pl.rKind p) t _ zs _ IN.out hok).mono ?_
        rintro e w3 ⟨rfl, hb3⟩
        have B3 := hide_it (B2.out.trans (((Below.refl w2.heap.size w2).drew.trans hb3).mono B2.out.size))
        have X3 := hide_it ((Below.refl w2.heap.size w2).drew.trans hb3)
        clear hb3
        try dsimp only
        refine hK.out _ _ ⟨(X3.out.cell (p := ⟨w.heap.size, 0, none⟩) (World.block_lt_of_cell? _ _ c0)).trans c0, (X3.out.cell (p := ⟨g2, 0, none⟩) (World.block_lt_of_cell? _ _ t0)).trans t0⟩ (fun hHeld => ?_)
        clear hK K
        refine takeD (i := 11) (v := ?_) (some 27) rfl rfl (by kernel_rfl) (by kernel_rfl) (by kernel_rfl) (fun _ _ _ h => h) (by rfl) hHeld ?_ ?_
        rotate_left
        · intro W hSw
          try dsimp only at hSw
          go_simp
          try with_reducible rfl
        try simp only [Act.put]
        try simp only [List.setIfInBounds_toArray]
        try simp only [List.set_cons_succ]
        try simp only [List.set_cons_zero]
        refine takeD (i := 12) (v := ?_) (some 39) rfl rfl (by kernel_rfl) (by kernel_rfl) (by kernel_rfl) (fun _ _ _ h => h) (by rfl) hHeld ?_ ?_
        rotate_left
        · intro W hSw
          try dsimp only at hSw
          go_simp
          try with_reducible rfl
        try simp only [Act.put]
        try simp only [List.setIfInBounds_toArray]
        try simp only [List.set_cons_succ]
        try simp only [List.set_cons_zero]
        refine takeD (i := 13) (v := ?_) (some 40) rfl rfl (by kernel_rfl) (by kernel_rfl) (by kernel_rfl) (fun _ _ _ h => h) (by rfl) hHeld ?_ ?_
        rotate_left
        · intro W hSw
          try dsimp only at hSw
          go_simp
          try with_reducible rfl
        try simp only [Act.put]
        try simp only [List.setIfInBounds_toArray]
        try simp only [List.set_cons_succ]
        try simp only [List.set_cons_zero]
        refine takeD (i := 14) (v := ?_) (some 7) rfl rfl (by kernel_rfl) (by kernel_rfl) (by kernel_rfl) (fun _ _ _ h => h) (by rfl) hHeld ?_ ?_
        rotate_left
        · intro W hSw
          try dsimp only at hSw
          go_simp
          try with_reducible rfl
        try simp only [Act.put]
        try simp only [List.setIfInBounds_toArray]
        try simp only [List.set_cons_succ]
        try simp only [List.set_cons_zero]
        refine takeD (i := 15) (v := ?_) (some 6) rfl rfl (by kernel_rfl) (by kernel_rfl) (by kernel_rfl) (fun _ _ _ h => h) (by rfl) hHeld ?_ ?_
        rotate_left
        · intro W hSw
          try dsimp only at hSw
          go_simp
          try with_reducible rfl
        try simp only [Act.put]
        try simp only [List.setIfInBounds_toArray]
        try simp only [List.set_cons_succ]
        try simp only [List.set_cons_zero]
        refine wpAnyH_done (by kernel_rfl) ?_ _
        have TX := hide_it (textE (Pl.rKind p) t zs w3 hok (HK.out.later B3.out (Nat.le_refl _)).at_)
        have RT : Hid (Pl.rTxt (Pl.rKind p) t zs = Pl.rTail (Pl.rHead (Pl.rKind p) t) zs) := Pl.rTxt_yes hok
        obtain ⟨T, hT⟩ : ∃ T, Hid (Pl.rTail (Pl.rHead (Pl.rKind p) t) zs = T) := ⟨_, rfl⟩
        rw [hT.out] at TX RT
        by_cases hTs : T = s
        · have HR := hide_it (show Pl.RdR s (Pl.rKind p) t zs true from .inl ⟨rfl, hok, RT.out.trans hTs⟩)
          obtain ⟨E, hE⟩ : ∃ E, Hid (entV (Pl.rKind p) t zs = E) := ⟨_, rfl⟩
          rw [hE.out] at TX ⊢
          subst hTs
          go_wp2_with fail
          refine TX.out.mono ?_
          rintro e w4 ⟨rfl, hb4⟩
          have B4 := hide_it (B3.out.trans (hb4.mono B3.out.size))
          clear hb4
          go_wp2
          go_ret2
          exact ⟨.inl ⟨Pl.rKind p, t, zs, by rw [hE.out]; rfl, hok, HR.out⟩, B4.out⟩
        · have HR := hide_it (Pl.RdR.prog HRO.out (.inr (by rw [RT.out]; exact hTs)))
          obtain ⟨E, hE⟩ : ∃ E, Hid (entV (Pl.rKind p) t zs = E) := ⟨_, rfl⟩
          rw [hE.out] at TX ⊢
          have hne := str_neR hTs
          clear hTs
          go_wp2_with fail
          refine TX.out.mono ?_
          rintro e w4 ⟨rfl, hb4⟩
          have B4 := hide_it (B3.out.trans (hb4.mono B3.out.size))
          clear hb4
          have herr : w4.cell? ⟨0, 0, none⟩ = some (.iface 137 (.pointer (some a))) := HA.out.later B4.out (Nat.le_refl _)
          go_wp2_with fail
          go_quiet (fail)
          go_wp2
          go_ret2
          exact ⟨.inr ⟨rfl, HR.out⟩, below_drewN B4.out _⟩
  · have HR := hide_it (Pl.RdR.none_ (s := s) (by rw [hps.out, hpr.out]; simp only [Pl.rop, h1]))
    clear h1
    go_wp2
    go_ret2
    exact ⟨.inr ⟨rfl, HR.out⟩, B2.out⟩

end Go.Proofs.YtfpjohbcbflnhaaDoor
