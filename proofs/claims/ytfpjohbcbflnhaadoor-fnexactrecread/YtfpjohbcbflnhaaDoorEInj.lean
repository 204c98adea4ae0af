/- The plain mathematics of the texts of records: ok records have the same text just if they are the same. No conditions. -/
import Derived.Test.YtfpjohbcbflnhaaDoorESText
namespace Go.Proofs.YtfpjohbcbflnhaaDoor
namespace Pl

/-- What a text of an ok record tells. -/
def unR (b : ByteArray) : Int × Int × List Int :=
  let g := fun i : Nat => ((b.data.getD i 0).toNat : Int)
  if g 0 = 104 then (1, g 5 - 48, [g 7 - 48]) else if g 0 = 99 then (2, g 6 - 48, []) else if g 0 = 117 then (3, g 5 - 48, []) else if g 0 = 98 then (4, g 6 - 48, [g 8 - 48, g 10 - 48, g 12 - 48])
  else if g 0 = 121 then (5, g 4 - 48, []) else if g 0 = 110 then (6, g 3 - 48, []) else (7, g 4 - 48, [])

theorem unR_h : ∀ t : Fin 7, ∀ z : Fin 4, unR (rTail (rHead 1 t.val) [(z.val : Int)]) = (1, (t.val : Int), [(z.val : Int)]) := by decide +kernel
theorem unR_b : ∀ t : Fin 7, ∀ a c d : Fin 4, unR (rTail (rHead 4 t.val) [(a.val : Int), (c.val : Int), (d.val : Int)]) = (4, (t.val : Int), [(a.val : Int), (c.val : Int), (d.val : Int)]) := by decide +kernel
theorem unR_p2 : ∀ t : Fin 7, unR (rTail (rHead 2 t.val) []) = (2, (t.val : Int), []) := by decide +kernel
theorem unR_p3 : ∀ t : Fin 7, unR (rTail (rHead 3 t.val) []) = (3, (t.val : Int), []) := by decide +kernel
theorem unR_p5 : ∀ t : Fin 7, unR (rTail (rHead 5 t.val) []) = (5, (t.val : Int), []) := by decide +kernel
theorem unR_p6 : ∀ t : Fin 7, unR (rTail (rHead 6 t.val) []) = (6, (t.val : Int), []) := by decide +kernel
theorem unR_p7 : ∀ t : Fin 7, unR (rTail (rHead 7 t.val) []) = (7, (t.val : Int), []) := by decide +kernel

theorem unR_txt {k t : Int} {zs : List Int} (h : recOk k t zs = true) : unR (rTxt k t zs) = (k, t, zs) := by
  rw [rTxt_yes h]
  obtain ⟨_, ⟨t1, t6⟩, _, _⟩ := recOk_nums h
  have ht := inB_mk t1 t6
  obtain ⟨tn, rfl⟩ := Int.eq_ofNat_of_zero_le (show 0 ≤ t by omega)
  by_cases k1 : k = 1
  · subst k1
    rw [recOk_1 _ zs ht] at h
    simp only [holdOk, Bool.and_eq_true, beq_iff_eq] at h
    obtain ⟨z, e⟩ := List.length_eq_one_iff.1 h.1
    subst e
    have hz := inB_true h.2
    simp at hz
    obtain ⟨zn, rfl⟩ := Int.eq_ofNat_of_zero_le (show 0 ≤ z by omega)
    exact unR_h ⟨tn, by omega⟩ ⟨zn, by omega⟩
  by_cases k4 : k = 4
  · subst k4
    rw [recOk_4 _ zs ht] at h
    obtain ⟨a, c, d, rfl, ha, hc, hd⟩ := manyOk_three h
    obtain ⟨an, rfl⟩ := Int.eq_ofNat_of_zero_le ha.1
    obtain ⟨cn, rfl⟩ := Int.eq_ofNat_of_zero_le hc.1
    obtain ⟨dn, rfl⟩ := Int.eq_ofNat_of_zero_le hd.1
    exact unR_b ⟨tn, by omega⟩ ⟨an, by omega⟩ ⟨cn, by omega⟩ ⟨dn, by omega⟩
  · rw [recOk_p k _ zs ht k1 k4, Bool.and_eq_true] at h
    have hk := inB_true h.1
    obtain rfl : zs = [] := List.length_eq_zero_iff.1 (by simpa using h.2)
    have k5 : k = 2 ∨ k = 3 ∨ k = 5 ∨ k = 6 ∨ k = 7 := by omega
    rcases k5 with rfl | rfl | rfl | rfl | rfl
    · exact unR_p2 ⟨tn, by omega⟩
    · exact unR_p3 ⟨tn, by omega⟩
    · exact unR_p5 ⟨tn, by omega⟩
    · exact unR_p6 ⟨tn, by omega⟩
    · exact unR_p7 ⟨tn, by omega⟩

theorem rTxt_inj {k t k' t' : Int} {zs zs' : List Int} (h : recOk k t zs = true) (h' : recOk k' t' zs' = true) (he : rTxt k t zs = rTxt k' t' zs') : k = k' ∧ t = t' ∧ zs = zs' := by
  have h1 := unR_txt h
  rw [he, unR_txt h'] at h1
  simp only [Prod.mk.injEq] at h1
  exact ⟨h1.1.symm, h1.2.1.symm, h1.2.2.symm⟩

end Pl

open Go.RowKit

set_option maxHeartbeats 2000000 in
theorem lnInts_no (v1 v2 : Value) (zs ys : List Int) (w : World) (h1 : Ints w v1 zs) (h2 : Ints w v2 ys) (hl : zs.length ≤ 1048576) (hl2 : ys.length ≤ 1048576) (hne : zs ≠ ys) :
    Calls Tryd.prog 30 #[v1, v2] w fun e w' => e = .returned (.bool false) ∧ Below w.heap.size w w' := by
  by_cases hle : zs.length = ys.length
  · have hz : zs ≠ [] := fun e => hne (by subst e; exact (List.length_eq_zero_iff.1 hle.symm).symm)
    rcases h1 with ⟨rfl, _⟩ | ⟨b, off, cap, rfl, _, hc⟩
    · exact absurd rfl hz
    rcases h2 with ⟨rfl, _⟩ | ⟨b2, off2, cap2, rfl, _, hc2⟩
    · simp at hle; exact absurd hle hz
    have HC : Hid (∀ k, k < zs.length → w.cell? ⟨b, off + k, none⟩ = some (.int .i64 (zs.getD k 0))) := hc
    have HC2 : Hid (∀ k, k < ys.length → w.cell? ⟨b2, off2 + k, none⟩ = some (.int .i64 (ys.getD k 0))) := hc2
    have HL : Hid (ys.length = zs.length) := hle.symm
    rw [HL.out]
    have HN := hidden hne
    clear hc hc2 hz hne hle hl2
    go_enter Tryd.func30, Tryd.ntmps30
    go_wp2
    go_loopw [5] (fun i wr => ∃ k : Nat, k ≤ zs.length ∧ i = .int .i64 k ∧ Hid (∀ j, j < k → zs.getD j 0 = ys.getD j 0) ∧ Hid (Below w.heap.size w wr)) (fun i _ => zs.length - (intOf i).toNat)
    case atStart => exact ⟨0, Nat.zero_le _, rfl, fun j hj => absurd hj (by omega), Below.refl _ _⟩
    case round =>
      obtain ⟨k, hk, rfl, HE, HB⟩ := hrel
      by_cases hlt : k < zs.length
      · obtain ⟨x, hx⟩ : ∃ x, Hid (zs.getD k 0 = x) := ⟨_, rfl⟩
        obtain ⟨y, hy⟩ : ∃ x, Hid (ys.getD k 0 = x) := ⟨_, rfl⟩
        have x0 := HC.out k hlt
        have y0 := HC2.out k (by rw [HL.out]; exact hlt)
        rw [hx.out] at x0
        rw [hy.out] at y0
        have xl := World.block_lt_of_cell? _ _ x0
        have yl := World.block_lt_of_cell? _ _ y0
        have c0 : wr.cell? ⟨b, off + k, none⟩ = some (.int .i64 x) := by rw [← x0]; exact HB.out.cell (p := ⟨b, off + k, none⟩) (by simpa using xl)
        have c1 : wr.cell? ⟨b2, off2 + k, none⟩ = some (.int .i64 y) := by rw [← y0]; exact HB.out.cell (p := ⟨b2, off2 + k, none⟩) (by simpa using yl)
        have hli : (k : Int) < (zs.length : Int) := by omega
        clear x0 y0 xl yl
        by_cases hxy : x = y
        · subst hxy
          have HE' : Hid (∀ j, j < k + 1 → zs.getD j 0 = ys.getD j 0) := fun j hj => by
            by_cases e : j = k
            · subst e; rw [hx.out, hy.out]
            · exact HE.out j (by omega)
          go_wp2
          go_quiet (fail)
          go_wp2
          go_roundw
          case rel => exact ⟨k + 1, by omega, by go_num, HE', below_drewN HB.out _⟩
          case measure => simp [intOf]; omega
        · go_wp2
          go_quiet (fail)
          go_wp2
          go_ret
          exact ⟨rfl, below_drewN HB.out _⟩
      · exfalso
        apply HN.out
        apply List.ext_getElem HL.out.symm
        intro j h1 h2
        have := HE.out j (by omega)
        simpa [List.getD_eq_getElem?_getD, h1, h2] using this
  · obtain ⟨a1, c1, rfl⟩ := h1.shape
    obtain ⟨a2, c2, rfl⟩ := h2.shape
    have hni : ¬ (zs.length : Int) = (ys.length : Int) := by omega
    clear h1 h2 hne hle
    go_enter Tryd.func30, Tryd.ntmps30
    go_wp2
    go_ret
    exact ⟨rfl, Below.refl _ _⟩

set_option maxHeartbeats 2000000 in
theorem lnRec_no (k t k' t' : Int) (v1 v2 : Value) (zs ys : List Int) (w : World) (h1 : Ints w v1 zs) (h2 : Ints w v2 ys) (hl : zs.length ≤ 1048576) (hl2 : ys.length ≤ 1048576) (hne : ¬ (k = k' ∧ t = t' ∧ zs = ys)) :
    Calls Tryd.prog 12 #[.agg #[.int .i64 k, .int .i64 t, v1], .agg #[.int .i64 k', .int .i64 t', v2]] w fun e w' => e = .returned (.bool false) ∧ Below w.heap.size w w' := by
  have HV1 : Hid (∀ W, Below w.heap.size w W → Ints W v1 zs) := fun W h => h1.later h (Nat.le_refl _)
  have HV2 : Hid (∀ W, Below w.heap.size w W → Ints W v2 ys) := fun W h => h2.later h (Nat.le_refl _)
  obtain ⟨a1, c1, rfl⟩ := h1.shape
  obtain ⟨a2, c2, rfl⟩ := h2.shape
  clear h1 h2
  by_cases hk : k = k'
  · subst hk
    by_cases ht : t = t'
    · subst ht
      have hzy : zs ≠ ys := fun e => hne ⟨rfl, rfl, e⟩
      clear hne
      go_enter Tryd.func12, Tryd.ntmps12
      go_wp2_with fail
      refine (lnInts_no _ _ zs ys _ (HV1.out _ (below2 w _ _)) (HV2.out _ (below2 w _ _)) hl hl2 hzy).mono ?_
      rintro e w1 ⟨rfl, hb1⟩
      have B1 := hidden ((below2 w _ _).trans (hb1.mono (by simp; omega)))
      clear hb1
      go_wp2
      go_ret
      exact ⟨rfl, B1.out⟩
    · have e1 : (t == t') = false := by simpa using ht
      clear hne
      go_enter Tryd.func12, Tryd.ntmps12
      go_wp2
      go_ret
      exact ⟨rfl, below2 w _ _⟩
  · have e1 : (k == k') = false := by simpa using hk
    clear hne
    go_enter Tryd.func12, Tryd.ntmps12
    go_wp2
    go_ret
    exact ⟨rfl, below2 w _ _⟩

end Go.Proofs.YtfpjohbcbflnhaaDoor
