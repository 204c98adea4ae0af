/- FnTripsKept answers true whatever the code, and it reads afterwards as it read before: promise 48 at all drawn records. The card: the sentinel's variable starts as the program's text lays it. -/
import Derived.Test.YtickjfpbaknlmaaDoorRows
import Derived.Test.YtickjfpbaknlmaaDoorDGood
import Derived.ProofKit
import Derived.OpenShut
import Derived.Lib.SmallJoins
import Derived.Test.YtickjfpbaknlmaaDoorTPure
import Derived.Test.YtickjfpbaknlmaaDoorDTripsOf
import Derived.Test.YtickjfpbaknlmaaDoorTLn
import Derived.Test.YtickjfpbaknlmaaDoorFrame

namespace Go.Proofs.YtickjfpbaknlmaaDoor
open Go.ChangeShapes Go.WideShapes Go.ChangeAt Go.WideMaps Go.WideElems Go.RowKit Go.Joins

theorem cellsByte : Tryd.prog.cellsOf 5 = 1 := by kernel_rfl

theorem u8_bd {z : Int} (h : (Lit.int .u8 z).wf = true) : 0 ≤ z ∧ z ≤ 255 := by
  simp only [Lit.wf, Bool.and_eq_true, decide_eq_true_eq] at h
  have h0 : IntKind.min .u8 = 0 := by decide
  have h1 : IntKind.max .u8 = 255 := by decide
  omega

section
variable {H : Type} {enc : TypeId × Value → H} {W : World}

set_option maxRecDepth 100000 in
/-- A code that came in. -/
theorem open_code {base : Nat} {v : Value} {d : DataW H} {p : List MemPlace} (hval : Value.okWide Tryd.prog W .any base 22 v) (h : DataW.Trod enc Tryd.prog W 0 (fun _ => true) true 22 v d p) :
    ∃ n, CodeAt W v n ∧ (n : Int) ≤ 9223372036854775807 := by
  obtain ⟨ao, n, cap, rfl⟩ := okWide_slice Tryd.underlying22 hval
  obtain ⟨fuel, hf⟩ := h
  have hf' : DataW.trod enc Tryd.prog W 0 (fun _ => true) true fuel 22 [.slice ao n cap] = some (d, p) := hf
  rcases open_ints Tryd.underlying22 Tryd.underlying5 cellsByte hf' with ⟨hcs, hx⟩ | ⟨a, len, cap', zs, hcs, _, hl, hm, hz, hx, hcell, hwz⟩
  · simp at hcs
    obtain ⟨rfl, rfl, rfl⟩ := hcs
    exact ⟨0, ⟨none, 0, rfl, Nat.le_refl _, fun h => absurd rfl h⟩, by simp⟩
  · simp at hcs
    obtain ⟨rfl, rfl, rfl⟩ := hcs
    simp only [if_pos] at hz
    refine ⟨n, ⟨some a, cap, rfl, hl, fun hn => ?_⟩, by unfold maxLen at hm; omega⟩
    obtain ⟨b, off, rfl, hc⟩ := ints_at hcell (by omega)
    refine ⟨b, off, rfl, fun k hk => ⟨zs.getD k 0, hc k (by omega), ?_⟩⟩
    have hkz : k < zs.length := by omega
    have hmem : zs.getD k 0 ∈ zs := by simp [List.getD_eq_getElem?_getD, hkz]
    exact u8_bd (hwz _ hmem)

end
end Go.Proofs.YtickjfpbaknlmaaDoor

namespace Go.Proofs.YtickjfpbaknlmaaDoor.T
open Go.RowKit

/-- How many records of a kind came to a trip. -/
def cnt (qs : List Rc) (t k : Int) : Nat := (qs.filter fun q => q.2.1 == t && q.1 == k).length
theorem cnt_nil (t k : Int) : cnt [] t k = 0 := rfl
theorem cnt_snoc (qs : List Rc) (r : Rc) (t k : Int) : cnt (qs ++ [r]) t k = cnt qs t k + (if r.2.1 = t ∧ r.1 = k then 1 else 0) := by
  unfold cnt
  rw [List.filter_append, List.length_append]
  by_cases h : r.2.1 = t ∧ r.1 = k
  · rw [if_pos h]; simp [h.1, h.2]
  · rw [if_neg h]
    have : (r.2.1 == t && r.1 == k) = false := by
      by_cases h1 : r.2.1 = t
      · have h2 : ¬ r.1 = k := fun e => h ⟨h1, e⟩
        simp [h2]
      · simp [h1]
    simp [this]
theorem cnt_le (qs : List Rc) (t k : Int) : cnt qs t k ≤ qs.length := List.length_filter_le _ _

/-- A state, by how many yes, no and end came. -/
def Fits (s : Int) (y n e : Nat) : Prop := (s = 1 ∧ y = 0 ∧ n = 0 ∧ e = 0) ∨ (s = 2 ∧ y = 1 ∧ n = 0 ∧ e = 0) ∨ (s = 3 ∧ y = 0 ∧ n = 1 ∧ e = 0) ∨ (s = 4 ∧ y = 1 ∧ n = 0 ∧ e = 1) ∨ (s = 5 ∧ y = 0 ∧ n = 1 ∧ e = 1)

def Told (qs : List Rc) (rs : List R) : Prop :=
  (∀ (i : Nat) (x : R), rs[i]? = some x → Fits x.2 (cnt qs ((i : Int) + 1) 5) (cnt qs ((i : Int) + 1) 6) (cnt qs ((i : Int) + 1) 7)) ∧
  (∀ t : Int, (rs.length : Int) < t → cnt qs t 5 = 0 ∧ cnt qs t 6 = 0 ∧ cnt qs t 7 = 0)

theorem Told.nil : Told [] [] := ⟨fun i x h => by simp at h, fun t _ => ⟨rfl, rfl, rfl⟩⟩

theorem Told.step {qs : List Rc} {rs : List R} {r : Rc} (h : Told qs rs) (h1 : rOk r = true) (h2 : mayL rs r = true) : Told (qs ++ [r]) (doL rs r) := by
  obtain ⟨k, t, zs⟩ := r
  obtain ⟨ht1, ht6⟩ := rOk_trip h1
  dsimp only at ht1 ht6
  by_cases h4 : k = 4
  · subst h4
    have same : ∀ (t' k' : Int), k' ≠ 4 → cnt (qs ++ [(4, t, zs)]) t' k' = cnt qs t' k' := fun t' k' hk => by
      rw [cnt_snoc, if_neg (fun e => hk e.2.symm)]; rfl
    rw [show doL rs (4, t, zs) = rs ++ [(zs, 1)] by unfold doL; rw [if_pos rfl]]
    refine ⟨fun i x hx => ?_, fun t' ht' => ?_⟩
    · rw [same _ _ (by decide), same _ _ (by decide), same _ _ (by decide)]
      by_cases hi : i < rs.length
      · rw [List.getElem?_append_left hi] at hx
        exact h.1 i x hx
      · rw [List.getElem?_append_right (by omega)] at hx
        have h0 : i - rs.length = 0 := by
          by_cases e : i - rs.length = 0
          · exact e
          · rw [List.getElem?_eq_none (by simp; omega)] at hx; cases hx
        rw [h0] at hx
        simp at hx
        subst hx
        obtain ⟨a, b, c⟩ := h.2 ((i : Int) + 1) (by omega)
        exact Or.inl ⟨rfl, a, b, c⟩
    · rw [same _ _ (by decide), same _ _ (by decide), same _ _ (by decide)]
      simp at ht'
      exact h.2 t' (by omega)
  · obtain ⟨x, hx⟩ := mayL_at h2 h4
    dsimp only at hx
    have hil : (t - 1).toNat < rs.length := by
      by_cases e : (t - 1).toNat < rs.length
      · exact e
      · rw [List.getElem?_eq_none (by omega)] at hx; cases hx
    have hn : nextS x.2 k ≠ 0 := by
      unfold mayL at h2
      rw [if_neg h4] at h2
      dsimp only at h2
      rw [tripAt_get hx] at h2
      simpa using h2
    have hd : doL rs (k, t, zs) = rs.set (t - 1).toNat (x.1, nextS x.2 k) := by
      unfold doL
      rw [if_neg h4]
      dsimp only
      rw [tripAt_get hx]
    rw [hd]
    have hF := h.1 _ x hx
    rw [show ((((t - 1).toNat : Nat) : Int) + 1) = t by omega] at hF
    have far : ∀ t' k' : Int, t' ≠ t → cnt (qs ++ [(k, t, zs)]) t' k' = cnt qs t' k' := fun t' k' ht => by
      rw [cnt_snoc, if_neg (fun e => ht e.1.symm)]; rfl
    have near : ∀ k' : Int, cnt (qs ++ [(k, t, zs)]) t k' = cnt qs t k' + (if k = k' then 1 else 0) := fun k' => by
      rw [cnt_snoc]; simp
    refine ⟨fun i y hy => ?_, fun t' ht' => ?_⟩
    · by_cases hi : (t - 1).toNat = i
      · subst hi
        rw [List.getElem?_set, if_pos rfl, if_pos hil] at hy
        simp at hy
        subst hy
        rw [show ((((t - 1).toNat : Nat) : Int) + 1) = t by omega, near, near, near]
        dsimp only
        unfold nextS at hn ⊢
        by_cases c5 : k = 5 ∧ x.2 = 1
        · rw [if_pos c5]
          obtain ⟨rfl, hs⟩ := c5
          rcases hF with f | f | f | f | f <;> simp_all [Fits]
        rw [if_neg c5] at hn ⊢
        by_cases c6 : k = 6 ∧ x.2 = 1
        · rw [if_pos c6]
          obtain ⟨rfl, hs⟩ := c6
          rcases hF with f | f | f | f | f <;> simp_all [Fits]
        rw [if_neg c6] at hn ⊢
        by_cases c7 : k = 7 ∧ x.2 = 2
        · rw [if_pos c7]
          obtain ⟨rfl, hs⟩ := c7
          rcases hF with f | f | f | f | f <;> simp_all [Fits]
        rw [if_neg c7] at hn ⊢
        by_cases c8 : k = 7 ∧ x.2 = 3
        · rw [if_pos c8]
          obtain ⟨rfl, hs⟩ := c8
          rcases hF with f | f | f | f | f <;> simp_all [Fits]
        rw [if_neg c8] at hn
        exact absurd rfl hn
      · rw [List.getElem?_set, if_neg hi] at hy
        rw [far _ _ (by omega), far _ _ (by omega), far _ _ (by omega)]
        exact h.1 i y hy
    · rw [List.length_set] at ht'
      rw [far _ _ (by omega), far _ _ (by omega), far _ _ (by omega)]
      exact h.2 t' ht'

theorem runT_told {qs : List Rc} {rs : List R} (h : runT qs = some rs) : Told qs rs := by
  have key : ∀ k, k ≤ qs.length → ∀ rs, runT (qs.take k) = some rs → Told (qs.take k) rs := by
    intro k
    induction k with
    | zero => intro _ rs h; rw [List.take_zero, runT_nil] at h; cases h; exact Told.nil
    | succ k ih =>
      intro hk rs h
      have hg : qs[k]? = some qs[k] := List.getElem?_eq_getElem (by omega)
      rw [take_snoc hg, runT_snoc] at h
      cases hr : runT (qs.take k) with
      | none => rw [hr] at h; cases h
      | some xs =>
        rw [hr] at h
        have h' : stepT xs qs[k] = some rs := h
        unfold stepT at h'
        split at h'
        · next hb =>
          simp only [Option.some.injEq] at h'
          subst h'
          simp only [Bool.and_eq_true] at hb
          rw [take_snoc hg]
          exact (ih (by omega) xs hr).step hb.1 hb.2
        · cases h'
  have := key qs.length (Nat.le_refl _) rs (by rw [List.take_length]; exact h)
  rw [List.take_length] at this
  exact this

end Go.Proofs.YtickjfpbaknlmaaDoor.T

namespace Go.Proofs.YtickjfpbaknlmaaDoor
open Go.RowKit

set_option maxRecDepth 100000 in
set_option maxHeartbeats 8000000 in
theorem lawP48_small (v : Value) (n : Nat) (a : Addr) (w : World) (hv : CodeAt w v n) (hn : n ≤ 1048576) (ha : ErrAt w a) :
    Calls Tryd.prog 4 #[v] w fun e w' => e = .returned (.bool true) ∧ Below w.heap.size w w' := by
  have HO := hide_it (drawTOf_any v n w hv hn)
  have HAe : Hid (∀ W, Below w.heap.size w W → ErrAt W a) := fun W h => ha.later h (Nat.le_refl _)
  obtain ⟨ao, cap, rfl, _⟩ := hv
  clear ha
  have hni : ¬ (1048576 : Int) < (n : Int) := by omega
  go_enter Tryd.func4, Tryd.ntmps4
  go_wp2_with fail
  refine HO.out.mono ?_
  rintro e w1 ⟨o, qs, rfl, hq, hR, hb1⟩
  have B1 := hide_it hb1
  have HR : Hid (∀ W, Below w1.heap.size w1 W → Recs W o qs) := fun W h => hR.later h (Nat.le_refl _)
  obtain ⟨oa, oc, hos⟩ := hR.shape
  subst hos
  have hql := tot_len qs
  clear hR hb1
  have FT := (T.ofO_fit qs).tot
  have FL := (T.ofO_fit qs).1
  obtain ⟨OO, hOO⟩ : ∃ x, T.ofO qs = x := ⟨_, rfl⟩
  obtain ⟨BB, hBB⟩ : ∃ x, (T.runT qs).isSome = x := ⟨_, rfl⟩
  have HSP : Hid (∀ (u : Value) (W : World), Recs W u qs → Calls Tryd.prog 15 #[u] W fun e w' => T.TrOut W w' e OO BB) := fun u W h => by
    have := T.specOf_any u qs W h (by omega)
    rw [hOO, hBB] at this; exact this
  have HIM : Hid (∀ (u : Value) (W : World), Recs W u qs → Below w.heap.size w W → Calls Tryd.prog 16 #[u] W fun e w' => T.TrOut W w' e OO BB) := fun u W h hb => by
    have := T.implOf_any u qs a W h (by omega) (HAe.out W hb)
    rw [hOO, hBB] at this; exact this
  have HRUN : Hid (BB = true → T.runT qs = some OO) := fun h => by
    rw [← hBB] at h
    rw [← hOO]
    unfold T.ofO
    cases hr : T.runT qs with
    | none => rw [hr] at h; cases h
    | some x => rfl
  rw [hOO] at FT FL
  clear hOO hBB
  go_wp2_with fail
  refine (HSP.out _ w1 (HR.out _ (Below.refl _ _))).mono ?_
  rintro e w2 ⟨a2, c2, rfl, hm2, hb2⟩
  have E2 := hide_it hb2
  have B2 := hide_it (B1.out.trans (hb2.mono B1.out.size))
  have M2 := hide_it hm2.recs
  clear hm2 hb2
  go_wp2_with fail
  refine (HIM.out _ w2 (HR.out _ E2.out) B2.out).mono ?_
  rintro e w3 ⟨a3, c3, rfl, hm3, hb3⟩
  have E3 := hide_it (E2.out.trans (hb3.mono E2.out.size))
  have B3 := hide_it (B2.out.trans (hb3.mono B2.out.size))
  have M3 := hide_it hm3.recs
  have W3 := hide_it (M2.out.later hb3 (Nat.le_refl _))
  clear hm3 hb3
  cases BB
  · go_wp2_with fail
    refine (lnTrips_any _ _ OO w3 M3.out W3.out FT).mono ?_
    rintro e w4 ⟨rfl, hb4⟩
    have B4 := hide_it (B3.out.trans (hb4.mono B3.out.size))
    have M4 := hide_it (M3.out.later hb4 (Nat.le_refl _))
    have W4 := hide_it (W3.out.later hb4 (Nat.le_refl _))
    clear hb4
    go_wp2_with fail
    refine (lnTrips_any _ _ OO w4 M4.out W4.out FT).mono ?_
    rintro e w5 ⟨rfl, hb5⟩
    have B5 := hide_it (B4.out.trans (hb5.mono B4.out.size))
    clear hb5
    go_wp2
    go_ret
    exact ⟨rfl, B5.out⟩
  have TOLD := hide_it (T.runT_told (HRUN.out rfl))
  go_wp2_with fail
  refine (lnTrips_any _ _ OO w3 M3.out W3.out FT).mono ?_
  rintro e w4 ⟨rfl, hb4⟩
  have E4 := hide_it (E3.out.trans (hb4.mono E3.out.size))
  have B4 := hide_it (B3.out.trans (hb4.mono B3.out.size))
  have M4 := hide_it (M3.out.later hb4 (Nat.le_refl _))
  have Q4 := hide_it (HR.out _ E4.out)
  clear hb4
  go_wp2
  go_loop [8] (fun i => ∃ t : Nat, t ≤ OO.length ∧ i = .int .i64 ((t : Int) + 1)) (fun i => OO.length + 1 - (intOf i).toNat)
  case atStart => exact ⟨0, Nat.zero_le _, rfl⟩
  case round =>
    obtain ⟨t, ht, rfl⟩ := hrel
    by_cases hlt : t < OO.length
    · obtain ⟨x, hx⟩ : ∃ x, Hid (OO[t]? = some x) := ⟨OO[t], by show _ = _; simp [hlt]⟩
      have hle : (t : Int) + 1 ≤ (OO.length : Int) := by omega
      rcases M4.out with ⟨h0, _⟩ | ⟨gb, goff, gcap, gv, _, gc⟩
      · rw [h0] at hlt; simp at hlt
      simp only [Value.slice.injEq] at gv
      obtain ⟨rfl, -, rfl⟩ := gv
      obtain ⟨gu, g0, g1, -⟩ := gc t x hx.out
      have FITS := hide_it (TOLD.out.1 t x hx.out)
      clear gc g0
      go_wp2
      go_loop [9, 10, 11, 12] (fun y z e i => ∃ j : Nat, j ≤ qs.length ∧ i = .int .i64 j ∧ y = .int .i64 (T.cnt (qs.take j) ((t : Int) + 1) 5) ∧ z = .int .i64 (T.cnt (qs.take j) ((t : Int) + 1) 6) ∧ e = .int .i64 (T.cnt (qs.take j) ((t : Int) + 1) 7)) (fun _ _ _ i => qs.length - (intOf i).toNat)
      case atStart => exact ⟨0, Nat.zero_le _, rfl, rfl, rfl, rfl⟩
      case round =>
        obtain ⟨j, hj, rfl, rfl, rfl, rfl⟩ := hrel
        by_cases hjl : j < qs.length
        · obtain ⟨q, hqj⟩ : ∃ q, Hid (qs[j]? = some q) := ⟨qs[j], by show _ = _; simp [hjl]⟩
          rcases Q4.out with ⟨h0, _⟩ | ⟨rb, roff, rcap, rv, _, rc⟩
          · rw [h0] at hjl; simp at hjl
          simp only [Value.slice.injEq] at rv
          obtain ⟨rfl, -, rfl⟩ := rv
          obtain ⟨ru, r0, r1, -, -⟩ := rc j q hqj.out
          have SN : Hid (∀ k : Int, T.cnt (qs.take (j + 1)) ((t : Int) + 1) k = T.cnt (qs.take j) ((t : Int) + 1) k + (if q.2.1 = (t : Int) + 1 ∧ q.1 = k then 1 else 0)) := fun k => by
            rw [T.take_snoc hqj.out, T.cnt_snoc]
          have L5 := T.cnt_le (qs.take j) ((t : Int) + 1) 5
          have L6 := T.cnt_le (qs.take j) ((t : Int) + 1) 6
          have L7 := T.cnt_le (qs.take j) ((t : Int) + 1) 7
          rw [List.length_take] at L5 L6 L7
          obtain ⟨Y, hY⟩ : ∃ Y, T.cnt (qs.take j) ((t : Int) + 1) 5 = Y := ⟨_, rfl⟩
          obtain ⟨Z, hZ⟩ : ∃ Z, T.cnt (qs.take j) ((t : Int) + 1) 6 = Z := ⟨_, rfl⟩
          obtain ⟨E, hE⟩ : ∃ E, T.cnt (qs.take j) ((t : Int) + 1) 7 = E := ⟨_, rfl⟩
          have HY := hide_it hY
          have HZ := hide_it hZ
          have HE := hide_it hE
          rw [hY, hZ, hE]
          rw [hY] at L5
          rw [hZ] at L6
          rw [hE] at L7
          have l5 : Y ≤ 1000 := by omega
          have l6 : Z ≤ 1000 := by omega
          have l7 : E ≤ 1000 := by omega
          clear rc hY hZ hE L5 L6 L7
          by_cases htr : q.2.1 = (t : Int) + 1
          · by_cases k5 : q.1 = 5
            · rw [htr] at r1
              rw [k5] at r0
              have S5 : Hid (T.cnt (qs.take (j + 1)) ((t : Int) + 1) 5 = Y + 1 ∧ T.cnt (qs.take (j + 1)) ((t : Int) + 1) 6 = Z ∧ T.cnt (qs.take (j + 1)) ((t : Int) + 1) 7 = E) := by
                refine ⟨?_, ?_, ?_⟩ <;> (rw [SN.out]; simp [htr, k5, HY.out, HZ.out, HE.out])
              clear htr k5
              go_wp2
              go_round
              case rel => exact ⟨j + 1, by omega, by go_num, by rw [S5.out.1]; go_num, by rw [S5.out.2.1], by rw [S5.out.2.2]⟩
              case measure => simp [intOf]; omega
            by_cases k6 : q.1 = 6
            · rw [htr] at r1
              rw [k6] at r0
              have S5 : Hid (T.cnt (qs.take (j + 1)) ((t : Int) + 1) 5 = Y ∧ T.cnt (qs.take (j + 1)) ((t : Int) + 1) 6 = Z + 1 ∧ T.cnt (qs.take (j + 1)) ((t : Int) + 1) 7 = E) := by
                refine ⟨?_, ?_, ?_⟩ <;> (rw [SN.out]; simp [htr, k6, HY.out, HZ.out, HE.out])
              clear htr k5 k6
              go_wp2
              go_round
              case rel => exact ⟨j + 1, by omega, by go_num, by rw [S5.out.1], by rw [S5.out.2.1]; go_num, by rw [S5.out.2.2]⟩
              case measure => simp [intOf]; omega
            by_cases k7 : q.1 = 7
            · rw [htr] at r1
              rw [k7] at r0
              have S5 : Hid (T.cnt (qs.take (j + 1)) ((t : Int) + 1) 5 = Y ∧ T.cnt (qs.take (j + 1)) ((t : Int) + 1) 6 = Z ∧ T.cnt (qs.take (j + 1)) ((t : Int) + 1) 7 = E + 1) := by
                refine ⟨?_, ?_, ?_⟩ <;> (rw [SN.out]; simp [htr, k7, HY.out, HZ.out, HE.out])
              clear htr k5 k6 k7
              go_wp2
              go_round
              case rel => exact ⟨j + 1, by omega, by go_num, by rw [S5.out.1], by rw [S5.out.2.1], by rw [S5.out.2.2]; go_num⟩
              case measure => simp [intOf]; omega
            · rw [htr] at r1
              have S5 : Hid (T.cnt (qs.take (j + 1)) ((t : Int) + 1) 5 = Y ∧ T.cnt (qs.take (j + 1)) ((t : Int) + 1) 6 = Z ∧ T.cnt (qs.take (j + 1)) ((t : Int) + 1) 7 = E) := by
                refine ⟨?_, ?_, ?_⟩ <;> (rw [SN.out]; simp [k5, k6, k7, HY.out, HZ.out, HE.out])
              have b5 : (q.1 == 5) = false := by simp [k5]
              have b6 : (q.1 == 6) = false := by simp [k6]
              have b7 : (q.1 == 7) = false := by simp [k7]
              clear htr
              go_wp2
              go_round
              case rel => exact ⟨j + 1, by omega, by go_num, by rw [S5.out.1], by rw [S5.out.2.1], by rw [S5.out.2.2]⟩
              case measure => simp [intOf]; omega
          · have S5 : Hid (T.cnt (qs.take (j + 1)) ((t : Int) + 1) 5 = Y ∧ T.cnt (qs.take (j + 1)) ((t : Int) + 1) 6 = Z ∧ T.cnt (qs.take (j + 1)) ((t : Int) + 1) 7 = E) := by
              refine ⟨?_, ?_, ?_⟩ <;> (rw [SN.out]; simp [htr, HY.out, HZ.out, HE.out])
            go_wp2
            go_round
            case rel => exact ⟨j + 1, by omega, by go_num, by rw [S5.out.1], by rw [S5.out.2.1], by rw [S5.out.2.2]⟩
            case measure => simp [intOf]; omega
        · have hje : Hid (j = qs.length) := by show _ = _; omega
          have FQ := FITS.out
          rw [hje.out, List.take_length]
          have hjl' : ¬ ((qs.length : Int) < (qs.length : Int)) := by omega
          rcases FQ with ⟨f1, f2, f3, f4⟩ | ⟨f1, f2, f3, f4⟩ | ⟨f1, f2, f3, f4⟩ | ⟨f1, f2, f3, f4⟩ | ⟨f1, f2, f3, f4⟩
          all_goals
            rw [f2, f3, f4]
            rw [f1] at g1
            clear f1 f2 f3 f4
            go_wp2
            go_round
            case rel => exact ⟨t + 1, by omega, by go_num⟩
            case measure => simp [intOf]; omega
    · have hte : ¬ (t : Int) + 1 ≤ (OO.length : Int) := by omega
      go_wp2
      go_ret
      exact ⟨rfl, B4.out⟩

end Go.Proofs.YtickjfpbaknlmaaDoor

namespace Go.Proofs.YtickjfpbaknlmaaDoor
open Go.ChangeShapes Go.WideShapes Go.ChangeAt Go.WideMaps Go.WideElems Go.RowKit Go.Joins

set_option maxHeartbeats 1000000 in
theorem lawP48_great (ac : Option Addr) (nc cc : Nat) (w : World) (h : 1048576 < (nc : Int)) :
    Calls Tryd.prog 4 #[.slice ac nc cc] w fun e w' => e = .returned (.bool true) ∧ Below w.heap.size w w' := by
  go_enter Tryd.func4, Tryd.ntmps4
  go_wp2
  go_ret
  exact ⟨rfl, Below.refl _ _⟩

theorem lawP48_any (vc : Value) (nc : Nat) (a : Addr) (w : World) (hc : CodeAt w vc nc) (ha : ErrAt w a) :
    Calls Tryd.prog 4 #[vc] w fun e w' => e = .returned (.bool true) ∧ Below w.heap.size w w' := by
  by_cases h1 : nc ≤ 1048576
  · exact lawP48_small vc nc a w hc h1 ha
  · obtain ⟨ac, cc, rfl, _⟩ := hc
    exact lawP48_great ac nc cc w (by omega)

set_option maxRecDepth 100000 in
theorem p48_lifted (os : Os) (started : os.Started) (H : Type) (enc : TypeId × Value → H) :
    ReturnsInHanded {} Tryd.checked os 4 .any (fun w args => (Rows.fnTripsKeptSpec.pre enc Tryd.prog Tryd.f4 [] false w args ∧ laidMetH Tryd.prog laidErr w) ∧ sizedMet enc Tryd.prog Tryd.f4 (OpenSpec.ofChange Rows.fnTripsKeptSpec) false w args)
      (Rows.fnTripsKeptSpec.post enc Tryd.prog Tryd.f4 false true false false) := by
  refine returnsInHanded_of_change_and (C := Tryd.checked) (X := fun w _ => laidMetH Tryd.prog laidErr w) (fun _ _ _ hh h => h.of_heap hh) own started (by kernel_rfl) Tryd.func4
    (ChangeSpec.witness_shaped (enc := enc) (C := Tryd.checked) (os := os) (X := fun w _ => laidMetH Tryd.prog laidErr w) false (World.doorLaid Tryd.prog 28 os) #[.slice none 0 0] 8 rfl (World.shaped_of_RefB (by kernel_rfl) (by kernel_rfl)) (by kernel_rfl) (by kernel_rfl) (by kernel_rfl) (door_met os _)) ?_
  intro W base args ds gs before hval0 hW _ _ hL _
  have hval : ∀ (j : Nat) t v, Tryd.f4.params[j]? = some t → args[j]? = some v → Value.okWide Tryd.prog W .any base t v := hval0
  have hW' := hW
  obtain ⟨p, q, hA0, hV0, rfl, hfz, hnd⟩ := hW
  have hA : DataW.TrodAll enc Tryd.prog W 0 (fun _ => true) true Tryd.f4.params.toList args.toList ds p := hA0
  have hV : DataW.TrodVars enc Tryd.prog W (fun _ => true) ["loop.example/concierge/impl.errNoRec"] gs q := hV0
  rw [Tryd.params4] at hA hval
  obtain ⟨v0, d0, rfl, rfl, h0⟩ := trodAll_one hA
  obtain ⟨a, hErr, hvar⟩ := of_laid hL
  have vr : ∀ {X : World}, X.var? Tryd.prog "loop.example/concierge/impl.errNoRec" = some #[.iface 101 (.pointer (some a))] → ∀ sp : Nat → Bool,
      DataW.TrodVars enc Tryd.prog X sp ["loop.example/concierge/impl.errNoRec"] [tok enc (.iface 101 (.pointer (some a)))] [.cell 0 0] :=
    fun x0 sp => vars_read1 enc gErr gErrType Tryd.underlying73 x0 trivial sp
  obtain ⟨rfl, rfl⟩ := hV.unique (vr hvar _)
  clear hA0 hV0 hval0
  obtain ⟨nc, hC, _⟩ := open_code (hval 0 22 v0 rfl rfl) h0
  refine (lawP48_any v0 nc a W hC hErr).mono fun e W' ⟨he, hb⟩ => ?_
  subst he
  have hlt : ∀ x ∈ p, x.block < W.heap.size := fun x hx => hW'.lt x (by simp [hx])
  refine ⟨_, rfl, _, _, _, [], p, [.cell 0 0], hW', ?_, ?_, ?_, hb.frame _, fun h => by cases h⟩
  · exact trodAll_mk1 (shut_bool Tryd.underlying4 true)
  · exact trodAll_mk1 (Below.trod laidOut (by kernel_rfl) (of_decide_eq_true (by kernel_rfl)) h0 hb hlt)
  · exact vr (var?_below hb gErr (World.block_lt_of_cell? _ _ hErr) hvar) _

theorem p48_said : Rows.FnTripsKeptSaid :=
  OpenClaim.holds_of_wide 4 Tryd.f4 rfl rfl rfl rfl rfl rfl rfl ⟨rfl, rfl, rfl, rfl, rfl⟩ rfl rfl rfl rfl rfl (by kernel_rfl) Tryd.func4 (by kernel_rfl)
    (of_decide_eq_true (by kernel_rfl)) (by unfold Func.isWrapper; first | (rw [if_pos (by decide +kernel)]; kernel_rfl) | (rw [if_neg (by decide +kernel)]; exact ⟨rfl, rfl⟩))
    (fun os started H enc _ => p48_lifted os started H enc)

theorem p48_plain (f : FuncId) (fn : Func) (hf : Tryd.pinned.checked.prog.funcNamed "loop.example/concierge/laws.FnTripsKept" = some f) (hfn : Tryd.pinned.checked.prog.funcs[f]? = some fn) :
    true = Tryd.pinned.checked.prog.looks [] ∧ ∀ (j : Nat) t, fn.params[j]? = some t → Tryd.pinned.checked.prog.wantsStandIn t = false := by
  obtain rfl : f = 4 := Option.some.inj ((show Tryd.prog.funcNamed "loop.example/concierge/laws.FnTripsKept" = some 4 by kernel_rfl).symm.trans hf) |>.symm
  obtain rfl : fn = Tryd.f4 := (Option.some.inj (Tryd.func4.symm.trans hfn)).symm
  refine ⟨by kernel_rfl, fun j t ht => ?_⟩
  rw [Tryd.params4] at ht
  obtain rfl : t = 22 := by simpa using Array.mem_of_getElem? ht
  exact (show Tryd.prog.wantsStandIn 22 = false by kernel_rfl)

theorem p48_card : Rows.FnTripsKeptCardSaid :=
  Claim7.holds_tied_plain_at .later [] _ _ _ _ p48_said (fun _ h => by cases h) (by kernel_rfl) (fun _ h => by cases h) fnTripsKept_row_tie rfl ⟨rfl, rfl⟩ (by kernel_rfl) rfl p48_plain (by kernel_rfl)
#print axioms p48_card

end Go.Proofs.YtickjfpbaknlmaaDoor
