/- FnTripsOf answers true whatever the codes, and they read afterwards as they read before: promise 47 at all drawn records. The card: the sentinel's variable starts as the program's text lays it. -/
import Derived.Test.YtickjfpbaknlmaaDoorRows
import Derived.Test.YtickjfpbaknlmaaDoorDGood
import Derived.ProofKit
import Derived.OpenShut
import Derived.Lib.SmallJoins
import Derived.Test.YtickjfpbaknlmaaDoorSLog
import Derived.Test.YtickjfpbaknlmaaDoorDTrips
import Derived.Test.YtickjfpbaknlmaaDoorDRec
import Derived.Test.YtickjfpbaknlmaaDoorTSpec
import Derived.Test.YtickjfpbaknlmaaDoorTLn
import Derived.Test.YtickjfpbaknlmaaDoorFrame

namespace Go.Proofs.YtickjfpbaknlmaaDoor
open Go.ChangeShapes Go.WideShapes Go.ChangeAt Go.WideMaps Go.WideElems Go.RowKit Go.Joins

theorem cellsByte : Tryd.prog.cellsOf 5 = 1 := by kernel_rfl

theorem u8_bd {z : Int} (h : (Lit.int .u8 z).wf = true) : 0 ≤ z ∧ z ≤ 255 := by
  simp only [Lit.wf, Bool.and_eq_true, decide_eq_true_eq] at h
  have h0 : IntKind.min .u8 = 0 := by decide
  have h1 : IntKind.max .u8 = 255 := by decide
  omega

section
variable {H : Type} {enc : TypeId × Value → H} {W : World}

set_option maxRecDepth 100000 in
/-- A code that came in. -/
theorem open_code {base : Nat} {v : Value} {d : DataW H} {p : List MemPlace} (hval : Value.okWide Tryd.prog W .any base 22 v) (h : DataW.Trod enc Tryd.prog W 0 (fun _ => true) true 22 v d p) :
    ∃ n, CodeAt W v n ∧ (n : Int) ≤ 9223372036854775807 := by
  obtain ⟨ao, n, cap, rfl⟩ := okWide_slice Tryd.underlying22 hval
  obtain ⟨fuel, hf⟩ := h
  have hf' : DataW.trod enc Tryd.prog W 0 (fun _ => true) true fuel 22 [.slice ao n cap] = some (d, p) := hf
  rcases open_ints Tryd.underlying22 Tryd.underlying5 cellsByte hf' with ⟨hcs, hx⟩ | ⟨a, len, cap', zs, hcs, _, hl, hm, hz, hx, hcell, hwz⟩
  · simp at hcs
    obtain ⟨rfl, rfl, rfl⟩ := hcs
    exact ⟨0, ⟨none, 0, rfl, Nat.le_refl _, fun h => absurd rfl h⟩, by simp⟩
  · simp at hcs
    obtain ⟨rfl, rfl, rfl⟩ := hcs
    simp only [if_pos] at hz
    refine ⟨n, ⟨some a, cap, rfl, hl, fun hn => ?_⟩, by unfold maxLen at hm; omega⟩
    obtain ⟨b, off, rfl, hc⟩ := ints_at hcell (by omega)
    refine ⟨b, off, rfl, fun k hk => ⟨zs.getD k 0, hc k (by omega), ?_⟩⟩
    have hkz : k < zs.length := by omega
    have hmem : zs.getD k 0 ∈ zs := by simp [List.getD_eq_getElem?_getD, hkz]
    exact u8_bd (hwz _ hmem)

end
end Go.Proofs.YtickjfpbaknlmaaDoor

namespace Go.Proofs.YtickjfpbaknlmaaDoor
open Go.RowKit

theorem frozenAlloc {w : World} {b o : Nat} (h : w.frozen? ⟨b, o, none⟩ = false) (hb : b < w.heap.size) (x : Obj) : (w.alloc x).frozen? ⟨b, o, none⟩ = false := by
  rw [← h]
  exact ((Below.refl w.heap.size w).alloc (Nat.le_refl _) x).frozen (p := ⟨b, o, none⟩) hb

end Go.Proofs.YtickjfpbaknlmaaDoor

namespace Go.Proofs.YtickjfpbaknlmaaDoor
open Go.RowKit

/-- How many are left behind a fall. -/
def fallN (n : Nat) (f keep : Int) : Nat := (if keep ≤ 0 then f else if keep < n - f then f + keep else n).toNat

theorem fallN_le {n : Nat} {f keep : Int} (h0 : 0 ≤ f) (h1 : f ≤ n) : fallN n f keep ≤ n := by
  unfold fallN; split
  · omega
  · split <;> omega

theorem fallN_lo {n F : Nat} {keep : Int} (h : keep ≤ 0) : fallN n F keep = F := by unfold fallN; rw [if_pos h]; simp
theorem fallN_mid {n F K : Nat} (h0 : ¬ (K : Int) ≤ 0) (h : (K : Int) ≤ n - F) : fallN n F K = F + K := by
  unfold fallN; rw [if_neg h0]
  by_cases e : (K : Int) < n - F
  · rw [if_pos e]; omega
  · rw [if_neg e]; omega
theorem fallN_all {n F K : Nat} (h0 : ¬ (K : Int) ≤ 0) (h : ¬ (K : Int) ≤ n - F) : fallN n F K = n := by unfold fallN; rw [if_neg h0, if_neg (by omega)]; simp

theorem flat_take (ps : List (R × Value)) (N : Nat) : flat (ps.take N) = (flat ps).take (N * 3) := by
  induction ps generalizing N with
  | nil => simp [flat]
  | cons p t ih =>
    cases N with
    | zero => simp [flat]
    | succ N =>
      rw [show (N + 1) * 3 = N * 3 + 3 by omega]
      simp [flat, ih]

theorem Made.take {w : World} {lo N : Nat} {ao : Option Addr} {cap : Nat} {rs : List R} (h : Made w lo (.slice ao rs.length cap) rs) (hN : N ≤ rs.length) : Made w lo (.slice ao N cap) (rs.take N) := by
  obtain ⟨ps, hp, h1, h2, h3⟩ := h
  have hpl : ps.length = rs.length := by have := congrArg List.length hp; simpa using this
  refine ⟨ps.take N, by rw [List.map_take, hp], ?_, ?_, h3.1, fun p hp => h3.2.1 p (List.mem_of_mem_take hp), fun i j p q hi hj hij => ?_⟩
  · have hl : (ps.take N).length = N := by rw [List.length_take]; omega
    rw [hl, flat_take]
    refine ⟨by rw [List.length_take, h1.1]; rw [hpl]; omega, ?_⟩
    rcases h1.2 with ⟨hv, hn⟩ | ⟨g, cp, cur, hv, hg, hh, hnc, hcm, hcs, htk⟩
    · simp only [Value.slice.injEq] at hv
      obtain ⟨e1, e2, e3⟩ := hv
      exact Or.inl ⟨by rw [e1, e3, show N = 0 by omega], by omega⟩
    · simp only [Value.slice.injEq] at hv
      obtain ⟨e1, e2, e3⟩ := hv
      refine Or.inr ⟨g, cp, cur, by rw [e1, e3], hg, hh, by omega, hcm, hcs, ?_⟩
      rw [← htk, List.take_take, Nat.min_eq_left (by rw [hpl]; omega)]
  · intro k hk
    refine h2 k ?_
    cases ao with
    | none => cases hk
    | some a => exact hk
  · have hi' : i < N ∧ ps[i]? = some p := by
      rw [List.getElem?_take] at hi
      split at hi
      · exact ⟨by assumption, hi⟩
      · cases hi
    have hj' : j < N ∧ ps[j]? = some q := by
      rw [List.getElem?_take] at hj
      split at hj
      · exact ⟨by assumption, hj⟩
      · cases hj
    exact h3.2.2 i j p q hi'.2 hj'.2 hij

theorem Recs.take {w : World} {N cap : Nat} {ao : Option Addr} {rs : List R} (h : Recs w (.slice ao rs.length cap) rs) (hN : N ≤ rs.length) : Recs w (.slice ao N cap) (rs.take N) := by
  have hl : (rs.take N).length = N := by rw [List.length_take]; omega
  by_cases h0 : N = 0
  · subst h0
    exact Or.inl ⟨by simp, ao, cap, rfl⟩
  rcases h with ⟨hz, _⟩ | ⟨b, off, cp, hv, hz, hc⟩
  · rw [hz] at hN; simp at hN; omega
  · simp only [Value.slice.injEq] at hv
    obtain ⟨e1, _, e3⟩ := hv
    refine Or.inr ⟨b, off, cp, by rw [hl, e1, e3], by intro e; rw [e] at hl; simp at hl; omega, fun i r hr => ?_⟩
    rw [List.getElem?_take] at hr
    split at hr
    · exact hc i r hr
    · cases hr

theorem pre_take (rs : List R) (N : Nat) (hN : N ≤ rs.length) : tot (rs.take N) ≤ tot rs := by
  have h1 := pre_le rs N
  have h2 : pre (rs.take N) (rs.take N).length = pre rs N := by unfold pre; rw [List.take_length]
  unfold tot
  rw [h2, List.length_take]; omega

/-- What a fall leaves. -/
def fallR (rs : List R) (f keep : Int) : List R := if logOk rs f then rs.take (fallN rs.length f keep) else []
def fallF (rs : List R) (f keep : Int) : Int := if logOk rs f then fallN rs.length f keep else 0

theorem logOk_f {rs : List R} {f : Int} (h : logOk rs f = true) : 0 ≤ f ∧ f ≤ rs.length ∧ rs.length ≤ 40 := by
  unfold logOk at h
  simp only [Bool.and_eq_true, decide_eq_true_eq] at h
  have := Pl.inB_true h.2.2
  omega

end Go.Proofs.YtickjfpbaknlmaaDoor

namespace Go.Proofs.YtickjfpbaknlmaaDoor
open Go.RowKit

theorem row_cap' {w : World} {base : Nat} {e : TypeId} {size : Nat} {v : Value} {ps : List (R × Value)} {xs : List Value} (h : w.ownsRow base e size v ps.length xs) : ∃ oa oc, v = .slice oa (ps.map (·.1)).length oc ∧ (ps.map (·.1)).length ≤ oc := by
  rw [List.length_map]
  rcases h.2 with ⟨hv, hn⟩ | ⟨g, cap, cur, hv, _, _, hc, _⟩
  · exact ⟨none, 0, by rw [hv, hn], by omega⟩
  · exact ⟨_, cap, hv, hc⟩

set_option maxRecDepth 100000 in
set_option maxHeartbeats 4000000 in
theorem drawTOf_cap (v : Value) (n : Nat) (w : World) (hv : CodeAt w v n) (hn : n ≤ 1048576) :
    Calls Tryd.prog 14 #[v] w fun e w' => ∃ (o : Value) (rs : List R), e = .returned o ∧ (∃ oa oc, o = .slice oa rs.length oc ∧ rs.length ≤ oc) ∧ rs.length ≤ 14 ∧ tot rs ≤ 1000 ∧ Recs w' o rs ∧ Below w.heap.size w w' := by
  obtain ⟨i0, hi, hz0, hz1, hz2⟩ := info_parts infoRec
  have HO := hide_it (open_any v n w hv hn)
  obtain ⟨ao, cap, rfl, _⟩ := hv
  go_enter Tryd.func14, Tryd.ntmps14
  go_wp2_with fail
  refine HO.out.mono ?_
  rintro e w1 ⟨rfl, hr1, hs1, hb1⟩
  obtain ⟨b, hbb⟩ : ∃ b, Hid (b = w.heap.size) := ⟨_, rfl⟩
  rw [← hbb.out] at hr1 ⊢
  have hb1' : b < w1.heap.size := by rw [hbb.out, hs1]; omega
  have R1 := hide_it hr1
  have B1 := hide_it hb1
  clear hr1 hb1 hs1
  go_wp2_with fail
  refine (trips_draw b 0 _ R1.out (by omega)).mono ?_
  rintro e w2 ⟨o, ps, q, rfl, hps, hrow, hall, hq, r2, m2⟩
  have C2 : Hid (RcS w1 w2 b q o ps) := ⟨hrow, hall, r2, m2, hb1'⟩
  obtain ⟨o2, c2, hos⟩ := row_shape hrow
  subst hos
  clear hrow hall r2 m2
  go_wp2_with fail
  refine (pick_any b q 8 _ C2.out.rd (by omega) (by omega) (by omega)).mono ?_
  rintro e w3 ⟨y, rfl, ly, uy, r3, m3⟩
  have C3 := hide_it (C2.out.step m3 r3)
  clear r3 m3 C2
  have hBl : Hid (∀ W, Mid b (b + 1) w1 W → Below w.heap.size w W) := fun W hm => B1.out.trans (hm.below (by rw [hbb.out]; omega) B1.out.size)
  by_cases hy0 : y = 0
  · subst hy0
    go_wp2_with fail
    refine (rec_draw b (q + 1) _ C3.out.rd (by omega)).mono ?_
    rintro e w4 ⟨k, t, u, zs, q4, cap4, rfl, hz, hF, hqa, hqb, r4, m4⟩
    have C4 := hide_it (C3.out.step m4 r4)
    have F4 := hide_it (hF.mono (show w1.heap.size ≤ w3.heap.size from C3.out.mid.size))
    obtain ⟨g, off, hu⟩ : ∃ g off, u = .slice (some ⟨g, off, none⟩) zs.length cap4 := by obtain ⟨g, off, cs, h, _⟩ := hF; exact ⟨g, off, h⟩
    subst hu
    clear hF r4 m4 C3
    have hw14 : w1.heap.size ≤ w4.heap.size := C4.out.mid.size
    have ROW : Hid (∀ x, (w4.alloc x).ownsRow w1.heap.size 26 3 (.slice o2 ps.length c2) ps.length (flat ps)) := fun x => (C4.out.later (alloc_below _ x)).row
    go_wp2_with (at_builtin; refine wpList_append_own _ rfl _ _ 35 rfl w1.heap.size 26 i0 (.agg #[.int .i64 0, .int .i64 0, .slice none 0 0]) 3 40 Tryd.underlying35 hi hz0 hz1 hz2 rfl (by decide) (.slice o2 ps.length c2) ps.length (flat ps) rfl (ROW.out _) ⟨w4.heap.size, 0, none⟩ 1 1 [.int .i64 k, .int .i64 t, .slice (some ⟨g, off, none⟩) zs.length cap4] rfl rfl (news3 _ _ _ _ _) (one3 _ _ _) ?c3 ?c4 ?c5 ?_)
    case c3 => unfold maxLen; omega
    case c4 => omega
    case c5 => simp; omega
    intro v' w5 hown5 hgrow5 _
    have C5 := hide_it ((C4.out.later (alloc_below _ _)).push (r := (k, t, zs)) ⟨by simpa using hz, Or.inl ⟨cap4, F4.out.later (alloc_below _ _) (Nat.le_refl _)⟩⟩ hown5 hgrow5)
    clear hown5 hgrow5 ROW C4 F4
    go_wp2
    go_ret
    obtain ⟨h1, h2⟩ := C5.out.out (by simp; omega)
    exact ⟨_, _, rfl, row_cap' C5.out.row, by simp; omega, h2, h1, hBl.out _ C5.out.mid⟩
  · go_wp2
    go_ret
    obtain ⟨h1, h2⟩ := C3.out.out (by omega)
    exact ⟨_, _, rfl, row_cap' C3.out.row, by simp; omega, h2, h1, hBl.out _ C3.out.mid⟩

end Go.Proofs.YtickjfpbaknlmaaDoor

namespace Go.Proofs.YtickjfpbaknlmaaDoor.T
open Go.RowKit

theorem tripsOk_mk {rs : List R} (h1 : rs.all tOk = true) (h2 : rs.length ≤ 6) : tripsOk rs = true := by unfold tripsOk; rw [h1]; simp [h2]
theorem tripsOk_all {rs : List R} (h : tripsOk rs = true) : rs.all tOk = true ∧ rs.length ≤ 6 := by
  unfold tripsOk at h
  simp only [Bool.and_eq_true, decide_eq_true_eq] at h
  exact h

/-- Ok trips behind a record that may come are ok. -/
theorem doL_ok {rs : List R} {r : Rc} (h : tripsOk rs = true) (h1 : rOk r = true) (h2 : mayL rs r = true) : tripsOk (doL rs r) = true := by
  obtain ⟨ha, hl⟩ := tripsOk_all h
  have hf := ((fit_ok h).doL h1 h2).1
  refine tripsOk_mk ?_ hf
  unfold doL
  by_cases h4 : r.1 = 4
  · rw [if_pos h4, List.all_append, ha]
    have : tOk (r.2.2, 1) = true := by unfold tOk; rw [rOk_begin h1 h4]; rfl
    simp [this]
  · rw [if_neg h4]
    obtain ⟨x, hx⟩ := mayL_at h2 h4
    have hn : nextS x.2 r.1 ≠ 0 := by
      unfold mayL at h2
      rw [if_neg h4, tripAt_get hx] at h2
      simpa using h2
    rw [tripAt_get hx]
    rw [List.all_eq_true]
    intro y hy
    rcases List.mem_or_eq_of_mem_set hy with hy | hy
    · exact List.all_eq_true.1 ha y hy
    · subst hy
      have hxo := List.all_eq_true.1 ha x (List.mem_of_getElem? hx)
      unfold tOk at hxo ⊢
      simp only [Bool.and_eq_true] at hxo ⊢
      have := nextS_nz hn
      exact ⟨hxo.1, Pl.inB_mk (by omega) (by omega)⟩

theorem runT_ok {qs : List Rc} {rs : List R} (h : runT qs = some rs) : tripsOk rs = true := by
  have key : ∀ k, k ≤ qs.length → ∀ rs, runT (qs.take k) = some rs → tripsOk rs = true := by
    intro k
    induction k with
    | zero => intro _ rs h; rw [List.take_zero, runT_nil] at h; cases h; rfl
    | succ k ih =>
      intro hk rs h
      have hg : qs[k]? = some qs[k] := List.getElem?_eq_getElem (by omega)
      rw [take_snoc hg, runT_snoc] at h
      cases hr : runT (qs.take k) with
      | none => rw [hr] at h; cases h
      | some xs =>
        rw [hr] at h
        have h' : stepT xs qs[k] = some rs := h
        unfold stepT at h'
        split at h'
        · next hb =>
          simp only [Option.some.injEq] at h'
          subst h'
          simp only [Bool.and_eq_true] at hb
          exact doL_ok (ih (by omega) xs hr) hb.1 hb.2
        · cases h'
  refine key qs.length (Nat.le_refl _) rs ?_
  rw [List.take_length]; exact h

theorem nextS_twice (s k : Int) : nextS (nextS s k) k = 0 := by
  unfold nextS
  by_cases a : k = 5 ∧ s = 1
  · rw [if_pos a]; simp [a.1]
  rw [if_neg a]
  by_cases b : k = 6 ∧ s = 1
  · rw [if_pos b]; simp [b.1]
  rw [if_neg b]
  by_cases c : k = 7 ∧ s = 2
  · rw [if_pos c]; simp
  rw [if_neg c]
  by_cases d : k = 7 ∧ s = 3
  · rw [if_pos d]; simp
  rw [if_neg d]
  simp

/-- What came does not come again. -/
theorem again_no {rs : List R} {r : Rc} (h1 : rOk r = true) (h2 : mayL rs r = true) : mayL (doL rs r) r = false := by
  obtain ⟨k, t, zs⟩ := r
  obtain ⟨ht1, _⟩ := rOk_trip h1
  dsimp only at ht1
  by_cases h4 : k = 4
  · subst h4
    rw [mayL_4] at h2
    simp at h2
    rw [show doL rs (4, t, zs) = rs ++ [(zs, 1)] by unfold doL; rw [if_pos rfl], mayL_4]
    simp; omega
  · obtain ⟨x, hx⟩ := mayL_at h2 h4
    dsimp only at hx
    have hl := len_lt hx
    have hd : doL rs (k, t, zs) = rs.set (t - 1).toNat (x.1, nextS x.2 k) := by
      unfold doL
      rw [if_neg h4]
      dsimp only
      rw [tripAt_get hx]
    rw [hd, mayL_at' h4 (x := (x.1, nextS x.2 k)) (by rw [List.getElem?_set, if_pos rfl, if_pos hl]), nextS_twice]
    rfl

end Go.Proofs.YtickjfpbaknlmaaDoor.T

namespace Go.Proofs.YtickjfpbaknlmaaDoor
open Go.RowKit

/-- Behind so many records: the trips, or none. -/
def T.accT (qs : List Rc) (k : Nat) : List T.R := (T.runT (qs.take k)).getD []
theorem T.accT_fit (qs : List Rc) (k : Nat) : T.Fit (T.accT qs k) := T.ofO_fit _
theorem T.acc_some {qs : List Rc} {k : Nat} (h : (T.runT (qs.take k)).isSome = true) : T.runT (qs.take k) = some (T.accT qs k) := by
  unfold T.accT
  cases hr : T.runT (qs.take k) with
  | none => rw [hr] at h; cases h
  | some x => rfl
theorem T.acc_step {qs : List Rc} {k : Nat} {q : Rc} (hq : qs[k]? = some q) (h : (T.runT (qs.take k)).isSome = true) : (T.runT (qs.take (k + 1))).isSome = T.tMay (T.accT qs k) q ∧ T.accT qs (k + 1) = T.doO (T.accT qs k) q := by
  have hs := T.acc_some h
  have hok := T.runT_ok hs
  have e : T.runT (qs.take (k + 1)) = T.stepT (T.accT qs k) q := by rw [T.take_snoc hq, T.runT_snoc, hs]; rfl
  have m : T.tMay (T.accT qs k) q = (rOk q && T.mayL (T.accT qs k) q) := by unfold T.tMay; rw [hok]; rfl
  have f : T.accT qs (k + 1) = (T.runT (qs.take (k + 1))).getD [] := rfl
  rw [f, e]
  unfold T.stepT T.doO
  rw [m]
  cases hb : (rOk q && T.mayL (T.accT qs k) q)
  · exact ⟨rfl, rfl⟩
  · exact ⟨rfl, rfl⟩
theorem T.acc_none {qs : List Rc} {k : Nat} {q : Rc} (hq : qs[k]? = some q) (h : (T.runT (qs.take k)).isSome = false) : (T.runT (qs.take (k + 1))).isSome = false ∧ T.accT qs (k + 1) = T.accT qs k := by
  have hn : T.runT (qs.take k) = none := by cases hr : T.runT (qs.take k) with
    | none => rfl
    | some x => rw [hr] at h; cases h
  have e : T.runT (qs.take (k + 1)) = none := by rw [T.take_snoc hq, T.runT_snoc, hn]; rfl
  unfold T.accT
  rw [e, hn]
  exact ⟨rfl, rfl⟩

set_option maxRecDepth 100000 in
set_option maxHeartbeats 4000000 in
theorem lawP47_small (vc : Value) (nc : Nat) (am : Option Addr) (nm cm : Nat) (a : Addr) (w : World) (hc : CodeAt w vc nc) (hcn : nc ≤ 1048576) (hmn : nm ≤ 1048576) (ha : ErrAt w a) :
    Calls Tryd.prog 8 #[vc, .slice am nm cm] w fun e w' => e = .returned (.bool true) ∧ Below w.heap.size w w' := by
  have HO := hide_it (drawTOf_cap vc nc w hc hcn)
  have HAe : Hid (∀ W, Below w.heap.size w W → ErrAt W a) := fun W h => ha.later h (Nat.le_refl _)
  obtain ⟨ao, cap, rfl, _⟩ := hc
  clear ha
  have hni : ¬ (1048576 : Int) < (nc : Int) := by omega
  have hmi : ¬ (1048576 : Int) < (nm : Int) := by omega
  go_enter Tryd.func8, Tryd.ntmps8
  go_wp2_with fail
  refine HO.out.mono ?_
  rintro e w1 ⟨o, qs, rfl, ⟨oa, oc, hos, hoc⟩, hq14, hq, hR, hb1⟩
  subst hos
  have B1 := hide_it hb1
  have HR : Hid (∀ W, Below w1.heap.size w1 W → Recs W (.slice oa qs.length oc) qs) := fun W h => hR.later h (Nat.le_refl _)
  clear hR hb1
  have FT := (T.ofO_fit qs).tot
  obtain ⟨OO, hOO⟩ : ∃ x, T.ofO qs = x := ⟨_, rfl⟩
  obtain ⟨BB, hBB⟩ : ∃ x, (T.runT qs).isSome = x := ⟨_, rfl⟩
  have HSP : Hid (∀ (u : Value) (W : World), Recs W u qs → Calls Tryd.prog 15 #[u] W fun e w' => T.TrOut W w' e OO BB) := fun u W h => by
    have := T.specOf_any u qs W h (by omega)
    rw [hOO, hBB] at this; exact this
  have HIM : Hid (∀ (u : Value) (W : World), Recs W u qs → Below w.heap.size w W → Calls Tryd.prog 16 #[u] W fun e w' => T.TrOut W w' e OO BB) := fun u W h hb => by
    have := T.implOf_any u qs a W h (by omega) (HAe.out W hb)
    rw [hOO, hBB] at this; exact this
  have HEND : Hid ((T.runT (qs.take qs.length)).isSome = BB ∧ T.accT qs qs.length = OO) := by
    refine ⟨by rw [List.take_length]; exact hBB, ?_⟩
    unfold T.accT
    rw [List.take_length]; exact hOO
  rw [hOO] at FT
  clear hOO hBB
  go_wp2_with fail
  refine (HSP.out _ w1 (HR.out _ (Below.refl _ _))).mono ?_
  rintro e w2 ⟨a2, c2, rfl, hm2, hb2⟩
  have E2 := hide_it hb2
  have B2 := hide_it (B1.out.trans (hb2.mono B1.out.size))
  have M2 := hide_it hm2.recs
  clear hm2 hb2
  go_wp2_with fail
  refine (HIM.out _ w2 (HR.out _ E2.out) B2.out).mono ?_
  rintro e w3 ⟨a3, c3, rfl, hm3, hb3⟩
  have E3 := hide_it (E2.out.trans (hb3.mono E2.out.size))
  have B3 := hide_it (B2.out.trans (hb3.mono B2.out.size))
  have M3 := hide_it hm3.recs
  have W3 := hide_it (M2.out.later hb3 (Nat.le_refl _))
  clear hm3 hb3
  obtain ⟨N, hN⟩ : ∃ N : Nat, nm % (qs.length + 1) = N := ⟨_, rfl⟩
  have hNl : N ≤ qs.length := by rw [← hN]; have := Nat.mod_lt nm (show 0 < qs.length + 1 by omega); omega
  have hNt : Int.tmod (nm : Int) ((qs.length : Int) + 1) = (N : Int) := by
    rw [← hN]
    have : ((qs.length : Int) + 1) = ((qs.length + 1 : Nat) : Int) := by simp
    rw [this]
    exact (Int.ofNat_tmod _ _).symm
  have hNz : ¬ ((qs.length : Int) + 1 = 0) := by omega
  have hNc : (N : Int) ≤ (oc : Int) := by omega
  clear hN
  have HCUT : Hid (∀ W, Below w1.heap.size w1 W → Calls Tryd.prog 16 #[.slice oa N oc] W fun e w' => T.TrOut W w' e (T.accT qs N) (T.runT (qs.take N)).isSome) := fun W h => by
    exact T.implOf_any _ (qs.take N) a W ((HR.out W h).take hNl) (Nat.le_trans (pre_take qs N hNl) (by omega)) (HAe.out W (B1.out.trans (h.mono B1.out.size)))
  cases BB
  all_goals
    go_wp2_with fail
    refine (lnTrips_any _ _ OO w3 M3.out W3.out FT).mono ?_
    rintro e w4 ⟨rfl, hb4⟩
    have E4 := hide_it (E3.out.trans (hb4.mono E3.out.size))
    have B4 := hide_it (B3.out.trans (hb4.mono B3.out.size))
    have M4 := hide_it (M3.out.later hb4 (Nat.le_refl _))
    clear hb4
    go_wp2_with fail
    refine (HCUT.out w4 E4.out).mono ?_
    rintro e w5 ⟨a5, c5, rfl, hm5, hb5⟩
    have F5 := hide_it hb5
    have M5 := hide_it hm5.recs
    obtain ⟨XS, hXS⟩ : ∃ x, T.accT qs N = x := ⟨_, rfl⟩
    obtain ⟨FF, hFF⟩ : ∃ x, (T.runT (qs.take N)).isSome = x := ⟨_, rfl⟩
    rw [hXS, hFF]
    rw [hXS] at M5
    have HXS := hide_it hXS.symm
    have HFF := hide_it hFF.symm
    clear hm5 hb5 hXS hFF
    go_wp2
    go_loopw [11, 12, 13] (fun xv fv iv wr => ∃ (i : Nat) (ax : Option Addr) (cx : Nat) (F : Bool) (xs : List T.R), N ≤ i ∧ i ≤ qs.length ∧ iv = .int .i64 i ∧ fv = .bool F ∧ xv = .slice ax xs.length cx ∧ Hid (xs = T.accT qs i) ∧ Hid (F = (T.runT (qs.take i)).isSome) ∧ Hid (T.Recs wr (.slice ax xs.length cx) xs) ∧ Hid (Below w4.heap.size w4 wr)) (fun _ _ iv _ => qs.length - (intOf iv).toNat)
    case atStart => exact ⟨N, a5, c5, FF, XS, Nat.le_refl _, hNl, rfl, rfl, rfl, HXS, HFF, M5, F5⟩
    case round =>
      obtain ⟨i, ax, cx, F, xs, hNi, hi, rfl, rfl, rfl, HX, HF, HM, HB⟩ := hrel
      have EW := hide_it (E4.out.trans (HB.out.mono E4.out.size))
      have BW := hide_it (B4.out.trans (HB.out.mono B4.out.size))
      have hxf : T.Fit xs := by rw [HX.out]; exact T.accT_fit qs i
      have hxt := hxf.tot
      have hx6 := hxf.1
      clear hxf
      by_cases hlt : i < qs.length
      · obtain ⟨q, hqi⟩ : ∃ q, Hid (qs[i]? = some q) := ⟨qs[i], by show _ = _; simp [hlt]⟩
        have hli : (i : Int) < (qs.length : Int) := by omega
        cases F
        · obtain ⟨s1, s2⟩ := T.acc_none hqi.out HF.out.symm
          have S1 := hide_it s1.symm
          have S2 : Hid (xs = T.accT qs (i + 1)) := by show _ = _; rw [s2]; exact HX.out
          clear s1 s2
          go_wp2
          go_roundw
          case rel => exact ⟨i + 1, ax, cx, false, xs, by omega, by omega, by go_num, rfl, rfl, S2, S1, HM, HB⟩
          case measure => simp [intOf]; omega
        · obtain ⟨s1, s2⟩ := T.acc_step hqi.out HF.out.symm
          rw [← HX.out] at s1 s2
          rcases HR.out wr EW.out with ⟨h0, _⟩ | ⟨b, off, cp, hvv, _, hcl⟩
          · rw [h0] at hlt; simp at hlt
          simp only [Value.slice.injEq] at hvv
          obtain ⟨rfl, -, rfl⟩ := hvv
          obtain ⟨y, d0, d1, d2, hI⟩ := hcl i q hqi.out
          have hql : q.2.2.length ≤ 1048576 := by have := tot_mem qs q (List.mem_of_getElem? hqi.out); omega
          obtain ⟨ay, cy, hys⟩ := hI.shape
          subst hys
          have HDO := hide_it (T.implDo_any _ xs q _ a wr HM.out hxt hI hql (HAe.out wr BW.out))
          obtain ⟨DD, hDD⟩ : ∃ x, T.doO xs q = x := ⟨_, rfl⟩
          obtain ⟨TT, hTT⟩ : ∃ x, T.tMay xs q = x := ⟨_, rfl⟩
          rw [hDD, hTT] at HDO
          rw [hTT] at s1
          rw [hDD] at s2
          have S1 := hide_it s1.symm
          have S2 := hide_it s2.symm
          clear hcl hI s1 s2 hDD hTT
          go_wp2_with fail
          refine HDO.out.mono ?_
          rintro e w6 ⟨a6, c6, rfl, hm6, hb6⟩
          have M6 := hide_it hm6.recs
          have G6 := hide_it (HB.out.trans (hb6.mono HB.out.size))
          clear hm6 hb6
          go_wp2
          go_roundw
          case rel => exact ⟨i + 1, a6, c6, TT, DD, by omega, by omega, by go_num, rfl, rfl, S2, S1, M6, G6⟩
          case measure => simp [intOf]; omega
      · have hie : Hid (i = qs.length) := by show _ = _; omega
        have hF2 := HF.out
        have hX2 := HX.out
        rw [hie.out] at hF2 hX2
        rw [HEND.out.1] at hF2
        rw [HEND.out.2] at hX2
        subst hF2 hX2
        have hge : ¬ (i : Int) < (qs.length : Int) := by omega
        clear HX HF hi hNi
        have MM := hide_it (M4.out.later HB.out (Nat.le_refl _))
        first
          | (go_wp2_with fail
             refine (lnTrips_any _ _ xs wr HM.out MM.out FT).mono ?_
             rintro e w7 ⟨rfl, hb7⟩
             have B7 := hide_it (BW.out.trans (hb7.mono BW.out.size))
             clear hb7
             go_wp2
             go_ret
             exact ⟨rfl, B7.out⟩)
          | (go_wp2
             go_ret
             exact ⟨rfl, BW.out⟩)

end Go.Proofs.YtickjfpbaknlmaaDoor

namespace Go.Proofs.YtickjfpbaknlmaaDoor
open Go.ChangeShapes Go.WideShapes Go.ChangeAt Go.WideMaps Go.WideElems Go.RowKit Go.Joins

set_option maxHeartbeats 1000000 in
theorem lawP47_great1 (ac : Option Addr) (nc cc : Nat) (am : Option Addr) (nm cm : Nat) (w : World) (h : 1048576 < (nc : Int)) :
    Calls Tryd.prog 8 #[.slice ac nc cc, .slice am nm cm] w fun e w' => e = .returned (.bool true) ∧ Below w.heap.size w w' := by
  go_enter Tryd.func8, Tryd.ntmps8
  go_wp2
  go_ret
  exact ⟨rfl, Below.refl _ _⟩

set_option maxHeartbeats 1000000 in
theorem lawP47_great2 (ac : Option Addr) (nc cc : Nat) (am : Option Addr) (nm cm : Nat) (w : World) (hc : (nc : Int) ≤ 1048576) (h : 1048576 < (nm : Int)) :
    Calls Tryd.prog 8 #[.slice ac nc cc, .slice am nm cm] w fun e w' => e = .returned (.bool true) ∧ Below w.heap.size w w' := by
  go_enter Tryd.func8, Tryd.ntmps8
  go_wp2
  go_ret
  exact ⟨rfl, Below.refl _ _⟩

theorem lawP47_any (vc vm : Value) (nc nm : Nat) (a : Addr) (w : World) (hc : CodeAt w vc nc) (hm : CodeAt w vm nm) (ha : ErrAt w a) :
    Calls Tryd.prog 8 #[vc, vm] w fun e w' => e = .returned (.bool true) ∧ Below w.heap.size w w' := by
  obtain ⟨am, cm, rfl, _⟩ := hm
  by_cases h1 : nc ≤ 1048576
  · by_cases h2 : nm ≤ 1048576
    · exact lawP47_small vc nc am nm cm a w hc h1 h2 ha
    · obtain ⟨ac, cc, rfl, _⟩ := hc
      exact lawP47_great2 ac nc cc am nm cm w (by omega) (by omega)
  · obtain ⟨ac, cc, rfl, _⟩ := hc
    exact lawP47_great1 ac nc cc am nm cm w (by omega)

set_option maxRecDepth 100000 in
theorem p47_lifted (os : Os) (started : os.Started) (H : Type) (enc : TypeId × Value → H) :
    ReturnsInHanded {} Tryd.checked os 8 .any (fun w args => (Rows.fnTripsOfSpec.pre enc Tryd.prog Tryd.f8 [] false w args ∧ laidMetH Tryd.prog laidErr w) ∧ sizedMet enc Tryd.prog Tryd.f8 (OpenSpec.ofChange Rows.fnTripsOfSpec) false w args)
      (Rows.fnTripsOfSpec.post enc Tryd.prog Tryd.f8 false true false false) := by
  refine returnsInHanded_of_change_and (C := Tryd.checked) (X := fun w _ => laidMetH Tryd.prog laidErr w) (fun _ _ _ hh h => h.of_heap hh) own started (by kernel_rfl) Tryd.func8
    (ChangeSpec.witness_shaped (enc := enc) (C := Tryd.checked) (os := os) (X := fun w _ => laidMetH Tryd.prog laidErr w) false (World.doorLaid Tryd.prog 28 os) #[.slice none 0 0, .slice none 0 0] 8 rfl (World.shaped_of_RefB (by kernel_rfl) (by kernel_rfl)) (by kernel_rfl) (by kernel_rfl) (by kernel_rfl) (door_met os _)) ?_
  intro W base args ds gs before hval0 hW _ _ hL _
  have hval : ∀ (j : Nat) t v, Tryd.f8.params[j]? = some t → args[j]? = some v → Value.okWide Tryd.prog W .any base t v := hval0
  have hW' := hW
  obtain ⟨p, q, hA0, hV0, rfl, hfz, hnd⟩ := hW
  have hA : DataW.TrodAll enc Tryd.prog W 0 (fun _ => true) true Tryd.f8.params.toList args.toList ds p := hA0
  have hV : DataW.TrodVars enc Tryd.prog W (fun _ => true) ["loop.example/concierge/impl.errNoRec"] gs q := hV0
  rw [Tryd.params8] at hA hval
  obtain ⟨v0, v1, d0, d1, p0, p1, rfl, rfl, rfl, h0, h1⟩ := trodAll_two hA
  obtain ⟨a, hErr, hvar⟩ := of_laid hL
  have vr : ∀ {X : World}, X.var? Tryd.prog "loop.example/concierge/impl.errNoRec" = some #[.iface 101 (.pointer (some a))] → ∀ sp : Nat → Bool,
      DataW.TrodVars enc Tryd.prog X sp ["loop.example/concierge/impl.errNoRec"] [tok enc (.iface 101 (.pointer (some a)))] [.cell 0 0] :=
    fun x0 sp => vars_read1 enc gErr gErrType Tryd.underlying73 x0 trivial sp
  obtain ⟨rfl, rfl⟩ := hV.unique (vr hvar _)
  clear hA0 hV0 hval0
  obtain ⟨nc, hC, _⟩ := open_code (hval 0 22 v0 rfl rfl) h0
  obtain ⟨nm, hM, _⟩ := open_code (hval 1 22 v1 rfl rfl) h1
  refine (lawP47_any v0 v1 nc nm a W hC hM hErr).mono fun e W' ⟨he, hb⟩ => ?_
  subst he
  have hlt : ∀ x ∈ p0, x.block < W.heap.size := fun x hx => hW'.lt x (by simp [hx])
  have hlt1 : ∀ x ∈ p1, x.block < W.heap.size := fun x hx => hW'.lt x (by simp [hx])
  refine ⟨_, rfl, _, _, _, [], p0 ++ p1, [.cell 0 0], hW', ?_, ?_, ?_, hb.frame _, fun h => by cases h⟩
  · exact trodAll_mk1 (shut_bool Tryd.underlying4 true)
  · exact trodAll_mk2 (Below.trod laidOut (by kernel_rfl) (of_decide_eq_true (by kernel_rfl)) h0 hb hlt) (Below.trod laidOut (by kernel_rfl) (of_decide_eq_true (by kernel_rfl)) h1 hb hlt1)
  · exact vr (var?_below hb gErr (World.block_lt_of_cell? _ _ hErr) hvar) _

theorem p47_said : Rows.FnTripsOfSaid :=
  OpenClaim.holds_of_wide 8 Tryd.f8 rfl rfl rfl rfl rfl rfl rfl ⟨rfl, rfl, rfl, rfl, rfl⟩ rfl rfl rfl rfl rfl (by kernel_rfl) Tryd.func8 (by kernel_rfl)
    (of_decide_eq_true (by kernel_rfl)) (by unfold Func.isWrapper; first | (rw [if_pos (by decide +kernel)]; kernel_rfl) | (rw [if_neg (by decide +kernel)]; exact ⟨rfl, rfl⟩))
    (fun os started H enc _ => p47_lifted os started H enc)

theorem p47_plain (f : FuncId) (fn : Func) (hf : Tryd.pinned.checked.prog.funcNamed "loop.example/concierge/laws.FnTripsOf" = some f) (hfn : Tryd.pinned.checked.prog.funcs[f]? = some fn) :
    true = Tryd.pinned.checked.prog.looks [] ∧ ∀ (j : Nat) t, fn.params[j]? = some t → Tryd.pinned.checked.prog.wantsStandIn t = false := by
  obtain rfl : f = 8 := Option.some.inj ((show Tryd.prog.funcNamed "loop.example/concierge/laws.FnTripsOf" = some 8 by kernel_rfl).symm.trans hf) |>.symm
  obtain rfl : fn = Tryd.f8 := (Option.some.inj (Tryd.func8.symm.trans hfn)).symm
  refine ⟨by kernel_rfl, fun j t ht => ?_⟩
  rw [Tryd.params8] at ht
  obtain rfl : t = 22 := by simpa using Array.mem_of_getElem? ht
  exact (show Tryd.prog.wantsStandIn 22 = false by kernel_rfl)

theorem p47_card : Rows.FnTripsOfCardSaid :=
  Claim7.holds_tied_plain_at .later [] _ _ _ _ p47_said (fun _ h => by cases h) (by kernel_rfl) (fun _ h => by cases h) fnTripsOf_row_tie rfl ⟨rfl, rfl⟩ (by kernel_rfl) rfl p47_plain (by kernel_rfl)
#print axioms p47_card

end Go.Proofs.YtickjfpbaknlmaaDoor
