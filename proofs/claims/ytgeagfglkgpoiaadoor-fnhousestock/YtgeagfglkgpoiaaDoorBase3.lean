/- What the last text of this claim stands on, part 3: plain facts and contracts; the last text says what is proved. -/
import Derived.Test.YtgeagfglkgpoiaaDoorBase2
import Derived.Deep.RegionLaw
import Derived.Deep.AppendLies
import Derived.Deep.RegionWith
import Derived.Deep.RegionHeld
import Derived.Deep.RegionHeldLaw
import Derived.Test.YtgeagfglkgpoiaaDoorCards
import Derived.Test.YtgeagfglkgpoiaaDoorTie
import Derived.ProofKit
import Derived.LaidMore
import Derived.OpenShut
import Derived.Stop.Joined
import Derived.Stop.LaidErr
import Derived.Lib.SmallJoins
import Derived.Test.YtgeagfglkgpoiaaDoorRows

namespace Go.Proofs.YtgeagfglkgpoiaaDoor
open Go.RowKit

def hoOk (id room : Int) (rs : List R) (f : Int) : Bool := Pl.inB id 1 3 && logOk rs f && (Pl.sOf room rs).isSome
theorem hoOk_id {id room : Int} {rs : List R} {f : Int} (h : Pl.inB id 1 3 = false) : hoOk id room rs f = false := by simp [hoOk, h]
theorem hoOk_log {id room : Int} {rs : List R} {f : Int} (h : logOk rs f = false) : hoOk id room rs f = false := by simp [hoOk, h]
theorem hoOk_of {id room : Int} {rs : List R} {f : Int} (h1 : Pl.inB id 1 3 = true) (h2 : logOk rs f = true) : hoOk id room rs f = (Pl.sOf room rs).isSome := by simp [hoOk, h1, h2]
theorem hoOk_parts {id room : Int} {rs : List R} {f : Int} (h : hoOk id room rs f = true) : Pl.inB id 1 3 = true ∧ logOk rs f = true ∧ (Pl.sOf room rs).isSome = true := by
  simp only [hoOk, Bool.and_eq_true] at h
  exact ⟨h.1.1, h.1.2, h.2⟩

set_option maxHeartbeats 2000000 in
theorem specHouseOk_any (id : Int) (up : Bool) (room : Int) (v : Value) (rs : List R) (f : Int) (w : World) (hv : Recs w v rs) (hl : tot rs ≤ 1048576) :
    Calls Tryd.prog 9 #[houseV id up room v f] w fun e w' => e = .returned (.bool (hoOk id room rs f)) ∧ Below w.heap.size w w' := by
  have HO : Hid (∀ o, Calls Tryd.prog 28 #[.int .i64 room, v] (w.alloc o) fun e w' => StOut (w.alloc o) w' e (oR room (Pl.sOf room rs)) (oH (Pl.sOf room rs)) (Pl.sOf room rs).isSome) := fun o =>
    l2Of_any room v rs (w.alloc o) (hv.later (alloc_below w o) (Nat.le_refl _)) hl
  have HL : Hid (∀ W, Below w.heap.size w W → Calls Tryd.prog 30 #[.agg #[v, .int .i64 f]] W fun e w' => e = .returned (.bool (logOk rs f)) ∧ Below W.heap.size W w') := fun W h =>
    specLogOk_any v rs f W (hv.later h (Nat.le_refl _)) hl
  obtain ⟨av, cv, rfl⟩ := hv.shape
  clear hv
  have HE : Hid (hoOk id room rs f = (Pl.inB id 1 3 && logOk rs f && (Pl.sOf room rs).isSome)) := rfl
  rw [HE.out]
  clear HE
  obtain ⟨RR, hRR⟩ : ∃ x, oR room (Pl.sOf room rs) = x := ⟨_, rfl⟩
  obtain ⟨HS, hHS⟩ : ∃ x, oH (Pl.sOf room rs) = x := ⟨_, rfl⟩
  obtain ⟨BB, hBB⟩ : ∃ x, (Pl.sOf room rs).isSome = x := ⟨_, rfl⟩
  obtain ⟨LL, hLL⟩ : ∃ x, logOk rs f = x := ⟨_, rfl⟩
  obtain ⟨II, hII⟩ : ∃ x, Pl.inB id 1 3 = x := ⟨_, rfl⟩
  rw [hRR, hHS, hBB] at HO
  rw [hLL] at HL
  have HI : Hid (∀ W, Calls Tryd.prog 29 #[.int .i64 id, .int .i64 1, .int .i64 3] W fun e w' => e = .returned (.bool II) ∧ w' = W) := fun W => by rw [← hII]; exact in_any id 1 3 W
  rw [hBB, hLL, hII]
  clear hRR hHS hBB hLL hII
  go_enter Tryd.func9, Tryd.ntmps9
  go_wp2_with fail
  refine (HO.out _).mono ?_
  rintro e w1 ⟨a1, c1, rfl, -, hb1⟩
  have F1 := hide_it ((Five.new w id up room (.slice av rs.length cv) f 27).later hb1 (by simp))
  obtain ⟨w2, hw2⟩ : ∃ W, Hid (W = w1.alloc (.cells #[.int .i64 RR, .slice a1 HS.length c1] 32)) := ⟨_, rfl⟩
  have al2 : Hid (Below w1.heap.size w1 w2) := by show Below _ _ _; rw [hw2.out]; exact alloc_below _ _
  have E2 := hide_it (hb1.trans (al2.out.mono hb1.size))
  have B2 := hide_it ((alloc_below w _).trans (E2.out.mono (by simp)))
  have hz : w.heap.size < w2.heap.size := by have := E2.out.size; simp at this; omega
  have hz1 : w.heap.size < w1.heap.size := F1.out.lt
  obtain ⟨x0, x1, x2, x3, x4⟩ := F1.out.cells
  have k0 := fun x => cellAlloc x0 x
  have k3 := fun x => cellAlloc x3 x
  have k4 := fun x => cellAlloc x4 x
  clear hb1 x0 x1 x2 x3 x4
  go_wp2_with fail
  rw [← hw2.out]
  obtain ⟨x0, x1, x2, x3, x4⟩ := ((Five.new w id up room (.slice av rs.length cv) f 27).later E2.out (by simp)).cells
  clear k0 k3 k4
  refine (HI.out _).mono ?_
  rintro e w3 ⟨rfl, rfl⟩
  cases II
  · go_wp2
    go_ret
    exact ⟨rfl, B2.out⟩
  · go_wp2_with fail
    refine (HL.out _ B2.out).mono ?_
    rintro e w4 ⟨rfl, hb4⟩
    have B4 := hide_it (B2.out.trans (hb4.mono B2.out.size))
    clear hb4
    cases LL
    · go_wp2
      go_ret
      exact ⟨rfl, B4.out⟩
    · go_wp2
      go_ret
      exact ⟨rfl, B4.out⟩

theorem houseId_any (id : Int) (w : World) : Calls Tryd.prog 38 #[.int .i64 id] w fun e w' => e = .returned (.bool (Pl.inB id 1 3)) ∧ w' = w := by
  by_cases h1 : 1 ≤ id
  · by_cases h2 : id ≤ 3
    all_goals
      go_enter Tryd.func38, Tryd.ntmps38
      go_wp2
      go_ret
      exact ⟨by simp [Pl.inB]; omega, rfl⟩
  · go_enter Tryd.func38, Tryd.ntmps38
    go_wp2
    go_ret
    exact ⟨by simp [Pl.inB]; omega, rfl⟩

set_option maxHeartbeats 2000000 in
theorem implHouseOk_any (id : Int) (up : Bool) (room : Int) (v : Value) (rs : List R) (f : Int) (a : Addr) (w : World) (hv : Recs w v rs) (hl : tot rs ≤ 1048576) (ha : ErrAt w a) :
    Calls Tryd.prog 18 #[houseV id up room v f] w fun e w' => e = .returned (.bool (hoOk id room rs f)) ∧ Below w.heap.size w w' := by
  have HO : Hid (∀ W, Below w.heap.size w W → Calls Tryd.prog 10 #[.int .i64 room, v] W fun e w' => StOut W w' e (oR room (Pl.sOf room rs)) (oH (Pl.sOf room rs)) (Pl.sOf room rs).isSome) := fun W h =>
    implOf_any room v rs a W (hv.later h (Nat.le_refl _)) hl (ha.later h (Nat.le_refl _))
  have HL : Hid (∀ W, Below w.heap.size w W → Calls Tryd.prog 39 #[.agg #[v, .int .i64 f]] W fun e w' => e = .returned (.bool (logOk rs f)) ∧ Below W.heap.size W w') := fun W h =>
    implLogOk_any v rs f a W (hv.later h (Nat.le_refl _)) hl (ha.later h (Nat.le_refl _))
  obtain ⟨av, cv, rfl⟩ := hv.shape
  clear hv ha
  have HE : Hid (hoOk id room rs f = (Pl.inB id 1 3 && logOk rs f && (Pl.sOf room rs).isSome)) := rfl
  rw [HE.out]
  clear HE
  obtain ⟨RR, hRR⟩ : ∃ x, oR room (Pl.sOf room rs) = x := ⟨_, rfl⟩
  obtain ⟨HS, hHS⟩ : ∃ x, oH (Pl.sOf room rs) = x := ⟨_, rfl⟩
  obtain ⟨BB, hBB⟩ : ∃ x, (Pl.sOf room rs).isSome = x := ⟨_, rfl⟩
  obtain ⟨LL, hLL⟩ : ∃ x, logOk rs f = x := ⟨_, rfl⟩
  obtain ⟨II, hII⟩ : ∃ x, Pl.inB id 1 3 = x := ⟨_, rfl⟩
  rw [hRR, hHS, hBB] at HO
  rw [hLL] at HL
  have HI : Hid (∀ W, Calls Tryd.prog 38 #[.int .i64 id] W fun e w' => e = .returned (.bool II) ∧ w' = W) := fun W => by rw [← hII]; exact houseId_any id W
  rw [hBB, hLL, hII]
  clear hRR hHS hBB hLL hII
  have B0 := fun o => hide_it (alloc_below w o)
  go_enter Tryd.func18, Tryd.ntmps18
  go_wp2_with fail
  refine (HI.out _).mono ?_
  rintro e w3 ⟨rfl, rfl⟩
  cases II
  · go_wp2
    go_ret
    exact ⟨rfl, alloc_below _ _⟩
  · go_wp2_with fail
    refine (HL.out _ (alloc_below _ _)).mono ?_
    rintro e w4 ⟨rfl, hb4⟩
    obtain ⟨x0, x1, x2, x3, x4⟩ := ((Five.new w id up room (.slice av rs.length cv) f 27).later hb4 (by simp)).cells
    have B4 := hide_it ((alloc_below w _).trans (hb4.mono (by simp)))
    clear hb4
    cases LL
    · go_wp2
      go_ret
      exact ⟨rfl, B4.out⟩
    · go_wp2_with fail
      refine (HO.out _ B4.out).mono ?_
      rintro e w5 ⟨a1, c1, rfl, -, hb5⟩
      have B5 := hide_it (B4.out.trans (hb5.mono B4.out.size))
      clear hb5
      go_wp2
      go_ret
      exact ⟨rfl, B5.out.alloc B5.out.size _⟩

end Go.Proofs.YtgeagfglkgpoiaaDoor

namespace Go.Proofs.YtgeagfglkgpoiaaDoor
open Go.RowKit

theorem frozenAlloc {w : World} {b o : Nat} (h : w.frozen? ⟨b, o, none⟩ = false) (hb : b < w.heap.size) (x : Obj) : (w.alloc x).frozen? ⟨b, o, none⟩ = false := by
  rw [← h]
  exact ((Below.refl w.heap.size w).alloc (Nat.le_refl _) x).frozen (p := ⟨b, o, none⟩) hb

end Go.Proofs.YtgeagfglkgpoiaaDoor

namespace Go.Proofs.YtgeagfglkgpoiaaDoor
open Go.RowKit

/-- How many are left behind a fall. -/
def fallN (n : Nat) (f keep : Int) : Nat := (if keep ≤ 0 then f else if keep < n - f then f + keep else n).toNat

theorem fallN_le {n : Nat} {f keep : Int} (h0 : 0 ≤ f) (h1 : f ≤ n) : fallN n f keep ≤ n := by
  unfold fallN; split
  · omega
  · split <;> omega

theorem fallN_lo {n F : Nat} {keep : Int} (h : keep ≤ 0) : fallN n F keep = F := by unfold fallN; rw [if_pos h]; simp
theorem fallN_mid {n F K : Nat} (h0 : ¬ (K : Int) ≤ 0) (h : (K : Int) ≤ n - F) : fallN n F K = F + K := by
  unfold fallN; rw [if_neg h0]
  by_cases e : (K : Int) < n - F
  · rw [if_pos e]; omega
  · rw [if_neg e]; omega
theorem fallN_all {n F K : Nat} (h0 : ¬ (K : Int) ≤ 0) (h : ¬ (K : Int) ≤ n - F) : fallN n F K = n := by unfold fallN; rw [if_neg h0, if_neg (by omega)]; simp

set_option maxHeartbeats 2000000 in
theorem l1Fall_some (b off n cap : Nat) (f keep : Int) (w : World) (hn : n ≤ cap) (hn2 : n ≤ 1048576) (h0 : 0 ≤ f) (h1 : f ≤ n) :
    Calls Tryd.prog 37 #[.agg #[.slice (some ⟨b, off, none⟩) n cap, .int .i64 f], .int .i64 keep] w fun e w' => e = .returned (.agg #[.slice (some ⟨b, off, none⟩) (fallN n f keep) cap, .int .i64 (fallN n f keep)]) ∧ Below w.heap.size w w' := by
  obtain ⟨F, rfl⟩ := Int.eq_ofNat_of_zero_le h0
  by_cases hk : keep ≤ 0
  · have HN : Hid (fallN n F keep = F) := fallN_lo hk
    go_enter Tryd.func37, Tryd.ntmps37
    go_wp2
    refine bodyPost_ret (v := .agg #[.slice (some ⟨b, off, none⟩) F cap, .int .i64 F]) (by simp [results, Tryd.results37, go_sem]) rfl ⟨by rw [HN.out], below2 w _ _⟩
  · obtain ⟨K, rfl⟩ := Int.eq_ofNat_of_zero_le (show 0 ≤ keep by omega)
    by_cases hlt : (K : Int) ≤ n - F
    · have HN : Hid (fallN n F K = F + K) := fallN_mid hk hlt
      have hle : F + K ≤ n := by omega
      go_enter Tryd.func37, Tryd.ntmps37
      go_wp2
      refine bodyPost_ret (v := .agg #[.slice (some ⟨b, off, none⟩) (F + K) cap, .int .i64 ((F : Int) + K)]) (by simp [results, Tryd.results37, go_sem]) rfl ⟨by rw [HN.out]; simp, below2 w _ _⟩
    · have HN : Hid (fallN n F K = n) := fallN_all hk hlt
      have HE : Hid ((F : Int) + ((n : Int) - F) = n) := by show _ = _; omega
      have HE2 : Hid (F + (n - F) = n) := by show _ = _; omega
      go_enter Tryd.func37, Tryd.ntmps37
      go_wp2
      rw [HE.out, HE2.out]
      refine bodyPost_ret (v := .agg #[.slice (some ⟨b, off, none⟩) n cap, .int .i64 n]) (by simp [results, Tryd.results37, go_sem]) rfl ⟨by rw [HN.out], below2 w _ _⟩

set_option maxHeartbeats 2000000 in
theorem l1Fall_nil (keep : Int) (w : World) :
    Calls Tryd.prog 37 #[.agg #[.slice none 0 0, .int .i64 0], .int .i64 keep] w fun e w' => e = .returned (.agg #[.slice none 0 0, .int .i64 0]) ∧ Below w.heap.size w w' := by
  by_cases hk : keep ≤ 0
  · go_enter Tryd.func37, Tryd.ntmps37
    go_wp2
    refine bodyPost_ret (v := .agg #[.slice none 0 0, .int .i64 0]) (by simp [results, Tryd.results37, go_sem]) rfl ⟨rfl, below2 w _ _⟩
  · go_enter Tryd.func37, Tryd.ntmps37
    go_wp2
    refine bodyPost_ret (v := .agg #[.slice none 0 0, .int .i64 0]) (by simp [results, Tryd.results37, go_sem]) rfl ⟨rfl, below2 w _ _⟩

theorem flat_take (ps : List (R × Value)) (N : Nat) : flat (ps.take N) = (flat ps).take (N * 3) := by
  induction ps generalizing N with
  | nil => simp [flat]
  | cons p t ih =>
    cases N with
    | zero => simp [flat]
    | succ N =>
      rw [show (N + 1) * 3 = N * 3 + 3 by omega]
      simp [flat, ih]

theorem Made.take {w : World} {lo N : Nat} {ao : Option Addr} {cap : Nat} {rs : List R} (h : Made w lo (.slice ao rs.length cap) rs) (hN : N ≤ rs.length) : Made w lo (.slice ao N cap) (rs.take N) := by
  obtain ⟨ps, hp, h1, h2, h3⟩ := h
  have hpl : ps.length = rs.length := by have := congrArg List.length hp; simpa using this
  refine ⟨ps.take N, by rw [List.map_take, hp], ?_, ?_, h3.1, fun p hp => h3.2.1 p (List.mem_of_mem_take hp), fun i j p q hi hj hij => ?_⟩
  · have hl : (ps.take N).length = N := by rw [List.length_take]; omega
    rw [hl, flat_take]
    refine ⟨by rw [List.length_take, h1.1]; rw [hpl]; omega, ?_⟩
    rcases h1.2 with ⟨hv, hn⟩ | ⟨g, cp, cur, hv, hg, hh, hnc, hcm, hcs, htk⟩
    · simp only [Value.slice.injEq] at hv
      obtain ⟨e1, e2, e3⟩ := hv
      exact Or.inl ⟨by rw [e1, e3, show N = 0 by omega], by omega⟩
    · simp only [Value.slice.injEq] at hv
      obtain ⟨e1, e2, e3⟩ := hv
      refine Or.inr ⟨g, cp, cur, by rw [e1, e3], hg, hh, by omega, hcm, hcs, ?_⟩
      rw [← htk, List.take_take, Nat.min_eq_left (by rw [hpl]; omega)]
  · intro k hk
    refine h2 k ?_
    cases ao with
    | none => cases hk
    | some a => exact hk
  · have hi' : i < N ∧ ps[i]? = some p := by
      rw [List.getElem?_take] at hi
      split at hi
      · exact ⟨by assumption, hi⟩
      · cases hi
    have hj' : j < N ∧ ps[j]? = some q := by
      rw [List.getElem?_take] at hj
      split at hj
      · exact ⟨by assumption, hj⟩
      · cases hj
    exact h3.2.2 i j p q hi'.2 hj'.2 hij

theorem Recs.take {w : World} {N cap : Nat} {ao : Option Addr} {rs : List R} (h : Recs w (.slice ao rs.length cap) rs) (hN : N ≤ rs.length) : Recs w (.slice ao N cap) (rs.take N) := by
  have hl : (rs.take N).length = N := by rw [List.length_take]; omega
  by_cases h0 : N = 0
  · subst h0
    exact Or.inl ⟨by simp, ao, cap, rfl⟩
  rcases h with ⟨hz, _⟩ | ⟨b, off, cp, hv, hz, hc⟩
  · rw [hz] at hN; simp at hN; omega
  · simp only [Value.slice.injEq] at hv
    obtain ⟨e1, _, e3⟩ := hv
    refine Or.inr ⟨b, off, cp, by rw [hl, e1, e3], by intro e; rw [e] at hl; simp at hl; omega, fun i r hr => ?_⟩
    rw [List.getElem?_take] at hr
    split at hr
    · exact hc i r hr
    · cases hr

theorem pre_take (rs : List R) (N : Nat) (hN : N ≤ rs.length) : tot (rs.take N) ≤ tot rs := by
  have h1 := pre_le rs N
  have h2 : pre (rs.take N) (rs.take N).length = pre rs N := by unfold pre; rw [List.take_length]
  unfold tot
  rw [h2, List.length_take]; omega

/-- What a fall leaves. -/
def fallR (rs : List R) (f keep : Int) : List R := if logOk rs f then rs.take (fallN rs.length f keep) else []
def fallF (rs : List R) (f keep : Int) : Int := if logOk rs f then fallN rs.length f keep else 0

theorem logOk_f {rs : List R} {f : Int} (h : logOk rs f = true) : 0 ≤ f ∧ f ≤ rs.length ∧ rs.length ≤ 40 := by
  unfold logOk at h
  simp only [Bool.and_eq_true, decide_eq_true_eq] at h
  have := Pl.inB_true h.2.2
  omega

end Go.Proofs.YtgeagfglkgpoiaaDoor

namespace Go.Proofs.YtgeagfglkgpoiaaDoor
open Go.RowKit

theorem Made.form {w : World} {lo cap : Nat} {ao : Option Addr} {rs : List R} (h : Made w lo (.slice ao rs.length cap) rs) : (ao = Option.none ∧ rs = [] ∧ cap = 0) ∨ ∃ g, ao = some ⟨g, 0, Option.none⟩ ∧ rs.length ≤ cap := by
  obtain ⟨ps, hp, h1, _, _⟩ := h
  have hpl : ps.length = rs.length := by have := congrArg List.length hp; simpa using this
  rcases h1.2 with ⟨hv, hn⟩ | ⟨g, cp, cur, hv, hg, hh, hnc, _⟩
  · simp only [Value.slice.injEq] at hv
    exact Or.inl ⟨hv.1, List.length_eq_zero_iff.1 hv.2.1, hv.2.2⟩
  · simp only [Value.slice.injEq] at hv
    exact Or.inr ⟨g, hv.1, by omega⟩

set_option maxHeartbeats 4000000 in
theorem implFall_any (b off cv : Nat) (rs : List R) (f keep : Int) (a : Addr) (w : World) (hv : Recs w (.slice (some ⟨b, off, none⟩) rs.length cv) rs) (hcv : rs.length ≤ cv) (hl : tot rs ≤ 1048576) (ha : ErrAt w a) :
    Calls Tryd.prog 20 #[.agg #[.slice (some ⟨b, off, none⟩) rs.length cv, .int .i64 f], .int .i64 keep] w fun e w' => LogOut w w' e (fallR rs f keep) (fallF rs f keep) := by
  have hrl := tot_len rs
  have HV : Hid (∀ W, Below w.heap.size w W → Recs W (.slice (some ⟨b, off, none⟩) rs.length cv) rs) := fun W h => hv.later h (Nat.le_refl _)
  have HA : Hid (∀ W, Below w.heap.size w W → ErrAt W a) := fun W h => ha.later h (Nat.le_refl _)
  have HT : Hid (∀ o, Two ((w.alloc (.cells #[.slice (some ⟨b, off, none⟩) rs.length cv, .int .i64 f] 25)).alloc o) w.heap.size (.slice (some ⟨b, off, none⟩) rs.length cv) (.int .i64 f)) := fun o => Two.later (show Two _ _ _ _ from box2 w _ _ _) (alloc_below _ o) (Nat.le_refl _)
  clear hv ha
  have HS : Hid (∀ o1 o2, Calls Tryd.prog 39 #[.agg #[.slice (some ⟨b, off, none⟩) rs.length cv, .int .i64 f]] ((w.alloc o1).alloc o2) fun e w' => e = .returned (.bool (logOk rs f)) ∧ Below ((w.alloc o1).alloc o2).heap.size ((w.alloc o1).alloc o2) w') := fun o1 o2 =>
    implLogOk_any _ rs f a _ (HV.out _ (below2 w o1 o2)) hl (HA.out _ (below2 w o1 o2))
  cases hok : logOk rs f
  · have HR : Hid (fallR rs f keep = [] ∧ fallF rs f keep = 0) := by constructor <;> simp [fallR, fallF, hok]
    rw [hok] at HS
    clear hok
    go_enter Tryd.func20, Tryd.ntmps20
    go_wp2_with fail
    refine (HS.out _ _).mono ?_
    rintro e w1 ⟨rfl, hb⟩
    obtain ⟨hc, hf⟩ := bcell hb
    have hz : w.heap.size + 2 ≤ w1.heap.size := by have := hb.size; rw [size2] at this; exact this
    rw [size2] at hc hf
    have HB := hide_it ((below2 w _ _).trans (hb.mono (by simp; omega)))
    clear hb
    go_wp2
    refine bodyPost_ret (v := .agg #[.slice none 0 0, .int .i64 0]) (by simp [results, Tryd.results20, go_sem, hc]) rfl ?_
    unfold LogOut
    rw [HR.out.1, HR.out.2]
    refine ⟨none, 0, rfl, Made.none _ _, ?_⟩
    exact (HB.out.setCell (by simp) _).setCell (by simp) _
  · obtain ⟨hf0, hfn, _⟩ := logOk_f hok
    obtain ⟨N, hN⟩ : ∃ N, Hid (N = fallN rs.length f keep) := ⟨_, rfl⟩
    have hNl : N ≤ rs.length := by rw [hN.out]; exact fallN_le hf0 hfn
    have HR : Hid (fallR rs f keep = rs.take N ∧ fallF rs f keep = N) := by rw [hN.out]; constructor <;> simp [fallR, fallF, hok]
    rw [hok] at HS
    clear hok
    have HLN : Hid ((rs.take N).length = N) := by show _ = _; rw [List.length_take]; omega
    have HFC : Hid (∀ W, Below w.heap.size w W → Calls Tryd.prog 41 #[.slice (some ⟨b, off, none⟩) N cv] W fun e w' => ∃ ao cap, e = .returned (.agg #[.slice ao N cap, .int .i64 N]) ∧ Made w' W.heap.size (.slice ao N cap) (rs.take N) ∧ Below W.heap.size W w') := fun W h => by
      have h2 := forced_any _ (rs.take N) W ((HV.out _ h).take hNl) (Nat.le_trans (pre_take rs N hNl) hl)
      unfold LogOut at h2
      rw [HLN.out] at h2
      exact h2
    -- how many are left, in the walk's own words
    obtain ⟨F, rfl⟩ := Int.eq_ofNat_of_zero_le hf0
    by_cases hk : keep < 0
    · have hNF : N = F := by rw [hN.out, fallN_lo (by omega)]
      subst hNF
      go_enter Tryd.func20, Tryd.ntmps20
      go_wp2_with fail
      refine (HS.out _ _).mono ?_
      rintro e w1 ⟨rfl, hb⟩
      have HB := hide_it ((below2 w _ _).trans (hb.mono (by simp; omega)))
      have HZ : Hid (Zero2 w1 (w.heap.size + 1)) := Zero2.later (by exact Zero2.new2 _ _ _) hb (by simp)
      obtain ⟨t0, t1⟩ := (HT.out _).later hb (Nat.le_refl _)
      have hz : w.heap.size + 2 ≤ w1.heap.size := by have := hb.size; rw [size2] at this; exact this
      clear hb
      go_wp2_with fail
      refine (HFC.out _ HB.out).mono ?_
      rintro e w2 ⟨ao, cap, rfl, hm, hb2⟩
      have HM := hide_it hm
      have HB2 := hide_it (HB.out.trans (hb2.mono HB.out.size))
      obtain ⟨r0, r1, z0, z1⟩ := HZ.out.later hb2 (by omega)
      clear hm hb2
      go_wp2
      refine bodyPost_ret (v := .agg #[.slice ao N cap, .int .i64 ((N : Nat) : Int)]) (by simp [results, Tryd.results20, go_sem, r0, r1]) rfl ?_
      unfold LogOut
      rw [HR.out.1, HR.out.2, HLN.out]
      refine ⟨ao, cap, rfl, ?_, ?_⟩
      · exact ((HM.out.setBelow (by simp; omega) _).setBelow (by simp; omega) _).lo (by omega)
      · exact (HB2.out.setCell (by simp) _).setCell (by simp) _
    by_cases hk0 : keep = 0
    · subst hk0
      have hNF : N = F := by rw [hN.out, fallN_lo (by omega)]
      subst hNF
      go_enter Tryd.func20, Tryd.ntmps20
      go_wp2_with fail
      refine (HS.out _ _).mono ?_
      rintro e w1 ⟨rfl, hb⟩
      have HB := hide_it ((below2 w _ _).trans (hb.mono (by simp; omega)))
      have HZ : Hid (Zero2 w1 (w.heap.size + 1)) := Zero2.later (by exact Zero2.new2 _ _ _) hb (by simp)
      obtain ⟨t0, t1⟩ := (HT.out _).later hb (Nat.le_refl _)
      have hz : w.heap.size + 2 ≤ w1.heap.size := by have := hb.size; rw [size2] at this; exact this
      clear hb
      go_wp2_with fail
      refine (HFC.out _ HB.out).mono ?_
      rintro e w2 ⟨ao, cap, rfl, hm, hb2⟩
      have HM := hide_it hm
      have HB2 := hide_it (HB.out.trans (hb2.mono HB.out.size))
      obtain ⟨r0, r1, z0, z1⟩ := HZ.out.later hb2 (by omega)
      clear hm hb2
      go_wp2
      refine bodyPost_ret (v := .agg #[.slice ao N cap, .int .i64 ((N : Nat) : Int)]) (by simp [results, Tryd.results20, go_sem, r0, r1]) rfl ?_
      unfold LogOut
      rw [HR.out.1, HR.out.2, HLN.out]
      refine ⟨ao, cap, rfl, ?_, ?_⟩
      · exact ((HM.out.setBelow (by simp; omega) _).setBelow (by simp; omega) _).lo (by omega)
      · exact (HB2.out.setCell (by simp) _).setCell (by simp) _
    obtain ⟨K, rfl⟩ := Int.eq_ofNat_of_zero_le (show 0 ≤ keep by omega)
    by_cases hlt : (K : Int) ≤ rs.length - F
    · have hNF : N = F + K := by rw [hN.out, fallN_mid (by omega) hlt]
      subst hNF
      have hle : F + K ≤ rs.length := by omega
      go_enter Tryd.func20, Tryd.ntmps20
      go_wp2_with fail
      refine (HS.out _ _).mono ?_
      rintro e w1 ⟨rfl, hb⟩
      have HB := hide_it ((below2 w _ _).trans (hb.mono (by simp; omega)))
      have HZ : Hid (Zero2 w1 (w.heap.size + 1)) := Zero2.later (by exact Zero2.new2 _ _ _) hb (by simp)
      obtain ⟨t0, t1⟩ := (HT.out _).later hb (Nat.le_refl _)
      have hz : w.heap.size + 2 ≤ w1.heap.size := by have := hb.size; rw [size2] at this; exact this
      clear hb
      go_wp2_with fail
      refine (HFC.out _ HB.out).mono ?_
      rintro e w2 ⟨ao, cap, rfl, hm, hb2⟩
      have HM := hide_it hm
      have HB2 := hide_it (HB.out.trans (hb2.mono HB.out.size))
      obtain ⟨r0, r1, z0, z1⟩ := HZ.out.later hb2 (by omega)
      clear hm hb2
      go_wp2
      refine bodyPost_ret (v := .agg #[.slice ao (F + K) cap, .int .i64 (((F + K) : Nat) : Int)]) (by simp [results, Tryd.results20, go_sem, r0, r1]) rfl ?_
      unfold LogOut
      rw [HR.out.1, HR.out.2, HLN.out]
      refine ⟨ao, cap, rfl, ?_, ?_⟩
      · exact ((HM.out.setBelow (by simp; omega) _).setBelow (by simp; omega) _).lo (by omega)
      · exact (HB2.out.setCell (by simp) _).setCell (by simp) _
    · have hNF : N = rs.length := by rw [hN.out, fallN_all (by omega) hlt]
      subst hNF
      have HE : Hid ((F : Int) + ((rs.length : Int) - F) = rs.length) := by show _ = _; omega
      have HE2 : Hid (F + (rs.length - F) = rs.length) := by show _ = _; omega
      go_enter Tryd.func20, Tryd.ntmps20
      go_wp2_with fail
      refine (HS.out _ _).mono ?_
      rintro e w1 ⟨rfl, hb⟩
      have HB := hide_it ((below2 w _ _).trans (hb.mono (by simp; omega)))
      have HZ : Hid (Zero2 w1 (w.heap.size + 1)) := Zero2.later (by exact Zero2.new2 _ _ _) hb (by simp)
      obtain ⟨t0, t1⟩ := (HT.out _).later hb (Nat.le_refl _)
      have hz : w.heap.size + 2 ≤ w1.heap.size := by have := hb.size; rw [size2] at this; exact this
      clear hb
      go_wp2_with fail
      rw [HE.out, HE2.out]
      refine (HFC.out _ HB.out).mono ?_
      rintro e w2 ⟨ao, cap, rfl, hm, hb2⟩
      have HM := hide_it hm
      have HB2 := hide_it (HB.out.trans (hb2.mono HB.out.size))
      obtain ⟨r0, r1, z0, z1⟩ := HZ.out.later hb2 (by omega)
      clear hm hb2
      go_wp2
      refine bodyPost_ret (v := .agg #[.slice ao rs.length cap, .int .i64 ((rs.length : Nat) : Int)]) (by simp [results, Tryd.results20, go_sem, r0, r1]) rfl ?_
      unfold LogOut
      rw [HR.out.1, HR.out.2, HLN.out]
      refine ⟨ao, cap, rfl, ?_, ?_⟩
      · exact ((HM.out.setBelow (by simp; omega) _).setBelow (by simp; omega) _).lo (by omega)
      · exact (HB2.out.setCell (by simp) _).setCell (by simp) _

end Go.Proofs.YtgeagfglkgpoiaaDoor

namespace Go.Proofs.YtgeagfglkgpoiaaDoor
open Go.RowKit

/-- The slice of a list that the call itself has made, or nil. -/
def Form (v : Value) (n : Nat) : Prop := (v = .slice none 0 0 ∧ n = 0) ∨ ∃ g cap, v = .slice (some ⟨g, 0, none⟩) n cap ∧ n ≤ cap
theorem form_of_row {w : World} {base : Nat} {e : TypeId} {size : Nat} {v : Value} {n : Nat} {xs : List Value} (h : w.ownsRow base e size v n xs) : Form v n := by
  rcases h.2 with h | ⟨g, cap, cur, hv, _, _, hc, _⟩
  · exact Or.inl h
  · exact Or.inr ⟨g, cap, hv, hc⟩

set_option maxHeartbeats 4000000 in
theorem implFall_nil (f keep : Int) (a : Addr) (w : World) (ha : ErrAt w a) :
    Calls Tryd.prog 20 #[.agg #[.slice none 0 0, .int .i64 f], .int .i64 keep] w fun e w' => LogOut w w' e (fallR [] f keep) (fallF [] f keep) := by
  have hv : Recs w (.slice none 0 0) [] := Or.inl ⟨rfl, none, 0, rfl⟩
  have HV : Hid (∀ W, Below w.heap.size w W → Recs W (.slice none 0 0) []) := fun W h => hv.later h (Nat.le_refl _)
  have HA : Hid (∀ W, Below w.heap.size w W → ErrAt W a) := fun W h => ha.later h (Nat.le_refl _)
  have HT : Hid (∀ o, Two ((w.alloc (.cells #[.slice none 0 0, .int .i64 f] 25)).alloc o) w.heap.size (.slice none 0 0) (.int .i64 f)) := fun o => Two.later (show Two _ _ _ _ from box2 w _ _ _) (alloc_below _ o) (Nat.le_refl _)
  clear hv ha
  have HS : Hid (∀ o1 o2, Calls Tryd.prog 39 #[.agg #[.slice none 0 0, .int .i64 f]] ((w.alloc o1).alloc o2) fun e w' => e = .returned (.bool (logOk [] f)) ∧ Below ((w.alloc o1).alloc o2).heap.size ((w.alloc o1).alloc o2) w') := fun o1 o2 =>
    implLogOk_any _ [] f a _ (HV.out _ (below2 w o1 o2)) (by simp [tot, pre]) (HA.out _ (below2 w o1 o2))
  cases hok : logOk [] f
  · have HR : Hid (fallR [] f keep = [] ∧ fallF [] f keep = 0) := by constructor <;> simp [fallR, fallF, hok]
    rw [hok] at HS
    clear hok
    go_enter Tryd.func20, Tryd.ntmps20
    go_wp2_with fail
    refine (HS.out _ _).mono ?_
    rintro e w1 ⟨rfl, hb⟩
    obtain ⟨hc, hf⟩ := bcell hb
    have hz : w.heap.size + 2 ≤ w1.heap.size := by have := hb.size; rw [size2] at this; exact this
    rw [size2] at hc hf
    have HB := hide_it ((below2 w _ _).trans (hb.mono (by simp; omega)))
    clear hb
    go_wp2
    refine bodyPost_ret (v := .agg #[.slice none 0 0, .int .i64 0]) (by simp [results, Tryd.results20, go_sem, hc]) rfl ?_
    unfold LogOut
    rw [HR.out.1, HR.out.2]
    refine ⟨none, 0, rfl, Made.none _ _, ?_⟩
    exact (HB.out.setCell (by simp) _).setCell (by simp) _
  · obtain ⟨hf0, hfn, _⟩ := logOk_f hok
    obtain rfl : f = 0 := by simp at hfn; omega
    have HR : Hid (fallR [] 0 keep = [] ∧ fallF [] 0 keep = 0) := by
      constructor
      · simp [fallR]
      · simp only [fallF, hok, if_true]
        have := fallN_le (n := 0) (f := 0) (keep := keep) (by omega) (by omega)
        simp at this ⊢
        omega
    rw [hok] at HS
    clear hok hf0 hfn
    have HFC : Hid (∀ W, Below w.heap.size w W → Calls Tryd.prog 41 #[.slice none 0 0] W fun e w' => ∃ ao cap, e = .returned (.agg #[.slice ao 0 cap, .int .i64 0]) ∧ Made w' W.heap.size (.slice ao 0 cap) [] ∧ Below W.heap.size W w') := fun W h =>
      forced_any _ [] W (HV.out _ h) (by simp [tot, pre])
    by_cases hk : keep < 0
    · go_enter Tryd.func20, Tryd.ntmps20
      go_wp2_with fail
      refine (HS.out _ _).mono ?_
      rintro e w1 ⟨rfl, hb⟩
      have HB := hide_it ((below2 w _ _).trans (hb.mono (by simp; omega)))
      have HZ : Hid (Zero2 w1 (w.heap.size + 1)) := Zero2.later (by exact Zero2.new2 _ _ _) hb (by simp)
      obtain ⟨t0, t1⟩ := (HT.out _).later hb (Nat.le_refl _)
      have hz : w.heap.size + 2 ≤ w1.heap.size := by have := hb.size; rw [size2] at this; exact this
      clear hb
      go_wp2_with fail
      refine (HFC.out _ HB.out).mono ?_
      rintro e w2 ⟨ao, cap, rfl, hm, hb2⟩
      have HM := hide_it hm
      have HB2 := hide_it (HB.out.trans (hb2.mono HB.out.size))
      obtain ⟨r0, r1, z0, z1⟩ := HZ.out.later hb2 (by omega)
      clear hm hb2
      go_wp2
      refine bodyPost_ret (v := .agg #[.slice ao 0 cap, .int .i64 0]) (by simp [results, Tryd.results20, go_sem, r0, r1]) rfl ?_
      unfold LogOut
      rw [HR.out.1, HR.out.2]
      refine ⟨ao, cap, rfl, ?_, ?_⟩
      · exact ((HM.out.setBelow (by simp; omega) _).setBelow (by simp; omega) _).lo (by omega)
      · exact (HB2.out.setCell (by simp) _).setCell (by simp) _
    by_cases hk0 : keep = 0
    · subst hk0
      go_enter Tryd.func20, Tryd.ntmps20
      go_wp2_with fail
      refine (HS.out _ _).mono ?_
      rintro e w1 ⟨rfl, hb⟩
      have HB := hide_it ((below2 w _ _).trans (hb.mono (by simp; omega)))
      have HZ : Hid (Zero2 w1 (w.heap.size + 1)) := Zero2.later (by exact Zero2.new2 _ _ _) hb (by simp)
      obtain ⟨t0, t1⟩ := (HT.out _).later hb (Nat.le_refl _)
      have hz : w.heap.size + 2 ≤ w1.heap.size := by have := hb.size; rw [size2] at this; exact this
      clear hb
      go_wp2_with fail
      refine (HFC.out _ HB.out).mono ?_
      rintro e w2 ⟨ao, cap, rfl, hm, hb2⟩
      have HM := hide_it hm
      have HB2 := hide_it (HB.out.trans (hb2.mono HB.out.size))
      obtain ⟨r0, r1, z0, z1⟩ := HZ.out.later hb2 (by omega)
      clear hm hb2
      go_wp2
      refine bodyPost_ret (v := .agg #[.slice ao 0 cap, .int .i64 0]) (by simp [results, Tryd.results20, go_sem, r0, r1]) rfl ?_
      unfold LogOut
      rw [HR.out.1, HR.out.2]
      refine ⟨ao, cap, rfl, ?_, ?_⟩
      · exact ((HM.out.setBelow (by simp; omega) _).setBelow (by simp; omega) _).lo (by omega)
      · exact (HB2.out.setCell (by simp) _).setCell (by simp) _
    · have hk1 : 0 < keep := by omega
      go_enter Tryd.func20, Tryd.ntmps20
      go_wp2_with fail
      refine (HS.out _ _).mono ?_
      rintro e w1 ⟨rfl, hb⟩
      have HB := hide_it ((below2 w _ _).trans (hb.mono (by simp; omega)))
      have HZ : Hid (Zero2 w1 (w.heap.size + 1)) := Zero2.later (by exact Zero2.new2 _ _ _) hb (by simp)
      obtain ⟨t0, t1⟩ := (HT.out _).later hb (Nat.le_refl _)
      have hz : w.heap.size + 2 ≤ w1.heap.size := by have := hb.size; rw [size2] at this; exact this
      clear hb
      go_wp2_with fail
      refine (HFC.out _ HB.out).mono ?_
      rintro e w2 ⟨ao, cap, rfl, hm, hb2⟩
      have HM := hide_it hm
      have HB2 := hide_it (HB.out.trans (hb2.mono HB.out.size))
      obtain ⟨r0, r1, z0, z1⟩ := HZ.out.later hb2 (by omega)
      clear hm hb2
      go_wp2
      refine bodyPost_ret (v := .agg #[.slice ao 0 cap, .int .i64 0]) (by simp [results, Tryd.results20, go_sem, r0, r1]) rfl ?_
      unfold LogOut
      rw [HR.out.1, HR.out.2]
      refine ⟨ao, cap, rfl, ?_, ?_⟩
      · exact ((HM.out.setBelow (by simp; omega) _).setBelow (by simp; omega) _).lo (by omega)
      · exact (HB2.out.setCell (by simp) _).setCell (by simp) _

/-- Whatever list the call itself has made. -/
theorem implFall_form (v : Value) (rs : List R) (f keep : Int) (a : Addr) (w : World) (hv : Recs w v rs) (hf : Form v rs.length) (hl : tot rs ≤ 1048576) (ha : ErrAt w a) :
    Calls Tryd.prog 20 #[.agg #[v, .int .i64 f], .int .i64 keep] w fun e w' => LogOut w w' e (fallR rs f keep) (fallF rs f keep) := by
  rcases hf with ⟨rfl, hn⟩ | ⟨g, cap, rfl, hc⟩
  · obtain rfl : rs = [] := List.length_eq_zero_iff.1 hn
    exact implFall_nil f keep a w ha
  · exact implFall_any g 0 cap rs f keep a w hv hc hl ha

end Go.Proofs.YtgeagfglkgpoiaaDoor

namespace Go.Proofs.YtgeagfglkgpoiaaDoor
open Go.RowKit

/-- A fall of a log that was just copied. -/
theorem l1Fall_made {W : World} {lo cap : Nat} {ao : Option Addr} {rs : List R} {f keep : Int} (hm : Made W lo (.slice ao rs.length cap) rs) (hl : rs.length ≤ 1048576) (h0 : 0 ≤ f) (h1 : f ≤ rs.length) :
    Calls Tryd.prog 37 #[.agg #[.slice ao rs.length cap, .int .i64 f], .int .i64 keep] W fun e w' => e = .returned (.agg #[.slice ao (fallN rs.length f keep) cap, .int .i64 (fallN rs.length f keep)]) ∧ Below W.heap.size W w' := by
  rcases hm.form with ⟨rfl, rfl, rfl⟩ | ⟨g, rfl, hc⟩
  · have hf : f = 0 := by simp at h1; omega
    subst hf
    have hN : fallN 0 0 keep = 0 := by have := fallN_le (n := 0) (f := 0) (keep := keep) (by omega) (by omega); omega
    have h := l1Fall_nil keep W
    simp only [List.length_nil, hN]
    exact h
  · exact l1Fall_some g 0 rs.length cap f keep W hc hl h0 h1

end Go.Proofs.YtgeagfglkgpoiaaDoor

namespace Go.Proofs.YtgeagfglkgpoiaaDoor
open Go.RowKit

/-- A house as plain data: its number, whether it is up, how many it has, its records, how many of them are forced. -/
abbrev Ho := Int × Bool × Int × List R × Int
def hoZ : Ho := (0, false, 0, [], 0)
def hoForce (id : Int) (up : Bool) (room : Int) (rs : List R) (f : Int) : Ho := if hoOk id room rs f = true then (id, up, room, rs, if up = true then rs.length else f) else hoZ
def hoFall (id room : Int) (rs : List R) (f keep : Int) : Ho := if hoOk id room rs f = true then (id, false, room, rs.take (fallN rs.length f keep), fallN rs.length f keep) else hoZ
def hoRise (id room : Int) (rs : List R) (f : Int) : Ho := if hoOk id room rs f = true then (id, true, room, rs, f) else hoZ
def HoO (w w' : World) (e : Ending) (o : Ho) : Prop := HoOut w w' e o.1 o.2.1 o.2.2.1 o.2.2.2.1 o.2.2.2.2
theorem HoO.none_ {w w' : World} (h : Below w.heap.size w w') : HoO w w' (.returned (houseV 0 false 0 (.slice none 0 0) 0)) hoZ := ⟨none, 0, rfl, Made.none _ _, h⟩
theorem hoForce_tot (id : Int) (up : Bool) (room : Int) (rs : List R) (f : Int) (hl : tot rs ≤ 1048576) : tot (hoForce id up room rs f).2.2.2.1 ≤ 1048576 := by
  unfold hoForce; split
  · exact hl
  · simp [hoZ, tot, pre]
theorem hoRise_tot (id room : Int) (rs : List R) (f : Int) (hl : tot rs ≤ 1048576) : tot (hoRise id room rs f).2.2.2.1 ≤ 1048576 := by
  unfold hoRise; split
  · exact hl
  · simp [hoZ, tot, pre]
theorem hoFall_tot (id room : Int) (rs : List R) (f keep : Int) (hl : tot rs ≤ 1048576) : tot (hoFall id room rs f keep).2.2.2.1 ≤ 1048576 := by
  unfold hoFall; split
  · obtain ⟨h0, h1, _⟩ := logOk_f (hoOk_parts (by assumption)).2.1
    exact Nat.le_trans (pre_take rs _ (fallN_le h0 h1)) hl
  · simp [hoZ, tot, pre]
theorem Made.setTwo {w : World} {lo b : Nat} {v : Value} {rs : List R} (h : Made w lo v rs) (hb : b < lo) (x y : Value) (i j : Nat) : Made ((w.setCell ⟨b, i, Option.none⟩ x).setCell ⟨b, j, Option.none⟩ y) lo v rs :=
  (h.setBelow (by simpa using hb) _).setBelow (by simpa using hb) _
/-- A store into a block that holds a house leaves records that the call made. -/
theorem Made.setHouse {w : World} {lo b j : Nat} {v : Value} {rs : List R} {cur : Array Value} (h : Made w lo v rs) (hh : Blk w b cur 27) (x : Value) : Made (w.setCell ⟨b, j, Option.none⟩ x) lo v rs := by
  obtain ⟨ps, hp, h1, h2, h3⟩ := h
  have hs : (w.setCell ⟨b, j, Option.none⟩ x).heap.size = w.heap.size := by simp
  have ap : ∀ {e : TypeId} {sz n : Nat} {y : Value} {xs : List Value}, w.ownsRow lo e sz y n xs → e ≠ 27 → ∀ g, y.ownBlock = some g → g ≠ b := fun hr he g hg => by
    rcases hr.2 with ⟨hv, _⟩ | ⟨g', cap, cur', hv, _, hc, _⟩
    · rw [hv] at hg; simp [Value.ownBlock] at hg
    · rw [hv] at hg
      simp [Value.ownBlock] at hg
      subst hg
      intro e2
      subst e2
      unfold Blk at hh
      rw [hh] at hc
      simp at hc
      exact he hc.2.symm
  refine ⟨ps, hp, ownsRow_setCell_ne h1 (ap h1 (by decide)) x, by rw [hs]; exact h2, ?_⟩
  rw [hs]
  exact ⟨by rw [hs]; exact h3.1, fun p hp => ⟨ownsRow_setCell_ne (h3.2.1 p hp).1 (ap (h3.2.1 p hp).1 (by decide)) x, (h3.2.1 p hp).2⟩, h3.2.2⟩

set_option maxHeartbeats 4000000 in
theorem specHFall_any (id : Int) (up : Bool) (room : Int) (v : Value) (rs : List R) (f : Int) (keep : Int) (w : World) (hv : Recs w v rs) (hl : tot rs ≤ 1048576) :
    Calls Tryd.prog 16 #[houseV id up room v f, .int .i64 keep] w fun e w' => HoO w w' e (hoFall id room rs f keep) := by
  have hrl := tot_len rs
  have HV : Hid (∀ W, Below w.heap.size w W → Recs W v rs) := fun W h => hv.later h (Nat.le_refl _)
  have HOK : Hid (∀ W, Below w.heap.size w W → Calls Tryd.prog 9 #[houseV id up room v f] W fun e w' => e = .returned (.bool (hoOk id room rs f)) ∧ Below W.heap.size W w') := fun W h =>
    specHouseOk_any id up room v rs f W (HV.out W h) hl
  obtain ⟨av, cv, rfl⟩ := hv.shape
  clear hv
  obtain ⟨w0, hw0⟩ : ∃ W, Hid (W = (w.alloc (.cells #[.int .i64 id, .bool up, .int .i64 room, .slice av rs.length cv, .int .i64 f] 27)).alloc (.cells #[.int .i64 0, .bool false, .int .i64 0, .slice none 0 0, .int .i64 0] 27)) := ⟨_, rfl⟩
  have B0 : Hid (Below w.heap.size w w0) := by show Below _ _ _; rw [hw0.out]; exact below2 _ _ _
  have X0 : Hid (Blk w0 w.heap.size #[.int .i64 id, .bool up, .int .i64 room, .slice av rs.length cv, .int .i64 f] 27) := by show Blk _ _ _ _; rw [hw0.out]; exact (Blk.new _ _ _).alloc _
  have Z0 : Hid (Blk w0 (w.heap.size + 1) #[.int .i64 0, .bool false, .int .i64 0, .slice none 0 0, .int .i64 0] 27) := by show Blk _ _ _ _; rw [hw0.out]; exact Blk.new2 _ _ _ _
  have hs0 : w0.heap.size = w.heap.size + 2 := by rw [hw0.out, size2]
  cases hok : hoOk id room rs f
  · have HR : Hid (hoFall id room rs f keep = hoZ) := by show _ = _; simp [hoFall, hok]
    rw [hok] at HOK
    rw [HR.out]
    clear hok
    go_enter Tryd.func16, Tryd.ntmps16
    go_wp2_with fail
    rw [← hw0.out]
    refine (HOK.out _ B0.out).mono ?_
    rintro e w1 ⟨rfl, hb⟩
    obtain ⟨z0, z1, z2, z3, z4⟩ := (Z0.out.after hb).cells5
    obtain ⟨zf0, zf1, zf2, zf3, zf4⟩ := (Z0.out.after hb).free5
    have HB := hide_it (B0.out.trans (hb.mono B0.out.size))
    clear hb
    go_wp2
    refine bodyPost_ret (v := houseV 0 false 0 (.slice none 0 0) 0) (by simp [results, Tryd.results16, go_sem, *]) rfl (HoO.none_ ?_)
    repeat (refine Below.setCell ?_ (by first | (simp; done) | (simp; omega)) _)
    exact HB.out
  · have HR : Hid (hoFall id room rs f keep = (id, false, room, rs.take (fallN rs.length f keep), (fallN rs.length f keep : Int))) := by show _ = _; simp [hoFall, hok]
    obtain ⟨lf0, lf1, -⟩ := logOk_f (hoOk_parts hok).2.1
    have hN := fallN_le (keep := keep) lf0 lf1
    obtain ⟨N, hNN⟩ : ∃ N, Hid (fallN rs.length f keep = N) := ⟨_, rfl⟩
    rw [hok] at HOK
    rw [HR.out]
    rw [hNN.out] at hN ⊢
    clear HR
    go_enter Tryd.func16, Tryd.ntmps16
    go_wp2_with fail
    rw [← hw0.out]
    refine (HOK.out _ B0.out).mono ?_
    rintro e w1 ⟨rfl, hb1⟩
    have X1 := hide_it (X0.out.after hb1)
    have Z1 := hide_it (Z0.out.after hb1)
    have B1 := hide_it (B0.out.trans (hb1.mono B0.out.size))
    have hs1 : w.heap.size + 2 ≤ w1.heap.size := by have := hb1.size; omega
    obtain ⟨x0, x1, x2, x3, x4⟩ := X1.out.cells5
    clear hb1
    go_wp2_with fail
    refine (l11Copy_any id up room _ rs f w1 (HV.out _ B1.out) hl).mono ?_
    rintro e w2 ⟨ao, cap, rfl, hm2, hb2⟩
    have Z2 := hide_it (Z1.out.after hb2)
    have B2 := hide_it (B1.out.trans (hb2.mono B1.out.size))
    have M2 := hide_it hm2
    have hs2 : w.heap.size + 2 ≤ w2.heap.size := by have := hb2.size; omega
    clear hb2 hm2 x0 x1 x2 x3 x4
    obtain ⟨w3, hw3⟩ : ∃ W, Hid (W = w2.alloc (.cells #[.int .i64 id, .bool false, .int .i64 room, .slice ao rs.length cap, .int .i64 f] 27)) := ⟨_, rfl⟩
    have al3 : Hid (Below w2.heap.size w2 w3) := by show Below _ _ _; rw [hw3.out]; exact alloc_below _ _
    have hs3 : w3.heap.size = w2.heap.size + 1 := by rw [hw3.out]; simp
    have Z3 := hide_it (Z2.out.after al3.out)
    have K3 : Hid (Blk w3 w2.heap.size #[.int .i64 id, .bool false, .int .i64 room, .slice ao rs.length cap, .int .i64 f] 27) := by show Blk _ _ _ _; rw [hw3.out]; exact Blk.new _ _ _
    have M3 := hide_it (M2.out.below al3.out (Nat.le_refl _))
    have B3 := hide_it (B2.out.trans (al3.out.mono B2.out.size))
    have LF : Hid (Calls Tryd.prog 37 #[.agg #[.slice ao rs.length cap, .int .i64 f], .int .i64 keep] w3 fun e w' => e = .returned (.agg #[.slice ao N cap, .int .i64 N]) ∧ Below w3.heap.size w3 w') := by
      have := l1Fall_made (keep := keep) M3.out (by omega) lf0 lf1
      rw [hNN.out] at this; exact this
    go_wp2_with fail
    rw [← hw3.out]
    refine LF.out.mono ?_
    rintro e w4 ⟨rfl, hb4⟩
    have M4 := hide_it ((M3.out.below hb4 (Nat.le_refl _)).take hN)
    have B4 := hide_it (B3.out.trans (hb4.mono B3.out.size))
    obtain ⟨z0, z1, z2, z3, z4⟩ := (Z3.out.after hb4).cells5
    obtain ⟨zf0, zf1, zf2, zf3, zf4⟩ := (Z3.out.after hb4).free5
    obtain ⟨y0, y1, y2, y3, y4⟩ := (K3.out.after hb4).cells5
    obtain ⟨yf0, yf1, yf2, yf3, yf4⟩ := (K3.out.after hb4).free5
    have hne : w.heap.size + 1 ≠ w2.heap.size := by omega
    have hne2 : w2.heap.size ≠ w.heap.size + 1 := by omega
    have KT := hide_it (K3.out.after hb4)
    have hlen : (rs.take N).length = N := by simp; omega
    clear hb4
    go_wp2
    refine bodyPost_ret (v := houseV id false room (.slice ao N cap) N) (by simp [results, Tryd.results16, go_sem, *]) rfl ?_
    refine ⟨ao, cap, by rw [hlen], ?_, ?_⟩
    · rw [hlen]
      refine Made.lo ?_ (show w.heap.size ≤ w1.heap.size by omega)
      iterate 5 (refine Made.setBelow ?_ (by first | (simp; done) | (simp; omega)) _)
      exact Made.setHouse (Made.setHouse M4.out KT.out _) (KT.out.set_ 3 _) _
    · iterate 5 (refine Below.setCell ?_ (by first | (simp; done) | (simp; omega)) _)
      iterate 2 (refine Below.setCell ?_ (by simp; omega) _)
      exact B4.out

set_option maxHeartbeats 4000000 in
theorem implHRise_any (id : Int) (up : Bool) (room : Int) (v : Value) (rs : List R) (f : Int) (a : Addr) (w : World) (hv : Recs w v rs) (hl : tot rs ≤ 1048576) (ha : ErrAt w a) :
    Calls Tryd.prog 17 #[houseV id up room v f] w fun e w' => HoO w w' e (hoRise id room rs f) := by
  have hrl := tot_len rs
  have HV : Hid (∀ W, Below w.heap.size w W → Recs W v rs) := fun W h => hv.later h (Nat.le_refl _)
  have HA : Hid (∀ W, Below w.heap.size w W → ErrAt W a) := fun W h => ha.later h (Nat.le_refl _)
  have HOK : Hid (∀ W, Below w.heap.size w W → Calls Tryd.prog 18 #[houseV id up room v f] W fun e w' => e = .returned (.bool (hoOk id room rs f)) ∧ Below W.heap.size W w') := fun W h =>
    implHouseOk_any id up room v rs f a W (HV.out W h) hl (HA.out W h)
  obtain ⟨av, cv, rfl⟩ := hv.shape
  clear hv ha
  obtain ⟨w0, hw0⟩ : ∃ W, Hid (W = (w.alloc (.cells #[.int .i64 id, .bool up, .int .i64 room, .slice av rs.length cv, .int .i64 f] 27)).alloc (.cells #[.int .i64 0, .bool false, .int .i64 0, .slice none 0 0, .int .i64 0] 27)) := ⟨_, rfl⟩
  have B0 : Hid (Below w.heap.size w w0) := by show Below _ _ _; rw [hw0.out]; exact below2 _ _ _
  have X0 : Hid (Blk w0 w.heap.size #[.int .i64 id, .bool up, .int .i64 room, .slice av rs.length cv, .int .i64 f] 27) := by show Blk _ _ _ _; rw [hw0.out]; exact (Blk.new _ _ _).alloc _
  have Z0 : Hid (Blk w0 (w.heap.size + 1) #[.int .i64 0, .bool false, .int .i64 0, .slice none 0 0, .int .i64 0] 27) := by show Blk _ _ _ _; rw [hw0.out]; exact Blk.new2 _ _ _ _
  have hs0 : w0.heap.size = w.heap.size + 2 := by rw [hw0.out, size2]
  cases hok : hoOk id room rs f
  · have HR : Hid (hoRise id room rs f = hoZ) := by show _ = _; simp [hoRise, hok]
    rw [hok] at HOK
    rw [HR.out]
    clear hok
    go_enter Tryd.func17, Tryd.ntmps17
    go_wp2_with fail
    rw [← hw0.out]
    refine (HOK.out _ B0.out).mono ?_
    rintro e w1 ⟨rfl, hb⟩
    obtain ⟨z0, z1, z2, z3, z4⟩ := (Z0.out.after hb).cells5
    obtain ⟨zf0, zf1, zf2, zf3, zf4⟩ := (Z0.out.after hb).free5
    have HB := hide_it (B0.out.trans (hb.mono B0.out.size))
    clear hb
    go_wp2
    refine bodyPost_ret (v := houseV 0 false 0 (.slice none 0 0) 0) (by simp [results, Tryd.results17, go_sem, *]) rfl (HoO.none_ ?_)
    repeat (refine Below.setCell ?_ (by first | (simp; done) | (simp; omega)) _)
    exact HB.out
  · have HR : Hid (hoRise id room rs f = (id, true, room, rs, f)) := by show _ = _; simp [hoRise, hok]
    rw [hok] at HOK
    rw [HR.out]
    clear HR
    go_enter Tryd.func17, Tryd.ntmps17
    go_wp2_with fail
    rw [← hw0.out]
    refine (HOK.out _ B0.out).mono ?_
    rintro e w1 ⟨rfl, hb1⟩
    have X1 := hide_it (X0.out.after hb1)
    have Z1 := hide_it (Z0.out.after hb1)
    have B1 := hide_it (B0.out.trans (hb1.mono B0.out.size))
    have hs1 : w.heap.size + 2 ≤ w1.heap.size := by have := hb1.size; omega
    obtain ⟨x0, x1, x2, x3, x4⟩ := X1.out.cells5
    clear hb1
    go_wp2_with fail
    refine (keeperOf_any id up room av rs.length cv f w1).mono ?_
    rintro e w2 ⟨rfl, hb2⟩
    have Z2 := hide_it (Z1.out.after hb2)
    have B2 := hide_it (B1.out.trans (hb2.mono B1.out.size))
    have hs2 : w.heap.size + 2 ≤ w2.heap.size := by have := hb2.size; omega
    clear hb2 x0 x1 x2 x3 x4
    obtain ⟨w3, hw3⟩ : ∃ W, Hid (W = w2.alloc (.cells #[.slice av rs.length cv, .int .i64 f, .int .i64 id, .bool true, .int .i64 room] 52)) := ⟨_, rfl⟩
    have al3 : Hid (Below w2.heap.size w2 w3) := by show Below _ _ _; rw [hw3.out]; exact alloc_below _ _
    have hs3 : w3.heap.size = w2.heap.size + 1 := by rw [hw3.out]; simp
    have Z3 := hide_it (Z2.out.after al3.out)
    have B3 := hide_it (B2.out.trans (al3.out.mono B2.out.size))
    go_wp2_with fail
    rw [← hw3.out]
    refine (keeperHouse_any id true room _ rs f w3 (HV.out _ B3.out) hl).mono ?_
    rintro e w4 ⟨ao, cap, rfl, hm, hb⟩
    obtain ⟨z0, z1, z2, z3, z4⟩ := (Z3.out.after hb).cells5
    obtain ⟨zf0, zf1, zf2, zf3, zf4⟩ := (Z3.out.after hb).free5
    have HM := hide_it hm
    have HB := hide_it (B3.out.trans (hb.mono B3.out.size))
    clear hm hb
    go_wp2
    refine bodyPost_ret (v := houseV id true room (.slice ao rs.length cap) f) (by simp [results, Tryd.results17, go_sem, *]) rfl ?_
    refine ⟨ao, cap, rfl, ?_, ?_⟩
    · refine Made.lo ?_ (show w.heap.size ≤ w3.heap.size by omega)
      repeat (refine Made.setBelow ?_ (by first | (simp; done) | (simp; omega)) _)
      exact HM.out
    · repeat (refine Below.setCell ?_ (by first | (simp; done) | (simp; omega)) _)
      exact HB.out

set_option maxHeartbeats 4000000 in
theorem implHForce_any (id : Int) (up : Bool) (room : Int) (v : Value) (rs : List R) (f : Int) (a : Addr) (w : World) (hv : Recs w v rs) (hl : tot rs ≤ 1048576) (ha : ErrAt w a) :
    Calls Tryd.prog 11 #[houseV id up room v f] w fun e w' => HoO w w' e (hoForce id up room rs f) := by
  have hrl := tot_len rs
  have HV : Hid (∀ W, Below w.heap.size w W → Recs W v rs) := fun W h => hv.later h (Nat.le_refl _)
  have HA : Hid (∀ W, Below w.heap.size w W → ErrAt W a) := fun W h => ha.later h (Nat.le_refl _)
  have HOK : Hid (∀ W, Below w.heap.size w W → Calls Tryd.prog 18 #[houseV id up room v f] W fun e w' => e = .returned (.bool (hoOk id room rs f)) ∧ Below W.heap.size W w') := fun W h =>
    implHouseOk_any id up room v rs f a W (HV.out W h) hl (HA.out W h)
  obtain ⟨av, cv, rfl⟩ := hv.shape
  clear hv ha
  obtain ⟨w0, hw0⟩ : ∃ W, Hid (W = (w.alloc (.cells #[.int .i64 id, .bool up, .int .i64 room, .slice av rs.length cv, .int .i64 f] 27)).alloc (.cells #[.int .i64 0, .bool false, .int .i64 0, .slice none 0 0, .int .i64 0] 27)) := ⟨_, rfl⟩
  have B0 : Hid (Below w.heap.size w w0) := by show Below _ _ _; rw [hw0.out]; exact below2 _ _ _
  have X0 : Hid (Blk w0 w.heap.size #[.int .i64 id, .bool up, .int .i64 room, .slice av rs.length cv, .int .i64 f] 27) := by show Blk _ _ _ _; rw [hw0.out]; exact (Blk.new _ _ _).alloc _
  have Z0 : Hid (Blk w0 (w.heap.size + 1) #[.int .i64 0, .bool false, .int .i64 0, .slice none 0 0, .int .i64 0] 27) := by show Blk _ _ _ _; rw [hw0.out]; exact Blk.new2 _ _ _ _
  have hs0 : w0.heap.size = w.heap.size + 2 := by rw [hw0.out, size2]
  cases hok : hoOk id room rs f
  · have HR : Hid (hoForce id up room rs f = hoZ) := by show _ = _; simp [hoForce, hok]
    rw [hok] at HOK
    rw [HR.out]
    clear hok
    go_enter Tryd.func11, Tryd.ntmps11
    go_wp2_with fail
    rw [← hw0.out]
    refine (HOK.out _ B0.out).mono ?_
    rintro e w1 ⟨rfl, hb⟩
    obtain ⟨z0, z1, z2, z3, z4⟩ := (Z0.out.after hb).cells5
    obtain ⟨zf0, zf1, zf2, zf3, zf4⟩ := (Z0.out.after hb).free5
    have HB := hide_it (B0.out.trans (hb.mono B0.out.size))
    clear hb
    go_wp2
    refine bodyPost_ret (v := houseV 0 false 0 (.slice none 0 0) 0) (by simp [results, Tryd.results11, go_sem, *]) rfl (HoO.none_ ?_)
    repeat (refine Below.setCell ?_ (by first | (simp; done) | (simp; omega)) _)
    exact HB.out
  · have HR : Hid (hoForce id up room rs f = (id, up, room, rs, if up = true then (rs.length : Int) else f)) := by show _ = _; simp [hoForce, hok]
    have hlok := (hoOk_parts hok).2.1
    have LF : Hid (∀ W, Below w.heap.size w W → Calls Tryd.prog 33 #[.agg #[.slice av rs.length cv, .int .i64 f]] W fun e w' => LogOut W w' e rs rs.length) := fun W h => by
      have := implForce_any _ rs f a W (HV.out _ h) hl (HA.out _ h)
      rw [show forceR rs f = rs by simp [forceR, hlok], show forceF rs f = rs.length by simp [forceF, hlok]] at this
      exact this
    rw [hok] at HOK
    rw [HR.out]
    clear HR
    go_enter Tryd.func11, Tryd.ntmps11
    go_wp2_with fail
    rw [← hw0.out]
    refine (HOK.out _ B0.out).mono ?_
    rintro e w1 ⟨rfl, hb1⟩
    have X1 := hide_it (X0.out.after hb1)
    have Z1 := hide_it (Z0.out.after hb1)
    have B1 := hide_it (B0.out.trans (hb1.mono B0.out.size))
    have hs1 : w.heap.size + 2 ≤ w1.heap.size := by have := hb1.size; omega
    obtain ⟨x0, x1, x2, x3, x4⟩ := X1.out.cells5
    clear hb1
    go_wp2_with fail
    refine (keeperOf_any id up room av rs.length cv f w1).mono ?_
    rintro e w2 ⟨rfl, hb2⟩
    have Z2 := hide_it (Z1.out.after hb2)
    have B2 := hide_it (B1.out.trans (hb2.mono B1.out.size))
    have hs2 : w.heap.size + 2 ≤ w2.heap.size := by have := hb2.size; omega
    clear hb2 x0 x1 x2 x3 x4
    cases up
    · obtain ⟨w3, hw3⟩ : ∃ W, Hid (W = w2.alloc (.cells #[.slice av rs.length cv, .int .i64 f, .int .i64 id, .bool false, .int .i64 room] 52)) := ⟨_, rfl⟩
      have al3 : Hid (Below w2.heap.size w2 w3) := by show Below _ _ _; rw [hw3.out]; exact alloc_below _ _
      have hs3 : w3.heap.size = w2.heap.size + 1 := by rw [hw3.out]; simp
      have Z3 := hide_it (Z2.out.after al3.out)
      have B3 := hide_it (B2.out.trans (al3.out.mono B2.out.size))
      go_wp2_with fail
      rw [← hw3.out]
      refine (keeperHouse_any id false room _ rs f w3 (HV.out _ B3.out) hl).mono ?_
      rintro e w4 ⟨ao, cap, rfl, hm, hb⟩
      obtain ⟨z0, z1, z2, z3, z4⟩ := (Z3.out.after hb).cells5
      obtain ⟨zf0, zf1, zf2, zf3, zf4⟩ := (Z3.out.after hb).free5
      have HM := hide_it hm
      have HB := hide_it (B3.out.trans (hb.mono B3.out.size))
      clear hm hb
      go_wp2
      refine bodyPost_ret (v := houseV id false room (.slice ao rs.length cap) f) (by simp [results, Tryd.results11, go_sem, *]) rfl ?_
      refine ⟨ao, cap, rfl, ?_, ?_⟩
      · refine Made.lo ?_ (show w.heap.size ≤ w3.heap.size by omega)
        repeat (refine Made.setBelow ?_ (by first | (simp; done) | (simp; omega)) _)
        exact HM.out
      · repeat (refine Below.setCell ?_ (by first | (simp; done) | (simp; omega)) _)
        exact HB.out
    · obtain ⟨w3, hw3⟩ : ∃ W, Hid (W = w2.alloc (.cells #[.slice av rs.length cv, .int .i64 f, .int .i64 id, .bool true, .int .i64 room] 52)) := ⟨_, rfl⟩
      have al3 : Hid (Below w2.heap.size w2 w3) := by show Below _ _ _; rw [hw3.out]; exact alloc_below _ _
      have hs3 : w3.heap.size = w2.heap.size + 1 := by rw [hw3.out]; simp
      have Z3 := hide_it (Z2.out.after al3.out)
      have B3 := hide_it (B2.out.trans (al3.out.mono B2.out.size))
      have K3 : Hid (Blk w3 w2.heap.size #[.slice av rs.length cv, .int .i64 f, .int .i64 id, .bool true, .int .i64 room] 52) := by show Blk _ _ _ _; rw [hw3.out]; exact Blk.new _ _ _
      go_wp2_with fail
      rw [← hw3.out]
      refine (LF.out _ B3.out).mono ?_
      rintro e w4 ⟨a4, c4, rfl, hm4, hb4⟩
      have Z4 := hide_it (Z3.out.after hb4)
      have K4 := hide_it (K3.out.after hb4)
      have B4 := hide_it (B3.out.trans (hb4.mono B3.out.size))
      have hs4 : w3.heap.size ≤ w4.heap.size := hb4.size
      have M4 := hide_it (hm4.setTwo (show w2.heap.size < w3.heap.size by omega) (.slice a4 rs.length c4) (.int .i64 rs.length) 0 1)
      obtain ⟨y0, y1, y2, y3, y4⟩ := K4.out.cells5
      obtain ⟨yf0, yf1, yf2, yf3, yf4⟩ := K4.out.free5
      clear hm4 hb4
      obtain ⟨w5, hw5⟩ : ∃ W, Hid (W = (w4.setCell ⟨w2.heap.size, 0, none⟩ (.slice a4 rs.length c4)).setCell ⟨w2.heap.size, 1, none⟩ (.int .i64 rs.length)) := ⟨_, rfl⟩
      rw [← hw5.out] at M4
      have B5 : Hid (Below w.heap.size w w5) := by show Below _ _ _; rw [hw5.out]; exact (B4.out.setCell (by simp; omega) _).setCell (by simp; omega) _
      have Z5 : Hid (Blk w5 (w.heap.size + 1) #[.int .i64 0, .bool false, .int .i64 0, .slice none 0 0, .int .i64 0] 27) := by show Blk _ _ _ _; rw [hw5.out]; exact (Z4.out.other (by simp; omega) _).other (by simp; omega) _
      have hs5 : w5.heap.size = w4.heap.size := by rw [hw5.out]; simp
      go_wp2_with fail
      rw [← hw5.out]
      refine (keeperHouse_any id true room _ rs rs.length w5 M4.out.recs hl).mono ?_
      rintro e w6 ⟨ao, cap, rfl, hm, hb⟩
      obtain ⟨z0, z1, z2, z3, z4⟩ := (Z5.out.after hb).cells5
      obtain ⟨zf0, zf1, zf2, zf3, zf4⟩ := (Z5.out.after hb).free5
      have HM := hide_it hm
      have HB := hide_it (B5.out.trans (hb.mono B5.out.size))
      clear hm hb y0 y1 y2 y3 y4 yf0 yf1 yf2 yf3 yf4
      go_wp2
      refine bodyPost_ret (v := houseV id true room (.slice ao rs.length cap) rs.length) (by simp [results, Tryd.results11, go_sem, *]) rfl ?_
      refine ⟨ao, cap, rfl, ?_, ?_⟩
      · refine Made.lo ?_ (show w.heap.size ≤ w5.heap.size by omega)
        repeat (refine Made.setBelow ?_ (by first | (simp; done) | (simp; omega)) _)
        exact HM.out
      · repeat (refine Below.setCell ?_ (by first | (simp; done) | (simp; omega)) _)
        exact HB.out

set_option maxHeartbeats 4000000 in
theorem implHFall_any (id : Int) (up : Bool) (room : Int) (v : Value) (rs : List R) (f : Int) (keep : Int) (a : Addr) (w : World) (hv : Recs w v rs) (hl : tot rs ≤ 1048576) (hfm : Form v rs.length) (ha : ErrAt w a) :
    Calls Tryd.prog 14 #[houseV id up room v f, .int .i64 keep] w fun e w' => HoO w w' e (hoFall id room rs f keep) := by
  have hrl := tot_len rs
  have HV : Hid (∀ W, Below w.heap.size w W → Recs W v rs) := fun W h => hv.later h (Nat.le_refl _)
  have HA : Hid (∀ W, Below w.heap.size w W → ErrAt W a) := fun W h => ha.later h (Nat.le_refl _)
  have HOK : Hid (∀ W, Below w.heap.size w W → Calls Tryd.prog 18 #[houseV id up room v f] W fun e w' => e = .returned (.bool (hoOk id room rs f)) ∧ Below W.heap.size W w') := fun W h =>
    implHouseOk_any id up room v rs f a W (HV.out W h) hl (HA.out W h)
  obtain ⟨av, cv, rfl⟩ := hv.shape
  clear hv ha
  obtain ⟨w0, hw0⟩ : ∃ W, Hid (W = (w.alloc (.cells #[.int .i64 id, .bool up, .int .i64 room, .slice av rs.length cv, .int .i64 f] 27)).alloc (.cells #[.int .i64 0, .bool false, .int .i64 0, .slice none 0 0, .int .i64 0] 27)) := ⟨_, rfl⟩
  have B0 : Hid (Below w.heap.size w w0) := by show Below _ _ _; rw [hw0.out]; exact below2 _ _ _
  have X0 : Hid (Blk w0 w.heap.size #[.int .i64 id, .bool up, .int .i64 room, .slice av rs.length cv, .int .i64 f] 27) := by show Blk _ _ _ _; rw [hw0.out]; exact (Blk.new _ _ _).alloc _
  have Z0 : Hid (Blk w0 (w.heap.size + 1) #[.int .i64 0, .bool false, .int .i64 0, .slice none 0 0, .int .i64 0] 27) := by show Blk _ _ _ _; rw [hw0.out]; exact Blk.new2 _ _ _ _
  have hs0 : w0.heap.size = w.heap.size + 2 := by rw [hw0.out, size2]
  cases hok : hoOk id room rs f
  · have HR : Hid (hoFall id room rs f keep = hoZ) := by show _ = _; simp [hoFall, hok]
    rw [hok] at HOK
    rw [HR.out]
    clear hok
    go_enter Tryd.func14, Tryd.ntmps14
    go_wp2_with fail
    rw [← hw0.out]
    refine (HOK.out _ B0.out).mono ?_
    rintro e w1 ⟨rfl, hb⟩
    obtain ⟨z0, z1, z2, z3, z4⟩ := (Z0.out.after hb).cells5
    obtain ⟨zf0, zf1, zf2, zf3, zf4⟩ := (Z0.out.after hb).free5
    have HB := hide_it (B0.out.trans (hb.mono B0.out.size))
    clear hb
    go_wp2
    refine bodyPost_ret (v := houseV 0 false 0 (.slice none 0 0) 0) (by simp [results, Tryd.results14, go_sem, *]) rfl (HoO.none_ ?_)
    repeat (refine Below.setCell ?_ (by first | (simp; done) | (simp; omega)) _)
    exact HB.out
  · have HR : Hid (hoFall id room rs f keep = (id, false, room, rs.take (fallN rs.length f keep), (fallN rs.length f keep : Int))) := by show _ = _; simp [hoFall, hok]
    have hlok := (hoOk_parts hok).2.1
    obtain ⟨lf0, lf1, -⟩ := logOk_f hlok
    have hN := fallN_le (keep := keep) lf0 lf1
    obtain ⟨RS, hRS⟩ : ∃ RS, Hid (RS = rs.take (fallN rs.length f keep)) := ⟨_, rfl⟩
    obtain ⟨N, hNN⟩ : ∃ N, Hid (fallN rs.length f keep = N) := ⟨_, rfl⟩
    have hRl : tot RS ≤ 1048576 := by rw [hRS.out]; exact Nat.le_trans (pre_take rs _ hN) hl
    have LF : Hid (∀ W, Below w.heap.size w W → Calls Tryd.prog 20 #[.agg #[.slice av rs.length cv, .int .i64 f], .int .i64 keep] W fun e w' => LogOut W w' e RS N) := fun W h => by
      have := implFall_form _ rs f keep a W (HV.out _ h) hfm hl (HA.out _ h)
      rw [show fallR rs f keep = RS by rw [hRS.out]; simp [fallR, hlok], show fallF rs f keep = N by rw [← hNN.out]; simp [fallF, hlok]] at this
      exact this
    have hRS2 : Hid (rs.take N = RS) := by show _ = _; rw [hRS.out, hNN.out]
    rw [hok] at HOK
    rw [HR.out]
    rw [hNN.out] at hN ⊢
    rw [hRS2.out]
    clear HR
    go_enter Tryd.func14, Tryd.ntmps14
    go_wp2_with fail
    rw [← hw0.out]
    refine (HOK.out _ B0.out).mono ?_
    rintro e w1 ⟨rfl, hb1⟩
    have X1 := hide_it (X0.out.after hb1)
    have Z1 := hide_it (Z0.out.after hb1)
    have B1 := hide_it (B0.out.trans (hb1.mono B0.out.size))
    have hs1 : w.heap.size + 2 ≤ w1.heap.size := by have := hb1.size; omega
    obtain ⟨x0, x1, x2, x3, x4⟩ := X1.out.cells5
    clear hb1
    go_wp2_with fail
    refine (keeperOf_any id up room av rs.length cv f w1).mono ?_
    rintro e w2 ⟨rfl, hb2⟩
    have Z2 := hide_it (Z1.out.after hb2)
    have B2 := hide_it (B1.out.trans (hb2.mono B1.out.size))
    have hs2 : w.heap.size + 2 ≤ w2.heap.size := by have := hb2.size; omega
    clear hb2 x0 x1 x2 x3 x4
    obtain ⟨w3, hw3⟩ : ∃ W, Hid (W = w2.alloc (.cells #[.slice av rs.length cv, .int .i64 f, .int .i64 id, .bool false, .int .i64 room] 52)) := ⟨_, rfl⟩
    have al3 : Hid (Below w2.heap.size w2 w3) := by show Below _ _ _; rw [hw3.out]; exact alloc_below _ _
    have hs3 : w3.heap.size = w2.heap.size + 1 := by rw [hw3.out]; simp
    have Z3 := hide_it (Z2.out.after al3.out)
    have B3 := hide_it (B2.out.trans (al3.out.mono B2.out.size))
    have K3 : Hid (Blk w3 w2.heap.size #[.slice av rs.length cv, .int .i64 f, .int .i64 id, .bool false, .int .i64 room] 52) := by show Blk _ _ _ _; rw [hw3.out]; exact Blk.new _ _ _
    go_wp2_with fail
    rw [← hw3.out]
    refine (LF.out _ B3.out).mono ?_
    rintro e w4 ⟨a4, c4, rfl, hm4, hb4⟩
    have Z4 := hide_it (Z3.out.after hb4)
    have K4 := hide_it (K3.out.after hb4)
    have B4 := hide_it (B3.out.trans (hb4.mono B3.out.size))
    have hs4 : w3.heap.size ≤ w4.heap.size := hb4.size
    have M4 := hide_it (hm4.setTwo (show w2.heap.size < w3.heap.size by omega) (.slice a4 RS.length c4) (.int .i64 N) 0 1)
    obtain ⟨y0, y1, y2, y3, y4⟩ := K4.out.cells5
    obtain ⟨yf0, yf1, yf2, yf3, yf4⟩ := K4.out.free5
    clear hm4 hb4
    obtain ⟨w5, hw5⟩ : ∃ W, Hid (W = (w4.setCell ⟨w2.heap.size, 0, none⟩ (.slice a4 RS.length c4)).setCell ⟨w2.heap.size, 1, none⟩ (.int .i64 N)) := ⟨_, rfl⟩
    rw [← hw5.out] at M4
    have B5 : Hid (Below w.heap.size w w5) := by show Below _ _ _; rw [hw5.out]; exact (B4.out.setCell (by simp; omega) _).setCell (by simp; omega) _
    have Z5 : Hid (Blk w5 (w.heap.size + 1) #[.int .i64 0, .bool false, .int .i64 0, .slice none 0 0, .int .i64 0] 27) := by show Blk _ _ _ _; rw [hw5.out]; exact (Z4.out.other (by simp; omega) _).other (by simp; omega) _
    have hs5 : w5.heap.size = w4.heap.size := by rw [hw5.out]; simp
    go_wp2_with fail
    rw [← hw5.out]
    refine (keeperHouse_any id false room _ RS N w5 M4.out.recs hRl).mono ?_
    rintro e w6 ⟨ao, cap, rfl, hm, hb⟩
    obtain ⟨z0, z1, z2, z3, z4⟩ := (Z5.out.after hb).cells5
    obtain ⟨zf0, zf1, zf2, zf3, zf4⟩ := (Z5.out.after hb).free5
    have HM := hide_it hm
    have HB := hide_it (B5.out.trans (hb.mono B5.out.size))
    clear hm hb y0 y1 y2 y3 y4 yf0 yf1 yf2 yf3 yf4
    go_wp2
    refine bodyPost_ret (v := houseV id false room (.slice ao RS.length cap) N) (by simp [results, Tryd.results14, go_sem, *]) rfl ?_
    refine ⟨ao, cap, rfl, ?_, ?_⟩
    · refine Made.lo ?_ (show w.heap.size ≤ w5.heap.size by omega)
      repeat (refine Made.setBelow ?_ (by first | (simp; done) | (simp; omega)) _)
      exact HM.out
    · repeat (refine Below.setCell ?_ (by first | (simp; done) | (simp; omega)) _)
      exact HB.out

end Go.Proofs.YtgeagfglkgpoiaaDoor

namespace Go.Proofs.YtgeagfglkgpoiaaDoor
open Go.RowKit

/-- A store into a block of a house leaves the records, and the reader. -/
theorem RcS.setH {w W : World} {b q X i : Nat} {cs : Array Value} {o : Value} {ps : List (R × Value)} (h : RcS w W b q o ps) (hX : Blk W X cs 27) (hw : w.heap.size ≤ X) (x : Value) : RcS w (W.setCell ⟨X, i, none⟩ x) b q o ps := by
  have hl := h.low
  refine ⟨?_, ?_, h.rd.setApart (by omega) _, h.mid.setNew hw _, hl⟩
  · exact ownsRow_setCell_ne h.row (fun g hg => by obtain ⟨cs', hh⟩ := (rowB_at h.row g hg).2; exact ne_of_type hh hX (by decide)) _
  · exact fun p hp => (h.all p hp).keep fun g cs' hh => Below.heap_setCell _ _ _ _ (ne_of_type hh hX (by decide))
theorem Good.lower {W : World} {lo lo' : Nat} {p : R × Value} (h : Good W lo p) (hl : lo' ≤ lo) : Good W lo' p := by
  obtain ⟨h1, h2⟩ := h
  refine ⟨h1, ?_⟩
  rcases h2 with ⟨cap, h2⟩ | h2
  · exact Or.inl ⟨cap, h2.mono hl⟩
  · exact Or.inr h2
/-- While a house is drawn: the result's block, the house's block, its records, the reader. -/
structure HsS (w W : World) (b q S : Nat) (id : Int) (up : Bool) (room : Int) (o : Value) (f : Int) (ps : List (R × Value)) : Prop where
  rc : RcS w W b q o ps
  res : Blk W w.heap.size #[.int .i64 0, .bool false, .int .i64 0, .slice none 0 0, .int .i64 0] 27
  hos : Blk W S #[.int .i64 id, .bool up, .int .i64 room, o, .int .i64 f] 27
  lt : w.heap.size < S
section
variable {w W W' : World} {b q q' S : Nat} {id : Int} {up : Bool} {room : Int} {o : Value} {f : Int} {ps : List (R × Value)}
theorem HsS.step (h : HsS w W b q S id up room o f ps) (hb : Mid b (b + 1) W W') (hr : Rd W' b q') : HsS w W' b q' S id up room o f ps :=
  ⟨h.rc.step hb hr, h.res.mid hb (Or.inr (by have := h.rc.low; omega)), h.hos.mid hb (Or.inr (by have := h.rc.low; have := h.lt; omega)), h.lt⟩
theorem HsS.later (h : HsS w W b q S id up room o f ps) (hb : Below W.heap.size W W') : HsS w W' b q S id up room o f ps :=
  h.step (Mid.of_below hb (Nat.le_refl _)) (h.rc.rd.later hb (Nat.le_refl _))
theorem HsS.setId (h : HsS w W b q S id up room o f ps) (x : Int) : HsS w (W.setCell ⟨S, 0, none⟩ (.int .i64 x)) b q S x up room o f ps :=
  ⟨h.rc.setH h.hos (Nat.le_of_lt h.lt) _, h.res.other (by have := h.lt; simp; omega) _, h.hos.set_ 0 _, h.lt⟩
theorem HsS.setRoom (h : HsS w W b q S id up room o f ps) (x : Int) : HsS w (W.setCell ⟨S, 2, none⟩ (.int .i64 x)) b q S id up x o f ps :=
  ⟨h.rc.setH h.hos (Nat.le_of_lt h.lt) _, h.res.other (by have := h.lt; simp; omega) _, h.hos.set_ 2 _, h.lt⟩
theorem HsS.setF (h : HsS w W b q S id up room o f ps) (x : Int) : HsS w (W.setCell ⟨S, 4, none⟩ (.int .i64 x)) b q S id up room o x ps :=
  ⟨h.rc.setH h.hos (Nat.le_of_lt h.lt) _, h.res.other (by have := h.lt; simp; omega) _, h.hos.set_ 4 _, h.lt⟩
theorem HsS.cells (h : HsS w W b q S id up room o f ps) :
    (W.cell? ⟨S, 0, none⟩ = some (.int .i64 id) ∧ W.cell? ⟨S, 1, none⟩ = some (.bool up) ∧ W.cell? ⟨S, 2, none⟩ = some (.int .i64 room) ∧ W.cell? ⟨S, 3, none⟩ = some o ∧ W.cell? ⟨S, 4, none⟩ = some (.int .i64 f)) ∧
    (W.frozen? ⟨S, 0, none⟩ = false ∧ W.frozen? ⟨S, 1, none⟩ = false ∧ W.frozen? ⟨S, 2, none⟩ = false ∧ W.frozen? ⟨S, 3, none⟩ = false ∧ W.frozen? ⟨S, 4, none⟩ = false) := ⟨h.hos.cells5, h.hos.free5⟩
end
/-- One more record is put behind the others, and the house has them. -/
theorem HsS.pushed {w W w4 : World} {b q S : Nat} {id : Int} {up : Bool} {room : Int} {o o' : Value} {f : Int} {ps : List (R × Value)} {r : R} {x : Value} (h : HsS w W b q S id up room o f ps) (hg : Good W w.heap.size (r, x))
    (hown : w4.ownsRow w.heap.size 62 3 o' (ps.length + 1) (flat ps ++ [.int .i64 r.1, .int .i64 r.2.1, x])) (hgr : W.grownBy w4 o.ownBlock) :
    Hid (HsS w (w4.setCell ⟨S, 3, none⟩ o') b q S id up room o' f (ps ++ [(r, x)])) ∧ (Blk w4 S #[.int .i64 id, .bool up, .int .i64 room, o, .int .i64 f] 27 ∧ Blk w4 w.heap.size #[.int .i64 0, .bool false, .int .i64 0, .slice none 0 0, .int .i64 0] 27) := by
  have hb : ∀ {k : Nat} {cs : Array Value}, Blk W k cs 27 → Blk w4 k cs 27 := fun {k cs} hk => by
    unfold Blk at hk ⊢
    rw [hgr.block k (heap_lt hk) (fun e => by
      obtain ⟨cs', hh⟩ := (rowB_at h.rc.row k e.symm).2
      rw [hk] at hh; simp at hh)]
    exact hk
  have hH := hb h.hos
  have hR := hb h.res
  exact ⟨⟨(h.rc.push hg hown hgr).setH hH (Nat.le_of_lt h.lt) _, hR.other (by have := h.lt; simp; omega) _, hH.set_ 3 _, h.lt⟩, hH, hR⟩
/-- What comes out of the draw: a house whose records lie in memory of the draw's own. -/
def HouGot (w w' : World) (e : Ending) (b p : Nat) : Prop :=
  ∃ (id : Int) (up : Bool) (room : Int) (o : Value) (f : Int) (ps : List (R × Value)) (q : Nat), e = .returned (houseV id up room o f) ∧ ps.length ≤ 14 ∧ q ≤ p + 90 ∧ RcS w w' b q o ps
theorem HsS.done {w W : World} {b q S p : Nat} {id : Int} {up : Bool} {room : Int} {o : Value} {f : Int} {ps : List (R × Value)} (h : HsS w W b q S id up room o f ps) (hp : ps.length ≤ 14) (hq : q ≤ p + 90) (x0 x1 x2 x3 x4 : Value) :
    HouGot w (((((W.setCell ⟨w.heap.size, 0, none⟩ x0).setCell ⟨w.heap.size, 1, none⟩ x1).setCell ⟨w.heap.size, 2, none⟩ x2).setCell ⟨w.heap.size, 3, none⟩ x3).setCell ⟨w.heap.size, 4, none⟩ x4) (.returned (houseV id up room o f)) b p := by
  have e0 := h.res.set_ 0 x0
  have e1 := e0.set_ 1 x1
  have e2 := e1.set_ 2 x2
  have e3 := e2.set_ 3 x3
  exact ⟨id, up, room, o, f, ps, q, rfl, hp, hq, ((((h.rc.setH h.res (Nat.le_refl _) _).setH e0 (Nat.le_refl _) _).setH e1 (Nat.le_refl _) _).setH e2 (Nat.le_refl _) _).setH e3 (Nat.le_refl _) _⟩

set_option maxRecDepth 100000 in
set_option maxHeartbeats 8000000 in
theorem house_draw (b p : Nat) (w : World) (h : Rd w b p) (hp : p ≤ 600000) :
    Calls Tryd.prog 22 #[.pointer (some ⟨b, 0, none⟩)] w fun e w' => HouGot w w' e b p := by
  obtain ⟨i0, hi, hz0, hz1, hz2⟩ := info_parts infoRec
  have hblt := h.lt
  obtain ⟨w0, hw0⟩ : ∃ W, Hid (W = w.alloc (.cells #[.int .i64 0, .bool false, .int .i64 0, .slice none 0 0, .int .i64 0] 27)) := ⟨_, rfl⟩
  have R0 : Hid (Rd w0 b p) := by show Rd _ _ _; rw [hw0.out]; exact h.alloc _
  have M0 : Hid (Mid b (b + 1) w w0) := by show Mid _ _ _ _; rw [hw0.out]; exact (Mid.refl _ _ _).alloc _
  have E0 : Hid (Blk w0 w.heap.size #[.int .i64 0, .bool false, .int .i64 0, .slice none 0 0, .int .i64 0] 27) := by show Blk _ _ _ _; rw [hw0.out]; exact Blk.new _ _ _
  clear h
  go_enter Tryd.func22, Tryd.ntmps22
  go_wp2_with fail
  rw [← hw0.out]
  refine (recs_draw b p _ R0.out (by omega)).mono ?_
  rintro e w1 ⟨room, o, ps, hs, q, rfl, lr, ur, hps, hrow, hall, hrun, hq, r1, m1⟩
  have hzz : w.heap.size < w0.heap.size := E0.out.lt
  have C1 : Hid (RcS w w1 b q o ps) := ⟨ownsRow_base hrow (by omega), fun x hx => (hall x hx).lower (by omega), r1, M0.out.trans m1, hblt⟩
  have E1 := hide_it (E0.out.mid m1 (Or.inr (by omega)))
  obtain ⟨ao, co, hos⟩ := row_shape hrow
  subst hos
  clear hrow hall hrun r1 m1 R0 M0
  go_wp2_with fail
  refine (pick_any b q 3 _ C1.out.rd (by omega) (by omega) (by omega)).mono ?_
  rintro e w2 ⟨x1, rfl, lx1, ux1, r2, m2⟩
  have C2 := hide_it (C1.out.step m2 r2)
  have E2 := hide_it (E1.out.mid m2 (Or.inr (by omega)))
  clear r2 m2 C1 E1
  go_wp2_with fail
  refine (pick_any b (q + 1) 6 _ C2.out.rd (by omega) (by omega) (by omega)).mono ?_
  rintro e w3 ⟨x2, rfl, lx2, ux2, r3, m3⟩
  have C3 := hide_it (C2.out.step m3 r3)
  have E3 := hide_it (E2.out.mid m3 (Or.inr (by omega)))
  clear r3 m3 C2 E2
  obtain ⟨S, hS⟩ : ∃ S, Hid (S = w3.heap.size) := ⟨_, rfl⟩
  obtain ⟨w4, hw4⟩ : ∃ W, Hid (W = w3.alloc (.cells #[.int .i64 (1 + x1), .bool (decide (0 < x2)), .int .i64 room, .slice ao ps.length co, .int .i64 ps.length] 27)) := ⟨_, rfl⟩
  have H4 : Hid (HsS w w4 b (q + 2) S (1 + x1) (decide (0 < x2)) room (.slice ao ps.length co) ps.length ps) := by
    show HsS _ _ _ _ _ _ _ _ _ _ _
    rw [hw4.out, hS.out]
    exact ⟨C3.out.later (alloc_below _ _), E3.out.alloc _, Blk.new _ _ _, E3.out.lt⟩
  clear C3 E3
  go_wp2_with fail
  rw [← hS.out, ← hw4.out]
  -- behind the house as it was made
  refine (pick_any b (q + 2) 2 _ H4.out.rc.rd (by omega) (by omega) (by omega)).mono ?_
  rintro e w5 ⟨y, rfl, ly, uy, r5, m5⟩
  have H5 := hide_it (H4.out.step m5 r5)
  clear r5 m5 H4
  by_cases hy : y = 0
  · subst hy
    go_wp2_with fail
    refine (pick_any b (q + 3) (ps.length + 1) _ H5.out.rc.rd (by omega) (by omega) (by omega)).mono ?_
    rintro e w6 ⟨z6, rfl, lz6, uz6, r6, m6⟩
    have H6 := hide_it (H5.out.step m6 r6)
    clear r6 m6
    obtain ⟨⟨c0, c1, c2, c3, c4⟩, ⟨f0, f1, f2, f3, f4⟩⟩ := H6.out.cells
    obtain ⟨wF, hwF⟩ : ∃ W, Hid (W = w6.setCell ⟨S, 4, none⟩ (.int .i64 z6)) := ⟨_, rfl⟩
    have HF : Hid (HsS w wF b (q + 4) S (1 + x1) (decide (0 < x2)) room (.slice ao ps.length co) z6 ps) := by
      show HsS _ _ _ _ _ _ _ _ _ _ _
      rw [hwF.out]; exact H6.out.setF z6
    go_wp2_with fail
    rw [← hwF.out]
    clear c0 c1 c2 c3 c4 f0 f1 f2 f3 f4
    refine (pick_any b (q + 4) 20 _ HF.out.rc.rd (by omega) (by omega) (by omega)).mono ?_
    rintro e w7 ⟨y2, rfl, ly2, uy2, r7, m7⟩
    have H7 := hide_it (HF.out.step m7 r7)
    clear r7 m7
    by_cases hy0 : y2 = 0
    · subst hy0
      have H8 := hide_it (H7.out.later (alloc_below _ (.cells #[.int .i64 0, .int .i64 4] 3)))
      have N8 := hide_it (Blk.new w7 #[.int .i64 0, .int .i64 4] 3)
      have hb7 : b < w7.heap.size := H7.out.rc.rd.lt
      go_wp2_with fail
      refine (pick_any b (q + 4 + 1) 2 _ H8.out.rc.rd (by omega) (by omega) (by omega)).mono ?_
      rintro e w9 ⟨z, rfl, lz, uz, r9, m9⟩
      have H9 := hide_it (H8.out.step m9 r9)
      have N9 := hide_it (N8.out.mid m9 (Or.inr (by omega)))
      clear r9 m9 H8 N8
      obtain ⟨n0, n1⟩ := N9.out.cells2
      obtain ⟨⟨c0, c1, c2, c3, c4⟩, ⟨f0, f1, f2, f3, f4⟩⟩ := H9.out.cells
      obtain ⟨d0, d1, d2, d3, d4⟩ := H9.out.res.cells5
      obtain ⟨g0, g1, g2, g3, g4⟩ := H9.out.res.free5
      have hne : w.heap.size ≠ S := by have := H9.out.lt; omega
      have hne2 : S ≠ w.heap.size := by have := H9.out.lt; omega
      have hz2 : z = 0 ∨ z = 1 := by omega
      rcases hz2 with rfl | rfl
      · go_wp2
        refine bodyPost_ret (v := houseV 0 (decide (0 < x2)) room (.slice ao ps.length co) z6) (by simp [results, Tryd.results22, go_sem, *]) rfl ?_
        exact (H9.out.setId 0).done (by omega) (by omega) _ _ _ _ _
      · go_wp2
        refine bodyPost_ret (v := houseV 4 (decide (0 < x2)) room (.slice ao ps.length co) z6) (by simp [results, Tryd.results22, go_sem, *]) rfl ?_
        exact (H9.out.setId 4).done (by omega) (by omega) _ _ _ _ _
    by_cases hy1 : y2 = 1
    · subst hy1
      have HD7 := hide_it (H7.out.later (Below.refl _ _).drew)
      obtain ⟨⟨c0, c1, c2, c3, c4⟩, ⟨f0, f1, f2, f3, f4⟩⟩ := H7.out.cells
      go_wp2_with fail
      go_region_law (first
        | (refine step_append_lies _ rfl _ _ 23 rfl w.heap.size 62 i0 (.agg #[.int .i64 0, .int .i64 0, .slice none 0 0]) 3 40 Tryd.underlying23 hi hz0 hz1 hz2 rfl (by decide) (.slice ao ps.length co) ps.length (flat ps) rfl (by exact (ROW8.out _)) ⟨w8.heap.size, 0, none⟩ 1 1 [.int .i64 k, .int .i64 t, .slice (some ⟨g, off, none⟩) zs.length cap8] rfl rfl (by exact news3 _ _ _ _ _) (by exact one3 _ _ _) (by decide) (by unfold maxLen; omega) (by omega) (by simp; omega) _ rfl ?_; intro g9 cap9 w9 hown9 hgrow9 _ _; have P9 := HsS.pushed (r := (k, t, zs)) (H8.out.later (alloc_below _ _)) (GD8.out _) hown9 hgrow9; have PS := hide_it P9.1.out; obtain ⟨j0, j1, j2, j3, j4⟩ := P9.2.1.cells5; obtain ⟨jf0, jf1, jf2, jf3, jf4⟩ := P9.2.1.free5; obtain ⟨d0, d1, d2, d3, d4⟩ := P9.2.2.cells5; obtain ⟨g0, g1, g2, g3, g4⟩ := P9.2.2.free5; have hne : w.heap.size ≠ S := (by have := H8.out.lt; omega); have hne2 : S ≠ w.heap.size := (by have := H8.out.lt; omega); clear P9 hown9 hgrow9)
        | (go_simp; go_at_call 43; refine (rec_draw b ((q + 4) + 1) _ HD7.out.rc.rd (by omega)).mono ?_; rintro e w8 ⟨k, t, u, zs, q8, cap8, rfl, hz, hF, hqa, hqb, r8, m8⟩; have H8 := hide_it (HD7.out.step m8 r8); have F8 := hide_it (hF.mono (lo' := w.heap.size) (by have := H7.out.rc.mid.size; simp; omega)); obtain ⟨g, off, hu⟩ : ∃ g off, u = .slice (some ⟨g, off, none⟩) zs.length cap8 := (by obtain ⟨g, off, cs, h, _⟩ := hF; exact ⟨g, off, h⟩); subst hu; have GD8 : Hid (∀ x, Good (w8.alloc x) w.heap.size ((k, t, zs), .slice (some ⟨g, off, none⟩) zs.length cap8)) := (fun x => ⟨hz, Or.inl ⟨_, F8.out.later (alloc_below _ x) (Nat.le_refl _)⟩⟩); have ROW8 : Hid (∀ x, (w8.alloc x).ownsRow w.heap.size 62 3 (.slice ao ps.length co) ps.length (flat ps)) := (fun x => (H8.out.rc.later (alloc_below _ x)).row); obtain ⟨⟨l0, l1, l2, l3, l4⟩, ⟨lf0, lf1, lf2, lf3, lf4⟩⟩ := H8.out.cells; have l3o := (fun x => cellAlloc l3 x); have hs8 : w.heap.size ≤ w8.heap.size := H8.out.rc.mid.size; clear hF r8 m8))
      all_goals
        go_wp2
        refine bodyPost_ret (v := houseV (1 + x1) (decide (0 < x2)) room (.slice (some ⟨g9, 0, none⟩) (ps.length + 1) cap9) z6) (by simp [results, Tryd.results22, go_sem, *]) rfl ?_
        exact PS.out.done (by simp; omega) (by omega) _ _ _ _ _
    by_cases hy2 : y2 = 2
    · subst hy2
      go_wp2_with fail
      refine (pick_any b (q + 4 + 1) 4 _ H7.out.rc.rd (by omega) (by omega) (by omega)).mono ?_
      rintro e w9 ⟨z, rfl, lz, uz, r9, m9⟩
      have H9 := hide_it (H7.out.step m9 r9)
      clear r9 m9
      obtain ⟨⟨c0, c1, c2, c3, c4⟩, ⟨f0, f1, f2, f3, f4⟩⟩ := H9.out.cells
      obtain ⟨d0, d1, d2, d3, d4⟩ := H9.out.res.cells5
      obtain ⟨g0, g1, g2, g3, g4⟩ := H9.out.res.free5
      have hne : w.heap.size ≠ S := by have := H9.out.lt; omega
      have hne2 : S ≠ w.heap.size := by have := H9.out.lt; omega
      go_wp2
      refine bodyPost_ret (v := houseV (1 + x1) (decide (0 < x2)) z (.slice ao ps.length co) z6) (by simp [results, Tryd.results22, go_sem, *]) rfl ?_
      exact (H9.out.setRoom z).done (by omega) (by omega) _ _ _ _ _
    have e0 : (y2 == 0) = false := by simpa using hy0
    have e1 : (y2 == 1) = false := by simpa using hy1
    have e2 : (y2 == 2) = false := by simpa using hy2
    obtain ⟨⟨c0, c1, c2, c3, c4⟩, ⟨f0, f1, f2, f3, f4⟩⟩ := H7.out.cells
    obtain ⟨d0, d1, d2, d3, d4⟩ := H7.out.res.cells5
    obtain ⟨g0, g1, g2, g3, g4⟩ := H7.out.res.free5
    have hne : w.heap.size ≠ S := by have := H7.out.lt; omega
    have hne2 : S ≠ w.heap.size := by have := H7.out.lt; omega
    go_wp2
    refine bodyPost_ret (v := houseV (1 + x1) (decide (0 < x2)) room (.slice ao ps.length co) z6) (by simp [results, Tryd.results22, go_sem, *]) rfl ?_
    exact H7.out.done (by omega) (by omega) _ _ _ _ _
  · have ey : (y == 0) = false := by simpa using hy
    go_wp2_with fail
    refine (pick_any b (q + 3) 20 _ H5.out.rc.rd (by omega) (by omega) (by omega)).mono ?_
    rintro e w7 ⟨y2, rfl, ly2, uy2, r7, m7⟩
    have H7 := hide_it (H5.out.step m7 r7)
    clear r7 m7
    by_cases hy0 : y2 = 0
    · subst hy0
      have H8 := hide_it (H7.out.later (alloc_below _ (.cells #[.int .i64 0, .int .i64 4] 3)))
      have N8 := hide_it (Blk.new w7 #[.int .i64 0, .int .i64 4] 3)
      have hb7 : b < w7.heap.size := H7.out.rc.rd.lt
      go_wp2_with fail
      refine (pick_any b (q + 3 + 1) 2 _ H8.out.rc.rd (by omega) (by omega) (by omega)).mono ?_
      rintro e w9 ⟨z, rfl, lz, uz, r9, m9⟩
      have H9 := hide_it (H8.out.step m9 r9)
      have N9 := hide_it (N8.out.mid m9 (Or.inr (by omega)))
      clear r9 m9 H8 N8
      obtain ⟨n0, n1⟩ := N9.out.cells2
      obtain ⟨⟨c0, c1, c2, c3, c4⟩, ⟨f0, f1, f2, f3, f4⟩⟩ := H9.out.cells
      obtain ⟨d0, d1, d2, d3, d4⟩ := H9.out.res.cells5
      obtain ⟨g0, g1, g2, g3, g4⟩ := H9.out.res.free5
      have hne : w.heap.size ≠ S := by have := H9.out.lt; omega
      have hne2 : S ≠ w.heap.size := by have := H9.out.lt; omega
      have hz2 : z = 0 ∨ z = 1 := by omega
      rcases hz2 with rfl | rfl
      · go_wp2
        refine bodyPost_ret (v := houseV 0 (decide (0 < x2)) room (.slice ao ps.length co) ps.length) (by simp [results, Tryd.results22, go_sem, *]) rfl ?_
        exact (H9.out.setId 0).done (by omega) (by omega) _ _ _ _ _
      · go_wp2
        refine bodyPost_ret (v := houseV 4 (decide (0 < x2)) room (.slice ao ps.length co) ps.length) (by simp [results, Tryd.results22, go_sem, *]) rfl ?_
        exact (H9.out.setId 4).done (by omega) (by omega) _ _ _ _ _
    by_cases hy1 : y2 = 1
    · subst hy1
      have HD7 := hide_it (H7.out.later (Below.refl _ _).drew)
      obtain ⟨⟨c0, c1, c2, c3, c4⟩, ⟨f0, f1, f2, f3, f4⟩⟩ := H7.out.cells
      go_wp2_with fail
      go_region_law (first
        | (refine step_append_lies _ rfl _ _ 23 rfl w.heap.size 62 i0 (.agg #[.int .i64 0, .int .i64 0, .slice none 0 0]) 3 40 Tryd.underlying23 hi hz0 hz1 hz2 rfl (by decide) (.slice ao ps.length co) ps.length (flat ps) rfl (by exact (ROW8.out _)) ⟨w8.heap.size, 0, none⟩ 1 1 [.int .i64 k, .int .i64 t, .slice (some ⟨g, off, none⟩) zs.length cap8] rfl rfl (by exact news3 _ _ _ _ _) (by exact one3 _ _ _) (by decide) (by unfold maxLen; omega) (by omega) (by simp; omega) _ rfl ?_; intro g9 cap9 w9 hown9 hgrow9 _ _; have P9 := HsS.pushed (r := (k, t, zs)) (H8.out.later (alloc_below _ _)) (GD8.out _) hown9 hgrow9; have PS := hide_it P9.1.out; obtain ⟨j0, j1, j2, j3, j4⟩ := P9.2.1.cells5; obtain ⟨jf0, jf1, jf2, jf3, jf4⟩ := P9.2.1.free5; obtain ⟨d0, d1, d2, d3, d4⟩ := P9.2.2.cells5; obtain ⟨g0, g1, g2, g3, g4⟩ := P9.2.2.free5; have hne : w.heap.size ≠ S := (by have := H8.out.lt; omega); have hne2 : S ≠ w.heap.size := (by have := H8.out.lt; omega); clear P9 hown9 hgrow9)
        | (go_simp; go_at_call 43; refine (rec_draw b ((q + 3) + 1) _ HD7.out.rc.rd (by omega)).mono ?_; rintro e w8 ⟨k, t, u, zs, q8, cap8, rfl, hz, hF, hqa, hqb, r8, m8⟩; have H8 := hide_it (HD7.out.step m8 r8); have F8 := hide_it (hF.mono (lo' := w.heap.size) (by have := H7.out.rc.mid.size; simp; omega)); obtain ⟨g, off, hu⟩ : ∃ g off, u = .slice (some ⟨g, off, none⟩) zs.length cap8 := (by obtain ⟨g, off, cs, h, _⟩ := hF; exact ⟨g, off, h⟩); subst hu; have GD8 : Hid (∀ x, Good (w8.alloc x) w.heap.size ((k, t, zs), .slice (some ⟨g, off, none⟩) zs.length cap8)) := (fun x => ⟨hz, Or.inl ⟨_, F8.out.later (alloc_below _ x) (Nat.le_refl _)⟩⟩); have ROW8 : Hid (∀ x, (w8.alloc x).ownsRow w.heap.size 62 3 (.slice ao ps.length co) ps.length (flat ps)) := (fun x => (H8.out.rc.later (alloc_below _ x)).row); obtain ⟨⟨l0, l1, l2, l3, l4⟩, ⟨lf0, lf1, lf2, lf3, lf4⟩⟩ := H8.out.cells; have l3o := (fun x => cellAlloc l3 x); have hs8 : w.heap.size ≤ w8.heap.size := H8.out.rc.mid.size; clear hF r8 m8))
      all_goals
        go_wp2
        refine bodyPost_ret (v := houseV (1 + x1) (decide (0 < x2)) room (.slice (some ⟨g9, 0, none⟩) (ps.length + 1) cap9) ps.length) (by simp [results, Tryd.results22, go_sem, *]) rfl ?_
        exact PS.out.done (by simp; omega) (by omega) _ _ _ _ _
    by_cases hy2 : y2 = 2
    · subst hy2
      go_wp2_with fail
      refine (pick_any b (q + 3 + 1) 4 _ H7.out.rc.rd (by omega) (by omega) (by omega)).mono ?_
      rintro e w9 ⟨z, rfl, lz, uz, r9, m9⟩
      have H9 := hide_it (H7.out.step m9 r9)
      clear r9 m9
      obtain ⟨⟨c0, c1, c2, c3, c4⟩, ⟨f0, f1, f2, f3, f4⟩⟩ := H9.out.cells
      obtain ⟨d0, d1, d2, d3, d4⟩ := H9.out.res.cells5
      obtain ⟨g0, g1, g2, g3, g4⟩ := H9.out.res.free5
      have hne : w.heap.size ≠ S := by have := H9.out.lt; omega
      have hne2 : S ≠ w.heap.size := by have := H9.out.lt; omega
      go_wp2
      refine bodyPost_ret (v := houseV (1 + x1) (decide (0 < x2)) z (.slice ao ps.length co) ps.length) (by simp [results, Tryd.results22, go_sem, *]) rfl ?_
      exact (H9.out.setRoom z).done (by omega) (by omega) _ _ _ _ _
    have e0 : (y2 == 0) = false := by simpa using hy0
    have e1 : (y2 == 1) = false := by simpa using hy1
    have e2 : (y2 == 2) = false := by simpa using hy2
    obtain ⟨⟨c0, c1, c2, c3, c4⟩, ⟨f0, f1, f2, f3, f4⟩⟩ := H7.out.cells
    obtain ⟨d0, d1, d2, d3, d4⟩ := H7.out.res.cells5
    obtain ⟨g0, g1, g2, g3, g4⟩ := H7.out.res.free5
    have hne : w.heap.size ≠ S := by have := H7.out.lt; omega
    have hne2 : S ≠ w.heap.size := by have := H7.out.lt; omega
    go_wp2
    refine bodyPost_ret (v := houseV (1 + x1) (decide (0 < x2)) room (.slice ao ps.length co) ps.length) (by simp [results, Tryd.results22, go_sem, *]) rfl ?_
    exact H7.out.done (by omega) (by omega) _ _ _ _ _

end Go.Proofs.YtgeagfglkgpoiaaDoor

namespace Go.Proofs.YtgeagfglkgpoiaaDoor
open Go.RowKit

set_option maxHeartbeats 1000000 in
theorem lnInts_any (v1 v2 : Value) (zs : List Int) (w : World) (h1 : Ints w v1 zs) (h2 : Ints w v2 zs) (hl : zs.length ≤ 1048576) :
    Calls Tryd.prog 65 #[v1, v2] w fun e w' => e = .returned (.bool true) ∧ Below w.heap.size w w' := by
  rcases h1 with ⟨rfl, ao, cap, rfl, -⟩ | ⟨b, off, cap, rfl, hz, hc⟩
  · obtain ⟨ao2, cap2, rfl⟩ := h2.shape
    clear h2
    go_enter Tryd.func65, Tryd.ntmps65
    go_wp2
    refine wp_loop_rounds 1 ?_
    rw [rounds_succ]
    go_wp2
    go_ret
    exact ⟨rfl, Below.refl _ _⟩
  rcases h2 with ⟨h, _⟩ | ⟨b2, off2, cap2, rfl, _, hc2⟩
  · exact absurd h hz
  have HC : Hid (∀ k, k < zs.length → w.cell? ⟨b, off + k, none⟩ = some (.int .i64 (zs.getD k 0))) := hc
  have HC2 : Hid (∀ k, k < zs.length → w.cell? ⟨b2, off2 + k, none⟩ = some (.int .i64 (zs.getD k 0))) := hc2
  have hzl : 0 < zs.length := List.length_pos_iff.2 hz
  have hbw : b < w.heap.size := World.block_lt_of_cell? _ _ (hc 0 hzl)
  have hbw2 : b2 < w.heap.size := World.block_lt_of_cell? _ _ (hc2 0 hzl)
  clear hc hc2 hz
  go_enter Tryd.func65, Tryd.ntmps65
  go_wp2
  go_loopw [5] (fun i wr => ∃ k : Nat, k ≤ zs.length ∧ i = .int .i64 k ∧ Below w.heap.size w wr) (fun i _ => zs.length - (intOf i).toNat)
  case atStart => exact ⟨0, Nat.zero_le _, rfl, Below.refl _ _⟩
  case round =>
    obtain ⟨k, hk, rfl, hbe⟩ := hrel
    by_cases hlt : k < zs.length
    · obtain ⟨z, HZ⟩ : ∃ z, Hid (z = zs.getD k 0) := ⟨_, rfl⟩
      have hck : wr.cell? ⟨b, off + k, none⟩ = some (.int .i64 z) := by rw [HZ.out, hbe.cell (p := ⟨b, off + k, none⟩) hbw]; exact HC.out k hlt
      have hck2 : wr.cell? ⟨b2, off2 + k, none⟩ = some (.int .i64 z) := by rw [HZ.out, hbe.cell (p := ⟨b2, off2 + k, none⟩) hbw2]; exact HC2.out k hlt
      have hli : (k : Int) < (zs.length : Int) := by omega
      have HB : Hid (Below w.heap.size w wr) := hbe
      clear hbe
      go_wp2
      go_quiet (fail)
      go_wp2
      go_roundw
      case rel => exact ⟨k + 1, by omega, by go_num, below_drewN HB.out _⟩
      case measure => simp [intOf]; omega
    · go_wp2
      go_ret
      exact ⟨rfl, hbe⟩

set_option maxHeartbeats 1000000 in
theorem lnRec_any (k t : Int) (v1 v2 : Value) (zs : List Int) (w : World) (h1 : Ints w v1 zs) (h2 : Ints w v2 zs) (hl : zs.length ≤ 1048576) :
    Calls Tryd.prog 55 #[.agg #[.int .i64 k, .int .i64 t, v1], .agg #[.int .i64 k, .int .i64 t, v2]] w fun e w' => e = .returned (.bool true) ∧ Below w.heap.size w w' := by
  have H1 : Hid (∀ o1 o2, Ints ((w.alloc o1).alloc o2) v1 zs) := fun o1 o2 => h1.later (below2 w o1 o2) (Nat.le_refl _)
  have H2 : Hid (∀ o1 o2, Ints ((w.alloc o1).alloc o2) v2 zs) := fun o1 o2 => h2.later (below2 w o1 o2) (Nat.le_refl _)
  clear h1 h2
  go_enter Tryd.func55, Tryd.ntmps55
  go_wp2_with (go_at_call 65; refine (lnInts_any _ _ zs _ (H1.out _ _) (H2.out _ _) hl).mono ?_; rintro e w1 ⟨rfl, hb⟩)
  go_ret
  refine ⟨rfl, (below2 w _ _).trans (Below.mono (by assumption) ?_)⟩
  simp; omega

set_option maxHeartbeats 1000000 in
theorem lnRecs_any (v1 v2 : Value) (rs : List R) (w : World) (h1 : Recs w v1 rs) (h2 : Recs w v2 rs) (hl : tot rs ≤ 1048576) :
    Calls Tryd.prog 40 #[v1, v2] w fun e w' => e = .returned (.bool true) ∧ Below w.heap.size w w' := by
  have hlen := tot_len rs
  have HM : Hid (∀ r ∈ rs, r.2.2.length ≤ 1048576) := fun r hr => Nat.le_trans (tot_mem rs r hr) hl
  rcases h1 with ⟨rfl, ao, cap, rfl⟩ | ⟨b, off, cap, rfl, hz, hc⟩
  · obtain ⟨ao2, cap2, rfl⟩ := h2.shape
    clear h2
    go_enter Tryd.func40, Tryd.ntmps40
    go_wp2
    refine wp_loop_rounds 1 ?_
    rw [rounds_succ]
    go_wp2
    go_ret
    exact ⟨rfl, Below.refl _ _⟩
  rcases h2 with ⟨h, _⟩ | ⟨b2, off2, cap2, rfl, _, hc2⟩
  · exact absurd h hz
  have HC : Hid (∀ i r, rs[i]? = some r → ∃ u, RecCells w b (off + i * 3) r u) := hc
  have HC2 : Hid (∀ i r, rs[i]? = some r → ∃ u, RecCells w b2 (off2 + i * 3) r u) := hc2
  have hzl : 0 < rs.length := List.length_pos_iff.2 hz
  clear hc hc2 hz
  go_enter Tryd.func40, Tryd.ntmps40
  go_wp2
  go_loopw [5] (fun i wr => ∃ k : Nat, k ≤ rs.length ∧ i = .int .i64 k ∧ Below w.heap.size w wr) (fun i _ => rs.length - (intOf i).toNat)
  case atStart => exact ⟨0, Nat.zero_le _, rfl, Below.refl _ _⟩
  case round =>
    obtain ⟨k, hk, rfl, hbe⟩ := hrel
    by_cases hlt : k < rs.length
    · obtain ⟨r, hr⟩ : ∃ r, Hid (rs[k]? = some r) := ⟨rs[k], by show _ = _; simp [hlt]⟩
      have hrl : r.2.2.length ≤ 1048576 := HM.out r (List.mem_of_getElem? hr.out)
      obtain ⟨u, hu⟩ := HC.out k r hr.out
      obtain ⟨u', hu'⟩ := HC2.out k r hr.out
      obtain ⟨c0, c1, c2, hI⟩ := hu.later hbe (Nat.le_refl _)
      obtain ⟨d0, d1, d2, hJ⟩ := hu'.later hbe (Nat.le_refl _)
      have HI : Hid (Ints wr u r.2.2) := hI
      have HJ : Hid (Ints wr u' r.2.2) := hJ
      have hli : (k : Int) < (rs.length : Int) := by omega
      have HB : Hid (Below w.heap.size w wr) := hbe
      clear hbe hI hJ hu hu'
      go_wp2
      go_region_with (go_at_call 55; refine (lnRec_any _ _ _ _ r.2.2 _ ?_ ?_ hrl).mono ?_; exact HI.out.later (Below.refl _ _).drew (Nat.le_refl _); exact HJ.out.later (Below.refl _ _).drew (Nat.le_refl _); rintro e w2 ⟨rfl, hb2⟩; have HB2 := HB.out.drew.trans (hb2.mono HB.out.size); clear hb2)
      all_goals (try go_wp2)
      all_goals
        go_roundw
        case rel => exact ⟨k + 1, by omega, by go_num, HB2⟩
        case measure => simp [intOf]; omega
    · go_wp2
      go_ret
      exact ⟨rfl, hbe⟩

set_option maxHeartbeats 1000000 in
theorem lnLog_any (v1 v2 : Value) (rs : List R) (f : Int) (w : World) (h1 : Recs w v1 rs) (h2 : Recs w v2 rs) (hl : tot rs ≤ 1048576) :
    Calls Tryd.prog 19 #[.agg #[v1, .int .i64 f], .agg #[v2, .int .i64 f]] w fun e w' => e = .returned (.bool true) ∧ Below w.heap.size w w' := by
  have H1 : Hid (∀ o1 o2, Recs ((w.alloc o1).alloc o2) v1 rs) := fun o1 o2 => h1.later (below2 w o1 o2) (Nat.le_refl _)
  have H2 : Hid (∀ o1 o2, Recs ((w.alloc o1).alloc o2) v2 rs) := fun o1 o2 => h2.later (below2 w o1 o2) (Nat.le_refl _)
  obtain ⟨a1, p1, rfl⟩ := h1.shape
  obtain ⟨a2, p2, rfl⟩ := h2.shape
  clear h1 h2
  go_enter Tryd.func19, Tryd.ntmps19
  go_wp2_with fail
  refine (lnRecs_any _ _ rs _ (H1.out _ _) (H2.out _ _) hl).mono ?_
  rintro e w1 ⟨rfl, hb⟩
  obtain ⟨hc, _⟩ := bcell hb
  have HB : Hid (Below w.heap.size w w1) := (below2 w _ _).trans (hb.mono (by simp; omega))
  have hz : w.heap.size + 2 ≤ w1.heap.size := by have := hb.size; rw [size2] at this; exact this
  rw [size2] at hc
  clear hb
  go_wp2
  go_ret
  exact ⟨rfl, HB.out⟩

end Go.Proofs.YtgeagfglkgpoiaaDoor

namespace Go.Proofs.YtgeagfglkgpoiaaDoor
open Go.RowKit

/-- Records that a draw has made, and the block of a result below them. -/
structure RL (W : World) (base X : Nat) (o : Value) (ps : List (R × Value)) : Prop where
  row : W.ownsRow base 62 3 o ps.length (flat ps)
  all : ∀ p ∈ ps, Good W base p
  blk : ∃ cs, Blk W X cs 27
  low : X < base
theorem RL.set {W : World} {base X i : Nat} {o : Value} {ps : List (R × Value)} (h : RL W base X o ps) (x : Value) : RL (W.setCell ⟨X, i, none⟩ x) base X o ps := by
  obtain ⟨cs, hX⟩ := h.blk
  exact ⟨ownsRow_setCell_below h.row (by simpa using h.low) _, fun p hp => (h.all p hp).keep fun g cs' hh => Below.heap_setCell _ _ _ _ (ne_of_type hh hX (by decide)), ⟨_, hX.set_ i x⟩, h.low⟩

set_option maxHeartbeats 2000000 in
theorem lnHouse_any (id : Int) (up : Bool) (room : Int) (v1 v2 : Value) (rs : List R) (f : Int) (w : World) (h1 : Recs w v1 rs) (h2 : Recs w v2 rs) (hl : tot rs ≤ 1048576) :
    Calls Tryd.prog 15 #[houseV id up room v1 f, houseV id up room v2 f] w fun e w' => e = .returned (.bool true) ∧ Below w.heap.size w w' := by
  have HL : Hid (∀ o1 o2, Calls Tryd.prog 19 #[.agg #[v1, .int .i64 f], .agg #[v2, .int .i64 f]] ((w.alloc o1).alloc o2) fun e w' => e = .returned (.bool true) ∧ Below ((w.alloc o1).alloc o2).heap.size ((w.alloc o1).alloc o2) w') := fun o1 o2 =>
    lnLog_any v1 v2 rs f _ (h1.later (below2 w o1 o2) (Nat.le_refl _)) (h2.later (below2 w o1 o2) (Nat.le_refl _)) hl
  obtain ⟨a1, p1, rfl⟩ := h1.shape
  obtain ⟨a2, p2, rfl⟩ := h2.shape
  clear h1 h2
  cases up
  all_goals
    go_enter Tryd.func15, Tryd.ntmps15
    go_wp2_with fail
    refine (HL.out _ _).mono ?_
    rintro e w1 ⟨rfl, hb⟩
    have HB : Hid (Below w.heap.size w w1) := (below2 w _ _).trans (hb.mono (by simp; omega))
    clear hb
    go_wp2
    go_ret
    exact ⟨rfl, HB.out⟩

end Go.Proofs.YtgeagfglkgpoiaaDoor

namespace Go.Proofs.YtgeagfglkgpoiaaDoor
open Go.RowKit

set_option maxHeartbeats 2000000 in
theorem drawHouseStock_any (v : Value) (n : Nat) (w : World) (hv : CodeAt w v n) (hn : n ≤ 1048576) :
    Calls Tryd.prog 5 #[v] w fun e w' => ∃ (id : Int) (up : Bool) (room : Int) (o : Value) (f : Int) (rs : List R) (fc : Bool), e = .returned (.tuple #[houseV id up room o f, .bool fc]) ∧ tot rs ≤ 1000 ∧ Recs w' o rs ∧ Form o rs.length ∧ True ∧ Below w.heap.size w w' := by
  have hv0 := hide_it (hv.later (alloc_below w (.cells #[.int .i64 0, .bool false, .int .i64 0, .slice none 0 0, .int .i64 0] 27)) (Nat.le_refl _))
  have HO := hide_it (open_any v n _ hv0.out hn)
  obtain ⟨ao, cap, rfl, _⟩ := hv
  obtain ⟨w0, hw0⟩ : ∃ W, Hid (W = w.alloc (.cells #[.int .i64 0, .bool false, .int .i64 0, .slice none 0 0, .int .i64 0] 27)) := ⟨_, rfl⟩
  have B0 : Hid (Below w.heap.size w w0) := by show Below _ _ _; rw [hw0.out]; exact alloc_below _ _
  have S0 : Hid (Blk w0 w.heap.size #[.int .i64 0, .bool false, .int .i64 0, .slice none 0 0, .int .i64 0] 27) := by show Blk _ _ _ _; rw [hw0.out]; exact Blk.new _ _ _
  have Z0 : Hid (w0.heap.size = w.heap.size + 1) := by show _ = _; rw [hw0.out]; simp
  rw [← hw0.out] at HO
  clear hv0
  go_enter Tryd.func5, Tryd.ntmps5
  go_wp2_with fail
  rw [← hw0.out]
  refine HO.out.mono ?_
  rintro e w1 ⟨rfl, hr1, hs1, hb1⟩
  have R1 := hide_it hr1
  have B1 := hide_it (B0.out.trans (hb1.mono B0.out.size))
  have S1 := hide_it (S0.out.after hb1)
  have Z1 : Hid (w1.heap.size = w.heap.size + 2) := by show _ = _; rw [hs1, Z0.out]
  clear hr1 hb1 hs1
  go_wp2_with fail
  refine (house_draw _ 0 _ R1.out (by omega)).mono ?_
  rintro e w2 ⟨id, up, room, o, f, ps, q, rfl, hps, hq, hrc⟩
  have B2 := hide_it (B1.out.trans (hrc.mid.below (B := w.heap.size) (by rw [Z0.out]; omega) B1.out.size))
  have S2 := hide_it (S1.out.mid hrc.mid (Or.inl (by rw [Z0.out]; omega)))
  have C2 := hide_it hrc
  obtain ⟨au, cu, rfl⟩ := row_shape hrc.row
  clear hrc
  obtain ⟨c0, c1, c2, c3, c4⟩ := S2.out.cells5
  obtain ⟨f0, f1, f2, f3, f4⟩ := S2.out.free5
  go_wp2_with fail
  refine (pick_any _ (q) 2 _ C2.out.rd (by omega) (by omega) (by omega)).mono ?_
  rintro e w3 ⟨x1, rfl, lx1, ux1, rr, mm⟩
  have B3 := hide_it (B2.out.trans (mm.below (B := w.heap.size) (by rw [Z0.out]; omega) B2.out.size))
  have S3 := hide_it (S2.out.mid mm (Or.inl (by rw [Z0.out]; omega)))
  have C3 := hide_it (C2.out.step mm rr)
  clear rr mm c0 c1 c2 c3 c4 f0 f1 f2 f3 f4
  have L3 : Hid (RL w3 w1.heap.size w.heap.size (.slice au ps.length cu) ps) := ⟨C3.out.row, C3.out.all, ⟨_, S3.out⟩, by rw [Z1.out]; omega⟩
  have hlen : (ps.map (·.1)).length = ps.length := by simp
  obtain ⟨c0, c1, c2, c3, c4⟩ := S3.out.cells5
  obtain ⟨f0, f1, f2, f3, f4⟩ := S3.out.free5
  go_wp2_with fail
  refine bodyPost_ret (v := .tuple #[houseV id up room (.slice au ps.length cu) f, .bool (x1 == 0)]) (by simp [results, Tryd.results5, go_sem, *]) rfl ?_
  have LF := ((((L3.out.set (i := 0) (.int .i64 id)).set (i := 1) (.bool up)).set (i := 2) (.int .i64 room)).set (i := 3) (.slice au ps.length cu)).set (i := 4) (.int .i64 f)
  refine ⟨id, up, room, _, f, ps.map (·.1), _, rfl, tot_small ps (by omega) (fun x hx => (LF.all x hx).1), recs_rows LF.row LF.all, ?_, trivial, ?_⟩
  · rw [hlen]; exact form_of_row LF.row
  · exact ((((B3.out.setCell (by simp) _).setCell (by simp) _).setCell (by simp) _).setCell (by simp) _).setCell (by simp) _

set_option maxHeartbeats 2000000 in
theorem drawHouseFall_any (v : Value) (n : Nat) (w : World) (hv : CodeAt w v n) (hn : n ≤ 1048576) :
    Calls Tryd.prog 13 #[v] w fun e w' => ∃ (id : Int) (up : Bool) (room : Int) (o : Value) (f : Int) (rs : List R) (kp : Int), e = .returned (.tuple #[houseV id up room o f, .int .i64 kp]) ∧ tot rs ≤ 1000 ∧ Recs w' o rs ∧ Form o rs.length ∧ (-10 ≤ kp ∧ kp ≤ 10) ∧ Below w.heap.size w w' := by
  have hv0 := hide_it (hv.later (alloc_below w (.cells #[.int .i64 0, .bool false, .int .i64 0, .slice none 0 0, .int .i64 0] 27)) (Nat.le_refl _))
  have HO := hide_it (open_any v n _ hv0.out hn)
  obtain ⟨ao, cap, rfl, _⟩ := hv
  obtain ⟨w0, hw0⟩ : ∃ W, Hid (W = w.alloc (.cells #[.int .i64 0, .bool false, .int .i64 0, .slice none 0 0, .int .i64 0] 27)) := ⟨_, rfl⟩
  have B0 : Hid (Below w.heap.size w w0) := by show Below _ _ _; rw [hw0.out]; exact alloc_below _ _
  have S0 : Hid (Blk w0 w.heap.size #[.int .i64 0, .bool false, .int .i64 0, .slice none 0 0, .int .i64 0] 27) := by show Blk _ _ _ _; rw [hw0.out]; exact Blk.new _ _ _
  have Z0 : Hid (w0.heap.size = w.heap.size + 1) := by show _ = _; rw [hw0.out]; simp
  rw [← hw0.out] at HO
  clear hv0
  go_enter Tryd.func13, Tryd.ntmps13
  go_wp2_with fail
  rw [← hw0.out]
  refine HO.out.mono ?_
  rintro e w1 ⟨rfl, hr1, hs1, hb1⟩
  have R1 := hide_it hr1
  have B1 := hide_it (B0.out.trans (hb1.mono B0.out.size))
  have S1 := hide_it (S0.out.after hb1)
  have Z1 : Hid (w1.heap.size = w.heap.size + 2) := by show _ = _; rw [hs1, Z0.out]
  clear hr1 hb1 hs1
  go_wp2_with fail
  refine (house_draw _ 0 _ R1.out (by omega)).mono ?_
  rintro e w2 ⟨id, up, room, o, f, ps, q, rfl, hps, hq, hrc⟩
  have B2 := hide_it (B1.out.trans (hrc.mid.below (B := w.heap.size) (by rw [Z0.out]; omega) B1.out.size))
  have S2 := hide_it (S1.out.mid hrc.mid (Or.inl (by rw [Z0.out]; omega)))
  have C2 := hide_it hrc
  obtain ⟨au, cu, rfl⟩ := row_shape hrc.row
  clear hrc
  obtain ⟨c0, c1, c2, c3, c4⟩ := S2.out.cells5
  obtain ⟨f0, f1, f2, f3, f4⟩ := S2.out.free5
  go_wp2_with fail
  refine (pick_any _ (q) 5 _ C2.out.rd (by omega) (by omega) (by omega)).mono ?_
  rintro e w3 ⟨x1, rfl, lx1, ux1, rr, mm⟩
  have B3 := hide_it (B2.out.trans (mm.below (B := w.heap.size) (by rw [Z0.out]; omega) B2.out.size))
  have S3 := hide_it (S2.out.mid mm (Or.inl (by rw [Z0.out]; omega)))
  have C3 := hide_it (C2.out.step mm rr)
  clear rr mm c0 c1 c2 c3 c4 f0 f1 f2 f3 f4
  obtain ⟨c0, c1, c2, c3, c4⟩ := S3.out.cells5
  obtain ⟨f0, f1, f2, f3, f4⟩ := S3.out.free5
  go_wp2_with fail
  refine (pick_any _ (q + 1) 6 _ C3.out.rd (by omega) (by omega) (by omega)).mono ?_
  rintro e w4 ⟨x2, rfl, lx2, ux2, rr, mm⟩
  have B4 := hide_it (B3.out.trans (mm.below (B := w.heap.size) (by rw [Z0.out]; omega) B3.out.size))
  have S4 := hide_it (S3.out.mid mm (Or.inl (by rw [Z0.out]; omega)))
  have C4 := hide_it (C3.out.step mm rr)
  clear rr mm c0 c1 c2 c3 c4 f0 f1 f2 f3 f4
  have L4 : Hid (RL w4 w1.heap.size w.heap.size (.slice au ps.length cu) ps) := ⟨C4.out.row, C4.out.all, ⟨_, S4.out⟩, by rw [Z1.out]; omega⟩
  have hlen : (ps.map (·.1)).length = ps.length := by simp
  obtain ⟨c0, c1, c2, c3, c4⟩ := S4.out.cells5
  obtain ⟨f0, f1, f2, f3, f4⟩ := S4.out.free5
  have hq5 : Hid (x2.tdiv 5 = 0 ∨ x2.tdiv 5 = 1) := by show _ ∨ _; have : x2.tdiv 5 = x2 / 5 := Int.tdiv_eq_ediv_of_nonneg lx2; omega
  have hw1 : IntKind.i64.wrap (x2.tdiv 5) = x2.tdiv 5 := by obtain h | h := hq5.out <;> rw [h] <;> rfl
  have hw2 : IntKind.i64.wrap (x2.tdiv 5 * 2) = x2.tdiv 5 * 2 := by obtain h | h := hq5.out <;> rw [h] <;> rfl
  have hw3 : IntKind.i64.wrap (x1 - x2.tdiv 5 * 2) = x1 - x2.tdiv 5 * 2 := by obtain h | h := hq5.out <;> rw [h] <;> simp [IntKind.wrap, IntKind.bits, IntKind.signed] <;> omega
  go_wp2_with fail
  refine bodyPost_ret (v := .tuple #[houseV id up room (.slice au ps.length cu) f, .int .i64 (x1 - x2.tdiv 5 * 2)]) (by simp [results, Tryd.results13, go_sem, *]) rfl ?_
  have LF := ((((L4.out.set (i := 0) (.int .i64 id)).set (i := 1) (.bool up)).set (i := 2) (.int .i64 room)).set (i := 3) (.slice au ps.length cu)).set (i := 4) (.int .i64 f)
  refine ⟨id, up, room, _, f, ps.map (·.1), _, rfl, tot_small ps (by omega) (fun x hx => (LF.all x hx).1), recs_rows LF.row LF.all, ?_, by obtain h | h := hq5.out <;> rw [h] <;> omega, ?_⟩
  · rw [hlen]; exact form_of_row LF.row
  · exact ((((B4.out.setCell (by simp) _).setCell (by simp) _).setCell (by simp) _).setCell (by simp) _).setCell (by simp) _

end Go.Proofs.YtgeagfglkgpoiaaDoor

namespace Go.Proofs.YtgeagfglkgpoiaaDoor
open Go.RowKit

theorem form_made {w : World} {lo cap : Nat} {ao : Option Addr} {rs : List R} (h : Made w lo (.slice ao rs.length cap) rs) : Form (.slice ao rs.length cap) rs.length := by
  rcases h.form with ⟨rfl, rfl, rfl⟩ | ⟨g, rfl, hc⟩
  · exact Or.inl ⟨rfl, rfl⟩
  · exact Or.inr ⟨g, cap, rfl, hc⟩

end Go.Proofs.YtgeagfglkgpoiaaDoor

namespace Go.Proofs.YtgeagfglkgpoiaaDoor
open Go.RowKit

/-- A stock comes back, in memory of the call's own. -/
def SkOut (W w' : World) (e : Ending) (RR : Int) (HS : List Pl.H) : Prop :=
  ∃ ao cap, e = .returned (.agg #[.int .i64 RR, .slice ao HS.length cap]) ∧ w'.ownsRow W.heap.size 56 2 (.slice ao HS.length cap) HS.length (hflat HS) ∧ Below W.heap.size W w'
theorem SkOut.none_ {W w' : World} (h : Below W.heap.size W w') : SkOut W w' (.returned (.agg #[.int .i64 0, .slice none 0 0])) 0 [] := ⟨none, 0, rfl, World.ownsRow_nil _ _ _ _, h⟩

/-- The records that count; what HouseStock answers by. -/
def cutR (rs : List R) (f : Int) (forced : Bool) : List R := if forced = true then rs.take f.toNat else rs
def hsO (id room : Int) (rs : List R) (f : Int) (forced : Bool) : Option (List Pl.H) := if hoOk id room rs f = true then Pl.sOf room (cutR rs f forced) else none
theorem cutR_tot (rs : List R) (f : Int) (forced : Bool) : tot (cutR rs f forced) ≤ tot rs := by
  unfold cutR; split
  · by_cases h : f.toNat ≤ rs.length
    · exact pre_take rs _ h
    · rw [List.take_of_length_le (by omega)]; exact Nat.le_refl _
  · exact Nat.le_refl _
theorem cutR_len {rs : List R} {f : Int} (h0 : 0 ≤ f) (h1 : f ≤ rs.length) : ((rs.take f.toNat).length : Int) = f := by simp; omega

/-- The first ones of a list that lies in memory. -/
theorem Recs.cut {w : World} {N cap : Nat} {ao : Option Addr} {rs : List R} (h : Recs w (.slice ao rs.length cap) rs) (hN : N ≤ rs.length) : Recs w (.slice ao N cap) (rs.take N) := h.take hN

theorem row_set {w : World} {base b : Nat} {v : Value} {n : Nat} {xs : List Value} {cur : Array Value} {ty : TypeId} (h : w.ownsRow base 56 2 v n xs) (hb : Blk w b cur ty) (ht : ty ≠ 56) (j : Nat) (x : Value) : (w.setCell ⟨b, j, none⟩ x).ownsRow base 56 2 v n xs := by
  refine ownsRow_setCell_ne h (fun g hg e => ?_) x
  subst e
  rcases h.2 with ⟨hv, _⟩ | ⟨g', cap, cur', hv, _, hc, _⟩
  · rw [hv] at hg; simp [Value.ownBlock] at hg
  · rw [hv] at hg
    simp [Value.ownBlock] at hg
    subst hg
    unfold Blk at hb
    rw [hb] at hc
    simp at hc
    exact ht hc.2
theorem row_low {w : World} {base lo : Nat} {v : Value} {n : Nat} {xs : List Value} (h : w.ownsRow base 56 2 v n xs) (hl : lo ≤ base) : w.ownsRow lo 56 2 v n xs := ownsRow_base h hl

set_option maxHeartbeats 2000000 in
theorem allStock_any (id : Int) (up : Bool) (room : Int) (v : Value) (rs : List R) (f : Int) (a : Addr) (w : World) (hv : Recs w v rs) (hl : tot rs ≤ 1048576) (ha : ErrAt w a) :
    Calls Tryd.prog 26 #[keeperV v f id up room] w fun e w' => SkOut w w' e (oR room (Pl.sOf room rs)) (oH (Pl.sOf room rs)) := by
  obtain ⟨RR, hRR⟩ : ∃ x, Hid (oR room (Pl.sOf room rs) = x) := ⟨_, rfl⟩
  obtain ⟨HS, hHS⟩ : ∃ x, Hid (oH (Pl.sOf room rs) = x) := ⟨_, rfl⟩
  obtain ⟨BB, hBB⟩ : ∃ x, Hid ((Pl.sOf room rs).isSome = x) := ⟨_, rfl⟩
  have HO : Hid (∀ W, Below w.heap.size w W → Calls Tryd.prog 10 #[.int .i64 room, v] W fun e w' => StOut W w' e RR HS BB) := fun W h => by
    have := implOf_any room v rs a W (hv.later h (Nat.le_refl _)) hl (ha.later h (Nat.le_refl _))
    rw [hRR.out, hHS.out, hBB.out] at this; exact this
  rw [hRR.out, hHS.out]
  obtain ⟨av, cv, rfl⟩ := hv.shape
  clear hv ha
  obtain ⟨w0, hw0⟩ : ∃ W, Hid (W = (w.alloc (.cells #[.slice av rs.length cv, .int .i64 f, .int .i64 id, .bool up, .int .i64 room] 52)).alloc (.cells #[.int .i64 0, .slice none 0 0] 32)) := ⟨_, rfl⟩
  have B0 : Hid (Below w.heap.size w w0) := by show Below _ _ _; rw [hw0.out]; exact below2 _ _ _
  have Z0 : Hid (Blk w0 (w.heap.size + 1) #[.int .i64 0, .slice none 0 0] 32) := by show Blk _ _ _ _; rw [hw0.out]; exact Blk.new2 _ _ _ _
  have hs0 : w0.heap.size = w.heap.size + 2 := by rw [hw0.out, size2]
  go_enter Tryd.func26, Tryd.ntmps26
  go_wp2_with fail
  rw [← hw0.out]
  refine (HO.out _ B0.out).mono ?_
  rintro e w1 ⟨a1, c1, rfl, ho1, hb1⟩
  have Z1 := hide_it (Z0.out.after hb1)
  have O1 := hide_it ho1
  have B1 := hide_it (B0.out.trans (hb1.mono B0.out.size))
  have hs1 : w.heap.size + 2 ≤ w1.heap.size := by have := hb1.size; omega
  obtain ⟨z0, z1⟩ := Z1.out.cells2
  obtain ⟨zf0, zf1, -, -, -⟩ := Z1.out.free5
  have k0 := fun x => cellAlloc z0 x
  have k1 := fun x => cellAlloc z1 x
  have q0 := fun x => frozenAlloc zf0 (by omega) x
  have q1 := fun x => frozenAlloc zf1 (by omega) x
  clear ho1 hb1
  go_wp2
  refine bodyPost_ret (v := .agg #[.int .i64 RR, .slice a1 HS.length c1]) (by simp [results, Tryd.results26, go_sem, *]) rfl ?_
  refine ⟨a1, c1, rfl, ?_, ?_⟩
  · refine row_low (row_set (row_set (ownsRow_below O1.out (alloc_below _ _) (fun k hk => (O1.out.lt k hk).2)) (Z1.out.alloc _) (by decide) _ _) ((Z1.out.alloc _).set_ 0 _) (by decide) _ _) (by omega)
  · exact ((B1.out.alloc (by omega) _).setCell (by simp) _).setCell (by simp) _

theorem b_drew {w0 w1 : World} (h : Below w0.drew.heap.size w0.drew w1) : Below w0.heap.size w0 w1 := (Below.refl w0.heap.size w0).drew.trans h
theorem b_alloc_drew {w0 w1 : World} {o : Obj} (h : Below (w0.alloc o).drew.heap.size (w0.alloc o).drew w1) : Below w0.heap.size w0 w1 := ((alloc_below w0 o).drew).trans (h.mono (by simp))
theorem z_alloc_drew {w0 w1 : World} {cs : Array Value} {ty : TypeId} (h : Below (w0.alloc (.cells cs ty)).drew.heap.size (w0.alloc (.cells cs ty)).drew w1) : Blk w1 w0.heap.size cs ty := by
  have h0 : Blk (w0.alloc (.cells cs ty)).drew w0.heap.size cs ty := (Blk.new w0 cs ty).after (Below.refl _ _).drew
  exact h0.after h
theorem o_alloc_drew {w0 w1 : World} {o : Obj} {e : TypeId} {sz n : Nat} {v : Value} {xs : List Value} (h : w1.ownsRow (w0.alloc o).drew.heap.size e sz v n xs) : w1.ownsRow w0.heap.size e sz v n xs := ownsRow_base h (by simp)
theorem o_drew {w0 w1 : World} {e : TypeId} {sz n : Nat} {v : Value} {xs : List Value} (h : w1.ownsRow w0.drew.heap.size e sz v n xs) : w1.ownsRow w0.heap.size e sz v n xs := ownsRow_base h (by simp)

end Go.Proofs.YtgeagfglkgpoiaaDoor

namespace Go.Proofs.YtgeagfglkgpoiaaDoor
open Go.RowKit

/-- What lies behind the region: the stock's block, its holds, the result's block. -/
def StkMet (w0 W : World) (B b : Nat) (RR : Int) (v : Value) (HS : List Pl.H) : Prop :=
  Below w0.heap.size w0 W ∧ Blk W b #[.int .i64 RR, v] 32 ∧ Blk W B #[.int .i64 0, .slice none 0 0] 32 ∧ W.ownsRow w0.heap.size 56 2 v HS.length (hflat HS)
theorem ks2 (w : World) (b2 : Nat) (x y : Value) {b o : Nat} (h : b ≠ b2) : ((w.setCell ⟨b2, 0, none⟩ x).setCell ⟨b2, 1, none⟩ y).cell? ⟨b, o, none⟩ = w.cell? ⟨b, o, none⟩ := by
  rw [World.cell?_of_block (w := w.setCell ⟨b2, 0, none⟩ x) (a := ⟨b, o, none⟩) (Below.heap_setCell _ _ _ _ h), World.cell?_of_block (w := w) (a := ⟨b, o, none⟩) (Below.heap_setCell _ _ _ _ h)]
theorem stkMet_new {w0 w1 : World} {B : Nat} {RR : Int} {v : Value} {HS : List Pl.H} (hb : Below w0.heap.size w0 w1) (hZ : Blk w1 B #[.int .i64 0, .slice none 0 0] 32) (ho : w1.ownsRow w0.heap.size 56 2 v HS.length (hflat HS)) :
    StkMet w0 (w1.alloc (.cells #[.int .i64 RR, v] 32)) B w1.heap.size RR v HS :=
  ⟨hb.alloc hb.size _, Blk.new _ _ _, hZ.alloc _, ownsRow_below ho (alloc_below _ _) (fun k hk => (ho.lt k hk).2)⟩
theorem stkMet_set {w0 w1 : World} {B b : Nat} {RR : Int} {v : Value} {HS : List Pl.H} (hb : Below w0.heap.size w0 w1) (hz : w0.heap.size ≤ b) (hB : B < w0.heap.size) (hY : Blk w1 b #[.int .i64 0, .slice none 0 0] 32) (hZ : Blk w1 B #[.int .i64 0, .slice none 0 0] 32) (ho : w1.ownsRow w0.heap.size 56 2 v HS.length (hflat HS)) :
    StkMet w0 ((w1.setCell ⟨b, 0, none⟩ (.int .i64 RR)).setCell ⟨b, 1, none⟩ v) B b RR v HS :=
  ⟨(hb.setCell hz _).setCell hz _, (hY.set_ 0 _).set_ 1 _, (hZ.other (by simp; omega) _).other (by simp; omega) _, row_set (row_set ho hY (by decide) _ _) (hY.set_ 0 _) (by decide) _ _⟩

set_option maxHeartbeats 4000000 in
theorem forcedStock_nil (id : Int) (up : Bool) (room : Int) (RR : Int) (HS : List Pl.H) (BB : Bool) (w : World) 
    (HO : Hid (∀ W, Below w.heap.size w W → Calls Tryd.prog 10 #[.int .i64 room, .slice none 0 0] W fun e w' => StOut W w' e RR HS BB)) :
    Calls Tryd.prog 25 #[keeperV (.slice none 0 0) 0 id up room] w fun e w' => SkOut w w' e RR HS := by
  obtain ⟨w0, hw0⟩ : ∃ W, Hid (W = (w.alloc (.cells #[.slice none 0 0, .int .i64 0, .int .i64 id, .bool up, .int .i64 room] 52)).alloc (.cells #[.int .i64 0, .slice none 0 0] 32)) := ⟨_, rfl⟩
  have B0 : Hid (Below w.heap.size w w0) := by show Below _ _ _; rw [hw0.out]; exact below2 _ _ _
  have X0 : Hid (Blk w0 w.heap.size #[.slice none 0 0, .int .i64 0, .int .i64 id, .bool up, .int .i64 room] 52) := by show Blk _ _ _ _; rw [hw0.out]; exact (Blk.new _ _ _).alloc _
  have Z0 : Hid (Blk w0 (w.heap.size + 1) #[.int .i64 0, .slice none 0 0] 32) := by show Blk _ _ _ _; rw [hw0.out]; exact Blk.new2 _ _ _ _
  have hs0 : Hid (w0.heap.size = w.heap.size + 2) := by show _ = _; rw [hw0.out, size2]
  have hs1 : w.heap.size + 1 < w0.heap.size := by have := hs0.out; omega
  obtain ⟨x0, x1, x2, x3, x4⟩ := X0.out.cells5
  go_enter Tryd.func25, Tryd.ntmps25
  go_wp2_with fail
  rw [← hw0.out]
  go_cut [3] (fun p W => ∃ b a5 cap5, p = .pointer (some ⟨b, 0, none⟩) ∧ Hid (StkMet w0 W (w.heap.size + 1) b RR (.slice a5 HS.length cap5) HS))
  case first =>
    go_region_held (fun w' => w'.cell? ⟨w.heap.size, 0, none⟩ = some (.slice none 0 0) ∧ w'.cell? ⟨w.heap.size, 1, none⟩ = some (.int .i64 0) ∧ w'.cell? ⟨w.heap.size, 4, none⟩ = some (.int .i64 room)) (first | (go_keep; done) | (refine ⟨(ks2 _ _ _ _ ?_).trans ?_, (ks2 _ _ _ _ ?_).trans ?_, (ks2 _ _ _ _ ?_).trans ?_⟩ <;> first | omega | assumption))
      ((go_at_call 10; refine (HO.out _ ?_).mono ?_; (first | (with_reducible exact B0.out.drew) | exact (B0.out.alloc B0.out.size _).drew); rintro e w1 ⟨a5, cap5, rfl, ho5, hb5⟩; have N5 : Hid (Below w0.heap.size w0 w1) := (by first | (with_reducible exact hide_it (b_drew hb5)) | (with_reducible exact hide_it (b_alloc_drew hb5))); (try (with_reducible have Y5 := hide_it (z_alloc_drew hb5))); have O5 : Hid (w1.ownsRow w0.heap.size 56 2 (.slice a5 HS.length cap5) HS.length (hflat HS)) := (by first | (with_reducible exact hide_it (o_drew ho5)) | (with_reducible exact hide_it (o_alloc_drew ho5))); have Z5 := hide_it (Z0.out.after N5.out); have hs5 := N5.out.size; obtain ⟨y0, y1, y2, y3, y4⟩ := (X0.out.after N5.out).cells5; (try obtain ⟨u0, u1⟩ := Y5.out.cells2); (try obtain ⟨uf0, uf1, -, -, -⟩ := Y5.out.free5); clear ho5 hb5))
    all_goals
      go_wp2_with fail
      go_meet
      case rel => first | exact ⟨_, a5, cap5, rfl, hide_it (stkMet_new N5.out Z5.out O5.out)⟩ | exact ⟨_, a5, cap5, rfl, hide_it (stkMet_set N5.out (by omega) (by omega) Y5.out Z5.out O5.out)⟩
  case rest =>
    obtain ⟨b, a5, cap5, rfl, HMET⟩ := hcut
    have EW := hide_it HMET.out.1
    have YW := hide_it HMET.out.2.1
    have ZW := hide_it HMET.out.2.2.1
    have OW := hide_it HMET.out.2.2.2
    clear HMET x0 x1 x2 x3 x4
    obtain ⟨u0, u1⟩ := YW.out.cells2
    obtain ⟨z0, z1⟩ := ZW.out.cells2
    obtain ⟨zf0, zf1, -, -, -⟩ := ZW.out.free5
    go_wp2
    refine bodyPost_ret (v := .agg #[.int .i64 RR, .slice a5 HS.length cap5]) (by simp [results, Tryd.results25, go_sem, *]) rfl ?_
    refine ⟨a5, cap5, rfl, ?_, ?_⟩
    · exact row_low (row_set (row_set OW.out ZW.out (by decide) _ _) (ZW.out.set_ 0 _) (by decide) _ _) (by omega)
    · exact ((B0.out.trans (EW.out.mono B0.out.size)).setCell (by simp) _).setCell (by simp) _

set_option maxHeartbeats 4000000 in
theorem forcedStock_some (id : Int) (up : Bool) (room : Int) (g n cap N : Nat) (RR : Int) (HS : List Pl.H) (BB : Bool) (w : World) (hN : N ≤ n) (hc : n ≤ cap)
    (HO : Hid (∀ W, Below w.heap.size w W → Calls Tryd.prog 10 #[.int .i64 room, .slice (some ⟨g, 0, none⟩) N cap] W fun e w' => StOut W w' e RR HS BB)) :
    Calls Tryd.prog 25 #[keeperV (.slice (some ⟨g, 0, none⟩) n cap) N id up room] w fun e w' => SkOut w w' e RR HS := by
  obtain ⟨w0, hw0⟩ : ∃ W, Hid (W = (w.alloc (.cells #[.slice (some ⟨g, 0, none⟩) n cap, .int .i64 N, .int .i64 id, .bool up, .int .i64 room] 52)).alloc (.cells #[.int .i64 0, .slice none 0 0] 32)) := ⟨_, rfl⟩
  have B0 : Hid (Below w.heap.size w w0) := by show Below _ _ _; rw [hw0.out]; exact below2 _ _ _
  have X0 : Hid (Blk w0 w.heap.size #[.slice (some ⟨g, 0, none⟩) n cap, .int .i64 N, .int .i64 id, .bool up, .int .i64 room] 52) := by show Blk _ _ _ _; rw [hw0.out]; exact (Blk.new _ _ _).alloc _
  have Z0 : Hid (Blk w0 (w.heap.size + 1) #[.int .i64 0, .slice none 0 0] 32) := by show Blk _ _ _ _; rw [hw0.out]; exact Blk.new2 _ _ _ _
  have hs0 : Hid (w0.heap.size = w.heap.size + 2) := by show _ = _; rw [hw0.out, size2]
  have hs1 : w.heap.size + 1 < w0.heap.size := by have := hs0.out; omega
  obtain ⟨x0, x1, x2, x3, x4⟩ := X0.out.cells5
  go_enter Tryd.func25, Tryd.ntmps25
  go_wp2_with fail
  rw [← hw0.out]
  go_cut [3] (fun p W => ∃ b a5 cap5, p = .pointer (some ⟨b, 0, none⟩) ∧ Hid (StkMet w0 W (w.heap.size + 1) b RR (.slice a5 HS.length cap5) HS))
  case first =>
    go_region_held (fun w' => w'.cell? ⟨w.heap.size, 0, none⟩ = some (.slice (some ⟨g, 0, none⟩) n cap) ∧ w'.cell? ⟨w.heap.size, 1, none⟩ = some (.int .i64 N) ∧ w'.cell? ⟨w.heap.size, 4, none⟩ = some (.int .i64 room)) (first | (go_keep; done) | (refine ⟨(ks2 _ _ _ _ ?_).trans ?_, (ks2 _ _ _ _ ?_).trans ?_, (ks2 _ _ _ _ ?_).trans ?_⟩ <;> first | omega | assumption))
      ((go_at_call 10; refine (HO.out _ ?_).mono ?_; (first | (with_reducible exact B0.out.drew) | exact (B0.out.alloc B0.out.size _).drew); rintro e w1 ⟨a5, cap5, rfl, ho5, hb5⟩; have N5 : Hid (Below w0.heap.size w0 w1) := (by first | (with_reducible exact hide_it (b_drew hb5)) | (with_reducible exact hide_it (b_alloc_drew hb5))); (try (with_reducible have Y5 := hide_it (z_alloc_drew hb5))); have O5 : Hid (w1.ownsRow w0.heap.size 56 2 (.slice a5 HS.length cap5) HS.length (hflat HS)) := (by first | (with_reducible exact hide_it (o_drew ho5)) | (with_reducible exact hide_it (o_alloc_drew ho5))); have Z5 := hide_it (Z0.out.after N5.out); have hs5 := N5.out.size; obtain ⟨y0, y1, y2, y3, y4⟩ := (X0.out.after N5.out).cells5; (try obtain ⟨u0, u1⟩ := Y5.out.cells2); (try obtain ⟨uf0, uf1, -, -, -⟩ := Y5.out.free5); clear ho5 hb5))
    all_goals
      go_wp2_with fail
      go_meet
      case rel => first | exact ⟨_, a5, cap5, rfl, hide_it (stkMet_new N5.out Z5.out O5.out)⟩ | exact ⟨_, a5, cap5, rfl, hide_it (stkMet_set N5.out (by omega) (by omega) Y5.out Z5.out O5.out)⟩
  case rest =>
    obtain ⟨b, a5, cap5, rfl, HMET⟩ := hcut
    have EW := hide_it HMET.out.1
    have YW := hide_it HMET.out.2.1
    have ZW := hide_it HMET.out.2.2.1
    have OW := hide_it HMET.out.2.2.2
    clear HMET x0 x1 x2 x3 x4
    obtain ⟨u0, u1⟩ := YW.out.cells2
    obtain ⟨z0, z1⟩ := ZW.out.cells2
    obtain ⟨zf0, zf1, -, -, -⟩ := ZW.out.free5
    go_wp2
    refine bodyPost_ret (v := .agg #[.int .i64 RR, .slice a5 HS.length cap5]) (by simp [results, Tryd.results25, go_sem, *]) rfl ?_
    refine ⟨a5, cap5, rfl, ?_, ?_⟩
    · exact row_low (row_set (row_set OW.out ZW.out (by decide) _ _) (ZW.out.set_ 0 _) (by decide) _ _) (by omega)
    · exact ((B0.out.trans (EW.out.mono B0.out.size)).setCell (by simp) _).setCell (by simp) _

theorem forcedStock_any (id : Int) (up : Bool) (room : Int) (v : Value) (rs : List R) (f : Int) (a : Addr) (w : World) (hv : Recs w v rs) (hfm : Form v rs.length) (hl : tot rs ≤ 1048576) (h0 : 0 ≤ f) (h1 : f ≤ rs.length) (ha : ErrAt w a) :
    Calls Tryd.prog 25 #[keeperV v f id up room] w fun e w' => SkOut w w' e (oR room (Pl.sOf room (rs.take f.toNat))) (oH (Pl.sOf room (rs.take f.toNat))) := by
  obtain ⟨N, rfl⟩ := Int.eq_ofNat_of_zero_le h0
  have hN : N ≤ rs.length := by omega
  rw [show ((N : Nat) : Int).toNat = N by simp]
  have hrl := tot_len rs
  obtain ⟨ao, cap, rfl⟩ := hv.shape
  have HO : ∀ W, Below w.heap.size w W → Calls Tryd.prog 10 #[.int .i64 room, .slice ao N cap] W fun e w' => StOut W w' e (oR room (Pl.sOf room (rs.take N))) (oH (Pl.sOf room (rs.take N))) (Pl.sOf room (rs.take N)).isSome := fun W h =>
    implOf_any room (.slice ao N cap) (rs.take N) a W ((hv.later h (Nat.le_refl _)).take hN) (Nat.le_trans (pre_take rs N hN) hl) (ha.later h (Nat.le_refl _))
  rcases hfm with ⟨hv0, hn0⟩ | ⟨g, cap', hv0, hc⟩
  · simp only [Value.slice.injEq] at hv0
    obtain ⟨rfl, -, rfl⟩ := hv0
    obtain rfl : N = 0 := by omega
    rw [hn0]
    exact forcedStock_nil id up room _ _ _ w HO
  · simp only [Value.slice.injEq] at hv0
    obtain ⟨rfl, -, rfl⟩ := hv0
    exact forcedStock_some id up room g rs.length cap N _ _ _ w hN hc HO

set_option maxHeartbeats 4000000 in
theorem l11Stock_forced_nil (id : Int) (up : Bool) (room : Int) (RR : Int) (HS : List Pl.H) (BB : Bool) (w : World) 
    (HO : Hid (∀ W, Below w.heap.size w W → Calls Tryd.prog 28 #[.int .i64 room, .slice none 0 0] W fun e w' => StOut W w' e RR HS BB)) :
    Calls Tryd.prog 27 #[houseV id up room (.slice none 0 0) 0, .bool true] w fun e w' => SkOut w w' e RR HS := by
  obtain ⟨w0, hw0⟩ : ∃ W, Hid (W = (w.alloc (.cells #[.int .i64 id, .bool up, .int .i64 room, .slice none 0 0, .int .i64 0] 27)).alloc (.cells #[.int .i64 0, .slice none 0 0] 32)) := ⟨_, rfl⟩
  have B0 : Hid (Below w.heap.size w w0) := by show Below _ _ _; rw [hw0.out]; exact below2 _ _ _
  have X0 : Hid (Blk w0 w.heap.size #[.int .i64 id, .bool up, .int .i64 room, .slice none 0 0, .int .i64 0] 27) := by show Blk _ _ _ _; rw [hw0.out]; exact (Blk.new _ _ _).alloc _
  have Z0 : Hid (Blk w0 (w.heap.size + 1) #[.int .i64 0, .slice none 0 0] 32) := by show Blk _ _ _ _; rw [hw0.out]; exact Blk.new2 _ _ _ _
  have hs0 : Hid (w0.heap.size = w.heap.size + 2) := by show _ = _; rw [hw0.out, size2]
  have hs1 : w.heap.size + 1 < w0.heap.size := by have := hs0.out; omega
  obtain ⟨x0, x1, x2, x3, x4⟩ := X0.out.cells5
  go_enter Tryd.func27, Tryd.ntmps27
  go_wp2_with fail
  rw [← hw0.out]
  go_cut [6] (fun p W => ∃ b a5 cap5, p = .pointer (some ⟨b, 0, none⟩) ∧ Hid (StkMet w0 W (w.heap.size + 1) b RR (.slice a5 HS.length cap5) HS))
  case first =>
    go_region_held (fun w' => w'.cell? ⟨w.heap.size, 2, none⟩ = some (.int .i64 room) ∧ w'.cell? ⟨w.heap.size, 3, none⟩ = some (.slice none 0 0) ∧ w'.cell? ⟨w.heap.size, 0, none⟩ = some (.int .i64 id)) (first | (go_keep; done) | (refine ⟨(ks2 _ _ _ _ ?_).trans ?_, (ks2 _ _ _ _ ?_).trans ?_, (ks2 _ _ _ _ ?_).trans ?_⟩ <;> first | omega | assumption))
      ((go_at_call 28; refine (HO.out _ ?_).mono ?_; (first | (with_reducible exact B0.out.drew) | exact (B0.out.alloc B0.out.size _).drew); rintro e w1 ⟨a5, cap5, rfl, ho5, hb5⟩; have N5 : Hid (Below w0.heap.size w0 w1) := (by first | (with_reducible exact hide_it (b_drew hb5)) | (with_reducible exact hide_it (b_alloc_drew hb5))); (try (with_reducible have Y5 := hide_it (z_alloc_drew hb5))); have O5 : Hid (w1.ownsRow w0.heap.size 56 2 (.slice a5 HS.length cap5) HS.length (hflat HS)) := (by first | (with_reducible exact hide_it (o_drew ho5)) | (with_reducible exact hide_it (o_alloc_drew ho5))); have Z5 := hide_it (Z0.out.after N5.out); have hs5 := N5.out.size; obtain ⟨y0, y1, y2, y3, y4⟩ := (X0.out.after N5.out).cells5; (try obtain ⟨u0, u1⟩ := Y5.out.cells2); (try obtain ⟨uf0, uf1, -, -, -⟩ := Y5.out.free5); clear ho5 hb5))
    all_goals
      go_wp2_with fail
      go_meet
      case rel => first | exact ⟨_, a5, cap5, rfl, hide_it (stkMet_new N5.out Z5.out O5.out)⟩ | exact ⟨_, a5, cap5, rfl, hide_it (stkMet_set N5.out (by omega) (by omega) Y5.out Z5.out O5.out)⟩
  case rest =>
    obtain ⟨b, a5, cap5, rfl, HMET⟩ := hcut
    have EW := hide_it HMET.out.1
    have YW := hide_it HMET.out.2.1
    have ZW := hide_it HMET.out.2.2.1
    have OW := hide_it HMET.out.2.2.2
    clear HMET x0 x1 x2 x3 x4
    obtain ⟨u0, u1⟩ := YW.out.cells2
    obtain ⟨z0, z1⟩ := ZW.out.cells2
    obtain ⟨zf0, zf1, -, -, -⟩ := ZW.out.free5
    go_wp2
    refine bodyPost_ret (v := .agg #[.int .i64 RR, .slice a5 HS.length cap5]) (by simp [results, Tryd.results27, go_sem, *]) rfl ?_
    refine ⟨a5, cap5, rfl, ?_, ?_⟩
    · exact row_low (row_set (row_set OW.out ZW.out (by decide) _ _) (ZW.out.set_ 0 _) (by decide) _ _) (by omega)
    · exact ((B0.out.trans (EW.out.mono B0.out.size)).setCell (by simp) _).setCell (by simp) _

set_option maxHeartbeats 4000000 in
theorem l11Stock_forced_some (id : Int) (up : Bool) (room : Int) (g n cap N : Nat) (RR : Int) (HS : List Pl.H) (BB : Bool) (w : World) (hN : N ≤ n) (hc : n ≤ cap)
    (HO : Hid (∀ W, Below w.heap.size w W → Calls Tryd.prog 28 #[.int .i64 room, .slice (some ⟨g, 0, none⟩) N cap] W fun e w' => StOut W w' e RR HS BB)) :
    Calls Tryd.prog 27 #[houseV id up room (.slice (some ⟨g, 0, none⟩) n cap) N, .bool true] w fun e w' => SkOut w w' e RR HS := by
  obtain ⟨w0, hw0⟩ : ∃ W, Hid (W = (w.alloc (.cells #[.int .i64 id, .bool up, .int .i64 room, .slice (some ⟨g, 0, none⟩) n cap, .int .i64 N] 27)).alloc (.cells #[.int .i64 0, .slice none 0 0] 32)) := ⟨_, rfl⟩
  have B0 : Hid (Below w.heap.size w w0) := by show Below _ _ _; rw [hw0.out]; exact below2 _ _ _
  have X0 : Hid (Blk w0 w.heap.size #[.int .i64 id, .bool up, .int .i64 room, .slice (some ⟨g, 0, none⟩) n cap, .int .i64 N] 27) := by show Blk _ _ _ _; rw [hw0.out]; exact (Blk.new _ _ _).alloc _
  have Z0 : Hid (Blk w0 (w.heap.size + 1) #[.int .i64 0, .slice none 0 0] 32) := by show Blk _ _ _ _; rw [hw0.out]; exact Blk.new2 _ _ _ _
  have hs0 : Hid (w0.heap.size = w.heap.size + 2) := by show _ = _; rw [hw0.out, size2]
  have hs1 : w.heap.size + 1 < w0.heap.size := by have := hs0.out; omega
  obtain ⟨x0, x1, x2, x3, x4⟩ := X0.out.cells5
  go_enter Tryd.func27, Tryd.ntmps27
  go_wp2_with fail
  rw [← hw0.out]
  go_cut [6] (fun p W => ∃ b a5 cap5, p = .pointer (some ⟨b, 0, none⟩) ∧ Hid (StkMet w0 W (w.heap.size + 1) b RR (.slice a5 HS.length cap5) HS))
  case first =>
    go_region_held (fun w' => w'.cell? ⟨w.heap.size, 2, none⟩ = some (.int .i64 room) ∧ w'.cell? ⟨w.heap.size, 3, none⟩ = some (.slice (some ⟨g, 0, none⟩) n cap) ∧ w'.cell? ⟨w.heap.size, 0, none⟩ = some (.int .i64 id)) (first | (go_keep; done) | (refine ⟨(ks2 _ _ _ _ ?_).trans ?_, (ks2 _ _ _ _ ?_).trans ?_, (ks2 _ _ _ _ ?_).trans ?_⟩ <;> first | omega | assumption))
      ((go_at_call 28; refine (HO.out _ ?_).mono ?_; (first | (with_reducible exact B0.out.drew) | exact (B0.out.alloc B0.out.size _).drew); rintro e w1 ⟨a5, cap5, rfl, ho5, hb5⟩; have N5 : Hid (Below w0.heap.size w0 w1) := (by first | (with_reducible exact hide_it (b_drew hb5)) | (with_reducible exact hide_it (b_alloc_drew hb5))); (try (with_reducible have Y5 := hide_it (z_alloc_drew hb5))); have O5 : Hid (w1.ownsRow w0.heap.size 56 2 (.slice a5 HS.length cap5) HS.length (hflat HS)) := (by first | (with_reducible exact hide_it (o_drew ho5)) | (with_reducible exact hide_it (o_alloc_drew ho5))); have Z5 := hide_it (Z0.out.after N5.out); have hs5 := N5.out.size; obtain ⟨y0, y1, y2, y3, y4⟩ := (X0.out.after N5.out).cells5; (try obtain ⟨u0, u1⟩ := Y5.out.cells2); (try obtain ⟨uf0, uf1, -, -, -⟩ := Y5.out.free5); clear ho5 hb5))
    all_goals
      go_wp2_with fail
      go_meet
      case rel => first | exact ⟨_, a5, cap5, rfl, hide_it (stkMet_new N5.out Z5.out O5.out)⟩ | exact ⟨_, a5, cap5, rfl, hide_it (stkMet_set N5.out (by omega) (by omega) Y5.out Z5.out O5.out)⟩
  case rest =>
    obtain ⟨b, a5, cap5, rfl, HMET⟩ := hcut
    have EW := hide_it HMET.out.1
    have YW := hide_it HMET.out.2.1
    have ZW := hide_it HMET.out.2.2.1
    have OW := hide_it HMET.out.2.2.2
    clear HMET x0 x1 x2 x3 x4
    obtain ⟨u0, u1⟩ := YW.out.cells2
    obtain ⟨z0, z1⟩ := ZW.out.cells2
    obtain ⟨zf0, zf1, -, -, -⟩ := ZW.out.free5
    go_wp2
    refine bodyPost_ret (v := .agg #[.int .i64 RR, .slice a5 HS.length cap5]) (by simp [results, Tryd.results27, go_sem, *]) rfl ?_
    refine ⟨a5, cap5, rfl, ?_, ?_⟩
    · exact row_low (row_set (row_set OW.out ZW.out (by decide) _ _) (ZW.out.set_ 0 _) (by decide) _ _) (by omega)
    · exact ((B0.out.trans (EW.out.mono B0.out.size)).setCell (by simp) _).setCell (by simp) _

set_option maxHeartbeats 4000000 in
theorem l11Stock_all_nil (id : Int) (up : Bool) (room : Int) (f : Int) (RR : Int) (HS : List Pl.H) (BB : Bool) (w : World) 
    (HO : Hid (∀ W, Below w.heap.size w W → Calls Tryd.prog 28 #[.int .i64 room, .slice none 0 0] W fun e w' => StOut W w' e RR HS BB)) :
    Calls Tryd.prog 27 #[houseV id up room (.slice none 0 0) f, .bool false] w fun e w' => SkOut w w' e RR HS := by
  obtain ⟨w0, hw0⟩ : ∃ W, Hid (W = (w.alloc (.cells #[.int .i64 id, .bool up, .int .i64 room, .slice none 0 0, .int .i64 f] 27)).alloc (.cells #[.int .i64 0, .slice none 0 0] 32)) := ⟨_, rfl⟩
  have B0 : Hid (Below w.heap.size w w0) := by show Below _ _ _; rw [hw0.out]; exact below2 _ _ _
  have X0 : Hid (Blk w0 w.heap.size #[.int .i64 id, .bool up, .int .i64 room, .slice none 0 0, .int .i64 f] 27) := by show Blk _ _ _ _; rw [hw0.out]; exact (Blk.new _ _ _).alloc _
  have Z0 : Hid (Blk w0 (w.heap.size + 1) #[.int .i64 0, .slice none 0 0] 32) := by show Blk _ _ _ _; rw [hw0.out]; exact Blk.new2 _ _ _ _
  have hs0 : Hid (w0.heap.size = w.heap.size + 2) := by show _ = _; rw [hw0.out, size2]
  have hs1 : w.heap.size + 1 < w0.heap.size := by have := hs0.out; omega
  obtain ⟨x0, x1, x2, x3, x4⟩ := X0.out.cells5
  go_enter Tryd.func27, Tryd.ntmps27
  go_wp2_with fail
  rw [← hw0.out]
  go_cut [6] (fun p W => ∃ b a5 cap5, p = .pointer (some ⟨b, 0, none⟩) ∧ Hid (StkMet w0 W (w.heap.size + 1) b RR (.slice a5 HS.length cap5) HS))
  case first =>
    go_region_held (fun w' => w'.cell? ⟨w.heap.size, 2, none⟩ = some (.int .i64 room) ∧ w'.cell? ⟨w.heap.size, 3, none⟩ = some (.slice none 0 0) ∧ w'.cell? ⟨w.heap.size, 0, none⟩ = some (.int .i64 id)) (first | (go_keep; done) | (refine ⟨(ks2 _ _ _ _ ?_).trans ?_, (ks2 _ _ _ _ ?_).trans ?_, (ks2 _ _ _ _ ?_).trans ?_⟩ <;> first | omega | assumption))
      ((go_at_call 28; refine (HO.out _ ?_).mono ?_; (first | (with_reducible exact B0.out.drew) | exact (B0.out.alloc B0.out.size _).drew); rintro e w1 ⟨a5, cap5, rfl, ho5, hb5⟩; have N5 : Hid (Below w0.heap.size w0 w1) := (by first | (with_reducible exact hide_it (b_drew hb5)) | (with_reducible exact hide_it (b_alloc_drew hb5))); (try (with_reducible have Y5 := hide_it (z_alloc_drew hb5))); have O5 : Hid (w1.ownsRow w0.heap.size 56 2 (.slice a5 HS.length cap5) HS.length (hflat HS)) := (by first | (with_reducible exact hide_it (o_drew ho5)) | (with_reducible exact hide_it (o_alloc_drew ho5))); have Z5 := hide_it (Z0.out.after N5.out); have hs5 := N5.out.size; obtain ⟨y0, y1, y2, y3, y4⟩ := (X0.out.after N5.out).cells5; (try obtain ⟨u0, u1⟩ := Y5.out.cells2); (try obtain ⟨uf0, uf1, -, -, -⟩ := Y5.out.free5); clear ho5 hb5))
    all_goals
      go_wp2_with fail
      go_meet
      case rel => first | exact ⟨_, a5, cap5, rfl, hide_it (stkMet_new N5.out Z5.out O5.out)⟩ | exact ⟨_, a5, cap5, rfl, hide_it (stkMet_set N5.out (by omega) (by omega) Y5.out Z5.out O5.out)⟩
  case rest =>
    obtain ⟨b, a5, cap5, rfl, HMET⟩ := hcut
    have EW := hide_it HMET.out.1
    have YW := hide_it HMET.out.2.1
    have ZW := hide_it HMET.out.2.2.1
    have OW := hide_it HMET.out.2.2.2
    clear HMET x0 x1 x2 x3 x4
    obtain ⟨u0, u1⟩ := YW.out.cells2
    obtain ⟨z0, z1⟩ := ZW.out.cells2
    obtain ⟨zf0, zf1, -, -, -⟩ := ZW.out.free5
    go_wp2
    refine bodyPost_ret (v := .agg #[.int .i64 RR, .slice a5 HS.length cap5]) (by simp [results, Tryd.results27, go_sem, *]) rfl ?_
    refine ⟨a5, cap5, rfl, ?_, ?_⟩
    · exact row_low (row_set (row_set OW.out ZW.out (by decide) _ _) (ZW.out.set_ 0 _) (by decide) _ _) (by omega)
    · exact ((B0.out.trans (EW.out.mono B0.out.size)).setCell (by simp) _).setCell (by simp) _

set_option maxHeartbeats 4000000 in
theorem l11Stock_all_some (id : Int) (up : Bool) (room : Int) (f : Int) (g n cap : Nat) (RR : Int) (HS : List Pl.H) (BB : Bool) (w : World) (hc : n ≤ cap)
    (HO : Hid (∀ W, Below w.heap.size w W → Calls Tryd.prog 28 #[.int .i64 room, .slice (some ⟨g, 0, none⟩) n cap] W fun e w' => StOut W w' e RR HS BB)) :
    Calls Tryd.prog 27 #[houseV id up room (.slice (some ⟨g, 0, none⟩) n cap) f, .bool false] w fun e w' => SkOut w w' e RR HS := by
  obtain ⟨w0, hw0⟩ : ∃ W, Hid (W = (w.alloc (.cells #[.int .i64 id, .bool up, .int .i64 room, .slice (some ⟨g, 0, none⟩) n cap, .int .i64 f] 27)).alloc (.cells #[.int .i64 0, .slice none 0 0] 32)) := ⟨_, rfl⟩
  have B0 : Hid (Below w.heap.size w w0) := by show Below _ _ _; rw [hw0.out]; exact below2 _ _ _
  have X0 : Hid (Blk w0 w.heap.size #[.int .i64 id, .bool up, .int .i64 room, .slice (some ⟨g, 0, none⟩) n cap, .int .i64 f] 27) := by show Blk _ _ _ _; rw [hw0.out]; exact (Blk.new _ _ _).alloc _
  have Z0 : Hid (Blk w0 (w.heap.size + 1) #[.int .i64 0, .slice none 0 0] 32) := by show Blk _ _ _ _; rw [hw0.out]; exact Blk.new2 _ _ _ _
  have hs0 : Hid (w0.heap.size = w.heap.size + 2) := by show _ = _; rw [hw0.out, size2]
  have hs1 : w.heap.size + 1 < w0.heap.size := by have := hs0.out; omega
  obtain ⟨x0, x1, x2, x3, x4⟩ := X0.out.cells5
  go_enter Tryd.func27, Tryd.ntmps27
  go_wp2_with fail
  rw [← hw0.out]
  go_cut [6] (fun p W => ∃ b a5 cap5, p = .pointer (some ⟨b, 0, none⟩) ∧ Hid (StkMet w0 W (w.heap.size + 1) b RR (.slice a5 HS.length cap5) HS))
  case first =>
    go_region_held (fun w' => w'.cell? ⟨w.heap.size, 2, none⟩ = some (.int .i64 room) ∧ w'.cell? ⟨w.heap.size, 3, none⟩ = some (.slice (some ⟨g, 0, none⟩) n cap) ∧ w'.cell? ⟨w.heap.size, 0, none⟩ = some (.int .i64 id)) (first | (go_keep; done) | (refine ⟨(ks2 _ _ _ _ ?_).trans ?_, (ks2 _ _ _ _ ?_).trans ?_, (ks2 _ _ _ _ ?_).trans ?_⟩ <;> first | omega | assumption))
      ((go_at_call 28; refine (HO.out _ ?_).mono ?_; (first | (with_reducible exact B0.out.drew) | exact (B0.out.alloc B0.out.size _).drew); rintro e w1 ⟨a5, cap5, rfl, ho5, hb5⟩; have N5 : Hid (Below w0.heap.size w0 w1) := (by first | (with_reducible exact hide_it (b_drew hb5)) | (with_reducible exact hide_it (b_alloc_drew hb5))); (try (with_reducible have Y5 := hide_it (z_alloc_drew hb5))); have O5 : Hid (w1.ownsRow w0.heap.size 56 2 (.slice a5 HS.length cap5) HS.length (hflat HS)) := (by first | (with_reducible exact hide_it (o_drew ho5)) | (with_reducible exact hide_it (o_alloc_drew ho5))); have Z5 := hide_it (Z0.out.after N5.out); have hs5 := N5.out.size; obtain ⟨y0, y1, y2, y3, y4⟩ := (X0.out.after N5.out).cells5; (try obtain ⟨u0, u1⟩ := Y5.out.cells2); (try obtain ⟨uf0, uf1, -, -, -⟩ := Y5.out.free5); clear ho5 hb5))
    all_goals
      go_wp2_with fail
      go_meet
      case rel => first | exact ⟨_, a5, cap5, rfl, hide_it (stkMet_new N5.out Z5.out O5.out)⟩ | exact ⟨_, a5, cap5, rfl, hide_it (stkMet_set N5.out (by omega) (by omega) Y5.out Z5.out O5.out)⟩
  case rest =>
    obtain ⟨b, a5, cap5, rfl, HMET⟩ := hcut
    have EW := hide_it HMET.out.1
    have YW := hide_it HMET.out.2.1
    have ZW := hide_it HMET.out.2.2.1
    have OW := hide_it HMET.out.2.2.2
    clear HMET x0 x1 x2 x3 x4
    obtain ⟨u0, u1⟩ := YW.out.cells2
    obtain ⟨z0, z1⟩ := ZW.out.cells2
    obtain ⟨zf0, zf1, -, -, -⟩ := ZW.out.free5
    go_wp2
    refine bodyPost_ret (v := .agg #[.int .i64 RR, .slice a5 HS.length cap5]) (by simp [results, Tryd.results27, go_sem, *]) rfl ?_
    refine ⟨a5, cap5, rfl, ?_, ?_⟩
    · exact row_low (row_set (row_set OW.out ZW.out (by decide) _ _) (ZW.out.set_ 0 _) (by decide) _ _) (by omega)
    · exact ((B0.out.trans (EW.out.mono B0.out.size)).setCell (by simp) _).setCell (by simp) _

theorem l11Stock_any (id : Int) (up : Bool) (room : Int) (v : Value) (rs : List R) (f : Int) (forced : Bool) (w : World) (hv : Recs w v rs) (hfm : Form v rs.length) (hl : tot rs ≤ 1048576) (h0 : 0 ≤ f) (h1 : f ≤ rs.length) :
    Calls Tryd.prog 27 #[houseV id up room v f, .bool forced] w fun e w' => SkOut w w' e (oR room (Pl.sOf room (cutR rs f forced))) (oH (Pl.sOf room (cutR rs f forced))) := by
  obtain ⟨N, rfl⟩ := Int.eq_ofNat_of_zero_le h0
  have hN : N ≤ rs.length := by omega
  obtain ⟨ao, cap, rfl⟩ := hv.shape
  cases forced
  · have hcut : cutR rs (N : Int) false = rs := by simp [cutR]
    rw [hcut]
    have HO : ∀ W, Below w.heap.size w W → Calls Tryd.prog 28 #[.int .i64 room, .slice ao rs.length cap] W fun e w' => StOut W w' e (oR room (Pl.sOf room rs)) (oH (Pl.sOf room rs)) (Pl.sOf room rs).isSome := fun W h =>
      l2Of_any room (.slice ao rs.length cap) rs W (hv.later h (Nat.le_refl _)) hl
    rcases hfm with ⟨hv0, hn0⟩ | ⟨g, cap', hv0, hc⟩
    · simp only [Value.slice.injEq] at hv0
      obtain ⟨rfl, -, rfl⟩ := hv0
      rw [hn0] at HO ⊢
      exact l11Stock_all_nil id up room _ _ _ _ w HO
    · simp only [Value.slice.injEq] at hv0
      obtain ⟨rfl, -, rfl⟩ := hv0
      exact l11Stock_all_some id up room _ g rs.length cap _ _ _ w hc HO
  · have hcut : cutR rs (N : Int) true = rs.take N := by simp [cutR]
    rw [hcut]
    have HO : ∀ W, Below w.heap.size w W → Calls Tryd.prog 28 #[.int .i64 room, .slice ao N cap] W fun e w' => StOut W w' e (oR room (Pl.sOf room (rs.take N))) (oH (Pl.sOf room (rs.take N))) (Pl.sOf room (rs.take N)).isSome := fun W h =>
      l2Of_any room (.slice ao N cap) (rs.take N) W ((hv.later h (Nat.le_refl _)).take hN) (Nat.le_trans (pre_take rs N hN) hl)
    rcases hfm with ⟨hv0, hn0⟩ | ⟨g, cap', hv0, hc⟩
    · simp only [Value.slice.injEq] at hv0
      obtain ⟨rfl, -, rfl⟩ := hv0
      obtain rfl : N = 0 := by omega
      rw [hn0]
      exact l11Stock_forced_nil id up room _ _ _ w HO
    · simp only [Value.slice.injEq] at hv0
      obtain ⟨rfl, -, rfl⟩ := hv0
      exact l11Stock_forced_some id up room g rs.length cap N _ _ _ w hN hc HO

end Go.Proofs.YtgeagfglkgpoiaaDoor

namespace Go.Proofs.YtgeagfglkgpoiaaDoor
open Go.RowKit

set_option maxHeartbeats 4000000 in
theorem specHStock_any (id : Int) (up : Bool) (room : Int) (v : Value) (rs : List R) (f : Int) (forced : Bool) (w : World) (hv : Recs w v rs) (hfm : Form v rs.length) (hl : tot rs ≤ 1048576) :
    Calls Tryd.prog 8 #[houseV id up room v f, .bool forced] w fun e w' => SkOut w w' e (oR room (hsO id room rs f forced)) (oH (hsO id room rs f forced)) := by
  have hrl := tot_len rs
  have HV : Hid (∀ W, Below w.heap.size w W → Recs W v rs) := fun W h => hv.later h (Nat.le_refl _)
  have HOK : Hid (∀ W, Below w.heap.size w W → Calls Tryd.prog 9 #[houseV id up room v f] W fun e w' => e = .returned (.bool (hoOk id room rs f)) ∧ Below W.heap.size W w') := fun W h =>
    specHouseOk_any id up room v rs f W (HV.out W h) hl
  obtain ⟨av, cv, rfl⟩ := hv.shape
  have HFM := hide_it hfm
  clear hv hfm
  obtain ⟨w0, hw0⟩ : ∃ W, Hid (W = (w.alloc (.cells #[.int .i64 id, .bool up, .int .i64 room, .slice av rs.length cv, .int .i64 f] 27)).alloc (.cells #[.int .i64 0, .slice none 0 0] 32)) := ⟨_, rfl⟩
  have B0 : Hid (Below w.heap.size w w0) := by show Below _ _ _; rw [hw0.out]; exact below2 _ _ _
  have X0 : Hid (Blk w0 w.heap.size #[.int .i64 id, .bool up, .int .i64 room, .slice av rs.length cv, .int .i64 f] 27) := by show Blk _ _ _ _; rw [hw0.out]; exact (Blk.new _ _ _).alloc _
  have Z0 : Hid (Blk w0 (w.heap.size + 1) #[.int .i64 0, .slice none 0 0] 32) := by show Blk _ _ _ _; rw [hw0.out]; exact Blk.new2 _ _ _ _
  have hs0 : w0.heap.size = w.heap.size + 2 := by rw [hw0.out, size2]
  cases hok : hoOk id room rs f
  · have HR : Hid (hsO id room rs f forced = none) := by show _ = _; simp [hsO, hok]
    rw [hok] at HOK
    rw [HR.out]
    clear hok
    go_enter Tryd.func8, Tryd.ntmps8
    go_wp2_with fail
    rw [← hw0.out]
    refine (HOK.out _ B0.out).mono ?_
    rintro e w1 ⟨rfl, hb⟩
    obtain ⟨z0, z1⟩ := (Z0.out.after hb).cells2
    obtain ⟨zf0, zf1, -, -, -⟩ := (Z0.out.after hb).free5
    have HB := hide_it (B0.out.trans (hb.mono B0.out.size))
    clear hb
    go_wp2
    refine bodyPost_ret (v := .agg #[.int .i64 0, .slice none 0 0]) (by simp [results, Tryd.results8, go_sem, *]) rfl (SkOut.none_ ?_)
    exact (HB.out.setCell (by simp) _).setCell (by simp) _
  · have HR : Hid (hsO id room rs f forced = Pl.sOf room (cutR rs f forced)) := by show _ = _; simp [hsO, hok]
    obtain ⟨lf0, lf1, -⟩ := logOk_f (hoOk_parts hok).2.1
    rw [hok] at HOK
    rw [HR.out]
    clear HR
    obtain ⟨RR, hRR⟩ : ∃ x, Hid (oR room (Pl.sOf room (cutR rs f forced)) = x) := ⟨_, rfl⟩
    obtain ⟨HS, hHS⟩ : ∃ x, Hid (oH (Pl.sOf room (cutR rs f forced)) = x) := ⟨_, rfl⟩
    rw [hRR.out, hHS.out]
    have SK : Hid (∀ W, Below w.heap.size w W → Calls Tryd.prog 27 #[houseV id up room (.slice av rs.length cv) f, .bool forced] W fun e w' => SkOut W w' e RR HS) := fun W h => by
      have := l11Stock_any id up room _ rs f forced W (HV.out W h) HFM.out hl lf0 lf1
      rw [hRR.out, hHS.out] at this; exact this
    go_enter Tryd.func8, Tryd.ntmps8
    go_wp2_with fail
    rw [← hw0.out]
    refine (HOK.out _ B0.out).mono ?_
    rintro e w1 ⟨rfl, hb1⟩
    have X1 := hide_it (X0.out.after hb1)
    have Z1 := hide_it (Z0.out.after hb1)
    have B1 := hide_it (B0.out.trans (hb1.mono B0.out.size))
    have hs1 : w.heap.size + 2 ≤ w1.heap.size := by have := hb1.size; omega
    obtain ⟨x0, x1, x2, x3, x4⟩ := X1.out.cells5
    clear hb1
    go_wp2_with fail
    refine (SK.out _ B1.out).mono ?_
    rintro e w2 ⟨a9, c9, rfl, ho, hb⟩
    have Z2 := hide_it (Z1.out.after hb)
    have O2 := hide_it ho
    have B2 := hide_it (B1.out.trans (hb.mono B1.out.size))
    have hsn : w.heap.size + 2 ≤ w1.heap.size := by omega
    obtain ⟨z0, z1⟩ := Z2.out.cells2
    obtain ⟨zf0, zf1, -, -, -⟩ := Z2.out.free5
    clear ho hb
    go_wp2
    refine bodyPost_ret (v := .agg #[.int .i64 RR, .slice a9 HS.length c9]) (by simp [results, Tryd.results8, go_sem, *]) rfl ?_
    refine ⟨a9, c9, rfl, ?_, ?_⟩
    · exact row_low (row_set (row_set O2.out Z2.out (by decide) _ _) (Z2.out.set_ 0 _) (by decide) _ _) (by omega)
    · exact (B2.out.setCell (by simp) _).setCell (by simp) _

set_option maxHeartbeats 4000000 in
theorem implHStock_any (id : Int) (up : Bool) (room : Int) (v : Value) (rs : List R) (f : Int) (forced : Bool) (a : Addr) (w : World) (hv : Recs w v rs) (hfm : Form v rs.length) (hl : tot rs ≤ 1048576) (ha : ErrAt w a) :
    Calls Tryd.prog 6 #[houseV id up room v f, .bool forced] w fun e w' => SkOut w w' e (oR room (hsO id room rs f forced)) (oH (hsO id room rs f forced)) := by
  have hrl := tot_len rs
  have HV : Hid (∀ W, Below w.heap.size w W → Recs W v rs) := fun W h => hv.later h (Nat.le_refl _)
  have HA : Hid (∀ W, Below w.heap.size w W → ErrAt W a) := fun W h => ha.later h (Nat.le_refl _)
  have HOK : Hid (∀ W, Below w.heap.size w W → Calls Tryd.prog 18 #[houseV id up room v f] W fun e w' => e = .returned (.bool (hoOk id room rs f)) ∧ Below W.heap.size W w') := fun W h =>
    implHouseOk_any id up room v rs f a W (HV.out W h) hl (HA.out W h)
  obtain ⟨av, cv, rfl⟩ := hv.shape
  have HFM := hide_it hfm
  clear hv hfm ha
  obtain ⟨w0, hw0⟩ : ∃ W, Hid (W = (w.alloc (.cells #[.int .i64 id, .bool up, .int .i64 room, .slice av rs.length cv, .int .i64 f] 27)).alloc (.cells #[.int .i64 0, .slice none 0 0] 32)) := ⟨_, rfl⟩
  have B0 : Hid (Below w.heap.size w w0) := by show Below _ _ _; rw [hw0.out]; exact below2 _ _ _
  have X0 : Hid (Blk w0 w.heap.size #[.int .i64 id, .bool up, .int .i64 room, .slice av rs.length cv, .int .i64 f] 27) := by show Blk _ _ _ _; rw [hw0.out]; exact (Blk.new _ _ _).alloc _
  have Z0 : Hid (Blk w0 (w.heap.size + 1) #[.int .i64 0, .slice none 0 0] 32) := by show Blk _ _ _ _; rw [hw0.out]; exact Blk.new2 _ _ _ _
  have hs0 : w0.heap.size = w.heap.size + 2 := by rw [hw0.out, size2]
  cases hok : hoOk id room rs f
  · have HR : Hid (hsO id room rs f forced = none) := by show _ = _; simp [hsO, hok]
    rw [hok] at HOK
    rw [HR.out]
    clear hok
    go_enter Tryd.func6, Tryd.ntmps6
    go_wp2_with fail
    rw [← hw0.out]
    refine (HOK.out _ B0.out).mono ?_
    rintro e w1 ⟨rfl, hb⟩
    obtain ⟨z0, z1⟩ := (Z0.out.after hb).cells2
    obtain ⟨zf0, zf1, -, -, -⟩ := (Z0.out.after hb).free5
    have HB := hide_it (B0.out.trans (hb.mono B0.out.size))
    clear hb
    go_wp2
    refine bodyPost_ret (v := .agg #[.int .i64 0, .slice none 0 0]) (by simp [results, Tryd.results6, go_sem, *]) rfl (SkOut.none_ ?_)
    exact (HB.out.setCell (by simp) _).setCell (by simp) _
  · have HR : Hid (hsO id room rs f forced = Pl.sOf room (cutR rs f forced)) := by show _ = _; simp [hsO, hok]
    obtain ⟨lf0, lf1, -⟩ := logOk_f (hoOk_parts hok).2.1
    rw [hok] at HOK
    rw [HR.out]
    clear HR
    obtain ⟨RR, hRR⟩ : ∃ x, Hid (oR room (Pl.sOf room (cutR rs f forced)) = x) := ⟨_, rfl⟩
    obtain ⟨HS, hHS⟩ : ∃ x, Hid (oH (Pl.sOf room (cutR rs f forced)) = x) := ⟨_, rfl⟩
    rw [hRR.out, hHS.out]
    have SK : Hid (∀ W, Below w.heap.size w W → (forced = true → Calls Tryd.prog 25 #[keeperV (.slice av rs.length cv) f id up room] W fun e w' => SkOut W w' e RR HS) ∧ (forced = false → Calls Tryd.prog 26 #[keeperV (.slice av rs.length cv) f id up room] W fun e w' => SkOut W w' e RR HS)) := fun W h => by
      refine ⟨fun hf => ?_, fun hf => ?_⟩
      · have := forcedStock_any id up room _ rs f a W (HV.out W h) HFM.out hl lf0 lf1 (HA.out W h)
        rw [show rs.take f.toNat = cutR rs f forced by simp [cutR, hf]] at this
        rw [hRR.out, hHS.out] at this; exact this
      · have := allStock_any id up room _ rs f a W (HV.out W h) hl (HA.out W h)
        rw [show Pl.sOf room rs = Pl.sOf room (cutR rs f forced) by simp [cutR, hf]] at this
        rw [hRR.out, hHS.out] at this; exact this
    go_enter Tryd.func6, Tryd.ntmps6
    go_wp2_with fail
    rw [← hw0.out]
    refine (HOK.out _ B0.out).mono ?_
    rintro e w1 ⟨rfl, hb1⟩
    have X1 := hide_it (X0.out.after hb1)
    have Z1 := hide_it (Z0.out.after hb1)
    have B1 := hide_it (B0.out.trans (hb1.mono B0.out.size))
    have hs1 : w.heap.size + 2 ≤ w1.heap.size := by have := hb1.size; omega
    obtain ⟨x0, x1, x2, x3, x4⟩ := X1.out.cells5
    clear hb1
    go_wp2_with fail
    refine (keeperOf_any id up room av rs.length cv f w1).mono ?_
    rintro e w2 ⟨rfl, hb2⟩
    have Z2 := hide_it (Z1.out.after hb2)
    have B2 := hide_it (B1.out.trans (hb2.mono B1.out.size))
    have hs2 : w.heap.size + 2 ≤ w2.heap.size := by have := hb2.size; omega
    clear hb2 x0 x1 x2 x3 x4
    obtain ⟨w3, hw3⟩ : ∃ W, Hid (W = w2.alloc (.cells #[.slice av rs.length cv, .int .i64 f, .int .i64 id, .bool up, .int .i64 room] 52)) := ⟨_, rfl⟩
    have al3 : Hid (Below w2.heap.size w2 w3) := by show Below _ _ _; rw [hw3.out]; exact alloc_below _ _
    have hs3 : w3.heap.size = w2.heap.size + 1 := by rw [hw3.out]; simp
    have Z3 := hide_it (Z2.out.after al3.out)
    have B3 := hide_it (B2.out.trans (al3.out.mono B2.out.size))
    obtain ⟨SF, SA⟩ := SK.out w3 B3.out
    have HSF := hide_it SF
    have HSA := hide_it SA
    clear SF SA SK
    cases forced
    · go_wp2_with fail
      rw [← hw3.out]
      refine (HSA.out (by simp)).mono ?_
      rintro e w4 ⟨a9, c9, rfl, ho, hb⟩
      have Z4 := hide_it (Z3.out.after hb)
      have O4 := hide_it ho
      have B4 := hide_it (B3.out.trans (hb.mono B3.out.size))
      have hsn : w.heap.size + 2 ≤ w3.heap.size := by omega
      obtain ⟨z0, z1⟩ := Z4.out.cells2
      obtain ⟨zf0, zf1, -, -, -⟩ := Z4.out.free5
      clear ho hb
      go_wp2
      refine bodyPost_ret (v := .agg #[.int .i64 RR, .slice a9 HS.length c9]) (by simp [results, Tryd.results6, go_sem, *]) rfl ?_
      refine ⟨a9, c9, rfl, ?_, ?_⟩
      · exact row_low (row_set (row_set O4.out Z4.out (by decide) _ _) (Z4.out.set_ 0 _) (by decide) _ _) (by omega)
      · exact (B4.out.setCell (by simp) _).setCell (by simp) _
    · go_wp2_with fail
      rw [← hw3.out]
      refine (HSF.out (by simp)).mono ?_
      rintro e w4 ⟨a9, c9, rfl, ho, hb⟩
      have Z4 := hide_it (Z3.out.after hb)
      have O4 := hide_it ho
      have B4 := hide_it (B3.out.trans (hb.mono B3.out.size))
      have hsn : w.heap.size + 2 ≤ w3.heap.size := by omega
      obtain ⟨z0, z1⟩ := Z4.out.cells2
      obtain ⟨zf0, zf1, -, -, -⟩ := Z4.out.free5
      clear ho hb
      go_wp2
      refine bodyPost_ret (v := .agg #[.int .i64 RR, .slice a9 HS.length c9]) (by simp [results, Tryd.results6, go_sem, *]) rfl ?_
      refine ⟨a9, c9, rfl, ?_, ?_⟩
      · exact row_low (row_set (row_set O4.out Z4.out (by decide) _ _) (Z4.out.set_ 0 _) (by decide) _ _) (by omega)
      · exact (B4.out.setCell (by simp) _).setCell (by simp) _

end Go.Proofs.YtgeagfglkgpoiaaDoor

namespace Go.Proofs.YtgeagfglkgpoiaaDoor
open Go.RowKit

theorem hsO_len (id room : Int) (rs : List R) (f : Int) (forced : Bool) : (oH (hsO id room rs f forced)).length ≤ 6 := by
  unfold hsO
  split
  · exact Pl.oH_len _
  · simp [oH]

end Go.Proofs.YtgeagfglkgpoiaaDoor

namespace Go.Proofs.YtgeagfglkgpoiaaDoor

/-- An operation is taken first, its slot written out. -/
theorem takeD {P : Program} {md : Region.Mode} {ops : Array Oper} {Q : Exit → Act → World → Prop} {S : World → Prop} {i : Nat} {oi : Oper} {v : Value} {fuel : Nat} {listed : Array Bool} {a : Act} {w : World} (d : Option Nat) (hi : ops[i]? = some oi) (hd : oi.dst = d)
    (hs : Region.noSelect ops = true) (hf : Region.free md ops listed i = true) (hr : (Region.ready md ops listed).contains i = true)
    (hQ : ∀ c a w, Q (.panic c) (a.put d v) w → Q (.panic c) a w) (hw : Region.wanted oi (yielded ops a.tmps) = true) (hS : S w) (hy : ∀ w, S w → (execOp a.eval oi).run P w = .ok (.value v) w)
    (h : wpAnyH P md ops Q S fuel (listed.setIfInBounds i true) (a.put d v) w) : wpAnyH P md ops Q S (fuel + 1) listed a w := by
  subst hd
  exact wpAnyH_take hi hs hf hr hQ (Or.inl ⟨hw, hy⟩) hS h

/-- An operation that its guard passes over is taken first, its slot written out. -/
theorem skipD {P : Program} {md : Region.Mode} {ops : Array Oper} {Q : Exit → Act → World → Prop} {S : World → Prop} {i : Nat} {oi : Oper} {fuel : Nat} {listed : Array Bool} {a : Act} {w : World} (d : Option Nat) (hi : ops[i]? = some oi) (hd : oi.dst = d)
    (hs : Region.noSelect ops = true) (hf : Region.free md ops listed i = true) (hr : (Region.ready md ops listed).contains i = true)
    (hQ : ∀ c a w, Q (.panic c) (a.put d undef) w → Q (.panic c) a w) (hw : Region.wanted oi (yielded ops a.tmps) = false) (hS : S w)
    (h : wpAnyH P md ops Q S fuel (listed.setIfInBounds i true) (a.put d undef) w) : wpAnyH P md ops Q S (fuel + 1) listed a w := by
  subst hd
  exact wpAnyH_take hi hs hf hr hQ (Or.inr ⟨hw, rfl⟩) hS h

/-- What holds behind every operation may be weakened. -/
theorem heldMono {P : Program} {md : Region.Mode} {ops : Array Oper} {Q : Exit → Act → World → Prop} {S S2 : World → Prop} (hS : ∀ w, S2 w → S w) :
    ∀ (fuel : Nat) (listed : Array Bool) (a : Act) (w : World), wpAnyH P md ops Q S2 fuel listed a w → wpAnyH P md ops Q S fuel listed a w
  | 0, _, _, _, h => h
  | fuel + 1, _, _, _, h => ⟨h.1, fun i hi => wpOp_mono (fun a' w' h' => ⟨hS _ h'.1, heldMono hS fuel _ a' w' h'.2⟩) (h.2 i hi)⟩

end Go.Proofs.YtgeagfglkgpoiaaDoor

namespace Go.Proofs.YtgeagfglkgpoiaaDoor
open Go.RowKit

set_option maxHeartbeats 2000000 in
theorem lnStock_any (room : Int) (v1 v2 : Value) (hs : List Pl.H) (w : World) (h1 : Holds w v1 hs) (h2 : Holds w v2 hs) (hl : hs.length ≤ 1048576) :
    Calls Tryd.prog 7 #[.agg #[.int .i64 room, v1], .agg #[.int .i64 room, v2]] w fun e w' => e = .returned (.bool true) ∧ Below w.heap.size w w' := by
  rcases h1 with ⟨rfl, ao, cap, rfl, -⟩ | ⟨b, off, cap, rfl, hz, hc⟩
  · obtain ⟨ao2, cap2, rfl⟩ := h2.shape
    clear h2
    go_enter Tryd.func7, Tryd.ntmps7
    go_wp2
    refine wp_loop_rounds 1 ?_
    rw [rounds_succ]
    go_wp2
    go_ret
    exact ⟨rfl, below2 w _ _⟩
  rcases h2 with ⟨h, _⟩ | ⟨b2, off2, cap2, rfl, _, hc2⟩
  · exact absurd h hz
  have HC : Hid (∀ k, k < hs.length → w.cell? ⟨b, off + k * 2, none⟩ = some (.int .i64 (hs.getD k (0, 0)).1) ∧ w.cell? ⟨b, off + k * 2 + 1, none⟩ = some (.int .i64 (hs.getD k (0, 0)).2)) := hc
  have HC2 : Hid (∀ k, k < hs.length → w.cell? ⟨b2, off2 + k * 2, none⟩ = some (.int .i64 (hs.getD k (0, 0)).1) ∧ w.cell? ⟨b2, off2 + k * 2 + 1, none⟩ = some (.int .i64 (hs.getD k (0, 0)).2)) := hc2
  have hzl : 0 < hs.length := List.length_pos_iff.2 hz
  have hbw : b < w.heap.size := World.block_lt_of_cell? _ _ (hc 0 hzl).1
  have hbw2 : b2 < w.heap.size := World.block_lt_of_cell? _ _ (hc2 0 hzl).1
  have DA := hide_it ((Duo.new w (.int .i64 room) (.slice (some ⟨b, off, none⟩) hs.length cap) 32).later (al_below _ (.cells #[.int .i64 room, .slice (some ⟨b2, off2, none⟩) hs.length cap2] 32)) (Nat.le_refl _))
  have DB := hide_it (Duo.new (w.alloc (.cells #[.int .i64 room, .slice (some ⟨b, off, none⟩) hs.length cap] 32)) (.int .i64 room) (.slice (some ⟨b2, off2, none⟩) hs.length cap2) 32)
  rw [World.size_alloc] at DB
  clear hc hc2 hz
  go_enter Tryd.func7, Tryd.ntmps7
  go_wp2
  go_loopw [5] (fun i wr => ∃ k : Nat, k ≤ hs.length ∧ i = .int .i64 k ∧ Hid (Below (w.heap.size + 2) ((w.alloc (.cells #[.int .i64 room, .slice (some ⟨b, off, none⟩) hs.length cap] 32)).alloc (.cells #[.int .i64 room, .slice (some ⟨b2, off2, none⟩) hs.length cap2] 32)) wr)) (fun i _ => hs.length - (intOf i).toNat)
  case atStart => exact ⟨0, Nat.zero_le _, rfl, Below.refl _ _⟩
  case round =>
    obtain ⟨k, hk, rfl, HB⟩ := hrel
    obtain ⟨a0, a1⟩ := DA.out.later HB.out (by simp)
    obtain ⟨e0, e1⟩ := DB.out.later HB.out (by simp)
    by_cases hlt : k < hs.length
    · obtain ⟨m, s, HZ⟩ : ∃ m s, Hid (hs.getD k (0, 0) = (m, s)) := ⟨_, _, rfl⟩
      have HBw := (below2 w (.cells #[.int .i64 room, .slice (some ⟨b, off, none⟩) hs.length cap] 32) (.cells #[.int .i64 room, .slice (some ⟨b2, off2, none⟩) hs.length cap2] 32)).trans (HB.out.mono (by omega))
      have c0 : wr.cell? ⟨b, off + k * 2, none⟩ = some (.int .i64 m) := by rw [HBw.cell (p := ⟨b, off + k * 2, none⟩) hbw, (HC.out k hlt).1, HZ.out]
      have c1 : wr.cell? ⟨b, off + k * 2 + 1, none⟩ = some (.int .i64 s) := by rw [HBw.cell (p := ⟨b, off + k * 2 + 1, none⟩) hbw, (HC.out k hlt).2, HZ.out]
      have d0 : wr.cell? ⟨b2, off2 + k * 2, none⟩ = some (.int .i64 m) := by rw [HBw.cell (p := ⟨b2, off2 + k * 2, none⟩) hbw2, (HC2.out k hlt).1, HZ.out]
      have d1 : wr.cell? ⟨b2, off2 + k * 2 + 1, none⟩ = some (.int .i64 s) := by rw [HBw.cell (p := ⟨b2, off2 + k * 2 + 1, none⟩) hbw2, (HC2.out k hlt).2, HZ.out]
      have hli : (k : Int) < (hs.length : Int) := by omega
      clear HBw
      go_wp2
      go_quiet (fail)
      go_wp2
      go_roundw
      case rel => exact ⟨k + 1, by omega, by go_num, below_drewN HB.out _⟩
      case measure => simp [intOf]; omega
    · go_wp2
      go_ret
      exact ⟨rfl, (below2 w _ _).trans (HB.out.mono (by omega))⟩

end Go.Proofs.YtgeagfglkgpoiaaDoor

namespace Go.Proofs.YtgeagfglkgpoiaaDoor
open Go.ChangeShapes Go.WideShapes Go.ChangeAt Go.WideMaps Go.WideElems Go.RowKit

theorem own : ownKnob Tryd.prog.godebug = none := by kernel_rfl
theorem laidOut : laidOutB Tryd.prog = true := by kernel_rfl
theorem gErr : Tryd.prog.globalNamed "loop.example/concierge/impl.errNoRec" = some 0 := by kernel_rfl
theorem gErrType : (Tryd.prog.globals[0]?).map (·.type) = some 94 := by kernel_rfl
theorem cellsErrS : Tryd.prog.cellsOf 152 = 1 := by kernel_rfl
theorem cellsString : Tryd.prog.cellsOf 9 = 1 := by kernel_rfl
theorem cellsInt : Tryd.prog.cellsOf 3 = 1 := by kernel_rfl
theorem star : "*" ++ "errors.errorString" = "*errors.errorString" := by decide
theorem rowErr (u : TypeId) (h : Tryd.prog.typeName? 3 u = some "*errors.errorString") : u = 125 :=
  typeName_ptr_named (nm := "errors.errorString") (by rw [star]; kernel_rfl) (by kernel_rfl) (by decide) u (by rw [star]; exact h)

/-- The list that every row of this seat bears. -/
def laidErr : List (String × DataW Unit) := [("loop.example/concierge/impl.errNoRec", Rows.laid_loop_example_concierge_impl_errNoRec)]

theorem door_met (os : Os) (args : Array Value) : laidMetH Tryd.prog laidErr ((World.doorLaid Tryd.prog 28 os).forCall (fun _ _ => 0) ⟨#[], args, []⟩).memory :=
  laidMetH_of_parts3 (fuel := 8) (laidMet_of_run' 8 (by kernel_rfl) (by kernel_rfl)) (by kernel_rfl) (by kernel_rfl)

/-- What the list gives: the variable holds a pointer to an errors.errorString. -/
theorem of_laid {W : World} (h : laidMetH Tryd.prog laidErr W) : ∃ a, ErrAt W a ∧ W.var? Tryd.prog "loop.example/concierge/impl.errNoRec" = some #[.iface 125 (.pointer (some a))] := by
  rw [MakeChecks.laidMetH_plain _ _ _ (by kernel_rfl)] at h
  obtain ⟨a, s, hv, hc, _, _⟩ := laid_sentinel (r := []) h gErr gErrType Tryd.underlying94 rowErr Tryd.underlying125 Tryd.underlying152 rfl rfl Tryd.underlying9 cellsErrS cellsString
  refine ⟨a, ?_, hv⟩
  unfold ErrAt
  simpa using World.var?_cell gErr hv 0

end Go.Proofs.YtgeagfglkgpoiaaDoor

namespace Go.Proofs.YtgeagfglkgpoiaaDoor
open Go.ChangeShapes Go.WideShapes Go.ChangeAt Go.WideMaps Go.WideElems Go.RowKit Go.Joins

theorem cellsByte : Tryd.prog.cellsOf 5 = 1 := by kernel_rfl

theorem u8_bd {z : Int} (h : (Lit.int .u8 z).wf = true) : 0 ≤ z ∧ z ≤ 255 := by
  simp only [Lit.wf, Bool.and_eq_true, decide_eq_true_eq] at h
  have h0 : IntKind.min .u8 = 0 := by decide
  have h1 : IntKind.max .u8 = 255 := by decide
  omega

section
variable {H : Type} {enc : TypeId × Value → H} {W : World}

set_option maxRecDepth 100000 in
/-- A code that came in. -/
theorem open_code {base : Nat} {v : Value} {d : DataW H} {p : List MemPlace} (hval : Value.okWide Tryd.prog W .any base 22 v) (h : DataW.Trod enc Tryd.prog W 0 (fun _ => true) true 22 v d p) :
    ∃ n, CodeAt W v n ∧ (n : Int) ≤ 9223372036854775807 := by
  obtain ⟨ao, n, cap, rfl⟩ := okWide_slice Tryd.underlying22 hval
  obtain ⟨fuel, hf⟩ := h
  have hf' : DataW.trod enc Tryd.prog W 0 (fun _ => true) true fuel 22 [.slice ao n cap] = some (d, p) := hf
  rcases open_ints Tryd.underlying22 Tryd.underlying5 cellsByte hf' with ⟨hcs, hx⟩ | ⟨a, len, cap', zs, hcs, _, hl, hm, hz, hx, hcell, hwz⟩
  · simp at hcs
    obtain ⟨rfl, rfl, rfl⟩ := hcs
    exact ⟨0, ⟨none, 0, rfl, Nat.le_refl _, fun h => absurd rfl h⟩, by simp⟩
  · simp at hcs
    obtain ⟨rfl, rfl, rfl⟩ := hcs
    simp only [if_pos] at hz
    refine ⟨n, ⟨some a, cap, rfl, hl, fun hn => ?_⟩, by unfold maxLen at hm; omega⟩
    obtain ⟨b, off, rfl, hc⟩ := ints_at hcell (by omega)
    refine ⟨b, off, rfl, fun k hk => ⟨zs.getD k 0, hc k (by omega), ?_⟩⟩
    have hkz : k < zs.length := by omega
    have hmem : zs.getD k 0 ∈ zs := by simp [List.getD_eq_getElem?_getD, hkz]
    exact u8_bd (hwz _ hmem)

end
end Go.Proofs.YtgeagfglkgpoiaaDoor
