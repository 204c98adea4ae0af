/- FnStockOf answers true whatever the codes, and they read afterwards as they read before: promise 19 at every drawn room and records, cut anywhere. The card: the sentinel's variable starts as the program's text lays it. -/
import Derived.Test.YtcofnjooiemkfaaDoorBase5

namespace Go.Proofs.YtcofnjooiemkfaaDoor
open Go.RowKit

def Capd (o : Value) (n : Nat) : Prop := ∃ oa oc, o = .slice oa n oc ∧ n ≤ oc
theorem capd_row {w : World} {base : Nat} {e : TypeId} {size : Nat} {v : Value} {ps : List (R × Value)} {xs : List Value} (h : w.ownsRow base e size v ps.length xs) : Capd v (ps.map (·.1)).length := by
  rw [List.length_map]
  rcases h.2 with ⟨hv, hn⟩ | ⟨g, cap, cur, hv, _, _, hc, _⟩
  · exact ⟨none, 0, by rw [hv, hn], by omega⟩
  · exact ⟨_, cap, hv, hc⟩

set_option maxRecDepth 100000 in
set_option maxHeartbeats 4000000 in
theorem drawOf_cap (v : Value) (n : Nat) (w : World) (hv : CodeAt w v n) (hn : n ≤ 1048576) :
    Calls Tryd.prog 16 #[v] w fun e w' => ∃ (room : Int) (o : Value) (rs : List R), e = .returned (.tuple #[.int .i64 room, o]) ∧ 0 ≤ room ∧ room ≤ 7 ∧ Capd o rs.length ∧ rs.length ≤ 14 ∧ tot rs ≤ 1000 ∧ Recs w' o rs ∧ Below w.heap.size w w' := by
  obtain ⟨i0, hi, hz0, hz1, hz2⟩ := info_parts infoRec
  have HO := hide_it (open_any v n w hv hn)
  obtain ⟨ao, cap, rfl, _⟩ := hv
  go_enter Tryd.func16, Tryd.ntmps16
  go_wp2_with fail
  refine HO.out.mono ?_
  rintro e w1 ⟨rfl, hr1, hs1, hb1⟩
  obtain ⟨b, hbb⟩ : ∃ b, Hid (b = w.heap.size) := ⟨_, rfl⟩
  rw [← hbb.out] at hr1 ⊢
  have hb1' : b < w1.heap.size := by rw [hbb.out, hs1]; omega
  have R1 := hide_it hr1
  have B1 := hide_it hb1
  clear hr1 hb1 hs1
  go_wp2_with fail
  refine (recs_draw b 0 _ R1.out (by omega)).mono ?_
  rintro e w2 ⟨room, o, ps, hs, q, rfl, lr, ur, hps, hrow, hall, hrun, hq, r2, m2⟩
  have C2 : Hid (RcS w1 w2 b q o ps) := ⟨hrow, hall, r2, m2, hb1'⟩
  obtain ⟨o2, c2, hos⟩ := row_shape hrow
  subst hos
  clear hrow hall hrun r2 m2
  go_wp2_with fail
  refine (pick_any b q 8 _ C2.out.rd (by omega) (by omega) (by omega)).mono ?_
  rintro e w3 ⟨y, rfl, ly, uy, r3, m3⟩
  have C3 := hide_it (C2.out.step m3 r3)
  clear r3 m3 C2
  have hBl : Hid (∀ W, Mid b (b + 1) w1 W → Below w.heap.size w W) := fun W hm => B1.out.trans (hm.below (by rw [hbb.out]; omega) B1.out.size)
  by_cases hy0 : y = 0
  · subst hy0
    go_wp2_with fail
    refine (rec_draw b (q + 1) _ C3.out.rd (by omega)).mono ?_
    rintro e w4 ⟨k, t, u, zs, q4, cap4, rfl, hz, hF, hqa, hqb, r4, m4⟩
    have C4 := hide_it (C3.out.step m4 r4)
    have F4 := hide_it (hF.mono (show w1.heap.size ≤ w3.heap.size from C3.out.mid.size))
    obtain ⟨g, off, hu⟩ : ∃ g off, u = .slice (some ⟨g, off, none⟩) zs.length cap4 := by obtain ⟨g, off, cs, h, _⟩ := hF; exact ⟨g, off, h⟩
    subst hu
    clear hF r4 m4 C3
    have hw14 : w1.heap.size ≤ w4.heap.size := C4.out.mid.size
    have ROW : Hid (∀ x, (w4.alloc x).ownsRow w1.heap.size 28 3 (.slice o2 ps.length c2) ps.length (flat ps)) := fun x => (C4.out.later (alloc_below _ x)).row
    go_wp2_with (at_builtin; refine wpList_append_own _ rfl _ _ 40 rfl w1.heap.size 28 i0 (.agg #[.int .i64 0, .int .i64 0, .slice none 0 0]) 3 40 Tryd.underlying40 hi hz0 hz1 hz2 rfl (by decide) (.slice o2 ps.length c2) ps.length (flat ps) rfl (ROW.out _) ⟨w4.heap.size, 0, none⟩ 1 1 [.int .i64 k, .int .i64 t, .slice (some ⟨g, off, none⟩) zs.length cap4] rfl rfl (news3 _ _ _ _ _) (one3 _ _ _) ?c3 ?c4 ?c5 ?_)
    case c3 => unfold maxLen; omega
    case c4 => omega
    case c5 => simp; omega
    intro v' w5 hown5 hgrow5 _
    have C5 := hide_it ((C4.out.later (alloc_below _ _)).push (r := (k, t, zs)) ⟨by simpa using hz, Or.inl ⟨cap4, F4.out.later (alloc_below _ _) (Nat.le_refl _)⟩⟩ hown5 hgrow5)
    clear hown5 hgrow5 ROW C4 F4
    go_wp2
    go_ret2
    obtain ⟨h1, h2⟩ := C5.out.out (by simp; omega)
    exact ⟨room, _, _, rfl, lr, by omega, capd_row C5.out.row, by simp; omega, h2, h1, hBl.out _ C5.out.mid⟩
  by_cases hy1 : y = 1
  · subst hy1
    go_wp2_with fail
    refine (pick_any b (q + 1) 4 _ C3.out.rd (by omega) (by omega) (by omega)).mono ?_
    rintro e w4 ⟨z, rfl, lz, uz, r4, m4⟩
    have C4 := hide_it (C3.out.step m4 r4)
    clear r4 m4
    go_wp2
    go_ret2
    obtain ⟨h1, h2⟩ := C4.out.out (by omega)
    exact ⟨z, _, _, rfl, lz, by omega, capd_row C4.out.row, by simp; omega, h2, h1, hBl.out _ C4.out.mid⟩
  · go_wp2
    go_ret2
    obtain ⟨h1, h2⟩ := C3.out.out (by omega)
    exact ⟨room, _, _, rfl, lr, by omega, capd_row C3.out.row, by simp; omega, h2, h1, hBl.out _ C3.out.mid⟩

end Go.Proofs.YtcofnjooiemkfaaDoor

namespace Go.Proofs.YtcofnjooiemkfaaDoor
open Go.RowKit

theorem frozenAlloc {w : World} {b o : Nat} (h : w.frozen? ⟨b, o, none⟩ = false) (hb : b < w.heap.size) (x : Obj) : (w.alloc x).frozen? ⟨b, o, none⟩ = false := by
  rw [← h]
  exact ((Below.refl w.heap.size w).alloc (Nat.le_refl _) x).frozen (p := ⟨b, o, none⟩) hb

end Go.Proofs.YtcofnjooiemkfaaDoor

namespace Go.Proofs.YtcofnjooiemkfaaDoor
open Go.RowKit

/-- How many are left behind a fall. -/
def fallN (n : Nat) (f keep : Int) : Nat := (if keep ≤ 0 then f else if keep < n - f then f + keep else n).toNat

theorem fallN_le {n : Nat} {f keep : Int} (h0 : 0 ≤ f) (h1 : f ≤ n) : fallN n f keep ≤ n := by
  unfold fallN; split
  · omega
  · split <;> omega

theorem fallN_lo {n F : Nat} {keep : Int} (h : keep ≤ 0) : fallN n F keep = F := by unfold fallN; rw [if_pos h]; simp
theorem fallN_mid {n F K : Nat} (h0 : ¬ (K : Int) ≤ 0) (h : (K : Int) ≤ n - F) : fallN n F K = F + K := by
  unfold fallN; rw [if_neg h0]
  by_cases e : (K : Int) < n - F
  · rw [if_pos e]; omega
  · rw [if_neg e]; omega
theorem fallN_all {n F K : Nat} (h0 : ¬ (K : Int) ≤ 0) (h : ¬ (K : Int) ≤ n - F) : fallN n F K = n := by unfold fallN; rw [if_neg h0, if_neg (by omega)]; simp

theorem flat_take (ps : List (R × Value)) (N : Nat) : flat (ps.take N) = (flat ps).take (N * 3) := by
  induction ps generalizing N with
  | nil => simp [flat]
  | cons p t ih =>
    cases N with
    | zero => simp [flat]
    | succ N =>
      rw [show (N + 1) * 3 = N * 3 + 3 by omega]
      simp [flat, ih]

theorem Made.take {w : World} {lo N : Nat} {ao : Option Addr} {cap : Nat} {rs : List R} (h : Made w lo (.slice ao rs.length cap) rs) (hN : N ≤ rs.length) : Made w lo (.slice ao N cap) (rs.take N) := by
  obtain ⟨ps, hp, h1, h2, h3⟩ := h
  have hpl : ps.length = rs.length := by have := congrArg List.length hp; simpa using this
  refine ⟨ps.take N, by rw [List.map_take, hp], ?_, ?_, h3.1, fun p hp => h3.2.1 p (List.mem_of_mem_take hp), fun i j p q hi hj hij => ?_⟩
  · have hl : (ps.take N).length = N := by rw [List.length_take]; omega
    rw [hl, flat_take]
    refine ⟨by rw [List.length_take, h1.1]; rw [hpl]; omega, ?_⟩
    rcases h1.2 with ⟨hv, hn⟩ | ⟨g, cp, cur, hv, hg, hh, hnc, hcm, hcs, htk⟩
    · simp only [Value.slice.injEq] at hv
      obtain ⟨e1, e2, e3⟩ := hv
      exact Or.inl ⟨by rw [e1, e3, show N = 0 by omega], by omega⟩
    · simp only [Value.slice.injEq] at hv
      obtain ⟨e1, e2, e3⟩ := hv
      refine Or.inr ⟨g, cp, cur, by rw [e1, e3], hg, hh, by omega, hcm, hcs, ?_⟩
      rw [← htk, List.take_take, Nat.min_eq_left (by rw [hpl]; omega)]
  · intro k hk
    refine h2 k ?_
    cases ao with
    | none => cases hk
    | some a => exact hk
  · have hi' : i < N ∧ ps[i]? = some p := by
      rw [List.getElem?_take] at hi
      split at hi
      · exact ⟨by assumption, hi⟩
      · cases hi
    have hj' : j < N ∧ ps[j]? = some q := by
      rw [List.getElem?_take] at hj
      split at hj
      · exact ⟨by assumption, hj⟩
      · cases hj
    exact h3.2.2 i j p q hi'.2 hj'.2 hij

theorem Recs.take {w : World} {N cap : Nat} {ao : Option Addr} {rs : List R} (h : Recs w (.slice ao rs.length cap) rs) (hN : N ≤ rs.length) : Recs w (.slice ao N cap) (rs.take N) := by
  have hl : (rs.take N).length = N := by rw [List.length_take]; omega
  by_cases h0 : N = 0
  · subst h0
    exact Or.inl ⟨by simp, ao, cap, rfl⟩
  rcases h with ⟨hz, _⟩ | ⟨b, off, cp, hv, hz, hc⟩
  · rw [hz] at hN; simp at hN; omega
  · simp only [Value.slice.injEq] at hv
    obtain ⟨e1, _, e3⟩ := hv
    refine Or.inr ⟨b, off, cp, by rw [hl, e1, e3], by intro e; rw [e] at hl; simp at hl; omega, fun i r hr => ?_⟩
    rw [List.getElem?_take] at hr
    split at hr
    · exact hc i r hr
    · cases hr

theorem pre_take (rs : List R) (N : Nat) (hN : N ≤ rs.length) : tot (rs.take N) ≤ tot rs := by
  have h1 := pre_le rs N
  have h2 : pre (rs.take N) (rs.take N).length = pre rs N := by unfold pre; rw [List.take_length]
  unfold tot
  rw [h2, List.length_take]; omega

/-- What a fall leaves. -/
def fallR (rs : List R) (f keep : Int) : List R := if logOk rs f then rs.take (fallN rs.length f keep) else []
def fallF (rs : List R) (f keep : Int) : Int := if logOk rs f then fallN rs.length f keep else 0

theorem logOk_f {rs : List R} {f : Int} (h : logOk rs f = true) : 0 ≤ f ∧ f ≤ rs.length ∧ rs.length ≤ 40 := by
  unfold logOk at h
  simp only [Bool.and_eq_true, decide_eq_true_eq] at h
  have := Pl.inB_true h.2.2
  omega

end Go.Proofs.YtcofnjooiemkfaaDoor

namespace Go.Proofs.YtcofnjooiemkfaaDoor
open Go.RowKit

/-- Behind so many records: what is had, or none. -/
def accS (room : Int) (qs : List R) (k : Nat) : Option (List Pl.H) := Pl.sOf room (qs.take k)
theorem take_snoc' {qs : List R} {k : Nat} {q : R} (hq : qs[k]? = some q) : qs.take (k + 1) = qs.take k ++ [q] := by
  have hk : k < qs.length := by
    by_cases e : k < qs.length
    · exact e
    · rw [List.getElem?_eq_none (by omega)] at hq; cases hq
  rw [List.take_succ_eq_append_getElem hk]
  rw [List.getElem?_eq_getElem hk] at hq
  simp only [Option.some.injEq] at hq
  rw [hq]
theorem acc_step {room : Int} {qs : List R} {k : Nat} {q : R} {hs : List Pl.H} (hq : qs[k]? = some q) (h : accS room qs k = some hs) : accS room qs (k + 1) = Pl.sDo room hs q.1 q.2.1 q.2.2 := by
  unfold accS at *
  rw [take_snoc' hq]
  exact Pl.sOf_snoc q h
theorem acc_none {room : Int} {qs : List R} {k : Nat} {q : R} (hq : qs[k]? = some q) (h : accS room qs k = none) : accS room qs (k + 1) = none := by
  unfold accS Pl.sOf at *
  rw [take_snoc' hq]
  by_cases c : Pl.inB room 0 9 = true
  · rw [if_pos c] at h ⊢
    rw [Pl.sRun_snoc, h]; rfl
  · rw [if_neg c]
theorem acc_len {room : Int} {qs : List R} {k : Nat} : (oH (accS room qs k)).length ≤ 1048576 := by
  cases h : accS room qs k with
  | none => show ([] : List Pl.H).length ≤ _; simp
  | some x =>
    show x.length ≤ _
    unfold accS Pl.sOf at h
    by_cases c : Pl.inB room 0 9 = true
    · rw [if_pos c] at h
      have := Pl.sRun_len _ h
      rw [this]; decide
    · rw [if_neg c] at h; cases h

set_option maxRecDepth 100000 in
set_option maxHeartbeats 8000000 in
theorem lawP19_small (vc : Value) (nc : Nat) (am : Option Addr) (nm cm : Nat) (a : Addr) (w : World) (hc : CodeAt w vc nc) (hcn : nc ≤ 1048576) (hmn : nm ≤ 1048576) (ha : ErrAt w a) :
    Calls Tryd.prog 6 #[vc, .slice am nm cm] w fun e w' => e = .returned (.bool true) ∧ Below w.heap.size w w' := by
  have HO := hide_it (drawOf_cap vc nc w hc hcn)
  have HAe : Hid (∀ W, Below w.heap.size w W → ErrAt W a) := fun W h => ha.later h (Nat.le_refl _)
  obtain ⟨ao, cap, rfl, _⟩ := hc
  clear ha
  have hni : ¬ (1048576 : Int) < (nc : Int) := by omega
  have hmi : ¬ (1048576 : Int) < (nm : Int) := by omega
  go_enter Tryd.func6, Tryd.ntmps6
  go_wp2_with fail
  refine HO.out.mono ?_
  rintro e w1 ⟨room, o, qs, rfl, hr0, hr7, hcapd, hq14, hq, hR, hb1⟩
  obtain ⟨oa, oc, hos, hoc⟩ := hcapd
  subst hos
  have B1 := hide_it hb1
  have HR : Hid (∀ W, Below w1.heap.size w1 W → Recs W (.slice oa qs.length oc) qs) := fun W h => hR.later h (Nat.le_refl _)
  clear hR hb1
  have hin : Pl.inB room 0 9 = true := Pl.inB_mk hr0 (by omega)
  obtain ⟨OO, hOO⟩ : ∃ x, Hid (Pl.sOf room qs = x) := ⟨_, rfl⟩
  have HEND : Hid (accS room qs qs.length = OO) := by show _ = _; unfold accS; rw [List.take_length]; exact hOO.out
  obtain ⟨RR, hRR⟩ : ∃ x, oR room OO = x := ⟨_, rfl⟩
  obtain ⟨HS, hHS⟩ : ∃ x, oH OO = x := ⟨_, rfl⟩
  obtain ⟨BB, hBB⟩ : ∃ x, OO.isSome = x := ⟨_, rfl⟩
  have hL9 : HS.length ≤ 1048576 := by rw [← hHS, ← HEND.out]; exact acc_len
  have SP : Hid (∀ W, Below w1.heap.size w1 W → Calls Tryd.prog 17 #[.int .i64 room, .slice oa qs.length oc] W fun e w' => StOut W w' e RR HS BB) := fun W hb => by
    have := specOf_any room _ qs W (HR.out W hb) (by omega)
    rw [hOO.out, hRR, hHS, hBB] at this; exact this
  have IM : Hid (∀ W, Below w1.heap.size w1 W → Calls Tryd.prog 18 #[.int .i64 room, .slice oa qs.length oc] W fun e w' => StOut W w' e RR HS BB) := fun W hb => by
    have := implOf_any room _ qs a W (HR.out W hb) (by omega) (HAe.out W (B1.out.trans (hb.mono B1.out.size)))
    rw [hOO.out, hRR, hHS, hBB] at this; exact this
  have HFIN : Hid (oR room OO = RR ∧ oH OO = HS ∧ OO.isSome = BB) := ⟨hRR, hHS, hBB⟩
  clear hRR hHS hBB
  go_wp2_with fail
  refine (SP.out w1 (Below.refl _ _)).mono ?_
  rintro e w3 ⟨a3, c3, rfl, ho3, hb3⟩
  obtain ⟨w4, hw4⟩ : ∃ W, Hid (W = w3.alloc (.cells #[.int .i64 RR, .slice a3 HS.length c3] 25)) := ⟨_, rfl⟩
  have al4 : Below w3.heap.size w3 w4 := by rw [hw4.out]; exact alloc_below _ _
  have E4 := hide_it (hb3.trans (al4.mono hb3.size))
  have Z4 : Hid (Duo w4 w3.heap.size (.int .i64 RR) (.slice a3 HS.length c3)) := by show Duo _ _ _ _; rw [hw4.out]; exact Duo.new w3 _ _ _
  have V4 := hide_it ((holds_of_row ho3).later al4 (Nat.le_refl _))
  clear ho3 hb3 al4
  go_wp2_with fail
  rw [← hw4.out]
  refine (IM.out w4 E4.out).mono ?_
  rintro e w5 ⟨a5, c5, rfl, ho5, hb5⟩
  obtain ⟨w6, hw6⟩ : ∃ W, Hid (W = w5.alloc (.cells #[.int .i64 RR, .slice a5 HS.length c5] 25)) := ⟨_, rfl⟩
  have al6 : Below w5.heap.size w5 w6 := by rw [hw6.out]; exact alloc_below _ _
  have e6 : Below w4.heap.size w4 w6 := hb5.trans (al6.mono hb5.size)
  have E6 := hide_it (E4.out.trans (e6.mono E4.out.size))
  have X6 : Hid (Duo w6 w5.heap.size (.int .i64 RR) (.slice a5 HS.length c5)) := by show Duo _ _ _ _; rw [hw6.out]; exact Duo.new w5 _ _ _
  have Z5 := hide_it (Z4.out.later hb5 (Nat.le_refl _))
  have V6 := hide_it (V4.out.later e6 (Nat.le_refl _))
  have U6 := hide_it ((holds_of_row ho5).later al6 (Nat.le_refl _))
  obtain ⟨z0, z1⟩ := Z5.out
  have z0o := fun o => cellAlloc z0 o
  have z1o := fun o => cellAlloc z1 o
  have hzl3 := Z5.out.lt
  clear ho5 hb5 al6 e6
  obtain ⟨N, hN⟩ : ∃ N : Nat, nm % (qs.length + 1) = N := ⟨_, rfl⟩
  have hNl : N ≤ qs.length := by rw [← hN]; have := Nat.mod_lt nm (show 0 < qs.length + 1 by omega); omega
  have hNt : Int.tmod (nm : Int) ((qs.length : Int) + 1) = (N : Int) := by
    rw [← hN]
    have : ((qs.length : Int) + 1) = ((qs.length + 1 : Nat) : Int) := by simp
    rw [this]
    exact (Int.ofNat_tmod _ _).symm
  have hNz : ¬ ((qs.length : Int) + 1 = 0) := by omega
  have hNc : (N : Int) ≤ (oc : Int) := by omega
  clear hN
  obtain ⟨ON, hON⟩ : ∃ x, Hid (accS room qs N = x) := ⟨_, rfl⟩
  have HCUT : Hid (∀ W, Below w1.heap.size w1 W → Calls Tryd.prog 18 #[.int .i64 room, .slice oa N oc] W fun e w' => StOut W w' e (oR room ON) (oH ON) ON.isSome) := fun W hb => by
    have := implOf_any room _ (qs.take N) a W ((HR.out W hb).take hNl) (Nat.le_trans (pre_take qs N hNl) (by omega)) (HAe.out W (B1.out.trans (hb.mono B1.out.size)))
    have e : Pl.sOf room (qs.take N) = ON := hON.out
    rw [e] at this; exact this
  have h0r : ¬ room < 0 := by omega
  have h9r : ¬ 9 < room := by omega
  cases BB
  all_goals
    go_wp2_with fail
    rw [← hw6.out]
    refine (lnStock_any RR _ _ HS w6 U6.out V6.out hL9).mono ?_
    rintro e w7 ⟨rfl, hb7⟩
    have E7 := hide_it (E6.out.trans (hb7.mono E6.out.size))
    have U7 := hide_it (U6.out.later hb7 (Nat.le_refl _))
    have X7 := hide_it (X6.out.later hb7 (Nat.le_refl _))
    clear hb7 z0 z1 z0o z1o hzl3
    go_wp2_with fail
    refine (HCUT.out w7 E7.out).mono ?_
    rintro e w8 ⟨a8, c8, rfl, ho8, hb8⟩
    obtain ⟨RX, hRX⟩ : ∃ x, Hid (oR room ON = x) := ⟨_, rfl⟩
    obtain ⟨HX, hHX⟩ : ∃ x, Hid (oH ON = x) := ⟨_, rfl⟩
    obtain ⟨FX, hFX⟩ : ∃ x, Hid (ON.isSome = x) := ⟨_, rfl⟩
    rw [hRX.out, hFX.out]
    rw [hHX.out] at ho8 ⊢
    obtain ⟨w9, hw9⟩ : ∃ W, Hid (W = w8.alloc (.cells #[.int .i64 RX, .slice a8 HX.length c8] 25)) := ⟨_, rfl⟩
    have al9 : Below w8.heap.size w8 w9 := by rw [hw9.out]; exact alloc_below _ _
    have L8 := hide_it hb8
    have N9 : Hid (Below w8.heap.size w8 w9) := al9
    have Y9 : Hid (Blk w9 w8.heap.size #[.int .i64 RX, .slice a8 HX.length c8] 25) := by show Blk _ _ _ _; rw [hw9.out]; exact Blk.new w8 _ _
    have T9 := hide_it ((holds_of_row ho8).later al9 (Nat.le_refl _))
    clear ho8 hb8 al9
    have HX0 : Hid (FX = (accS room qs N).isSome) := by show _ = _; rw [hON.out]; exact hFX.out.symm
    have HX1 : Hid (RX = oR room (accS room qs N)) := by show _ = _; rw [hON.out]; exact hRX.out.symm
    have HX2 : Hid (HX = oH (accS room qs N)) := by show _ = _; rw [hON.out]; exact hHX.out.symm
    go_wp2
    rw [← hw9.out]
    go_loopw [13, 14] (fun fv iv wr => ∃ (i : Nat) (F : Bool) (rx : Int) (ax : Option Addr) (cx : Nat) (xs : List Pl.H), N ≤ i ∧ i ≤ qs.length ∧ iv = .int .i64 i ∧ fv = .bool F ∧ Hid (F = (accS room qs i).isSome) ∧ Hid (rx = oR room (accS room qs i)) ∧ Hid (xs = oH (accS room qs i)) ∧ Hid (Blk wr w8.heap.size #[.int .i64 rx, .slice ax xs.length cx] 25) ∧ Hid (Holds wr (.slice ax xs.length cx) xs) ∧ Hid (Below w8.heap.size w8 wr)) (fun _ iv _ => qs.length - (intOf iv).toNat)
    case atStart => exact ⟨N, FX, RX, a8, c8, HX, Nat.le_refl _, hNl, rfl, rfl, HX0, HX1, HX2, Y9, T9, N9⟩
    case round =>
      obtain ⟨i, F, rx, ax, cx, xs, hNi, hi, rfl, rfl, H0, H1, H2, HY, HT, HB⟩ := hrel
      have EW := hide_it (E7.out.trans ((L8.out.trans (HB.out.mono L8.out.size)).mono E7.out.size))
      have BW := hide_it (B1.out.trans (EW.out.mono B1.out.size))
      obtain ⟨y0, y1⟩ := HY.out.cells2
      by_cases hlt : i < qs.length
      · obtain ⟨q, hqi⟩ : ∃ q, Hid (qs[i]? = some q) := ⟨qs[i], by show _ = _; simp [hlt]⟩
        have hli : (i : Int) < (qs.length : Int) := by omega
        cases F
        · have hn : accS room qs i = none := by
            cases hq : accS room qs i with
            | none => rfl
            | some x => have := H0.out; rw [hq] at this; cases this
          have hn1 := acc_none hqi.out hn
          have S0 : Hid (false = (accS room qs (i + 1)).isSome) := by show _ = _; rw [hn1]; rfl
          have S1 : Hid (rx = oR room (accS room qs (i + 1))) := by show _ = _; rw [hn1, ← hn]; exact H1.out
          have S2 : Hid (xs = oH (accS room qs (i + 1))) := by show _ = _; rw [hn1, ← hn]; exact H2.out
          clear hn hn1
          go_wp2
          go_roundw
          case rel => exact ⟨i + 1, false, rx, ax, cx, xs, by omega, by omega, by go_num, rfl, S0, S1, S2, HY, HT, HB⟩
          case measure => simp [intOf]; omega
        · obtain ⟨hs, hn⟩ : ∃ hs, accS room qs i = some hs := by
            cases hq : accS room qs i with
            | none => have := H0.out; rw [hq] at this; cases this
            | some x => exact ⟨x, rfl⟩
          have e1 : rx = room := by rw [H1.out, hn]; rfl
          have e2 : xs = hs := by rw [H2.out, hn]; rfl
          subst e1 e2
          have hn1 := acc_step hqi.out hn
          have hxl : xs.length ≤ 1048576 := by have := acc_len (room := rx) (qs := qs) (k := i); rw [hn] at this; exact this
          rcases HR.out wr EW.out with ⟨h0, _⟩ | ⟨b, off, cp, hvv, _, hcl⟩
          · rw [h0] at hlt; simp at hlt
          simp only [Value.slice.injEq] at hvv
          obtain ⟨rfl, -, rfl⟩ := hvv
          obtain ⟨y, d0, d1, d2, hI⟩ := hcl i q hqi.out
          have hql : q.2.2.length ≤ 1048576 := by have := tot_mem qs q (List.mem_of_getElem? hqi.out); omega
          obtain ⟨ay, cy, hys⟩ := hI.shape
          subst hys
          have HDO := hide_it (implDo_any rx _ xs q.1 q.2.1 _ q.2.2 a wr.drew (HT.out.later (Below.refl _ _).drew (Nat.le_refl _)) hxl (hI.later (Below.refl _ _).drew (Nat.le_refl _)) hql (HAe.out _ BW.out.drew))
          rw [← hn1] at HDO
          obtain ⟨RX2, hRX2⟩ : ∃ x, oR rx (accS rx qs (i + 1)) = x := ⟨_, rfl⟩
          obtain ⟨HX2, hHX2⟩ : ∃ x, oH (accS rx qs (i + 1)) = x := ⟨_, rfl⟩
          obtain ⟨FX2, hFX2⟩ : ∃ x, (accS rx qs (i + 1)).isSome = x := ⟨_, rfl⟩
          rw [hRX2, hHX2, hFX2] at HDO
          have S0 := hide_it hFX2.symm
          have S1 := hide_it hRX2.symm
          have S2 := hide_it hHX2.symm
          clear hcl hI hn hn1 hRX2 hHX2 hFX2
          go_wp2
          go_region_law (go_simp; go_at_call 11; refine HDO.out.mono ?_; rintro e wa ⟨aa, ca, rfl, hoa, hba⟩; have hba' : Below wr.heap.size wr wa := (Below.refl wr.heap.size wr).drew.trans hba; have YA := hide_it (HY.out.after hba'); have GA := hide_it (HB.out.trans (hba'.mono HB.out.size)); have TA := hide_it (holds_of_row hoa); have OA : Hid (∀ g, (Value.slice aa HX2.length ca).ownBlock = some g → w8.heap.size ≠ g) := (fun g hg e => by have h1 : wr.heap.size ≤ g := (hoa.lt g hg).1; have h2 := HY.out.lt; omega); obtain ⟨u0, u1⟩ := YA.out.cells2; obtain ⟨uf0, uf1⟩ := YA.out.free2; clear hoa hba hba')
          all_goals
           go_wp2
           go_roundw
           case rel =>
             refine ⟨i + 1, FX2, RX2, aa, ca, HX2, by omega, by omega, by go_num, rfl, S0, S1, S2, ?_, ?_, ?_⟩
             · have := (YA.out.set_ 0 (.int .i64 RX2)).set_ 1 (.slice aa HX2.length ca)
               exact hide_it (by simpa using this)
             · exact hide_it ((TA.out.setApart (a := ⟨w8.heap.size, 0, none⟩) OA.out _).setApart (a := ⟨w8.heap.size, 1, none⟩) OA.out _)
             · exact hide_it ((GA.out.setCell (Nat.le_refl _) _).setCell (Nat.le_refl _) _)
           case measure => simp [intOf]; omega
      · have hie : i = qs.length := by omega
        have hge : ¬ (i : Int) < (qs.length : Int) := by omega
        have g0 := H0.out
        have g1 := H1.out
        have g2 := H2.out
        rw [hie, HEND.out] at g0 g1 g2
        rw [HFIN.out.2.2] at g0
        rw [HFIN.out.1] at g1
        rw [HFIN.out.2.1] at g2
        subst g0 g1 g2
        obtain ⟨x0, x1⟩ := X7.out.later (L8.out.trans (HB.out.mono L8.out.size)) (Nat.le_refl _)
        have UW := hide_it (U7.out.later (L8.out.trans (HB.out.mono L8.out.size)) (Nat.le_refl _))
        clear H0 H1 H2 hi hNi hie
        first
          | (go_wp2_with fail
             refine (lnStock_any rx _ _ xs wr HT.out UW.out hL9).mono ?_
             rintro e wz ⟨rfl, hbz⟩
             have BZ := hide_it (BW.out.trans (hbz.mono BW.out.size))
             clear hbz
             go_wp2
             go_ret
             exact ⟨rfl, BZ.out⟩)
          | (go_wp2
             go_ret
             exact ⟨rfl, BW.out⟩)

end Go.Proofs.YtcofnjooiemkfaaDoor

namespace Go.Proofs.YtcofnjooiemkfaaDoor
open Go.ChangeShapes Go.WideShapes Go.ChangeAt Go.WideMaps Go.WideElems Go.RowKit Go.Joins

set_option maxHeartbeats 1000000 in
theorem lawP19_great1 (ac : Option Addr) (nc cc : Nat) (am : Option Addr) (nm cm : Nat) (w : World) (h : 1048576 < (nc : Int)) :
    Calls Tryd.prog 6 #[.slice ac nc cc, .slice am nm cm] w fun e w' => e = .returned (.bool true) ∧ Below w.heap.size w w' := by
  go_enter Tryd.func6, Tryd.ntmps6
  go_wp2
  go_ret
  exact ⟨rfl, Below.refl _ _⟩

set_option maxHeartbeats 1000000 in
theorem lawP19_great2 (ac : Option Addr) (nc cc : Nat) (am : Option Addr) (nm cm : Nat) (w : World) (hc : (nc : Int) ≤ 1048576) (h : 1048576 < (nm : Int)) :
    Calls Tryd.prog 6 #[.slice ac nc cc, .slice am nm cm] w fun e w' => e = .returned (.bool true) ∧ Below w.heap.size w w' := by
  go_enter Tryd.func6, Tryd.ntmps6
  go_wp2
  go_ret
  exact ⟨rfl, Below.refl _ _⟩

theorem lawP19_any (vc vm : Value) (nc nm : Nat) (a : Addr) (w : World) (hc : CodeAt w vc nc) (hm : CodeAt w vm nm) (ha : ErrAt w a) :
    Calls Tryd.prog 6 #[vc, vm] w fun e w' => e = .returned (.bool true) ∧ Below w.heap.size w w' := by
  obtain ⟨am, cm, rfl, _⟩ := hm
  by_cases h1 : nc ≤ 1048576
  · by_cases h2 : nm ≤ 1048576
    · exact lawP19_small vc nc am nm cm a w hc h1 h2 ha
    · obtain ⟨ac, cc, rfl, _⟩ := hc
      exact lawP19_great2 ac nc cc am nm cm w (by omega) (by omega)
  · obtain ⟨ac, cc, rfl, _⟩ := hc
    exact lawP19_great1 ac nc cc am nm cm w (by omega)

set_option maxRecDepth 100000 in
theorem p19_lifted (os : Os) (started : os.Started) (H : Type) (enc : TypeId × Value → H) :
    ReturnsInHanded {} Tryd.checked os 6 .any (fun w args => (Rows.fnStockOfSpec.pre enc Tryd.prog Tryd.f6 [] false w args ∧ laidMetH Tryd.prog laidErr w) ∧ sizedMet enc Tryd.prog Tryd.f6 (OpenSpec.ofChange Rows.fnStockOfSpec) false w args)
      (Rows.fnStockOfSpec.post enc Tryd.prog Tryd.f6 false true false false) := by
  refine returnsInHanded_of_change_and (C := Tryd.checked) (X := fun w _ => laidMetH Tryd.prog laidErr w) (fun _ _ _ hh h => h.of_heap hh) own started (by kernel_rfl) Tryd.func6
    (ChangeSpec.witness_shaped (enc := enc) (C := Tryd.checked) (os := os) (X := fun w _ => laidMetH Tryd.prog laidErr w) false (World.doorLaid Tryd.prog 28 os) #[.slice none 0 0, .slice none 0 0] 8 rfl (World.shaped_of_RefB (by kernel_rfl) (by kernel_rfl)) (by kernel_rfl) (by kernel_rfl) (by kernel_rfl) (door_met os _)) ?_
  intro W base args ds gs before hval0 hW _ _ hL _
  have hval : ∀ (j : Nat) t v, Tryd.f6.params[j]? = some t → args[j]? = some v → Value.okWide Tryd.prog W .any base t v := hval0
  have hW' := hW
  obtain ⟨p, q, hA0, hV0, rfl, hfz, hnd⟩ := hW
  have hA : DataW.TrodAll enc Tryd.prog W 0 (fun _ => true) true Tryd.f6.params.toList args.toList ds p := hA0
  have hV : DataW.TrodVars enc Tryd.prog W (fun _ => true) ["loop.example/concierge/impl.errNoRec"] gs q := hV0
  rw [Tryd.params6] at hA hval
  obtain ⟨v0, v1, d0, d1, p0, p1, rfl, rfl, rfl, h0, h1⟩ := trodAll_two hA
  obtain ⟨a, hErr, hvar⟩ := of_laid hL
  have vr : ∀ {X : World}, X.var? Tryd.prog "loop.example/concierge/impl.errNoRec" = some #[.iface 101 (.pointer (some a))] → ∀ sp : Nat → Bool,
      DataW.TrodVars enc Tryd.prog X sp ["loop.example/concierge/impl.errNoRec"] [tok enc (.iface 101 (.pointer (some a)))] [.cell 0 0] :=
    fun x0 sp => vars_read1 enc gErr gErrType Tryd.underlying72 x0 trivial sp
  obtain ⟨rfl, rfl⟩ := hV.unique (vr hvar _)
  clear hA0 hV0 hval0
  obtain ⟨nc, hC, _⟩ := open_code (hval 0 22 v0 rfl rfl) h0
  obtain ⟨nm, hM, _⟩ := open_code (hval 1 22 v1 rfl rfl) h1
  refine (lawP19_any v0 v1 nc nm a W hC hM hErr).mono fun e W' ⟨he, hb⟩ => ?_
  subst he
  have hlt : ∀ x ∈ p0, x.block < W.heap.size := fun x hx => hW'.lt x (by simp [hx])
  have hlt1 : ∀ x ∈ p1, x.block < W.heap.size := fun x hx => hW'.lt x (by simp [hx])
  refine ⟨_, rfl, _, _, _, [], p0 ++ p1, [.cell 0 0], hW', ?_, ?_, ?_, hb.frame _, fun h => by cases h⟩
  · exact trodAll_mk1 (shut_bool Tryd.underlying4 true)
  · exact trodAll_mk2 (Below.trod laidOut (by kernel_rfl) (of_decide_eq_true (by kernel_rfl)) h0 hb hlt) (Below.trod laidOut (by kernel_rfl) (of_decide_eq_true (by kernel_rfl)) h1 hb hlt1)
  · exact vr (var?_below hb gErr (World.block_lt_of_cell? _ _ hErr) hvar) _

theorem p19_said : Rows.FnStockOfSaid :=
  OpenClaim.holds_of_wide 6 Tryd.f6 rfl rfl rfl rfl rfl rfl rfl ⟨rfl, rfl, rfl, rfl, rfl⟩ rfl rfl rfl rfl rfl (by kernel_rfl) Tryd.func6 (by kernel_rfl)
    (of_decide_eq_true (by kernel_rfl)) (by unfold Func.isWrapper; first | (rw [if_pos (by decide +kernel)]; kernel_rfl) | (rw [if_neg (by decide +kernel)]; exact ⟨rfl, rfl⟩))
    (fun os started H enc _ => p19_lifted os started H enc)

theorem p19_plain (f : FuncId) (fn : Func) (hf : Tryd.pinned.checked.prog.funcNamed "loop.example/concierge/laws.FnStockOf" = some f) (hfn : Tryd.pinned.checked.prog.funcs[f]? = some fn) :
    true = Tryd.pinned.checked.prog.looks [] ∧ ∀ (j : Nat) t, fn.params[j]? = some t → Tryd.pinned.checked.prog.wantsStandIn t = false := by
  obtain rfl : f = 6 := Option.some.inj ((show Tryd.prog.funcNamed "loop.example/concierge/laws.FnStockOf" = some 6 by kernel_rfl).symm.trans hf) |>.symm
  obtain rfl : fn = Tryd.f6 := (Option.some.inj (Tryd.func6.symm.trans hfn)).symm
  refine ⟨by kernel_rfl, fun j t ht => ?_⟩
  rw [Tryd.params6] at ht
  obtain rfl : t = 22 := by simpa using Array.mem_of_getElem? ht
  exact (show Tryd.prog.wantsStandIn 22 = false by kernel_rfl)

theorem p19_card : Rows.FnStockOfCardSaid :=
  Claim7.holds_tied_plain_at .later [] _ _ _ _ p19_said (fun _ h => by cases h) (by kernel_rfl) (fun _ h => by cases h) fnStockOf_row_tie rfl ⟨rfl, rfl⟩ (by kernel_rfl) rfl p19_plain (by kernel_rfl)
#print axioms p19_card

end Go.Proofs.YtcofnjooiemkfaaDoor
