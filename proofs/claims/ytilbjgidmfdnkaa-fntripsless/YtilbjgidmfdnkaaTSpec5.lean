/- Contracts of the specification's TripsDo and TripsOf. For all that together has at most 1048576 trips, records and numbers. -/
import Derived.Test.YtilbjgidmfdnkaaTSpec4
import Derived.Deep.RegionHeld
namespace Go.Proofs.Ytilbjgidmfdnkaa.T
open Go.RowKit

theorem Made.lit (w : World) (lo : Nat) (h : lo ≤ w.heap.size) : Made (w.alloc (.cells #[] 28)) lo (.slice (some ⟨w.heap.size, 0, Option.none⟩) 0 0) [] :=
  ⟨[], rfl, ownsRow_base (lit0 w _ _) h, fun k hk => by simp [Value.ownBlock] at hk; simp; omega, Inner.nil _ _ _ (Nat.le_refl _)⟩

set_option maxHeartbeats 4000000 in
theorem specDo_any (v : Value) (rs : List R) (r : Rc) (u : Value) (w : World) (hv : Recs w v rs) (hl : tot rs ≤ 1048576) (hu : Ints w u r.2.2) (hrl : r.2.2.length ≤ 1048576) :
    Calls Try.prog 18 #[v, .agg #[.int .i64 r.1, .int .i64 r.2.1, u]] w fun e w' => TrOut w w' e (doO rs r) (tMay rs r) := by
  have HV : Hid (∀ W, Below w.heap.size w W → Recs W v rs) := fun W h => hv.later h (Nat.le_refl _)
  have HU : Hid (∀ W, Below w.heap.size w W → Ints W u r.2.2) := fun W h => hu.later h (Nat.le_refl _)
  obtain ⟨av, cv, hvs⟩ := hv.shape
  obtain ⟨au, cu, hus⟩ := hu.shape
  subst hvs hus
  clear hv hu
  obtain ⟨w0, hw0⟩ : ∃ W, Hid (W = w.alloc (.cells #[.int .i64 r.1, .int .i64 r.2.1, .slice au r.2.2.length cu] 45)) := ⟨_, rfl⟩
  have B0 : Hid (Below w.heap.size w w0) := by show Below _ _ _; rw [hw0.out]; exact alloc_below _ _
  have X0 : Hid (Blk w0 w.heap.size #[.int .i64 r.1, .int .i64 r.2.1, .slice au r.2.2.length cu] 45) := by show Blk _ _ _ _; rw [hw0.out]; exact Blk.new w _ _
  have S0 := specMay_any _ rs r _ w0 (HV.out _ B0.out) hl (HU.out _ B0.out) hrl
  cases hbb : tMay rs r
  · have HE : Hid (doO rs r = []) := by show _ = _; unfold doO; rw [hbb]; rfl
    rw [HE.out]
    rw [hbb] at S0
    have HS := hide_it S0
    clear S0 hbb
    go_enter Try.func18, Try.ntmps18
    go_wp2_with fail
    rw [← hw0.out]
    refine HS.out.mono ?_
    rintro e w1 ⟨rfl, hb1⟩
    have B1 := hide_it (B0.out.trans (hb1.mono B0.out.size))
    have hz1 := B1.out.size
    clear hb1
    go_wp2
    refine bodyPost_ret (v := .tuple #[.slice (some ⟨w1.heap.size, 0, none⟩) 0 0, .bool false]) (by simp [results, Try.results18, go_sem]) rfl ?_
    exact ⟨_, 0, rfl, Made.lit w1 _ hz1, B1.out.alloc hz1 _⟩
  have HE : Hid (doO rs r = doL rs r) := by show _ = _; unfold doO; rw [hbb]; rfl
  rw [HE.out]
  rw [hbb] at S0
  have HS := hide_it S0
  have HM3 : Hid (tripsOk rs = true ∧ rOk r = true ∧ mayL rs r = true) := by
    unfold tMay at hbb
    simp only [Bool.and_eq_true] at hbb
    exact hbb
  have HF := hide_it (fit_ok HM3.out.1)
  clear S0 hbb
  go_enter Try.func18, Try.ntmps18
  go_wp2_with fail
  rw [← hw0.out]
  refine HS.out.mono ?_
  rintro e w1 ⟨rfl, hb1⟩
  have B1 := hide_it (B0.out.trans (hb1.mono B0.out.size))
  have X1 := hide_it (X0.out.after hb1)
  obtain ⟨x0, x1, x2⟩ := X1.out.cells3
  have hz1 := X1.out.lt
  clear hb1
  go_wp2
  go_region_held (fun w' => w'.cell? ⟨w.heap.size, 0, none⟩ = some (.int .i64 r.1) ∧ w'.cell? ⟨w.heap.size, 1, none⟩ = some (.int .i64 r.2.1) ∧ w'.cell? ⟨w.heap.size, 2, none⟩ = some (.slice au r.2.2.length cu)) (go_keep)
    ((first
      | (go_at_call 23; refine (l12Copy_any _ rs _ (HV.out _ B1.out.drew) HF.out).mono ?_; rintro e w2 ⟨a2, c2, rfl, hm2, hb2⟩; have hb2' := (Below.refl w1.heap.size w1).drew.trans hb2; obtain ⟨y0, y1, y2⟩ := (X1.out.after hb2').cells3; have M2 := hide_it hm2; have B2 := hide_it (B1.out.trans (hb2'.mono B1.out.size)); have X2 := hide_it (X1.out.after hb2'); have hz2 := hb2'.size; clear hm2 hb2 hb2')
      | (go_at_call 21; refine (l12Do_any _ rs r _ w1.heap.size _ M2.out HF.out hz2 (HU.out _ B2.out) HM3.out.2.1 HM3.out.2.2).mono ?_; rintro e w3 ⟨a3, c3, rfl, hm3, hb3⟩; obtain ⟨s0, s1, s2⟩ := (X2.out.later hb3 hz1).cells3; have M3 := hide_it hm3; have B3 := hide_it (B2.out.trans (hb3.mono B1.out.size)); clear hm3 hb3)))
  all_goals
    try go_wp2
    refine bodyPost_ret (v := .tuple #[.slice a3 (doL rs r).length c3, .bool true]) (by simp [results, Try.results18, go_sem]) rfl ?_
    exact ⟨a3, c3, rfl, M3.out.lo B1.out.size, B3.out⟩

set_option maxHeartbeats 4000000 in
theorem l12Of_any (v : Value) (qs : List Rc) (w : World) (hv : _root_.Go.Proofs.Ytilbjgidmfdnkaa.Recs w v qs) (hl : _root_.Go.Proofs.Ytilbjgidmfdnkaa.tot qs ≤ 1048576) :
    Calls Try.prog 17 #[v] w fun e w' => TrOut w w' e (ofO qs) (runT qs).isSome := by
  have hlen := _root_.Go.Proofs.Ytilbjgidmfdnkaa.tot_len qs
  have HM : Hid (∀ r ∈ qs, r.2.2.length ≤ 1048576) := fun r hr => Nat.le_trans (_root_.Go.Proofs.Ytilbjgidmfdnkaa.tot_mem qs r hr) hl
  have HV : Hid (∀ W, Below w.heap.size w W → _root_.Go.Proofs.Ytilbjgidmfdnkaa.Recs W v qs) := fun W h => hv.later h (Nat.le_refl _)
  obtain ⟨av, cv, hvs⟩ := hv.shape
  subst hvs
  clear hv
  obtain ⟨w0, hw0⟩ : ∃ W, Hid (W = w.alloc (.cells #[] 28)) := ⟨_, rfl⟩
  have B0 : Hid (Below w.heap.size w w0) := by show Below _ _ _; rw [hw0.out]; exact alloc_below _ _
  have M0 : Hid (Made w0 w.heap.size (.slice (some ⟨w.heap.size, 0, none⟩) 0 0) []) := by show Made _ _ _ _; rw [hw0.out]; exact Made.lit w _ (Nat.le_refl _)
  obtain ⟨OO, hOO⟩ : ∃ x, ofO qs = x := ⟨_, rfl⟩
  obtain ⟨BB, hBB⟩ : ∃ x, (runT qs).isSome = x := ⟨_, rfl⟩
  rw [hOO, hBB]
  have HOO := hide_it hOO
  have HBB := hide_it hBB
  clear hOO hBB
  go_enter Try.func17, Try.ntmps17
  go_wp2
  rw [← hw0.out]
  go_loopw [4, 5] (fun vo i wr => ∃ (k : Nat) (rs : List R) (ao : Option Addr) (cp : Nat), k ≤ qs.length ∧ i = .int .i64 k ∧ vo = .slice ao rs.length cp ∧ Hid (runT (qs.take k) = some rs) ∧ Hid (Made wr w.heap.size (.slice ao rs.length cp) rs) ∧ Hid (Below w.heap.size w wr)) (fun _ i _ => qs.length - (intOf i).toNat)
  case atStart => exact ⟨0, [], _, _, Nat.zero_le _, rfl, rfl, rfl, M0, B0⟩
  case round =>
    obtain ⟨k, rs, ao, cp, hk, rfl, rfl, HR, HMd, HB⟩ := hrel
    have hfit := runT_fit HR.out
    have hn6 : rs.length ≤ 6 := hfit.1
    have HF := hide_it hfit
    have hwr := HB.out.size
    clear hfit
    by_cases hlt : k < qs.length
    · obtain ⟨q, hq⟩ : ∃ q, Hid (qs[k]? = some q) := ⟨qs[k], by show _ = _; simp [hlt]⟩
      have hrl : q.2.2.length ≤ 1048576 := HM.out q (List.mem_of_getElem? hq.out)
      rcases HV.out w (Below.refl _ _) with ⟨h0, _⟩ | ⟨b, off, cap, hvv, _, hcl⟩
      · rw [h0] at hlt; simp at hlt
      simp only [Value.slice.injEq] at hvv
      obtain ⟨rfl, -, rfl⟩ := hvv
      obtain ⟨x, d0, d1, d2, hI⟩ := hcl k q hq.out
      have hbw : b < w.heap.size := World.block_lt_of_cell? _ _ d0
      obtain ⟨ax, cx, hxs⟩ := hI.shape
      subst hxs
      have HI : Hid (∀ W, Below w.heap.size w W → Ints W (.slice ax q.2.2.length cx) q.2.2) := fun W h => hI.later h (Nat.le_refl _)
      have HCs : Hid (∀ W, Below w.heap.size w W → W.cell? ⟨b, off + k * 3, none⟩ = some (.int .i64 q.1) ∧ W.cell? ⟨b, off + k * 3 + 1, none⟩ = some (.int .i64 q.2.1) ∧ W.cell? ⟨b, off + k * 3 + 2, none⟩ = some (.slice ax q.2.2.length cx)) := fun W h =>
        ⟨cellBelow d0 h hbw, cellBelow d1 h hbw, cellBelow d2 h hbw⟩
      obtain ⟨c0, c1, c2⟩ := HCs.out wr HB.out
      have hli : (k : Int) < (qs.length : Int) := by omega
      have S0 : Calls Try.prog 19 #[.agg #[.int .i64 q.1, .int .i64 q.2.1, .slice ax q.2.2.length cx]] wr fun e w' => e = .returned (.bool (rOk q)) ∧ Below wr.heap.size wr w' := specOk_any q.1 q.2.1 _ q.2.2 wr (HI.out _ HB.out) hrl
      clear hI hcl d0 d1 d2
      cases hok : rOk q
      · rw [hok] at S0
        have HS := hide_it S0
        have HN : Hid (runT qs = none) := runT_bad hq.out HR.out (by rw [hok]; rfl)
        have HO1 : Hid (OO = []) := by show _ = _; rw [← HOO.out]; unfold ofO; rw [HN.out]; rfl
        have HB1 : Hid (BB = false) := by show _ = _; rw [← HBB.out, HN.out]; rfl
        clear S0 hok
        go_wp2_with fail
        refine HS.out.mono ?_
        rintro e w1 ⟨rfl, hb1⟩
        have B1 := hide_it (HB.out.trans (hb1.mono hwr))
        have hz1 := B1.out.size
        clear hb1
        go_wp2
        refine bodyPost_ret (v := .tuple #[.slice (some ⟨w1.heap.size, 0, none⟩) 0 0, .bool false]) (by simp [results, Try.results17, go_sem]) rfl ?_
        rw [HO1.out, HB1.out]
        exact ⟨_, 0, rfl, Made.lit w1 _ hz1, B1.out.alloc hz1 _⟩
      rw [hok] at S0
      have HS := hide_it S0
      have HOK := hide_it hok
      obtain ⟨ht1, ht6⟩ := rOk_trip hok
      have HT1 := hide_it ht1
      have HT6 := hide_it ht6
      clear S0 hok ht1 ht6
      go_wp2_with fail
      refine HS.out.mono ?_
      rintro e w1 ⟨rfl, hb1⟩
      have B1 := hide_it (HB.out.trans (hb1.mono hwr))
      have M1 := hide_it (HMd.out.below hb1 (Nat.le_refl _))
      have hz1 := B1.out.size
      clear hb1 c0 c1 c2
      obtain ⟨c0, c1, c2⟩ := HCs.out w1 B1.out
      have HQ : Hid (Calls Try.prog 20 #[.slice ao rs.length cp, .agg #[.int .i64 q.1, .int .i64 q.2.1, .slice ax q.2.2.length cx]] w1 fun e w' => e = .returned (.bool (mayL rs (q.1, q.2.1, q.2.2))) ∧ Below w1.heap.size w1 w') := l12May_any _ rs q.1 q.2.1 _ q.2.2 w1 M1.out.recs HF.out.tot ⟨_, _, _, rfl⟩ HT1.out HT6.out
      have eq0 : (q.1, q.2.1, q.2.2) = q := rfl
      rw [eq0] at HQ
      cases hmay : mayL rs q
      · rw [hmay] at HQ
        have HN : Hid (runT qs = none) := runT_bad hq.out HR.out (by rw [hmay, HOK.out]; rfl)
        have HO1 : Hid (OO = []) := by show _ = _; rw [← HOO.out]; unfold ofO; rw [HN.out]; rfl
        have HB1 : Hid (BB = false) := by show _ = _; rw [← HBB.out, HN.out]; rfl
        clear hmay eq0
        go_wp2_with fail
        refine HQ.out.mono ?_
        rintro e w2 ⟨rfl, hb2⟩
        have B2 := hide_it (B1.out.trans (hb2.mono hz1))
        have hz2 := B2.out.size
        clear hb2
        go_wp2
        refine bodyPost_ret (v := .tuple #[.slice (some ⟨w2.heap.size, 0, none⟩) 0 0, .bool false]) (by simp [results, Try.results17, go_sem]) rfl ?_
        rw [HO1.out, HB1.out]
        exact ⟨_, 0, rfl, Made.lit w2 _ hz2, B2.out.alloc hz2 _⟩
      · rw [hmay] at HQ
        have HMY := hide_it hmay
        have HR3 : Hid (runT (qs.take (k + 1)) = some (doL rs q)) := runT_good hq.out HR.out (by rw [hmay, HOK.out]; rfl)
        clear hmay eq0
        go_wp2_with fail
        refine HQ.out.mono ?_
        rintro e w2 ⟨rfl, hb2⟩
        have B2 := hide_it (B1.out.trans (hb2.mono hz1))
        have M2 := hide_it (M1.out.below hb2 (Nat.le_refl _))
        have hz2 := B2.out.size
        clear hb2 c0 c1 c2
        obtain ⟨c0, c1, c2⟩ := HCs.out w2 B2.out
        go_wp2_with fail
        refine (l12Do_any _ rs q _ w.heap.size w2 M2.out HF.out hz2 (HI.out _ B2.out) HOK.out HMY.out).mono ?_
        rintro e w3 ⟨a3, c3, rfl, hm3, hb3⟩
        have M3 := hide_it hm3
        have B3 := hide_it (B2.out.trans hb3)
        clear hm3 hb3
        go_wp2
        go_roundw
        case rel => exact ⟨k + 1, doL rs q, a3, c3, by omega, by go_num, rfl, HR3, M3, B3⟩
        case measure => simp [intOf]; omega
    · have HRq : Hid (runT qs = some rs) := by
        show _ = _
        have hke : k = qs.length := by omega
        have := HR.out
        rw [hke, List.take_length] at this
        exact this
      have HO1 : Hid (OO = rs) := by show _ = _; rw [← HOO.out]; unfold ofO; rw [HRq.out]; rfl
      have HB1 : Hid (BB = true) := by show _ = _; rw [← HBB.out, HRq.out]; rfl
      go_wp2
      refine bodyPost_ret (v := .tuple #[.slice ao rs.length cp, .bool true]) (by simp [results, Try.results17, go_sem]) rfl ?_
      rw [HO1.out, HB1.out]
      exact ⟨ao, cp, rfl, HMd.out, HB.out⟩

theorem specOf_any (v : Value) (qs : List Rc) (w : World) (hv : _root_.Go.Proofs.Ytilbjgidmfdnkaa.Recs w v qs) (hl : _root_.Go.Proofs.Ytilbjgidmfdnkaa.tot qs ≤ 1048576) :
    Calls Try.prog 15 #[v] w fun e w' => TrOut w w' e (ofO qs) (runT qs).isSome := by
  have HS := hide_it (l12Of_any v qs w hv hl)
  obtain ⟨OO, hOO⟩ : ∃ x, ofO qs = x := ⟨_, rfl⟩
  obtain ⟨BB, hBB⟩ : ∃ x, (runT qs).isSome = x := ⟨_, rfl⟩
  rw [hOO, hBB] at HS ⊢
  obtain ⟨av, cv, hvs⟩ := hv.shape
  subst hvs
  clear hv hOO hBB
  go_enter Try.func15, Try.ntmps15
  go_wp2_with fail
  refine HS.out.mono ?_
  rintro e w1 ⟨a1, c1, rfl, hm1, hb1⟩
  have M1 := hide_it hm1
  have B1 := hide_it hb1
  clear hm1 hb1
  go_wp2
  refine bodyPost_ret (v := .tuple #[.slice a1 OO.length c1, .bool BB]) (by simp [results, Try.results15, go_sem]) rfl ?_
  exact ⟨a1, c1, rfl, M1.out, B1.out⟩

end Go.Proofs.Ytilbjgidmfdnkaa.T
