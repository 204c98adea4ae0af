/- Contracts of the program's TripsMay, TripsDo and TripsOf. For all that together has at most 1048576 trips, records and numbers, in a world in which the sentinel's variable holds a pointer to an errors.errorString. -/
import Derived.Test.YtickjfpbaknlmaaDoorTBehind
namespace Go.Proofs.YtickjfpbaknlmaaDoor.T
open Go.RowKit

/-- Trips and a yes or no come back, the trips in memory of the call's own. -/
def TrOut (w w' : World) (e : Ending) (rs : List R) (b : Bool) : Prop :=
  ∃ ao cap, e = .returned (.tuple #[.slice ao rs.length cap, .bool b]) ∧ Made w' w.heap.size (.slice ao rs.length cap) rs ∧ Below w.heap.size w w'

def doO (rs : List R) (r : Rc) : List R := if tMay rs r = true then doL rs r else []
def ofO (qs : List Rc) : List R := (runT qs).getD []

theorem doO_fit (rs : List R) (r : Rc) : Fit (doO rs r) := by
  unfold doO
  split
  · next h =>
    unfold tMay at h
    simp only [Bool.and_eq_true] at h
    exact (fit_ok h.1).doL h.2.1 h.2.2
  · exact Fit.nil
theorem ofO_fit (qs : List Rc) : Fit (ofO qs) := by
  unfold ofO
  cases h : runT qs with
  | none => exact Fit.nil
  | some rs => exact runT_fit h

set_option maxHeartbeats 2000000 in
theorem implMay_any (v : Value) (rs : List R) (r : Rc) (u : Value) (a : Addr) (w : World) (hv : Recs w v rs) (hl : tot rs ≤ 1048576) (hu : Ints w u r.2.2) (hrl : r.2.2.length ≤ 1048576) (ha : ErrAt w a) :
    Calls Tryd.prog 10 #[v, .agg #[.int .i64 r.1, .int .i64 r.2.1, u]] w fun e w' => e = .returned (.bool (tMay rs r)) ∧ Below w.heap.size w w' := by
  have HS : Hid (∀ o, Calls Tryd.prog 28 #[v, .agg #[.int .i64 r.1, .int .i64 r.2.1, u]] (w.alloc o) fun e w' => ChOut (w.alloc o) w' e rs r) := fun o =>
    behind_any v rs r u a _ (hv.later (alloc_below _ _) (Nat.le_refl _)) hl (hu.later (alloc_below _ _) (Nat.le_refl _)) hrl (ha.later (alloc_below _ _) (Nat.le_refl _))
  obtain ⟨av, cv, hvs⟩ := hv.shape
  obtain ⟨au, cu, hus⟩ := hu.shape
  subst hvs hus
  clear hv hu ha
  obtain ⟨bb, hbb⟩ : ∃ x, tMay rs r = x := ⟨_, rfl⟩
  have HBB := hide_it hbb
  rw [hbb]
  clear hbb
  go_enter Tryd.func10, Tryd.ntmps10
  go_wp2_with fail
  refine (HS.out _).mono ?_
  rintro e w1 ⟨ns, rfl, hn, hl6, hm, hb⟩
  have B1 := hide_it (below_after hb)
  have hz := hb.size
  rw [HBB.out]
  unfold chV
  obtain ⟨p0, hp0⟩ := at_shape ns 0
  obtain ⟨p1, hp1⟩ := at_shape ns (ns.length - 1)
  rw [hp0, hp1]
  clear hn hm hb hp0 hp1
  go_wp2
  go_ret
  exact ⟨rfl, B1.out.alloc (by simp at hz; omega) _⟩

set_option maxHeartbeats 2000000 in
theorem implDo_any (v : Value) (rs : List R) (r : Rc) (u : Value) (a : Addr) (w : World) (hv : Recs w v rs) (hl : tot rs ≤ 1048576) (hu : Ints w u r.2.2) (hrl : r.2.2.length ≤ 1048576) (ha : ErrAt w a) :
    Calls Tryd.prog 20 #[v, .agg #[.int .i64 r.1, .int .i64 r.2.1, u]] w fun e w' => TrOut w w' e (doO rs r) (tMay rs r) := by
  have HS : Hid (∀ o, Calls Tryd.prog 28 #[v, .agg #[.int .i64 r.1, .int .i64 r.2.1, u]] (w.alloc o) fun e w' => ChOut (w.alloc o) w' e rs r) := fun o =>
    behind_any v rs r u a _ (hv.later (alloc_below _ _) (Nat.le_refl _)) hl (hu.later (alloc_below _ _) (Nat.le_refl _)) hrl (ha.later (alloc_below _ _) (Nat.le_refl _))
  obtain ⟨av, cv, hvs⟩ := hv.shape
  obtain ⟨au, cu, hus⟩ := hu.shape
  subst hvs hus
  clear hv hu ha
  cases hbb : tMay rs r
  · have HE : Hid (doO rs r = []) := by show _ = _; unfold doO; rw [hbb]; rfl
    rw [HE.out]
    have HBB := hide_it hbb
    clear hbb
    go_enter Tryd.func20, Tryd.ntmps20
    go_wp2_with fail
    refine (HS.out _).mono ?_
    rintro e w1 ⟨ns, rfl, hn, hl6, hm, hb⟩
    have B1 := hide_it (below_after hb)
    have hz := hb.size
    rw [HBB.out]
    unfold chV
    obtain ⟨p0, hp0⟩ := at_shape ns 0
    obtain ⟨p1, hp1⟩ := at_shape ns (ns.length - 1)
    rw [hp0, hp1]
    clear hn hm hb hp0 hp1
    go_wp2
    refine bodyPost_ret (v := .tuple #[.slice none 0 0, .bool false]) (by simp [results, Tryd.results20, go_sem]) rfl ?_
    exact ⟨none, 0, rfl, Made.none _ _, B1.out.alloc (by simp at hz; omega) _⟩
  have HE : Hid (doO rs r = doL rs r) := by show _ = _; unfold doO; rw [hbb]; rfl
  rw [HE.out]
  have HBB := hide_it hbb
  clear hbb
  go_enter Tryd.func20, Tryd.ntmps20
  go_wp2_with fail
  refine (HS.out _).mono ?_
  rintro e w1 ⟨ns, rfl, hn, hl6, hm, hb⟩
  have B1 := hide_it (below_after hb)
  have hzz : Hid (w.heap.size + 1 ≤ w1.heap.size) := by have := hb.size; simp at this; exact this
  have HN := hide_it hn
  have HM := hide_it (hm HBB.out)
  rw [HBB.out]
  unfold chV
  obtain ⟨p0, hp0⟩ := at_shape ns 0
  obtain ⟨p1, hp1⟩ := at_shape ns (ns.length - 1)
  rw [hp0, hp1]
  have HP0 := hide_it hp0
  have HP1 := hide_it hp1
  clear hn hm hb hp0 hp1
  obtain ⟨w2, hw2⟩ : ∃ W, Hid (W = w1.alloc (.cells #[.pointer p0, .pointer p1, .int .i64 ns.length] 51)) := ⟨_, rfl⟩
  have b2 : Below w1.heap.size w1 w2 := by rw [hw2.out]; exact alloc_below _ _
  have C2 : Hid (Chain w2 w1.heap.size (w.heap.size + 1) ns) := by
    refine ⟨?_, ?_, ?_⟩
    · rw [HP0.out, HP1.out, hw2.out]; exact Blk.new w1 _ _
    · have := HN.out.after b2; simpa using this
    · exact hzz.out
  have B2 := hide_it (B1.out.trans (b2.mono B1.out.size))
  clear b2
  go_wp2_with fail
  rw [← hw2.out]
  refine (trips_any _ _ ns w2 C2.out hl6).mono ?_
  rintro e w3 ⟨a3, c3, rfl, hm3, hb3⟩
  rw [HM.out]
  rw [HM.out] at hm3
  have M3 := hide_it hm3
  have B3 := hide_it (B2.out.trans (hb3.mono B2.out.size))
  clear hm3 hb3
  go_wp2
  refine bodyPost_ret (v := .tuple #[.slice a3 (doL rs r).length c3, .bool true]) (by simp [results, Tryd.results20, go_sem]) rfl ?_
  exact ⟨a3, c3, rfl, M3.out.lo B2.out.size, B3.out⟩

set_option maxHeartbeats 4000000 in
theorem implOf_any (v : Value) (qs : List Rc) (a : Addr) (w : World) (hv : _root_.Go.Proofs.YtickjfpbaknlmaaDoor.Recs w v qs) (hl : _root_.Go.Proofs.YtickjfpbaknlmaaDoor.tot qs ≤ 1048576) (ha : ErrAt w a) :
    Calls Tryd.prog 16 #[v] w fun e w' => TrOut w w' e (ofO qs) (runT qs).isSome := by
  have hlen := _root_.Go.Proofs.YtickjfpbaknlmaaDoor.tot_len qs
  have HM : Hid (∀ r ∈ qs, r.2.2.length ≤ 1048576) := fun r hr => Nat.le_trans (_root_.Go.Proofs.YtickjfpbaknlmaaDoor.tot_mem qs r hr) hl
  have HV : Hid (∀ W, Below w.heap.size w W → _root_.Go.Proofs.YtickjfpbaknlmaaDoor.Recs W v qs) := fun W h => hv.later h (Nat.le_refl _)
  have HAe : Hid (∀ W, Below w.heap.size w W → ErrAt W a) := fun W h => ha.later h (Nat.le_refl _)
  obtain ⟨av, cv, hvs⟩ := hv.shape
  subst hvs
  clear hv ha
  obtain ⟨w0, hw0⟩ : ∃ W, Hid (W = w.alloc (.cells #[.pointer none, .pointer none, .int .i64 0] 51)) := ⟨_, rfl⟩
  have B0 : Hid (Below w.heap.size w w0) := by show Below _ _ _; rw [hw0.out]; exact alloc_below _ _
  have C0 : Hid (Chain w0 w.heap.size w.heap.size []) := by show Chain _ _ _ _; rw [hw0.out]; exact Chain.new w
  obtain ⟨OO, hOO⟩ : ∃ x, ofO qs = x := ⟨_, rfl⟩
  obtain ⟨BB, hBB⟩ : ∃ x, (runT qs).isSome = x := ⟨_, rfl⟩
  rw [hOO, hBB]
  have HOO := hide_it hOO
  have HBB := hide_it hBB
  clear hOO hBB
  go_enter Tryd.func16, Tryd.ntmps16
  go_wp2
  rw [← hw0.out]
  go_loopw [9] (fun i wr => ∃ (k : Nat) (ns : List Nd), k ≤ qs.length ∧ i = .int .i64 k ∧ Hid (runT (qs.take k) = some (ns.map ndT)) ∧ Hid (Chain wr w.heap.size w.heap.size ns) ∧ Hid (Below w.heap.size w wr)) (fun i _ => qs.length - (intOf i).toNat)
  case atStart => exact ⟨0, [], Nat.zero_le _, rfl, rfl, C0, B0⟩
  case round =>
    obtain ⟨k, ns, hk, rfl, HR, HC, HB⟩ := hrel
    have hfit := runT_fit HR.out
    have hn6 : ns.length ≤ 6 := by have := hfit.1; rw [List.length_map] at this; exact this
    have HF := hide_it hfit
    have hwr := HB.out.size
    clear hfit
    by_cases hlt : k < qs.length
    · obtain ⟨q, hq⟩ : ∃ q, Hid (qs[k]? = some q) := ⟨qs[k], by show _ = _; simp [hlt]⟩
      have hrl : q.2.2.length ≤ 1048576 := HM.out q (List.mem_of_getElem? hq.out)
      rcases HV.out wr HB.out with ⟨h0, _⟩ | ⟨b, off, cap, hvv, _, hcl⟩
      · rw [h0] at hlt; simp at hlt
      simp only [Value.slice.injEq] at hvv
      obtain ⟨rfl, -, rfl⟩ := hvv
      obtain ⟨x, c0, c1, c2, hI⟩ := hcl k q hq.out
      have hbw : b < wr.heap.size := World.block_lt_of_cell? _ _ c0
      obtain ⟨ax, cx, hxs⟩ := hI.shape
      subst hxs
      have HI : Hid (∀ o, Ints (wr.alloc o) (.slice ax q.2.2.length cx) q.2.2) := fun o => hI.later (alloc_below _ _) (Nat.le_refl _)
      have HCo : Hid (∀ o, Chain (wr.alloc o) w.heap.size w.heap.size ns) := fun o => HC.out.after (alloc_below _ _)
      have HAo : Hid (∀ o, ErrAt (wr.alloc o) a) := fun o => HAe.out _ (HB.out.alloc hwr o)
      clear hI hcl
      go_wp2_with fail
      refine (take_any w.heap.size w.heap.size ns q _ a _ (HCo.out _) hn6 (HI.out _) hrl (HAo.out _)).mono ?_
      rintro e w3 ⟨rfl, ns', hc3, hm3, hb3⟩
      have B3 := hide_it ((HB.out.alloc hwr _).trans hb3)
      have C3 := hide_it hc3
      clear hc3 hb3
      obtain ⟨bb, hbb⟩ : ∃ x, (rOk q && mayL (ns.map ndT) q) = x := ⟨_, rfl⟩
      rw [hbb]
      rw [hbb] at hm3
      cases bb
      · have HN : Hid (runT qs = none) := runT_bad hq.out HR.out hbb
        have HO1 : Hid (OO = []) := by show _ = _; rw [← HOO.out]; unfold ofO; rw [HN.out]; rfl
        have HB1 : Hid (BB = false) := by show _ = _; rw [← HBB.out, HN.out]; rfl
        clear hm3 hbb
        go_wp2
        refine bodyPost_ret (v := .tuple #[.slice none 0 0, .bool false]) (by simp [results, Tryd.results16, go_sem]) rfl ?_
        rw [HO1.out, HB1.out]
        exact ⟨none, 0, rfl, Made.none _ _, B3.out⟩
      · have HR3 : Hid (runT (qs.take (k + 1)) = some (ns'.map ndT)) := by
          show _ = _
          rw [runT_good hq.out HR.out hbb, hm3, if_pos rfl]
        clear hm3 hbb
        go_wp2
        go_roundw
        case rel => exact ⟨k + 1, ns', by omega, by go_num, HR3, C3, B3⟩
        case measure => simp [intOf]; omega
    · have HRq : Hid (runT qs = some (ns.map ndT)) := by
        show _ = _
        have hke : k = qs.length := by omega
        have := HR.out
        rw [hke, List.take_length] at this
        exact this
      have HO1 : Hid (OO = ns.map ndT) := by show _ = _; rw [← HOO.out]; unfold ofO; rw [HRq.out]; rfl
      have HB1 : Hid (BB = true) := by show _ = _; rw [← HBB.out, HRq.out]; rfl
      go_wp2_with fail
      refine (trips_any _ _ ns wr HC.out hn6).mono ?_
      rintro e w3 ⟨a3, c3, rfl, hm3, hb3⟩
      rw [← HO1.out] at hm3 ⊢
      have M3 := hide_it hm3
      have B3 := hide_it (HB.out.trans (hb3.mono hwr))
      clear hm3 hb3
      go_wp2
      refine bodyPost_ret (v := .tuple #[.slice a3 OO.length c3, .bool true]) (by simp [results, Tryd.results16, go_sem]) rfl ?_
      rw [HB1.out]
      exact ⟨a3, c3, rfl, M3.out.lo hwr, B3.out⟩

end Go.Proofs.YtickjfpbaknlmaaDoor.T
