/- Contracts of the program's TripsMay and TripsDo. For all that together has at most 1048576 trips and numbers, in a world in which the sentinel's variable holds a pointer to an errors.errorString. -/
import Derived.Test.YtickjfpbaknlmaaDoorTList
namespace Go.Proofs.YtickjfpbaknlmaaDoor.T
open Go.RowKit

/-- A chain as a value. -/
def chV (ns : List Nd) : Value := .agg #[at_ ns 0, at_ ns (ns.length - 1), .int .i64 ns.length]

/-- What comes of trips and a record, as a chain. -/
def ChOut (w w' : World) (e : Ending) (rs : List R) (r : Rc) : Prop :=
  ∃ ns : List Nd, e = .returned (.tuple #[chV ns, .bool (tMay rs r)]) ∧ Nodes w' w.heap.size ns ∧ ns.length ≤ 6 ∧ (tMay rs r = true → ns.map ndT = doL rs r) ∧ Below w.heap.size w w'

theorem Nodes.lo {w : World} {lo lo' : Nat} {ns : List Nd} (h : Nodes w lo ns) (hl : lo' ≤ lo) : Nodes w lo' ns := ⟨h.node, fun n hn => Nat.le_trans hl (h.low n hn), h.inj⟩
theorem Nodes.set {w : World} {lo : Nat} {ns : List Nd} (h : Nodes w lo ns) {b i : Nat} (hb : b < lo) (x : Value) : Nodes (w.setCell ⟨b, i, none⟩ x) lo ns :=
  ⟨fun j n hn => (h.node j n hn).other (by have := h.low n (List.mem_of_getElem? hn); simp; omega) x, h.low, h.inj⟩
theorem Fit.take {rs : List R} {r : R} {k : Nat} (h : Fit rs) (hr : rs[k]? = some r) : ∃ z0 z1 z2, r.1 = [z0, z1, z2] := list3 (h.2 r (List.mem_of_getElem? hr))

set_option maxHeartbeats 4000000 in
theorem behind_any (v : Value) (rs : List R) (r : Rc) (u : Value) (a : Addr) (w : World) (hv : Recs w v rs) (hl : tot rs ≤ 1048576) (hu : Ints w u r.2.2) (hrl : r.2.2.length ≤ 1048576) (ha : ErrAt w a) :
    Calls Tryd.prog 28 #[v, .agg #[.int .i64 r.1, .int .i64 r.2.1, u]] w fun e w' => ChOut w w' e rs r := by
  have HV : Hid (∀ W, Below w.heap.size w W → Recs W v rs) := fun W h => hv.later h (Nat.le_refl _)
  have HU : Hid (∀ W, Below w.heap.size w W → Ints W u r.2.2) := fun W h => hu.later h (Nat.le_refl _)
  have HAe : Hid (∀ W, Below w.heap.size w W → ErrAt W a) := fun W h => ha.later h (Nat.le_refl _)
  obtain ⟨av, cv, hvs⟩ := hv.shape
  obtain ⟨au, cu, hus⟩ := hu.shape
  subst hvs hus
  clear hv hu ha
  obtain ⟨w0, hw0⟩ : ∃ W, Hid (W = (w.alloc (.cells #[.int .i64 r.1, .int .i64 r.2.1, .slice au r.2.2.length cu] 26)).alloc (.cells #[.pointer none, .pointer none, .int .i64 0] 51)) := ⟨_, rfl⟩
  have B0 : Hid (Below w.heap.size w w0) := by show Below _ _ _; rw [hw0.out]; exact below2 _ _ _
  have X0 : Hid (Blk w0 w.heap.size #[.int .i64 r.1, .int .i64 r.2.1, .slice au r.2.2.length cu] 26) := by show Blk _ _ _ _; rw [hw0.out]; exact (Blk.new _ _ _).alloc _
  have Z0 : Hid (Blk w0 (w.heap.size + 1) #[.pointer none, .pointer none, .int .i64 0] 51) := by show Blk _ _ _ _; rw [hw0.out]; exact Blk.new2 _ _ _ _
  have hs0 : Hid (w0.heap.size = w.heap.size + 2) := by show _ = _; rw [hw0.out, size2]
  have S0 := implTripsOk_any _ rs w0 (HV.out _ B0.out) hl
  cases hok : tripsOk rs
  · rw [hok] at S0
    have HS := hide_it S0
    have HT : Hid (tMay rs r = false) := by show _ = _; unfold tMay; rw [hok]; rfl
    clear S0 hok
    go_enter Tryd.func28, Tryd.ntmps28
    go_wp2_with fail
    rw [← hw0.out]
    refine HS.out.mono ?_
    rintro e w1 ⟨rfl, hb1⟩
    have B1 := hide_it (B0.out.trans (hb1.mono B0.out.size))
    have Z1 := hide_it (Z0.out.after hb1)
    obtain ⟨z0, z1, z2⟩ := Z1.out.cells3
    obtain ⟨f0, f1, f2, -, -⟩ := Z1.out.free5
    have hz1 := Z1.out.lt
    clear hb1
    go_wp2
    refine bodyPost_ret (v := .tuple #[.agg #[.pointer none, .pointer none, .int .i64 0], .bool false]) (by simp [results, Tryd.results28, go_sem, z0, z1, z2]) rfl ?_
    refine ⟨[], by rw [HT.out]; rfl, Nodes.nil _ _, by simp, fun h => (by rw [HT.out] at h; cases h), ?_⟩
    exact ((B1.out.setCell (by simp) _).setCell (by simp) _).setCell (by simp) _
  have hfit := fit_ok hok
  have HF := hide_it hfit
  have hn6 := hfit.1
  rw [hok] at S0
  have HS := hide_it S0
  have HT : Hid (tMay rs r = (rOk r && mayL rs r)) := by show _ = _; unfold tMay; rw [hok]; rfl
  clear S0 hok hfit
  go_enter Tryd.func28, Tryd.ntmps28
  go_wp2_with fail
  rw [← hw0.out]
  refine HS.out.mono ?_
  rintro e w1 ⟨rfl, hb1⟩
  have B1 := hide_it (B0.out.trans (hb1.mono B0.out.size))
  have X1 := hide_it (X0.out.after hb1)
  have Z1 := hide_it (Z0.out.after hb1)
  have hs1 : w.heap.size + 2 ≤ w1.heap.size := by have := hb1.size; have := hs0.out; omega
  clear hb1
  obtain ⟨w2, hw2⟩ : ∃ W, Hid (W = w1.alloc (.cells #[.pointer none, .pointer none, .int .i64 0] 51)) := ⟨_, rfl⟩
  have b2 : Below w1.heap.size w1 w2 := by rw [hw2.out]; exact alloc_below _ _
  have C2 : Hid (Chain w2 w1.heap.size w1.heap.size []) := by show Chain _ _ _ _; rw [hw2.out]; exact Chain.new w1
  have B2 := hide_it (B1.out.trans (b2.mono B1.out.size))
  have E2 := hide_it b2
  clear b2
  go_wp2
  rw [← hw2.out]
  go_loopw [16] (fun i wr => ∃ (k : Nat) (ns : List Nd), k ≤ rs.length ∧ i = .int .i64 k ∧ Hid (ns.map ndT = rs.take k) ∧ Hid (Chain wr w1.heap.size w1.heap.size ns) ∧ Hid (Below w1.heap.size w1 wr)) (fun i _ => rs.length - (intOf i).toNat)
  case atStart => exact ⟨0, [], Nat.zero_le _, rfl, rfl, C2, E2⟩
  case round =>
    obtain ⟨k, ns, hk, rfl, HP, HC, HE⟩ := hrel
    have HPL : Hid (ns.length = k) := by
      have := congrArg List.length HP.out
      simp at this
      show _ = _; omega
    have hE := HE.out.size
    have Br := hide_it (B1.out.trans (HE.out.mono B1.out.size))
    by_cases hlt : k < rs.length
    · obtain ⟨q, hq⟩ : ∃ q, Hid (rs[k]? = some q) := ⟨rs[k], by show _ = _; simp [hlt]⟩
      obtain ⟨z0, z1, z2, hz⟩ := HF.out.take hq.out
      rcases HV.out wr Br.out with ⟨h0, _⟩ | ⟨b, off, cap, hvv, _, hcl⟩
      · rw [h0] at hlt; simp at hlt
      simp only [Value.slice.injEq] at hvv
      obtain ⟨rfl, -, rfl⟩ := hvv
      obtain ⟨x, c0, c1, hI⟩ := hcl k q hq.out
      have hbw : b < wr.heap.size := World.block_lt_of_cell? _ _ c0
      rw [hz] at hI
      obtain ⟨ax, cx, hxs⟩ := hI.shape
      have hxs' : x = .slice ax 3 cx := hxs
      subst hxs'
      have HI : Hid (∀ o, Ints (wr.alloc o) (.slice ax 3 cx) [z0, z1, z2]) := fun o => hI.later (alloc_below _ _) (Nat.le_refl _)
      have HCo : Hid (∀ o, Chain (wr.alloc o) w1.heap.size w1.heap.size ns) := fun o => HC.out.after (alloc_below _ _)
      have HZQ := hide_it hz
      clear hI hcl hz hxs
      go_wp2_with fail
      refine (add_any w1.heap.size w1.heap.size ns _ z0 z1 z2 q.2 _ (HCo.out _) (by have := HPL.out; omega) (HI.out _)).mono ?_
      rintro e w3 ⟨rfl, hc3, hb3⟩
      have C3 := hide_it hc3
      have E3 := hide_it ((HE.out.alloc hE _).trans hb3)
      clear hc3 hb3
      go_wp2
      go_roundw
      case rel =>
        refine ⟨k + 1, _, by omega, by go_num, ?_, C3, E3⟩
        show _ = _
        have hkl : k < rs.length := by omega
        have hrk : rs[k] = q := by have := hq.out; rw [List.getElem?_eq_getElem hkl] at this; simpa using this
        rw [List.map_append, HP.out, List.take_succ_eq_append_getElem hkl, hrk]
        show _ ++ [([z0, z1, z2], q.2)] = _
        rw [← HZQ.out]
      case measure => simp [intOf]; omega
    · have HNS : Hid (ns.map ndT = rs) := by
        show _ = _
        have hke : k = rs.length := by omega
        rw [HP.out, hke, List.take_length]
      obtain ⟨x0, x1, x2⟩ := (X1.out.later HE.out (by omega)).cells3
      have Zr := hide_it (Z1.out.later HE.out (by omega))
      go_wp2_with fail
      refine (take_any w1.heap.size w1.heap.size ns r _ a wr HC.out (by have := HPL.out; omega) (HU.out _ Br.out) hrl (HAe.out _ Br.out)).mono ?_
      rintro e w3 ⟨rfl, ns', hc3, hm3, hb3⟩
      rw [HNS.out] at hm3
      rw [HNS.out, ← HT.out]
      rw [← HT.out] at hm3
      have C3 := hide_it hc3
      have M3 := hide_it hm3
      have E3 := hide_it (HE.out.trans hb3)
      have B3 := hide_it (B1.out.trans (E3.out.mono B1.out.size))
      have hlen : Hid (ns'.length ≤ 6) := by
        show _ ≤ _
        have h9 := congrArg List.length hm3
        rw [List.length_map] at h9
        rw [h9]
        split
        · next hb =>
          rw [HT.out] at hb
          simp only [Bool.and_eq_true] at hb
          exact (HF.out.doL hb.1 hb.2).1
        · exact hn6
      have hE3 := E3.out.size
      have Z3 := hide_it (Z1.out.later E3.out (by omega))
      obtain ⟨z0, z1, z2⟩ := Z3.out.cells3
      obtain ⟨f0, f1, f2, -, -⟩ := Z3.out.free5
      obtain ⟨d0, d1, d2⟩ := C3.out.head.cells3
      obtain ⟨p0, hp0⟩ := at_shape ns' 0
      obtain ⟨p1, hp1⟩ := at_shape ns' (ns'.length - 1)
      have HP0 := hide_it hp0
      have HP1 := hide_it hp1
      rw [hp0] at d0
      rw [hp1] at d1
      obtain ⟨bb, hbb⟩ : ∃ x, tMay rs r = x := ⟨_, rfl⟩
      have HBB := hide_it hbb
      rw [hbb]
      clear hc3 hm3 hb3 hp0 hp1 hbb x0 x1 x2
      go_wp2
      refine bodyPost_ret (v := .tuple #[.agg #[.pointer p0, .pointer p1, .int .i64 ns'.length], .bool bb]) (by simp [results, Tryd.results28, go_sem, z0, z1, z2]) rfl ?_
      refine ⟨ns', by unfold chV; rw [HP0.out, HP1.out, HBB.out], ?_, hlen.out, fun h => by have := M3.out; rw [if_pos h] at this; exact this, ?_⟩
      · exact (((C3.out.nodes.set (by omega) _).set (by omega) _).set (by omega) _).lo (by omega)
      · exact ((B3.out.setCell (by simp) _).setCell (by simp) _).setCell (by simp) _

end Go.Proofs.YtickjfpbaknlmaaDoor.T
