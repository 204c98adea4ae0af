/- Contracts of the specification's TripsMay and l12Copy. For all that together has at most 1048576 trips, records and numbers. -/
import Derived.Test.YtilbjgidmfdnkaaTSpec
namespace Go.Proofs.Ytilbjgidmfdnkaa.T
open Go.RowKit

set_option maxHeartbeats 2000000 in
theorem specMay_any (v : Value) (rs : List R) (r : Rc) (u : Value) (w : World) (hv : Recs w v rs) (hl : tot rs ≤ 1048576) (hu : Ints w u r.2.2) (hrl : r.2.2.length ≤ 1048576) :
    Calls Try.prog 22 #[v, .agg #[.int .i64 r.1, .int .i64 r.2.1, u]] w fun e w' => e = .returned (.bool (tMay rs r)) ∧ Below w.heap.size w w' := by
  obtain ⟨k, t, zs⟩ := r
  have HV : Hid (∀ W, Below w.heap.size w W → Recs W v rs) := fun W h => hv.later h (Nat.le_refl _)
  have HU : Hid (∀ W, Below w.heap.size w W → Ints W u zs) := fun W h => hu.later h (Nat.le_refl _)
  obtain ⟨av, cv, hvs⟩ := hv.shape
  obtain ⟨au, cu, hus⟩ := hu.shape
  dsimp only at hus hrl
  subst hvs hus
  clear hv hu
  obtain ⟨w0, hw0⟩ : ∃ W, Hid (W = w.alloc (.cells #[.int .i64 k, .int .i64 t, .slice au zs.length cu] 45)) := ⟨_, rfl⟩
  have B0 : Hid (Below w.heap.size w w0) := by show Below _ _ _; rw [hw0.out]; exact alloc_below _ _
  have X0 : Hid (Blk w0 w.heap.size #[.int .i64 k, .int .i64 t, .slice au zs.length cu] 45) := by show Blk _ _ _ _; rw [hw0.out]; exact Blk.new w _ _
  obtain ⟨bb, hbb⟩ : ∃ x, tMay rs (k, t, zs) = x := ⟨_, rfl⟩
  rw [hbb]
  have HBB := hide_it hbb
  clear hbb
  have S0 := specTripsOk_any _ rs w0 (HV.out _ B0.out) hl
  cases hok : tripsOk rs
  · rw [hok] at S0
    have HS := hide_it S0
    have HE : Hid (bb = false) := by show _ = _; rw [← HBB.out]; unfold tMay; rw [hok]; rfl
    clear S0 hok
    rw [HE.out]
    go_enter Try.func22, Try.ntmps22
    go_wp2_with fail
    rw [← hw0.out]
    refine HS.out.mono ?_
    rintro e w1 ⟨rfl, hb1⟩
    have B1 := hide_it (B0.out.trans (hb1.mono B0.out.size))
    clear hb1
    go_wp2
    go_ret
    exact ⟨rfl, B1.out⟩
  rw [hok] at S0
  have HS := hide_it S0
  have HTO := hide_it hok
  clear S0 hok
  have HR : Hid (∀ W, Below w.heap.size w W → Calls Try.prog 19 #[.agg #[.int .i64 k, .int .i64 t, .slice au zs.length cu]] W fun e w' => e = .returned (.bool (rOk (k, t, zs))) ∧ Below W.heap.size W w') := fun W h => specOk_any k t _ zs W (HU.out W h) hrl
  cases hrk : rOk (k, t, zs)
  · rw [hrk] at HR
    have HE : Hid (bb = false) := by show _ = _; rw [← HBB.out]; unfold tMay; rw [hrk]; simp
    clear hrk
    rw [HE.out]
    go_enter Try.func22, Try.ntmps22
    go_wp2_with fail
    rw [← hw0.out]
    refine HS.out.mono ?_
    rintro e w1 ⟨rfl, hb1⟩
    have B1 := hide_it (B0.out.trans (hb1.mono B0.out.size))
    obtain ⟨x0, x1, x2⟩ := (X0.out.after hb1).cells3
    clear hb1
    go_wp2_with fail
    refine (HR.out _ B1.out).mono ?_
    rintro e w2 ⟨rfl, hb2⟩
    have B2 := hide_it (B1.out.trans (hb2.mono B1.out.size))
    clear hb2
    go_wp2
    go_ret
    exact ⟨rfl, B2.out⟩
  obtain ⟨ht1, ht6⟩ := rOk_trip hrk
  dsimp only at ht1 ht6
  rw [hrk] at HR
  have HE : Hid (mayL rs (k, t, zs) = bb) := by show _ = _; rw [← HBB.out]; unfold tMay; rw [hrk, HTO.out]; rfl
  clear hrk
  go_enter Try.func22, Try.ntmps22
  go_wp2_with fail
  rw [← hw0.out]
  refine HS.out.mono ?_
  rintro e w1 ⟨rfl, hb1⟩
  have B1 := hide_it (B0.out.trans (hb1.mono B0.out.size))
  have X1 := hide_it (X0.out.after hb1)
  obtain ⟨x0, x1, x2⟩ := X1.out.cells3
  clear hb1
  go_wp2_with fail
  refine (HR.out _ B1.out).mono ?_
  rintro e w2 ⟨rfl, hb2⟩
  have B2 := hide_it (B1.out.trans (hb2.mono B1.out.size))
  obtain ⟨y0, y1, y2⟩ := (X1.out.after hb2).cells3
  clear hb2
  go_wp2_with fail
  have HM := l12May_any _ rs k t (.slice au zs.length cu) zs w2 (HV.out _ B2.out) hl ⟨_, _, _, rfl⟩ ht1 ht6
  rw [HE.out] at HM
  refine HM.mono ?_
  rintro e w3 ⟨rfl, hb3⟩
  have B3 := hide_it (B2.out.trans (hb3.mono B2.out.size))
  clear hb3 HM
  go_wp2
  go_ret
  exact ⟨rfl, B3.out⟩

theorem lit0 (W : World) (ty : TypeId) (sz : Nat) : (W.alloc (.cells #[] ty)).ownsRow W.heap.size ty sz (.slice (some ⟨W.heap.size, 0, none⟩) 0 0) 0 [] := by
  have h := World.ownsRow_lit (base := W.heap.size) (e := ty) (size := sz) W #[] 0 (by simp) (by unfold maxLen; omega) (by simp)
  exact h

theorem litBelow {wr W w4 : World} (h0 : Below wr.heap.size wr W) (hg : W.grownBy w4 (Value.slice (some ⟨wr.heap.size, 0, none⟩) 0 0).ownBlock) : Below wr.heap.size wr w4 :=
  h0.trans ((Below.refl _ _).grown hg h0.size (fun k hk => by simp [Value.ownBlock] at hk; omega))

set_option maxRecDepth 100000 in
set_option maxHeartbeats 4000000 in
theorem l12Copy_any (v : Value) (rs : List R) (w : World) (hv : Recs w v rs) (hf : Fit rs) :
    Calls Try.prog 23 #[v] w fun e w' => ∃ ao cap, e = .returned (.slice ao rs.length cap) ∧ Made w' w.heap.size (.slice ao rs.length cap) rs ∧ Below w.heap.size w w' := by
  obtain ⟨i0, hi, hz0, hz1, hz2⟩ := info_parts infoTrip
  have hn6 := hf.1
  have HF := hide_it hf
  have HV : Hid (∀ W, Below w.heap.size w W → Recs W v rs) := fun W h => hv.later h (Nat.le_refl _)
  obtain ⟨av, cv, hvs⟩ := hv.shape
  subst hvs
  clear hv hf
  obtain ⟨w0, hw0⟩ : ∃ W, Hid (W = w.alloc (.cells #[] 28)) := ⟨_, rfl⟩
  have B0 : Hid (Below w.heap.size w w0) := by show Below _ _ _; rw [hw0.out]; exact alloc_below _ _
  have O0 : Hid (w0.ownsRow w.heap.size 28 2 (.slice (some ⟨w.heap.size, 0, none⟩) 0 0) 0 []) := by show World.ownsRow _ _ _ _ _ _ _; rw [hw0.out]; exact lit0 w _ _
  go_enter Try.func23, Try.ntmps23
  go_wp2
  rw [← hw0.out]
  go_loopw [3, 4] (fun vo i wr => ∃ (k : Nat) (ps : List (R × Value)), k ≤ rs.length ∧ i = .int .i64 k ∧ Hid (ps.map (·.1) = rs.take k) ∧ Hid (wr.ownsRow w.heap.size 28 2 vo ps.length (flat ps)) ∧ Hid (Inner wr w.heap.size wr.heap.size ps) ∧ Hid (Below w.heap.size w wr)) (fun _ i _ => rs.length - (intOf i).toNat)
  case atStart => exact ⟨0, [], Nat.zero_le _, rfl, rfl, O0.out, Inner.nil _ _ _ (Nat.le_refl _), B0⟩
  case round =>
    obtain ⟨k, ps, hk, rfl, HP, HO, HN, HB⟩ := hrel
    have HPL : Hid (ps.length = k) := by
      have := congrArg List.length HP.out
      simp at this
      show _ = _; omega
    obtain ⟨ao, cp, hvo⟩ := row_shape HO.out
    by_cases hlt : k < rs.length
    · obtain ⟨q, hq⟩ : ∃ q, Hid (rs[k]? = some q) := ⟨rs[k], by show _ = _; simp [hlt]⟩
      have hq3 : Hid (q.1.length = 3) := HF.out.2 q (List.mem_of_getElem? hq.out)
      rcases HV.out w (Below.refl _ _) with ⟨h0, _⟩ | ⟨b, off, cap, hvv, _, hcl⟩
      · rw [h0] at hlt; simp at hlt
      simp only [Value.slice.injEq] at hvv
      obtain ⟨rfl, -, rfl⟩ := hvv
      obtain ⟨x, d0, d1, hI⟩ := hcl k q hq.out
      have hbw : b < w.heap.size := World.block_lt_of_cell? _ _ d0
      have hwr := HB.out.size
      obtain ⟨ax, cx, hxs⟩ := hI.shape
      rw [hq3.out] at hxs
      subst hxs
      have c0 : wr.cell? ⟨b, off + k * 2, none⟩ = some (.slice ax 3 cx) := by rw [HB.out.cell (p := ⟨b, off + k * 2, none⟩) hbw]; exact d0
      have c1 : wr.cell? ⟨b, off + k * 2 + 1, none⟩ = some (.int .i64 q.2) := by rw [HB.out.cell (p := ⟨b, off + k * 2 + 1, none⟩) hbw]; exact d1
      have HI : Hid (∀ W, Below w.heap.size w W → Ints W (.slice ax 3 cx) q.1) := fun W h => hI.later h (Nat.le_refl _)
      have c0o : ∀ o, (wr.alloc o).cell? ⟨b, off + k * 2, none⟩ = some (.slice ax 3 cx) := fun o => cellAlloc c0 o
      have c1o : ∀ o, (wr.alloc o).cell? ⟨b, off + k * 2 + 1, none⟩ = some (.int .i64 q.2) := fun o => cellAlloc c1 o
      have hli : (k : Int) < (rs.length : Int) := by omega
      clear hI hcl d0 d1
      subst hvo
      go_wp2
      go_region_held_law (fun w' => w'.cell? ⟨b, off + k * 2, none⟩ = some (.slice ax 3 cx) ∧ w'.cell? ⟨b, off + k * 2 + 1, none⟩ = some (.int .i64 q.2)) (go_keep)
        (first
          | (refine step_append_lies _ rfl _ _ 23 rfl w.heap.size 28 i0 (.agg #[.slice none 0 0, .int .i64 0]) 2 32 Try.underlying23 hi hz0 hz1 hz2 rfl (by decide) (.slice ao ps.length cp) ps.length (flat ps) rfl (by exact (ROW4.out _)) ⟨w4.heap.size, 0, none⟩ 1 1 [.slice a4 3 cap4, .int .i64 q.2] rfl rfl (by exact news2 _ _ _ _) (by exact one2 _ _) (by decide) (by have := HPL.out; unfold maxLen; omega) (by have := HPL.out; omega) (by have := HZ4.out; simp; omega) _ rfl ?_; intro g5 cap5 w5 hown5 hgrow5 _ _; have O5 := hide_it hown5; have G5 := hide_it hgrow5; have LO5 := hide_it (addBelow (ROW4.out _) hgrow5 (by have := HZ4.out; simp; omega)); have q50 := cellBelow (cellAlloc q30 _) LO5.out hbw; have q51 := cellBelow (cellAlloc q31 _) LO5.out hbw; clear hown5 hgrow5)
          | (refine step_append_ints rfl _ _ rfl wr.heap.size (.slice (some ⟨wr.heap.size, 0, none⟩) 0 0) (.slice ax 3 cx) 0 [] q.1 rfl rfl (by exact (lit0 wr _ _)) (HI.out _ (by exact ((HB.out.alloc hwr _).drew))) (by simp [hq3.out]) (by simp) ?_; intro a4 cap4 w4 hown4 hgrow4; have hb4 : Below wr.heap.size wr w4 := litBelow (by exact ((alloc_below wr _).drew)) hgrow4; have B4 := hide_it hb4; have HZ4 : Hid (w.heap.size ≤ w4.heap.size) := Nat.le_trans hwr hb4.size; have q30 := cellBelow c0 hb4 (by omega); have q31 := cellBelow c1 hb4 (by omega); have ROW4 : Hid (∀ o, (w4.alloc o).ownsRow w.heap.size 28 2 (.slice ao ps.length cp) ps.length (flat ps)) := (fun o => (ownsRow_below HO.out hb4 (fun j hj => (HO.out.lt j hj).2)).alloc o); rw [hq3.out] at hown4 ⊢; have INN4 : Hid (∀ o, Inner (w4.alloc o) w.heap.size wr.heap.size ps) := (fun o => (HN.out.below hb4 (Nat.le_refl _)).below (alloc_below _ o) hb4.size); have NEW4 : Hid (∀ o, (w4.alloc o).ownsRow w.heap.size 3 1 (.slice a4 3 cap4) q.1.length (q.1.map (Value.int .i64))) := (fun o => by rw [hq3.out]; exact (ownsRow_base hown4 hwr).alloc o); have NEWB4 : Hid (∀ j, (Value.slice a4 3 cap4).ownBlock = some j → wr.heap.size ≤ j ∧ j < (w4.alloc (.cells #[.slice a4 3 cap4, .int .i64 q.2] 28)).heap.size) := (fun j hj => by have h9 := hown4.lt j hj; simp; omega); clear hown4 hgrow4 hb4))
      have ST := append_step (r := q) (ROW4.out (.cells #[.slice a4 3 cap4, .int .i64 q.2] 28)) (INN4.out _) (by simp; have := B4.out.size; omega) (NEW4.out _) (NEWB4.out) O5.out G5.out
      have HO5 := hide_it ST.1
      have HN5 := hide_it ST.2
      have HB5 : Hid (Below w.heap.size w w5) := ((HB.out.trans (B4.out.mono hwr)).alloc HZ4.out _).trans LO5.out
      clear ST
      go_wp2
      go_roundw
      case rel =>
        refine ⟨k + 1, ps ++ [(q, .slice a4 3 cap4)], by omega, by go_num, ?_, HO5, HN5, HB5⟩
        show _ = _
        have hkl : k < rs.length := by omega
        have hrk : rs[k] = q := by have := hq.out; rw [List.getElem?_eq_getElem hkl] at this; simpa using this
        rw [List.map_append, HP.out, List.take_succ_eq_append_getElem hkl, hrk]
        rfl
      case measure => simp [intOf]; omega
    · have hke : Hid (k = rs.length) := by show _ = _; omega
      have hpl : ps.length = rs.length := by rw [HPL.out, hke.out]
      rw [hpl] at hvo
      have HD : Hid (Made wr w.heap.size (.slice ao rs.length cp) rs) := by
        refine ⟨ps, by rw [HP.out, hke.out, List.take_length], ?_, fun j hj => ?_, HN.out⟩
        · have := HO.out; rw [hvo] at this; exact this
        · have := HO.out; rw [hvo] at this; exact (this.lt j hj).2
      subst hvo
      clear hpl
      go_wp2
      refine bodyPost_ret (v := .slice ao rs.length cp) (by simp [results, Try.results23, go_sem]) rfl ⟨ao, cp, rfl, HD.out, HB.out⟩

end Go.Proofs.Ytilbjgidmfdnkaa.T
