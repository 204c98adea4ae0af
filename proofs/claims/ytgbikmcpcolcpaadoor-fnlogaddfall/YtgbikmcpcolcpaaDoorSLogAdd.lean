/- The contract of the specification's LogAdd. For all that together has at most 1048576 records and numbers. -/
import Derived.Test.YtgbikmcpcolcpaaDoorSAdd
namespace Go.Proofs.YtgbikmcpcolcpaaDoor
open Go.RowKit

theorem keep5 (W : World) (B : Nat) (x y : Value) {v : Value} {f : Int} {r : R} {u : Value} (h : Trio W B v f r u) :
    ((W.setCell ⟨B + 2, 0, none⟩ x).setCell ⟨B + 2, 1, none⟩ y).cell? ⟨B, 0, none⟩ = some v ∧ ((W.setCell ⟨B + 2, 0, none⟩ x).setCell ⟨B + 2, 1, none⟩ y).cell? ⟨B, 1, none⟩ = some (.int .i64 f) ∧
    ((W.setCell ⟨B + 2, 0, none⟩ x).setCell ⟨B + 2, 1, none⟩ y).cell? ⟨B + 1, 0, none⟩ = some (.int .i64 r.1) ∧ ((W.setCell ⟨B + 2, 0, none⟩ x).setCell ⟨B + 2, 1, none⟩ y).cell? ⟨B + 1, 1, none⟩ = some (.int .i64 r.2.1) ∧
    ((W.setCell ⟨B + 2, 0, none⟩ x).setCell ⟨B + 2, 1, none⟩ y).cell? ⟨B + 1, 2, none⟩ = some u := by
  obtain ⟨⟨l0, l1⟩, ⟨q0, q1, q2⟩, -⟩ := h.cells
  exact ⟨(set2 _ _ _ _ (by omega)).trans l0, (set2 _ _ _ _ (by omega)).trans l1, (set2 _ _ _ _ (by omega)).trans q0, (set2 _ _ _ _ (by omega)).trans q1, (set2 _ _ _ _ (by omega)).trans q2⟩

set_option maxRecDepth 100000 in
set_option maxHeartbeats 8000000 in
theorem specAdd_any (v : Value) (rs : List R) (f : Int) (r : R) (u : Value) (w : World) (hv : Recs w v rs) (hl : tot rs ≤ 1048576) (hu : Ints w u r.2.2) (hrl : r.2.2.length ≤ 1048576) :
    Calls Tryd.prog 10 #[.agg #[v, .int .i64 f], .agg #[.int .i64 r.1, .int .i64 r.2.1, u]] w fun e w' => LogOut2 w w' e (addR rs f r) (addF rs f r) (addB rs f r) := by
  have hrsl := tot_len rs
  have HV : Hid (∀ W, Below w.heap.size w W → Recs W v rs) := fun W h => hv.later h (Nat.le_refl _)
  have HU : Hid (∀ W, Below w.heap.size w W → Ints W u r.2.2) := fun W h => hu.later h (Nat.le_refl _)
  have HT := hide_it (Trio.new w v f r u)
  obtain ⟨av, cv, hvs⟩ := hv.shape
  obtain ⟨au, cu, hus⟩ := hu.shape
  clear hv hu
  subst hvs hus
  have HS : Hid (∀ o1 o2 o3, Calls Tryd.prog 13 #[.agg #[.slice av rs.length cv, .int .i64 f]] (((w.alloc o1).alloc o2).alloc o3) fun e w' => e = .returned (.bool (logOk rs f)) ∧ Below (w.heap.size + 3) (((w.alloc o1).alloc o2).alloc o3) w') := fun o1 o2 o3 => by
    have := specLogOk_any _ rs f _ (HV.out _ (below3 w o1 o2 o3)) hl
    rw [size3] at this
    exact this
  cases hok : logOk rs f
  · have HR : Hid (addR rs f r = [] ∧ addF rs f r = 0 ∧ addB rs f r = false) := by refine ⟨?_, ?_, ?_⟩ <;> simp [addR, addF, addB, addOk, hok]
    rw [hok] at HS
    clear hok
    go_enter Tryd.func10, Tryd.ntmps10
    go_wp2_with fail
    refine (HS.out _ _ _).mono ?_
    rintro e w1 ⟨rfl, hb⟩
    have HB := hide_it ((below3 w _ _ _).trans (hb.mono (by omega)))
    have HT1 := hide_it (HT.out.later hb (Nat.le_refl _))
    obtain ⟨⟨l0, l1⟩, ⟨q0, q1, q2⟩, ⟨r0, r1, z0, z1⟩⟩ := HT1.out.cells
    have hz : w.heap.size + 3 ≤ w1.heap.size := by have := hb.size; rw [size3] at this; exact this
    clear hb
    go_wp2
    refine bodyPost_ret (v := .tuple #[.agg #[.slice none 0 0, .int .i64 0], .bool false]) (by simp [results, Tryd.results10, go_sem, r0, r1]) rfl ?_
    unfold LogOut2
    rw [HR.out.1, HR.out.2.1, HR.out.2.2]
    refine ⟨none, 0, rfl, Made.none _ _, ?_⟩
    exact (HB.out.setCell (by simp; omega) _).setCell (by simp; omega) _
  have HQ : Hid (∀ W, Below w.heap.size w W → Calls Tryd.prog 14 #[.agg #[.int .i64 r.1, .int .i64 r.2.1, .slice au r.2.2.length cu]] W fun e w' => e = .returned (.bool (rOk r)) ∧ Below W.heap.size W w') := fun W h => specOk_any r.1 r.2.1 _ r.2.2 W (HU.out _ h) hrl
  cases hrok : rOk r
  · have HR : Hid (addR rs f r = [] ∧ addF rs f r = 0 ∧ addB rs f r = false) := by refine ⟨?_, ?_, ?_⟩ <;> simp [addR, addF, addB, addOk, hrok]
    rw [hok] at HS
    rw [hrok] at HQ
    clear hok hrok
    go_enter Tryd.func10, Tryd.ntmps10
    go_wp2_with fail
    refine (HS.out _ _ _).mono ?_
    rintro e w1 ⟨rfl, hb⟩
    have HB := hide_it ((below3 w _ _ _).trans (hb.mono (by omega)))
    have HT1 := hide_it (HT.out.later hb (Nat.le_refl _))
    obtain ⟨⟨l0, l1⟩, ⟨q0, q1, q2⟩, -⟩ := HT1.out.cells
    have hz : w.heap.size + 3 ≤ w1.heap.size := by have := hb.size; rw [size3] at this; exact this
    clear hb
    go_wp2_with fail
    refine (HQ.out _ HB.out).mono ?_
    rintro e w2 ⟨rfl, hb2⟩
    have HB2 := hide_it (HB.out.trans (hb2.mono HB.out.size))
    have HT2 := hide_it (HT1.out.later hb2 (by omega))
    obtain ⟨-, -, ⟨r0, r1, z0, z1⟩⟩ := HT2.out.cells
    clear hb2
    go_wp2
    refine bodyPost_ret (v := .tuple #[.agg #[.slice none 0 0, .int .i64 0], .bool false]) (by simp [results, Tryd.results10, go_sem, r0, r1]) rfl ?_
    unfold LogOut2
    rw [HR.out.1, HR.out.2.1, HR.out.2.2]
    refine ⟨none, 0, rfl, Made.none _ _, ?_⟩
    exact (HB2.out.setCell (by simp; omega) _).setCell (by simp; omega) _
  obtain ⟨hf0, hfn, hn40⟩ := logOk_f hok
  rw [hok] at HS
  rw [hrok] at HQ
  have HOK : Hid (addOk rs f r = true) := by show _ = _; simp [addOk, hok, hrok]
  clear hok hrok
  go_enter Tryd.func10, Tryd.ntmps10
  go_wp2_with fail
  refine (HS.out _ _ _).mono ?_
  rintro e w1 ⟨rfl, hb⟩
  have HB := hide_it ((below3 w _ _ _).trans (hb.mono (by omega)))
  have HT1 := hide_it (HT.out.later hb (Nat.le_refl _))
  obtain ⟨⟨l0, l1⟩, ⟨q0, q1, q2⟩, -⟩ := HT1.out.cells
  have hz : w.heap.size + 3 ≤ w1.heap.size := by have := hb.size; rw [size3] at this; exact this
  clear hb
  go_wp2_with fail
  refine (HQ.out _ HB.out).mono ?_
  rintro e w2 ⟨rfl, hb2⟩
  have HB2 := hide_it (HB.out.trans (hb2.mono HB.out.size))
  have HT2 := hide_it (HT1.out.later hb2 (by omega))
  have hzz : w.heap.size + 3 ≤ w2.heap.size := Nat.le_trans hz hb2.size
  clear hb2 l0 l1 q0 q1 q2
  obtain ⟨⟨l0, l1⟩, ⟨q0, q1, q2⟩, -⟩ := HT2.out.cells
  -- the last call's contract, from what the two copies leave
  have LAST : Hid (∀ (w3 w4 : World) (a3 a4 : Option Addr) (cap3 cap4 : Nat), Made w3 w2.heap.size (.slice a3 rs.length cap3) rs → w2.heap.size ≤ w3.heap.size → Below w3.heap.size w3 w4 → w4.ownsRow (w3.heap.size + 2) 3 1 (.slice a4 r.2.2.length cap4) r.2.2.length (r.2.2.map (Value.int .i64)) →
      Calls Tryd.prog 28 #[.agg #[.slice a3 rs.length cap3, .int .i64 f], .agg #[.int .i64 r.1, .int .i64 r.2.1, .slice a4 r.2.2.length cap4]] w4 fun e w' => ∃ ao cap, e = .returned (.tuple #[.agg #[.slice ao (addR rs f r).length cap, .int .i64 (addF rs f r)], .bool (addB rs f r)]) ∧ Made w' w2.heap.size (.slice ao (addR rs f r).length cap) (addR rs f r) ∧ Below w2.heap.size w4 w') := by
    intro w3 w4 a3 a4 cap3 cap4 hm hz23 hb4 hown4
    by_cases h40 : rs.length = 40
    · have hR : addR rs f r = rs ∧ addF rs f r = f ∧ addB rs f r = false := by refine ⟨?_, ?_, ?_⟩ <;> simp [addR, addF, addB, HOK.out, h40]
      rw [hR.1, hR.2.1, hR.2.2]
      refine (l1Add_full _ rs.length f r _ w4 ⟨_, _, rfl⟩ (by omega)).mono ?_
      rintro e w' ⟨rfl, hb'⟩
      have hb'' := hb'.mono (Nat.le_trans hz23 hb4.size)
      exact ⟨a3, cap3, rfl, (hm.below hb4 (Nat.le_refl _)).below hb' (Nat.le_refl _), hb''⟩
    · have hR : addR rs f r = rs ++ [r] ∧ addF rs f r = f ∧ addB rs f r = true := by refine ⟨?_, ?_, ?_⟩ <;> simp [addR, addF, addB, HOK.out, h40]
      rw [hR.1, hR.2.1, hR.2.2]
      obtain ⟨ps, hps, ho⟩ := hm
      have hpl : ps.length = rs.length := by have := congrArg List.length hps; simpa using this
      have ho4 := ho.below hb4 (Nat.le_refl _)
      have hc := l1Add_room a3 cap3 ps f r a4 cap4 w2.heap.size w3.heap.size w4 (by rw [hpl]; exact ho4) (Nat.le_trans hz23 hb4.size) (ownsRow_base hown4 (by omega)) (fun k hk => by have := (hown4.lt k hk).1; omega) (by omega)
      rw [hpl, hps] at hc
      refine hc.mono ?_
      rintro e w' ⟨g, cap', rfl, hm', hb'⟩
      have hlen : (rs ++ [r]).length = rs.length + 1 := by simp
      rw [hlen]
      exact ⟨_, cap', rfl, hm', hb'⟩
  go_wp2_with fail
  go_region_held (fun w' => w'.cell? ⟨w.heap.size, 0, none⟩ = some (.slice av rs.length cv) ∧ w'.cell? ⟨w.heap.size, 1, none⟩ = some (.int .i64 f) ∧ w'.cell? ⟨w.heap.size + 1, 0, none⟩ = some (.int .i64 r.1) ∧ w'.cell? ⟨w.heap.size + 1, 1, none⟩ = some (.int .i64 r.2.1) ∧ w'.cell? ⟨w.heap.size + 1, 2, none⟩ = some (.slice au r.2.2.length cu)) (first | exact keep5 _ _ _ _ (by assumption) | go_keep)
    (first
    | (go_at_call 29; refine (l1Copy_any _ rs f _ ?_ hl).mono ?_; exact (HV.out _ HB2.out.drew); rintro e w3 ⟨a3, cap3, rfl, hm3, hb3⟩; have HB3 := hide_it ((Below.refl w2.heap.size w2).drew.trans hb3); have HM3 := hide_it hm3; have HT3 := hide_it (HT2.out.later HB3.out hzz); obtain ⟨⟨l30, l31⟩, ⟨q30, q31, q32⟩, -⟩ := HT3.out.cells; have hz3 : w.heap.size + 3 ≤ w3.heap.size := Nat.le_trans hzz HB3.out.size; have BW3 := hide_it (HB2.out.trans (HB3.out.mono HB2.out.size)); clear hm3 hb3)
    | (go_at_call 30; refine (specCopy_any r.1 r.2.1 _ r.2.2 _ ?_ hrl).mono ?_; exact HU.out _ BW3.out; rintro e w4 ⟨a4, cap4, rfl, hown4, hb4⟩; have HB4 := hide_it hb4; have HW4 := hide_it hown4; have HT4 := hide_it (HT3.out.later hb4 hz3); obtain ⟨⟨l40, l41⟩, ⟨q40, q41, q42⟩, -⟩ := HT4.out.cells; have BW4 := hide_it (BW3.out.trans (hb4.mono BW3.out.size)); clear hown4 hb4)
    | (go_at_call 28; refine (LAST.out w3 w4 a3 a4 cap3 cap4 HM3.out HB3.out.size HB4.out HW4.out).mono ?_; rintro e w5 ⟨a5, cap5, rfl, hm5, hb5⟩; have HM5 := hide_it hm5; have HT5 := HT4.out.later hb5 hzz; obtain ⟨⟨l50, l51⟩, ⟨q50, q51, q52⟩, ⟨e0, e1, e2, e3⟩⟩ := HT5.cells; have BW5 := hide_it (BW4.out.trans (hb5.mono HB2.out.size)); clear hm5 hb5))
  go_wp2
  refine bodyPost_ret (v := .tuple #[.agg #[.slice a5 (addR rs f r).length cap5, .int .i64 (addF rs f r)], .bool (addB rs f r)]) (by simp [results, Tryd.results10, go_sem, e0, e1]) rfl ⟨a5, cap5, rfl, ?_, ?_⟩
  · exact ((HM5.out.setBelow (by simp; omega) _).setBelow (by simp; omega) _).lo (by omega)
  · exact (BW5.out.setCell (by simp; omega) _).setCell (by simp; omega) _

end Go.Proofs.YtgbikmcpcolcpaaDoor
