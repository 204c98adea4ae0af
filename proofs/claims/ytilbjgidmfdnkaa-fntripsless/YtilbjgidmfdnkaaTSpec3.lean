/- Contracts of the specification's l12Do, TripsDo and TripsOf. For all that together has at most 1048576 trips, records and numbers. -/
import Derived.Test.YtilbjgidmfdnkaaTSpec2
namespace Go.Proofs.Ytilbjgidmfdnkaa.T
open Go.RowKit

theorem pair_at {rs : List R} {ps : List (R × Value)} {i : Nat} {x : R} (hps : ps.map (·.1) = rs) (hx : rs[i]? = some x) : ∃ u, ps[i]? = some (x, u) := by
  rw [← hps, List.getElem?_map] at hx
  cases h : ps[i]? with
  | none => rw [h] at hx; cases hx
  | some p => rw [h] at hx; simp at hx; subst hx; exact ⟨p.2, rfl⟩

/-- Another state of one trip of a list of the call's own. -/
theorem Made.turn {w : World} {lo g n cap i : Nat} {rs : List R} {x : R} (s : Int) (h : Made w lo (.slice (some ⟨g, 0, Option.none⟩) n cap) rs) (hn : rs.length = n) (hx : rs[i]? = some x) :
    Made (w.setCell ⟨g, i * 2 + 1, Option.none⟩ (.int .i64 s)) lo (.slice (some ⟨g, 0, Option.none⟩) n cap) (rs.set i (x.1, s)) ∧ Below lo w (w.setCell ⟨g, i * 2 + 1, Option.none⟩ (.int .i64 s)) := by
  obtain ⟨ps, hps, row, hgb, inn⟩ := h
  obtain ⟨u, hu⟩ := pair_at hps hx
  have hpn : ps.length = n := by rw [← hn, ← hps]; simp
  rw [hpn] at row
  have hgl := row.lt g rfl
  have hown : w.ownsRow lo 3 1 u x.1.length (x.1.map (Value.int .i64)) := (inn.2.1 (x, u) (List.mem_of_getElem? hu)).1
  have st := mark_step (lo := lo) (hi := w.heap.size) (r := (x.1, s)) (w2 := w) hu ⟨by rw [hpn]; exact row, hgb, inn⟩ hpn hown (World.grownBy.refl _ _) rfl
  have hs : (w.setCell ⟨g, i * 2 + 1, Option.none⟩ (.int .i64 s)).heap.size = w.heap.size := by simp
  refine ⟨⟨ps.set i ((x.1, s), u), by rw [List.map_set, hps], ?_⟩, (Below.refl _ _).setCell (by simpa using hgl.1) _⟩
  rw [hs]
  exact st.1

theorem Made.shape {w : World} {lo : Nat} {v : Value} {rs : List R} (h : Made w lo v rs) (hz : rs ≠ []) : ∃ g cap, v = .slice (some ⟨g, 0, Option.none⟩) rs.length cap ∧ (∀ j, j < rs.length * 2 → ∃ y, w.cell? ⟨g, j, Option.none⟩ = some y) ∧ (∀ j, w.frozen? ⟨g, j, Option.none⟩ = false) ∧ g < w.heap.size ∧ ∀ i x, rs[i]? = some x → w.cell? ⟨g, i * 2 + 1, Option.none⟩ = some (.int .i64 x.2) := by
  obtain ⟨ps, hps, row, hgb, inn⟩ := h
  have hpn : ps.length = rs.length := by rw [← hps]; simp
  rcases row.2 with ⟨_, hn0⟩ | ⟨g, cap, cur, hv, _⟩
  · refine absurd ?_ hz
    rw [← hps, List.length_eq_zero_iff.1 hn0]; rfl
  · rw [hv, hpn] at row
    refine ⟨g, cap, by rw [hv, hpn], fun j hj => ?_, fun j => row.frozenAt j, (row.lt g rfl).2, fun i x hx => ?_⟩
    · have h1 := row.cellAt j hj
      have h2 : j < (flat ps).length := by rw [row.1]; exact hj
      exact ⟨_, by rw [h1, List.getElem?_eq_getElem h2]⟩
    · obtain ⟨u, hu⟩ := pair_at hps hx
      have hl := len_lt hx
      rw [row.cellAt _ (by omega)]
      exact (flat_get ps i _ hu).2

theorem doL_at {rs : List R} {k : Int} {i : Nat} {zs : List Int} {x : R} (h4 : k ≠ 4) (hx : rs[i]? = some x) : doL rs (k, (i : Int) + 1, zs) = rs.set i (x.1, nextS x.2 k) := by
  have e : ((i : Int) + 1 - 1).toNat = i := by omega
  unfold doL
  rw [if_neg h4]
  dsimp only
  rw [e, tripAt_get (by rw [e]; exact hx)]

/-- What comes of a list of the call's own behind a record. -/
def DoOut (w w' : World) (e : Ending) (lo : Nat) (rs : List R) : Prop :=
  ∃ ao cap, e = .returned (.slice ao rs.length cap) ∧ Made w' lo (.slice ao rs.length cap) rs ∧ Below lo w w'

set_option maxRecDepth 100000 in
set_option maxHeartbeats 4000000 in
theorem l12Do_begin (v : Value) (rs : List R) (t : Int) (u : Value) (zs : List Int) (lo : Nat) (w : World) (hm : Made w lo v rs) (hn : rs.length ≤ 6) (hlo : lo ≤ w.heap.size) (hu : Ints w u zs) (h3 : zs.length = 3) :
    Calls Try.prog 21 #[v, .agg #[.int .i64 4, .int .i64 t, u]] w fun e w' => DoOut w w' e lo (rs ++ [(zs, 1)]) := by
  obtain ⟨i0, hi0, hz0, hz1, hz2⟩ := info_parts infoTrip
  have HU : Hid (∀ W, Below w.heap.size w W → Ints W u zs) := fun W h => hu.later h (Nat.le_refl _)
  have H3 := hide_it h3
  obtain ⟨ps, hps, ho⟩ := hm
  have HPS := hide_it hps
  have HPL : Hid (ps.length = rs.length) := by have := congrArg List.length hps; show _ = _; simpa using this
  obtain ⟨av, cv, hvs⟩ := row_shape ho.1
  obtain ⟨au, cu, hus⟩ := hu.shape
  rw [h3] at hus
  subst hvs hus
  have HO := hide_it ho
  clear ho hps hu h3
  obtain ⟨w0, hw0⟩ : ∃ W, Hid (W = (w.alloc (.cells #[.int .i64 4, .int .i64 t, .slice au 3 cu] 45)).alloc (.cells #[] 3)) := ⟨_, rfl⟩
  have B0 : Hid (Below w.heap.size w w0) := by show Below _ _ _; rw [hw0.out]; exact below2 _ _ _
  have L0 : Hid (w0.ownsRow (w.heap.size + 1) 3 1 (.slice (some ⟨w.heap.size + 1, 0, none⟩) 0 0) 0 []) := by
    have h := lit0 (w.alloc (.cells #[.int .i64 4, .int .i64 t, .slice au 3 cu] 45)) 3 1
    rw [size1] at h
    show World.ownsRow _ _ _ _ _ _ _
    rw [hw0.out]; exact h
  have hs0 : Hid (w0.heap.size = w.heap.size + 2) := by show _ = _; rw [hw0.out, size2]
  go_enter Try.func21, Try.ntmps21
  go_wp2_with (first
    | (at_builtin; refine wpList_append_ints rfl _ _ rfl (w.heap.size + 1) (.slice (some ⟨w.heap.size + 1, 0, none⟩) 0 0) (.slice au 3 cu) 0 [] zs rfl rfl (by rw [← hw0.out]; exact L0.out) (by rw [← hw0.out]; exact HU.out _ B0.out) (by rw [H3.out]; omega) (by simp) ?_; rw [← hw0.out, H3.out]; intro a4 cap4 w4 hown4 hgrow4; have hb4 : Below w.heap.size w w4 := B0.out.trans ((Below.refl _ _).grown hgrow4 B0.out.size (fun k hk => by simp [Value.ownBlock] at hk; omega)); have HB4 := hide_it hb4; have ROW4 : Hid (∀ o, (w4.alloc o).ownsRow lo 28 2 (.slice av ps.length cv) ps.length (flat ps)) := (fun o => (ownsRow_below HO.out.1 hb4 (fun j hj => (HO.out.1.lt j hj).2)).alloc o); have INN4 : Hid (∀ o, Inner (w4.alloc o) lo w.heap.size ps) := (fun o => (HO.out.2.2.below hb4 (Nat.le_refl _)).below (alloc_below _ o) hb4.size); have NEW4 : Hid (∀ o, (w4.alloc o).ownsRow lo 3 1 (.slice a4 3 cap4) zs.length (zs.map (Value.int .i64))) := (fun o => by rw [H3.out]; exact (ownsRow_base hown4 (by omega)).alloc o); have NEWB4 : Hid (∀ j, (Value.slice a4 3 cap4).ownBlock = some j → w.heap.size ≤ j ∧ j < (w4.alloc (.cells #[.slice a4 3 cap4, .int .i64 1] 28)).heap.size) := (fun j hj => by have h9 := hown4.lt j hj; simp; omega); have hz4 := hb4.size; clear hown4 hgrow4 hb4)
    | (at_builtin; refine wpList_append_lies _ rfl _ _ 23 rfl lo 28 i0 (.agg #[.slice none 0 0, .int .i64 0]) 2 32 Try.underlying23 hi0 hz0 hz1 hz2 rfl (by decide) (.slice av ps.length cv) ps.length (flat ps) rfl (by exact (ROW4.out _)) ⟨w4.heap.size, 0, none⟩ 1 1 [.slice a4 3 cap4, .int .i64 1] rfl rfl (by exact news2 _ _ _ _) (by exact one2 _ _) (by decide) (by have := HPL.out; unfold maxLen; omega) (by have := HPL.out; omega) (by simp; omega) _ rfl ?_; intro g5 cap5 w5 hown5 hgrow5 _ _; have O5 := hide_it hown5; have G5 := hide_it hgrow5; have LO5 := hide_it (addBelow (ROW4.out _) hgrow5 (by simp; omega)); clear hown5 hgrow5))
  have ST := append_step (r := (zs, 1)) (ROW4.out (.cells #[.slice a4 3 cap4, .int .i64 1] 28)) (INN4.out _) (by simp; omega) (NEW4.out _) (NEWB4.out) O5.out G5.out
  have M5 : Hid (Made w5 lo (.slice (some ⟨g5, 0, none⟩) (rs.length + 1) cap5) (rs ++ [(zs, 1)])) := by
    refine ⟨ps ++ [((zs, 1), .slice a4 3 cap4)], by rw [List.map_append, HPS.out]; rfl, ?_, fun k hk => ?_, ST.2⟩
    · have h := ST.1
      rw [← HPL.out]
      exact h
    · have h := ST.1
      rw [← HPL.out] at hk
      exact (h.lt k hk).2
  have B5 : Hid (Below lo w w5) := ((HB4.out.mono hlo).alloc (by omega) _).trans LO5.out
  clear ST
  have HLr : Hid ((rs ++ [(zs, (1 : Int))]).length = rs.length + 1) := by show _ = _; simp
  have HP2 := HPL.out
  rw [HP2]
  clear HP2
  go_wp2
  refine bodyPost_ret (v := .slice (some ⟨g5, 0, none⟩) (rs.length + 1) cap5) (by simp [results, Try.results21, go_sem]) rfl ?_
  unfold DoOut
  rw [HLr.out]
  exact ⟨_, cap5, rfl, M5.out, B5.out⟩

end Go.Proofs.Ytilbjgidmfdnkaa.T
