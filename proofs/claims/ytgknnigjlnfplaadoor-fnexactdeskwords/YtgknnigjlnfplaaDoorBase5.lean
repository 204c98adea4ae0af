/- What the last text of this claim stands on, part 5: plain facts and contracts; the last text says what is proved. -/
import Derived.Test.YtgknnigjlnfplaaDoorBase4
import Derived.Deep.LoopGhost

namespace Go.Proofs.YtgknnigjlnfplaaDoor
open Go.RowKit

/-- A block whose type is neither a record's nor a number's is as it was. -/
def Tid (w w' : World) : Prop := ∀ (b : Nat) (cs : Array Value) (ty : TypeId) (fz : Nat × Nat), w.heap[b]? = some (.cells cs ty fz) → ty ≠ 94 → ty ≠ 3 → w'.heap[b]? = w.heap[b]?
theorem Tid.refl (w : World) : Tid w w := fun _ _ _ _ _ _ _ => rfl
theorem Tid.trans {a b c : World} (h : Tid a b) (k : Tid b c) : Tid a c := fun i cs ty fz hi h1 h2 => by
  have e := h i cs ty fz hi h1 h2
  rw [k i cs ty fz (by rw [e]; exact hi) h1 h2, e]
theorem Tid.of_below {w w' : World} (h : Below w.heap.size w w') : Tid w w' := fun i _ _ _ hi _ _ => h.block i (lt_of_heap hi)
theorem Tid.row {w w' : World} {base : Nat} {e : TypeId} {size n : Nat} {v : Value} {xs : List Value} (h : Tid w w') (hr : w.ownsRow base e size v n xs) (h1 : e ≠ 94) (h2 : e ≠ 3) : w'.ownsRow base e size v n xs := by
  obtain ⟨q1, q2⟩ := hr
  refine ⟨q1, ?_⟩
  rcases q2 with q2 | ⟨g, cap, cur, hv, hg, hh, r⟩
  · exact Or.inl q2
  · exact Or.inr ⟨g, cap, cur, hv, hg, by rw [h g _ _ _ hh h1 h2]; exact hh, r⟩

theorem tid_step {wr w2 w3 : World} {lo hi g n cap i a b : Nat} {qs : List (R × Value)} {r0 : R} {u x y : Value} (hq : qs[i]? = some (r0, u))
    (ho : OwnRecs wr lo hi (.slice (some ⟨g, 0, none⟩) n cap) qs) (hqn : qs.length = n)
    (h2 : w2 = (wr.setCell ⟨g, a, none⟩ x).setCell ⟨g, b, none⟩ y) (hg : w2.grownBy w3 u.ownBlock) : Tid wr w3 := by
  intro c cs ty fz hc t1 t2
  obtain ⟨row, hgb, inn⟩ := ho
  rw [hqn] at row
  have hne : c ≠ g := by
    intro e
    subst e
    exact row_apart row hc (fun e => t1 e.symm) c rfl rfl
  have e1 : w2.heap[c]? = wr.heap[c]? := by
    rw [h2, Below.heap_setCell _ _ _ _ (by simpa using hne), Below.heap_setCell _ _ _ _ (by simpa using hne)]
  have hu := (inn.2.1 (r0, u) (List.mem_of_getElem? hq)).1
  have hlt : c < w2.heap.size := lt_of_heap (by rw [e1]; exact hc)
  rw [hg.block c hlt (fun e => row_apart hu hc (fun e => t2 e.symm) c e.symm rfl), e1]

set_option maxHeartbeats 2000000 in
theorem markRecsT_any (v : Value) (ps : List (R × Value)) (k : Int) (lo hi : Nat) (w : World) (ho : OwnRecs w lo hi v ps) (hl : tot (ps.map (·.1)) ≤ 1048576) (hk0 : 0 ≤ k) (hk1 : k ≤ 1000) :
    Calls Tryd.prog 43 #[v, .int .i64 k] w fun e w' => e = .returned (.int .i64 (kAt (ps.map (·.1)) k ps.length)) ∧ OwnRecs w' lo hi v (stg ps k ps.length) ∧ Mid lo hi w w' ∧ Tid w w' := by
  have hlen := tot_len (ps.map (·.1))
  rw [List.length_map] at hlen
  by_cases h0 : ps.length = 0
  · obtain rfl : ps = [] := List.length_eq_zero_iff.1 h0
    have HO : Hid (OwnRecs w lo hi v (stg [] k 0)) := by show OwnRecs _ _ _ _ _; rw [stg_zero]; exact ho
    obtain ⟨ao, cap, rfl⟩ := row_shape ho.1
    clear ho
    go_enter Tryd.func43, Tryd.ntmps43
    go_wp2
    refine wp_loop_rounds 1 ?_
    rw [rounds_succ]
    go_wp2
    go_ret
    exact ⟨by simp [kAt, pre], HO.out, Mid.refl _ _ _, Tid.refl _⟩
  obtain ⟨g, cap, rfl⟩ : ∃ g cap, v = .slice (some ⟨g, 0, none⟩) ps.length cap := by
    rcases ho.1.2 with ⟨_, hn0⟩ | ⟨g, cap, cur, h, _⟩
    · exact absurd hn0 h0
    · exact ⟨g, cap, h⟩
  have H0 : Hid (OwnRecs w lo hi (.slice (some ⟨g, 0, none⟩) ps.length cap) (stg ps k 0)) := by show OwnRecs _ _ _ _ _; rw [stg_zero]; exact ho
  clear ho
  go_enter Tryd.func43, Tryd.ntmps43
  go_wp2
  go_loopw [1, 5] (fun q i wr => ∃ (j : Nat) (K : Int), j ≤ ps.length ∧ i = .int .i64 j ∧ q = .int .i64 K ∧ Hid (K = kAt (ps.map (·.1)) k j) ∧ Hid (OwnRecs wr lo hi (.slice (some ⟨g, 0, none⟩) ps.length cap) (stg ps k j)) ∧ Hid (Mid lo hi w wr) ∧ Hid (Tid w wr)) (fun _ i _ => ps.length - (intOf i).toNat)
  case atStart => exact ⟨0, k, Nat.zero_le _, rfl, rfl, (kAt_zero _ _).symm, H0, Mid.refl _ _ _, Tid.refl _⟩
  case round =>
    obtain ⟨j, K, hj, rfl, rfl, HK, HO, HM, HT⟩ := hrel
    have hKb : 0 ≤ K ∧ K ≤ 900000000 := by rw [HK.out]; exact kAt_bd _ k j (by rw [List.length_map]; exact hj) hl hk0 hk1
    by_cases hlt : j < ps.length
    · obtain ⟨p, hp⟩ : ∃ p, Hid (ps[j]? = some p) := ⟨ps[j], by show _ = _; simp [hlt]⟩
      have HS : Hid ((stg ps k j)[j]? = some (p.1, p.2)) := by
        have := stg_get ps k j j p hp.out
        rw [if_neg (by omega)] at this
        exact this
      have HPM : Hid ((ps.map (·.1))[j]? = some p.1) := by show _ = _; rw [List.getElem?_map, hp.out]; rfl
      have hpl : p.1.2.2.length ≤ 1048576 := Nat.le_trans (tot_mem _ _ (List.mem_of_getElem? HPM.out)) hl
      have row := HO.out.1
      rw [stg_length] at row
      obtain ⟨f0, f1, f2⟩ := flat_get _ j _ HS.out
      have c0 : wr.cell? ⟨g, j * 3, none⟩ = some (.int .i64 p.1.1) := by rw [row.cellAt _ (by omega)]; exact f0
      have c1 : wr.cell? ⟨g, j * 3 + 1, none⟩ = some (.int .i64 p.1.2.1) := by rw [row.cellAt _ (by omega)]; exact f1
      have c2 : wr.cell? ⟨g, j * 3 + 2, none⟩ = some p.2 := by rw [row.cellAt _ (by omega)]; exact f2
      have z0 := row.frozenAt (j * 3)
      have z1 := row.frozenAt (j * 3 + 1)
      clear row f0 f1 f2
      go_wp2_with fail
      have INN := hide_it (mark_inner HS.out HO.out (stg_length ps k j) (j * 3) (j * 3 + 1) (.int .i64 K) (.int .i64 (K + 1)))
      refine (markInts_any p.2 _ (K + 1 + 1) lo p.1.2.2.length _ INN.out hpl (by omega) (by omega)).mono ?_
      rintro e w3 ⟨rfl, hown3, hg3⟩
      have ST := mark_step (r := markR p.1 K) (w3 := w3) HS.out HO.out (stg_length ps k j) rfl (by
        show World.ownsRow _ _ _ _ _ (markI p.1.2.2.length (K + 2)).length ((markI p.1.2.2.length (K + 2)).map (Value.int .i64))
        rw [markI_length, show K + 2 = K + 1 + 1 by omega]; exact hown3) hg3
      have HO3 : Hid (OwnRecs w3 lo hi (.slice (some ⟨g, 0, none⟩) ps.length cap) (stg ps k (j + 1))) := by
        show OwnRecs _ _ _ _ _
        rw [stg_succ ps k j p hp.out, ← HK.out]; exact ST.1
      have HM3 : Hid (Mid lo hi w w3) := HM.out.trans ST.2
      have HT3 : Hid (Tid w w3) := HT.out.trans (tid_step (w3 := w3) HS.out HO.out (stg_length ps k j) rfl hg3)
      have HK3 : Hid (K + 1 + 1 + p.1.2.2.length = kAt (ps.map (·.1)) k (j + 1)) := by
        show _ = _
        rw [kAt_succ _ k j p.1 HPM.out, ← HK.out]; omega
      clear ST hown3 hg3
      go_wp2
      go_roundw
      case rel => exact ⟨j + 1, _, by omega, by go_num, rfl, HK3, HO3, HM3, HT3⟩
      case measure => simp [intOf]; omega
    · have HJ : Hid (j = ps.length) := by show _ = _; omega
      have HO2 : Hid (OwnRecs wr lo hi (.slice (some ⟨g, 0, none⟩) ps.length cap) (stg ps k ps.length)) := by
        have := HO.out; rw [HJ.out] at this; exact this
      have HK2 : Hid (kAt (ps.map (·.1)) k ps.length = K) := by show _ = _; rw [HK.out, HJ.out]
      go_wp2
      go_ret
      exact ⟨by rw [HK2.out]; rfl, HO2.out, HM.out, HT.out⟩

theorem markLogT_any (v : Value) (ps : List (R × Value)) (f k : Int) (lo hi : Nat) (w : World) (ho : OwnRecs w lo hi v ps) (hl : tot (ps.map (·.1)) ≤ 1048576) (hk0 : 0 ≤ k) (hk1 : k ≤ 1000) :
    Calls Tryd.prog 24 #[.agg #[v, .int .i64 f], .int .i64 k] w fun e w' => e = .returned (.int .i64 (kAt (ps.map (·.1)) k ps.length)) ∧ OwnRecs w' lo hi v (stg ps k ps.length) ∧ Mid lo hi w w' ∧ Tid w w' := by
  have HS : Hid (∀ o, Calls Tryd.prog 43 #[v, .int .i64 k] (w.alloc o) fun e w' => e = .returned (.int .i64 (kAt (ps.map (·.1)) k ps.length)) ∧ OwnRecs w' lo hi v (stg ps k ps.length) ∧ Mid lo hi w w' ∧ Tid w w') := fun o => by
    have hb := (Below.refl w.heap.size w).alloc (Nat.le_refl _) o
    refine (markRecsT_any v ps k lo hi (w.alloc o) (ho.below hb ho.2.2.1) hl hk0 hk1).mono ?_
    rintro e w' ⟨h1, h2, h3, h4⟩
    exact ⟨h1, h2, (Mid.of_below hb (Nat.le_refl _)).trans h3, (Tid.of_below hb).trans h4⟩
  obtain ⟨ao, cap, rfl⟩ := row_shape ho.1
  clear ho
  go_enter Tryd.func24, Tryd.ntmps24
  go_wp2_with (go_at_call 43; refine (HS.out _).mono ?_; rintro e w1 ⟨rfl, h2, h3, h4⟩)
  go_ret
  exact ⟨rfl, by assumption, by assumption, by assumption⟩

end Go.Proofs.YtgknnigjlnfplaaDoor

namespace Go.Proofs.YtgknnigjlnfplaaDoor
open Go.RowKit

/-- The lists of a desk in memory of their own, from lo on and below hi. -/
def DkTy (w : World) (lo hi : Nat) (v u : Value) (ps : List (R × Value)) (ws : List Wd) : Prop :=
  OwnRecs w lo hi v ps ∧ w.ownsRow lo 58 4 u ws.length (wflat ws) ∧ ∀ g, u.ownBlock = some g → g < hi
theorem DkTy.below {w w' : World} {lo hi B : Nat} {v u : Value} {ps : List (R × Value)} {ws : List Wd} (h : DkTy w lo hi v u ps ws) (hb : Below B w w') (hB : hi ≤ B) : DkTy w' lo hi v u ps ws :=
  ⟨h.1.below hb hB, ownsRow_below h.2.1 hb (fun g hg => by have := h.2.2 g hg; omega), h.2.2⟩
theorem DkTy.mid {w w' : World} {l0 h0 lo hi : Nat} {v u : Value} {ps : List (R × Value)} {ws : List Wd} (h : DkTy w l0 h0 v u ps ws) (hb : Mid lo hi w w') (hB : hi ≤ l0) : DkTy w' l0 h0 v u ps ws :=
  ⟨h.1.mid hb hB, ownsRow_mid h.2.1 hb (fun g hg => Or.inr (by have := (h.2.1.lt g hg).1; omega)), h.2.2⟩
theorem DkTy.at' {w : World} {lo hi : Nat} {v u : Value} {ps : List (R × Value)} {rs : List R} {ws : List Wd} (h : DkTy w lo hi v u ps ws) (hp : ps.map (·.1) = rs) : DkAt w v u rs ws := ⟨hp ▸ h.1.recs, words_of_row h.2.1⟩
theorem OwnRecs.lo' {w : World} {lo lo' hi : Nat} {v : Value} {ps : List (R × Value)} (h : OwnRecs w lo hi v ps) (hl : lo' ≤ lo) : OwnRecs w lo' hi v ps :=
  ⟨ownsRow_base h.1 hl, h.2.1, h.2.2.1, fun p hp => ⟨ownsRow_base (h.2.2.2.1 p hp).1 hl, (h.2.2.2.1 p hp).2⟩, h.2.2.2.2⟩
theorem OwnRecs.hi' {w : World} {lo hi hi' : Nat} {v : Value} {ps : List (R × Value)} (h : OwnRecs w lo hi v ps) (hl : hi ≤ hi') (hs : hi' ≤ w.heap.size) : OwnRecs w lo hi' v ps :=
  ⟨h.1, fun k hk => by have := h.2.1 k hk; omega, h.2.2.mono hl hs⟩
theorem DkTy.lo {w : World} {lo lo' hi : Nat} {v u : Value} {ps : List (R × Value)} {ws : List Wd} (h : DkTy w lo hi v u ps ws) (hl : lo' ≤ lo) : DkTy w lo' hi v u ps ws := ⟨h.1.lo' hl, ownsRow_base h.2.1 hl, h.2.2⟩
theorem DkTy.hi {w : World} {lo hi hi' : Nat} {v u : Value} {ps : List (R × Value)} {ws : List Wd} (h : DkTy w lo hi v u ps ws) (hl : hi ≤ hi') (hs : hi' ≤ w.heap.size) : DkTy w lo hi' v u ps ws := ⟨h.1.hi' hl hs, h.2.1, fun g hg => by have := h.2.2 g hg; omega⟩
theorem DkOwn.ty {w : World} {lo hi : Nat} {v u : Value} {ps : List (R × Value)} {ws : List Wd} (h : DkOwn w lo hi v u ps ws) : DkTy w lo hi v u ps ws := by
  obtain ⟨h0, l, t, h1, h2, h3, h4, h5⟩ := h
  exact ⟨(h3.lo' h1).hi' h2 h0, h4, fun g hg => (h5 g hg).1⟩
theorem DkTy.forms {w : World} {lo hi : Nat} {v u : Value} {ps : List (R × Value)} {rs : List R} {ws : List Wd} (h : DkTy w lo hi v u ps ws) (hp : ps.map (·.1) = rs) : Form v rs.length ∧ Form u ws.length := by
  have hl : ps.length = rs.length := by have := congrArg List.length hp; simpa using this
  exact ⟨hl ▸ form_of_row h.1.1, form_of_row h.2.1⟩

/-- A desk and a yes or no come back, the desk in memory of the call's own. -/
def DkOut2 (w w' : World) (e : Ending) (up : Bool) (rs : List R) (f : Int) (ws : List Wd) (b : Bool) : Prop :=
  ∃ ao cap au cu ps, e = .returned (.tuple #[deskV up (.slice ao rs.length cap) f (.slice au ws.length cu), .bool b]) ∧ ps.map (·.1) = rs ∧ DkTy w' w.heap.size w'.heap.size (.slice ao rs.length cap) (.slice au ws.length cu) ps ws ∧ Below w.heap.size w w'
/-- A desk comes back, in memory of the call's own; its lists may lie mixed. -/
def DkOutT (w w' : World) (e : Ending) (up : Bool) (rs : List R) (f : Int) (ws : List Wd) : Prop :=
  ∃ ao cap au cu ps, e = .returned (deskV up (.slice ao rs.length cap) f (.slice au ws.length cu)) ∧ ps.map (·.1) = rs ∧ DkTy w' w.heap.size w'.heap.size (.slice ao rs.length cap) (.slice au ws.length cu) ps ws ∧ Below w.heap.size w w'

set_option maxHeartbeats 2000000 in
theorem markDeskT_any (up : Bool) (v u : Value) (ps : List (R × Value)) (f : Int) (ws : List Wd) (k : Int) (lo hi : Nat) (w : World) (ho : DkTy w lo hi v u ps ws) (hl : tot (ps.map (·.1)) ≤ 1048576) (hlw : ws.length ≤ 1048576) (hk0 : 0 ≤ k) (hk1 : k ≤ 1000) :
    Calls Tryd.prog 10 #[deskV up v f u, .int .i64 k] w fun e w' => e = .returned (.int .i64 (kDk (ps.map (·.1)) k ws.length)) ∧ DkAt w' v u (markAll (ps.map (·.1)) k) (markW ws.length (kAt (ps.map (·.1)) k ps.length)) ∧ Mid lo hi w w' := by
  obtain ⟨h3, h4, h5⟩ := ho
  have hKb := kAt_bd (ps.map (·.1)) k ps.length (by simp) hl hk0 hk1
  have hll : (ps.map (·.1)).length = ps.length := by simp
  have hlo : ∀ g, u.ownBlock = some g → lo ≤ g := fun g hg => (h4.lt g hg).1
  have hhi := h3.2.2.1
  have HS : Hid (∀ o, Calls Tryd.prog 24 #[.agg #[v, .int .i64 f], .int .i64 k] (w.alloc o) fun e w' => e = .returned (.int .i64 (kAt (ps.map (·.1)) k ps.length)) ∧ OwnRecs w' lo hi v (stg ps k ps.length) ∧ Mid lo hi (w.alloc o) w' ∧ Tid (w.alloc o) w') := fun o =>
    markLogT_any v ps f k lo hi (w.alloc o) (h3.below (alloc_below w o) hhi) hl hk0 hk1
  have HW : Hid (∀ w1, w1.ownsRow lo 58 4 u ws.length (wflat ws) → Calls Tryd.prog 11 #[u, .int .i64 (kAt (ps.map (·.1)) k ps.length)] w1 fun e w' => e = .returned (.int .i64 (kAt (ps.map (·.1)) k ps.length + 4 * ws.length)) ∧ w'.ownsRow lo 58 4 u ws.length (wflat (markW ws.length (kAt (ps.map (·.1)) k ps.length))) ∧ w1.grownBy w' u.ownBlock) := fun w1 h =>
    markWords_any u ws _ lo ws.length w1 h hlw hKb.1 (by omega)
  have HR : Hid (∀ o w1, Tid (w.alloc o) w1 → w1.ownsRow lo 58 4 u ws.length (wflat ws)) := fun o w1 hm => hm.row (h4.alloc o) (by decide) (by decide)
  have HF : Hid (∀ o w1 w2, Mid lo hi (w.alloc o) w1 → OwnRecs w1 lo hi v (stg ps k ps.length) → w1.ownsRow lo 58 4 u ws.length (wflat ws) → w1.grownBy w2 u.ownBlock → w2.ownsRow lo 58 4 u ws.length (wflat (markW ws.length (kAt (ps.map (·.1)) k ps.length))) →
      DkAt w2 v u (markAll (ps.map (·.1)) k) (markW ws.length (kAt (ps.map (·.1)) k ps.length)) ∧ Mid lo hi w w2) := fun o w1 w2 hm hw hr1 hg hr => by
    have apart : ∀ {x : Value} {e : TypeId} {sz n : Nat} {xs : List Value}, w1.ownsRow lo e sz x n xs → e ≠ 58 → x.ownBlock = none ∨ x.ownBlock ≠ u.ownBlock := fun {x e sz n xs} hx he => by
      cases hxo : x.ownBlock with
      | none => exact Or.inl rfl
      | some b =>
        refine Or.inr fun eq => ?_
        obtain ⟨_, q⟩ := hr1
        rcases q with ⟨hv, _⟩ | ⟨g, cap, cur, hv, hgl, hh, _⟩
        · rw [hv] at eq; simp [Value.ownBlock] at eq
        · rw [hv] at eq
          simp [Value.ownBlock] at eq
          subst eq
          exact row_apart hx hh he b hxo rfl
    have keep : OwnRecs w2 lo hi v (stg ps k ps.length) := by
      obtain ⟨q1, q2, q3⟩ := hw
      exact ⟨q1.kept hg (apart q1 (by decide)), q2, q3.kept hg fun p hp => apart (q3.2.1 p hp).1 (by decide)⟩
    refine ⟨⟨?_, ?_⟩, ?_⟩
    · have := keep.recs
      rw [stg_all] at this
      exact this
    · have hlen : (markW ws.length (kAt (ps.map (·.1)) k ps.length)).length = ws.length := markW_length _ _
      have hr' : w2.ownsRow lo 58 4 u (markW ws.length (kAt (ps.map (·.1)) k ps.length)).length (wflat (markW ws.length (kAt (ps.map (·.1)) k ps.length))) := by rw [hlen]; exact hr
      exact words_of_row hr'
    · exact ((Mid.of_below (alloc_below w o) (Nat.le_refl _)).trans hm).trans (Mid.of_grown hg (fun j hj => ⟨hlo j hj, h5 j hj⟩))
  obtain ⟨av, cv, rfl⟩ := row_shape h3.1
  obtain ⟨au, cu, rfl⟩ := row_shape h4
  have HE : Hid (kDk (ps.map (·.1)) k ws.length = kAt (ps.map (·.1)) k ps.length + 4 * ws.length) := by show _ = _; unfold kDk; rw [hll]
  rw [HE.out]
  obtain ⟨K, hK⟩ : ∃ x, kAt (ps.map (·.1)) k ps.length = x := ⟨_, rfl⟩
  rw [hK] at HS HW HF hKb ⊢
  have X0 : Hid (∀ o, Blk (w.alloc (.cells #[.bool up, .slice av ps.length cv, .int .i64 f, .slice au ws.length cu] o)) w.heap.size #[.bool up, .slice av ps.length cv, .int .i64 f, .slice au ws.length cu] o) := fun o => Blk.new _ _ _
  have hwt := hide_it hhi
  clear h3 h4 h5 hlo hll hK HE hhi
  go_enter Tryd.func10, Tryd.ntmps10
  go_wp2_with fail
  refine (HS.out _).mono ?_
  rintro e w1 ⟨rfl, ho1, hm1, ht1⟩
  obtain ⟨x0, x1, x2, x3⟩ := ((X0.out 35).mid hm1 (Or.inr hwt.out)).cells4
  have R1 := hide_it (HR.out _ w1 ht1)
  have F1 := hide_it (fun w2 => HF.out _ w1 w2 hm1 ho1 (HR.out _ w1 ht1))
  clear ho1 hm1 ht1
  go_wp2_with fail
  refine (HW.out w1 R1.out).mono ?_
  rintro e w2 ⟨rfl, hr2, hg2⟩
  have G2 := hide_it (F1.out w2 hg2 hr2)
  clear hr2 hg2
  go_wp2
  go_ret
  exact ⟨rfl, G2.out.1, G2.out.2⟩

end Go.Proofs.YtgknnigjlnfplaaDoor

namespace Go.Proofs.YtgknnigjlnfplaaDoor.T
open Go.RowKit

theorem tripsOk_mk {rs : List R} (h1 : rs.all tOk = true) (h2 : rs.length ≤ 6) : tripsOk rs = true := by unfold tripsOk; rw [h1]; simp [h2]
theorem tripsOk_all {rs : List R} (h : tripsOk rs = true) : rs.all tOk = true ∧ rs.length ≤ 6 := by
  unfold tripsOk at h
  simp only [Bool.and_eq_true, decide_eq_true_eq] at h
  exact h

/-- Ok trips behind a record that may come are ok. -/
theorem doL_ok {rs : List R} {r : Rc} (h : tripsOk rs = true) (h1 : rOk r = true) (h2 : mayL rs r = true) : tripsOk (doL rs r) = true := by
  obtain ⟨ha, hl⟩ := tripsOk_all h
  have hf := ((fit_ok h).doL h1 h2).1
  refine tripsOk_mk ?_ hf
  unfold doL
  by_cases h4 : r.1 = 4
  · rw [if_pos h4, List.all_append, ha]
    have : tOk (r.2.2, 1) = true := by unfold tOk; rw [rOk_begin h1 h4]; rfl
    simp [this]
  · rw [if_neg h4]
    obtain ⟨x, hx⟩ := mayL_at h2 h4
    have hn : nextS x.2 r.1 ≠ 0 := by
      unfold mayL at h2
      rw [if_neg h4, tripAt_get hx] at h2
      simpa using h2
    rw [tripAt_get hx]
    rw [List.all_eq_true]
    intro y hy
    rcases List.mem_or_eq_of_mem_set hy with hy | hy
    · exact List.all_eq_true.1 ha y hy
    · subst hy
      have hxo := List.all_eq_true.1 ha x (List.mem_of_getElem? hx)
      unfold tOk at hxo ⊢
      simp only [Bool.and_eq_true] at hxo ⊢
      have := nextS_nz hn
      exact ⟨hxo.1, Pl.inB_mk (by omega) (by omega)⟩

theorem runT_ok {qs : List Rc} {rs : List R} (h : runT qs = some rs) : tripsOk rs = true := by
  have key : ∀ k, k ≤ qs.length → ∀ rs, runT (qs.take k) = some rs → tripsOk rs = true := by
    intro k
    induction k with
    | zero => intro _ rs h; rw [List.take_zero, runT_nil] at h; cases h; rfl
    | succ k ih =>
      intro hk rs h
      have hg : qs[k]? = some qs[k] := List.getElem?_eq_getElem (by omega)
      rw [take_snoc hg, runT_snoc] at h
      cases hr : runT (qs.take k) with
      | none => rw [hr] at h; cases h
      | some xs =>
        rw [hr] at h
        have h' : stepT xs qs[k] = some rs := h
        unfold stepT at h'
        split at h'
        · next hb =>
          simp only [Option.some.injEq] at h'
          subst h'
          simp only [Bool.and_eq_true] at hb
          exact doL_ok (ih (by omega) xs hr) hb.1 hb.2
        · cases h'
  refine key qs.length (Nat.le_refl _) rs ?_
  rw [List.take_length]; exact h

theorem nextS_twice (s k : Int) : nextS (nextS s k) k = 0 := by
  unfold nextS
  by_cases a : k = 5 ∧ s = 1
  · rw [if_pos a]; simp [a.1]
  rw [if_neg a]
  by_cases b : k = 6 ∧ s = 1
  · rw [if_pos b]; simp [b.1]
  rw [if_neg b]
  by_cases c : k = 7 ∧ s = 2
  · rw [if_pos c]; simp
  rw [if_neg c]
  by_cases d : k = 7 ∧ s = 3
  · rw [if_pos d]; simp
  rw [if_neg d]
  simp

/-- What came does not come again. -/
theorem again_no {rs : List R} {r : Rc} (h1 : rOk r = true) (h2 : mayL rs r = true) : mayL (doL rs r) r = false := by
  obtain ⟨k, t, zs⟩ := r
  obtain ⟨ht1, _⟩ := rOk_trip h1
  dsimp only at ht1
  by_cases h4 : k = 4
  · subst h4
    rw [mayL_4] at h2
    simp at h2
    rw [show doL rs (4, t, zs) = rs ++ [(zs, 1)] by unfold doL; rw [if_pos rfl], mayL_4]
    simp; omega
  · obtain ⟨x, hx⟩ := mayL_at h2 h4
    dsimp only at hx
    have hl := len_lt hx
    have hd : doL rs (k, t, zs) = rs.set (t - 1).toNat (x.1, nextS x.2 k) := by
      unfold doL
      rw [if_neg h4]
      dsimp only
      rw [tripAt_get hx]
    rw [hd, mayL_at' h4 (x := (x.1, nextS x.2 k)) (by rw [List.getElem?_set, if_pos rfl, if_pos hl]), nextS_twice]
    rfl

end Go.Proofs.YtgknnigjlnfplaaDoor.T

namespace Go.Proofs.YtgknnigjlnfplaaDoor.T
open Go.RowKit

/-- How many records make such a trip. -/
def wt (r : R) : Nat := if r.2 = 1 then 1 else if r.2 = 2 ∨ r.2 = 3 then 2 else 3
theorem wt_le (r : R) : wt r ≤ 3 := by
  unfold wt
  split
  · omega
  · split
    · omega
    · omega
theorem wts_le (rs : List R) : (rs.map wt).sum ≤ 3 * rs.length := by
  induction rs with
  | nil => simp
  | cons a t ih =>
    have := wt_le a
    simp only [List.map_cons, List.sum_cons, List.length_cons]
    omega
theorem wts_set (rs : List R) (i : Nat) (x y : R) (h : rs[i]? = some x) (hy : wt y = wt x + 1) : ((rs.set i y).map wt).sum = (rs.map wt).sum + 1 := by
  induction rs generalizing i with
  | nil => simp at h
  | cons a t ih =>
    cases i with
    | zero =>
      simp at h
      subst h
      simp only [List.set_cons_zero, List.map_cons, List.sum_cons]
      omega
    | succ i =>
      have := ih i (by simpa using h)
      simp only [List.set_cons_succ, List.map_cons, List.sum_cons]
      omega
theorem wt_next {s k : Int} {zs : List Int} (h : nextS s k ≠ 0) : wt (zs, nextS s k) = wt (zs, s) + 1 := by
  unfold nextS at h ⊢
  unfold wt
  split
  · next h1 => simp [h1.2]
  · split
    · next h1 h2 => simp [h2.2]
    · split
      · next h1 h2 h3 => simp [h3.2]
      · split
        · next h1 h2 h3 h4 => simp [h4.2]
        · next h1 h2 h3 h4 => simp [h1, h2, h3, h4] at h
theorem wts_do {rs : List R} {r : Rc} (h2 : mayL rs r = true) : ((doL rs r).map wt).sum = (rs.map wt).sum + 1 := by
  unfold doL
  by_cases h4 : r.1 = 4
  · rw [if_pos h4]
    simp [wt]
  · rw [if_neg h4]
    obtain ⟨x, hx⟩ := mayL_at h2 h4
    have hn : nextS x.2 r.1 ≠ 0 := by
      unfold mayL at h2
      rw [if_neg h4, tripAt_get hx] at h2
      simpa using h2
    rw [tripAt_get hx]
    exact wts_set rs _ x _ hx (wt_next hn)
theorem runT_wts {qs : List Rc} {rs : List R} (h : runT qs = some rs) : (rs.map wt).sum = qs.length := by
  have key : ∀ k, k ≤ qs.length → ∀ rs, runT (qs.take k) = some rs → (rs.map wt).sum = k := by
    intro k
    induction k with
    | zero => intro _ rs h; rw [List.take_zero, runT_nil] at h; cases h; rfl
    | succ k ih =>
      intro hk rs h
      have hg : qs[k]? = some qs[k] := List.getElem?_eq_getElem (by omega)
      rw [take_snoc hg, runT_snoc] at h
      cases hr : runT (qs.take k) with
      | none => rw [hr] at h; cases h
      | some xs =>
        rw [hr] at h
        have h' : stepT xs qs[k] = some rs := h
        unfold stepT at h'
        split at h'
        · next hb =>
          simp only [Option.some.injEq] at h'
          subst h'
          simp only [Bool.and_eq_true] at hb
          rw [wts_do hb.2, ih (by omega) xs hr]
        · cases h'
  exact key qs.length (Nat.le_refl _) rs (by rw [List.take_length]; exact h)
/-- Records that make trips are at most eighteen. -/
theorem runT_room {qs : List Rc} {rs : List R} (h : runT qs = some rs) : qs.length ≤ 18 := by
  have h1 := runT_wts h
  have h2 := wts_le rs
  have h3 := (runT_fit h).1
  omega

end Go.Proofs.YtgknnigjlnfplaaDoor.T

namespace Go.Proofs.YtgknnigjlnfplaaDoor
open Go.RowKit

/-- A log and a yes or no come back, the log in memory of the call's own. -/
def LogOut2 (w w' : World) (e : Ending) (rs : List R) (f : Int) (b : Bool) : Prop :=
  ∃ ao cap, e = .returned (.tuple #[.agg #[.slice ao rs.length cap, .int .i64 f], .bool b]) ∧ Made w' w.heap.size (.slice ao rs.length cap) rs ∧ Below w.heap.size w w'

def addOk (rs : List R) (f : Int) (r : R) : Bool := logOk rs f && rOk r
def addR (rs : List R) (f : Int) (r : R) : List R := if addOk rs f r then (if rs.length = 40 then rs else rs ++ [r]) else []
def addF (rs : List R) (f : Int) (r : R) : Int := if addOk rs f r then f else 0
def addB (rs : List R) (f : Int) (r : R) : Bool := addOk rs f r && decide (rs.length ≠ 40)

/-- The three blocks of a call that takes a log and a record and gives back a log. -/
def Trio (w : World) (B : Nat) (v : Value) (f : Int) (r : R) (u : Value) : Prop :=
  w.heap[B]? = some (.cells #[v, .int .i64 f] 33 (0, 0)) ∧ w.heap[B + 1]? = some (.cells #[.int .i64 r.1, .int .i64 r.2.1, u] 94 (0, 0)) ∧ w.heap[B + 2]? = some (.cells #[.slice none 0 0, .int .i64 0] 33 (0, 0))

theorem Trio.size {w : World} {B : Nat} {v : Value} {f : Int} {r : R} {u : Value} (h : Trio w B v f r u) : B + 2 < w.heap.size := lt_of_heap h.2.2
theorem Trio.later {w w' : World} {B L : Nat} {v : Value} {f : Int} {r : R} {u : Value} (h : Trio w B v f r u) (hb : Below L w w') (hL : B + 3 ≤ L) : Trio w' B v f r u := by
  obtain ⟨h0, h1, h2⟩ := h
  exact ⟨by rw [hb.block B (by omega)]; exact h0, by rw [hb.block (B + 1) (by omega)]; exact h1, by rw [hb.block (B + 2) (by omega)]; exact h2⟩
theorem Trio.new (w : World) (v : Value) (f : Int) (r : R) (u : Value) : Trio (((w.alloc (.cells #[v, .int .i64 f] 33)).alloc (.cells #[.int .i64 r.1, .int .i64 r.2.1, u] 94)).alloc (.cells #[.slice none 0 0, .int .i64 0] 33)) w.heap.size v f r u := by
  refine ⟨?_, ?_, ?_⟩
  · rw [Below.heap_alloc _ _ _ (by simp; omega), Below.heap_alloc _ _ _ (by simp)]; exact heap_alloc_new w _
  · rw [Below.heap_alloc _ _ _ (by simp)]
    have := heap_alloc_new (w.alloc (.cells #[v, .int .i64 f] 33)) (.cells #[.int .i64 r.1, .int .i64 r.2.1, u] 94)
    rw [size1] at this
    exact this
  · have := heap_alloc_new ((w.alloc (.cells #[v, .int .i64 f] 33)).alloc (.cells #[.int .i64 r.1, .int .i64 r.2.1, u] 94)) (.cells #[.slice none 0 0, .int .i64 0] 33)
    rw [size2] at this
    exact this
theorem Trio.cells {w : World} {B : Nat} {v : Value} {f : Int} {r : R} {u : Value} (h : Trio w B v f r u) :
    (w.cell? ⟨B, 0, none⟩ = some v ∧ w.cell? ⟨B, 1, none⟩ = some (.int .i64 f)) ∧ (w.cell? ⟨B + 1, 0, none⟩ = some (.int .i64 r.1) ∧ w.cell? ⟨B + 1, 1, none⟩ = some (.int .i64 r.2.1) ∧ w.cell? ⟨B + 1, 2, none⟩ = some u) ∧
    (w.cell? ⟨B + 2, 0, none⟩ = some (.slice none 0 0) ∧ w.cell? ⟨B + 2, 1, none⟩ = some (.int .i64 0) ∧ w.frozen? ⟨B + 2, 0, none⟩ = false ∧ w.frozen? ⟨B + 2, 1, none⟩ = false) := by
  obtain ⟨h0, h1, h2⟩ := h
  refine ⟨⟨?_, ?_⟩, ⟨?_, ?_, ?_⟩, ⟨?_, ?_, frozen_of_row w _ _ _ _ h2, frozen_of_row w _ _ _ _ h2⟩⟩
  · rw [cell_of_row w _ _ _ _ _ h0]; rfl
  · rw [cell_of_row w _ _ _ _ _ h0]; rfl
  · rw [cell_of_row w _ _ _ _ _ h1]; rfl
  · rw [cell_of_row w _ _ _ _ _ h1]; rfl
  · rw [cell_of_row w _ _ _ _ _ h1]; rfl
  · rw [cell_of_row w _ _ _ _ _ h2]; rfl
  · rw [cell_of_row w _ _ _ _ _ h2]; rfl

theorem set2 (w : World) (b2 : Nat) (x y : Value) {b o : Nat} (h : b ≠ b2) : ((w.setCell ⟨b2, 0, none⟩ x).setCell ⟨b2, 1, none⟩ y).cell? ⟨b, o, none⟩ = w.cell? ⟨b, o, none⟩ := by
  rw [World.cell?_of_block (w := w.setCell ⟨b2, 0, none⟩ x) (a := ⟨b, o, none⟩) (Below.heap_setCell _ _ _ _ h), World.cell?_of_block (w := w) (a := ⟨b, o, none⟩) (Below.heap_setCell _ _ _ _ h)]

theorem addRow {w3 w4 : World} {lo n cap3 : Nat} {a3 : Option Addr} {ps : List (R × Value)} (ho : OwnRecs w3 lo w3.heap.size (.slice a3 n cap3) ps) (hpl : ps.length = n) (hb : Below w3.heap.size w3 w4) (o : Obj) :
    (w4.alloc o).ownsRow lo 94 3 (.slice a3 n cap3) n (flat ps) := by
  have h := ho.1
  rw [hpl] at h
  exact (ownsRow_below h hb (fun j hj => (h.lt j hj).2)).alloc o

theorem addBelow {W w5 : World} {lo n cap3 : Nat} {a3 : Option Addr} {xs : List Value} (hr : W.ownsRow lo 94 3 (.slice a3 n cap3) n xs) (hg : W.grownBy w5 (Value.slice a3 n cap3).ownBlock) (hlo : lo ≤ W.heap.size) : Below lo W w5 :=
  (Below.refl _ _).grown hg hlo (fun k hk => (hr.lt k hk).1)

/-- What comes of a list with one more record. -/
theorem implAdd_step {w3 w4 w5 : World} {lo n cap3 g5 cap5 cap4 : Nat} {a3 a4 : Option Addr} {rs : List R} {ps : List (R × Value)} {r : R} {o : Obj} (hlo : lo ≤ w3.heap.size) (hps : ps.map (·.1) = rs) (ho : OwnRecs w3 lo w3.heap.size (.slice a3 n cap3) ps) (hb : Below w3.heap.size w3 w4)
    (hown4 : w4.ownsRow (w3.heap.size + 2) 3 1 (.slice a4 r.2.2.length cap4) r.2.2.length (r.2.2.map (Value.int .i64)))
    (hown5 : w5.ownsRow lo 94 3 (.slice (some ⟨g5, 0, none⟩) (n + 1) cap5) (n + 1) (flat ps ++ [.int .i64 r.1, .int .i64 r.2.1, .slice a4 r.2.2.length cap4]))
    (hg5 : (w4.alloc o).grownBy w5 (Value.slice a3 n cap3).ownBlock) : Made w5 lo (.slice (some ⟨g5, 0, none⟩) (n + 1) cap5) (rs ++ [r]) := by
  have hpl : ps.length = n := by
    have h1 := hown5.1
    rw [List.length_append, flat_length] at h1
    simp at h1; omega
  have row4 := addRow ho hpl hb o
  have al := (Below.refl w4.heap.size w4).alloc (Nat.le_refl _) o
  have hs : (w4.alloc o).heap.size = w4.heap.size + 1 := by simp
  have hbs := hb.size
  have in4 : Inner (w4.alloc o) lo w3.heap.size ps := (ho.2.2.below hb (Nat.le_refl _)).below al hbs
  have lo3 : lo ≤ w3.heap.size + 2 := by omega
  rw [← hpl] at row4 hown5 hg5
  have st := append_step (r := r) row4 in4 (by omega) ((ownsRow_base hown4 lo3).alloc o) (fun k hk => by have := hown4.lt k hk; omega) hown5 hg5
  refine ⟨ps ++ [(r, .slice a4 r.2.2.length cap4)], by rw [List.map_append, hps]; rfl, ?_⟩
  rw [← hpl]
  exact ⟨st.1, fun k hk => (st.1.lt k hk).2, st.2⟩

end Go.Proofs.YtgknnigjlnfplaaDoor

namespace Go.Proofs.YtgknnigjlnfplaaDoor
open Go.RowKit

theorem Trio.grown {w w' : World} {B : Nat} {v : Value} {f : Int} {r : R} {u : Value} {row : Option Nat} (h : Trio w B v f r u) (hg : w.grownBy w' row) (hr : ∀ k, row = some k → k < B) : Trio w' B v f r u := by
  have hs := h.size
  obtain ⟨h0, h1, h2⟩ := h
  exact ⟨by rw [hg.block B (by omega) (fun e => by have := hr _ e.symm; omega)]; exact h0, by rw [hg.block (B + 1) (by omega) (fun e => by have := hr _ e.symm; omega)]; exact h1, by rw [hg.block (B + 2) hs (fun e => by have := hr _ e.symm; omega)]; exact h2⟩

/-- A store into a log's own block leaves lists of records as they are. -/
theorem Made.setApart {w : World} {lo b j : Nat} {v : Value} {rs : List R} {cur : Array Value} {fz : Nat × Nat} (h : Made w lo v rs) (hh : w.heap[b]? = some (.cells cur 33 fz)) (x : Value) : Made (w.setCell ⟨b, j, Option.none⟩ x) lo v rs := by
  obtain ⟨ps, hp, h1, h2, h3⟩ := h
  have hs : (w.setCell ⟨b, j, Option.none⟩ x).heap.size = w.heap.size := by simp
  refine ⟨ps, hp, ownsRow_setCell_ne h1 (row_apart h1 hh (by decide)) x, by rw [hs]; exact h2, ?_⟩
  rw [hs]
  exact ⟨by rw [hs]; exact h3.1, fun p hp => ⟨ownsRow_setCell_ne (h3.2.1 p hp).1 (row_apart (h3.2.1 p hp).1 hh (by decide)) x, (h3.2.1 p hp).2⟩, h3.2.2⟩

theorem Mid.setUp {lo hi : Nat} {w W : World} (h : Mid lo hi w W) {a : Addr} (ha : w.heap.size ≤ a.block) (x : Value) : Mid lo hi w (W.setCell a x) :=
  ⟨h.os, h.tape, h.output, by have := h.size; simpa using this, fun k hk hh => by rw [Below.heap_setCell _ _ _ _ (by omega)]; exact h.block k hk hh⟩

end Go.Proofs.YtgknnigjlnfplaaDoor

namespace Go.Proofs.YtgknnigjlnfplaaDoor
open Go.RowKit

/-- A record that is ok is written down. -/
def dkMay (up : Bool) (rs : List R) (r : R) : Bool := up && T.mayL (T.ofO rs) r
theorem run_some {up : Bool} {rs : List R} {f : Int} {ws : List Wd} (h : dkOk up rs f ws = true) : T.runT rs = some (T.ofO rs) := by
  unfold dkOk at h
  simp only [Bool.and_eq_true] at h
  obtain ⟨x, hx⟩ := Option.isSome_iff_exists.1 h.2.1
  unfold T.ofO
  rw [hx]
  rfl
theorem may_eq {up : Bool} {rs : List R} {f : Int} {ws : List Wd} {r : R} (h : dkOk up rs f ws = true) (hr : rOk r = true) : T.tMay (T.ofO rs) r = T.mayL (T.ofO rs) r := by
  unfold T.tMay
  rw [T.runT_ok (run_some h), hr]
  simp
theorem add_eq {up : Bool} {rs : List R} {f : Int} {ws : List Wd} {r : R} (h : dkOk up rs f ws = true) (hr : rOk r = true) : addR rs f r = rs ++ [r] ∧ addF rs f r = f ∧ addB rs f r = true := by
  have h1 := dkOk_log h
  have h2 := T.runT_room (run_some h)
  have hk : addOk rs f r = true := by unfold addOk; rw [h1, hr]; rfl
  refine ⟨?_, ?_, ?_⟩
  · unfold addR; rw [hk, if_pos rfl, if_neg (by omega)]
  · unfold addF; rw [hk, if_pos rfl]
  · unfold addB; rw [hk]; simp; omega

/-- What the clerk's block holds, as a call of one of its methods begins. -/
def ClAt (w : World) (c lo hi : Nat) (up : Bool) (v : Value) (f : Int) (u all forced : Value) (mb : Option Nat) (ps : List (R × Value)) (rs : List R) (ws : List Wd) (ts : List T.R) : Prop :=
  Blk w c #[.bool up, v, .int .i64 f, u, all, forced, .map mb] 51 ∧ ps.map (·.1) = rs ∧ DkOwn w lo hi v u ps ws ∧ T.Made w lo all ts
theorem ClAt.after {w w' : World} {c lo hi : Nat} {up : Bool} {v : Value} {f : Int} {u all forced : Value} {mb : Option Nat} {ps : List (R × Value)} {rs : List R} {ws : List Wd} {ts : List T.R} (h : ClAt w c lo hi up v f u all forced mb ps rs ws ts) (hb : Below w.heap.size w w') : ClAt w' c lo hi up v f u all forced mb ps rs ws ts :=
  ⟨h.1.after hb, h.2.1, h.2.2.1.below hb h.2.2.1.1, h.2.2.2.below hb (Nat.le_refl _)⟩

/-- What comes of a record that the clerk was to write down. -/
def WrOut (w w' : World) (e : Ending) (c lo : Nat) (up : Bool) (f : Int) (u all forced : Value) (mb : Option Nat) (rs : List R) (ws : List Wd) (ts : List T.R) (r : R) : Prop :=
  (dkMay up rs r = false ∧ e = .returned (.bool false) ∧ Below w.heap.size w w') ∨
  (dkMay up rs r = true ∧ e = .returned (.bool true) ∧ Mid c (c + 1) w w' ∧ ∃ a3 c3 ps3, ClAt w' c lo w'.heap.size up (.slice a3 (rs ++ [r]).length c3) f u all forced mb ps3 (rs ++ [r]) ws ts)

theorem T.Made.setB {w : World} {lo b j : Nat} {v : Value} {rs : List T.R} {cur : Array Value} {ty : TypeId} (h : T.Made w lo v rs) (hh : Blk w b cur ty) (h1 : 73 ≠ ty) (h2 : 3 ≠ ty) (x : Value) : T.Made (w.setCell ⟨b, j, Option.none⟩ x) lo v rs := by
  obtain ⟨ps, hp, q1, q2, q3⟩ := h
  have hs : (w.setCell ⟨b, j, Option.none⟩ x).heap.size = w.heap.size := by simp
  refine ⟨ps, hp, ownsRow_setCell_ne q1 (fun g hg => row_apart q1 hh h1 g hg) x, by rw [hs]; exact q2, ?_⟩
  rw [hs]
  exact ⟨by rw [hs]; exact q3.1, fun p hp => ⟨ownsRow_setCell_ne (q3.2.1 p hp).1 (fun g hg => row_apart (q3.2.1 p hp).1 hh h2 g hg) x, (q3.2.1 p hp).2⟩, q3.2.2⟩
theorem DkOwn.newLog' {w w' : World} {lo hi : Nat} {v v' u : Value} {ps ps' : List (R × Value)} {ws : List Wd} (h : DkOwn w lo hi v u ps ws) (hl : lo ≤ w.heap.size) (hm : OwnRecs w' w.heap.size w'.heap.size v' ps') (hb : Below w.heap.size w w') : DkOwn w' lo w'.heap.size v' u ps' ws := h.newLog hl hm hb

end Go.Proofs.YtgknnigjlnfplaaDoor

namespace Go.Proofs.YtgknnigjlnfplaaDoor
open Go.RowKit

/-- The houses of which a trip wants any, up to a place. -/
def wantsK (zs : List Int) (n : Nat) : List Int := ((List.range n).filter fun i => decide (0 < zs.getD i 0)).map fun i => ((i : Nat) : Int) + 1
def wants (zs : List Int) : List Int := wantsK zs zs.length
theorem wantsK_zero (zs : List Int) : wantsK zs 0 = [] := rfl
theorem wantsK_yes {zs : List Int} {n : Nat} (h : 0 < zs.getD n 0) : wantsK zs (n + 1) = wantsK zs n ++ [((n : Nat) : Int) + 1] := by
  unfold wantsK
  rw [List.range_succ, List.filter_append, List.map_append, List.filter_cons_of_pos (p := fun i => decide (0 < zs.getD i 0)) (decide_eq_true h)]
  rfl
theorem wantsK_no {zs : List Int} {n : Nat} (h : ¬ 0 < zs.getD n 0) : wantsK zs (n + 1) = wantsK zs n := by
  unfold wantsK
  rw [List.range_succ, List.filter_append, List.map_append, List.filter_cons_of_neg (p := fun i => decide (0 < zs.getD i 0)) (by simpa using h)]
  simp
theorem wantsK_len (zs : List Int) (n : Nat) : (wantsK zs n).length ≤ n := by
  unfold wantsK
  rw [List.length_map]
  exact Nat.le_trans (List.length_filter_le _ _) (by simp)
theorem wantsK_mem {zs : List Int} {n : Nat} {h : Int} : h ∈ wantsK zs n ↔ ∃ i : Nat, i < n ∧ 0 < zs.getD i 0 ∧ h = (i : Int) + 1 := by
  unfold wantsK
  simp only [List.mem_map, List.mem_filter, List.mem_range, decide_eq_true_eq]
  constructor
  · rintro ⟨i, ⟨h1, h2⟩, h3⟩; exact ⟨i, h1, h2, h3.symm⟩
  · rintro ⟨i, h1, h2, h3⟩; exact ⟨i, ⟨h1, h2⟩, h3.symm⟩

/-- Whether all, or any, of the houses that a trip wants said so. -/
def allT (ws : List Wd) (k t : Int) (zs : List Int) : Bool := (wants zs).all fun h => told ws k h t
def anyT (ws : List Wd) (k t : Int) (zs : List Int) : Bool := (wants zs).any fun h => told ws k h t
/-- The record by which a trip goes on; 0, if none. -/
def decK (ws : List Wd) (t : Int) (tr : T.R) (sure : Bool) : Int :=
  if tr.2 = 1 then (if anyT ws 5 t tr.1 = true then 6 else if allT ws 4 t tr.1 = true then 5 else 0)
  else if tr.2 = 2 then (if (sure && allT ws 6 t tr.1) = true then 7 else 0)
  else if tr.2 = 3 then (if (sure && allT ws 7 t tr.1) = true then 7 else 0) else 0
def sureT (rs : List R) (f t : Int) : Bool := decide ((T.tripAt (T.ofO (rs.take f.toNat)) t).2 = (T.tripAt (T.ofO rs) t).2)
def hearW (ws : List Wd) (p : Wd) : List Wd := if ws.contains p = true then ws else ws ++ [p]
def hearK (rs : List R) (f : Int) (ws : List Wd) (t : Int) : Int := decK ws t (T.tripAt (T.ofO rs) t) (sureT rs f t)
def hearR (rs : List R) (f : Int) (ws : List Wd) (t : Int) : List R := if hearK rs f ws t = 0 then rs else rs ++ [(hearK rs f ws t, t, [])]
def dkHears (up : Bool) (rs : List R) (p : Wd) : Bool := up && ansOk (T.ofO rs).length p
/-- A desk that is ok behind a word. -/
def hearD (up : Bool) (rs : List R) (f : Int) (ws : List Wd) (p : Wd) : Dk := if dkHears up rs p = true then (up, hearR rs f (hearW ws p) p.2.2.1, f, hearW ws p) else (up, rs, f, ws)
def dkHear (up : Bool) (rs : List R) (f : Int) (ws : List Wd) (p : Wd) : Dk := if dkOk up rs f ws = true then hearD up rs f ws p else dkZ

theorem dkOk_parts {up : Bool} {rs : List R} {f : Int} {ws : List Wd} (h : dkOk up rs f ws = true) : logOk rs f = true ∧ T.runT rs = some (T.ofO rs) ∧ toldOk (T.ofO rs).length ws = true ∧ (up = true ∨ ws = []) := by
  have hr := run_some h
  unfold dkOk at h
  rw [hr] at h
  simp only [Bool.and_eq_true, Bool.or_eq_true, Option.getD_some, List.isEmpty_iff] at h
  exact ⟨h.1, hr, h.2.2.1, h.2.2.2⟩
theorem dkOk_of {up : Bool} {rs : List R} {f : Int} {ws : List Wd} {ts : List T.R} (h1 : logOk rs f = true) (h2 : T.runT rs = some ts) (h3 : toldOk ts.length ws = true) (h4 : up = true ∨ ws = []) : dkOk up rs f ws = true := by
  unfold dkOk
  rw [h2]
  simp only [Bool.and_eq_true, Bool.or_eq_true, Option.getD_some, List.isEmpty_iff]
  exact ⟨h1, rfl, h3, h4⟩
theorem toldOk_snoc {n : Int} {ws : List Wd} {p : Wd} (h : toldOk n ws = true) (hp : ansOk n p = true) (hc : ws.contains p = false) : toldOk n (ws ++ [p]) = true := by
  unfold toldOk at *
  simp only [Bool.and_eq_true, decide_eq_true_eq] at *
  refine ⟨by rw [List.all_append, h.1]; simp [hp], ?_⟩
  rw [List.nodup_append]
  refine ⟨h.2, by simp, fun a ha b hb => ?_⟩
  simp only [List.mem_singleton] at hb
  subst hb
  intro e
  subst e
  have := List.contains_iff_mem.2 ha
  rw [this] at hc
  cases hc
theorem hearW_ok {n : Int} {ws : List Wd} {p : Wd} (h : toldOk n ws = true) (hp : ansOk n p = true) : toldOk n (hearW ws p) = true := by
  unfold hearW
  cases hc : ws.contains p
  · rw [if_neg (by decide)]; exact toldOk_snoc h hp hc
  · rw [if_pos rfl]; exact h
theorem hearW_len (ws : List Wd) (p : Wd) : (hearW ws p).length ≤ ws.length + 1 := by unfold hearW; split <;> simp
theorem hears_ok {up : Bool} {rs : List R} {f : Int} {ws : List Wd} {p : Wd} (h : dkOk up rs f ws = true) (hp : dkHears up rs p = true) : dkOk up rs f (hearW ws p) = true := by
  obtain ⟨h1, h2, h3, h4⟩ := dkOk_parts h
  simp only [dkHears, Bool.and_eq_true] at hp
  exact dkOk_of h1 h2 (hearW_ok h3 hp.2) (Or.inl hp.1)
/-- Words that are told of so many trips at most are not many: each is one of four kinds, of three houses, of six trips. -/
theorem decK_state {ws : List Wd} {t : Int} {tr : T.R} {sure : Bool} (h : decK ws t tr sure ≠ 0) : (tr.2 = 1 ∧ (decK ws t tr sure = 6 ∨ decK ws t tr sure = 5)) ∨ ((tr.2 = 2 ∨ tr.2 = 3) ∧ decK ws t tr sure = 7) := by
  unfold decK at *
  by_cases h1 : tr.2 = 1
  · left
    rw [if_pos h1] at *
    refine ⟨h1, ?_⟩
    by_cases c : anyT ws 5 t tr.1 = true
    · rw [if_pos c]; exact Or.inl rfl
    · rw [if_neg c] at *
      by_cases c2 : allT ws 4 t tr.1 = true
      · rw [if_pos c2]; exact Or.inr rfl
      · rw [if_neg c2] at h; exact absurd rfl h
  · right
    rw [if_neg h1] at *
    by_cases h2 : tr.2 = 2
    · rw [if_pos h2] at *
      refine ⟨Or.inl h2, ?_⟩
      by_cases c : (sure && allT ws 6 t tr.1) = true
      · rw [if_pos c]
      · rw [if_neg c] at h; exact absurd rfl h
    · rw [if_neg h2] at *
      by_cases h3 : tr.2 = 3
      · rw [if_pos h3] at *
        refine ⟨Or.inr h3, ?_⟩
        by_cases c : (sure && allT ws 7 t tr.1) = true
        · rw [if_pos c]
        · rw [if_neg c] at h; exact absurd rfl h
      · rw [if_neg h3] at h; exact absurd rfl h
/-- What is decided may be written down. -/
theorem decK_may {ws : List Wd} {t : Int} {ts : List T.R} {sure : Bool} (h : decK ws t (T.tripAt ts t) sure ≠ 0) : T.mayL ts (decK ws t (T.tripAt ts t) sure, t, []) = true := by
  have h2 := decK_state h
  have go : ∀ k : Int, k ≠ 4 → T.nextS (T.tripAt ts t).2 k ≠ 0 → T.mayL ts (k, t, []) = true := fun k hk hn => by
    unfold T.mayL
    rw [if_neg hk]
    exact decide_eq_true hn
  rcases h2 with ⟨h1, e | e⟩ | ⟨h1, e⟩
  · rw [e]; exact go 6 (by decide) (by rw [h1]; decide)
  · rw [e]; exact go 5 (by decide) (by rw [h1]; decide)
  · rw [e]; exact go 7 (by decide) (by rcases h1 with h1 | h1 <;> (rw [h1]; decide))
theorem decK_rec {ws : List Wd} {t : Int} {tr : T.R} {sure : Bool} (h : decK ws t tr sure ≠ 0) (ht : 1 ≤ t ∧ t ≤ 6) : rOk (decK ws t tr sure, t, []) = true := by
  have : ∀ k : Int, k = 5 ∨ k = 6 ∨ k = 7 → rOk ((k, t, []) : R) = true := fun k hk => by
    show Pl.recOk k t [] = true
    rw [Pl.recOk_p k t [] (Pl.inB_mk ht.1 ht.2) (by omega) (by omega)]
    rcases hk with rfl | rfl | rfl <;> decide
  rcases decK_state h with ⟨_, e | e⟩ | ⟨_, e⟩ <;> rw [e] <;> exact this _ (by omega)
theorem hearR_tot {rs : List R} {f : Int} {ws : List Wd} {t : Int} (h : tot rs ≤ 1048000) : tot (hearR rs f ws t) ≤ 1048576 := by
  unfold hearR
  split
  · omega
  · unfold tot pre at *
    rw [List.take_length] at *
    simp
    omega
end Go.Proofs.YtgknnigjlnfplaaDoor

namespace Go.Proofs.YtgknnigjlnfplaaDoor
open Go.RowKit

set_option maxHeartbeats 2000000 in
theorem tells_any (lo b N : Nat) (ws : List Wd) (k h t : Int) (W : World) (hb : BkN W lo b N ws) (hk : 0 ≤ k ∧ k ≤ 10) (hh : 0 ≤ h ∧ h ≤ 10) (ht : 1 ≤ t ∧ t ≤ 6) :
    Calls Tryd.prog 39 #[.map (some b), .int .i64 k, .int .i64 h, .int .i64 t] W fun e w' => e = .returned (.bool (told ws k h t)) ∧ Below W.heap.size W w' := by
  obtain ⟨D, h0, h1, h2, h3⟩ := hb
  rcases h2 _ ht.1 ht.2 with ⟨an, a⟩ | ⟨B, S, a1, a2, a3, a4, a5⟩
  · have l1 : (Instr.lookup 49 (.map (some b)) (.int .i64 t) false).run Tryd.prog W = .ok (.map none) W := by
      obtain ⟨v, ps, r1, r2⟩ := h1.lookup tripLaw Tryd.underlying49 (zeroSet _) (zd := .nil) (zp := []) rfl (tripKey (by omega) (by omega : t ≤ 1000))
      rw [an] at r2
      rw [refElem_none r2] at r1
      exact r1
    have HC := hide_it (setHas_none k h W hk.1 (by omega) hh.1 (by omega))
    rw [a k h]
    clear h0 h1 h2 h3 an a hk hh ht
    go_enter Tryd.func39, Tryd.ntmps39
    go_wp2_with (go_at_call 56; refine HC.out.mono ?_; rintro e w1 ⟨rfl, hb⟩)
    go_ret
    exact ⟨rfl, by assumption⟩
  · have l1 : (Instr.lookup 49 (.map (some b)) (.int .i64 t) false).run Tryd.prog W = .ok (.map (some B)) W := by
      obtain ⟨v, ps, r1, r2⟩ := h1.lookup tripLaw Tryd.underlying49 (zeroSet _) (zd := .nil) (zp := []) rfl (tripKey (by omega) (by omega : t ≤ 1000))
      rw [a1] at r2
      rw [refElem_some r2] at r1
      exact r1
    have HC := hide_it (setHas_any B _ S k h W a4 hk.1 (by omega) hh.1 (by omega))
    rw [← a5 k h hk.1 hk.2 hh.1 hh.2]
    clear h0 h1 h2 h3 a1 a2 a3 a4 a5 hk hh ht
    go_enter Tryd.func39, Tryd.ntmps39
    go_wp2_with (go_at_call 56; refine HC.out.mono ?_; rintro e w1 ⟨rfl, hb⟩)
    go_ret
    exact ⟨rfl, by assumption⟩

/-- What is said to the houses of a trip in this state, and what is answered. -/
def talkA (s : Int) : Int := if s = 1 then 1 else if s = 2 then 2 else if s = 3 then 3 else 0
def talkB (s : Int) : Int := if s = 1 then 4 else if s = 2 then 6 else if s = 3 then 7 else 0
theorem talk_any (s : Int) (w : World) :
    Calls Tryd.prog 37 #[.int .i64 s] w fun e w' => e = .returned (.tuple #[.int .i64 (talkA s), .int .i64 (talkB s)]) ∧ w' = w := by
  have go : ∀ a b : Int, talkA s = a → talkB s = b → (Calls Tryd.prog 37 #[.int .i64 s] w fun e w' => e = .returned (.tuple #[.int .i64 a, .int .i64 b]) ∧ w' = w) → Calls Tryd.prog 37 #[.int .i64 s] w fun e w' => e = .returned (.tuple #[.int .i64 (talkA s), .int .i64 (talkB s)]) ∧ w' = w := fun a b ha hb h => by rw [ha, hb]; exact h
  by_cases h1 : s = 1
  · subst h1
    refine go 1 4 rfl rfl ?_
    go_enter Tryd.func37, Tryd.ntmps37
    go_wp2
    go_ret2
    exact ⟨rfl, rfl⟩
  by_cases h2 : s = 2
  · subst h2
    refine go 2 6 rfl rfl ?_
    go_enter Tryd.func37, Tryd.ntmps37
    go_wp2
    go_ret2
    exact ⟨rfl, rfl⟩
  by_cases h3 : s = 3
  · subst h3
    refine go 3 7 rfl rfl ?_
    go_enter Tryd.func37, Tryd.ntmps37
    go_wp2
    go_ret2
    exact ⟨rfl, rfl⟩
  · refine go 0 0 (by simp [talkA, h1, h2, h3]) (by simp [talkB, h1, h2, h3]) ?_
    clear go
    have e1 : ((1 : Int) == s) = false := by simp; omega
    go_enter Tryd.func37, Tryd.ntmps37
    go_wp2
    go_ret2
    exact ⟨rfl, rfl⟩

theorem ints_cell {w : World} {v : Value} {zs : List Int} (h : Ints w v zs) (hne : zs ≠ []) : ∃ b off cap, v = .slice (some ⟨b, off, none⟩) zs.length cap ∧ ∀ k, k < zs.length → w.cell? ⟨b, off + k, none⟩ = some (.int .i64 (zs.getD k 0)) := by
  rcases h with ⟨h0, _⟩ | ⟨b, off, cap, h1, _, h2⟩
  · exact absurd h0 hne
  · exact ⟨b, off, cap, h1, h2⟩

def howN (ws : List Wd) (k t : Int) (hs : List Int) : Nat := (hs.filter fun h => told ws k h t).length
theorem howN_zero (ws : List Wd) (k t : Int) : howN ws k t [] = 0 := rfl
theorem howN_snoc (ws : List Wd) (k t : Int) (hs : List Int) (h : Int) : howN ws k t (hs ++ [h]) = howN ws k t hs + if told ws k h t = true then 1 else 0 := by
  unfold howN
  rw [List.filter_append]
  cases e : told ws k h t <;> simp [e]
theorem howN_le (ws : List Wd) (k t : Int) (hs : List Int) : howN ws k t hs ≤ hs.length := List.length_filter_le _ _
theorem take_snocI (zs : List Int) (k : Nat) (h : k < zs.length) : zs.take (k + 1) = zs.take k ++ [zs.getD k 0] := by
  rw [List.take_succ_eq_append_getElem h, List.getD_eq_getElem?_getD, List.getElem?_eq_getElem h]; rfl
end Go.Proofs.YtgknnigjlnfplaaDoor

namespace Go.Proofs.YtgknnigjlnfplaaDoor
open Go.RowKit

/-- A word of this kind to a house of a trip. -/
def sayW (s t : Int) (zs : List Int) (h : Int) : Wd := (s, h, t, if s = 1 then zs.getD (h - 1).toNat 0 else 0)
/-- What is said to these houses of a trip. -/
def sayK (ws : List Wd) (t s : Int) (zs : List Int) (hs : List Int) : List Wd := (hs.filter fun h => !told ws (talkB s) h t).map (sayW s t zs)
def sayT (ws : List Wd) (t : Int) (tr : T.R) : List Wd := if talkA tr.2 = 0 then [] else sayK ws t tr.2 tr.1 (wants tr.1)
def sayN (ws : List Wd) (ts : List T.R) (n : Nat) : List Wd := (List.range n).flatMap fun i => sayT ws (((i : Nat) : Int) + 1) (ts.getD i ([], 0))
def sayD (ws : List Wd) (ts : List T.R) : List Wd := sayN ws ts ts.length
def dkWords (up : Bool) (rs : List R) (f : Int) (ws : List Wd) : List Wd := if (dkOk up rs f ws && up) = true then sayD ws (T.ofO (rs.take f.toNat)) else []

theorem sayK_nil (ws : List Wd) (t s : Int) (zs : List Int) : sayK ws t s zs [] = [] := rfl
theorem sayK_snoc (ws : List Wd) (t s : Int) (zs hs : List Int) (h : Int) : sayK ws t s zs (hs ++ [h]) = sayK ws t s zs hs ++ (if told ws (talkB s) h t = true then [] else [sayW s t zs h]) := by
  unfold sayK
  rw [List.filter_append, List.map_append]
  cases e : told ws (talkB s) h t <;> simp [e]
theorem sayK_len (ws : List Wd) (t s : Int) (zs hs : List Int) : (sayK ws t s zs hs).length ≤ hs.length := by
  unfold sayK
  rw [List.length_map]
  exact List.length_filter_le _ _
theorem sayT_len (ws : List Wd) (t : Int) (tr : T.R) (h : tr.1.length ≤ 3) : (sayT ws t tr).length ≤ 3 := by
  unfold sayT
  split
  · simp
  · have h1 := sayK_len ws t tr.2 tr.1 (wants tr.1)
    have h2 := wantsK_len tr.1 tr.1.length
    unfold wants at h1
    unfold wants
    omega
theorem sayN_zero (ws : List Wd) (ts : List T.R) : sayN ws ts 0 = [] := rfl
theorem sayN_succ {ws : List Wd} {ts : List T.R} {n : Nat} {tr : T.R} (h : ts[n]? = some tr) : sayN ws ts (n + 1) = sayN ws ts n ++ sayT ws (((n : Nat) : Int) + 1) tr := by
  unfold sayN
  rw [List.range_succ, List.flatMap_append]
  simp [List.getD_eq_getElem?_getD, h]
theorem sayN_len {ws : List Wd} {ts : List T.R} (hf : T.Fit ts) : ∀ n, n ≤ ts.length → (sayN ws ts n).length ≤ 3 * n
  | 0, _ => by simp [sayN_zero]
  | n + 1, h => by
    have hg : ts[n]? = some ts[n] := List.getElem?_eq_getElem (by omega)
    rw [sayN_succ hg, List.length_append]
    have h1 := sayN_len (ws := ws) hf n (by omega)
    have h2 := sayT_len ws (((n : Nat) : Int) + 1) ts[n] (by rw [hf.2 _ (List.getElem_mem _)]; omega)
    omega
theorem sayD_len {ws : List Wd} {ts : List T.R} (hf : T.Fit ts) : (sayD ws ts).length ≤ 18 := by
  have h1 := sayN_len (ws := ws) hf ts.length (Nat.le_refl _)
  have := hf.1
  unfold sayD
  omega
theorem dkWords_len (up : Bool) (rs : List R) (f : Int) (ws : List Wd) : (dkWords up rs f ws).length ≤ 18 := by
  unfold dkWords
  split
  · exact sayD_len (T.ofO_fit _)
  · simp

/-- The numbers of a trip that is ok, and its state. -/
structure Sound (ts : List T.R) : Prop where
  fit : T.Fit ts
  st : ∀ r ∈ ts, 1 ≤ r.2 ∧ r.2 ≤ 5
  nn : ∀ r ∈ ts, ∀ z ∈ r.1, 0 ≤ z ∧ z ≤ 3
theorem manyOk_nn {zs : List Int} (h : Pl.manyOk zs = true) : ∀ z ∈ zs, 0 ≤ z ∧ z ≤ 3 := by
  unfold Pl.manyOk at h
  simp only [Bool.and_eq_true] at h
  intro z hz
  have h1 := List.all_eq_true.1 h.1.1 z hz
  exact Pl.inB_true h1
theorem sound_ok {ts : List T.R} (h : T.tripsOk ts = true) : Sound ts := by
  have hf := T.fit_ok h
  have ha := (T.tripsOk_all h).1
  have hp : ∀ r ∈ ts, T.tOk r = true := fun r hr => List.all_eq_true.1 ha r hr
  refine ⟨hf, fun r hr => ?_, fun r hr => ?_⟩
  · have := hp r hr
    unfold T.tOk at this
    simp only [Bool.and_eq_true] at this
    exact Pl.inB_true this.2
  · have := hp r hr
    unfold T.tOk at this
    simp only [Bool.and_eq_true] at this
    exact manyOk_nn this.1
theorem ofO_sound (rs : List R) : Sound (T.ofO rs) := by
  unfold T.ofO
  cases h : T.runT rs with
  | none => exact ⟨T.Fit.nil, fun r hr => by simp at hr, fun r hr => by simp at hr⟩
  | some ts => exact sound_ok (T.runT_ok h)

end Go.Proofs.YtgknnigjlnfplaaDoor

namespace Go.Proofs.YtgknnigjlnfplaaDoor
open Go.RowKit

theorem newI (w : World) (z : Int) (o : TypeId) : ∀ (j : Nat) (x : Value), [Value.int .i64 z][j]? = some x → (w.alloc (.cells #[.int .i64 z] o)).cell? ((⟨w.heap.size, 0, none⟩ : Addr).add j) = some x := by
  intro j x hj
  match j, hj with
  | 0, hj => simp at hj; subst hj; simp [Addr.add]
theorem oneI (z : Int) : ∀ x ∈ [Value.int .i64 z], x.oneCell' = true := by
  intro x hx; simp at hx; subst hx; rfl
def HsO (w w' : World) (e : Ending) (hs : List Int) : Prop := ∃ ao cap, e = .returned (.slice ao hs.length cap) ∧ Ints w' (.slice ao hs.length cap) hs ∧ Below w.heap.size w w'
theorem row_shape' {w : World} {base : Nat} {e : TypeId} {size n : Nat} {v : Value} {xs : List Value} (h : w.ownsRow base e size v n xs) : ∃ ao cap, v = .slice ao n cap := by
  rcases h.2 with ⟨h1, h2⟩ | ⟨g, cap, _, h1, _⟩
  · exact ⟨none, 0, by rw [h1, h2]⟩
  · exact ⟨_, _, h1⟩

set_option maxRecDepth 100000 in
set_option maxHeartbeats 4000000 in
theorem housesOf_any (v : Value) (zs : List Int) (s : Int) (w : World) (hv : Ints w v zs) (hl : zs.length ≤ 3) :
    Calls Tryd.prog 38 #[.agg #[v, .int .i64 s]] w fun e w' => HsO w w' e (wants zs) := by
  obtain ⟨i0, hi, hz0, hz1, hz2⟩ := info_parts info3
  obtain ⟨w0, hw0⟩ : ∃ W, Hid (W = w.alloc (.cells #[v, .int .i64 s] 73)) := ⟨_, rfl⟩
  have B0 : Hid (Below w.heap.size w w0) := by show Below _ _ _; rw [hw0.out]; exact alloc_below _ _
  have X0 : Hid (Blk w0 w.heap.size #[v, .int .i64 s] 73) := by show Blk _ _ _ _; rw [hw0.out]; exact Blk.new _ _ _
  have HI : Hid (∀ W, Below w.heap.size w W → Ints W v zs) := fun W hb => hv.later hb (Nat.le_refl _)
  obtain ⟨av, cv, rfl⟩ := hv.shape
  clear hv
  obtain ⟨x0, x1⟩ := X0.out.cells2
  go_enter Tryd.func38, Tryd.ntmps38
  go_wp2
  rw [← hw0.out]
  clear x0 x1
  go_loopw [3, 9] (fun o i wr => ∃ q : Nat, q ≤ zs.length ∧ i = .int .i64 q ∧ Hid (wr.ownsRow w.heap.size 3 1 o (wantsK zs q).length ((wantsK zs q).map (Value.int .i64))) ∧ Hid (Below w.heap.size w wr)) (fun _ i _ => zs.length - (intOf i).toNat)
  case atStart => exact ⟨0, Nat.zero_le _, rfl, World.ownsRow_nil _ _ _ _, B0⟩
  case round =>
    obtain ⟨q, hq, rfl, HO, HB⟩ := hrel
    have hql := wantsK_len zs q
    by_cases hlt : q < zs.length
    · obtain ⟨b1, off, cap, hvv, hc⟩ := ints_cell (HI.out wr HB.out) (by intro e; rw [e] at hlt; simp at hlt)
      simp only [Value.slice.injEq] at hvv
      obtain ⟨rfl, -, rfl⟩ := hvv
      obtain ⟨z, hz⟩ : ∃ z, zs.getD q 0 = z := ⟨_, rfl⟩
      have c0 := hc q hlt
      rw [hz] at c0
      clear hc
      by_cases hpos : 0 < z
      · have HW : Hid (wantsK zs (q + 1) = wantsK zs q ++ [((q : Nat) : Int) + 1]) := wantsK_yes (by rw [hz]; exact hpos)
        clear hz
        obtain ⟨ao, ca, rfl⟩ := row_shape' HO.out
        have ROW : Hid (∀ o, (wr.alloc o).ownsRow w.heap.size 3 1 (.slice ao (wantsK zs q).length ca) (wantsK zs q).length ((wantsK zs q).map (Value.int .i64))) := fun o => HO.out.alloc o
        obtain ⟨K, hK⟩ : ∃ K, wantsK zs q = K := ⟨_, rfl⟩
        rw [hK] at HW ROW hql ⊢
        have hwr := HB.out.size
        have HKw := hide_it hK
        clear hK HO
        go_wp2_with (at_builtin; refine wpList_append_own _ rfl _ _ 71 rfl w.heap.size 3 i0 (.int .i64 0) 1 8 Tryd.underlying71 hi hz0 hz1 hz2 rfl (by decide) (.slice ao K.length ca) K.length (K.map (Value.int .i64)) rfl (ROW.out _) ⟨wr.heap.size, 0, none⟩ 1 1 [.int .i64 ((q : Int) + 1)] rfl rfl (newI wr _ _) (oneI _) ?c3 ?c4 ?c5 ?_)
        case c3 => unfold maxLen; omega
        case c4 => omega
        case c5 => simp; omega
        intro v' w2 hown hgrow _
        have B2 : Hid (Below w.heap.size w w2) := (HB.out.alloc hwr _).grown hgrow (by simp; omega) (fun j hj => (ROW.out (.cells #[.int .i64 ((q : Int) + 1)] 3)).lt j hj |>.1)
        have O2 : Hid (w2.ownsRow w.heap.size 3 1 v' (wantsK zs (q + 1)).length ((wantsK zs (q + 1)).map (Value.int .i64))) := by show w2.ownsRow _ _ _ _ _ _; rw [HW.out]; simpa using hown
        clear hown hgrow
        go_wp2
        go_roundw
        case rel => exact ⟨q + 1, by omega, by go_num, O2, B2⟩
        case measure => simp [intOf]; omega
      · have HW : Hid (wantsK zs (q + 1) = wantsK zs q) := wantsK_no (by rw [hz]; exact hpos)
        clear hz
        go_wp2
        go_roundw
        case rel => exact ⟨q + 1, by omega, by go_num, by rw [HW.out]; exact HO, HB⟩
        case measure => simp [intOf]; omega
    · have hqe : q = zs.length := by omega
      subst hqe
      obtain ⟨ao, ca, rfl⟩ := row_shape' HO.out
      have HF : Hid (Ints wr (.slice ao (wants zs).length ca) (wants zs)) := ints_of_any HO.out
      go_wp2
      go_ret
      exact ⟨ao, ca, rfl, HF.out, HB.out⟩

theorem trip_cell {w : World} {v : Value} {ts : List T.R} {i : Nat} {t : T.R} (h : T.Recs w v ts) (hi : ts[i]? = some t) : ∃ b off cap u, v = .slice (some ⟨b, off, none⟩) ts.length cap ∧ T.RecCells w b (off + i * 2) t u := by
  rcases h with ⟨h0, _⟩ | ⟨b, off, cap, h1, _, h2⟩
  · rw [h0] at hi; simp at hi
  · obtain ⟨u, hu⟩ := h2 i t hi
    exact ⟨b, off, cap, u, h1, hu⟩

end Go.Proofs.YtgknnigjlnfplaaDoor

namespace Go.Proofs.YtgknnigjlnfplaaDoor
open Go.RowKit

theorem Blk.new3 (w : World) (o1 o2 : Obj) (cs : Array Value) (ty : TypeId) : Blk (((w.alloc o1).alloc o2).alloc (.cells cs ty)) (w.heap.size + 1 + 1) cs ty := by
  have h := Blk.new ((w.alloc o1).alloc o2) cs ty
  simpa using h

/-- An object that is cells of one of these types. -/
def Bad (ts : List TypeId) (o : Obj) : Prop := ∃ cs ty fz, o = .cells cs ty fz ∧ ty ∈ ts
/-- All but such objects is as it was. -/
structure Kept (ts : List TypeId) (w w' : World) : Prop where
  os : w'.os = w.os
  tape : w'.tape = w.tape
  output : w'.output = w.output
  size : w.heap.size ≤ w'.heap.size
  keep : ∀ (b : Nat) (o : Obj), w.heap[b]? = some o → ¬ Bad ts o → w'.heap[b]? = some o
theorem Kept.refl (ts : List TypeId) (w : World) : Kept ts w w := ⟨rfl, rfl, rfl, Nat.le_refl _, fun _ _ h _ => h⟩
theorem Kept.trans {ts : List TypeId} {a b c : World} (h : Kept ts a b) (k : Kept ts b c) : Kept ts a c :=
  ⟨k.os.trans h.os, k.tape.trans h.tape, k.output.trans h.output, Nat.le_trans h.size k.size, fun x o hx hb => k.keep x o (h.keep x o hx hb) hb⟩
theorem Kept.of_below {ts : List TypeId} {w w' : World} (h : Below w.heap.size w w') : Kept ts w w' :=
  ⟨h.os, h.tape, h.output, h.size, fun b o hb _ => by rw [h.block b (lt_of_heap hb)]; exact hb⟩
theorem Kept.of_grown {ts : List TypeId} {w w' : World} {row : Option Nat} (h : w.grownBy w' row) (hr : ∀ g, row = some g → ∃ o, w.heap[g]? = some o ∧ Bad ts o) : Kept ts w w' :=
  ⟨h.os, h.tape, h.output, h.size, fun b o hb hn => by
    rw [h.block b (lt_of_heap hb) (fun e => by
      obtain ⟨o', ho, hbad⟩ := hr b e.symm
      rw [hb] at ho
      simp only [Option.some.injEq] at ho
      subst ho
      exact hn hbad)]
    exact hb⟩
theorem Kept.mono {ts ts' : List TypeId} {w w' : World} (h : Kept ts w w') (hs : ∀ t ∈ ts, t ∈ ts') : Kept ts' w w' :=
  ⟨h.os, h.tape, h.output, h.size, fun b o hb hn => h.keep b o hb (fun ⟨cs, ty, fz, e, hm⟩ => hn ⟨cs, ty, fz, e, hs _ hm⟩)⟩
theorem bad_cells {ts : List TypeId} {w : World} {b : Nat} {cs : Array Value} {ty : TypeId} (h : Blk w b cs ty) (hm : ty ∈ ts) : ∃ o, w.heap[b]? = some o ∧ Bad ts o := ⟨_, h, cs, ty, (0, 0), rfl, hm⟩
theorem not_bad {ts : List TypeId} {cs : Array Value} {ty : TypeId} {fz : Nat × Nat} (h : ty ∉ ts) : ¬ Bad ts (.cells cs ty fz) := fun ⟨_, _, _, e, hm⟩ => by
  simp only [Obj.cells.injEq] at e
  rw [← e.2.1] at hm
  exact h hm
theorem Kept.set_ {ts : List TypeId} {w : World} {b i : Nat} {cs : Array Value} {ty : TypeId} (h : Blk w b cs ty) (hm : ty ∈ ts) (x : Value) : Kept ts w (w.setCell ⟨b, i, none⟩ x) :=
  Kept.of_grown (row := some b) ⟨rfl, rfl, rfl, by simp, fun k _ hk => Below.heap_setCell _ _ _ _ (by simp; intro e; exact hk (by rw [e]))⟩ (fun g hg => by
    simp only [Option.some.injEq] at hg; subst hg; exact bad_cells h hm)
/-- Four cells of a block are stored. -/
abbrev set4 (w : World) (b : Nat) (y0 y1 y2 y3 : Value) : World := (((w.setCell ⟨b, 0, none⟩ y0).setCell ⟨b, 1, none⟩ y1).setCell ⟨b, 2, none⟩ y2).setCell ⟨b, 3, none⟩ y3
theorem kept_set4 {w : World} {b : Nat} {x0 x1 x2 x3 : Value} {ty : TypeId} (h : Blk w b #[x0, x1, x2, x3] ty) (y0 y1 y2 y3 : Value) : Kept [ty] w (set4 w b y0 y1 y2 y3) ∧ Blk (set4 w b y0 y1 y2 y3) b #[y0, y1, y2, y3] ty :=
  ⟨(((Kept.set_ h (by simp) _).trans (Kept.set_ (h.set_ 0 y0) (by simp) _)).trans (Kept.set_ ((h.set_ 0 y0).set_ 1 y1) (by simp) _)).trans (Kept.set_ (((h.set_ 0 y0).set_ 1 y1).set_ 2 y2) (by simp) _), (((h.set_ 0 y0).set_ 1 y1).set_ 2 y2).set_ 3 y3⟩
theorem other_set4 {w : World} {b c : Nat} {cs : Array Value} {ty : TypeId} (h : Blk w c cs ty) (hn : c ≠ b) (y0 y1 y2 y3 : Value) : Blk (set4 w b y0 y1 y2 y3) c cs ty := (((h.other hn _).other hn _).other hn _).other hn _
theorem Kept.blk {ts : List TypeId} {w w' : World} {b : Nat} {cs : Array Value} {ty : TypeId} (h : Kept ts w w') (hb : Blk w b cs ty) (hn : ty ∉ ts) : Blk w' b cs ty := h.keep b _ hb (not_bad hn)
theorem Kept.row {ts : List TypeId} {w w' : World} {base : Nat} {e : TypeId} {size n : Nat} {v : Value} {xs : List Value} (h : Kept ts w w') (hr : w.ownsRow base e size v n xs) (hn : e ∉ ts) : w'.ownsRow base e size v n xs := by
  refine ⟨hr.1, ?_⟩
  rcases hr.2 with h1 | ⟨g, cap, cur, h1, h2, h3, h4⟩
  · exact Or.inl h1
  · exact Or.inr ⟨g, cap, cur, h1, h2, h.keep g _ h3 (not_bad hn), h4⟩
/-- A row grows, or turns: its block is of its type. -/
theorem Kept.of_row {ts : List TypeId} {w w' : World} {base : Nat} {e : TypeId} {size n : Nat} {v : Value} {xs : List Value} (hr : w.ownsRow base e size v n xs) (h : w.grownBy w' v.ownBlock) (hm : e ∈ ts) : Kept ts w w' :=
  Kept.of_grown h (fun g hg => by
    rcases hr.2 with ⟨h1, _⟩ | ⟨g', cap, cur, h1, h2, h3, h4⟩
    · rw [h1] at hg; simp [Value.ownBlock] at hg
    · rw [h1] at hg
      simp [Value.ownBlock] at hg
      subst hg
      exact ⟨_, h3, _, _, _, rfl, hm⟩)
theorem Kept.inner {ts : List TypeId} {w w' : World} {lo hi : Nat} {ps : List (R × Value)} (h : Kept ts w w') (hi' : Inner w lo hi ps) (hn : 3 ∉ ts) : Inner w' lo hi ps :=
  ⟨Nat.le_trans hi'.1 h.size, fun p hp => ⟨h.row (hi'.2.1 p hp).1 hn, (hi'.2.1 p hp).2⟩, hi'.2.2⟩
theorem Kept.own {ts : List TypeId} {w w' : World} {lo hi : Nat} {v : Value} {ps : List (R × Value)} (h : Kept ts w w') (ho : OwnRecs w lo hi v ps) (h1 : 94 ∉ ts) (hn : 3 ∉ ts) : OwnRecs w' lo hi v ps :=
  ⟨h.row ho.1 h1, ho.2.1, h.inner ho.2.2 hn⟩
theorem Kept.tinner {ts : List TypeId} {w w' : World} {lo hi : Nat} {ps : List (T.R × Value)} (h : Kept ts w w') (hi' : T.Inner w lo hi ps) (hn : 3 ∉ ts) : T.Inner w' lo hi ps :=
  ⟨Nat.le_trans hi'.1 h.size, fun p hp => ⟨h.row (hi'.2.1 p hp).1 hn, (hi'.2.1 p hp).2⟩, hi'.2.2⟩
theorem Kept.town {ts : List TypeId} {w w' : World} {lo hi : Nat} {v : Value} {ps : List (T.R × Value)} (h : Kept ts w w') (ho : T.OwnRecs w lo hi v ps) (h1 : 73 ∉ ts) (hn : 3 ∉ ts) : T.OwnRecs w' lo hi v ps :=
  ⟨h.row ho.1 h1, ho.2.1, h.tinner ho.2.2 hn⟩
theorem Kept.tmade {ts : List TypeId} {w w' : World} {lo : Nat} {v : Value} {rs : List T.R} (h : Kept ts w w') (ho : T.Made w lo v rs) (h1 : 73 ∉ ts) (hn : 3 ∉ ts) : T.Made w' lo v rs := by
  obtain ⟨ps, hp, o1, o2, o3⟩ := ho
  obtain ⟨q1, q2, q3⟩ := h.town ⟨o1, o2, o3⟩ h1 hn
  exact ⟨ps, hp, q1, fun k hk => Nat.lt_of_lt_of_le (q2 k hk) h.size, ⟨Nat.le_refl _, fun p hp => ⟨(q3.2.1 p hp).1, fun k hk => Nat.lt_of_lt_of_le ((q3.2.1 p hp).2 k hk) h.size⟩, q3.2.2⟩⟩
theorem Kept.bkn {ts : List TypeId} {W W' : World} {lo b N : Nat} {ws : List Wd} (hk : Kept ts W W') (h : BkN W lo b N ws) : BkN W' lo b N ws := by
  have mp : ∀ {B n : Nat} {k : TypeId} {H : Type} {Rr : Value → Option (DataW H × List MemPlace)} {D : DataW H}, W.ownsMap Tryd.prog k Rr B n D → W'.ownsMap Tryd.prog k Rr B n D := fun h => by
    obtain ⟨es, cl, hb, hr⟩ := h
    exact ⟨es, cl, hk.keep _ _ hb (fun ⟨_, _, _, e, _⟩ => by cases e), hr⟩
  obtain ⟨D, h0, h1, h2, h3⟩ := h
  refine ⟨D, h0, mp h1, fun t ht ht6 => ?_, h3⟩
  rcases h2 t ht ht6 with a | ⟨B, S, a1, a2, a3, a4, a5⟩
  · exact Or.inl a
  · exact Or.inr ⟨B, S, a1, a2, a3, mp a4, a5⟩
/-- What turns no block of cells keeps all of them. -/
theorem Cel.tmade {w w' : World} {lo : Nat} {v : Value} {rs : List T.R} (h : Cel w w') (ho : T.Made w lo v rs) : T.Made w' lo v rs := by
  obtain ⟨ps, hp, o1, o2, o3⟩ := ho
  exact ⟨ps, hp, h.row o1, fun k hk => Nat.lt_of_lt_of_le (o2 k hk) h.1, ⟨Nat.le_refl _, fun p hp => ⟨h.row (o3.2.1 p hp).1, fun k hk => Nat.lt_of_lt_of_le ((o3.2.1 p hp).2 k hk) h.1⟩, o3.2.2⟩⟩

/-- All blocks but those of S are as they were. -/
structure Turn (S : Nat → Prop) (w w' : World) : Prop where
  os : w'.os = w.os
  tape : w'.tape = w.tape
  output : w'.output = w.output
  size : w.heap.size ≤ w'.heap.size
  block : ∀ k, k < w.heap.size → ¬ S k → w'.heap[k]? = w.heap[k]?
theorem Turn.refl (S : Nat → Prop) (w : World) : Turn S w w := ⟨rfl, rfl, rfl, Nat.le_refl _, fun _ _ _ => rfl⟩
theorem Turn.trans {S : Nat → Prop} {a b c : World} (h : Turn S a b) (k : Turn S b c) : Turn S a c :=
  ⟨k.os.trans h.os, k.tape.trans h.tape, k.output.trans h.output, Nat.le_trans h.size k.size, fun x hx hn => by rw [k.block x (Nat.lt_of_lt_of_le hx h.size) hn]; exact h.block x hx hn⟩
theorem Turn.of_below {S : Nat → Prop} {w w' : World} (h : Below w.heap.size w w') : Turn S w w' := ⟨h.os, h.tape, h.output, h.size, fun k hk _ => h.block k hk⟩
theorem Turn.of_grown {S : Nat → Prop} {w w' : World} {row : Option Nat} (h : w.grownBy w' row) (hr : ∀ g, row = some g → S g) : Turn S w w' :=
  ⟨h.os, h.tape, h.output, h.size, fun k hk hn => h.block k hk (fun e => hn (hr k e.symm))⟩
theorem Turn.mono {S S' : Nat → Prop} {w w' : World} (h : Turn S w w') (hs : ∀ k, S k → S' k) : Turn S' w w' := ⟨h.os, h.tape, h.output, h.size, fun k hk hn => h.block k hk (fun e => hn (hs k e))⟩
/-- What is new may turn later. -/
theorem Turn.trans' {S S' : Nat → Prop} {a b c : World} (h : Turn S a b) (k : Turn S' b c) (hs : ∀ k, S' k → k < a.heap.size → S k) : Turn S a c :=
  ⟨k.os.trans h.os, k.tape.trans h.tape, k.output.trans h.output, Nat.le_trans h.size k.size, fun x hx hn => by rw [k.block x (Nat.lt_of_lt_of_le hx h.size) (fun e => hn (hs x e hx))]; exact h.block x hx hn⟩
theorem Turn.row {S : Nat → Prop} {w w' : World} {base : Nat} {e : TypeId} {size n : Nat} {v : Value} {xs : List Value} (h : Turn S w w') (hr : w.ownsRow base e size v n xs) (hn : ∀ g, v.ownBlock = some g → ¬ S g) : w'.ownsRow base e size v n xs := by
  refine ⟨hr.1, ?_⟩
  rcases hr.2 with h1 | ⟨g, cap, cur, h1, h2, h3, h4⟩
  · exact Or.inl h1
  · refine Or.inr ⟨g, cap, cur, h1, h2, ?_, h4⟩
    rw [h.block g (lt_of_heap h3) (hn g (by rw [h1]; rfl))]
    exact h3
theorem Turn.blk {S : Nat → Prop} {w w' : World} {b : Nat} {cs : Array Value} {ty : TypeId} (h : Turn S w w') (hb : Blk w b cs ty) (hn : ¬ S b) : Blk w' b cs ty := by
  unfold Blk; rw [h.block b hb.lt hn]; exact hb
theorem Turn.below {S : Nat → Prop} {w w' : World} {lo : Nat} (h : Turn S w w') (hs : ∀ k, S k → lo ≤ k) (hl : lo ≤ w.heap.size) : Below lo w w' := by
  refine (Below.refl lo w).trans ?_
  exact ⟨h.os, h.tape, h.output, h.size, fun k hk => h.block k (by omega) (fun e => by have := hs k e; omega)⟩
/-- A row of records, and their numbers in rows: a list of records. -/
theorem recs_of_rows {w : World} {base : Nat} {v : Value} {ps : List (R × Value)} (h : w.ownsRow base 94 3 v ps.length (flat ps)) (hi : ∀ p ∈ ps, Ints w p.2 p.1.2.2) : Recs w v (ps.map (·.1)) := by
  rcases h.2 with ⟨h1, h2⟩ | ⟨g, cap, cur, h1, h2, h3, h4, h5, h6, h7⟩
  · have : ps = [] := List.length_eq_zero_iff.1 h2
    subst this
    exact Or.inl ⟨rfl, none, 0, h1⟩
  · by_cases hne : ps = []
    · subst hne; exact Or.inl ⟨rfl, _, _, h1⟩
    · refine Or.inr ⟨g, 0, cap, by rw [h1]; simp, by simpa using hne, fun i r hir => ?_⟩
      simp only [List.getElem?_map, Option.map_eq_some_iff] at hir
      obtain ⟨p, hp, rfl⟩ := hir
      obtain ⟨f0, f1, f2⟩ := flat_get ps i p hp
      have cell : ∀ j x, (flat ps)[j]? = some x → w.cell? ⟨g, j, none⟩ = some x := fun j x hx => by
        rw [cell_of_row w _ _ _ _ _ h3]
        rw [← h7, List.getElem?_take] at hx
        split at hx
        · simpa using hx
        · cases hx
      exact ⟨p.2, by simpa using cell _ _ f0, by simpa using cell _ _ f1, by simpa using cell _ _ f2, hi p (List.mem_of_getElem? hp)⟩

end Go.Proofs.YtgknnigjlnfplaaDoor

namespace Go.Proofs.YtgknnigjlnfplaaDoor
open Go.RowKit

theorem news4 (w : World) (p : Wd) (ty : TypeId) : ∀ (j : Nat) (x : Value), [Value.int .i64 p.1, .int .i64 p.2.1, .int .i64 p.2.2.1, .int .i64 p.2.2.2][j]? = some x → (w.alloc (.cells #[.int .i64 p.1, .int .i64 p.2.1, .int .i64 p.2.2.1, .int .i64 p.2.2.2] ty)).cell? ((⟨w.heap.size, 0, none⟩ : Addr).add j) = some x := by
  intro j x hj
  match j, hj with
  | 0, hj => simp at hj; subst hj; simp [Addr.add]
  | 1, hj => simp at hj; subst hj; simp [Addr.add]
  | 2, hj => simp at hj; subst hj; simp [Addr.add]
  | 3, hj => simp at hj; subst hj; simp [Addr.add]
theorem one4 (p : Wd) : ∀ x ∈ [Value.int .i64 p.1, .int .i64 p.2.1, .int .i64 p.2.2.1, .int .i64 p.2.2.2], x.oneCell' = true := by
  intro x hx; simp at hx; rcases hx with rfl | rfl | rfl | rfl <;> rfl

/-- A clerk at work: its block, its desk's lists, its trips by all records and by those forced, its book. -/
structure Ck (w : World) (c lo hi : Nat) (up : Bool) (v : Value) (f : Int) (u all forced : Value) (b N : Nat) (ps : List (R × Value)) (rs : List R) (ws : List Wd) (ts fts : List T.R) : Prop where
  blk : Blk w c #[.bool up, v, .int .i64 f, u, all, forced, .map (some b)] 51
  map : ps.map (·.1) = rs
  own : DkOwn w lo hi v u ps ws
  all : T.Made w lo all ts
  frc : T.Made w lo forced fts
  bk : BkN w lo b N ws
theorem Ck.after {w w' : World} {c lo hi : Nat} {up : Bool} {v : Value} {f : Int} {u all forced : Value} {b N : Nat} {ps : List (R × Value)} {rs : List R} {ws : List Wd} {ts fts : List T.R} (h : Ck w c lo hi up v f u all forced b N ps rs ws ts fts) (hb : Below w.heap.size w w') : Ck w' c lo hi up v f u all forced b N ps rs ws ts fts :=
  ⟨h.blk.after hb, h.map, h.own.below hb h.own.1, h.all.below hb (Nat.le_refl _), h.frc.below hb (Nat.le_refl _), h.bk.after hb⟩
theorem Ck.cl {w : World} {c lo hi : Nat} {up : Bool} {v : Value} {f : Int} {u all forced : Value} {b N : Nat} {ps : List (R × Value)} {rs : List R} {ws : List Wd} {ts fts : List T.R} (h : Ck w c lo hi up v f u all forced b N ps rs ws ts fts) : ClAt w c lo hi up v f u all forced (some b) ps rs ws ts := ⟨h.blk, h.map, h.own, h.all⟩

theorem words_one (w : World) (p : Wd) : Words (w.alloc (.cells #[.int .i64 p.1, .int .i64 p.2.1, .int .i64 p.2.2.1, .int .i64 p.2.2.2] 58)) (.slice (some ⟨w.heap.size, 0, none⟩) 1 1) [p] := by
  refine Or.inr ⟨w.heap.size, 0, 1, rfl, by simp, fun k hk => ?_⟩
  obtain rfl : k = 0 := by simpa using hk
  exact (Blk.new w #[.int .i64 p.1, .int .i64 p.2.1, .int .i64 p.2.2.1, .int .i64 p.2.2.2] 58).cells4
theorem box_kept {w w' : World} {b : Nat} {x0 x1 x2 x3 : Value} {ty : TypeId} {row : Option Nat} (h : Blk w b #[x0, x1, x2, x3] ty) (hg : w.grownBy w' row) (hn : row ≠ some b) : w'.cell? ⟨b, 0, none⟩ = some x0 ∧ w'.cell? ⟨b, 1, none⟩ = some x1 ∧ w'.cell? ⟨b, 2, none⟩ = some x2 ∧ w'.cell? ⟨b, 3, none⟩ = some x3 :=
  (h.grown hg (fun e => hn e.symm)).cells4
theorem Cel.dkown {w w' : World} {lo hi : Nat} {v u : Value} {ps : List (R × Value)} {ws : List Wd} (h : Cel w w') (ho : DkOwn w lo hi v u ps ws) : DkOwn w' lo hi v u ps ws := by
  obtain ⟨h0, l, t, h1, h2, h3, h4, h5⟩ := ho
  exact ⟨Nat.le_trans h0 h.1, l, t, h1, h2, h.own h3, h.row h4, h5⟩
theorem store_held {w : World} {c b : Nat} {x0 x1 x2 x3 x4 x5 x6 y : Value} {z0 z1 z2 z3 : Value} {ty : TypeId} (hc : Blk w c #[x0, x1, x2, x3, x4, x5, x6] ty) (hx : w.cell? ⟨b, 0, none⟩ = some z0 ∧ w.cell? ⟨b, 1, none⟩ = some z1 ∧ w.cell? ⟨b, 2, none⟩ = some z2 ∧ w.cell? ⟨b, 3, none⟩ = some z3) (hn : c ≠ b) :
    ((w.setCell ⟨c, 3, none⟩ y).cell? ⟨c, 0, none⟩ = some x0 ∧ (w.setCell ⟨c, 3, none⟩ y).cell? ⟨c, 1, none⟩ = some x1 ∧ (w.setCell ⟨c, 3, none⟩ y).cell? ⟨c, 2, none⟩ = some x2 ∧ (w.setCell ⟨c, 3, none⟩ y).cell? ⟨c, 4, none⟩ = some x4 ∧ (w.setCell ⟨c, 3, none⟩ y).cell? ⟨c, 5, none⟩ = some x5 ∧ (w.setCell ⟨c, 3, none⟩ y).cell? ⟨c, 6, none⟩ = some x6) ∧
    ((w.setCell ⟨c, 3, none⟩ y).cell? ⟨b, 0, none⟩ = some z0 ∧ (w.setCell ⟨c, 3, none⟩ y).cell? ⟨b, 1, none⟩ = some z1 ∧ (w.setCell ⟨c, 3, none⟩ y).cell? ⟨b, 2, none⟩ = some z2 ∧ (w.setCell ⟨c, 3, none⟩ y).cell? ⟨b, 3, none⟩ = some z3) := by
  have h := (hc.set_ 3 y).cells7
  refine ⟨⟨h.1, h.2.1, h.2.2.1, h.2.2.2.2⟩, ?_⟩
  have e : ∀ i, (w.setCell ⟨c, 3, none⟩ y).cell? ⟨b, i, none⟩ = w.cell? ⟨b, i, none⟩ := fun i => World.cell?_of_block (Below.heap_setCell _ _ _ _ (fun h => hn h.symm))
  rw [e, e, e, e]
  exact hx
def NtOut (w w' : World) (e : Ending) (c lo : Nat) (up : Bool) (v : Value) (f : Int) (all forced : Value) (b : Nat) (ps : List (R × Value)) (rs : List R) (ws : List Wd) (ts fts : List T.R) (p : Wd) : Prop :=
  e = .returned (.tuple #[]) ∧ ∃ au cu N, Ck w' c lo w'.heap.size up v f (.slice au (hearW ws p).length cu) all forced b N ps rs (hearW ws p) ts fts ∧ Below lo w w'

/-- Words that a desk was told, one more. -/
theorem told_more {w w2 w3 : World} {c lo hi : Nat} {v u u' x0 x1 x2 x4 x5 x6 : Value} {ps : List (R × Value)} {ws : List Wd} {p : Wd} (hw : Below w.heap.size w w2) (ho : DkOwn w lo hi v u ps ws) (hlo : lo ≤ w.heap.size)
    (hc : Blk w2 c #[x0, x1, x2, u, x4, x5, x6] 51)
    (hown : w3.ownsRow lo 58 4 u' (ws.length + 1) (wflat ws ++ [.int .i64 p.1, .int .i64 p.2.1, .int .i64 p.2.2.1, .int .i64 p.2.2.2])) (hg : w2.grownBy w3 u.ownBlock) (loc : u'.ownBlock = u.ownBlock ∨ u'.ownBlock = some w2.heap.size) :
    DkOwn (w3.setCell ⟨c, 3, none⟩ u') lo (w3.setCell ⟨c, 3, none⟩ u').heap.size v u' ps (ws ++ [p]) ∧ Kept [58, 51] w2 (w3.setCell ⟨c, 3, none⟩ u') ∧ Blk (w3.setCell ⟨c, 3, none⟩ u') c #[x0, x1, x2, u', x4, x5, x6] 51 ∧ Below lo w w3 := by
  obtain ⟨h0, l, t, h1, h2, h3, h4, h5⟩ := ho
  have o2 := h3.below hw (Nat.le_trans h2 h0)
  have r2 := ownsRow_below h4 hw (fun k hk => by have := (h5 k hk).1; omega)
  have k1 : Kept [58] w2 w3 := Kept.of_row r2 hg (by decide)
  have c3 := k1.blk hc (by decide)
  have k2 : Kept [51] w3 (w3.setCell ⟨c, 3, none⟩ u') := Kept.set_ c3 (by decide) _
  have hrow : w3.ownsRow lo 58 4 u' (ws ++ [p]).length (wflat (ws ++ [p])) := by
    rw [wflat_append]; simpa [wflat] using hown
  have r4 := k2.row hrow (by decide)
  have o4 := k2.own (k1.own o2 (by decide) (by decide)) (by decide) (by decide)
  have hz : (w3.setCell ⟨c, 3, none⟩ u').heap.size = w3.heap.size := by simp
  have hs := hg.size
  have hw2 := hw.size
  refine ⟨⟨Nat.le_refl _, l, t, h1, by omega, o4, r4, fun g hgg => ?_⟩, (k1.mono (by decide)).trans (k2.mono (by decide)), ?_, ?_⟩
  · have hlt := (r4.lt g hgg).2
    refine ⟨hlt, ?_⟩
    rcases loc with e | e
    · exact (h5 g (by rw [← e]; exact hgg)).2
    · rw [e] at hgg
      simp only [Option.some.injEq] at hgg
      right; omega
  · exact c3.set_ 3 u'
  · exact (hw.mono hlo).grown hg (by omega) (fun j hj => (h4.lt j hj).1)

end Go.Proofs.YtgknnigjlnfplaaDoor

namespace Go.Proofs.YtgknnigjlnfplaaDoor
open Go.RowKit

/-- Words come back, in memory of the call's own. -/
def WsO (w w' : World) (e : Ending) (hs : List Wd) : Prop :=
  ∃ ao cap, e = .returned (.slice ao hs.length cap) ∧ w'.ownsRow w.heap.size 58 4 (.slice ao hs.length cap) hs.length (wflat hs) ∧ Below w.heap.size w w'
theorem row_new0 (w : World) (o : Obj) : ((w.alloc o).alloc (.cells #[] 58)).ownsRow (w.heap.size + 1) 58 4 (.slice (some ⟨w.heap.size + 1, 0, none⟩) 0 0) 0 (wflat []) := by
  have h := World.ownsRow_lit (base := w.heap.size + 1) (e := 58) (size := 4) (w.alloc o) #[] 0 (by simp) (by unfold maxLen; omega) rfl
  simpa [wflat] using h
theorem news4s (w : World) (a : Addr) (x : Value) (p : Wd) (ty : TypeId) : ∀ (j : Nat) (y : Value), [Value.int .i64 p.1, .int .i64 p.2.1, .int .i64 p.2.2.1, .int .i64 p.2.2.2][j]? = some y → ((w.setCell a x).alloc (.cells #[.int .i64 p.1, .int .i64 p.2.1, .int .i64 p.2.2.1, .int .i64 p.2.2.2] ty)).cell? ((⟨w.heap.size, 0, none⟩ : Addr).add j) = some y := by
  have h := news4 (w.setCell a x) p ty
  have e : (w.setCell a x).heap.size = w.heap.size := by simp
  rw [e] at h
  exact h
theorem len_of {hs : List Wd} {N : Nat} (h : Hid (hs.length = N)) : hs.length = N := h

set_option maxRecDepth 100000 in
set_option maxHeartbeats 8000000 in
theorem l13Words_up (v u : Value) (rs : List R) (f : Int) (ws : List Wd) (w : World) (hv : DkIn w v u rs ws) (hl : tot rs ≤ 1048576) (hlw : ws.length ≤ 1048576) (h0 : 0 ≤ f) (h1 : f ≤ rs.length)
    (hT : ∀ k h t : Int, 4 ≤ k → k ≤ 7 → 1 ≤ h → h ≤ 3 → 1 ≤ t → t ≤ (T.ofO (rs.take f.toNat)).length → told ws k h t = ws.contains (k, h, t, 0)) :
    Calls Tryd.prog 16 #[deskV true v f u] w fun e w' => WsO w w' e (sayD ws (T.ofO (rs.take f.toNat))) := by
  obtain ⟨i0, hi, hz0, hz1, hz2⟩ := info_parts infoWord
  obtain ⟨ts, hts⟩ : ∃ ts, T.ofO (rs.take f.toNat) = ts := ⟨_, rfl⟩
  have hS : Sound ts := hts ▸ ofO_sound _
  have HV : Hid (∀ W, Below w.heap.size w W → DkIn W v u rs ws) := fun W h => hv.later h (Nat.le_refl _)
  have HTR : Hid (∀ (W : World), Below w.heap.size w W → Calls Tryd.prog 30 #[deskV true v f u, .bool true] W fun e w' => TrL W w' e ts) := fun W h => by
    have := l13Trips_any true v u rs f ws true W (HV.out W h) hl h0 h1
    rw [show cutF rs f true = rs.take f.toNat from rfl, hts] at this
    exact this
  rw [hts] at hT ⊢
  have HT := hide_it hT
  obtain ⟨av, cv, au, cu, rfl, rfl⟩ := hv.1.shape
  have HTO : Hid (∀ (p : Wd) (W : World), Below w.heap.size w W → Calls Tryd.prog 29 #[.slice au ws.length cu, wordV p.1 p.2.1 p.2.2.1 p.2.2.2] W fun e w' => e = .returned (.bool (ws.contains p)) ∧ Below W.heap.size W w') := fun p W hb =>
    l13Told_any _ ws p W (HV.out W hb).1.2 hlw
  have h6 := hS.fit.1
  clear hv hT hl h0 h1 hts
  obtain ⟨w0, hw0⟩ : ∃ W, Hid (W = ((w.alloc (.cells #[.bool true, .slice av rs.length cv, .int .i64 f, .slice au ws.length cu] 35)).alloc (.cells #[] 58))) := ⟨_, rfl⟩
  have B0 : Hid (Below w.heap.size w w0) := by show Below _ _ _; rw [hw0.out]; exact below2 _ _ _
  have X0 : Hid (Blk w0 w.heap.size #[.bool true, .slice av rs.length cv, .int .i64 f, .slice au ws.length cu] 35) := by show Blk _ _ _ _; rw [hw0.out]; exact (Blk.new _ _ _).alloc _
  have R0 : Hid (w0.ownsRow (w.heap.size + 1) 58 4 (.slice (some ⟨w.heap.size + 1, 0, none⟩) 0 0) 0 (wflat [])) := by show World.ownsRow _ _ _ _ _ _ _; rw [hw0.out]; exact row_new0 _ _
  go_enter Tryd.func16, Tryd.ntmps16
  go_wp2_with fail
  rw [← hw0.out]
  refine (HTR.out _ B0.out).mono ?_
  rintro e w1 ⟨a1, c1, rfl, hm1, hb1⟩
  have X1 := hide_it (X0.out.after hb1)
  have R1 := hide_it (ownsRow_below R0.out hb1 (fun k hk => (R0.out.lt k hk).2))
  have M1 := hide_it hm1
  have B1 := hide_it (B0.out.trans (hb1.mono B0.out.size))
  have hL1 : w.heap.size + 1 ≤ w1.heap.size := by have := X1.out.lt; omega
  clear hb1 hm1 R0 B0 X0
  go_wp2_with fail
  go_loopg [3, 5] ts.length (fun g o i wr => ∃ (q N : Nat) (ao : Option Addr) (co : Nat), q ≤ ts.length ∧ g = ts.length - q ∧ i = .int .i64 q ∧ o = .slice ao N co ∧ Hid ((sayN ws ts q).length = N ∧ wr.ownsRow (w.heap.size + 1) 58 4 (.slice ao N co) N (wflat (sayN ws ts q))) ∧ Hid (Kept [58] w1 wr) ∧ Hid (Below (w.heap.size + 1) w1 wr))
  case atStart => exact ⟨0, 0, _, _, Nat.zero_le _, rfl, rfl, rfl, ⟨rfl, R1.out⟩, Kept.refl _ _, Below.refl _ _⟩
  case round =>
    obtain ⟨q, N, ao, co, hq, rfl, rfl, rfl, HR, HK, HB⟩ := hrel
    by_cases hlt : q < ts.length
    · obtain ⟨⟨zs, s⟩, hg⟩ : ∃ r, ts[q]? = some r := ⟨_, List.getElem?_eq_getElem hlt⟩
      have hs := hS.st _ (List.mem_of_getElem? hg)
      have hz3 : zs.length = 3 := hS.fit.2 _ (List.mem_of_getElem? hg)
      have hzn := hide_it (hS.nn _ (List.mem_of_getElem? hg))
      have TC : Hid (∀ W, Kept [58] w1 W → ∃ b1 off cap az oz cz, a1 = some ⟨b1, off, none⟩ ∧ c1 = cap ∧ W.cell? ⟨b1, off + q * 2, none⟩ = some (.slice (some ⟨az, oz, none⟩) 3 cz) ∧ W.cell? ⟨b1, off + q * 2 + 1, none⟩ = some (.int .i64 s) ∧ ∀ k, k < 3 → W.cell? ⟨az, oz + k, none⟩ = some (.int .i64 (zs.getD k 0))) := fun W hk => by
        obtain ⟨b1, off, cap, uz, hav, r0, r1, rI⟩ := trip_cell (hk.tmade M1.out (by decide) (by decide)).recs hg
        simp only [Value.slice.injEq] at hav
        obtain ⟨az, oz, cz, rfl, hc⟩ := ints_cell rI (by intro e; simp only at e; rw [e] at hz3; simp at hz3)
        simp only at r0 hc
        rw [hz3] at r0 hc
        exact ⟨b1, off, cap, az, oz, cz, hav.1, hav.2.2, r0, r1, hc⟩
      have HN := hide_it (sayN_succ (ws := ws) hg)
      have HI : Hid (sayN ws ts q ++ sayK ws ((q : Int) + 1) s zs (wantsK zs 0) = sayN ws ts q) := by show _ = _; rw [wantsK_zero, sayK_nil, List.append_nil]
      obtain ⟨b1, off, cap, az, oz, cz, rfl, rfl, r0, r1, -⟩ := TC.out wr HK.out
      by_cases h3 : 3 < s
      · have HE : Hid (sayN ws ts (q + 1) = sayN ws ts q) := by show _ = _; rw [HN.out]; unfold sayT talkA; rw [if_pos (by simp only; rw [if_neg (by omega), if_neg (by omega), if_neg (by omega)]), List.append_nil]
        go_wp2
        go_roundg (ts.length - (q + 1))
        case measure => omega
        case rel => exact ⟨q + 1, N, ao, co, by omega, rfl, by go_num, rfl, by rw [HE.out]; exact HR.out, HK, HB⟩
      · have s123 : s = 1 ∨ s = 2 ∨ s = 3 := by omega
        clear hs h3
        have HF : Hid (sayN ws ts (q + 1) = sayN ws ts q ++ sayK ws ((q : Int) + 1) s zs (wantsK zs 3)) := by show _ = _; rw [HN.out]; unfold sayT; rw [if_neg (by unfold talkA; rcases s123 with rfl | rfl | rfl <;> simp)]; unfold wants; rw [hz3]
        rcases s123 with rfl | rfl | rfl
        · go_wp2_with fail
          go_loopg [3, 6] 3 (fun g o i wi => ∃ (p N : Nat) (ao : Option Addr) (co : Nat), p ≤ 3 ∧ g = 3 - p ∧ i = .int .i64 p ∧ o = .slice ao N co ∧ Hid ((sayN ws ts q ++ sayK ws ((q : Int) + 1) 1 zs (wantsK zs p)).length = N ∧ wi.ownsRow (w.heap.size + 1) 58 4 (.slice ao N co) N (wflat (sayN ws ts q ++ sayK ws ((q : Int) + 1) 1 zs (wantsK zs p)))) ∧ Hid (Kept [58] w1 wi) ∧ Hid (Below (w.heap.size + 1) w1 wi))
          case atStart => exact ⟨0, N, ao, co, by omega, rfl, rfl, rfl, by rw [HI.out]; exact HR.out, HK, HB⟩
          case round =>
            obtain ⟨p, N2, ao2, co2, hp, rfl, rfl, rfl, HR2, HK2, HB2⟩ := hrel
            obtain ⟨LL, hLL⟩ : ∃ x, Hid (sayN ws ts q ++ sayK ws ((q : Int) + 1) 1 zs (wantsK zs p) = x) := ⟨_, rfl⟩
            rw [hLL.out] at HR2
            clear r0 r1
            by_cases hp3 : p < 3
            · obtain ⟨b2, off2, cap2, az2, oz2, cz2, hbe, -, r0, r1, rz⟩ := TC.out wr HK2.out
              simp only [Option.some.injEq, Addr.mk.injEq, and_true] at hbe
              obtain ⟨rfl, rfl⟩ := hbe
              obtain ⟨z, hz⟩ : ∃ z, zs.getD p 0 = z := ⟨_, rfl⟩
              have z0 := rz p hp3
              rw [hz] at z0
              have hznn : 0 ≤ z := by
                have := hzn.out z (by rw [← hz, List.getD_eq_getElem?_getD, List.getElem?_eq_getElem (by omega)]; exact List.getElem_mem _)
                exact this.1
              have k0 := fun x => cellAlloc r0 x
              have k1 := fun x => cellAlloc r1 x
              have kz := fun x => cellAlloc z0 x
              have l0 := fun x y => cellAlloc (cellAlloc r0 x) y
              have l1 := fun x y => cellAlloc (cellAlloc r1 x) y
              have lz := fun x y => cellAlloc (cellAlloc z0 x) y
              have X2 := hide_it (HK2.out.blk X1.out (by decide))
              obtain ⟨x0, x1, x2, x3⟩ := X2.out.cells4
              have m3 := fun x y => cellAlloc (cellAlloc x3 x) y
              have hxl := X2.out.lt
              clear rz x0 x1 x2
              by_cases hz0 : z = 0
              · have HW : Hid (wantsK zs (p + 1) = wantsK zs p) := wantsK_no (by rw [hz]; omega)
                clear hz
                subst hz0
                go_wp2
                go_roundg (3 - (p + 1))
                case measure => omega
                case rel => exact ⟨p + 1, N2, ao2, co2, by omega, rfl, by go_num, rfl, by rw [HW.out, hLL.out]; exact ⟨HR2.out.1, (HR2.out.2.alloc _).alloc _⟩, HK2.out.trans (Kept.of_below (below2 _ _ _)), HB2.out.trans ((below2 _ _ _).mono (by have := HB2.out.size; omega))⟩
              · have HW : Hid (wantsK zs (p + 1) = wantsK zs p ++ [((p : Nat) : Int) + 1]) := wantsK_yes (by rw [hz]; omega)
                have hzb : (z == 0) = false := by simpa using hz0
                have HTE := hide_it (HT.out 4 ((p : Int) + 1) ((q : Int) + 1) (by decide) (by decide) (by omega) (by omega) (by omega) (by omega))
                rename World => wi
                obtain ⟨w3, hw3⟩ : ∃ W, Hid (W = ((wi.alloc (.cells #[.int .i64 1, .int .i64 ((p : Int) + 1), .int .i64 ((q : Int) + 1), .int .i64 0] 58)).alloc (.cells #[.int .i64 0, .int .i64 4, .int .i64 6, .int .i64 7] 3))) := ⟨_, rfl⟩
                have A3 : Hid (Below wi.heap.size wi w3) := by show Below _ _ _; rw [hw3.out]; exact below2 _ _ _
                have XW : Hid (Blk w3 wi.heap.size #[.int .i64 1, .int .i64 ((p : Int) + 1), .int .i64 ((q : Int) + 1), .int .i64 0] 58) := by show Blk _ _ _ _; rw [hw3.out]; exact (Blk.new _ _ _).alloc _
                have HCC := hide_it (HTO.out (4, (p : Int) + 1, (q : Int) + 1, 0) w3 (B1.out.trans ((HB2.out.trans (A3.out.mono (by have := HB2.out.size; omega))).mono (by omega))))
                obtain ⟨bb, hbb⟩ : ∃ x, ws.contains (4, (p : Int) + 1, (q : Int) + 1, 0) = x := ⟨_, rfl⟩
                rw [hbb] at HTE HCC
                have HS : Hid (sayN ws ts q ++ sayK ws ((q : Int) + 1) 1 zs (wantsK zs (p + 1)) = LL ++ (if bb = true then [] else [sayW 1 ((q : Int) + 1) zs ((p : Int) + 1)])) := by
                  show _ = _
                  rw [HW.out, sayK_snoc, show talkB 1 = 4 from rfl, HTE.out, ← List.append_assoc, hLL.out]
                have HS1 : Hid (∀ c, bb = c → sayN ws ts q ++ sayK ws ((q : Int) + 1) 1 zs (wantsK zs (p + 1)) = LL ++ (bif c then [] else [(1, (p : Int) + 1, (q : Int) + 1, z)])) := fun c e => by
                  rw [HS.out, e]
                  cases c
                  · rw [if_neg (by decide)]
                    show _ ++ [((1 : Int), (p : Int) + 1, (q : Int) + 1, if (1 : Int) = 1 then zs.getD (((p : Int) + 1) - 1).toNat 0 else 0)] = _
                    rw [if_pos rfl, show ((p : Int) + 1 - 1).toNat = p by omega, hz]
                    rfl
                  · rfl
                have HSX := hide_it (HS1.out bb rfl)
                clear HS1
                clear HS
                clear hbb hz0 HW HTE
                go_wp2_with fail
                rw [← hw3.out]
                refine HCC.out.mono ?_
                rintro e w4 ⟨rfl, hb⟩
                have A4 := hide_it (A3.out.trans (hb.mono A3.out.size))
                have XW4 := hide_it (XW.out.after hb)
                clear hb k0 k1 kz l0 l1 lz m3 x3
                cases bb
                · have HSF : Hid (sayN ws ts q ++ sayK ws ((q : Int) + 1) 1 zs (wantsK zs (p + 1)) = LL ++ [(1, (p : Int) + 1, (q : Int) + 1, z)]) := HSX.out
                  obtain ⟨d0, d1, d2, d3⟩ := XW4.out.cells4
                  have f3 := XW4.out.free 3
                  obtain ⟨b3, off3, cap3, az3, oz3, cz3, hbe, -, r0, r1, rz⟩ := TC.out w4 (HK2.out.trans (Kept.of_below A4.out))
                  simp only [Option.some.injEq, Addr.mk.injEq, and_true] at hbe
                  obtain ⟨rfl, rfl⟩ := hbe
                  have z0 := rz p hp3
                  rw [hz] at z0
                  clear rz
                  have W5 : Hid (Kept [58] w4 (w4.setCell ⟨wi.heap.size, 3, none⟩ (.int .i64 z)) ∧ Below (w.heap.size + 1) w4 (w4.setCell ⟨wi.heap.size, 3, none⟩ (.int .i64 z)) ∧ (w4.setCell ⟨wi.heap.size, 3, none⟩ (.int .i64 z)).ownsRow (w.heap.size + 1) 58 4 (.slice ao2 N2 co2) N2 (wflat LL)) := ⟨Kept.set_ XW4.out (by decide) _, Below.setCell (Below.refl _ _) (by have := HB2.out.size; simp; omega) _, ownsRow_mid (ownsRow_below HR2.out.2 A4.out (fun k hk => (HR2.out.2.lt k hk).2)) (Mid.one _) (fun k hk => Or.inl (HR2.out.2.lt k hk).2)⟩
                  have RW5 : Hid (∀ o, ((w4.setCell ⟨wi.heap.size, 3, none⟩ (.int .i64 z)).alloc o).ownsRow (w.heap.size + 1) 58 4 (.slice ao2 N2 co2) N2 (wflat LL)) := fun o => W5.out.2.2.alloc o
                  have hN2 : N2 ≤ 1000 := by
                    have h1 := sayN_len (ws := ws) hS.fit q (by omega)
                    have h2 := sayK_len ws ((q : Int) + 1) 1 zs (wantsK zs p)
                    have h3 := wantsK_len zs p
                    have h4 := HR2.out.1
                    have h5 := congrArg List.length hLL.out
                    rw [List.length_append] at h5
                    omega
                  have hw5 : w.heap.size + 1 ≤ (w4.setCell ⟨wi.heap.size, 3, none⟩ (.int .i64 z)).heap.size := by have := W5.out.2.1.size; have := A4.out.size; have := HB2.out.size; omega
                  have hw6 : w.heap.size + 1 ≤ w4.heap.size := by have := A4.out.size; have := HB2.out.size; omega
                  have BB5 : Hid (Below (w.heap.size + 1) w1 (w4.setCell ⟨wi.heap.size, 3, none⟩ (.int .i64 z))) := HB2.out.trans ((A4.out.mono (by have := HB2.out.size; omega)).trans W5.out.2.1)
                  clear HSX HCC hLL HI HF HN
                  go_wp2_with (at_builtin; go_loud (refine wpList_append_own _ rfl _ _ 29 rfl (w.heap.size + 1) 58 i0 (.agg #[.int .i64 0, .int .i64 0, .int .i64 0, .int .i64 0]) 4 32 Tryd.underlying29 hi hz0 hz1 hz2 rfl (by decide) (.slice ao2 N2 co2) N2 (wflat LL) rfl (RW5.out _) ⟨w4.heap.size, 0, none⟩ 1 1 [.int .i64 1, .int .i64 ((p : Int) + 1), .int .i64 ((q : Int) + 1), .int .i64 z] rfl rfl (news4s w4 _ _ (1, (p : Int) + 1, (q : Int) + 1, z) _) (one4 (1, (p : Int) + 1, (q : Int) + 1, z)) ?c3 ?c4 ?c5 ?_))
                  case c3 => unfold maxLen; omega
                  case c4 => omega
                  case c5 => have := hw6; simp; omega
                  intro v' w6 hown hgrow _
                  have hown2 : w6.ownsRow (w.heap.size + 1) 58 4 v' (N2 + 1) (wflat (LL ++ [(1, (p : Int) + 1, (q : Int) + 1, z)])) := by simpa [wflat, wflat_append] using hown
                  have B6 : Hid (Below (w.heap.size + 1) w1 w6) := (BB5.out.alloc hw5 _).grown hgrow (by have := hw6; simp; omega) (fun j hj => ((RW5.out (.cells #[] 58)).lt j hj).1)
                  have K6 : Hid (Kept [58] w1 w6) := HK2.out.trans ((Kept.of_below A4.out).trans (W5.out.1.trans ((Kept.of_below (alloc_below _ _)).trans (Kept.of_row (RW5.out _) hgrow (by decide)))))
                  obtain ⟨ao6, co6, rfl⟩ := row_shape' hown2
                  have R6 := hide_it hown2
                  clear hown hown2 hgrow
                  go_wp2
                  go_roundg (3 - (p + 1))
                  case measure => omega
                  case rel => exact ⟨p + 1, N2 + 1, ao6, co6, by omega, rfl, by go_num, rfl, by rw [HSF.out]; exact ⟨by rw [List.length_append, HR2.out.1]; rfl, R6.out⟩, K6, B6⟩
                · go_wp2
                  go_roundg (3 - (p + 1))
                  case measure => omega
                  case rel => exact ⟨p + 1, N2, ao2, co2, by omega, rfl, by go_num, rfl, by rw [show sayN ws ts q ++ sayK ws ((q : Int) + 1) 1 zs (wantsK zs (p + 1)) = LL from HSX.out.trans (List.append_nil _)]; exact ⟨HR2.out.1, ownsRow_below HR2.out.2 A4.out (fun k hk => (HR2.out.2.lt k hk).2)⟩, HK2.out.trans (Kept.of_below A4.out), HB2.out.trans (A4.out.mono (by have := HB2.out.size; omega))⟩
            · have hpe : p = 3 := by omega
              subst hpe
              go_wp2
              go_roundg (ts.length - (q + 1))
              case measure => omega
              case rel => exact ⟨q + 1, N2, ao2, co2, by omega, rfl, by go_num, rfl, by rw [HF.out, hLL.out]; exact HR2.out, HK2, HB2⟩
        · go_wp2_with fail
          go_loopg [3, 6] 3 (fun g o i wi => ∃ (p N : Nat) (ao : Option Addr) (co : Nat), p ≤ 3 ∧ g = 3 - p ∧ i = .int .i64 p ∧ o = .slice ao N co ∧ Hid ((sayN ws ts q ++ sayK ws ((q : Int) + 1) 2 zs (wantsK zs p)).length = N ∧ wi.ownsRow (w.heap.size + 1) 58 4 (.slice ao N co) N (wflat (sayN ws ts q ++ sayK ws ((q : Int) + 1) 2 zs (wantsK zs p)))) ∧ Hid (Kept [58] w1 wi) ∧ Hid (Below (w.heap.size + 1) w1 wi))
          case atStart => exact ⟨0, N, ao, co, by omega, rfl, rfl, rfl, by rw [HI.out]; exact HR.out, HK, HB⟩
          case round =>
            obtain ⟨p, N2, ao2, co2, hp, rfl, rfl, rfl, HR2, HK2, HB2⟩ := hrel
            obtain ⟨LL, hLL⟩ : ∃ x, Hid (sayN ws ts q ++ sayK ws ((q : Int) + 1) 2 zs (wantsK zs p) = x) := ⟨_, rfl⟩
            rw [hLL.out] at HR2
            clear r0 r1
            by_cases hp3 : p < 3
            · obtain ⟨b2, off2, cap2, az2, oz2, cz2, hbe, -, r0, r1, rz⟩ := TC.out wr HK2.out
              simp only [Option.some.injEq, Addr.mk.injEq, and_true] at hbe
              obtain ⟨rfl, rfl⟩ := hbe
              obtain ⟨z, hz⟩ : ∃ z, zs.getD p 0 = z := ⟨_, rfl⟩
              have z0 := rz p hp3
              rw [hz] at z0
              have hznn : 0 ≤ z := by
                have := hzn.out z (by rw [← hz, List.getD_eq_getElem?_getD, List.getElem?_eq_getElem (by omega)]; exact List.getElem_mem _)
                exact this.1
              have k0 := fun x => cellAlloc r0 x
              have k1 := fun x => cellAlloc r1 x
              have kz := fun x => cellAlloc z0 x
              have l0 := fun x y => cellAlloc (cellAlloc r0 x) y
              have l1 := fun x y => cellAlloc (cellAlloc r1 x) y
              have lz := fun x y => cellAlloc (cellAlloc z0 x) y
              have X2 := hide_it (HK2.out.blk X1.out (by decide))
              obtain ⟨x0, x1, x2, x3⟩ := X2.out.cells4
              have m3 := fun x y => cellAlloc (cellAlloc x3 x) y
              have hxl := X2.out.lt
              clear rz x0 x1 x2
              by_cases hz0 : z = 0
              · have HW : Hid (wantsK zs (p + 1) = wantsK zs p) := wantsK_no (by rw [hz]; omega)
                clear hz
                subst hz0
                go_wp2
                go_roundg (3 - (p + 1))
                case measure => omega
                case rel => exact ⟨p + 1, N2, ao2, co2, by omega, rfl, by go_num, rfl, by rw [HW.out, hLL.out]; exact ⟨HR2.out.1, (HR2.out.2.alloc _).alloc _⟩, HK2.out.trans (Kept.of_below (below2 _ _ _)), HB2.out.trans ((below2 _ _ _).mono (by have := HB2.out.size; omega))⟩
              · have HW : Hid (wantsK zs (p + 1) = wantsK zs p ++ [((p : Nat) : Int) + 1]) := wantsK_yes (by rw [hz]; omega)
                have hzb : (z == 0) = false := by simpa using hz0
                have HTE := hide_it (HT.out 6 ((p : Int) + 1) ((q : Int) + 1) (by decide) (by decide) (by omega) (by omega) (by omega) (by omega))
                rename World => wi
                obtain ⟨w3, hw3⟩ : ∃ W, Hid (W = ((wi.alloc (.cells #[.int .i64 2, .int .i64 ((p : Int) + 1), .int .i64 ((q : Int) + 1), .int .i64 0] 58)).alloc (.cells #[.int .i64 0, .int .i64 4, .int .i64 6, .int .i64 7] 3))) := ⟨_, rfl⟩
                have A3 : Hid (Below wi.heap.size wi w3) := by show Below _ _ _; rw [hw3.out]; exact below2 _ _ _
                have XW : Hid (Blk w3 wi.heap.size #[.int .i64 2, .int .i64 ((p : Int) + 1), .int .i64 ((q : Int) + 1), .int .i64 0] 58) := by show Blk _ _ _ _; rw [hw3.out]; exact (Blk.new _ _ _).alloc _
                have HCC := hide_it (HTO.out (6, (p : Int) + 1, (q : Int) + 1, 0) w3 (B1.out.trans ((HB2.out.trans (A3.out.mono (by have := HB2.out.size; omega))).mono (by omega))))
                obtain ⟨bb, hbb⟩ : ∃ x, ws.contains (6, (p : Int) + 1, (q : Int) + 1, 0) = x := ⟨_, rfl⟩
                rw [hbb] at HTE HCC
                have HS : Hid (sayN ws ts q ++ sayK ws ((q : Int) + 1) 2 zs (wantsK zs (p + 1)) = LL ++ (if bb = true then [] else [sayW 2 ((q : Int) + 1) zs ((p : Int) + 1)])) := by
                  show _ = _
                  rw [HW.out, sayK_snoc, show talkB 2 = 6 from rfl, HTE.out, ← List.append_assoc, hLL.out]
                have HS1 : Hid (∀ c, bb = c → sayN ws ts q ++ sayK ws ((q : Int) + 1) 2 zs (wantsK zs (p + 1)) = LL ++ (bif c then [] else [(2, (p : Int) + 1, (q : Int) + 1, 0)])) := fun c e => by
                  rw [HS.out, e]
                  cases c
                  · rw [if_neg (by decide)]
                    show _ ++ [((2 : Int), (p : Int) + 1, (q : Int) + 1, if (2 : Int) = 1 then zs.getD (((p : Int) + 1) - 1).toNat 0 else 0)] = _
                    rw [if_neg (by decide)]
                    rfl
                  · rfl
                have HSX := hide_it (HS1.out bb rfl)
                clear HS1
                clear HS
                clear hbb hz0 HW HTE
                go_wp2_with fail
                rw [← hw3.out]
                refine HCC.out.mono ?_
                rintro e w4 ⟨rfl, hb⟩
                have A4 := hide_it (A3.out.trans (hb.mono A3.out.size))
                have XW4 := hide_it (XW.out.after hb)
                clear hb k0 k1 kz l0 l1 lz m3 x3
                cases bb
                · have HSF : Hid (sayN ws ts q ++ sayK ws ((q : Int) + 1) 2 zs (wantsK zs (p + 1)) = LL ++ [(2, (p : Int) + 1, (q : Int) + 1, 0)]) := HSX.out
                  obtain ⟨d0, d1, d2, d3⟩ := XW4.out.cells4
                  have f3 := XW4.out.free 3
                  have W5 : Hid (Kept [58] w4 w4 ∧ Below (w.heap.size + 1) w4 w4 ∧ w4.ownsRow (w.heap.size + 1) 58 4 (.slice ao2 N2 co2) N2 (wflat LL)) := ⟨Kept.refl _ _, Below.refl _ _, ownsRow_below HR2.out.2 A4.out (fun k hk => (HR2.out.2.lt k hk).2)⟩
                  have RW5 : Hid (∀ o, (w4.alloc o).ownsRow (w.heap.size + 1) 58 4 (.slice ao2 N2 co2) N2 (wflat LL)) := fun o => W5.out.2.2.alloc o
                  have hN2 : N2 ≤ 1000 := by
                    have h1 := sayN_len (ws := ws) hS.fit q (by omega)
                    have h2 := sayK_len ws ((q : Int) + 1) 2 zs (wantsK zs p)
                    have h3 := wantsK_len zs p
                    have h4 := HR2.out.1
                    have h5 := congrArg List.length hLL.out
                    rw [List.length_append] at h5
                    omega
                  have hw5 : w.heap.size + 1 ≤ w4.heap.size := by have := W5.out.2.1.size; have := A4.out.size; have := HB2.out.size; omega
                  have hw6 : w.heap.size + 1 ≤ w4.heap.size := by have := A4.out.size; have := HB2.out.size; omega
                  have BB5 : Hid (Below (w.heap.size + 1) w1 w4) := HB2.out.trans ((A4.out.mono (by have := HB2.out.size; omega)).trans W5.out.2.1)
                  clear HSX HCC hLL HI HF HN
                  go_wp2_with (at_builtin; go_loud (refine wpList_append_own _ rfl _ _ 29 rfl (w.heap.size + 1) 58 i0 (.agg #[.int .i64 0, .int .i64 0, .int .i64 0, .int .i64 0]) 4 32 Tryd.underlying29 hi hz0 hz1 hz2 rfl (by decide) (.slice ao2 N2 co2) N2 (wflat LL) rfl (RW5.out _) ⟨w4.heap.size, 0, none⟩ 1 1 [.int .i64 2, .int .i64 ((p : Int) + 1), .int .i64 ((q : Int) + 1), .int .i64 0] rfl rfl (news4 w4 (2, (p : Int) + 1, (q : Int) + 1, 0) _) (one4 (2, (p : Int) + 1, (q : Int) + 1, 0)) ?c3 ?c4 ?c5 ?_))
                  case c3 => unfold maxLen; omega
                  case c4 => omega
                  case c5 => have := hw6; simp; omega
                  intro v' w6 hown hgrow _
                  have hown2 : w6.ownsRow (w.heap.size + 1) 58 4 v' (N2 + 1) (wflat (LL ++ [(2, (p : Int) + 1, (q : Int) + 1, 0)])) := by simpa [wflat, wflat_append] using hown
                  have B6 : Hid (Below (w.heap.size + 1) w1 w6) := (BB5.out.alloc hw5 _).grown hgrow (by have := hw6; simp; omega) (fun j hj => ((RW5.out (.cells #[] 58)).lt j hj).1)
                  have K6 : Hid (Kept [58] w1 w6) := HK2.out.trans ((Kept.of_below A4.out).trans (W5.out.1.trans ((Kept.of_below (alloc_below _ _)).trans (Kept.of_row (RW5.out _) hgrow (by decide)))))
                  obtain ⟨ao6, co6, rfl⟩ := row_shape' hown2
                  have R6 := hide_it hown2
                  clear hown hown2 hgrow
                  go_wp2
                  go_roundg (3 - (p + 1))
                  case measure => omega
                  case rel => exact ⟨p + 1, N2 + 1, ao6, co6, by omega, rfl, by go_num, rfl, by rw [HSF.out]; exact ⟨by rw [List.length_append, HR2.out.1]; rfl, R6.out⟩, K6, B6⟩
                · go_wp2
                  go_roundg (3 - (p + 1))
                  case measure => omega
                  case rel => exact ⟨p + 1, N2, ao2, co2, by omega, rfl, by go_num, rfl, by rw [show sayN ws ts q ++ sayK ws ((q : Int) + 1) 2 zs (wantsK zs (p + 1)) = LL from HSX.out.trans (List.append_nil _)]; exact ⟨HR2.out.1, ownsRow_below HR2.out.2 A4.out (fun k hk => (HR2.out.2.lt k hk).2)⟩, HK2.out.trans (Kept.of_below A4.out), HB2.out.trans (A4.out.mono (by have := HB2.out.size; omega))⟩
            · have hpe : p = 3 := by omega
              subst hpe
              go_wp2
              go_roundg (ts.length - (q + 1))
              case measure => omega
              case rel => exact ⟨q + 1, N2, ao2, co2, by omega, rfl, by go_num, rfl, by rw [HF.out, hLL.out]; exact HR2.out, HK2, HB2⟩
        · go_wp2_with fail
          go_loopg [3, 6] 3 (fun g o i wi => ∃ (p N : Nat) (ao : Option Addr) (co : Nat), p ≤ 3 ∧ g = 3 - p ∧ i = .int .i64 p ∧ o = .slice ao N co ∧ Hid ((sayN ws ts q ++ sayK ws ((q : Int) + 1) 3 zs (wantsK zs p)).length = N ∧ wi.ownsRow (w.heap.size + 1) 58 4 (.slice ao N co) N (wflat (sayN ws ts q ++ sayK ws ((q : Int) + 1) 3 zs (wantsK zs p)))) ∧ Hid (Kept [58] w1 wi) ∧ Hid (Below (w.heap.size + 1) w1 wi))
          case atStart => exact ⟨0, N, ao, co, by omega, rfl, rfl, rfl, by rw [HI.out]; exact HR.out, HK, HB⟩
          case round =>
            obtain ⟨p, N2, ao2, co2, hp, rfl, rfl, rfl, HR2, HK2, HB2⟩ := hrel
            obtain ⟨LL, hLL⟩ : ∃ x, Hid (sayN ws ts q ++ sayK ws ((q : Int) + 1) 3 zs (wantsK zs p) = x) := ⟨_, rfl⟩
            rw [hLL.out] at HR2
            clear r0 r1
            by_cases hp3 : p < 3
            · obtain ⟨b2, off2, cap2, az2, oz2, cz2, hbe, -, r0, r1, rz⟩ := TC.out wr HK2.out
              simp only [Option.some.injEq, Addr.mk.injEq, and_true] at hbe
              obtain ⟨rfl, rfl⟩ := hbe
              obtain ⟨z, hz⟩ : ∃ z, zs.getD p 0 = z := ⟨_, rfl⟩
              have z0 := rz p hp3
              rw [hz] at z0
              have hznn : 0 ≤ z := by
                have := hzn.out z (by rw [← hz, List.getD_eq_getElem?_getD, List.getElem?_eq_getElem (by omega)]; exact List.getElem_mem _)
                exact this.1
              have k0 := fun x => cellAlloc r0 x
              have k1 := fun x => cellAlloc r1 x
              have kz := fun x => cellAlloc z0 x
              have l0 := fun x y => cellAlloc (cellAlloc r0 x) y
              have l1 := fun x y => cellAlloc (cellAlloc r1 x) y
              have lz := fun x y => cellAlloc (cellAlloc z0 x) y
              have X2 := hide_it (HK2.out.blk X1.out (by decide))
              obtain ⟨x0, x1, x2, x3⟩ := X2.out.cells4
              have m3 := fun x y => cellAlloc (cellAlloc x3 x) y
              have hxl := X2.out.lt
              clear rz x0 x1 x2
              by_cases hz0 : z = 0
              · have HW : Hid (wantsK zs (p + 1) = wantsK zs p) := wantsK_no (by rw [hz]; omega)
                clear hz
                subst hz0
                go_wp2
                go_roundg (3 - (p + 1))
                case measure => omega
                case rel => exact ⟨p + 1, N2, ao2, co2, by omega, rfl, by go_num, rfl, by rw [HW.out, hLL.out]; exact ⟨HR2.out.1, (HR2.out.2.alloc _).alloc _⟩, HK2.out.trans (Kept.of_below (below2 _ _ _)), HB2.out.trans ((below2 _ _ _).mono (by have := HB2.out.size; omega))⟩
              · have HW : Hid (wantsK zs (p + 1) = wantsK zs p ++ [((p : Nat) : Int) + 1]) := wantsK_yes (by rw [hz]; omega)
                have hzb : (z == 0) = false := by simpa using hz0
                have HTE := hide_it (HT.out 7 ((p : Int) + 1) ((q : Int) + 1) (by decide) (by decide) (by omega) (by omega) (by omega) (by omega))
                rename World => wi
                obtain ⟨w3, hw3⟩ : ∃ W, Hid (W = ((wi.alloc (.cells #[.int .i64 3, .int .i64 ((p : Int) + 1), .int .i64 ((q : Int) + 1), .int .i64 0] 58)).alloc (.cells #[.int .i64 0, .int .i64 4, .int .i64 6, .int .i64 7] 3))) := ⟨_, rfl⟩
                have A3 : Hid (Below wi.heap.size wi w3) := by show Below _ _ _; rw [hw3.out]; exact below2 _ _ _
                have XW : Hid (Blk w3 wi.heap.size #[.int .i64 3, .int .i64 ((p : Int) + 1), .int .i64 ((q : Int) + 1), .int .i64 0] 58) := by show Blk _ _ _ _; rw [hw3.out]; exact (Blk.new _ _ _).alloc _
                have HCC := hide_it (HTO.out (7, (p : Int) + 1, (q : Int) + 1, 0) w3 (B1.out.trans ((HB2.out.trans (A3.out.mono (by have := HB2.out.size; omega))).mono (by omega))))
                obtain ⟨bb, hbb⟩ : ∃ x, ws.contains (7, (p : Int) + 1, (q : Int) + 1, 0) = x := ⟨_, rfl⟩
                rw [hbb] at HTE HCC
                have HS : Hid (sayN ws ts q ++ sayK ws ((q : Int) + 1) 3 zs (wantsK zs (p + 1)) = LL ++ (if bb = true then [] else [sayW 3 ((q : Int) + 1) zs ((p : Int) + 1)])) := by
                  show _ = _
                  rw [HW.out, sayK_snoc, show talkB 3 = 7 from rfl, HTE.out, ← List.append_assoc, hLL.out]
                have HS1 : Hid (∀ c, bb = c → sayN ws ts q ++ sayK ws ((q : Int) + 1) 3 zs (wantsK zs (p + 1)) = LL ++ (bif c then [] else [(3, (p : Int) + 1, (q : Int) + 1, 0)])) := fun c e => by
                  rw [HS.out, e]
                  cases c
                  · rw [if_neg (by decide)]
                    show _ ++ [((3 : Int), (p : Int) + 1, (q : Int) + 1, if (3 : Int) = 1 then zs.getD (((p : Int) + 1) - 1).toNat 0 else 0)] = _
                    rw [if_neg (by decide)]
                    rfl
                  · rfl
                have HSX := hide_it (HS1.out bb rfl)
                clear HS1
                clear HS
                clear hbb hz0 HW HTE
                go_wp2_with fail
                rw [← hw3.out]
                refine HCC.out.mono ?_
                rintro e w4 ⟨rfl, hb⟩
                have A4 := hide_it (A3.out.trans (hb.mono A3.out.size))
                have XW4 := hide_it (XW.out.after hb)
                clear hb k0 k1 kz l0 l1 lz m3 x3
                cases bb
                · have HSF : Hid (sayN ws ts q ++ sayK ws ((q : Int) + 1) 3 zs (wantsK zs (p + 1)) = LL ++ [(3, (p : Int) + 1, (q : Int) + 1, 0)]) := HSX.out
                  obtain ⟨d0, d1, d2, d3⟩ := XW4.out.cells4
                  have f3 := XW4.out.free 3
                  have W5 : Hid (Kept [58] w4 w4 ∧ Below (w.heap.size + 1) w4 w4 ∧ w4.ownsRow (w.heap.size + 1) 58 4 (.slice ao2 N2 co2) N2 (wflat LL)) := ⟨Kept.refl _ _, Below.refl _ _, ownsRow_below HR2.out.2 A4.out (fun k hk => (HR2.out.2.lt k hk).2)⟩
                  have RW5 : Hid (∀ o, (w4.alloc o).ownsRow (w.heap.size + 1) 58 4 (.slice ao2 N2 co2) N2 (wflat LL)) := fun o => W5.out.2.2.alloc o
                  have hN2 : N2 ≤ 1000 := by
                    have h1 := sayN_len (ws := ws) hS.fit q (by omega)
                    have h2 := sayK_len ws ((q : Int) + 1) 3 zs (wantsK zs p)
                    have h3 := wantsK_len zs p
                    have h4 := HR2.out.1
                    have h5 := congrArg List.length hLL.out
                    rw [List.length_append] at h5
                    omega
                  have hw5 : w.heap.size + 1 ≤ w4.heap.size := by have := W5.out.2.1.size; have := A4.out.size; have := HB2.out.size; omega
                  have hw6 : w.heap.size + 1 ≤ w4.heap.size := by have := A4.out.size; have := HB2.out.size; omega
                  have BB5 : Hid (Below (w.heap.size + 1) w1 w4) := HB2.out.trans ((A4.out.mono (by have := HB2.out.size; omega)).trans W5.out.2.1)
                  clear HSX HCC hLL HI HF HN
                  go_wp2_with (at_builtin; go_loud (refine wpList_append_own _ rfl _ _ 29 rfl (w.heap.size + 1) 58 i0 (.agg #[.int .i64 0, .int .i64 0, .int .i64 0, .int .i64 0]) 4 32 Tryd.underlying29 hi hz0 hz1 hz2 rfl (by decide) (.slice ao2 N2 co2) N2 (wflat LL) rfl (RW5.out _) ⟨w4.heap.size, 0, none⟩ 1 1 [.int .i64 3, .int .i64 ((p : Int) + 1), .int .i64 ((q : Int) + 1), .int .i64 0] rfl rfl (news4 w4 (3, (p : Int) + 1, (q : Int) + 1, 0) _) (one4 (3, (p : Int) + 1, (q : Int) + 1, 0)) ?c3 ?c4 ?c5 ?_))
                  case c3 => unfold maxLen; omega
                  case c4 => omega
                  case c5 => have := hw6; simp; omega
                  intro v' w6 hown hgrow _
                  have hown2 : w6.ownsRow (w.heap.size + 1) 58 4 v' (N2 + 1) (wflat (LL ++ [(3, (p : Int) + 1, (q : Int) + 1, 0)])) := by simpa [wflat, wflat_append] using hown
                  have B6 : Hid (Below (w.heap.size + 1) w1 w6) := (BB5.out.alloc hw5 _).grown hgrow (by have := hw6; simp; omega) (fun j hj => ((RW5.out (.cells #[] 58)).lt j hj).1)
                  have K6 : Hid (Kept [58] w1 w6) := HK2.out.trans ((Kept.of_below A4.out).trans (W5.out.1.trans ((Kept.of_below (alloc_below _ _)).trans (Kept.of_row (RW5.out _) hgrow (by decide)))))
                  obtain ⟨ao6, co6, rfl⟩ := row_shape' hown2
                  have R6 := hide_it hown2
                  clear hown hown2 hgrow
                  go_wp2
                  go_roundg (3 - (p + 1))
                  case measure => omega
                  case rel => exact ⟨p + 1, N2 + 1, ao6, co6, by omega, rfl, by go_num, rfl, by rw [HSF.out]; exact ⟨by rw [List.length_append, HR2.out.1]; rfl, R6.out⟩, K6, B6⟩
                · go_wp2
                  go_roundg (3 - (p + 1))
                  case measure => omega
                  case rel => exact ⟨p + 1, N2, ao2, co2, by omega, rfl, by go_num, rfl, by rw [show sayN ws ts q ++ sayK ws ((q : Int) + 1) 3 zs (wantsK zs (p + 1)) = LL from HSX.out.trans (List.append_nil _)]; exact ⟨HR2.out.1, ownsRow_below HR2.out.2 A4.out (fun k hk => (HR2.out.2.lt k hk).2)⟩, HK2.out.trans (Kept.of_below A4.out), HB2.out.trans (A4.out.mono (by have := HB2.out.size; omega))⟩
            · have hpe : p = 3 := by omega
              subst hpe
              go_wp2
              go_roundg (ts.length - (q + 1))
              case measure => omega
              case rel => exact ⟨q + 1, N2, ao2, co2, by omega, rfl, by go_num, rfl, by rw [HF.out, hLL.out]; exact HR2.out, HK2, HB2⟩
    · have hqe : q = ts.length := by omega
      subst hqe
      have HE : Hid ((sayD ws ts).length = N) := HR.out.1
      have R2 : Hid (wr.ownsRow (w.heap.size + 1) 58 4 (.slice ao N co) N (wflat (sayD ws ts))) := HR.out.2
      go_wp2
      go_ret
      exact ⟨ao, co, by rw [HE.out]; rfl, by rw [HE.out]; exact ownsRow_base R2.out (by omega), B1.out.trans (HB.out.mono (by omega))⟩

end Go.Proofs.YtgknnigjlnfplaaDoor

namespace Go.Proofs.YtgknnigjlnfplaaDoor.T
open Go.RowKit

theorem doL_len (rs : List R) (r : Rc) : rs.length ≤ (doL rs r).length := by
  unfold doL
  split
  · simp
  · simp
theorem runT_grow {qs : List Rc} {k : Nat} : ∀ n, k ≤ n → n ≤ qs.length → ∀ ys, runT (qs.take n) = some ys → ∃ xs, runT (qs.take k) = some xs ∧ xs.length ≤ ys.length := by
  intro n
  induction n with
  | zero => intro h _ ys hy; obtain rfl : k = 0 := (by omega); exact ⟨ys, hy, Nat.le_refl _⟩
  | succ n ih =>
    intro h hn ys hy
    by_cases he : k = n + 1
    · subst he; exact ⟨ys, hy, Nat.le_refl _⟩
    · have hg : qs[n]? = some qs[n] := List.getElem?_eq_getElem (by omega)
      rw [take_snoc hg, runT_snoc] at hy
      cases hr : runT (qs.take n) with
      | none => rw [hr] at hy; cases hy
      | some zs =>
        rw [hr] at hy
        have h' : stepT zs qs[n] = some ys := hy
        obtain ⟨xs, hx, hl⟩ := ih (by omega) (by omega) zs hr
        refine ⟨xs, hx, Nat.le_trans hl ?_⟩
        unfold stepT at h'
        split at h'
        · simp only [Option.some.injEq] at h'
          subst h'
          exact doL_len _ _
        · cases h'
theorem ofO_take_len {qs : List Rc} {ts : List R} (h : runT qs = some ts) (k : Nat) : (ofO (qs.take k)).length ≤ ts.length := by
  by_cases hk : k ≤ qs.length
  · obtain ⟨xs, hx, hl⟩ := runT_grow (k := k) qs.length hk (Nat.le_refl _) ts (by rw [List.take_length]; exact h)
    unfold ofO
    rw [hx]
    exact hl
  · rw [List.take_of_length_le (by omega)]
    unfold ofO
    rw [h]
    exact Nat.le_refl _
end Go.Proofs.YtgknnigjlnfplaaDoor.T
namespace Go.Proofs.YtgknnigjlnfplaaDoor
open Go.RowKit

theorem told_words {up : Bool} {rs : List R} {f : Int} {ws : List Wd} (h : dkOk up rs f ws = true) : ∀ k h t : Int, 4 ≤ k → k ≤ 7 → 1 ≤ h → h ≤ 3 → 1 ≤ t → t ≤ (T.ofO (rs.take f.toNat)).length → told ws k h t = ws.contains (k, h, t, 0) := by
  intro k hh t k0 k1 h0 h1 t0 t1
  obtain ⟨-, hr, ht, -⟩ := dkOk_parts h
  have hl := T.ofO_take_len hr f.toNat
  have h6 := (T.ofO_fit rs).1
  refine told_mem (p := (k, hh, t, 0)) (toldOk_all ht) ?_
  unfold ansOk Pl.wOk
  simp only [Bool.and_eq_true, decide_eq_true_eq]
  refine ⟨⟨⟨⟨⟨Pl.inB_mk (by omega) (by omega), Pl.inB_mk h0 h1⟩, Pl.inB_mk t0 (by omega)⟩, ?_⟩, k0⟩, by omega⟩
  rw [Pl.wMany_0 _ (by omega)]
  decide

theorem row_lit (w : World) {lo : Nat} (h : lo ≤ w.heap.size) : (w.alloc (.cells #[] 58)).ownsRow lo 58 4 (.slice (some ⟨w.heap.size, 0, none⟩) 0 0) 0 (wflat []) := by
  have h := World.ownsRow_lit (base := lo) (e := 58) (size := 4) w #[] 0 h (by unfold maxLen; omega) rfl
  simpa [wflat] using h
set_option maxHeartbeats 4000000 in
theorem l13Words_down (v : Value) (f : Int) (u : Value) (w : World) :
    Calls Tryd.prog 16 #[deskV false v f u] w fun e w' => WsO w w' e [] := by
  go_enter Tryd.func16, Tryd.ntmps16
  go_wp2
  go_ret
  exact ⟨_, _, rfl, ownsRow_base (row_new0 w _) (by omega), below2 _ _ _⟩

set_option maxHeartbeats 4000000 in
theorem specDWords_any (up : Bool) (v u : Value) (rs : List R) (f : Int) (ws : List Wd) (w : World) (hv : DkIn w v u rs ws) (hl : tot rs ≤ 1048576) (hlw : ws.length ≤ 1048576) :
    Calls Tryd.prog 5 #[deskV up v f u] w fun e w' => WsO w w' e (dkWords up rs f ws) := by
  have HV : Hid (∀ W, Below w.heap.size w W → DkIn W v u rs ws) := fun W h => hv.later h (Nat.le_refl _)
  have HOK : Hid (∀ W, Below w.heap.size w W → Calls Tryd.prog 15 #[deskV up v f u] W fun e w' => e = .returned (.bool (dkOk up rs f ws)) ∧ Below W.heap.size W w') := fun W h =>
    specDeskOk_any up v u rs f ws W (HV.out W h).1 hl hlw hv.2.2
  obtain ⟨av, cv, au, cu, rfl, rfl⟩ := hv.1.shape
  clear hv
  have X0 : Hid (Blk (w.alloc (.cells #[.bool up, .slice av rs.length cv, .int .i64 f, .slice au ws.length cu] 35)) w.heap.size #[.bool up, .slice av rs.length cv, .int .i64 f, .slice au ws.length cu] 35) := Blk.new _ _ _
  cases hok : dkOk up rs f ws
  · have HR : Hid (dkWords up rs f ws = []) := by show _ = _; simp [dkWords, hok]
    rw [hok] at HOK
    rw [HR.out]
    clear hok
    go_enter Tryd.func5, Tryd.ntmps5
    go_wp2_with fail
    refine (HOK.out _ (alloc_below _ _)).mono ?_
    rintro e w1 ⟨rfl, hb⟩
    have B1 := hide_it (below_after hb)
    have hz1 := B1.out.size
    clear hb
    go_wp2
    go_ret
    exact ⟨_, _, rfl, row_lit w1 hz1, B1.out.alloc hz1 _⟩
  · obtain ⟨hf0, hf1, -⟩ := logOk_f (dkOk_log hok)
    have HC : Hid (∀ W, Below w.heap.size w W → Calls Tryd.prog 16 #[deskV up (.slice av rs.length cv) f (.slice au ws.length cu)] W fun e w' => WsO W w' e (dkWords up rs f ws)) := fun W h => by
      cases up
      · have : dkWords false rs f ws = [] := by simp [dkWords]
        rw [this]
        exact l13Words_down _ _ _ W
      · have : dkWords true rs f ws = sayD ws (T.ofO (rs.take f.toNat)) := by simp [dkWords, hok]
        rw [this]
        exact l13Words_up _ _ rs f ws W (HV.out W h) hl hlw hf0 hf1 (told_words hok)
    obtain ⟨DD, hDD⟩ : ∃ x, dkWords up rs f ws = x := ⟨_, rfl⟩
    rw [hDD] at HC ⊢
    rw [hok] at HOK
    clear hok hf0 hf1 hDD
    go_enter Tryd.func5, Tryd.ntmps5
    go_wp2_with fail
    refine (HOK.out _ (alloc_below _ _)).mono ?_
    rintro e w1 ⟨rfl, hb⟩
    obtain ⟨x0, x1, x2, x3⟩ := (X0.out.after hb).cells4
    have B1 := hide_it (below_after hb)
    have hz1 := B1.out.size
    clear hb
    go_wp2_with fail
    refine (HC.out w1 B1.out).mono ?_
    rintro e w2 ⟨ao, cap, rfl, hm, hb⟩
    have M2 := hide_it hm
    have B2 := hide_it (B1.out.trans (hb.mono hz1))
    clear hm hb
    go_wp2
    go_ret
    exact ⟨ao, cap, rfl, ownsRow_base M2.out hz1, B2.out⟩

end Go.Proofs.YtgknnigjlnfplaaDoor

namespace Go.Proofs.YtgknnigjlnfplaaDoor
open Go.RowKit

theorem howN_all (ws : List Wd) (k t : Int) (zs : List Int) : ((howN ws k t (wants zs) : Int) == ((wants zs).length : Int)) = allT ws k t zs := by
  unfold howN allT
  rw [Bool.eq_iff_iff, beq_iff_eq, List.all_eq_true]
  constructor
  · intro h
    exact List.length_filter_eq_length_iff.1 (by omega)
  · intro h
    rw [List.length_filter_eq_length_iff.2 h]
theorem howN_any (ws : List Wd) (k t : Int) (zs : List Int) : decide ((0 : Int) < (howN ws k t (wants zs) : Int)) = anyT ws k t zs := by
  unfold howN anyT
  rw [Bool.eq_iff_iff, decide_eq_true_eq, List.any_eq_true]
  constructor
  · intro h
    obtain ⟨x, hx⟩ := List.exists_mem_of_length_pos (l := (wants zs).filter fun h => told ws k h t) (by omega)
    rw [List.mem_filter] at hx
    exact ⟨x, hx.1, hx.2⟩
  · rintro ⟨x, hx, hy⟩
    have := List.length_pos_of_mem (List.mem_filter.2 ⟨hx, hy⟩ : x ∈ (wants zs).filter fun h => told ws k h t)
    omega
theorem wants_bd {zs : List Int} (hl : zs.length ≤ 3) : (wants zs).length ≤ 10 ∧ ∀ h ∈ wants zs, 0 ≤ h ∧ h ≤ 10 := by
  refine ⟨by have := wantsK_len zs zs.length; unfold wants; omega, fun h hh => ?_⟩
  obtain ⟨i, hi, _, rfl⟩ := wantsK_mem.1 hh
  omega

end Go.Proofs.YtgknnigjlnfplaaDoor
