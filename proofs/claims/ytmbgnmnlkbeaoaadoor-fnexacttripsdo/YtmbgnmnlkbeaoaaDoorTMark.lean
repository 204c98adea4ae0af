/- Contracts of the law's look whether two lists of trips are the same, of its marks over them, and of the look that they are held. For all that together has at most 1048576 trips and numbers. -/
import Derived.Test.YtmbgnmnlkbeaoaaDoorTTo
import Derived.Test.YtmbgnmnlkbeaoaaDoorMark
namespace Go.Proofs.YtmbgnmnlkbeaoaaDoor.T
open Go.RowKit

theorem Made.setBelow {w : World} {lo : Nat} {v : Value} {rs : List R} (h : Made w lo v rs) {a : Addr} (ha : a.block < lo) (x : Value) : Made (w.setCell a x) lo v rs := by
  obtain ⟨ps, hp, h1, h2, h3⟩ := h
  have hs : (w.setCell a x).heap.size = w.heap.size := by simp
  refine ⟨ps, hp, ownsRow_setCell_below h1 ha x, by rw [hs]; exact h2, ?_⟩
  rw [hs]
  exact ⟨by rw [hs]; exact h3.1, fun p hp => ⟨ownsRow_setCell_below (h3.2.1 p hp).1 ha x, (h3.2.1 p hp).2⟩, h3.2.2⟩

theorem Made.below {w w' : World} {lo B : Nat} {v : Value} {rs : List R} (h : Made w lo v rs) (hb : Below B w w') (hB : w.heap.size ≤ B) : Made w' lo v rs := by
  obtain ⟨ps, hp, ho⟩ := h
  obtain ⟨h1, h2, h3⟩ := ho.below hb hB
  exact ⟨ps, hp, h1, fun k hk => Nat.lt_of_lt_of_le (h2 k hk) hb.size, h3.mono hb.size (Nat.le_refl _)⟩

theorem Made.lo {w : World} {lo lo' : Nat} {v : Value} {rs : List R} (h : Made w lo v rs) (hl : lo' ≤ lo) : Made w lo' v rs := by
  obtain ⟨ps, hp, h1, h2, h3⟩ := h
  exact ⟨ps, hp, ownsRow_base h1 hl, h2, h3.1, fun p hp => ⟨ownsRow_base (h3.2.1 p hp).1 hl, (h3.2.1 p hp).2⟩, h3.2.2⟩

theorem Made.none (w : World) (lo : Nat) : Made w lo (.slice none 0 0) [] :=
  ⟨[], rfl, World.ownsRow_nil _ _ _ _, fun k hk => by simp [Value.ownBlock] at hk, Inner.nil _ _ _ (Nat.le_refl _)⟩

set_option maxHeartbeats 1000000 in
/-- A list that lies behind what has turned is as it was. -/
theorem OwnRecs.mid {w w' : World} {l0 h0 lo hi : Nat} {v : Value} {ps : List (R × Value)} (h : OwnRecs w l0 h0 v ps) (hb : Mid lo hi w w') (hB : hi ≤ l0) : OwnRecs w' l0 h0 v ps := by
  obtain ⟨h1, h2, h3⟩ := h
  refine ⟨ownsRow_mid h1 hb (fun k hk => Or.inr (by have := (h1.lt k hk).1; omega)), h2, Nat.le_trans h3.1 hb.size, fun p hp => ⟨?_, (h3.2.1 p hp).2⟩, h3.2.2⟩
  exact ownsRow_mid (h3.2.1 p hp).1 hb (fun k hk => Or.inr (by have := ((h3.2.1 p hp).1.lt k hk).1; omega))

set_option maxHeartbeats 1000000 in
theorem eqTrips_any (v1 v2 : Value) (rs : List R) (w : World) (h1 : Recs w v1 rs) (h2 : Recs w v2 rs) (hl : tot rs ≤ 1048576) :
    Calls Tryd.prog 12 #[v1, v2] w fun e w' => e = .returned (.bool true) ∧ Below w.heap.size w w' := by
  have hlen := tot_len rs
  have HM : Hid (∀ r ∈ rs, r.1.length ≤ 1048576) := fun r hr => Nat.le_trans (tot_mem rs r hr) hl
  rcases h1 with ⟨rfl, ao, cap, rfl⟩ | ⟨b, off, cap, rfl, hz, hc⟩
  · obtain ⟨ao2, cap2, rfl⟩ := h2.shape
    clear h2
    go_enter Tryd.func12, Tryd.ntmps12
    go_wp2
    refine wp_loop_rounds 1 ?_
    rw [rounds_succ]
    go_wp2
    go_ret
    exact ⟨rfl, Below.refl _ _⟩
  rcases h2 with ⟨h, _⟩ | ⟨b2, off2, cap2, rfl, _, hc2⟩
  · exact absurd h hz
  have HC : Hid (∀ i r, rs[i]? = some r → ∃ u, RecCells w b (off + i * 2) r u) := hc
  have HC2 : Hid (∀ i r, rs[i]? = some r → ∃ u, RecCells w b2 (off2 + i * 2) r u) := hc2
  have hzl : 0 < rs.length := List.length_pos_iff.2 hz
  clear hc hc2 hz
  go_enter Tryd.func12, Tryd.ntmps12
  go_wp2
  go_loopw [5] (fun i wr => ∃ k : Nat, k ≤ rs.length ∧ i = .int .i64 k ∧ Below w.heap.size w wr) (fun i _ => rs.length - (intOf i).toNat)
  case atStart => exact ⟨0, Nat.zero_le _, rfl, Below.refl _ _⟩
  case round =>
    obtain ⟨k, hk, rfl, hbe⟩ := hrel
    by_cases hlt : k < rs.length
    · obtain ⟨r, hr⟩ : ∃ r, Hid (rs[k]? = some r) := ⟨rs[k], by show _ = _; simp [hlt]⟩
      have hrl : r.1.length ≤ 1048576 := HM.out r (List.mem_of_getElem? hr.out)
      obtain ⟨u, hu⟩ := HC.out k r hr.out
      obtain ⟨u', hu'⟩ := HC2.out k r hr.out
      obtain ⟨c0, c1, hI⟩ := hu.later hbe (Nat.le_refl _)
      obtain ⟨d0, d1, hJ⟩ := hu'.later hbe (Nat.le_refl _)
      have HI : Hid (Ints wr u r.1) := hI
      have HJ : Hid (Ints wr u' r.1) := hJ
      have hli : (k : Int) < (rs.length : Int) := by omega
      have HB : Hid (Below w.heap.size w wr) := hbe
      clear hbe hI hJ hu hu'
      go_wp2
      go_region_with (go_at_call 33; refine (eqTrip_any _ _ _ r.1 _ ?_ ?_ hrl).mono ?_; exact HI.out.later (Below.refl _ _).drew (Nat.le_refl _); exact HJ.out.later (Below.refl _ _).drew (Nat.le_refl _); rintro e w2 ⟨rfl, hb2⟩; have HB2 := HB.out.drew.trans (hb2.mono HB.out.size); clear hb2)
      all_goals (try go_wp2)
      all_goals
        go_roundw
        case rel => exact ⟨k + 1, by omega, by go_num, HB2⟩
        case measure => simp [intOf]; omega
    · go_wp2
      go_ret
      exact ⟨rfl, hbe⟩

def markR (r : R) (k : Int) : R := (markI r.1.length k, k + r.1.length)
/-- The number with which record i begins. -/
def kAt (rs : List R) (k : Int) (i : Nat) : Int := k + i + pre rs i
def dftP : R × Value := (([], 0), .slice none 0 0)
/-- The list when i records have been marked. -/
def stg (ps : List (R × Value)) (k : Int) (i : Nat) : List (R × Value) :=
  (List.range ps.length).map fun j => if j < i then (markR (ps.getD j dftP).1 (kAt (ps.map (·.1)) k j), (ps.getD j dftP).2) else ps.getD j dftP
/-- Records, all marked. -/
def markAll (rs : List R) (k : Int) : List R := (List.range rs.length).map fun j => markR (rs.getD j ([], 0)) (kAt rs k j)

theorem stg_length (ps : List (R × Value)) (k : Int) (i : Nat) : (stg ps k i).length = ps.length := by simp [stg]
theorem stg_get (ps : List (R × Value)) (k : Int) (i j : Nat) (p : R × Value) (h : ps[j]? = some p) : (stg ps k i)[j]? = some (if j < i then (markR p.1 (kAt (ps.map (·.1)) k j), p.2) else p) := by
  have hj : j < ps.length := by
    by_cases e : j < ps.length
    · exact e
    · rw [List.getElem?_eq_none (by omega)] at h; cases h
  have hg : ps.getD j dftP = p := by rw [List.getD_eq_getElem?_getD, h]; rfl
  unfold stg
  rw [List.getElem?_map, List.getElem?_range hj]
  simp only [Option.map_some, hg]
theorem stg_zero (ps : List (R × Value)) (k : Int) : stg ps k 0 = ps := by
  apply List.ext_getElem?
  intro j
  by_cases hj : j < ps.length
  · rw [stg_get ps k 0 j ps[j] (by simp [hj])]; simp [hj]
  · rw [List.getElem?_eq_none (by rw [stg_length]; omega), List.getElem?_eq_none (by omega)]
theorem stg_succ (ps : List (R × Value)) (k : Int) (i : Nat) (p : R × Value) (h : ps[i]? = some p) : stg ps k (i + 1) = (stg ps k i).set i (markR p.1 (kAt (ps.map (·.1)) k i), p.2) := by
  have hil : i < ps.length := by
    by_cases e : i < ps.length
    · exact e
    · rw [List.getElem?_eq_none (by omega)] at h; cases h
  apply List.ext_getElem?
  intro j
  by_cases hj : j < ps.length
  · rw [stg_get ps k (i + 1) j ps[j] (by simp [hj]), List.getElem?_set]
    by_cases hij : i = j
    · subst hij
      have hp : ps[i] = p := by rw [List.getElem?_eq_getElem hj] at h; simpa using h
      rw [if_pos rfl, if_pos (show i < (stg ps k i).length by rw [stg_length]; exact hj), if_pos (show i < i + 1 by omega), hp]
    · rw [if_neg hij, stg_get ps k i j ps[j] (by simp [hj])]
      by_cases hji : j < i
      · rw [if_pos (by omega), if_pos hji]
      · rw [if_neg (by omega), if_neg hji]
  · rw [List.getElem?_eq_none (by rw [stg_length]; omega), List.getElem?_eq_none (by rw [List.length_set, stg_length]; omega)]
theorem stg_all (ps : List (R × Value)) (k : Int) : (stg ps k ps.length).map (·.1) = markAll (ps.map (·.1)) k := by
  apply List.ext_getElem?
  intro j
  by_cases hj : j < ps.length
  · rw [List.getElem?_map, stg_get ps k ps.length j ps[j] (by simp [hj]), if_pos hj]
    simp [markAll, hj, List.getD_eq_getElem?_getD]
  · rw [List.getElem?_eq_none (by rw [List.length_map, stg_length]; omega), List.getElem?_eq_none (by simp [markAll]; omega)]
theorem markAll_length (rs : List R) (k : Int) : (markAll rs k).length = rs.length := by simp [markAll]
theorem markAll_get (rs : List R) (k : Int) (i : Nat) (r : R) (h : rs[i]? = some r) : (markAll rs k)[i]? = some (markR r (kAt rs k i)) := by
  have hj : i < rs.length := by
    by_cases e : i < rs.length
    · exact e
    · rw [List.getElem?_eq_none (by omega)] at h; cases h
  unfold markAll
  rw [List.getElem?_map, List.getElem?_range hj]
  simp [List.getD_eq_getElem?_getD, h]
theorem kAt_zero (rs : List R) (k : Int) : kAt rs k 0 = k := by simp [kAt, pre_zero]
theorem kAt_succ (rs : List R) (k : Int) (i : Nat) (r : R) (h : rs[i]? = some r) : kAt rs k (i + 1) = kAt rs k i + 1 + r.1.length := by
  unfold kAt; rw [pre_succ rs i r h]; omega
theorem kAt_bd (rs : List R) (k : Int) (i : Nat) (hi : i ≤ rs.length) (h : tot rs ≤ 1048576) (hk : 0 ≤ k) (hk1 : k ≤ 1000) : 0 ≤ kAt rs k i ∧ kAt rs k i ≤ 900000000 := by
  have := pre_le rs i
  unfold kAt tot at *; omega

theorem flat_set1 (ps : List (R × Value)) (i : Nat) (p : R × Value) (r : R) (h : ps[i]? = some p) :
    (flat ps).set (i * 2 + 1) (.int .i64 r.2) = flat (ps.set i (r, p.2)) := by
  induction ps generalizing i with
  | nil => simp at h
  | cons q t ih =>
    cases i with
    | zero => simp at h; subst h; simp [flat]
    | succ i =>
      have := ih i (by simpa using h)
      rw [show (i + 1) * 2 = i * 2 + 2 by omega]
      simp only [flat, List.set_cons_succ]
      rw [this]

/-- One trip marked: its numbers, then its state. -/
theorem mark_step {wr w2 w3 : World} {lo hi g n cap i : Nat} {qs : List (R × Value)} {r0 : R} {u : Value} {r : R} (hq : qs[i]? = some (r0, u))
    (ho : OwnRecs wr lo hi (.slice (some ⟨g, 0, none⟩) n cap) qs) (hqn : qs.length = n)
    (hown : w2.ownsRow lo 3 1 u r.1.length (r.1.map (Value.int .i64))) (hg : wr.grownBy w2 u.ownBlock)
    (h3 : w3 = w2.setCell ⟨g, i * 2 + 1, none⟩ (.int .i64 r.2)) :
    OwnRecs w3 lo hi (.slice (some ⟨g, 0, none⟩) n cap) (qs.set i (r, u)) ∧ Mid lo hi wr w3 := by
  obtain ⟨row, hgb, inn⟩ := ho
  rw [hqn] at row
  obtain ⟨cur, hcur⟩ := row_block row
  have ap := inn.apart hcur (by decide)
  have hmem := List.mem_of_getElem? hq
  have hug : u.ownBlock ≠ some g := ap (r0, u) hmem
  have row2 := row.kept hg (Or.inr (fun e => hug e.symm))
  have a1 := row2.stored (i * 2 + 1) (.int .i64 r.2)
  rw [flat_set1 qs i (r0, u) r hq] at a1
  rw [← h3] at a1
  have hgl := row.lt g rfl
  have hgh := hgb g rfl
  refine ⟨⟨by rw [List.length_set, hqn]; exact a1.1, hgb, Nat.le_trans (Nat.le_trans inn.1 hg.size) a1.2.size, fun p hp => ?_, fun a b p q hp hq' hab => ?_⟩, ?_⟩
  · obtain ⟨j, hj, hpj⟩ := List.mem_iff_getElem.1 hp
    rw [List.length_set] at hj
    by_cases hij : i = j
    · subst hij
      simp at hpj
      subst hpj
      exact ⟨hown.kept a1.2 (Or.inr hug), (inn.2.1 (r0, u) hmem).2⟩
    · rw [List.getElem_set_ne hij] at hpj
      have hpm : p ∈ qs := by rw [← hpj]; exact List.getElem_mem hj
      refine ⟨((inn.2.1 p hpm).1.kept hg ?_).kept a1.2 (Or.inr (ap p hpm)), (inn.2.1 p hpm).2⟩
      exact inn.2.2 j i p (r0, u) (by rw [List.getElem?_eq_getElem hj, hpj]) hq (fun e => hij e.symm)
  · have same : ∀ (c : Nat) (x : R × Value), (qs.set i (r, u))[c]? = some x → ∃ y, qs[c]? = some y ∧ y.2 = x.2 := by
      intro c x hx
      rw [List.getElem?_set] at hx
      by_cases hic : i = c
      · subst hic
        rw [if_pos rfl] at hx
        split at hx
        · simp at hx; exact ⟨(r0, u), hq, by rw [← hx]⟩
        · cases hx
      · rw [if_neg hic] at hx; exact ⟨x, hx, rfl⟩
    obtain ⟨y, hy, e1⟩ := same a p hp
    obtain ⟨z, hz, e2⟩ := same b q hq'
    rw [← e1, ← e2]
    exact inn.2.2 a b y z hy hz hab
  · exact (Mid.of_grown hg (fun k hk => ⟨((inn.2.1 (r0, u) hmem).1.lt k hk).1, (inn.2.1 (r0, u) hmem).2 k hk⟩)).trans (Mid.of_grown a1.2 (fun k hk => by simp at hk; omega))

set_option maxHeartbeats 2000000 in
theorem markTrips_any (v : Value) (ps : List (R × Value)) (k : Int) (lo hi : Nat) (w : World) (ho : OwnRecs w lo hi v ps) (hl : tot (ps.map (·.1)) ≤ 1048576) (hk0 : 0 ≤ k) (hk1 : k ≤ 1000) :
    Calls Tryd.prog 16 #[v, .int .i64 k] w fun e w' => e = .returned (.int .i64 (kAt (ps.map (·.1)) k ps.length)) ∧ OwnRecs w' lo hi v (stg ps k ps.length) ∧ Mid lo hi w w' := by
  have hlen := tot_len (ps.map (·.1))
  rw [List.length_map] at hlen
  by_cases h0 : ps.length = 0
  · obtain rfl : ps = [] := List.length_eq_zero_iff.1 h0
    have HO : Hid (OwnRecs w lo hi v (stg [] k 0)) := by show OwnRecs _ _ _ _ _; rw [stg_zero]; exact ho
    obtain ⟨ao, cap, rfl⟩ := row_shape ho.1
    clear ho
    go_enter Tryd.func16, Tryd.ntmps16
    go_wp2
    refine wp_loop_rounds 1 ?_
    rw [rounds_succ]
    go_wp2
    go_ret
    exact ⟨by simp [kAt, pre], HO.out, Mid.refl _ _ _⟩
  obtain ⟨g, cap, rfl⟩ : ∃ g cap, v = .slice (some ⟨g, 0, none⟩) ps.length cap := by
    rcases ho.1.2 with ⟨_, hn0⟩ | ⟨g, cap, cur, h, _⟩
    · exact absurd hn0 h0
    · exact ⟨g, cap, h⟩
  have H0 : Hid (OwnRecs w lo hi (.slice (some ⟨g, 0, none⟩) ps.length cap) (stg ps k 0)) := by show OwnRecs _ _ _ _ _; rw [stg_zero]; exact ho
  clear ho
  go_enter Tryd.func16, Tryd.ntmps16
  go_wp2
  go_loopw [1, 5] (fun q i wr => ∃ (j : Nat) (K : Int), j ≤ ps.length ∧ i = .int .i64 j ∧ q = .int .i64 K ∧ Hid (K = kAt (ps.map (·.1)) k j) ∧ Hid (OwnRecs wr lo hi (.slice (some ⟨g, 0, none⟩) ps.length cap) (stg ps k j)) ∧ Hid (Mid lo hi w wr)) (fun _ i _ => ps.length - (intOf i).toNat)
  case atStart => exact ⟨0, k, Nat.zero_le _, rfl, rfl, (kAt_zero _ _).symm, H0, Mid.refl _ _ _⟩
  case round =>
    obtain ⟨j, K, hj, rfl, rfl, HK, HO, HM⟩ := hrel
    have hKb : 0 ≤ K ∧ K ≤ 900000000 := by rw [HK.out]; exact kAt_bd _ k j (by rw [List.length_map]; exact hj) hl hk0 hk1
    by_cases hlt : j < ps.length
    · obtain ⟨p, hp⟩ : ∃ p, Hid (ps[j]? = some p) := ⟨ps[j], by show _ = _; simp [hlt]⟩
      have HS : Hid ((stg ps k j)[j]? = some (p.1, p.2)) := by
        have := stg_get ps k j j p hp.out
        rw [if_neg (by omega)] at this
        exact this
      have HPM : Hid ((ps.map (·.1))[j]? = some p.1) := by show _ = _; rw [List.getElem?_map, hp.out]; rfl
      have hpl : p.1.1.length ≤ 1048576 := Nat.le_trans (tot_mem _ _ (List.mem_of_getElem? HPM.out)) hl
      have row := HO.out.1
      rw [stg_length] at row
      obtain ⟨f0, f1⟩ := flat_get _ j _ HS.out
      have c0 : wr.cell? ⟨g, j * 2, none⟩ = some p.2 := by rw [row.cellAt _ (by omega)]; exact f0
      have INN := hide_it (HO.out.2.2.2.1 _ (List.mem_of_getElem? HS.out)).1
      have APT := hide_it (HO.out.2.2.apart (row_block row).choose_spec (by decide) _ (List.mem_of_getElem? HS.out))
      have ROW := hide_it row
      clear row f0 f1
      go_wp2_with fail
      refine (markInts_any p.2 _ K lo p.1.1.length _ INN.out hpl (by omega) (by omega)).mono ?_
      rintro e w3 ⟨rfl, hown3, hg3⟩
      have row3 := ROW.out.kept hg3 (Or.inr (fun e => APT.out e.symm))
      obtain ⟨x1, c1⟩ : ∃ x, w3.cell? ⟨g, j * 2 + 1, none⟩ = some x := by
        have h1 := row3.cellAt (j * 2 + 1) (by omega)
        have h2 : j * 2 + 1 < (flat (stg ps k j)).length := by rw [row3.1]; omega
        exact ⟨_, by rw [h1, List.getElem?_eq_getElem h2]⟩
      have c2 : w3.cell? ⟨g, j * 2, none⟩ = some p.2 := by rw [row3.cellAt _ (by omega)]; exact (flat_get _ j _ HS.out).1
      have z1 := row3.frozenAt (j * 2 + 1)
      have HOW := hide_it hown3
      have HG3 := hide_it hg3
      have HK3 : Hid (K + p.1.1.length + 1 = kAt (ps.map (·.1)) k (j + 1)) := by
        show _ = _
        rw [kAt_succ _ k j p.1 HPM.out, ← HK.out]; omega
      clear row3 hown3 hg3
      go_wp2
      have ST := mark_step (r := markR p.1 K) HS.out HO.out (stg_length ps k j) (by
        show World.ownsRow _ _ _ _ _ (markI p.1.1.length K).length ((markI p.1.1.length K).map (Value.int .i64))
        rw [markI_length]; exact HOW.out) HG3.out rfl
      go_roundw
      case rel =>
        refine ⟨j + 1, _, by omega, by go_num, rfl, HK3, ?_, HM.out.trans ST.2⟩
        show OwnRecs _ _ _ _ _
        rw [stg_succ ps k j p hp.out, ← HK.out]; exact ST.1
      case measure => simp [intOf]; omega
    · have HJ : Hid (j = ps.length) := by show _ = _; omega
      have HO2 : Hid (OwnRecs wr lo hi (.slice (some ⟨g, 0, none⟩) ps.length cap) (stg ps k ps.length)) := by
        have := HO.out; rw [HJ.out] at this; exact this
      have HK2 : Hid (kAt (ps.map (·.1)) k ps.length = K) := by show _ = _; rw [HK.out, HJ.out]
      go_wp2
      go_ret
      exact ⟨by rw [HK2.out]; rfl, HO2.out, HM.out⟩

set_option maxHeartbeats 2000000 in
theorem heldTrips_any (v : Value) (rs : List R) (k : Int) (w : World) (hv : Recs w v (markAll rs k)) (hl : tot rs ≤ 1048576) (hk0 : 0 ≤ k) (hk1 : k ≤ 1000) :
    Calls Tryd.prog 18 #[v, .int .i64 k] w fun e w' => e = .returned (.int .i64 (kAt rs k rs.length)) ∧ w' = w := by
  have hlen := tot_len rs
  rcases hv with ⟨hz, ao, cap, rfl⟩ | ⟨b, off, cap, rfl, hz, hc⟩
  · have h0 : rs.length = 0 := by have := congrArg List.length hz; rw [markAll_length] at this; simpa using this
    obtain rfl : rs = [] := List.length_eq_zero_iff.1 h0
    clear hz h0
    go_enter Tryd.func18, Tryd.ntmps18
    go_wp2
    refine wp_loop_rounds 1 ?_
    rw [rounds_succ]
    go_wp2
    go_ret
    exact ⟨by simp [kAt, pre], rfl⟩
  rw [markAll_length]
  have HC : Hid (∀ i r, rs[i]? = some r → ∃ u, RecCells w b (off + i * 2) (markR r (kAt rs k i)) u) := fun i r hr => hc i _ (markAll_get rs k i r hr)
  clear hc hz
  go_enter Tryd.func18, Tryd.ntmps18
  go_wp2
  go_loop [1, 5] (fun q i => ∃ (j : Nat) (K : Int), j ≤ rs.length ∧ i = .int .i64 j ∧ q = .int .i64 K ∧ Hid (K = kAt rs k j)) (fun _ i => rs.length - (intOf i).toNat)
  case atStart => exact ⟨0, k, Nat.zero_le _, rfl, rfl, (kAt_zero _ _).symm⟩
  case round =>
    obtain ⟨j, K, hj, rfl, rfl, HK⟩ := hrel
    have hKb : 0 ≤ K ∧ K ≤ 900000000 := by rw [HK.out]; exact kAt_bd _ k j hj hl hk0 hk1
    by_cases hlt : j < rs.length
    · obtain ⟨r, hr⟩ : ∃ r, Hid (rs[j]? = some r) := ⟨rs[j], by show _ = _; simp [hlt]⟩
      have hrl : r.1.length ≤ 1048576 := Nat.le_trans (tot_mem _ _ (List.mem_of_getElem? hr.out)) hl
      obtain ⟨u, hu⟩ := HC.out j r hr.out
      rw [← HK.out] at hu
      obtain ⟨c0, c1, hI⟩ := hu
      have d1 : w.cell? ⟨b, off + j * 2 + 1, none⟩ = some (.int .i64 (K + r.1.length)) := c1
      have HI : Hid (Ints w u (markI r.1.length K)) := hI
      have HK3 : Hid (K + r.1.length + 1 = kAt rs k (j + 1)) := by
        show _ = _
        rw [kAt_succ _ k j r hr.out, ← HK.out]; omega
      clear c1 hI
      go_wp2_with fail
      refine (heldInts_any u r.1.length K w HI.out hrl (by omega) (by omega)).mono ?_
      rintro e w1 ⟨rfl, rfl⟩
      go_wp2
      go_round
      case rel => exact ⟨j + 1, _, by omega, by go_num, rfl, HK3⟩
      case measure => simp [intOf]; omega
    · have HK2 : Hid (kAt rs k rs.length = K) := by
        show _ = _
        have hje : j = rs.length := by omega
        rw [HK.out, hje]
      go_wp2
      go_ret
      exact ⟨by rw [HK2.out]; rfl, rfl⟩

end Go.Proofs.YtmbgnmnlkbeaoaaDoor.T
