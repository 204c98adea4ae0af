/- Contracts of the law's marks over lists of records and logs, and of the look that they are held. For all that together has at most 1048576 records and numbers. -/
import Derived.Test.YtogfpnenoeonoaaMark
namespace Go.Proofs.Ytogfpnenoeonoaa
open Go.RowKit

def markR (r : R) (k : Int) : R := (k, k + 1, markI r.2.2.length (k + 2))
/-- The number with which record i begins. -/
def kAt (rs : List R) (k : Int) (i : Nat) : Int := k + 2 * i + pre rs i
def dftP : R × Value := ((0, 0, []), .slice none 0 0)
/-- The list when i records have been marked. -/
def stg (ps : List (R × Value)) (k : Int) (i : Nat) : List (R × Value) :=
  (List.range ps.length).map fun j => if j < i then (markR (ps.getD j dftP).1 (kAt (ps.map (·.1)) k j), (ps.getD j dftP).2) else ps.getD j dftP
/-- Records, all marked. -/
def markAll (rs : List R) (k : Int) : List R := (List.range rs.length).map fun j => markR (rs.getD j (0, 0, [])) (kAt rs k j)

theorem stg_length (ps : List (R × Value)) (k : Int) (i : Nat) : (stg ps k i).length = ps.length := by simp [stg]
theorem stg_get (ps : List (R × Value)) (k : Int) (i j : Nat) (p : R × Value) (h : ps[j]? = some p) : (stg ps k i)[j]? = some (if j < i then (markR p.1 (kAt (ps.map (·.1)) k j), p.2) else p) := by
  have hj : j < ps.length := by
    by_cases e : j < ps.length
    · exact e
    · rw [List.getElem?_eq_none (by omega)] at h; cases h
  have hg : ps.getD j dftP = p := by rw [List.getD_eq_getElem?_getD, h]; rfl
  unfold stg
  rw [List.getElem?_map, List.getElem?_range hj]
  simp only [Option.map_some, hg]
theorem stg_zero (ps : List (R × Value)) (k : Int) : stg ps k 0 = ps := by
  apply List.ext_getElem?
  intro j
  by_cases hj : j < ps.length
  · rw [stg_get ps k 0 j ps[j] (by simp [hj])]; simp [hj]
  · rw [List.getElem?_eq_none (by rw [stg_length]; omega), List.getElem?_eq_none (by omega)]
theorem stg_succ (ps : List (R × Value)) (k : Int) (i : Nat) (p : R × Value) (h : ps[i]? = some p) : stg ps k (i + 1) = (stg ps k i).set i (markR p.1 (kAt (ps.map (·.1)) k i), p.2) := by
  have hil : i < ps.length := by
    by_cases e : i < ps.length
    · exact e
    · rw [List.getElem?_eq_none (by omega)] at h; cases h
  apply List.ext_getElem?
  intro j
  by_cases hj : j < ps.length
  · rw [stg_get ps k (i + 1) j ps[j] (by simp [hj]), List.getElem?_set]
    by_cases hij : i = j
    · subst hij
      have hp : ps[i] = p := by rw [List.getElem?_eq_getElem hj] at h; simpa using h
      rw [if_pos rfl, if_pos (show i < (stg ps k i).length by rw [stg_length]; exact hj), if_pos (show i < i + 1 by omega), hp]
    · rw [if_neg hij, stg_get ps k i j ps[j] (by simp [hj])]
      by_cases hji : j < i
      · rw [if_pos (by omega), if_pos hji]
      · rw [if_neg (by omega), if_neg hji]
  · rw [List.getElem?_eq_none (by rw [stg_length]; omega), List.getElem?_eq_none (by rw [List.length_set, stg_length]; omega)]
theorem stg_all (ps : List (R × Value)) (k : Int) : (stg ps k ps.length).map (·.1) = markAll (ps.map (·.1)) k := by
  apply List.ext_getElem?
  intro j
  by_cases hj : j < ps.length
  · rw [List.getElem?_map, stg_get ps k ps.length j ps[j] (by simp [hj]), if_pos hj]
    simp [markAll, hj, List.getD_eq_getElem?_getD]
  · rw [List.getElem?_eq_none (by rw [List.length_map, stg_length]; omega), List.getElem?_eq_none (by simp [markAll]; omega)]
theorem markAll_length (rs : List R) (k : Int) : (markAll rs k).length = rs.length := by simp [markAll]
theorem markAll_get (rs : List R) (k : Int) (i : Nat) (r : R) (h : rs[i]? = some r) : (markAll rs k)[i]? = some (markR r (kAt rs k i)) := by
  have hj : i < rs.length := by
    by_cases e : i < rs.length
    · exact e
    · rw [List.getElem?_eq_none (by omega)] at h; cases h
  unfold markAll
  rw [List.getElem?_map, List.getElem?_range hj]
  simp [List.getD_eq_getElem?_getD, h]
theorem kAt_zero (rs : List R) (k : Int) : kAt rs k 0 = k := by simp [kAt, pre_zero]
theorem kAt_succ (rs : List R) (k : Int) (i : Nat) (r : R) (h : rs[i]? = some r) : kAt rs k (i + 1) = kAt rs k i + 2 + r.2.2.length := by
  unfold kAt; rw [pre_succ rs i r h]; omega
theorem kAt_bd (rs : List R) (k : Int) (i : Nat) (hi : i ≤ rs.length) (h : tot rs ≤ 1048576) (hk : 0 ≤ k) (hk1 : k ≤ 1000) : 0 ≤ kAt rs k i ∧ kAt rs k i ≤ 900000000 := by
  have := pre_le rs i
  unfold kAt tot at *; omega

theorem flat_set2 (ps : List (R × Value)) (i : Nat) (p : R × Value) (r : R) (h : ps[i]? = some p) :
    ((flat ps).set (i * 3) (.int .i64 r.1)).set (i * 3 + 1) (.int .i64 r.2.1) = flat (ps.set i (r, p.2)) := by
  induction ps generalizing i with
  | nil => simp at h
  | cons q t ih =>
    cases i with
    | zero => simp at h; subst h; simp [flat]
    | succ i =>
      have := ih i (by simpa using h)
      rw [show (i + 1) * 3 = i * 3 + 3 by omega]
      simp only [flat, List.set_cons_succ]
      rw [this]

/-- One record marked: its two cells, then its numbers. -/
theorem mark_step {wr w2 w3 : World} {lo hi g n cap i : Nat} {qs : List (R × Value)} {r0 : R} {u : Value} {r : R} (hq : qs[i]? = some (r0, u))
    (ho : OwnRecs wr lo hi (.slice (some ⟨g, 0, none⟩) n cap) qs) (hqn : qs.length = n)
    (h2 : w2 = (wr.setCell ⟨g, i * 3, none⟩ (.int .i64 r.1)).setCell ⟨g, i * 3 + 1, none⟩ (.int .i64 r.2.1))
    (hown : w3.ownsRow lo 3 1 u r.2.2.length (r.2.2.map (Value.int .i64))) (hg : w2.grownBy w3 u.ownBlock) :
    OwnRecs w3 lo hi (.slice (some ⟨g, 0, none⟩) n cap) (qs.set i (r, u)) ∧ Mid lo hi wr w3 := by
  obtain ⟨row, hgb, inn⟩ := ho
  rw [hqn] at row
  have a1 := row.stored (i * 3) (.int .i64 r.1)
  have a2 := a1.1.stored (i * 3 + 1) (.int .i64 r.2.1)
  rw [flat_set2 qs i (r0, u) r hq] at a2
  rw [← h2] at a2
  have g12 : wr.grownBy w2 (some g) := by rw [h2]; exact grownBy_trans a1.2 (by rw [← h2]; exact a2.2)
  obtain ⟨cur, hcur⟩ := row_block row
  have ap := inn.apart hcur (by decide)
  have in2 : Inner w2 lo hi qs := inn.kept g12 (fun p hp => Or.inr (ap p hp))
  have hmem := List.mem_of_getElem? hq
  obtain ⟨cur2, hcur2⟩ := row_block a2.1
  have hug : u.ownBlock ≠ some g := ap (r0, u) hmem
  have row3 := a2.1.kept hg (Or.inr (fun e => hug e.symm))
  have hgl := row.lt g rfl
  have hgh := hgb g rfl
  refine ⟨⟨by rw [List.length_set, hqn]; exact row3, hgb, Nat.le_trans in2.1 hg.size, fun p hp => ?_, fun a b p q hp hq' hab => ?_⟩, ?_⟩
  · obtain ⟨j, hj, hpj⟩ := List.mem_iff_getElem.1 hp
    rw [List.length_set] at hj
    by_cases hij : i = j
    · subst hij
      simp at hpj
      subst hpj
      exact ⟨hown, (in2.2.1 (r0, u) hmem).2⟩
    · rw [List.getElem_set_ne hij] at hpj
      have hpm : p ∈ qs := by rw [← hpj]; exact List.getElem_mem hj
      refine ⟨(in2.2.1 p hpm).1.kept hg ?_, (in2.2.1 p hpm).2⟩
      exact in2.2.2 j i p (r0, u) (by rw [List.getElem?_eq_getElem hj, hpj]) hq (fun e => hij e.symm)
  · have same : ∀ (c : Nat) (x : R × Value), (qs.set i (r, u))[c]? = some x → ∃ y, qs[c]? = some y ∧ y.2 = x.2 := by
      intro c x hx
      rw [List.getElem?_set] at hx
      by_cases hic : i = c
      · subst hic
        rw [if_pos rfl] at hx
        split at hx
        · simp at hx; exact ⟨(r0, u), hq, by rw [← hx]⟩
        · cases hx
      · rw [if_neg hic] at hx; exact ⟨x, hx, rfl⟩
    obtain ⟨y, hy, e1⟩ := same a p hp
    obtain ⟨z, hz, e2⟩ := same b q hq'
    rw [← e1, ← e2]
    exact in2.2.2 a b y z hy hz hab
  · exact (Mid.of_grown g12 (fun k hk => by simp at hk; omega)).trans (Mid.of_grown hg (fun k hk => ⟨((in2.2.1 (r0, u) hmem).1.lt k hk).1, (in2.2.1 (r0, u) hmem).2 k hk⟩))

theorem mark_inner {wr : World} {lo hi g n cap i : Nat} {qs : List (R × Value)} {r0 : R} {u : Value} (hq : qs[i]? = some (r0, u)) (ho : OwnRecs wr lo hi (.slice (some ⟨g, 0, none⟩) n cap) qs) (hqn : qs.length = n) (a b : Nat) (x y : Value) :
    ((wr.setCell ⟨g, a, none⟩ x).setCell ⟨g, b, none⟩ y).ownsRow lo 3 1 u r0.2.2.length (r0.2.2.map (Value.int .i64)) := by
  obtain ⟨row, hgb, inn⟩ := ho
  rw [hqn] at row
  have a1 := row.stored a x
  have a2 := a1.1.stored b y
  obtain ⟨cur, hcur⟩ := row_block row
  have hug := inn.apart hcur (by decide) (r0, u) (List.mem_of_getElem? hq)
  exact ((inn.2.1 (r0, u) (List.mem_of_getElem? hq)).1.kept a1.2 (Or.inr hug)).kept a2.2 (Or.inr hug)

set_option maxHeartbeats 2000000 in
theorem markRecs_any (v : Value) (ps : List (R × Value)) (k : Int) (lo hi : Nat) (w : World) (ho : OwnRecs w lo hi v ps) (hl : tot (ps.map (·.1)) ≤ 1048576) (hk0 : 0 ≤ k) (hk1 : k ≤ 1000) :
    Calls Try.prog 17 #[v, .int .i64 k] w fun e w' => e = .returned (.int .i64 (kAt (ps.map (·.1)) k ps.length)) ∧ OwnRecs w' lo hi v (stg ps k ps.length) ∧ Mid lo hi w w' := by
  have hlen := tot_len (ps.map (·.1))
  rw [List.length_map] at hlen
  by_cases h0 : ps.length = 0
  · obtain rfl : ps = [] := List.length_eq_zero_iff.1 h0
    have HO : Hid (OwnRecs w lo hi v (stg [] k 0)) := by show OwnRecs _ _ _ _ _; rw [stg_zero]; exact ho
    obtain ⟨ao, cap, rfl⟩ := row_shape ho.1
    clear ho
    go_enter Try.func17, Try.ntmps17
    go_wp2
    refine wp_loop_rounds 1 ?_
    rw [rounds_succ]
    go_wp2
    go_ret
    exact ⟨by simp [kAt, pre], HO.out, Mid.refl _ _ _⟩
  obtain ⟨g, cap, rfl⟩ : ∃ g cap, v = .slice (some ⟨g, 0, none⟩) ps.length cap := by
    rcases ho.1.2 with ⟨_, hn0⟩ | ⟨g, cap, cur, h, _⟩
    · exact absurd hn0 h0
    · exact ⟨g, cap, h⟩
  have H0 : Hid (OwnRecs w lo hi (.slice (some ⟨g, 0, none⟩) ps.length cap) (stg ps k 0)) := by show OwnRecs _ _ _ _ _; rw [stg_zero]; exact ho
  clear ho
  go_enter Try.func17, Try.ntmps17
  go_wp2
  go_loopw [1, 5] (fun q i wr => ∃ (j : Nat) (K : Int), j ≤ ps.length ∧ i = .int .i64 j ∧ q = .int .i64 K ∧ Hid (K = kAt (ps.map (·.1)) k j) ∧ Hid (OwnRecs wr lo hi (.slice (some ⟨g, 0, none⟩) ps.length cap) (stg ps k j)) ∧ Hid (Mid lo hi w wr)) (fun _ i _ => ps.length - (intOf i).toNat)
  case atStart => exact ⟨0, k, Nat.zero_le _, rfl, rfl, (kAt_zero _ _).symm, H0, Mid.refl _ _ _⟩
  case round =>
    obtain ⟨j, K, hj, rfl, rfl, HK, HO, HM⟩ := hrel
    have hKb : 0 ≤ K ∧ K ≤ 900000000 := by rw [HK.out]; exact kAt_bd _ k j (by rw [List.length_map]; exact hj) hl hk0 hk1
    by_cases hlt : j < ps.length
    · obtain ⟨p, hp⟩ : ∃ p, Hid (ps[j]? = some p) := ⟨ps[j], by show _ = _; simp [hlt]⟩
      have HS : Hid ((stg ps k j)[j]? = some (p.1, p.2)) := by
        have := stg_get ps k j j p hp.out
        rw [if_neg (by omega)] at this
        exact this
      have HPM : Hid ((ps.map (·.1))[j]? = some p.1) := by show _ = _; rw [List.getElem?_map, hp.out]; rfl
      have hpl : p.1.2.2.length ≤ 1048576 := Nat.le_trans (tot_mem _ _ (List.mem_of_getElem? HPM.out)) hl
      have row := HO.out.1
      rw [stg_length] at row
      obtain ⟨f0, f1, f2⟩ := flat_get _ j _ HS.out
      have c0 : wr.cell? ⟨g, j * 3, none⟩ = some (.int .i64 p.1.1) := by rw [row.cellAt _ (by omega)]; exact f0
      have c1 : wr.cell? ⟨g, j * 3 + 1, none⟩ = some (.int .i64 p.1.2.1) := by rw [row.cellAt _ (by omega)]; exact f1
      have c2 : wr.cell? ⟨g, j * 3 + 2, none⟩ = some p.2 := by rw [row.cellAt _ (by omega)]; exact f2
      have z0 := row.frozenAt (j * 3)
      have z1 := row.frozenAt (j * 3 + 1)
      clear row f0 f1 f2
      go_wp2_with fail
      have INN := hide_it (mark_inner HS.out HO.out (stg_length ps k j) (j * 3) (j * 3 + 1) (.int .i64 K) (.int .i64 (K + 1)))
      refine (markInts_any p.2 _ (K + 1 + 1) lo p.1.2.2.length _ INN.out hpl (by omega) (by omega)).mono ?_
      rintro e w3 ⟨rfl, hown3, hg3⟩
      have ST := mark_step (r := markR p.1 K) (w3 := w3) HS.out HO.out (stg_length ps k j) rfl (by
        show World.ownsRow _ _ _ _ _ (markI p.1.2.2.length (K + 2)).length ((markI p.1.2.2.length (K + 2)).map (Value.int .i64))
        rw [markI_length, show K + 2 = K + 1 + 1 by omega]; exact hown3) hg3
      have HO3 : Hid (OwnRecs w3 lo hi (.slice (some ⟨g, 0, none⟩) ps.length cap) (stg ps k (j + 1))) := by
        show OwnRecs _ _ _ _ _
        rw [stg_succ ps k j p hp.out, ← HK.out]; exact ST.1
      have HM3 : Hid (Mid lo hi w w3) := HM.out.trans ST.2
      have HK3 : Hid (K + 1 + 1 + p.1.2.2.length = kAt (ps.map (·.1)) k (j + 1)) := by
        show _ = _
        rw [kAt_succ _ k j p.1 HPM.out, ← HK.out]; omega
      clear ST hown3 hg3
      go_wp2
      go_roundw
      case rel => exact ⟨j + 1, _, by omega, by go_num, rfl, HK3, HO3, HM3⟩
      case measure => simp [intOf]; omega
    · have HJ : Hid (j = ps.length) := by show _ = _; omega
      have HO2 : Hid (OwnRecs wr lo hi (.slice (some ⟨g, 0, none⟩) ps.length cap) (stg ps k ps.length)) := by
        have := HO.out; rw [HJ.out] at this; exact this
      have HK2 : Hid (kAt (ps.map (·.1)) k ps.length = K) := by show _ = _; rw [HK.out, HJ.out]
      go_wp2
      go_ret
      exact ⟨by rw [HK2.out]; rfl, HO2.out, HM.out⟩

theorem markLog_any (v : Value) (ps : List (R × Value)) (f k : Int) (lo hi : Nat) (w : World) (ho : OwnRecs w lo hi v ps) (hl : tot (ps.map (·.1)) ≤ 1048576) (hk0 : 0 ≤ k) (hk1 : k ≤ 1000) :
    Calls Try.prog 11 #[.agg #[v, .int .i64 f], .int .i64 k] w fun e w' => e = .returned (.int .i64 (kAt (ps.map (·.1)) k ps.length)) ∧ OwnRecs w' lo hi v (stg ps k ps.length) ∧ Mid lo hi w w' := by
  have HS : Hid (∀ o, Calls Try.prog 17 #[v, .int .i64 k] (w.alloc o) fun e w' => e = .returned (.int .i64 (kAt (ps.map (·.1)) k ps.length)) ∧ OwnRecs w' lo hi v (stg ps k ps.length) ∧ Mid lo hi w w') := fun o => by
    have hb := (Below.refl w.heap.size w).alloc (Nat.le_refl _) o
    refine (markRecs_any v ps k lo hi (w.alloc o) (ho.below hb ho.2.2.1) hl hk0 hk1).mono ?_
    rintro e w' ⟨h1, h2, h3⟩
    exact ⟨h1, h2, (Mid.of_below hb (Nat.le_refl _)).trans h3⟩
  obtain ⟨ao, cap, rfl⟩ := row_shape ho.1
  clear ho
  go_enter Try.func11, Try.ntmps11
  go_wp2_with (go_at_call 17; refine (HS.out _).mono ?_; rintro e w1 ⟨rfl, h2, h3⟩)
  go_ret
  exact ⟨rfl, by assumption, by assumption⟩

set_option maxHeartbeats 2000000 in
theorem heldRecs_any (v : Value) (rs : List R) (k : Int) (w : World) (hv : Recs w v (markAll rs k)) (hl : tot rs ≤ 1048576) (hk0 : 0 ≤ k) (hk1 : k ≤ 1000) :
    Calls Try.prog 18 #[v, .int .i64 k] w fun e w' => e = .returned (.int .i64 (kAt rs k rs.length)) ∧ w' = w := by
  have hlen := tot_len rs
  rcases hv with ⟨hz, ao, cap, rfl⟩ | ⟨b, off, cap, rfl, hz, hc⟩
  · have h0 : rs.length = 0 := by have := congrArg List.length hz; rw [markAll_length] at this; simpa using this
    obtain rfl : rs = [] := List.length_eq_zero_iff.1 h0
    clear hz h0
    go_enter Try.func18, Try.ntmps18
    go_wp2
    refine wp_loop_rounds 1 ?_
    rw [rounds_succ]
    go_wp2
    go_ret
    exact ⟨by simp [kAt, pre], rfl⟩
  rw [markAll_length]
  have HC : Hid (∀ i r, rs[i]? = some r → ∃ u, RecCells w b (off + i * 3) (markR r (kAt rs k i)) u) := fun i r hr => hc i _ (markAll_get rs k i r hr)
  clear hc hz
  go_enter Try.func18, Try.ntmps18
  go_wp2
  go_loop [1, 5] (fun q i => ∃ (j : Nat) (K : Int), j ≤ rs.length ∧ i = .int .i64 j ∧ q = .int .i64 K ∧ Hid (K = kAt rs k j)) (fun _ i => rs.length - (intOf i).toNat)
  case atStart => exact ⟨0, k, Nat.zero_le _, rfl, rfl, (kAt_zero _ _).symm⟩
  case round =>
    obtain ⟨j, K, hj, rfl, rfl, HK⟩ := hrel
    have hKb : 0 ≤ K ∧ K ≤ 900000000 := by rw [HK.out]; exact kAt_bd _ k j hj hl hk0 hk1
    by_cases hlt : j < rs.length
    · obtain ⟨r, hr⟩ : ∃ r, Hid (rs[j]? = some r) := ⟨rs[j], by show _ = _; simp [hlt]⟩
      have hrl : r.2.2.length ≤ 1048576 := Nat.le_trans (tot_mem _ _ (List.mem_of_getElem? hr.out)) hl
      obtain ⟨u, hu⟩ := HC.out j r hr.out
      rw [← HK.out] at hu
      obtain ⟨c0, c1, c2, hI⟩ := hu
      have d0 : w.cell? ⟨b, off + j * 3, none⟩ = some (.int .i64 K) := c0
      have d1 : w.cell? ⟨b, off + j * 3 + 1, none⟩ = some (.int .i64 (K + 1)) := c1
      have HI : Hid (Ints w u (markI r.2.2.length (K + 1 + 1))) := by
        have h : Ints w u (markI r.2.2.length (K + 2)) := hI
        rw [show K + 2 = K + 1 + 1 by omega] at h; exact h
      have HK3 : Hid (K + 1 + 1 + r.2.2.length = kAt rs k (j + 1)) := by
        show _ = _
        rw [kAt_succ _ k j r hr.out, ← HK.out]; omega
      clear c0 c1 hI
      go_wp2_with fail
      refine (heldInts_any u r.2.2.length (K + 1 + 1) w HI.out hrl (by omega) (by omega)).mono ?_
      rintro e w1 ⟨rfl, rfl⟩
      go_wp2
      go_round
      case rel => exact ⟨j + 1, _, by omega, by go_num, rfl, HK3⟩
      case measure => simp [intOf]; omega
    · have HK2 : Hid (kAt rs k rs.length = K) := by
        show _ = _
        have hje : j = rs.length := by omega
        rw [HK.out, hje]
      go_wp2
      go_ret
      exact ⟨by rw [HK2.out]; rfl, rfl⟩

theorem heldLog_any (v : Value) (rs : List R) (f k : Int) (w : World) (hv : Recs w v (markAll rs k)) (hl : tot rs ≤ 1048576) (hk0 : 0 ≤ k) (hk1 : k ≤ 1000) :
    Calls Try.prog 13 #[.agg #[v, .int .i64 f], .int .i64 k] w fun e w' => e = .returned (.int .i64 (kAt rs k rs.length)) ∧ Below w.heap.size w w' := by
  have hKb := kAt_bd rs k rs.length (Nat.le_refl _) hl hk0 hk1
  have HS : Hid (∀ o, Calls Try.prog 18 #[v, .int .i64 k] (w.alloc o) fun e w' => e = .returned (.int .i64 (kAt rs k rs.length)) ∧ w' = w.alloc o) := fun o =>
    heldRecs_any v rs k (w.alloc o) (hv.later ((Below.refl _ _).alloc (Nat.le_refl _) o) (Nat.le_refl _)) hl hk0 hk1
  obtain ⟨ao, cap, rfl⟩ := hv.shape
  clear hv
  go_enter Try.func13, Try.ntmps13
  go_wp2_with (go_at_call 18; refine (HS.out _).mono ?_; rintro e w1 ⟨rfl, rfl⟩)
  go_ret
  exact ⟨rfl, (Below.refl _ _).alloc (Nat.le_refl _) _⟩

end Go.Proofs.Ytogfpnenoeonoaa
