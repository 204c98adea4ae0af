/- What the last text of this claim stands on, part 2: plain facts and contracts; the last text says what is proved. -/
import Derived.Test.YtkkkdgpbmmjieaaGreatDoorWorldHoldsCardPart1
import Derived.Deep.RegionLaw
import Derived.Deep.AppendLies
import Derived.Deep.RegionWith

namespace Go.Proofs.YtkkkdgpbmmjieaaGreatDoor
open Go.RowKit

def markR (r : R) (k : Int) : R := (k, k + 1, markI r.2.2.length (k + 2))
/-- The number with which record i begins. -/
def kAt (rs : List R) (k : Int) (i : Nat) : Int := k + 2 * i + pre rs i
def dftP : R × Value := ((0, 0, []), .slice none 0 0)
/-- The list when i records have been marked. -/
def stg (ps : List (R × Value)) (k : Int) (i : Nat) : List (R × Value) :=
  (List.range ps.length).map fun j => if j < i then (markR (ps.getD j dftP).1 (kAt (ps.map (·.1)) k j), (ps.getD j dftP).2) else ps.getD j dftP
/-- Records, all marked. -/
def markAll (rs : List R) (k : Int) : List R := (List.range rs.length).map fun j => markR (rs.getD j (0, 0, [])) (kAt rs k j)

theorem stg_length (ps : List (R × Value)) (k : Int) (i : Nat) : (stg ps k i).length = ps.length := by simp [stg]
theorem stg_get (ps : List (R × Value)) (k : Int) (i j : Nat) (p : R × Value) (h : ps[j]? = some p) : (stg ps k i)[j]? = some (if j < i then (markR p.1 (kAt (ps.map (·.1)) k j), p.2) else p) := by
  have hj : j < ps.length := by
    by_cases e : j < ps.length
    · exact e
    · rw [List.getElem?_eq_none (by omega)] at h; cases h
  have hg : ps.getD j dftP = p := by rw [List.getD_eq_getElem?_getD, h]; rfl
  unfold stg
  rw [List.getElem?_map, List.getElem?_range hj]
  simp only [Option.map_some, hg]
theorem stg_zero (ps : List (R × Value)) (k : Int) : stg ps k 0 = ps := by
  apply List.ext_getElem?
  intro j
  by_cases hj : j < ps.length
  · rw [stg_get ps k 0 j ps[j] (by simp [hj])]; simp [hj]
  · rw [List.getElem?_eq_none (by rw [stg_length]; omega), List.getElem?_eq_none (by omega)]
theorem stg_succ (ps : List (R × Value)) (k : Int) (i : Nat) (p : R × Value) (h : ps[i]? = some p) : stg ps k (i + 1) = (stg ps k i).set i (markR p.1 (kAt (ps.map (·.1)) k i), p.2) := by
  have hil : i < ps.length := by
    by_cases e : i < ps.length
    · exact e
    · rw [List.getElem?_eq_none (by omega)] at h; cases h
  apply List.ext_getElem?
  intro j
  by_cases hj : j < ps.length
  · rw [stg_get ps k (i + 1) j ps[j] (by simp [hj]), List.getElem?_set]
    by_cases hij : i = j
    · subst hij
      have hp : ps[i] = p := by rw [List.getElem?_eq_getElem hj] at h; simpa using h
      rw [if_pos rfl, if_pos (show i < (stg ps k i).length by rw [stg_length]; exact hj), if_pos (show i < i + 1 by omega), hp]
    · rw [if_neg hij, stg_get ps k i j ps[j] (by simp [hj])]
      by_cases hji : j < i
      · rw [if_pos (by omega), if_pos hji]
      · rw [if_neg (by omega), if_neg hji]
  · rw [List.getElem?_eq_none (by rw [stg_length]; omega), List.getElem?_eq_none (by rw [List.length_set, stg_length]; omega)]
theorem stg_all (ps : List (R × Value)) (k : Int) : (stg ps k ps.length).map (·.1) = markAll (ps.map (·.1)) k := by
  apply List.ext_getElem?
  intro j
  by_cases hj : j < ps.length
  · rw [List.getElem?_map, stg_get ps k ps.length j ps[j] (by simp [hj]), if_pos hj]
    simp [markAll, hj, List.getD_eq_getElem?_getD]
  · rw [List.getElem?_eq_none (by rw [List.length_map, stg_length]; omega), List.getElem?_eq_none (by simp [markAll]; omega)]
theorem markAll_length (rs : List R) (k : Int) : (markAll rs k).length = rs.length := by simp [markAll]
theorem markAll_get (rs : List R) (k : Int) (i : Nat) (r : R) (h : rs[i]? = some r) : (markAll rs k)[i]? = some (markR r (kAt rs k i)) := by
  have hj : i < rs.length := by
    by_cases e : i < rs.length
    · exact e
    · rw [List.getElem?_eq_none (by omega)] at h; cases h
  unfold markAll
  rw [List.getElem?_map, List.getElem?_range hj]
  simp [List.getD_eq_getElem?_getD, h]
theorem kAt_zero (rs : List R) (k : Int) : kAt rs k 0 = k := by simp [kAt, pre_zero]
theorem kAt_succ (rs : List R) (k : Int) (i : Nat) (r : R) (h : rs[i]? = some r) : kAt rs k (i + 1) = kAt rs k i + 2 + r.2.2.length := by
  unfold kAt; rw [pre_succ rs i r h]; omega
theorem kAt_bd (rs : List R) (k : Int) (i : Nat) (hi : i ≤ rs.length) (h : tot rs ≤ 1048576) (hk : 0 ≤ k) (hk1 : k ≤ 1000) : 0 ≤ kAt rs k i ∧ kAt rs k i ≤ 900000000 := by
  have := pre_le rs i
  unfold kAt tot at *; omega

theorem flat_set2 (ps : List (R × Value)) (i : Nat) (p : R × Value) (r : R) (h : ps[i]? = some p) :
    ((flat ps).set (i * 3) (.int .i64 r.1)).set (i * 3 + 1) (.int .i64 r.2.1) = flat (ps.set i (r, p.2)) := by
  induction ps generalizing i with
  | nil => simp at h
  | cons q t ih =>
    cases i with
    | zero => simp at h; subst h; simp [flat]
    | succ i =>
      have := ih i (by simpa using h)
      rw [show (i + 1) * 3 = i * 3 + 3 by omega]
      simp only [flat, List.set_cons_succ]
      rw [this]

/-- One record marked: its two cells, then its numbers. -/
theorem mark_step {wr w2 w3 : World} {lo hi g n cap i : Nat} {qs : List (R × Value)} {r0 : R} {u : Value} {r : R} (hq : qs[i]? = some (r0, u))
    (ho : OwnRecs wr lo hi (.slice (some ⟨g, 0, none⟩) n cap) qs) (hqn : qs.length = n)
    (h2 : w2 = (wr.setCell ⟨g, i * 3, none⟩ (.int .i64 r.1)).setCell ⟨g, i * 3 + 1, none⟩ (.int .i64 r.2.1))
    (hown : w3.ownsRow lo 3 1 u r.2.2.length (r.2.2.map (Value.int .i64))) (hg : w2.grownBy w3 u.ownBlock) :
    OwnRecs w3 lo hi (.slice (some ⟨g, 0, none⟩) n cap) (qs.set i (r, u)) ∧ Mid lo hi wr w3 := by
  obtain ⟨row, hgb, inn⟩ := ho
  rw [hqn] at row
  have a1 := row.stored (i * 3) (.int .i64 r.1)
  have a2 := a1.1.stored (i * 3 + 1) (.int .i64 r.2.1)
  rw [flat_set2 qs i (r0, u) r hq] at a2
  rw [← h2] at a2
  have g12 : wr.grownBy w2 (some g) := by rw [h2]; exact grownBy_trans a1.2 (by rw [← h2]; exact a2.2)
  obtain ⟨cur, hcur⟩ := row_block row
  have ap := inn.apart hcur (by decide)
  have in2 : Inner w2 lo hi qs := inn.kept g12 (fun p hp => Or.inr (ap p hp))
  have hmem := List.mem_of_getElem? hq
  obtain ⟨cur2, hcur2⟩ := row_block a2.1
  have hug : u.ownBlock ≠ some g := ap (r0, u) hmem
  have row3 := a2.1.kept hg (Or.inr (fun e => hug e.symm))
  have hgl := row.lt g rfl
  have hgh := hgb g rfl
  refine ⟨⟨by rw [List.length_set, hqn]; exact row3, hgb, Nat.le_trans in2.1 hg.size, fun p hp => ?_, fun a b p q hp hq' hab => ?_⟩, ?_⟩
  · obtain ⟨j, hj, hpj⟩ := List.mem_iff_getElem.1 hp
    rw [List.length_set] at hj
    by_cases hij : i = j
    · subst hij
      simp at hpj
      subst hpj
      exact ⟨hown, (in2.2.1 (r0, u) hmem).2⟩
    · rw [List.getElem_set_ne hij] at hpj
      have hpm : p ∈ qs := by rw [← hpj]; exact List.getElem_mem hj
      refine ⟨(in2.2.1 p hpm).1.kept hg ?_, (in2.2.1 p hpm).2⟩
      exact in2.2.2 j i p (r0, u) (by rw [List.getElem?_eq_getElem hj, hpj]) hq (fun e => hij e.symm)
  · have same : ∀ (c : Nat) (x : R × Value), (qs.set i (r, u))[c]? = some x → ∃ y, qs[c]? = some y ∧ y.2 = x.2 := by
      intro c x hx
      rw [List.getElem?_set] at hx
      by_cases hic : i = c
      · subst hic
        rw [if_pos rfl] at hx
        split at hx
        · simp at hx; exact ⟨(r0, u), hq, by rw [← hx]⟩
        · cases hx
      · rw [if_neg hic] at hx; exact ⟨x, hx, rfl⟩
    obtain ⟨y, hy, e1⟩ := same a p hp
    obtain ⟨z, hz, e2⟩ := same b q hq'
    rw [← e1, ← e2]
    exact in2.2.2 a b y z hy hz hab
  · exact (Mid.of_grown g12 (fun k hk => by simp at hk; omega)).trans (Mid.of_grown hg (fun k hk => ⟨((in2.2.1 (r0, u) hmem).1.lt k hk).1, (in2.2.1 (r0, u) hmem).2 k hk⟩))

theorem mark_inner {wr : World} {lo hi g n cap i : Nat} {qs : List (R × Value)} {r0 : R} {u : Value} (hq : qs[i]? = some (r0, u)) (ho : OwnRecs wr lo hi (.slice (some ⟨g, 0, none⟩) n cap) qs) (hqn : qs.length = n) (a b : Nat) (x y : Value) :
    ((wr.setCell ⟨g, a, none⟩ x).setCell ⟨g, b, none⟩ y).ownsRow lo 3 1 u r0.2.2.length (r0.2.2.map (Value.int .i64)) := by
  obtain ⟨row, hgb, inn⟩ := ho
  rw [hqn] at row
  have a1 := row.stored a x
  have a2 := a1.1.stored b y
  obtain ⟨cur, hcur⟩ := row_block row
  have hug := inn.apart hcur (by decide) (r0, u) (List.mem_of_getElem? hq)
  exact ((inn.2.1 (r0, u) (List.mem_of_getElem? hq)).1.kept a1.2 (Or.inr hug)).kept a2.2 (Or.inr hug)

set_option maxHeartbeats 2000000 in
theorem markRecs_any (v : Value) (ps : List (R × Value)) (k : Int) (lo hi : Nat) (w : World) (ho : OwnRecs w lo hi v ps) (hl : tot (ps.map (·.1)) ≤ 1048576) (hk0 : 0 ≤ k) (hk1 : k ≤ 1000) :
    Calls Tryz.prog 86 #[v, .int .i64 k] w fun e w' => e = .returned (.int .i64 (kAt (ps.map (·.1)) k ps.length)) ∧ OwnRecs w' lo hi v (stg ps k ps.length) ∧ Mid lo hi w w' := by
  have hlen := tot_len (ps.map (·.1))
  rw [List.length_map] at hlen
  by_cases h0 : ps.length = 0
  · obtain rfl : ps = [] := List.length_eq_zero_iff.1 h0
    have HO : Hid (OwnRecs w lo hi v (stg [] k 0)) := by show OwnRecs _ _ _ _ _; rw [stg_zero]; exact ho
    obtain ⟨ao, cap, rfl⟩ := row_shape ho.1
    clear ho
    go_enter Tryz.func86, Tryz.ntmps86
    go_wp2
    refine wp_loop_rounds 1 ?_
    rw [rounds_succ]
    go_wp2
    go_ret
    exact ⟨by simp [kAt, pre], HO.out, Mid.refl _ _ _⟩
  obtain ⟨g, cap, rfl⟩ : ∃ g cap, v = .slice (some ⟨g, 0, none⟩) ps.length cap := by
    rcases ho.1.2 with ⟨_, hn0⟩ | ⟨g, cap, cur, h, _⟩
    · exact absurd hn0 h0
    · exact ⟨g, cap, h⟩
  have H0 : Hid (OwnRecs w lo hi (.slice (some ⟨g, 0, none⟩) ps.length cap) (stg ps k 0)) := by show OwnRecs _ _ _ _ _; rw [stg_zero]; exact ho
  clear ho
  go_enter Tryz.func86, Tryz.ntmps86
  go_wp2
  go_loopw [1, 5] (fun q i wr => ∃ (j : Nat) (K : Int), j ≤ ps.length ∧ i = .int .i64 j ∧ q = .int .i64 K ∧ Hid (K = kAt (ps.map (·.1)) k j) ∧ Hid (OwnRecs wr lo hi (.slice (some ⟨g, 0, none⟩) ps.length cap) (stg ps k j)) ∧ Hid (Mid lo hi w wr)) (fun _ i _ => ps.length - (intOf i).toNat)
  case atStart => exact ⟨0, k, Nat.zero_le _, rfl, rfl, (kAt_zero _ _).symm, H0, Mid.refl _ _ _⟩
  case round =>
    obtain ⟨j, K, hj, rfl, rfl, HK, HO, HM⟩ := hrel
    have hKb : 0 ≤ K ∧ K ≤ 900000000 := by rw [HK.out]; exact kAt_bd _ k j (by rw [List.length_map]; exact hj) hl hk0 hk1
    by_cases hlt : j < ps.length
    · obtain ⟨p, hp⟩ : ∃ p, Hid (ps[j]? = some p) := ⟨ps[j], by show _ = _; simp [hlt]⟩
      have HS : Hid ((stg ps k j)[j]? = some (p.1, p.2)) := by
        have := stg_get ps k j j p hp.out
        rw [if_neg (by omega)] at this
        exact this
      have HPM : Hid ((ps.map (·.1))[j]? = some p.1) := by show _ = _; rw [List.getElem?_map, hp.out]; rfl
      have hpl : p.1.2.2.length ≤ 1048576 := Nat.le_trans (tot_mem _ _ (List.mem_of_getElem? HPM.out)) hl
      have row := HO.out.1
      rw [stg_length] at row
      obtain ⟨f0, f1, f2⟩ := flat_get _ j _ HS.out
      have c0 : wr.cell? ⟨g, j * 3, none⟩ = some (.int .i64 p.1.1) := by rw [row.cellAt _ (by omega)]; exact f0
      have c1 : wr.cell? ⟨g, j * 3 + 1, none⟩ = some (.int .i64 p.1.2.1) := by rw [row.cellAt _ (by omega)]; exact f1
      have c2 : wr.cell? ⟨g, j * 3 + 2, none⟩ = some p.2 := by rw [row.cellAt _ (by omega)]; exact f2
      have z0 := row.frozenAt (j * 3)
      have z1 := row.frozenAt (j * 3 + 1)
      clear row f0 f1 f2
      go_wp2_with fail
      have INN := hide_it (mark_inner HS.out HO.out (stg_length ps k j) (j * 3) (j * 3 + 1) (.int .i64 K) (.int .i64 (K + 1)))
      refine (markInts_any p.2 _ (K + 1 + 1) lo p.1.2.2.length _ INN.out hpl (by omega) (by omega)).mono ?_
      rintro e w3 ⟨rfl, hown3, hg3⟩
      have ST := mark_step (r := markR p.1 K) (w3 := w3) HS.out HO.out (stg_length ps k j) rfl (by
        show World.ownsRow _ _ _ _ _ (markI p.1.2.2.length (K + 2)).length ((markI p.1.2.2.length (K + 2)).map (Value.int .i64))
        rw [markI_length, show K + 2 = K + 1 + 1 by omega]; exact hown3) hg3
      have HO3 : Hid (OwnRecs w3 lo hi (.slice (some ⟨g, 0, none⟩) ps.length cap) (stg ps k (j + 1))) := by
        show OwnRecs _ _ _ _ _
        rw [stg_succ ps k j p hp.out, ← HK.out]; exact ST.1
      have HM3 : Hid (Mid lo hi w w3) := HM.out.trans ST.2
      have HK3 : Hid (K + 1 + 1 + p.1.2.2.length = kAt (ps.map (·.1)) k (j + 1)) := by
        show _ = _
        rw [kAt_succ _ k j p.1 HPM.out, ← HK.out]; omega
      clear ST hown3 hg3
      go_wp2
      go_roundw
      case rel => exact ⟨j + 1, _, by omega, by go_num, rfl, HK3, HO3, HM3⟩
      case measure => simp [intOf]; omega
    · have HJ : Hid (j = ps.length) := by show _ = _; omega
      have HO2 : Hid (OwnRecs wr lo hi (.slice (some ⟨g, 0, none⟩) ps.length cap) (stg ps k ps.length)) := by
        have := HO.out; rw [HJ.out] at this; exact this
      have HK2 : Hid (kAt (ps.map (·.1)) k ps.length = K) := by show _ = _; rw [HK.out, HJ.out]
      go_wp2
      go_ret
      exact ⟨by rw [HK2.out]; rfl, HO2.out, HM.out⟩

theorem markLog_any (v : Value) (ps : List (R × Value)) (f k : Int) (lo hi : Nat) (w : World) (ho : OwnRecs w lo hi v ps) (hl : tot (ps.map (·.1)) ≤ 1048576) (hk0 : 0 ≤ k) (hk1 : k ≤ 1000) :
    Calls Tryz.prog 85 #[.agg #[v, .int .i64 f], .int .i64 k] w fun e w' => e = .returned (.int .i64 (kAt (ps.map (·.1)) k ps.length)) ∧ OwnRecs w' lo hi v (stg ps k ps.length) ∧ Mid lo hi w w' := by
  have HS : Hid (∀ o, Calls Tryz.prog 86 #[v, .int .i64 k] (w.alloc o) fun e w' => e = .returned (.int .i64 (kAt (ps.map (·.1)) k ps.length)) ∧ OwnRecs w' lo hi v (stg ps k ps.length) ∧ Mid lo hi w w') := fun o => by
    have hb := (Below.refl w.heap.size w).alloc (Nat.le_refl _) o
    refine (markRecs_any v ps k lo hi (w.alloc o) (ho.below hb ho.2.2.1) hl hk0 hk1).mono ?_
    rintro e w' ⟨h1, h2, h3⟩
    exact ⟨h1, h2, (Mid.of_below hb (Nat.le_refl _)).trans h3⟩
  obtain ⟨ao, cap, rfl⟩ := row_shape ho.1
  clear ho
  go_enter Tryz.func85, Tryz.ntmps85
  go_wp2_with (go_at_call 86; refine (HS.out _).mono ?_; rintro e w1 ⟨rfl, h2, h3⟩)
  go_ret
  exact ⟨rfl, by assumption, by assumption⟩

set_option maxHeartbeats 2000000 in
theorem heldRecs_any (v : Value) (rs : List R) (k : Int) (w : World) (hv : Recs w v (markAll rs k)) (hl : tot rs ≤ 1048576) (hk0 : 0 ≤ k) (hk1 : k ≤ 1000) :
    Calls Tryz.prog 110 #[v, .int .i64 k] w fun e w' => e = .returned (.int .i64 (kAt rs k rs.length)) ∧ w' = w := by
  have hlen := tot_len rs
  rcases hv with ⟨hz, ao, cap, rfl⟩ | ⟨b, off, cap, rfl, hz, hc⟩
  · have h0 : rs.length = 0 := by have := congrArg List.length hz; rw [markAll_length] at this; simpa using this
    obtain rfl : rs = [] := List.length_eq_zero_iff.1 h0
    clear hz h0
    go_enter Tryz.func110, Tryz.ntmps110
    go_wp2
    refine wp_loop_rounds 1 ?_
    rw [rounds_succ]
    go_wp2
    go_ret
    exact ⟨by simp [kAt, pre], rfl⟩
  rw [markAll_length]
  have HC : Hid (∀ i r, rs[i]? = some r → ∃ u, RecCells w b (off + i * 3) (markR r (kAt rs k i)) u) := fun i r hr => hc i _ (markAll_get rs k i r hr)
  clear hc hz
  go_enter Tryz.func110, Tryz.ntmps110
  go_wp2
  go_loop [1, 5] (fun q i => ∃ (j : Nat) (K : Int), j ≤ rs.length ∧ i = .int .i64 j ∧ q = .int .i64 K ∧ Hid (K = kAt rs k j)) (fun _ i => rs.length - (intOf i).toNat)
  case atStart => exact ⟨0, k, Nat.zero_le _, rfl, rfl, (kAt_zero _ _).symm⟩
  case round =>
    obtain ⟨j, K, hj, rfl, rfl, HK⟩ := hrel
    have hKb : 0 ≤ K ∧ K ≤ 900000000 := by rw [HK.out]; exact kAt_bd _ k j hj hl hk0 hk1
    by_cases hlt : j < rs.length
    · obtain ⟨r, hr⟩ : ∃ r, Hid (rs[j]? = some r) := ⟨rs[j], by show _ = _; simp [hlt]⟩
      have hrl : r.2.2.length ≤ 1048576 := Nat.le_trans (tot_mem _ _ (List.mem_of_getElem? hr.out)) hl
      obtain ⟨u, hu⟩ := HC.out j r hr.out
      rw [← HK.out] at hu
      obtain ⟨c0, c1, c2, hI⟩ := hu
      have d0 : w.cell? ⟨b, off + j * 3, none⟩ = some (.int .i64 K) := c0
      have d1 : w.cell? ⟨b, off + j * 3 + 1, none⟩ = some (.int .i64 (K + 1)) := c1
      have HI : Hid (Ints w u (markI r.2.2.length (K + 1 + 1))) := by
        have h : Ints w u (markI r.2.2.length (K + 2)) := hI
        rw [show K + 2 = K + 1 + 1 by omega] at h; exact h
      have HK3 : Hid (K + 1 + 1 + r.2.2.length = kAt rs k (j + 1)) := by
        show _ = _
        rw [kAt_succ _ k j r hr.out, ← HK.out]; omega
      clear c0 c1 hI
      go_wp2_with fail
      refine (heldInts_any u r.2.2.length (K + 1 + 1) w HI.out hrl (by omega) (by omega)).mono ?_
      rintro e w1 ⟨rfl, rfl⟩
      go_wp2
      go_round
      case rel => exact ⟨j + 1, _, by omega, by go_num, rfl, HK3⟩
      case measure => simp [intOf]; omega
    · have HK2 : Hid (kAt rs k rs.length = K) := by
        show _ = _
        have hje : j = rs.length := by omega
        rw [HK.out, hje]
      go_wp2
      go_ret
      exact ⟨by rw [HK2.out]; rfl, rfl⟩

theorem heldLog_any (v : Value) (rs : List R) (f k : Int) (w : World) (hv : Recs w v (markAll rs k)) (hl : tot rs ≤ 1048576) (hk0 : 0 ≤ k) (hk1 : k ≤ 1000) :
    Calls Tryz.prog 109 #[.agg #[v, .int .i64 f], .int .i64 k] w fun e w' => e = .returned (.int .i64 (kAt rs k rs.length)) ∧ Below w.heap.size w w' := by
  have hKb := kAt_bd rs k rs.length (Nat.le_refl _) hl hk0 hk1
  have HS : Hid (∀ o, Calls Tryz.prog 110 #[v, .int .i64 k] (w.alloc o) fun e w' => e = .returned (.int .i64 (kAt rs k rs.length)) ∧ w' = w.alloc o) := fun o =>
    heldRecs_any v rs k (w.alloc o) (hv.later ((Below.refl _ _).alloc (Nat.le_refl _) o) (Nat.le_refl _)) hl hk0 hk1
  obtain ⟨ao, cap, rfl⟩ := hv.shape
  clear hv
  go_enter Tryz.func109, Tryz.ntmps109
  go_wp2_with (go_at_call 110; refine (HS.out _).mono ?_; rintro e w1 ⟨rfl, rfl⟩)
  go_ret
  exact ⟨rfl, (Below.refl _ _).alloc (Nat.le_refl _) _⟩

end Go.Proofs.YtkkkdgpbmmjieaaGreatDoor

namespace Go.Proofs.YtkkkdgpbmmjieaaGreatDoor
open Go.RowKit

theorem alloc_below (w : World) (o : Obj) : Below w.heap.size w (w.alloc o) := (Below.refl _ _).alloc (Nat.le_refl _) o
theorem below_after {w : World} {o : Obj} {w' : World} (h : Below (w.alloc o).heap.size (w.alloc o) w') : Below w.heap.size w w' :=
  (alloc_below w o).trans (h.mono (by simp))

set_option maxHeartbeats 2000000 in
theorem entry_any (k t : Int) (v : Value) (zs : List Int) (a : Addr) (w : World) (hv : Ints w v zs) (hl : zs.length ≤ 1048576) (ha : ErrAt w a) :
    Calls Tryz.prog 177 #[.agg #[.int .i64 k, .int .i64 t, v]] w fun e w' => (∃ ent, e = .returned (.tuple #[ent, errV (Pl.recOk k t zs) a])) ∧ Below w.heap.size w w' := by
  have hv1 : Hid (∀ o, Ints (w.alloc o) v zs) := fun o => hv.later (alloc_below w o) (Nat.le_refl _)
  have ha1 : Hid (∀ o, ErrAt (w.alloc o) a) := fun o => ha.later (alloc_below w o) (Nat.le_refl _)
  have hb0 : 0 < w.heap.size := World.block_lt_of_cell? _ _ ha
  unfold ErrAt at ha
  clear hv
  by_cases ht1 : t < 1
  · have HE : Hid (errV (Pl.recOk k t zs) a = .iface 283 (.pointer (some a))) := by
      show _ = _; rw [Pl.recOk_t k t zs (Pl.inB_lo ht1)]; rfl
    go_enter Tryz.func177, Tryz.ntmps177
    go_wp2
    go_quiet (fail)
    go_wp2
    go_ret2
    exact ⟨⟨_, by rw [HE.out]; rfl⟩, below_drewN (alloc_below _ _) _⟩
  by_cases ht6 : 6 < t
  · have HE : Hid (errV (Pl.recOk k t zs) a = .iface 283 (.pointer (some a))) := by
      show _ = _; rw [Pl.recOk_t k t zs (Pl.inB_hi ht6)]; rfl
    go_enter Tryz.func177, Tryz.ntmps177
    go_wp2
    go_quiet (fail)
    go_wp2
    go_ret2
    exact ⟨⟨_, by rw [HE.out]; rfl⟩, below_drewN (alloc_below _ _) _⟩
  have HT : Hid (Pl.inB t 1 6 = true) := Pl.inB_mk (by omega) (by omega)
  by_cases h1 : k = 1
  · subst h1
    have HE : Hid (Pl.recOk 1 t zs = Pl.holdOk zs) := Pl.recOk_1 t zs HT.out
    go_enter Tryz.func177, Tryz.ntmps177
    go_wp2_with (go_at_call 197; refine (hold_any _ _ zs a _ (hv1.out _) (ha1.out _)).mono ?_; rintro e w' ⟨⟨ent, rfl⟩, hb⟩)
    go_ret2
    exact ⟨⟨_, by rw [HE.out]; rfl⟩, below_after (by assumption)⟩
  by_cases h4 : k = 4
  · subst h4
    have HE : Hid (Pl.recOk 4 t zs = Pl.manyOk zs) := Pl.recOk_4 t zs HT.out
    go_enter Tryz.func177, Tryz.ntmps177
    go_wp2_with (go_at_call 198; refine (begin_any _ _ zs a _ (hv1.out _) hl (ha1.out _)).mono ?_; rintro e w' ⟨⟨ent, rfl⟩, hb⟩)
    go_ret2
    exact ⟨⟨_, by rw [HE.out]; rfl⟩, below_after (by assumption)⟩
  cases hk : Pl.inB k 2 7
  · have HE : Hid (errV (Pl.recOk k t zs) a = .iface 283 (.pointer (some a))) := by
      show _ = _; rw [Pl.recOk_none k t zs HT.out h1 h4 hk]; rfl
    have hk' := Pl.inB_false hk
    have h2 : ¬ k = 2 := by omega
    have h3 : ¬ k = 3 := by omega
    have h5 : ¬ k = 5 := by omega
    have h6 : ¬ k = 6 := by omega
    have h7 : ¬ k = 7 := by omega
    clear hk' hk
    go_enter Tryz.func177, Tryz.ntmps177
    go_wp2
    go_quiet (fail)
    go_wp2
    go_ret2
    exact ⟨⟨_, by rw [HE.out]; rfl⟩, below_drewN (alloc_below _ _) _⟩
  · have HE : Hid (Pl.recOk k t zs = (zs.length == 0)) := Pl.recOk_plain k t zs HT.out h1 h4 hk
    have hk' := Pl.inB_true hk
    clear hk
    rcases (show k = 2 ∨ k = 3 ∨ k = 5 ∨ k = 6 ∨ k = 7 by omega) with rfl | rfl | rfl | rfl | rfl
    all_goals
      clear hk' h1 h4
      go_enter Tryz.func177, Tryz.ntmps177
      go_wp2_with (go_at_call 199; refine (plain_any _ _ _ zs a _ (hv1.out _) (ha1.out _)).mono ?_; rintro e w' ⟨⟨ent, rfl⟩, hb⟩)
      go_ret2
      exact ⟨⟨_, by rw [HE.out]; rfl⟩, below_after (by assumption)⟩

theorem entry_yes (k t : Int) (v : Value) (zs : List Int) (a : Addr) (w : World) (hv : Ints w v zs) (hl : zs.length ≤ 1048576) (ha : ErrAt w a) (h : Pl.recOk k t zs = true) :
    Calls Tryz.prog 177 #[.agg #[.int .i64 k, .int .i64 t, v]] w fun e w' => (∃ ent, e = .returned (.tuple #[ent, .nilIface])) ∧ Below w.heap.size w w' := by
  have := entry_any k t v zs a w hv hl ha
  rw [h] at this
  exact this
theorem entry_no (k t : Int) (v : Value) (zs : List Int) (a : Addr) (w : World) (hv : Ints w v zs) (hl : zs.length ≤ 1048576) (ha : ErrAt w a) (h : Pl.recOk k t zs = false) :
    Calls Tryz.prog 177 #[.agg #[.int .i64 k, .int .i64 t, v]] w fun e w' => (∃ ent, e = .returned (.tuple #[ent, .iface 283 (.pointer (some a))])) ∧ Below w.heap.size w w' := by
  have := entry_any k t v zs a w hv hl ha
  rw [h] at this
  exact this

set_option maxHeartbeats 1000000 in
theorem implOk_any (k t : Int) (v : Value) (zs : List Int) (a : Addr) (w : World) (hv : Ints w v zs) (hl : zs.length ≤ 1048576) (ha : ErrAt w a) :
    Calls Tryz.prog 155 #[.agg #[.int .i64 k, .int .i64 t, v]] w fun e w' => e = .returned (.bool (Pl.recOk k t zs)) ∧ Below w.heap.size w w' := by
  have hv1 : Hid (∀ o, Ints (w.alloc o) v zs) := fun o => hv.later (alloc_below w o) (Nat.le_refl _)
  have ha1 : Hid (∀ o, ErrAt (w.alloc o) a) := fun o => ha.later (alloc_below w o) (Nat.le_refl _)
  clear hv ha
  cases hr : Pl.recOk k t zs
  · have HR : Hid (Pl.recOk k t zs = false) := hr
    clear hr
    go_enter Tryz.func155, Tryz.ntmps155
    go_wp2_with (first
      | (go_at_call 177; refine (entry_no k t v zs a _ (hv1.out _) hl (ha1.out _) HR.out).mono ?_; rintro e w1 ⟨⟨ent, rfl⟩, hb⟩; have ha2 := (ha1.out _).later hb (Nat.le_refl _); unfold ErrAt at ha2)
      | (go_at_call 178; refine (is_same a _).mono ?_; rintro e w2 ⟨rfl, rfl⟩))
    go_ret
    exact ⟨rfl, below_after (by assumption)⟩
  · have HR : Hid (Pl.recOk k t zs = true) := hr
    clear hr
    go_enter Tryz.func155, Tryz.ntmps155
    go_wp2_with (first
      | (go_at_call 177; refine (entry_yes k t v zs a _ (hv1.out _) hl (ha1.out _) HR.out).mono ?_; rintro e w1 ⟨⟨ent, rfl⟩, hb⟩; have ha2 := (ha1.out _).later hb (Nat.le_refl _); unfold ErrAt at ha2)
      | (go_at_call 178; refine (is_nil a _).mono ?_; rintro e w2 ⟨rfl, rfl⟩))
    go_ret
    exact ⟨rfl, below_after (by assumption)⟩

end Go.Proofs.YtkkkdgpbmmjieaaGreatDoor

namespace Go.Proofs.YtkkkdgpbmmjieaaGreatDoor
open Go.RowKit

set_option maxHeartbeats 2000000 in
theorem specOk_any (k t : Int) (v : Value) (zs : List Int) (w : World) (hv : Ints w v zs) (hl : zs.length ≤ 1048576) :
    Calls Tryz.prog 116 #[.agg #[.int .i64 k, .int .i64 t, v]] w fun e w' => e = .returned (.bool (Pl.recOk k t zs)) ∧ Below w.heap.size w w' := by
  have hv1 : Hid (∀ o, Ints (w.alloc o) v zs) := fun o => hv.later (alloc_below w o) (Nat.le_refl _)
  cases hT : Pl.inB t 1 6
  · have HE : Hid (Pl.recOk k t zs = false) := Pl.recOk_t k t zs hT
    clear hv
    go_enter Tryz.func116, Tryz.ntmps116
    go_wp2_with (go_at_call 49; refine (in_any _ _ _ _).mono ?_; rintro e w1 ⟨rfl, rfl⟩)
    go_ret
    exact ⟨by rw [HE.out]; rfl, alloc_below _ _⟩
  have HT : Hid (Pl.inB t 1 6 = true) := hT
  by_cases h1 : k = 1
  · subst h1
    have HE : Hid (Pl.recOk 1 t zs = Pl.holdOk zs) := Pl.recOk_1 t zs HT.out
    by_cases hz : zs.length = 1
    · obtain ⟨z, rfl⟩ := List.length_eq_one_iff.1 hz
      rcases hv with ⟨h, _⟩ | ⟨b, off, cap, rfl, hz, hc⟩
      · simp at h
      have hc0 : w.cell? ⟨b, off, none⟩ = some (.int .i64 z) := hc 0 (by simp)
      have hbw : b < w.heap.size := World.block_lt_of_cell? _ _ hc0
      have HH : Hid (Pl.holdOk [z] = Pl.inB z 1 3) := by show _ = _; simp [Pl.holdOk]
      clear hc hz hl
      go_enter Tryz.func116, Tryz.ntmps116
      go_wp2_with (go_at_call 49; refine (in_any _ _ _ _).mono ?_; rintro e w1 ⟨rfl, rfl⟩)
      go_ret
      exact ⟨by rw [HE.out, HH.out]; rfl, alloc_below _ _⟩
    · have HH : Hid (Pl.holdOk zs = false) := by show _ = _; simp [Pl.holdOk, hz]
      have hne : ¬ (zs.length : Int) = 1 := by omega
      obtain ⟨ao, cap, rfl⟩ := hv.shape
      clear hv hz
      go_enter Tryz.func116, Tryz.ntmps116
      go_wp2_with (go_at_call 49; refine (in_any _ _ _ _).mono ?_; rintro e w1 ⟨rfl, rfl⟩)
      go_ret
      exact ⟨by rw [HE.out, HH.out]; rfl, alloc_below _ _⟩
  by_cases h4 : k = 4
  · subst h4
    have HE : Hid (Pl.recOk 4 t zs = Pl.manyOk zs) := Pl.recOk_4 t zs HT.out
    clear hv
    go_enter Tryz.func116, Tryz.ntmps116
    go_wp2_with (first
      | (go_at_call 49; refine (in_any _ _ _ _).mono ?_; rintro e w1 ⟨rfl, rfl⟩)
      | (go_at_call 152; refine (many_any _ zs _ (hv1.out _) hl).mono ?_; rintro e w1 ⟨rfl, rfl⟩))
    go_ret
    exact ⟨by rw [HE.out]; rfl, alloc_below _ _⟩
  have HE : Hid (Pl.recOk k t zs = (Pl.inB k 2 7 && (zs.length == 0))) := Pl.recOk_p k t zs HT.out h1 h4
  obtain ⟨ao, cap, rfl⟩ := hv.shape
  clear hv
  cases hk : Pl.inB k 2 7
  · rw [hk] at HE
    go_enter Tryz.func116, Tryz.ntmps116
    go_wp2_with (go_at_call 49; refine (in_any _ _ _ _).mono ?_; rintro e w1 ⟨rfl, rfl⟩)
    go_ret
    exact ⟨by rw [HE.out]; rfl, alloc_below _ _⟩
  · rw [hk] at HE
    have HZ : Hid ((zs.length == 0) = ((zs.length : Int) == 0)) := by
      show _ = _
      rw [Bool.eq_iff_iff]; simp
    go_enter Tryz.func116, Tryz.ntmps116
    go_wp2_with (go_at_call 49; refine (in_any _ _ _ _).mono ?_; rintro e w1 ⟨rfl, rfl⟩)
    go_ret
    exact ⟨by rw [HE.out, HZ.out]; rfl, alloc_below _ _⟩

end Go.Proofs.YtkkkdgpbmmjieaaGreatDoor

namespace Go.Proofs.YtkkkdgpbmmjieaaGreatDoor
open Go.RowKit

def rOk (r : R) : Bool := Pl.recOk r.1 r.2.1 r.2.2
def logOk (rs : List R) (f : Int) : Bool := rs.all rOk && (decide (rs.length ≤ 40) && Pl.inB f 0 rs.length)

theorem all_snocR (rs : List R) (k : Nat) (r : R) (h : rs[k]? = some r) : (rs.take (k + 1)).all rOk = ((rs.take k).all rOk && rOk r) := by
  have hk : k < rs.length := by
    by_cases hk : k < rs.length
    · exact hk
    · rw [List.getElem?_eq_none (by omega)] at h; cases h
  rw [List.getElem?_eq_getElem hk] at h
  simp only [Option.some.injEq] at h
  rw [List.take_succ_eq_append_getElem hk, h]
  simp
theorem all_badR (rs : List R) (k : Nat) (r : R) (h : rs[k]? = some r) (hb : rOk r = false) : rs.all rOk = false := by
  rw [List.all_eq_false]
  exact ⟨r, List.mem_of_getElem? h, by rw [hb]; decide⟩

theorem box2 (w : World) (x y : Value) (ty : TypeId) : (w.alloc (.cells #[x, y] ty)).cell? ⟨w.heap.size, 0, none⟩ = some x ∧ (w.alloc (.cells #[x, y] ty)).cell? ⟨w.heap.size, 1, none⟩ = some y := by
  constructor <;> simp

/-- Two cells of one block, as they stay while nothing below turns. -/
def Two (w : World) (b : Nat) (x y : Value) : Prop := w.cell? ⟨b, 0, none⟩ = some x ∧ w.cell? ⟨b, 1, none⟩ = some y
theorem Two.later {B : Nat} {w w' : World} {b : Nat} {x y : Value} (h : Two w b x y) (hb : Below B w w') (hB : w.heap.size ≤ B) : Two w' b x y := by
  obtain ⟨h0, h1⟩ := h
  have hlt := World.block_lt_of_cell? _ _ h0
  simp at hlt
  exact ⟨by rw [← h0]; exact hb.cell (p := ⟨b, 0, none⟩) (by simp; omega), by rw [← h1]; exact hb.cell (p := ⟨b, 1, none⟩) (by simp; omega)⟩

set_option maxHeartbeats 1000000 in
theorem specLogOk_any (v : Value) (rs : List R) (f : Int) (w : World) (hv : Recs w v rs) (hl : tot rs ≤ 1048576) :
    Calls Tryz.prog 70 #[.agg #[v, .int .i64 f]] w fun e w' => e = .returned (.bool (logOk rs f)) ∧ Below w.heap.size w w' := by
  have hlen := tot_len rs
  have HM : Hid (∀ r ∈ rs, r.2.2.length ≤ 1048576) := fun r hr => Nat.le_trans (tot_mem rs r hr) hl
  have H0 : Hid (Two (w.alloc (.cells #[v, .int .i64 f] 35)) w.heap.size v (.int .i64 f)) := box2 w _ _ _
  rcases hv with ⟨rfl, ao, cap, rfl⟩ | ⟨b, off, cap, rfl, hz, hc⟩
  · have HE : Hid (logOk [] f = Pl.inB f 0 0) := by show _ = _; simp [logOk]
    go_enter Tryz.func70, Tryz.ntmps70
    go_wp2
    refine wp_loop_rounds 1 ?_
    rw [rounds_succ]
    go_wp2_with (go_at_call 49; refine (in_any _ _ _ _).mono ?_; rintro e w' ⟨rfl, rfl⟩)
    go_ret
    exact ⟨by rw [HE.out]; rfl, alloc_below _ _⟩
  have HC : Hid (∀ W, Below w.heap.size w W → ∀ i r, rs[i]? = some r → ∃ u, RecCells W b (off + i * 3) r u) := fun W h i r hr => by
    obtain ⟨u, hu⟩ := hc i r hr
    exact ⟨u, hu.later h (Nat.le_refl _)⟩
  have hzl : 0 < rs.length := List.length_pos_iff.2 hz
  clear hc hz
  go_enter Tryz.func70, Tryz.ntmps70
  go_wp2
  go_loopw [3] (fun i wr => ∃ k : Nat, k ≤ rs.length ∧ i = .int .i64 k ∧ Hid ((rs.take k).all rOk = true) ∧ Hid (Two wr w.heap.size (.slice (some ⟨b, off, none⟩) rs.length cap) (.int .i64 f)) ∧ Below w.heap.size w wr) (fun i _ => rs.length - (intOf i).toNat)
  case atStart => exact ⟨0, Nat.zero_le _, rfl, rfl, H0, alloc_below _ _⟩
  case round =>
    obtain ⟨k, hk, rfl, HA, HT, hbe⟩ := hrel
    obtain ⟨t0, t1⟩ := HT.out
    by_cases hlt : k < rs.length
    · obtain ⟨r, hr⟩ : ∃ r, Hid (rs[k]? = some r) := ⟨rs[k], by show _ = _; simp [hlt]⟩
      have hrl : r.2.2.length ≤ 1048576 := HM.out r (List.mem_of_getElem? hr.out)
      obtain ⟨u, c0, c1, c2, hI⟩ := HC.out wr hbe k r hr.out
      have HI : Hid (Ints wr u r.2.2) := hI
      have HB : Hid (Below w.heap.size w wr) := hbe
      clear hI hbe
      cases hok : rOk r
      · have HE : Hid (logOk rs f = false) := by show _ = _; unfold logOk; rw [all_badR rs k r hr.out hok]; rfl
        have hsp := specOk_any r.1 r.2.1 u r.2.2 wr HI.out hrl
        have hok' : Pl.recOk r.1 r.2.1 r.2.2 = false := hok
        rw [hok'] at hsp
        have HS := hsp
        clear hsp hok hok'
        go_wp2_with fail
        refine HS.mono ?_
        rintro e w2 ⟨rfl, hb2⟩
        go_wp2
        go_ret
        exact ⟨by rw [HE.out]; rfl, HB.out.trans (hb2.mono HB.out.size)⟩
      · have HA2 : Hid ((rs.take (k + 1)).all rOk = true) := by show _ = _; rw [all_snocR rs k r hr.out, HA.out, hok]; rfl
        have hsp := specOk_any r.1 r.2.1 u r.2.2 wr HI.out hrl
        have hok' : Pl.recOk r.1 r.2.1 r.2.2 = true := hok
        rw [hok'] at hsp
        have HS := hsp
        clear hsp hok hok'
        go_wp2_with fail
        refine HS.mono ?_
        rintro e w2 ⟨rfl, hb2⟩
        have HT2 := HT.out.later hb2 (Nat.le_refl _)
        have HB2 : Hid (Below w.heap.size w w2) := HB.out.trans (hb2.mono HB.out.size)
        have HT3 : Hid (Two w2 w.heap.size (.slice (some ⟨b, off, none⟩) rs.length cap) (.int .i64 f)) := HT2
        clear hb2 HT2
        go_wp2
        go_roundw
        case rel => exact ⟨k + 1, by omega, by go_num, HA2, HT3, HB2.out⟩
        case measure => simp [intOf]; omega
    · have HE : Hid (logOk rs f = (decide (rs.length ≤ 40) && Pl.inB f 0 rs.length)) := by
        show _ = _
        have hke : k = rs.length := by omega
        have := HA.out
        rw [hke, List.take_length] at this
        unfold logOk; rw [this]; rfl
      by_cases h40 : (rs.length : Int) ≤ 40
      · have HE2 : Hid (decide (rs.length ≤ 40) = true) := by show _ = _; simp; omega
        go_wp2_with (go_at_call 49; refine (in_any _ _ _ _).mono ?_; rintro e w' ⟨rfl, rfl⟩)
        go_ret
        exact ⟨by rw [HE.out, HE2.out]; rfl, hbe⟩
      · have HE2 : Hid (decide (rs.length ≤ 40) = false) := by show _ = _; simp; omega
        go_wp2_with (go_at_call 49; refine (in_any _ _ _ _).mono ?_; rintro e w' ⟨rfl, rfl⟩)
        go_ret
        exact ⟨by rw [HE.out, HE2.out]; rfl, hbe⟩

end Go.Proofs.YtkkkdgpbmmjieaaGreatDoor

namespace Go.Proofs.YtkkkdgpbmmjieaaGreatDoor
open Go.RowKit

theorem logOk_long {rs : List R} {f : Int} (h : 40 < (rs.length : Int)) : logOk rs f = false := by
  have : decide (rs.length ≤ 40) = false := by simp; omega
  unfold logOk; rw [this]; simp
theorem logOk_in {rs : List R} {f : Int} (h : Pl.inB f 0 rs.length = false) : logOk rs f = false := by
  unfold logOk; rw [h]; simp
theorem logOk_all {rs : List R} {f : Int} (h1 : (rs.length : Int) ≤ 40) (h2 : 0 ≤ f) (h3 : f ≤ rs.length) : logOk rs f = rs.all rOk := by
  have : decide (rs.length ≤ 40) = true := by simp; omega
  unfold logOk; rw [this, Pl.inB_mk h2 h3]; simp

set_option maxHeartbeats 2000000 in
theorem implLogOk_any (v : Value) (rs : List R) (f : Int) (a : Addr) (w : World) (hv : Recs w v rs) (hl : tot rs ≤ 1048576) (ha : ErrAt w a) :
    Calls Tryz.prog 123 #[.agg #[v, .int .i64 f]] w fun e w' => e = .returned (.bool (logOk rs f)) ∧ Below w.heap.size w w' := by
  have hlen := tot_len rs
  have HM : Hid (∀ r ∈ rs, r.2.2.length ≤ 1048576) := fun r hr => Nat.le_trans (tot_mem rs r hr) hl
  have HAe : Hid (∀ W, Below w.heap.size w W → ErrAt W a) := fun W h => ha.later h (Nat.le_refl _)
  clear ha
  by_cases h40 : 40 < (rs.length : Int)
  · have HE : Hid (logOk rs f = false) := logOk_long h40
    obtain ⟨ao, cap, rfl⟩ := hv.shape
    clear hv
    go_enter Tryz.func123, Tryz.ntmps123
    go_wp2
    go_ret
    exact ⟨by rw [HE.out]; rfl, alloc_below _ _⟩
  by_cases hf0 : f < 0
  · have HE : Hid (logOk rs f = false) := logOk_in (Pl.inB_lo hf0)
    obtain ⟨ao, cap, rfl⟩ := hv.shape
    clear hv
    go_enter Tryz.func123, Tryz.ntmps123
    go_wp2
    go_ret
    exact ⟨by rw [HE.out]; rfl, alloc_below _ _⟩
  by_cases hfn : (rs.length : Int) < f
  · have HE : Hid (logOk rs f = false) := logOk_in (Pl.inB_hi hfn)
    obtain ⟨ao, cap, rfl⟩ := hv.shape
    clear hv
    go_enter Tryz.func123, Tryz.ntmps123
    go_wp2
    go_ret
    exact ⟨by rw [HE.out]; rfl, alloc_below _ _⟩
  have HG : Hid (logOk rs f = rs.all rOk) := logOk_all (by omega) (by omega) (by omega)
  rcases hv with ⟨rfl, ao, cap, rfl⟩ | ⟨b, off, cap, rfl, hz, hc⟩
  · go_enter Tryz.func123, Tryz.ntmps123
    go_wp2
    refine wp_loop_rounds 1 ?_
    rw [rounds_succ]
    go_wp2
    go_ret
    exact ⟨by rw [HG.out]; rfl, alloc_below _ _⟩
  have HC : Hid (∀ W, Below w.heap.size w W → ∀ i r, rs[i]? = some r → ∃ u, RecCells W b (off + i * 3) r u) := fun W h i r hr => by
    obtain ⟨u, hu⟩ := hc i r hr
    exact ⟨u, hu.later h (Nat.le_refl _)⟩
  have hzl : 0 < rs.length := List.length_pos_iff.2 hz
  clear hc hz
  go_enter Tryz.func123, Tryz.ntmps123
  go_wp2
  go_loopw [25] (fun i wr => ∃ k : Nat, k ≤ rs.length ∧ i = .int .i64 k ∧ Hid ((rs.take k).all rOk = true) ∧ Below w.heap.size w wr) (fun i _ => rs.length - (intOf i).toNat)
  case atStart => exact ⟨0, Nat.zero_le _, rfl, rfl, alloc_below _ _⟩
  case round =>
    obtain ⟨k, hk, rfl, HA, hbe⟩ := hrel
    by_cases hlt : k < rs.length
    · obtain ⟨r, hr⟩ : ∃ r, Hid (rs[k]? = some r) := ⟨rs[k], by show _ = _; simp [hlt]⟩
      have hrl : r.2.2.length ≤ 1048576 := HM.out r (List.mem_of_getElem? hr.out)
      obtain ⟨u, c0, c1, c2, hI⟩ := HC.out wr hbe k r hr.out
      have hbw : b < wr.heap.size := World.block_lt_of_cell? _ _ c0
      have HI : Hid (∀ o, Ints (wr.alloc o) u r.2.2) := fun o => hI.later (alloc_below _ _) (Nat.le_refl _)
      have HB : Hid (∀ o, Below w.heap.size w (wr.alloc o)) := fun o => hbe.alloc hbe.size o
      have HAr : Hid (∀ o, ErrAt (wr.alloc o) a) := fun o => HAe.out _ (HB.out o)
      obtain ⟨ao, cp, rfl⟩ := hI.shape
      clear hI hbe
      cases hok : rOk r
      · have HE : Hid (rs.all rOk = false) := all_badR rs k r hr.out hok
        have HS : Hid (∀ o, Calls Tryz.prog 155 #[.agg #[.int .i64 r.1, .int .i64 r.2.1, .slice ao r.2.2.length cp]] (wr.alloc o) fun e w' => e = .returned (.bool false) ∧ Below (wr.alloc o).heap.size (wr.alloc o) w') := fun o => by
          have := implOk_any r.1 r.2.1 _ r.2.2 a (wr.alloc o) (HI.out o) hrl (HAr.out o)
          have hok' : Pl.recOk r.1 r.2.1 r.2.2 = false := hok
          rw [hok'] at this
          exact this
        clear hok
        go_wp2_with fail
        refine (HS.out _).mono ?_
        rintro e w2 ⟨rfl, hb2⟩
        have HB2 : Hid (Below w.heap.size w w2) := (HB.out _).trans (hb2.mono (HB.out _).size)
        clear hb2
        go_wp2
        go_ret
        exact ⟨by rw [HG.out, HE.out]; rfl, HB2.out⟩
      · have HA2 : Hid ((rs.take (k + 1)).all rOk = true) := by show _ = _; rw [all_snocR rs k r hr.out, HA.out, hok]; rfl
        have HS : Hid (∀ o, Calls Tryz.prog 155 #[.agg #[.int .i64 r.1, .int .i64 r.2.1, .slice ao r.2.2.length cp]] (wr.alloc o) fun e w' => e = .returned (.bool true) ∧ Below (wr.alloc o).heap.size (wr.alloc o) w') := fun o => by
          have := implOk_any r.1 r.2.1 _ r.2.2 a (wr.alloc o) (HI.out o) hrl (HAr.out o)
          have hok' : Pl.recOk r.1 r.2.1 r.2.2 = true := hok
          rw [hok'] at this
          exact this
        clear hok
        go_wp2_with fail
        refine (HS.out _).mono ?_
        rintro e w2 ⟨rfl, hb2⟩
        have HB2 : Hid (Below w.heap.size w w2) := (HB.out _).trans (hb2.mono (HB.out _).size)
        clear hb2
        go_wp2
        go_roundw
        case rel => exact ⟨k + 1, by omega, by go_num, HA2, HB2.out⟩
        case measure => simp [intOf]; omega
    · have HE : Hid (rs.all rOk = true) := by
        show _ = _
        have hke : k = rs.length := by omega
        have := HA.out
        rw [hke, List.take_length] at this
        exact this
      go_wp2
      go_ret
      exact ⟨by rw [HG.out, HE.out]; rfl, hbe⟩

end Go.Proofs.YtkkkdgpbmmjieaaGreatDoor

namespace Go.Proofs.YtkkkdgpbmmjieaaGreatDoor
open Go.RowKit

theorem size1 (w : World) (o : Obj) : (w.alloc o).heap.size = w.heap.size + 1 := by simp

/-- A result's block as it was laid: its two cells are there, and may be written. -/
def Zero2 (w : World) (b : Nat) : Prop := w.cell? ⟨b, 0, none⟩ = some (.slice none 0 0) ∧ w.cell? ⟨b, 1, none⟩ = some (.int .i64 0) ∧ w.frozen? ⟨b, 0, none⟩ = false ∧ w.frozen? ⟨b, 1, none⟩ = false
theorem Zero2.later {B : Nat} {w w' : World} {b : Nat} (h : Zero2 w b) (hb : Below B w w') (hB : b < B) : Zero2 w' b := by
  obtain ⟨h0, h1, h2, h3⟩ := h
  exact ⟨by rw [← h0]; exact hb.cell (p := ⟨b, 0, none⟩) hB, by rw [← h1]; exact hb.cell (p := ⟨b, 1, none⟩) hB, by rw [← h2]; exact hb.frozen (p := ⟨b, 0, none⟩) hB, by rw [← h3]; exact hb.frozen (p := ⟨b, 1, none⟩) hB⟩
theorem Zero2.new (w : World) (ty : TypeId) : Zero2 (w.alloc (.cells #[.slice none 0 0, .int .i64 0] ty)) w.heap.size := by
  refine ⟨?_, ?_, ?_, ?_⟩ <;> simp

theorem Zero2.new2 (w : World) (o : Obj) (ty : TypeId) : Zero2 ((w.alloc o).alloc (.cells #[.slice none 0 0, .int .i64 0] ty)) (w.heap.size + 1) := by
  have h := Zero2.new (w.alloc o) ty
  rw [size1] at h
  exact h

/-- A log comes back, in memory of the call's own. -/
def LogOut (w w' : World) (e : Ending) (rs : List R) (f : Int) : Prop :=
  ∃ ao cap, e = .returned (.agg #[.slice ao rs.length cap, .int .i64 f]) ∧ Made w' w.heap.size (.slice ao rs.length cap) rs ∧ Below w.heap.size w w'

theorem Made.lo {w : World} {lo lo' : Nat} {v : Value} {rs : List R} (h : Made w lo v rs) (hl : lo' ≤ lo) : Made w lo' v rs := by
  obtain ⟨ps, hp, h1, h2, h3⟩ := h
  exact ⟨ps, hp, ownsRow_base h1 hl, h2, h3.1, fun p hp => ⟨ownsRow_base (h3.2.1 p hp).1 hl, (h3.2.1 p hp).2⟩, h3.2.2⟩

theorem Made.none (w : World) (lo : Nat) : Made w lo (.slice none 0 0) [] :=
  ⟨[], rfl, World.ownsRow_nil _ _ _ _, fun k hk => by simp [Value.ownBlock] at hk, Inner.nil _ _ _ (Nat.le_refl _)⟩

set_option maxHeartbeats 1000000 in
theorem forced_any (v : Value) (rs : List R) (w : World) (hv : Recs w v rs) (hl : tot rs ≤ 1048576) :
    Calls Tryz.prog 176 #[v] w fun e w' => LogOut w w' e rs rs.length := by
  have HS : Hid (∀ o, Calls Tryz.prog 140 #[v] (w.alloc o) fun e w' => ∃ ao cap, e = .returned (.slice ao rs.length cap) ∧ Made w' (w.alloc o).heap.size (.slice ao rs.length cap) rs ∧ Below (w.alloc o).heap.size (w.alloc o) w') := fun o =>
    copyRecs_any v rs (w.alloc o) (hv.later (alloc_below w o) (Nat.le_refl _)) hl
  obtain ⟨av, cv, rfl⟩ := hv.shape
  clear hv
  go_enter Tryz.func176, Tryz.ntmps176
  go_wp2_with fail
  refine (HS.out _).mono ?_
  rintro e w1 ⟨ao, cap, rfl, hm, hb⟩
  obtain ⟨hc, hf⟩ := bcell hb
  have hz : w.heap.size + 1 ≤ w1.heap.size := by have := hb.size; simp at this; exact this
  rw [size1] at hc hf
  have HM := hide_it hm
  have HB := hide_it (below_after hb)
  clear hm hb
  go_wp2
  refine bodyPost_ret (v := .agg #[.slice ao rs.length cap, .int .i64 rs.length]) (by simp [results, Tryz.results176, go_sem, hc]) rfl ⟨ao, cap, rfl, ?_, ?_⟩
  · exact ((HM.out.setBelow (by simp) _).setBelow (by simp) _).lo (by simp)
  · exact (HB.out.setCell (by simp) _).setCell (by simp) _

/-- What a log is when all is forced. -/
def forceR (rs : List R) (f : Int) : List R := if logOk rs f then rs else []
def forceF (rs : List R) (f : Int) : Int := if logOk rs f then rs.length else 0

set_option maxHeartbeats 1000000 in
theorem implForce_any (v : Value) (rs : List R) (f : Int) (a : Addr) (w : World) (hv : Recs w v rs) (hl : tot rs ≤ 1048576) (ha : ErrAt w a) :
    Calls Tryz.prog 147 #[.agg #[v, .int .i64 f]] w fun e w' => LogOut w w' e (forceR rs f) (forceF rs f) := by
  have hrl := tot_len rs
  have HV : Hid (∀ W, Below w.heap.size w W → Recs W v rs) := fun W h => hv.later h (Nat.le_refl _)
  have HA : Hid (∀ W, Below w.heap.size w W → ErrAt W a) := fun W h => ha.later h (Nat.le_refl _)
  obtain ⟨av, cv, hvs⟩ := hv.shape
  have HT : Hid (∀ o, Two ((w.alloc (.cells #[v, .int .i64 f] 35)).alloc o) w.heap.size v (.int .i64 f)) := fun o => Two.later (show Two _ _ _ _ from box2 w _ _ _) (alloc_below _ o) (Nat.le_refl _)
  clear hv ha
  subst hvs
  have HS : Hid (∀ o1 o2, Calls Tryz.prog 123 #[.agg #[.slice av rs.length cv, .int .i64 f]] ((w.alloc o1).alloc o2) fun e w' => e = .returned (.bool (logOk rs f)) ∧ Below ((w.alloc o1).alloc o2).heap.size ((w.alloc o1).alloc o2) w') := fun o1 o2 =>
    implLogOk_any _ rs f a _ (HV.out _ (below2 w o1 o2)) hl (HA.out _ (below2 w o1 o2))
  cases hok : logOk rs f
  · have HR : Hid (forceR rs f = [] ∧ forceF rs f = 0) := by constructor <;> simp [forceR, forceF, hok]
    rw [hok] at HS
    clear hok
    go_enter Tryz.func147, Tryz.ntmps147
    go_wp2_with fail
    refine (HS.out _ _).mono ?_
    rintro e w1 ⟨rfl, hb⟩
    obtain ⟨hc, hf⟩ := bcell hb
    have hz : w.heap.size + 2 ≤ w1.heap.size := by have := hb.size; rw [size2] at this; exact this
    rw [size2] at hc hf
    have HB := hide_it ((below2 w _ _).trans (hb.mono (by simp; omega)))
    clear hb
    go_wp2
    refine bodyPost_ret (v := .agg #[.slice none 0 0, .int .i64 0]) (by simp [results, Tryz.results147, go_sem, hc]) rfl ?_
    unfold LogOut
    rw [HR.out.1, HR.out.2]
    refine ⟨none, 0, rfl, Made.none _ _, ?_⟩
    exact (HB.out.setCell (by simp) _).setCell (by simp) _
  · have HR : Hid (forceR rs f = rs ∧ forceF rs f = rs.length) := by constructor <;> simp [forceR, forceF, hok]
    rw [hok] at HS
    clear hok
    go_enter Tryz.func147, Tryz.ntmps147
    go_wp2_with fail
    refine (HS.out _ _).mono ?_
    rintro e w1 ⟨rfl, hb⟩
    have HB := hide_it ((below2 w _ _).trans (hb.mono (by simp; omega)))
    have HZ : Hid (Zero2 w1 (w.heap.size + 1)) := Zero2.later (by exact Zero2.new2 _ _ _) hb (by simp)
    obtain ⟨t0, t1⟩ := (HT.out _).later hb (Nat.le_refl _)
    have hz : w.heap.size + 2 ≤ w1.heap.size := by have := hb.size; rw [size2] at this; exact this
    clear hb
    go_wp2_with fail
    refine (forced_any _ rs w1 (HV.out _ HB.out) hl).mono ?_
    rintro e w2 ⟨ao, cap, rfl, hm, hb2⟩
    have HM := hide_it hm
    have HB2 := hide_it (HB.out.trans (hb2.mono HB.out.size))
    obtain ⟨r0, r1, z0, z1⟩ := HZ.out.later hb2 (by omega)
    clear hm hb2
    go_wp2
    refine bodyPost_ret (v := .agg #[.slice ao rs.length cap, .int .i64 rs.length]) (by simp [results, Tryz.results147, go_sem, r0, r1]) rfl ?_
    unfold LogOut
    rw [HR.out.1, HR.out.2]
    refine ⟨ao, cap, rfl, ?_, ?_⟩
    · exact ((HM.out.setBelow (by simp; omega) _).setBelow (by simp; omega) _).lo (by omega)
    · exact (HB2.out.setCell (by simp) _).setCell (by simp) _

end Go.Proofs.YtkkkdgpbmmjieaaGreatDoor

namespace Go.Proofs.YtkkkdgpbmmjieaaGreatDoor
open Go.RowKit

theorem bcellB {B : Nat} {W w1 : World} (hb : Below B W w1) : (∀ b o, b < B → w1.cell? ⟨b, o, none⟩ = W.cell? ⟨b, o, none⟩) ∧ (∀ b o, b < B → w1.frozen? ⟨b, o, none⟩ = W.frozen? ⟨b, o, none⟩) :=
  ⟨fun b o h => hb.cell (p := ⟨b, o, none⟩) h, fun b o h => hb.frozen (p := ⟨b, o, none⟩) h⟩

theorem wpList_append_ints {ops : Array Oper} {rest : List Oper} {o : Oper} {a : Act} {w : World} {Q : Exit → Act → World → Prop} (hgd : o.guard = none) (s x : Operand)
    (ho : o.op = .call { callee := .builtin .append, args := #[s, x], argTypes := #[51, 51] })
    (base : Nat) (v xv : Value) (n : Nat) (xs : List Value) (zs : List Int) (hs : a.eval s = v) (hx : a.eval x = xv) (hown : w.ownsRow base 3 1 v n xs) (hI : Ints w xv zs) (hb : n + zs.length ≤ 16777216) (hbase : base ≤ w.heap.size)
    (h : ∀ ao cap w', w'.ownsRow base 3 1 (.slice ao (n + zs.length) cap) (n + zs.length) (xs ++ zs.map (Value.int .i64)) → w.grownBy w' v.ownBlock → wpList Tryz.prog ops Q rest (a.put o.dst (.slice ao (n + zs.length) cap)) w') :
    wpList Tryz.prog ops Q (o :: rest) a w := by
  refine wpList_plain hgd fun K hK' => ?_
  obtain ⟨v', w', hrun, r1, r2⟩ := run_append_ints w base o.type v xv n xs zs hown hI hb hbase
  obtain ⟨ao, cap, rfl⟩ := row_shape r1
  unfold Oper.wp
  simp [execOp, ho, resolve, invoke, builtin, hs, hx, hrun, Result.andThen]
  exact hK' _ _ (h ao cap w' r1 r2)

set_option maxHeartbeats 2000000 in
theorem specCopy_any (k t : Int) (u : Value) (zs : List Int) (w : World) (hI : Ints w u zs) (hl : zs.length ≤ 1048576) :
    Calls Tryz.prog 166 #[.agg #[.int .i64 k, .int .i64 t, u]] w fun e w' => ∃ ao cap, e = .returned (.agg #[.int .i64 k, .int .i64 t, .slice ao zs.length cap]) ∧
      w'.ownsRow (w.heap.size + 2) 3 1 (.slice ao zs.length cap) zs.length (zs.map (Value.int .i64)) ∧ Below w.heap.size w w' := by
  have HI : Hid (∀ W, Below w.heap.size w W → Ints W u zs) := fun W h => hI.later h (Nat.le_refl _)
  obtain ⟨au, cu, hus⟩ := hI.shape
  clear hI
  subst hus
  go_enter Tryz.func166, Tryz.ntmps166
  go_wp2_with (at_builtin; refine wpList_append_ints rfl _ _ rfl (w.heap.size + 2) (.slice (some ⟨w.heap.size + 2, 0, none⟩) 0 0) (.slice au zs.length cu) 0 [] zs rfl rfl ?c1 ?c2 ?c3 ?c4 ?_)
  case c1 =>
    have h := World.ownsRow_lit (base := w.heap.size + 2) (e := 3) (size := 1) ((w.alloc (.cells #[.int .i64 k, .int .i64 t, .slice au zs.length cu] 161)).alloc (.cells #[.int .i64 0, .int .i64 0, .slice none 0 0] 161)) #[] 0 (by simp) (by unfold maxLen; omega) rfl
    rw [size2] at h
    exact h
  case c2 => exact HI.out _ (below3 w _ _ _)
  case c3 => omega
  case c4 => simp
  · intro ao cap w1 hown hgrow
    try simp only [Nat.zero_add, List.nil_append] at hown
    have hb : Below (w.heap.size + 2) (((w.alloc (.cells #[.int .i64 k, .int .i64 t, .slice au zs.length cu] 161)).alloc (.cells #[.int .i64 0, .int .i64 0, .slice none 0 0] 161)).alloc (.cells #[] 3)) w1 :=
      (Below.refl _ _).grown hgrow (by simp) (fun j hj => by simp [Value.ownBlock] at hj; omega)
    obtain ⟨hc, hf⟩ := bcellB hb
    have hz : w.heap.size + 2 ≤ w1.heap.size := by have := hb.size; simp at this; omega
    have HO := hide_it hown
    have HB := hide_it ((below3 w _ _ _).trans (hb.mono (Nat.le_add_right _ _)))
    have e0 : w1.cell? ⟨w.heap.size, 0, none⟩ = some (.int .i64 k) := by rw [hc _ _ (by omega)]; simp [go_sem]
    have e1 : w1.cell? ⟨w.heap.size, 1, none⟩ = some (.int .i64 t) := by rw [hc _ _ (by omega)]; simp [go_sem]
    have e2 : w1.cell? ⟨w.heap.size, 2, none⟩ = some (.slice au zs.length cu) := by rw [hc _ _ (by omega)]; simp [go_sem]
    have e3 : w1.frozen? ⟨w.heap.size, 2, none⟩ = false := by rw [hf _ _ (by omega)]; simp [go_sem]
    have d0 : w1.cell? ⟨w.heap.size + 1, 0, none⟩ = some (.int .i64 0) := by rw [hc _ _ (by omega)]; simp [go_sem]
    have d1 : w1.cell? ⟨w.heap.size + 1, 1, none⟩ = some (.int .i64 0) := by rw [hc _ _ (by omega)]; simp [go_sem]
    have d2 : w1.cell? ⟨w.heap.size + 1, 2, none⟩ = some (.slice none 0 0) := by rw [hc _ _ (by omega)]; simp [go_sem]
    have z0 : w1.frozen? ⟨w.heap.size + 1, 0, none⟩ = false := by rw [hf _ _ (by omega)]; simp [go_sem]
    have z1 : w1.frozen? ⟨w.heap.size + 1, 1, none⟩ = false := by rw [hf _ _ (by omega)]; simp [go_sem]
    have z2 : w1.frozen? ⟨w.heap.size + 1, 2, none⟩ = false := by rw [hf _ _ (by omega)]; simp [go_sem]
    clear hown hgrow hb hc hf
    try simp only [Nat.zero_add]
    go_wp2
    refine bodyPost_ret (v := .agg #[.int .i64 k, .int .i64 t, .slice ao zs.length cap]) (by simp [results, Tryz.results166, go_sem, d0, d1, d2]) rfl ⟨ao, cap, rfl, ?_, ?_⟩
    · exact ownsRow_setCell_below (ownsRow_setCell_below (ownsRow_setCell_below (ownsRow_setCell_below HO.out (by simp) _) (by simp) _) (by simp) _) (by simp) _
    · exact (((HB.out.setCell (by simp) _).setCell (by simp) _).setCell (by simp) _).setCell (by simp) _

end Go.Proofs.YtkkkdgpbmmjieaaGreatDoor

namespace Go.Proofs.YtkkkdgpbmmjieaaGreatDoor
open Go.RowKit

/-- The blocks that the copy reads and writes: the log that came in, the result's, and the one that is made. -/
def Boxes (w : World) (B : Nat) (v vo : Value) (f : Int) : Prop :=
  w.heap[B]? = some (.cells #[v, .int .i64 f] 35 (0, 0)) ∧ w.heap[B + 1]? = some (.cells #[.slice none 0 0, .int .i64 0] 35 (0, 0)) ∧ w.heap[B + 3]? = some (.cells #[vo, .int .i64 f] 35 (0, 0))

theorem lt_of_heap {w : World} {k : Nat} {o : Obj} (h : w.heap[k]? = some o) : k < w.heap.size := by
  by_cases e : k < w.heap.size
  · exact e
  · rw [Array.getElem?_eq_none (by omega)] at h; cases h

theorem Boxes.size {w : World} {B : Nat} {v vo : Value} {f : Int} (h : Boxes w B v vo f) : B + 3 < w.heap.size := lt_of_heap h.2.2

theorem Boxes.later {w w' : World} {B : Nat} {v vo : Value} {f : Int} (h : Boxes w B v vo f) (hb : Below w.heap.size w w') : Boxes w' B v vo f := by
  have hs := h.size
  obtain ⟨h0, h1, h2⟩ := h
  exact ⟨by rw [hb.block B (by omega)]; exact h0, by rw [hb.block (B + 1) (by omega)]; exact h1, by rw [hb.block (B + 3) hs]; exact h2⟩

theorem Boxes.grown {w w' : World} {B : Nat} {v vo : Value} {f : Int} {row : Option Nat} (h : Boxes w B v vo f) (hg : w.grownBy w' row) (hr : ∀ k, row = some k → B + 2 ≤ k ∧ k ≠ B + 3) : Boxes w' B v vo f := by
  have hs := h.size
  obtain ⟨h0, h1, h2⟩ := h
  refine ⟨?_, ?_, ?_⟩
  · rw [hg.block B (by omega) (fun e => by have := hr _ e.symm; omega)]; exact h0
  · rw [hg.block (B + 1) (by omega) (fun e => by have := hr _ e.symm; omega)]; exact h1
  · rw [hg.block (B + 3) hs (fun e => by have := hr _ e.symm; omega)]; exact h2

theorem Boxes.set {w : World} {B : Nat} {v vo : Value} {f : Int} (h : Boxes w B v vo f) (x : Value) : Boxes (w.setCell ⟨B + 3, 0, none⟩ x) B v x f := by
  obtain ⟨h0, h1, h2⟩ := h
  refine ⟨?_, ?_, ?_⟩
  · rw [Below.heap_setCell _ _ _ _ (by simp)]; exact h0
  · rw [Below.heap_setCell _ _ _ _ (by simp)]; exact h1
  · rw [heap_setCell_same w (B + 3) 0 _ _ x h2]; simp

theorem Boxes.cells {w : World} {B : Nat} {v vo : Value} {f : Int} (h : Boxes w B v vo f) :
    w.cell? ⟨B, 0, none⟩ = some v ∧ w.cell? ⟨B, 1, none⟩ = some (.int .i64 f) ∧ w.cell? ⟨B + 3, 0, none⟩ = some vo ∧ w.cell? ⟨B + 3, 1, none⟩ = some (.int .i64 f) ∧ w.frozen? ⟨B + 3, 0, none⟩ = false ∧
    w.cell? ⟨B + 1, 0, none⟩ = some (.slice none 0 0) ∧ w.cell? ⟨B + 1, 1, none⟩ = some (.int .i64 0) ∧ w.frozen? ⟨B + 1, 0, none⟩ = false ∧ w.frozen? ⟨B + 1, 1, none⟩ = false := by
  obtain ⟨h0, h1, h2⟩ := h
  refine ⟨?_, ?_, ?_, ?_, frozen_of_row w _ _ _ _ h2, ?_, ?_, frozen_of_row w _ _ _ _ h1, frozen_of_row w _ _ _ _ h1⟩
  · rw [cell_of_row w _ _ _ _ _ h0]; rfl
  · rw [cell_of_row w _ _ _ _ _ h0]; rfl
  · rw [cell_of_row w _ _ _ _ _ h2]; rfl
  · rw [cell_of_row w _ _ _ _ _ h2]; rfl
  · rw [cell_of_row w _ _ _ _ _ h1]; rfl
  · rw [cell_of_row w _ _ _ _ _ h1]; rfl

theorem ownsRow_setCell_ne {w : World} {base : Nat} {e : TypeId} {size : Nat} {v : Value} {n : Nat} {xs : List Value} (h : w.ownsRow base e size v n xs) {a : Addr} (ha : ∀ g, v.ownBlock = some g → g ≠ a.block) (u : Value) : (w.setCell a u).ownsRow base e size v n xs := by
  obtain ⟨h1, h2⟩ := h
  refine ⟨h1, ?_⟩
  rcases h2 with h2 | ⟨g, cap, cur, hv, hg, hh, r⟩
  · exact Or.inl h2
  · exact Or.inr ⟨g, cap, cur, hv, hg, by rw [Below.heap_setCell _ _ _ _ (ha g (by rw [hv]; rfl))]; exact hh, r⟩

/-- A row of records is not the log's own block. -/
theorem Boxes.apart {w : World} {B base : Nat} {v vo : Value} {f : Int} {x : Value} {n : Nat} {xs : List Value} {ty : TypeId} {sz : Nat} (h : Boxes w B v vo f) (hr : w.ownsRow base ty sz x n xs) (ht : ty ≠ 35) : ∀ g, x.ownBlock = some g → g ≠ B + 3 := by
  intro g hg e
  subst e
  rcases hr.2 with ⟨hv, _⟩ | ⟨g', cap, cur', hv, _, hh, _⟩
  · rw [hv] at hg; simp [Value.ownBlock] at hg
  · rw [hv] at hg
    simp [Value.ownBlock] at hg
    subst hg
    rw [h.2.2] at hh
    simp at hh
    exact ht hh.2.symm

/-- What one round of the copy does. -/
theorem l1Copy_step {w wr w2 w4 : World} {B : Nat} {v vo : Value} {f : Int} {ps : List (R × Value)} {r : R} {ao2 : Option Addr} {cap2 g cap4 : Nat} {o : Obj} (hB : B = w.heap.size)
    (hrow : wr.ownsRow (B + 2) 161 3 vo ps.length (flat ps)) (hin : Inner wr (B + 2) wr.heap.size ps) (hbox : Boxes wr B v vo f) (hbe : Below w.heap.size w wr)
    (hb2 : Below wr.heap.size wr w2) (hown2 : w2.ownsRow (wr.heap.size + 2) 3 1 (.slice ao2 r.2.2.length cap2) r.2.2.length (r.2.2.map (Value.int .i64)))
    (hown4 : w4.ownsRow (B + 2) 161 3 (.slice (some ⟨g, 0, none⟩) (ps.length + 1) cap4) (ps.length + 1) (flat ps ++ [.int .i64 r.1, .int .i64 r.2.1, .slice ao2 r.2.2.length cap2]))
    (hg4 : (w2.alloc o).grownBy w4 vo.ownBlock) :
    Hid ((w4.setCell ⟨B + 3, 0, none⟩ (.slice (some ⟨g, 0, none⟩) (ps.length + 1) cap4)).ownsRow (B + 2) 161 3 (.slice (some ⟨g, 0, none⟩) (ps.length + 1) cap4) (ps ++ [(r, Value.slice ao2 r.2.2.length cap2)]).length (flat (ps ++ [(r, Value.slice ao2 r.2.2.length cap2)])) ∧
    Inner (w4.setCell ⟨B + 3, 0, none⟩ (.slice (some ⟨g, 0, none⟩) (ps.length + 1) cap4)) (B + 2) (w4.setCell ⟨B + 3, 0, none⟩ (.slice (some ⟨g, 0, none⟩) (ps.length + 1) cap4)).heap.size (ps ++ [(r, Value.slice ao2 r.2.2.length cap2)]) ∧
    Boxes (w4.setCell ⟨B + 3, 0, none⟩ (.slice (some ⟨g, 0, none⟩) (ps.length + 1) cap4)) B v (.slice (some ⟨g, 0, none⟩) (ps.length + 1) cap4) f ∧
    Below w.heap.size w (w4.setCell ⟨B + 3, 0, none⟩ (.slice (some ⟨g, 0, none⟩) (ps.length + 1) cap4))) ∧ Boxes w4 B v vo f := by
  have hsz := hbox.size
  have al := (Below.refl w2.heap.size w2).alloc (Nat.le_refl _) o
  have hs2 : (w2.alloc o).heap.size = w2.heap.size + 1 := by simp
  have hws := hb2.size
  have row3 : (w2.alloc o).ownsRow (B + 2) 161 3 vo ps.length (flat ps) := (ownsRow_below hrow hb2 (fun j hj => (hrow.lt j hj).2)).alloc o
  have in3 : Inner (w2.alloc o) (B + 2) wr.heap.size ps := (hin.below hb2 (Nat.le_refl _)).below al (by omega)
  have new3 := (ownsRow_base hown2 (show B + 2 ≤ wr.heap.size + 2 by omega)).alloc o
  have box3 : Boxes (w2.alloc o) B v vo f := (hbox.later hb2).later al
  have ap3 := box3.apart row3 (by decide)
  have box4 : Boxes w4 B v vo f := box3.grown hg4 (fun k hk => ⟨(row3.lt k hk).1, ap3 k hk⟩)
  have st := append_step (r := r) row3 in3 (by omega) new3 (fun k hk => by have := hown2.lt k hk; omega) hown4 hg4
  have ap4 := box4.apart hown4 (by decide)
  have be4 : Below w.heap.size w w4 := ((hbe.trans (hb2.mono hbe.size)).trans (al.mono (by have := hbe.size; omega))).grown hg4 (by have := hbe.size; omega) (fun k hk => by have := (row3.lt k hk).1; omega)
  refine ⟨⟨ownsRow_setCell_ne st.1 ap4 _, ?_, box4.set _, be4.setCell (by show w.heap.size ≤ B + 3; omega) _⟩, box4⟩
  obtain ⟨i1, i2, i3⟩ := st.2
  have hse : (w4.setCell ⟨B + 3, 0, none⟩ (.slice (some ⟨g, 0, none⟩) (ps.length + 1) cap4)).heap.size = w4.heap.size := by simp
  rw [hse]
  exact ⟨by rw [hse]; exact i1, fun p hp => ⟨ownsRow_setCell_ne (i2 p hp).1 (box4.apart (i2 p hp).1 (by decide)) _, (i2 p hp).2⟩, i3⟩

theorem boxes_new (w : World) (v : Value) (f : Int) (o : Obj) (vo : Value) : Boxes ((((w.alloc (.cells #[v, .int .i64 f] 35)).alloc (.cells #[.slice none 0 0, .int .i64 0] 35)).alloc o).alloc (.cells #[vo, .int .i64 f] 35)) w.heap.size v vo f := by
  refine ⟨?_, ?_, ?_⟩
  · rw [Below.heap_alloc _ _ _ (by simp; omega), Below.heap_alloc _ _ _ (by simp; omega), Below.heap_alloc _ _ _ (by simp)]; exact heap_alloc_new w _
  · rw [Below.heap_alloc _ _ _ (by simp), Below.heap_alloc _ _ _ (by simp)]
    have := heap_alloc_new (w.alloc (.cells #[v, .int .i64 f] 35)) (.cells #[.slice none 0 0, .int .i64 0] 35)
    rw [size1] at this
    exact this
  · have := heap_alloc_new (((w.alloc (.cells #[v, .int .i64 f] 35)).alloc (.cells #[.slice none 0 0, .int .i64 0] 35)).alloc o) (.cells #[vo, .int .i64 f] 35)
    rw [size3] at this
    exact this
theorem below4 (w : World) (o1 o2 o3 o4 : Obj) : Below w.heap.size w ((((w.alloc o1).alloc o2).alloc o3).alloc o4) := (below3 w o1 o2 o3).alloc (by simp; omega) _

theorem cellAlloc {w : World} {b o : Nat} {v : Value} (h : w.cell? ⟨b, o, none⟩ = some v) (x : Obj) : (w.alloc x).cell? ⟨b, o, none⟩ = some v := by
  rw [← h]
  exact ((Below.refl w.heap.size w).alloc (Nat.le_refl _) x).cell (p := ⟨b, o, none⟩) (World.block_lt_of_cell? _ _ h)
theorem news3 (w : World) (k t : Int) (u : Value) (ty : TypeId) : ∀ (j : Nat) (x : Value), [Value.int .i64 k, .int .i64 t, u][j]? = some x → (w.alloc (.cells #[.int .i64 k, .int .i64 t, u] ty)).cell? ((⟨w.heap.size, 0, none⟩ : Addr).add j) = some x := by
  intro j x hj
  match j, hj with
  | 0, hj => simp at hj; subst hj; simp [Addr.add]
  | 1, hj => simp at hj; subst hj; simp [Addr.add]
  | 2, hj => simp at hj; subst hj; simp [Addr.add]
theorem one3 (k t : Int) (ao : Option Addr) {n c : Nat} : ∀ x ∈ [Value.int .i64 k, .int .i64 t, .slice ao n c], x.oneCell' = true := by
  intro x hx; simp at hx; rcases hx with rfl | rfl | rfl <;> rfl

set_option maxRecDepth 100000 in
set_option maxHeartbeats 4000000 in
theorem l1Copy_any (v : Value) (rs : List R) (f : Int) (w : World) (hv : Recs w v rs) (hl : tot rs ≤ 1048576) :
    Calls Tryz.prog 139 #[.agg #[v, .int .i64 f]] w fun e w' => LogOut w w' e rs f := by
  obtain ⟨i0, hi, hz0, hz1, hz2⟩ := info_parts infoRec
  have hlen := tot_len rs
  have HM : Hid (∀ r ∈ rs, r.2.2.length ≤ 1048576) := fun r hr => Nat.le_trans (tot_mem rs r hr) hl
  have ROW0 : Hid (∀ o1 o2 o4, ((((w.alloc o1).alloc o2).alloc (.cells #[] 161)).alloc o4).ownsRow (w.heap.size + 2) 161 3 (.slice (some ⟨w.heap.size + 2, 0, none⟩) 0 0) 0 []) := fun o1 o2 o4 => by
    have h := World.ownsRow_lit (base := w.heap.size + 2) (e := 161) (size := 3) ((w.alloc o1).alloc o2) #[] 0 (by simp) (by unfold maxLen; omega) rfl
    rw [size2] at h
    exact h.alloc o4
  rcases hv with ⟨rfl, ao, cap, rfl⟩ | ⟨b, off, cap, rfl, hz, hc⟩
  · go_enter Tryz.func139, Tryz.ntmps139
    go_wp2
    refine wp_loop_rounds 1 ?_
    rw [rounds_succ]
    go_wp2
    refine bodyPost_ret (v := .agg #[.slice (some ⟨w.heap.size + 2, 0, none⟩) 0 0, .int .i64 f]) (by simp [results, Tryz.results139, go_sem]) rfl ?_
    refine ⟨_, _, rfl, ⟨[], rfl, ?_, ?_, Inner.nil _ _ _ (Nat.le_refl _)⟩, ?_⟩
    · exact ownsRow_base (ROW0.out _ _ _) (by omega)
    · intro k hk; simp [Value.ownBlock] at hk; simp; omega
    · exact below4 w _ _ _ _
  have HC : Hid (∀ W, Below w.heap.size w W → ∀ i r, rs[i]? = some r → ∃ u, RecCells W b (off + i * 3) r u) := fun W h i r hr => by
    obtain ⟨u, hu⟩ := hc i r hr
    exact ⟨u, hu.later h (Nat.le_refl _)⟩
  have hzl : 0 < rs.length := List.length_pos_iff.2 hz
  have BOX0 := hide_it (boxes_new w (.slice (some ⟨b, off, none⟩) rs.length cap) f (.cells #[] 161) (.slice (some ⟨w.heap.size + 2, 0, none⟩) 0 0))
  clear hc hz
  go_enter Tryz.func139, Tryz.ntmps139
  go_wp2
  go_loopw [4] (fun i wr => ∃ (k : Nat) (ps : List (R × Value)) (vo : Value), k ≤ rs.length ∧ i = .int .i64 k ∧ Hid (ps.map (·.1) = rs.take k) ∧ Hid (wr.ownsRow (w.heap.size + 2) 161 3 vo ps.length (flat ps)) ∧ Hid (Inner wr (w.heap.size + 2) wr.heap.size ps) ∧ Hid (Boxes wr w.heap.size (.slice (some ⟨b, off, none⟩) rs.length cap) vo f) ∧ Hid (Below w.heap.size w wr)) (fun i _ => rs.length - (intOf i).toNat)
  case atStart => exact ⟨0, [], _, Nat.zero_le _, rfl, rfl, ROW0.out _ _ _, Inner.nil _ _ _ (Nat.le_refl _), BOX0, below4 w _ _ _ _⟩
  case round =>
    obtain ⟨k, ps, vo, hk, rfl, HP, HO, HN, HX, HB⟩ := hrel
    have HPL : Hid (ps.length = k) := by
      have := congrArg List.length HP.out
      simp at this
      show _ = _; omega
    obtain ⟨x0, x1, y0, y1, y2, q0, q1, q2, q3⟩ := HX.out.cells
    by_cases hlt : k < rs.length
    · obtain ⟨r, hr⟩ : ∃ r, Hid (rs[k]? = some r) := ⟨rs[k], by show _ = _; simp [hlt]⟩
      have hrl : r.2.2.length ≤ 1048576 := HM.out r (List.mem_of_getElem? hr.out)
      obtain ⟨u, c0, c1, c2, hI⟩ := HC.out wr HB.out k r hr.out
      have HI : Hid (Ints wr.drew u r.2.2) := hI.later (Below.refl _ _).drew (Nat.le_refl _)
      clear hI
      go_wp2
      go_region_law (first
        | (refine step_append_lies _ rfl _ _ 33 rfl (w.heap.size + 2) 161 i0 (.agg #[.int .i64 0, .int .i64 0, .slice none 0 0]) 3 40 Tryz.underlying33 hi hz0 hz1 hz2 rfl (by decide) vo ps.length (flat ps) rfl (by exact (ROW2.out _)) ⟨w2.heap.size, 0, none⟩ 1 1 [.int .i64 r.1, .int .i64 r.2.1, .slice ao2 r.2.2.length cap2] rfl rfl (by exact news3 _ _ _ _ _) (by exact one3 _ _ _) (by decide) (by have := HPL.out; unfold maxLen; omega) (by have := HPL.out; omega) (by simp; omega) _ rfl ?_; intro g4 cap4 w4 hown4 hgrow4 _ _; have ST := l1Copy_step rfl HO.out HN.out HX.out HB.out HB2.out HW2.out hown4 hgrow4; obtain ⟨a0, a1, b0, b1, b2, e0, e1, e2, e3⟩ := ST.2.cells; have ST1 := ST.1; clear ST hown4 hgrow4)
        | (go_simp; go_at_call 166; refine (specCopy_any r.1 r.2.1 u r.2.2 _ ?_ hrl).mono ?_; exact HI.out; rintro e w2 ⟨ao2, cap2, rfl, hown2, hb2⟩; have HB2 := hide_it ((Below.refl wr.heap.size wr).drew.trans hb2); have HW2 := hide_it hown2; obtain ⟨a0, a1, b0, b1, b2, e0, e1, e2, e3⟩ := (HX.out.later HB2.out).cells; have hzz2 : w.heap.size + 4 ≤ w2.heap.size := (by have h1 := HB2.out.size; have h2 := HX.out.size; omega); have b0o := (fun x => cellAlloc b0 x); have ROW2 : Hid (∀ o, (w2.alloc o).ownsRow (w.heap.size + 2) 161 3 vo ps.length (flat ps)) := (fun o => (ownsRow_below HO.out HB2.out (fun j hj => (HO.out.lt j hj).2)).alloc o); clear hown2 hb2))
      all_goals
        go_wp2
        go_roundw
        case rel =>
          rw [show w.heap.size + 1 + 1 + 1 = w.heap.size + 3 from rfl]
          refine ⟨k + 1, ps ++ [(r, .slice ao2 r.2.2.length cap2)], .slice (some ⟨g4, 0, none⟩) (ps.length + 1) cap4, by omega, by go_num, ?_, hide_it ST1.out.1, hide_it ST1.out.2.1, hide_it ST1.out.2.2.1, hide_it ST1.out.2.2.2⟩
          show _ = _
          have hkl : k < rs.length := by omega
          have hrk : rs[k] = r := by have := hr.out; rw [List.getElem?_eq_getElem hkl] at this; simpa using this
          rw [List.map_append, HP.out, List.take_succ_eq_append_getElem hkl, hrk]
          rfl
        case measure => simp [intOf]; omega
    · have hke : Hid (k = rs.length) := by show _ = _; omega
      obtain ⟨ao, cp, hvo⟩ := row_shape HO.out
      have hpl : ps.length = rs.length := by rw [HPL.out, hke.out]
      rw [hpl] at hvo
      have HO2 : Hid (wr.ownsRow (w.heap.size + 2) 161 3 (.slice ao rs.length cp) ps.length (flat ps)) := by
        have := HO.out; rw [hvo] at this; exact this
      have HD : Hid (Made wr (w.heap.size + 2) (.slice ao rs.length cp) rs) :=
        ⟨ps, by rw [HP.out, hke.out, List.take_length], HO2.out, fun j hj => (HO2.out.lt j hj).2, HN.out⟩
      subst hvo
      clear hpl
      go_wp2
      refine bodyPost_ret (v := .agg #[.slice ao rs.length cp, .int .i64 f]) (by simp [results, Tryz.results139, go_sem, q0, q1]) rfl ⟨ao, cp, rfl, ?_, ?_⟩
      · exact ((HD.out.setBelow (by simp) _).setBelow (by simp) _).lo (by omega)
      · exact (HB.out.setCell (by simp) _).setCell (by simp) _

end Go.Proofs.YtkkkdgpbmmjieaaGreatDoor

namespace Go.Proofs.YtkkkdgpbmmjieaaGreatDoor
open Go.RowKit

/-- A record as plain data: its kind, its trip, its numbers. -/
abbrev Rc := R

/-- A block as it lies. -/
def Blk (w : World) (b : Nat) (cs : Array Value) (ty : TypeId) : Prop := w.heap[b]? = some (.cells cs ty (0, 0))
theorem Blk.new (w : World) (cs : Array Value) (ty : TypeId) : Blk (w.alloc (.cells cs ty)) w.heap.size cs ty := heap_alloc_new w _
theorem Blk.lt {w : World} {b : Nat} {cs : Array Value} {ty : TypeId} (h : Blk w b cs ty) : b < w.heap.size := lt_of_heap h
theorem Blk.later {w w' : World} {b L : Nat} {cs : Array Value} {ty : TypeId} (h : Blk w b cs ty) (hb : Below L w w') (hL : b < L) : Blk w' b cs ty := by
  unfold Blk; rw [hb.block b hL]; exact h
theorem Blk.after {w w' : World} {b : Nat} {cs : Array Value} {ty : TypeId} (h : Blk w b cs ty) (hb : Below w.heap.size w w') : Blk w' b cs ty := h.later hb h.lt
theorem Blk.mid {w w' : World} {b l h' : Nat} {cs : Array Value} {ty : TypeId} (h : Blk w b cs ty) (hm : Mid l h' w w') (hb : b < l ∨ h' ≤ b) : Blk w' b cs ty := by
  unfold Blk; rw [hm.block b h.lt hb]; exact h
theorem Blk.cell {w : World} {b : Nat} {cs : Array Value} {ty : TypeId} (h : Blk w b cs ty) (i : Nat) : w.cell? ⟨b, i, none⟩ = cs[i]? := cell_of_row w _ _ _ _ _ h
theorem Blk.free {w : World} {b : Nat} {cs : Array Value} {ty : TypeId} (h : Blk w b cs ty) (i : Nat) : w.frozen? ⟨b, i, none⟩ = false := frozen_of_row w _ _ _ _ h
theorem Blk.other {w : World} {b : Nat} {cs : Array Value} {ty : TypeId} (h : Blk w b cs ty) {a : Addr} (ha : b ≠ a.block) (x : Value) : Blk (w.setCell a x) b cs ty := by
  unfold Blk; rw [Below.heap_setCell _ _ _ _ ha]; exact h
theorem Blk.alloc {w : World} {b : Nat} {cs : Array Value} {ty : TypeId} (h : Blk w b cs ty) (o : Obj) : Blk (w.alloc o) b cs ty := h.after (alloc_below w o)
theorem Blk.cells5 {w : World} {b : Nat} {x0 x1 x2 x3 x4 : Value} {ty : TypeId} (h : Blk w b #[x0, x1, x2, x3, x4] ty) :
    w.cell? ⟨b, 0, none⟩ = some x0 ∧ w.cell? ⟨b, 1, none⟩ = some x1 ∧ w.cell? ⟨b, 2, none⟩ = some x2 ∧ w.cell? ⟨b, 3, none⟩ = some x3 ∧ w.cell? ⟨b, 4, none⟩ = some x4 := by
  refine ⟨?_, ?_, ?_, ?_, ?_⟩ <;> (rw [h.cell]; rfl)
theorem Blk.cells2 {w : World} {b : Nat} {x0 x1 : Value} {ty : TypeId} (h : Blk w b #[x0, x1] ty) :
    w.cell? ⟨b, 0, none⟩ = some x0 ∧ w.cell? ⟨b, 1, none⟩ = some x1 := by
  refine ⟨?_, ?_⟩ <;> (rw [h.cell]; rfl)
theorem Blk.free5 {w : World} {b : Nat} {cs : Array Value} {ty : TypeId} (h : Blk w b cs ty) :
    w.frozen? ⟨b, 0, none⟩ = false ∧ w.frozen? ⟨b, 1, none⟩ = false ∧ w.frozen? ⟨b, 2, none⟩ = false ∧ w.frozen? ⟨b, 3, none⟩ = false ∧ w.frozen? ⟨b, 4, none⟩ = false :=
  ⟨h.free 0, h.free 1, h.free 2, h.free 3, h.free 4⟩
theorem Blk.new2 (w : World) (o : Obj) (cs : Array Value) (ty : TypeId) : Blk ((w.alloc o).alloc (.cells cs ty)) (w.heap.size + 1) cs ty := by
  have h := Blk.new (w.alloc o) cs ty
  rw [size1] at h
  exact h
theorem Blk.set_ {w : World} {b : Nat} {cs : Array Value} {ty : TypeId} (h : Blk w b cs ty) (i : Nat) (x : Value) : Blk (w.setCell ⟨b, i, none⟩ x) b (cs.setIfInBounds i x) ty := by
  unfold Blk; rw [heap_setCell_same w b i _ _ x h]

theorem Blk.drew {w : World} {b : Nat} {cs : Array Value} {ty : TypeId} (h : Blk w b cs ty) : Blk w.drew b cs ty := h.after (Below.refl _ _).drew
/-- Blocks of unlike types are not one. -/
theorem Blk.ne {w : World} {b b' : Nat} {cs cs' : Array Value} {ty ty' : TypeId} (h : Blk w b cs ty) (h' : Blk w b' cs' ty') (ht : ty ≠ ty') : b ≠ b' := by
  intro e
  subst e
  unfold Blk at h h'
  rw [h] at h'
  simp at h'
  exact ht h'.2
theorem Blk.cells3 {w : World} {b : Nat} {x0 x1 x2 : Value} {ty : TypeId} (h : Blk w b #[x0, x1, x2] ty) :
    w.cell? ⟨b, 0, none⟩ = some x0 ∧ w.cell? ⟨b, 1, none⟩ = some x1 ∧ w.cell? ⟨b, 2, none⟩ = some x2 := by
  refine ⟨?_, ?_, ?_⟩ <;> (rw [h.cell]; rfl)
theorem row_apart {w : World} {base : Nat} {ty ty' : TypeId} {sz n g : Nat} {x : Value} {xs : List Value} {cur : Array Value} {fz : Nat × Nat} (hr : w.ownsRow base ty sz x n xs) (hh : w.heap[g]? = some (.cells cur ty' fz)) (ht : ty ≠ ty') : ∀ k, x.ownBlock = some k → k ≠ g := by
  intro k hk e
  subst e
  rcases hr.2 with ⟨hv, _⟩ | ⟨g', cap, cur', hv, _, h2, _⟩
  · rw [hv] at hk; simp [Value.ownBlock] at hk
  · rw [hv] at hk
    simp [Value.ownBlock] at hk
    subst hk
    rw [hh] at h2
    simp at h2
    exact ht h2.2.1.symm
/-- A row of the call's own is no such block. -/
theorem Blk.off {w : World} {b base sz n : Nat} {cs : Array Value} {ty ty' : TypeId} {v : Value} {xs : List Value} (h : Blk w b cs ty) (hr : w.ownsRow base ty' sz v n xs) (ht : ty' ≠ ty) : v.ownBlock ≠ some b := fun e => row_apart hr h ht b e rfl

end Go.Proofs.YtkkkdgpbmmjieaaGreatDoor

namespace Go.Proofs.YtkkkdgpbmmjieaaGreatDoor
namespace Pl

def wMany (k m : Int) : Bool := if k = 1 then inB m 1 3 else decide (m = 0)
def wOk (k h t m : Int) : Bool := inB k 1 7 && inB h 1 3 && inB t 1 6 && wMany k m

theorem wOk_k {k h t m : Int} (e : inB k 1 7 = false) : wOk k h t m = false := by simp [wOk, e]
theorem wOk_h {k h t m : Int} (e : inB h 1 3 = false) : wOk k h t m = false := by simp [wOk, e]
theorem wOk_t {k h t m : Int} (e : inB t 1 6 = false) : wOk k h t m = false := by simp [wOk, e]
theorem wOk_m {k h t m : Int} (e1 : inB k 1 7 = true) (e2 : inB h 1 3 = true) (e3 : inB t 1 6 = true) : wOk k h t m = wMany k m := by simp [wOk, e1, e2, e3]
theorem wMany_1 (m : Int) : wMany 1 m = inB m 1 3 := by simp [wMany]
theorem wMany_0 {k : Int} (m : Int) (h : k ≠ 1) : wMany k m = decide (m = 0) := by simp [wMany, h]
theorem wOk_parts {k h t m : Int} (e : wOk k h t m = true) : (1 ≤ k ∧ k ≤ 7) ∧ (1 ≤ h ∧ h ≤ 3) ∧ (1 ≤ t ∧ t ≤ 6) ∧ wMany k m = true := by
  simp only [wOk, Bool.and_eq_true] at e
  exact ⟨inB_true e.1.1.1, inB_true e.1.1.2, inB_true e.1.2, e.2⟩
theorem wMany_parts {k m : Int} (e : wMany k m = true) : (k = 1 ∧ 1 ≤ m ∧ m ≤ 3) ∨ (k ≠ 1 ∧ m = 0) := by
  by_cases h : k = 1
  · subst h; rw [wMany_1] at e; exact .inl ⟨rfl, inB_true e⟩
  · rw [wMany_0 m h] at e; exact .inr ⟨h, by simpa using e⟩

end Pl
end Go.Proofs.YtkkkdgpbmmjieaaGreatDoor

namespace Go.Proofs.YtkkkdgpbmmjieaaGreatDoor
open Go.RowKit

theorem hidden {p : Prop} (h : p) : Hid p := h

/-- Four cells lie in block b. -/
def Quad (w : World) (b : Nat) (x y z u : Value) : Prop := w.cell? ⟨b, 0, none⟩ = some x ∧ w.cell? ⟨b, 1, none⟩ = some y ∧ w.cell? ⟨b, 2, none⟩ = some z ∧ w.cell? ⟨b, 3, none⟩ = some u
theorem Quad.lt {w : World} {b : Nat} {x y z u : Value} (h : Quad w b x y z u) : b < w.heap.size := by simpa using World.block_lt_of_cell? _ _ h.1
theorem Quad.later {B : Nat} {w w' : World} {b : Nat} {x y z u : Value} (h : Quad w b x y z u) (hb : Below B w w') (hB : w.heap.size ≤ B) : Quad w' b x y z u := by
  have hlt := h.lt
  obtain ⟨h0, h1, h2, h3⟩ := h
  exact ⟨by rw [← h0]; exact hb.cell (p := ⟨b, 0, none⟩) (by simp; omega), by rw [← h1]; exact hb.cell (p := ⟨b, 1, none⟩) (by simp; omega), by rw [← h2]; exact hb.cell (p := ⟨b, 2, none⟩) (by simp; omega), by rw [← h3]; exact hb.cell (p := ⟨b, 3, none⟩) (by simp; omega)⟩
theorem Quad.new (w : World) (x y z u : Value) (ty : TypeId) : Quad (w.alloc (.cells #[x, y, z, u] ty)) w.heap.size x y z u := by
  refine ⟨?_, ?_, ?_, ?_⟩ <;> simp

abbrev wordV (k h t m : Int) : Value := .agg #[.int .i64 k, .int .i64 h, .int .i64 t, .int .i64 m]

set_option maxHeartbeats 1000000 in
theorem specWordOk_any (k h t m : Int) (w : World) :
    Calls Tryz.prog 39 #[wordV k h t m] w fun e w' => e = .returned (.bool (Pl.wOk k h t m)) ∧ Below w.heap.size w w' := by
  cases e1 : Pl.inB h 1 3
  · rw [Pl.wOk_h e1]
    go_enter Tryz.func39, Tryz.ntmps39
    go_wp2_with (go_at_call 49; refine (in_any _ _ _ _).mono ?_; rintro e w' ⟨rfl, rfl⟩)
    go_ret
    exact ⟨rfl, (Below.refl _ _).alloc (Nat.le_refl _) _⟩
  cases e2 : Pl.inB t 1 6
  · rw [Pl.wOk_t e2]
    go_enter Tryz.func39, Tryz.ntmps39
    go_wp2_with (go_at_call 49; refine (in_any _ _ _ _).mono ?_; rintro e w' ⟨rfl, rfl⟩)
    go_ret
    exact ⟨rfl, (Below.refl _ _).alloc (Nat.le_refl _) _⟩
  cases e3 : Pl.inB k 1 7
  · rw [Pl.wOk_k e3]
    go_enter Tryz.func39, Tryz.ntmps39
    go_wp2_with (go_at_call 49; refine (in_any _ _ _ _).mono ?_; rintro e w' ⟨rfl, rfl⟩)
    go_ret
    exact ⟨rfl, (Below.refl _ _).alloc (Nat.le_refl _) _⟩
  rw [Pl.wOk_m e3 e1 e2]
  by_cases hk : k = 1
  · subst hk
    rw [Pl.wMany_1]
    go_enter Tryz.func39, Tryz.ntmps39
    go_wp2_with (go_at_call 49; refine (in_any _ _ _ _).mono ?_; rintro e w' ⟨rfl, rfl⟩)
    go_ret
    exact ⟨rfl, (Below.refl _ _).alloc (Nat.le_refl _) _⟩
  · rw [Pl.wMany_0 m hk]
    go_enter Tryz.func39, Tryz.ntmps39
    go_wp2_with (go_at_call 49; refine (in_any _ _ _ _).mono ?_; rintro e w' ⟨rfl, rfl⟩)
    go_ret
    exact ⟨rfl, (Below.refl _ _).alloc (Nat.le_refl _) _⟩

theorem wordMany_any (k m : Int) (w : World) :
    Calls Tryz.prog 128 #[.int .i64 k, .int .i64 m] w fun e w' => e = .returned (.bool (Pl.wMany k m)) ∧ w' = w := by
  by_cases hk : k = 1
  · subst hk
    rw [Pl.wMany_1]
    by_cases h1 : 1 ≤ m
    · by_cases h2 : m ≤ 3
      all_goals
        go_enter Tryz.func128, Tryz.ntmps128
        go_wp2
        go_ret
        exact ⟨by simp [Pl.inB]; omega, rfl⟩
    · go_enter Tryz.func128, Tryz.ntmps128
      go_wp2
      go_ret
      exact ⟨by simp [Pl.inB]; omega, rfl⟩
  · rw [Pl.wMany_0 m hk]
    go_enter Tryz.func128, Tryz.ntmps128
    go_wp2
    go_ret
    exact ⟨rfl, rfl⟩

set_option maxHeartbeats 2000000 in
theorem implWordOk_any (k h t m : Int) (w : World) :
    Calls Tryz.prog 78 #[wordV k h t m] w fun e w' => e = .returned (.bool (Pl.wOk k h t m)) ∧ Below w.heap.size w w' := by
  by_cases k1n : ¬ 1 ≤ k
  · rw [Pl.wOk_k (Pl.inB_lo (by omega))]
    go_enter Tryz.func78, Tryz.ntmps78
    go_wp2
    go_ret
    exact ⟨rfl, (Below.refl _ _).alloc (Nat.le_refl _) _⟩
  have k1 : 1 ≤ k := Decidable.not_not.1 k1n
  clear k1n
  by_cases k2n : ¬ k ≤ 7
  · rw [Pl.wOk_k (Pl.inB_hi (by omega))]
    go_enter Tryz.func78, Tryz.ntmps78
    go_wp2
    go_ret
    exact ⟨rfl, (Below.refl _ _).alloc (Nat.le_refl _) _⟩
  have k2 : k ≤ 7 := Decidable.not_not.1 k2n
  clear k2n
  by_cases h1n : ¬ 1 ≤ h
  · rw [Pl.wOk_h (Pl.inB_lo (by omega))]
    go_enter Tryz.func78, Tryz.ntmps78
    go_wp2
    go_ret
    exact ⟨rfl, (Below.refl _ _).alloc (Nat.le_refl _) _⟩
  have h1 : 1 ≤ h := Decidable.not_not.1 h1n
  clear h1n
  by_cases h2n : ¬ h ≤ 3
  · rw [Pl.wOk_h (Pl.inB_hi (by omega))]
    go_enter Tryz.func78, Tryz.ntmps78
    go_wp2
    go_ret
    exact ⟨rfl, (Below.refl _ _).alloc (Nat.le_refl _) _⟩
  have h2 : h ≤ 3 := Decidable.not_not.1 h2n
  clear h2n
  by_cases t1n : ¬ 1 ≤ t
  · rw [Pl.wOk_t (Pl.inB_lo (by omega))]
    go_enter Tryz.func78, Tryz.ntmps78
    go_wp2
    go_ret
    exact ⟨rfl, (Below.refl _ _).alloc (Nat.le_refl _) _⟩
  have t1 : 1 ≤ t := Decidable.not_not.1 t1n
  clear t1n
  by_cases t2n : ¬ t ≤ 6
  · rw [Pl.wOk_t (Pl.inB_hi (by omega))]
    go_enter Tryz.func78, Tryz.ntmps78
    go_wp2
    go_ret
    exact ⟨rfl, (Below.refl _ _).alloc (Nat.le_refl _) _⟩
  have t2 : t ≤ 6 := Decidable.not_not.1 t2n
  clear t2n
  rw [Pl.wOk_m (Pl.inB_mk k1 k2) (Pl.inB_mk h1 h2) (Pl.inB_mk t1 t2)]
  go_enter Tryz.func78, Tryz.ntmps78
  go_wp2_with (go_at_call 128; refine (wordMany_any _ _ _).mono ?_; rintro e w' ⟨rfl, rfl⟩)
  go_ret
  exact ⟨rfl, (Below.refl _ _).alloc (Nat.le_refl _) _⟩

set_option maxHeartbeats 1000000 in
theorem toWord_any (k h t m : Int) (w : World) :
    Calls Tryz.prog 75 #[wordV k h t m] w fun e w' => e = .returned (wordV k h t m) ∧ Below w.heap.size w w' := by
  go_enter Tryz.func75, Tryz.ntmps75
  go_wp2
  exact bodyPost_ret (v := wordV k h t m) (by simp [results, Tryz.results75, go_sem]) rfl ⟨rfl, (((Below.refl _ _).alloc (Nat.le_refl _) _).alloc (by simp) _).alloc (by simp; omega) _⟩

end Go.Proofs.YtkkkdgpbmmjieaaGreatDoor

namespace Go.Proofs.YtkkkdgpbmmjieaaGreatDoor
open Go.RowKit

theorem Blk.cells4 {w : World} {b : Nat} {x0 x1 x2 x3 : Value} {ty : TypeId} (h : Blk w b #[x0, x1, x2, x3] ty) :
    w.cell? ⟨b, 0, none⟩ = some x0 ∧ w.cell? ⟨b, 1, none⟩ = some x1 ∧ w.cell? ⟨b, 2, none⟩ = some x2 ∧ w.cell? ⟨b, 3, none⟩ = some x3 := by
  refine ⟨?_, ?_, ?_, ?_⟩ <;> (rw [h.cell]; rfl)
theorem Blk.free4 {w : World} {b : Nat} {cs : Array Value} {ty : TypeId} (h : Blk w b cs ty) :
    w.frozen? ⟨b, 0, none⟩ = false ∧ w.frozen? ⟨b, 1, none⟩ = false ∧ w.frozen? ⟨b, 2, none⟩ = false ∧ w.frozen? ⟨b, 3, none⟩ = false :=
  ⟨h.free 0, h.free 1, h.free 2, h.free 3⟩

/-- A word as plain data: its kind, its house, its trip, how many. -/
abbrev Wd := Int × Int × Int × Int

/-- Words, as they lie in a row. -/
def wflat : List Wd → List Value
  | [] => []
  | h :: t => .int .i64 h.1 :: .int .i64 h.2.1 :: .int .i64 h.2.2.1 :: .int .i64 h.2.2.2 :: wflat t

theorem wflat_length (hs : List Wd) : (wflat hs).length = hs.length * 4 := by
  induction hs with
  | nil => rfl
  | cons p t ih => simp only [wflat, List.length_cons, ih]; omega
theorem wflat_get (hs : List Wd) (i : Nat) (h : i < hs.length) :
    (wflat hs)[i * 4]? = some (.int .i64 (hs.getD i (0, 0, 0, 0)).1) ∧ (wflat hs)[i * 4 + 1]? = some (.int .i64 (hs.getD i (0, 0, 0, 0)).2.1) ∧ (wflat hs)[i * 4 + 2]? = some (.int .i64 (hs.getD i (0, 0, 0, 0)).2.2.1) ∧ (wflat hs)[i * 4 + 3]? = some (.int .i64 (hs.getD i (0, 0, 0, 0)).2.2.2) := by
  induction hs generalizing i with
  | nil => simp at h
  | cons q t ih =>
    cases i with
    | zero => simp [wflat]
    | succ i =>
      have := ih i (by simpa using h)
      rw [show (i + 1) * 4 = i * 4 + 4 by omega]
      simpa [wflat] using this
theorem wflat_set (hs : List Wd) (k : Nat) (p : Wd) (h : k < hs.length) :
    ((((wflat hs).set (k * 4) (.int .i64 p.1)).set (k * 4 + 1) (.int .i64 p.2.1)).set (k * 4 + 2) (.int .i64 p.2.2.1)).set (k * 4 + 3) (.int .i64 p.2.2.2) = wflat (hs.set k p) := by
  induction hs generalizing k with
  | nil => simp at h
  | cons q t ih =>
    cases k with
    | zero => simp [wflat]
    | succ k =>
      have := ih k (by simpa using h)
      rw [show (k + 1) * 4 = k * 4 + 4 by omega]
      simp only [wflat, List.set_cons_succ]
      rw [this]
theorem wflat_append (ps qs : List Wd) : wflat (ps ++ qs) = wflat ps ++ wflat qs := by
  induction ps with
  | nil => rfl
  | cons p t ih => simp [wflat, ih]
theorem wtake (hs : List Wd) (k : Nat) (h : k < hs.length) : hs.take (k + 1) = hs.take k ++ [hs.getD k (0, 0, 0, 0)] := by
  rw [List.take_succ_eq_append_getElem h, List.getD_eq_getElem?_getD, List.getElem?_eq_getElem h]; rfl

/-- The value v is a slice of just these words in the world w. -/
def Words (w : World) (v : Value) (hs : List Wd) : Prop :=
  (hs = [] ∧ ∃ ao cap, v = .slice ao 0 cap ∧ (ao = none → cap = 0)) ∨
  (∃ b off cap, v = .slice (some ⟨b, off, none⟩) hs.length cap ∧ hs ≠ [] ∧ ∀ k, k < hs.length → w.cell? ⟨b, off + k * 4, none⟩ = some (.int .i64 (hs.getD k (0, 0, 0, 0)).1) ∧ w.cell? ⟨b, off + k * 4 + 1, none⟩ = some (.int .i64 (hs.getD k (0, 0, 0, 0)).2.1) ∧ w.cell? ⟨b, off + k * 4 + 2, none⟩ = some (.int .i64 (hs.getD k (0, 0, 0, 0)).2.2.1) ∧ w.cell? ⟨b, off + k * 4 + 3, none⟩ = some (.int .i64 (hs.getD k (0, 0, 0, 0)).2.2.2))

theorem Words.later {B : Nat} {w w' : World} {v : Value} {hs : List Wd} (h : Words w v hs) (hb : Below B w w') (hB : w.heap.size ≤ B) : Words w' v hs := by
  rcases h with h | ⟨b, off, cap, hv, hz, hc⟩
  · exact Or.inl h
  · refine Or.inr ⟨b, off, cap, hv, hz, fun k hk => ?_⟩
    obtain ⟨h1, h2, h3, h4⟩ := hc k hk
    have hl := World.block_lt_of_cell? _ _ h1
    simp at hl
    exact ⟨by rw [← h1]; exact hb.cell (p := ⟨b, off + k * 4, none⟩) (by simp; omega), by rw [← h2]; exact hb.cell (p := ⟨b, off + k * 4 + 1, none⟩) (by simp; omega), by rw [← h3]; exact hb.cell (p := ⟨b, off + k * 4 + 2, none⟩) (by simp; omega), by rw [← h4]; exact hb.cell (p := ⟨b, off + k * 4 + 3, none⟩) (by simp; omega)⟩

theorem Words.shape {w : World} {v : Value} {hs : List Wd} (h : Words w v hs) : ∃ ao cap, v = .slice ao hs.length cap := by
  rcases h with ⟨rfl, ao, cap, rfl, _⟩ | ⟨b, off, cap, rfl, _, _⟩
  · exact ⟨ao, cap, rfl⟩
  · exact ⟨_, cap, rfl⟩

/-- A row of words that the call owns is a list of them. -/
theorem words_of_row {w : World} {base : Nat} {v : Value} {hs : List Wd} (h : w.ownsRow base 82 4 v hs.length (wflat hs)) : Words w v hs := by
  rcases h.2 with ⟨hv, hn⟩ | ⟨g, cap, cur, hv, _⟩
  · have : hs = [] := List.length_eq_zero_iff.1 hn
    exact Or.inl ⟨this, none, 0, hv, fun _ => rfl⟩
  · by_cases hz : hs = []
    · subst hz; exact Or.inl ⟨rfl, _, _, hv, fun h => by cases h⟩
    · subst hv
      refine Or.inr ⟨g, 0, cap, rfl, hz, fun k hk => ?_⟩
      obtain ⟨f0, f1, f2, f3⟩ := wflat_get hs k hk
      exact ⟨by rw [Nat.zero_add, h.cellAt _ (by omega)]; exact f0, by rw [Nat.zero_add, h.cellAt _ (by omega)]; exact f1, by rw [Nat.zero_add, h.cellAt _ (by omega)]; exact f2, by rw [Nat.zero_add, h.cellAt _ (by omega)]; exact f3⟩

theorem infoWord : (Tryz.prog.info? 82).map (fun i => (i.zero, i.size, i.bytes)) = some (some (.agg #[.int .i64 0, .int .i64 0, .int .i64 0, .int .i64 0]), 4, 32) := by kernel_rfl

theorem made_four (n : Nat) : (madeCells #[.int .i64 0, .int .i64 0, .int .i64 0, .int .i64 0] (n * 4)).toList = wflat (List.replicate n (0, 0, 0, 0)) := by
  apply List.ext_getElem?
  intro i
  by_cases h : i < n * 4
  · have hq : i / 4 < n := by omega
    obtain ⟨f0, f1, f2, f3⟩ := wflat_get (List.replicate n (0, 0, 0, 0)) (i / 4) (by simpa using hq)
    have hl : (madeCells #[.int .i64 0, .int .i64 0, .int .i64 0, .int .i64 0] (n * 4)).toList[i]? = some (#[Value.int .i64 0, .int .i64 0, .int .i64 0, .int .i64 0][i % 4]!) := by
      simp [madeCells, h]
    have hd : (List.replicate n ((0, 0, 0, 0) : Wd)).getD (i / 4) (0, 0, 0, 0) = (0, 0, 0, 0) := by simp [List.getD_eq_getElem?_getD, hq]
    rw [hd] at f0 f1 f2 f3
    rw [hl]
    rcases (show i % 4 = 0 ∨ i % 4 = 1 ∨ i % 4 = 2 ∨ i % 4 = 3 by omega) with h0 | h0 | h0 | h0
    · rw [show i / 4 * 4 = i by omega] at f0; rw [f0, h0]; rfl
    · rw [show i / 4 * 4 + 1 = i by omega] at f1; rw [f1, h0]; rfl
    · rw [show i / 4 * 4 + 2 = i by omega] at f2; rw [f2, h0]; rfl
    · rw [show i / 4 * 4 + 3 = i by omega] at f3; rw [f3, h0]; rfl
  · rw [List.getElem?_eq_none (by simp [madeCells]; omega), List.getElem?_eq_none (by rw [wflat_length]; simp; omega)]

/-- The world behind four stores. -/
abbrev store4 (w : World) (g i : Nat) (p : Wd) : World := (((w.setCell ⟨g, i, none⟩ (.int .i64 p.1)).setCell ⟨g, i + 1, none⟩ (.int .i64 p.2.1)).setCell ⟨g, i + 2, none⟩ (.int .i64 p.2.2.1)).setCell ⟨g, i + 3, none⟩ (.int .i64 p.2.2.2)

theorem stored4 {w : World} {base g n cap : Nat} {hs : List Wd} (h : w.ownsRow base 82 4 (.slice (some ⟨g, 0, none⟩) n cap) n (wflat hs)) (k : Nat) (hk : k < hs.length) (p : Wd) :
    (store4 w g (k * 4) p).ownsRow base 82 4 (.slice (some ⟨g, 0, none⟩) n cap) n (wflat (hs.set k p)) ∧ w.grownBy (store4 w g (k * 4) p) (some g) := by
  have a1 := h.stored (k * 4) (.int .i64 p.1)
  have a2 := a1.1.stored (k * 4 + 1) (.int .i64 p.2.1)
  have a3 := a2.1.stored (k * 4 + 2) (.int .i64 p.2.2.1)
  have a4 := a3.1.stored (k * 4 + 3) (.int .i64 p.2.2.2)
  rw [wflat_set hs k p hk] at a4
  exact ⟨a4.1, grownBy_trans (grownBy_trans (grownBy_trans a1.2 a2.2) a3.2) a4.2⟩

theorem szWords_any (ao : Option Addr) (len cap : Nat) (left : Int) (w : World) (hl : (len : Int) ≤ 9223372036854775807) (h0 : 0 ≤ left) (h1 : left ≤ 1048576) :
    Calls Tryz.prog 36 #[.slice ao len cap, .int .i64 left] w fun e w' => e = .returned (.int .i64 (leftOf left len)) ∧ w' = w := by
  by_cases h : left - (len : Int) < 0
  · rw [leftOf_neg h]
    go_enter Tryz.func36, Tryz.ntmps36
    go_wp2
    go_ret
    exact ⟨rfl, rfl⟩
  · rw [leftOf_pos h]
    go_enter Tryz.func36, Tryz.ntmps36
    go_wp2
    go_ret
    exact ⟨rfl, rfl⟩

set_option maxHeartbeats 2000000 in
theorem toWords_any (v : Value) (hs : List Wd) (w : World) (hv : Words w v hs) (hl : hs.length ≤ 1048576) :
    Calls Tryz.prog 42 #[v] w fun e w' => e = .returned (.slice (some ⟨w.heap.size, 0, none⟩) hs.length hs.length) ∧
      w'.ownsRow w.heap.size 82 4 (.slice (some ⟨w.heap.size, 0, none⟩) hs.length hs.length) hs.length (wflat hs) ∧ Below w.heap.size w w' := by
  obtain ⟨i0, hi, hz0, hz1, hz2⟩ := info_parts infoWord
  have hbytes : i0.bytes * hs.length ≤ 281474976710656 := by rw [hz2]; omega
  have hmax : hs.length ≤ maxLen := by unfold maxLen; omega
  rcases hv with ⟨rfl, ao, cap, rfl, -⟩ | ⟨b, off, cap, rfl, hz, hc⟩
  · go_enter Tryz.func42, Tryz.ntmps42
    go_wp2_with (at_make; refine wpList_make_full _ rfl _ _ 36 rfl w.heap.size 82 i0 (.agg #[.int .i64 0, .int .i64 0, .int .i64 0, .int .i64 0]) 4 Tryz.underlying36 hi hz0 hz1 .i64 .i64 _ _ 0 rfl rfl rfl rfl hbytes hmax (Nat.le_refl _) ?_; intro w1 hown hgrow)
    have HO : Hid (w1.ownsRow w.heap.size 82 4 (.slice (some ⟨w.heap.size, 0, none⟩) 0 0) 0 (wflat [])) := by
      have := made_four 0
      rw [show (Value.agg #[.int .i64 0, .int .i64 0, .int .i64 0, .int .i64 0]).cells = #[.int .i64 0, .int .i64 0, .int .i64 0, .int .i64 0] from rfl, this] at hown
      exact hown
    have HB : Hid (Below w.heap.size w w1) := (Below.refl _ _).grown hgrow (Nat.le_refl _) (fun k h => by cases h)
    clear hown hgrow
    refine wp_loop_rounds 1 ?_
    rw [rounds_succ]
    go_wp2
    go_ret
    exact ⟨rfl, HO.out, HB.out⟩
  have HC : Hid (∀ k, k < hs.length → w.cell? ⟨b, off + k * 4, none⟩ = some (.int .i64 (hs.getD k (0, 0, 0, 0)).1) ∧ w.cell? ⟨b, off + k * 4 + 1, none⟩ = some (.int .i64 (hs.getD k (0, 0, 0, 0)).2.1) ∧ w.cell? ⟨b, off + k * 4 + 2, none⟩ = some (.int .i64 (hs.getD k (0, 0, 0, 0)).2.2.1) ∧ w.cell? ⟨b, off + k * 4 + 3, none⟩ = some (.int .i64 (hs.getD k (0, 0, 0, 0)).2.2.2)) := hc
  have hzl : 0 < hs.length := List.length_pos_iff.2 hz
  have hbw : b < w.heap.size := World.block_lt_of_cell? _ _ (hc 0 hzl).1
  clear hc hz
  go_enter Tryz.func42, Tryz.ntmps42
  go_wp2_with (at_make; refine wpList_make_full _ rfl _ _ 36 rfl w.heap.size 82 i0 (.agg #[.int .i64 0, .int .i64 0, .int .i64 0, .int .i64 0]) 4 Tryz.underlying36 hi hz0 hz1 .i64 .i64 _ _ hs.length rfl rfl rfl rfl hbytes hmax (Nat.le_refl _) ?_; intro w1 hown hgrow)
  have hown0 : Hid (w1.ownsRow w.heap.size 82 4 (.slice (some ⟨w.heap.size, 0, none⟩) hs.length hs.length) hs.length (wflat (hs.take 0 ++ List.replicate (hs.length - 0) (0, 0, 0, 0)))) := by
    have := made_four hs.length
    rw [show (Value.agg #[.int .i64 0, .int .i64 0, .int .i64 0, .int .i64 0]).cells = #[.int .i64 0, .int .i64 0, .int .i64 0, .int .i64 0] from rfl, this] at hown
    exact hown
  have hbel : Below w.heap.size w w1 := (Below.refl _ _).grown hgrow (Nat.le_refl _) (fun k h => by cases h)
  clear hown hgrow
  go_loopw [4] (fun i wr => ∃ k : Nat, k ≤ hs.length ∧ i = .int .i64 k ∧ Hid (wr.ownsRow w.heap.size 82 4 (.slice (some ⟨w.heap.size, 0, none⟩) hs.length hs.length) hs.length (wflat (hs.take k ++ List.replicate (hs.length - k) (0, 0, 0, 0)))) ∧ Below w.heap.size w wr) (fun i _ => hs.length - (intOf i).toNat)
  case atStart => exact ⟨0, Nat.zero_le _, rfl, hown0, hbel⟩
  case round =>
    obtain ⟨k, hk, rfl, HO, hbe⟩ := hrel
    by_cases hlt : k < hs.length
    · obtain ⟨p0, p1, p2, p3, HZ⟩ : ∃ p0 p1 p2 p3, Hid (hs.getD k (0, 0, 0, 0) = (p0, p1, p2, p3)) := ⟨_, _, _, _, rfl⟩
      have hq0 : wr.cell? ⟨b, off + k * 4, none⟩ = some (.int .i64 p0) := by rw [hbe.cell (p := ⟨b, off + k * 4, none⟩) hbw, (HC.out k hlt).1, HZ.out]
      have hq1 : wr.cell? ⟨b, off + k * 4 + 1, none⟩ = some (.int .i64 p1) := by rw [hbe.cell (p := ⟨b, off + k * 4 + 1, none⟩) hbw, (HC.out k hlt).2.1, HZ.out]
      have hq2 : wr.cell? ⟨b, off + k * 4 + 2, none⟩ = some (.int .i64 p2) := by rw [hbe.cell (p := ⟨b, off + k * 4 + 2, none⟩) hbw, (HC.out k hlt).2.2.1, HZ.out]
      have hq3 : wr.cell? ⟨b, off + k * 4 + 3, none⟩ = some (.int .i64 p3) := by rw [hbe.cell (p := ⟨b, off + k * 4 + 3, none⟩) hbw, (HC.out k hlt).2.2.2, HZ.out]
      have HB : Hid (Below w.heap.size w wr) := hbe
      have hws : w.heap.size < wr.heap.size := (HO.out.lt w.heap.size rfl).2
      clear hbe
      go_wp2_with fail
      refine (toWord_any p0 p1 p2 p3 wr).mono ?_
      rintro e w2 ⟨rfl, hb2⟩
      have HO2 := hide_it (ownsRow_below HO.out hb2 (fun j hj => by simp [Value.ownBlock] at hj; omega))
      have HB2 : Hid (Below w.heap.size w w2) := HB.out.trans (hb2.mono HB.out.size)
      have cellEx : ∀ j, j < hs.length * 4 → ∃ x, w2.cell? ⟨w.heap.size, j, none⟩ = some x := fun j hj => by
        have h1 := HO2.out.cellAt j hj
        have h2 : j < (wflat (hs.take k ++ List.replicate (hs.length - k) (0, 0, 0, 0))).length := by rw [HO2.out.1]; exact hj
        exact ⟨_, by rw [h1, List.getElem?_eq_getElem h2]⟩
      obtain ⟨x0, hx0⟩ := cellEx (k * 4) (by omega)
      obtain ⟨x1, hx1⟩ := cellEx (k * 4 + 1) (by omega)
      obtain ⟨x2, hx2⟩ := cellEx (k * 4 + 2) (by omega)
      obtain ⟨x3, hx3⟩ := cellEx (k * 4 + 3) (by omega)
      have f0 := HO2.out.frozenAt (k * 4)
      have f1 := HO2.out.frozenAt (k * 4 + 1)
      have f2 := HO2.out.frozenAt (k * 4 + 2)
      have f3 := HO2.out.frozenAt (k * 4 + 3)
      have ST : Hid ((store4 w2 w.heap.size (k * 4) (p0, p1, p2, p3)).ownsRow w.heap.size 82 4 (.slice (some ⟨w.heap.size, 0, none⟩) hs.length hs.length) hs.length (wflat (hs.take (k + 1) ++ List.replicate (hs.length - (k + 1)) (0, 0, 0, 0)))) := by
        have h := (stored4 HO2.out k (by simp; omega) (p0, p1, p2, p3)).1
        rw [List.set_append_right _ _ (by simp; omega), show k - (hs.take k).length = 0 by simp; omega, show hs.length - k = (hs.length - (k + 1)) + 1 by omega, List.replicate_succ, List.set_cons_zero] at h
        rw [wtake hs k hlt, HZ.out, List.append_assoc]
        exact h
      clear cellEx hb2
      go_wp2
      go_roundw
      case rel =>
        refine ⟨k + 1, by omega, by go_num, ST, ?_⟩
        exact (((HB2.out.setCell (Nat.le_refl _) _).setCell (Nat.le_refl _) _).setCell (Nat.le_refl _) _).setCell (Nat.le_refl _) _
      case measure => simp [intOf]; omega
    · have HO2 : Hid (wr.ownsRow w.heap.size 82 4 (.slice (some ⟨w.heap.size, 0, none⟩) hs.length hs.length) hs.length (wflat hs)) := by
        have hke : k = hs.length := by omega
        have := HO.out
        rw [hke, List.take_length, Nat.sub_self] at this
        show World.ownsRow _ _ _ _ _ _ _
        simpa using this
      go_wp2
      go_ret
      exact ⟨rfl, HO2.out, hbe⟩

theorem eqWord_any (k h t m : Int) (w : World) :
    Calls Tryz.prog 81 #[wordV k h t m, wordV k h t m] w fun e w' => e = .returned (.bool true) ∧ Below w.heap.size w w' := by
  go_enter Tryz.func81, Tryz.ntmps81
  go_wp2
  go_ret
  exact ⟨rfl, below2 w _ _⟩

set_option maxHeartbeats 2000000 in
theorem eqWords_any (v1 v2 : Value) (hs : List Wd) (w : World) (h1 : Words w v1 hs) (h2 : Words w v2 hs) (hl : hs.length ≤ 1048576) :
    Calls Tryz.prog 48 #[v1, v2] w fun e w' => e = .returned (.bool true) ∧ Below w.heap.size w w' := by
  rcases h1 with ⟨rfl, ao, cap, rfl, -⟩ | ⟨b, off, cap, rfl, hz, hc⟩
  · obtain ⟨ao2, cap2, rfl⟩ := h2.shape
    clear h2
    go_enter Tryz.func48, Tryz.ntmps48
    go_wp2
    refine wp_loop_rounds 1 ?_
    rw [rounds_succ]
    go_wp2
    go_ret
    exact ⟨rfl, Below.refl _ _⟩
  rcases h2 with ⟨h, _⟩ | ⟨b2, off2, cap2, rfl, _, hc2⟩
  · exact absurd h hz
  have HC : Hid (∀ k, k < hs.length → w.cell? ⟨b, off + k * 4, none⟩ = some (.int .i64 (hs.getD k (0, 0, 0, 0)).1) ∧ w.cell? ⟨b, off + k * 4 + 1, none⟩ = some (.int .i64 (hs.getD k (0, 0, 0, 0)).2.1) ∧ w.cell? ⟨b, off + k * 4 + 2, none⟩ = some (.int .i64 (hs.getD k (0, 0, 0, 0)).2.2.1) ∧ w.cell? ⟨b, off + k * 4 + 3, none⟩ = some (.int .i64 (hs.getD k (0, 0, 0, 0)).2.2.2)) := hc
  have HC2 : Hid (∀ k, k < hs.length → w.cell? ⟨b2, off2 + k * 4, none⟩ = some (.int .i64 (hs.getD k (0, 0, 0, 0)).1) ∧ w.cell? ⟨b2, off2 + k * 4 + 1, none⟩ = some (.int .i64 (hs.getD k (0, 0, 0, 0)).2.1) ∧ w.cell? ⟨b2, off2 + k * 4 + 2, none⟩ = some (.int .i64 (hs.getD k (0, 0, 0, 0)).2.2.1) ∧ w.cell? ⟨b2, off2 + k * 4 + 3, none⟩ = some (.int .i64 (hs.getD k (0, 0, 0, 0)).2.2.2)) := hc2
  have hzl : 0 < hs.length := List.length_pos_iff.2 hz
  have hbw : b < w.heap.size := World.block_lt_of_cell? _ _ (hc 0 hzl).1
  have hbw2 : b2 < w.heap.size := World.block_lt_of_cell? _ _ (hc2 0 hzl).1
  clear hc hc2 hz
  go_enter Tryz.func48, Tryz.ntmps48
  go_wp2
  go_loopw [5] (fun i wr => ∃ k : Nat, k ≤ hs.length ∧ i = .int .i64 k ∧ Below w.heap.size w wr) (fun i _ => hs.length - (intOf i).toNat)
  case atStart => exact ⟨0, Nat.zero_le _, rfl, Below.refl _ _⟩
  case round =>
    obtain ⟨k, hk, rfl, hbe⟩ := hrel
    by_cases hlt : k < hs.length
    · obtain ⟨p0, p1, p2, p3, HZ⟩ : ∃ p0 p1 p2 p3, Hid (hs.getD k (0, 0, 0, 0) = (p0, p1, p2, p3)) := ⟨_, _, _, _, rfl⟩
      have c0 : wr.cell? ⟨b, off + k * 4, none⟩ = some (.int .i64 p0) := by rw [hbe.cell (p := ⟨b, off + k * 4, none⟩) hbw, (HC.out k hlt).1, HZ.out]
      have c1 : wr.cell? ⟨b, off + k * 4 + 1, none⟩ = some (.int .i64 p1) := by rw [hbe.cell (p := ⟨b, off + k * 4 + 1, none⟩) hbw, (HC.out k hlt).2.1, HZ.out]
      have c2 : wr.cell? ⟨b, off + k * 4 + 2, none⟩ = some (.int .i64 p2) := by rw [hbe.cell (p := ⟨b, off + k * 4 + 2, none⟩) hbw, (HC.out k hlt).2.2.1, HZ.out]
      have c3 : wr.cell? ⟨b, off + k * 4 + 3, none⟩ = some (.int .i64 p3) := by rw [hbe.cell (p := ⟨b, off + k * 4 + 3, none⟩) hbw, (HC.out k hlt).2.2.2, HZ.out]
      have d0 : wr.cell? ⟨b2, off2 + k * 4, none⟩ = some (.int .i64 p0) := by rw [hbe.cell (p := ⟨b2, off2 + k * 4, none⟩) hbw2, (HC2.out k hlt).1, HZ.out]
      have d1 : wr.cell? ⟨b2, off2 + k * 4 + 1, none⟩ = some (.int .i64 p1) := by rw [hbe.cell (p := ⟨b2, off2 + k * 4 + 1, none⟩) hbw2, (HC2.out k hlt).2.1, HZ.out]
      have d2 : wr.cell? ⟨b2, off2 + k * 4 + 2, none⟩ = some (.int .i64 p2) := by rw [hbe.cell (p := ⟨b2, off2 + k * 4 + 2, none⟩) hbw2, (HC2.out k hlt).2.2.1, HZ.out]
      have d3 : wr.cell? ⟨b2, off2 + k * 4 + 3, none⟩ = some (.int .i64 p3) := by rw [hbe.cell (p := ⟨b2, off2 + k * 4 + 3, none⟩) hbw2, (HC2.out k hlt).2.2.2, HZ.out]
      have hli : (k : Int) < (hs.length : Int) := by omega
      have HB : Hid (Below w.heap.size w wr) := hbe
      clear hbe
      go_wp2
      go_region_with (go_at_call 81; refine (eqWord_any _ _ _ _ _).mono ?_; rintro e w2 ⟨rfl, hb2⟩; have HB2 := HB.out.drew.trans (hb2.mono HB.out.size); clear hb2)
      all_goals (try go_wp2)
      all_goals
        go_roundw
        case rel => exact ⟨k + 1, by omega, by go_num, HB2⟩
        case measure => simp [intOf]; omega
    · go_wp2
      go_ret
      exact ⟨rfl, hbe⟩

end Go.Proofs.YtkkkdgpbmmjieaaGreatDoor

namespace Go.Proofs.YtkkkdgpbmmjieaaGreatDoor
open Go.RowKit

/-- Words, all marked. -/
def markW (n : Nat) (k : Int) : List Wd := (List.range n).map fun i => (k + 4 * (i : Nat), k + 4 * (i : Nat) + 1, k + 4 * (i : Nat) + 2, k + 4 * (i : Nat) + 3)
theorem markW_length (n : Nat) (k : Int) : (markW n k).length = n := by simp [markW]
theorem markW_get? (n : Nat) (k : Int) (i : Nat) (h : i < n) : (markW n k)[i]? = some (k + 4 * i, k + 4 * i + 1, k + 4 * i + 2, k + 4 * i + 3) := by simp [markW, h]
theorem markW_get (n : Nat) (k : Int) (i : Nat) (h : i < n) : (markW n k).getD i (0, 0, 0, 0) = (k + 4 * i, k + 4 * i + 1, k + 4 * i + 2, k + 4 * i + 3) := by
  rw [List.getD_eq_getElem?_getD, markW_get? n k i h]; rfl

theorem mixW_set (A xs : List Wd) (i : Nat) (hA : A.length = xs.length) (hi : i < xs.length) (x : Wd) (hx : A[i]? = some x) : (A.take i ++ xs.drop i).set i x = A.take (i + 1) ++ xs.drop (i + 1) := by
  have hi' : i < A.length := by omega
  rw [List.set_append_right _ _ (by simp; omega)]
  have h1 : i - (A.take i).length = 0 := by simp; omega
  rw [h1, List.drop_eq_getElem_cons hi, List.set_cons_zero, List.take_succ_eq_append_getElem hi']
  rw [List.getElem?_eq_getElem hi'] at hx
  simp only [Option.some.injEq] at hx
  rw [hx]; simp

set_option maxHeartbeats 2000000 in
theorem markWords_any (v : Value) (hs : List Wd) (k : Int) (lo n : Nat) (w : World) (hv : w.ownsRow lo 82 4 v n (wflat hs)) (hn : n ≤ 1048576) (hk0 : 0 ≤ k) (hk1 : k ≤ 1000000000) :
    Calls Tryz.prog 55 #[v, .int .i64 k] w fun e w' => e = .returned (.int .i64 (k + 4 * n)) ∧ w'.ownsRow lo 82 4 v n (wflat (markW n k)) ∧ w.grownBy w' v.ownBlock := by
  have hxl : hs.length = n := by have := hv.1; rw [wflat_length] at this; omega
  by_cases h0 : n = 0
  · subst h0
    obtain rfl : hs = [] := List.length_eq_zero_iff.1 hxl
    have HV : Hid (w.ownsRow lo 82 4 v 0 (wflat (markW 0 k))) := hv
    obtain ⟨ao, cap, rfl⟩ := row_shape hv
    clear hv hxl
    go_enter Tryz.func55, Tryz.ntmps55
    go_wp2
    refine wp_loop_rounds 1 ?_
    rw [rounds_succ]
    go_wp2
    go_ret
    exact ⟨by simp, HV.out, World.grownBy.refl _ _⟩
  obtain ⟨g, cap, rfl⟩ : ∃ g cap, v = .slice (some ⟨g, 0, none⟩) n cap := by
    rcases hv.2 with ⟨_, hn0⟩ | ⟨g, cap, cur, h, _⟩
    · exact absurd hn0 h0
    · exact ⟨g, cap, h⟩
  have HX : Hid (hs.length = n) := hxl
  have H0 : Hid (w.ownsRow lo 82 4 (.slice (some ⟨g, 0, none⟩) n cap) n (wflat ((markW n k).take 0 ++ hs.drop 0))) := by show World.ownsRow _ _ _ _ _ _ _; simpa using hv
  clear hv hxl
  go_enter Tryz.func55, Tryz.ntmps55
  go_wp2
  go_loopw [1, 5] (fun q i wr => ∃ j : Nat, j ≤ n ∧ i = .int .i64 j ∧ q = .int .i64 (k + 4 * j) ∧ Hid (wr.ownsRow lo 82 4 (.slice (some ⟨g, 0, none⟩) n cap) n (wflat ((markW n k).take j ++ hs.drop j))) ∧ Hid (w.grownBy wr (some g))) (fun _ i _ => n - (intOf i).toNat)
  case atStart => exact ⟨0, Nat.zero_le _, rfl, by simp, H0, World.grownBy.refl _ _⟩
  case round =>
    obtain ⟨j, hj, rfl, rfl, HO, HG⟩ := hrel
    by_cases hlt : j < n
    · have cellEx : ∀ i, i < n * 4 → ∃ x, wr.cell? ⟨g, i, none⟩ = some x := fun i hi => by
        have h1 := HO.out.cellAt i hi
        have h2 : i < (wflat ((markW n k).take j ++ hs.drop j)).length := by rw [HO.out.1]; exact hi
        exact ⟨_, by rw [h1, List.getElem?_eq_getElem h2]⟩
      obtain ⟨x0, hx0⟩ := cellEx (j * 4) (by omega)
      obtain ⟨x1, hx1⟩ := cellEx (j * 4 + 1) (by omega)
      obtain ⟨x2, hx2⟩ := cellEx (j * 4 + 2) (by omega)
      obtain ⟨x3, hx3⟩ := cellEx (j * 4 + 3) (by omega)
      have f0 := HO.out.frozenAt (j * 4)
      have f1 := HO.out.frozenAt (j * 4 + 1)
      have f2 := HO.out.frozenAt (j * 4 + 2)
      have f3 := HO.out.frozenAt (j * 4 + 3)
      have st := stored4 HO.out j (by rw [List.length_append, List.length_take, markW_length, List.length_drop, HX.out]; omega) (k + 4 * j, k + 4 * j + 1, k + 4 * j + 2, k + 4 * j + 3)
      have ST := hide_it st
      clear cellEx st
      go_wp2
      go_roundw
      case rel =>
        refine ⟨j + 1, by omega, by go_num, by go_num, ?_, ?_⟩
        · have h := ST.out.1
          rw [mixW_set _ _ j (by rw [markW_length, HX.out]) (by rw [HX.out]; omega) _ (markW_get? n k j hlt)] at h
          first | exact h | (simp only [store4] at h; simp only [Int.add_assoc] at h ⊢; exact h)
        · first | exact grownBy_trans HG.out ST.out.2 | (have h := ST.out.2; simp only [store4] at h; simp only [Int.add_assoc] at h ⊢; exact grownBy_trans HG.out h)
      case measure => simp [intOf]; omega
    · have HO2 : Hid (wr.ownsRow lo 82 4 (.slice (some ⟨g, 0, none⟩) n cap) n (wflat (markW n k))) := by
        have hje : j = n := by omega
        have := HO.out
        rw [hje, List.take_of_length_le (by rw [markW_length]; omega), List.drop_of_length_le (by rw [HX.out]; omega), List.append_nil] at this
        exact this
      have hje : (j : Int) = n := by omega
      go_wp2
      go_ret
      exact ⟨by simp [hje], HO2.out, HG.out⟩

set_option maxHeartbeats 2000000 in
theorem heldWords_any (v : Value) (n : Nat) (k : Int) (w : World) (hv : Words w v (markW n k)) (hn : n ≤ 1048576) (hk0 : 0 ≤ k) (hk1 : k ≤ 1000000000) :
    Calls Tryz.prog 64 #[v, .int .i64 k] w fun e w' => e = .returned (.int .i64 (k + 4 * n)) ∧ w' = w := by
  rcases hv with ⟨hz, ao, cap, rfl, -⟩ | ⟨b, off, cap, rfl, hz, hc⟩
  · have h0 : n = 0 := by have := congrArg List.length hz; rw [markW_length] at this; simpa using this
    subst h0
    clear hz
    go_enter Tryz.func64, Tryz.ntmps64
    go_wp2
    refine wp_loop_rounds 1 ?_
    rw [rounds_succ]
    go_wp2
    go_ret
    exact ⟨by simp, rfl⟩
  · rw [markW_length] at hc ⊢
    have HC : Hid (∀ j, j < n → w.cell? ⟨b, off + j * 4, none⟩ = some (.int .i64 (k + 4 * j)) ∧ w.cell? ⟨b, off + j * 4 + 1, none⟩ = some (.int .i64 (k + 4 * j + 1)) ∧ w.cell? ⟨b, off + j * 4 + 2, none⟩ = some (.int .i64 (k + 4 * j + 2)) ∧ w.cell? ⟨b, off + j * 4 + 3, none⟩ = some (.int .i64 (k + 4 * j + 3))) := fun j hj => by
      have := hc j hj
      rw [markW_get n k j hj] at this
      exact this
    clear hc hz
    go_enter Tryz.func64, Tryz.ntmps64
    go_wp2
    go_loop [1, 5] (fun q i => ∃ j : Nat, j ≤ n ∧ i = .int .i64 j ∧ q = .int .i64 (k + 4 * j)) (fun _ i => n - (intOf i).toNat)
    case atStart => exact ⟨0, Nat.zero_le _, rfl, by simp⟩
    case round =>
      obtain ⟨j, hj, rfl, rfl⟩ := hrel
      by_cases hlt : j < n
      · obtain ⟨c0, c1, c2, c3⟩ := HC.out j hlt
        go_wp2
        go_round
        case rel => exact ⟨j + 1, by omega, by go_num, by go_num⟩
        case measure => simp [intOf]; omega
      · have hje : (j : Int) = n := by omega
        go_wp2
        go_ret
        exact ⟨by simp, rfl⟩

end Go.Proofs.YtkkkdgpbmmjieaaGreatDoor
