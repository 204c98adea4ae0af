/- Lists of holds in memory, and the contracts of the law's helpers over them: how great one is, a copy, whether two are the same. For lists of at most 1048576 holds. -/
import Derived.Test.YtpnhcmjdjekleaaDoorKPure
import Derived.Test.YtpnhcmjdjekleaaDoorMark
import Derived.Deep.RegionWith
namespace Go.Proofs.YtpnhcmjdjekleaaDoor
open Go.RowKit

/-- Holds, as they lie in a row. -/
def hflat : List Pl.H → List Value
  | [] => []
  | h :: t => .int .i64 h.1 :: .int .i64 h.2 :: hflat t

theorem hflat_length (hs : List Pl.H) : (hflat hs).length = hs.length * 2 := by
  induction hs with
  | nil => rfl
  | cons p t ih => simp only [hflat, List.length_cons, ih]; omega
theorem hflat_get (hs : List Pl.H) (i : Nat) (h : i < hs.length) :
    (hflat hs)[i * 2]? = some (.int .i64 (hs.getD i (0, 0)).1) ∧ (hflat hs)[i * 2 + 1]? = some (.int .i64 (hs.getD i (0, 0)).2) := by
  induction hs generalizing i with
  | nil => simp at h
  | cons q t ih =>
    cases i with
    | zero => simp [hflat]
    | succ i =>
      have := ih i (by simpa using h)
      rw [show (i + 1) * 2 = i * 2 + 2 by omega]
      simpa [hflat] using this
theorem hflat_set (hs : List Pl.H) (k : Nat) (p : Pl.H) (h : k < hs.length) :
    ((hflat hs).set (k * 2) (.int .i64 p.1)).set (k * 2 + 1) (.int .i64 p.2) = hflat (hs.set k p) := by
  induction hs generalizing k with
  | nil => simp at h
  | cons q t ih =>
    cases k with
    | zero => simp [hflat]
    | succ k =>
      have := ih k (by simpa using h)
      rw [show (k + 1) * 2 = k * 2 + 2 by omega]
      simp only [hflat, List.set_cons_succ]
      rw [this]
theorem hflat_append (ps qs : List Pl.H) : hflat (ps ++ qs) = hflat ps ++ hflat qs := by
  induction ps with
  | nil => rfl
  | cons p t ih => simp [hflat, ih]

/-- The value v is a slice of just these holds in the world w. -/
def Holds (w : World) (v : Value) (hs : List Pl.H) : Prop :=
  (hs = [] ∧ ∃ ao cap, v = .slice ao 0 cap ∧ (ao = none → cap = 0)) ∨
  (∃ b off cap, v = .slice (some ⟨b, off, none⟩) hs.length cap ∧ hs ≠ [] ∧ ∀ k, k < hs.length → w.cell? ⟨b, off + k * 2, none⟩ = some (.int .i64 (hs.getD k (0, 0)).1) ∧ w.cell? ⟨b, off + k * 2 + 1, none⟩ = some (.int .i64 (hs.getD k (0, 0)).2))

theorem Holds.later {B : Nat} {w w' : World} {v : Value} {hs : List Pl.H} (h : Holds w v hs) (hb : Below B w w') (hB : w.heap.size ≤ B) : Holds w' v hs := by
  rcases h with h | ⟨b, off, cap, hv, hz, hc⟩
  · exact Or.inl h
  · refine Or.inr ⟨b, off, cap, hv, hz, fun k hk => ?_⟩
    obtain ⟨h1, h2⟩ := hc k hk
    have hl := World.block_lt_of_cell? _ _ h1
    simp at hl
    exact ⟨by rw [← h1]; exact hb.cell (p := ⟨b, off + k * 2, none⟩) (by simp; omega), by rw [← h2]; exact hb.cell (p := ⟨b, off + k * 2 + 1, none⟩) (by simp; omega)⟩

theorem Holds.shape {w : World} {v : Value} {hs : List Pl.H} (h : Holds w v hs) : ∃ ao cap, v = .slice ao hs.length cap := by
  rcases h with ⟨rfl, ao, cap, rfl, _⟩ | ⟨b, off, cap, rfl, _, _⟩
  · exact ⟨ao, cap, rfl⟩
  · exact ⟨_, cap, rfl⟩

/-- A row of holds that the call owns is a list of them. -/
theorem holds_of_row {w : World} {base : Nat} {v : Value} {hs : List Pl.H} (h : w.ownsRow base 59 2 v hs.length (hflat hs)) : Holds w v hs := by
  rcases h.2 with ⟨hv, hn⟩ | ⟨g, cap, cur, hv, _⟩
  · have : hs = [] := List.length_eq_zero_iff.1 hn
    exact Or.inl ⟨this, none, 0, hv, fun _ => rfl⟩
  · by_cases hz : hs = []
    · subst hz; exact Or.inl ⟨rfl, _, _, hv, fun h => by cases h⟩
    · subst hv
      refine Or.inr ⟨g, 0, cap, rfl, hz, fun k hk => ?_⟩
      obtain ⟨f0, f1⟩ := hflat_get hs k hk
      exact ⟨by rw [Nat.zero_add, h.cellAt _ (by omega)]; exact f0, by rw [Nat.zero_add, h.cellAt _ (by omega)]; exact f1⟩

theorem infoHold : (Tryd.prog.info? 59).map (fun i => (i.zero, i.size, i.bytes)) = some (some (.agg #[.int .i64 0, .int .i64 0]), 2, 16) := by kernel_rfl

theorem made_two (n : Nat) : (madeCells #[.int .i64 0, .int .i64 0] (n * 2)).toList = hflat (List.replicate n (0, 0)) := by
  apply List.ext_getElem?
  intro i
  by_cases h : i < n * 2
  · have hq : i / 2 < n := by omega
    obtain ⟨f0, f1⟩ := hflat_get (List.replicate n (0, 0)) (i / 2) (by simpa using hq)
    have hl : (madeCells #[.int .i64 0, .int .i64 0] (n * 2)).toList[i]? = some (#[Value.int .i64 0, .int .i64 0][i % 2]!) := by
      simp [madeCells, h]
    have hd : (List.replicate n ((0, 0) : Pl.H)).getD (i / 2) (0, 0) = (0, 0) := by simp [List.getD_eq_getElem?_getD, hq]
    rw [hd] at f0 f1
    rw [hl]
    rcases (show i % 2 = 0 ∨ i % 2 = 1 by omega) with h0 | h0
    · rw [show i / 2 * 2 = i by omega] at f0; rw [f0, h0]; rfl
    · rw [show i / 2 * 2 + 1 = i by omega] at f1; rw [f1, h0]; rfl
  · rw [List.getElem?_eq_none (by simp [madeCells]; omega), List.getElem?_eq_none (by rw [hflat_length]; simp; omega)]

/-- Two stores into a row of holds. -/
theorem stored2 {w : World} {base g n cap : Nat} {hs : List Pl.H} (h : w.ownsRow base 59 2 (.slice (some ⟨g, 0, none⟩) n cap) n (hflat hs)) (k : Nat) (hk : k < hs.length) (p : Pl.H) :
    ((w.setCell ⟨g, k * 2, none⟩ (.int .i64 p.1)).setCell ⟨g, k * 2 + 1, none⟩ (.int .i64 p.2)).ownsRow base 59 2 (.slice (some ⟨g, 0, none⟩) n cap) n (hflat (hs.set k p)) ∧
    w.grownBy ((w.setCell ⟨g, k * 2, none⟩ (.int .i64 p.1)).setCell ⟨g, k * 2 + 1, none⟩ (.int .i64 p.2)) (some g) := by
  have a1 := h.stored (k * 2) (.int .i64 p.1)
  have a2 := a1.1.stored (k * 2 + 1) (.int .i64 p.2)
  rw [hflat_set hs k p hk] at a2
  exact ⟨a2.1, grownBy_trans a1.2 a2.2⟩

theorem szHolds_any (ao : Option Addr) (len cap : Nat) (left : Int) (w : World) (hl : (len : Int) ≤ 9223372036854775807) (h0 : 0 ≤ left) (h1 : left ≤ 1048576) :
    Calls Tryd.prog 25 #[.slice ao len cap, .int .i64 left] w fun e w' => e = .returned (.int .i64 (leftOf left len)) ∧ w' = w := by
  by_cases h : left - (len : Int) < 0
  · rw [leftOf_neg h]
    go_enter Tryd.func25, Tryd.ntmps25
    go_wp2
    go_ret
    exact ⟨rfl, rfl⟩
  · rw [leftOf_pos h]
    go_enter Tryd.func25, Tryd.ntmps25
    go_wp2
    go_ret
    exact ⟨rfl, rfl⟩

theorem szStock_any (room : Int) (ao : Option Addr) (len cap : Nat) (left : Int) (w : World) (hl : (len : Int) ≤ 9223372036854775807) (h0 : 0 ≤ left) (h1 : left ≤ 1048576) :
    Calls Tryd.prog 6 #[.agg #[.int .i64 room, .slice ao len cap], .int .i64 left] w fun e w' => e = .returned (.int .i64 (leftOf left len)) ∧ Below w.heap.size w w' := by
  have hs := szHolds_any ao len cap left
  by_cases h : left - (len : Int) < 0
  · have HS : Hid (∀ w, Calls Tryd.prog 25 #[.slice ao len cap, .int .i64 left] w fun e w' => e = .returned (.int .i64 (-1)) ∧ w' = w) := fun w => by have := hs w hl h0 h1; rw [leftOf_neg h] at this; exact this
    rw [leftOf_neg h]
    clear hs
    go_enter Tryd.func6, Tryd.ntmps6
    go_wp2_with (go_at_call 25; refine (HS.out _).mono ?_; rintro e w' ⟨rfl, rfl⟩)
    go_ret
    exact ⟨rfl, (Below.refl _ _).alloc (Nat.le_refl _) _⟩
  · have HS : Hid (∀ w, Calls Tryd.prog 25 #[.slice ao len cap, .int .i64 left] w fun e w' => e = .returned (.int .i64 (left - len)) ∧ w' = w) := fun w => by have := hs w hl h0 h1; rw [leftOf_pos h] at this; exact this
    rw [leftOf_pos h]
    clear hs
    go_enter Tryd.func6, Tryd.ntmps6
    go_wp2_with (go_at_call 25; refine (HS.out _).mono ?_; rintro e w' ⟨rfl, rfl⟩)
    go_ret
    exact ⟨rfl, (Below.refl _ _).alloc (Nat.le_refl _) _⟩

set_option maxHeartbeats 1000000 in
theorem toHold_any (m s : Int) (w : World) :
    Calls Tryd.prog 46 #[.agg #[.int .i64 m, .int .i64 s]] w fun e w' => e = .returned (.agg #[.int .i64 m, .int .i64 s]) ∧ Below w.heap.size w w' := by
  have HB := below3 w (.cells #[.int .i64 m, .int .i64 s] 73) (.cells #[.int .i64 0, .int .i64 0] 59) (.cells #[.int .i64 0, .int .i64 0] 59)
  go_enter Tryd.func46, Tryd.ntmps46
  go_wp2
  refine bodyPost_ret (v := .agg #[.int .i64 m, .int .i64 s]) (by simp [results, Tryd.results46, go_sem]) rfl ⟨rfl, ?_⟩
  first | exact below3 w _ _ _ | exact (below3 w _ _ _).setCell (by simp) _ | exact ((below3 w _ _ _).setCell (by simp) _).setCell (by simp) _ | trace_state

set_option maxHeartbeats 1000000 in
theorem toHolds_any (v : Value) (hs : List Pl.H) (w : World) (hv : Holds w v hs) (hl : hs.length ≤ 1048576) :
    Calls Tryd.prog 30 #[v] w fun e w' => e = .returned (.slice (some ⟨w.heap.size, 0, none⟩) hs.length hs.length) ∧
      w'.ownsRow w.heap.size 59 2 (.slice (some ⟨w.heap.size, 0, none⟩) hs.length hs.length) hs.length (hflat hs) ∧ Below w.heap.size w w' := by
  obtain ⟨i0, hi, hz0, hz1, hz2⟩ := info_parts infoHold
  have hbytes : i0.bytes * hs.length ≤ 281474976710656 := by rw [hz2]; omega
  have hmax : hs.length ≤ maxLen := by unfold maxLen; omega
  rcases hv with ⟨rfl, ao, cap, rfl, -⟩ | ⟨b, off, cap, rfl, hz, hc⟩
  · go_enter Tryd.func30, Tryd.ntmps30
    go_wp2_with (at_make; refine wpList_make_full _ rfl _ _ 31 rfl w.heap.size 59 i0 (.agg #[.int .i64 0, .int .i64 0]) 2 Tryd.underlying31 hi hz0 hz1 .i64 .i64 _ _ 0 rfl rfl rfl rfl hbytes hmax (Nat.le_refl _) ?_; intro w1 hown hgrow)
    have HO : Hid (w1.ownsRow w.heap.size 59 2 (.slice (some ⟨w.heap.size, 0, none⟩) 0 0) 0 (hflat [])) := by
      have := made_two 0
      rw [show (Value.agg #[.int .i64 0, .int .i64 0]).cells = #[.int .i64 0, .int .i64 0] from rfl, this] at hown
      exact hown
    have HB : Hid (Below w.heap.size w w1) := (Below.refl _ _).grown hgrow (Nat.le_refl _) (fun k h => by cases h)
    clear hown hgrow
    refine wp_loop_rounds 1 ?_
    rw [rounds_succ]
    go_wp2
    go_ret
    exact ⟨rfl, HO.out, HB.out⟩
  have HC : Hid (∀ k, k < hs.length → w.cell? ⟨b, off + k * 2, none⟩ = some (.int .i64 (hs.getD k (0, 0)).1) ∧ w.cell? ⟨b, off + k * 2 + 1, none⟩ = some (.int .i64 (hs.getD k (0, 0)).2)) := hc
  have hzl : 0 < hs.length := List.length_pos_iff.2 hz
  have hbw : b < w.heap.size := World.block_lt_of_cell? _ _ (hc 0 hzl).1
  clear hc hz
  go_enter Tryd.func30, Tryd.ntmps30
  go_wp2_with (at_make; refine wpList_make_full _ rfl _ _ 31 rfl w.heap.size 59 i0 (.agg #[.int .i64 0, .int .i64 0]) 2 Tryd.underlying31 hi hz0 hz1 .i64 .i64 _ _ hs.length rfl rfl rfl rfl hbytes hmax (Nat.le_refl _) ?_; intro w1 hown hgrow)
  have hown0 : Hid (w1.ownsRow w.heap.size 59 2 (.slice (some ⟨w.heap.size, 0, none⟩) hs.length hs.length) hs.length (hflat (hs.take 0 ++ List.replicate (hs.length - 0) (0, 0)))) := by
    have := made_two hs.length
    rw [show (Value.agg #[.int .i64 0, .int .i64 0]).cells = #[.int .i64 0, .int .i64 0] from rfl, this] at hown
    exact hown
  have hbel : Below w.heap.size w w1 := (Below.refl _ _).grown hgrow (Nat.le_refl _) (fun k h => by cases h)
  clear hown hgrow
  go_loopw [4] (fun i wr => ∃ k : Nat, k ≤ hs.length ∧ i = .int .i64 k ∧ Hid (wr.ownsRow w.heap.size 59 2 (.slice (some ⟨w.heap.size, 0, none⟩) hs.length hs.length) hs.length (hflat (hs.take k ++ List.replicate (hs.length - k) (0, 0)))) ∧ Below w.heap.size w wr) (fun i _ => hs.length - (intOf i).toNat)
  case atStart => exact ⟨0, Nat.zero_le _, rfl, hown0, hbel⟩
  case round =>
    obtain ⟨k, hk, rfl, HO, hbe⟩ := hrel
    by_cases hlt : k < hs.length
    · obtain ⟨m, s, HZ⟩ : ∃ m s, Hid (hs.getD k (0, 0) = (m, s)) := ⟨_, _, rfl⟩
      have hck : wr.cell? ⟨b, off + k * 2, none⟩ = some (.int .i64 m) := by rw [hbe.cell (p := ⟨b, off + k * 2, none⟩) hbw, (HC.out k hlt).1, HZ.out]
      have hcs : wr.cell? ⟨b, off + k * 2 + 1, none⟩ = some (.int .i64 s) := by rw [hbe.cell (p := ⟨b, off + k * 2 + 1, none⟩) hbw, (HC.out k hlt).2, HZ.out]
      have HB : Hid (Below w.heap.size w wr) := hbe
      have hws : w.heap.size < wr.heap.size := (HO.out.lt w.heap.size rfl).2
      clear hbe
      go_wp2_with fail
      refine (toHold_any m s wr).mono ?_
      rintro e w2 ⟨rfl, hb2⟩
      have HO2 := hide_it (ownsRow_below HO.out hb2 (fun j hj => by simp [Value.ownBlock] at hj; omega))
      have HB2 : Hid (Below w.heap.size w w2) := HB.out.trans (hb2.mono HB.out.size)
      have cellEx : ∀ j, j < hs.length * 2 → ∃ x, w2.cell? ⟨w.heap.size, j, none⟩ = some x := fun j hj => by
        have h1 := HO2.out.cellAt j hj
        have h2 : j < (hflat (hs.take k ++ List.replicate (hs.length - k) (0, 0))).length := by rw [HO2.out.1]; exact hj
        exact ⟨_, by rw [h1, List.getElem?_eq_getElem h2]⟩
      obtain ⟨x0, hx0⟩ := cellEx (k * 2) (by omega)
      obtain ⟨x1, hx1⟩ := cellEx (k * 2 + 1) (by omega)
      have f0 := HO2.out.frozenAt (k * 2)
      have f1 := HO2.out.frozenAt (k * 2 + 1)
      have ST : Hid (((w2.setCell ⟨w.heap.size, k * 2, none⟩ (.int .i64 m)).setCell ⟨w.heap.size, k * 2 + 1, none⟩ (.int .i64 s)).ownsRow w.heap.size 59 2 (.slice (some ⟨w.heap.size, 0, none⟩) hs.length hs.length) hs.length (hflat (hs.take (k + 1) ++ List.replicate (hs.length - (k + 1)) (0, 0)))) := by
        have h := (stored2 HO2.out k (by simp; omega) (m, s)).1
        rw [List.set_append_right _ _ (by simp; omega), show k - (hs.take k).length = 0 by simp; omega, show hs.length - k = (hs.length - (k + 1)) + 1 by omega, List.replicate_succ, List.set_cons_zero] at h
        rw [Pl.htake hs k hlt, HZ.out, List.append_assoc]
        exact h
      clear cellEx hb2
      go_wp2
      go_roundw
      case rel =>
        refine ⟨k + 1, by omega, by go_num, ST, ?_⟩
        exact (HB2.out.setCell (Nat.le_refl _) _).setCell (Nat.le_refl _) _
      case measure => simp [intOf]; omega
    · have HO2 : Hid (wr.ownsRow w.heap.size 59 2 (.slice (some ⟨w.heap.size, 0, none⟩) hs.length hs.length) hs.length (hflat hs)) := by
        have hke : k = hs.length := by omega
        have := HO.out
        rw [hke, List.take_length, Nat.sub_self] at this
        show World.ownsRow _ _ _ _ _ _ _
        simpa using this
      go_wp2
      go_ret
      exact ⟨rfl, HO2.out, hbe⟩

set_option maxHeartbeats 1000000 in
theorem toStock_any (room : Int) (v : Value) (hs : List Pl.H) (w : World) (hv : Holds w v hs) (hl : hs.length ≤ 1048576) :
    Calls Tryd.prog 9 #[.agg #[.int .i64 room, v]] w fun e w' => e = .returned (.agg #[.int .i64 room, .slice (some ⟨w.heap.size + 3, 0, none⟩) hs.length hs.length]) ∧
      w'.ownsRow (w.heap.size + 3) 59 2 (.slice (some ⟨w.heap.size + 3, 0, none⟩) hs.length hs.length) hs.length (hflat hs) ∧ Below w.heap.size w w' := by
  have HT : Hid (∀ o1 o2 o3, Calls Tryd.prog 30 #[v] (((w.alloc o1).alloc o2).alloc o3) fun e w' => e = .returned (.slice (some ⟨w.heap.size + 3, 0, none⟩) hs.length hs.length) ∧
      w'.ownsRow (w.heap.size + 3) 59 2 (.slice (some ⟨w.heap.size + 3, 0, none⟩) hs.length hs.length) hs.length (hflat hs) ∧ Below (w.heap.size + 3) (((w.alloc o1).alloc o2).alloc o3) w') := fun o1 o2 o3 => by
    have h := toHolds_any v hs (((w.alloc o1).alloc o2).alloc o3) (hv.later (below3 w o1 o2 o3) (Nat.le_refl _)) hl
    rw [size3] at h
    exact h
  obtain ⟨ao, cap, rfl⟩ := hv.shape
  clear hv
  go_enter Tryd.func9, Tryd.ntmps9
  go_wp2_with fail
  refine (HT.out _ _ _).mono ?_
  rintro e w1 ⟨rfl, hown, hb⟩
  have hc : ∀ b o, b < w.heap.size + 3 → w1.cell? ⟨b, o, none⟩ = _ := fun b o h => hb.cell (p := ⟨b, o, none⟩) h
  have hf : ∀ b o, b < w.heap.size + 3 → w1.frozen? ⟨b, o, none⟩ = _ := fun b o h => hb.frozen (p := ⟨b, o, none⟩) h
  have hz : w.heap.size + 3 ≤ w1.heap.size := by have := hb.size; simp at this; omega
  have HO := hide_it hown
  have HB : Hid (Below w.heap.size w w1) := (below3 w _ _ _).trans (hb.mono (by omega))
  clear hown hb
  go_wp2
  refine bodyPost_ret (v := .agg #[.int .i64 room, .slice (some ⟨w.heap.size + 3, 0, none⟩) hs.length hs.length]) (by simp [results, Tryd.results9, go_sem, hc]) rfl ⟨rfl, ?_, ?_⟩
  · exact ownsRow_setCell_below (ownsRow_setCell_below (ownsRow_setCell_below HO.out (by simp) _) (by simp) _) (by simp) _
  · exact ((HB.out.setCell (by simp; omega) _).setCell (by simp) _).setCell (by simp) _

theorem eqHold_any (m s : Int) (w : World) :
    Calls Tryd.prog 51 #[.agg #[.int .i64 m, .int .i64 s], .agg #[.int .i64 m, .int .i64 s]] w fun e w' => e = .returned (.bool true) ∧ Below w.heap.size w w' := by
  go_enter Tryd.func51, Tryd.ntmps51
  go_wp2
  go_ret
  exact ⟨rfl, below2 w _ _⟩

set_option maxHeartbeats 1000000 in
theorem eqHolds_any (v1 v2 : Value) (hs : List Pl.H) (w : World) (h1 : Holds w v1 hs) (h2 : Holds w v2 hs) (hl : hs.length ≤ 1048576) :
    Calls Tryd.prog 33 #[v1, v2] w fun e w' => e = .returned (.bool true) ∧ Below w.heap.size w w' := by
  rcases h1 with ⟨rfl, ao, cap, rfl, -⟩ | ⟨b, off, cap, rfl, hz, hc⟩
  · obtain ⟨ao2, cap2, rfl⟩ := h2.shape
    clear h2
    go_enter Tryd.func33, Tryd.ntmps33
    go_wp2
    refine wp_loop_rounds 1 ?_
    rw [rounds_succ]
    go_wp2
    go_ret
    exact ⟨rfl, Below.refl _ _⟩
  rcases h2 with ⟨h, _⟩ | ⟨b2, off2, cap2, rfl, _, hc2⟩
  · exact absurd h hz
  have HC : Hid (∀ k, k < hs.length → w.cell? ⟨b, off + k * 2, none⟩ = some (.int .i64 (hs.getD k (0, 0)).1) ∧ w.cell? ⟨b, off + k * 2 + 1, none⟩ = some (.int .i64 (hs.getD k (0, 0)).2)) := hc
  have HC2 : Hid (∀ k, k < hs.length → w.cell? ⟨b2, off2 + k * 2, none⟩ = some (.int .i64 (hs.getD k (0, 0)).1) ∧ w.cell? ⟨b2, off2 + k * 2 + 1, none⟩ = some (.int .i64 (hs.getD k (0, 0)).2)) := hc2
  have hzl : 0 < hs.length := List.length_pos_iff.2 hz
  have hbw : b < w.heap.size := World.block_lt_of_cell? _ _ (hc 0 hzl).1
  have hbw2 : b2 < w.heap.size := World.block_lt_of_cell? _ _ (hc2 0 hzl).1
  clear hc hc2 hz
  go_enter Tryd.func33, Tryd.ntmps33
  go_wp2
  go_loopw [5] (fun i wr => ∃ k : Nat, k ≤ hs.length ∧ i = .int .i64 k ∧ Below w.heap.size w wr) (fun i _ => hs.length - (intOf i).toNat)
  case atStart => exact ⟨0, Nat.zero_le _, rfl, Below.refl _ _⟩
  case round =>
    obtain ⟨k, hk, rfl, hbe⟩ := hrel
    by_cases hlt : k < hs.length
    · obtain ⟨m, s, HZ⟩ : ∃ m s, Hid (hs.getD k (0, 0) = (m, s)) := ⟨_, _, rfl⟩
      have c0 : wr.cell? ⟨b, off + k * 2, none⟩ = some (.int .i64 m) := by rw [hbe.cell (p := ⟨b, off + k * 2, none⟩) hbw, (HC.out k hlt).1, HZ.out]
      have c1 : wr.cell? ⟨b, off + k * 2 + 1, none⟩ = some (.int .i64 s) := by rw [hbe.cell (p := ⟨b, off + k * 2 + 1, none⟩) hbw, (HC.out k hlt).2, HZ.out]
      have d0 : wr.cell? ⟨b2, off2 + k * 2, none⟩ = some (.int .i64 m) := by rw [hbe.cell (p := ⟨b2, off2 + k * 2, none⟩) hbw2, (HC2.out k hlt).1, HZ.out]
      have d1 : wr.cell? ⟨b2, off2 + k * 2 + 1, none⟩ = some (.int .i64 s) := by rw [hbe.cell (p := ⟨b2, off2 + k * 2 + 1, none⟩) hbw2, (HC2.out k hlt).2, HZ.out]
      have hli : (k : Int) < (hs.length : Int) := by omega
      have HB : Hid (Below w.heap.size w wr) := hbe
      clear hbe
      go_wp2
      go_region_with (go_at_call 51; refine (eqHold_any _ _ _).mono ?_; rintro e w2 ⟨rfl, hb2⟩; have HB2 := HB.out.drew.trans (hb2.mono HB.out.size); clear hb2)
      all_goals (try go_wp2)
      all_goals
        go_roundw
        case rel => exact ⟨k + 1, by omega, by go_num, HB2⟩
        case measure => simp [intOf]; omega
    · go_wp2
      go_ret
      exact ⟨rfl, hbe⟩

set_option maxHeartbeats 1000000 in
theorem eqStock_any (room : Int) (v1 v2 : Value) (hs : List Pl.H) (w : World) (h1 : Holds w v1 hs) (h2 : Holds w v2 hs) (hl : hs.length ≤ 1048576) :
    Calls Tryd.prog 12 #[.agg #[.int .i64 room, v1], .agg #[.int .i64 room, v2]] w fun e w' => e = .returned (.bool true) ∧ Below w.heap.size w w' := by
  have H1 : Hid (∀ o1 o2, Holds ((w.alloc o1).alloc o2) v1 hs) := fun o1 o2 => h1.later (below2 w o1 o2) (Nat.le_refl _)
  have H2 : Hid (∀ o1 o2, Holds ((w.alloc o1).alloc o2) v2 hs) := fun o1 o2 => h2.later (below2 w o1 o2) (Nat.le_refl _)
  obtain ⟨a1, p1, rfl⟩ := h1.shape
  obtain ⟨a2, p2, rfl⟩ := h2.shape
  clear h1 h2
  go_enter Tryd.func12, Tryd.ntmps12
  go_wp2_with (go_at_call 33; refine (eqHolds_any _ _ hs _ (H1.out _ _) (H2.out _ _) hl).mono ?_; rintro e w1 ⟨rfl, hb⟩)
  go_ret
  refine ⟨rfl, (below2 w _ _).trans (Below.mono (by assumption) ?_)⟩
  simp; omega

end Go.Proofs.YtpnhcmjdjekleaaDoor
