/- What the last text of this claim stands on, part 2: plain facts and contracts; the last text says what is proved. -/
import Derived.Test.YtgknnigjlnfplaaDoorBase1
import Derived.Deep.RegionLaw
import Derived.Deep.AppendLies
import Derived.Deep.RegionWith

namespace Go.Proofs.YtgknnigjlnfplaaDoor
open Go.RowKit

theorem alloc_below (w : World) (o : Obj) : Below w.heap.size w (w.alloc o) := (Below.refl _ _).alloc (Nat.le_refl _) o
theorem below_after {w : World} {o : Obj} {w' : World} (h : Below (w.alloc o).heap.size (w.alloc o) w') : Below w.heap.size w w' :=
  (alloc_below w o).trans (h.mono (by simp))

set_option maxHeartbeats 2000000 in
theorem entry_any (k t : Int) (v : Value) (zs : List Int) (a : Addr) (w : World) (hv : Ints w v zs) (hl : zs.length ≤ 1048576) (ha : ErrAt w a) :
    Calls Tryd.prog 62 #[.agg #[.int .i64 k, .int .i64 t, v]] w fun e w' => (∃ ent, e = .returned (.tuple #[ent, errV (Pl.recOk k t zs) a])) ∧ Below w.heap.size w w' := by
  have hv1 : Hid (∀ o, Ints (w.alloc o) v zs) := fun o => hv.later (alloc_below w o) (Nat.le_refl _)
  have ha1 : Hid (∀ o, ErrAt (w.alloc o) a) := fun o => ha.later (alloc_below w o) (Nat.le_refl _)
  have hb0 : 0 < w.heap.size := World.block_lt_of_cell? _ _ ha
  unfold ErrAt at ha
  clear hv
  by_cases ht1 : t < 1
  · have HE : Hid (errV (Pl.recOk k t zs) a = .iface 156 (.pointer (some a))) := by
      show _ = _; rw [Pl.recOk_t k t zs (Pl.inB_lo ht1)]; rfl
    go_enter Tryd.func62, Tryd.ntmps62
    go_wp2
    go_quiet (fail)
    go_wp2
    go_ret2
    exact ⟨⟨_, by rw [HE.out]; rfl⟩, below_drewN (alloc_below _ _) _⟩
  by_cases ht6 : 6 < t
  · have HE : Hid (errV (Pl.recOk k t zs) a = .iface 156 (.pointer (some a))) := by
      show _ = _; rw [Pl.recOk_t k t zs (Pl.inB_hi ht6)]; rfl
    go_enter Tryd.func62, Tryd.ntmps62
    go_wp2
    go_quiet (fail)
    go_wp2
    go_ret2
    exact ⟨⟨_, by rw [HE.out]; rfl⟩, below_drewN (alloc_below _ _) _⟩
  have HT : Hid (Pl.inB t 1 6 = true) := Pl.inB_mk (by omega) (by omega)
  by_cases h1 : k = 1
  · subst h1
    have HE : Hid (Pl.recOk 1 t zs = Pl.holdOk zs) := Pl.recOk_1 t zs HT.out
    go_enter Tryd.func62, Tryd.ntmps62
    go_wp2_with (go_at_call 71; refine (hold_any _ _ zs a _ (hv1.out _) (ha1.out _)).mono ?_; rintro e w' ⟨⟨ent, rfl⟩, hb⟩)
    go_ret2
    exact ⟨⟨_, by rw [HE.out]; rfl⟩, below_after (by assumption)⟩
  by_cases h4 : k = 4
  · subst h4
    have HE : Hid (Pl.recOk 4 t zs = Pl.manyOk zs) := Pl.recOk_4 t zs HT.out
    go_enter Tryd.func62, Tryd.ntmps62
    go_wp2_with (go_at_call 72; refine (begin_any _ _ zs a _ (hv1.out _) hl (ha1.out _)).mono ?_; rintro e w' ⟨⟨ent, rfl⟩, hb⟩)
    go_ret2
    exact ⟨⟨_, by rw [HE.out]; rfl⟩, below_after (by assumption)⟩
  cases hk : Pl.inB k 2 7
  · have HE : Hid (errV (Pl.recOk k t zs) a = .iface 156 (.pointer (some a))) := by
      show _ = _; rw [Pl.recOk_none k t zs HT.out h1 h4 hk]; rfl
    have hk' := Pl.inB_false hk
    have h2 : ¬ k = 2 := by omega
    have h3 : ¬ k = 3 := by omega
    have h5 : ¬ k = 5 := by omega
    have h6 : ¬ k = 6 := by omega
    have h7 : ¬ k = 7 := by omega
    clear hk' hk
    go_enter Tryd.func62, Tryd.ntmps62
    go_wp2
    go_quiet (fail)
    go_wp2
    go_ret2
    exact ⟨⟨_, by rw [HE.out]; rfl⟩, below_drewN (alloc_below _ _) _⟩
  · have HE : Hid (Pl.recOk k t zs = (zs.length == 0)) := Pl.recOk_plain k t zs HT.out h1 h4 hk
    have hk' := Pl.inB_true hk
    clear hk
    rcases (show k = 2 ∨ k = 3 ∨ k = 5 ∨ k = 6 ∨ k = 7 by omega) with rfl | rfl | rfl | rfl | rfl
    all_goals
      clear hk' h1 h4
      go_enter Tryd.func62, Tryd.ntmps62
      go_wp2_with (go_at_call 73; refine (plain_any _ _ _ zs a _ (hv1.out _) (ha1.out _)).mono ?_; rintro e w' ⟨⟨ent, rfl⟩, hb⟩)
      go_ret2
      exact ⟨⟨_, by rw [HE.out]; rfl⟩, below_after (by assumption)⟩

theorem entry_yes (k t : Int) (v : Value) (zs : List Int) (a : Addr) (w : World) (hv : Ints w v zs) (hl : zs.length ≤ 1048576) (ha : ErrAt w a) (h : Pl.recOk k t zs = true) :
    Calls Tryd.prog 62 #[.agg #[.int .i64 k, .int .i64 t, v]] w fun e w' => (∃ ent, e = .returned (.tuple #[ent, .nilIface])) ∧ Below w.heap.size w w' := by
  have := entry_any k t v zs a w hv hl ha
  rw [h] at this
  exact this
theorem entry_no (k t : Int) (v : Value) (zs : List Int) (a : Addr) (w : World) (hv : Ints w v zs) (hl : zs.length ≤ 1048576) (ha : ErrAt w a) (h : Pl.recOk k t zs = false) :
    Calls Tryd.prog 62 #[.agg #[.int .i64 k, .int .i64 t, v]] w fun e w' => (∃ ent, e = .returned (.tuple #[ent, .iface 156 (.pointer (some a))])) ∧ Below w.heap.size w w' := by
  have := entry_any k t v zs a w hv hl ha
  rw [h] at this
  exact this

set_option maxHeartbeats 1000000 in
theorem implOk_any (k t : Int) (v : Value) (zs : List Int) (a : Addr) (w : World) (hv : Ints w v zs) (hl : zs.length ≤ 1048576) (ha : ErrAt w a) :
    Calls Tryd.prog 50 #[.agg #[.int .i64 k, .int .i64 t, v]] w fun e w' => e = .returned (.bool (Pl.recOk k t zs)) ∧ Below w.heap.size w w' := by
  have hv1 : Hid (∀ o, Ints (w.alloc o) v zs) := fun o => hv.later (alloc_below w o) (Nat.le_refl _)
  have ha1 : Hid (∀ o, ErrAt (w.alloc o) a) := fun o => ha.later (alloc_below w o) (Nat.le_refl _)
  clear hv ha
  cases hr : Pl.recOk k t zs
  · have HR : Hid (Pl.recOk k t zs = false) := hr
    clear hr
    go_enter Tryd.func50, Tryd.ntmps50
    go_wp2_with (first
      | (go_at_call 62; refine (entry_no k t v zs a _ (hv1.out _) hl (ha1.out _) HR.out).mono ?_; rintro e w1 ⟨⟨ent, rfl⟩, hb⟩; have ha2 := (ha1.out _).later hb (Nat.le_refl _); unfold ErrAt at ha2)
      | (go_at_call 63; refine (is_same a _).mono ?_; rintro e w2 ⟨rfl, rfl⟩))
    go_ret
    exact ⟨rfl, below_after (by assumption)⟩
  · have HR : Hid (Pl.recOk k t zs = true) := hr
    clear hr
    go_enter Tryd.func50, Tryd.ntmps50
    go_wp2_with (first
      | (go_at_call 62; refine (entry_yes k t v zs a _ (hv1.out _) hl (ha1.out _) HR.out).mono ?_; rintro e w1 ⟨⟨ent, rfl⟩, hb⟩; have ha2 := (ha1.out _).later hb (Nat.le_refl _); unfold ErrAt at ha2)
      | (go_at_call 63; refine (is_nil a _).mono ?_; rintro e w2 ⟨rfl, rfl⟩))
    go_ret
    exact ⟨rfl, below_after (by assumption)⟩

end Go.Proofs.YtgknnigjlnfplaaDoor

namespace Go.Proofs.YtgknnigjlnfplaaDoor
open Go.RowKit

set_option maxHeartbeats 2000000 in
theorem specOk_any (k t : Int) (v : Value) (zs : List Int) (w : World) (hv : Ints w v zs) (hl : zs.length ≤ 1048576) :
    Calls Tryd.prog 45 #[.agg #[.int .i64 k, .int .i64 t, v]] w fun e w' => e = .returned (.bool (Pl.recOk k t zs)) ∧ Below w.heap.size w w' := by
  have hv1 : Hid (∀ o, Ints (w.alloc o) v zs) := fun o => hv.later (alloc_below w o) (Nat.le_refl _)
  cases hT : Pl.inB t 1 6
  · have HE : Hid (Pl.recOk k t zs = false) := Pl.recOk_t k t zs hT
    clear hv
    go_enter Tryd.func45, Tryd.ntmps45
    go_wp2_with (go_at_call 48; refine (in_any _ _ _ _).mono ?_; rintro e w1 ⟨rfl, rfl⟩)
    go_ret
    exact ⟨by rw [HE.out]; rfl, alloc_below _ _⟩
  have HT : Hid (Pl.inB t 1 6 = true) := hT
  by_cases h1 : k = 1
  · subst h1
    have HE : Hid (Pl.recOk 1 t zs = Pl.holdOk zs) := Pl.recOk_1 t zs HT.out
    by_cases hz : zs.length = 1
    · obtain ⟨z, rfl⟩ := List.length_eq_one_iff.1 hz
      rcases hv with ⟨h, _⟩ | ⟨b, off, cap, rfl, hz, hc⟩
      · simp at h
      have hc0 : w.cell? ⟨b, off, none⟩ = some (.int .i64 z) := hc 0 (by simp)
      have hbw : b < w.heap.size := World.block_lt_of_cell? _ _ hc0
      have HH : Hid (Pl.holdOk [z] = Pl.inB z 1 3) := by show _ = _; simp [Pl.holdOk]
      clear hc hz hl
      go_enter Tryd.func45, Tryd.ntmps45
      go_wp2_with (go_at_call 48; refine (in_any _ _ _ _).mono ?_; rintro e w1 ⟨rfl, rfl⟩)
      go_ret
      exact ⟨by rw [HE.out, HH.out]; rfl, alloc_below _ _⟩
    · have HH : Hid (Pl.holdOk zs = false) := by show _ = _; simp [Pl.holdOk, hz]
      have hne : ¬ (zs.length : Int) = 1 := by omega
      obtain ⟨ao, cap, rfl⟩ := hv.shape
      clear hv hz
      go_enter Tryd.func45, Tryd.ntmps45
      go_wp2_with (go_at_call 48; refine (in_any _ _ _ _).mono ?_; rintro e w1 ⟨rfl, rfl⟩)
      go_ret
      exact ⟨by rw [HE.out, HH.out]; rfl, alloc_below _ _⟩
  by_cases h4 : k = 4
  · subst h4
    have HE : Hid (Pl.recOk 4 t zs = Pl.manyOk zs) := Pl.recOk_4 t zs HT.out
    clear hv
    go_enter Tryd.func45, Tryd.ntmps45
    go_wp2_with (first
      | (go_at_call 48; refine (in_any _ _ _ _).mono ?_; rintro e w1 ⟨rfl, rfl⟩)
      | (go_at_call 60; refine (many_any _ zs _ (hv1.out _) hl).mono ?_; rintro e w1 ⟨rfl, rfl⟩))
    go_ret
    exact ⟨by rw [HE.out]; rfl, alloc_below _ _⟩
  have HE : Hid (Pl.recOk k t zs = (Pl.inB k 2 7 && (zs.length == 0))) := Pl.recOk_p k t zs HT.out h1 h4
  obtain ⟨ao, cap, rfl⟩ := hv.shape
  clear hv
  cases hk : Pl.inB k 2 7
  · rw [hk] at HE
    go_enter Tryd.func45, Tryd.ntmps45
    go_wp2_with (go_at_call 48; refine (in_any _ _ _ _).mono ?_; rintro e w1 ⟨rfl, rfl⟩)
    go_ret
    exact ⟨by rw [HE.out]; rfl, alloc_below _ _⟩
  · rw [hk] at HE
    have HZ : Hid ((zs.length == 0) = ((zs.length : Int) == 0)) := by
      show _ = _
      rw [Bool.eq_iff_iff]; simp
    go_enter Tryd.func45, Tryd.ntmps45
    go_wp2_with (go_at_call 48; refine (in_any _ _ _ _).mono ?_; rintro e w1 ⟨rfl, rfl⟩)
    go_ret
    exact ⟨by rw [HE.out, HZ.out]; rfl, alloc_below _ _⟩

end Go.Proofs.YtgknnigjlnfplaaDoor

namespace Go.Proofs.YtgknnigjlnfplaaDoor
open Go.RowKit

def rOk (r : R) : Bool := Pl.recOk r.1 r.2.1 r.2.2
def logOk (rs : List R) (f : Int) : Bool := rs.all rOk && (decide (rs.length ≤ 40) && Pl.inB f 0 rs.length)

theorem all_snocR (rs : List R) (k : Nat) (r : R) (h : rs[k]? = some r) : (rs.take (k + 1)).all rOk = ((rs.take k).all rOk && rOk r) := by
  have hk : k < rs.length := by
    by_cases hk : k < rs.length
    · exact hk
    · rw [List.getElem?_eq_none (by omega)] at h; cases h
  rw [List.getElem?_eq_getElem hk] at h
  simp only [Option.some.injEq] at h
  rw [List.take_succ_eq_append_getElem hk, h]
  simp
theorem all_badR (rs : List R) (k : Nat) (r : R) (h : rs[k]? = some r) (hb : rOk r = false) : rs.all rOk = false := by
  rw [List.all_eq_false]
  exact ⟨r, List.mem_of_getElem? h, by rw [hb]; decide⟩

theorem box2 (w : World) (x y : Value) (ty : TypeId) : (w.alloc (.cells #[x, y] ty)).cell? ⟨w.heap.size, 0, none⟩ = some x ∧ (w.alloc (.cells #[x, y] ty)).cell? ⟨w.heap.size, 1, none⟩ = some y := by
  constructor <;> simp

/-- Two cells of one block, as they stay while nothing below turns. -/
def Two (w : World) (b : Nat) (x y : Value) : Prop := w.cell? ⟨b, 0, none⟩ = some x ∧ w.cell? ⟨b, 1, none⟩ = some y
theorem Two.later {B : Nat} {w w' : World} {b : Nat} {x y : Value} (h : Two w b x y) (hb : Below B w w') (hB : w.heap.size ≤ B) : Two w' b x y := by
  obtain ⟨h0, h1⟩ := h
  have hlt := World.block_lt_of_cell? _ _ h0
  simp at hlt
  exact ⟨by rw [← h0]; exact hb.cell (p := ⟨b, 0, none⟩) (by simp; omega), by rw [← h1]; exact hb.cell (p := ⟨b, 1, none⟩) (by simp; omega)⟩

set_option maxHeartbeats 1000000 in
theorem specLogOk_any (v : Value) (rs : List R) (f : Int) (w : World) (hv : Recs w v rs) (hl : tot rs ≤ 1048576) :
    Calls Tryd.prog 27 #[.agg #[v, .int .i64 f]] w fun e w' => e = .returned (.bool (logOk rs f)) ∧ Below w.heap.size w w' := by
  have hlen := tot_len rs
  have HM : Hid (∀ r ∈ rs, r.2.2.length ≤ 1048576) := fun r hr => Nat.le_trans (tot_mem rs r hr) hl
  have H0 : Hid (Two (w.alloc (.cells #[v, .int .i64 f] 33)) w.heap.size v (.int .i64 f)) := box2 w _ _ _
  rcases hv with ⟨rfl, ao, cap, rfl⟩ | ⟨b, off, cap, rfl, hz, hc⟩
  · have HE : Hid (logOk [] f = Pl.inB f 0 0) := by show _ = _; simp [logOk]
    go_enter Tryd.func27, Tryd.ntmps27
    go_wp2
    refine wp_loop_rounds 1 ?_
    rw [rounds_succ]
    go_wp2_with (go_at_call 48; refine (in_any _ _ _ _).mono ?_; rintro e w' ⟨rfl, rfl⟩)
    go_ret
    exact ⟨by rw [HE.out]; rfl, alloc_below _ _⟩
  have HC : Hid (∀ W, Below w.heap.size w W → ∀ i r, rs[i]? = some r → ∃ u, RecCells W b (off + i * 3) r u) := fun W h i r hr => by
    obtain ⟨u, hu⟩ := hc i r hr
    exact ⟨u, hu.later h (Nat.le_refl _)⟩
  have hzl : 0 < rs.length := List.length_pos_iff.2 hz
  clear hc hz
  go_enter Tryd.func27, Tryd.ntmps27
  go_wp2
  go_loopw [3] (fun i wr => ∃ k : Nat, k ≤ rs.length ∧ i = .int .i64 k ∧ Hid ((rs.take k).all rOk = true) ∧ Hid (Two wr w.heap.size (.slice (some ⟨b, off, none⟩) rs.length cap) (.int .i64 f)) ∧ Below w.heap.size w wr) (fun i _ => rs.length - (intOf i).toNat)
  case atStart => exact ⟨0, Nat.zero_le _, rfl, rfl, H0, alloc_below _ _⟩
  case round =>
    obtain ⟨k, hk, rfl, HA, HT, hbe⟩ := hrel
    obtain ⟨t0, t1⟩ := HT.out
    by_cases hlt : k < rs.length
    · obtain ⟨r, hr⟩ : ∃ r, Hid (rs[k]? = some r) := ⟨rs[k], by show _ = _; simp [hlt]⟩
      have hrl : r.2.2.length ≤ 1048576 := HM.out r (List.mem_of_getElem? hr.out)
      obtain ⟨u, c0, c1, c2, hI⟩ := HC.out wr hbe k r hr.out
      have HI : Hid (Ints wr u r.2.2) := hI
      have HB : Hid (Below w.heap.size w wr) := hbe
      clear hI hbe
      cases hok : rOk r
      · have HE : Hid (logOk rs f = false) := by show _ = _; unfold logOk; rw [all_badR rs k r hr.out hok]; rfl
        have hsp := specOk_any r.1 r.2.1 u r.2.2 wr HI.out hrl
        have hok' : Pl.recOk r.1 r.2.1 r.2.2 = false := hok
        rw [hok'] at hsp
        have HS := hsp
        clear hsp hok hok'
        go_wp2_with fail
        refine HS.mono ?_
        rintro e w2 ⟨rfl, hb2⟩
        go_wp2
        go_ret
        exact ⟨by rw [HE.out]; rfl, HB.out.trans (hb2.mono HB.out.size)⟩
      · have HA2 : Hid ((rs.take (k + 1)).all rOk = true) := by show _ = _; rw [all_snocR rs k r hr.out, HA.out, hok]; rfl
        have hsp := specOk_any r.1 r.2.1 u r.2.2 wr HI.out hrl
        have hok' : Pl.recOk r.1 r.2.1 r.2.2 = true := hok
        rw [hok'] at hsp
        have HS := hsp
        clear hsp hok hok'
        go_wp2_with fail
        refine HS.mono ?_
        rintro e w2 ⟨rfl, hb2⟩
        have HT2 := HT.out.later hb2 (Nat.le_refl _)
        have HB2 : Hid (Below w.heap.size w w2) := HB.out.trans (hb2.mono HB.out.size)
        have HT3 : Hid (Two w2 w.heap.size (.slice (some ⟨b, off, none⟩) rs.length cap) (.int .i64 f)) := HT2
        clear hb2 HT2
        go_wp2
        go_roundw
        case rel => exact ⟨k + 1, by omega, by go_num, HA2, HT3, HB2.out⟩
        case measure => simp [intOf]; omega
    · have HE : Hid (logOk rs f = (decide (rs.length ≤ 40) && Pl.inB f 0 rs.length)) := by
        show _ = _
        have hke : k = rs.length := by omega
        have := HA.out
        rw [hke, List.take_length] at this
        unfold logOk; rw [this]; rfl
      by_cases h40 : (rs.length : Int) ≤ 40
      · have HE2 : Hid (decide (rs.length ≤ 40) = true) := by show _ = _; simp; omega
        go_wp2_with (go_at_call 48; refine (in_any _ _ _ _).mono ?_; rintro e w' ⟨rfl, rfl⟩)
        go_ret
        exact ⟨by rw [HE.out, HE2.out]; rfl, hbe⟩
      · have HE2 : Hid (decide (rs.length ≤ 40) = false) := by show _ = _; simp; omega
        go_wp2_with (go_at_call 48; refine (in_any _ _ _ _).mono ?_; rintro e w' ⟨rfl, rfl⟩)
        go_ret
        exact ⟨by rw [HE.out, HE2.out]; rfl, hbe⟩

end Go.Proofs.YtgknnigjlnfplaaDoor

namespace Go.Proofs.YtgknnigjlnfplaaDoor
open Go.RowKit

theorem logOk_long {rs : List R} {f : Int} (h : 40 < (rs.length : Int)) : logOk rs f = false := by
  have : decide (rs.length ≤ 40) = false := by simp; omega
  unfold logOk; rw [this]; simp
theorem logOk_in {rs : List R} {f : Int} (h : Pl.inB f 0 rs.length = false) : logOk rs f = false := by
  unfold logOk; rw [h]; simp
theorem logOk_all {rs : List R} {f : Int} (h1 : (rs.length : Int) ≤ 40) (h2 : 0 ≤ f) (h3 : f ≤ rs.length) : logOk rs f = rs.all rOk := by
  have : decide (rs.length ≤ 40) = true := by simp; omega
  unfold logOk; rw [this, Pl.inB_mk h2 h3]; simp

set_option maxHeartbeats 2000000 in
theorem implLogOk_any (v : Value) (rs : List R) (f : Int) (a : Addr) (w : World) (hv : Recs w v rs) (hl : tot rs ≤ 1048576) (ha : ErrAt w a) :
    Calls Tryd.prog 33 #[.agg #[v, .int .i64 f]] w fun e w' => e = .returned (.bool (logOk rs f)) ∧ Below w.heap.size w w' := by
  have hlen := tot_len rs
  have HM : Hid (∀ r ∈ rs, r.2.2.length ≤ 1048576) := fun r hr => Nat.le_trans (tot_mem rs r hr) hl
  have HAe : Hid (∀ W, Below w.heap.size w W → ErrAt W a) := fun W h => ha.later h (Nat.le_refl _)
  clear ha
  by_cases h40 : 40 < (rs.length : Int)
  · have HE : Hid (logOk rs f = false) := logOk_long h40
    obtain ⟨ao, cap, rfl⟩ := hv.shape
    clear hv
    go_enter Tryd.func33, Tryd.ntmps33
    go_wp2
    go_ret
    exact ⟨by rw [HE.out]; rfl, alloc_below _ _⟩
  by_cases hf0 : f < 0
  · have HE : Hid (logOk rs f = false) := logOk_in (Pl.inB_lo hf0)
    obtain ⟨ao, cap, rfl⟩ := hv.shape
    clear hv
    go_enter Tryd.func33, Tryd.ntmps33
    go_wp2
    go_ret
    exact ⟨by rw [HE.out]; rfl, alloc_below _ _⟩
  by_cases hfn : (rs.length : Int) < f
  · have HE : Hid (logOk rs f = false) := logOk_in (Pl.inB_hi hfn)
    obtain ⟨ao, cap, rfl⟩ := hv.shape
    clear hv
    go_enter Tryd.func33, Tryd.ntmps33
    go_wp2
    go_ret
    exact ⟨by rw [HE.out]; rfl, alloc_below _ _⟩
  have HG : Hid (logOk rs f = rs.all rOk) := logOk_all (by omega) (by omega) (by omega)
  rcases hv with ⟨rfl, ao, cap, rfl⟩ | ⟨b, off, cap, rfl, hz, hc⟩
  · go_enter Tryd.func33, Tryd.ntmps33
    go_wp2
    refine wp_loop_rounds 1 ?_
    rw [rounds_succ]
    go_wp2
    go_ret
    exact ⟨by rw [HG.out]; rfl, alloc_below _ _⟩
  have HC : Hid (∀ W, Below w.heap.size w W → ∀ i r, rs[i]? = some r → ∃ u, RecCells W b (off + i * 3) r u) := fun W h i r hr => by
    obtain ⟨u, hu⟩ := hc i r hr
    exact ⟨u, hu.later h (Nat.le_refl _)⟩
  have hzl : 0 < rs.length := List.length_pos_iff.2 hz
  clear hc hz
  go_enter Tryd.func33, Tryd.ntmps33
  go_wp2
  go_loopw [25] (fun i wr => ∃ k : Nat, k ≤ rs.length ∧ i = .int .i64 k ∧ Hid ((rs.take k).all rOk = true) ∧ Below w.heap.size w wr) (fun i _ => rs.length - (intOf i).toNat)
  case atStart => exact ⟨0, Nat.zero_le _, rfl, rfl, alloc_below _ _⟩
  case round =>
    obtain ⟨k, hk, rfl, HA, hbe⟩ := hrel
    by_cases hlt : k < rs.length
    · obtain ⟨r, hr⟩ : ∃ r, Hid (rs[k]? = some r) := ⟨rs[k], by show _ = _; simp [hlt]⟩
      have hrl : r.2.2.length ≤ 1048576 := HM.out r (List.mem_of_getElem? hr.out)
      obtain ⟨u, c0, c1, c2, hI⟩ := HC.out wr hbe k r hr.out
      have hbw : b < wr.heap.size := World.block_lt_of_cell? _ _ c0
      have HI : Hid (∀ o, Ints (wr.alloc o) u r.2.2) := fun o => hI.later (alloc_below _ _) (Nat.le_refl _)
      have HB : Hid (∀ o, Below w.heap.size w (wr.alloc o)) := fun o => hbe.alloc hbe.size o
      have HAr : Hid (∀ o, ErrAt (wr.alloc o) a) := fun o => HAe.out _ (HB.out o)
      obtain ⟨ao, cp, rfl⟩ := hI.shape
      clear hI hbe
      cases hok : rOk r
      · have HE : Hid (rs.all rOk = false) := all_badR rs k r hr.out hok
        have HS : Hid (∀ o, Calls Tryd.prog 50 #[.agg #[.int .i64 r.1, .int .i64 r.2.1, .slice ao r.2.2.length cp]] (wr.alloc o) fun e w' => e = .returned (.bool false) ∧ Below (wr.alloc o).heap.size (wr.alloc o) w') := fun o => by
          have := implOk_any r.1 r.2.1 _ r.2.2 a (wr.alloc o) (HI.out o) hrl (HAr.out o)
          have hok' : Pl.recOk r.1 r.2.1 r.2.2 = false := hok
          rw [hok'] at this
          exact this
        clear hok
        go_wp2_with fail
        refine (HS.out _).mono ?_
        rintro e w2 ⟨rfl, hb2⟩
        have HB2 : Hid (Below w.heap.size w w2) := (HB.out _).trans (hb2.mono (HB.out _).size)
        clear hb2
        go_wp2
        go_ret
        exact ⟨by rw [HG.out, HE.out]; rfl, HB2.out⟩
      · have HA2 : Hid ((rs.take (k + 1)).all rOk = true) := by show _ = _; rw [all_snocR rs k r hr.out, HA.out, hok]; rfl
        have HS : Hid (∀ o, Calls Tryd.prog 50 #[.agg #[.int .i64 r.1, .int .i64 r.2.1, .slice ao r.2.2.length cp]] (wr.alloc o) fun e w' => e = .returned (.bool true) ∧ Below (wr.alloc o).heap.size (wr.alloc o) w') := fun o => by
          have := implOk_any r.1 r.2.1 _ r.2.2 a (wr.alloc o) (HI.out o) hrl (HAr.out o)
          have hok' : Pl.recOk r.1 r.2.1 r.2.2 = true := hok
          rw [hok'] at this
          exact this
        clear hok
        go_wp2_with fail
        refine (HS.out _).mono ?_
        rintro e w2 ⟨rfl, hb2⟩
        have HB2 : Hid (Below w.heap.size w w2) := (HB.out _).trans (hb2.mono (HB.out _).size)
        clear hb2
        go_wp2
        go_roundw
        case rel => exact ⟨k + 1, by omega, by go_num, HA2, HB2.out⟩
        case measure => simp [intOf]; omega
    · have HE : Hid (rs.all rOk = true) := by
        show _ = _
        have hke : k = rs.length := by omega
        have := HA.out
        rw [hke, List.take_length] at this
        exact this
      go_wp2
      go_ret
      exact ⟨by rw [HG.out, HE.out]; rfl, hbe⟩

end Go.Proofs.YtgknnigjlnfplaaDoor

namespace Go.Proofs.YtgknnigjlnfplaaDoor
open Go.RowKit

theorem size1 (w : World) (o : Obj) : (w.alloc o).heap.size = w.heap.size + 1 := by simp

/-- A result's block as it was laid: its two cells are there, and may be written. -/
def Zero2 (w : World) (b : Nat) : Prop := w.cell? ⟨b, 0, none⟩ = some (.slice none 0 0) ∧ w.cell? ⟨b, 1, none⟩ = some (.int .i64 0) ∧ w.frozen? ⟨b, 0, none⟩ = false ∧ w.frozen? ⟨b, 1, none⟩ = false
theorem Zero2.later {B : Nat} {w w' : World} {b : Nat} (h : Zero2 w b) (hb : Below B w w') (hB : b < B) : Zero2 w' b := by
  obtain ⟨h0, h1, h2, h3⟩ := h
  exact ⟨by rw [← h0]; exact hb.cell (p := ⟨b, 0, none⟩) hB, by rw [← h1]; exact hb.cell (p := ⟨b, 1, none⟩) hB, by rw [← h2]; exact hb.frozen (p := ⟨b, 0, none⟩) hB, by rw [← h3]; exact hb.frozen (p := ⟨b, 1, none⟩) hB⟩
theorem Zero2.new (w : World) (ty : TypeId) : Zero2 (w.alloc (.cells #[.slice none 0 0, .int .i64 0] ty)) w.heap.size := by
  refine ⟨?_, ?_, ?_, ?_⟩ <;> simp

theorem Zero2.new2 (w : World) (o : Obj) (ty : TypeId) : Zero2 ((w.alloc o).alloc (.cells #[.slice none 0 0, .int .i64 0] ty)) (w.heap.size + 1) := by
  have h := Zero2.new (w.alloc o) ty
  rw [size1] at h
  exact h

/-- A log comes back, in memory of the call's own. -/
def LogOut (w w' : World) (e : Ending) (rs : List R) (f : Int) : Prop :=
  ∃ ao cap, e = .returned (.agg #[.slice ao rs.length cap, .int .i64 f]) ∧ Made w' w.heap.size (.slice ao rs.length cap) rs ∧ Below w.heap.size w w'

theorem Made.lo {w : World} {lo lo' : Nat} {v : Value} {rs : List R} (h : Made w lo v rs) (hl : lo' ≤ lo) : Made w lo' v rs := by
  obtain ⟨ps, hp, h1, h2, h3⟩ := h
  exact ⟨ps, hp, ownsRow_base h1 hl, h2, h3.1, fun p hp => ⟨ownsRow_base (h3.2.1 p hp).1 hl, (h3.2.1 p hp).2⟩, h3.2.2⟩

theorem Made.none (w : World) (lo : Nat) : Made w lo (.slice none 0 0) [] :=
  ⟨[], rfl, World.ownsRow_nil _ _ _ _, fun k hk => by simp [Value.ownBlock] at hk, Inner.nil _ _ _ (Nat.le_refl _)⟩

/-- What a log is when all is forced. -/
def forceR (rs : List R) (f : Int) : List R := if logOk rs f then rs else []
def forceF (rs : List R) (f : Int) : Int := if logOk rs f then rs.length else 0

end Go.Proofs.YtgknnigjlnfplaaDoor

namespace Go.Proofs.YtgknnigjlnfplaaDoor
open Go.RowKit

theorem bcellB {B : Nat} {W w1 : World} (hb : Below B W w1) : (∀ b o, b < B → w1.cell? ⟨b, o, none⟩ = W.cell? ⟨b, o, none⟩) ∧ (∀ b o, b < B → w1.frozen? ⟨b, o, none⟩ = W.frozen? ⟨b, o, none⟩) :=
  ⟨fun b o h => hb.cell (p := ⟨b, o, none⟩) h, fun b o h => hb.frozen (p := ⟨b, o, none⟩) h⟩

theorem wpList_append_ints {ops : Array Oper} {rest : List Oper} {o : Oper} {a : Act} {w : World} {Q : Exit → Act → World → Prop} (hgd : o.guard = none) (s x : Operand)
    (ho : o.op = .call { callee := .builtin .append, args := #[s, x], argTypes := #[71, 71] })
    (base : Nat) (v xv : Value) (n : Nat) (xs : List Value) (zs : List Int) (hs : a.eval s = v) (hx : a.eval x = xv) (hown : w.ownsRow base 3 1 v n xs) (hI : Ints w xv zs) (hb : n + zs.length ≤ 16777216) (hbase : base ≤ w.heap.size)
    (h : ∀ ao cap w', w'.ownsRow base 3 1 (.slice ao (n + zs.length) cap) (n + zs.length) (xs ++ zs.map (Value.int .i64)) → w.grownBy w' v.ownBlock → wpList Tryd.prog ops Q rest (a.put o.dst (.slice ao (n + zs.length) cap)) w') :
    wpList Tryd.prog ops Q (o :: rest) a w := by
  refine wpList_plain hgd fun K hK' => ?_
  obtain ⟨v', w', hrun, r1, r2⟩ := run_append_ints w base o.type v xv n xs zs hown hI hb hbase
  obtain ⟨ao, cap, rfl⟩ := row_shape r1
  unfold Oper.wp
  simp [execOp, ho, resolve, invoke, builtin, hs, hx, hrun, Result.andThen]
  exact hK' _ _ (h ao cap w' r1 r2)

end Go.Proofs.YtgknnigjlnfplaaDoor

namespace Go.Proofs.YtgknnigjlnfplaaDoor
open Go.RowKit

/-- The blocks that the copy reads and writes: the log that came in, the result's, and the one that is made. -/
def Boxes (w : World) (B : Nat) (v vo : Value) (f : Int) : Prop :=
  w.heap[B]? = some (.cells #[v, .int .i64 f] 33 (0, 0)) ∧ w.heap[B + 1]? = some (.cells #[.slice none 0 0, .int .i64 0] 33 (0, 0)) ∧ w.heap[B + 3]? = some (.cells #[vo, .int .i64 f] 33 (0, 0))

theorem lt_of_heap {w : World} {k : Nat} {o : Obj} (h : w.heap[k]? = some o) : k < w.heap.size := by
  by_cases e : k < w.heap.size
  · exact e
  · rw [Array.getElem?_eq_none (by omega)] at h; cases h

theorem Boxes.size {w : World} {B : Nat} {v vo : Value} {f : Int} (h : Boxes w B v vo f) : B + 3 < w.heap.size := lt_of_heap h.2.2

theorem Boxes.later {w w' : World} {B : Nat} {v vo : Value} {f : Int} (h : Boxes w B v vo f) (hb : Below w.heap.size w w') : Boxes w' B v vo f := by
  have hs := h.size
  obtain ⟨h0, h1, h2⟩ := h
  exact ⟨by rw [hb.block B (by omega)]; exact h0, by rw [hb.block (B + 1) (by omega)]; exact h1, by rw [hb.block (B + 3) hs]; exact h2⟩

theorem Boxes.grown {w w' : World} {B : Nat} {v vo : Value} {f : Int} {row : Option Nat} (h : Boxes w B v vo f) (hg : w.grownBy w' row) (hr : ∀ k, row = some k → B + 2 ≤ k ∧ k ≠ B + 3) : Boxes w' B v vo f := by
  have hs := h.size
  obtain ⟨h0, h1, h2⟩ := h
  refine ⟨?_, ?_, ?_⟩
  · rw [hg.block B (by omega) (fun e => by have := hr _ e.symm; omega)]; exact h0
  · rw [hg.block (B + 1) (by omega) (fun e => by have := hr _ e.symm; omega)]; exact h1
  · rw [hg.block (B + 3) hs (fun e => by have := hr _ e.symm; omega)]; exact h2

theorem Boxes.set {w : World} {B : Nat} {v vo : Value} {f : Int} (h : Boxes w B v vo f) (x : Value) : Boxes (w.setCell ⟨B + 3, 0, none⟩ x) B v x f := by
  obtain ⟨h0, h1, h2⟩ := h
  refine ⟨?_, ?_, ?_⟩
  · rw [Below.heap_setCell _ _ _ _ (by simp)]; exact h0
  · rw [Below.heap_setCell _ _ _ _ (by simp)]; exact h1
  · rw [heap_setCell_same w (B + 3) 0 _ _ x h2]; simp

theorem Boxes.cells {w : World} {B : Nat} {v vo : Value} {f : Int} (h : Boxes w B v vo f) :
    w.cell? ⟨B, 0, none⟩ = some v ∧ w.cell? ⟨B, 1, none⟩ = some (.int .i64 f) ∧ w.cell? ⟨B + 3, 0, none⟩ = some vo ∧ w.cell? ⟨B + 3, 1, none⟩ = some (.int .i64 f) ∧ w.frozen? ⟨B + 3, 0, none⟩ = false ∧
    w.cell? ⟨B + 1, 0, none⟩ = some (.slice none 0 0) ∧ w.cell? ⟨B + 1, 1, none⟩ = some (.int .i64 0) ∧ w.frozen? ⟨B + 1, 0, none⟩ = false ∧ w.frozen? ⟨B + 1, 1, none⟩ = false := by
  obtain ⟨h0, h1, h2⟩ := h
  refine ⟨?_, ?_, ?_, ?_, frozen_of_row w _ _ _ _ h2, ?_, ?_, frozen_of_row w _ _ _ _ h1, frozen_of_row w _ _ _ _ h1⟩
  · rw [cell_of_row w _ _ _ _ _ h0]; rfl
  · rw [cell_of_row w _ _ _ _ _ h0]; rfl
  · rw [cell_of_row w _ _ _ _ _ h2]; rfl
  · rw [cell_of_row w _ _ _ _ _ h2]; rfl
  · rw [cell_of_row w _ _ _ _ _ h1]; rfl
  · rw [cell_of_row w _ _ _ _ _ h1]; rfl

theorem ownsRow_setCell_ne {w : World} {base : Nat} {e : TypeId} {size : Nat} {v : Value} {n : Nat} {xs : List Value} (h : w.ownsRow base e size v n xs) {a : Addr} (ha : ∀ g, v.ownBlock = some g → g ≠ a.block) (u : Value) : (w.setCell a u).ownsRow base e size v n xs := by
  obtain ⟨h1, h2⟩ := h
  refine ⟨h1, ?_⟩
  rcases h2 with h2 | ⟨g, cap, cur, hv, hg, hh, r⟩
  · exact Or.inl h2
  · exact Or.inr ⟨g, cap, cur, hv, hg, by rw [Below.heap_setCell _ _ _ _ (ha g (by rw [hv]; rfl))]; exact hh, r⟩

/-- A row of records is not the log's own block. -/
theorem Boxes.apart {w : World} {B base : Nat} {v vo : Value} {f : Int} {x : Value} {n : Nat} {xs : List Value} {ty : TypeId} {sz : Nat} (h : Boxes w B v vo f) (hr : w.ownsRow base ty sz x n xs) (ht : ty ≠ 33) : ∀ g, x.ownBlock = some g → g ≠ B + 3 := by
  intro g hg e
  subst e
  rcases hr.2 with ⟨hv, _⟩ | ⟨g', cap, cur', hv, _, hh, _⟩
  · rw [hv] at hg; simp [Value.ownBlock] at hg
  · rw [hv] at hg
    simp [Value.ownBlock] at hg
    subst hg
    rw [h.2.2] at hh
    simp at hh
    exact ht hh.2.symm

/-- What one round of the copy does. -/
theorem l1Copy_step {w wr w2 w4 : World} {B : Nat} {v vo : Value} {f : Int} {ps : List (R × Value)} {r : R} {ao2 : Option Addr} {cap2 g cap4 : Nat} {o : Obj} (hB : B = w.heap.size)
    (hrow : wr.ownsRow (B + 2) 94 3 vo ps.length (flat ps)) (hin : Inner wr (B + 2) wr.heap.size ps) (hbox : Boxes wr B v vo f) (hbe : Below w.heap.size w wr)
    (hb2 : Below wr.heap.size wr w2) (hown2 : w2.ownsRow (wr.heap.size + 2) 3 1 (.slice ao2 r.2.2.length cap2) r.2.2.length (r.2.2.map (Value.int .i64)))
    (hown4 : w4.ownsRow (B + 2) 94 3 (.slice (some ⟨g, 0, none⟩) (ps.length + 1) cap4) (ps.length + 1) (flat ps ++ [.int .i64 r.1, .int .i64 r.2.1, .slice ao2 r.2.2.length cap2]))
    (hg4 : (w2.alloc o).grownBy w4 vo.ownBlock) :
    Hid ((w4.setCell ⟨B + 3, 0, none⟩ (.slice (some ⟨g, 0, none⟩) (ps.length + 1) cap4)).ownsRow (B + 2) 94 3 (.slice (some ⟨g, 0, none⟩) (ps.length + 1) cap4) (ps ++ [(r, Value.slice ao2 r.2.2.length cap2)]).length (flat (ps ++ [(r, Value.slice ao2 r.2.2.length cap2)])) ∧
    Inner (w4.setCell ⟨B + 3, 0, none⟩ (.slice (some ⟨g, 0, none⟩) (ps.length + 1) cap4)) (B + 2) (w4.setCell ⟨B + 3, 0, none⟩ (.slice (some ⟨g, 0, none⟩) (ps.length + 1) cap4)).heap.size (ps ++ [(r, Value.slice ao2 r.2.2.length cap2)]) ∧
    Boxes (w4.setCell ⟨B + 3, 0, none⟩ (.slice (some ⟨g, 0, none⟩) (ps.length + 1) cap4)) B v (.slice (some ⟨g, 0, none⟩) (ps.length + 1) cap4) f ∧
    Below w.heap.size w (w4.setCell ⟨B + 3, 0, none⟩ (.slice (some ⟨g, 0, none⟩) (ps.length + 1) cap4))) ∧ Boxes w4 B v vo f := by
  have hsz := hbox.size
  have al := (Below.refl w2.heap.size w2).alloc (Nat.le_refl _) o
  have hs2 : (w2.alloc o).heap.size = w2.heap.size + 1 := by simp
  have hws := hb2.size
  have row3 : (w2.alloc o).ownsRow (B + 2) 94 3 vo ps.length (flat ps) := (ownsRow_below hrow hb2 (fun j hj => (hrow.lt j hj).2)).alloc o
  have in3 : Inner (w2.alloc o) (B + 2) wr.heap.size ps := (hin.below hb2 (Nat.le_refl _)).below al (by omega)
  have new3 := (ownsRow_base hown2 (show B + 2 ≤ wr.heap.size + 2 by omega)).alloc o
  have box3 : Boxes (w2.alloc o) B v vo f := (hbox.later hb2).later al
  have ap3 := box3.apart row3 (by decide)
  have box4 : Boxes w4 B v vo f := box3.grown hg4 (fun k hk => ⟨(row3.lt k hk).1, ap3 k hk⟩)
  have st := append_step (r := r) row3 in3 (by omega) new3 (fun k hk => by have := hown2.lt k hk; omega) hown4 hg4
  have ap4 := box4.apart hown4 (by decide)
  have be4 : Below w.heap.size w w4 := ((hbe.trans (hb2.mono hbe.size)).trans (al.mono (by have := hbe.size; omega))).grown hg4 (by have := hbe.size; omega) (fun k hk => by have := (row3.lt k hk).1; omega)
  refine ⟨⟨ownsRow_setCell_ne st.1 ap4 _, ?_, box4.set _, be4.setCell (by show w.heap.size ≤ B + 3; omega) _⟩, box4⟩
  obtain ⟨i1, i2, i3⟩ := st.2
  have hse : (w4.setCell ⟨B + 3, 0, none⟩ (.slice (some ⟨g, 0, none⟩) (ps.length + 1) cap4)).heap.size = w4.heap.size := by simp
  rw [hse]
  exact ⟨by rw [hse]; exact i1, fun p hp => ⟨ownsRow_setCell_ne (i2 p hp).1 (box4.apart (i2 p hp).1 (by decide)) _, (i2 p hp).2⟩, i3⟩

theorem boxes_new (w : World) (v : Value) (f : Int) (o : Obj) (vo : Value) : Boxes ((((w.alloc (.cells #[v, .int .i64 f] 33)).alloc (.cells #[.slice none 0 0, .int .i64 0] 33)).alloc o).alloc (.cells #[vo, .int .i64 f] 33)) w.heap.size v vo f := by
  refine ⟨?_, ?_, ?_⟩
  · rw [Below.heap_alloc _ _ _ (by simp; omega), Below.heap_alloc _ _ _ (by simp; omega), Below.heap_alloc _ _ _ (by simp)]; exact heap_alloc_new w _
  · rw [Below.heap_alloc _ _ _ (by simp), Below.heap_alloc _ _ _ (by simp)]
    have := heap_alloc_new (w.alloc (.cells #[v, .int .i64 f] 33)) (.cells #[.slice none 0 0, .int .i64 0] 33)
    rw [size1] at this
    exact this
  · have := heap_alloc_new (((w.alloc (.cells #[v, .int .i64 f] 33)).alloc (.cells #[.slice none 0 0, .int .i64 0] 33)).alloc o) (.cells #[vo, .int .i64 f] 33)
    rw [size3] at this
    exact this
theorem below4 (w : World) (o1 o2 o3 o4 : Obj) : Below w.heap.size w ((((w.alloc o1).alloc o2).alloc o3).alloc o4) := (below3 w o1 o2 o3).alloc (by simp; omega) _

theorem cellAlloc {w : World} {b o : Nat} {v : Value} (h : w.cell? ⟨b, o, none⟩ = some v) (x : Obj) : (w.alloc x).cell? ⟨b, o, none⟩ = some v := by
  rw [← h]
  exact ((Below.refl w.heap.size w).alloc (Nat.le_refl _) x).cell (p := ⟨b, o, none⟩) (World.block_lt_of_cell? _ _ h)
theorem news3 (w : World) (k t : Int) (u : Value) (ty : TypeId) : ∀ (j : Nat) (x : Value), [Value.int .i64 k, .int .i64 t, u][j]? = some x → (w.alloc (.cells #[.int .i64 k, .int .i64 t, u] ty)).cell? ((⟨w.heap.size, 0, none⟩ : Addr).add j) = some x := by
  intro j x hj
  match j, hj with
  | 0, hj => simp at hj; subst hj; simp [Addr.add]
  | 1, hj => simp at hj; subst hj; simp [Addr.add]
  | 2, hj => simp at hj; subst hj; simp [Addr.add]
theorem one3 (k t : Int) (ao : Option Addr) {n c : Nat} : ∀ x ∈ [Value.int .i64 k, .int .i64 t, .slice ao n c], x.oneCell' = true := by
  intro x hx; simp at hx; rcases hx with rfl | rfl | rfl <;> rfl

end Go.Proofs.YtgknnigjlnfplaaDoor

namespace Go.Proofs.YtgknnigjlnfplaaDoor
open Go.RowKit

/-- A record as plain data: its kind, its trip, its numbers. -/
abbrev Rc := R

/-- A block as it lies. -/
def Blk (w : World) (b : Nat) (cs : Array Value) (ty : TypeId) : Prop := w.heap[b]? = some (.cells cs ty (0, 0))
theorem Blk.new (w : World) (cs : Array Value) (ty : TypeId) : Blk (w.alloc (.cells cs ty)) w.heap.size cs ty := heap_alloc_new w _
theorem Blk.lt {w : World} {b : Nat} {cs : Array Value} {ty : TypeId} (h : Blk w b cs ty) : b < w.heap.size := lt_of_heap h
theorem Blk.later {w w' : World} {b L : Nat} {cs : Array Value} {ty : TypeId} (h : Blk w b cs ty) (hb : Below L w w') (hL : b < L) : Blk w' b cs ty := by
  unfold Blk; rw [hb.block b hL]; exact h
theorem Blk.after {w w' : World} {b : Nat} {cs : Array Value} {ty : TypeId} (h : Blk w b cs ty) (hb : Below w.heap.size w w') : Blk w' b cs ty := h.later hb h.lt
theorem Blk.mid {w w' : World} {b l h' : Nat} {cs : Array Value} {ty : TypeId} (h : Blk w b cs ty) (hm : Mid l h' w w') (hb : b < l ∨ h' ≤ b) : Blk w' b cs ty := by
  unfold Blk; rw [hm.block b h.lt hb]; exact h
theorem Blk.cell {w : World} {b : Nat} {cs : Array Value} {ty : TypeId} (h : Blk w b cs ty) (i : Nat) : w.cell? ⟨b, i, none⟩ = cs[i]? := cell_of_row w _ _ _ _ _ h
theorem Blk.free {w : World} {b : Nat} {cs : Array Value} {ty : TypeId} (h : Blk w b cs ty) (i : Nat) : w.frozen? ⟨b, i, none⟩ = false := frozen_of_row w _ _ _ _ h
theorem Blk.other {w : World} {b : Nat} {cs : Array Value} {ty : TypeId} (h : Blk w b cs ty) {a : Addr} (ha : b ≠ a.block) (x : Value) : Blk (w.setCell a x) b cs ty := by
  unfold Blk; rw [Below.heap_setCell _ _ _ _ ha]; exact h
theorem Blk.alloc {w : World} {b : Nat} {cs : Array Value} {ty : TypeId} (h : Blk w b cs ty) (o : Obj) : Blk (w.alloc o) b cs ty := h.after (alloc_below w o)
theorem Blk.cells5 {w : World} {b : Nat} {x0 x1 x2 x3 x4 : Value} {ty : TypeId} (h : Blk w b #[x0, x1, x2, x3, x4] ty) :
    w.cell? ⟨b, 0, none⟩ = some x0 ∧ w.cell? ⟨b, 1, none⟩ = some x1 ∧ w.cell? ⟨b, 2, none⟩ = some x2 ∧ w.cell? ⟨b, 3, none⟩ = some x3 ∧ w.cell? ⟨b, 4, none⟩ = some x4 := by
  refine ⟨?_, ?_, ?_, ?_, ?_⟩ <;> (rw [h.cell]; rfl)
theorem Blk.cells2 {w : World} {b : Nat} {x0 x1 : Value} {ty : TypeId} (h : Blk w b #[x0, x1] ty) :
    w.cell? ⟨b, 0, none⟩ = some x0 ∧ w.cell? ⟨b, 1, none⟩ = some x1 := by
  refine ⟨?_, ?_⟩ <;> (rw [h.cell]; rfl)
theorem Blk.free5 {w : World} {b : Nat} {cs : Array Value} {ty : TypeId} (h : Blk w b cs ty) :
    w.frozen? ⟨b, 0, none⟩ = false ∧ w.frozen? ⟨b, 1, none⟩ = false ∧ w.frozen? ⟨b, 2, none⟩ = false ∧ w.frozen? ⟨b, 3, none⟩ = false ∧ w.frozen? ⟨b, 4, none⟩ = false :=
  ⟨h.free 0, h.free 1, h.free 2, h.free 3, h.free 4⟩
theorem Blk.new2 (w : World) (o : Obj) (cs : Array Value) (ty : TypeId) : Blk ((w.alloc o).alloc (.cells cs ty)) (w.heap.size + 1) cs ty := by
  have h := Blk.new (w.alloc o) cs ty
  rw [size1] at h
  exact h
theorem Blk.set_ {w : World} {b : Nat} {cs : Array Value} {ty : TypeId} (h : Blk w b cs ty) (i : Nat) (x : Value) : Blk (w.setCell ⟨b, i, none⟩ x) b (cs.setIfInBounds i x) ty := by
  unfold Blk; rw [heap_setCell_same w b i _ _ x h]

theorem Blk.drew {w : World} {b : Nat} {cs : Array Value} {ty : TypeId} (h : Blk w b cs ty) : Blk w.drew b cs ty := h.after (Below.refl _ _).drew
/-- Blocks of unlike types are not one. -/
theorem Blk.ne {w : World} {b b' : Nat} {cs cs' : Array Value} {ty ty' : TypeId} (h : Blk w b cs ty) (h' : Blk w b' cs' ty') (ht : ty ≠ ty') : b ≠ b' := by
  intro e
  subst e
  unfold Blk at h h'
  rw [h] at h'
  simp at h'
  exact ht h'.2
theorem Blk.cells3 {w : World} {b : Nat} {x0 x1 x2 : Value} {ty : TypeId} (h : Blk w b #[x0, x1, x2] ty) :
    w.cell? ⟨b, 0, none⟩ = some x0 ∧ w.cell? ⟨b, 1, none⟩ = some x1 ∧ w.cell? ⟨b, 2, none⟩ = some x2 := by
  refine ⟨?_, ?_, ?_⟩ <;> (rw [h.cell]; rfl)
theorem row_apart {w : World} {base : Nat} {ty ty' : TypeId} {sz n g : Nat} {x : Value} {xs : List Value} {cur : Array Value} {fz : Nat × Nat} (hr : w.ownsRow base ty sz x n xs) (hh : w.heap[g]? = some (.cells cur ty' fz)) (ht : ty ≠ ty') : ∀ k, x.ownBlock = some k → k ≠ g := by
  intro k hk e
  subst e
  rcases hr.2 with ⟨hv, _⟩ | ⟨g', cap, cur', hv, _, h2, _⟩
  · rw [hv] at hk; simp [Value.ownBlock] at hk
  · rw [hv] at hk
    simp [Value.ownBlock] at hk
    subst hk
    rw [hh] at h2
    simp at h2
    exact ht h2.2.1.symm
/-- A row of the call's own is no such block. -/
theorem Blk.off {w : World} {b base sz n : Nat} {cs : Array Value} {ty ty' : TypeId} {v : Value} {xs : List Value} (h : Blk w b cs ty) (hr : w.ownsRow base ty' sz v n xs) (ht : ty' ≠ ty) : v.ownBlock ≠ some b := fun e => row_apart hr h ht b e rfl

end Go.Proofs.YtgknnigjlnfplaaDoor

namespace Go.Proofs.YtgknnigjlnfplaaDoor
namespace Pl

def wMany (k m : Int) : Bool := if k = 1 then inB m 1 3 else decide (m = 0)
def wOk (k h t m : Int) : Bool := inB k 1 7 && inB h 1 3 && inB t 1 6 && wMany k m

theorem wOk_k {k h t m : Int} (e : inB k 1 7 = false) : wOk k h t m = false := by simp [wOk, e]
theorem wOk_h {k h t m : Int} (e : inB h 1 3 = false) : wOk k h t m = false := by simp [wOk, e]
theorem wOk_t {k h t m : Int} (e : inB t 1 6 = false) : wOk k h t m = false := by simp [wOk, e]
theorem wOk_m {k h t m : Int} (e1 : inB k 1 7 = true) (e2 : inB h 1 3 = true) (e3 : inB t 1 6 = true) : wOk k h t m = wMany k m := by simp [wOk, e1, e2, e3]
theorem wMany_1 (m : Int) : wMany 1 m = inB m 1 3 := by simp [wMany]
theorem wMany_0 {k : Int} (m : Int) (h : k ≠ 1) : wMany k m = decide (m = 0) := by simp [wMany, h]
theorem wOk_parts {k h t m : Int} (e : wOk k h t m = true) : (1 ≤ k ∧ k ≤ 7) ∧ (1 ≤ h ∧ h ≤ 3) ∧ (1 ≤ t ∧ t ≤ 6) ∧ wMany k m = true := by
  simp only [wOk, Bool.and_eq_true] at e
  exact ⟨inB_true e.1.1.1, inB_true e.1.1.2, inB_true e.1.2, e.2⟩
theorem wMany_parts {k m : Int} (e : wMany k m = true) : (k = 1 ∧ 1 ≤ m ∧ m ≤ 3) ∨ (k ≠ 1 ∧ m = 0) := by
  by_cases h : k = 1
  · subst h; rw [wMany_1] at e; exact .inl ⟨rfl, inB_true e⟩
  · rw [wMany_0 m h] at e; exact .inr ⟨h, by simpa using e⟩

end Pl
end Go.Proofs.YtgknnigjlnfplaaDoor

namespace Go.Proofs.YtgknnigjlnfplaaDoor
open Go.RowKit

theorem hidden {p : Prop} (h : p) : Hid p := h

/-- Four cells lie in block b. -/
def Quad (w : World) (b : Nat) (x y z u : Value) : Prop := w.cell? ⟨b, 0, none⟩ = some x ∧ w.cell? ⟨b, 1, none⟩ = some y ∧ w.cell? ⟨b, 2, none⟩ = some z ∧ w.cell? ⟨b, 3, none⟩ = some u
theorem Quad.lt {w : World} {b : Nat} {x y z u : Value} (h : Quad w b x y z u) : b < w.heap.size := by simpa using World.block_lt_of_cell? _ _ h.1
theorem Quad.later {B : Nat} {w w' : World} {b : Nat} {x y z u : Value} (h : Quad w b x y z u) (hb : Below B w w') (hB : w.heap.size ≤ B) : Quad w' b x y z u := by
  have hlt := h.lt
  obtain ⟨h0, h1, h2, h3⟩ := h
  exact ⟨by rw [← h0]; exact hb.cell (p := ⟨b, 0, none⟩) (by simp; omega), by rw [← h1]; exact hb.cell (p := ⟨b, 1, none⟩) (by simp; omega), by rw [← h2]; exact hb.cell (p := ⟨b, 2, none⟩) (by simp; omega), by rw [← h3]; exact hb.cell (p := ⟨b, 3, none⟩) (by simp; omega)⟩
theorem Quad.new (w : World) (x y z u : Value) (ty : TypeId) : Quad (w.alloc (.cells #[x, y, z, u] ty)) w.heap.size x y z u := by
  refine ⟨?_, ?_, ?_, ?_⟩ <;> simp

abbrev wordV (k h t m : Int) : Value := .agg #[.int .i64 k, .int .i64 h, .int .i64 t, .int .i64 m]

set_option maxHeartbeats 1000000 in
theorem specWordOk_any (k h t m : Int) (w : World) :
    Calls Tryd.prog 28 #[wordV k h t m] w fun e w' => e = .returned (.bool (Pl.wOk k h t m)) ∧ Below w.heap.size w w' := by
  cases e1 : Pl.inB h 1 3
  · rw [Pl.wOk_h e1]
    go_enter Tryd.func28, Tryd.ntmps28
    go_wp2_with (go_at_call 48; refine (in_any _ _ _ _).mono ?_; rintro e w' ⟨rfl, rfl⟩)
    go_ret
    exact ⟨rfl, (Below.refl _ _).alloc (Nat.le_refl _) _⟩
  cases e2 : Pl.inB t 1 6
  · rw [Pl.wOk_t e2]
    go_enter Tryd.func28, Tryd.ntmps28
    go_wp2_with (go_at_call 48; refine (in_any _ _ _ _).mono ?_; rintro e w' ⟨rfl, rfl⟩)
    go_ret
    exact ⟨rfl, (Below.refl _ _).alloc (Nat.le_refl _) _⟩
  cases e3 : Pl.inB k 1 7
  · rw [Pl.wOk_k e3]
    go_enter Tryd.func28, Tryd.ntmps28
    go_wp2_with (go_at_call 48; refine (in_any _ _ _ _).mono ?_; rintro e w' ⟨rfl, rfl⟩)
    go_ret
    exact ⟨rfl, (Below.refl _ _).alloc (Nat.le_refl _) _⟩
  rw [Pl.wOk_m e3 e1 e2]
  by_cases hk : k = 1
  · subst hk
    rw [Pl.wMany_1]
    go_enter Tryd.func28, Tryd.ntmps28
    go_wp2_with (go_at_call 48; refine (in_any _ _ _ _).mono ?_; rintro e w' ⟨rfl, rfl⟩)
    go_ret
    exact ⟨rfl, (Below.refl _ _).alloc (Nat.le_refl _) _⟩
  · rw [Pl.wMany_0 m hk]
    go_enter Tryd.func28, Tryd.ntmps28
    go_wp2_with (go_at_call 48; refine (in_any _ _ _ _).mono ?_; rintro e w' ⟨rfl, rfl⟩)
    go_ret
    exact ⟨rfl, (Below.refl _ _).alloc (Nat.le_refl _) _⟩

theorem wordMany_any (k m : Int) (w : World) :
    Calls Tryd.prog 77 #[.int .i64 k, .int .i64 m] w fun e w' => e = .returned (.bool (Pl.wMany k m)) ∧ w' = w := by
  by_cases hk : k = 1
  · subst hk
    rw [Pl.wMany_1]
    by_cases h1 : 1 ≤ m
    · by_cases h2 : m ≤ 3
      all_goals
        go_enter Tryd.func77, Tryd.ntmps77
        go_wp2
        go_ret
        exact ⟨by simp [Pl.inB]; omega, rfl⟩
    · go_enter Tryd.func77, Tryd.ntmps77
      go_wp2
      go_ret
      exact ⟨by simp [Pl.inB]; omega, rfl⟩
  · rw [Pl.wMany_0 m hk]
    go_enter Tryd.func77, Tryd.ntmps77
    go_wp2
    go_ret
    exact ⟨rfl, rfl⟩

set_option maxHeartbeats 2000000 in
theorem implWordOk_any (k h t m : Int) (w : World) :
    Calls Tryd.prog 67 #[wordV k h t m] w fun e w' => e = .returned (.bool (Pl.wOk k h t m)) ∧ Below w.heap.size w w' := by
  by_cases k1n : ¬ 1 ≤ k
  · rw [Pl.wOk_k (Pl.inB_lo (by omega))]
    go_enter Tryd.func67, Tryd.ntmps67
    go_wp2
    go_ret
    exact ⟨rfl, (Below.refl _ _).alloc (Nat.le_refl _) _⟩
  have k1 : 1 ≤ k := Decidable.not_not.1 k1n
  clear k1n
  by_cases k2n : ¬ k ≤ 7
  · rw [Pl.wOk_k (Pl.inB_hi (by omega))]
    go_enter Tryd.func67, Tryd.ntmps67
    go_wp2
    go_ret
    exact ⟨rfl, (Below.refl _ _).alloc (Nat.le_refl _) _⟩
  have k2 : k ≤ 7 := Decidable.not_not.1 k2n
  clear k2n
  by_cases h1n : ¬ 1 ≤ h
  · rw [Pl.wOk_h (Pl.inB_lo (by omega))]
    go_enter Tryd.func67, Tryd.ntmps67
    go_wp2
    go_ret
    exact ⟨rfl, (Below.refl _ _).alloc (Nat.le_refl _) _⟩
  have h1 : 1 ≤ h := Decidable.not_not.1 h1n
  clear h1n
  by_cases h2n : ¬ h ≤ 3
  · rw [Pl.wOk_h (Pl.inB_hi (by omega))]
    go_enter Tryd.func67, Tryd.ntmps67
    go_wp2
    go_ret
    exact ⟨rfl, (Below.refl _ _).alloc (Nat.le_refl _) _⟩
  have h2 : h ≤ 3 := Decidable.not_not.1 h2n
  clear h2n
  by_cases t1n : ¬ 1 ≤ t
  · rw [Pl.wOk_t (Pl.inB_lo (by omega))]
    go_enter Tryd.func67, Tryd.ntmps67
    go_wp2
    go_ret
    exact ⟨rfl, (Below.refl _ _).alloc (Nat.le_refl _) _⟩
  have t1 : 1 ≤ t := Decidable.not_not.1 t1n
  clear t1n
  by_cases t2n : ¬ t ≤ 6
  · rw [Pl.wOk_t (Pl.inB_hi (by omega))]
    go_enter Tryd.func67, Tryd.ntmps67
    go_wp2
    go_ret
    exact ⟨rfl, (Below.refl _ _).alloc (Nat.le_refl _) _⟩
  have t2 : t ≤ 6 := Decidable.not_not.1 t2n
  clear t2n
  rw [Pl.wOk_m (Pl.inB_mk k1 k2) (Pl.inB_mk h1 h2) (Pl.inB_mk t1 t2)]
  go_enter Tryd.func67, Tryd.ntmps67
  go_wp2_with (go_at_call 77; refine (wordMany_any _ _ _).mono ?_; rintro e w' ⟨rfl, rfl⟩)
  go_ret
  exact ⟨rfl, (Below.refl _ _).alloc (Nat.le_refl _) _⟩

set_option maxHeartbeats 1000000 in
theorem toWord_any (k h t m : Int) (w : World) :
    Calls Tryd.prog 32 #[wordV k h t m] w fun e w' => e = .returned (wordV k h t m) ∧ Below w.heap.size w w' := by
  go_enter Tryd.func32, Tryd.ntmps32
  go_wp2
  exact bodyPost_ret (v := wordV k h t m) (by simp [results, Tryd.results32, go_sem]) rfl ⟨rfl, (((Below.refl _ _).alloc (Nat.le_refl _) _).alloc (by simp) _).alloc (by simp; omega) _⟩

end Go.Proofs.YtgknnigjlnfplaaDoor

namespace Go.Proofs.YtgknnigjlnfplaaDoor
open Go.RowKit

theorem Blk.cells4 {w : World} {b : Nat} {x0 x1 x2 x3 : Value} {ty : TypeId} (h : Blk w b #[x0, x1, x2, x3] ty) :
    w.cell? ⟨b, 0, none⟩ = some x0 ∧ w.cell? ⟨b, 1, none⟩ = some x1 ∧ w.cell? ⟨b, 2, none⟩ = some x2 ∧ w.cell? ⟨b, 3, none⟩ = some x3 := by
  refine ⟨?_, ?_, ?_, ?_⟩ <;> (rw [h.cell]; rfl)
theorem Blk.free4 {w : World} {b : Nat} {cs : Array Value} {ty : TypeId} (h : Blk w b cs ty) :
    w.frozen? ⟨b, 0, none⟩ = false ∧ w.frozen? ⟨b, 1, none⟩ = false ∧ w.frozen? ⟨b, 2, none⟩ = false ∧ w.frozen? ⟨b, 3, none⟩ = false :=
  ⟨h.free 0, h.free 1, h.free 2, h.free 3⟩

/-- A word as plain data: its kind, its house, its trip, how many. -/
abbrev Wd := Int × Int × Int × Int

/-- Words, as they lie in a row. -/
def wflat : List Wd → List Value
  | [] => []
  | h :: t => .int .i64 h.1 :: .int .i64 h.2.1 :: .int .i64 h.2.2.1 :: .int .i64 h.2.2.2 :: wflat t

theorem wflat_length (hs : List Wd) : (wflat hs).length = hs.length * 4 := by
  induction hs with
  | nil => rfl
  | cons p t ih => simp only [wflat, List.length_cons, ih]; omega
theorem wflat_get (hs : List Wd) (i : Nat) (h : i < hs.length) :
    (wflat hs)[i * 4]? = some (.int .i64 (hs.getD i (0, 0, 0, 0)).1) ∧ (wflat hs)[i * 4 + 1]? = some (.int .i64 (hs.getD i (0, 0, 0, 0)).2.1) ∧ (wflat hs)[i * 4 + 2]? = some (.int .i64 (hs.getD i (0, 0, 0, 0)).2.2.1) ∧ (wflat hs)[i * 4 + 3]? = some (.int .i64 (hs.getD i (0, 0, 0, 0)).2.2.2) := by
  induction hs generalizing i with
  | nil => simp at h
  | cons q t ih =>
    cases i with
    | zero => simp [wflat]
    | succ i =>
      have := ih i (by simpa using h)
      rw [show (i + 1) * 4 = i * 4 + 4 by omega]
      simpa [wflat] using this
theorem wflat_set (hs : List Wd) (k : Nat) (p : Wd) (h : k < hs.length) :
    ((((wflat hs).set (k * 4) (.int .i64 p.1)).set (k * 4 + 1) (.int .i64 p.2.1)).set (k * 4 + 2) (.int .i64 p.2.2.1)).set (k * 4 + 3) (.int .i64 p.2.2.2) = wflat (hs.set k p) := by
  induction hs generalizing k with
  | nil => simp at h
  | cons q t ih =>
    cases k with
    | zero => simp [wflat]
    | succ k =>
      have := ih k (by simpa using h)
      rw [show (k + 1) * 4 = k * 4 + 4 by omega]
      simp only [wflat, List.set_cons_succ]
      rw [this]
theorem wflat_append (ps qs : List Wd) : wflat (ps ++ qs) = wflat ps ++ wflat qs := by
  induction ps with
  | nil => rfl
  | cons p t ih => simp [wflat, ih]
theorem wtake (hs : List Wd) (k : Nat) (h : k < hs.length) : hs.take (k + 1) = hs.take k ++ [hs.getD k (0, 0, 0, 0)] := by
  rw [List.take_succ_eq_append_getElem h, List.getD_eq_getElem?_getD, List.getElem?_eq_getElem h]; rfl

/-- The value v is a slice of just these words in the world w. -/
def Words (w : World) (v : Value) (hs : List Wd) : Prop :=
  (hs = [] ∧ ∃ ao cap, v = .slice ao 0 cap ∧ (ao = none → cap = 0)) ∨
  (∃ b off cap, v = .slice (some ⟨b, off, none⟩) hs.length cap ∧ hs ≠ [] ∧ ∀ k, k < hs.length → w.cell? ⟨b, off + k * 4, none⟩ = some (.int .i64 (hs.getD k (0, 0, 0, 0)).1) ∧ w.cell? ⟨b, off + k * 4 + 1, none⟩ = some (.int .i64 (hs.getD k (0, 0, 0, 0)).2.1) ∧ w.cell? ⟨b, off + k * 4 + 2, none⟩ = some (.int .i64 (hs.getD k (0, 0, 0, 0)).2.2.1) ∧ w.cell? ⟨b, off + k * 4 + 3, none⟩ = some (.int .i64 (hs.getD k (0, 0, 0, 0)).2.2.2))

theorem Words.later {B : Nat} {w w' : World} {v : Value} {hs : List Wd} (h : Words w v hs) (hb : Below B w w') (hB : w.heap.size ≤ B) : Words w' v hs := by
  rcases h with h | ⟨b, off, cap, hv, hz, hc⟩
  · exact Or.inl h
  · refine Or.inr ⟨b, off, cap, hv, hz, fun k hk => ?_⟩
    obtain ⟨h1, h2, h3, h4⟩ := hc k hk
    have hl := World.block_lt_of_cell? _ _ h1
    simp at hl
    exact ⟨by rw [← h1]; exact hb.cell (p := ⟨b, off + k * 4, none⟩) (by simp; omega), by rw [← h2]; exact hb.cell (p := ⟨b, off + k * 4 + 1, none⟩) (by simp; omega), by rw [← h3]; exact hb.cell (p := ⟨b, off + k * 4 + 2, none⟩) (by simp; omega), by rw [← h4]; exact hb.cell (p := ⟨b, off + k * 4 + 3, none⟩) (by simp; omega)⟩

theorem Words.shape {w : World} {v : Value} {hs : List Wd} (h : Words w v hs) : ∃ ao cap, v = .slice ao hs.length cap := by
  rcases h with ⟨rfl, ao, cap, rfl, _⟩ | ⟨b, off, cap, rfl, _, _⟩
  · exact ⟨ao, cap, rfl⟩
  · exact ⟨_, cap, rfl⟩

/-- A row of words that the call owns is a list of them. -/
theorem words_of_row {w : World} {base : Nat} {v : Value} {hs : List Wd} (h : w.ownsRow base 58 4 v hs.length (wflat hs)) : Words w v hs := by
  rcases h.2 with ⟨hv, hn⟩ | ⟨g, cap, cur, hv, _⟩
  · have : hs = [] := List.length_eq_zero_iff.1 hn
    exact Or.inl ⟨this, none, 0, hv, fun _ => rfl⟩
  · by_cases hz : hs = []
    · subst hz; exact Or.inl ⟨rfl, _, _, hv, fun h => by cases h⟩
    · subst hv
      refine Or.inr ⟨g, 0, cap, rfl, hz, fun k hk => ?_⟩
      obtain ⟨f0, f1, f2, f3⟩ := wflat_get hs k hk
      exact ⟨by rw [Nat.zero_add, h.cellAt _ (by omega)]; exact f0, by rw [Nat.zero_add, h.cellAt _ (by omega)]; exact f1, by rw [Nat.zero_add, h.cellAt _ (by omega)]; exact f2, by rw [Nat.zero_add, h.cellAt _ (by omega)]; exact f3⟩

theorem infoWord : (Tryd.prog.info? 58).map (fun i => (i.zero, i.size, i.bytes)) = some (some (.agg #[.int .i64 0, .int .i64 0, .int .i64 0, .int .i64 0]), 4, 32) := by kernel_rfl

theorem made_four (n : Nat) : (madeCells #[.int .i64 0, .int .i64 0, .int .i64 0, .int .i64 0] (n * 4)).toList = wflat (List.replicate n (0, 0, 0, 0)) := by
  apply List.ext_getElem?
  intro i
  by_cases h : i < n * 4
  · have hq : i / 4 < n := by omega
    obtain ⟨f0, f1, f2, f3⟩ := wflat_get (List.replicate n (0, 0, 0, 0)) (i / 4) (by simpa using hq)
    have hl : (madeCells #[.int .i64 0, .int .i64 0, .int .i64 0, .int .i64 0] (n * 4)).toList[i]? = some (#[Value.int .i64 0, .int .i64 0, .int .i64 0, .int .i64 0][i % 4]!) := by
      simp [madeCells, h]
    have hd : (List.replicate n ((0, 0, 0, 0) : Wd)).getD (i / 4) (0, 0, 0, 0) = (0, 0, 0, 0) := by simp [List.getD_eq_getElem?_getD, hq]
    rw [hd] at f0 f1 f2 f3
    rw [hl]
    rcases (show i % 4 = 0 ∨ i % 4 = 1 ∨ i % 4 = 2 ∨ i % 4 = 3 by omega) with h0 | h0 | h0 | h0
    · rw [show i / 4 * 4 = i by omega] at f0; rw [f0, h0]; rfl
    · rw [show i / 4 * 4 + 1 = i by omega] at f1; rw [f1, h0]; rfl
    · rw [show i / 4 * 4 + 2 = i by omega] at f2; rw [f2, h0]; rfl
    · rw [show i / 4 * 4 + 3 = i by omega] at f3; rw [f3, h0]; rfl
  · rw [List.getElem?_eq_none (by simp [madeCells]; omega), List.getElem?_eq_none (by rw [wflat_length]; simp; omega)]

/-- The world behind four stores. -/
abbrev store4 (w : World) (g i : Nat) (p : Wd) : World := (((w.setCell ⟨g, i, none⟩ (.int .i64 p.1)).setCell ⟨g, i + 1, none⟩ (.int .i64 p.2.1)).setCell ⟨g, i + 2, none⟩ (.int .i64 p.2.2.1)).setCell ⟨g, i + 3, none⟩ (.int .i64 p.2.2.2)

theorem stored4 {w : World} {base g n cap : Nat} {hs : List Wd} (h : w.ownsRow base 58 4 (.slice (some ⟨g, 0, none⟩) n cap) n (wflat hs)) (k : Nat) (hk : k < hs.length) (p : Wd) :
    (store4 w g (k * 4) p).ownsRow base 58 4 (.slice (some ⟨g, 0, none⟩) n cap) n (wflat (hs.set k p)) ∧ w.grownBy (store4 w g (k * 4) p) (some g) := by
  have a1 := h.stored (k * 4) (.int .i64 p.1)
  have a2 := a1.1.stored (k * 4 + 1) (.int .i64 p.2.1)
  have a3 := a2.1.stored (k * 4 + 2) (.int .i64 p.2.2.1)
  have a4 := a3.1.stored (k * 4 + 3) (.int .i64 p.2.2.2)
  rw [wflat_set hs k p hk] at a4
  exact ⟨a4.1, grownBy_trans (grownBy_trans (grownBy_trans a1.2 a2.2) a3.2) a4.2⟩

theorem szWords_any (ao : Option Addr) (len cap : Nat) (left : Int) (w : World) (hl : (len : Int) ≤ 9223372036854775807) (h0 : 0 ≤ left) (h1 : left ≤ 1048576) :
    Calls Tryd.prog 14 #[.slice ao len cap, .int .i64 left] w fun e w' => e = .returned (.int .i64 (leftOf left len)) ∧ w' = w := by
  by_cases h : left - (len : Int) < 0
  · rw [leftOf_neg h]
    go_enter Tryd.func14, Tryd.ntmps14
    go_wp2
    go_ret
    exact ⟨rfl, rfl⟩
  · rw [leftOf_pos h]
    go_enter Tryd.func14, Tryd.ntmps14
    go_wp2
    go_ret
    exact ⟨rfl, rfl⟩

set_option maxHeartbeats 2000000 in
theorem toWords_any (v : Value) (hs : List Wd) (w : World) (hv : Words w v hs) (hl : hs.length ≤ 1048576) :
    Calls Tryd.prog 18 #[v] w fun e w' => e = .returned (.slice (some ⟨w.heap.size, 0, none⟩) hs.length hs.length) ∧
      w'.ownsRow w.heap.size 58 4 (.slice (some ⟨w.heap.size, 0, none⟩) hs.length hs.length) hs.length (wflat hs) ∧ Below w.heap.size w w' := by
  obtain ⟨i0, hi, hz0, hz1, hz2⟩ := info_parts infoWord
  have hbytes : i0.bytes * hs.length ≤ 281474976710656 := by rw [hz2]; omega
  have hmax : hs.length ≤ maxLen := by unfold maxLen; omega
  rcases hv with ⟨rfl, ao, cap, rfl, -⟩ | ⟨b, off, cap, rfl, hz, hc⟩
  · go_enter Tryd.func18, Tryd.ntmps18
    go_wp2_with (at_make; refine wpList_make_full _ rfl _ _ 29 rfl w.heap.size 58 i0 (.agg #[.int .i64 0, .int .i64 0, .int .i64 0, .int .i64 0]) 4 Tryd.underlying29 hi hz0 hz1 .i64 .i64 _ _ 0 rfl rfl rfl rfl hbytes hmax (Nat.le_refl _) ?_; intro w1 hown hgrow)
    have HO : Hid (w1.ownsRow w.heap.size 58 4 (.slice (some ⟨w.heap.size, 0, none⟩) 0 0) 0 (wflat [])) := by
      have := made_four 0
      rw [show (Value.agg #[.int .i64 0, .int .i64 0, .int .i64 0, .int .i64 0]).cells = #[.int .i64 0, .int .i64 0, .int .i64 0, .int .i64 0] from rfl, this] at hown
      exact hown
    have HB : Hid (Below w.heap.size w w1) := (Below.refl _ _).grown hgrow (Nat.le_refl _) (fun k h => by cases h)
    clear hown hgrow
    refine wp_loop_rounds 1 ?_
    rw [rounds_succ]
    go_wp2
    go_ret
    exact ⟨rfl, HO.out, HB.out⟩
  have HC : Hid (∀ k, k < hs.length → w.cell? ⟨b, off + k * 4, none⟩ = some (.int .i64 (hs.getD k (0, 0, 0, 0)).1) ∧ w.cell? ⟨b, off + k * 4 + 1, none⟩ = some (.int .i64 (hs.getD k (0, 0, 0, 0)).2.1) ∧ w.cell? ⟨b, off + k * 4 + 2, none⟩ = some (.int .i64 (hs.getD k (0, 0, 0, 0)).2.2.1) ∧ w.cell? ⟨b, off + k * 4 + 3, none⟩ = some (.int .i64 (hs.getD k (0, 0, 0, 0)).2.2.2)) := hc
  have hzl : 0 < hs.length := List.length_pos_iff.2 hz
  have hbw : b < w.heap.size := World.block_lt_of_cell? _ _ (hc 0 hzl).1
  clear hc hz
  go_enter Tryd.func18, Tryd.ntmps18
  go_wp2_with (at_make; refine wpList_make_full _ rfl _ _ 29 rfl w.heap.size 58 i0 (.agg #[.int .i64 0, .int .i64 0, .int .i64 0, .int .i64 0]) 4 Tryd.underlying29 hi hz0 hz1 .i64 .i64 _ _ hs.length rfl rfl rfl rfl hbytes hmax (Nat.le_refl _) ?_; intro w1 hown hgrow)
  have hown0 : Hid (w1.ownsRow w.heap.size 58 4 (.slice (some ⟨w.heap.size, 0, none⟩) hs.length hs.length) hs.length (wflat (hs.take 0 ++ List.replicate (hs.length - 0) (0, 0, 0, 0)))) := by
    have := made_four hs.length
    rw [show (Value.agg #[.int .i64 0, .int .i64 0, .int .i64 0, .int .i64 0]).cells = #[.int .i64 0, .int .i64 0, .int .i64 0, .int .i64 0] from rfl, this] at hown
    exact hown
  have hbel : Below w.heap.size w w1 := (Below.refl _ _).grown hgrow (Nat.le_refl _) (fun k h => by cases h)
  clear hown hgrow
  go_loopw [4] (fun i wr => ∃ k : Nat, k ≤ hs.length ∧ i = .int .i64 k ∧ Hid (wr.ownsRow w.heap.size 58 4 (.slice (some ⟨w.heap.size, 0, none⟩) hs.length hs.length) hs.length (wflat (hs.take k ++ List.replicate (hs.length - k) (0, 0, 0, 0)))) ∧ Below w.heap.size w wr) (fun i _ => hs.length - (intOf i).toNat)
  case atStart => exact ⟨0, Nat.zero_le _, rfl, hown0, hbel⟩
  case round =>
    obtain ⟨k, hk, rfl, HO, hbe⟩ := hrel
    by_cases hlt : k < hs.length
    · obtain ⟨p0, p1, p2, p3, HZ⟩ : ∃ p0 p1 p2 p3, Hid (hs.getD k (0, 0, 0, 0) = (p0, p1, p2, p3)) := ⟨_, _, _, _, rfl⟩
      have hq0 : wr.cell? ⟨b, off + k * 4, none⟩ = some (.int .i64 p0) := by rw [hbe.cell (p := ⟨b, off + k * 4, none⟩) hbw, (HC.out k hlt).1, HZ.out]
      have hq1 : wr.cell? ⟨b, off + k * 4 + 1, none⟩ = some (.int .i64 p1) := by rw [hbe.cell (p := ⟨b, off + k * 4 + 1, none⟩) hbw, (HC.out k hlt).2.1, HZ.out]
      have hq2 : wr.cell? ⟨b, off + k * 4 + 2, none⟩ = some (.int .i64 p2) := by rw [hbe.cell (p := ⟨b, off + k * 4 + 2, none⟩) hbw, (HC.out k hlt).2.2.1, HZ.out]
      have hq3 : wr.cell? ⟨b, off + k * 4 + 3, none⟩ = some (.int .i64 p3) := by rw [hbe.cell (p := ⟨b, off + k * 4 + 3, none⟩) hbw, (HC.out k hlt).2.2.2, HZ.out]
      have HB : Hid (Below w.heap.size w wr) := hbe
      have hws : w.heap.size < wr.heap.size := (HO.out.lt w.heap.size rfl).2
      clear hbe
      go_wp2_with fail
      refine (toWord_any p0 p1 p2 p3 wr).mono ?_
      rintro e w2 ⟨rfl, hb2⟩
      have HO2 := hide_it (ownsRow_below HO.out hb2 (fun j hj => by simp [Value.ownBlock] at hj; omega))
      have HB2 : Hid (Below w.heap.size w w2) := HB.out.trans (hb2.mono HB.out.size)
      have cellEx : ∀ j, j < hs.length * 4 → ∃ x, w2.cell? ⟨w.heap.size, j, none⟩ = some x := fun j hj => by
        have h1 := HO2.out.cellAt j hj
        have h2 : j < (wflat (hs.take k ++ List.replicate (hs.length - k) (0, 0, 0, 0))).length := by rw [HO2.out.1]; exact hj
        exact ⟨_, by rw [h1, List.getElem?_eq_getElem h2]⟩
      obtain ⟨x0, hx0⟩ := cellEx (k * 4) (by omega)
      obtain ⟨x1, hx1⟩ := cellEx (k * 4 + 1) (by omega)
      obtain ⟨x2, hx2⟩ := cellEx (k * 4 + 2) (by omega)
      obtain ⟨x3, hx3⟩ := cellEx (k * 4 + 3) (by omega)
      have f0 := HO2.out.frozenAt (k * 4)
      have f1 := HO2.out.frozenAt (k * 4 + 1)
      have f2 := HO2.out.frozenAt (k * 4 + 2)
      have f3 := HO2.out.frozenAt (k * 4 + 3)
      have ST : Hid ((store4 w2 w.heap.size (k * 4) (p0, p1, p2, p3)).ownsRow w.heap.size 58 4 (.slice (some ⟨w.heap.size, 0, none⟩) hs.length hs.length) hs.length (wflat (hs.take (k + 1) ++ List.replicate (hs.length - (k + 1)) (0, 0, 0, 0)))) := by
        have h := (stored4 HO2.out k (by simp; omega) (p0, p1, p2, p3)).1
        rw [List.set_append_right _ _ (by simp; omega), show k - (hs.take k).length = 0 by simp; omega, show hs.length - k = (hs.length - (k + 1)) + 1 by omega, List.replicate_succ, List.set_cons_zero] at h
        rw [wtake hs k hlt, HZ.out, List.append_assoc]
        exact h
      clear cellEx hb2
      go_wp2
      go_roundw
      case rel =>
        refine ⟨k + 1, by omega, by go_num, ST, ?_⟩
        exact (((HB2.out.setCell (Nat.le_refl _) _).setCell (Nat.le_refl _) _).setCell (Nat.le_refl _) _).setCell (Nat.le_refl _) _
      case measure => simp [intOf]; omega
    · have HO2 : Hid (wr.ownsRow w.heap.size 58 4 (.slice (some ⟨w.heap.size, 0, none⟩) hs.length hs.length) hs.length (wflat hs)) := by
        have hke : k = hs.length := by omega
        have := HO.out
        rw [hke, List.take_length, Nat.sub_self] at this
        show World.ownsRow _ _ _ _ _ _ _
        simpa using this
      go_wp2
      go_ret
      exact ⟨rfl, HO2.out, hbe⟩

theorem eqWord_any (k h t m : Int) (w : World) :
    Calls Tryd.prog 22 #[wordV k h t m, wordV k h t m] w fun e w' => e = .returned (.bool true) ∧ Below w.heap.size w w' := by
  go_enter Tryd.func22, Tryd.ntmps22
  go_wp2
  go_ret
  exact ⟨rfl, below2 w _ _⟩

set_option maxHeartbeats 2000000 in
theorem eqWords_any (v1 v2 : Value) (hs : List Wd) (w : World) (h1 : Words w v1 hs) (h2 : Words w v2 hs) (hl : hs.length ≤ 1048576) :
    Calls Tryd.prog 8 #[v1, v2] w fun e w' => e = .returned (.bool true) ∧ Below w.heap.size w w' := by
  rcases h1 with ⟨rfl, ao, cap, rfl, -⟩ | ⟨b, off, cap, rfl, hz, hc⟩
  · obtain ⟨ao2, cap2, rfl⟩ := h2.shape
    clear h2
    go_enter Tryd.func8, Tryd.ntmps8
    go_wp2
    refine wp_loop_rounds 1 ?_
    rw [rounds_succ]
    go_wp2
    go_ret
    exact ⟨rfl, Below.refl _ _⟩
  rcases h2 with ⟨h, _⟩ | ⟨b2, off2, cap2, rfl, _, hc2⟩
  · exact absurd h hz
  have HC : Hid (∀ k, k < hs.length → w.cell? ⟨b, off + k * 4, none⟩ = some (.int .i64 (hs.getD k (0, 0, 0, 0)).1) ∧ w.cell? ⟨b, off + k * 4 + 1, none⟩ = some (.int .i64 (hs.getD k (0, 0, 0, 0)).2.1) ∧ w.cell? ⟨b, off + k * 4 + 2, none⟩ = some (.int .i64 (hs.getD k (0, 0, 0, 0)).2.2.1) ∧ w.cell? ⟨b, off + k * 4 + 3, none⟩ = some (.int .i64 (hs.getD k (0, 0, 0, 0)).2.2.2)) := hc
  have HC2 : Hid (∀ k, k < hs.length → w.cell? ⟨b2, off2 + k * 4, none⟩ = some (.int .i64 (hs.getD k (0, 0, 0, 0)).1) ∧ w.cell? ⟨b2, off2 + k * 4 + 1, none⟩ = some (.int .i64 (hs.getD k (0, 0, 0, 0)).2.1) ∧ w.cell? ⟨b2, off2 + k * 4 + 2, none⟩ = some (.int .i64 (hs.getD k (0, 0, 0, 0)).2.2.1) ∧ w.cell? ⟨b2, off2 + k * 4 + 3, none⟩ = some (.int .i64 (hs.getD k (0, 0, 0, 0)).2.2.2)) := hc2
  have hzl : 0 < hs.length := List.length_pos_iff.2 hz
  have hbw : b < w.heap.size := World.block_lt_of_cell? _ _ (hc 0 hzl).1
  have hbw2 : b2 < w.heap.size := World.block_lt_of_cell? _ _ (hc2 0 hzl).1
  clear hc hc2 hz
  go_enter Tryd.func8, Tryd.ntmps8
  go_wp2
  go_loopw [5] (fun i wr => ∃ k : Nat, k ≤ hs.length ∧ i = .int .i64 k ∧ Below w.heap.size w wr) (fun i _ => hs.length - (intOf i).toNat)
  case atStart => exact ⟨0, Nat.zero_le _, rfl, Below.refl _ _⟩
  case round =>
    obtain ⟨k, hk, rfl, hbe⟩ := hrel
    by_cases hlt : k < hs.length
    · obtain ⟨p0, p1, p2, p3, HZ⟩ : ∃ p0 p1 p2 p3, Hid (hs.getD k (0, 0, 0, 0) = (p0, p1, p2, p3)) := ⟨_, _, _, _, rfl⟩
      have c0 : wr.cell? ⟨b, off + k * 4, none⟩ = some (.int .i64 p0) := by rw [hbe.cell (p := ⟨b, off + k * 4, none⟩) hbw, (HC.out k hlt).1, HZ.out]
      have c1 : wr.cell? ⟨b, off + k * 4 + 1, none⟩ = some (.int .i64 p1) := by rw [hbe.cell (p := ⟨b, off + k * 4 + 1, none⟩) hbw, (HC.out k hlt).2.1, HZ.out]
      have c2 : wr.cell? ⟨b, off + k * 4 + 2, none⟩ = some (.int .i64 p2) := by rw [hbe.cell (p := ⟨b, off + k * 4 + 2, none⟩) hbw, (HC.out k hlt).2.2.1, HZ.out]
      have c3 : wr.cell? ⟨b, off + k * 4 + 3, none⟩ = some (.int .i64 p3) := by rw [hbe.cell (p := ⟨b, off + k * 4 + 3, none⟩) hbw, (HC.out k hlt).2.2.2, HZ.out]
      have d0 : wr.cell? ⟨b2, off2 + k * 4, none⟩ = some (.int .i64 p0) := by rw [hbe.cell (p := ⟨b2, off2 + k * 4, none⟩) hbw2, (HC2.out k hlt).1, HZ.out]
      have d1 : wr.cell? ⟨b2, off2 + k * 4 + 1, none⟩ = some (.int .i64 p1) := by rw [hbe.cell (p := ⟨b2, off2 + k * 4 + 1, none⟩) hbw2, (HC2.out k hlt).2.1, HZ.out]
      have d2 : wr.cell? ⟨b2, off2 + k * 4 + 2, none⟩ = some (.int .i64 p2) := by rw [hbe.cell (p := ⟨b2, off2 + k * 4 + 2, none⟩) hbw2, (HC2.out k hlt).2.2.1, HZ.out]
      have d3 : wr.cell? ⟨b2, off2 + k * 4 + 3, none⟩ = some (.int .i64 p3) := by rw [hbe.cell (p := ⟨b2, off2 + k * 4 + 3, none⟩) hbw2, (HC2.out k hlt).2.2.2, HZ.out]
      have hli : (k : Int) < (hs.length : Int) := by omega
      have HB : Hid (Below w.heap.size w wr) := hbe
      clear hbe
      go_wp2
      go_region_with (go_at_call 22; refine (eqWord_any _ _ _ _ _).mono ?_; rintro e w2 ⟨rfl, hb2⟩; have HB2 := HB.out.drew.trans (hb2.mono HB.out.size); clear hb2)
      all_goals (try go_wp2)
      all_goals
        go_roundw
        case rel => exact ⟨k + 1, by omega, by go_num, HB2⟩
        case measure => simp [intOf]; omega
    · go_wp2
      go_ret
      exact ⟨rfl, hbe⟩

end Go.Proofs.YtgknnigjlnfplaaDoor

namespace Go.Proofs.YtgknnigjlnfplaaDoor
open Go.RowKit

/-- Words, all marked. -/
def markW (n : Nat) (k : Int) : List Wd := (List.range n).map fun i => (k + 4 * (i : Nat), k + 4 * (i : Nat) + 1, k + 4 * (i : Nat) + 2, k + 4 * (i : Nat) + 3)
theorem markW_length (n : Nat) (k : Int) : (markW n k).length = n := by simp [markW]
theorem markW_get? (n : Nat) (k : Int) (i : Nat) (h : i < n) : (markW n k)[i]? = some (k + 4 * i, k + 4 * i + 1, k + 4 * i + 2, k + 4 * i + 3) := by simp [markW, h]
theorem markW_get (n : Nat) (k : Int) (i : Nat) (h : i < n) : (markW n k).getD i (0, 0, 0, 0) = (k + 4 * i, k + 4 * i + 1, k + 4 * i + 2, k + 4 * i + 3) := by
  rw [List.getD_eq_getElem?_getD, markW_get? n k i h]; rfl

theorem mixW_set (A xs : List Wd) (i : Nat) (hA : A.length = xs.length) (hi : i < xs.length) (x : Wd) (hx : A[i]? = some x) : (A.take i ++ xs.drop i).set i x = A.take (i + 1) ++ xs.drop (i + 1) := by
  have hi' : i < A.length := by omega
  rw [List.set_append_right _ _ (by simp; omega)]
  have h1 : i - (A.take i).length = 0 := by simp; omega
  rw [h1, List.drop_eq_getElem_cons hi, List.set_cons_zero, List.take_succ_eq_append_getElem hi']
  rw [List.getElem?_eq_getElem hi'] at hx
  simp only [Option.some.injEq] at hx
  rw [hx]; simp

set_option maxHeartbeats 2000000 in
theorem markWords_any (v : Value) (hs : List Wd) (k : Int) (lo n : Nat) (w : World) (hv : w.ownsRow lo 58 4 v n (wflat hs)) (hn : n ≤ 1048576) (hk0 : 0 ≤ k) (hk1 : k ≤ 1000000000) :
    Calls Tryd.prog 11 #[v, .int .i64 k] w fun e w' => e = .returned (.int .i64 (k + 4 * n)) ∧ w'.ownsRow lo 58 4 v n (wflat (markW n k)) ∧ w.grownBy w' v.ownBlock := by
  have hxl : hs.length = n := by have := hv.1; rw [wflat_length] at this; omega
  by_cases h0 : n = 0
  · subst h0
    obtain rfl : hs = [] := List.length_eq_zero_iff.1 hxl
    have HV : Hid (w.ownsRow lo 58 4 v 0 (wflat (markW 0 k))) := hv
    obtain ⟨ao, cap, rfl⟩ := row_shape hv
    clear hv hxl
    go_enter Tryd.func11, Tryd.ntmps11
    go_wp2
    refine wp_loop_rounds 1 ?_
    rw [rounds_succ]
    go_wp2
    go_ret
    exact ⟨by simp, HV.out, World.grownBy.refl _ _⟩
  obtain ⟨g, cap, rfl⟩ : ∃ g cap, v = .slice (some ⟨g, 0, none⟩) n cap := by
    rcases hv.2 with ⟨_, hn0⟩ | ⟨g, cap, cur, h, _⟩
    · exact absurd hn0 h0
    · exact ⟨g, cap, h⟩
  have HX : Hid (hs.length = n) := hxl
  have H0 : Hid (w.ownsRow lo 58 4 (.slice (some ⟨g, 0, none⟩) n cap) n (wflat ((markW n k).take 0 ++ hs.drop 0))) := by show World.ownsRow _ _ _ _ _ _ _; simpa using hv
  clear hv hxl
  go_enter Tryd.func11, Tryd.ntmps11
  go_wp2
  go_loopw [1, 5] (fun q i wr => ∃ j : Nat, j ≤ n ∧ i = .int .i64 j ∧ q = .int .i64 (k + 4 * j) ∧ Hid (wr.ownsRow lo 58 4 (.slice (some ⟨g, 0, none⟩) n cap) n (wflat ((markW n k).take j ++ hs.drop j))) ∧ Hid (w.grownBy wr (some g))) (fun _ i _ => n - (intOf i).toNat)
  case atStart => exact ⟨0, Nat.zero_le _, rfl, by simp, H0, World.grownBy.refl _ _⟩
  case round =>
    obtain ⟨j, hj, rfl, rfl, HO, HG⟩ := hrel
    by_cases hlt : j < n
    · have cellEx : ∀ i, i < n * 4 → ∃ x, wr.cell? ⟨g, i, none⟩ = some x := fun i hi => by
        have h1 := HO.out.cellAt i hi
        have h2 : i < (wflat ((markW n k).take j ++ hs.drop j)).length := by rw [HO.out.1]; exact hi
        exact ⟨_, by rw [h1, List.getElem?_eq_getElem h2]⟩
      obtain ⟨x0, hx0⟩ := cellEx (j * 4) (by omega)
      obtain ⟨x1, hx1⟩ := cellEx (j * 4 + 1) (by omega)
      obtain ⟨x2, hx2⟩ := cellEx (j * 4 + 2) (by omega)
      obtain ⟨x3, hx3⟩ := cellEx (j * 4 + 3) (by omega)
      have f0 := HO.out.frozenAt (j * 4)
      have f1 := HO.out.frozenAt (j * 4 + 1)
      have f2 := HO.out.frozenAt (j * 4 + 2)
      have f3 := HO.out.frozenAt (j * 4 + 3)
      have st := stored4 HO.out j (by rw [List.length_append, List.length_take, markW_length, List.length_drop, HX.out]; omega) (k + 4 * j, k + 4 * j + 1, k + 4 * j + 2, k + 4 * j + 3)
      have ST := hide_it st
      clear cellEx st
      go_wp2
      go_roundw
      case rel =>
        refine ⟨j + 1, by omega, by go_num, by go_num, ?_, ?_⟩
        · have h := ST.out.1
          rw [mixW_set _ _ j (by rw [markW_length, HX.out]) (by rw [HX.out]; omega) _ (markW_get? n k j hlt)] at h
          first | exact h | (simp only [store4] at h; simp only [Int.add_assoc] at h ⊢; exact h)
        · first | exact grownBy_trans HG.out ST.out.2 | (have h := ST.out.2; simp only [store4] at h; simp only [Int.add_assoc] at h ⊢; exact grownBy_trans HG.out h)
      case measure => simp [intOf]; omega
    · have HO2 : Hid (wr.ownsRow lo 58 4 (.slice (some ⟨g, 0, none⟩) n cap) n (wflat (markW n k))) := by
        have hje : j = n := by omega
        have := HO.out
        rw [hje, List.take_of_length_le (by rw [markW_length]; omega), List.drop_of_length_le (by rw [HX.out]; omega), List.append_nil] at this
        exact this
      have hje : (j : Int) = n := by omega
      go_wp2
      go_ret
      exact ⟨by simp [hje], HO2.out, HG.out⟩

set_option maxHeartbeats 2000000 in
theorem heldWords_any (v : Value) (n : Nat) (k : Int) (w : World) (hv : Words w v (markW n k)) (hn : n ≤ 1048576) (hk0 : 0 ≤ k) (hk1 : k ≤ 1000000000) :
    Calls Tryd.prog 12 #[v, .int .i64 k] w fun e w' => e = .returned (.int .i64 (k + 4 * n)) ∧ w' = w := by
  rcases hv with ⟨hz, ao, cap, rfl, -⟩ | ⟨b, off, cap, rfl, hz, hc⟩
  · have h0 : n = 0 := by have := congrArg List.length hz; rw [markW_length] at this; simpa using this
    subst h0
    clear hz
    go_enter Tryd.func12, Tryd.ntmps12
    go_wp2
    refine wp_loop_rounds 1 ?_
    rw [rounds_succ]
    go_wp2
    go_ret
    exact ⟨by simp, rfl⟩
  · rw [markW_length] at hc ⊢
    have HC : Hid (∀ j, j < n → w.cell? ⟨b, off + j * 4, none⟩ = some (.int .i64 (k + 4 * j)) ∧ w.cell? ⟨b, off + j * 4 + 1, none⟩ = some (.int .i64 (k + 4 * j + 1)) ∧ w.cell? ⟨b, off + j * 4 + 2, none⟩ = some (.int .i64 (k + 4 * j + 2)) ∧ w.cell? ⟨b, off + j * 4 + 3, none⟩ = some (.int .i64 (k + 4 * j + 3))) := fun j hj => by
      have := hc j hj
      rw [markW_get n k j hj] at this
      exact this
    clear hc hz
    go_enter Tryd.func12, Tryd.ntmps12
    go_wp2
    go_loop [1, 5] (fun q i => ∃ j : Nat, j ≤ n ∧ i = .int .i64 j ∧ q = .int .i64 (k + 4 * j)) (fun _ i => n - (intOf i).toNat)
    case atStart => exact ⟨0, Nat.zero_le _, rfl, by simp⟩
    case round =>
      obtain ⟨j, hj, rfl, rfl⟩ := hrel
      by_cases hlt : j < n
      · obtain ⟨c0, c1, c2, c3⟩ := HC.out j hlt
        go_wp2
        go_round
        case rel => exact ⟨j + 1, by omega, by go_num, by go_num⟩
        case measure => simp [intOf]; omega
      · have hje : (j : Int) = n := by omega
        go_wp2
        go_ret
        exact ⟨by simp, rfl⟩

end Go.Proofs.YtgknnigjlnfplaaDoor

namespace Go.Proofs.YtgknnigjlnfplaaDoor
open Go.RowKit

/-- A desk as a value: whether it is up, its log, what it was told. -/
abbrev deskV (up : Bool) (v : Value) (f : Int) (u : Value) : Value := .agg #[.bool up, v, .int .i64 f, u]

/-- The lists of a desk, as they lie. -/
def DkAt (w : World) (v u : Value) (rs : List R) (ws : List Wd) : Prop := Recs w v rs ∧ Words w u ws
theorem DkAt.later {B : Nat} {w w' : World} {v u : Value} {rs : List R} {ws : List Wd} (h : DkAt w v u rs ws) (hb : Below B w w') (hB : w.heap.size ≤ B) : DkAt w' v u rs ws := ⟨h.1.later hb hB, h.2.later hb hB⟩
theorem DkAt.shape {w : World} {v u : Value} {rs : List R} {ws : List Wd} (h : DkAt w v u rs ws) : ∃ a1 c1 a2 c2, v = .slice a1 rs.length c1 ∧ u = .slice a2 ws.length c2 := by
  obtain ⟨a1, c1, h1⟩ := h.1.shape
  obtain ⟨a2, c2, h2⟩ := h.2.shape
  exact ⟨a1, c1, a2, c2, h1, h2⟩

/-- The lists of a desk in memory of their own, from lo on and below hi, each apart from the other. -/
def DkOwn (w : World) (lo hi : Nat) (v u : Value) (ps : List (R × Value)) (ws : List Wd) : Prop :=
  hi ≤ w.heap.size ∧ ∃ l h, lo ≤ l ∧ h ≤ hi ∧ OwnRecs w l h v ps ∧ w.ownsRow lo 58 4 u ws.length (wflat ws) ∧ ∀ g, u.ownBlock = some g → g < hi ∧ (g < l ∨ h ≤ g)
theorem DkOwn.below {w w' : World} {lo hi B : Nat} {v u : Value} {ps : List (R × Value)} {ws : List Wd} (h : DkOwn w lo hi v u ps ws) (hb : Below B w w') (hB : hi ≤ B) : DkOwn w' lo hi v u ps ws := by
  obtain ⟨h0, l, t, h1, h2, h3, h4, h5⟩ := h
  exact ⟨Nat.le_trans h0 hb.size, l, t, h1, h2, h3.below hb (by omega), ownsRow_below h4 hb (fun g hg => by have := (h5 g hg).1; omega), h5⟩
theorem DkOwn.mid {w w' : World} {l0 h0 lo hi : Nat} {v u : Value} {ps : List (R × Value)} {ws : List Wd} (h : DkOwn w l0 h0 v u ps ws) (hb : Mid lo hi w w') (hB : hi ≤ l0) : DkOwn w' l0 h0 v u ps ws := by
  obtain ⟨h0, l, t, h1, h2, h3, h4, h5⟩ := h
  exact ⟨Nat.le_trans h0 hb.size, l, t, h1, h2, h3.mid hb (by omega), ownsRow_mid h4 hb (fun g hg => Or.inr (by have := (h4.lt g hg).1; omega)), h5⟩
theorem DkOwn.at_ {w : World} {lo hi : Nat} {v u : Value} {ps : List (R × Value)} {ws : List Wd} (h : DkOwn w lo hi v u ps ws) : DkAt w v u (ps.map (·.1)) ws := by
  obtain ⟨_, l, t, _, _, h3, h4, _⟩ := h
  exact ⟨h3.recs, words_of_row h4⟩
theorem DkOwn.at' {w : World} {lo hi : Nat} {v u : Value} {ps : List (R × Value)} {rs : List R} {ws : List Wd} (h : DkOwn w lo hi v u ps ws) (hp : ps.map (·.1) = rs) : DkAt w v u rs ws := hp ▸ h.at_
theorem DkOwn.lo {w : World} {lo lo' hi : Nat} {v u : Value} {ps : List (R × Value)} {ws : List Wd} (h : DkOwn w lo hi v u ps ws) (hl : lo' ≤ lo) : DkOwn w lo' hi v u ps ws := by
  obtain ⟨h0, l, t, h1, h2, h3, h4, h5⟩ := h
  exact ⟨h0, l, t, by omega, h2, h3, ownsRow_base h4 hl, h5⟩
theorem DkOwn.hi {w : World} {lo hi hi' : Nat} {v u : Value} {ps : List (R × Value)} {ws : List Wd} (h : DkOwn w lo hi v u ps ws) (hl : hi ≤ hi') (hs : hi' ≤ w.heap.size) : DkOwn w lo hi' v u ps ws := by
  obtain ⟨h0, l, t, h1, h2, h3, h4, h5⟩ := h
  exact ⟨hs, l, t, h1, by omega, h3, h4, fun g hg => ⟨by have := (h5 g hg).1; omega, (h5 g hg).2⟩⟩

theorem Mid.one {w : World} {b i : Nat} (x : Value) : Mid b (b + 1) w (w.setCell ⟨b, i, none⟩ x) := by
  refine ⟨rfl, rfl, rfl, by simp, fun k _ hk => ?_⟩
  exact Below.heap_setCell _ _ _ _ (by simp; omega)
theorem DkOwn.setBelow {w : World} {lo hi b i : Nat} {v u : Value} {ps : List (R × Value)} {ws : List Wd} (h : DkOwn w lo hi v u ps ws) (hb : b < lo) (x : Value) : DkOwn (w.setCell ⟨b, i, none⟩ x) lo hi v u ps ws := h.mid (Mid.one x) hb
/-- A log, and words in a row that lies behind it. -/
theorem DkOwn.mk_ {w w' : World} {lo : Nat} {v u : Value} {ps : List (R × Value)} {ws : List Wd} (h : OwnRecs w lo w.heap.size v ps) (hr : w'.ownsRow w.heap.size 58 4 u ws.length (wflat ws)) (hb : Below w.heap.size w w') (hl : lo ≤ w.heap.size) : DkOwn w' lo w'.heap.size v u ps ws :=
  ⟨Nat.le_refl _, lo, w.heap.size, Nat.le_refl _, hb.size, h.below hb (Nat.le_refl _), ownsRow_base hr hl, fun g hg => ⟨(hr.lt g hg).2, Or.inr (hr.lt g hg).1⟩⟩

/-- A desk comes back, in memory of the call's own. -/
def DkOut (w w' : World) (e : Ending) (up : Bool) (rs : List R) (f : Int) (ws : List Wd) : Prop :=
  ∃ ao cap au cu ps, e = .returned (deskV up (.slice ao rs.length cap) f (.slice au ws.length cu)) ∧ ps.map (·.1) = rs ∧ DkOwn w' w.heap.size w'.heap.size (.slice ao rs.length cap) (.slice au ws.length cu) ps ws ∧ Below w.heap.size w w'

theorem szDesk_any (up : Bool) (v u : Value) (rs : List R) (f : Int) (ws : List Wd) (left : Int) (w : World) (hv : DkAt w v u rs ws) (hl : (rs.length : Int) ≤ 9223372036854775807) (hls : ∀ r ∈ rs, (r.2.2.length : Int) ≤ 9223372036854775807) (hlw : (ws.length : Int) ≤ 9223372036854775807) (h0 : 0 ≤ left) (h1 : left ≤ 1048576) :
    Calls Tryd.prog 4 #[deskV up v f u, .int .i64 left] w fun e w' => e = .returned (.int .i64 (leftOf left (tot rs + ws.length))) ∧ Below w.heap.size w w' := by
  have HS : Hid (∀ o, Calls Tryd.prog 13 #[.agg #[v, .int .i64 f], .int .i64 left] (w.alloc o) fun e w' => e = .returned (.int .i64 (leftOf left (tot rs))) ∧ Below (w.alloc o).heap.size (w.alloc o) w') :=
    fun o => szLog_any v rs f left (w.alloc o) (hv.1.later ((Below.refl _ _).alloc (Nat.le_refl _) o) (Nat.le_refl _)) hl hls h0 h1
  obtain ⟨av, cv, au, cu, rfl, rfl⟩ := hv.shape
  clear hv hl hls
  by_cases hn : left - (tot rs : Int) < 0
  · rw [leftOf_neg hn] at HS
    rw [leftOf_neg (show left - ((tot rs + ws.length : Nat) : Int) < 0 by omega)]
    go_enter Tryd.func4, Tryd.ntmps4
    go_wp2_with (go_at_call 13; refine (HS.out _).mono ?_; rintro e w1 ⟨rfl, hb⟩)
    go_ret
    exact ⟨rfl, below_after (by assumption)⟩
  rw [leftOf_pos hn] at HS
  have HW : Hid (∀ W, Calls Tryd.prog 14 #[.slice au ws.length cu, .int .i64 (left - (tot rs : Int))] W fun e w' => e = .returned (.int .i64 (leftOf (left - (tot rs : Int)) ws.length)) ∧ w' = W) := fun W =>
    szWords_any au ws.length cu (left - (tot rs : Int)) W hlw (by omega) (by omega)
  have X0 : Hid (Blk (w.alloc (.cells #[.bool up, .slice av rs.length cv, .int .i64 f, .slice au ws.length cu] 27)) w.heap.size #[.bool up, .slice av rs.length cv, .int .i64 f, .slice au ws.length cu] 27) := Blk.new _ _ _
  by_cases hm : (left - (tot rs : Int)) - (ws.length : Int) < 0
  · rw [leftOf_neg hm] at HW
    rw [leftOf_neg (show left - ((tot rs + ws.length : Nat) : Int) < 0 by omega)]
    go_enter Tryd.func4, Tryd.ntmps4
    go_wp2_with fail
    refine (HS.out _).mono ?_
    rintro e w1 ⟨rfl, hb⟩
    obtain ⟨c0, c1, c2, c3⟩ := (X0.out.after hb).cells4
    have B1 := hide_it (below_after hb)
    clear hb
    go_wp2_with (go_at_call 14; refine (HW.out _).mono ?_; rintro e w2 ⟨rfl, rfl⟩)
    go_ret
    exact ⟨rfl, B1.out⟩
  · rw [leftOf_pos hm] at HW
    rw [leftOf_pos (show ¬ left - ((tot rs + ws.length : Nat) : Int) < 0 by omega)]
    go_enter Tryd.func4, Tryd.ntmps4
    go_wp2_with fail
    refine (HS.out _).mono ?_
    rintro e w1 ⟨rfl, hb⟩
    obtain ⟨c0, c1, c2, c3⟩ := (X0.out.after hb).cells4
    have B1 := hide_it (below_after hb)
    clear hb
    go_wp2_with (go_at_call 14; refine (HW.out _).mono ?_; rintro e w2 ⟨rfl, rfl⟩)
    go_ret
    refine ⟨?_, B1.out⟩
    have : left - (tot rs : Int) - (ws.length : Int) = left - ((tot rs + ws.length : Nat) : Int) := by omega
    rw [this]
    rfl

set_option maxHeartbeats 2000000 in
theorem toDesk_any (up : Bool) (v u : Value) (rs : List R) (f : Int) (ws : List Wd) (w : World) (hv : DkAt w v u rs ws) (hl : tot rs ≤ 1048576) (hlw : ws.length ≤ 1048576) :
    Calls Tryd.prog 6 #[deskV up v f u] w fun e w' => DkOut w w' e up rs f ws := by
  have HS : Hid (∀ W, Below w.heap.size w W → Calls Tryd.prog 17 #[.agg #[v, .int .i64 f]] W fun e w' => ∃ ao cap, e = .returned (.agg #[.slice ao rs.length cap, .int .i64 f]) ∧ Made w' W.heap.size (.slice ao rs.length cap) rs ∧ Below W.heap.size W w') := fun W h =>
    (toLog_any v rs f W (hv.1.later h (Nat.le_refl _)) hl).mono fun e w' ⟨h1, h2, h3⟩ => ⟨_, _, h1, h2.lo (by omega), h3⟩
  have HW : Hid (∀ W, Below w.heap.size w W → Calls Tryd.prog 18 #[u] W fun e w' => e = .returned (.slice (some ⟨W.heap.size, 0, none⟩) ws.length ws.length) ∧
      w'.ownsRow W.heap.size 58 4 (.slice (some ⟨W.heap.size, 0, none⟩) ws.length ws.length) ws.length (wflat ws) ∧ Below W.heap.size W w') := fun W h =>
    toWords_any u ws W (hv.2.later h (Nat.le_refl _)) hlw
  obtain ⟨av, cv, au, cu, rfl, rfl⟩ := hv.shape
  clear hv
  obtain ⟨w0, hw0⟩ : ∃ W, Hid (W = ((w.alloc (.cells #[.bool up, .slice av rs.length cv, .int .i64 f, .slice au ws.length cu] 27)).alloc (.cells #[.bool false, .slice none 0 0, .int .i64 0, .slice none 0 0] 35)).alloc (.cells #[.bool up, .slice none 0 0, .int .i64 0, .slice none 0 0] 35)) := ⟨_, rfl⟩
  have B0 : Hid (Below w.heap.size w w0) := by show Below _ _ _; rw [hw0.out]; exact below3 _ _ _ _
  have hs0 : w0.heap.size = w.heap.size + 3 := by rw [hw0.out, size3]
  have X0 : Hid (Blk w0 w.heap.size #[.bool up, .slice av rs.length cv, .int .i64 f, .slice au ws.length cu] 27) := by show Blk _ _ _ _; rw [hw0.out]; exact ((Blk.new _ _ _).alloc _).alloc _
  have Y0 : Hid (Blk w0 (w.heap.size + 1) #[.bool false, .slice none 0 0, .int .i64 0, .slice none 0 0] 35) := by show Blk _ _ _ _; rw [hw0.out]; exact (Blk.new2 _ _ _ _).alloc _
  have Z0 : Hid (Blk w0 (w.heap.size + 1 + 1) #[.bool up, .slice none 0 0, .int .i64 0, .slice none 0 0] 35) := by
    show Blk _ _ _ _
    rw [hw0.out]
    have h := Blk.new ((w.alloc (.cells #[.bool up, .slice av rs.length cv, .int .i64 f, .slice au ws.length cu] 27)).alloc (.cells #[.bool false, .slice none 0 0, .int .i64 0, .slice none 0 0] 35)) #[.bool up, .slice none 0 0, .int .i64 0, .slice none 0 0] 35
    rw [size2] at h
    exact h
  go_enter Tryd.func6, Tryd.ntmps6
  go_wp2_with fail
  rw [← hw0.out]
  refine (HS.out _ B0.out).mono ?_
  rintro e w1 ⟨ao, cap, rfl, hm, hb⟩
  have X1 := hide_it (X0.out.after hb)
  have Y1 := hide_it (Y0.out.after hb)
  have Z1 := hide_it (Z0.out.after hb)
  have hz1 : w.heap.size + 3 ≤ w1.heap.size := by have := hb.size; omega
  obtain ⟨w2, hw2⟩ : ∃ W, Hid (W = (w1.setCell ⟨w.heap.size + 1 + 1, 1, none⟩ (.slice ao rs.length cap)).setCell ⟨w.heap.size + 1 + 1, 2, none⟩ (.int .i64 f)) := ⟨_, rfl⟩
  have B1 := hide_it (B0.out.trans (hb.mono B0.out.size))
  have M2 : Hid (Made w2 w0.heap.size (.slice ao rs.length cap) rs) := by
    show Made _ _ _ _
    rw [hw2.out]
    exact (hm.setBelow (by simp; omega) _).setBelow (by simp; omega) _
  have B2 : Hid (Below w.heap.size w w2) := by
    show Below _ _ _
    rw [hw2.out]
    exact (B1.out.setCell (by simp; omega) _).setCell (by simp; omega) _
  have X2 : Hid (Blk w2 w.heap.size #[.bool up, .slice av rs.length cv, .int .i64 f, .slice au ws.length cu] 27) := by show Blk _ _ _ _; rw [hw2.out]; exact (X1.out.other (by simp; omega) _).other (by simp; omega) _
  have Y2 : Hid (Blk w2 (w.heap.size + 1) #[.bool false, .slice none 0 0, .int .i64 0, .slice none 0 0] 35) := by show Blk _ _ _ _; rw [hw2.out]; exact (Y1.out.other (by simp) _).other (by simp) _
  have Z2 : Hid (Blk w2 (w.heap.size + 1 + 1) #[.bool up, .slice ao rs.length cap, .int .i64 f, .slice none 0 0] 35) := by show Blk _ _ _ _; rw [hw2.out]; exact (Z1.out.set_ 1 _).set_ 2 _
  have hz2 : w.heap.size + 3 ≤ w2.heap.size := by rw [hw2.out]; simpa using hz1
  have hz02 : w0.heap.size ≤ w2.heap.size := by omega
  obtain ⟨z0, z1, z2, z3⟩ := Z1.out.cells4
  obtain ⟨zf0, zf1, zf2, zf3⟩ := Z1.out.free4
  obtain ⟨x0, x1, x2, x3⟩ := X1.out.cells4
  clear hm hb
  go_wp2_with fail
  rw [← hw2.out]
  clear z0 z1 z2 z3 zf0 zf1 zf2 zf3 x0 x1 x2 x3
  refine (HW.out _ B2.out).mono ?_
  rintro e w3 ⟨rfl, hr3, hb3⟩
  obtain ⟨ps, hp, ho⟩ := M2.out
  have HO3 := hide_it (DkOwn.mk_ ho hr3 hb3 hz02)
  have HP := hide_it hp
  have B3 := hide_it (B2.out.trans (hb3.mono B2.out.size))
  have Y3 := hide_it (Y2.out.after hb3)
  have Z3 := hide_it (Z2.out.after hb3)
  have hz3 : w.heap.size + 3 ≤ w3.heap.size := by have := hb3.size; omega
  have HS0 := hide_it hs0
  clear hr3 hb3 ho hp hs0
  obtain ⟨z0, z1, z2, z3⟩ := Z3.out.cells4
  obtain ⟨zf0, zf1, zf2, zf3⟩ := Z3.out.free4
  obtain ⟨y0, y1, y2, y3⟩ := Y3.out.cells4
  obtain ⟨yf0, yf1, yf2, yf3⟩ := Y3.out.free4
  go_wp2
  refine bodyPost_ret (v := deskV up (.slice ao rs.length cap) f (.slice (some ⟨w2.heap.size, 0, none⟩) ws.length ws.length)) (by simp [results, Tryd.results6, go_sem, *]) rfl ?_
  refine ⟨ao, cap, _, _, ps, rfl, HP.out, ?_, ?_⟩
  · refine DkOwn.lo (lo := w0.heap.size) ?_ (by have := HS0.out; omega)
    repeat (refine DkOwn.setBelow ?_ (by have := HS0.out; omega) _)
    first | exact HO3.out | (simpa using HO3.out)
  · repeat (refine Below.setCell ?_ (by first | (simp; done) | (simp; omega)) _)
    exact B3.out

set_option maxHeartbeats 2000000 in
theorem eqDesk_any (up : Bool) (v1 u1 v2 u2 : Value) (rs : List R) (f : Int) (ws : List Wd) (w : World) (h1 : DkAt w v1 u1 rs ws) (h2 : DkAt w v2 u2 rs ws) (hl : tot rs ≤ 1048576) (hlw : ws.length ≤ 1048576) :
    Calls Tryd.prog 9 #[deskV up v1 f u1, deskV up v2 f u2] w fun e w' => e = .returned (.bool true) ∧ Below w.heap.size w w' := by
  have H1 : Hid (∀ W, Below w.heap.size w W → DkAt W v1 u1 rs ws) := fun W h => h1.later h (Nat.le_refl _)
  have H2 : Hid (∀ W, Below w.heap.size w W → DkAt W v2 u2 rs ws) := fun W h => h2.later h (Nat.le_refl _)
  obtain ⟨a1, p1, b1, q1, rfl, rfl⟩ := h1.shape
  obtain ⟨a2, p2, b2, q2, rfl, rfl⟩ := h2.shape
  clear h1 h2
  obtain ⟨w0, hw0⟩ : ∃ W, Hid (W = (w.alloc (.cells #[.bool up, .slice a1 rs.length p1, .int .i64 f, .slice b1 ws.length q1] 35)).alloc (.cells #[.bool up, .slice a2 rs.length p2, .int .i64 f, .slice b2 ws.length q2] 35)) := ⟨_, rfl⟩
  have B0 : Hid (Below w.heap.size w w0) := by show Below _ _ _; rw [hw0.out]; exact below2 _ _ _
  have X0 : Hid (Blk w0 w.heap.size #[.bool up, .slice a1 rs.length p1, .int .i64 f, .slice b1 ws.length q1] 35) := by show Blk _ _ _ _; rw [hw0.out]; exact (Blk.new _ _ _).alloc _
  have Y0 : Hid (Blk w0 (w.heap.size + 1) #[.bool up, .slice a2 rs.length p2, .int .i64 f, .slice b2 ws.length q2] 35) := by show Blk _ _ _ _; rw [hw0.out]; exact Blk.new2 _ _ _ _
  cases up
  all_goals
    go_enter Tryd.func9, Tryd.ntmps9
    go_wp2_with fail
    rw [← hw0.out]
    refine (eqLog_any _ _ rs f _ (H1.out _ B0.out).1 (H2.out _ B0.out).1 hl).mono ?_
    rintro e w1 ⟨rfl, hb⟩
    have B1 := hide_it (B0.out.trans (hb.mono B0.out.size))
    obtain ⟨x0, x1, x2, x3⟩ := (X0.out.after hb).cells4
    obtain ⟨y0, y1, y2, y3⟩ := (Y0.out.after hb).cells4
    clear hb
    go_wp2_with fail
    refine (eqWords_any _ _ ws _ (H1.out _ B1.out).2 (H2.out _ B1.out).2 hlw).mono ?_
    rintro e w2 ⟨rfl, hb⟩
    have B2 := hide_it (B1.out.trans (hb.mono B1.out.size))
    clear hb
    go_wp2
    go_ret
    exact ⟨rfl, B2.out⟩

/-- How far the marks go over a desk. -/
def kDk (rs : List R) (k : Int) (n : Nat) : Int := kAt rs k rs.length + 4 * n

set_option maxHeartbeats 2000000 in
theorem markDesk_any (up : Bool) (v u : Value) (ps : List (R × Value)) (f : Int) (ws : List Wd) (k : Int) (lo hi : Nat) (w : World) (ho : DkOwn w lo hi v u ps ws) (hl : tot (ps.map (·.1)) ≤ 1048576) (hlw : ws.length ≤ 1048576) (hk0 : 0 ≤ k) (hk1 : k ≤ 1000) :
    Calls Tryd.prog 10 #[deskV up v f u, .int .i64 k] w fun e w' => e = .returned (.int .i64 (kDk (ps.map (·.1)) k ws.length)) ∧ DkAt w' v u (markAll (ps.map (·.1)) k) (markW ws.length (kAt (ps.map (·.1)) k ps.length)) ∧ Mid lo hi w w' := by
  obtain ⟨h0, l, t, h1, h2, h3, h4, h5⟩ := ho
  have hKb := kAt_bd (ps.map (·.1)) k ps.length (by simp) hl hk0 hk1
  have hll : (ps.map (·.1)).length = ps.length := by simp
  have hlo : ∀ g, u.ownBlock = some g → lo ≤ g := fun g hg => (h4.lt g hg).1
  have HS : Hid (∀ o, Calls Tryd.prog 24 #[.agg #[v, .int .i64 f], .int .i64 k] (w.alloc o) fun e w' => e = .returned (.int .i64 (kAt (ps.map (·.1)) k ps.length)) ∧ OwnRecs w' l t v (stg ps k ps.length) ∧ Mid l t (w.alloc o) w') := fun o =>
    markLog_any v ps f k l t (w.alloc o) (h3.below (alloc_below w o) (by omega)) hl hk0 hk1
  have HW : Hid (∀ w1, w1.ownsRow lo 58 4 u ws.length (wflat ws) → Calls Tryd.prog 11 #[u, .int .i64 (kAt (ps.map (·.1)) k ps.length)] w1 fun e w' => e = .returned (.int .i64 (kAt (ps.map (·.1)) k ps.length + 4 * ws.length)) ∧ w'.ownsRow lo 58 4 u ws.length (wflat (markW ws.length (kAt (ps.map (·.1)) k ps.length))) ∧ w1.grownBy w' u.ownBlock) := fun w1 h =>
    markWords_any u ws _ lo ws.length w1 h hlw hKb.1 (by omega)
  have HR : Hid (∀ o w1, Mid l t (w.alloc o) w1 → w1.ownsRow lo 58 4 u ws.length (wflat ws)) := fun o w1 hm =>
    ownsRow_mid (h4.alloc o) hm (fun g hg => (h5 g hg).2)
  have HF : Hid (∀ o w1 w2, Mid l t (w.alloc o) w1 → OwnRecs w1 l t v (stg ps k ps.length) → w1.grownBy w2 u.ownBlock → w2.ownsRow lo 58 4 u ws.length (wflat (markW ws.length (kAt (ps.map (·.1)) k ps.length))) →
      DkAt w2 v u (markAll (ps.map (·.1)) k) (markW ws.length (kAt (ps.map (·.1)) k ps.length)) ∧ Mid lo hi w w2) := fun o w1 w2 hm hw hg hr => by
    have hrow : ∀ x : Value, x.ownBlock = none ∨ x.ownBlock ≠ u.ownBlock ∨ x.ownBlock = u.ownBlock := fun x => by
      by_cases e : x.ownBlock = u.ownBlock
      · exact Or.inr (Or.inr e)
      · exact Or.inr (Or.inl e)
    have apart : ∀ (x : Value) (b : Nat), x.ownBlock = some b → l ≤ b → b < t → x.ownBlock ≠ u.ownBlock := fun x b hx hb1 hb2 e => by
      rw [hx] at e
      have := (h5 b e.symm).2
      omega
    have keep : OwnRecs w2 l t v (stg ps k ps.length) := by
      obtain ⟨q1, q2, q3⟩ := hw
      refine ⟨q1.kept hg ?_, q2, q3.kept hg fun p hp => ?_⟩
      · cases hv : v.ownBlock with
        | none => exact Or.inl rfl
        | some b => exact Or.inr (hv ▸ apart v b hv (q1.lt b hv).1 (q2 b hv))
      · cases hv : p.2.ownBlock with
        | none => exact Or.inl rfl
        | some b => exact Or.inr (hv ▸ apart p.2 b hv ((q3.2.1 p hp).1.lt b hv).1 ((q3.2.1 p hp).2 b hv))
    refine ⟨⟨?_, ?_⟩, ?_⟩
    · have := keep.recs
      rw [stg_all] at this
      exact this
    · have hlen : (markW ws.length (kAt (ps.map (·.1)) k ps.length)).length = ws.length := markW_length _ _
      have hr' : w2.ownsRow lo 58 4 u (markW ws.length (kAt (ps.map (·.1)) k ps.length)).length (wflat (markW ws.length (kAt (ps.map (·.1)) k ps.length))) := by rw [hlen]; exact hr
      exact words_of_row hr'
    · have m1 : Mid lo hi w (w.alloc o) := Mid.of_below (alloc_below w o) (Nat.le_refl _)
      have m2 : Mid lo hi (w.alloc o) w1 := ⟨hm.os, hm.tape, hm.output, hm.size, fun j hj hh => hm.block j hj (by omega)⟩
      have m3 : Mid lo hi w1 w2 := Mid.of_grown hg (fun j hj => ⟨hlo j hj, (h5 j hj).1⟩)
      exact (m1.trans m2).trans m3
  obtain ⟨av, cv, rfl⟩ := row_shape h3.1
  obtain ⟨au, cu, rfl⟩ := row_shape h4
  have HE : Hid (kDk (ps.map (·.1)) k ws.length = kAt (ps.map (·.1)) k ps.length + 4 * ws.length) := by show _ = _; unfold kDk; rw [hll]
  rw [HE.out]
  obtain ⟨K, hK⟩ : ∃ x, kAt (ps.map (·.1)) k ps.length = x := ⟨_, rfl⟩
  rw [hK] at HS HW HF hKb ⊢
  have X0 : Hid (∀ o, Blk (w.alloc (.cells #[.bool up, .slice av ps.length cv, .int .i64 f, .slice au ws.length cu] o)) w.heap.size #[.bool up, .slice av ps.length cv, .int .i64 f, .slice au ws.length cu] o) := fun o => Blk.new _ _ _
  have hwt : Hid (t ≤ w.heap.size) := by show _ ≤ _; omega
  clear h0 h1 h2 h3 h4 h5 hlo hll hK HE
  go_enter Tryd.func10, Tryd.ntmps10
  go_wp2_with fail
  refine (HS.out _).mono ?_
  rintro e w1 ⟨rfl, ho1, hm1⟩
  obtain ⟨x0, x1, x2, x3⟩ := ((X0.out 35).mid hm1 (Or.inr hwt.out)).cells4
  have R1 := hide_it (HR.out _ w1 hm1)
  have F1 := hide_it (fun w2 => HF.out _ w1 w2 hm1 ho1)
  clear ho1 hm1
  go_wp2_with fail
  refine (HW.out w1 R1.out).mono ?_
  rintro e w2 ⟨rfl, hr2, hg2⟩
  have G2 := hide_it (F1.out w2 hg2 hr2)
  clear hr2 hg2
  go_wp2
  go_ret
  exact ⟨rfl, G2.out.1, G2.out.2⟩

end Go.Proofs.YtgknnigjlnfplaaDoor

namespace Go.Proofs.YtgknnigjlnfplaaDoor
open Go.ChangeShapes Go.WideShapes Go.ChangeAt Go.WideMaps Go.WideElems Go.RowKit Go.Joins

theorem cellsWordL : Tryd.prog.cellsOf 76 = 4 := by kernel_rfl
theorem cellsDeskL : Tryd.prog.cellsOf 27 = 4 := by kernel_rfl
theorem cellsBool : Tryd.prog.cellsOf 4 = 1 := by kernel_rfl
theorem cellsRecsL : Tryd.prog.cellsOf 22 = 1 := by kernel_rfl
theorem cellsWordsL : Tryd.prog.cellsOf 25 = 1 := by kernel_rfl
theorem array4 {α : Type} {cs : Array α} (h : cs.size = 4) : ∃ c0 c1 c2 c3, cs = #[c0, c1, c2, c3] := by
  obtain ⟨l⟩ := cs
  match l, h with
  | [c0, c1, c2, c3], _ => exact ⟨c0, c1, c2, c3, rfl⟩

section
variable {H : Type} {enc : TypeId × Value → H} {W : World}

set_option maxRecDepth 100000 in
theorem word_of_trod {fuel : Nat} {b o : Nat} {cs : List Value} {y : DataW H × List MemPlace} (hc : W.cells? 0 ⟨b, o, none⟩ 4 = some cs) (h : DataW.trod enc Tryd.prog W 0 (fun _ => true) true fuel 76 cs = some y) :
    ∃ p : Wd, W.cell? ⟨b, o, none⟩ = some (.int .i64 p.1) ∧ W.cell? ⟨b, o + 1, none⟩ = some (.int .i64 p.2.1) ∧ W.cell? ⟨b, o + 2, none⟩ = some (.int .i64 p.2.2.1) ∧ W.cell? ⟨b, o + 3, none⟩ = some (.int .i64 p.2.2.2) := by
  obtain ⟨y0, y1, y2, y3, n, _, hl, h0, h1, h2, h3⟩ := trod_struct4 Tryd.underlying76 h
  rw [cellsWordL] at hl
  match cs, hl with
  | [c0, c1, c2, c3], _ =>
    simp only [cellsInt] at h0 h1 h2 h3
    obtain ⟨k, e0, _, _⟩ := DataW.trod_int Tryd.underlying3 h0
    obtain ⟨t, e1, _, _⟩ := DataW.trod_int Tryd.underlying3 h1
    obtain ⟨r, e2, _, _⟩ := DataW.trod_int Tryd.underlying3 h2
    obtain ⟨s, e3, _, _⟩ := DataW.trod_int Tryd.underlying3 h3
    simp at e0 e1 e2 e3
    subst e0 e1 e2 e3
    obtain ⟨_, _, hcs⟩ := World.cells?_some hc
    refine ⟨(k, t, r, s), ?_, ?_, ?_, ?_⟩
    · simpa [Addr.add] using hcs 0 (by omega)
    · simpa [Addr.add] using hcs 1 (by omega)
    · simpa [Addr.add] using hcs 2 (by omega)
    · simpa [Addr.add] using hcs 3 (by omega)

theorem words_of_trod {fuel : Nat} {c : Value} {y : DataW H × List MemPlace} (h : DataW.trod enc Tryd.prog W 0 (fun _ => true) true fuel 25 [c] = some y) :
    ∃ hs : List Wd, Words W c hs ∧ (hs.length : Int) ≤ 9223372036854775807 := by
  rcases Deep.open_slice Tryd.underlying25 h with ⟨hcs, hx⟩ | ⟨a, len, cap, m, n, D, Pq, hcs, _, hl, hm, hmm, hx, hel⟩
  · simp at hcs
    subst hcs
    exact ⟨[], Or.inl ⟨rfl, _, _, rfl, fun _ => rfl⟩, by simp⟩
  · simp at hcs
    subst hcs
    simp only [if_pos] at hmm
    rw [cellsWordL] at hel
    by_cases h0 : len = 0
    · subst h0
      exact ⟨[], Or.inl ⟨rfl, _, _, rfl, fun h => by cases h⟩, by simp⟩
    · obtain ⟨b, off, spot⟩ := a
      have hspot : spot = none := by
        obtain ⟨cs', hc, _⟩ := hel 0 (by omega)
        obtain ⟨_, hlen', hcs⟩ := World.cells?_some hc
        have h1 := hcs 0 (by omega)
        rw [List.getElem?_eq_getElem (by omega)] at h1
        simpa [Addr.add] using World.cell?_spot h1
      subst hspot
      have each : ∀ i : Nat, ∃ p : Wd, i < len → W.cell? ⟨b, off + i * 4, none⟩ = some (.int .i64 p.1) ∧ W.cell? ⟨b, off + i * 4 + 1, none⟩ = some (.int .i64 p.2.1) ∧ W.cell? ⟨b, off + i * 4 + 2, none⟩ = some (.int .i64 p.2.2.1) ∧ W.cell? ⟨b, off + i * 4 + 3, none⟩ = some (.int .i64 p.2.2.2) := fun i => by
        by_cases hi : i < len
        · obtain ⟨cs', hc, ht⟩ := hel i (by omega)
          rw [add_plain] at hc
          obtain ⟨p, h1⟩ := word_of_trod hc ht
          exact ⟨p, fun _ => h1⟩
        · exact ⟨(0, 0, 0, 0), fun h => absurd h hi⟩
      obtain ⟨F, hF⟩ := Classical.axiomOfChoice each
      have hlen : ((List.range len).map F).length = len := by simp
      refine ⟨(List.range len).map F, Or.inr ⟨b, off, cap, by rw [hlen], by intro e; rw [e] at hlen; simp at hlen; omega, fun i hi => ?_⟩, by rw [hlen]; unfold maxLen at hm; omega⟩
      rw [hlen] at hi
      have e : ((List.range len).map F).getD i (0, 0, 0, 0) = F i := by simp [List.getD_eq_getElem?_getD, hi]
      rw [e]
      exact hF i hi

set_option maxRecDepth 100000 in
/-- A desk that came in. -/
theorem open_desk {base : Nat} {v : Value} {d : DataW H} {p : List MemPlace} (hval : Value.okWide Tryd.prog W .any base 27 v) (h : DataW.Trod enc Tryd.prog W 0 (fun _ => true) true 27 v d p) :
    ∃ (up : Bool) (x : Value) (f : Int) (y : Value) (rs : List R) (ws : List Wd), v = deskV up x f y ∧ DkAt W x y rs ws ∧ (rs.length : Int) ≤ 9223372036854775807 ∧ (∀ r ∈ rs, (r.2.2.length : Int) ≤ 9223372036854775807) ∧ (ws.length : Int) ≤ 9223372036854775807 := by
  obtain ⟨cs, rfl, hsz⟩ := okWide_struct Tryd.underlying27 hval
  obtain ⟨c0, c1, c2, c3, rfl⟩ := array4 (hsz.trans cellsDeskL)
  obtain ⟨fuel, hf⟩ := h
  obtain ⟨y0, y1, y2, n, hx, _, h0, h1, h2⟩ := Deep.trod_struct3 Tryd.underlying27 hf
  simp only [Value.cells, cellsBool, cellsLogL, cellsWordsL] at h0 h1 h2
  obtain ⟨up, e0, _⟩ := DataW.trod_bool Tryd.underlying4 h0
  simp at e0
  subst e0
  obtain ⟨z0, z1, m, hy, _, g0, g1⟩ := trod_struct2 Tryd.underlying24 h1
  simp only [cellsInt, cellsRecsL] at g0 g1
  obtain ⟨f, e4, _, _⟩ := DataW.trod_int Tryd.underlying3 g1
  simp at e4
  subst e4
  obtain ⟨rs, r1, r2, r3⟩ := recs_of_trod (c := c1) (by simpa using g0)
  obtain ⟨ws, s1, s2⟩ := words_of_trod (c := c3) (by simpa using h2)
  exact ⟨up, _, f, _, rs, ws, rfl, ⟨r1, s1⟩, r2, r3, s2⟩

end
end Go.Proofs.YtgknnigjlnfplaaDoor

namespace Go.Proofs.YtgknnigjlnfplaaDoor.T
open Go.RowKit

end Go.Proofs.YtgknnigjlnfplaaDoor.T

namespace Go.Proofs.YtgknnigjlnfplaaDoor.T
open Go.RowKit

/-- A trip as plain data: what it wants, its state. -/
abbrev R := List Int × Int

/-- A record lies at this place of a block. -/
def RecCells (w : World) (b o : Nat) (r : R) (u : Value) : Prop :=
  w.cell? ⟨b, o, none⟩ = some u ∧ w.cell? ⟨b, o + 1, none⟩ = some (.int .i64 r.2) ∧ Ints w u r.1

/-- The value v is a slice of just these records in the world w. -/
def Recs (w : World) (v : Value) (rs : List R) : Prop :=
  (rs = [] ∧ ∃ ao cap, v = .slice ao 0 cap) ∨
  (∃ b off cap, v = .slice (some ⟨b, off, none⟩) rs.length cap ∧ rs ≠ [] ∧ ∀ i r, rs[i]? = some r → ∃ u, RecCells w b (off + i * 2) r u)

/-- How many numbers the first k records have together; all of them, and the records. -/
def pre (rs : List R) (k : Nat) : Nat := ((rs.take k).map fun r => r.1.length).sum
def tot (rs : List R) : Nat := rs.length + pre rs rs.length
theorem pre_zero (rs : List R) : pre rs 0 = 0 := by simp [pre]
theorem pre_succ (rs : List R) (k : Nat) (r : R) (h : rs[k]? = some r) : pre rs (k + 1) = pre rs k + r.1.length := by
  have hk : k < rs.length := by
    by_cases hk : k < rs.length
    · exact hk
    · rw [List.getElem?_eq_none (by omega)] at h; cases h
  rw [List.getElem?_eq_getElem hk] at h
  simp only [Option.some.injEq] at h
  unfold pre
  rw [List.take_succ_eq_append_getElem hk, h]
  simp
theorem pre_le (rs : List R) (k : Nat) : pre rs k ≤ pre rs rs.length := by
  unfold pre
  rw [List.take_length]
  have h : (rs.map fun r : R => r.1.length).sum = ((rs.take k ++ rs.drop k).map fun r : R => r.1.length).sum := by rw [List.take_append_drop]
  rw [h, List.map_append, List.sum_append_nat]
  exact Nat.le_add_right _ _
theorem tot_len (rs : List R) : rs.length ≤ tot rs := by unfold tot; omega
theorem tot_mem (rs : List R) (r : R) (h : r ∈ rs) : r.1.length ≤ tot rs := by
  obtain ⟨i, hi, hr⟩ := List.mem_iff_getElem.1 h
  have h1 := pre_succ rs i r (by rw [List.getElem?_eq_getElem hi, hr])
  have h2 := pre_le rs (i + 1)
  unfold tot; omega


theorem RecCells.later {B : Nat} {w w' : World} {b o : Nat} {r : R} {u : Value} (h : RecCells w b o r u) (hb : Below B w w') (hB : w.heap.size ≤ B) : RecCells w' b o r u := by
  obtain ⟨h0, h1, h3⟩ := h
  have hlt := World.block_lt_of_cell? _ _ h0
  simp at hlt
  exact ⟨by rw [← h0]; exact hb.cell (p := ⟨b, o, none⟩) (by simp; omega), by rw [← h1]; exact hb.cell (p := ⟨b, o + 1, none⟩) (by simp; omega), h3.later hb hB⟩

theorem Recs.later {B : Nat} {w w' : World} {v : Value} {rs : List R} (h : Recs w v rs) (hb : Below B w w') (hB : w.heap.size ≤ B) : Recs w' v rs := by
  rcases h with h | ⟨b, off, cap, hv, hz, hc⟩
  · exact Or.inl h
  · refine Or.inr ⟨b, off, cap, hv, hz, fun i r hr => ?_⟩
    obtain ⟨u, hu⟩ := hc i r hr
    exact ⟨u, hu.later hb hB⟩

theorem Recs.shape {w : World} {v : Value} {rs : List R} (h : Recs w v rs) : ∃ ao cap, v = .slice ao rs.length cap := by
  rcases h with ⟨rfl, ao, cap, rfl⟩ | ⟨b, off, cap, rfl, _, _⟩
  · exact ⟨ao, cap, rfl⟩
  · exact ⟨_, cap, rfl⟩

end Go.Proofs.YtgknnigjlnfplaaDoor.T

namespace Go.Proofs.YtgknnigjlnfplaaDoor.T
open Go.RowKit

/-- Records, each with the slice that holds its numbers, as they lie in a row. -/
def flat : List (R × Value) → List Value
  | [] => []
  | p :: t => p.2 :: .int .i64 p.1.2 :: flat t

theorem flat_length (ps : List (R × Value)) : (flat ps).length = ps.length * 2 := by
  induction ps with
  | nil => rfl
  | cons p t ih => simp only [flat, List.length_cons, ih]; omega
theorem flat_append (ps qs : List (R × Value)) : flat (ps ++ qs) = flat ps ++ flat qs := by
  induction ps with
  | nil => rfl
  | cons p t ih => simp [flat, ih]
theorem flat_get (ps : List (R × Value)) (i : Nat) (p : R × Value) (h : ps[i]? = some p) :
    (flat ps)[i * 2]? = some p.2 ∧ (flat ps)[i * 2 + 1]? = some (.int .i64 p.1.2) := by
  induction ps generalizing i with
  | nil => simp at h
  | cons q t ih =>
    cases i with
    | zero => simp at h; subst h; simp [flat]
    | succ i =>
      have := ih i (by simpa using h)
      rw [show (i + 1) * 2 = i * 2 + 2 by omega]
      simpa [flat] using this
theorem flat_set (ps : List (R × Value)) (k : Nat) (r : R) (u : Value) (h : k < ps.length) :
    ((flat ps).set (k * 2) u).set (k * 2 + 1) (.int .i64 r.2) = flat (ps.set k (r, u)) := by
  induction ps generalizing k with
  | nil => simp at h
  | cons q t ih =>
    cases k with
    | zero => simp [flat]
    | succ k =>
      have := ih k (by simpa using h)
      rw [show (k + 1) * 2 = k * 2 + 2 by omega]
      simp only [flat, List.set_cons_succ]
      rw [this]

/-- The numbers of these records lie in rows of the call's own, from lo on and below hi, each apart from the others. -/
def Inner (w : World) (lo hi : Nat) (ps : List (R × Value)) : Prop :=
  hi ≤ w.heap.size ∧
  (∀ p ∈ ps, w.ownsRow lo 3 1 p.2 p.1.1.length (p.1.1.map (Value.int .i64)) ∧ ∀ k, p.2.ownBlock = some k → k < hi) ∧
  (∀ (i j : Nat) (p q : R × Value), ps[i]? = some p → ps[j]? = some q → i ≠ j → p.2.ownBlock = none ∨ p.2.ownBlock ≠ q.2.ownBlock)

theorem Inner.nil (w : World) (lo hi : Nat) (h : hi ≤ w.heap.size) : Inner w lo hi [] :=
  ⟨h, fun p hp => by simp at hp, fun i j p q hp => by simp at hp⟩

theorem Inner.below {w w' : World} {lo hi B : Nat} {ps : List (R × Value)} (h : Inner w lo hi ps) (hb : Below B w w') (hB : hi ≤ B) : Inner w' lo hi ps :=
  ⟨Nat.le_trans h.1 hb.size, fun p hp => ⟨ownsRow_below (h.2.1 p hp).1 hb (fun k hk => by have := (h.2.1 p hp).2 k hk; omega), (h.2.1 p hp).2⟩, h.2.2⟩

theorem Inner.mono {w : World} {lo hi hi' : Nat} {ps : List (R × Value)} (h : Inner w lo hi ps) (h1 : hi ≤ hi') (h2 : hi' ≤ w.heap.size) : Inner w lo hi' ps :=
  ⟨h2, fun p hp => ⟨(h.2.1 p hp).1, fun k hk => by have := (h.2.1 p hp).2 k hk; omega⟩, h.2.2⟩

/-- A row of records lies in no row of numbers. -/
theorem Inner.apart {w : World} {lo hi : Nat} {ps : List (R × Value)} (h : Inner w lo hi ps) {g : Nat} {cur : Array Value} {ty : TypeId} {fz : Nat × Nat} (hg : w.heap[g]? = some (.cells cur ty fz)) (ht : ty ≠ 3) : ∀ p ∈ ps, p.2.ownBlock ≠ some g := by
  intro p hp e
  rcases (h.2.1 p hp).1.2 with ⟨hv, _⟩ | ⟨g', cap, cur', hv, _, hh, _⟩
  · rw [hv] at e; simp [Value.ownBlock] at e
  · rw [hv] at e
    simp [Value.ownBlock] at e
    subst e
    rw [hg] at hh
    simp at hh
    exact ht hh.2.1

theorem Inner.kept {w w' : World} {lo hi : Nat} {row : Option Nat} {ps : List (R × Value)} (h : Inner w lo hi ps) (hg : w.grownBy w' row) (hne : ∀ p ∈ ps, p.2.ownBlock = none ∨ p.2.ownBlock ≠ row) : Inner w' lo hi ps :=
  ⟨Nat.le_trans h.1 hg.size, fun p hp => ⟨(h.2.1 p hp).1.kept hg (hne p hp), (h.2.1 p hp).2⟩, h.2.2⟩

/-- One more record, its numbers in a row that lies behind all. -/
theorem Inner.snoc {w : World} {lo hi hi' : Nat} {ps : List (R × Value)} {p : R × Value} (h : Inner w lo hi ps) (h1 : hi ≤ hi') (h2 : hi' ≤ w.heap.size)
    (ho : w.ownsRow lo 3 1 p.2 p.1.1.length (p.1.1.map (Value.int .i64))) (hp : ∀ k, p.2.ownBlock = some k → hi ≤ k ∧ k < hi') : Inner w lo hi' (ps ++ [p]) := by
  refine ⟨h2, fun q hq => ?_, fun i j q r hq hr hij => ?_⟩
  · rcases List.mem_append.1 hq with hq | hq
    · exact ⟨(h.2.1 q hq).1, fun k hk => by have := (h.2.1 q hq).2 k hk; omega⟩
    · simp at hq; subst hq; exact ⟨ho, fun k hk => (hp k hk).2⟩
  · by_cases hi1 : i < ps.length
    · rw [List.getElem?_append_left hi1] at hq
      by_cases hj1 : j < ps.length
      · rw [List.getElem?_append_left hj1] at hr
        exact h.2.2 i j q r hq hr hij
      · rw [List.getElem?_append_right (by omega)] at hr
        have hj0 : j - ps.length = 0 := by
          by_cases e : j - ps.length = 0
          · exact e
          · rw [List.getElem?_eq_none (by simp; omega)] at hr; cases hr
        rw [hj0] at hr
        simp at hr
        subst hr
        cases hb : q.2.ownBlock with
        | none => exact Or.inl rfl
        | some k =>
          refine Or.inr fun e => ?_
          have h3 := (h.2.1 q (List.mem_of_getElem? hq)).2 k hb
          have h4 := (hp k e.symm).1
          omega
    · rw [List.getElem?_append_right (by omega)] at hq
      have hi0 : i - ps.length = 0 := by
        by_cases e : i - ps.length = 0
        · exact e
        · rw [List.getElem?_eq_none (by simp; omega)] at hq; cases hq
      rw [hi0] at hq
      simp at hq
      subst hq
      by_cases hj1 : j < ps.length
      · rw [List.getElem?_append_left hj1] at hr
        cases hb : p.2.ownBlock with
        | none => exact Or.inl rfl
        | some k =>
          refine Or.inr fun e => ?_
          have h3 := (h.2.1 r (List.mem_of_getElem? hr)).2 k e.symm
          have h4 := (hp k hb).1
          omega
      · rw [List.getElem?_append_right (by omega)] at hr
        have hj0 : j - ps.length = 0 := by
          by_cases e : j - ps.length = 0
          · exact e
          · rw [List.getElem?_eq_none (by simp; omega)] at hr; cases hr
        omega

/-- A list of records of the call's own: its row, and the rows of its numbers. -/
def OwnRecs (w : World) (lo hi : Nat) (v : Value) (ps : List (R × Value)) : Prop :=
  w.ownsRow lo 73 2 v ps.length (flat ps) ∧ (∀ k, v.ownBlock = some k → k < hi) ∧ Inner w lo hi ps

theorem OwnRecs.below {w w' : World} {lo hi B : Nat} {v : Value} {ps : List (R × Value)} (h : OwnRecs w lo hi v ps) (hb : Below B w w') (hB : hi ≤ B) : OwnRecs w' lo hi v ps :=
  ⟨ownsRow_below h.1 hb (fun k hk => by have := h.2.1 k hk; omega), h.2.1, h.2.2.below hb hB⟩

theorem OwnRecs.recs {w : World} {lo hi : Nat} {v : Value} {ps : List (R × Value)} (h : OwnRecs w lo hi v ps) : Recs w v (ps.map (·.1)) := by
  obtain ⟨h1, _, h3⟩ := h
  by_cases hp : ps = []
  · subst hp
    rcases h1.2 with ⟨hv, _⟩ | ⟨g, cap, cur, hv, _⟩
    · exact Or.inl ⟨rfl, none, 0, hv⟩
    · exact Or.inl ⟨rfl, _, cap, hv⟩
  · rcases h1.2 with ⟨_, hn⟩ | ⟨g, cap, cur, hv, _⟩
    · exact absurd (List.length_eq_zero_iff.1 hn) hp
    · subst hv
      refine Or.inr ⟨g, 0, cap, by simp, by simpa using hp, fun i r hr => ?_⟩
      rw [List.getElem?_map] at hr
      cases hpi : ps[i]? with
      | none => rw [hpi] at hr; cases hr
      | some p =>
        rw [hpi] at hr
        simp at hr
        subst hr
        have hil : i < ps.length := by
          by_cases e : i < ps.length
          · exact e
          · rw [List.getElem?_eq_none (by omega)] at hpi; cases hpi
        obtain ⟨f0, f1⟩ := flat_get ps i p hpi
        refine ⟨p.2, ?_, ?_, ints_of_any (h3.2.1 p (List.mem_of_getElem? hpi)).1⟩
        · rw [Nat.zero_add, h1.cellAt _ (by omega)]; exact f0
        · rw [Nat.zero_add, h1.cellAt _ (by omega)]; exact f1

end Go.Proofs.YtgknnigjlnfplaaDoor.T

namespace Go.Proofs.YtgknnigjlnfplaaDoor.T
open Go.RowKit

theorem infoTrip : (Tryd.prog.info? 73).map (fun i => (i.zero, i.size, i.bytes)) = some (some (.agg #[.slice none 0 0, .int .i64 0]), 2, 32) := by kernel_rfl

def zeroP : R × Value := (([], 0), .slice none 0 0)

theorem made_two (n : Nat) : (madeCells #[.slice none 0 0, .int .i64 0] (n * 2)).toList = flat (List.replicate n zeroP) := by
  apply List.ext_getElem?
  intro i
  by_cases h : i < n * 2
  · have hq : i / 2 < n := by omega
    have hget : (List.replicate n zeroP)[i / 2]? = some zeroP := by simp [hq]
    obtain ⟨f0, f1⟩ := flat_get _ _ _ hget
    have hl : (madeCells #[.slice none 0 0, .int .i64 0] (n * 2)).toList[i]? = some (#[Value.slice none 0 0, .int .i64 0][i % 2]!) := by
      simp [madeCells, h]
    rw [hl]
    rcases (show i % 2 = 0 ∨ i % 2 = 1 by omega) with h0 | h0
    · rw [show i / 2 * 2 = i by omega] at f0; rw [f0, h0]; rfl
    · rw [show i / 2 * 2 + 1 = i by omega] at f1; rw [f1, h0]; rfl
  · rw [List.getElem?_eq_none (by simp [madeCells]; omega), List.getElem?_eq_none (by rw [flat_length]; simp; omega)]

/-- The value v is a list of just these records that the call itself has made, from lo on. -/
def Made (w : World) (lo : Nat) (v : Value) (rs : List R) : Prop := ∃ ps : List (R × Value), ps.map (·.1) = rs ∧ OwnRecs w lo w.heap.size v ps

theorem Made.recs {w : World} {lo : Nat} {v : Value} {rs : List R} (h : Made w lo v rs) : Recs w v rs := by
  obtain ⟨ps, rfl, ho⟩ := h
  exact ho.recs

/-- Two stores into a row of trips. -/
theorem stored2 {w : World} {base g n cap : Nat} {ps : List (R × Value)} (h : w.ownsRow base 73 2 (.slice (some ⟨g, 0, none⟩) n cap) n (flat ps)) (k : Nat) (hk : k < ps.length) (r : R) (u : Value) :
    ((w.setCell ⟨g, k * 2, none⟩ u).setCell ⟨g, k * 2 + 1, none⟩ (.int .i64 r.2)).ownsRow base 73 2 (.slice (some ⟨g, 0, none⟩) n cap) n (flat (ps.set k (r, u))) ∧
    w.grownBy ((w.setCell ⟨g, k * 2, none⟩ u).setCell ⟨g, k * 2 + 1, none⟩ (.int .i64 r.2)) (some g) := by
  have a1 := h.stored (k * 2) u
  have a2 := a1.1.stored (k * 2 + 1) (.int .i64 r.2)
  rw [flat_set ps k r u hk] at a2
  refine ⟨a2.1, ?_⟩
  refine ⟨rfl, rfl, rfl, by simp, fun j hj hne => ?_⟩
  rw [a2.2.block j (by simpa using hj) hne, a1.2.block j hj hne]

theorem rep_set (ps : List (R × Value)) (m : Nat) (p : R × Value) : (ps ++ List.replicate (m + 1) zeroP).set ps.length p = (ps ++ [p]) ++ List.replicate m zeroP := by
  rw [List.set_append_right _ _ (Nat.le_refl _), Nat.sub_self, List.replicate_succ]
  simp

/-- What one round of a copy does. -/
theorem toTrips_step {wr w2 : World} {W n k : Nat} {ps : List (R × Value)} {r : R} (hk : ps.length = k) (hkn : k < n)
    (hrow : wr.ownsRow W 73 2 (.slice (some ⟨W, 0, none⟩) n n) n (flat (ps ++ List.replicate (n - k) zeroP))) (hin : Inner wr W wr.heap.size ps) (hWr : W < wr.heap.size)
    (hb : Below wr.heap.size wr w2) (hown : w2.ownsRow (wr.heap.size + 3) 3 1 (.slice (some ⟨wr.heap.size + 3, 0, none⟩) r.1.length r.1.length) r.1.length (r.1.map (Value.int .i64))) :
    Hid (((w2.setCell ⟨W, k * 2, none⟩ (.slice (some ⟨wr.heap.size + 3, 0, none⟩) r.1.length r.1.length)).setCell ⟨W, k * 2 + 1, none⟩ (.int .i64 r.2)).ownsRow W 73 2 (.slice (some ⟨W, 0, none⟩) n n) n (flat ((ps ++ [(r, .slice (some ⟨wr.heap.size + 3, 0, none⟩) r.1.length r.1.length)]) ++ List.replicate (n - (k + 1)) zeroP)) ∧
    Inner ((w2.setCell ⟨W, k * 2, none⟩ (.slice (some ⟨wr.heap.size + 3, 0, none⟩) r.1.length r.1.length)).setCell ⟨W, k * 2 + 1, none⟩ (.int .i64 r.2)) W
      ((w2.setCell ⟨W, k * 2, none⟩ (.slice (some ⟨wr.heap.size + 3, 0, none⟩) r.1.length r.1.length)).setCell ⟨W, k * 2 + 1, none⟩ (.int .i64 r.2)).heap.size (ps ++ [(r, .slice (some ⟨wr.heap.size + 3, 0, none⟩) r.1.length r.1.length)])) := by
  have row2 := ownsRow_below hrow hb (fun j hj => by simp [Value.ownBlock] at hj; omega)
  have in2 := hin.below hb (Nat.le_refl _)
  obtain ⟨cur2, hc2⟩ := row_block hown
  have hlt : wr.heap.size + 3 < w2.heap.size := by
    by_cases h : wr.heap.size + 3 < w2.heap.size
    · exact h
    · rw [Array.getElem?_eq_none (by omega)] at hc2; cases hc2
  have in3 : Inner w2 W w2.heap.size (ps ++ [(r, .slice (some ⟨wr.heap.size + 3, 0, none⟩) r.1.length r.1.length)]) :=
    in2.snoc hb.size (Nat.le_refl _) (ownsRow_base hown (by omega)) (fun j hj => by simp [Value.ownBlock] at hj; omega)
  have st := stored2 row2 k (by simp; omega) r (.slice (some ⟨wr.heap.size + 3, 0, none⟩) r.1.length r.1.length)
  obtain ⟨cur, hcur⟩ := row_block row2
  refine ⟨?_, ?_⟩
  · have h := st.1
    rw [show n - k = (n - (k + 1)) + 1 by omega, ← hk, rep_set] at h
    rw [hk] at h
    rw [← hk, hk]
    exact h
  · have h := in3.kept st.2 (fun p hp => by
      have := in3.apart hcur (by decide) p hp
      exact Or.inr this)
    exact h.mono (by simp) (Nat.le_refl _)

end Go.Proofs.YtgknnigjlnfplaaDoor.T
