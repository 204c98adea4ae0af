/- Contracts of the two functions that say whether a log is ok, the specification's and the program's. For all that together has at most 1048576 records and numbers, in a world in which the sentinel's variable holds a pointer to an errors.errorString. -/
import Derived.Test.YtckafpmhhoeodaaDoorSpec
import Derived.Test.YtckafpmhhoeodaaDoorToLog
namespace Go.Proofs.YtckafpmhhoeodaaDoor
open Go.RowKit

def rOk (r : R) : Bool := Pl.recOk r.1 r.2.1 r.2.2
def logOk (rs : List R) (f : Int) : Bool := rs.all rOk && (decide (rs.length ≤ 40) && Pl.inB f 0 rs.length)

theorem all_snocR (rs : List R) (k : Nat) (r : R) (h : rs[k]? = some r) : (rs.take (k + 1)).all rOk = ((rs.take k).all rOk && rOk r) := by
  have hk : k < rs.length := by
    by_cases hk : k < rs.length
    · exact hk
    · rw [List.getElem?_eq_none (by omega)] at h; cases h
  rw [List.getElem?_eq_getElem hk] at h
  simp only [Option.some.injEq] at h
  rw [List.take_succ_eq_append_getElem hk, h]
  simp
theorem all_badR (rs : List R) (k : Nat) (r : R) (h : rs[k]? = some r) (hb : rOk r = false) : rs.all rOk = false := by
  rw [List.all_eq_false]
  exact ⟨r, List.mem_of_getElem? h, by rw [hb]; decide⟩

theorem box2 (w : World) (x y : Value) (ty : TypeId) : (w.alloc (.cells #[x, y] ty)).cell? ⟨w.heap.size, 0, none⟩ = some x ∧ (w.alloc (.cells #[x, y] ty)).cell? ⟨w.heap.size, 1, none⟩ = some y := by
  constructor <;> simp

/-- Two cells of one block, as they stay while nothing below turns. -/
def Two (w : World) (b : Nat) (x y : Value) : Prop := w.cell? ⟨b, 0, none⟩ = some x ∧ w.cell? ⟨b, 1, none⟩ = some y
theorem Two.later {B : Nat} {w w' : World} {b : Nat} {x y : Value} (h : Two w b x y) (hb : Below B w w') (hB : w.heap.size ≤ B) : Two w' b x y := by
  obtain ⟨h0, h1⟩ := h
  have hlt := World.block_lt_of_cell? _ _ h0
  simp at hlt
  exact ⟨by rw [← h0]; exact hb.cell (p := ⟨b, 0, none⟩) (by simp; omega), by rw [← h1]; exact hb.cell (p := ⟨b, 1, none⟩) (by simp; omega)⟩

set_option maxHeartbeats 1000000 in
theorem specLogOk_any (v : Value) (rs : List R) (f : Int) (w : World) (hv : Recs w v rs) (hl : tot rs ≤ 1048576) :
    Calls Tryd.prog 42 #[.agg #[v, .int .i64 f]] w fun e w' => e = .returned (.bool (logOk rs f)) ∧ Below w.heap.size w w' := by
  have hlen := tot_len rs
  have HM : Hid (∀ r ∈ rs, r.2.2.length ≤ 1048576) := fun r hr => Nat.le_trans (tot_mem rs r hr) hl
  have H0 : Hid (Two (w.alloc (.cells #[v, .int .i64 f] 25)) w.heap.size v (.int .i64 f)) := box2 w _ _ _
  rcases hv with ⟨rfl, ao, cap, rfl⟩ | ⟨b, off, cap, rfl, hz, hc⟩
  · have HE : Hid (logOk [] f = Pl.inB f 0 0) := by show _ = _; simp [logOk]
    go_enter Tryd.func42, Tryd.ntmps42
    go_wp2
    refine wp_loop_rounds 1 ?_
    rw [rounds_succ]
    go_wp2_with (go_at_call 41; refine (in_any _ _ _ _).mono ?_; rintro e w' ⟨rfl, rfl⟩)
    go_ret
    exact ⟨by rw [HE.out]; rfl, alloc_below _ _⟩
  have HC : Hid (∀ W, Below w.heap.size w W → ∀ i r, rs[i]? = some r → ∃ u, RecCells W b (off + i * 3) r u) := fun W h i r hr => by
    obtain ⟨u, hu⟩ := hc i r hr
    exact ⟨u, hu.later h (Nat.le_refl _)⟩
  have hzl : 0 < rs.length := List.length_pos_iff.2 hz
  clear hc hz
  go_enter Tryd.func42, Tryd.ntmps42
  go_wp2
  go_loopw [3] (fun i wr => ∃ k : Nat, k ≤ rs.length ∧ i = .int .i64 k ∧ Hid ((rs.take k).all rOk = true) ∧ Hid (Two wr w.heap.size (.slice (some ⟨b, off, none⟩) rs.length cap) (.int .i64 f)) ∧ Below w.heap.size w wr) (fun i _ => rs.length - (intOf i).toNat)
  case atStart => exact ⟨0, Nat.zero_le _, rfl, rfl, H0, alloc_below _ _⟩
  case round =>
    obtain ⟨k, hk, rfl, HA, HT, hbe⟩ := hrel
    obtain ⟨t0, t1⟩ := HT.out
    by_cases hlt : k < rs.length
    · obtain ⟨r, hr⟩ : ∃ r, Hid (rs[k]? = some r) := ⟨rs[k], by show _ = _; simp [hlt]⟩
      have hrl : r.2.2.length ≤ 1048576 := HM.out r (List.mem_of_getElem? hr.out)
      obtain ⟨u, c0, c1, c2, hI⟩ := HC.out wr hbe k r hr.out
      have HI : Hid (Ints wr u r.2.2) := hI
      have HB : Hid (Below w.heap.size w wr) := hbe
      clear hI hbe
      cases hok : rOk r
      · have HE : Hid (logOk rs f = false) := by show _ = _; unfold logOk; rw [all_badR rs k r hr.out hok]; rfl
        have hsp := specOk_any r.1 r.2.1 u r.2.2 wr HI.out hrl
        have hok' : Pl.recOk r.1 r.2.1 r.2.2 = false := hok
        rw [hok'] at hsp
        have HS := hsp
        clear hsp hok hok'
        go_wp2_with fail
        refine HS.mono ?_
        rintro e w2 ⟨rfl, hb2⟩
        go_wp2
        go_ret
        exact ⟨by rw [HE.out]; rfl, HB.out.trans (hb2.mono HB.out.size)⟩
      · have HA2 : Hid ((rs.take (k + 1)).all rOk = true) := by show _ = _; rw [all_snocR rs k r hr.out, HA.out, hok]; rfl
        have hsp := specOk_any r.1 r.2.1 u r.2.2 wr HI.out hrl
        have hok' : Pl.recOk r.1 r.2.1 r.2.2 = true := hok
        rw [hok'] at hsp
        have HS := hsp
        clear hsp hok hok'
        go_wp2_with fail
        refine HS.mono ?_
        rintro e w2 ⟨rfl, hb2⟩
        have HT2 := HT.out.later hb2 (Nat.le_refl _)
        have HB2 : Hid (Below w.heap.size w w2) := HB.out.trans (hb2.mono HB.out.size)
        have HT3 : Hid (Two w2 w.heap.size (.slice (some ⟨b, off, none⟩) rs.length cap) (.int .i64 f)) := HT2
        clear hb2 HT2
        go_wp2
        go_roundw
        case rel => exact ⟨k + 1, by omega, by go_num, HA2, HT3, HB2.out⟩
        case measure => simp [intOf]; omega
    · have HE : Hid (logOk rs f = (decide (rs.length ≤ 40) && Pl.inB f 0 rs.length)) := by
        show _ = _
        have hke : k = rs.length := by omega
        have := HA.out
        rw [hke, List.take_length] at this
        unfold logOk; rw [this]; rfl
      by_cases h40 : (rs.length : Int) ≤ 40
      · have HE2 : Hid (decide (rs.length ≤ 40) = true) := by show _ = _; simp; omega
        go_wp2_with (go_at_call 41; refine (in_any _ _ _ _).mono ?_; rintro e w' ⟨rfl, rfl⟩)
        go_ret
        exact ⟨by rw [HE.out, HE2.out]; rfl, hbe⟩
      · have HE2 : Hid (decide (rs.length ≤ 40) = false) := by show _ = _; simp; omega
        go_wp2_with (go_at_call 41; refine (in_any _ _ _ _).mono ?_; rintro e w' ⟨rfl, rfl⟩)
        go_ret
        exact ⟨by rw [HE.out, HE2.out]; rfl, hbe⟩

end Go.Proofs.YtckafpmhhoeodaaDoor
