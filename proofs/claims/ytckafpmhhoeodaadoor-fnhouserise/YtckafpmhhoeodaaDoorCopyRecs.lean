/- The contract of the program's copy of a list of records. For all that together has at most 1048576 records and numbers. -/
import Derived.Test.YtckafpmhhoeodaaDoorCopy
namespace Go.Proofs.YtckafpmhhoeodaaDoor
open Go.RowKit

/-- One more record appended to a list of the call's own, as worlds and rows see it. -/
theorem append_step {w3 w4 : World} {W0 hi : Nat} {v v' : Value} {ps : List (R × Value)} {r : R} {u : Value}
    (hrow : w3.ownsRow W0 73 3 v ps.length (flat ps)) (hin : Inner w3 W0 hi ps) (hhi : hi ≤ w3.heap.size)
    (ho : w3.ownsRow W0 3 1 u r.2.2.length (r.2.2.map (Value.int .i64))) (hu : ∀ k, u.ownBlock = some k → hi ≤ k ∧ k < w3.heap.size)
    (hown : w4.ownsRow W0 73 3 v' (ps.length + 1) (flat ps ++ [.int .i64 r.1, .int .i64 r.2.1, u])) (hg : w3.grownBy w4 v.ownBlock) :
    w4.ownsRow W0 73 3 v' (ps ++ [(r, u)]).length (flat (ps ++ [(r, u)])) ∧ Inner w4 W0 w4.heap.size (ps ++ [(r, u)]) := by
  refine ⟨?_, ?_⟩
  · rw [flat_append, List.length_append]; exact hown
  · have in3 : Inner w3 W0 w3.heap.size (ps ++ [(r, u)]) := hin.snoc hhi (Nat.le_refl _) ho hu
    have h := in3.kept hg (fun p hp => by
      rcases hrow.2 with ⟨hv, _⟩ | ⟨g, cap, cur, hv, _, hh, _⟩
      · by_cases e : p.2.ownBlock = none
        · exact Or.inl e
        · exact Or.inr (by rw [hv]; simpa [Value.ownBlock] using e)
      · refine Or.inr ?_
        rw [hv]
        exact in3.apart hh (by decide) p hp)
    exact h.mono hg.size (Nat.le_refl _)

set_option maxHeartbeats 2000000 in
theorem copyRecs_any (v : Value) (rs : List R) (w : World) (hv : Recs w v rs) (hl : tot rs ≤ 1048576) :
    Calls Tryd.prog 60 #[v] w fun e w' => ∃ ao cap, e = .returned (.slice ao rs.length cap) ∧ Made w' w.heap.size (.slice ao rs.length cap) rs ∧ Below w.heap.size w w' := by
  obtain ⟨i0, hi, hz0, hz1, hz2⟩ := info_parts infoRec
  have hlen := tot_len rs
  have HM : Hid (∀ r ∈ rs, r.2.2.length ≤ 1048576) := fun r hr => Nat.le_trans (tot_mem rs r hr) hl
  rcases hv with ⟨rfl, ao, cap, rfl⟩ | ⟨b, off, cap, rfl, hz, hc⟩
  · go_enter Tryd.func60, Tryd.ntmps60
    go_wp2
    refine wp_loop_rounds 1 ?_
    rw [rounds_succ]
    go_wp2
    refine bodyPost_ret (v := .slice none 0 0) (by simp [results, Tryd.results60, go_sem]) rfl ⟨none, 0, rfl, ?_, Below.refl _ _⟩
    exact ⟨[], rfl, World.ownsRow_nil _ _ _ _, fun k hk => by simp [Value.ownBlock] at hk, Inner.nil _ _ _ (Nat.le_refl _)⟩
  have HC : Hid (∀ i r, rs[i]? = some r → ∃ u, RecCells w b (off + i * 3) r u) := hc
  have hzl : 0 < rs.length := List.length_pos_iff.2 hz
  clear hc hz
  go_enter Tryd.func60, Tryd.ntmps60
  go_wp2
  go_loopw [3, 8] (fun vo i wr => ∃ (k : Nat) (ps : List (R × Value)), k ≤ rs.length ∧ i = .int .i64 k ∧ Hid (ps.map (·.1) = rs.take k) ∧ Hid (wr.ownsRow w.heap.size 73 3 vo ps.length (flat ps)) ∧ Hid (Inner wr w.heap.size wr.heap.size ps) ∧ Hid (Below w.heap.size w wr)) (fun _ i _ => rs.length - (intOf i).toNat)
  case atStart => exact ⟨0, [], Nat.zero_le _, rfl, rfl, World.ownsRow_nil _ _ _ _, Inner.nil _ _ _ (Nat.le_refl _), Below.refl _ _⟩
  case round =>
    obtain ⟨k, ps, hk, rfl, HP, HO, HN, HB⟩ := hrel
    have HPL : Hid (ps.length = k) := by
      have := congrArg List.length HP.out
      simp at this
      show _ = _; omega
    by_cases hlt : k < rs.length
    · obtain ⟨r, hr⟩ : ∃ r, Hid (rs[k]? = some r) := ⟨rs[k], by show _ = _; simp [hlt]⟩
      have hrl : r.2.2.length ≤ 1048576 := HM.out r (List.mem_of_getElem? hr.out)
      obtain ⟨u, hu⟩ := HC.out k r hr.out
      obtain ⟨c0, c1, c2, hI⟩ := hu.later HB.out (Nat.le_refl _)
      have hbw : b < wr.heap.size := World.block_lt_of_cell? _ _ c0
      obtain ⟨au, cu, hus⟩ := hI.shape
      have HI : Hid (∀ o, Ints (wr.alloc o) u r.2.2) := fun o => hI.later ((Below.refl _ _).alloc (Nat.le_refl _) o) (Nat.le_refl _)
      clear hI hu
      subst hus
      go_wp2_with fail
      refine (copyRec_any r.1 r.2.1 _ r.2.2 _ (HI.out _) hrl).mono ?_
      rintro e w2 ⟨ao2, cap2, rfl, hown2, hb2⟩
      have hb2' : Below wr.heap.size wr w2 := ((Below.refl _ _).alloc (Nat.le_refl _) _).trans (hb2.mono (by simp))
      have hz2' : wr.heap.size + 1 ≤ w2.heap.size := by have := hb2.size; simp at this; exact this
      have ROW : Hid (∀ o, (w2.alloc o).ownsRow w.heap.size 73 3 u3 ps.length (flat ps)) := fun o => (ownsRow_below HO.out hb2' (fun j hj => (HO.out.lt j hj).2)).alloc o
      have INN : Hid (∀ o, Inner (w2.alloc o) w.heap.size wr.heap.size ps) := fun o => (HN.out.below hb2' (Nat.le_refl _)).below ((Below.refl _ _).alloc (Nat.le_refl _) o) (by omega)
      have NEW : Hid (∀ o, (w2.alloc o).ownsRow w.heap.size 3 1 (.slice ao2 r.2.2.length cap2) r.2.2.length (r.2.2.map (Value.int .i64))) := fun o => (ownsRow_base hown2 (by have := HB.out.size; simp; omega)).alloc o
      have NEWB : Hid (∀ j, (Value.slice ao2 r.2.2.length cap2).ownBlock = some j → wr.heap.size ≤ j ∧ j < w2.heap.size + 1) := fun j hj => by
        have := hown2.lt j hj
        simp at this
        omega
      have HB2 : Hid (Below w.heap.size w w2) := HB.out.trans (hb2'.mono HB.out.size)
      have hzw : w.heap.size ≤ w2.heap.size := HB2.out.size
      clear hown2 hb2 hb2'
      go_wp2_with (at_builtin; refine wpList_append_own _ rfl _ _ 23 rfl w.heap.size 73 i0 (.agg #[.int .i64 0, .int .i64 0, .slice none 0 0]) 3 40 Tryd.underlying23 hi hz0 hz1 hz2 rfl (by decide) u3 ps.length (flat ps) rfl (ROW.out _) ⟨w2.heap.size, 0, none⟩ 1 1 [.int .i64 r.1, .int .i64 r.2.1, .slice ao2 r.2.2.length cap2] rfl rfl ?c1 ?c2 ?c3 ?c4 ?c5 ?_)
      case c1 =>
        intro j x hj
        match j, hj with
        | 0, hj => simp at hj; subst hj; simp [Addr.add]
        | 1, hj => simp at hj; subst hj; simp [Addr.add]
        | 2, hj => simp at hj; subst hj; simp [Addr.add]
      case c2 => intro x hx; simp at hx; rcases hx with rfl | rfl | rfl <;> rfl
      case c3 => have := HPL.out; unfold maxLen; omega
      case c4 => have := HPL.out; omega
      case c5 => simp; omega
      · intro v' w4 hown4 hgrow4 _
        have ST := append_step (r := r) (ROW.out _) (INN.out _) (by simp; omega) (NEW.out _) (by simpa using NEWB.out) hown4 hgrow4
        have HO4 := hide_it ST.1
        have HN4 := hide_it ST.2
        have HB4 : Hid (Below w.heap.size w w4) := (HB2.out.alloc hzw _).grown hgrow4 (by simp; omega) (fun j hj => ((ROW.out default).lt j hj).1)
        clear ST hown4 hgrow4
        go_wp2
        go_roundw
        case rel =>
          refine ⟨k + 1, ps ++ [(r, .slice ao2 r.2.2.length cap2)], by omega, by go_num, ?_, HO4, HN4, HB4⟩
          show _ = _
          have hkl : k < rs.length := by omega
          have hrk : rs[k] = r := by have := hr.out; rw [List.getElem?_eq_getElem hkl] at this; simpa using this
          rw [List.map_append, HP.out, List.take_succ_eq_append_getElem hkl, hrk]
          rfl
        case measure => simp [intOf]; omega
    · have hke : Hid (k = rs.length) := by show _ = _; omega
      obtain ⟨ao, cp, hvo⟩ := row_shape HO.out
      have hpl : ps.length = rs.length := by rw [HPL.out, hke.out]
      rw [hpl] at hvo
      have HD : Hid (Made wr w.heap.size (.slice ao rs.length cp) rs) := by
        refine ⟨ps, by rw [HP.out, hke.out, List.take_length], ?_, fun j hj => ?_, HN.out⟩
        · have := HO.out; rw [hvo] at this; exact this
        · have := HO.out; rw [hvo] at this; exact (this.lt j hj).2
      subst hvo
      clear hpl
      go_wp2
      refine bodyPost_ret (v := .slice ao rs.length cp) (by simp [results, Tryd.results60, go_sem]) rfl ⟨ao, cp, rfl, HD.out, HB.out⟩

end Go.Proofs.YtckafpmhhoeodaaDoor
