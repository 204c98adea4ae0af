/- The contract of what makes a list of the program's chain. For chains of at most six trips. -/
import Derived.Test.YtickjfpbaknlmaaDoorTTake
import Derived.Deep.RegionHeldLaw
namespace Go.Proofs.YtickjfpbaknlmaaDoor.T
open Go.RowKit

/-- One more trip appended to a list of the call's own, as worlds and rows see it. -/
theorem append_step {w3 w4 : World} {W0 hi : Nat} {v v' : Value} {ps : List (R × Value)} {r : R} {u : Value}
    (hrow : w3.ownsRow W0 33 2 v ps.length (flat ps)) (hin : Inner w3 W0 hi ps) (hhi : hi ≤ w3.heap.size)
    (ho : w3.ownsRow W0 3 1 u r.1.length (r.1.map (Value.int .i64))) (hu : ∀ k, u.ownBlock = some k → hi ≤ k ∧ k < w3.heap.size)
    (hown : w4.ownsRow W0 33 2 v' (ps.length + 1) (flat ps ++ [u, .int .i64 r.2])) (hg : w3.grownBy w4 v.ownBlock) :
    w4.ownsRow W0 33 2 v' (ps ++ [(r, u)]).length (flat (ps ++ [(r, u)])) ∧ Inner w4 W0 w4.heap.size (ps ++ [(r, u)]) := by
  refine ⟨?_, ?_⟩
  · rw [flat_append, List.length_append]; exact hown
  · have in3 : Inner w3 W0 w3.heap.size (ps ++ [(r, u)]) := hin.snoc hhi (Nat.le_refl _) ho hu
    have h := in3.kept hg (fun p hp => by
      rcases hrow.2 with ⟨hv, _⟩ | ⟨g, cap, cur, hv, _, hh, _⟩
      · by_cases e : p.2.ownBlock = none
        · exact Or.inl e
        · exact Or.inr (by rw [hv]; simpa [Value.ownBlock] using e)
      · refine Or.inr ?_
        rw [hv]
        exact in3.apart hh (by decide) p hp)
    exact h.mono hg.size (Nat.le_refl _)

theorem news2 (w : World) (u : Value) (k : Int) (ty : TypeId) : ∀ (j : Nat) (x : Value), [u, Value.int .i64 k][j]? = some x → (w.alloc (.cells #[u, .int .i64 k] ty)).cell? ((⟨w.heap.size, 0, none⟩ : Addr).add j) = some x := by
  intro j x hj
  match j, hj with
  | 0, hj => simp at hj; subst hj; simp [Addr.add]
  | 1, hj => simp at hj; subst hj; simp [Addr.add]
theorem one2 (k : Int) (ao : Option Addr) {n c : Nat} : ∀ x ∈ [Value.slice ao n c, .int .i64 k], x.oneCell' = true := by
  intro x hx; simp at hx; rcases hx with rfl | rfl <;> rfl

theorem addBelow {W w5 : World} {lo n cap3 : Nat} {a3 : Option Addr} {xs : List Value} (hr : W.ownsRow lo 33 2 (.slice a3 n cap3) n xs) (hg : W.grownBy w5 (Value.slice a3 n cap3).ownBlock) (hlo : lo ≤ W.heap.size) : Below lo W w5 :=
  (Below.refl _ _).grown hg hlo (fun k hk => (hr.lt k hk).1)
theorem cellBelow {W w5 : World} {lo b o : Nat} {x : Value} (h : W.cell? ⟨b, o, none⟩ = some x) (hb : Below lo W w5) (hlo : b < lo) : w5.cell? ⟨b, o, none⟩ = some x := by
  rw [hb.cell (p := ⟨b, o, none⟩) hlo]; exact h

theorem ints_nd {w : World} {lo : Nat} {ns : List Nd} (h : Nodes w lo ns) {i : Nat} {n : Nd} (hn : ns[i]? = some n) : Ints w (.slice (some ⟨n.1, 0, none⟩) 3 3) (ndT n).1 := by
  obtain ⟨c0, c1, c2, -, -⟩ := h.cells hn
  refine Or.inr ⟨n.1, 0, 3, rfl, by simp [ndT], fun k hk => ?_⟩
  have hk3 : k < 3 := hk
  rcases (show k = 0 ∨ k = 1 ∨ k = 2 by omega) with rfl | rfl | rfl
  · exact c0
  · exact c1
  · exact c2

set_option maxRecDepth 100000 in
set_option maxHeartbeats 4000000 in
theorem trips_any (c lo : Nat) (ns : List Nd) (w : World) (hc : Chain w c lo ns) (hn : ns.length ≤ 6) :
    Calls Tryd.prog 35 #[ptr c] w fun e w' => ∃ ao cap, e = .returned (.slice ao (ns.map ndT).length cap) ∧ Made w' w.heap.size (.slice ao (ns.map ndT).length cap) (ns.map ndT) ∧ Below w.heap.size w w' := by
  obtain ⟨i0, hi, hz0, hz1, hz2⟩ := info_parts infoTrip
  obtain ⟨h0, h1, h2⟩ := hc.head.cells3
  have HC := hide_it hc
  have hcl := hc.head.lt
  clear hc h1
  obtain ⟨a0, ha0⟩ := at_shape ns 0
  have HA0 := hide_it ha0
  rw [ha0] at h0
  clear ha0
  have hbytes : i0.bytes * ns.length ≤ 281474976710656 := by rw [hz2]; omega
  have hmax : ns.length ≤ maxLen := by unfold maxLen; omega
  rw [List.length_map]
  go_enter Tryd.func35, Tryd.ntmps35
  go_wp2_with (at_make; refine wpList_make_own _ rfl _ _ 23 rfl w.heap.size 33 i0 (.agg #[.slice none 0 0, .int .i64 0]) 2 Tryd.underlying23 hi hz0 hz1 .i64 .i64 _ ns.length rfl rfl rfl hbytes hmax (Nat.le_refl _) ?_; intro w1 hown hgrow; have B1 := hide_it ((Below.refl w.heap.size w).grown hgrow (Nat.le_refl _) (fun k h => by cases h)); have O1 := hide_it hown; have C1 := hide_it (HC.out.after B1.out); obtain ⟨d0, -, -⟩ := C1.out.head.cells3; rw [HA0.out] at d0; clear hown hgrow)
  go_loopw [3, 4] (fun vo p wr => ∃ (k : Nat) (ps : List (R × Value)) (a : Option Addr), k ≤ ns.length ∧ p = .pointer a ∧ Hid (at_ ns k = .pointer a) ∧ Hid (ps.map (·.1) = (ns.take k).map ndT) ∧ Hid (wr.ownsRow w.heap.size 33 2 vo ps.length (flat ps)) ∧ Hid (Inner wr w.heap.size wr.heap.size ps) ∧ Hid (Below w.heap.size w wr)) (fun vo _ _ => ns.length - (match vo with | .slice _ n _ => n | _ => 0))
  case atStart => exact ⟨0, [], a0, Nat.zero_le _, rfl, HA0, rfl, O1.out, Inner.nil _ _ _ (Nat.le_refl _), B1⟩
  case round =>
    obtain ⟨k, ps, a, hk, rfl, HA, HP, HO, HN, HB⟩ := hrel
    have HPL : Hid (ps.length = k) := by
      have := congrArg List.length HP.out
      simp at this
      show _ = _; omega
    obtain ⟨av, cv, hvo⟩ := row_shape HO.out
    by_cases hlt : k < ns.length
    · obtain ⟨n, hg⟩ : ∃ n, Hid (ns[k]? = some n) := ⟨ns[k], by show _ = _; simp [hlt]⟩
      obtain rfl : a = some ⟨n.1, 0, none⟩ := by
        have := HA.out
        rw [at_some hg.out] at this
        simpa [ptr] using this.symm
      have Cr := hide_it (HC.out.after HB.out)
      obtain ⟨m0, m1, m2, m3, m4⟩ := Cr.out.nodes.cells hg.out
      have hnlt := (HC.out.nodes.node k n hg.out).lt
      have hwr := HB.out.size
      obtain ⟨a', ha'⟩ := at_shape ns (k + 1)
      rw [ha'] at m4
      have HA' := hide_it ha'
      clear ha'
      have HI : Hid (Ints wr.drew (.slice (some ⟨n.1, 0, none⟩) 3 3) (ndT n).1) := (ints_nd Cr.out.nodes hg.out).later (Below.refl _ _).drew (Nat.le_refl _)
      subst hvo
      go_wp2
      go_region_held_law (fun w' => w'.cell? ⟨n.1, 3, none⟩ = some (.int .i64 n.2.2)) (go_keep)
        (first
          | (refine step_append_lies _ rfl _ _ 23 rfl w.heap.size 33 i0 (.agg #[.slice none 0 0, .int .i64 0]) 2 32 Tryd.underlying23 hi hz0 hz1 hz2 rfl (by decide) (.slice av ps.length cv) ps.length (flat ps) rfl (by exact (ROW4.out _)) ⟨w4.heap.size, 0, none⟩ 1 1 [.slice a4 3 cap4, .int .i64 n.2.2] rfl rfl (by exact news2 _ _ _ _) (by exact one2 _ _) (by decide) (by have := HPL.out; unfold maxLen; omega) (by have := HPL.out; omega) (by have := HZ4.out; simp; omega) _ rfl ?_; intro g5 cap5 w5 hown5 hgrow5 _ _; have O5 := hide_it hown5; have G5 := hide_it hgrow5; have LO5 := hide_it (addBelow (ROW4.out _) hgrow5 (by have := HZ4.out; simp; omega)); have q5 := cellBelow (cellAlloc q3 _) LO5.out hnlt; clear hown5 hgrow5)
          | (refine step_append_ints rfl _ _ rfl wr.heap.size (.slice none 0 0) (.slice (some ⟨n.1, 0, none⟩) 3 3) 0 [] (ndT n).1 rfl rfl (World.ownsRow_nil _ _ _ _) HI.out (by simp [ndT]) (by simp) ?_; intro a4 cap4 w4 hown4 hgrow4; have hb4 := (Below.refl wr.heap.size wr).drew.trans (grown_below hgrow4); have B4 := hide_it hb4; have O4 := hide_it hown4; have HZ4 : Hid (w.heap.size ≤ w4.heap.size) := Nat.le_trans hwr hb4.size; have q3 : w4.cell? ⟨n.1, 3, none⟩ = some (.int .i64 n.2.2) := (by rw [hb4.cell (p := ⟨n.1, 3, none⟩) (by simp; omega)]; exact m3); have ROW4 : Hid (∀ o, (w4.alloc o).ownsRow w.heap.size 33 2 (.slice av ps.length cv) ps.length (flat ps)) := (fun o => (ownsRow_below HO.out hb4 (fun j hj => (HO.out.lt j hj).2)).alloc o); have INN4 : Hid (∀ o, Inner (w4.alloc o) w.heap.size wr.heap.size ps) := (fun o => (HN.out.below hb4 (Nat.le_refl _)).below (alloc_below _ o) hb4.size); have NEW4 : Hid (∀ o, (w4.alloc o).ownsRow w.heap.size 3 1 (.slice a4 3 cap4) (ndT n).1.length ((ndT n).1.map (Value.int .i64))) := (fun o => (ownsRow_base hown4 hwr).alloc o); have NEWB4 : Hid (∀ j, (Value.slice a4 3 cap4).ownBlock = some j → wr.heap.size ≤ j ∧ j < (w4.alloc (.cells #[.slice a4 3 cap4, .int .i64 n.2.2] 33)).heap.size) := (fun j hj => by have h9 := hown4.lt j hj; simp; omega); clear hown4 hgrow4 hb4))
      have ST := append_step (r := ndT n) (ROW4.out (.cells #[.slice a4 3 cap4, .int .i64 n.2.2] 33)) (INN4.out _) (by simp; have := B4.out.size; omega) (NEW4.out _) (NEWB4.out) O5.out G5.out
      have HO5 := hide_it ST.1
      have HN5 := hide_it ST.2
      have HB5 : Hid (Below w.heap.size w w5) := ((HB.out.trans (B4.out.mono hwr)).alloc HZ4.out _).trans LO5.out
      clear ST
      have q4 : w5.cell? ⟨n.1, 4, none⟩ = some (.pointer a') := by rw [LO5.out.cell (p := ⟨n.1, 4, none⟩) hnlt]; exact cellAlloc (by rw [B4.out.cell (p := ⟨n.1, 4, none⟩) (by simp; omega)]; exact m4) _
      go_wp2
      go_roundw
      case rel =>
        refine ⟨k + 1, ps ++ [(ndT n, .slice a4 3 cap4)], a', by omega, rfl, HA', ?_, HO5, HN5, HB5⟩
        show _ = _
        have hkl : k < ns.length := by omega
        have hrk : ns[k] = n := by have := hg.out; rw [List.getElem?_eq_getElem hkl] at this; simpa using this
        rw [List.map_append, HP.out, List.take_succ_eq_append_getElem hkl, hrk, List.map_append]
        rfl
      case measure => have := HPL.out; simp; omega
    · obtain rfl : a = none := by
        have := HA.out
        rw [at_none (by omega)] at this
        simpa using this.symm
      have hke : Hid (k = ns.length) := by show _ = _; omega
      have hpl : ps.length = ns.length := by rw [HPL.out, hke.out]
      rw [hpl] at hvo
      have HD : Hid (Made wr w.heap.size (.slice av ns.length cv) (ns.map ndT)) := by
        refine ⟨ps, by rw [HP.out, hke.out, List.take_length], ?_, fun j hj => ?_, HN.out⟩
        · have := HO.out; rw [hvo] at this; exact this
        · have := HO.out; rw [hvo] at this; exact (this.lt j hj).2
      subst hvo
      clear hpl
      go_wp2
      refine bodyPost_ret (v := .slice av ns.length cv) (by simp [results, Tryd.results35, go_sem]) rfl ⟨av, cv, rfl, HD.out, HB.out⟩

end Go.Proofs.YtickjfpbaknlmaaDoor.T
