/- The contract of the specification's LogAdd. For all that together has at most 1048576 records and numbers. -/
import Derived.Test.YtgbikmcpcolcpaaDoorAdd
namespace Go.Proofs.YtgbikmcpcolcpaaDoor
open Go.RowKit

theorem Trio.grown {w w' : World} {B : Nat} {v : Value} {f : Int} {r : R} {u : Value} {row : Option Nat} (h : Trio w B v f r u) (hg : w.grownBy w' row) (hr : ∀ k, row = some k → k < B) : Trio w' B v f r u := by
  have hs := h.size
  obtain ⟨h0, h1, h2⟩ := h
  exact ⟨by rw [hg.block B (by omega) (fun e => by have := hr _ e.symm; omega)]; exact h0, by rw [hg.block (B + 1) (by omega) (fun e => by have := hr _ e.symm; omega)]; exact h1, by rw [hg.block (B + 2) hs (fun e => by have := hr _ e.symm; omega)]; exact h2⟩

theorem row_apart {w : World} {base : Nat} {ty ty' : TypeId} {sz n g : Nat} {x : Value} {xs : List Value} {cur : Array Value} {fz : Nat × Nat} (hr : w.ownsRow base ty sz x n xs) (hh : w.heap[g]? = some (.cells cur ty' fz)) (ht : ty ≠ ty') : ∀ k, x.ownBlock = some k → k ≠ g := by
  intro k hk e
  subst e
  rcases hr.2 with ⟨hv, _⟩ | ⟨g', cap, cur', hv, _, h2, _⟩
  · rw [hv] at hk; simp [Value.ownBlock] at hk
  · rw [hv] at hk
    simp [Value.ownBlock] at hk
    subst hk
    rw [hh] at h2
    simp at h2
    exact ht h2.2.1.symm

/-- A store into a log's own block leaves lists of records as they are. -/
theorem Made.setApart {w : World} {lo b j : Nat} {v : Value} {rs : List R} {cur : Array Value} {fz : Nat × Nat} (h : Made w lo v rs) (hh : w.heap[b]? = some (.cells cur 25 fz)) (x : Value) : Made (w.setCell ⟨b, j, Option.none⟩ x) lo v rs := by
  obtain ⟨ps, hp, h1, h2, h3⟩ := h
  have hs : (w.setCell ⟨b, j, Option.none⟩ x).heap.size = w.heap.size := by simp
  refine ⟨ps, hp, ownsRow_setCell_ne h1 (row_apart h1 hh (by decide)) x, by rw [hs]; exact h2, ?_⟩
  rw [hs]
  exact ⟨by rw [hs]; exact h3.1, fun p hp => ⟨ownsRow_setCell_ne (h3.2.1 p hp).1 (row_apart (h3.2.1 p hp).1 hh (by decide)) x, (h3.2.1 p hp).2⟩, h3.2.2⟩

set_option maxRecDepth 100000 in
set_option maxHeartbeats 4000000 in
theorem l1Add_full (v : Value) (n : Nat) (f : Int) (r : R) (u : Value) (w : World) (hv : ∃ ao cap, v = .slice ao n cap) (h40 : 40 ≤ (n : Int)) :
    Calls Tryd.prog 28 #[.agg #[v, .int .i64 f], .agg #[.int .i64 r.1, .int .i64 r.2.1, u]] w fun e w' => e = .returned (.tuple #[.agg #[v, .int .i64 f], .bool false]) ∧ Below w.heap.size w w' := by
  obtain ⟨ao, cap, rfl⟩ := hv
  go_enter Tryd.func28, Tryd.ntmps28
  go_wp2
  refine bodyPost_ret (v := .tuple #[.agg #[.slice ao n cap, .int .i64 f], .bool false]) (by simp [results, Tryd.results28, go_sem]) rfl ⟨rfl, ?_⟩
  exact below3 w _ _ _

set_option maxRecDepth 100000 in
set_option maxHeartbeats 4000000 in
theorem l1Add_room (ao : Option Addr) (cap : Nat) (ps : List (R × Value)) (f : Int) (r : R) (au : Option Addr) (cu lo hi : Nat) (w : World) (ho : OwnRecs w lo hi (.slice ao ps.length cap) ps) (hlo : lo ≤ w.heap.size)
    (hu : w.ownsRow lo 3 1 (.slice au r.2.2.length cu) r.2.2.length (r.2.2.map (Value.int .i64))) (hub : ∀ k, (Value.slice au r.2.2.length cu).ownBlock = some k → hi ≤ k) (h40 : (ps.length : Int) < 40) :
    Calls Tryd.prog 28 #[.agg #[.slice ao ps.length cap, .int .i64 f], .agg #[.int .i64 r.1, .int .i64 r.2.1, .slice au r.2.2.length cu]] w fun e w' => ∃ g cap', e = .returned (.tuple #[.agg #[.slice (some ⟨g, 0, none⟩) (ps.length + 1) cap', .int .i64 f], .bool true]) ∧ Made w' lo (.slice (some ⟨g, 0, none⟩) (ps.length + 1) cap') (ps.map (·.1) ++ [r]) ∧ Below lo w w' := by
  obtain ⟨i0, hi0, hz0, hz1, hz2⟩ := info_parts infoRec
  have HO := hide_it ho
  have HU := hide_it hu
  have HUB := hide_it hub
  have HT := hide_it (Trio.new w (.slice ao ps.length cap) f r (.slice au r.2.2.length cu))
  have ROW : Hid (∀ o1 o2 o3 o4, ((((w.alloc o1).alloc o2).alloc o3).alloc o4).ownsRow lo 28 3 (.slice ao ps.length cap) ps.length (flat ps)) := fun o1 o2 o3 o4 => (((ho.1.alloc o1).alloc o2).alloc o3).alloc o4
  clear ho hu hub
  go_enter Tryd.func28, Tryd.ntmps28
  go_wp2_with (at_builtin; refine wpList_append_lies _ rfl _ _ 23 rfl lo 28 i0 (.agg #[.int .i64 0, .int .i64 0, .slice none 0 0]) 3 40 Tryd.underlying23 hi0 hz0 hz1 hz2 rfl (by decide) (.slice ao ps.length cap) ps.length (flat ps) rfl (ROW.out _ _ _ _) ⟨w.heap.size + 3, 0, none⟩ 1 1 [.int .i64 r.1, .int .i64 r.2.1, .slice au r.2.2.length cu] rfl rfl ?c1 (one3 _ _ _) (by decide) ?c3 ?c4 ?c5 _ rfl ?_)
  case c1 =>
    have h := news3 (((w.alloc (.cells #[.slice ao ps.length cap, .int .i64 f] 25)).alloc (.cells #[.int .i64 r.1, .int .i64 r.2.1, .slice au r.2.2.length cu] 28)).alloc (.cells #[.slice none 0 0, .int .i64 0] 25)) r.1 r.2.1 (.slice au r.2.2.length cu) 28
    rw [size3] at h
    exact h
  case c3 => unfold maxLen; omega
  case c4 => omega
  case c5 => simp; omega
  · intro g cap' w5 hown5 hgrow5 _ _
    have hhi := HO.out.2.2.1
    have HT4 := hide_it (HT.out.later (alloc_below _ (.cells #[.int .i64 r.1, .int .i64 r.2.1, .slice au r.2.2.length cu] 28)) (by rw [size3]; exact Nat.le_refl _))
    have HT5 := hide_it (HT4.out.grown hgrow5 (fun k hk => by have := HO.out.2.1 k hk; omega))
    have IN4 := hide_it (HO.out.2.2.below (below4 w (.cells #[.slice ao ps.length cap, .int .i64 f] 25) (.cells #[.int .i64 r.1, .int .i64 r.2.1, .slice au r.2.2.length cu] 28) (.cells #[.slice none 0 0, .int .i64 0] 25) (.cells #[.int .i64 r.1, .int .i64 r.2.1, .slice au r.2.2.length cu] 28)) hhi)
    have HU4 := hide_it ((((HU.out.alloc (.cells #[.slice ao ps.length cap, .int .i64 f] 25)).alloc (.cells #[.int .i64 r.1, .int .i64 r.2.1, .slice au r.2.2.length cu] 28)).alloc (.cells #[.slice none 0 0, .int .i64 0] 25)).alloc (.cells #[.int .i64 r.1, .int .i64 r.2.1, .slice au r.2.2.length cu] 28))
    have st := append_step (r := r) (ROW.out _ _ _ _) IN4.out (by simp; omega) HU4.out (fun k hk => ⟨HUB.out k hk, (HU4.out.lt k hk).2⟩) hown5 hgrow5
    have MD : Hid (Made w5 lo (.slice (some ⟨g, 0, none⟩) (ps.length + 1) cap') (ps.map (·.1) ++ [r])) := by
      refine ⟨ps ++ [(r, .slice au r.2.2.length cu)], by simp, ?_, fun k hk => (st.1.lt k hk).2, st.2⟩
      have h := st.1
      exact h
    have LO5 := hide_it (addBelow (ROW.out _ _ _ _) hgrow5 (by simp; omega))
    have BE5 := hide_it (((below4 w _ _ _ _).mono hlo).trans LO5.out)
    obtain ⟨⟨l0, l1⟩, ⟨q0, q1, q2⟩, ⟨e0, e1, e2, e3⟩⟩ := HT5.out.cells
    have fz := frozen_of_row w5 w.heap.size 0 _ _ HT5.out.1
    have hz5 : w.heap.size + 4 ≤ w5.heap.size := by have := LO5.out.size; simp at this; omega
    clear hown5 hgrow5 st
    go_wp2
    refine bodyPost_ret (v := .tuple #[.agg #[.slice (some ⟨g, 0, none⟩) (ps.length + 1) cap', .int .i64 f], .bool true]) (by simp [results, Tryd.results28, go_sem, e0, e1]) rfl ⟨g, cap', rfl, ?_, ?_⟩
    · have a1 := MD.out.setApart (j := 0) HT5.out.1 (.slice (some ⟨g, 0, none⟩) (ps.length + 1) cap')
      have h2 : (w5.setCell ⟨w.heap.size, 0, none⟩ (.slice (some ⟨g, 0, none⟩) (ps.length + 1) cap')).heap[w.heap.size + 2]? = some (.cells #[.slice none 0 0, .int .i64 0] 25 (0, 0)) := by
        rw [Below.heap_setCell _ _ _ _ (by simp)]; exact HT5.out.2.2
      have a2 := a1.setApart (j := 0) h2 (.slice (some ⟨g, 0, none⟩) (ps.length + 1) cap')
      exact a2.setApart (j := 1) (heap_setCell_same _ (w.heap.size + 2) 0 _ _ _ h2) (.int .i64 f)
    · exact ((BE5.out.setCell (by simp; omega) _).setCell (by simp; omega) _).setCell (by simp; omega) _

end Go.Proofs.YtgbikmcpcolcpaaDoor
