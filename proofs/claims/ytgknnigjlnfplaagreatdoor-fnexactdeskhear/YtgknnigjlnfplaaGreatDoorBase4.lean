/- What the last text of this claim stands on, part 4: plain facts and contracts; the last text says what is proved. -/
import Derived.Test.YtgknnigjlnfplaaGreatDoorBase3
import Derived.Deep.RegionHeldLaw
import Derived.Deep.RegionHeld

namespace Go.Proofs.YtgknnigjlnfplaaGreatDoor
open Go.RowKit
open Go.Maps

set_option maxHeartbeats 1000000 in
theorem answerOk_any (p : Wd) (n : Int) (w : World) :
    Calls Tryz.prog 42 #[wordV p.1 p.2.1 p.2.2.1 p.2.2.2, .int .i64 n] w fun e w' => e = .returned (.bool (ansOk n p)) ∧ Below w.heap.size w w' := by
  obtain ⟨k, h, t, m⟩ := p
  show Calls Tryz.prog 42 #[wordV k h t m, .int .i64 n] w fun e w' => e = .returned (.bool (Pl.wOk k h t m && decide (4 ≤ k) && decide (t ≤ n))) ∧ Below w.heap.size w w'
  have HW : Hid (∀ W, Calls Tryz.prog 64 #[wordV k h t m] W fun e w' => e = .returned (.bool (Pl.wOk k h t m)) ∧ Below W.heap.size W w') := fun W => implWordOk_any k h t m W
  have X0 : Hid (Blk (w.alloc (.cells #[.int .i64 k, .int .i64 h, .int .i64 t, .int .i64 m] 39)) w.heap.size #[.int .i64 k, .int .i64 h, .int .i64 t, .int .i64 m] 39) := Blk.new _ _ _
  obtain ⟨bb, hbb⟩ : ∃ x, Pl.wOk k h t m = x := ⟨_, rfl⟩
  rw [hbb] at HW ⊢
  clear hbb
  go_enter Tryz.func42, Tryz.ntmps42
  go_wp2_with fail
  refine (HW.out _).mono ?_
  rintro e w1 ⟨rfl, hb⟩
  obtain ⟨c0, c1, c2, c3⟩ := (X0.out.after hb).cells4
  have B1 := hide_it (below_after hb)
  clear hb
  cases bb
  · go_wp2
    go_ret
    exact ⟨rfl, B1.out⟩
  · by_cases h4 : 4 ≤ k
    · by_cases hn : t ≤ n
      · go_wp2
        go_ret
        exact ⟨by simp; omega, B1.out⟩
      · go_wp2
        go_ret
        exact ⟨by simp; omega, B1.out⟩
    · go_wp2
      go_ret
      exact ⟨by simp; omega, B1.out⟩

/-- What comes of words that were told. -/
def BkOut (w w' : World) (e : Ending) (n : Int) (ws : List Wd) : Prop :=
  ((toldOk n ws = true ∧ e = .returned (.tuple #[.map (some w.heap.size), .bool true]) ∧ BkN w' w.heap.size w.heap.size (2 * ws.length) ws) ∨
   (toldOk n ws = false ∧ e = .returned (.tuple #[.map none, .bool false]))) ∧ Below w.heap.size w w'

set_option maxHeartbeats 4000000 in
set_option maxRecDepth 10000 in
theorem bookOf_any (u : Value) (ws : List Wd) (n : Int) (w : World) (hu : Words w u ws) (hl : ws.length ≤ 1048576) :
    Calls Tryz.prog 40 #[u, .int .i64 n] w fun e w' => BkOut w w' e n ws := by
  have HV : Hid (∀ W, Below w.heap.size w W → Words W u ws) := fun W h => hu.later h (Nat.le_refl _)
  obtain ⟨au, cu, rfl⟩ := hu.shape
  clear hu
  obtain ⟨w0, hw0⟩ : ∃ W, Hid (W = w.alloc (.map #[] 0)) := ⟨_, rfl⟩
  have B0 : Hid (Below w.heap.size w w0) := by show Below _ _ _; rw [hw0.out]; exact alloc_below _ _
  have K0 : Hid (BkN w0 w.heap.size w.heap.size 0 []) := by show BkN _ _ _ _ _; rw [hw0.out]; exact BkN.new w
  have hmm := @run_makeMap Tryz.prog
  go_enter Tryz.func40, Tryz.ntmps40
  go_wp2
  rw [← hw0.out]
  clear hmm
  go_loopw [12] (fun i wr => ∃ k : Nat, k ≤ ws.length ∧ i = .int .i64 k ∧ Hid (toldOk n (ws.take k) = true) ∧ Hid (BkN wr w.heap.size w.heap.size (2 * k) (ws.take k)) ∧ Hid (Below w.heap.size w wr)) (fun i _ => ws.length - (intOf i).toNat)
  case atStart => exact ⟨0, Nat.zero_le _, rfl, rfl, K0, B0⟩
  case round =>
    obtain ⟨k, hk, rfl, HT, HK, HB⟩ := hrel
    by_cases hlt : k < ws.length
    · obtain ⟨p, HP⟩ : ∃ p, Hid (ws.getD k (0, 0, 0, 0) = p) := ⟨_, rfl⟩
      rcases HV.out wr HB.out with ⟨h0, _⟩ | ⟨b, off, cap, hvv, _, hcl⟩
      · rw [h0] at hlt; simp at hlt
      simp only [Value.slice.injEq] at hvv
      obtain ⟨rfl, -, rfl⟩ := hvv
      obtain ⟨c0, c1, c2, c3⟩ := hcl k hlt
      rw [HP.out] at c0 c1 c2 c3
      have hbw : b < wr.heap.size := World.block_lt_of_cell? _ _ c0
      have HA : Hid (∀ W, Calls Tryz.prog 42 #[wordV p.1 p.2.1 p.2.2.1 p.2.2.2, .int .i64 n] W fun e w' => e = .returned (.bool (ansOk n p)) ∧ Below W.heap.size W w') := fun W => answerOk_any p n W
      have X0 : Hid (Blk (wr.alloc (.cells #[.int .i64 p.1, .int .i64 p.2.1, .int .i64 p.2.2.1, .int .i64 p.2.2.2] 39)) wr.heap.size #[.int .i64 p.1, .int .i64 p.2.1, .int .i64 p.2.2.1, .int .i64 p.2.2.2] 39) := Blk.new _ _ _
      have hwr := HB.out.size
      clear hcl
      obtain ⟨aa, haa⟩ : ∃ x, ansOk n p = x := ⟨_, rfl⟩
      rw [haa] at HA
      cases aa
      · have HN : Hid (toldOk n ws = false) := toldOk_bad hlt (by rw [HP.out]; exact haa)
        clear haa
        go_wp2_with (go_at_call 42; refine (HA.out _).mono ?_; rintro e w1 ⟨rfl, hb⟩; have B1 := hide_it (HB.out.trans ((below_after hb).mono hwr)); clear hb)
        refine bodyPost_ret (v := .tuple #[.map none, .bool false]) (by simp [results, Tryz.results40, go_sem]) rfl ?_
        exact ⟨Or.inr ⟨HN.out, rfl⟩, B1.out⟩
      · obtain ⟨pk, ph, pt, pm, pn⟩ := ansOk_parts haa
        have HPP : Hid ((0 ≤ p.1 ∧ p.1 ≤ 10) ∧ (0 ≤ p.2.1 ∧ p.2.1 ≤ 10) ∧ (1 ≤ p.2.2.1 ∧ p.2.2.1 ≤ 6)) := ⟨by omega, by omega, pt⟩
        have hte := told_mem (toldOk_all HT.out) haa
        have HAA := hide_it haa
        clear haa pk ph pt pm pn
        go_wp2_with fail
        refine (HA.out _).mono ?_
        rintro e w1 ⟨rfl, hb⟩
        have B1 := hide_it (HB.out.trans ((below_after hb).mono hwr))
        have K1 := hide_it (HK.out.after (below_after hb))
        have X1 := hide_it (X0.out.after hb)
        obtain ⟨d0, d1, d2, d3⟩ := X1.out.cells4
        have hz1 := B1.out.size
        clear hb c0 c1 c2 c3
        obtain ⟨tt, htt⟩ : ∃ x, told (ws.take k) p.1 p.2.1 p.2.2.1 = x := ⟨_, rfl⟩
        rw [htt] at hte
        cases tt
        · have HTk : Hid (toldOk n (ws.take (k + 1)) = true) := toldOk_more hlt HT.out (by rw [HP.out]; exact HAA.out) (by rw [HP.out]; exact hte.symm)
          have HTe : Hid (ws.take (k + 1) = ws.take k ++ [p]) := by show _ = _; rw [wtake ws k hlt, HP.out]
          have C := bookAdd_new w.heap.size w.heap.size (2 * k) (ws.take k) p w1 K1.out (by omega) HPP.out.1 HPP.out.2.1 HPP.out.2.2 htt
          have HC := hide_it C
          clear C htt hte
          go_wp2_with fail
          refine HC.out.mono ?_
          rintro e w2 ⟨rfl, hk2, hb2⟩
          have B2 := hide_it (B1.out.trans hb2)
          have K2 : Hid (BkN w2 w.heap.size w.heap.size (2 * (k + 1)) (ws.take (k + 1))) := by show BkN _ _ _ _ _; rw [HTe.out]; exact hk2
          clear hk2 hb2
          go_wp2
          go_roundw
          case rel => exact ⟨k + 1, by omega, by go_num, HTk, K2, B2⟩
          case measure => simp [intOf]; omega
        · have HN : Hid (toldOk n ws = false) := toldOk_twice hlt (by rw [HP.out]; exact hte.symm)
          have C := bookAdd_old w.heap.size w.heap.size (2 * k) (ws.take k) p w1 K1.out HPP.out.1 HPP.out.2.1 HPP.out.2.2 htt
          have HC := hide_it C
          clear C htt hte
          go_wp2_with fail
          refine HC.out.mono ?_
          rintro e w2 ⟨rfl, hb2⟩
          have B2 := hide_it (B1.out.trans (hb2.mono hz1))
          clear hb2
          go_wp2
          refine bodyPost_ret (v := .tuple #[.map none, .bool false]) (by simp [results, Tryz.results40, go_sem]) rfl ?_
          exact ⟨Or.inr ⟨HN.out, rfl⟩, B2.out⟩
    · have hke : k = ws.length := by omega
      have HT2 : Hid (toldOk n ws = true) := by have := HT.out; rw [hke, List.take_length] at this; exact this
      have HK2 : Hid (BkN wr w.heap.size w.heap.size (2 * ws.length) ws) := by have := HK.out; rw [hke, List.take_length] at this; exact this
      clear hke
      go_wp2
      refine bodyPost_ret (v := .tuple #[.map (some w.heap.size), .bool true]) (by simp [results, Tryz.results40, go_sem]) rfl ?_
      exact ⟨Or.inl ⟨HT2.out, rfl, HK2.out⟩, HB.out⟩

end Go.Proofs.YtgknnigjlnfplaaGreatDoor

namespace Go.Proofs.YtgknnigjlnfplaaGreatDoor.T
open Go.RowKit

/-- A node: where it lies, what is wanted, its state. -/
abbrev Nd := Nat × (Int × Int × Int) × Int
/-- Its trip. -/
def ndT (n : Nd) : R := ([n.2.1.1, n.2.1.2.1, n.2.1.2.2], n.2.2)
/-- Its cells. -/
def ndV (n : Nd) (nx : Value) : Array Value := #[.int .i64 n.2.1.1, .int .i64 n.2.1.2.1, .int .i64 n.2.1.2.2, .int .i64 n.2.2, nx]
abbrev ptr (b : Nat) : Value := .pointer (some ⟨b, 0, none⟩)
/-- A pointer to the node at a place; nil, if there is none. -/
def at_ (ns : List Nd) (i : Nat) : Value := match ns[i]? with
  | some n => ptr n.1
  | none => .pointer none

theorem at_some {ns : List Nd} {i : Nat} {n : Nd} (h : ns[i]? = some n) : at_ ns i = ptr n.1 := by unfold at_; rw [h]
theorem at_none {ns : List Nd} {i : Nat} (h : ns.length ≤ i) : at_ ns i = .pointer none := by unfold at_; rw [List.getElem?_eq_none h]
theorem at_shape (ns : List Nd) (i : Nat) : ∃ a, at_ ns i = .pointer a := by
  unfold at_
  split
  · exact ⟨_, rfl⟩
  · exact ⟨_, rfl⟩
theorem at_snoc_lt {ns : List Nd} {x : Nd} {i : Nat} (h : i < ns.length) : at_ (ns ++ [x]) i = at_ ns i := by unfold at_; rw [List.getElem?_append_left h]
theorem at_snoc_eq (ns : List Nd) (x : Nd) : at_ (ns ++ [x]) ns.length = ptr x.1 := at_some (by simp)
theorem at_set (ns : List Nd) (k : Nat) (m : Nd) (s : Int) (hk : ns[k]? = some m) (i : Nat) : at_ (ns.set k (m.1, m.2.1, s)) i = at_ ns i := by
  unfold at_
  rw [List.getElem?_set]
  by_cases h : k = i
  · subst h
    have hl : k < ns.length := by
      by_cases e : k < ns.length
      · exact e
      · rw [List.getElem?_eq_none (by omega)] at hk; cases hk
    rw [if_pos rfl, if_pos hl, hk]
  · rw [if_neg h]

/-- The nodes as they lie, one behind the other, from lo on. -/
structure Nodes (w : World) (lo : Nat) (ns : List Nd) : Prop where
  node : ∀ (i : Nat) (n : Nd), ns[i]? = some n → Blk w n.1 (ndV n (at_ ns (i + 1))) 129
  low : ∀ n ∈ ns, lo ≤ n.1
  inj : ∀ (i j : Nat) (a b : Nd), ns[i]? = some a → ns[j]? = some b → a.1 = b.1 → i = j

/-- A chain: its three cells, and its nodes. -/
structure Chain (w : World) (c lo : Nat) (ns : List Nd) : Prop where
  head : Blk w c #[at_ ns 0, at_ ns (ns.length - 1), .int .i64 ns.length] 99
  nodes : Nodes w lo ns
  lowc : lo ≤ c

theorem Nodes.nil (w : World) (lo : Nat) : Nodes w lo [] := ⟨fun i n h => by simp at h, fun n h => by simp at h, fun i j a b h => by simp at h⟩
theorem Nodes.after {w w' : World} {lo : Nat} {ns : List Nd} (h : Nodes w lo ns) (hb : Below w.heap.size w w') : Nodes w' lo ns :=
  ⟨fun i n hn => (h.node i n hn).after hb, h.low, h.inj⟩
theorem Chain.after {w w' : World} {c lo : Nat} {ns : List Nd} (h : Chain w c lo ns) (hb : Below w.heap.size w w') : Chain w' c lo ns :=
  ⟨h.head.after hb, h.nodes.after hb, h.lowc⟩
theorem Chain.new (w : World) : Chain (w.alloc (.cells #[.pointer none, .pointer none, .int .i64 0] 99)) w.heap.size w.heap.size [] :=
  ⟨Blk.new w _ _, Nodes.nil _ _, Nat.le_refl _⟩
theorem len_lt {α : Type} {xs : List α} {i : Nat} {x : α} (h : xs[i]? = some x) : i < xs.length := by
  by_cases e : i < xs.length
  · exact e
  · rw [List.getElem?_eq_none (by omega)] at h; cases h
theorem get_snoc {ns : List Nd} {x n : Nd} {i : Nat} (h : (ns ++ [x])[i]? = some n) : (i < ns.length ∧ ns[i]? = some n) ∨ (i = ns.length ∧ n = x) := by
  by_cases hi : i < ns.length
  · rw [List.getElem?_append_left hi] at h; exact Or.inl ⟨hi, h⟩
  · rw [List.getElem?_append_right (by omega)] at h
    have h0 : i - ns.length = 0 := by
      have := len_lt h
      simp at this; omega
    rw [h0] at h
    simp at h
    exact Or.inr ⟨by omega, h.symm⟩

/-- The first node of a chain. -/
theorem Chain.add0 {w w1 w' : World} {c lo : Nat} {x : Nd} (h : Chain w c lo []) (hx : x.1 = w.heap.size) (hb : Below w.heap.size w w1) (hn : Blk w1 x.1 (ndV x (.pointer none)) 129)
    (h' : w' = ((w1.setCell ⟨c, 0, none⟩ (ptr x.1)).setCell ⟨c, 1, none⟩ (ptr x.1)).setCell ⟨c, 2, none⟩ (.int .i64 1)) : Chain w' c lo [x] ∧ Below lo w w' := by
  have hc1 := h.head.after hb
  have hcx : x.1 ≠ c := hn.ne hc1 (by decide)
  have hlt := h.head.lt
  have hlo := h.lowc
  refine ⟨⟨?_, ⟨fun i n hi => ?_, fun n hi => ?_, fun i j a b hi hj _ => ?_⟩, hlo⟩, ?_⟩
  · rw [h']
    exact ((hc1.set_ 0 _).set_ 1 _).set_ 2 _
  · have hi0 := len_lt hi
    simp at hi0
    subst hi0
    simp at hi
    subst hi
    rw [h', at_none (by simp)]
    exact ((hn.other hcx _).other hcx _).other hcx _
  · simp at hi; subst hi; omega
  · have h1 := len_lt hi; have h2 := len_lt hj; simp at h1 h2; omega
  · rw [h']
    exact (((hb.mono (by omega)).setCell (by simpa using hlo) _).setCell (by simpa using hlo) _).setCell (by simpa using hlo) _

/-- One node more, behind the last one. -/
theorem Chain.add1 {w w1 w' : World} {c lo : Nat} {ns : List Nd} {x m : Nd} (h : Chain w c lo ns) (hm : ns[ns.length - 1]? = some m) (hx : x.1 = w.heap.size) (hb : Below w.heap.size w w1) (hn : Blk w1 x.1 (ndV x (.pointer none)) 129)
    (h' : w' = ((w1.setCell ⟨m.1, 4, none⟩ (ptr x.1)).setCell ⟨c, 1, none⟩ (ptr x.1)).setCell ⟨c, 2, none⟩ (.int .i64 ((ns.length : Int) + 1))) : Chain w' c lo (ns ++ [x]) ∧ Below lo w w' := by
  have hl := len_lt hm
  have hc1 := h.head.after hb
  have hm1 := (h.nodes.node _ m hm).after hb
  have hcx : x.1 ≠ c := hn.ne hc1 (by decide)
  have hcm : m.1 ≠ c := hm1.ne hc1 (by decide)
  have hlt := h.head.lt
  have hlo := h.lowc
  have hmlt := (h.nodes.node _ m hm).lt
  have hmlo := h.nodes.low m (List.mem_of_getElem? hm)
  have hmx : m.1 ≠ x.1 := by omega
  refine ⟨⟨?_, ⟨fun i n hi => ?_, fun n hi => ?_, fun i j a b hi hj hab => ?_⟩, hlo⟩, ?_⟩
  · rw [h']
    have h0 := ((hc1.other (a := ⟨m.1, 4, none⟩) (fun e => hcm e.symm) (ptr x.1)).set_ 1 (ptr x.1)).set_ 2 (.int .i64 ((ns.length : Int) + 1))
    rw [at_snoc_lt (by omega), show (ns ++ [x]).length - 1 = ns.length by simp, at_snoc_eq, show ((ns ++ [x]).length : Int) = (ns.length : Int) + 1 by simp]
    exact h0
  · rw [h']
    rcases get_snoc hi with ⟨hil, hi⟩ | ⟨rfl, rfl⟩
    · have hni := (h.nodes.node i n hi).after hb
      have hnc : n.1 ≠ c := hni.ne hc1 (by decide)
      by_cases hlast : i = ns.length - 1
      · subst hlast
        rw [hm] at hi
        simp at hi
        subst hi
        rw [show ns.length - 1 + 1 = ns.length by omega, at_snoc_eq]
        have h0 := hm1.set_ 4 (ptr x.1)
        exact (h0.other hcm _).other hcm _
      · rw [at_snoc_lt (by omega)]
        have hnm : n.1 ≠ m.1 := fun e => hlast (h.nodes.inj i _ n m hi hm e)
        exact ((hni.other hnm _).other hnc _).other hnc _
    · rw [at_none (by simp)]
      exact ((hn.other (fun e => hmx e.symm) _).other hcx _).other hcx _
  · rcases List.mem_append.1 hi with hi | hi
    · exact h.nodes.low n hi
    · simp at hi; subst hi; omega
  · rcases get_snoc hi with ⟨hil, hi'⟩ | ⟨ei, ea⟩
    · rcases get_snoc hj with ⟨hjl, hj'⟩ | ⟨ej, eb⟩
      · exact h.nodes.inj i j a b hi' hj' hab
      · have := (h.nodes.node i a hi').lt; subst eb; omega
    · rcases get_snoc hj with ⟨hjl, hj'⟩ | ⟨ej, eb⟩
      · have := (h.nodes.node j b hj').lt; subst ea; omega
      · omega
  · rw [h']
    exact (((hb.mono (by omega)).setCell (by simpa using hmlo) _).setCell (by simpa using hlo) _).setCell (by simpa using hlo) _

/-- Another state of one node. -/
theorem Chain.turn {w : World} {c lo : Nat} {ns : List Nd} {k : Nat} {m : Nd} (s : Int) (h : Chain w c lo ns) (hm : ns[k]? = some m) :
    Chain (w.setCell ⟨m.1, 3, none⟩ (.int .i64 s)) c lo (ns.set k (m.1, m.2.1, s)) ∧ Below lo w (w.setCell ⟨m.1, 3, none⟩ (.int .i64 s)) := by
  have hk := len_lt hm
  have hmb := h.nodes.node k m hm
  have hmc : m.1 ≠ c := hmb.ne h.head (by decide)
  have hmlo := h.nodes.low m (List.mem_of_getElem? hm)
  have same : ∀ (i : Nat) (n : Nd), (ns.set k (m.1, m.2.1, s))[i]? = some n → ∃ n', ns[i]? = some n' ∧ n'.1 = n.1 := by
    intro i n hn
    rw [List.getElem?_set] at hn
    by_cases e : k = i
    · subst e
      rw [if_pos rfl, if_pos hk] at hn
      simp at hn
      exact ⟨m, hm, by rw [← hn]⟩
    · rw [if_neg e] at hn; exact ⟨n, hn, rfl⟩
  refine ⟨⟨?_, ⟨fun i n hi => ?_, fun n hn => ?_, fun i j a b hi hj hab => ?_⟩, h.lowc⟩, ?_⟩
  · rw [at_set ns k m s hm, List.length_set, at_set ns k m s hm]
    exact h.head.other (fun e => hmc e.symm) _
  · rw [at_set ns k m s hm]
    rw [List.getElem?_set] at hi
    by_cases e : k = i
    · subst e
      rw [if_pos rfl, if_pos hk] at hi
      simp at hi
      subst hi
      exact hmb.set_ 3 _
    · rw [if_neg e] at hi
      exact (h.nodes.node i n hi).other (fun e' => e (h.nodes.inj k i m n hm hi e'.symm)) _
  · obtain ⟨i, hi, hn'⟩ := List.mem_iff_getElem.1 hn
    obtain ⟨n', h1, h2⟩ := same i n (by rw [List.getElem?_eq_getElem hi, hn'])
    rw [← h2]; exact h.nodes.low n' (List.mem_of_getElem? h1)
  · obtain ⟨a', ha1, ha2⟩ := same i a hi
    obtain ⟨b', hb1, hb2⟩ := same j b hj
    exact h.nodes.inj i j a' b' ha1 hb1 (by rw [ha2, hb2, hab])
  · exact (Below.refl _ _).setCell (by simpa using hmlo) _

theorem Nodes.cells {w : World} {lo : Nat} {ns : List Nd} (h : Nodes w lo ns) {i : Nat} {n : Nd} (hn : ns[i]? = some n) :
    w.cell? ⟨n.1, 0, none⟩ = some (.int .i64 n.2.1.1) ∧ w.cell? ⟨n.1, 1, none⟩ = some (.int .i64 n.2.1.2.1) ∧ w.cell? ⟨n.1, 2, none⟩ = some (.int .i64 n.2.1.2.2) ∧ w.cell? ⟨n.1, 3, none⟩ = some (.int .i64 n.2.2) ∧ w.cell? ⟨n.1, 4, none⟩ = some (at_ ns (i + 1)) :=
  (h.node i n hn).cells5

end Go.Proofs.YtgknnigjlnfplaaGreatDoor.T

namespace Go.Proofs.YtgknnigjlnfplaaGreatDoor.T
open Go.RowKit

set_option maxHeartbeats 1000000 in
theorem stateBehind_any (s k : Int) (w : World) :
    Calls Tryz.prog 83 #[.int .i64 s, .int .i64 k] w fun e w' => e = .returned (.int .i64 (nextS s k)) ∧ w' = w := by
  by_cases h5 : k = 5
  · subst h5
    by_cases h1 : s = 1
    · subst h1
      go_enter Tryz.func83, Tryz.ntmps83
      go_wp2
      go_ret
      exact ⟨rfl, rfl⟩
    · have HE : Hid (nextS s 5 = 0) := by show _ = _; simp [nextS, h1]
      have e1 : (s == 1) = false := by simp [h1]
      go_enter Tryz.func83, Tryz.ntmps83
      go_wp2
      go_ret
      exact ⟨by rw [HE.out]; rfl, rfl⟩
  by_cases h6 : k = 6
  · subst h6
    by_cases h1 : s = 1
    · subst h1
      go_enter Tryz.func83, Tryz.ntmps83
      go_wp2
      go_ret
      exact ⟨rfl, rfl⟩
    · have HE : Hid (nextS s 6 = 0) := by show _ = _; simp [nextS, h1]
      have e1 : (s == 1) = false := by simp [h1]
      go_enter Tryz.func83, Tryz.ntmps83
      go_wp2
      go_ret
      exact ⟨by rw [HE.out]; rfl, rfl⟩
  by_cases h7 : k = 7
  · subst h7
    by_cases h2 : s = 2
    · subst h2
      go_enter Tryz.func83, Tryz.ntmps83
      go_wp2
      go_ret
      exact ⟨rfl, rfl⟩
    have e2 : (s == 2) = false := by simp [h2]
    by_cases h3 : s = 3
    · subst h3
      go_enter Tryz.func83, Tryz.ntmps83
      go_wp2
      go_ret
      exact ⟨rfl, rfl⟩
    have e3 : (s == 3) = false := by simp [h3]
    have HE : Hid (nextS s 7 = 0) := by show _ = _; simp [nextS, h2, h3]
    go_enter Tryz.func83, Tryz.ntmps83
    go_wp2
    go_ret
    exact ⟨by rw [HE.out]; rfl, rfl⟩
  have HE : Hid (nextS s k = 0) := by show _ = _; simp [nextS, h5, h6, h7]
  have e5 : (k == 5) = false := by simp [h5]
  have e6 : (k == 6) = false := by simp [h6]
  have e7 : (k == 7) = false := by simp [h7]
  go_enter Tryz.func83, Tryz.ntmps83
  go_wp2
  go_ret
  exact ⟨by rw [HE.out]; rfl, rfl⟩

set_option maxHeartbeats 1000000 in
theorem find_any (c lo : Nat) (ns : List Nd) (t : Int) (w : World) (hc : Chain w c lo ns) (hn : ns.length ≤ 6) (ht : 1 ≤ t) :
    Calls Tryz.prog 82 #[ptr c, .int .i64 t] w fun e w' => e = .returned (at_ ns (t - 1).toNat) ∧ w' = w := by
  obtain ⟨h0, h1, h2⟩ := hc.head.cells3
  have HN := hide_it hc.nodes
  clear hc h1 h2
  obtain ⟨a0, ha0⟩ := at_shape ns 0
  have HA0 := hide_it ha0
  rw [ha0] at h0
  clear ha0
  obtain ⟨I, hI⟩ : ∃ I, (t - 1).toNat = I := ⟨_, rfl⟩
  rw [hI]
  have HIq := hide_it hI
  clear hI
  go_enter Tryz.func82, Tryz.ntmps82
  go_wp2
  go_loop [5, 6] (fun q p => ∃ (i : Nat) (a : Option Addr), i ≤ ns.length ∧ q = .int .i64 ((i : Int) + 1) ∧ p = .pointer a ∧ Hid (at_ ns i = .pointer a) ∧ (i : Int) < t) (fun q _ => ns.length + 1 - (intOf q).toNat)
  case atStart => exact ⟨0, a0, Nat.zero_le _, rfl, rfl, HA0, by omega⟩
  case round =>
    obtain ⟨i, a, hi, rfl, rfl, HA, hit⟩ := hrel
    by_cases hlt : i < ns.length
    · obtain ⟨n, hg⟩ : ∃ n, Hid (ns[i]? = some n) := ⟨ns[i], by show _ = _; simp [hlt]⟩
      obtain rfl : a = some ⟨n.1, 0, none⟩ := by
        have := HA.out
        rw [at_some hg.out] at this
        simpa [ptr] using this.symm
      obtain ⟨-, -, -, -, c4⟩ := HN.out.cells hg.out
      obtain ⟨a', ha'⟩ := at_shape ns (i + 1)
      rw [ha'] at c4
      have HA' := hide_it ha'
      clear ha'
      by_cases he : (i : Int) + 1 = t
      · have HE : Hid (at_ ns I = ptr n.1) := by
          show _ = _
          rw [show I = i by have := HIq.out; omega, at_some hg.out]
        go_wp2
        go_ret
        exact ⟨by rw [HE.out]; rfl, rfl⟩
      · go_wp2
        go_round
        case rel => exact ⟨i + 1, a', by omega, by go_num, rfl, HA', by omega⟩
        case measure => simp [intOf]; omega
    · obtain rfl : a = none := by
        have := HA.out
        rw [at_none (by omega)] at this
        simpa using this.symm
      have HE : Hid (at_ ns I = .pointer none) := at_none (by have := HIq.out; omega)
      go_wp2
      go_ret
      exact ⟨by rw [HE.out]; rfl, rfl⟩

/-- A node's cells while what is wanted is put into it. -/
def part (z0 z1 z2 s : Int) (k : Nat) : Array Value := #[.int .i64 (if 0 < k then z0 else 0), .int .i64 (if 1 < k then z1 else 0), .int .i64 (if 2 < k then z2 else 0), .int .i64 s, .pointer none]

theorem list3 {zs : List Int} (h : zs.length = 3) : ∃ z0 z1 z2, zs = [z0, z1, z2] := by
  match zs, h with
  | [a, b, c], _ => exact ⟨a, b, c, rfl⟩

set_option maxHeartbeats 2000000 in
theorem add_any (c lo : Nat) (ns : List Nd) (v : Value) (z0 z1 z2 s : Int) (w : World) (hc : Chain w c lo ns) (hn : ns.length ≤ 6) (hv : Ints w v [z0, z1, z2]) :
    Calls Tryz.prog 95 #[ptr c, v, .int .i64 s] w fun e w' => e = .returned (.tuple #[]) ∧ Chain w' c lo (ns ++ [(w.heap.size, (z0, z1, z2), s)]) ∧ Below lo w w' := by
  rcases hv with ⟨h, _⟩ | ⟨b, off, cap, rfl, _, hcl⟩
  · simp at h
  have b0 := hcl 0 (by simp)
  have b1 := hcl 1 (by simp)
  have b2 := hcl 2 (by simp)
  have hbw : b < w.heap.size := World.block_lt_of_cell? _ _ b0
  simp at b0 b1 b2
  have HC := hide_it hc
  have HB0 := hide_it b0
  have HB1 := hide_it b1
  have HB2 := hide_it b2
  obtain ⟨w0, hw0⟩ : ∃ W, Hid (W = w.alloc (.cells #[.int .i64 0, .int .i64 0, .int .i64 0, .int .i64 s, .pointer none] 129)) := ⟨_, rfl⟩
  have X0 : Hid (Blk w0 w.heap.size (part z0 z1 z2 s 0) 129) := by show Blk _ _ _ _; rw [hw0.out]; exact Blk.new w _ _
  have B0 : Hid (Below w.heap.size w w0) := by show Below _ _ _; rw [hw0.out]; exact alloc_below _ _
  clear hc b0 b1 b2 hcl
  go_enter Tryz.func95, Tryz.ntmps95
  go_wp2
  rw [← hw0.out]
  go_loopw [14] (fun i wr => ∃ k : Nat, k ≤ 3 ∧ i = .int .i64 k ∧ Hid (Blk wr w.heap.size (part z0 z1 z2 s k) 129) ∧ Hid (Below w.heap.size w wr)) (fun i _ => 3 - (intOf i).toNat)
  case atStart => exact ⟨0, by omega, rfl, X0, B0⟩
  case round =>
    obtain ⟨k, hk, rfl, HX, HB⟩ := hrel
    have c0 : wr.cell? ⟨b, off, none⟩ = some (.int .i64 z0) := by rw [HB.out.cell (p := ⟨b, off, none⟩) hbw]; exact HB0.out
    have c1 : wr.cell? ⟨b, off + 1, none⟩ = some (.int .i64 z1) := by rw [HB.out.cell (p := ⟨b, off + 1, none⟩) hbw]; exact HB1.out
    have c2 : wr.cell? ⟨b, off + 2, none⟩ = some (.int .i64 z2) := by rw [HB.out.cell (p := ⟨b, off + 2, none⟩) hbw]; exact HB2.out
    obtain ⟨x0, x1, x2, x3, x4⟩ := HX.out.cells5
    obtain ⟨f0, f1, f2, f3, f4⟩ := HX.out.free5
    rcases (show k = 0 ∨ k = 1 ∨ k = 2 ∨ k = 3 by omega) with rfl | rfl | rfl | rfl
    · go_wp2
      go_roundw
      case rel => exact ⟨1, by omega, rfl, HX.out.set_ 0 _, HB.out.setCell (Nat.le_refl _) _⟩
      case measure => simp [intOf]
    · go_wp2
      go_roundw
      case rel => exact ⟨2, by omega, rfl, HX.out.set_ 1 _, HB.out.setCell (Nat.le_refl _) _⟩
      case measure => simp [intOf]
    · go_wp2
      go_roundw
      case rel => exact ⟨3, by omega, rfl, HX.out.set_ 2 _, HB.out.setCell (Nat.le_refl _) _⟩
      case measure => simp [intOf]
    · clear c0 c1 c2 x0 x1 x2 x3 x4 f0 f1 f2 f3 f4
      have HCr := hide_it (HC.out.after HB.out)
      obtain ⟨d0, d1, d2⟩ := HCr.out.head.cells3
      obtain ⟨e0, e1, e2, -, -⟩ := HCr.out.head.free5
      by_cases hz : ns = []
      · subst hz
        have q0 : wr.cell? ⟨c, 0, none⟩ = some (.pointer none) := d0
        have q1 : wr.cell? ⟨c, 1, none⟩ = some (.pointer none) := d1
        have q2 : wr.cell? ⟨c, 2, none⟩ = some (.int .i64 0) := d2
        clear d0 d1 d2
        go_wp2
        refine bodyPost_end (v := .tuple #[]) (by simp [results, Tryz.results95, go_sem]) rfl ?_
        have := HC.out.add0 (x := (w.heap.size, (z0, z1, z2), s)) rfl HB.out HX.out rfl
        exact ⟨rfl, this.1, this.2⟩
      · have hpos : 0 < ns.length := List.length_pos_iff.2 hz
        obtain ⟨m, hm⟩ : ∃ m, Hid (ns[ns.length - 1]? = some m) := ⟨ns[ns.length - 1], by show _ = _; rw [List.getElem?_eq_getElem (by omega)]⟩
        rw [at_some hm.out] at d1
        have HMn := hide_it (HCr.out.nodes.node _ m hm.out)
        obtain ⟨-, -, -, -, m4⟩ := HMn.out.cells5
        have fm4 := HMn.out.free 4
        have hmc : m.1 ≠ c := HMn.out.ne HCr.out.head (by decide)
        have hcm : c ≠ m.1 := fun e => hmc e.symm
        obtain ⟨a4, ha4⟩ := at_shape ns (ns.length - 1 + 1)
        rw [ha4] at m4
        clear ha4 hz
        go_wp2
        refine bodyPost_end (v := .tuple #[]) (by simp [results, Tryz.results95, go_sem]) rfl ?_
        have := HC.out.add1 (x := (w.heap.size, (z0, z1, z2), s)) hm.out rfl HB.out HX.out rfl
        exact ⟨rfl, this.1, this.2⟩

end Go.Proofs.YtgknnigjlnfplaaGreatDoor.T

namespace Go.Proofs.YtgknnigjlnfplaaGreatDoor.T
open Go.RowKit

/-- What comes of a chain behind a record. -/
def Took (w w' : World) (e : Ending) (c lo : Nat) (ns : List Nd) (r : Rc) (b : Bool) : Prop :=
  e = .returned (.bool b) ∧ ∃ ns', Chain w' c lo ns' ∧ ns'.map ndT = (if b = true then doL (ns.map ndT) r else ns.map ndT) ∧ Below lo w w'

theorem Took.no {w w' : World} {c lo : Nat} {ns : List Nd} {r : Rc} (hc : Chain w c lo ns) (hb : Below w.heap.size w w') : Took w w' (.returned (.bool false)) c lo ns r false :=
  ⟨rfl, ns, hc.after hb, rfl, hb.mono (by have := hc.head.lt; have := hc.lowc; omega)⟩

theorem doL_begin {rs : List R} {r : Rc} (h4 : r.1 = 4) : doL rs r = rs ++ [(r.2.2, 1)] := by unfold doL; rw [if_pos h4]

set_option maxHeartbeats 2000000 in
theorem begin_yes (c lo : Nat) (ns : List Nd) (u : Value) (zs : List Int) (w : World) (hc : Chain w c lo ns) (hn : ns.length ≤ 6) (hu : Ints w u zs) (h3 : zs.length = 3) :
    Calls Tryz.prog 81 #[ptr c, .agg #[.int .i64 4, .int .i64 ((ns.length : Int) + 1), u]] w fun e w' => Took w w' e c lo ns (4, (ns.length : Int) + 1, zs) true := by
  obtain ⟨z0, z1, z2, rfl⟩ := list3 h3
  have HC := hide_it hc
  have HU : Hid (∀ W, Below w.heap.size w W → Ints W u [z0, z1, z2]) := fun W h => hu.later h (Nat.le_refl _)
  obtain ⟨au, cu, hus⟩ := hu.shape
  have hus' : u = .slice au 3 cu := hus
  subst hus'
  have hlc : lo ≤ w.heap.size := by have := hc.head.lt; have := hc.lowc; omega
  clear hc hu h3 hus
  obtain ⟨w0, hw0⟩ : ∃ W, Hid (W = w.alloc (.cells #[.int .i64 4, .int .i64 ((ns.length : Int) + 1), .slice au 3 cu] 81)) := ⟨_, rfl⟩
  have B0 : Hid (Below w.heap.size w w0) := by show Below _ _ _; rw [hw0.out]; exact alloc_below _ _
  have C0 := hide_it (HC.out.after B0.out)
  have X0 : Hid (Blk w0 w.heap.size #[.int .i64 4, .int .i64 ((ns.length : Int) + 1), .slice au 3 cu] 81) := by show Blk _ _ _ _; rw [hw0.out]; exact Blk.new w _ _
  obtain ⟨x0, x1, x2⟩ := X0.out.cells3
  obtain ⟨-, -, d2⟩ := C0.out.head.cells3
  go_enter Tryz.func81, Tryz.ntmps81
  go_wp2
  rw [← hw0.out]
  go_quiet (fail)
  go_wp2_with fail
  have Bd := hide_it (below_drewN B0.out nq)
  have Cd := hide_it (HC.out.after Bd.out)
  refine (add_any c lo ns _ z0 z1 z2 1 _ Cd.out hn (HU.out _ Bd.out)).mono ?_
  rintro e w1 ⟨rfl, hc1, hb1⟩
  have C1 := hide_it hc1
  have B1 := hide_it ((Bd.out.mono hlc).trans hb1)
  clear hc1 hb1
  go_wp2
  go_ret
  refine ⟨rfl, _, C1.out, ?_, B1.out⟩
  rw [if_pos rfl, doL_begin rfl, List.map_append]
  rfl

set_option maxHeartbeats 2000000 in
theorem begin_no (c lo : Nat) (ns : List Nd) (t : Int) (u : Value) (zs : List Int) (w : World) (hc : Chain w c lo ns) (hn : ns.length ≤ 6) (hu : Ints w u zs) (h3 : zs.length = 3) (ht : ¬ t = (ns.length : Int) + 1) :
    Calls Tryz.prog 81 #[ptr c, .agg #[.int .i64 4, .int .i64 t, u]] w fun e w' => Took w w' e c lo ns (4, t, zs) false := by
  obtain ⟨z0, z1, z2, rfl⟩ := list3 h3
  have HC := hide_it hc
  have HU : Hid (∀ W, Below w.heap.size w W → Ints W u [z0, z1, z2]) := fun W h => hu.later h (Nat.le_refl _)
  obtain ⟨au, cu, hus⟩ := hu.shape
  have hus' : u = .slice au 3 cu := hus
  subst hus'
  have hlc : lo ≤ w.heap.size := by have := hc.head.lt; have := hc.lowc; omega
  clear hc hu h3 hus
  obtain ⟨w0, hw0⟩ : ∃ W, Hid (W = w.alloc (.cells #[.int .i64 4, .int .i64 t, .slice au 3 cu] 81)) := ⟨_, rfl⟩
  have B0 : Hid (Below w.heap.size w w0) := by show Below _ _ _; rw [hw0.out]; exact alloc_below _ _
  have C0 := hide_it (HC.out.after B0.out)
  have X0 : Hid (Blk w0 w.heap.size #[.int .i64 4, .int .i64 t, .slice au 3 cu] 81) := by show Blk _ _ _ _; rw [hw0.out]; exact Blk.new w _ _
  obtain ⟨x0, x1, x2⟩ := X0.out.cells3
  obtain ⟨-, -, d2⟩ := C0.out.head.cells3
  go_enter Tryz.func81, Tryz.ntmps81
  go_wp2
  rw [← hw0.out]
  go_quiet (fail)
  go_wp2
  go_ret
  exact Took.no HC.out (below_drewN B0.out _)

theorem begin_any (c lo : Nat) (ns : List Nd) (t : Int) (u : Value) (zs : List Int) (w : World) (hc : Chain w c lo ns) (hn : ns.length ≤ 6) (hu : Ints w u zs) (h3 : zs.length = 3) :
    Calls Tryz.prog 81 #[ptr c, .agg #[.int .i64 4, .int .i64 t, u]] w fun e w' => Took w w' e c lo ns (4, t, zs) (decide (t = ns.length + 1)) := by
  by_cases ht : t = ns.length + 1
  · have HE : decide (t = (ns.length : Int) + 1) = true := by simp [ht]
    rw [HE]
    subst ht
    exact begin_yes c lo ns u zs w hc hn hu h3
  · have HE : decide (t = (ns.length : Int) + 1) = false := by simp [ht]
    rw [HE]
    exact begin_no c lo ns t u zs w hc hn hu h3 ht

theorem tripAt_nd {ns : List Nd} {t : Int} {n : Nd} (h : ns[(t - 1).toNat]? = some n) : tripAt (ns.map ndT) t = ndT n := tripAt_get (by rw [List.getElem?_map, h]; rfl)

set_option maxHeartbeats 4000000 in
theorem take_any (c lo : Nat) (ns : List Nd) (r : Rc) (u : Value) (a : Addr) (w : World) (hc : Chain w c lo ns) (hn : ns.length ≤ 6) (hu : Ints w u r.2.2) (hrl : r.2.2.length ≤ 1048576) (ha : ErrAt w a) :
    Calls Tryz.prog 61 #[ptr c, .agg #[.int .i64 r.1, .int .i64 r.2.1, u]] w fun e w' => Took w w' e c lo ns r (rOk r && mayL (ns.map ndT) r) := by
  obtain ⟨kd, t, zs⟩ := r
  have HC := hide_it hc
  have HU : Hid (∀ W, Below w.heap.size w W → Ints W u zs) := fun W h => hu.later h (Nat.le_refl _)
  have HAe : Hid (∀ W, Below w.heap.size w W → ErrAt W a) := fun W h => ha.later h (Nat.le_refl _)
  obtain ⟨au, cu, hus⟩ := hu.shape
  dsimp only at hus hrl
  subst hus
  have hlc : lo ≤ w.heap.size := by have := hc.head.lt; have := hc.lowc; omega
  clear hc hu ha
  obtain ⟨w0, hw0⟩ : ∃ W, Hid (W = w.alloc (.cells #[.int .i64 kd, .int .i64 t, .slice au zs.length cu] 81)) := ⟨_, rfl⟩
  have B0 : Hid (Below w.heap.size w w0) := by show Below _ _ _; rw [hw0.out]; exact alloc_below _ _
  have C0 := hide_it (HC.out.after B0.out)
  have X0 : Hid (Blk w0 w.heap.size #[.int .i64 kd, .int .i64 t, .slice au zs.length cu] 81) := by show Blk _ _ _ _; rw [hw0.out]; exact Blk.new w _ _
  have S0 := implOk_any kd t _ zs a w0 (HU.out _ B0.out) hrl (HAe.out _ B0.out)
  cases hok : rOk (kd, t, zs)
  · have hok' : Pl.recOk kd t zs = false := hok
    rw [hok'] at S0
    have HS := hide_it S0
    clear S0 hok hok'
    rw [Bool.false_and]
    go_enter Tryz.func61, Tryz.ntmps61
    go_wp2_with fail
    rw [← hw0.out]
    refine HS.out.mono ?_
    rintro e w1 ⟨rfl, hb1⟩
    have B1 := hide_it (B0.out.trans (hb1.mono B0.out.size))
    clear hb1
    go_wp2
    go_ret
    exact Took.no HC.out B1.out
  obtain ⟨ht1, ht6⟩ := rOk_trip hok
  dsimp only at ht1 ht6
  have hok' : Pl.recOk kd t zs = true := hok
  rw [hok'] at S0
  have HS := hide_it S0
  have HOK := hide_it hok
  clear S0 hok hok'
  obtain ⟨bb, hbb⟩ : ∃ b, mayL (ns.map ndT) (kd, t, zs) = b := ⟨_, rfl⟩
  rw [hbb, Bool.true_and]
  have HBB := hide_it hbb
  clear hbb
  by_cases h4 : kd = 4
  · subst h4
    have hz3 : Hid (zs.length = 3) := manyOk_three (rOk_begin HOK.out rfl)
    have HE : Hid (bb = decide (t = (ns.length : Int) + 1)) := by show _ = _; rw [← HBB.out]; unfold mayL; simp
    go_enter Tryz.func61, Tryz.ntmps61
    go_wp2_with fail
    rw [← hw0.out]
    refine HS.out.mono ?_
    rintro e w1 ⟨rfl, hb1⟩
    have B1 := hide_it (B0.out.trans (hb1.mono B0.out.size))
    have X1 := hide_it (X0.out.after hb1)
    have C1 := hide_it (C0.out.after hb1)
    clear hb1
    obtain ⟨x0, x1, x2⟩ := X1.out.cells3
    go_wp2_with fail
    refine (begin_any c lo ns t _ zs w1 C1.out hn (HU.out _ B1.out) hz3.out).mono ?_
    rintro e w2 ⟨rfl, ns', hc2, hm2, hb2⟩
    rw [← HE.out]
    rw [← HE.out] at hm2
    have C2 := hide_it hc2
    have M2 := hide_it hm2
    have B2 := hide_it ((B1.out.mono hlc).trans hb2)
    clear hc2 hm2 hb2
    go_wp2
    go_ret
    exact ⟨rfl, ns', C2.out, M2.out, B2.out⟩
  cases hg : ns[(t - 1).toNat]? with
  | none =>
    have HAt : Hid (at_ ns (t - 1).toNat = .pointer none) := by show _ = _; unfold at_; rw [hg]
    have HE : Hid (bb = false) := by
      show _ = _; rw [← HBB.out]; unfold mayL; rw [if_neg h4]
      dsimp only
      rw [tripAt_none (by rw [List.getElem?_map, hg]; rfl), nextS_0]; rfl
    rw [HE.out]
    clear hg
    go_enter Tryz.func61, Tryz.ntmps61
    go_wp2_with fail
    rw [← hw0.out]
    refine HS.out.mono ?_
    rintro e w1 ⟨rfl, hb1⟩
    have B1 := hide_it (B0.out.trans (hb1.mono B0.out.size))
    have X1 := hide_it (X0.out.after hb1)
    have C1 := hide_it (C0.out.after hb1)
    clear hb1
    obtain ⟨x0, x1, x2⟩ := X1.out.cells3
    go_wp2_with fail
    have HF := find_any c lo ns t w1 C1.out hn ht1
    rw [HAt.out] at HF
    refine HF.mono ?_
    rintro e w2 ⟨rfl, rfl⟩
    go_wp2
    go_ret
    exact Took.no HC.out B1.out
  | some n =>
    have HG := hide_it hg
    have HAt : Hid (at_ ns (t - 1).toNat = ptr n.1) := by show _ = _; exact at_some hg
    have HE : Hid (bb = decide (nextS n.2.2 kd ≠ 0)) := by
      show _ = _; rw [← HBB.out]; unfold mayL; rw [if_neg h4]
      dsimp only
      rw [tripAt_nd hg]; rfl
    clear hg
    by_cases hz : nextS n.2.2 kd = 0
    · have HQ : Hid (∀ W, Calls Tryz.prog 83 #[.int .i64 n.2.2, .int .i64 kd] W fun e w' => e = .returned (.int .i64 0) ∧ w' = W) := fun W => by
        have := stateBehind_any n.2.2 kd W
        rw [hz] at this; exact this
      have HE2 : Hid (bb = false) := by show _ = _; rw [HE.out, hz]; rfl
      rw [HE2.out]
      clear hz
      go_enter Tryz.func61, Tryz.ntmps61
      go_wp2_with fail
      rw [← hw0.out]
      refine HS.out.mono ?_
      rintro e w1 ⟨rfl, hb1⟩
      have B1 := hide_it (B0.out.trans (hb1.mono B0.out.size))
      have X1 := hide_it (X0.out.after hb1)
      have C1 := hide_it (C0.out.after hb1)
      clear hb1
      obtain ⟨x0, x1, x2⟩ := X1.out.cells3
      obtain ⟨-, -, -, n3, -⟩ := C1.out.nodes.cells HG.out
      go_wp2_with fail
      have HF := find_any c lo ns t w1 C1.out hn ht1
      rw [HAt.out] at HF
      refine HF.mono ?_
      rintro e w2 ⟨rfl, rfl⟩
      go_wp2
      go_quiet ((go_at_call 83; exact Calls.quiet_of_same (HQ.out _)))
      go_wp2
      go_ret
      exact Took.no HC.out (below_drewN B1.out _)
    · have HE2 : Hid (bb = true) := by show _ = _; rw [HE.out]; simp [hz]
      rw [HE2.out]
      obtain ⟨S, hS⟩ : ∃ S, nextS n.2.2 kd = S := ⟨_, rfl⟩
      have HSS := hide_it hS
      rw [hS] at hz
      have HQ : Hid (∀ W, Calls Tryz.prog 83 #[.int .i64 n.2.2, .int .i64 kd] W fun e w' => e = .returned (.int .i64 S) ∧ w' = W) := fun W => by
        have := stateBehind_any n.2.2 kd W
        rw [hS] at this; exact this
      clear hS
      go_enter Tryz.func61, Tryz.ntmps61
      go_wp2_with fail
      rw [← hw0.out]
      refine HS.out.mono ?_
      rintro e w1 ⟨rfl, hb1⟩
      have B1 := hide_it (B0.out.trans (hb1.mono B0.out.size))
      have X1 := hide_it (X0.out.after hb1)
      have C1 := hide_it (C0.out.after hb1)
      clear hb1
      obtain ⟨x0, x1, x2⟩ := X1.out.cells3
      obtain ⟨-, -, -, n3, -⟩ := C1.out.nodes.cells HG.out
      have fn3 := (C1.out.nodes.node _ n HG.out).free 3
      go_wp2_with fail
      have HF := find_any c lo ns t w1 C1.out hn ht1
      rw [HAt.out] at HF
      refine HF.mono ?_
      rintro e w2 ⟨rfl, rfl⟩
      go_wp2
      go_quiet ((go_at_call 83; exact Calls.quiet_of_same (HQ.out _)))
      go_wp2
      go_ret
      have T := (C1.out.after (below_drewN (Below.refl _ _) nq)).turn S HG.out
      refine ⟨rfl, _, T.1, ?_, ((below_drewN B1.out _).mono hlc).trans T.2⟩
      rw [if_pos rfl]
      unfold doL
      rw [if_neg h4]
      dsimp only
      rw [tripAt_nd HG.out, List.map_set]
      show _ = List.set _ _ ((ndT n).1, nextS n.2.2 kd)
      rw [HSS.out]
      rfl

end Go.Proofs.YtgknnigjlnfplaaGreatDoor.T

namespace Go.Proofs.YtgknnigjlnfplaaGreatDoor.T
open Go.RowKit

/-- One more trip appended to a list of the call's own, as worlds and rows see it. -/
theorem append_step {w3 w4 : World} {W0 hi : Nat} {v v' : Value} {ps : List (R × Value)} {r : R} {u : Value}
    (hrow : w3.ownsRow W0 91 2 v ps.length (flat ps)) (hin : Inner w3 W0 hi ps) (hhi : hi ≤ w3.heap.size)
    (ho : w3.ownsRow W0 3 1 u r.1.length (r.1.map (Value.int .i64))) (hu : ∀ k, u.ownBlock = some k → hi ≤ k ∧ k < w3.heap.size)
    (hown : w4.ownsRow W0 91 2 v' (ps.length + 1) (flat ps ++ [u, .int .i64 r.2])) (hg : w3.grownBy w4 v.ownBlock) :
    w4.ownsRow W0 91 2 v' (ps ++ [(r, u)]).length (flat (ps ++ [(r, u)])) ∧ Inner w4 W0 w4.heap.size (ps ++ [(r, u)]) := by
  refine ⟨?_, ?_⟩
  · rw [flat_append, List.length_append]; exact hown
  · have in3 : Inner w3 W0 w3.heap.size (ps ++ [(r, u)]) := hin.snoc hhi (Nat.le_refl _) ho hu
    have h := in3.kept hg (fun p hp => by
      rcases hrow.2 with ⟨hv, _⟩ | ⟨g, cap, cur, hv, _, hh, _⟩
      · by_cases e : p.2.ownBlock = none
        · exact Or.inl e
        · exact Or.inr (by rw [hv]; simpa [Value.ownBlock] using e)
      · refine Or.inr ?_
        rw [hv]
        exact in3.apart hh (by decide) p hp)
    exact h.mono hg.size (Nat.le_refl _)

theorem news2 (w : World) (u : Value) (k : Int) (ty : TypeId) : ∀ (j : Nat) (x : Value), [u, Value.int .i64 k][j]? = some x → (w.alloc (.cells #[u, .int .i64 k] ty)).cell? ((⟨w.heap.size, 0, none⟩ : Addr).add j) = some x := by
  intro j x hj
  match j, hj with
  | 0, hj => simp at hj; subst hj; simp [Addr.add]
  | 1, hj => simp at hj; subst hj; simp [Addr.add]
theorem one2 (k : Int) (ao : Option Addr) {n c : Nat} : ∀ x ∈ [Value.slice ao n c, .int .i64 k], x.oneCell' = true := by
  intro x hx; simp at hx; rcases hx with rfl | rfl <;> rfl

theorem addBelow {W w5 : World} {lo n cap3 : Nat} {a3 : Option Addr} {xs : List Value} (hr : W.ownsRow lo 91 2 (.slice a3 n cap3) n xs) (hg : W.grownBy w5 (Value.slice a3 n cap3).ownBlock) (hlo : lo ≤ W.heap.size) : Below lo W w5 :=
  (Below.refl _ _).grown hg hlo (fun k hk => (hr.lt k hk).1)
theorem cellBelow {W w5 : World} {lo b o : Nat} {x : Value} (h : W.cell? ⟨b, o, none⟩ = some x) (hb : Below lo W w5) (hlo : b < lo) : w5.cell? ⟨b, o, none⟩ = some x := by
  rw [hb.cell (p := ⟨b, o, none⟩) hlo]; exact h

theorem ints_nd {w : World} {lo : Nat} {ns : List Nd} (h : Nodes w lo ns) {i : Nat} {n : Nd} (hn : ns[i]? = some n) : Ints w (.slice (some ⟨n.1, 0, none⟩) 3 3) (ndT n).1 := by
  obtain ⟨c0, c1, c2, -, -⟩ := h.cells hn
  refine Or.inr ⟨n.1, 0, 3, rfl, by simp [ndT], fun k hk => ?_⟩
  have hk3 : k < 3 := hk
  rcases (show k = 0 ∨ k = 1 ∨ k = 2 by omega) with rfl | rfl | rfl
  · exact c0
  · exact c1
  · exact c2

set_option maxRecDepth 100000 in
set_option maxHeartbeats 4000000 in
theorem trips_any (c lo : Nat) (ns : List Nd) (w : World) (hc : Chain w c lo ns) (hn : ns.length ≤ 6) :
    Calls Tryz.prog 62 #[ptr c] w fun e w' => ∃ ao cap, e = .returned (.slice ao (ns.map ndT).length cap) ∧ Made w' w.heap.size (.slice ao (ns.map ndT).length cap) (ns.map ndT) ∧ Below w.heap.size w w' := by
  obtain ⟨i0, hi, hz0, hz1, hz2⟩ := info_parts infoTrip
  obtain ⟨h0, h1, h2⟩ := hc.head.cells3
  have HC := hide_it hc
  have hcl := hc.head.lt
  clear hc h1
  obtain ⟨a0, ha0⟩ := at_shape ns 0
  have HA0 := hide_it ha0
  rw [ha0] at h0
  clear ha0
  have hbytes : i0.bytes * ns.length ≤ 281474976710656 := by rw [hz2]; omega
  have hmax : ns.length ≤ maxLen := by unfold maxLen; omega
  rw [List.length_map]
  go_enter Tryz.func62, Tryz.ntmps62
  go_wp2_with (at_make; refine wpList_make_own _ rfl _ _ 50 rfl w.heap.size 91 i0 (.agg #[.slice none 0 0, .int .i64 0]) 2 Tryz.underlying50 hi hz0 hz1 .i64 .i64 _ ns.length rfl rfl rfl hbytes hmax (Nat.le_refl _) ?_; intro w1 hown hgrow; have B1 := hide_it ((Below.refl w.heap.size w).grown hgrow (Nat.le_refl _) (fun k h => by cases h)); have O1 := hide_it hown; have C1 := hide_it (HC.out.after B1.out); obtain ⟨d0, -, -⟩ := C1.out.head.cells3; rw [HA0.out] at d0; clear hown hgrow)
  go_loopw [3, 4] (fun vo p wr => ∃ (k : Nat) (ps : List (R × Value)) (a : Option Addr), k ≤ ns.length ∧ p = .pointer a ∧ Hid (at_ ns k = .pointer a) ∧ Hid (ps.map (·.1) = (ns.take k).map ndT) ∧ Hid (wr.ownsRow w.heap.size 91 2 vo ps.length (flat ps)) ∧ Hid (Inner wr w.heap.size wr.heap.size ps) ∧ Hid (Below w.heap.size w wr)) (fun vo _ _ => ns.length - (match vo with | .slice _ n _ => n | _ => 0))
  case atStart => exact ⟨0, [], a0, Nat.zero_le _, rfl, HA0, rfl, O1.out, Inner.nil _ _ _ (Nat.le_refl _), B1⟩
  case round =>
    obtain ⟨k, ps, a, hk, rfl, HA, HP, HO, HN, HB⟩ := hrel
    have HPL : Hid (ps.length = k) := by
      have := congrArg List.length HP.out
      simp at this
      show _ = _; omega
    obtain ⟨av, cv, hvo⟩ := row_shape HO.out
    by_cases hlt : k < ns.length
    · obtain ⟨n, hg⟩ : ∃ n, Hid (ns[k]? = some n) := ⟨ns[k], by show _ = _; simp [hlt]⟩
      obtain rfl : a = some ⟨n.1, 0, none⟩ := by
        have := HA.out
        rw [at_some hg.out] at this
        simpa [ptr] using this.symm
      have Cr := hide_it (HC.out.after HB.out)
      obtain ⟨m0, m1, m2, m3, m4⟩ := Cr.out.nodes.cells hg.out
      have hnlt := (HC.out.nodes.node k n hg.out).lt
      have hwr := HB.out.size
      obtain ⟨a', ha'⟩ := at_shape ns (k + 1)
      rw [ha'] at m4
      have HA' := hide_it ha'
      clear ha'
      have HI : Hid (Ints wr.drew (.slice (some ⟨n.1, 0, none⟩) 3 3) (ndT n).1) := (ints_nd Cr.out.nodes hg.out).later (Below.refl _ _).drew (Nat.le_refl _)
      subst hvo
      go_wp2
      go_region_held_law (fun w' => w'.cell? ⟨n.1, 3, none⟩ = some (.int .i64 n.2.2)) (go_keep)
        (first
          | (refine step_append_lies _ rfl _ _ 50 rfl w.heap.size 91 i0 (.agg #[.slice none 0 0, .int .i64 0]) 2 32 Tryz.underlying50 hi hz0 hz1 hz2 rfl (by decide) (.slice av ps.length cv) ps.length (flat ps) rfl (by exact (ROW4.out _)) ⟨w4.heap.size, 0, none⟩ 1 1 [.slice a4 3 cap4, .int .i64 n.2.2] rfl rfl (by exact news2 _ _ _ _) (by exact one2 _ _) (by decide) (by have := HPL.out; unfold maxLen; omega) (by have := HPL.out; omega) (by have := HZ4.out; simp; omega) _ rfl ?_; intro g5 cap5 w5 hown5 hgrow5 _ _; have O5 := hide_it hown5; have G5 := hide_it hgrow5; have LO5 := hide_it (addBelow (ROW4.out _) hgrow5 (by have := HZ4.out; simp; omega)); have q5 := cellBelow (cellAlloc q3 _) LO5.out hnlt; clear hown5 hgrow5)
          | (refine step_append_ints rfl _ _ rfl wr.heap.size (.slice none 0 0) (.slice (some ⟨n.1, 0, none⟩) 3 3) 0 [] (ndT n).1 rfl rfl (World.ownsRow_nil _ _ _ _) HI.out (by simp [ndT]) (by simp) ?_; intro a4 cap4 w4 hown4 hgrow4; have hb4 := (Below.refl wr.heap.size wr).drew.trans (grown_below hgrow4); have B4 := hide_it hb4; have O4 := hide_it hown4; have HZ4 : Hid (w.heap.size ≤ w4.heap.size) := Nat.le_trans hwr hb4.size; have q3 : w4.cell? ⟨n.1, 3, none⟩ = some (.int .i64 n.2.2) := (by rw [hb4.cell (p := ⟨n.1, 3, none⟩) (by simp; omega)]; exact m3); have ROW4 : Hid (∀ o, (w4.alloc o).ownsRow w.heap.size 91 2 (.slice av ps.length cv) ps.length (flat ps)) := (fun o => (ownsRow_below HO.out hb4 (fun j hj => (HO.out.lt j hj).2)).alloc o); have INN4 : Hid (∀ o, Inner (w4.alloc o) w.heap.size wr.heap.size ps) := (fun o => (HN.out.below hb4 (Nat.le_refl _)).below (alloc_below _ o) hb4.size); have NEW4 : Hid (∀ o, (w4.alloc o).ownsRow w.heap.size 3 1 (.slice a4 3 cap4) (ndT n).1.length ((ndT n).1.map (Value.int .i64))) := (fun o => (ownsRow_base hown4 hwr).alloc o); have NEWB4 : Hid (∀ j, (Value.slice a4 3 cap4).ownBlock = some j → wr.heap.size ≤ j ∧ j < (w4.alloc (.cells #[.slice a4 3 cap4, .int .i64 n.2.2] 91)).heap.size) := (fun j hj => by have h9 := hown4.lt j hj; simp; omega); clear hown4 hgrow4 hb4))
      have ST := append_step (r := ndT n) (ROW4.out (.cells #[.slice a4 3 cap4, .int .i64 n.2.2] 91)) (INN4.out _) (by simp; have := B4.out.size; omega) (NEW4.out _) (NEWB4.out) O5.out G5.out
      have HO5 := hide_it ST.1
      have HN5 := hide_it ST.2
      have HB5 : Hid (Below w.heap.size w w5) := ((HB.out.trans (B4.out.mono hwr)).alloc HZ4.out _).trans LO5.out
      clear ST
      have q4 : w5.cell? ⟨n.1, 4, none⟩ = some (.pointer a') := by rw [LO5.out.cell (p := ⟨n.1, 4, none⟩) hnlt]; exact cellAlloc (by rw [B4.out.cell (p := ⟨n.1, 4, none⟩) (by simp; omega)]; exact m4) _
      go_wp2
      go_roundw
      case rel =>
        refine ⟨k + 1, ps ++ [(ndT n, .slice a4 3 cap4)], a', by omega, rfl, HA', ?_, HO5, HN5, HB5⟩
        show _ = _
        have hkl : k < ns.length := by omega
        have hrk : ns[k] = n := by have := hg.out; rw [List.getElem?_eq_getElem hkl] at this; simpa using this
        rw [List.map_append, HP.out, List.take_succ_eq_append_getElem hkl, hrk, List.map_append]
        rfl
      case measure => have := HPL.out; simp; omega
    · obtain rfl : a = none := by
        have := HA.out
        rw [at_none (by omega)] at this
        simpa using this.symm
      have hke : Hid (k = ns.length) := by show _ = _; omega
      have hpl : ps.length = ns.length := by rw [HPL.out, hke.out]
      rw [hpl] at hvo
      have HD : Hid (Made wr w.heap.size (.slice av ns.length cv) (ns.map ndT)) := by
        refine ⟨ps, by rw [HP.out, hke.out, List.take_length], ?_, fun j hj => ?_, HN.out⟩
        · have := HO.out; rw [hvo] at this; exact this
        · have := HO.out; rw [hvo] at this; exact (this.lt j hj).2
      subst hvo
      clear hpl
      go_wp2
      refine bodyPost_ret (v := .slice av ns.length cv) (by simp [results, Tryz.results62, go_sem]) rfl ⟨av, cv, rfl, HD.out, HB.out⟩

end Go.Proofs.YtgknnigjlnfplaaGreatDoor.T

namespace Go.Proofs.YtgknnigjlnfplaaGreatDoor.T
open Go.RowKit

/-- A chain as a value. -/
def chV (ns : List Nd) : Value := .agg #[at_ ns 0, at_ ns (ns.length - 1), .int .i64 ns.length]

/-- What comes of trips and a record, as a chain. -/
def ChOut (w w' : World) (e : Ending) (rs : List R) (r : Rc) : Prop :=
  ∃ ns : List Nd, e = .returned (.tuple #[chV ns, .bool (tMay rs r)]) ∧ Nodes w' w.heap.size ns ∧ ns.length ≤ 6 ∧ (tMay rs r = true → ns.map ndT = doL rs r) ∧ Below w.heap.size w w'

theorem Nodes.lo {w : World} {lo lo' : Nat} {ns : List Nd} (h : Nodes w lo ns) (hl : lo' ≤ lo) : Nodes w lo' ns := ⟨h.node, fun n hn => Nat.le_trans hl (h.low n hn), h.inj⟩
theorem Nodes.set {w : World} {lo : Nat} {ns : List Nd} (h : Nodes w lo ns) {b i : Nat} (hb : b < lo) (x : Value) : Nodes (w.setCell ⟨b, i, none⟩ x) lo ns :=
  ⟨fun j n hn => (h.node j n hn).other (by have := h.low n (List.mem_of_getElem? hn); simp; omega) x, h.low, h.inj⟩
theorem Fit.take {rs : List R} {r : R} {k : Nat} (h : Fit rs) (hr : rs[k]? = some r) : ∃ z0 z1 z2, r.1 = [z0, z1, z2] := list3 (h.2 r (List.mem_of_getElem? hr))

set_option maxHeartbeats 4000000 in
theorem behind_any (v : Value) (rs : List R) (r : Rc) (u : Value) (a : Addr) (w : World) (hv : Recs w v rs) (hl : tot rs ≤ 1048576) (hu : Ints w u r.2.2) (hrl : r.2.2.length ≤ 1048576) (ha : ErrAt w a) :
    Calls Tryz.prog 88 #[v, .agg #[.int .i64 r.1, .int .i64 r.2.1, u]] w fun e w' => ChOut w w' e rs r := by
  have HV : Hid (∀ W, Below w.heap.size w W → Recs W v rs) := fun W h => hv.later h (Nat.le_refl _)
  have HU : Hid (∀ W, Below w.heap.size w W → Ints W u r.2.2) := fun W h => hu.later h (Nat.le_refl _)
  have HAe : Hid (∀ W, Below w.heap.size w W → ErrAt W a) := fun W h => ha.later h (Nat.le_refl _)
  obtain ⟨av, cv, hvs⟩ := hv.shape
  obtain ⟨au, cu, hus⟩ := hu.shape
  subst hvs hus
  clear hv hu ha
  obtain ⟨w0, hw0⟩ : ∃ W, Hid (W = (w.alloc (.cells #[.int .i64 r.1, .int .i64 r.2.1, .slice au r.2.2.length cu] 81)).alloc (.cells #[.pointer none, .pointer none, .int .i64 0] 99)) := ⟨_, rfl⟩
  have B0 : Hid (Below w.heap.size w w0) := by show Below _ _ _; rw [hw0.out]; exact below2 _ _ _
  have X0 : Hid (Blk w0 w.heap.size #[.int .i64 r.1, .int .i64 r.2.1, .slice au r.2.2.length cu] 81) := by show Blk _ _ _ _; rw [hw0.out]; exact (Blk.new _ _ _).alloc _
  have Z0 : Hid (Blk w0 (w.heap.size + 1) #[.pointer none, .pointer none, .int .i64 0] 99) := by show Blk _ _ _ _; rw [hw0.out]; exact Blk.new2 _ _ _ _
  have hs0 : Hid (w0.heap.size = w.heap.size + 2) := by show _ = _; rw [hw0.out, size2]
  have S0 := implTripsOk_any _ rs w0 (HV.out _ B0.out) hl
  cases hok : tripsOk rs
  · rw [hok] at S0
    have HS := hide_it S0
    have HT : Hid (tMay rs r = false) := by show _ = _; unfold tMay; rw [hok]; rfl
    clear S0 hok
    go_enter Tryz.func88, Tryz.ntmps88
    go_wp2_with fail
    rw [← hw0.out]
    refine HS.out.mono ?_
    rintro e w1 ⟨rfl, hb1⟩
    have B1 := hide_it (B0.out.trans (hb1.mono B0.out.size))
    have Z1 := hide_it (Z0.out.after hb1)
    obtain ⟨z0, z1, z2⟩ := Z1.out.cells3
    obtain ⟨f0, f1, f2, -, -⟩ := Z1.out.free5
    have hz1 := Z1.out.lt
    clear hb1
    go_wp2
    refine bodyPost_ret (v := .tuple #[.agg #[.pointer none, .pointer none, .int .i64 0], .bool false]) (by simp [results, Tryz.results88, go_sem, z0, z1, z2]) rfl ?_
    refine ⟨[], by rw [HT.out]; rfl, Nodes.nil _ _, by simp, fun h => (by rw [HT.out] at h; cases h), ?_⟩
    exact ((B1.out.setCell (by simp) _).setCell (by simp) _).setCell (by simp) _
  have hfit := fit_ok hok
  have HF := hide_it hfit
  have hn6 := hfit.1
  rw [hok] at S0
  have HS := hide_it S0
  have HT : Hid (tMay rs r = (rOk r && mayL rs r)) := by show _ = _; unfold tMay; rw [hok]; rfl
  clear S0 hok hfit
  go_enter Tryz.func88, Tryz.ntmps88
  go_wp2_with fail
  rw [← hw0.out]
  refine HS.out.mono ?_
  rintro e w1 ⟨rfl, hb1⟩
  have B1 := hide_it (B0.out.trans (hb1.mono B0.out.size))
  have X1 := hide_it (X0.out.after hb1)
  have Z1 := hide_it (Z0.out.after hb1)
  have hs1 : w.heap.size + 2 ≤ w1.heap.size := by have := hb1.size; have := hs0.out; omega
  clear hb1
  obtain ⟨w2, hw2⟩ : ∃ W, Hid (W = w1.alloc (.cells #[.pointer none, .pointer none, .int .i64 0] 99)) := ⟨_, rfl⟩
  have b2 : Below w1.heap.size w1 w2 := by rw [hw2.out]; exact alloc_below _ _
  have C2 : Hid (Chain w2 w1.heap.size w1.heap.size []) := by show Chain _ _ _ _; rw [hw2.out]; exact Chain.new w1
  have B2 := hide_it (B1.out.trans (b2.mono B1.out.size))
  have E2 := hide_it b2
  clear b2
  go_wp2
  rw [← hw2.out]
  go_loopw [16] (fun i wr => ∃ (k : Nat) (ns : List Nd), k ≤ rs.length ∧ i = .int .i64 k ∧ Hid (ns.map ndT = rs.take k) ∧ Hid (Chain wr w1.heap.size w1.heap.size ns) ∧ Hid (Below w1.heap.size w1 wr)) (fun i _ => rs.length - (intOf i).toNat)
  case atStart => exact ⟨0, [], Nat.zero_le _, rfl, rfl, C2, E2⟩
  case round =>
    obtain ⟨k, ns, hk, rfl, HP, HC, HE⟩ := hrel
    have HPL : Hid (ns.length = k) := by
      have := congrArg List.length HP.out
      simp at this
      show _ = _; omega
    have hE := HE.out.size
    have Br := hide_it (B1.out.trans (HE.out.mono B1.out.size))
    by_cases hlt : k < rs.length
    · obtain ⟨q, hq⟩ : ∃ q, Hid (rs[k]? = some q) := ⟨rs[k], by show _ = _; simp [hlt]⟩
      obtain ⟨z0, z1, z2, hz⟩ := HF.out.take hq.out
      rcases HV.out wr Br.out with ⟨h0, _⟩ | ⟨b, off, cap, hvv, _, hcl⟩
      · rw [h0] at hlt; simp at hlt
      simp only [Value.slice.injEq] at hvv
      obtain ⟨rfl, -, rfl⟩ := hvv
      obtain ⟨x, c0, c1, hI⟩ := hcl k q hq.out
      have hbw : b < wr.heap.size := World.block_lt_of_cell? _ _ c0
      rw [hz] at hI
      obtain ⟨ax, cx, hxs⟩ := hI.shape
      have hxs' : x = .slice ax 3 cx := hxs
      subst hxs'
      have HI : Hid (∀ o, Ints (wr.alloc o) (.slice ax 3 cx) [z0, z1, z2]) := fun o => hI.later (alloc_below _ _) (Nat.le_refl _)
      have HCo : Hid (∀ o, Chain (wr.alloc o) w1.heap.size w1.heap.size ns) := fun o => HC.out.after (alloc_below _ _)
      have HZQ := hide_it hz
      clear hI hcl hz hxs
      go_wp2_with fail
      refine (add_any w1.heap.size w1.heap.size ns _ z0 z1 z2 q.2 _ (HCo.out _) (by have := HPL.out; omega) (HI.out _)).mono ?_
      rintro e w3 ⟨rfl, hc3, hb3⟩
      have C3 := hide_it hc3
      have E3 := hide_it ((HE.out.alloc hE _).trans hb3)
      clear hc3 hb3
      go_wp2
      go_roundw
      case rel =>
        refine ⟨k + 1, _, by omega, by go_num, ?_, C3, E3⟩
        show _ = _
        have hkl : k < rs.length := by omega
        have hrk : rs[k] = q := by have := hq.out; rw [List.getElem?_eq_getElem hkl] at this; simpa using this
        rw [List.map_append, HP.out, List.take_succ_eq_append_getElem hkl, hrk]
        show _ ++ [([z0, z1, z2], q.2)] = _
        rw [← HZQ.out]
      case measure => simp [intOf]; omega
    · have HNS : Hid (ns.map ndT = rs) := by
        show _ = _
        have hke : k = rs.length := by omega
        rw [HP.out, hke, List.take_length]
      obtain ⟨x0, x1, x2⟩ := (X1.out.later HE.out (by omega)).cells3
      have Zr := hide_it (Z1.out.later HE.out (by omega))
      go_wp2_with fail
      refine (take_any w1.heap.size w1.heap.size ns r _ a wr HC.out (by have := HPL.out; omega) (HU.out _ Br.out) hrl (HAe.out _ Br.out)).mono ?_
      rintro e w3 ⟨rfl, ns', hc3, hm3, hb3⟩
      rw [HNS.out] at hm3
      rw [HNS.out, ← HT.out]
      rw [← HT.out] at hm3
      have C3 := hide_it hc3
      have M3 := hide_it hm3
      have E3 := hide_it (HE.out.trans hb3)
      have B3 := hide_it (B1.out.trans (E3.out.mono B1.out.size))
      have hlen : Hid (ns'.length ≤ 6) := by
        show _ ≤ _
        have h9 := congrArg List.length hm3
        rw [List.length_map] at h9
        rw [h9]
        split
        · next hb =>
          rw [HT.out] at hb
          simp only [Bool.and_eq_true] at hb
          exact (HF.out.doL hb.1 hb.2).1
        · exact hn6
      have hE3 := E3.out.size
      have Z3 := hide_it (Z1.out.later E3.out (by omega))
      obtain ⟨z0, z1, z2⟩ := Z3.out.cells3
      obtain ⟨f0, f1, f2, -, -⟩ := Z3.out.free5
      obtain ⟨d0, d1, d2⟩ := C3.out.head.cells3
      obtain ⟨p0, hp0⟩ := at_shape ns' 0
      obtain ⟨p1, hp1⟩ := at_shape ns' (ns'.length - 1)
      have HP0 := hide_it hp0
      have HP1 := hide_it hp1
      rw [hp0] at d0
      rw [hp1] at d1
      obtain ⟨bb, hbb⟩ : ∃ x, tMay rs r = x := ⟨_, rfl⟩
      have HBB := hide_it hbb
      rw [hbb]
      clear hc3 hm3 hb3 hp0 hp1 hbb x0 x1 x2
      go_wp2
      refine bodyPost_ret (v := .tuple #[.agg #[.pointer p0, .pointer p1, .int .i64 ns'.length], .bool bb]) (by simp [results, Tryz.results88, go_sem, z0, z1, z2]) rfl ?_
      refine ⟨ns', by unfold chV; rw [HP0.out, HP1.out, HBB.out], ?_, hlen.out, fun h => by have := M3.out; rw [if_pos h] at this; exact this, ?_⟩
      · exact (((C3.out.nodes.set (by omega) _).set (by omega) _).set (by omega) _).lo (by omega)
      · exact ((B3.out.setCell (by simp) _).setCell (by simp) _).setCell (by simp) _

end Go.Proofs.YtgknnigjlnfplaaGreatDoor.T

namespace Go.Proofs.YtgknnigjlnfplaaGreatDoor.T
open Go.RowKit

/-- Trips and a yes or no come back, the trips in memory of the call's own. -/
def TrOut (w w' : World) (e : Ending) (rs : List R) (b : Bool) : Prop :=
  ∃ ao cap, e = .returned (.tuple #[.slice ao rs.length cap, .bool b]) ∧ Made w' w.heap.size (.slice ao rs.length cap) rs ∧ Below w.heap.size w w'

def doO (rs : List R) (r : Rc) : List R := if tMay rs r = true then doL rs r else []
def ofO (qs : List Rc) : List R := (runT qs).getD []

theorem doO_fit (rs : List R) (r : Rc) : Fit (doO rs r) := by
  unfold doO
  split
  · next h =>
    unfold tMay at h
    simp only [Bool.and_eq_true] at h
    exact (fit_ok h.1).doL h.2.1 h.2.2
  · exact Fit.nil
theorem ofO_fit (qs : List Rc) : Fit (ofO qs) := by
  unfold ofO
  cases h : runT qs with
  | none => exact Fit.nil
  | some rs => exact runT_fit h

set_option maxHeartbeats 2000000 in
theorem implMay_any (v : Value) (rs : List R) (r : Rc) (u : Value) (a : Addr) (w : World) (hv : Recs w v rs) (hl : tot rs ≤ 1048576) (hu : Ints w u r.2.2) (hrl : r.2.2.length ≤ 1048576) (ha : ErrAt w a) :
    Calls Tryz.prog 70 #[v, .agg #[.int .i64 r.1, .int .i64 r.2.1, u]] w fun e w' => e = .returned (.bool (tMay rs r)) ∧ Below w.heap.size w w' := by
  have HS : Hid (∀ o, Calls Tryz.prog 88 #[v, .agg #[.int .i64 r.1, .int .i64 r.2.1, u]] (w.alloc o) fun e w' => ChOut (w.alloc o) w' e rs r) := fun o =>
    behind_any v rs r u a _ (hv.later (alloc_below _ _) (Nat.le_refl _)) hl (hu.later (alloc_below _ _) (Nat.le_refl _)) hrl (ha.later (alloc_below _ _) (Nat.le_refl _))
  obtain ⟨av, cv, hvs⟩ := hv.shape
  obtain ⟨au, cu, hus⟩ := hu.shape
  subst hvs hus
  clear hv hu ha
  obtain ⟨bb, hbb⟩ : ∃ x, tMay rs r = x := ⟨_, rfl⟩
  have HBB := hide_it hbb
  rw [hbb]
  clear hbb
  go_enter Tryz.func70, Tryz.ntmps70
  go_wp2_with fail
  refine (HS.out _).mono ?_
  rintro e w1 ⟨ns, rfl, hn, hl6, hm, hb⟩
  have B1 := hide_it (below_after hb)
  have hz := hb.size
  rw [HBB.out]
  unfold chV
  obtain ⟨p0, hp0⟩ := at_shape ns 0
  obtain ⟨p1, hp1⟩ := at_shape ns (ns.length - 1)
  rw [hp0, hp1]
  clear hn hm hb hp0 hp1
  go_wp2
  go_ret
  exact ⟨rfl, B1.out.alloc (by simp at hz; omega) _⟩

set_option maxHeartbeats 4000000 in
theorem implOf_any (v : Value) (qs : List Rc) (a : Addr) (w : World) (hv : _root_.Go.Proofs.YtgknnigjlnfplaaGreatDoor.Recs w v qs) (hl : _root_.Go.Proofs.YtgknnigjlnfplaaGreatDoor.tot qs ≤ 1048576) (ha : ErrAt w a) :
    Calls Tryz.prog 39 #[v] w fun e w' => TrOut w w' e (ofO qs) (runT qs).isSome := by
  have hlen := _root_.Go.Proofs.YtgknnigjlnfplaaGreatDoor.tot_len qs
  have HM : Hid (∀ r ∈ qs, r.2.2.length ≤ 1048576) := fun r hr => Nat.le_trans (_root_.Go.Proofs.YtgknnigjlnfplaaGreatDoor.tot_mem qs r hr) hl
  have HV : Hid (∀ W, Below w.heap.size w W → _root_.Go.Proofs.YtgknnigjlnfplaaGreatDoor.Recs W v qs) := fun W h => hv.later h (Nat.le_refl _)
  have HAe : Hid (∀ W, Below w.heap.size w W → ErrAt W a) := fun W h => ha.later h (Nat.le_refl _)
  obtain ⟨av, cv, hvs⟩ := hv.shape
  subst hvs
  clear hv ha
  obtain ⟨w0, hw0⟩ : ∃ W, Hid (W = w.alloc (.cells #[.pointer none, .pointer none, .int .i64 0] 99)) := ⟨_, rfl⟩
  have B0 : Hid (Below w.heap.size w w0) := by show Below _ _ _; rw [hw0.out]; exact alloc_below _ _
  have C0 : Hid (Chain w0 w.heap.size w.heap.size []) := by show Chain _ _ _ _; rw [hw0.out]; exact Chain.new w
  obtain ⟨OO, hOO⟩ : ∃ x, ofO qs = x := ⟨_, rfl⟩
  obtain ⟨BB, hBB⟩ : ∃ x, (runT qs).isSome = x := ⟨_, rfl⟩
  rw [hOO, hBB]
  have HOO := hide_it hOO
  have HBB := hide_it hBB
  clear hOO hBB
  go_enter Tryz.func39, Tryz.ntmps39
  go_wp2
  rw [← hw0.out]
  go_loopw [9] (fun i wr => ∃ (k : Nat) (ns : List Nd), k ≤ qs.length ∧ i = .int .i64 k ∧ Hid (runT (qs.take k) = some (ns.map ndT)) ∧ Hid (Chain wr w.heap.size w.heap.size ns) ∧ Hid (Below w.heap.size w wr)) (fun i _ => qs.length - (intOf i).toNat)
  case atStart => exact ⟨0, [], Nat.zero_le _, rfl, rfl, C0, B0⟩
  case round =>
    obtain ⟨k, ns, hk, rfl, HR, HC, HB⟩ := hrel
    have hfit := runT_fit HR.out
    have hn6 : ns.length ≤ 6 := by have := hfit.1; rw [List.length_map] at this; exact this
    have HF := hide_it hfit
    have hwr := HB.out.size
    clear hfit
    by_cases hlt : k < qs.length
    · obtain ⟨q, hq⟩ : ∃ q, Hid (qs[k]? = some q) := ⟨qs[k], by show _ = _; simp [hlt]⟩
      have hrl : q.2.2.length ≤ 1048576 := HM.out q (List.mem_of_getElem? hq.out)
      rcases HV.out wr HB.out with ⟨h0, _⟩ | ⟨b, off, cap, hvv, _, hcl⟩
      · rw [h0] at hlt; simp at hlt
      simp only [Value.slice.injEq] at hvv
      obtain ⟨rfl, -, rfl⟩ := hvv
      obtain ⟨x, c0, c1, c2, hI⟩ := hcl k q hq.out
      have hbw : b < wr.heap.size := World.block_lt_of_cell? _ _ c0
      obtain ⟨ax, cx, hxs⟩ := hI.shape
      subst hxs
      have HI : Hid (∀ o, Ints (wr.alloc o) (.slice ax q.2.2.length cx) q.2.2) := fun o => hI.later (alloc_below _ _) (Nat.le_refl _)
      have HCo : Hid (∀ o, Chain (wr.alloc o) w.heap.size w.heap.size ns) := fun o => HC.out.after (alloc_below _ _)
      have HAo : Hid (∀ o, ErrAt (wr.alloc o) a) := fun o => HAe.out _ (HB.out.alloc hwr o)
      clear hI hcl
      go_wp2_with fail
      refine (take_any w.heap.size w.heap.size ns q _ a _ (HCo.out _) hn6 (HI.out _) hrl (HAo.out _)).mono ?_
      rintro e w3 ⟨rfl, ns', hc3, hm3, hb3⟩
      have B3 := hide_it ((HB.out.alloc hwr _).trans hb3)
      have C3 := hide_it hc3
      clear hc3 hb3
      obtain ⟨bb, hbb⟩ : ∃ x, (rOk q && mayL (ns.map ndT) q) = x := ⟨_, rfl⟩
      rw [hbb]
      rw [hbb] at hm3
      cases bb
      · have HN : Hid (runT qs = none) := runT_bad hq.out HR.out hbb
        have HO1 : Hid (OO = []) := by show _ = _; rw [← HOO.out]; unfold ofO; rw [HN.out]; rfl
        have HB1 : Hid (BB = false) := by show _ = _; rw [← HBB.out, HN.out]; rfl
        clear hm3 hbb
        go_wp2
        refine bodyPost_ret (v := .tuple #[.slice none 0 0, .bool false]) (by simp [results, Tryz.results39, go_sem]) rfl ?_
        rw [HO1.out, HB1.out]
        exact ⟨none, 0, rfl, Made.none _ _, B3.out⟩
      · have HR3 : Hid (runT (qs.take (k + 1)) = some (ns'.map ndT)) := by
          show _ = _
          rw [runT_good hq.out HR.out hbb, hm3, if_pos rfl]
        clear hm3 hbb
        go_wp2
        go_roundw
        case rel => exact ⟨k + 1, ns', by omega, by go_num, HR3, C3, B3⟩
        case measure => simp [intOf]; omega
    · have HRq : Hid (runT qs = some (ns.map ndT)) := by
        show _ = _
        have hke : k = qs.length := by omega
        have := HR.out
        rw [hke, List.take_length] at this
        exact this
      have HO1 : Hid (OO = ns.map ndT) := by show _ = _; rw [← HOO.out]; unfold ofO; rw [HRq.out]; rfl
      have HB1 : Hid (BB = true) := by show _ = _; rw [← HBB.out, HRq.out]; rfl
      go_wp2_with fail
      refine (trips_any _ _ ns wr HC.out hn6).mono ?_
      rintro e w3 ⟨a3, c3, rfl, hm3, hb3⟩
      rw [← HO1.out] at hm3 ⊢
      have M3 := hide_it hm3
      have B3 := hide_it (HB.out.trans (hb3.mono hwr))
      clear hm3 hb3
      go_wp2
      refine bodyPost_ret (v := .tuple #[.slice a3 OO.length c3, .bool true]) (by simp [results, Tryz.results39, go_sem]) rfl ?_
      rw [HB1.out]
      exact ⟨a3, c3, rfl, M3.out.lo hwr, B3.out⟩

end Go.Proofs.YtgknnigjlnfplaaGreatDoor.T

namespace Go.Proofs.YtgknnigjlnfplaaGreatDoor
open Go.RowKit

theorem frozenAlloc {w : World} {b o : Nat} (h : w.frozen? ⟨b, o, none⟩ = false) (hb : b < w.heap.size) (x : Obj) : (w.alloc x).frozen? ⟨b, o, none⟩ = false := by
  rw [← h]
  exact ((Below.refl w.heap.size w).alloc (Nat.le_refl _) x).frozen (p := ⟨b, o, none⟩) hb

end Go.Proofs.YtgknnigjlnfplaaGreatDoor

namespace Go.Proofs.YtgknnigjlnfplaaGreatDoor
open Go.RowKit

/-- How many are left behind a fall. -/
def fallN (n : Nat) (f keep : Int) : Nat := (if keep ≤ 0 then f else if keep < n - f then f + keep else n).toNat

theorem fallN_le {n : Nat} {f keep : Int} (h0 : 0 ≤ f) (h1 : f ≤ n) : fallN n f keep ≤ n := by
  unfold fallN; split
  · omega
  · split <;> omega

theorem fallN_lo {n F : Nat} {keep : Int} (h : keep ≤ 0) : fallN n F keep = F := by unfold fallN; rw [if_pos h]; simp
theorem fallN_mid {n F K : Nat} (h0 : ¬ (K : Int) ≤ 0) (h : (K : Int) ≤ n - F) : fallN n F K = F + K := by
  unfold fallN; rw [if_neg h0]
  by_cases e : (K : Int) < n - F
  · rw [if_pos e]; omega
  · rw [if_neg e]; omega
theorem fallN_all {n F K : Nat} (h0 : ¬ (K : Int) ≤ 0) (h : ¬ (K : Int) ≤ n - F) : fallN n F K = n := by unfold fallN; rw [if_neg h0, if_neg (by omega)]; simp

theorem flat_take (ps : List (R × Value)) (N : Nat) : flat (ps.take N) = (flat ps).take (N * 3) := by
  induction ps generalizing N with
  | nil => simp [flat]
  | cons p t ih =>
    cases N with
    | zero => simp [flat]
    | succ N =>
      rw [show (N + 1) * 3 = N * 3 + 3 by omega]
      simp [flat, ih]

theorem Made.take {w : World} {lo N : Nat} {ao : Option Addr} {cap : Nat} {rs : List R} (h : Made w lo (.slice ao rs.length cap) rs) (hN : N ≤ rs.length) : Made w lo (.slice ao N cap) (rs.take N) := by
  obtain ⟨ps, hp, h1, h2, h3⟩ := h
  have hpl : ps.length = rs.length := by have := congrArg List.length hp; simpa using this
  refine ⟨ps.take N, by rw [List.map_take, hp], ?_, ?_, h3.1, fun p hp => h3.2.1 p (List.mem_of_mem_take hp), fun i j p q hi hj hij => ?_⟩
  · have hl : (ps.take N).length = N := by rw [List.length_take]; omega
    rw [hl, flat_take]
    refine ⟨by rw [List.length_take, h1.1]; rw [hpl]; omega, ?_⟩
    rcases h1.2 with ⟨hv, hn⟩ | ⟨g, cp, cur, hv, hg, hh, hnc, hcm, hcs, htk⟩
    · simp only [Value.slice.injEq] at hv
      obtain ⟨e1, e2, e3⟩ := hv
      exact Or.inl ⟨by rw [e1, e3, show N = 0 by omega], by omega⟩
    · simp only [Value.slice.injEq] at hv
      obtain ⟨e1, e2, e3⟩ := hv
      refine Or.inr ⟨g, cp, cur, by rw [e1, e3], hg, hh, by omega, hcm, hcs, ?_⟩
      rw [← htk, List.take_take, Nat.min_eq_left (by rw [hpl]; omega)]
  · intro k hk
    refine h2 k ?_
    cases ao with
    | none => cases hk
    | some a => exact hk
  · have hi' : i < N ∧ ps[i]? = some p := by
      rw [List.getElem?_take] at hi
      split at hi
      · exact ⟨by assumption, hi⟩
      · cases hi
    have hj' : j < N ∧ ps[j]? = some q := by
      rw [List.getElem?_take] at hj
      split at hj
      · exact ⟨by assumption, hj⟩
      · cases hj
    exact h3.2.2 i j p q hi'.2 hj'.2 hij

theorem Recs.take {w : World} {N cap : Nat} {ao : Option Addr} {rs : List R} (h : Recs w (.slice ao rs.length cap) rs) (hN : N ≤ rs.length) : Recs w (.slice ao N cap) (rs.take N) := by
  have hl : (rs.take N).length = N := by rw [List.length_take]; omega
  by_cases h0 : N = 0
  · subst h0
    exact Or.inl ⟨by simp, ao, cap, rfl⟩
  rcases h with ⟨hz, _⟩ | ⟨b, off, cp, hv, hz, hc⟩
  · rw [hz] at hN; simp at hN; omega
  · simp only [Value.slice.injEq] at hv
    obtain ⟨e1, _, e3⟩ := hv
    refine Or.inr ⟨b, off, cp, by rw [hl, e1, e3], by intro e; rw [e] at hl; simp at hl; omega, fun i r hr => ?_⟩
    rw [List.getElem?_take] at hr
    split at hr
    · exact hc i r hr
    · cases hr

theorem pre_take (rs : List R) (N : Nat) (hN : N ≤ rs.length) : tot (rs.take N) ≤ tot rs := by
  have h1 := pre_le rs N
  have h2 : pre (rs.take N) (rs.take N).length = pre rs N := by unfold pre; rw [List.take_length]
  unfold tot
  rw [h2, List.length_take]; omega

/-- What a fall leaves. -/
def fallR (rs : List R) (f keep : Int) : List R := if logOk rs f then rs.take (fallN rs.length f keep) else []
def fallF (rs : List R) (f keep : Int) : Int := if logOk rs f then fallN rs.length f keep else 0

theorem logOk_f {rs : List R} {f : Int} (h : logOk rs f = true) : 0 ≤ f ∧ f ≤ rs.length ∧ rs.length ≤ 40 := by
  unfold logOk at h
  simp only [Bool.and_eq_true, decide_eq_true_eq] at h
  have := Pl.inB_true h.2.2
  omega

end Go.Proofs.YtgknnigjlnfplaaGreatDoor

namespace Go.Proofs.YtgknnigjlnfplaaGreatDoor
open Go.RowKit

theorem Made.form {w : World} {lo cap : Nat} {ao : Option Addr} {rs : List R} (h : Made w lo (.slice ao rs.length cap) rs) : (ao = Option.none ∧ rs = [] ∧ cap = 0) ∨ ∃ g, ao = some ⟨g, 0, Option.none⟩ ∧ rs.length ≤ cap := by
  obtain ⟨ps, hp, h1, _, _⟩ := h
  have hpl : ps.length = rs.length := by have := congrArg List.length hp; simpa using this
  rcases h1.2 with ⟨hv, hn⟩ | ⟨g, cp, cur, hv, hg, hh, hnc, _⟩
  · simp only [Value.slice.injEq] at hv
    exact Or.inl ⟨hv.1, List.length_eq_zero_iff.1 hv.2.1, hv.2.2⟩
  · simp only [Value.slice.injEq] at hv
    exact Or.inr ⟨g, hv.1, by omega⟩

end Go.Proofs.YtgknnigjlnfplaaGreatDoor

namespace Go.Proofs.YtgknnigjlnfplaaGreatDoor
open Go.RowKit

/-- The slice of a list that the call itself has made, or nil. -/
def Form (v : Value) (n : Nat) : Prop := (v = .slice none 0 0 ∧ n = 0) ∨ ∃ g cap, v = .slice (some ⟨g, 0, none⟩) n cap ∧ n ≤ cap
theorem form_of_row {w : World} {base : Nat} {e : TypeId} {size : Nat} {v : Value} {n : Nat} {xs : List Value} (h : w.ownsRow base e size v n xs) : Form v n := by
  rcases h.2 with h | ⟨g, cap, cur, hv, _, _, hc, _⟩
  · exact Or.inl h
  · exact Or.inr ⟨g, cap, hv, hc⟩

end Go.Proofs.YtgknnigjlnfplaaGreatDoor

namespace Go.Proofs.YtgknnigjlnfplaaGreatDoor
open Go.RowKit
open Go.Maps

/-- A clerk as a value: the desk, its trips by all, by what was forced, and the block of its book. -/
abbrev clerkV (up : Bool) (v : Value) (f : Int) (u all forced : Value) (b : Nat) : Value := .agg #[.bool up, v, .int .i64 f, u, all, forced, .map (some b)]
abbrev clerkZ : Value := .agg #[.bool false, .slice none 0 0, .int .i64 0, .slice none 0 0, .slice none 0 0, .slice none 0 0, .map none]

def ClOut (w w' : World) (e : Ending) (up : Bool) (rs : List R) (f : Int) (ws : List Wd) : Prop :=
  Below w.heap.size w w' ∧
  ((dkOk up rs f ws = false ∧ e = .returned (.tuple #[clerkZ, .bool false])) ∨
   (dkOk up rs f ws = true ∧ ∃ ao cap au cu aa ca af cf b ps, e = .returned (.tuple #[clerkV up (.slice ao rs.length cap) f (.slice au ws.length cu) (.slice aa (T.ofO rs).length ca) (.slice af (T.ofO (rs.take f.toNat)).length cf) b, .bool true]) ∧
      ps.map (·.1) = rs ∧ DkOwn w' w.heap.size w'.heap.size (.slice ao rs.length cap) (.slice au ws.length cu) ps ws ∧
      T.Made w' w.heap.size (.slice aa (T.ofO rs).length ca) (T.ofO rs) ∧ T.Made w' w.heap.size (.slice af (T.ofO (rs.take f.toNat)).length cf) (T.ofO (rs.take f.toNat)) ∧ BkN w' w.heap.size b (2 * ws.length) ws))

theorem grown_set (w : World) (g i : Nat) (x : Value) : w.grownBy (w.setCell ⟨g, i, none⟩ x) (some g) :=
  ⟨rfl, rfl, rfl, by simp, fun k _ hk => Below.heap_setCell _ _ _ _ (fun e => hk (by simpa using e))⟩
theorem BkN.set_ {W : World} {lo b N g i : Nat} {ws : List Wd} (h : BkN W lo b N ws) (hg : g < lo) (x : Value) : BkN (W.setCell ⟨g, i, none⟩ x) lo b N ws :=
  h.kept (grown_set W g i x) (fun k hk => by simp at hk; omega)
theorem BkN.lo {W : World} {lo lo' b N : Nat} {ws : List Wd} (h : BkN W lo b N ws) (hl : lo' ≤ lo) : BkN W lo' b N ws := by
  obtain ⟨D, h0, h1, h2, h3⟩ := h
  refine ⟨D, by omega, h1, fun t ht ht6 => ?_, h3⟩
  rcases h2 t ht ht6 with a | ⟨B, S, a1, a2, a3, a4, a5⟩
  · exact Or.inl a
  · exact Or.inr ⟨B, S, a1, by omega, a3, a4, a5⟩
theorem Blk.cells7 {w : World} {b : Nat} {x0 x1 x2 x3 x4 x5 x6 : Value} {ty : TypeId} (h : Blk w b #[x0, x1, x2, x3, x4, x5, x6] ty) :
    w.cell? ⟨b, 0, none⟩ = some x0 ∧ w.cell? ⟨b, 1, none⟩ = some x1 ∧ w.cell? ⟨b, 2, none⟩ = some x2 ∧ w.cell? ⟨b, 3, none⟩ = some x3 ∧ w.cell? ⟨b, 4, none⟩ = some x4 ∧ w.cell? ⟨b, 5, none⟩ = some x5 ∧ w.cell? ⟨b, 6, none⟩ = some x6 := by
  refine ⟨?_, ?_, ?_, ?_, ?_, ?_, ?_⟩ <;> (rw [h.cell]; rfl)
theorem Blk.free7 {w : World} {b : Nat} {cs : Array Value} {ty : TypeId} (h : Blk w b cs ty) :
    w.frozen? ⟨b, 0, none⟩ = false ∧ w.frozen? ⟨b, 1, none⟩ = false ∧ w.frozen? ⟨b, 2, none⟩ = false ∧ w.frozen? ⟨b, 3, none⟩ = false ∧ w.frozen? ⟨b, 4, none⟩ = false ∧ w.frozen? ⟨b, 5, none⟩ = false ∧ w.frozen? ⟨b, 6, none⟩ = false :=
  ⟨h.free 0, h.free 1, h.free 2, h.free 3, h.free 4, h.free 5, h.free 6⟩

set_option maxHeartbeats 8000000 in
set_option maxRecDepth 20000 in
theorem clerkOf_any (up : Bool) (v u : Value) (rs : List R) (f : Int) (ws : List Wd) (a : Addr) (w : World) (hv : DkAt w v u rs ws) (hl : tot rs ≤ 1048576) (hlw : ws.length ≤ 1048576) (hfv : Form v rs.length) (ha : ErrAt w a) :
    Calls Tryz.prog 19 #[deskV up v f u] w fun e w' => ClOut w w' e up rs f ws := by
  have HV : Hid (∀ W, Below w.heap.size w W → DkAt W v u rs ws) := fun W h => hv.later h (Nat.le_refl _)
  have HL : Hid (∀ W, Below w.heap.size w W → Calls Tryz.prog 38 #[.agg #[v, .int .i64 f]] W fun e w' => e = .returned (.bool (logOk rs f)) ∧ Below W.heap.size W w') := fun W h =>
    implLogOk_any v rs f a W (hv.1.later h (Nat.le_refl _)) hl (ha.later h (Nat.le_refl _))
  have HT : Hid (∀ W, Below w.heap.size w W → Calls Tryz.prog 39 #[v] W fun e w' => T.TrOut W w' e (T.ofO rs) (T.runT rs).isSome) := fun W h =>
    T.implOf_any v rs a W (hv.1.later h (Nat.le_refl _)) hl (ha.later h (Nat.le_refl _))
  have HB : Hid (∀ W, Below w.heap.size w W → Calls Tryz.prog 40 #[u, .int .i64 (T.ofO rs).length] W fun e w' => BkOut W w' e (T.ofO rs).length ws) := fun W h =>
    bookOf_any u ws _ W (hv.2.later h (Nat.le_refl _)) hlw
  have HC : Hid (∀ W, Below w.heap.size w W → Calls Tryz.prog 41 #[deskV up v f u] W fun e w' => DkOut W w' e up rs f ws) := fun W h =>
    copyDesk_any up v u rs f ws W (hv.later h (Nat.le_refl _)) hl hlw
  have HAe := hide_it ha
  obtain ⟨av, cv, au, cu, rfl, rfl⟩ := hv.shape
  clear hv ha
  have hcap : rs.length ≤ cv := by
    rcases hfv with ⟨e, h0⟩ | ⟨g, cap, e, h1⟩
    · omega
    · simp at e; omega
  clear hfv
  have HF : Hid (logOk rs f = true → (0 ≤ f ∧ f ≤ rs.length) ∧ ∀ W, Below w.heap.size w W → Calls Tryz.prog 39 #[.slice av f.toNat cv] W fun e w' => T.TrOut W w' e (T.ofO (rs.take f.toNat)) (T.runT (rs.take f.toNat)).isSome) := fun hok => by
    obtain ⟨h0, h1, _⟩ := logOk_f hok
    refine ⟨⟨h0, h1⟩, fun W h => ?_⟩
    have hN : f.toNat ≤ rs.length := by omega
    have hlen : (rs.take f.toNat).length = f.toNat := by rw [List.length_take]; omega
    exact T.implOf_any _ (rs.take f.toNat) a W (Recs.take (HV.out W h).1 hN) (Nat.le_trans (pre_take rs _ hN) hl) (HAe.out.later h (Nat.le_refl _))
  have HE : Hid (dkOk up rs f ws = (logOk rs f && ((T.runT rs).isSome && (toldOk (T.ofO rs).length ws && (up || ws.isEmpty))))) := rfl
  have HFA : Hid (∀ {w' : World} {e : Ending}, Below w.heap.size w w' → dkOk up rs f ws = false → e = .returned (.tuple #[clerkZ, .bool false]) → ClOut w w' e up rs f ws) := fun h1 h2 h3 => ⟨h1, Or.inl ⟨h2, h3⟩⟩
  have hO6 := (T.ofO_fit rs).1
  have hO6' := (T.ofO_fit (rs.take f.toNat)).1
  obtain ⟨LL, hLL⟩ : ∃ x, logOk rs f = x := ⟨_, rfl⟩
  obtain ⟨SS, hSS⟩ : ∃ x, (T.runT rs).isSome = x := ⟨_, rfl⟩
  rw [hLL] at HL HE HF
  rw [hSS] at HT HE
  clear hLL hSS HAe
  obtain ⟨w0, hw0⟩ : ∃ W, Hid (W = (w.alloc (.cells #[.bool up, .slice av rs.length cv, .int .i64 f, .slice au ws.length cu] 36)).alloc (.cells #[.bool false, .slice none 0 0, .int .i64 0, .slice none 0 0, .slice none 0 0, .slice none 0 0, .map none] 54)) := ⟨_, rfl⟩
  have B0 : Hid (Below w.heap.size w w0) := by show Below _ _ _; rw [hw0.out]; exact below2 _ _ _
  have X0 : Hid (Blk w0 w.heap.size #[.bool up, .slice av rs.length cv, .int .i64 f, .slice au ws.length cu] 36) := by show Blk _ _ _ _; rw [hw0.out]; exact (Blk.new _ _ _).alloc _
  have Y0 : Hid (Blk w0 (w.heap.size + 1) #[.bool false, .slice none 0 0, .int .i64 0, .slice none 0 0, .slice none 0 0, .slice none 0 0, .map none] 54) := by show Blk _ _ _ _; rw [hw0.out]; exact Blk.new2 _ _ _ _
  have hs0 : w0.heap.size = w.heap.size + 2 := by rw [hw0.out, size2]
  go_enter Tryz.func19, Tryz.ntmps19
  go_wp2_with fail
  rw [← hw0.out]
  refine (HL.out _ B0.out).mono ?_
  rintro e w1 ⟨rfl, hb1⟩
  have B1 := hide_it (B0.out.trans (hb1.mono B0.out.size))
  have X1 := hide_it (X0.out.after hb1)
  have Y1 := hide_it (Y0.out.after hb1)
  have hz1 : w.heap.size + 2 ≤ w1.heap.size := by have := hb1.size; omega
  clear hb1
  obtain ⟨x0, x1, x2, x3⟩ := X1.out.cells4
  obtain ⟨y0, y1, y2, y3, y4, y5, y6⟩ := Y1.out.cells7
  obtain ⟨yf0, yf1, yf2, yf3, yf4, yf5, yf6⟩ := Y1.out.free7
  cases LL
  · go_wp2
    refine bodyPost_ret (v := .tuple #[clerkZ, .bool false]) (by simp [results, Tryz.results19, go_sem, *]) rfl ?_
    refine HFA.out ?_ (by rw [HE.out]; rfl) rfl
    repeat (refine Below.setCell ?_ (by first | (simp; done) | (simp; omega)) _)
    exact B1.out
  have HF2 := hide_it (HF.out rfl)
  obtain ⟨hf0, hf1⟩ := HF2.out.1
  clear HF
  have HUE : Hid ((up || ws.isEmpty) = false ∨ (up || ws.isEmpty) = true) := by
    show _ ∨ _
    cases (up || ws.isEmpty)
    · exact Or.inl rfl
    · exact Or.inr rfl
  rcases HUE.out with hue | hue
  · have hu0 : up = false := by cases up <;> simp_all
    have hwl : 0 < ws.length := by
      rw [hu0] at hue
      simp at hue
      exact List.length_pos_iff.2 hue
    have HUEF := hide_it hue
    subst hu0
    clear hue
    go_wp2
    refine bodyPost_ret (v := .tuple #[clerkZ, .bool false]) (by simp [results, Tryz.results19, go_sem, *]) rfl ?_
    refine HFA.out ?_ (by rw [HE.out, HUEF.out]; simp) rfl
    repeat (refine Below.setCell ?_ (by first | (simp; done) | (simp; omega)) _)
    exact B1.out
  have HUT := hide_it hue
  -- on to the trips
  have huw : up = true ∨ up = false ∧ ws.length = 0 := by
    cases up
    · simp at hue; exact Or.inr ⟨rfl, by rw [hue]; rfl⟩
    · exact Or.inl rfl
  clear hue HUE
  rcases huw with rfl | ⟨rfl, huz⟩
  all_goals
    go_wp2_with fail
    try clear huz
    refine (HT.out w1 B1.out).mono ?_
    rintro e w2 ⟨aa, ca, rfl, hm2, hb2⟩
    have B2 := hide_it (B1.out.trans (hb2.mono B1.out.size))
    have X2 := hide_it (X1.out.after hb2)
    have Y2 := hide_it (Y1.out.after hb2)
    have A2 : Hid (T.Made w2 w0.heap.size (.slice aa (T.ofO rs).length ca) (T.ofO rs)) := hm2.lo (by omega)
    have hz2 : w.heap.size + 2 ≤ w2.heap.size := by have := hb2.size; omega
    clear hb2 hm2 x0 x1 x2 x3 y0 y1 y2 y3 y4 y5 y6 yf0 yf1 yf2 yf3 yf4 yf5 yf6
    obtain ⟨x0, x1, x2, x3⟩ := X2.out.cells4
    obtain ⟨y0, y1, y2, y3, y4, y5, y6⟩ := Y2.out.cells7
    obtain ⟨yf0, yf1, yf2, yf3, yf4, yf5, yf6⟩ := Y2.out.free7
    cases SS
    · go_wp2
      refine bodyPost_ret (v := .tuple #[clerkZ, .bool false]) (by simp [results, Tryz.results19, go_sem, *]) rfl ?_
      refine HFA.out ?_ (by rw [HE.out]; rfl) rfl
      repeat (refine Below.setCell ?_ (by first | (simp; done) | (simp; omega)) _)
      exact B2.out
    go_wp2_with fail
    refine (HB.out w2 B2.out).mono ?_
    rintro e w3 ⟨hbk, hb3⟩
    have B3 := hide_it (B2.out.trans (hb3.mono B2.out.size))
    have X3 := hide_it (X2.out.after hb3)
    have Y3 := hide_it (Y2.out.after hb3)
    have A3 : Hid (T.Made w3 w0.heap.size (.slice aa (T.ofO rs).length ca) (T.ofO rs)) := A2.out.below hb3 (Nat.le_refl _)
    have hz3 : w.heap.size + 2 ≤ w3.heap.size := by have := hb3.size; omega
    clear hb3 x0 x1 x2 x3 y0 y1 y2 y3 y4 y5 y6 yf0 yf1 yf2 yf3 yf4 yf5 yf6
    obtain ⟨x0, x1, x2, x3⟩ := X3.out.cells4
    obtain ⟨y0, y1, y2, y3, y4, y5, y6⟩ := Y3.out.cells7
    obtain ⟨yf0, yf1, yf2, yf3, yf4, yf5, yf6⟩ := Y3.out.free7
    rcases hbk with ⟨htk, rfl, hk3⟩ | ⟨htk, rfl⟩
    rotate_left
    · have HTK := hide_it htk
      clear htk
      go_wp2
      refine bodyPost_ret (v := .tuple #[clerkZ, .bool false]) (by simp [results, Tryz.results19, go_sem, *]) rfl ?_
      refine HFA.out ?_ (by rw [HE.out, HTK.out]; simp) rfl
      repeat (refine Below.setCell ?_ (by first | (simp; done) | (simp; omega)) _)
      exact B3.out
    have HTK := hide_it htk
    have K3 : Hid (BkN w3 w0.heap.size w2.heap.size (2 * ws.length) ws) := hk3.lo (by omega)
    clear htk hk3
    go_wp2_with fail
    refine (HF2.out.2 w3 B3.out).mono ?_
    rintro e w4 ⟨af, cf, rfl, hm4, hb4⟩
    have B4 := hide_it (B3.out.trans (hb4.mono B3.out.size))
    have X4 := hide_it (X3.out.after hb4)
    have Y4 := hide_it (Y3.out.after hb4)
    have A4 : Hid (T.Made w4 w0.heap.size (.slice aa (T.ofO rs).length ca) (T.ofO rs)) := A3.out.below hb4 (Nat.le_refl _)
    have F4 : Hid (T.Made w4 w0.heap.size (.slice af (T.ofO (rs.take f.toNat)).length cf) (T.ofO (rs.take f.toNat))) := hm4.lo (by omega)
    have K4 := hide_it (K3.out.after hb4)
    have hz4 : w.heap.size + 2 ≤ w4.heap.size := by have := hb4.size; omega
    clear hb4 hm4 x0 x1 x2 x3 y0 y1 y2 y3 y4 y5 y6 yf0 yf1 yf2 yf3 yf4 yf5 yf6
    obtain ⟨x0, x1, x2, x3⟩ := X4.out.cells4
    go_wp2_with fail
    refine (HC.out w4 B4.out).mono ?_
    rintro e w5 ⟨ao, cap, ad, cd, ps, rfl, hp5, ho5, hb5⟩
    have B5 := hide_it (B4.out.trans (hb5.mono B4.out.size))
    have Y5 := hide_it (Y4.out.after hb5)
    have A5 : Hid (T.Made w5 w0.heap.size (.slice aa (T.ofO rs).length ca) (T.ofO rs)) := A4.out.below hb5 (Nat.le_refl _)
    have F5 : Hid (T.Made w5 w0.heap.size (.slice af (T.ofO (rs.take f.toNat)).length cf) (T.ofO (rs.take f.toNat))) := F4.out.below hb5 (Nat.le_refl _)
    have K5 := hide_it (K4.out.after hb5)
    have O5 : Hid (DkOwn w5 w0.heap.size w5.heap.size (.slice ao rs.length cap) (.slice ad ws.length cd) ps ws) := ho5.lo (by omega)
    have P5 := hide_it hp5
    have hz5 : w.heap.size + 2 ≤ w5.heap.size := by have := hb5.size; omega
    clear hb5 hp5 ho5 x0 x1 x2 x3
    obtain ⟨y0, y1, y2, y3, y4, y5, y6⟩ := Y5.out.cells7
    obtain ⟨yf0, yf1, yf2, yf3, yf4, yf5, yf6⟩ := Y5.out.free7
    go_wp2
    first | (refine bodyPost_ret (v := .tuple #[clerkV true (.slice ao rs.length cap) f (.slice ad ws.length cd) (.slice aa (T.ofO rs).length ca) (.slice af (T.ofO (rs.take f.toNat)).length cf) w2.heap.size, .bool true]) ?hh rfl ?_; case hh => (simp [results, Tryz.results19, go_sem, *]; done)) | (refine bodyPost_ret (v := .tuple #[clerkV false (.slice ao rs.length cap) f (.slice ad ws.length cd) (.slice aa (T.ofO rs).length ca) (.slice af (T.ofO (rs.take f.toNat)).length cf) w2.heap.size, .bool true]) ?hh rfl ?_; case hh => (simp [results, Tryz.results19, go_sem, *]; done))
    refine ⟨?_, Or.inr ⟨?_, ao, cap, ad, cd, aa, ca, af, cf, w2.heap.size, ps, rfl, P5.out, ?_, ?_, ?_, ?_⟩⟩
    · repeat (refine Below.setCell ?_ (by first | (simp; done) | (simp; omega)) _)
      exact B5.out
    · rw [HE.out, HTK.out, HUT.out]; rfl
    · refine DkOwn.lo (lo := w0.heap.size) ?_ (by omega)
      repeat (refine DkOwn.setBelow ?_ (by omega) _)
      simpa using O5.out
    · refine T.Made.lo (lo := w0.heap.size) ?_ (by omega)
      repeat (refine T.Made.setBelow ?_ (by simp; omega) _)
      exact A5.out
    · refine T.Made.lo (lo := w0.heap.size) ?_ (by omega)
      repeat (refine T.Made.setBelow ?_ (by simp; omega) _)
      exact F5.out
    · refine BkN.lo (lo := w0.heap.size) ?_ (by omega)
      repeat (refine BkN.set_ ?_ (by omega) _)
      exact K5.out

end Go.Proofs.YtgknnigjlnfplaaGreatDoor

namespace Go.Proofs.YtgknnigjlnfplaaGreatDoor.T
open Go.RowKit

theorem mayL_4 {rs : List R} {t : Int} {zs : List Int} : mayL rs (4, t, zs) = decide (t = (rs.length : Int) + 1) := by unfold mayL; simp
theorem mayL_no {rs : List R} {k t : Int} {zs : List Int} (h4 : k ≠ 4) (ht : (rs.length : Int) < t) : mayL rs (k, t, zs) = false := by
  unfold mayL
  rw [if_neg h4]
  dsimp only
  rw [tripAt_none (List.getElem?_eq_none (by omega)), nextS_0]
  rfl
theorem mayL_at' {rs : List R} {k t : Int} {zs : List Int} {x : R} (h4 : k ≠ 4) (hx : rs[(t - 1).toNat]? = some x) : mayL rs (k, t, zs) = decide (nextS x.2 k ≠ 0) := by
  unfold mayL
  rw [if_neg h4]
  dsimp only
  rw [tripAt_get hx]

set_option maxHeartbeats 2000000 in
theorem l12May_any (v : Value) (rs : List R) (k t : Int) (u : Value) (zs : List Int) (w : World) (hv : Recs w v rs) (hl : tot rs ≤ 1048576) (hu : ∃ ao n cap, u = .slice ao n cap) (ht : 1 ≤ t) (ht6 : t ≤ 6) :
    Calls Tryz.prog 52 #[v, .agg #[.int .i64 k, .int .i64 t, u]] w fun e w' => e = .returned (.bool (mayL rs (k, t, zs))) ∧ Below w.heap.size w w' := by
  have hlen := tot_len rs
  obtain ⟨au, nu, cu, rfl⟩ := hu
  obtain ⟨av, cv, hvs⟩ := hv.shape
  by_cases h4 : k = 4
  · subst h4
    rw [mayL_4]
    subst hvs
    clear hv
    by_cases he : t = (rs.length : Int) + 1
    · have HE : Hid (decide (t = (rs.length : Int) + 1) = true) := by show _ = _; simp [he]
      rw [HE.out]
      have he2 : (t == (rs.length : Int) + 1) = true := by simp [he]
      clear he
      go_enter Tryz.func52, Tryz.ntmps52
      go_wp2
      go_ret
      exact ⟨by simp, alloc_below _ _⟩
    · have HE : Hid (decide (t = (rs.length : Int) + 1) = false) := by show _ = _; simp [he]
      rw [HE.out]
      have he2 : (t == (rs.length : Int) + 1) = false := by simp [he]
      go_enter Tryz.func52, Tryz.ntmps52
      go_wp2
      go_ret
      exact ⟨by simp, alloc_below _ _⟩
  by_cases hgt : (rs.length : Int) < t
  · have HE : Hid (mayL rs (k, t, zs) = false) := mayL_no h4 hgt
    subst hvs
    clear hv
    go_enter Tryz.func52, Tryz.ntmps52
    go_wp2
    go_ret
    exact ⟨by rw [HE.out]; rfl, alloc_below _ _⟩
  rcases hv with ⟨h0, _⟩ | ⟨b, off, cap, hvv, _, hcl⟩
  · rw [h0] at hgt; simp at hgt; omega
  subst hvs
  simp only [Value.slice.injEq] at hvv
  obtain ⟨rfl, -, rfl⟩ := hvv
  obtain ⟨i, hi⟩ : ∃ i : Nat, t = (i : Int) + 1 := ⟨(t - 1).toNat, by omega⟩
  subst hi
  have hil : i < rs.length := by omega
  obtain ⟨x, hx⟩ : ∃ x, Hid (rs[i]? = some x) := ⟨rs[i], by show _ = _; simp [hil]⟩
  obtain ⟨y, c0, c1, hI⟩ := hcl i x hx.out
  have HE : Hid (mayL rs (k, (i : Int) + 1, zs) = decide (nextS x.2 k ≠ 0)) := mayL_at' h4 (by rw [show ((i : Int) + 1 - 1).toNat = i by omega]; exact hx.out)
  have c1o : ∀ o, (w.alloc o).cell? ⟨b, off + i * 2 + 1, none⟩ = some (.int .i64 x.2) := fun o => cellAlloc c1 o
  have hbw : b < w.heap.size := World.block_lt_of_cell? _ _ c0
  clear hcl hI c0
  rw [HE.out]
  by_cases h5 : k = 5
  · subst h5
    by_cases hs : x.2 = 1
    · have HN : Hid (decide (nextS x.2 5 ≠ 0) = true) := by show _ = _; rw [hs]; rfl
      rw [HN.out]
      have hs2 : (x.2 == 1) = true := by simp [hs]
      clear hs
      go_enter Tryz.func52, Tryz.ntmps52
      go_wp2
      go_ret
      exact ⟨by simp, alloc_below _ _⟩
    · have HN : Hid (decide (nextS x.2 5 ≠ 0) = false) := by show _ = _; simp [nextS, hs]
      rw [HN.out]
      have hs2 : (x.2 == 1) = false := by simp [hs]
      go_enter Tryz.func52, Tryz.ntmps52
      go_wp2
      go_ret
      exact ⟨by simp, alloc_below _ _⟩
  by_cases h6 : k = 6
  · subst h6
    by_cases hs : x.2 = 1
    · have HN : Hid (decide (nextS x.2 6 ≠ 0) = true) := by show _ = _; rw [hs]; rfl
      rw [HN.out]
      have hs2 : (x.2 == 1) = true := by simp [hs]
      clear hs
      go_enter Tryz.func52, Tryz.ntmps52
      go_wp2
      go_ret
      exact ⟨by simp, alloc_below _ _⟩
    · have HN : Hid (decide (nextS x.2 6 ≠ 0) = false) := by show _ = _; simp [nextS, hs]
      rw [HN.out]
      have hs2 : (x.2 == 1) = false := by simp [hs]
      go_enter Tryz.func52, Tryz.ntmps52
      go_wp2
      go_ret
      exact ⟨by simp, alloc_below _ _⟩
  by_cases h7 : k = 7
  · subst h7
    by_cases hs : x.2 = 2
    · have HN : Hid (decide (nextS x.2 7 ≠ 0) = true) := by show _ = _; rw [hs]; rfl
      rw [HN.out]
      rw [hs] at c1 c1o
      clear hs
      go_enter Tryz.func52, Tryz.ntmps52
      go_wp2
      go_ret
      exact ⟨by simp, alloc_below _ _⟩
    by_cases hs3 : x.2 = 3
    · have HN : Hid (decide (nextS x.2 7 ≠ 0) = true) := by show _ = _; rw [hs3]; rfl
      rw [HN.out]
      rw [hs3] at c1 c1o
      clear hs hs3
      go_enter Tryz.func52, Tryz.ntmps52
      go_wp2
      go_ret
      exact ⟨by simp, alloc_below _ _⟩
    have HN : Hid (decide (nextS x.2 7 ≠ 0) = false) := by show _ = _; simp [nextS, hs, hs3]
    rw [HN.out]
    have e2 : (x.2 == 2) = false := by simp [hs]
    have e3 : (x.2 == 3) = false := by simp [hs3]
    go_enter Tryz.func52, Tryz.ntmps52
    go_wp2
    go_ret
    exact ⟨by simp, alloc_below _ _⟩
  have HN : Hid (decide (nextS x.2 k ≠ 0) = false) := by show _ = _; simp [nextS, h5, h6, h7]
  rw [HN.out]
  go_enter Tryz.func52, Tryz.ntmps52
  go_wp2
  go_ret
  exact ⟨rfl, alloc_below _ _⟩

end Go.Proofs.YtgknnigjlnfplaaGreatDoor.T

namespace Go.Proofs.YtgknnigjlnfplaaGreatDoor.T
open Go.RowKit

theorem lit0 (W : World) (ty : TypeId) (sz : Nat) : (W.alloc (.cells #[] ty)).ownsRow W.heap.size ty sz (.slice (some ⟨W.heap.size, 0, none⟩) 0 0) 0 [] := by
  have h := World.ownsRow_lit (base := W.heap.size) (e := ty) (size := sz) W #[] 0 (by simp) (by unfold maxLen; omega) (by simp)
  exact h

theorem litBelow {wr W w4 : World} (h0 : Below wr.heap.size wr W) (hg : W.grownBy w4 (Value.slice (some ⟨wr.heap.size, 0, none⟩) 0 0).ownBlock) : Below wr.heap.size wr w4 :=
  h0.trans ((Below.refl _ _).grown hg h0.size (fun k hk => by simp [Value.ownBlock] at hk; omega))

end Go.Proofs.YtgknnigjlnfplaaGreatDoor.T

namespace Go.Proofs.YtgknnigjlnfplaaGreatDoor.T
open Go.RowKit

theorem pair_at {rs : List R} {ps : List (R × Value)} {i : Nat} {x : R} (hps : ps.map (·.1) = rs) (hx : rs[i]? = some x) : ∃ u, ps[i]? = some (x, u) := by
  rw [← hps, List.getElem?_map] at hx
  cases h : ps[i]? with
  | none => rw [h] at hx; cases hx
  | some p => rw [h] at hx; simp at hx; subst hx; exact ⟨p.2, rfl⟩

/-- Another state of one trip of a list of the call's own. -/
theorem Made.turn {w : World} {lo g n cap i : Nat} {rs : List R} {x : R} (s : Int) (h : Made w lo (.slice (some ⟨g, 0, Option.none⟩) n cap) rs) (hn : rs.length = n) (hx : rs[i]? = some x) :
    Made (w.setCell ⟨g, i * 2 + 1, Option.none⟩ (.int .i64 s)) lo (.slice (some ⟨g, 0, Option.none⟩) n cap) (rs.set i (x.1, s)) ∧ Below lo w (w.setCell ⟨g, i * 2 + 1, Option.none⟩ (.int .i64 s)) := by
  obtain ⟨ps, hps, row, hgb, inn⟩ := h
  obtain ⟨u, hu⟩ := pair_at hps hx
  have hpn : ps.length = n := by rw [← hn, ← hps]; simp
  rw [hpn] at row
  have hgl := row.lt g rfl
  have hown : w.ownsRow lo 3 1 u x.1.length (x.1.map (Value.int .i64)) := (inn.2.1 (x, u) (List.mem_of_getElem? hu)).1
  have st := mark_step (lo := lo) (hi := w.heap.size) (r := (x.1, s)) (w2 := w) hu ⟨by rw [hpn]; exact row, hgb, inn⟩ hpn hown (World.grownBy.refl _ _) rfl
  have hs : (w.setCell ⟨g, i * 2 + 1, Option.none⟩ (.int .i64 s)).heap.size = w.heap.size := by simp
  refine ⟨⟨ps.set i ((x.1, s), u), by rw [List.map_set, hps], ?_⟩, (Below.refl _ _).setCell (by simpa using hgl.1) _⟩
  rw [hs]
  exact st.1

theorem Made.shape {w : World} {lo : Nat} {v : Value} {rs : List R} (h : Made w lo v rs) (hz : rs ≠ []) : ∃ g cap, v = .slice (some ⟨g, 0, Option.none⟩) rs.length cap ∧ (∀ j, j < rs.length * 2 → ∃ y, w.cell? ⟨g, j, Option.none⟩ = some y) ∧ (∀ j, w.frozen? ⟨g, j, Option.none⟩ = false) ∧ g < w.heap.size ∧ ∀ i x, rs[i]? = some x → w.cell? ⟨g, i * 2 + 1, Option.none⟩ = some (.int .i64 x.2) := by
  obtain ⟨ps, hps, row, hgb, inn⟩ := h
  have hpn : ps.length = rs.length := by rw [← hps]; simp
  rcases row.2 with ⟨_, hn0⟩ | ⟨g, cap, cur, hv, _⟩
  · refine absurd ?_ hz
    rw [← hps, List.length_eq_zero_iff.1 hn0]; rfl
  · rw [hv, hpn] at row
    refine ⟨g, cap, by rw [hv, hpn], fun j hj => ?_, fun j => row.frozenAt j, (row.lt g rfl).2, fun i x hx => ?_⟩
    · have h1 := row.cellAt j hj
      have h2 : j < (flat ps).length := by rw [row.1]; exact hj
      exact ⟨_, by rw [h1, List.getElem?_eq_getElem h2]⟩
    · obtain ⟨u, hu⟩ := pair_at hps hx
      have hl := len_lt hx
      rw [row.cellAt _ (by omega)]
      exact (flat_get ps i _ hu).2

theorem doL_at {rs : List R} {k : Int} {i : Nat} {zs : List Int} {x : R} (h4 : k ≠ 4) (hx : rs[i]? = some x) : doL rs (k, (i : Int) + 1, zs) = rs.set i (x.1, nextS x.2 k) := by
  have e : ((i : Int) + 1 - 1).toNat = i := by omega
  unfold doL
  rw [if_neg h4]
  dsimp only
  rw [e, tripAt_get (by rw [e]; exact hx)]

/-- What comes of a list of the call's own behind a record. -/
def DoOut (w w' : World) (e : Ending) (lo : Nat) (rs : List R) : Prop :=
  ∃ ao cap, e = .returned (.slice ao rs.length cap) ∧ Made w' lo (.slice ao rs.length cap) rs ∧ Below lo w w'

set_option maxRecDepth 100000 in
set_option maxHeartbeats 4000000 in
theorem l12Do_begin (v : Value) (rs : List R) (t : Int) (u : Value) (zs : List Int) (lo : Nat) (w : World) (hm : Made w lo v rs) (hn : rs.length ≤ 6) (hlo : lo ≤ w.heap.size) (hu : Ints w u zs) (h3 : zs.length = 3) :
    Calls Tryz.prog 53 #[v, .agg #[.int .i64 4, .int .i64 t, u]] w fun e w' => DoOut w w' e lo (rs ++ [(zs, 1)]) := by
  obtain ⟨i0, hi0, hz0, hz1, hz2⟩ := info_parts infoTrip
  have HU : Hid (∀ W, Below w.heap.size w W → Ints W u zs) := fun W h => hu.later h (Nat.le_refl _)
  have H3 := hide_it h3
  obtain ⟨ps, hps, ho⟩ := hm
  have HPS := hide_it hps
  have HPL : Hid (ps.length = rs.length) := by have := congrArg List.length hps; show _ = _; simpa using this
  obtain ⟨av, cv, hvs⟩ := row_shape ho.1
  obtain ⟨au, cu, hus⟩ := hu.shape
  rw [h3] at hus
  subst hvs hus
  have HO := hide_it ho
  clear ho hps hu h3
  obtain ⟨w0, hw0⟩ : ∃ W, Hid (W = (w.alloc (.cells #[.int .i64 4, .int .i64 t, .slice au 3 cu] 81)).alloc (.cells #[] 3)) := ⟨_, rfl⟩
  have B0 : Hid (Below w.heap.size w w0) := by show Below _ _ _; rw [hw0.out]; exact below2 _ _ _
  have L0 : Hid (w0.ownsRow (w.heap.size + 1) 3 1 (.slice (some ⟨w.heap.size + 1, 0, none⟩) 0 0) 0 []) := by
    have h := lit0 (w.alloc (.cells #[.int .i64 4, .int .i64 t, .slice au 3 cu] 81)) 3 1
    rw [size1] at h
    show World.ownsRow _ _ _ _ _ _ _
    rw [hw0.out]; exact h
  have hs0 : Hid (w0.heap.size = w.heap.size + 2) := by show _ = _; rw [hw0.out, size2]
  go_enter Tryz.func53, Tryz.ntmps53
  go_wp2_with (first
    | (at_builtin; refine wpList_append_ints rfl _ _ rfl (w.heap.size + 1) (.slice (some ⟨w.heap.size + 1, 0, none⟩) 0 0) (.slice au 3 cu) 0 [] zs rfl rfl (by rw [← hw0.out]; exact L0.out) (by rw [← hw0.out]; exact HU.out _ B0.out) (by rw [H3.out]; omega) (by simp) ?_; rw [← hw0.out, H3.out]; intro a4 cap4 w4 hown4 hgrow4; have hb4 : Below w.heap.size w w4 := B0.out.trans ((Below.refl _ _).grown hgrow4 B0.out.size (fun k hk => by simp [Value.ownBlock] at hk; omega)); have HB4 := hide_it hb4; have ROW4 : Hid (∀ o, (w4.alloc o).ownsRow lo 91 2 (.slice av ps.length cv) ps.length (flat ps)) := (fun o => (ownsRow_below HO.out.1 hb4 (fun j hj => (HO.out.1.lt j hj).2)).alloc o); have INN4 : Hid (∀ o, Inner (w4.alloc o) lo w.heap.size ps) := (fun o => (HO.out.2.2.below hb4 (Nat.le_refl _)).below (alloc_below _ o) hb4.size); have NEW4 : Hid (∀ o, (w4.alloc o).ownsRow lo 3 1 (.slice a4 3 cap4) zs.length (zs.map (Value.int .i64))) := (fun o => by rw [H3.out]; exact (ownsRow_base hown4 (by omega)).alloc o); have NEWB4 : Hid (∀ j, (Value.slice a4 3 cap4).ownBlock = some j → w.heap.size ≤ j ∧ j < (w4.alloc (.cells #[.slice a4 3 cap4, .int .i64 1] 91)).heap.size) := (fun j hj => by have h9 := hown4.lt j hj; simp; omega); have hz4 := hb4.size; clear hown4 hgrow4 hb4)
    | (at_builtin; refine wpList_append_lies _ rfl _ _ 50 rfl lo 91 i0 (.agg #[.slice none 0 0, .int .i64 0]) 2 32 Tryz.underlying50 hi0 hz0 hz1 hz2 rfl (by decide) (.slice av ps.length cv) ps.length (flat ps) rfl (by exact (ROW4.out _)) ⟨w4.heap.size, 0, none⟩ 1 1 [.slice a4 3 cap4, .int .i64 1] rfl rfl (by exact news2 _ _ _ _) (by exact one2 _ _) (by decide) (by have := HPL.out; unfold maxLen; omega) (by have := HPL.out; omega) (by simp; omega) _ rfl ?_; intro g5 cap5 w5 hown5 hgrow5 _ _; have O5 := hide_it hown5; have G5 := hide_it hgrow5; have LO5 := hide_it (addBelow (ROW4.out _) hgrow5 (by simp; omega)); clear hown5 hgrow5))
  have ST := append_step (r := (zs, 1)) (ROW4.out (.cells #[.slice a4 3 cap4, .int .i64 1] 91)) (INN4.out _) (by simp; omega) (NEW4.out _) (NEWB4.out) O5.out G5.out
  have M5 : Hid (Made w5 lo (.slice (some ⟨g5, 0, none⟩) (rs.length + 1) cap5) (rs ++ [(zs, 1)])) := by
    refine ⟨ps ++ [((zs, 1), .slice a4 3 cap4)], by rw [List.map_append, HPS.out]; rfl, ?_, fun k hk => ?_, ST.2⟩
    · have h := ST.1
      rw [← HPL.out]
      exact h
    · have h := ST.1
      rw [← HPL.out] at hk
      exact (h.lt k hk).2
  have B5 : Hid (Below lo w w5) := ((HB4.out.mono hlo).alloc (by omega) _).trans LO5.out
  clear ST
  have HLr : Hid ((rs ++ [(zs, (1 : Int))]).length = rs.length + 1) := by show _ = _; simp
  have HP2 := HPL.out
  rw [HP2]
  clear HP2
  go_wp2
  refine bodyPost_ret (v := .slice (some ⟨g5, 0, none⟩) (rs.length + 1) cap5) (by simp [results, Tryz.results53, go_sem]) rfl ?_
  unfold DoOut
  rw [HLr.out]
  exact ⟨_, cap5, rfl, M5.out, B5.out⟩

end Go.Proofs.YtgknnigjlnfplaaGreatDoor.T

namespace Go.Proofs.YtgknnigjlnfplaaGreatDoor.T
open Go.RowKit

theorem MDrew {w : World} {lo : Nat} {v : Value} {rs : List R} (h : Made w lo v rs) : Made w.drew lo v rs := h.below (Below.refl _ _).drew (Nat.le_refl _)

set_option maxRecDepth 100000 in
set_option maxHeartbeats 4000000 in
theorem l12Do_yes (v : Value) (rs : List R) (i : Nat) (x : R) (au : Option Addr) (nu cu lo : Nat) (w : World) (hm : Made w lo v rs) (hn : rs.length ≤ 6) (hx : rs[i]? = some x) (hs : x.2 = 1) :
    Calls Tryz.prog 53 #[v, .agg #[.int .i64 5, .int .i64 ((i : Int) + 1), .slice au nu cu]] w fun e w' => DoOut w w' e lo (rs.set i (x.1, 2)) := by
  have hil := len_lt hx
  have hz : rs ≠ [] := fun e => by rw [e] at hil; simp at hil
  obtain ⟨g, cap, rfl, hce, hfz, hgw, hst⟩ := hm.shape hz
  have c1 := hst i x hx
  rw [hs] at c1
  have f1 := hfz (i * 2 + 1)
  have hlw : lo ≤ w.heap.size := by
    obtain ⟨ps, hps, row, _, _⟩ := hm
    have := row.lt g rfl
    omega
  have MT : Hid (∀ o, Made ((w.setCell ⟨g, i * 2 + 1, none⟩ (.int .i64 2)).alloc o) lo (.slice (some ⟨g, 0, none⟩) rs.length cap) (rs.set i (x.1, 2)) ∧ Below lo w ((w.setCell ⟨g, i * 2 + 1, none⟩ (.int .i64 2)).alloc o)) := fun o => by
    have h := hm.turn 2 rfl hx
    exact ⟨h.1.below (alloc_below _ o) (Nat.le_refl _), h.2.alloc (by simpa using hlw) o⟩
  have c1o : ∀ o, (w.alloc o).cell? ⟨g, i * 2 + 1, none⟩ = some (.int .i64 1) := fun o => cellAlloc c1 o
  have f1o : ∀ o, (w.alloc o).frozen? ⟨g, i * 2 + 1, none⟩ = false := fun o => by
    rw [← f1]; exact (alloc_below w o).frozen (p := ⟨g, i * 2 + 1, none⟩) hgw
  clear hm hst hce hfz hs
  go_enter Tryz.func53, Tryz.ntmps53
  go_wp2
  refine bodyPost_ret (v := .slice (some ⟨g, 0, none⟩) rs.length cap) (by simp [results, Tryz.results53, go_sem]) rfl ?_
  unfold DoOut
  rw [List.length_set]
  refine ⟨_, cap, rfl, ?_, ?_⟩
  · first
      | exact (MT.out _).1
      | exact MDrew (MT.out _).1
  · first
      | exact (MT.out _).2
      | exact (MT.out _).2.drew

set_option maxRecDepth 100000 in
set_option maxHeartbeats 4000000 in
theorem l12Do_no (v : Value) (rs : List R) (i : Nat) (x : R) (au : Option Addr) (nu cu lo : Nat) (w : World) (hm : Made w lo v rs) (hn : rs.length ≤ 6) (hx : rs[i]? = some x) (hs : x.2 = 1) :
    Calls Tryz.prog 53 #[v, .agg #[.int .i64 6, .int .i64 ((i : Int) + 1), .slice au nu cu]] w fun e w' => DoOut w w' e lo (rs.set i (x.1, 3)) := by
  have hil := len_lt hx
  have hz : rs ≠ [] := fun e => by rw [e] at hil; simp at hil
  obtain ⟨g, cap, rfl, hce, hfz, hgw, hst⟩ := hm.shape hz
  have c1 := hst i x hx
  rw [hs] at c1
  have f1 := hfz (i * 2 + 1)
  have hlw : lo ≤ w.heap.size := by
    obtain ⟨ps, hps, row, _, _⟩ := hm
    have := row.lt g rfl
    omega
  have MT : Hid (∀ o, Made ((w.setCell ⟨g, i * 2 + 1, none⟩ (.int .i64 3)).alloc o) lo (.slice (some ⟨g, 0, none⟩) rs.length cap) (rs.set i (x.1, 3)) ∧ Below lo w ((w.setCell ⟨g, i * 2 + 1, none⟩ (.int .i64 3)).alloc o)) := fun o => by
    have h := hm.turn 3 rfl hx
    exact ⟨h.1.below (alloc_below _ o) (Nat.le_refl _), h.2.alloc (by simpa using hlw) o⟩
  have c1o : ∀ o, (w.alloc o).cell? ⟨g, i * 2 + 1, none⟩ = some (.int .i64 1) := fun o => cellAlloc c1 o
  have f1o : ∀ o, (w.alloc o).frozen? ⟨g, i * 2 + 1, none⟩ = false := fun o => by
    rw [← f1]; exact (alloc_below w o).frozen (p := ⟨g, i * 2 + 1, none⟩) hgw
  clear hm hst hce hfz hs
  go_enter Tryz.func53, Tryz.ntmps53
  go_wp2
  refine bodyPost_ret (v := .slice (some ⟨g, 0, none⟩) rs.length cap) (by simp [results, Tryz.results53, go_sem]) rfl ?_
  unfold DoOut
  rw [List.length_set]
  refine ⟨_, cap, rfl, ?_, ?_⟩
  · first
      | exact (MT.out _).1
      | exact MDrew (MT.out _).1
  · first
      | exact (MT.out _).2
      | exact (MT.out _).2.drew

set_option maxRecDepth 100000 in
set_option maxHeartbeats 4000000 in
theorem l12Do_kept (v : Value) (rs : List R) (i : Nat) (x : R) (au : Option Addr) (nu cu lo : Nat) (w : World) (hm : Made w lo v rs) (hn : rs.length ≤ 6) (hx : rs[i]? = some x) (hs : x.2 = 2) :
    Calls Tryz.prog 53 #[v, .agg #[.int .i64 7, .int .i64 ((i : Int) + 1), .slice au nu cu]] w fun e w' => DoOut w w' e lo (rs.set i (x.1, 4)) := by
  have hil := len_lt hx
  have hz : rs ≠ [] := fun e => by rw [e] at hil; simp at hil
  obtain ⟨g, cap, rfl, hce, hfz, hgw, hst⟩ := hm.shape hz
  have c1 := hst i x hx
  rw [hs] at c1
  have f1 := hfz (i * 2 + 1)
  have hlw : lo ≤ w.heap.size := by
    obtain ⟨ps, hps, row, _, _⟩ := hm
    have := row.lt g rfl
    omega
  have MT : Hid (∀ o, Made ((w.setCell ⟨g, i * 2 + 1, none⟩ (.int .i64 4)).alloc o) lo (.slice (some ⟨g, 0, none⟩) rs.length cap) (rs.set i (x.1, 4)) ∧ Below lo w ((w.setCell ⟨g, i * 2 + 1, none⟩ (.int .i64 4)).alloc o)) := fun o => by
    have h := hm.turn 4 rfl hx
    exact ⟨h.1.below (alloc_below _ o) (Nat.le_refl _), h.2.alloc (by simpa using hlw) o⟩
  have c1o : ∀ o, (w.alloc o).cell? ⟨g, i * 2 + 1, none⟩ = some (.int .i64 2) := fun o => cellAlloc c1 o
  have f1o : ∀ o, (w.alloc o).frozen? ⟨g, i * 2 + 1, none⟩ = false := fun o => by
    rw [← f1]; exact (alloc_below w o).frozen (p := ⟨g, i * 2 + 1, none⟩) hgw
  clear hm hst hce hfz hs
  go_enter Tryz.func53, Tryz.ntmps53
  go_wp2
  go_region
  go_wp2
  refine bodyPost_ret (v := .slice (some ⟨g, 0, none⟩) rs.length cap) (by simp [results, Tryz.results53, go_sem]) rfl ?_
  unfold DoOut
  rw [List.length_set]
  refine ⟨_, cap, rfl, ?_, ?_⟩
  · first
      | exact (MT.out _).1
      | exact MDrew (MT.out _).1
  · first
      | exact (MT.out _).2
      | exact (MT.out _).2.drew

set_option maxRecDepth 100000 in
set_option maxHeartbeats 4000000 in
theorem l12Do_left (v : Value) (rs : List R) (i : Nat) (x : R) (au : Option Addr) (nu cu lo : Nat) (w : World) (hm : Made w lo v rs) (hn : rs.length ≤ 6) (hx : rs[i]? = some x) (hs : x.2 = 3) :
    Calls Tryz.prog 53 #[v, .agg #[.int .i64 7, .int .i64 ((i : Int) + 1), .slice au nu cu]] w fun e w' => DoOut w w' e lo (rs.set i (x.1, 5)) := by
  have hil := len_lt hx
  have hz : rs ≠ [] := fun e => by rw [e] at hil; simp at hil
  obtain ⟨g, cap, rfl, hce, hfz, hgw, hst⟩ := hm.shape hz
  have c1 := hst i x hx
  rw [hs] at c1
  have f1 := hfz (i * 2 + 1)
  have hlw : lo ≤ w.heap.size := by
    obtain ⟨ps, hps, row, _, _⟩ := hm
    have := row.lt g rfl
    omega
  have MT : Hid (∀ o, Made ((w.setCell ⟨g, i * 2 + 1, none⟩ (.int .i64 5)).alloc o) lo (.slice (some ⟨g, 0, none⟩) rs.length cap) (rs.set i (x.1, 5)) ∧ Below lo w ((w.setCell ⟨g, i * 2 + 1, none⟩ (.int .i64 5)).alloc o)) := fun o => by
    have h := hm.turn 5 rfl hx
    exact ⟨h.1.below (alloc_below _ o) (Nat.le_refl _), h.2.alloc (by simpa using hlw) o⟩
  have c1o : ∀ o, (w.alloc o).cell? ⟨g, i * 2 + 1, none⟩ = some (.int .i64 3) := fun o => cellAlloc c1 o
  have f1o : ∀ o, (w.alloc o).frozen? ⟨g, i * 2 + 1, none⟩ = false := fun o => by
    rw [← f1]; exact (alloc_below w o).frozen (p := ⟨g, i * 2 + 1, none⟩) hgw
  clear hm hst hce hfz hs
  go_enter Tryz.func53, Tryz.ntmps53
  go_wp2
  go_region
  go_wp2
  refine bodyPost_ret (v := .slice (some ⟨g, 0, none⟩) rs.length cap) (by simp [results, Tryz.results53, go_sem]) rfl ?_
  unfold DoOut
  rw [List.length_set]
  refine ⟨_, cap, rfl, ?_, ?_⟩
  · first
      | exact (MT.out _).1
      | exact MDrew (MT.out _).1
  · first
      | exact (MT.out _).2
      | exact (MT.out _).2.drew

/-- l12Do of whatever may come. -/
theorem l12Do_any (v : Value) (rs : List R) (r : Rc) (u : Value) (lo : Nat) (w : World) (hm : Made w lo v rs) (hf : Fit rs) (hlo : lo ≤ w.heap.size) (hu : Ints w u r.2.2) (h1 : rOk r = true) (h2 : mayL rs r = true) :
    Calls Tryz.prog 53 #[v, .agg #[.int .i64 r.1, .int .i64 r.2.1, u]] w fun e w' => DoOut w w' e lo (doL rs r) := by
  obtain ⟨k, t, zs⟩ := r
  obtain ⟨ht1, ht6⟩ := rOk_trip h1
  dsimp only at ht1 ht6 hu
  by_cases h4 : k = 4
  · subst h4
    have h3 := manyOk_three (rOk_begin h1 rfl)
    rw [doL_begin rfl]
    exact l12Do_begin v rs t u zs lo w hm hf.1 hlo hu h3
  obtain ⟨i, hi⟩ : ∃ i : Nat, t = (i : Int) + 1 := ⟨(t - 1).toNat, by omega⟩
  subst hi
  have e : ((i : Int) + 1 - 1).toNat = i := by omega
  obtain ⟨x, hx⟩ := mayL_at h2 h4
  dsimp only at hx
  rw [e] at hx
  rw [mayL_at' h4 (by rw [e]; exact hx)] at h2
  simp only [decide_eq_true_eq] at h2
  rw [doL_at h4 hx]
  obtain ⟨au, cu, rfl⟩ := hu.shape
  by_cases h5 : k = 5 ∧ x.2 = 1
  · obtain ⟨rfl, hs⟩ := h5
    rw [show nextS x.2 5 = 2 by rw [hs]; rfl]
    exact l12Do_yes v rs i x au _ cu lo w hm hf.1 hx hs
  by_cases h6 : k = 6 ∧ x.2 = 1
  · obtain ⟨rfl, hs⟩ := h6
    rw [show nextS x.2 6 = 3 by rw [hs]; rfl]
    exact l12Do_no v rs i x au _ cu lo w hm hf.1 hx hs
  by_cases h7 : k = 7 ∧ x.2 = 2
  · obtain ⟨rfl, hs⟩ := h7
    rw [show nextS x.2 7 = 4 by rw [hs]; rfl]
    exact l12Do_kept v rs i x au _ cu lo w hm hf.1 hx hs
  by_cases h8 : k = 7 ∧ x.2 = 3
  · obtain ⟨rfl, hs⟩ := h8
    rw [show nextS x.2 7 = 5 by rw [hs]; rfl]
    exact l12Do_left v rs i x au _ cu lo w hm hf.1 hx hs
  refine absurd ?_ h2
  unfold nextS
  rw [if_neg h5, if_neg h6, if_neg h7, if_neg h8]

end Go.Proofs.YtgknnigjlnfplaaGreatDoor.T

namespace Go.Proofs.YtgknnigjlnfplaaGreatDoor.T
open Go.RowKit

theorem Made.lit (w : World) (lo : Nat) (h : lo ≤ w.heap.size) : Made (w.alloc (.cells #[] 91)) lo (.slice (some ⟨w.heap.size, 0, Option.none⟩) 0 0) [] :=
  ⟨[], rfl, ownsRow_base (lit0 w _ _) h, fun k hk => by simp [Value.ownBlock] at hk; simp; omega, Inner.nil _ _ _ (Nat.le_refl _)⟩

set_option maxHeartbeats 4000000 in
theorem l12Of_any (v : Value) (qs : List Rc) (w : World) (hv : _root_.Go.Proofs.YtgknnigjlnfplaaGreatDoor.Recs w v qs) (hl : _root_.Go.Proofs.YtgknnigjlnfplaaGreatDoor.tot qs ≤ 1048576) :
    Calls Tryz.prog 30 #[v] w fun e w' => TrOut w w' e (ofO qs) (runT qs).isSome := by
  have hlen := _root_.Go.Proofs.YtgknnigjlnfplaaGreatDoor.tot_len qs
  have HM : Hid (∀ r ∈ qs, r.2.2.length ≤ 1048576) := fun r hr => Nat.le_trans (_root_.Go.Proofs.YtgknnigjlnfplaaGreatDoor.tot_mem qs r hr) hl
  have HV : Hid (∀ W, Below w.heap.size w W → _root_.Go.Proofs.YtgknnigjlnfplaaGreatDoor.Recs W v qs) := fun W h => hv.later h (Nat.le_refl _)
  obtain ⟨av, cv, hvs⟩ := hv.shape
  subst hvs
  clear hv
  obtain ⟨w0, hw0⟩ : ∃ W, Hid (W = w.alloc (.cells #[] 91)) := ⟨_, rfl⟩
  have B0 : Hid (Below w.heap.size w w0) := by show Below _ _ _; rw [hw0.out]; exact alloc_below _ _
  have M0 : Hid (Made w0 w.heap.size (.slice (some ⟨w.heap.size, 0, none⟩) 0 0) []) := by show Made _ _ _ _; rw [hw0.out]; exact Made.lit w _ (Nat.le_refl _)
  obtain ⟨OO, hOO⟩ : ∃ x, ofO qs = x := ⟨_, rfl⟩
  obtain ⟨BB, hBB⟩ : ∃ x, (runT qs).isSome = x := ⟨_, rfl⟩
  rw [hOO, hBB]
  have HOO := hide_it hOO
  have HBB := hide_it hBB
  clear hOO hBB
  go_enter Tryz.func30, Tryz.ntmps30
  go_wp2
  rw [← hw0.out]
  go_loopw [4, 5] (fun vo i wr => ∃ (k : Nat) (rs : List R) (ao : Option Addr) (cp : Nat), k ≤ qs.length ∧ i = .int .i64 k ∧ vo = .slice ao rs.length cp ∧ Hid (runT (qs.take k) = some rs) ∧ Hid (Made wr w.heap.size (.slice ao rs.length cp) rs) ∧ Hid (Below w.heap.size w wr)) (fun _ i _ => qs.length - (intOf i).toNat)
  case atStart => exact ⟨0, [], _, _, Nat.zero_le _, rfl, rfl, rfl, M0, B0⟩
  case round =>
    obtain ⟨k, rs, ao, cp, hk, rfl, rfl, HR, HMd, HB⟩ := hrel
    have hfit := runT_fit HR.out
    have hn6 : rs.length ≤ 6 := hfit.1
    have HF := hide_it hfit
    have hwr := HB.out.size
    clear hfit
    by_cases hlt : k < qs.length
    · obtain ⟨q, hq⟩ : ∃ q, Hid (qs[k]? = some q) := ⟨qs[k], by show _ = _; simp [hlt]⟩
      have hrl : q.2.2.length ≤ 1048576 := HM.out q (List.mem_of_getElem? hq.out)
      rcases HV.out w (Below.refl _ _) with ⟨h0, _⟩ | ⟨b, off, cap, hvv, _, hcl⟩
      · rw [h0] at hlt; simp at hlt
      simp only [Value.slice.injEq] at hvv
      obtain ⟨rfl, -, rfl⟩ := hvv
      obtain ⟨x, d0, d1, d2, hI⟩ := hcl k q hq.out
      have hbw : b < w.heap.size := World.block_lt_of_cell? _ _ d0
      obtain ⟨ax, cx, hxs⟩ := hI.shape
      subst hxs
      have HI : Hid (∀ W, Below w.heap.size w W → Ints W (.slice ax q.2.2.length cx) q.2.2) := fun W h => hI.later h (Nat.le_refl _)
      have HCs : Hid (∀ W, Below w.heap.size w W → W.cell? ⟨b, off + k * 3, none⟩ = some (.int .i64 q.1) ∧ W.cell? ⟨b, off + k * 3 + 1, none⟩ = some (.int .i64 q.2.1) ∧ W.cell? ⟨b, off + k * 3 + 2, none⟩ = some (.slice ax q.2.2.length cx)) := fun W h =>
        ⟨cellBelow d0 h hbw, cellBelow d1 h hbw, cellBelow d2 h hbw⟩
      obtain ⟨c0, c1, c2⟩ := HCs.out wr HB.out
      have hli : (k : Int) < (qs.length : Int) := by omega
      have S0 : Calls Tryz.prog 51 #[.agg #[.int .i64 q.1, .int .i64 q.2.1, .slice ax q.2.2.length cx]] wr fun e w' => e = .returned (.bool (rOk q)) ∧ Below wr.heap.size wr w' := specOk_any q.1 q.2.1 _ q.2.2 wr (HI.out _ HB.out) hrl
      clear hI hcl d0 d1 d2
      cases hok : rOk q
      · rw [hok] at S0
        have HS := hide_it S0
        have HN : Hid (runT qs = none) := runT_bad hq.out HR.out (by rw [hok]; rfl)
        have HO1 : Hid (OO = []) := by show _ = _; rw [← HOO.out]; unfold ofO; rw [HN.out]; rfl
        have HB1 : Hid (BB = false) := by show _ = _; rw [← HBB.out, HN.out]; rfl
        clear S0 hok
        go_wp2_with fail
        refine HS.out.mono ?_
        rintro e w1 ⟨rfl, hb1⟩
        have B1 := hide_it (HB.out.trans (hb1.mono hwr))
        have hz1 := B1.out.size
        clear hb1
        go_wp2
        refine bodyPost_ret (v := .tuple #[.slice (some ⟨w1.heap.size, 0, none⟩) 0 0, .bool false]) (by simp [results, Tryz.results30, go_sem]) rfl ?_
        rw [HO1.out, HB1.out]
        exact ⟨_, 0, rfl, Made.lit w1 _ hz1, B1.out.alloc hz1 _⟩
      rw [hok] at S0
      have HS := hide_it S0
      have HOK := hide_it hok
      obtain ⟨ht1, ht6⟩ := rOk_trip hok
      have HT1 := hide_it ht1
      have HT6 := hide_it ht6
      clear S0 hok ht1 ht6
      go_wp2_with fail
      refine HS.out.mono ?_
      rintro e w1 ⟨rfl, hb1⟩
      have B1 := hide_it (HB.out.trans (hb1.mono hwr))
      have M1 := hide_it (HMd.out.below hb1 (Nat.le_refl _))
      have hz1 := B1.out.size
      clear hb1 c0 c1 c2
      obtain ⟨c0, c1, c2⟩ := HCs.out w1 B1.out
      have HQ : Hid (Calls Tryz.prog 52 #[.slice ao rs.length cp, .agg #[.int .i64 q.1, .int .i64 q.2.1, .slice ax q.2.2.length cx]] w1 fun e w' => e = .returned (.bool (mayL rs (q.1, q.2.1, q.2.2))) ∧ Below w1.heap.size w1 w') := l12May_any _ rs q.1 q.2.1 _ q.2.2 w1 M1.out.recs HF.out.tot ⟨_, _, _, rfl⟩ HT1.out HT6.out
      have eq0 : (q.1, q.2.1, q.2.2) = q := rfl
      rw [eq0] at HQ
      cases hmay : mayL rs q
      · rw [hmay] at HQ
        have HN : Hid (runT qs = none) := runT_bad hq.out HR.out (by rw [hmay, HOK.out]; rfl)
        have HO1 : Hid (OO = []) := by show _ = _; rw [← HOO.out]; unfold ofO; rw [HN.out]; rfl
        have HB1 : Hid (BB = false) := by show _ = _; rw [← HBB.out, HN.out]; rfl
        clear hmay eq0
        go_wp2_with fail
        refine HQ.out.mono ?_
        rintro e w2 ⟨rfl, hb2⟩
        have B2 := hide_it (B1.out.trans (hb2.mono hz1))
        have hz2 := B2.out.size
        clear hb2
        go_wp2
        refine bodyPost_ret (v := .tuple #[.slice (some ⟨w2.heap.size, 0, none⟩) 0 0, .bool false]) (by simp [results, Tryz.results30, go_sem]) rfl ?_
        rw [HO1.out, HB1.out]
        exact ⟨_, 0, rfl, Made.lit w2 _ hz2, B2.out.alloc hz2 _⟩
      · rw [hmay] at HQ
        have HMY := hide_it hmay
        have HR3 : Hid (runT (qs.take (k + 1)) = some (doL rs q)) := runT_good hq.out HR.out (by rw [hmay, HOK.out]; rfl)
        clear hmay eq0
        go_wp2_with fail
        refine HQ.out.mono ?_
        rintro e w2 ⟨rfl, hb2⟩
        have B2 := hide_it (B1.out.trans (hb2.mono hz1))
        have M2 := hide_it (M1.out.below hb2 (Nat.le_refl _))
        have hz2 := B2.out.size
        clear hb2 c0 c1 c2
        obtain ⟨c0, c1, c2⟩ := HCs.out w2 B2.out
        go_wp2_with fail
        refine (l12Do_any _ rs q _ w.heap.size w2 M2.out HF.out hz2 (HI.out _ B2.out) HOK.out HMY.out).mono ?_
        rintro e w3 ⟨a3, c3, rfl, hm3, hb3⟩
        have M3 := hide_it hm3
        have B3 := hide_it (B2.out.trans hb3)
        clear hm3 hb3
        go_wp2
        go_roundw
        case rel => exact ⟨k + 1, doL rs q, a3, c3, by omega, by go_num, rfl, HR3, M3, B3⟩
        case measure => simp [intOf]; omega
    · have HRq : Hid (runT qs = some rs) := by
        show _ = _
        have hke : k = qs.length := by omega
        have := HR.out
        rw [hke, List.take_length] at this
        exact this
      have HO1 : Hid (OO = rs) := by show _ = _; rw [← HOO.out]; unfold ofO; rw [HRq.out]; rfl
      have HB1 : Hid (BB = true) := by show _ = _; rw [← HBB.out, HRq.out]; rfl
      go_wp2
      refine bodyPost_ret (v := .tuple #[.slice ao rs.length cp, .bool true]) (by simp [results, Tryz.results30, go_sem]) rfl ?_
      rw [HO1.out, HB1.out]
      exact ⟨ao, cp, rfl, HMd.out, HB.out⟩

end Go.Proofs.YtgknnigjlnfplaaGreatDoor.T

namespace Go.Proofs.YtgknnigjlnfplaaGreatDoor

/-- An operation is taken first, its slot written out. -/
theorem takeD {P : Program} {md : Region.Mode} {ops : Array Oper} {Q : Exit → Act → World → Prop} {S : World → Prop} {i : Nat} {oi : Oper} {v : Value} {fuel : Nat} {listed : Array Bool} {a : Act} {w : World} (d : Option Nat) (hi : ops[i]? = some oi) (hd : oi.dst = d)
    (hs : Region.noSelect ops = true) (hf : Region.free md ops listed i = true) (hr : (Region.ready md ops listed).contains i = true)
    (hQ : ∀ c a w, Q (.panic c) (a.put d v) w → Q (.panic c) a w) (hw : Region.wanted oi (yielded ops a.tmps) = true) (hS : S w) (hy : ∀ w, S w → (execOp a.eval oi).run P w = .ok (.value v) w)
    (h : wpAnyH P md ops Q S fuel (listed.setIfInBounds i true) (a.put d v) w) : wpAnyH P md ops Q S (fuel + 1) listed a w := by
  subst hd
  exact wpAnyH_take hi hs hf hr hQ (Or.inl ⟨hw, hy⟩) hS h

/-- An operation that its guard passes over is taken first, its slot written out. -/
theorem skipD {P : Program} {md : Region.Mode} {ops : Array Oper} {Q : Exit → Act → World → Prop} {S : World → Prop} {i : Nat} {oi : Oper} {fuel : Nat} {listed : Array Bool} {a : Act} {w : World} (d : Option Nat) (hi : ops[i]? = some oi) (hd : oi.dst = d)
    (hs : Region.noSelect ops = true) (hf : Region.free md ops listed i = true) (hr : (Region.ready md ops listed).contains i = true)
    (hQ : ∀ c a w, Q (.panic c) (a.put d undef) w → Q (.panic c) a w) (hw : Region.wanted oi (yielded ops a.tmps) = false) (hS : S w)
    (h : wpAnyH P md ops Q S fuel (listed.setIfInBounds i true) (a.put d undef) w) : wpAnyH P md ops Q S (fuel + 1) listed a w := by
  subst hd
  exact wpAnyH_take hi hs hf hr hQ (Or.inr ⟨hw, rfl⟩) hS h

/-- What holds behind every operation may be weakened. -/
theorem heldMono {P : Program} {md : Region.Mode} {ops : Array Oper} {Q : Exit → Act → World → Prop} {S S2 : World → Prop} (hS : ∀ w, S2 w → S w) :
    ∀ (fuel : Nat) (listed : Array Bool) (a : Act) (w : World), wpAnyH P md ops Q S2 fuel listed a w → wpAnyH P md ops Q S fuel listed a w
  | 0, _, _, _, h => h
  | fuel + 1, _, _, _, h => ⟨h.1, fun i hi => wpOp_mono (fun a' w' h' => ⟨hS _ h'.1, heldMono hS fuel _ a' w' h'.2⟩) (h.2 i hi)⟩

end Go.Proofs.YtgknnigjlnfplaaGreatDoor
