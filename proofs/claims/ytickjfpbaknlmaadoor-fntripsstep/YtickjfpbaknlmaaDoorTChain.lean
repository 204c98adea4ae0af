/- The program's chain of trips as it lies in memory, and what a store makes of it. Plain facts of worlds; nothing is walked here. -/
import Derived.Test.YtickjfpbaknlmaaDoorTPure
namespace Go.Proofs.YtickjfpbaknlmaaDoor.T
open Go.RowKit

/-- A node: where it lies, what is wanted, its state. -/
abbrev Nd := Nat × (Int × Int × Int) × Int
/-- Its trip. -/
def ndT (n : Nd) : R := ([n.2.1.1, n.2.1.2.1, n.2.1.2.2], n.2.2)
/-- Its cells. -/
def ndV (n : Nd) (nx : Value) : Array Value := #[.int .i64 n.2.1.1, .int .i64 n.2.1.2.1, .int .i64 n.2.1.2.2, .int .i64 n.2.2, nx]
abbrev ptr (b : Nat) : Value := .pointer (some ⟨b, 0, none⟩)
/-- A pointer to the node at a place; nil, if there is none. -/
def at_ (ns : List Nd) (i : Nat) : Value := match ns[i]? with
  | some n => ptr n.1
  | none => .pointer none

theorem at_some {ns : List Nd} {i : Nat} {n : Nd} (h : ns[i]? = some n) : at_ ns i = ptr n.1 := by unfold at_; rw [h]
theorem at_none {ns : List Nd} {i : Nat} (h : ns.length ≤ i) : at_ ns i = .pointer none := by unfold at_; rw [List.getElem?_eq_none h]
theorem at_shape (ns : List Nd) (i : Nat) : ∃ a, at_ ns i = .pointer a := by
  unfold at_
  split
  · exact ⟨_, rfl⟩
  · exact ⟨_, rfl⟩
theorem at_snoc_lt {ns : List Nd} {x : Nd} {i : Nat} (h : i < ns.length) : at_ (ns ++ [x]) i = at_ ns i := by unfold at_; rw [List.getElem?_append_left h]
theorem at_snoc_eq (ns : List Nd) (x : Nd) : at_ (ns ++ [x]) ns.length = ptr x.1 := at_some (by simp)
theorem at_set (ns : List Nd) (k : Nat) (m : Nd) (s : Int) (hk : ns[k]? = some m) (i : Nat) : at_ (ns.set k (m.1, m.2.1, s)) i = at_ ns i := by
  unfold at_
  rw [List.getElem?_set]
  by_cases h : k = i
  · subst h
    have hl : k < ns.length := by
      by_cases e : k < ns.length
      · exact e
      · rw [List.getElem?_eq_none (by omega)] at hk; cases hk
    rw [if_pos rfl, if_pos hl, hk]
  · rw [if_neg h]

/-- The nodes as they lie, one behind the other, from lo on. -/
structure Nodes (w : World) (lo : Nat) (ns : List Nd) : Prop where
  node : ∀ (i : Nat) (n : Nd), ns[i]? = some n → Blk w n.1 (ndV n (at_ ns (i + 1))) 69
  low : ∀ n ∈ ns, lo ≤ n.1
  inj : ∀ (i j : Nat) (a b : Nd), ns[i]? = some a → ns[j]? = some b → a.1 = b.1 → i = j

/-- A chain: its three cells, and its nodes. -/
structure Chain (w : World) (c lo : Nat) (ns : List Nd) : Prop where
  head : Blk w c #[at_ ns 0, at_ ns (ns.length - 1), .int .i64 ns.length] 51
  nodes : Nodes w lo ns
  lowc : lo ≤ c

theorem Nodes.nil (w : World) (lo : Nat) : Nodes w lo [] := ⟨fun i n h => by simp at h, fun n h => by simp at h, fun i j a b h => by simp at h⟩
theorem Nodes.after {w w' : World} {lo : Nat} {ns : List Nd} (h : Nodes w lo ns) (hb : Below w.heap.size w w') : Nodes w' lo ns :=
  ⟨fun i n hn => (h.node i n hn).after hb, h.low, h.inj⟩
theorem Chain.after {w w' : World} {c lo : Nat} {ns : List Nd} (h : Chain w c lo ns) (hb : Below w.heap.size w w') : Chain w' c lo ns :=
  ⟨h.head.after hb, h.nodes.after hb, h.lowc⟩
theorem Chain.new (w : World) : Chain (w.alloc (.cells #[.pointer none, .pointer none, .int .i64 0] 51)) w.heap.size w.heap.size [] :=
  ⟨Blk.new w _ _, Nodes.nil _ _, Nat.le_refl _⟩
theorem len_lt {α : Type} {xs : List α} {i : Nat} {x : α} (h : xs[i]? = some x) : i < xs.length := by
  by_cases e : i < xs.length
  · exact e
  · rw [List.getElem?_eq_none (by omega)] at h; cases h
theorem get_snoc {ns : List Nd} {x n : Nd} {i : Nat} (h : (ns ++ [x])[i]? = some n) : (i < ns.length ∧ ns[i]? = some n) ∨ (i = ns.length ∧ n = x) := by
  by_cases hi : i < ns.length
  · rw [List.getElem?_append_left hi] at h; exact Or.inl ⟨hi, h⟩
  · rw [List.getElem?_append_right (by omega)] at h
    have h0 : i - ns.length = 0 := by
      have := len_lt h
      simp at this; omega
    rw [h0] at h
    simp at h
    exact Or.inr ⟨by omega, h.symm⟩

/-- The first node of a chain. -/
theorem Chain.add0 {w w1 w' : World} {c lo : Nat} {x : Nd} (h : Chain w c lo []) (hx : x.1 = w.heap.size) (hb : Below w.heap.size w w1) (hn : Blk w1 x.1 (ndV x (.pointer none)) 69)
    (h' : w' = ((w1.setCell ⟨c, 0, none⟩ (ptr x.1)).setCell ⟨c, 1, none⟩ (ptr x.1)).setCell ⟨c, 2, none⟩ (.int .i64 1)) : Chain w' c lo [x] ∧ Below lo w w' := by
  have hc1 := h.head.after hb
  have hcx : x.1 ≠ c := hn.ne hc1 (by decide)
  have hlt := h.head.lt
  have hlo := h.lowc
  refine ⟨⟨?_, ⟨fun i n hi => ?_, fun n hi => ?_, fun i j a b hi hj _ => ?_⟩, hlo⟩, ?_⟩
  · rw [h']
    exact ((hc1.set_ 0 _).set_ 1 _).set_ 2 _
  · have hi0 := len_lt hi
    simp at hi0
    subst hi0
    simp at hi
    subst hi
    rw [h', at_none (by simp)]
    exact ((hn.other hcx _).other hcx _).other hcx _
  · simp at hi; subst hi; omega
  · have h1 := len_lt hi; have h2 := len_lt hj; simp at h1 h2; omega
  · rw [h']
    exact (((hb.mono (by omega)).setCell (by simpa using hlo) _).setCell (by simpa using hlo) _).setCell (by simpa using hlo) _

/-- One node more, behind the last one. -/
theorem Chain.add1 {w w1 w' : World} {c lo : Nat} {ns : List Nd} {x m : Nd} (h : Chain w c lo ns) (hm : ns[ns.length - 1]? = some m) (hx : x.1 = w.heap.size) (hb : Below w.heap.size w w1) (hn : Blk w1 x.1 (ndV x (.pointer none)) 69)
    (h' : w' = ((w1.setCell ⟨m.1, 4, none⟩ (ptr x.1)).setCell ⟨c, 1, none⟩ (ptr x.1)).setCell ⟨c, 2, none⟩ (.int .i64 ((ns.length : Int) + 1))) : Chain w' c lo (ns ++ [x]) ∧ Below lo w w' := by
  have hl := len_lt hm
  have hc1 := h.head.after hb
  have hm1 := (h.nodes.node _ m hm).after hb
  have hcx : x.1 ≠ c := hn.ne hc1 (by decide)
  have hcm : m.1 ≠ c := hm1.ne hc1 (by decide)
  have hlt := h.head.lt
  have hlo := h.lowc
  have hmlt := (h.nodes.node _ m hm).lt
  have hmlo := h.nodes.low m (List.mem_of_getElem? hm)
  have hmx : m.1 ≠ x.1 := by omega
  refine ⟨⟨?_, ⟨fun i n hi => ?_, fun n hi => ?_, fun i j a b hi hj hab => ?_⟩, hlo⟩, ?_⟩
  · rw [h']
    have h0 := ((hc1.other (a := ⟨m.1, 4, none⟩) (fun e => hcm e.symm) (ptr x.1)).set_ 1 (ptr x.1)).set_ 2 (.int .i64 ((ns.length : Int) + 1))
    rw [at_snoc_lt (by omega), show (ns ++ [x]).length - 1 = ns.length by simp, at_snoc_eq, show ((ns ++ [x]).length : Int) = (ns.length : Int) + 1 by simp]
    exact h0
  · rw [h']
    rcases get_snoc hi with ⟨hil, hi⟩ | ⟨rfl, rfl⟩
    · have hni := (h.nodes.node i n hi).after hb
      have hnc : n.1 ≠ c := hni.ne hc1 (by decide)
      by_cases hlast : i = ns.length - 1
      · subst hlast
        rw [hm] at hi
        simp at hi
        subst hi
        rw [show ns.length - 1 + 1 = ns.length by omega, at_snoc_eq]
        have h0 := hm1.set_ 4 (ptr x.1)
        exact (h0.other hcm _).other hcm _
      · rw [at_snoc_lt (by omega)]
        have hnm : n.1 ≠ m.1 := fun e => hlast (h.nodes.inj i _ n m hi hm e)
        exact ((hni.other hnm _).other hnc _).other hnc _
    · rw [at_none (by simp)]
      exact ((hn.other (fun e => hmx e.symm) _).other hcx _).other hcx _
  · rcases List.mem_append.1 hi with hi | hi
    · exact h.nodes.low n hi
    · simp at hi; subst hi; omega
  · rcases get_snoc hi with ⟨hil, hi'⟩ | ⟨ei, ea⟩
    · rcases get_snoc hj with ⟨hjl, hj'⟩ | ⟨ej, eb⟩
      · exact h.nodes.inj i j a b hi' hj' hab
      · have := (h.nodes.node i a hi').lt; subst eb; omega
    · rcases get_snoc hj with ⟨hjl, hj'⟩ | ⟨ej, eb⟩
      · have := (h.nodes.node j b hj').lt; subst ea; omega
      · omega
  · rw [h']
    exact (((hb.mono (by omega)).setCell (by simpa using hmlo) _).setCell (by simpa using hlo) _).setCell (by simpa using hlo) _

/-- Another state of one node. -/
theorem Chain.turn {w : World} {c lo : Nat} {ns : List Nd} {k : Nat} {m : Nd} (s : Int) (h : Chain w c lo ns) (hm : ns[k]? = some m) :
    Chain (w.setCell ⟨m.1, 3, none⟩ (.int .i64 s)) c lo (ns.set k (m.1, m.2.1, s)) ∧ Below lo w (w.setCell ⟨m.1, 3, none⟩ (.int .i64 s)) := by
  have hk := len_lt hm
  have hmb := h.nodes.node k m hm
  have hmc : m.1 ≠ c := hmb.ne h.head (by decide)
  have hmlo := h.nodes.low m (List.mem_of_getElem? hm)
  have same : ∀ (i : Nat) (n : Nd), (ns.set k (m.1, m.2.1, s))[i]? = some n → ∃ n', ns[i]? = some n' ∧ n'.1 = n.1 := by
    intro i n hn
    rw [List.getElem?_set] at hn
    by_cases e : k = i
    · subst e
      rw [if_pos rfl, if_pos hk] at hn
      simp at hn
      exact ⟨m, hm, by rw [← hn]⟩
    · rw [if_neg e] at hn; exact ⟨n, hn, rfl⟩
  refine ⟨⟨?_, ⟨fun i n hi => ?_, fun n hn => ?_, fun i j a b hi hj hab => ?_⟩, h.lowc⟩, ?_⟩
  · rw [at_set ns k m s hm, List.length_set, at_set ns k m s hm]
    exact h.head.other (fun e => hmc e.symm) _
  · rw [at_set ns k m s hm]
    rw [List.getElem?_set] at hi
    by_cases e : k = i
    · subst e
      rw [if_pos rfl, if_pos hk] at hi
      simp at hi
      subst hi
      exact hmb.set_ 3 _
    · rw [if_neg e] at hi
      exact (h.nodes.node i n hi).other (fun e' => e (h.nodes.inj k i m n hm hi e'.symm)) _
  · obtain ⟨i, hi, hn'⟩ := List.mem_iff_getElem.1 hn
    obtain ⟨n', h1, h2⟩ := same i n (by rw [List.getElem?_eq_getElem hi, hn'])
    rw [← h2]; exact h.nodes.low n' (List.mem_of_getElem? h1)
  · obtain ⟨a', ha1, ha2⟩ := same i a hi
    obtain ⟨b', hb1, hb2⟩ := same j b hj
    exact h.nodes.inj i j a' b' ha1 hb1 (by rw [ha2, hb2, hab])
  · exact (Below.refl _ _).setCell (by simpa using hmlo) _

theorem Nodes.cells {w : World} {lo : Nat} {ns : List Nd} (h : Nodes w lo ns) {i : Nat} {n : Nd} (hn : ns[i]? = some n) :
    w.cell? ⟨n.1, 0, none⟩ = some (.int .i64 n.2.1.1) ∧ w.cell? ⟨n.1, 1, none⟩ = some (.int .i64 n.2.1.2.1) ∧ w.cell? ⟨n.1, 2, none⟩ = some (.int .i64 n.2.1.2.2) ∧ w.cell? ⟨n.1, 3, none⟩ = some (.int .i64 n.2.2) ∧ w.cell? ⟨n.1, 4, none⟩ = some (at_ ns (i + 1)) :=
  (h.node i n hn).cells5

end Go.Proofs.YtickjfpbaknlmaaDoor.T
