/- The contract of what makes a list of the program's chain. For chains of at most six trips. -/
import Derived.Test.YtilbjgidmfdnkaaTTake
import Derived.Deep.RegionHeldLaw
namespace Go.Proofs.Ytilbjgidmfdnkaa.T
open Go.RowKit

/-- One more trip appended to a list of the call's own, as worlds and rows see it. -/
theorem append_step {w3 w4 : World} {W0 hi : Nat} {v v' : Value} {ps : List (R × Value)} {r : R} {u : Value}
    (hrow : w3.ownsRow W0 28 2 v ps.length (flat ps)) (hin : Inner w3 W0 hi ps) (hhi : hi ≤ w3.heap.size)
    (ho : w3.ownsRow W0 3 1 u r.1.length (r.1.map (Value.int .i64))) (hu : ∀ k, u.ownBlock = some k → hi ≤ k ∧ k < w3.heap.size)
    (hown : w4.ownsRow W0 28 2 v' (ps.length + 1) (flat ps ++ [u, .int .i64 r.2])) (hg : w3.grownBy w4 v.ownBlock) :
    w4.ownsRow W0 28 2 v' (ps ++ [(r, u)]).length (flat (ps ++ [(r, u)])) ∧ Inner w4 W0 w4.heap.size (ps ++ [(r, u)]) := by
  refine ⟨?_, ?_⟩
  · rw [flat_append, List.length_append]; exact hown
  · have in3 : Inner w3 W0 w3.heap.size (ps ++ [(r, u)]) := hin.snoc hhi (Nat.le_refl _) ho hu
    have h := in3.kept hg (fun p hp => by
      rcases hrow.2 with ⟨hv, _⟩ | ⟨g, cap, cur, hv, _, hh, _⟩
      · by_cases e : p.2.ownBlock = none
        · exact Or.inl e
        · exact Or.inr (by rw [hv]; simpa [Value.ownBlock] using e)
      · refine Or.inr ?_
        rw [hv]
        exact in3.apart hh (by decide) p hp)
    exact h.mono hg.size (Nat.le_refl _)

theorem news2 (w : World) (u : Value) (k : Int) (ty : TypeId) : ∀ (j : Nat) (x : Value), [u, Value.int .i64 k][j]? = some x → (w.alloc (.cells #[u, .int .i64 k] ty)).cell? ((⟨w.heap.size, 0, none⟩ : Addr).add j) = some x := by
  intro j x hj
  match j, hj with
  | 0, hj => simp at hj; subst hj; simp [Addr.add]
  | 1, hj => simp at hj; subst hj; simp [Addr.add]
theorem one2 (k : Int) (ao : Option Addr) {n c : Nat} : ∀ x ∈ [Value.slice ao n c, .int .i64 k], x.oneCell' = true := by
  intro x hx; simp at hx; rcases hx with rfl | rfl <;> rfl

theorem addBelow {W w5 : World} {lo n cap3 : Nat} {a3 : Option Addr} {xs : List Value} (hr : W.ownsRow lo 28 2 (.slice a3 n cap3) n xs) (hg : W.grownBy w5 (Value.slice a3 n cap3).ownBlock) (hlo : lo ≤ W.heap.size) : Below lo W w5 :=
  (Below.refl _ _).grown hg hlo (fun k hk => (hr.lt k hk).1)
theorem cellBelow {W w5 : World} {lo b o : Nat} {x : Value} (h : W.cell? ⟨b, o, none⟩ = some x) (hb : Below lo W w5) (hlo : b < lo) : w5.cell? ⟨b, o, none⟩ = some x := by
  rw [hb.cell (p := ⟨b, o, none⟩) hlo]; exact h

end Go.Proofs.Ytilbjgidmfdnkaa.T
