/- What came in, as the walks want it: a list of trips that can be read is a list of plain data in memory. No conditions. -/
import Derived.Test.YtmbgnmnlkbeaoaaDoorRows
import Derived.Test.YtmbgnmnlkbeaoaaDoorTOwn
import Derived.ProofKit
import Derived.Lib.SmallJoins
namespace Go.Proofs.YtmbgnmnlkbeaoaaDoor.T
open Go.ChangeShapes Go.WideShapes Go.ChangeAt Go.WideMaps Go.WideElems Go.RowKit Go.Joins

theorem cellsTripL : Tryd.prog.cellsOf 50 = 2 := by kernel_rfl
theorem cellsInts : Tryd.prog.cellsOf 23 = 1 := by kernel_rfl
theorem cellsInt : Tryd.prog.cellsOf 3 = 1 := by kernel_rfl

section
variable {H : Type} {enc : TypeId × Value → H} {W : World}

theorem ints_of_trod {fuel : Nat} {c : Value} {y : DataW H × List MemPlace} (h : DataW.trod enc Tryd.prog W 0 (fun _ => true) true fuel 23 [c] = some y) :
    ∃ zs : List Int, Ints W c zs ∧ (zs.length : Int) ≤ 9223372036854775807 := by
  rcases open_ints Tryd.underlying23 Tryd.underlying3 cellsInt h with ⟨hcs, hx⟩ | ⟨a, len, cap, zs, hcs, _, hl, hm, hz, hx, hcell, hwz⟩
  · simp at hcs
    subst hcs
    exact ⟨[], Or.inl ⟨rfl, _, _, rfl, fun _ => rfl⟩, by simp⟩
  · simp at hcs
    subst hcs
    simp only [if_pos] at hz
    have hlen : (zs.take len).length = len := by simp; omega
    refine ⟨zs.take len, ?_, by unfold maxLen at hm; omega⟩
    by_cases h0 : len = 0
    · subst h0
      exact Or.inl ⟨by simp, _, _, rfl, fun h => by cases h⟩
    · obtain ⟨b, off, rfl, hc⟩ := ints_at hcell (by omega)
      refine Or.inr ⟨b, off, cap, by rw [hlen], by intro e; rw [e] at hlen; simp at hlen; omega, fun j hj => ?_⟩
      rw [hc j (by omega)]
      rw [hlen] at hj
      simp [List.getD_eq_getElem?_getD, hj]

set_option maxRecDepth 100000 in
theorem trip_of_trod {fuel : Nat} {b o : Nat} {cs : List Value} {y : DataW H × List MemPlace} (hc : W.cells? 0 ⟨b, o, none⟩ 2 = some cs) (h : DataW.trod enc Tryd.prog W 0 (fun _ => true) true fuel 50 cs = some y) :
    ∃ (r : R) (u : Value), RecCells W b o r u ∧ (r.1.length : Int) ≤ 9223372036854775807 := by
  obtain ⟨y0, y1, n, _, hl, h0, h1⟩ := trod_struct2 Tryd.underlying50 h
  rw [cellsTripL] at hl
  match cs, hl with
  | [c0, c1], _ =>
    simp only [cellsInt, cellsInts] at h0 h1
    obtain ⟨t, e1, _, _⟩ := DataW.trod_int Tryd.underlying3 h1
    simp at e1
    subst e1
    obtain ⟨zs, hI, hz⟩ := ints_of_trod (c := c0) (y := y0) (by simpa using h0)
    obtain ⟨_, _, hcs⟩ := World.cells?_some hc
    refine ⟨(zs, t), c0, ⟨?_, ?_, hI⟩, hz⟩
    · simpa [Addr.add] using hcs 0 (by omega)
    · simpa [Addr.add] using hcs 1 (by omega)

theorem trips_of_trod {fuel : Nat} {c : Value} {y : DataW H × List MemPlace} (h : DataW.trod enc Tryd.prog W 0 (fun _ => true) true fuel 22 [c] = some y) :
    ∃ rs : List R, Recs W c rs ∧ (rs.length : Int) ≤ 9223372036854775807 ∧ ∀ r ∈ rs, (r.1.length : Int) ≤ 9223372036854775807 := by
  rcases Deep.open_slice Tryd.underlying22 h with ⟨hcs, hx⟩ | ⟨a, len, cap, m, n, D, Pq, hcs, _, hl, hm, hmm, hx, hel⟩
  · simp at hcs
    subst hcs
    exact ⟨[], Or.inl ⟨rfl, _, _, rfl⟩, by simp, fun r hr => by simp at hr⟩
  · simp at hcs
    subst hcs
    simp only [if_pos] at hmm
    rw [cellsTripL] at hel
    by_cases h0 : len = 0
    · subst h0
      exact ⟨[], Or.inl ⟨rfl, _, _, rfl⟩, by simp, fun r hr => by simp at hr⟩
    · obtain ⟨b, off, spot⟩ := a
      have hspot : spot = none := by
        obtain ⟨cs', hc, _⟩ := hel 0 (by omega)
        obtain ⟨_, hlen', hcs⟩ := World.cells?_some hc
        have h1 := hcs 0 (by omega)
        rw [List.getElem?_eq_getElem (by omega)] at h1
        simpa [Addr.add] using World.cell?_spot h1
      subst hspot
      have each : ∀ i : Nat, ∃ p : R × Value, i < len → RecCells W b (off + i * 2) p.1 p.2 ∧ (p.1.1.length : Int) ≤ 9223372036854775807 := fun i => by
        by_cases hi : i < len
        · obtain ⟨cs', hc, ht⟩ := hel i (by omega)
          rw [add_plain] at hc
          obtain ⟨r, u, h1, h2⟩ := trip_of_trod hc ht
          exact ⟨(r, u), fun _ => ⟨h1, h2⟩⟩
        · exact ⟨(([], 0), .slice none 0 0), fun h => absurd h hi⟩
      obtain ⟨F, hF⟩ := Classical.axiomOfChoice each
      have hlen : ((List.range len).map fun i => (F i).1).length = len := by simp
      refine ⟨(List.range len).map fun i => (F i).1, Or.inr ⟨b, off, cap, by rw [hlen], by intro e; rw [e] at hlen; simp at hlen; omega, fun i r hr => ?_⟩, by rw [hlen]; unfold maxLen at hm; omega, fun r hr => ?_⟩
      · have hi : i < len := by
          by_cases e : i < len
          · exact e
          · rw [List.getElem?_eq_none (by rw [hlen]; omega)] at hr; cases hr
        simp [hi] at hr
        subst hr
        exact ⟨(F i).2, (hF i hi).1⟩
      · simp at hr
        obtain ⟨i, hi, rfl⟩ := hr
        exact (hF i hi).2

end
end Go.Proofs.YtmbgnmnlkbeaoaaDoor.T
