/- What came in, as the walks want it: numbers, records and lists of records that can be read are lists of plain data in memory. No conditions. -/
import Derived.Test.YtmbgnmnlkbeaoaaDoorFrame
import Derived.Test.YtmbgnmnlkbeaoaaDoorOwn
namespace Go.Proofs.YtmbgnmnlkbeaoaaDoor
open Go.ChangeShapes Go.WideShapes Go.ChangeAt Go.WideMaps Go.WideElems Go.RowKit Go.Joins

theorem cellsRecL : Tryd.prog.cellsOf 25 = 3 := by kernel_rfl
theorem cellsInts : Tryd.prog.cellsOf 23 = 1 := by kernel_rfl

section
variable {H : Type} {enc : TypeId × Value → H} {W : World}

theorem ints_of_trod {fuel : Nat} {c : Value} {y : DataW H × List MemPlace} (h : DataW.trod enc Tryd.prog W 0 (fun _ => true) true fuel 23 [c] = some y) :
    ∃ zs : List Int, Ints W c zs ∧ (zs.length : Int) ≤ 9223372036854775807 := by
  rcases open_ints Tryd.underlying23 Tryd.underlying3 cellsInt h with ⟨hcs, hx⟩ | ⟨a, len, cap, zs, hcs, _, hl, hm, hz, hx, hcell, hwz⟩
  · simp at hcs
    subst hcs
    exact ⟨[], Or.inl ⟨rfl, _, _, rfl, fun _ => rfl⟩, by simp⟩
  · simp at hcs
    subst hcs
    simp only [if_pos] at hz
    have hlen : (zs.take len).length = len := by simp; omega
    refine ⟨zs.take len, ?_, by unfold maxLen at hm; omega⟩
    by_cases h0 : len = 0
    · subst h0
      exact Or.inl ⟨by simp, _, _, rfl, fun h => by cases h⟩
    · obtain ⟨b, off, rfl, hc⟩ := ints_at hcell (by omega)
      refine Or.inr ⟨b, off, cap, by rw [hlen], by intro e; rw [e] at hlen; simp at hlen; omega, fun j hj => ?_⟩
      rw [hc j (by omega)]
      rw [hlen] at hj
      simp [List.getD_eq_getElem?_getD, hj]

set_option maxRecDepth 100000 in
theorem rec_of_trod {fuel : Nat} {b o : Nat} {cs : List Value} {y : DataW H × List MemPlace} (hc : W.cells? 0 ⟨b, o, none⟩ 3 = some cs) (h : DataW.trod enc Tryd.prog W 0 (fun _ => true) true fuel 25 cs = some y) :
    ∃ (r : R) (u : Value), RecCells W b o r u ∧ (r.2.2.length : Int) ≤ 9223372036854775807 := by
  obtain ⟨y0, y1, y2, n, _, hl, h0, h1, h2⟩ := Deep.trod_struct3 Tryd.underlying25 h
  rw [cellsRecL] at hl
  match cs, hl with
  | [c0, c1, c2], _ =>
    simp only [cellsInt, cellsInts] at h0 h1 h2
    obtain ⟨k, e0, _, _⟩ := DataW.trod_int Tryd.underlying3 h0
    obtain ⟨t, e1, _, _⟩ := DataW.trod_int Tryd.underlying3 h1
    simp at e0 e1
    subst e0 e1
    obtain ⟨zs, hI, hz⟩ := ints_of_trod (c := c2) (y := y2) (by simpa using h2)
    obtain ⟨_, _, hcs⟩ := World.cells?_some hc
    refine ⟨(k, t, zs), c2, ⟨?_, ?_, ?_, hI⟩, hz⟩
    · simpa [Addr.add] using hcs 0 (by omega)
    · simpa [Addr.add] using hcs 1 (by omega)
    · simpa [Addr.add] using hcs 2 (by omega)

theorem recs_of_trod {fuel : Nat} {c : Value} {y : DataW H × List MemPlace} (h : DataW.trod enc Tryd.prog W 0 (fun _ => true) true fuel 40 [c] = some y) :
    ∃ rs : List R, Recs W c rs ∧ (rs.length : Int) ≤ 9223372036854775807 ∧ ∀ r ∈ rs, (r.2.2.length : Int) ≤ 9223372036854775807 := by
  rcases Deep.open_slice Tryd.underlying40 h with ⟨hcs, hx⟩ | ⟨a, len, cap, m, n, D, Pq, hcs, _, hl, hm, hmm, hx, hel⟩
  · simp at hcs
    subst hcs
    exact ⟨[], Or.inl ⟨rfl, _, _, rfl⟩, by simp, fun r hr => by simp at hr⟩
  · simp at hcs
    subst hcs
    simp only [if_pos] at hmm
    rw [cellsRecL] at hel
    by_cases h0 : len = 0
    · subst h0
      exact ⟨[], Or.inl ⟨rfl, _, _, rfl⟩, by simp, fun r hr => by simp at hr⟩
    · obtain ⟨b, off, spot⟩ := a
      have hspot : spot = none := by
        obtain ⟨cs', hc, _⟩ := hel 0 (by omega)
        obtain ⟨_, hlen', hcs⟩ := World.cells?_some hc
        have h1 := hcs 0 (by omega)
        rw [List.getElem?_eq_getElem (by omega)] at h1
        simpa [Addr.add] using World.cell?_spot h1
      subst hspot
      have each : ∀ i : Nat, ∃ p : R × Value, i < len → RecCells W b (off + i * 3) p.1 p.2 ∧ (p.1.2.2.length : Int) ≤ 9223372036854775807 := fun i => by
        by_cases hi : i < len
        · obtain ⟨cs', hc, ht⟩ := hel i (by omega)
          rw [add_plain] at hc
          obtain ⟨r, u, h1, h2⟩ := rec_of_trod hc ht
          exact ⟨(r, u), fun _ => ⟨h1, h2⟩⟩
        · exact ⟨((0, 0, []), .slice none 0 0), fun h => absurd h hi⟩
      obtain ⟨F, hF⟩ := Classical.axiomOfChoice each
      have hlen : ((List.range len).map fun i => (F i).1).length = len := by simp
      refine ⟨(List.range len).map fun i => (F i).1, Or.inr ⟨b, off, cap, by rw [hlen], by intro e; rw [e] at hlen; simp at hlen; omega, fun i r hr => ?_⟩, by rw [hlen]; unfold maxLen at hm; omega, fun r hr => ?_⟩
      · have hi : i < len := by
          by_cases e : i < len
          · exact e
          · rw [List.getElem?_eq_none (by rw [hlen]; omega)] at hr; cases hr
        simp [hi] at hr
        subst hr
        exact ⟨(F i).2, (hF i hi).1⟩
      · simp at hr
        obtain ⟨i, hi, rfl⟩ := hr
        exact (hF i hi).2

set_option maxRecDepth 100000 in
/-- A record that came in. -/
theorem open_rec {base : Nat} {v : Value} {d : DataW H} {p : List MemPlace} (hval : Value.okWide Tryd.prog W .any base 25 v) (h : DataW.Trod enc Tryd.prog W 0 (fun _ => true) true 25 v d p) :
    ∃ (k t : Int) (u : Value) (zs : List Int), v = .agg #[.int .i64 k, .int .i64 t, u] ∧ Ints W u zs ∧ (zs.length : Int) ≤ 9223372036854775807 := by
  obtain ⟨c0, c1, c2, y0, y1, y2, m, rfl, rfl, rfl, hy0, hy1, hy2⟩ := open_agg3 Tryd.underlying25 (by kernel_rfl) cellsRecL hval h
  obtain ⟨k, e0, _, _⟩ := DataW.trod_int Tryd.underlying3 hy0
  obtain ⟨t, e1, _, _⟩ := DataW.trod_int Tryd.underlying3 hy1
  simp at e0 e1
  subst e0 e1
  obtain ⟨zs, h1, h2⟩ := ints_of_trod hy2
  exact ⟨k, t, _, zs, rfl, h1, h2⟩

end
end Go.Proofs.YtmbgnmnlkbeaoaaDoor
