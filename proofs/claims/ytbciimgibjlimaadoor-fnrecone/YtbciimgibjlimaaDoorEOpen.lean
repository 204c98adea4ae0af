/- What came in, as the walks want it: numbers, records and lists of records that can be read are lists of plain data in memory. No conditions. -/
import Derived.Test.YtbciimgibjlimaaDoorEFrame
import Derived.Test.YtbciimgibjlimaaDoorOwn
namespace Go.Proofs.YtbciimgibjlimaaDoor
open Go.ChangeShapes Go.WideShapes Go.ChangeAt Go.WideMaps Go.WideElems Go.RowKit Go.Joins

theorem cellsRecL : Tryd.prog.cellsOf 24 = 3 := by kernel_rfl
theorem cellsInts : Tryd.prog.cellsOf 22 = 1 := by kernel_rfl

section
variable {H : Type} {enc : TypeId × Value → H} {W : World}

theorem ints_of_trod {fuel : Nat} {c : Value} {y : DataW H × List MemPlace} (h : DataW.trod enc Tryd.prog W 0 (fun _ => true) true fuel 22 [c] = some y) :
    ∃ zs : List Int, Ints W c zs ∧ (zs.length : Int) ≤ 9223372036854775807 := by
  rcases open_ints Tryd.underlying22 Tryd.underlying3 cellsInt h with ⟨hcs, hx⟩ | ⟨a, len, cap, zs, hcs, _, hl, hm, hz, hx, hcell, hwz⟩
  · simp at hcs
    subst hcs
    exact ⟨[], Or.inl ⟨rfl, _, _, rfl, fun _ => rfl⟩, by simp⟩
  · simp at hcs
    subst hcs
    simp only [if_pos] at hz
    have hlen : (zs.take len).length = len := by simp; omega
    refine ⟨zs.take len, ?_, by unfold maxLen at hm; omega⟩
    by_cases h0 : len = 0
    · subst h0
      exact Or.inl ⟨by simp, _, _, rfl, fun h => by cases h⟩
    · obtain ⟨b, off, rfl, hc⟩ := ints_at hcell (by omega)
      refine Or.inr ⟨b, off, cap, by rw [hlen], by intro e; rw [e] at hlen; simp at hlen; omega, fun j hj => ?_⟩
      rw [hc j (by omega)]
      rw [hlen] at hj
      simp [List.getD_eq_getElem?_getD, hj]

set_option maxRecDepth 100000 in
theorem rec_of_trod {fuel : Nat} {b o : Nat} {cs : List Value} {y : DataW H × List MemPlace} (hc : W.cells? 0 ⟨b, o, none⟩ 3 = some cs) (h : DataW.trod enc Tryd.prog W 0 (fun _ => true) true fuel 24 cs = some y) :
    ∃ (r : R) (u : Value), RecCells W b o r u ∧ (r.2.2.length : Int) ≤ 9223372036854775807 := by
  obtain ⟨y0, y1, y2, n, _, hl, h0, h1, h2⟩ := Deep.trod_struct3 Tryd.underlying24 h
  rw [cellsRecL] at hl
  match cs, hl with
  | [c0, c1, c2], _ =>
    simp only [cellsInt, cellsInts] at h0 h1 h2
    obtain ⟨k, e0, _, _⟩ := DataW.trod_int Tryd.underlying3 h0
    obtain ⟨t, e1, _, _⟩ := DataW.trod_int Tryd.underlying3 h1
    simp at e0 e1
    subst e0 e1
    obtain ⟨zs, hI, hz⟩ := ints_of_trod (c := c2) (y := y2) (by simpa using h2)
    obtain ⟨_, _, hcs⟩ := World.cells?_some hc
    refine ⟨(k, t, zs), c2, ⟨?_, ?_, ?_, hI⟩, hz⟩
    · simpa [Addr.add] using hcs 0 (by omega)
    · simpa [Addr.add] using hcs 1 (by omega)
    · simpa [Addr.add] using hcs 2 (by omega)

set_option maxRecDepth 100000 in
/-- A record that came in. -/
theorem open_rec {base : Nat} {v : Value} {d : DataW H} {p : List MemPlace} (hval : Value.okWide Tryd.prog W .any base 24 v) (h : DataW.Trod enc Tryd.prog W 0 (fun _ => true) true 24 v d p) :
    ∃ (k t : Int) (u : Value) (zs : List Int), v = .agg #[.int .i64 k, .int .i64 t, u] ∧ Ints W u zs ∧ (zs.length : Int) ≤ 9223372036854775807 := by
  obtain ⟨c0, c1, c2, y0, y1, y2, m, rfl, rfl, rfl, hy0, hy1, hy2⟩ := open_agg3 Tryd.underlying24 (by kernel_rfl) cellsRecL hval h
  obtain ⟨k, e0, _, _⟩ := DataW.trod_int Tryd.underlying3 hy0
  obtain ⟨t, e1, _, _⟩ := DataW.trod_int Tryd.underlying3 hy1
  simp at e0 e1
  subst e0 e1
  obtain ⟨zs, h1, h2⟩ := ints_of_trod hy2
  exact ⟨k, t, _, zs, rfl, h1, h2⟩

end
end Go.Proofs.YtbciimgibjlimaaDoor
