/- What came in, as the walks want it: a house that can be read is plain data in memory. No conditions. -/
import Derived.Test.YtclcehfaoeoipaaDoorOpen
import Derived.Test.YtclcehfaoeoipaaDoorHTo
namespace Go.Proofs.YtclcehfaoeoipaaDoor
open Go.ChangeShapes Go.WideShapes Go.ChangeAt Go.WideMaps Go.WideElems Go.RowKit Go.Joins

theorem cellsHouseL : Tryd.prog.cellsOf 26 = 5 := by kernel_rfl
theorem cellsBool : Tryd.prog.cellsOf 4 = 1 := by kernel_rfl
theorem cellsRecsL : Tryd.prog.cellsOf 22 = 1 := by kernel_rfl
theorem array5 {α : Type} {cs : Array α} (h : cs.size = 5) : ∃ c0 c1 c2 c3 c4, cs = #[c0, c1, c2, c3, c4] := by
  obtain ⟨l⟩ := cs
  match l, h with
  | [c0, c1, c2, c3, c4], _ => exact ⟨c0, c1, c2, c3, c4, rfl⟩

section
variable {H : Type} {enc : TypeId × Value → H} {W : World}

set_option maxRecDepth 100000 in
/-- A house that came in. -/
theorem open_house {base : Nat} {v : Value} {d : DataW H} {p : List MemPlace} (hval : Value.okWide Tryd.prog W .any base 26 v) (h : DataW.Trod enc Tryd.prog W 0 (fun _ => true) true 26 v d p) :
    ∃ (id : Int) (up : Bool) (room : Int) (u : Value) (f : Int) (rs : List R), v = houseV id up room u f ∧ Recs W u rs ∧ (rs.length : Int) ≤ 9223372036854775807 ∧ ∀ r ∈ rs, (r.2.2.length : Int) ≤ 9223372036854775807 := by
  obtain ⟨cs, rfl, hsz⟩ := okWide_struct Tryd.underlying26 hval
  obtain ⟨c0, c1, c2, c3, c4, rfl⟩ := array5 (hsz.trans cellsHouseL)
  obtain ⟨fuel, hf⟩ := h
  obtain ⟨y0, y1, y2, y3, n, hx, _, h0, h1, h2, h3⟩ := trod_struct4 Tryd.underlying26 hf
  simp only [Value.cells, cellsInt, cellsBool, cellsLogL] at h0 h1 h2 h3
  obtain ⟨id, e0, _, _⟩ := DataW.trod_int Tryd.underlying3 h0
  obtain ⟨up, e1, _⟩ := DataW.trod_bool Tryd.underlying4 h1
  obtain ⟨room, e2, _, _⟩ := DataW.trod_int Tryd.underlying3 h2
  simp at e0 e1 e2
  subst e0 e1 e2
  obtain ⟨z0, z1, m, hy, _, g0, g1⟩ := trod_struct2 Tryd.underlying24 h3
  simp only [cellsInt, cellsRecsL] at g0 g1
  obtain ⟨f, e4, _, _⟩ := DataW.trod_int Tryd.underlying3 g1
  simp at e4
  subst e4
  obtain ⟨rs, r1, r2, r3⟩ := recs_of_trod (c := c3) (by simpa using g0)
  exact ⟨id, up, room, _, f, rs, rfl, r1, r2, r3⟩

end
end Go.Proofs.YtclcehfaoeoipaaDoor
