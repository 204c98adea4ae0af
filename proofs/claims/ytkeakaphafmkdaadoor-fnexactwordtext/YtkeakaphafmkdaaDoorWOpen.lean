/- What came in, as the walks want it: a word that can be read is four numbers. No conditions. -/
import Derived.Test.YtkeakaphafmkdaaDoorRows
import Derived.Test.YtkeakaphafmkdaaDoorWOk
import Derived.ProofKit
import Derived.Lib.SmallJoins
namespace Go.Proofs.YtkeakaphafmkdaaDoor
open Go.ChangeShapes Go.WideShapes Go.ChangeAt Go.WideMaps Go.WideElems Go.RowKit Go.Joins

theorem cellsWordL : Tryd.prog.cellsOf 23 = 4 := by kernel_rfl

section
variable {H : Type} {enc : TypeId × Value → H} {W : World}

set_option maxRecDepth 100000 in
/-- A word that came in. -/
theorem open_word {base : Nat} {v : Value} {d : DataW H} {p : List MemPlace} (hval : Value.okWide Tryd.prog W .any base 23 v) (h : DataW.Trod enc Tryd.prog W 0 (fun _ => true) true 23 v d p) :
    ∃ k h t m : Int, v = wordV k h t m := by
  obtain ⟨c0, c1, c2, c3, y0, y1, y2, y3, m, rfl, rfl, rfl, hy0, hy1, hy2, hy3⟩ := open_agg4 Tryd.underlying23 (by kernel_rfl) cellsWordL hval h
  obtain ⟨a0, e0, _, _⟩ := DataW.trod_int Tryd.underlying3 hy0
  obtain ⟨a1, e1, _, _⟩ := DataW.trod_int Tryd.underlying3 hy1
  obtain ⟨a2, e2, _, _⟩ := DataW.trod_int Tryd.underlying3 hy2
  obtain ⟨a3, e3, _, _⟩ := DataW.trod_int Tryd.underlying3 hy3
  simp at e0 e1 e2 e3
  subst e0 e1 e2 e3
  exact ⟨a0, a1, a2, a3, rfl⟩

end
end Go.Proofs.YtkeakaphafmkdaaDoor
