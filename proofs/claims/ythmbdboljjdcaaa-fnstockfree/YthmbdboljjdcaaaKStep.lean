/- Contracts of the program's table of steps: what each kind of record makes of its trip's hold. No conditions. -/
import Derived.Test.YthmbdboljjdcaaaKMay
import Derived.Laws.EntriesVeiled
namespace Go.Proofs.Ythmbdboljjdcaaa
open Go.RowKit

/-- What a step answers. -/
def StepOut (W w' : World) (e : Ending) (o : Option Pl.H) : Prop :=
  ∃ p q : Int, e = .returned (.tuple #[.agg #[.int .i64 p, .int .i64 q], .bool o.isSome]) ∧ (∀ h, o = some h → h = (p, q)) ∧ Below W.heap.size W w'

theorem StepOut.mk {W w' : World} {p q : Int} {o : Option Pl.H} (h : ∀ x, o = some x → x = (p, q)) (hb : Below W.heap.size W w') : StepOut W w' (.returned (.tuple #[.agg #[.int .i64 p, .int .i64 q], .bool o.isSome])) o := ⟨p, q, rfl, h, hb⟩

end Go.Proofs.Ythmbdboljjdcaaa
