/- Contracts of the specification's copies of a record and of a log. For all that together has at most 1048576 records and numbers. -/
import Derived.Test.YtfpjohbcbflnhaaDoorForce
namespace Go.Proofs.YtfpjohbcbflnhaaDoor
open Go.RowKit

theorem bcellB {B : Nat} {W w1 : World} (hb : Below B W w1) : (∀ b o, b < B → w1.cell? ⟨b, o, none⟩ = W.cell? ⟨b, o, none⟩) ∧ (∀ b o, b < B → w1.frozen? ⟨b, o, none⟩ = W.frozen? ⟨b, o, none⟩) :=
  ⟨fun b o h => hb.cell (p := ⟨b, o, none⟩) h, fun b o h => hb.frozen (p := ⟨b, o, none⟩) h⟩

theorem wpList_append_ints {ops : Array Oper} {rest : List Oper} {o : Oper} {a : Act} {w : World} {Q : Exit → Act → World → Prop} (hgd : o.guard = none) (s x : Operand)
    (ho : o.op = .call { callee := .builtin .append, args := #[s, x], argTypes := #[23, 23] })
    (base : Nat) (v xv : Value) (n : Nat) (xs : List Value) (zs : List Int) (hs : a.eval s = v) (hx : a.eval x = xv) (hown : w.ownsRow base 3 1 v n xs) (hI : Ints w xv zs) (hb : n + zs.length ≤ 16777216) (hbase : base ≤ w.heap.size)
    (h : ∀ ao cap w', w'.ownsRow base 3 1 (.slice ao (n + zs.length) cap) (n + zs.length) (xs ++ zs.map (Value.int .i64)) → w.grownBy w' v.ownBlock → wpList Tryd.prog ops Q rest (a.put o.dst (.slice ao (n + zs.length) cap)) w') :
    wpList Tryd.prog ops Q (o :: rest) a w := by
  refine wpList_plain hgd fun K hK' => ?_
  obtain ⟨v', w', hrun, r1, r2⟩ := run_append_ints w base o.type v xv n xs zs hown hI hb hbase
  obtain ⟨ao, cap, rfl⟩ := row_shape r1
  unfold Oper.wp
  simp [execOp, ho, resolve, invoke, builtin, hs, hx, hrun, Result.andThen]
  exact hK' _ _ (h ao cap w' r1 r2)

end Go.Proofs.YtfpjohbcbflnhaaDoor
