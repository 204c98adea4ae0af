/- The log that a draw makes. -/
import Derived.Test.YtfpjohbcbflnhaaDoorDRow
namespace Go.Proofs.YtfpjohbcbflnhaaDoor
open Go.RowKit

/-- One of two numbers. -/
theorem two_get (xn : Nat) (h : xn < 2) (a c : Int) : ∃ FF : Int, Hid ((#[Value.int .i64 a, .int .i64 c] : Array Value)[xn]? = some (.int .i64 FF)) := by
  match xn, h with
  | 0, _ => exact ⟨a, rfl⟩
  | 1, _ => exact ⟨c, rfl⟩
theorem two_cell (W : World) {xn : Nat} {a c FF : Int} (h : (#[Value.int .i64 a, .int .i64 c] : Array Value)[xn]? = some (.int .i64 FF)) : (W.alloc (.cells #[.int .i64 a, .int .i64 c] 3)).cell? ⟨W.heap.size, xn, none⟩ = some (.int .i64 FF) := by
  rw [cell_of_row _ _ _ _ _ _ (heap_alloc_new W _)]; exact h
theorem two_mid {W w7 : World} {b xn : Nat} {a c FF : Int} (h : (#[Value.int .i64 a, .int .i64 c] : Array Value)[xn]? = some (.int .i64 FF)) (m : Mid b (b + 1) (W.alloc (.cells #[.int .i64 a, .int .i64 c] 3)) w7) (hb : b < W.heap.size) : w7.cell? ⟨W.heap.size, xn, none⟩ = some (.int .i64 FF) := by
  rw [cell_of_row _ _ _ _ _ _ (row_mid (heap_alloc_new W _) m hb)]; exact h

/-- How long the list is that lies there. -/
def lenAt (W : World) (L : Nat) : Nat := match W.cell? ⟨L, 0, none⟩ with | some (.slice _ n _) => n | _ => 0

end Go.Proofs.YtfpjohbcbflnhaaDoor
