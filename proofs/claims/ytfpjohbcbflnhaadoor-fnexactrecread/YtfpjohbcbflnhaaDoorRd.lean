/- The reader of a draw, and the number that it picks. For readers of at most 2000 bytes that picked at most 1000000 times. -/
import Derived.Test.YtfpjohbcbflnhaaDoorMark
namespace Go.Proofs.YtfpjohbcbflnhaaDoor
open Go.RowKit

/-- The value is a slice of n bytes, whatever they are, that lies below a block. -/
def Bytes (w : World) (b : Nat) (v : Value) (n : Nat) : Prop :=
  ∃ ao cap, v = .slice ao n cap ∧ (n ≠ 0 → ∃ g off, ao = some ⟨g, off, none⟩ ∧ g < b ∧ ∀ k, k < n → ∃ z : Int, w.cell? ⟨g, off + k, none⟩ = some (.int .u8 z) ∧ 0 ≤ z ∧ z ≤ 255)

/-- A reader lies in block b: its bytes, and how often it picked. -/
def Rd (w : World) (b p : Nat) : Prop :=
  ∃ v n, n ≤ 2000 ∧ w.heap[b]? = some (.cells #[v, .int .i64 p] 63 (0, 0)) ∧ Bytes w b v n

theorem Bytes.mid {w w' : World} {b : Nat} {v : Value} {n : Nat} (h : Bytes w b v n) (hb : ∀ k, k < b → w'.heap[k]? = w.heap[k]?) : Bytes w' b v n := by
  obtain ⟨ao, cap, hv, hc⟩ := h
  refine ⟨ao, cap, hv, fun hn => ?_⟩
  obtain ⟨g, off, ha, hg, hk⟩ := hc hn
  refine ⟨g, off, ha, hg, fun k hkn => ?_⟩
  obtain ⟨z, h1, h2⟩ := hk k hkn
  exact ⟨z, by rw [← h1]; simp [World.cell?, hb g hg], h2⟩

theorem Rd.lt {w : World} {b p : Nat} (h : Rd w b p) : b < w.heap.size := by
  obtain ⟨v, n, _, h, _⟩ := h
  by_cases e : b < w.heap.size
  · exact e
  · rw [Array.getElem?_eq_none (by omega)] at h; cases h

theorem Rd.later {B : Nat} {w w' : World} {b p : Nat} (h : Rd w b p) (hb : Below B w w') (hB : w.heap.size ≤ B) : Rd w' b p := by
  have hlt := h.lt
  obtain ⟨v, n, hn, h1, h2⟩ := h
  exact ⟨v, n, hn, by rw [hb.block b (by omega)]; exact h1, h2.mid (fun k hk => hb.block k (by omega))⟩

theorem Mid.set {w : World} {b i : Nat} (x : Value) : Mid b (b + 1) w (w.setCell ⟨b, i, none⟩ x) := by
  refine ⟨rfl, rfl, rfl, by simp, fun k _ hk => ?_⟩
  exact Below.heap_setCell _ _ _ _ (by simp; omega)

theorem rd_set {w : World} {b : Nat} {v : Value} {n p q : Nat} (hn : n ≤ 2000) (h : w.heap[b]? = some (.cells #[v, .int .i64 p] 63 (0, 0))) (hB : Bytes w b v n) : Rd (w.setCell ⟨b, 1, none⟩ (.int .i64 q)) b q := by
  refine ⟨v, n, hn, ?_, hB.mid (fun k hk => Below.heap_setCell _ _ _ _ (by simp; omega))⟩
  rw [heap_setCell_same w b 1 _ _ _ h]
  simp

end Go.Proofs.YtfpjohbcbflnhaaDoor
