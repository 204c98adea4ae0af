/- What came in, as the walks want it: holds and stocks that can be read are lists of plain data in memory. No conditions. -/
import Derived.Test.YtpnhcmjdjekleaaDoorRows
import Derived.Test.YtpnhcmjdjekleaaDoorKHold
import Derived.ProofKit
import Derived.Lib.SmallJoins
namespace Go.Proofs.YtpnhcmjdjekleaaDoor
open Go.ChangeShapes Go.WideShapes Go.ChangeAt Go.WideMaps Go.WideElems Go.RowKit Go.Joins

theorem cellsHoldL : Tryd.prog.cellsOf 73 = 2 := by kernel_rfl
theorem cellsStockL : Tryd.prog.cellsOf 24 = 2 := by kernel_rfl
theorem cellsIntK : Tryd.prog.cellsOf 3 = 1 := by kernel_rfl

section
variable {H : Type} {enc : TypeId × Value → H} {W : World}

set_option maxRecDepth 100000 in
theorem hold_of_trod {fuel : Nat} {b o : Nat} {cs : List Value} {y : DataW H × List MemPlace} (hc : W.cells? 0 ⟨b, o, none⟩ 2 = some cs) (h : DataW.trod enc Tryd.prog W 0 (fun _ => true) true fuel 73 cs = some y) :
    ∃ p : Pl.H, W.cell? ⟨b, o, none⟩ = some (.int .i64 p.1) ∧ W.cell? ⟨b, o + 1, none⟩ = some (.int .i64 p.2) := by
  obtain ⟨y0, y1, n, _, hl, h0, h1⟩ := trod_struct2 Tryd.underlying73 h
  rw [cellsHoldL] at hl
  match cs, hl with
  | [c0, c1], _ =>
    simp only [cellsIntK] at h0 h1
    obtain ⟨k, e0, _, _⟩ := DataW.trod_int Tryd.underlying3 h0
    obtain ⟨t, e1, _, _⟩ := DataW.trod_int Tryd.underlying3 h1
    simp at e0 e1
    subst e0 e1
    obtain ⟨_, _, hcs⟩ := World.cells?_some hc
    refine ⟨(k, t), ?_, ?_⟩
    · simpa [Addr.add] using hcs 0 (by omega)
    · simpa [Addr.add] using hcs 1 (by omega)

theorem holds_of_trod {fuel : Nat} {c : Value} {y : DataW H × List MemPlace} (h : DataW.trod enc Tryd.prog W 0 (fun _ => true) true fuel 22 [c] = some y) :
    ∃ hs : List Pl.H, Holds W c hs ∧ (hs.length : Int) ≤ 9223372036854775807 := by
  rcases Deep.open_slice Tryd.underlying22 h with ⟨hcs, hx⟩ | ⟨a, len, cap, m, n, D, Pq, hcs, _, hl, hm, hmm, hx, hel⟩
  · simp at hcs
    subst hcs
    exact ⟨[], Or.inl ⟨rfl, _, _, rfl, fun _ => rfl⟩, by simp⟩
  · simp at hcs
    subst hcs
    simp only [if_pos] at hmm
    rw [cellsHoldL] at hel
    by_cases h0 : len = 0
    · subst h0
      exact ⟨[], Or.inl ⟨rfl, _, _, rfl, fun h => by cases h⟩, by simp⟩
    · obtain ⟨b, off, spot⟩ := a
      have hspot : spot = none := by
        obtain ⟨cs', hc, _⟩ := hel 0 (by omega)
        obtain ⟨_, hlen', hcs⟩ := World.cells?_some hc
        have h1 := hcs 0 (by omega)
        rw [List.getElem?_eq_getElem (by omega)] at h1
        simpa [Addr.add] using World.cell?_spot h1
      subst hspot
      have each : ∀ i : Nat, ∃ p : Pl.H, i < len → W.cell? ⟨b, off + i * 2, none⟩ = some (.int .i64 p.1) ∧ W.cell? ⟨b, off + i * 2 + 1, none⟩ = some (.int .i64 p.2) := fun i => by
        by_cases hi : i < len
        · obtain ⟨cs', hc, ht⟩ := hel i (by omega)
          rw [add_plain] at hc
          obtain ⟨p, h1⟩ := hold_of_trod hc ht
          exact ⟨p, fun _ => h1⟩
        · exact ⟨(0, 0), fun h => absurd h hi⟩
      obtain ⟨F, hF⟩ := Classical.axiomOfChoice each
      have hlen : ((List.range len).map F).length = len := by simp
      refine ⟨(List.range len).map F, Or.inr ⟨b, off, cap, by rw [hlen], by intro e; rw [e] at hlen; simp at hlen; omega, fun i hi => ?_⟩, by rw [hlen]; unfold maxLen at hm; omega⟩
      rw [hlen] at hi
      have e : ((List.range len).map F).getD i (0, 0) = F i := by simp [List.getD_eq_getElem?_getD, hi]
      rw [e]
      exact hF i hi

set_option maxRecDepth 100000 in
/-- A stock that came in. -/
theorem open_stock {base : Nat} {v : Value} {d : DataW H} {p : List MemPlace} (hval : Value.okWide Tryd.prog W .any base 24 v) (h : DataW.Trod enc Tryd.prog W 0 (fun _ => true) true 24 v d p) :
    ∃ (room : Int) (u : Value) (hs : List Pl.H), v = .agg #[.int .i64 room, u] ∧ Holds W u hs ∧ (hs.length : Int) ≤ 9223372036854775807 := by
  obtain ⟨c0, c1, y0, y1, m, rfl, rfl, rfl, hy0, hy1⟩ := open_agg2 Tryd.underlying24 (by kernel_rfl) cellsStockL hval h
  obtain ⟨f, e1, _, _⟩ := DataW.trod_int Tryd.underlying3 hy0
  simp at e1
  subst e1
  obtain ⟨hs, h1, h2⟩ := holds_of_trod hy1
  exact ⟨f, _, hs, rfl, h1, h2⟩

end
end Go.Proofs.YtpnhcmjdjekleaaDoor
