/- The draws of logs and records out of a code: what comes out is a log, or a record, that lies in memory of its own, and nothing that was there before has turned. For codes of at most 1048576 bytes. -/
import Derived.Test.YtfpjohbcbflnhaaDoorDLog
import Derived.Test.YtfpjohbcbflnhaaDoorSFall
import Derived.Test.YtfpjohbcbflnhaaDoorIForm
namespace Go.Proofs.YtfpjohbcbflnhaaDoor
open Go.RowKit

theorem recs_rows {W : World} {lo base : Nat} {v : Value} {ps : List (R × Value)} (hrow : W.ownsRow base 25 3 v ps.length (flat ps)) (hall : ∀ p ∈ ps, Good W lo p) : Recs W v (ps.map (·.1)) := by
  rcases hrow.2 with ⟨hv, hn⟩ | ⟨g, cap, cur, hv, hg, hh, _, _, _, ht⟩
  · have : ps = [] := List.length_eq_zero_iff.1 hn
    subst this
    exact Or.inl ⟨rfl, none, 0, hv⟩
  · by_cases hp : ps = []
    · subst hp; exact Or.inl ⟨rfl, _, cap, hv⟩
    refine Or.inr ⟨g, 0, cap, by simpa using hv, by simpa using hp, fun i r hr => ?_⟩
    rw [List.getElem?_map] at hr
    cases hi : ps[i]? with
    | none => rw [hi] at hr; cases hr
    | some p =>
      rw [hi] at hr
      simp at hr
      subst hr
      have hil : i < ps.length := by
        by_cases e : i < ps.length
        · exact e
        · rw [List.getElem?_eq_none (by omega)] at hi; cases hi
      obtain ⟨f0, f1, f2⟩ := flat_get ps i p hi
      have get : ∀ j x, (flat ps)[j]? = some x → W.cell? ⟨g, j, none⟩ = some x := fun j x hj => by
        have hjl : j < ps.length * 3 := by
          by_cases e : j < ps.length * 3
          · exact e
          · rw [List.getElem?_eq_none (by rw [flat_length]; omega)] at hj; cases hj
        rw [cell_of_row W _ _ _ _ _ hh, ← hj, ← ht, List.getElem?_take, if_pos hjl, Array.getElem?_toList]
      exact ⟨p.2, by rw [Nat.zero_add]; exact get _ _ f0, by rw [Nat.zero_add]; exact get _ _ f1, by rw [Nat.zero_add]; exact get _ _ f2, (hall p (List.mem_of_getElem? hi)).ints⟩

theorem set2_mid (W : World) (X : Nat) (x y : Value) : Mid X (X + 1) W ((W.setCell ⟨X, 0, none⟩ x).setCell ⟨X, 1, none⟩ y) := (Mid.set x).trans (Mid.set y)

/-- The value is a slice of n bytes, whatever they are. -/
def CodeAt (w : World) (v : Value) (n : Nat) : Prop :=
  ∃ ao cap, v = .slice ao n cap ∧ n ≤ cap ∧ (n ≠ 0 → ∃ g off, ao = some ⟨g, off, none⟩ ∧ ∀ k, k < n → ∃ z : Int, w.cell? ⟨g, off + k, none⟩ = some (.int .u8 z) ∧ 0 ≤ z ∧ z ≤ 255)
theorem CodeAt.later {B : Nat} {w w' : World} {v : Value} {n : Nat} (h : CodeAt w v n) (hb : Below B w w') (hB : w.heap.size ≤ B) : CodeAt w' v n := by
  obtain ⟨ao, cap, hv, hc, hk⟩ := h
  refine ⟨ao, cap, hv, hc, fun hn => ?_⟩
  obtain ⟨g, off, ha, hh⟩ := hk hn
  refine ⟨g, off, ha, fun k hkn => ?_⟩
  obtain ⟨z, h1, h2⟩ := hh k hkn
  have hl := World.block_lt_of_cell? _ _ h1
  simp at hl
  exact ⟨z, by rw [← h1]; exact hb.cell (p := ⟨g, off + k, none⟩) (by simp; omega), h2⟩

theorem code_bytes {w : World} {v : Value} {n : Nat} (h : CodeAt w v n) (m : Nat) (hm : m ≤ n) (ao : Option Addr) (cap : Nat) (hv : v = .slice ao n cap) (o : Obj) : Bytes (w.alloc o) w.heap.size (.slice ao m cap) m := by
  obtain ⟨ao', cap', hv', hc, hk⟩ := h
  rw [hv] at hv'
  simp only [Value.slice.injEq, true_and] at hv'
  obtain ⟨rfl, rfl⟩ := hv'
  refine ⟨ao, cap, rfl, fun hn => ?_⟩
  obtain ⟨g, off, ha, hh⟩ := hk (by omega)
  have hg : g < w.heap.size := by
    obtain ⟨z, h1, _⟩ := hh 0 (by omega)
    simpa using World.block_lt_of_cell? _ _ h1
  refine ⟨g, off, ha, hg, fun k hkm => ?_⟩
  obtain ⟨z, h1, h2⟩ := hh k (by omega)
  exact ⟨z, by rw [← h1]; exact (alloc_below w o).cell (p := ⟨g, off + k, none⟩) hg, h2⟩

set_option maxHeartbeats 1000000 in
theorem open_any (v : Value) (n : Nat) (w : World) (hv : CodeAt w v n) (hn : n ≤ 1048576) :
    Calls Tryd.prog 22 #[v] w fun e w' => e = .returned (.pointer (some ⟨w.heap.size, 0, none⟩)) ∧ Rd w' w.heap.size 0 ∧ w'.heap.size = w.heap.size + 1 ∧ Below w.heap.size w w' := by
  obtain ⟨ao, cap, rfl, hc, hk⟩ := id hv
  by_cases h2 : 2000 < (n : Int)
  · have RD : Hid (Rd (w.alloc (.cells #[.slice ao 2000 cap, .int .i64 0] 63)) w.heap.size 0) := ⟨_, 2000, by omega, heap_alloc_new w _, code_bytes hv 2000 (by omega) ao cap rfl _⟩
    obtain ⟨g, off, hao, _⟩ := hk (by omega)
    subst hao
    have hc2 : (2000 : Int) ≤ (cap : Int) := by omega
    clear hv hk
    go_enter Tryd.func22, Tryd.ntmps22
    go_wp2
    go_ret
    exact ⟨rfl, RD.out, by simp, alloc_below _ _⟩
  · have RD : Hid (Rd (w.alloc (.cells #[.slice ao n cap, .int .i64 0] 63)) w.heap.size 0) := ⟨_, n, by omega, heap_alloc_new w _, code_bytes hv n (Nat.le_refl _) ao cap rfl _⟩
    clear hv hk
    go_enter Tryd.func22, Tryd.ntmps22
    go_wp2
    go_ret
    exact ⟨rfl, RD.out, by simp, alloc_below _ _⟩

theorem Made.form' {w : World} {lo : Nat} {v : Value} {rs : List R} (h : Made w lo v rs) : Form v rs.length := by
  obtain ⟨ps, hp, h1, _, _⟩ := h
  have hpl : ps.length = rs.length := by have := congrArg List.length hp; simpa using this
  rw [← hpl]; exact form_of_row h1

theorem tot_small (ps : List (R × Value)) (h : ps.length ≤ 60) (hg : ∀ x ∈ ps, x.1.2.2.length ≤ 4) : tot (ps.map (·.1)) ≤ 1000 := by
  have hp : ∀ (l : List (R × Value)), (∀ x ∈ l, x.1.2.2.length ≤ 4) → ((l.map (·.1)).map fun r : R => r.2.2.length).sum ≤ 4 * l.length := by
    intro l
    induction l with
    | nil => intro _; simp
    | cons x t ih =>
      intro hx
      have h1 := ih (fun y hy => hx y (by simp [hy]))
      have h2 := hx x (by simp)
      simp at h1 ⊢
      omega
  have := hp ps hg
  unfold tot pre
  rw [List.take_length, List.length_map]
  omega

/-- What is drawn: a log that lies there, small, with nothing below turned. -/
def GotLog (w w' : World) (v : Value) (rs : List R) : Prop := Recs w' v rs ∧ Form v rs.length ∧ tot rs ≤ 1000 ∧ Below w.heap.size w w'

end Go.Proofs.YtfpjohbcbflnhaaDoor
