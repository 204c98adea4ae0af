/- The law FnExactWordRead, walked: at every text it answers true, and nothing that was there before has turned. In a world in which the variable holds the names of the kinds, and strconv's two sentinels some errors. -/
import Derived.Test.YtleinjblokepmaaDoorWRSRead
namespace Go.Proofs.YtleinjblokepmaaDoor
open Go.RowKit

theorem cellA {w : World} {b o : Nat} {v : Value} (h : w.cell? ⟨b, o, none⟩ = some v) (x : Obj) : (w.alloc x).cell? ⟨b, o, none⟩ = some v := by
  have hl := World.block_lt_of_cell? _ _ h
  rw [← h]
  exact ((Below.refl w.heap.size w).alloc (Nat.le_refl _) x).cell (p := ⟨b, o, none⟩) hl

set_option maxHeartbeats 1000000 in
theorem eqWord_same (k h t m : Int) (w : World) :
    Calls Tryd.prog 14 #[wordV k h t m, wordV k h t m] w fun e w' => e = .returned (.bool true) ∧ Below w.heap.size w w' := by
  go_enter Tryd.func14, Tryd.ntmps14
  go_wp2
  go_ret
  exact ⟨rfl, ((Below.refl _ _).alloc (Nat.le_refl _) _).alloc (by simp) _⟩

set_option maxHeartbeats 2000000 in
theorem lawRead_any (s : ByteArray) (w : World) (hN : Names8 w) (hE : ErrV w) :
    Calls Tryd.prog 6 #[.string s] w fun e w' => e = .returned (.bool true) ∧ Below w.heap.size w w' := by
  by_cases hs : 1048576 < s.size
  · have hsi : (1048576 : Int) < (s.size : Int) := by omega
    go_enter Tryd.func6, Tryd.ntmps6
    go_wp2
    go_ret
    exact ⟨rfl, Below.refl _ _⟩
  have hsi : ¬ (1048576 : Int) < (s.size : Int) := by omega
  have HS := hidden (specRead_any s)
  have HI : Hid (∀ W, Below w.heap.size w W → Calls Tryd.prog 10 #[.string s] W fun e w' => RdO s e ∧ Below W.heap.size W w') := fun W hb => implRead_any s W (hN.later hb (Nat.le_refl _)) (hE.later hb (Nat.le_refl _))
  clear hN hE
  go_enter Tryd.func6, Tryd.ntmps6
  go_wp2_with fail
  refine (HS.out _).mono ?_
  rintro e w1 ⟨⟨k, h, t, m, b, rfl, hr⟩, hb1⟩
  have B1 := hidden hb1
  have R1 := hidden hr
  clear hb1 hr
  obtain ⟨w2, hw2⟩ : ∃ W, Hid (W = w1.alloc (.cells #[.int .i64 k, .int .i64 h, .int .i64 t, .int .i64 m] 24)) := ⟨_, rfl⟩
  have B2 : Hid (Below w.heap.size w w2) := by show Below _ _ _; rw [hw2.out]; exact B1.out.alloc B1.out.size _
  have Q2 : Hid (Quad w2 w1.heap.size (.int .i64 k) (.int .i64 h) (.int .i64 t) (.int .i64 m)) := by show Quad _ _ _ _ _ _; rw [hw2.out]; exact Quad.new _ _ _ _ _ _
  go_wp2_with fail
  rw [← hw2.out]
  refine (HI.out _ B2.out).mono ?_
  rintro e w3 ⟨⟨k', h', t', m', b', rfl, hr⟩, hb3⟩
  obtain ⟨rfl, rfl, rfl, rfl, rfl⟩ := R1.out.one hr
  have B3 := hidden (B2.out.trans (hb3.mono B2.out.size))
  have Q3 := hidden (Q2.out.later hb3 (Nat.le_refl _))
  clear hb3 hr R1 HS HI
  obtain ⟨q0, q1, q2, q3⟩ := Q3.out
  have q0a := fun o => cellA q0 o
  have q1a := fun o => cellA q1 o
  have q2a := fun o => cellA q2 o
  have q3a := fun o => cellA q3 o
  have ql := Q3.out.lt
  go_wp2_with fail
  refine (eqWord_same _ _ _ _ _).mono ?_
  rintro e w5 ⟨rfl, hb5⟩
  have B5 := hidden ((B3.out.alloc B3.out.size (.cells #[.int .i64 k, .int .i64 h, .int .i64 t, .int .i64 m] 24)).trans (hb5.mono (by have := B3.out.size; simp; omega)))
  clear hb5
  cases b
  all_goals
    go_wp2
    go_ret
    exact ⟨rfl, B5.out⟩

end Go.Proofs.YtleinjblokepmaaDoor
