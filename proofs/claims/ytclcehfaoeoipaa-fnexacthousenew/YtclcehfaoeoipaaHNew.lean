/- FnExactHouseNew answers true at every two numbers: at every argument HouseNew answers as its model, and its answer owns its memory. No conditions. -/
import Derived.Test.YtclcehfaoeoipaaRows
import Derived.Test.YtclcehfaoeoipaaHFn
import Derived.Test.YtclcehfaoeoipaaSLog
import Derived.Test.YtclcehfaoeoipaaKNew
import Derived.ProofKit
import Derived.Lib.SmallJoins
namespace Go.Proofs.Ytclcehfaoeoipaa
open Go.ChangeShapes Go.WideShapes Go.ChangeAt Go.WideMaps Go.WideElems Go.RowKit Go.Joins

theorem own : ownKnob Try.prog.godebug = none := by kernel_rfl
theorem laidOut : laidOutB Try.prog = true := by kernel_rfl

/-- A house of which nobody has anything comes back, or nothing. -/
def HnOut (w w' : World) (e : Ending) (ID : Int) (ROOM : Int) (BB : Bool) : Prop :=
  ∃ ao cap, e = .returned (.tuple #[houseV ID BB ROOM (.slice ao 0 cap) 0, .bool BB]) ∧ Made w' w.heap.size (.slice ao 0 cap) [] ∧ Below w.heap.size w w'
def hnB (id room : Int) : Bool := Pl.inB id 1 3 && Pl.inB room 0 9
def hnX (id room x : Int) : Int := if hnB id room = true then x else 0

theorem houseIdN_any (id : Int) (w : World) : Calls Try.prog 11 #[.int .i64 id] w fun e w' => e = .returned (.bool (Pl.inB id 1 3)) ∧ w' = w := by
  by_cases h1 : 1 ≤ id
  all_goals by_cases h2 : id ≤ 3
  all_goals
    go_enter Try.func11, Try.ntmps11
    go_wp2
    go_ret
    exact ⟨by simp [Pl.inB]; omega, rfl⟩

theorem Blk.set_ {w : World} {b : Nat} {cs : Array Value} {ty : TypeId} (h : Blk w b cs ty) (i : Nat) (x : Value) : Blk (w.setCell ⟨b, i, none⟩ x) b (cs.setIfInBounds i x) ty := by
  unfold Blk; rw [heap_setCell_same w b i _ _ x h]

theorem hn_none (w w' : World) (h : Below w.heap.size w w') : HnOut w w' (.returned (.tuple #[houseV 0 false 0 (.slice none 0 0) 0, .bool false])) 0 0 false := ⟨none, 0, rfl, Made.none _ _, h⟩

set_option maxHeartbeats 2000000 in
theorem implHNew_any (id room : Int) (w : World) :
    Calls Try.prog 5 #[.int .i64 id, .int .i64 room] w fun e w' => HnOut w w' e (hnX id room id) (hnX id room room) (hnB id room) := by
  have HI := hide_it (houseIdN_any id)
  have HR := hide_it (roomOk_any room)
  unfold hnX hnB
  obtain ⟨II, hII⟩ : ∃ x, Pl.inB id 1 3 = x := ⟨_, rfl⟩
  obtain ⟨JJ, hJJ⟩ : ∃ x, Pl.inB room 0 9 = x := ⟨_, rfl⟩
  rw [hII] at HI
  rw [hJJ] at HR
  rw [hII, hJJ]
  clear hII hJJ
  cases II
  · go_enter Try.func5, Try.ntmps5
    go_wp2_with (go_at_call 11; refine (HI.out _).mono ?_; rintro e w1 ⟨rfl, rfl⟩)
    refine bodyPost_ret (v := .tuple #[houseV 0 false 0 (.slice none 0 0) 0, .bool false]) (by simp [results, Try.results5, go_sem]) rfl ?_
    exact hn_none _ _ (alloc_below _ _)
  · cases JJ
    · go_enter Try.func5, Try.ntmps5
      go_wp2_with (first | (go_at_call 11; refine (HI.out _).mono ?_; rintro e w1 ⟨rfl, rfl⟩) | (go_at_call 12; refine (HR.out _).mono ?_; rintro e w1 ⟨rfl, rfl⟩))
      refine bodyPost_ret (v := .tuple #[houseV 0 false 0 (.slice none 0 0) 0, .bool false]) (by simp [results, Try.results5, go_sem]) rfl ?_
      exact hn_none _ _ (alloc_below _ _)
    · go_enter Try.func5, Try.ntmps5
      go_wp2_with (first | (go_at_call 11; refine (HI.out _).mono ?_; rintro e w1 ⟨rfl, rfl⟩) | (go_at_call 12; refine (HR.out _).mono ?_; rintro e w1 ⟨rfl, rfl⟩))
      refine bodyPost_ret (v := .tuple #[houseV id true room (.slice none 0 0) 0, .bool true]) (by simp [results, Try.results5, go_sem]) rfl ?_
      exact ⟨none, 0, rfl, Made.none _ _, alloc_below _ _⟩

set_option maxHeartbeats 2000000 in
theorem specHNew_any (id room : Int) (w : World) :
    Calls Try.prog 4 #[.int .i64 id, .int .i64 room] w fun e w' => HnOut w w' e (hnX id room id) (hnX id room room) (hnB id room) := by
  have HN := hide_it (specNew_any room)
  have HI := hide_it (in_any id 1 3)
  unfold hnX hnB
  obtain ⟨II, hII⟩ : ∃ x, Pl.inB id 1 3 = x := ⟨_, rfl⟩
  obtain ⟨JJ, hJJ⟩ : ∃ x, Pl.inB room 0 9 = x := ⟨_, rfl⟩
  have hnO : (newO room).isSome = JJ := by rw [← hJJ]; unfold newO; cases Pl.inB room 0 9 <;> simp
  obtain ⟨RR, hRR⟩ : ∃ x, oR room (newO room) = x := ⟨_, rfl⟩
  obtain ⟨HS, hHS⟩ : ∃ x, oH (newO room) = x := ⟨_, rfl⟩
  rw [hRR, hHS, hnO] at HN
  rw [hII] at HI
  rw [hII, hJJ]
  clear hII hJJ hnO hRR hHS
  obtain ⟨w0, hw0⟩ : ∃ W, Hid (W = w.alloc (.cells #[.int .i64 0, .bool false, .int .i64 0, .slice none 0 0, .int .i64 0] 26)) := ⟨_, rfl⟩
  have B0 : Hid (Below w.heap.size w w0) := by show Below _ _ _; rw [hw0.out]; exact alloc_below _ _
  have Z0 : Hid (Blk w0 w.heap.size #[.int .i64 0, .bool false, .int .i64 0, .slice none 0 0, .int .i64 0] 26) := by show Blk _ _ _ _; rw [hw0.out]; exact Blk.new _ _ _
  go_enter Try.func4, Try.ntmps4
  go_wp2_with fail
  rw [← hw0.out]
  refine (HN.out _).mono ?_
  rintro e w1 ⟨a1, c1, rfl, -, hb1⟩
  have Z1 := hide_it (Z0.out.after hb1)
  have B1 := hide_it (B0.out.trans (hb1.mono B0.out.size))
  have hs1 : w.heap.size < w1.heap.size := Z1.out.lt
  have FR : Hid (∀ o, Blk (w1.alloc o) w.heap.size #[.int .i64 0, .bool false, .int .i64 0, .slice none 0 0, .int .i64 0] 26) := fun o => Z1.out.alloc o
  have FR2 : Hid (∀ o o2, Blk ((w1.alloc o).alloc o2) w.heap.size #[.int .i64 0, .bool false, .int .i64 0, .slice none 0 0, .int .i64 0] 26) := fun o o2 => (Z1.out.alloc o).alloc o2
  clear hb1
  obtain ⟨z0, z1, z2, z3, z4⟩ := Z1.out.cells5
  obtain ⟨zf0, zf1, zf2, zf3, zf4⟩ := Z1.out.free5
  have c0 := fun o => (FR.out o).cells5.1
  have c1' := fun o => (FR.out o).cells5.2.1
  have c2 := fun o => (FR.out o).cells5.2.2.1
  have c3 := fun o => (FR.out o).cells5.2.2.2.1
  have c4 := fun o => (FR.out o).cells5.2.2.2.2
  have f0 := fun o => (FR.out o).free 0
  have f1 := fun o => (FR.out o).free 1
  have f2 := fun o => (FR.out o).free 2
  have f3 := fun o => (FR.out o).free 3
  have f4 := fun o => (FR.out o).free 4
  have d0 := fun o o2 => (FR2.out o o2).cells5.1
  have d1 := fun o o2 => (FR2.out o o2).cells5.2.1
  have d2 := fun o o2 => (FR2.out o o2).cells5.2.2.1
  have d3 := fun o o2 => (FR2.out o o2).cells5.2.2.2.1
  have d4 := fun o o2 => (FR2.out o o2).cells5.2.2.2.2
  have g0 := fun o o2 => (FR2.out o o2).free 0
  have g1 := fun o o2 => (FR2.out o o2).free 1
  have g2 := fun o o2 => (FR2.out o o2).free 2
  have g3 := fun o o2 => (FR2.out o o2).free 3
  have g4 := fun o o2 => (FR2.out o o2).free 4
  cases II
  · go_wp2_with (go_at_call 10; refine (HI.out _).mono ?_; rintro e w2 ⟨rfl, rfl⟩)
    refine bodyPost_ret (v := .tuple #[houseV 0 false 0 (.slice none 0 0) 0, .bool false]) (by simp [results, Try.results4, go_sem, *]) rfl ?_
    refine hn_none _ _ (Below.alloc ?_ (by simp; omega) _)
    iterate 5 (refine Below.setCell ?_ (by simp) _)
    exact B1.out
  · cases JJ
    · go_wp2_with (go_at_call 10; refine (HI.out _).mono ?_; rintro e w2 ⟨rfl, rfl⟩)
      refine bodyPost_ret (v := .tuple #[houseV 0 false 0 (.slice none 0 0) 0, .bool false]) (by simp [results, Try.results4, go_sem, *]) rfl ?_
      refine hn_none _ _ (Below.alloc ?_ (by simp; omega) _)
      iterate 5 (refine Below.setCell ?_ (by simp) _)
      exact B1.out
    · go_wp2_with (go_at_call 10; refine (HI.out _).mono ?_; rintro e w2 ⟨rfl, rfl⟩)
      obtain ⟨w2, hw2⟩ : ∃ W, Hid (W = ((((w1.setCell ⟨w.heap.size, 0, none⟩ (.int .i64 id)).setCell ⟨w.heap.size, 1, none⟩ (.bool true)).setCell ⟨w.heap.size, 2, none⟩ (.int .i64 room)).setCell ⟨w.heap.size, 3, none⟩ (.slice (some ⟨w1.heap.size + 1, 0, none⟩) 0 0)).setCell ⟨w.heap.size, 4, none⟩ (.int .i64 0)) := ⟨_, rfl⟩
      have B2 : Hid (Below w.heap.size w w2) := by
        show Below _ _ _
        rw [hw2.out]
        iterate 5 (refine Below.setCell ?_ (by simp) _)
        exact B1.out
      have hs2 : w2.heap.size = w1.heap.size := by rw [hw2.out]; simp
      have Z2 : Hid (Blk w2 w.heap.size #[.int .i64 id, .bool true, .int .i64 room, .slice (some ⟨w1.heap.size + 1, 0, none⟩) 0 0, .int .i64 0] 26) := by
        show Blk _ _ _ _
        rw [hw2.out]
        exact ((((Z1.out.set_ 0 _).set_ 1 _).set_ 2 _).set_ 3 _).set_ 4 _
      rw [← hw2.out]
      clear z0 z1 z2 z3 z4 zf0 zf1 zf2 zf3 zf4 c0 c1' c2 c3 c4 f0 f1 f2 f3 f4 d0 d1 d2 d3 d4 g0 g1 g2 g3 g4
      have FQ : Hid (∀ o o2, Blk ((w2.alloc o).alloc o2) w.heap.size #[.int .i64 id, .bool true, .int .i64 room, .slice (some ⟨w1.heap.size + 1, 0, none⟩) 0 0, .int .i64 0] 26) := fun o o2 => (Z2.out.alloc o).alloc o2
      obtain ⟨z0, z1, z2, z3, z4⟩ := (FQ.out (.cells #[.int .i64 RR, .slice a1 HS.length c1] 34) (.cells #[] 46)).cells5
      refine bodyPost_ret (v := .tuple #[houseV id true room (.slice (some ⟨w1.heap.size + 1, 0, none⟩) 0 0) 0, .bool true]) (by simp only [results, Try.results4]; simp [go_sem, z0, z1, z2, z3, z4]) rfl ?_
      refine ⟨_, _, rfl, ⟨[], rfl, ?_, ?_, Inner.nil _ _ _ (Nat.le_refl _)⟩, ?_⟩
      · have h := World.ownsRow_lit (base := w.heap.size) (e := 46) (size := 3) (w2.alloc (.cells #[.int .i64 RR, .slice a1 HS.length c1] 34)) #[] 0 (by simp; omega) (by unfold maxLen; omega) rfl
        rw [size1, hs2] at h
        exact h
      · intro k hk; simp [Value.ownBlock] at hk; simp; omega
      · exact (B2.out.alloc (by omega) _).alloc (by simp; omega) _

end Go.Proofs.Ytclcehfaoeoipaa
