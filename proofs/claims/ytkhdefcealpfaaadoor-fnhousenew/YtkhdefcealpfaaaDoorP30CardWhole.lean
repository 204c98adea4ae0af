/- FnHouseNew answers true whatever the code, and it reads afterwards as it read before: promise 30 at every drawn house. The card: the sentinel's variable starts as the program's text lays it. -/
import Derived.Test.YtkhdefcealpfaaaDoorBase5

namespace Go.Proofs.YtkhdefcealpfaaaDoor
open Go.RowKit

/-- A house of which nobody has anything comes back, or nothing. -/
def HnOut (w w' : World) (e : Ending) (ID : Int) (ROOM : Int) (BB : Bool) : Prop :=
  ∃ ao cap, e = .returned (.tuple #[houseV ID BB ROOM (.slice ao 0 cap) 0, .bool BB]) ∧ Made w' w.heap.size (.slice ao 0 cap) [] ∧ Below w.heap.size w w'
def hnB (id room : Int) : Bool := Pl.inB id 1 3 && Pl.inB room 0 9
def hnX (id room x : Int) : Int := if hnB id room = true then x else 0

theorem houseIdN_any (id : Int) (w : World) : Calls Tryd.prog 32 #[.int .i64 id] w fun e w' => e = .returned (.bool (Pl.inB id 1 3)) ∧ w' = w := by
  by_cases h1 : 1 ≤ id
  all_goals by_cases h2 : id ≤ 3
  all_goals
    go_enter Tryd.func32, Tryd.ntmps32
    go_wp2
    go_ret
    exact ⟨by simp [Pl.inB]; omega, rfl⟩

theorem hn_none (w w' : World) (h : Below w.heap.size w w') : HnOut w w' (.returned (.tuple #[houseV 0 false 0 (.slice none 0 0) 0, .bool false])) 0 0 false := ⟨none, 0, rfl, Made.none _ _, h⟩

set_option maxHeartbeats 2000000 in
theorem implHNew_any (id room : Int) (w : World) :
    Calls Tryd.prog 9 #[.int .i64 id, .int .i64 room] w fun e w' => HnOut w w' e (hnX id room id) (hnX id room room) (hnB id room) := by
  have HI := hide_it (houseIdN_any id)
  have HR := hide_it (roomOk_any room)
  unfold hnX hnB
  obtain ⟨II, hII⟩ : ∃ x, Pl.inB id 1 3 = x := ⟨_, rfl⟩
  obtain ⟨JJ, hJJ⟩ : ∃ x, Pl.inB room 0 9 = x := ⟨_, rfl⟩
  rw [hII] at HI
  rw [hJJ] at HR
  rw [hII, hJJ]
  clear hII hJJ
  cases II
  · go_enter Tryd.func9, Tryd.ntmps9
    go_wp2_with (go_at_call 32; refine (HI.out _).mono ?_; rintro e w1 ⟨rfl, rfl⟩)
    refine bodyPost_ret (v := .tuple #[houseV 0 false 0 (.slice none 0 0) 0, .bool false]) (by simp [results, Tryd.results9, go_sem]) rfl ?_
    exact hn_none _ _ (alloc_below _ _)
  · cases JJ
    · go_enter Tryd.func9, Tryd.ntmps9
      go_wp2_with (first | (go_at_call 32; refine (HI.out _).mono ?_; rintro e w1 ⟨rfl, rfl⟩) | (go_at_call 33; refine (HR.out _).mono ?_; rintro e w1 ⟨rfl, rfl⟩))
      refine bodyPost_ret (v := .tuple #[houseV 0 false 0 (.slice none 0 0) 0, .bool false]) (by simp [results, Tryd.results9, go_sem]) rfl ?_
      exact hn_none _ _ (alloc_below _ _)
    · go_enter Tryd.func9, Tryd.ntmps9
      go_wp2_with (first | (go_at_call 32; refine (HI.out _).mono ?_; rintro e w1 ⟨rfl, rfl⟩) | (go_at_call 33; refine (HR.out _).mono ?_; rintro e w1 ⟨rfl, rfl⟩))
      refine bodyPost_ret (v := .tuple #[houseV id true room (.slice none 0 0) 0, .bool true]) (by simp [results, Tryd.results9, go_sem]) rfl ?_
      exact ⟨none, 0, rfl, Made.none _ _, alloc_below _ _⟩

set_option maxHeartbeats 2000000 in
theorem specHNew_any (id room : Int) (w : World) :
    Calls Tryd.prog 8 #[.int .i64 id, .int .i64 room] w fun e w' => HnOut w w' e (hnX id room id) (hnX id room room) (hnB id room) := by
  have HN := hide_it (specNew_any room)
  have HI := hide_it (in_any id 1 3)
  unfold hnX hnB
  obtain ⟨II, hII⟩ : ∃ x, Pl.inB id 1 3 = x := ⟨_, rfl⟩
  obtain ⟨JJ, hJJ⟩ : ∃ x, Pl.inB room 0 9 = x := ⟨_, rfl⟩
  have hnO : (newO room).isSome = JJ := by rw [← hJJ]; unfold newO; cases Pl.inB room 0 9 <;> simp
  obtain ⟨RR, hRR⟩ : ∃ x, oR room (newO room) = x := ⟨_, rfl⟩
  obtain ⟨HS, hHS⟩ : ∃ x, oH (newO room) = x := ⟨_, rfl⟩
  rw [hRR, hHS, hnO] at HN
  rw [hII] at HI
  rw [hII, hJJ]
  clear hII hJJ hnO hRR hHS
  obtain ⟨w0, hw0⟩ : ∃ W, Hid (W = w.alloc (.cells #[.int .i64 0, .bool false, .int .i64 0, .slice none 0 0, .int .i64 0] 29)) := ⟨_, rfl⟩
  have B0 : Hid (Below w.heap.size w w0) := by show Below _ _ _; rw [hw0.out]; exact alloc_below _ _
  have Z0 : Hid (Blk w0 w.heap.size #[.int .i64 0, .bool false, .int .i64 0, .slice none 0 0, .int .i64 0] 29) := by show Blk _ _ _ _; rw [hw0.out]; exact Blk.new _ _ _
  go_enter Tryd.func8, Tryd.ntmps8
  go_wp2_with fail
  rw [← hw0.out]
  refine (HN.out _).mono ?_
  rintro e w1 ⟨a1, c1, rfl, -, hb1⟩
  have Z1 := hide_it (Z0.out.after hb1)
  have B1 := hide_it (B0.out.trans (hb1.mono B0.out.size))
  have hs1 : w.heap.size < w1.heap.size := Z1.out.lt
  have FR : Hid (∀ o, Blk (w1.alloc o) w.heap.size #[.int .i64 0, .bool false, .int .i64 0, .slice none 0 0, .int .i64 0] 29) := fun o => Z1.out.alloc o
  have FR2 : Hid (∀ o o2, Blk ((w1.alloc o).alloc o2) w.heap.size #[.int .i64 0, .bool false, .int .i64 0, .slice none 0 0, .int .i64 0] 29) := fun o o2 => (Z1.out.alloc o).alloc o2
  clear hb1
  obtain ⟨z0, z1, z2, z3, z4⟩ := Z1.out.cells5
  obtain ⟨zf0, zf1, zf2, zf3, zf4⟩ := Z1.out.free5
  have c0 := fun o => (FR.out o).cells5.1
  have c1' := fun o => (FR.out o).cells5.2.1
  have c2 := fun o => (FR.out o).cells5.2.2.1
  have c3 := fun o => (FR.out o).cells5.2.2.2.1
  have c4 := fun o => (FR.out o).cells5.2.2.2.2
  have f0 := fun o => (FR.out o).free 0
  have f1 := fun o => (FR.out o).free 1
  have f2 := fun o => (FR.out o).free 2
  have f3 := fun o => (FR.out o).free 3
  have f4 := fun o => (FR.out o).free 4
  have d0 := fun o o2 => (FR2.out o o2).cells5.1
  have d1 := fun o o2 => (FR2.out o o2).cells5.2.1
  have d2 := fun o o2 => (FR2.out o o2).cells5.2.2.1
  have d3 := fun o o2 => (FR2.out o o2).cells5.2.2.2.1
  have d4 := fun o o2 => (FR2.out o o2).cells5.2.2.2.2
  have g0 := fun o o2 => (FR2.out o o2).free 0
  have g1 := fun o o2 => (FR2.out o o2).free 1
  have g2 := fun o o2 => (FR2.out o o2).free 2
  have g3 := fun o o2 => (FR2.out o o2).free 3
  have g4 := fun o o2 => (FR2.out o o2).free 4
  cases II
  · go_wp2_with (go_at_call 31; refine (HI.out _).mono ?_; rintro e w2 ⟨rfl, rfl⟩)
    refine bodyPost_ret (v := .tuple #[houseV 0 false 0 (.slice none 0 0) 0, .bool false]) (by simp [results, Tryd.results8, go_sem, *]) rfl ?_
    refine hn_none _ _ (Below.alloc ?_ (by simp; omega) _)
    iterate 5 (refine Below.setCell ?_ (by simp) _)
    exact B1.out
  · cases JJ
    · go_wp2_with (go_at_call 31; refine (HI.out _).mono ?_; rintro e w2 ⟨rfl, rfl⟩)
      refine bodyPost_ret (v := .tuple #[houseV 0 false 0 (.slice none 0 0) 0, .bool false]) (by simp [results, Tryd.results8, go_sem, *]) rfl ?_
      refine hn_none _ _ (Below.alloc ?_ (by simp; omega) _)
      iterate 5 (refine Below.setCell ?_ (by simp) _)
      exact B1.out
    · go_wp2_with (go_at_call 31; refine (HI.out _).mono ?_; rintro e w2 ⟨rfl, rfl⟩)
      obtain ⟨w2, hw2⟩ : ∃ W, Hid (W = ((((w1.setCell ⟨w.heap.size, 0, none⟩ (.int .i64 id)).setCell ⟨w.heap.size, 1, none⟩ (.bool true)).setCell ⟨w.heap.size, 2, none⟩ (.int .i64 room)).setCell ⟨w.heap.size, 3, none⟩ (.slice (some ⟨w1.heap.size + 1, 0, none⟩) 0 0)).setCell ⟨w.heap.size, 4, none⟩ (.int .i64 0)) := ⟨_, rfl⟩
      have B2 : Hid (Below w.heap.size w w2) := by
        show Below _ _ _
        rw [hw2.out]
        iterate 5 (refine Below.setCell ?_ (by simp) _)
        exact B1.out
      have hs2 : w2.heap.size = w1.heap.size := by rw [hw2.out]; simp
      have Z2 : Hid (Blk w2 w.heap.size #[.int .i64 id, .bool true, .int .i64 room, .slice (some ⟨w1.heap.size + 1, 0, none⟩) 0 0, .int .i64 0] 29) := by
        show Blk _ _ _ _
        rw [hw2.out]
        exact ((((Z1.out.set_ 0 _).set_ 1 _).set_ 2 _).set_ 3 _).set_ 4 _
      rw [← hw2.out]
      clear z0 z1 z2 z3 z4 zf0 zf1 zf2 zf3 zf4 c0 c1' c2 c3 c4 f0 f1 f2 f3 f4 d0 d1 d2 d3 d4 g0 g1 g2 g3 g4
      have FQ : Hid (∀ o o2, Blk ((w2.alloc o).alloc o2) w.heap.size #[.int .i64 id, .bool true, .int .i64 room, .slice (some ⟨w1.heap.size + 1, 0, none⟩) 0 0, .int .i64 0] 29) := fun o o2 => (Z2.out.alloc o).alloc o2
      obtain ⟨z0, z1, z2, z3, z4⟩ := (FQ.out (.cells #[.int .i64 RR, .slice a1 HS.length c1] 37) (.cells #[] 71)).cells5
      refine bodyPost_ret (v := .tuple #[houseV id true room (.slice (some ⟨w1.heap.size + 1, 0, none⟩) 0 0) 0, .bool true]) (by simp only [results, Tryd.results8]; simp [go_sem, z0, z1, z2, z3, z4]) rfl ?_
      refine ⟨_, _, rfl, ⟨[], rfl, ?_, ?_, Inner.nil _ _ _ (Nat.le_refl _)⟩, ?_⟩
      · have h := World.ownsRow_lit (base := w.heap.size) (e := 71) (size := 3) (w2.alloc (.cells #[.int .i64 RR, .slice a1 HS.length c1] 37)) #[] 0 (by simp; omega) (by unfold maxLen; omega) rfl
        rw [size1, hs2] at h
        exact h
      · intro k hk; simp [Value.ownBlock] at hk; simp; omega
      · exact (B2.out.alloc (by omega) _).alloc (by simp; omega) _

end Go.Proofs.YtkhdefcealpfaaaDoor

namespace Go.Proofs.YtkhdefcealpfaaaDoor
open Go.RowKit

set_option maxHeartbeats 1000000 in
theorem drawHNew_any (v : Value) (n : Nat) (w : World) (hv : CodeAt w v n) (hn : n ≤ 1048576) :
    Calls Tryd.prog 7 #[v] w fun e w' => ∃ id room : Int, e = .returned (.tuple #[.int .i64 id, .int .i64 room]) ∧ Below w.heap.size w w' := by
  have HO := hide_it (open_any v n w hv hn)
  obtain ⟨ao, cap, rfl, _⟩ := hv
  go_enter Tryd.func7, Tryd.ntmps7
  go_wp2_with fail
  refine HO.out.mono ?_
  rintro e w1 ⟨rfl, hr1, hs1, hb1⟩
  have R1 := hide_it hr1
  have B1 := hide_it hb1
  clear hr1 hb1
  go_wp2_with fail
  refine (pick_any w.heap.size 0 5 _ R1.out (by omega) (by omega) (by omega)).mono ?_
  rintro e w2 ⟨x, rfl, lx, ux, r2, m2⟩
  have R2 := hide_it r2
  have B2 := hide_it (B1.out.trans (m2.below (B := w.heap.size) (Nat.le_refl _) B1.out.size))
  clear r2 m2
  go_wp2_with fail
  refine (pick_any w.heap.size (0 + 1) 12 _ R2.out (by omega) (by omega) (by omega)).mono ?_
  rintro e w3 ⟨y, rfl, ly, uy, r3, m3⟩
  have B3 := hide_it (B2.out.trans (m3.below (B := w.heap.size) (Nat.le_refl _) B2.out.size))
  clear r3 m3
  go_wp2
  go_ret2
  exact ⟨_, _, rfl, B3.out⟩

theorem of_nil {room : Int} (h : Pl.inB room 0 9 = true) : Pl.sOf room [] = some Pl.noHolds := by unfold Pl.sOf; rw [if_pos h]; rfl
theorem new_hoOk {id room : Int} (h1 : Pl.inB id 1 3 = true) (h2 : Pl.inB room 0 9 = true) : hoOk id room [] 0 = true := by
  rw [hoOk_of h1 (by rfl), of_nil h2]; rfl
theorem new_free {room : Int} (h : Pl.inB room 0 9 = true) : Pl.sFree room Pl.noHolds = room := by
  rw [Pl.sFree_yes (Pl.new_ok room h)]
  simp [Pl.free, Pl.noHolds, Pl.hHad]

set_option maxRecDepth 100000 in
set_option maxHeartbeats 8000000 in
theorem lawP30_small (vc : Value) (nc : Nat) (a : Addr) (w : World) (hc : CodeAt w vc nc) (hcn : nc ≤ 1048576) (ha : ErrAt w a) :
    Calls Tryd.prog 3 #[vc] w fun e w' => e = .returned (.bool true) ∧ Below w.heap.size w w' := by
  have HD := hide_it (drawHNew_any vc nc w hc hcn)
  have HA : Hid (∀ W, Below w.heap.size w W → ErrAt W a) := fun W hb => ha.later hb (Nat.le_refl _)
  obtain ⟨ac, cc, rfl, _⟩ := hc
  have hci : (nc : Int) ≤ 1048576 := by omega
  clear hcn ha
  go_enter Tryd.func3, Tryd.ntmps3
  go_wp2_with fail
  refine HD.out.mono ?_
  rintro e w1 ⟨id, room, rfl, hb1⟩
  have B1 := hide_it hb1
  clear hb1 HD
  obtain ⟨ID, hID⟩ : ∃ x, hnX id room id = x := ⟨_, rfl⟩
  obtain ⟨RM, hRM⟩ : ∃ x, hnX id room room = x := ⟨_, rfl⟩
  obtain ⟨BB, hBB⟩ : ∃ x, hnB id room = x := ⟨_, rfl⟩
  have SP : Hid (∀ W, Calls Tryd.prog 8 #[.int .i64 id, .int .i64 room] W fun e w' => HnOut W w' e ID RM BB) := fun W => by
    have := specHNew_any id room W; rw [hID, hRM, hBB] at this; exact this
  have IM : Hid (∀ W, Calls Tryd.prog 9 #[.int .i64 id, .int .i64 room] W fun e w' => HnOut W w' e ID RM BB) := fun W => by
    have := implHNew_any id room W; rw [hID, hRM, hBB] at this; exact this
  have FIN : Hid (BB = true → ID = id ∧ RM = room ∧ Pl.inB id 1 3 = true ∧ Pl.inB room 0 9 = true) := fun h => by
    rw [← hBB] at h
    have h2 := h
    unfold hnB at h2
    rw [Bool.and_eq_true] at h2
    exact ⟨by rw [← hID]; unfold hnX; rw [if_pos h], by rw [← hRM]; unfold hnX; rw [if_pos h], h2.1, h2.2⟩
  clear hID hRM hBB
  go_wp2_with fail
  refine (SP.out w1).mono ?_
  rintro e w3 ⟨a3, c3, rfl, hm3, hb3⟩
  obtain ⟨w4, hw4⟩ : ∃ W, Hid (W = w3.alloc (.cells #[.int .i64 ID, .bool BB, .int .i64 RM, .slice a3 0 c3, .int .i64 0] 29)) := ⟨_, rfl⟩
  have al4 : Below w3.heap.size w3 w4 := by rw [hw4.out]; exact alloc_below _ _
  have E4 := hide_it (hb3.trans (al4.mono hb3.size))
  have Z4 : Hid (Blk w4 w3.heap.size #[.int .i64 ID, .bool BB, .int .i64 RM, .slice a3 0 c3, .int .i64 0] 29) := by show Blk _ _ _ _; rw [hw4.out]; exact Blk.new w3 _ _
  have V4 := hide_it (hm3.recs.later al4 (Nat.le_refl _))
  clear hm3 hb3 al4
  go_wp2_with fail
  rw [← hw4.out]
  refine (IM.out w4).mono ?_
  rintro e w5 ⟨a5, c5, rfl, hm5, hb5⟩
  obtain ⟨w6, hw6⟩ : ∃ W, Hid (W = w5.alloc (.cells #[.int .i64 ID, .bool BB, .int .i64 RM, .slice a5 0 c5, .int .i64 0] 29)) := ⟨_, rfl⟩
  have al6 : Below w5.heap.size w5 w6 := by rw [hw6.out]; exact alloc_below _ _
  have e6 : Below w4.heap.size w4 w6 := hb5.trans (al6.mono hb5.size)
  have E6 := hide_it (E4.out.trans (e6.mono E4.out.size))
  have B6 := hide_it (B1.out.trans (E6.out.mono B1.out.size))
  have X6 : Hid (Blk w6 w5.heap.size #[.int .i64 ID, .bool BB, .int .i64 RM, .slice a5 0 c5, .int .i64 0] 29) := by show Blk _ _ _ _; rw [hw6.out]; exact Blk.new w5 _ _
  have Z5 := hide_it (Z4.out.after hb5)
  have Z6 := hide_it (Z4.out.after e6)
  have V6 := hide_it (V4.out.later e6 (Nat.le_refl _))
  have U6 := hide_it (hm5.recs.later al6 (Nat.le_refl _))
  have FM : Hid (Form (.slice a5 0 c5) ([] : List R).length) := form_made (rs := ([] : List R)) hm5
  obtain ⟨z0, z1, z2, z3, z4⟩ := Z5.out.cells5
  have y0 := fun o => cellAlloc z0 o
  have y1 := fun o => cellAlloc z1 o
  have y2 := fun o => cellAlloc z2 o
  have y3 := fun o => cellAlloc z3 o
  have y4 := fun o => cellAlloc z4 o
  have hlz := Z5.out.lt
  have hT0 : tot ([] : List R) ≤ 1048576 := by simp [tot, pre]
  clear hm5 hb5 al6 e6
  cases BB
  · go_wp2_with fail
    rw [← hw6.out]
    refine (lnHouse_any ID false RM _ _ [] 0 w6 U6.out V6.out hT0).mono ?_
    rintro e w7 ⟨rfl, hb7⟩
    have B7 := hide_it (B6.out.trans (hb7.mono B6.out.size))
    have U7 := hide_it (U6.out.later hb7 (Nat.le_refl _))
    have V7 := hide_it (V6.out.later hb7 (Nat.le_refl _))
    obtain ⟨p0, p1, p2, p3, p4⟩ := (Z6.out.after hb7).cells5
    obtain ⟨q0, q1, q2, q3, q4⟩ := (X6.out.after hb7).cells5
    clear hb7 z0 z1 z2 z3 z4 y0 y1 y2 y3 y4
    go_wp2_with fail
    refine (lnHouse_any ID false RM _ _ [] 0 w7 U7.out V7.out hT0).mono ?_
    rintro e w8 ⟨rfl, hb8⟩
    have B8 := hide_it (B7.out.trans (hb8.mono B7.out.size))
    clear hb8
    go_wp2
    go_ret
    exact ⟨rfl, B8.out⟩
  obtain ⟨e1, e2, i1, i2⟩ := FIN.out rfl
  subst e1 e2
  have OKH := hide_it (new_hoOk i1 i2)
  have FRE := hide_it (new_free i2)
  have HSO : Hid (hsO ID RM [] 0 false = some Pl.noHolds) := by
    show _ = _
    unfold hsO
    rw [if_pos (new_hoOk i1 i2)]
    show Pl.sOf RM (cutR [] 0 false) = _
    have : cutR ([] : List R) 0 false = [] := by simp [cutR]
    rw [this]; exact of_nil i2
  clear FIN i1 i2
  go_wp2_with fail
  rw [← hw6.out]
  refine (lnHouse_any ID true RM _ _ [] 0 w6 U6.out V6.out hT0).mono ?_
  rintro e w7 ⟨rfl, hb7⟩
  have B7 := hide_it (B6.out.trans (hb7.mono B6.out.size))
  have U7 := hide_it (U6.out.later hb7 (Nat.le_refl _))
  have X7 := hide_it (X6.out.after hb7)
  clear hb7 z0 z1 z2 z3 z4 y0 y1 y2 y3 y4
  obtain ⟨q0, q1, q2, q3, q4⟩ := X7.out.cells5
  have OKC : Hid (∀ W, Below w7.heap.size w7 W → Calls Tryd.prog 11 #[houseV ID true RM (.slice a5 0 c5) 0] W fun e w' => e = .returned (.bool true) ∧ Below W.heap.size W w') := fun W hb => by
    have := implHouseOk_any ID true RM _ [] 0 a W (U7.out.later hb (Nat.le_refl _)) hT0 (HA.out _ (B7.out.trans (hb.mono B7.out.size))); rw [OKH.out] at this; exact this
  have STC : Hid (∀ W, Below w7.heap.size w7 W → Calls Tryd.prog 13 #[houseV ID true RM (.slice a5 0 c5) 0, .bool false] W fun e w' => SkOut W w' e RM Pl.noHolds) := fun W hb => by
    have := implHStock_any ID true RM _ [] 0 false a W (U7.out.later hb (Nat.le_refl _)) FM.out hT0 (HA.out _ (B7.out.trans (hb.mono B7.out.size))); rw [HSO.out] at this; exact this
  go_wp2_with fail
  refine (OKC.out w7 (Below.refl _ _)).mono ?_
  rintro e w8 ⟨rfl, hb8⟩
  have E8 := hide_it hb8
  clear hb8 q0 q1 q2 q3 q4
  obtain ⟨q0, q1, q2, q3, q4⟩ := (X7.out.after E8.out).cells5
  go_wp2_with fail
  refine (STC.out w8 E8.out).mono ?_
  rintro e w9 ⟨a9, c9, rfl, ho9, hb9⟩
  have E9 := hide_it (E8.out.trans (hb9.mono E8.out.size))
  have V9 := hide_it (holds_of_row ho9)
  clear ho9 hb9 q0 q1 q2 q3 q4
  obtain ⟨q0, q1, q2, q3, q4⟩ := (X7.out.after E9.out).cells5
  have hfr := implFree_any RM _ Pl.noHolds w9 V9.out (by simp [Pl.noHolds])
  rw [FRE.out] at hfr
  have HFR := hide_it hfr
  clear hfr
  go_wp2_with fail
  refine HFR.out.mono ?_
  rintro e w10 ⟨rfl, hb10⟩
  have E10 := hide_it (E9.out.trans (hb10.mono E9.out.size))
  have B10 := hide_it (B7.out.trans (E10.out.mono B7.out.size))
  clear hb10 q0 q1 q2 q3 q4
  obtain ⟨q0, q1, q2, q3, q4⟩ := (X7.out.after E10.out).cells5
  go_wp2
  go_ret
  exact ⟨by simp, B10.out⟩

end Go.Proofs.YtkhdefcealpfaaaDoor

namespace Go.Proofs.YtkhdefcealpfaaaDoor
open Go.ChangeShapes Go.WideShapes Go.ChangeAt Go.WideMaps Go.WideElems Go.RowKit Go.Joins

set_option maxHeartbeats 1000000 in
theorem lawP30_great (ac : Option Addr) (nc cc : Nat) (w : World) (h : 1048576 < (nc : Int)) :
    Calls Tryd.prog 3 #[.slice ac nc cc] w fun e w' => e = .returned (.bool true) ∧ Below w.heap.size w w' := by
  go_enter Tryd.func3, Tryd.ntmps3
  go_wp2
  go_ret
  exact ⟨rfl, Below.refl _ _⟩

theorem lawP30_any (vc : Value) (nc : Nat) (a : Addr) (w : World) (hc : CodeAt w vc nc) (ha : ErrAt w a) :
    Calls Tryd.prog 3 #[vc] w fun e w' => e = .returned (.bool true) ∧ Below w.heap.size w w' := by
  by_cases h1 : nc ≤ 1048576
  · exact lawP30_small vc nc a w hc h1 ha
  · obtain ⟨ac, cc, rfl, _⟩ := hc
    exact lawP30_great ac nc cc w (by omega)

set_option maxRecDepth 100000 in
theorem p30_lifted (os : Os) (started : os.Started) (H : Type) (enc : TypeId × Value → H) :
    ReturnsInHanded {} Tryd.checked os 3 .any (fun w args => (Rows.fnHouseNewSpec.pre enc Tryd.prog Tryd.f3 [] false w args ∧ laidMetH Tryd.prog laidErr w) ∧ sizedMet enc Tryd.prog Tryd.f3 (OpenSpec.ofChange Rows.fnHouseNewSpec) false w args)
      (Rows.fnHouseNewSpec.post enc Tryd.prog Tryd.f3 false true false false) := by
  refine returnsInHanded_of_change_and (C := Tryd.checked) (X := fun w _ => laidMetH Tryd.prog laidErr w) (fun _ _ _ hh h => h.of_heap hh) own started (by kernel_rfl) Tryd.func3
    (ChangeSpec.witness_shaped (enc := enc) (C := Tryd.checked) (os := os) (X := fun w _ => laidMetH Tryd.prog laidErr w) false (World.doorLaid Tryd.prog 28 os) #[.slice none 0 0] 8 rfl (World.shaped_of_RefB (by kernel_rfl) (by kernel_rfl)) (by kernel_rfl) (by kernel_rfl) (by kernel_rfl) (door_met os _)) ?_
  intro W base args ds gs before hval0 hW _ _ hL _
  have hval : ∀ (j : Nat) t v, Tryd.f3.params[j]? = some t → args[j]? = some v → Value.okWide Tryd.prog W .any base t v := hval0
  have hW' := hW
  obtain ⟨p, q, hA0, hV0, rfl, hfz, hnd⟩ := hW
  have hA : DataW.TrodAll enc Tryd.prog W 0 (fun _ => true) true Tryd.f3.params.toList args.toList ds p := hA0
  have hV : DataW.TrodVars enc Tryd.prog W (fun _ => true) ["loop.example/concierge/impl.errNoRec"] gs q := hV0
  rw [Tryd.params3] at hA hval
  obtain ⟨v0, d0, rfl, rfl, h0⟩ := trodAll_one hA
  obtain ⟨a, hErr, hvar⟩ := of_laid hL
  have vr : ∀ {X : World}, X.var? Tryd.prog "loop.example/concierge/impl.errNoRec" = some #[.iface 130 (.pointer (some a))] → ∀ sp : Nat → Bool,
      DataW.TrodVars enc Tryd.prog X sp ["loop.example/concierge/impl.errNoRec"] [tok enc (.iface 130 (.pointer (some a)))] [.cell 0 0] :=
    fun x0 sp => vars_read1 enc gErr gErrType Tryd.underlying92 x0 trivial sp
  obtain ⟨rfl, rfl⟩ := hV.unique (vr hvar _)
  clear hA0 hV0 hval0
  obtain ⟨nc, hC, _⟩ := open_code (hval 0 22 v0 rfl rfl) h0
  refine (lawP30_any v0 nc a W hC hErr).mono fun e W' ⟨he, hb⟩ => ?_
  subst he
  have hlt : ∀ x ∈ p, x.block < W.heap.size := fun x hx => hW'.lt x (by simp [hx])
  refine ⟨_, rfl, _, _, _, [], p, [.cell 0 0], hW', ?_, ?_, ?_, hb.frame _, fun h => by cases h⟩
  · exact trodAll_mk1 (shut_bool Tryd.underlying4 true)
  · exact trodAll_mk1 (Below.trod laidOut (by kernel_rfl) (of_decide_eq_true (by kernel_rfl)) h0 hb hlt)
  · exact vr (var?_below hb gErr (World.block_lt_of_cell? _ _ hErr) hvar) _

theorem p30_said : Rows.FnHouseNewSaid :=
  OpenClaim.holds_of_wide 3 Tryd.f3 rfl rfl rfl rfl rfl rfl rfl ⟨rfl, rfl, rfl, rfl, rfl⟩ rfl rfl rfl rfl rfl (by kernel_rfl) Tryd.func3 (by kernel_rfl)
    (of_decide_eq_true (by kernel_rfl)) (by unfold Func.isWrapper; first | (rw [if_pos (by decide +kernel)]; kernel_rfl) | (rw [if_neg (by decide +kernel)]; exact ⟨rfl, rfl⟩))
    (fun os started H enc _ => p30_lifted os started H enc)

theorem p30_plain (f : FuncId) (fn : Func) (hf : Tryd.pinned.checked.prog.funcNamed "loop.example/concierge/laws.FnHouseNew" = some f) (hfn : Tryd.pinned.checked.prog.funcs[f]? = some fn) :
    true = Tryd.pinned.checked.prog.looks [] ∧ ∀ (j : Nat) t, fn.params[j]? = some t → Tryd.pinned.checked.prog.wantsStandIn t = false := by
  obtain rfl : f = 3 := Option.some.inj ((show Tryd.prog.funcNamed "loop.example/concierge/laws.FnHouseNew" = some 3 by kernel_rfl).symm.trans hf) |>.symm
  obtain rfl : fn = Tryd.f3 := (Option.some.inj (Tryd.func3.symm.trans hfn)).symm
  refine ⟨by kernel_rfl, fun j t ht => ?_⟩
  rw [Tryd.params3] at ht
  obtain rfl : t = 22 := by simpa using Array.mem_of_getElem? ht
  exact (show Tryd.prog.wantsStandIn 22 = false by kernel_rfl)

theorem p30_card : Rows.FnHouseNewCardSaid :=
  Claim7.holds_tied_plain_at .later [] _ _ _ _ p30_said (fun _ h => by cases h) (by kernel_rfl) (fun _ h => by cases h) fnHouseNew_row_tie rfl ⟨rfl, rfl⟩ (by kernel_rfl) rfl p30_plain (by kernel_rfl)
#print axioms p30_card

end Go.Proofs.YtkhdefcealpfaaaDoor
