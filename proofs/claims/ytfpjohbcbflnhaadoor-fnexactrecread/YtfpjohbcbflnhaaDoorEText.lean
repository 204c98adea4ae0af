/- Contracts of the methods of entries and of the text of an entry. In a world in which the variable holds the names of the kinds. -/
import Derived.Test.YtfpjohbcbflnhaaDoorEEnt
import Derived.Test.YtfpjohbcbflnhaaDoorETextPure
import Derived.Test.YtfpjohbcbflnhaaDoorWText
import Derived.Test.YtfpjohbcbflnhaaDoorHeld
import Derived.Test.YtfpjohbcbflnhaaDoorToRec
import Derived.Test.YtfpjohbcbflnhaaDoorOwn
namespace Go.Proofs.YtfpjohbcbflnhaaDoor
open Go.RowKit

theorem kindH (t z : Int) (w : World) : Calls Tryd.prog 107 #[.agg #[.int .i64 t, .int .i64 z]] w fun e w' => e = .returned (.int .i64 1) ∧ Below w.heap.size w w' := by
  go_enter Tryd.func107, Tryd.ntmps107
  go_wp2
  go_ret
  exact ⟨rfl, by first | exact Below.refl _ _ | exact alloc_below _ _⟩
theorem tripH (t z : Int) (w : World) : Calls Tryd.prog 108 #[.agg #[.int .i64 t, .int .i64 z]] w fun e w' => e = .returned (.int .i64 t) ∧ Below w.heap.size w w' := by
  go_enter Tryd.func108, Tryd.ntmps108
  go_wp2
  go_ret
  exact ⟨rfl, by first | exact Below.refl _ _ | exact alloc_below _ _⟩
theorem kindB (t a c d : Int) (w : World) : Calls Tryd.prog 109 #[.agg #[.int .i64 t, .int .i64 a, .int .i64 c, .int .i64 d]] w fun e w' => e = .returned (.int .i64 4) ∧ Below w.heap.size w w' := by
  go_enter Tryd.func109, Tryd.ntmps109
  go_wp2
  go_ret
  exact ⟨rfl, by first | exact Below.refl _ _ | exact alloc_below _ _⟩
theorem tripB (t a c d : Int) (w : World) : Calls Tryd.prog 110 #[.agg #[.int .i64 t, .int .i64 a, .int .i64 c, .int .i64 d]] w fun e w' => e = .returned (.int .i64 t) ∧ Below w.heap.size w w' := by
  go_enter Tryd.func110, Tryd.ntmps110
  go_wp2
  go_ret
  exact ⟨rfl, by first | exact Below.refl _ _ | exact alloc_below _ _⟩
theorem kindP (k t : Int) (w : World) : Calls Tryd.prog 111 #[.agg #[.int .i64 k, .int .i64 t]] w fun e w' => e = .returned (.int .i64 k) ∧ Below w.heap.size w w' := by
  go_enter Tryd.func111, Tryd.ntmps111
  go_wp2
  go_ret
  exact ⟨rfl, by first | exact Below.refl _ _ | exact alloc_below _ _⟩
theorem tripP (k t : Int) (w : World) : Calls Tryd.prog 112 #[.agg #[.int .i64 k, .int .i64 t]] w fun e w' => e = .returned (.int .i64 t) ∧ Below w.heap.size w w' := by
  go_enter Tryd.func112, Tryd.ntmps112
  go_wp2
  go_ret
  exact ⟨rfl, by first | exact Below.refl _ _ | exact alloc_below _ _⟩

/-- The program's names of kinds of records lie in their variable. -/
def KindsAt (w : World) : Prop := w.cell? ⟨1, 1, none⟩ = some (.string (Pl.rNm 1)) ∧ w.cell? ⟨1, 2, none⟩ = some (.string (Pl.rNm 2)) ∧ w.cell? ⟨1, 3, none⟩ = some (.string (Pl.rNm 3)) ∧
  w.cell? ⟨1, 4, none⟩ = some (.string (Pl.rNm 4)) ∧ w.cell? ⟨1, 5, none⟩ = some (.string (Pl.rNm 5)) ∧ w.cell? ⟨1, 6, none⟩ = some (.string (Pl.rNm 6)) ∧ w.cell? ⟨1, 7, none⟩ = some (.string (Pl.rNm 7))
theorem KindsAt.later {B : Nat} {w w' : World} (h : KindsAt w) (hb : Below B w w') (hB : w.heap.size ≤ B) : KindsAt w' := by
  have hlt := World.block_lt_of_cell? _ _ h.1
  simp at hlt
  have f : ∀ j x, w.cell? ⟨1, j, none⟩ = some x → w'.cell? ⟨1, j, none⟩ = some x := fun j x e => by rw [← e]; exact hb.cell (p := ⟨1, j, none⟩) (by simp; omega)
  obtain ⟨h1, h2, h3, h4, h5, h6, h7⟩ := h
  exact ⟨f _ _ h1, f _ _ h2, f _ _ h3, f _ _ h4, f _ _ h5, f _ _ h6, f _ _ h7⟩

theorem taPH (k t : Int) (w : World) : Sem.run Tryd.prog (Instr.typeAssert (plainV k t) 40 76 true) w = .ok (.tuple #[.agg #[.int .i64 0, .int .i64 0], .bool false]) w := by kernel_rfl
theorem taPB (k t : Int) (w : World) : Sem.run Tryd.prog (Instr.typeAssert (plainV k t) 40 79 true) w = .ok (.tuple #[.agg #[.int .i64 0, .int .i64 0, .int .i64 0, .int .i64 0], .bool false]) w := by kernel_rfl
theorem taHH (t z : Int) (w : World) : Sem.run Tryd.prog (Instr.typeAssert (holdV t z) 40 76 true) w = .ok (.tuple #[.agg #[.int .i64 t, .int .i64 z], .bool true]) w := by kernel_rfl
theorem taBH (t a c d : Int) (w : World) : Sem.run Tryd.prog (Instr.typeAssert (beginV t a c d) 40 76 true) w = .ok (.tuple #[.agg #[.int .i64 0, .int .i64 0], .bool false]) w := by kernel_rfl
theorem taBB (t a c d : Int) (w : World) : Sem.run Tryd.prog (Instr.typeAssert (beginV t a c d) 40 79 true) w = .ok (.tuple #[.agg #[.int .i64 t, .int .i64 a, .int .i64 c, .int .i64 d], .bool true]) w := by kernel_rfl

theorem ix0 (a c d : Int) (w : World) : Sem.run Tryd.prog (Instr.index 77 (.agg #[.int .i64 a, .int .i64 c, .int .i64 d]) (.int .i64 0)) w = .ok (.int .i64 a) w := by kernel_rfl
theorem ix1 (a c d : Int) (w : World) : Sem.run Tryd.prog (Instr.index 77 (.agg #[.int .i64 a, .int .i64 c, .int .i64 d]) (.int .i64 1)) w = .ok (.int .i64 c) w := by kernel_rfl
theorem ix2 (a c d : Int) (w : World) : Sem.run Tryd.prog (Instr.index 77 (.agg #[.int .i64 a, .int .i64 c, .int .i64 d]) (.int .i64 2)) w = .ok (.int .i64 d) w := by kernel_rfl

theorem new1 (w : World) (z : Int) : ∀ (j : Nat) (x : Value), [Value.int .i64 z][j]? = some x → (w.alloc (.cells #[.int .i64 z] 3)).cell? ((⟨w.heap.size, 0, none⟩ : Addr).add j) = some x := by
  intro j x hj
  match j, hj with
  | 0, hj => simp at hj; subst hj; simp [Addr.add]
theorem one1 (z : Int) : ∀ x ∈ [Value.int .i64 z], x.oneCell' = true := by
  intro x hx; simp at hx; subst hx; rfl
theorem size_al (w : World) (o : Obj) : (w.alloc o).heap.size = w.heap.size + 1 := by simp

set_option maxRecDepth 100000 in
set_option maxHeartbeats 2000000 in
theorem manyH (t z : Int) (w : World) : Calls Tryd.prog 29 #[holdV t z] w fun e w' => ∃ v, e = .returned v ∧ w'.ownsRow w.heap.size 3 1 v 1 [.int .i64 z] ∧ Below w.heap.size w w' := by
  obtain ⟨i0, hi, hz0, hz1, hz2⟩ := info_parts info3
  have NEW := hidden (new1 (w.alloc (.cells #[.int .i64 t, .int .i64 z] 76)) z)
  rw [World.size_alloc] at NEW
  have ta := taHH t z
  go_enter Tryd.func29, Tryd.ntmps29
  go_wp2_with (at_builtin; refine wpList_append_own _ rfl _ _ 23 rfl w.heap.size 3 i0 (.int .i64 0) 1 8 Tryd.underlying23 hi hz0 hz1 hz2 rfl (by decide) (.slice none 0 0) 0 [] rfl (World.ownsRow_nil _ _ _ _) ⟨w.heap.size + 1, 0, none⟩ 1 1 [.int .i64 z] rfl rfl NEW.out (one1 _) ?c3 ?c4 ?c5 ?_)
  case c3 => unfold maxLen; omega
  case c4 => omega
  case c5 => simp; omega
  intro v' w2 hown hgrow _
  have B2 := hidden (((below2 w (.cells #[.int .i64 t, .int .i64 z] 76) (.cells #[.int .i64 z] 3))).trans ((Below.refl _ _).grown hgrow (by simp; omega) (fun k h => by cases h)))
  have O2 := hidden hown
  clear hown hgrow
  go_wp2
  go_ret
  exact ⟨_, rfl, O2.out, B2.out⟩

set_option maxRecDepth 100000 in
set_option maxHeartbeats 2000000 in
theorem manyP (k t : Int) (w : World) : Calls Tryd.prog 29 #[plainV k t] w fun e w' => e = .returned (.slice none 0 0) ∧ Below w.heap.size w w' := by
  have ta1 := taPH k t
  have ta2 := taPB k t
  go_enter Tryd.func29, Tryd.ntmps29
  go_wp2
  go_ret
  exact ⟨rfl, by first | exact Below.refl _ _ | exact alloc_below _ _⟩

theorem ownsRow_one {w : World} {base : Nat} {e : TypeId} {size n : Nat} {v : Value} {xs : List Value} (h : w.ownsRow base e size v (n + 1) xs) : ∃ g cap, v = .slice (some ⟨g, 0, none⟩) (n + 1) cap := by
  rcases h.2 with ⟨_, hn⟩ | ⟨g, cap, cur, hv, _⟩
  · cases hn
  · exact ⟨g, cap, hv⟩
theorem own_al {w : World} {base : Nat} {e : TypeId} {size : Nat} {v : Value} {n : Nat} {xs : List Value} (h : w.ownsRow base e size v n xs) (o : Obj) : (w.alloc o).ownsRow base e size v n xs := ownsRow_below h (alloc_below w o) (fun k hk => (h.lt k hk).2)

set_option maxRecDepth 100000 in
set_option maxHeartbeats 4000000 in
theorem manyB (t a c d : Int) (w : World) : Calls Tryd.prog 29 #[beginV t a c d] w fun e w' => ∃ v, e = .returned v ∧ w'.ownsRow w.heap.size 3 1 v 3 [.int .i64 a, .int .i64 c, .int .i64 d] ∧ Below w.heap.size w w' := by
  obtain ⟨i0, hi, hz0, hz1, hz2⟩ := info_parts info3
  have ta1 := taBH t a c d
  have ta2 := taBB t a c d
  have i0' := ix0 a c d
  have i1' := ix1 a c d
  have i2' := ix2 a c d
  obtain ⟨w0, hw0⟩ : ∃ W, Hid (W = w.alloc (.cells #[.int .i64 t, .int .i64 a, .int .i64 c, .int .i64 d] 79)) := ⟨_, rfl⟩
  have B0 : Hid (Below w.heap.size w w0) := by show Below _ _ _; rw [hw0.out]; exact alloc_below _ _
  have hs0 := B0.out.size
  go_enter Tryd.func29, Tryd.ntmps29
  go_wp2_with fail
  rw [← hw0.out]
  refine wp_loop_rounds 4 ?_
  rw [rounds_succ]
  have NEW1 := hidden (new1 w0 a)
  go_wp2_with (at_builtin; refine wpList_append_own _ rfl _ _ 23 rfl w.heap.size 3 i0 (.int .i64 0) 1 8 Tryd.underlying23 hi hz0 hz1 hz2 rfl (by decide) (.slice none 0 0) 0 [] rfl (World.ownsRow_nil _ _ _ _) ⟨w0.heap.size, 0, none⟩ 1 1 [.int .i64 a] rfl rfl NEW1.out (one1 _) ?c3 ?c4 ?c5 ?_)
  case c3 => unfold maxLen; omega
  case c4 => omega
  case c5 => simp; omega
  intro v1 w1 hown1 hgrow1 _
  have B1 := hidden (B0.out.trans (((alloc_below w0 (.cells #[.int .i64 a] 3)).trans ((Below.refl _ _).grown hgrow1 (by simp) (fun k h => by cases h))).mono hs0))
  obtain ⟨g1, c1, hv1⟩ := ownsRow_one hown1
  subst hv1
  have O1 := hidden hown1
  have hs1 := B1.out.size
  clear hown1 hgrow1
  go_wp2_with fail
  rw [rounds_succ]
  have NEW2 := hidden (new1 w1 c)
  go_wp2_with (at_builtin; refine wpList_append_own _ rfl _ _ 23 rfl w.heap.size 3 i0 (.int .i64 0) 1 8 Tryd.underlying23 hi hz0 hz1 hz2 rfl (by decide) (.slice (some ⟨g1, 0, none⟩) 1 c1) 1 ([] ++ [.int .i64 a]) rfl (own_al O1.out _) ⟨w1.heap.size, 0, none⟩ 1 1 [.int .i64 c] rfl rfl NEW2.out (one1 _) ?c3 ?c4 ?c5 ?_)
  case c3 => unfold maxLen; omega
  case c4 => omega
  case c5 => simp; omega
  intro v2 w2 hown2 hgrow2 _
  have B2 := hidden (B1.out.trans ((alloc_below w1 (.cells #[.int .i64 c] 3)).mono hs1 |>.trans ((Below.refl _ _).grown hgrow2 (by simp; omega) (fun k h => (O1.out.lt k h).1))))
  obtain ⟨g2, c2, hv2⟩ := ownsRow_one hown2
  subst hv2
  have O2 := hidden hown2
  have hs2 := B2.out.size
  clear hown2 hgrow2
  go_wp2_with fail
  rw [rounds_succ]
  have NEW3 := hidden (new1 w2 d)
  go_wp2_with (at_builtin; refine wpList_append_own _ rfl _ _ 23 rfl w.heap.size 3 i0 (.int .i64 0) 1 8 Tryd.underlying23 hi hz0 hz1 hz2 rfl (by decide) (.slice (some ⟨g2, 0, none⟩) 2 c2) 2 ([] ++ [.int .i64 a] ++ [.int .i64 c]) rfl (own_al O2.out _) ⟨w2.heap.size, 0, none⟩ 1 1 [.int .i64 d] rfl rfl NEW3.out (one1 _) ?c3 ?c4 ?c5 ?_)
  case c3 => unfold maxLen; omega
  case c4 => omega
  case c5 => simp; omega
  intro v3 w3 hown3 hgrow3 _
  have B3 := hidden (B2.out.trans ((alloc_below w2 (.cells #[.int .i64 d] 3)).mono hs2 |>.trans ((Below.refl _ _).grown hgrow3 (by simp; omega) (fun k h => (O2.out.lt k h).1))))
  obtain ⟨g3, c3', hv3⟩ := ownsRow_one hown3
  subst hv3
  have O3 := hidden hown3
  clear hown3 hgrow3
  go_wp2_with fail
  rw [rounds_succ]
  go_wp2
  go_ret
  exact ⟨_, rfl, O3.out, B3.out⟩

end Go.Proofs.YtfpjohbcbflnhaaDoor
