/- What the last text of this claim stands on, part 7: plain facts and contracts; the last text says what is proved. -/
import Derived.Test.YtkkkdgpbmmjieaaGreatDoorWorldHoldsCardPart6
import Derived.Deep.RegionHeldLaw
import Derived.Laws.AppendOwnNone
import Derived.Deep.DeepCutAuto
import Derived.Deep.RegionLaw

namespace Go.Proofs.YtkkkdgpbmmjieaaGreatDoor
open Go.RowKit

/-- The two boxes and the answer's own, as holdBehind begins. -/
def Box3 (W : World) (B : Nat) (x y : Value) (k t : Int) (u : Value) : Prop :=
  Duo W B x y ∧ RecAt W (B + 1) k t u ∧ W.cell? ⟨B + 2, 0, none⟩ = some (.int .i64 0) ∧ W.cell? ⟨B + 2, 1, none⟩ = some (.int .i64 0) ∧ W.frozen? ⟨B + 2, 0, none⟩ = false ∧ W.frozen? ⟨B + 2, 1, none⟩ = false
theorem Box3.later {C : Nat} {W W' : World} {B : Nat} {x y : Value} {k t : Int} {u : Value} (h : Box3 W B x y k t u) (hb : Below C W W') (hC : W.heap.size ≤ C) : Box3 W' B x y k t u := by
  obtain ⟨h1, h2, h3, h4, h5, h6⟩ := h
  have hlt := World.block_lt_of_cell? _ _ h3
  simp at hlt
  refine ⟨h1.later hb hC, h2.later hb hC, ?_, ?_, ?_, ?_⟩
  · rw [← h3]; exact hb.cell (p := ⟨B + 2, 0, none⟩) (by simp; omega)
  · rw [← h4]; exact hb.cell (p := ⟨B + 2, 1, none⟩) (by simp; omega)
  · rw [← h5]; exact hb.frozen (p := ⟨B + 2, 0, none⟩) (by simp; omega)
  · rw [← h6]; exact hb.frozen (p := ⟨B + 2, 1, none⟩) (by simp; omega)
theorem Box3.new (w : World) (x y : Value) (k t : Int) (u : Value) (t1 t2 t3 : TypeId) : Box3 (((w.alloc (.cells #[x, y] t1)).alloc (.cells #[.int .i64 k, .int .i64 t, u] t2)).alloc (.cells #[.int .i64 0, .int .i64 0] t3)) w.heap.size x y k t u := by
  refine ⟨⟨?_, ?_⟩, ⟨?_, ?_, ?_⟩, ?_, ?_, ?_, ?_⟩ <;> simp [go_sem]

theorem two_set_cells (W : World) (B : Nat) (x y : Value) (b o : Nat) (h : b < B) : ((W.setCell ⟨B, 0, none⟩ x).setCell ⟨B, 1, none⟩ y).cell? ⟨b, o, none⟩ = W.cell? ⟨b, o, none⟩ :=
  (((Below.refl B W).setCell (Nat.le_refl _) x).setCell (Nat.le_refl _) y).cell (p := ⟨b, o, none⟩) h

theorem StepOut.none_ {W w' : World} {p q : Int} (hb : Below W.heap.size W w') : StepOut W w' (.returned (.tuple #[.agg #[.int .i64 p, .int .i64 q], .bool false])) none := ⟨p, q, rfl, fun h hh => (by cases hh), hb⟩

set_option maxHeartbeats 2000000 in
theorem behind_noStock (room : Int) (v : Value) (hs : List Pl.H) (k t : Int) (u : Value) (zs : List Int) (w : World) (hv : Holds w v hs) (hl : hs.length ≤ 1048576) (hu : ∃ au n cu, u = .slice au n cu) (hok : Pl.sOk room hs = false) :
    Calls Tryz.prog 183 #[.agg #[.int .i64 room, v], .agg #[.int .i64 k, .int .i64 t, u]] w fun e w' => StepOut w w' e (Pl.behind room hs k t zs) := by
  rw [Pl.behind_stock k t zs hok]
  have HV : Hid (∀ W, Below w.heap.size w W → Holds W v hs) := fun W h => hv.later h (Nat.le_refl _)
  obtain ⟨av, cv, rfl⟩ := hv.shape
  obtain ⟨au, n, cu, rfl⟩ := hu
  have BX := hide_it (Box3.new w (.int .i64 room) (.slice av hs.length cv) k t (.slice au n cu) 95 161 93)
  clear hv
  go_enter Tryz.func183, Tryz.ntmps183
  go_wp2_with fail
  refine (implStockOk_any room _ hs _ (HV.out _ (below3 w _ _ _)) hl).mono ?_
  rintro e w1 ⟨rfl, hb1⟩
  rw [hok]
  have B1 := hide_it ((below3 w _ _ _).trans (hb1.mono (by simp; omega)))
  obtain ⟨⟨x0, x1⟩, ⟨r0, r1, r2⟩, q0, q1, f0, f1⟩ := BX.out.later hb1 (Nat.le_refl _)
  clear hb1
  go_wp2
  exact bodyPost_ret (v := .tuple #[.agg #[.int .i64 0, .int .i64 0], .bool false]) (by simp [results, Tryz.results183, go_sem, q0, q1]) rfl (StepOut.none_ ((B1.out.setCell (by simp; omega) _).setCell (by simp; omega) _))

set_option maxHeartbeats 2000000 in
theorem behind_noRec (room : Int) (v : Value) (hs : List Pl.H) (k t : Int) (u : Value) (zs : List Int) (a : Addr) (w : World) (hv : Holds w v hs) (hl : hs.length ≤ 1048576) (hu : Ints w u zs) (hzl : zs.length ≤ 1048576) (ha : ErrAt w a) (hok : Pl.sOk room hs = true) (hrec : Pl.recOk k t zs = false) :
    Calls Tryz.prog 183 #[.agg #[.int .i64 room, v], .agg #[.int .i64 k, .int .i64 t, u]] w fun e w' => StepOut w w' e (Pl.behind room hs k t zs) := by
  rw [Pl.behind_rec room hs hrec]
  have HV : Hid (∀ W, Below w.heap.size w W → Holds W v hs) := fun W h => hv.later h (Nat.le_refl _)
  have HU : Hid (∀ W, Below w.heap.size w W → Ints W u zs) := fun W h => hu.later h (Nat.le_refl _)
  have HA : Hid (∀ W, Below w.heap.size w W → ErrAt W a) := fun W h => ha.later h (Nat.le_refl _)
  obtain ⟨av, cv, rfl⟩ := hv.shape
  obtain ⟨au, cu, rfl⟩ := hu.shape
  have BX := hide_it (Box3.new w (.int .i64 room) (.slice av hs.length cv) k t (.slice au zs.length cu) 95 161 93)
  clear hv hu ha
  go_enter Tryz.func183, Tryz.ntmps183
  go_wp2_with fail
  refine (implStockOk_any room _ hs _ (HV.out _ (below3 w _ _ _)) hl).mono ?_
  rintro e w1 ⟨rfl, hb1⟩
  rw [hok]
  have B1 := hide_it ((below3 w _ _ _).trans (hb1.mono (by simp; omega)))
  have BX1 := hide_it (BX.out.later hb1 (Nat.le_refl _))
  obtain ⟨⟨x0, x1⟩, ⟨r0, r1, r2⟩, q0, q1, f0, f1⟩ := BX1.out
  clear hb1
  go_wp2_with fail
  refine (implOk_any k t _ zs a w1 (HU.out _ B1.out) hzl (HA.out _ B1.out)).mono ?_
  rintro e w2 ⟨rfl, hb2⟩
  rw [hrec]
  have B2 := hide_it (B1.out.trans (hb2.mono B1.out.size))
  clear x0 x1 r0 r1 r2 q0 q1 f0 f1
  obtain ⟨⟨x0, x1⟩, ⟨r0, r1, r2⟩, q0, q1, f0, f1⟩ := BX1.out.later hb2 (Nat.le_refl _)
  clear hb2
  go_wp2
  exact bodyPost_ret (v := .tuple #[.agg #[.int .i64 0, .int .i64 0], .bool false]) (by simp [results, Tryz.results183, go_sem, q0, q1]) rfl (StepOut.none_ ((B2.out.setCell (by simp; omega) _).setCell (by simp; omega) _))

set_option maxRecDepth 100000 in
set_option maxHeartbeats 4000000 in
theorem behind_K1 (room : Int) (v : Value) (hs : List Pl.H) (t : Int) (u : Value) (zs : List Int) (a : Addr) (w : World) (hv : Holds w v hs) (hu : Ints w u zs) (hzl : zs.length ≤ 1048576) (ha : ErrAt w a) (hok : Pl.sOk room hs = true) (hrec : Pl.recOk 1 t zs = true) :
    Calls Tryz.prog 183 #[.agg #[.int .i64 room, v], .agg #[.int .i64 1, .int .i64 t, u]] w fun e w' => StepOut w w' e (Pl.behind room hs 1 t zs) := by
  rw [Pl.behind_ok hok hrec]
  obtain ⟨p1, p2, p3, p4⟩ := Pl.sOk_parts hok
  have HV : Hid (∀ W, Below w.heap.size w W → Holds W v hs) := fun W h => hv.later h (Nat.le_refl _)
  have HU : Hid (∀ W, Below w.heap.size w W → Ints W u zs) := fun W h => hu.later h (Nat.le_refl _)
  have HA : Hid (∀ W, Below w.heap.size w W → ErrAt W a) := fun W h => ha.later h (Nat.le_refl _)
  obtain ⟨i, hi, rfl, hat⟩ := trip_at hrec
  obtain ⟨F, hF⟩ : ∃ F, Pl.free room hs = F := ⟨_, rfl⟩
  have HFR : Hid (∀ W, Below w.heap.size w W → Calls Tryz.prog 205 #[.agg #[.int .i64 room, v]] W fun e w' => e = .returned (.int .i64 F) ∧ Below W.heap.size W w') := fun W h => by
    have := implFree_any room v hs W (HV.out W h) (by omega)
    rw [Pl.sFree_yes hok, hF] at this
    exact this
  obtain ⟨m, s, hms⟩ : ∃ m s, Pl.hAt hs ((i : Int) + 1) = (m, s) := ⟨_, _, rfl⟩
  rw [hF, hms]
  have HST : Hid (∀ W, Below w.heap.size w W → Calls Tryz.prog 215 #[.agg #[.int .i64 m, .int .i64 s], .agg #[.int .i64 1, .int .i64 ((i : Int) + 1), u], .int .i64 F] W fun e w' => StepOut W w' e (Pl.next (m, s) 1 (zs.headD 0) F)) := fun W h => by
    obtain ⟨z, rfl, _, _⟩ := Pl.recOk_hold hrec
    rcases HU.out W h with ⟨h, _⟩ | ⟨b2, off2, cap2, rfl, _, hc2⟩
    · simp at h
    · exact holdStep_any m s _ b2 off2 cap2 z F W (hc2 0 (by simp))
  obtain ⟨o, ho⟩ : ∃ o, Pl.next (m, s) 1 (zs.headD 0) F = o := ⟨_, rfl⟩
  rw [ho] at HST ⊢
  clear ho
  rcases hv with ⟨rfl, _⟩ | ⟨b, off, cap, rfl, hz, hc⟩
  · simp at p3
  have hmsd : hs.getD i (0, 0) = (m, s) := by rw [← hat]; exact hms
  have hbw : b < w.heap.size := World.block_lt_of_cell? _ _ (hc i (by omega)).1
  have HC : Hid (∀ W, Below w.heap.size w W → W.cell? ⟨b, off + i * 2, none⟩ = some (.int .i64 m) ∧ W.cell? ⟨b, off + i * 2 + 1, none⟩ = some (.int .i64 s)) := fun W h => by
    obtain ⟨h1, h2⟩ := hc i (by omega)
    rw [hmsd] at h1 h2
    have hl := World.block_lt_of_cell? _ _ h1
    simp at hl
    exact ⟨by rw [← h1]; exact h.cell (p := ⟨b, off + i * 2, none⟩) (by simp; omega), by rw [← h2]; exact h.cell (p := ⟨b, off + i * 2 + 1, none⟩) (by simp; omega)⟩
  rw [p3] at HFR ⊢
  have HOK : Hid (∀ W, Below w.heap.size w W → Calls Tryz.prog 203 #[.agg #[.int .i64 room, .slice (some ⟨b, off, none⟩) 6 cap]] W fun e w' => e = .returned (.bool true) ∧ Below W.heap.size W w') := fun W h => by
    have h1 := HV.out W h
    rw [p3] at h1
    have := implStockOk_any room _ hs W h1 (by omega)
    rw [hok] at this
    exact this
  obtain ⟨au, cu, rfl⟩ := hu.shape
  have BX := hide_it (Box3.new w (.int .i64 room) (.slice (some ⟨b, off, none⟩) 6 cap) 1 ((i : Int) + 1) (.slice au zs.length cu) 95 161 93)
  clear hc hz p1 p2 p3 p4 hat hms hmsd hF HV hu ha
  go_enter Tryz.func183, Tryz.ntmps183
  go_wp2_with fail
  refine (HOK.out _ (below3 w _ _ _)).mono ?_
  rintro e w1 ⟨rfl, hb1⟩
  have B1 := hide_it ((below3 w _ _ _).trans (hb1.mono (by simp; omega)))
  have BX1 := hide_it (BX.out.later hb1 (Nat.le_refl _))
  obtain ⟨⟨x0, x1⟩, ⟨r0, r1, r2⟩, q0, q1, f0, f1⟩ := BX1.out
  clear hb1
  go_wp2_with fail
  refine (implOk_any 1 _ _ zs a w1 (HU.out _ B1.out) hzl (HA.out _ B1.out)).mono ?_
  rintro e w2 ⟨rfl, hb2⟩
  rw [hrec]
  have B2 := hide_it (B1.out.trans (hb2.mono B1.out.size))
  have BX2 := hide_it (BX1.out.later hb2 (Nat.le_refl _))
  clear x0 x1 r0 r1 r2 q0 q1 f0 f1 hb2
  obtain ⟨⟨x0, x1⟩, ⟨r0, r1, r2⟩, q0, q1, f0, f1⟩ := BX2.out
  have hix : ∀ W, Sem.run Tryz.prog (Instr.index 254 (.agg #[.func (.func 214) #[] #[], .func (.func 215) #[] #[], .func (.func 216) #[] #[], .func (.func 217) #[] #[], .func (.func 214) #[] #[], .func (.func 214) #[] #[], .func (.func 214) #[] #[], .func (.func 214) #[] #[]]) (.int .i64 1)) W = .ok (.func (.func 215) #[] #[]) W := fun W => by kernel_rfl
  go_wp2_with fail
  go_region_held (fun w' => w'.cell? ⟨w.heap.size + 1, 0, none⟩ = some (.int .i64 1)) (go_keep)
    ((go_at_call 204; refine (steps_any _).mono ?_; rintro e w3 ⟨rfl, hb3⟩; have B3 := hide_it (B2.out.drew.trans (hb3.mono B2.out.size)); have BX3 := hide_it ((BX2.out.later (Below.refl _ _).drew (Nat.le_refl _)).later hb3 (Nat.le_refl _)); obtain ⟨_, ⟨s0, _⟩, _⟩ := BX3.out; clear hb3))
  have hi6 : (i : Int) < 6 := by omega
  have hwr : IntKind.i64.wrap ((i : Int) + 1 - 1) = (i : Int) := by simp [IntKind.wrap, IntKind.bits, IntKind.signed]; omega
  have hwi : IntKind.i64.wrap (i : Int) = (i : Int) := by simp [IntKind.wrap, IntKind.bits, IntKind.signed]; omega
  obtain ⟨d0, d1⟩ := HC.out _ B3.out
  obtain ⟨⟨y0, y1⟩, ⟨t0, t1, t2⟩, g0, g1, h0, h1⟩ := BX3.out
  clear x0 x1 r0 r1 r2 q0 q1 f0 f1 s0 hix
  go_wp2_with fail
  go_region_held (fun w' => w'.cell? ⟨w.heap.size, 0, none⟩ = some (.int .i64 room) ∧ w'.cell? ⟨w.heap.size, 1, none⟩ = some (.slice (some ⟨b, off, none⟩) 6 cap) ∧ w'.cell? ⟨w.heap.size + 1, 0, none⟩ = some (.int .i64 1) ∧ w'.cell? ⟨w.heap.size + 1, 1, none⟩ = some (.int .i64 ((i : Int) + 1)) ∧ w'.cell? ⟨w.heap.size + 1, 2, none⟩ = some (.slice au zs.length cu) ∧ w'.cell? ⟨b, off + i * 2, none⟩ = some (.int .i64 m) ∧ w'.cell? ⟨b, off + i * 2 + 1, none⟩ = some (.int .i64 s)) (first | (go_keep; done) | (refine ⟨?_, ?_, ?_, ?_, ?_, ?_, ?_⟩ <;> (rw [two_set_cells _ _ _ _ _ _ (by omega)]; assumption)))
    (first
    | (go_at_call 205; refine (HFR.out _ B3.out.drew).mono ?_; rintro e w4 ⟨rfl, hb4⟩; have B4 := hide_it (B3.out.drew.trans (hb4.mono B3.out.size)); have BX4 := hide_it ((BX3.out.later (Below.refl _ _).drew (Nat.le_refl _)).later hb4 (Nat.le_refl _)); obtain ⟨k0, k1⟩ := HC.out _ B4.out; obtain ⟨⟨l0, l1⟩, ⟨n0, n1, n2⟩, _⟩ := BX4.out; clear hb4)
    | (go_at_call 215; refine (HST.out _ B4.out).mono ?_; rintro e w5 ⟨p, q, rfl, hpq, hb5⟩; have HPQ := hide_it hpq; have B5 := hide_it (B4.out.trans (hb5.mono B4.out.size)); have BX5 := hide_it (BX4.out.later hb5 (Nat.le_refl _)); obtain ⟨m0, m1⟩ := HC.out _ B5.out; obtain ⟨⟨o0, o1⟩, ⟨v0, v1, v2⟩, z0, z1, j0, j1⟩ := BX5.out; have hw5 : w.heap.size + 2 < w5.heap.size := World.block_lt_of_cell? _ _ z0; clear hb5 hpq))
  go_wp2
  exact bodyPost_ret (v := .tuple #[.agg #[.int .i64 p, .int .i64 q], .bool o.isSome]) (by simp [results, Tryz.results183, go_sem, z0, z1]) rfl ⟨p, q, rfl, HPQ.out, (B5.out.setCell (by simp; omega) _).setCell (by simp; omega) _⟩

set_option maxRecDepth 100000 in
set_option maxHeartbeats 4000000 in
theorem behind_K2 (room : Int) (v : Value) (hs : List Pl.H) (t : Int) (u : Value) (zs : List Int) (a : Addr) (w : World) (hv : Holds w v hs) (hu : Ints w u zs) (hzl : zs.length ≤ 1048576) (ha : ErrAt w a) (hok : Pl.sOk room hs = true) (hrec : Pl.recOk 2 t zs = true) :
    Calls Tryz.prog 183 #[.agg #[.int .i64 room, v], .agg #[.int .i64 2, .int .i64 t, u]] w fun e w' => StepOut w w' e (Pl.behind room hs 2 t zs) := by
  rw [Pl.behind_ok hok hrec]
  obtain ⟨p1, p2, p3, p4⟩ := Pl.sOk_parts hok
  have HV : Hid (∀ W, Below w.heap.size w W → Holds W v hs) := fun W h => hv.later h (Nat.le_refl _)
  have HU : Hid (∀ W, Below w.heap.size w W → Ints W u zs) := fun W h => hu.later h (Nat.le_refl _)
  have HA : Hid (∀ W, Below w.heap.size w W → ErrAt W a) := fun W h => ha.later h (Nat.le_refl _)
  obtain ⟨i, hi, rfl, hat⟩ := trip_at hrec
  obtain ⟨F, hF⟩ : ∃ F, Pl.free room hs = F := ⟨_, rfl⟩
  have HFR : Hid (∀ W, Below w.heap.size w W → Calls Tryz.prog 205 #[.agg #[.int .i64 room, v]] W fun e w' => e = .returned (.int .i64 F) ∧ Below W.heap.size W w') := fun W h => by
    have := implFree_any room v hs W (HV.out W h) (by omega)
    rw [Pl.sFree_yes hok, hF] at this
    exact this
  obtain ⟨m, s, hms⟩ : ∃ m s, Pl.hAt hs ((i : Int) + 1) = (m, s) := ⟨_, _, rfl⟩
  rw [hF, hms]
  have HST : Hid (∀ W, Below w.heap.size w W → Calls Tryz.prog 216 #[.agg #[.int .i64 m, .int .i64 s], .agg #[.int .i64 2, .int .i64 ((i : Int) + 1), u], .int .i64 F] W fun e w' => StepOut W w' e (Pl.next (m, s) 2 (zs.headD 0) F)) := fun W h => by
    obtain ⟨au, cu, e⟩ := hu.shape
    exact closeStep_any m s _ u _ F W ⟨au, _, cu, e⟩
  obtain ⟨o, ho⟩ : ∃ o, Pl.next (m, s) 2 (zs.headD 0) F = o := ⟨_, rfl⟩
  rw [ho] at HST ⊢
  clear ho
  rcases hv with ⟨rfl, _⟩ | ⟨b, off, cap, rfl, hz, hc⟩
  · simp at p3
  have hmsd : hs.getD i (0, 0) = (m, s) := by rw [← hat]; exact hms
  have hbw : b < w.heap.size := World.block_lt_of_cell? _ _ (hc i (by omega)).1
  have HC : Hid (∀ W, Below w.heap.size w W → W.cell? ⟨b, off + i * 2, none⟩ = some (.int .i64 m) ∧ W.cell? ⟨b, off + i * 2 + 1, none⟩ = some (.int .i64 s)) := fun W h => by
    obtain ⟨h1, h2⟩ := hc i (by omega)
    rw [hmsd] at h1 h2
    have hl := World.block_lt_of_cell? _ _ h1
    simp at hl
    exact ⟨by rw [← h1]; exact h.cell (p := ⟨b, off + i * 2, none⟩) (by simp; omega), by rw [← h2]; exact h.cell (p := ⟨b, off + i * 2 + 1, none⟩) (by simp; omega)⟩
  rw [p3] at HFR ⊢
  have HOK : Hid (∀ W, Below w.heap.size w W → Calls Tryz.prog 203 #[.agg #[.int .i64 room, .slice (some ⟨b, off, none⟩) 6 cap]] W fun e w' => e = .returned (.bool true) ∧ Below W.heap.size W w') := fun W h => by
    have h1 := HV.out W h
    rw [p3] at h1
    have := implStockOk_any room _ hs W h1 (by omega)
    rw [hok] at this
    exact this
  obtain ⟨au, cu, rfl⟩ := hu.shape
  have BX := hide_it (Box3.new w (.int .i64 room) (.slice (some ⟨b, off, none⟩) 6 cap) 2 ((i : Int) + 1) (.slice au zs.length cu) 95 161 93)
  clear hc hz p1 p2 p3 p4 hat hms hmsd hF HV hu ha
  go_enter Tryz.func183, Tryz.ntmps183
  go_wp2_with fail
  refine (HOK.out _ (below3 w _ _ _)).mono ?_
  rintro e w1 ⟨rfl, hb1⟩
  have B1 := hide_it ((below3 w _ _ _).trans (hb1.mono (by simp; omega)))
  have BX1 := hide_it (BX.out.later hb1 (Nat.le_refl _))
  obtain ⟨⟨x0, x1⟩, ⟨r0, r1, r2⟩, q0, q1, f0, f1⟩ := BX1.out
  clear hb1
  go_wp2_with fail
  refine (implOk_any 2 _ _ zs a w1 (HU.out _ B1.out) hzl (HA.out _ B1.out)).mono ?_
  rintro e w2 ⟨rfl, hb2⟩
  rw [hrec]
  have B2 := hide_it (B1.out.trans (hb2.mono B1.out.size))
  have BX2 := hide_it (BX1.out.later hb2 (Nat.le_refl _))
  clear x0 x1 r0 r1 r2 q0 q1 f0 f1 hb2
  obtain ⟨⟨x0, x1⟩, ⟨r0, r1, r2⟩, q0, q1, f0, f1⟩ := BX2.out
  have hix : ∀ W, Sem.run Tryz.prog (Instr.index 254 (.agg #[.func (.func 214) #[] #[], .func (.func 215) #[] #[], .func (.func 216) #[] #[], .func (.func 217) #[] #[], .func (.func 214) #[] #[], .func (.func 214) #[] #[], .func (.func 214) #[] #[], .func (.func 214) #[] #[]]) (.int .i64 2)) W = .ok (.func (.func 216) #[] #[]) W := fun W => by kernel_rfl
  go_wp2_with fail
  go_region_held (fun w' => w'.cell? ⟨w.heap.size + 1, 0, none⟩ = some (.int .i64 2)) (go_keep)
    ((go_at_call 204; refine (steps_any _).mono ?_; rintro e w3 ⟨rfl, hb3⟩; have B3 := hide_it (B2.out.drew.trans (hb3.mono B2.out.size)); have BX3 := hide_it ((BX2.out.later (Below.refl _ _).drew (Nat.le_refl _)).later hb3 (Nat.le_refl _)); obtain ⟨_, ⟨s0, _⟩, _⟩ := BX3.out; clear hb3))
  have hi6 : (i : Int) < 6 := by omega
  have hwr : IntKind.i64.wrap ((i : Int) + 1 - 1) = (i : Int) := by simp [IntKind.wrap, IntKind.bits, IntKind.signed]; omega
  have hwi : IntKind.i64.wrap (i : Int) = (i : Int) := by simp [IntKind.wrap, IntKind.bits, IntKind.signed]; omega
  obtain ⟨d0, d1⟩ := HC.out _ B3.out
  obtain ⟨⟨y0, y1⟩, ⟨t0, t1, t2⟩, g0, g1, h0, h1⟩ := BX3.out
  clear x0 x1 r0 r1 r2 q0 q1 f0 f1 s0 hix
  go_wp2_with fail
  go_region_held (fun w' => w'.cell? ⟨w.heap.size, 0, none⟩ = some (.int .i64 room) ∧ w'.cell? ⟨w.heap.size, 1, none⟩ = some (.slice (some ⟨b, off, none⟩) 6 cap) ∧ w'.cell? ⟨w.heap.size + 1, 0, none⟩ = some (.int .i64 2) ∧ w'.cell? ⟨w.heap.size + 1, 1, none⟩ = some (.int .i64 ((i : Int) + 1)) ∧ w'.cell? ⟨w.heap.size + 1, 2, none⟩ = some (.slice au zs.length cu) ∧ w'.cell? ⟨b, off + i * 2, none⟩ = some (.int .i64 m) ∧ w'.cell? ⟨b, off + i * 2 + 1, none⟩ = some (.int .i64 s)) (first | (go_keep; done) | (refine ⟨?_, ?_, ?_, ?_, ?_, ?_, ?_⟩ <;> (rw [two_set_cells _ _ _ _ _ _ (by omega)]; assumption)))
    (first
    | (go_at_call 205; refine (HFR.out _ B3.out.drew).mono ?_; rintro e w4 ⟨rfl, hb4⟩; have B4 := hide_it (B3.out.drew.trans (hb4.mono B3.out.size)); have BX4 := hide_it ((BX3.out.later (Below.refl _ _).drew (Nat.le_refl _)).later hb4 (Nat.le_refl _)); obtain ⟨k0, k1⟩ := HC.out _ B4.out; obtain ⟨⟨l0, l1⟩, ⟨n0, n1, n2⟩, _⟩ := BX4.out; clear hb4)
    | (go_at_call 216; refine (HST.out _ B4.out).mono ?_; rintro e w5 ⟨p, q, rfl, hpq, hb5⟩; have HPQ := hide_it hpq; have B5 := hide_it (B4.out.trans (hb5.mono B4.out.size)); have BX5 := hide_it (BX4.out.later hb5 (Nat.le_refl _)); obtain ⟨m0, m1⟩ := HC.out _ B5.out; obtain ⟨⟨o0, o1⟩, ⟨v0, v1, v2⟩, z0, z1, j0, j1⟩ := BX5.out; have hw5 : w.heap.size + 2 < w5.heap.size := World.block_lt_of_cell? _ _ z0; clear hb5 hpq))
  go_wp2
  exact bodyPost_ret (v := .tuple #[.agg #[.int .i64 p, .int .i64 q], .bool o.isSome]) (by simp [results, Tryz.results183, go_sem, z0, z1]) rfl ⟨p, q, rfl, HPQ.out, (B5.out.setCell (by simp; omega) _).setCell (by simp; omega) _⟩

set_option maxRecDepth 100000 in
set_option maxHeartbeats 4000000 in
theorem behind_K3 (room : Int) (v : Value) (hs : List Pl.H) (t : Int) (u : Value) (zs : List Int) (a : Addr) (w : World) (hv : Holds w v hs) (hu : Ints w u zs) (hzl : zs.length ≤ 1048576) (ha : ErrAt w a) (hok : Pl.sOk room hs = true) (hrec : Pl.recOk 3 t zs = true) :
    Calls Tryz.prog 183 #[.agg #[.int .i64 room, v], .agg #[.int .i64 3, .int .i64 t, u]] w fun e w' => StepOut w w' e (Pl.behind room hs 3 t zs) := by
  rw [Pl.behind_ok hok hrec]
  obtain ⟨p1, p2, p3, p4⟩ := Pl.sOk_parts hok
  have HV : Hid (∀ W, Below w.heap.size w W → Holds W v hs) := fun W h => hv.later h (Nat.le_refl _)
  have HU : Hid (∀ W, Below w.heap.size w W → Ints W u zs) := fun W h => hu.later h (Nat.le_refl _)
  have HA : Hid (∀ W, Below w.heap.size w W → ErrAt W a) := fun W h => ha.later h (Nat.le_refl _)
  obtain ⟨i, hi, rfl, hat⟩ := trip_at hrec
  obtain ⟨F, hF⟩ : ∃ F, Pl.free room hs = F := ⟨_, rfl⟩
  have HFR : Hid (∀ W, Below w.heap.size w W → Calls Tryz.prog 205 #[.agg #[.int .i64 room, v]] W fun e w' => e = .returned (.int .i64 F) ∧ Below W.heap.size W w') := fun W h => by
    have := implFree_any room v hs W (HV.out W h) (by omega)
    rw [Pl.sFree_yes hok, hF] at this
    exact this
  obtain ⟨m, s, hms⟩ : ∃ m s, Pl.hAt hs ((i : Int) + 1) = (m, s) := ⟨_, _, rfl⟩
  rw [hF, hms]
  have HST : Hid (∀ W, Below w.heap.size w W → Calls Tryz.prog 217 #[.agg #[.int .i64 m, .int .i64 s], .agg #[.int .i64 3, .int .i64 ((i : Int) + 1), u], .int .i64 F] W fun e w' => StepOut W w' e (Pl.next (m, s) 3 (zs.headD 0) F)) := fun W h => by
    obtain ⟨au, cu, e⟩ := hu.shape
    exact undoStep_any m s _ u _ F W ⟨au, _, cu, e⟩
  obtain ⟨o, ho⟩ : ∃ o, Pl.next (m, s) 3 (zs.headD 0) F = o := ⟨_, rfl⟩
  rw [ho] at HST ⊢
  clear ho
  rcases hv with ⟨rfl, _⟩ | ⟨b, off, cap, rfl, hz, hc⟩
  · simp at p3
  have hmsd : hs.getD i (0, 0) = (m, s) := by rw [← hat]; exact hms
  have hbw : b < w.heap.size := World.block_lt_of_cell? _ _ (hc i (by omega)).1
  have HC : Hid (∀ W, Below w.heap.size w W → W.cell? ⟨b, off + i * 2, none⟩ = some (.int .i64 m) ∧ W.cell? ⟨b, off + i * 2 + 1, none⟩ = some (.int .i64 s)) := fun W h => by
    obtain ⟨h1, h2⟩ := hc i (by omega)
    rw [hmsd] at h1 h2
    have hl := World.block_lt_of_cell? _ _ h1
    simp at hl
    exact ⟨by rw [← h1]; exact h.cell (p := ⟨b, off + i * 2, none⟩) (by simp; omega), by rw [← h2]; exact h.cell (p := ⟨b, off + i * 2 + 1, none⟩) (by simp; omega)⟩
  rw [p3] at HFR ⊢
  have HOK : Hid (∀ W, Below w.heap.size w W → Calls Tryz.prog 203 #[.agg #[.int .i64 room, .slice (some ⟨b, off, none⟩) 6 cap]] W fun e w' => e = .returned (.bool true) ∧ Below W.heap.size W w') := fun W h => by
    have h1 := HV.out W h
    rw [p3] at h1
    have := implStockOk_any room _ hs W h1 (by omega)
    rw [hok] at this
    exact this
  obtain ⟨au, cu, rfl⟩ := hu.shape
  have BX := hide_it (Box3.new w (.int .i64 room) (.slice (some ⟨b, off, none⟩) 6 cap) 3 ((i : Int) + 1) (.slice au zs.length cu) 95 161 93)
  clear hc hz p1 p2 p3 p4 hat hms hmsd hF HV hu ha
  go_enter Tryz.func183, Tryz.ntmps183
  go_wp2_with fail
  refine (HOK.out _ (below3 w _ _ _)).mono ?_
  rintro e w1 ⟨rfl, hb1⟩
  have B1 := hide_it ((below3 w _ _ _).trans (hb1.mono (by simp; omega)))
  have BX1 := hide_it (BX.out.later hb1 (Nat.le_refl _))
  obtain ⟨⟨x0, x1⟩, ⟨r0, r1, r2⟩, q0, q1, f0, f1⟩ := BX1.out
  clear hb1
  go_wp2_with fail
  refine (implOk_any 3 _ _ zs a w1 (HU.out _ B1.out) hzl (HA.out _ B1.out)).mono ?_
  rintro e w2 ⟨rfl, hb2⟩
  rw [hrec]
  have B2 := hide_it (B1.out.trans (hb2.mono B1.out.size))
  have BX2 := hide_it (BX1.out.later hb2 (Nat.le_refl _))
  clear x0 x1 r0 r1 r2 q0 q1 f0 f1 hb2
  obtain ⟨⟨x0, x1⟩, ⟨r0, r1, r2⟩, q0, q1, f0, f1⟩ := BX2.out
  have hix : ∀ W, Sem.run Tryz.prog (Instr.index 254 (.agg #[.func (.func 214) #[] #[], .func (.func 215) #[] #[], .func (.func 216) #[] #[], .func (.func 217) #[] #[], .func (.func 214) #[] #[], .func (.func 214) #[] #[], .func (.func 214) #[] #[], .func (.func 214) #[] #[]]) (.int .i64 3)) W = .ok (.func (.func 217) #[] #[]) W := fun W => by kernel_rfl
  go_wp2_with fail
  go_region_held (fun w' => w'.cell? ⟨w.heap.size + 1, 0, none⟩ = some (.int .i64 3)) (go_keep)
    ((go_at_call 204; refine (steps_any _).mono ?_; rintro e w3 ⟨rfl, hb3⟩; have B3 := hide_it (B2.out.drew.trans (hb3.mono B2.out.size)); have BX3 := hide_it ((BX2.out.later (Below.refl _ _).drew (Nat.le_refl _)).later hb3 (Nat.le_refl _)); obtain ⟨_, ⟨s0, _⟩, _⟩ := BX3.out; clear hb3))
  have hi6 : (i : Int) < 6 := by omega
  have hwr : IntKind.i64.wrap ((i : Int) + 1 - 1) = (i : Int) := by simp [IntKind.wrap, IntKind.bits, IntKind.signed]; omega
  have hwi : IntKind.i64.wrap (i : Int) = (i : Int) := by simp [IntKind.wrap, IntKind.bits, IntKind.signed]; omega
  obtain ⟨d0, d1⟩ := HC.out _ B3.out
  obtain ⟨⟨y0, y1⟩, ⟨t0, t1, t2⟩, g0, g1, h0, h1⟩ := BX3.out
  clear x0 x1 r0 r1 r2 q0 q1 f0 f1 s0 hix
  go_wp2_with fail
  go_region_held (fun w' => w'.cell? ⟨w.heap.size, 0, none⟩ = some (.int .i64 room) ∧ w'.cell? ⟨w.heap.size, 1, none⟩ = some (.slice (some ⟨b, off, none⟩) 6 cap) ∧ w'.cell? ⟨w.heap.size + 1, 0, none⟩ = some (.int .i64 3) ∧ w'.cell? ⟨w.heap.size + 1, 1, none⟩ = some (.int .i64 ((i : Int) + 1)) ∧ w'.cell? ⟨w.heap.size + 1, 2, none⟩ = some (.slice au zs.length cu) ∧ w'.cell? ⟨b, off + i * 2, none⟩ = some (.int .i64 m) ∧ w'.cell? ⟨b, off + i * 2 + 1, none⟩ = some (.int .i64 s)) (first | (go_keep; done) | (refine ⟨?_, ?_, ?_, ?_, ?_, ?_, ?_⟩ <;> (rw [two_set_cells _ _ _ _ _ _ (by omega)]; assumption)))
    (first
    | (go_at_call 205; refine (HFR.out _ B3.out.drew).mono ?_; rintro e w4 ⟨rfl, hb4⟩; have B4 := hide_it (B3.out.drew.trans (hb4.mono B3.out.size)); have BX4 := hide_it ((BX3.out.later (Below.refl _ _).drew (Nat.le_refl _)).later hb4 (Nat.le_refl _)); obtain ⟨k0, k1⟩ := HC.out _ B4.out; obtain ⟨⟨l0, l1⟩, ⟨n0, n1, n2⟩, _⟩ := BX4.out; clear hb4)
    | (go_at_call 217; refine (HST.out _ B4.out).mono ?_; rintro e w5 ⟨p, q, rfl, hpq, hb5⟩; have HPQ := hide_it hpq; have B5 := hide_it (B4.out.trans (hb5.mono B4.out.size)); have BX5 := hide_it (BX4.out.later hb5 (Nat.le_refl _)); obtain ⟨m0, m1⟩ := HC.out _ B5.out; obtain ⟨⟨o0, o1⟩, ⟨v0, v1, v2⟩, z0, z1, j0, j1⟩ := BX5.out; have hw5 : w.heap.size + 2 < w5.heap.size := World.block_lt_of_cell? _ _ z0; clear hb5 hpq))
  go_wp2
  exact bodyPost_ret (v := .tuple #[.agg #[.int .i64 p, .int .i64 q], .bool o.isSome]) (by simp [results, Tryz.results183, go_sem, z0, z1]) rfl ⟨p, q, rfl, HPQ.out, (B5.out.setCell (by simp; omega) _).setCell (by simp; omega) _⟩

set_option maxRecDepth 100000 in
set_option maxHeartbeats 4000000 in
theorem behind_K4 (room : Int) (v : Value) (hs : List Pl.H) (t : Int) (u : Value) (zs : List Int) (a : Addr) (w : World) (hv : Holds w v hs) (hu : Ints w u zs) (hzl : zs.length ≤ 1048576) (ha : ErrAt w a) (hok : Pl.sOk room hs = true) (hrec : Pl.recOk 4 t zs = true) :
    Calls Tryz.prog 183 #[.agg #[.int .i64 room, v], .agg #[.int .i64 4, .int .i64 t, u]] w fun e w' => StepOut w w' e (Pl.behind room hs 4 t zs) := by
  rw [Pl.behind_ok hok hrec]
  obtain ⟨p1, p2, p3, p4⟩ := Pl.sOk_parts hok
  have HV : Hid (∀ W, Below w.heap.size w W → Holds W v hs) := fun W h => hv.later h (Nat.le_refl _)
  have HU : Hid (∀ W, Below w.heap.size w W → Ints W u zs) := fun W h => hu.later h (Nat.le_refl _)
  have HA : Hid (∀ W, Below w.heap.size w W → ErrAt W a) := fun W h => ha.later h (Nat.le_refl _)
  obtain ⟨i, hi, rfl, hat⟩ := trip_at hrec
  obtain ⟨F, hF⟩ : ∃ F, Pl.free room hs = F := ⟨_, rfl⟩
  have HFR : Hid (∀ W, Below w.heap.size w W → Calls Tryz.prog 205 #[.agg #[.int .i64 room, v]] W fun e w' => e = .returned (.int .i64 F) ∧ Below W.heap.size W w') := fun W h => by
    have := implFree_any room v hs W (HV.out W h) (by omega)
    rw [Pl.sFree_yes hok, hF] at this
    exact this
  obtain ⟨m, s, hms⟩ : ∃ m s, Pl.hAt hs ((i : Int) + 1) = (m, s) := ⟨_, _, rfl⟩
  rw [hF, hms]
  have HST : Hid (∀ W, Below w.heap.size w W → Calls Tryz.prog 214 #[.agg #[.int .i64 m, .int .i64 s], .agg #[.int .i64 4, .int .i64 ((i : Int) + 1), u], .int .i64 F] W fun e w' => StepOut W w' e (Pl.next (m, s) 4 (zs.headD 0) F)) := fun W h => by
    obtain ⟨au, cu, e⟩ := hu.shape
    exact noStep_any m s _ _ u _ F W (by decide) (by decide) (by decide) ⟨au, _, cu, e⟩
  obtain ⟨o, ho⟩ : ∃ o, Pl.next (m, s) 4 (zs.headD 0) F = o := ⟨_, rfl⟩
  rw [ho] at HST ⊢
  clear ho
  rcases hv with ⟨rfl, _⟩ | ⟨b, off, cap, rfl, hz, hc⟩
  · simp at p3
  have hmsd : hs.getD i (0, 0) = (m, s) := by rw [← hat]; exact hms
  have hbw : b < w.heap.size := World.block_lt_of_cell? _ _ (hc i (by omega)).1
  have HC : Hid (∀ W, Below w.heap.size w W → W.cell? ⟨b, off + i * 2, none⟩ = some (.int .i64 m) ∧ W.cell? ⟨b, off + i * 2 + 1, none⟩ = some (.int .i64 s)) := fun W h => by
    obtain ⟨h1, h2⟩ := hc i (by omega)
    rw [hmsd] at h1 h2
    have hl := World.block_lt_of_cell? _ _ h1
    simp at hl
    exact ⟨by rw [← h1]; exact h.cell (p := ⟨b, off + i * 2, none⟩) (by simp; omega), by rw [← h2]; exact h.cell (p := ⟨b, off + i * 2 + 1, none⟩) (by simp; omega)⟩
  rw [p3] at HFR ⊢
  have HOK : Hid (∀ W, Below w.heap.size w W → Calls Tryz.prog 203 #[.agg #[.int .i64 room, .slice (some ⟨b, off, none⟩) 6 cap]] W fun e w' => e = .returned (.bool true) ∧ Below W.heap.size W w') := fun W h => by
    have h1 := HV.out W h
    rw [p3] at h1
    have := implStockOk_any room _ hs W h1 (by omega)
    rw [hok] at this
    exact this
  obtain ⟨au, cu, rfl⟩ := hu.shape
  have BX := hide_it (Box3.new w (.int .i64 room) (.slice (some ⟨b, off, none⟩) 6 cap) 4 ((i : Int) + 1) (.slice au zs.length cu) 95 161 93)
  clear hc hz p1 p2 p3 p4 hat hms hmsd hF HV hu ha
  go_enter Tryz.func183, Tryz.ntmps183
  go_wp2_with fail
  refine (HOK.out _ (below3 w _ _ _)).mono ?_
  rintro e w1 ⟨rfl, hb1⟩
  have B1 := hide_it ((below3 w _ _ _).trans (hb1.mono (by simp; omega)))
  have BX1 := hide_it (BX.out.later hb1 (Nat.le_refl _))
  obtain ⟨⟨x0, x1⟩, ⟨r0, r1, r2⟩, q0, q1, f0, f1⟩ := BX1.out
  clear hb1
  go_wp2_with fail
  refine (implOk_any 4 _ _ zs a w1 (HU.out _ B1.out) hzl (HA.out _ B1.out)).mono ?_
  rintro e w2 ⟨rfl, hb2⟩
  rw [hrec]
  have B2 := hide_it (B1.out.trans (hb2.mono B1.out.size))
  have BX2 := hide_it (BX1.out.later hb2 (Nat.le_refl _))
  clear x0 x1 r0 r1 r2 q0 q1 f0 f1 hb2
  obtain ⟨⟨x0, x1⟩, ⟨r0, r1, r2⟩, q0, q1, f0, f1⟩ := BX2.out
  have hix : ∀ W, Sem.run Tryz.prog (Instr.index 254 (.agg #[.func (.func 214) #[] #[], .func (.func 215) #[] #[], .func (.func 216) #[] #[], .func (.func 217) #[] #[], .func (.func 214) #[] #[], .func (.func 214) #[] #[], .func (.func 214) #[] #[], .func (.func 214) #[] #[]]) (.int .i64 4)) W = .ok (.func (.func 214) #[] #[]) W := fun W => by kernel_rfl
  go_wp2_with fail
  go_region_held (fun w' => w'.cell? ⟨w.heap.size + 1, 0, none⟩ = some (.int .i64 4)) (go_keep)
    ((go_at_call 204; refine (steps_any _).mono ?_; rintro e w3 ⟨rfl, hb3⟩; have B3 := hide_it (B2.out.drew.trans (hb3.mono B2.out.size)); have BX3 := hide_it ((BX2.out.later (Below.refl _ _).drew (Nat.le_refl _)).later hb3 (Nat.le_refl _)); obtain ⟨_, ⟨s0, _⟩, _⟩ := BX3.out; clear hb3))
  have hi6 : (i : Int) < 6 := by omega
  have hwr : IntKind.i64.wrap ((i : Int) + 1 - 1) = (i : Int) := by simp [IntKind.wrap, IntKind.bits, IntKind.signed]; omega
  have hwi : IntKind.i64.wrap (i : Int) = (i : Int) := by simp [IntKind.wrap, IntKind.bits, IntKind.signed]; omega
  obtain ⟨d0, d1⟩ := HC.out _ B3.out
  obtain ⟨⟨y0, y1⟩, ⟨t0, t1, t2⟩, g0, g1, h0, h1⟩ := BX3.out
  clear x0 x1 r0 r1 r2 q0 q1 f0 f1 s0 hix
  go_wp2_with fail
  go_region_held (fun w' => w'.cell? ⟨w.heap.size, 0, none⟩ = some (.int .i64 room) ∧ w'.cell? ⟨w.heap.size, 1, none⟩ = some (.slice (some ⟨b, off, none⟩) 6 cap) ∧ w'.cell? ⟨w.heap.size + 1, 0, none⟩ = some (.int .i64 4) ∧ w'.cell? ⟨w.heap.size + 1, 1, none⟩ = some (.int .i64 ((i : Int) + 1)) ∧ w'.cell? ⟨w.heap.size + 1, 2, none⟩ = some (.slice au zs.length cu) ∧ w'.cell? ⟨b, off + i * 2, none⟩ = some (.int .i64 m) ∧ w'.cell? ⟨b, off + i * 2 + 1, none⟩ = some (.int .i64 s)) (first | (go_keep; done) | (refine ⟨?_, ?_, ?_, ?_, ?_, ?_, ?_⟩ <;> (rw [two_set_cells _ _ _ _ _ _ (by omega)]; assumption)))
    (first
    | (go_at_call 205; refine (HFR.out _ B3.out.drew).mono ?_; rintro e w4 ⟨rfl, hb4⟩; have B4 := hide_it (B3.out.drew.trans (hb4.mono B3.out.size)); have BX4 := hide_it ((BX3.out.later (Below.refl _ _).drew (Nat.le_refl _)).later hb4 (Nat.le_refl _)); obtain ⟨k0, k1⟩ := HC.out _ B4.out; obtain ⟨⟨l0, l1⟩, ⟨n0, n1, n2⟩, _⟩ := BX4.out; clear hb4)
    | (go_at_call 214; refine (HST.out _ B4.out).mono ?_; rintro e w5 ⟨p, q, rfl, hpq, hb5⟩; have HPQ := hide_it hpq; have B5 := hide_it (B4.out.trans (hb5.mono B4.out.size)); have BX5 := hide_it (BX4.out.later hb5 (Nat.le_refl _)); obtain ⟨m0, m1⟩ := HC.out _ B5.out; obtain ⟨⟨o0, o1⟩, ⟨v0, v1, v2⟩, z0, z1, j0, j1⟩ := BX5.out; have hw5 : w.heap.size + 2 < w5.heap.size := World.block_lt_of_cell? _ _ z0; clear hb5 hpq))
  go_wp2
  exact bodyPost_ret (v := .tuple #[.agg #[.int .i64 p, .int .i64 q], .bool o.isSome]) (by simp [results, Tryz.results183, go_sem, z0, z1]) rfl ⟨p, q, rfl, HPQ.out, (B5.out.setCell (by simp; omega) _).setCell (by simp; omega) _⟩

set_option maxRecDepth 100000 in
set_option maxHeartbeats 4000000 in
theorem behind_K5 (room : Int) (v : Value) (hs : List Pl.H) (t : Int) (u : Value) (zs : List Int) (a : Addr) (w : World) (hv : Holds w v hs) (hu : Ints w u zs) (hzl : zs.length ≤ 1048576) (ha : ErrAt w a) (hok : Pl.sOk room hs = true) (hrec : Pl.recOk 5 t zs = true) :
    Calls Tryz.prog 183 #[.agg #[.int .i64 room, v], .agg #[.int .i64 5, .int .i64 t, u]] w fun e w' => StepOut w w' e (Pl.behind room hs 5 t zs) := by
  rw [Pl.behind_ok hok hrec]
  obtain ⟨p1, p2, p3, p4⟩ := Pl.sOk_parts hok
  have HV : Hid (∀ W, Below w.heap.size w W → Holds W v hs) := fun W h => hv.later h (Nat.le_refl _)
  have HU : Hid (∀ W, Below w.heap.size w W → Ints W u zs) := fun W h => hu.later h (Nat.le_refl _)
  have HA : Hid (∀ W, Below w.heap.size w W → ErrAt W a) := fun W h => ha.later h (Nat.le_refl _)
  obtain ⟨i, hi, rfl, hat⟩ := trip_at hrec
  obtain ⟨F, hF⟩ : ∃ F, Pl.free room hs = F := ⟨_, rfl⟩
  have HFR : Hid (∀ W, Below w.heap.size w W → Calls Tryz.prog 205 #[.agg #[.int .i64 room, v]] W fun e w' => e = .returned (.int .i64 F) ∧ Below W.heap.size W w') := fun W h => by
    have := implFree_any room v hs W (HV.out W h) (by omega)
    rw [Pl.sFree_yes hok, hF] at this
    exact this
  obtain ⟨m, s, hms⟩ : ∃ m s, Pl.hAt hs ((i : Int) + 1) = (m, s) := ⟨_, _, rfl⟩
  rw [hF, hms]
  have HST : Hid (∀ W, Below w.heap.size w W → Calls Tryz.prog 214 #[.agg #[.int .i64 m, .int .i64 s], .agg #[.int .i64 5, .int .i64 ((i : Int) + 1), u], .int .i64 F] W fun e w' => StepOut W w' e (Pl.next (m, s) 5 (zs.headD 0) F)) := fun W h => by
    obtain ⟨au, cu, e⟩ := hu.shape
    exact noStep_any m s _ _ u _ F W (by decide) (by decide) (by decide) ⟨au, _, cu, e⟩
  obtain ⟨o, ho⟩ : ∃ o, Pl.next (m, s) 5 (zs.headD 0) F = o := ⟨_, rfl⟩
  rw [ho] at HST ⊢
  clear ho
  rcases hv with ⟨rfl, _⟩ | ⟨b, off, cap, rfl, hz, hc⟩
  · simp at p3
  have hmsd : hs.getD i (0, 0) = (m, s) := by rw [← hat]; exact hms
  have hbw : b < w.heap.size := World.block_lt_of_cell? _ _ (hc i (by omega)).1
  have HC : Hid (∀ W, Below w.heap.size w W → W.cell? ⟨b, off + i * 2, none⟩ = some (.int .i64 m) ∧ W.cell? ⟨b, off + i * 2 + 1, none⟩ = some (.int .i64 s)) := fun W h => by
    obtain ⟨h1, h2⟩ := hc i (by omega)
    rw [hmsd] at h1 h2
    have hl := World.block_lt_of_cell? _ _ h1
    simp at hl
    exact ⟨by rw [← h1]; exact h.cell (p := ⟨b, off + i * 2, none⟩) (by simp; omega), by rw [← h2]; exact h.cell (p := ⟨b, off + i * 2 + 1, none⟩) (by simp; omega)⟩
  rw [p3] at HFR ⊢
  have HOK : Hid (∀ W, Below w.heap.size w W → Calls Tryz.prog 203 #[.agg #[.int .i64 room, .slice (some ⟨b, off, none⟩) 6 cap]] W fun e w' => e = .returned (.bool true) ∧ Below W.heap.size W w') := fun W h => by
    have h1 := HV.out W h
    rw [p3] at h1
    have := implStockOk_any room _ hs W h1 (by omega)
    rw [hok] at this
    exact this
  obtain ⟨au, cu, rfl⟩ := hu.shape
  have BX := hide_it (Box3.new w (.int .i64 room) (.slice (some ⟨b, off, none⟩) 6 cap) 5 ((i : Int) + 1) (.slice au zs.length cu) 95 161 93)
  clear hc hz p1 p2 p3 p4 hat hms hmsd hF HV hu ha
  go_enter Tryz.func183, Tryz.ntmps183
  go_wp2_with fail
  refine (HOK.out _ (below3 w _ _ _)).mono ?_
  rintro e w1 ⟨rfl, hb1⟩
  have B1 := hide_it ((below3 w _ _ _).trans (hb1.mono (by simp; omega)))
  have BX1 := hide_it (BX.out.later hb1 (Nat.le_refl _))
  obtain ⟨⟨x0, x1⟩, ⟨r0, r1, r2⟩, q0, q1, f0, f1⟩ := BX1.out
  clear hb1
  go_wp2_with fail
  refine (implOk_any 5 _ _ zs a w1 (HU.out _ B1.out) hzl (HA.out _ B1.out)).mono ?_
  rintro e w2 ⟨rfl, hb2⟩
  rw [hrec]
  have B2 := hide_it (B1.out.trans (hb2.mono B1.out.size))
  have BX2 := hide_it (BX1.out.later hb2 (Nat.le_refl _))
  clear x0 x1 r0 r1 r2 q0 q1 f0 f1 hb2
  obtain ⟨⟨x0, x1⟩, ⟨r0, r1, r2⟩, q0, q1, f0, f1⟩ := BX2.out
  have hix : ∀ W, Sem.run Tryz.prog (Instr.index 254 (.agg #[.func (.func 214) #[] #[], .func (.func 215) #[] #[], .func (.func 216) #[] #[], .func (.func 217) #[] #[], .func (.func 214) #[] #[], .func (.func 214) #[] #[], .func (.func 214) #[] #[], .func (.func 214) #[] #[]]) (.int .i64 5)) W = .ok (.func (.func 214) #[] #[]) W := fun W => by kernel_rfl
  go_wp2_with fail
  go_region_held (fun w' => w'.cell? ⟨w.heap.size + 1, 0, none⟩ = some (.int .i64 5)) (go_keep)
    ((go_at_call 204; refine (steps_any _).mono ?_; rintro e w3 ⟨rfl, hb3⟩; have B3 := hide_it (B2.out.drew.trans (hb3.mono B2.out.size)); have BX3 := hide_it ((BX2.out.later (Below.refl _ _).drew (Nat.le_refl _)).later hb3 (Nat.le_refl _)); obtain ⟨_, ⟨s0, _⟩, _⟩ := BX3.out; clear hb3))
  have hi6 : (i : Int) < 6 := by omega
  have hwr : IntKind.i64.wrap ((i : Int) + 1 - 1) = (i : Int) := by simp [IntKind.wrap, IntKind.bits, IntKind.signed]; omega
  have hwi : IntKind.i64.wrap (i : Int) = (i : Int) := by simp [IntKind.wrap, IntKind.bits, IntKind.signed]; omega
  obtain ⟨d0, d1⟩ := HC.out _ B3.out
  obtain ⟨⟨y0, y1⟩, ⟨t0, t1, t2⟩, g0, g1, h0, h1⟩ := BX3.out
  clear x0 x1 r0 r1 r2 q0 q1 f0 f1 s0 hix
  go_wp2_with fail
  go_region_held (fun w' => w'.cell? ⟨w.heap.size, 0, none⟩ = some (.int .i64 room) ∧ w'.cell? ⟨w.heap.size, 1, none⟩ = some (.slice (some ⟨b, off, none⟩) 6 cap) ∧ w'.cell? ⟨w.heap.size + 1, 0, none⟩ = some (.int .i64 5) ∧ w'.cell? ⟨w.heap.size + 1, 1, none⟩ = some (.int .i64 ((i : Int) + 1)) ∧ w'.cell? ⟨w.heap.size + 1, 2, none⟩ = some (.slice au zs.length cu) ∧ w'.cell? ⟨b, off + i * 2, none⟩ = some (.int .i64 m) ∧ w'.cell? ⟨b, off + i * 2 + 1, none⟩ = some (.int .i64 s)) (first | (go_keep; done) | (refine ⟨?_, ?_, ?_, ?_, ?_, ?_, ?_⟩ <;> (rw [two_set_cells _ _ _ _ _ _ (by omega)]; assumption)))
    (first
    | (go_at_call 205; refine (HFR.out _ B3.out.drew).mono ?_; rintro e w4 ⟨rfl, hb4⟩; have B4 := hide_it (B3.out.drew.trans (hb4.mono B3.out.size)); have BX4 := hide_it ((BX3.out.later (Below.refl _ _).drew (Nat.le_refl _)).later hb4 (Nat.le_refl _)); obtain ⟨k0, k1⟩ := HC.out _ B4.out; obtain ⟨⟨l0, l1⟩, ⟨n0, n1, n2⟩, _⟩ := BX4.out; clear hb4)
    | (go_at_call 214; refine (HST.out _ B4.out).mono ?_; rintro e w5 ⟨p, q, rfl, hpq, hb5⟩; have HPQ := hide_it hpq; have B5 := hide_it (B4.out.trans (hb5.mono B4.out.size)); have BX5 := hide_it (BX4.out.later hb5 (Nat.le_refl _)); obtain ⟨m0, m1⟩ := HC.out _ B5.out; obtain ⟨⟨o0, o1⟩, ⟨v0, v1, v2⟩, z0, z1, j0, j1⟩ := BX5.out; have hw5 : w.heap.size + 2 < w5.heap.size := World.block_lt_of_cell? _ _ z0; clear hb5 hpq))
  go_wp2
  exact bodyPost_ret (v := .tuple #[.agg #[.int .i64 p, .int .i64 q], .bool o.isSome]) (by simp [results, Tryz.results183, go_sem, z0, z1]) rfl ⟨p, q, rfl, HPQ.out, (B5.out.setCell (by simp; omega) _).setCell (by simp; omega) _⟩

set_option maxRecDepth 100000 in
set_option maxHeartbeats 4000000 in
theorem behind_K6 (room : Int) (v : Value) (hs : List Pl.H) (t : Int) (u : Value) (zs : List Int) (a : Addr) (w : World) (hv : Holds w v hs) (hu : Ints w u zs) (hzl : zs.length ≤ 1048576) (ha : ErrAt w a) (hok : Pl.sOk room hs = true) (hrec : Pl.recOk 6 t zs = true) :
    Calls Tryz.prog 183 #[.agg #[.int .i64 room, v], .agg #[.int .i64 6, .int .i64 t, u]] w fun e w' => StepOut w w' e (Pl.behind room hs 6 t zs) := by
  rw [Pl.behind_ok hok hrec]
  obtain ⟨p1, p2, p3, p4⟩ := Pl.sOk_parts hok
  have HV : Hid (∀ W, Below w.heap.size w W → Holds W v hs) := fun W h => hv.later h (Nat.le_refl _)
  have HU : Hid (∀ W, Below w.heap.size w W → Ints W u zs) := fun W h => hu.later h (Nat.le_refl _)
  have HA : Hid (∀ W, Below w.heap.size w W → ErrAt W a) := fun W h => ha.later h (Nat.le_refl _)
  obtain ⟨i, hi, rfl, hat⟩ := trip_at hrec
  obtain ⟨F, hF⟩ : ∃ F, Pl.free room hs = F := ⟨_, rfl⟩
  have HFR : Hid (∀ W, Below w.heap.size w W → Calls Tryz.prog 205 #[.agg #[.int .i64 room, v]] W fun e w' => e = .returned (.int .i64 F) ∧ Below W.heap.size W w') := fun W h => by
    have := implFree_any room v hs W (HV.out W h) (by omega)
    rw [Pl.sFree_yes hok, hF] at this
    exact this
  obtain ⟨m, s, hms⟩ : ∃ m s, Pl.hAt hs ((i : Int) + 1) = (m, s) := ⟨_, _, rfl⟩
  rw [hF, hms]
  have HST : Hid (∀ W, Below w.heap.size w W → Calls Tryz.prog 214 #[.agg #[.int .i64 m, .int .i64 s], .agg #[.int .i64 6, .int .i64 ((i : Int) + 1), u], .int .i64 F] W fun e w' => StepOut W w' e (Pl.next (m, s) 6 (zs.headD 0) F)) := fun W h => by
    obtain ⟨au, cu, e⟩ := hu.shape
    exact noStep_any m s _ _ u _ F W (by decide) (by decide) (by decide) ⟨au, _, cu, e⟩
  obtain ⟨o, ho⟩ : ∃ o, Pl.next (m, s) 6 (zs.headD 0) F = o := ⟨_, rfl⟩
  rw [ho] at HST ⊢
  clear ho
  rcases hv with ⟨rfl, _⟩ | ⟨b, off, cap, rfl, hz, hc⟩
  · simp at p3
  have hmsd : hs.getD i (0, 0) = (m, s) := by rw [← hat]; exact hms
  have hbw : b < w.heap.size := World.block_lt_of_cell? _ _ (hc i (by omega)).1
  have HC : Hid (∀ W, Below w.heap.size w W → W.cell? ⟨b, off + i * 2, none⟩ = some (.int .i64 m) ∧ W.cell? ⟨b, off + i * 2 + 1, none⟩ = some (.int .i64 s)) := fun W h => by
    obtain ⟨h1, h2⟩ := hc i (by omega)
    rw [hmsd] at h1 h2
    have hl := World.block_lt_of_cell? _ _ h1
    simp at hl
    exact ⟨by rw [← h1]; exact h.cell (p := ⟨b, off + i * 2, none⟩) (by simp; omega), by rw [← h2]; exact h.cell (p := ⟨b, off + i * 2 + 1, none⟩) (by simp; omega)⟩
  rw [p3] at HFR ⊢
  have HOK : Hid (∀ W, Below w.heap.size w W → Calls Tryz.prog 203 #[.agg #[.int .i64 room, .slice (some ⟨b, off, none⟩) 6 cap]] W fun e w' => e = .returned (.bool true) ∧ Below W.heap.size W w') := fun W h => by
    have h1 := HV.out W h
    rw [p3] at h1
    have := implStockOk_any room _ hs W h1 (by omega)
    rw [hok] at this
    exact this
  obtain ⟨au, cu, rfl⟩ := hu.shape
  have BX := hide_it (Box3.new w (.int .i64 room) (.slice (some ⟨b, off, none⟩) 6 cap) 6 ((i : Int) + 1) (.slice au zs.length cu) 95 161 93)
  clear hc hz p1 p2 p3 p4 hat hms hmsd hF HV hu ha
  go_enter Tryz.func183, Tryz.ntmps183
  go_wp2_with fail
  refine (HOK.out _ (below3 w _ _ _)).mono ?_
  rintro e w1 ⟨rfl, hb1⟩
  have B1 := hide_it ((below3 w _ _ _).trans (hb1.mono (by simp; omega)))
  have BX1 := hide_it (BX.out.later hb1 (Nat.le_refl _))
  obtain ⟨⟨x0, x1⟩, ⟨r0, r1, r2⟩, q0, q1, f0, f1⟩ := BX1.out
  clear hb1
  go_wp2_with fail
  refine (implOk_any 6 _ _ zs a w1 (HU.out _ B1.out) hzl (HA.out _ B1.out)).mono ?_
  rintro e w2 ⟨rfl, hb2⟩
  rw [hrec]
  have B2 := hide_it (B1.out.trans (hb2.mono B1.out.size))
  have BX2 := hide_it (BX1.out.later hb2 (Nat.le_refl _))
  clear x0 x1 r0 r1 r2 q0 q1 f0 f1 hb2
  obtain ⟨⟨x0, x1⟩, ⟨r0, r1, r2⟩, q0, q1, f0, f1⟩ := BX2.out
  have hix : ∀ W, Sem.run Tryz.prog (Instr.index 254 (.agg #[.func (.func 214) #[] #[], .func (.func 215) #[] #[], .func (.func 216) #[] #[], .func (.func 217) #[] #[], .func (.func 214) #[] #[], .func (.func 214) #[] #[], .func (.func 214) #[] #[], .func (.func 214) #[] #[]]) (.int .i64 6)) W = .ok (.func (.func 214) #[] #[]) W := fun W => by kernel_rfl
  go_wp2_with fail
  go_region_held (fun w' => w'.cell? ⟨w.heap.size + 1, 0, none⟩ = some (.int .i64 6)) (go_keep)
    ((go_at_call 204; refine (steps_any _).mono ?_; rintro e w3 ⟨rfl, hb3⟩; have B3 := hide_it (B2.out.drew.trans (hb3.mono B2.out.size)); have BX3 := hide_it ((BX2.out.later (Below.refl _ _).drew (Nat.le_refl _)).later hb3 (Nat.le_refl _)); obtain ⟨_, ⟨s0, _⟩, _⟩ := BX3.out; clear hb3))
  have hi6 : (i : Int) < 6 := by omega
  have hwr : IntKind.i64.wrap ((i : Int) + 1 - 1) = (i : Int) := by simp [IntKind.wrap, IntKind.bits, IntKind.signed]; omega
  have hwi : IntKind.i64.wrap (i : Int) = (i : Int) := by simp [IntKind.wrap, IntKind.bits, IntKind.signed]; omega
  obtain ⟨d0, d1⟩ := HC.out _ B3.out
  obtain ⟨⟨y0, y1⟩, ⟨t0, t1, t2⟩, g0, g1, h0, h1⟩ := BX3.out
  clear x0 x1 r0 r1 r2 q0 q1 f0 f1 s0 hix
  go_wp2_with fail
  go_region_held (fun w' => w'.cell? ⟨w.heap.size, 0, none⟩ = some (.int .i64 room) ∧ w'.cell? ⟨w.heap.size, 1, none⟩ = some (.slice (some ⟨b, off, none⟩) 6 cap) ∧ w'.cell? ⟨w.heap.size + 1, 0, none⟩ = some (.int .i64 6) ∧ w'.cell? ⟨w.heap.size + 1, 1, none⟩ = some (.int .i64 ((i : Int) + 1)) ∧ w'.cell? ⟨w.heap.size + 1, 2, none⟩ = some (.slice au zs.length cu) ∧ w'.cell? ⟨b, off + i * 2, none⟩ = some (.int .i64 m) ∧ w'.cell? ⟨b, off + i * 2 + 1, none⟩ = some (.int .i64 s)) (first | (go_keep; done) | (refine ⟨?_, ?_, ?_, ?_, ?_, ?_, ?_⟩ <;> (rw [two_set_cells _ _ _ _ _ _ (by omega)]; assumption)))
    (first
    | (go_at_call 205; refine (HFR.out _ B3.out.drew).mono ?_; rintro e w4 ⟨rfl, hb4⟩; have B4 := hide_it (B3.out.drew.trans (hb4.mono B3.out.size)); have BX4 := hide_it ((BX3.out.later (Below.refl _ _).drew (Nat.le_refl _)).later hb4 (Nat.le_refl _)); obtain ⟨k0, k1⟩ := HC.out _ B4.out; obtain ⟨⟨l0, l1⟩, ⟨n0, n1, n2⟩, _⟩ := BX4.out; clear hb4)
    | (go_at_call 214; refine (HST.out _ B4.out).mono ?_; rintro e w5 ⟨p, q, rfl, hpq, hb5⟩; have HPQ := hide_it hpq; have B5 := hide_it (B4.out.trans (hb5.mono B4.out.size)); have BX5 := hide_it (BX4.out.later hb5 (Nat.le_refl _)); obtain ⟨m0, m1⟩ := HC.out _ B5.out; obtain ⟨⟨o0, o1⟩, ⟨v0, v1, v2⟩, z0, z1, j0, j1⟩ := BX5.out; have hw5 : w.heap.size + 2 < w5.heap.size := World.block_lt_of_cell? _ _ z0; clear hb5 hpq))
  go_wp2
  exact bodyPost_ret (v := .tuple #[.agg #[.int .i64 p, .int .i64 q], .bool o.isSome]) (by simp [results, Tryz.results183, go_sem, z0, z1]) rfl ⟨p, q, rfl, HPQ.out, (B5.out.setCell (by simp; omega) _).setCell (by simp; omega) _⟩

set_option maxRecDepth 100000 in
set_option maxHeartbeats 4000000 in
theorem behind_K7 (room : Int) (v : Value) (hs : List Pl.H) (t : Int) (u : Value) (zs : List Int) (a : Addr) (w : World) (hv : Holds w v hs) (hu : Ints w u zs) (hzl : zs.length ≤ 1048576) (ha : ErrAt w a) (hok : Pl.sOk room hs = true) (hrec : Pl.recOk 7 t zs = true) :
    Calls Tryz.prog 183 #[.agg #[.int .i64 room, v], .agg #[.int .i64 7, .int .i64 t, u]] w fun e w' => StepOut w w' e (Pl.behind room hs 7 t zs) := by
  rw [Pl.behind_ok hok hrec]
  obtain ⟨p1, p2, p3, p4⟩ := Pl.sOk_parts hok
  have HV : Hid (∀ W, Below w.heap.size w W → Holds W v hs) := fun W h => hv.later h (Nat.le_refl _)
  have HU : Hid (∀ W, Below w.heap.size w W → Ints W u zs) := fun W h => hu.later h (Nat.le_refl _)
  have HA : Hid (∀ W, Below w.heap.size w W → ErrAt W a) := fun W h => ha.later h (Nat.le_refl _)
  obtain ⟨i, hi, rfl, hat⟩ := trip_at hrec
  obtain ⟨F, hF⟩ : ∃ F, Pl.free room hs = F := ⟨_, rfl⟩
  have HFR : Hid (∀ W, Below w.heap.size w W → Calls Tryz.prog 205 #[.agg #[.int .i64 room, v]] W fun e w' => e = .returned (.int .i64 F) ∧ Below W.heap.size W w') := fun W h => by
    have := implFree_any room v hs W (HV.out W h) (by omega)
    rw [Pl.sFree_yes hok, hF] at this
    exact this
  obtain ⟨m, s, hms⟩ : ∃ m s, Pl.hAt hs ((i : Int) + 1) = (m, s) := ⟨_, _, rfl⟩
  rw [hF, hms]
  have HST : Hid (∀ W, Below w.heap.size w W → Calls Tryz.prog 214 #[.agg #[.int .i64 m, .int .i64 s], .agg #[.int .i64 7, .int .i64 ((i : Int) + 1), u], .int .i64 F] W fun e w' => StepOut W w' e (Pl.next (m, s) 7 (zs.headD 0) F)) := fun W h => by
    obtain ⟨au, cu, e⟩ := hu.shape
    exact noStep_any m s _ _ u _ F W (by decide) (by decide) (by decide) ⟨au, _, cu, e⟩
  obtain ⟨o, ho⟩ : ∃ o, Pl.next (m, s) 7 (zs.headD 0) F = o := ⟨_, rfl⟩
  rw [ho] at HST ⊢
  clear ho
  rcases hv with ⟨rfl, _⟩ | ⟨b, off, cap, rfl, hz, hc⟩
  · simp at p3
  have hmsd : hs.getD i (0, 0) = (m, s) := by rw [← hat]; exact hms
  have hbw : b < w.heap.size := World.block_lt_of_cell? _ _ (hc i (by omega)).1
  have HC : Hid (∀ W, Below w.heap.size w W → W.cell? ⟨b, off + i * 2, none⟩ = some (.int .i64 m) ∧ W.cell? ⟨b, off + i * 2 + 1, none⟩ = some (.int .i64 s)) := fun W h => by
    obtain ⟨h1, h2⟩ := hc i (by omega)
    rw [hmsd] at h1 h2
    have hl := World.block_lt_of_cell? _ _ h1
    simp at hl
    exact ⟨by rw [← h1]; exact h.cell (p := ⟨b, off + i * 2, none⟩) (by simp; omega), by rw [← h2]; exact h.cell (p := ⟨b, off + i * 2 + 1, none⟩) (by simp; omega)⟩
  rw [p3] at HFR ⊢
  have HOK : Hid (∀ W, Below w.heap.size w W → Calls Tryz.prog 203 #[.agg #[.int .i64 room, .slice (some ⟨b, off, none⟩) 6 cap]] W fun e w' => e = .returned (.bool true) ∧ Below W.heap.size W w') := fun W h => by
    have h1 := HV.out W h
    rw [p3] at h1
    have := implStockOk_any room _ hs W h1 (by omega)
    rw [hok] at this
    exact this
  obtain ⟨au, cu, rfl⟩ := hu.shape
  have BX := hide_it (Box3.new w (.int .i64 room) (.slice (some ⟨b, off, none⟩) 6 cap) 7 ((i : Int) + 1) (.slice au zs.length cu) 95 161 93)
  clear hc hz p1 p2 p3 p4 hat hms hmsd hF HV hu ha
  go_enter Tryz.func183, Tryz.ntmps183
  go_wp2_with fail
  refine (HOK.out _ (below3 w _ _ _)).mono ?_
  rintro e w1 ⟨rfl, hb1⟩
  have B1 := hide_it ((below3 w _ _ _).trans (hb1.mono (by simp; omega)))
  have BX1 := hide_it (BX.out.later hb1 (Nat.le_refl _))
  obtain ⟨⟨x0, x1⟩, ⟨r0, r1, r2⟩, q0, q1, f0, f1⟩ := BX1.out
  clear hb1
  go_wp2_with fail
  refine (implOk_any 7 _ _ zs a w1 (HU.out _ B1.out) hzl (HA.out _ B1.out)).mono ?_
  rintro e w2 ⟨rfl, hb2⟩
  rw [hrec]
  have B2 := hide_it (B1.out.trans (hb2.mono B1.out.size))
  have BX2 := hide_it (BX1.out.later hb2 (Nat.le_refl _))
  clear x0 x1 r0 r1 r2 q0 q1 f0 f1 hb2
  obtain ⟨⟨x0, x1⟩, ⟨r0, r1, r2⟩, q0, q1, f0, f1⟩ := BX2.out
  have hix : ∀ W, Sem.run Tryz.prog (Instr.index 254 (.agg #[.func (.func 214) #[] #[], .func (.func 215) #[] #[], .func (.func 216) #[] #[], .func (.func 217) #[] #[], .func (.func 214) #[] #[], .func (.func 214) #[] #[], .func (.func 214) #[] #[], .func (.func 214) #[] #[]]) (.int .i64 7)) W = .ok (.func (.func 214) #[] #[]) W := fun W => by kernel_rfl
  go_wp2_with fail
  go_region_held (fun w' => w'.cell? ⟨w.heap.size + 1, 0, none⟩ = some (.int .i64 7)) (go_keep)
    ((go_at_call 204; refine (steps_any _).mono ?_; rintro e w3 ⟨rfl, hb3⟩; have B3 := hide_it (B2.out.drew.trans (hb3.mono B2.out.size)); have BX3 := hide_it ((BX2.out.later (Below.refl _ _).drew (Nat.le_refl _)).later hb3 (Nat.le_refl _)); obtain ⟨_, ⟨s0, _⟩, _⟩ := BX3.out; clear hb3))
  have hi6 : (i : Int) < 6 := by omega
  have hwr : IntKind.i64.wrap ((i : Int) + 1 - 1) = (i : Int) := by simp [IntKind.wrap, IntKind.bits, IntKind.signed]; omega
  have hwi : IntKind.i64.wrap (i : Int) = (i : Int) := by simp [IntKind.wrap, IntKind.bits, IntKind.signed]; omega
  obtain ⟨d0, d1⟩ := HC.out _ B3.out
  obtain ⟨⟨y0, y1⟩, ⟨t0, t1, t2⟩, g0, g1, h0, h1⟩ := BX3.out
  clear x0 x1 r0 r1 r2 q0 q1 f0 f1 s0 hix
  go_wp2_with fail
  go_region_held (fun w' => w'.cell? ⟨w.heap.size, 0, none⟩ = some (.int .i64 room) ∧ w'.cell? ⟨w.heap.size, 1, none⟩ = some (.slice (some ⟨b, off, none⟩) 6 cap) ∧ w'.cell? ⟨w.heap.size + 1, 0, none⟩ = some (.int .i64 7) ∧ w'.cell? ⟨w.heap.size + 1, 1, none⟩ = some (.int .i64 ((i : Int) + 1)) ∧ w'.cell? ⟨w.heap.size + 1, 2, none⟩ = some (.slice au zs.length cu) ∧ w'.cell? ⟨b, off + i * 2, none⟩ = some (.int .i64 m) ∧ w'.cell? ⟨b, off + i * 2 + 1, none⟩ = some (.int .i64 s)) (first | (go_keep; done) | (refine ⟨?_, ?_, ?_, ?_, ?_, ?_, ?_⟩ <;> (rw [two_set_cells _ _ _ _ _ _ (by omega)]; assumption)))
    (first
    | (go_at_call 205; refine (HFR.out _ B3.out.drew).mono ?_; rintro e w4 ⟨rfl, hb4⟩; have B4 := hide_it (B3.out.drew.trans (hb4.mono B3.out.size)); have BX4 := hide_it ((BX3.out.later (Below.refl _ _).drew (Nat.le_refl _)).later hb4 (Nat.le_refl _)); obtain ⟨k0, k1⟩ := HC.out _ B4.out; obtain ⟨⟨l0, l1⟩, ⟨n0, n1, n2⟩, _⟩ := BX4.out; clear hb4)
    | (go_at_call 214; refine (HST.out _ B4.out).mono ?_; rintro e w5 ⟨p, q, rfl, hpq, hb5⟩; have HPQ := hide_it hpq; have B5 := hide_it (B4.out.trans (hb5.mono B4.out.size)); have BX5 := hide_it (BX4.out.later hb5 (Nat.le_refl _)); obtain ⟨m0, m1⟩ := HC.out _ B5.out; obtain ⟨⟨o0, o1⟩, ⟨v0, v1, v2⟩, z0, z1, j0, j1⟩ := BX5.out; have hw5 : w.heap.size + 2 < w5.heap.size := World.block_lt_of_cell? _ _ z0; clear hb5 hpq))
  go_wp2
  exact bodyPost_ret (v := .tuple #[.agg #[.int .i64 p, .int .i64 q], .bool o.isSome]) (by simp [results, Tryz.results183, go_sem, z0, z1]) rfl ⟨p, q, rfl, HPQ.out, (B5.out.setCell (by simp; omega) _).setCell (by simp; omega) _⟩

/-- What a record makes of its trip's hold, whatever the stock and the record. -/
theorem behind_any (room : Int) (v : Value) (hs : List Pl.H) (k t : Int) (u : Value) (zs : List Int) (a : Addr) (w : World) (hv : Holds w v hs) (hl : hs.length ≤ 1048576) (hu : Ints w u zs) (hzl : zs.length ≤ 1048576) (ha : ErrAt w a) :
    Calls Tryz.prog 183 #[.agg #[.int .i64 room, v], .agg #[.int .i64 k, .int .i64 t, u]] w fun e w' => StepOut w w' e (Pl.behind room hs k t zs) := by
  cases hok : Pl.sOk room hs
  · obtain ⟨au, cu, e⟩ := hu.shape
    exact behind_noStock room v hs k t u zs w hv hl ⟨au, _, cu, e⟩ hok
  cases hrec : Pl.recOk k t zs
  · exact behind_noRec room v hs k t u zs a w hv hl hu hzl ha hok hrec
  have hk := Pl.recOk_kind hrec
  rcases (show k = 1 ∨ k = 2 ∨ k = 3 ∨ k = 4 ∨ k = 5 ∨ k = 6 ∨ k = 7 by omega) with rfl | rfl | rfl | rfl | rfl | rfl | rfl
  · exact behind_K1 room v hs t u zs a w hv hu hzl ha hok hrec
  · exact behind_K2 room v hs t u zs a w hv hu hzl ha hok hrec
  · exact behind_K3 room v hs t u zs a w hv hu hzl ha hok hrec
  · exact behind_K4 room v hs t u zs a w hv hu hzl ha hok hrec
  · exact behind_K5 room v hs t u zs a w hv hu hzl ha hok hrec
  · exact behind_K6 room v hs t u zs a w hv hu hzl ha hok hrec
  · exact behind_K7 room v hs t u zs a w hv hu hzl ha hok hrec

end Go.Proofs.YtkkkdgpbmmjieaaGreatDoor

namespace Go.Proofs.YtkkkdgpbmmjieaaGreatDoor
open Go.RowKit

set_option maxHeartbeats 2000000 in
theorem implMay_any (room : Int) (v : Value) (hs : List Pl.H) (k t : Int) (u : Value) (zs : List Int) (a : Addr) (w : World) (hv : Holds w v hs) (hl : hs.length ≤ 1048576) (hu : Ints w u zs) (hzl : zs.length ≤ 1048576) (ha : ErrAt w a) :
    Calls Tryz.prog 195 #[.agg #[.int .i64 room, v], .agg #[.int .i64 k, .int .i64 t, u]] w fun e w' => e = .returned (.bool (Pl.sMay room hs k t zs)) ∧ Below w.heap.size w w' := by
  have HB : Hid (∀ W, Below w.heap.size w W → Calls Tryz.prog 183 #[.agg #[.int .i64 room, v], .agg #[.int .i64 k, .int .i64 t, u]] W fun e w' => StepOut W w' e (Pl.behind room hs k t zs)) := fun W h =>
    behind_any room v hs k t u zs a W (hv.later h (Nat.le_refl _)) hl (hu.later h (Nat.le_refl _)) hzl (ha.later h (Nat.le_refl _))
  unfold Pl.sMay
  obtain ⟨o, ho⟩ : ∃ o, Pl.behind room hs k t zs = o := ⟨_, rfl⟩
  rw [ho] at HB ⊢
  obtain ⟨av, cv, rfl⟩ := hv.shape
  obtain ⟨au, cu, rfl⟩ := hu.shape
  clear ho hv hu ha
  go_enter Tryz.func195, Tryz.ntmps195
  go_wp2_with fail
  refine (HB.out _ (below2 w _ _)).mono ?_
  rintro e w1 ⟨p, q, rfl, -, hb1⟩
  have B1 := hide_it ((below2 w _ _).trans (hb1.mono (by simp; omega)))
  clear hb1
  go_wp2
  go_ret
  exact ⟨rfl, B1.out.alloc B1.out.size _⟩

end Go.Proofs.YtkkkdgpbmmjieaaGreatDoor

namespace Go.Proofs.YtkkkdgpbmmjieaaGreatDoor
open Go.RowKit

/-- What comes out where a stock, or nothing, does: its room, its holds. -/
def oR (room : Int) (o : Option (List Pl.H)) : Int := match o with | some _ => room | none => 0
def oH (o : Option (List Pl.H)) : List Pl.H := o.getD []
def StOut (W w' : World) (e : Ending) (RR : Int) (HS : List Pl.H) (BB : Bool) : Prop :=
  ∃ ao cap, e = .returned (.tuple #[.agg #[.int .i64 RR, .slice ao HS.length cap], .bool BB]) ∧ w'.ownsRow W.heap.size 93 2 (.slice ao HS.length cap) HS.length (hflat HS) ∧ Below W.heap.size W w'
def newO (room : Int) : Option (List Pl.H) := if Pl.inB room 0 9 = true then some Pl.noHolds else none

theorem grown_al {w w2 : World} {x y : Value} {ty : TypeId} (hg : (w.alloc (.cells #[x, y] ty)).grownBy w2 none) : Below w.heap.size w w2 ∧ w.heap.size < w2.heap.size ∧
    w2.cell? ⟨w.heap.size, 0, none⟩ = some x ∧ w2.cell? ⟨w.heap.size, 1, none⟩ = some y ∧ w2.frozen? ⟨w.heap.size, 0, none⟩ = false ∧ w2.frozen? ⟨w.heap.size, 1, none⟩ = false := by
  have hb : Below (w.heap.size + 1) (w.alloc (.cells #[x, y] ty)) w2 := (Below.refl _ _).grown hg (by simp) (fun k h => by cases h)
  have hs := hb.size
  simp at hs
  refine ⟨(al_below w _).trans (hb.mono (by omega)), by omega, ?_, ?_, ?_, ?_⟩
  · rw [hb.cell (p := ⟨w.heap.size, 0, none⟩) (by simp)]; simp
  · rw [hb.cell (p := ⟨w.heap.size, 1, none⟩) (by simp)]; simp
  · rw [hb.frozen (p := ⟨w.heap.size, 0, none⟩) (by simp)]; simp [go_sem]
  · rw [hb.frozen (p := ⟨w.heap.size, 1, none⟩) (by simp)]; simp [go_sem]

set_option maxHeartbeats 1000000 in
theorem specNew_any (room : Int) (w : World) :
    Calls Tryz.prog 119 #[.int .i64 room] w fun e w' => StOut w w' e (oR room (newO room)) (oH (newO room)) (newO room).isSome := by
  obtain ⟨i0, hi, hz0, hz1, hz2⟩ := info_parts infoHold
  have hbytes : i0.bytes * 6 ≤ 281474976710656 := by rw [hz2]; omega
  have hmax : 6 ≤ maxLen := by unfold maxLen; omega
  cases hr : Pl.inB room 0 9
  · have e : newO room = none := by simp [newO, hr]
    rw [e]
    go_enter Tryz.func119, Tryz.ntmps119
    go_wp2_with (go_at_call 49; refine (in_any _ _ _ _).mono ?_; rintro e w1 ⟨rfl, rfl⟩; rw [hr])
    refine bodyPost_ret (v := .tuple #[.agg #[.int .i64 0, .slice none 0 0], .bool false]) (by simp [results, Tryz.results119, go_sem]) rfl ⟨none, 0, rfl, World.ownsRow_nil _ _ _ _, ?_⟩
    first | exact al_below _ _ | exact (al_below _ _).setCell (by simp) _ | exact ((al_below _ _).setCell (by simp) _).setCell (by simp) _
  · have e : newO room = some Pl.noHolds := by simp [newO, hr]
    rw [e]
    go_enter Tryz.func119, Tryz.ntmps119
    go_wp2_with (first
      | (go_at_call 49; refine (in_any _ _ _ _).mono ?_; rintro e w1 ⟨rfl, rfl⟩; rw [hr])
      | (at_make; refine wpList_make_full _ rfl _ _ 45 rfl (w.heap.size + 1) 93 i0 (.agg #[.int .i64 0, .int .i64 0]) 2 Tryz.underlying45 hi hz0 hz1 .i64 .i64 _ _ 6 rfl rfl rfl rfl hbytes hmax (by simp) ?_; intro w2 hown hgrow; have HO := hide_it hown; obtain ⟨hbb, hws, g0, g1, f0, f1⟩ := grown_al hgrow; have HB := hide_it hbb; clear hown hgrow hbb))
    have HO2 : Hid (w2.ownsRow (w.heap.size + 1) 93 2 (.slice (some ⟨w.heap.size + 1, 0, none⟩) 6 6) 6 (hflat Pl.noHolds)) := by
      have := made_two 6
      have h := HO.out
      rw [show (Value.agg #[.int .i64 0, .int .i64 0]).cells = #[.int .i64 0, .int .i64 0] from rfl, this] at h
      rw [World.size_alloc] at h
      exact h
    refine bodyPost_ret (v := .tuple #[.agg #[.int .i64 room, .slice (some ⟨w.heap.size + 1, 0, none⟩) 6 6], .bool true]) (by simp [results, Tryz.results119, go_sem, g0, g1]) rfl ⟨_, _, rfl, ?_, ?_⟩
    · exact ownsRow_base (ownsRow_setCell_below (ownsRow_setCell_below HO2.out (by simp) _) (by simp) _) (by omega)
    · exact (HB.out.setCell (by simp) _).setCell (by simp) _

set_option maxHeartbeats 1000000 in
theorem implNew_any (room : Int) (w : World) :
    Calls Tryz.prog 160 #[.int .i64 room] w fun e w' => StOut w w' e (oR room (newO room)) (oH (newO room)) (newO room).isSome := by
  obtain ⟨i0, hi, hz0, hz1, hz2⟩ := info_parts infoHold
  have hbytes : i0.bytes * 6 ≤ 281474976710656 := by rw [hz2]; omega
  have hmax : 6 ≤ maxLen := by unfold maxLen; omega
  cases hr : Pl.inB room 0 9
  · have e : newO room = none := by simp [newO, hr]
    rw [e]
    go_enter Tryz.func160, Tryz.ntmps160
    go_wp2_with (go_at_call 150; refine (roomOk_any _ _).mono ?_; rintro e w1 ⟨rfl, rfl⟩; rw [hr])
    refine bodyPost_ret (v := .tuple #[.agg #[.int .i64 0, .slice none 0 0], .bool false]) (by simp [results, Tryz.results160, go_sem]) rfl ⟨none, 0, rfl, World.ownsRow_nil _ _ _ _, ?_⟩
    first | exact al_below _ _ | exact (al_below _ _).setCell (by simp) _ | exact ((al_below _ _).setCell (by simp) _).setCell (by simp) _
  · have e : newO room = some Pl.noHolds := by simp [newO, hr]
    rw [e]
    go_enter Tryz.func160, Tryz.ntmps160
    go_wp2_with (first
      | (go_at_call 150; refine (roomOk_any _ _).mono ?_; rintro e w1 ⟨rfl, rfl⟩; rw [hr])
      | (at_make; refine wpList_make_full _ rfl _ _ 45 rfl (w.heap.size + 1) 93 i0 (.agg #[.int .i64 0, .int .i64 0]) 2 Tryz.underlying45 hi hz0 hz1 .i64 .i64 _ _ 6 rfl rfl rfl rfl hbytes hmax (by simp) ?_; intro w2 hown hgrow; have HO := hide_it hown; obtain ⟨hbb, hws, g0, g1, f0, f1⟩ := grown_al hgrow; have HB := hide_it hbb; clear hown hgrow hbb))
    have HO2 : Hid (w2.ownsRow (w.heap.size + 1) 93 2 (.slice (some ⟨w.heap.size + 1, 0, none⟩) 6 6) 6 (hflat Pl.noHolds)) := by
      have := made_two 6
      have h := HO.out
      rw [show (Value.agg #[.int .i64 0, .int .i64 0]).cells = #[.int .i64 0, .int .i64 0] from rfl, this] at h
      rw [World.size_alloc] at h
      exact h
    refine bodyPost_ret (v := .tuple #[.agg #[.int .i64 room, .slice (some ⟨w.heap.size + 1, 0, none⟩) 6 6], .bool true]) (by simp [results, Tryz.results160, go_sem, g0, g1]) rfl ⟨_, _, rfl, ?_, ?_⟩
    · exact ownsRow_base (ownsRow_setCell_below (ownsRow_setCell_below HO2.out (by simp) _) (by simp) _) (by omega)
    · exact (HB.out.setCell (by simp) _).setCell (by simp) _

end Go.Proofs.YtkkkdgpbmmjieaaGreatDoor

namespace Go.Proofs.YtkkkdgpbmmjieaaGreatDoor
open Go.RowKit

theorem hflat_one (hs : List Pl.H) : ∀ u ∈ hflat hs, u.oneCell' = true := by
  induction hs with
  | nil => intro u hu; simp [hflat] at hu
  | cons h t ih =>
    intro u hu
    simp only [hflat, List.mem_cons] at hu
    rcases hu with rfl | rfl | hu
    · rfl
    · rfl
    · exact ih u hu

theorem hflat_cells {w : World} {b off : Nat} {hs : List Pl.H} (hc : ∀ k, k < hs.length → w.cell? ⟨b, off + k * 2, none⟩ = some (.int .i64 (hs.getD k (0, 0)).1) ∧ w.cell? ⟨b, off + k * 2 + 1, none⟩ = some (.int .i64 (hs.getD k (0, 0)).2)) :
    ∀ j u, (hflat hs)[j]? = some u → w.cell? ((⟨b, off, none⟩ : Addr).add j) = some u := by
  intro j u hj
  have hjl : j < hs.length * 2 := by
    by_cases e : j < hs.length * 2
    · exact e
    · rw [List.getElem?_eq_none (by rw [hflat_length]; omega)] at hj; cases hj
  obtain ⟨f0, f1⟩ := hflat_get hs (j / 2) (by omega)
  obtain ⟨c0, c1⟩ := hc (j / 2) (by omega)
  rw [Go.WideShapes.add_plain]
  rcases (show j = j / 2 * 2 ∨ j = j / 2 * 2 + 1 by omega) with e | e
  · rw [← e] at f0 c0
    rw [c0, ← f0]; exact hj
  · rw [← e] at f1
    rw [show off + j = off + j / 2 * 2 + 1 by omega, c1, ← f1]; exact hj

/-- Holds appended to a row of holds of the call's own. -/
theorem run_append_holds (w : World) (base ty : Nat) (v xv : Value) (n : Nat) (xs : List Value) (hs : List Pl.H) (hown : w.ownsRow base 93 2 v n xs) (hI : Holds w xv hs) (hb : n + hs.length ≤ 8388608) (hbase : base ≤ w.heap.size) :
    ∃ v' w', (Builtin.append_ #[45, 45] ty #[v, xv]).run Tryz.prog w = .ok v' w' ∧ w'.ownsRow base 93 2 v' (n + hs.length) (xs ++ hflat hs) ∧ w.grownBy w' v.ownBlock := by
  obtain ⟨i0, hi, hz0, hz1, hz2⟩ := info_parts infoHold
  rcases hI with ⟨rfl, ao, cap, rfl, hao⟩ | ⟨b, off, cap, rfl, hz, hc⟩
  · cases ao with
    | none =>
      obtain rfl := hao rfl
      exact ⟨v, w, run_append_owned_none w base 45 ty 93 i0 2 Tryz.underlying45 hi v n xs hown, by simpa [hflat] using hown, World.grownBy.refl _ _⟩
    | some a =>
      obtain ⟨v', w', h1, h2, h3, _⟩ := run_append_own (P := Tryz.prog) w base 45 ty 93 i0 (.agg #[.int .i64 0, .int .i64 0]) 2 16 Tryz.underlying45 hi hz0 hz1 hz2 rfl (by decide) v n xs hown a 0 cap [] rfl (fun j u h => by simp at h) (fun u h => by simp at h) (by unfold maxLen; omega) (by simp at hb; omega) hbase
      exact ⟨v', w', h1, by simpa [hflat] using h2, h3⟩
  · obtain ⟨v', w', h1, h2, h3, _⟩ := run_append_own (P := Tryz.prog) w base 45 ty 93 i0 (.agg #[.int .i64 0, .int .i64 0]) 2 16 Tryz.underlying45 hi hz0 hz1 hz2 rfl (by decide) v n xs hown ⟨b, off, none⟩ hs.length cap (hflat hs) (hflat_length hs) (hflat_cells hc) (hflat_one hs) (by unfold maxLen; omega) (by omega) hbase
    exact ⟨v', w', h1, h2, h3⟩

theorem step_append_holds {ops : Array Oper} {o : Oper} {a : Act} {w : World} {K : Act → World → Prop} {Q : Exit → Act → World → Prop} {E : Prop} (hgd : o.guard = none) (s x : Operand)
    (ho : o.op = .call { callee := .builtin .append, args := #[s, x], argTypes := #[45, 45] })
    (base : Nat) (v xv : Value) (n : Nat) (xs : List Value) (hs : List Pl.H) (he : a.eval s = v) (hx : a.eval x = xv) (hown : w.ownsRow base 93 2 v n xs) (hI : Holds w xv hs) (N : Nat) (hN : n + hs.length = N) (hpos : 0 < N) (hb : N ≤ 8388608) (hbase : base ≤ w.heap.size)
    (h : ∀ g cap w', w'.ownsRow base 93 2 (.slice (some ⟨g, 0, none⟩) N cap) N (xs ++ hflat hs) → w.grownBy w' v.ownBlock → K (a.put o.dst (.slice (some ⟨g, 0, none⟩) N cap)) w') :
    if Region.wanted o (yielded ops a.tmps) = true then Oper.wp Tryz.prog o a w K Q else E := by
  have hw : Region.wanted o (yielded ops a.tmps) = true := by simp [Region.wanted, hgd]
  rw [if_pos hw]
  obtain ⟨v', w', hrun, r1, r2⟩ := run_append_holds w base o.type v xv n xs hs hown hI (by omega) hbase
  rw [hN] at r1
  obtain ⟨g, cap, rfl⟩ : ∃ g cap, v' = .slice (some ⟨g, 0, none⟩) N cap := by
    rcases r1.2 with ⟨_, h0⟩ | ⟨g, cap, cur, hv, _⟩
    · omega
    · exact ⟨g, cap, hv⟩
  unfold Oper.wp
  simp [execOp, ho, resolve, invoke, builtin, he, hx, hrun, Result.andThen]
  exact h g cap w' r1 r2

theorem wpList_append_holds {ops : Array Oper} {rest : List Oper} {o : Oper} {a : Act} {w : World} {Q : Exit → Act → World → Prop} (hgd : o.guard = none) (s x : Operand)
    (ho : o.op = .call { callee := .builtin .append, args := #[s, x], argTypes := #[45, 45] })
    (base : Nat) (v xv : Value) (n : Nat) (xs : List Value) (hs : List Pl.H) (he : a.eval s = v) (hx : a.eval x = xv) (hown : w.ownsRow base 93 2 v n xs) (hI : Holds w xv hs) (N : Nat) (hN : n + hs.length = N) (hpos : 0 < N) (hb : N ≤ 8388608) (hbase : base ≤ w.heap.size)
    (h : ∀ g cap w', w'.ownsRow base 93 2 (.slice (some ⟨g, 0, none⟩) N cap) N (xs ++ hflat hs) → w.grownBy w' v.ownBlock → wpList Tryz.prog ops Q rest (a.put o.dst (.slice (some ⟨g, 0, none⟩) N cap)) w') :
    wpList Tryz.prog ops Q (o :: rest) a w := by
  refine wpList_plain hgd fun K hK' => ?_
  obtain ⟨v', w', hrun, r1, r2⟩ := run_append_holds w base o.type v xv n xs hs hown hI (by omega) hbase
  rw [hN] at r1
  obtain ⟨g, cap, rfl⟩ : ∃ g cap, v' = .slice (some ⟨g, 0, none⟩) N cap := by
    rcases r1.2 with ⟨_, h0⟩ | ⟨g, cap, cur, hv, _⟩
    · omega
    · exact ⟨g, cap, hv⟩
  unfold Oper.wp
  simp [execOp, ho, resolve, invoke, builtin, he, hx, hrun, Result.andThen]
  exact hK' _ _ (h g cap w' r1 r2)

/-- The two cells of a hold in a row of six. -/
theorem row_pair {w : World} {base g cap : Nat} {hs : List Pl.H} (h : w.ownsRow base 93 2 (.slice (some ⟨g, 0, none⟩) 6 cap) 6 (hflat hs)) (i : Nat) (hi : i < 6) :
    ∃ y0 y1, w.cell? ⟨g, i * 2, none⟩ = some y0 ∧ w.cell? ⟨g, i * 2 + 1, none⟩ = some y1 ∧ w.frozen? ⟨g, i * 2, none⟩ = false ∧ w.frozen? ⟨g, i * 2 + 1, none⟩ = false := by
  have cellEx : ∀ j, j < 6 * 2 → ∃ x, w.cell? ⟨g, j, none⟩ = some x := fun j hj => by
    have h1 := h.cellAt j hj
    have h2 : j < (hflat hs).length := by rw [h.1]; exact hj
    exact ⟨_, by rw [h1, List.getElem?_eq_getElem h2]⟩
  obtain ⟨y0, hy0⟩ := cellEx (i * 2) (by omega)
  obtain ⟨y1, hy1⟩ := cellEx (i * 2 + 1) (by omega)
  exact ⟨y0, y1, hy0, hy1, h.frozenAt _, h.frozenAt _⟩

/-- The two boxes and the answer's own, as a StockDo begins. -/
def BoxS (W : World) (B : Nat) (x y : Value) (k t : Int) (u : Value) : Prop :=
  Duo W B x y ∧ RecAt W (B + 1) k t u ∧ W.cell? ⟨B + 2, 0, none⟩ = some (.int .i64 0) ∧ W.cell? ⟨B + 2, 1, none⟩ = some (.slice none 0 0) ∧ W.frozen? ⟨B + 2, 0, none⟩ = false ∧ W.frozen? ⟨B + 2, 1, none⟩ = false
theorem BoxS.later {C : Nat} {W W' : World} {B : Nat} {x y : Value} {k t : Int} {u : Value} (h : BoxS W B x y k t u) (hb : Below C W W') (hC : B + 3 ≤ C) : BoxS W' B x y k t u := by
  obtain ⟨h1, h2, h3, h4, h5, h6⟩ := h
  refine ⟨⟨?_, ?_⟩, ⟨?_, ?_, ?_⟩, ?_, ?_, ?_, ?_⟩
  · rw [← h1.1]; exact hb.cell (p := ⟨B, 0, none⟩) (by simp; omega)
  · rw [← h1.2]; exact hb.cell (p := ⟨B, 1, none⟩) (by simp; omega)
  · rw [← h2.1]; exact hb.cell (p := ⟨B + 1, 0, none⟩) (by simp; omega)
  · rw [← h2.2.1]; exact hb.cell (p := ⟨B + 1, 1, none⟩) (by simp; omega)
  · rw [← h2.2.2]; exact hb.cell (p := ⟨B + 1, 2, none⟩) (by simp; omega)
  · rw [← h3]; exact hb.cell (p := ⟨B + 2, 0, none⟩) (by simp; omega)
  · rw [← h4]; exact hb.cell (p := ⟨B + 2, 1, none⟩) (by simp; omega)
  · rw [← h5]; exact hb.frozen (p := ⟨B + 2, 0, none⟩) (by simp; omega)
  · rw [← h6]; exact hb.frozen (p := ⟨B + 2, 1, none⟩) (by simp; omega)
theorem BoxS.new (w : World) (x y : Value) (k t : Int) (u : Value) (t1 t2 t3 : TypeId) : BoxS (((w.alloc (.cells #[x, y] t1)).alloc (.cells #[.int .i64 k, .int .i64 t, u] t2)).alloc (.cells #[.int .i64 0, .slice none 0 0] t3)) w.heap.size x y k t u := by
  refine ⟨⟨?_, ?_⟩, ⟨?_, ?_, ?_⟩, ?_, ?_, ?_, ?_⟩ <;> simp [go_sem]
theorem BoxS.lt {W : World} {B : Nat} {x y : Value} {k t : Int} {u : Value} (h : BoxS W B x y k t u) : B + 2 < W.heap.size := by simpa using World.block_lt_of_cell? _ _ h.2.2.1

theorem StOut.none_ {W w' : World} (hb : Below W.heap.size W w') : StOut W w' (.returned (.tuple #[.agg #[.int .i64 0, .slice none 0 0], .bool false])) 0 [] false := ⟨none, 0, rfl, World.ownsRow_nil _ _ _ _, hb⟩

set_option maxRecDepth 100000 in
set_option maxHeartbeats 4000000 in
theorem implDo_any (room : Int) (v : Value) (hs : List Pl.H) (k t : Int) (u : Value) (zs : List Int) (a : Addr) (w : World) (hv : Holds w v hs) (hl : hs.length ≤ 1048576) (hu : Ints w u zs) (hzl : zs.length ≤ 1048576) (ha : ErrAt w a) :
    Calls Tryz.prog 161 #[.agg #[.int .i64 room, v], .agg #[.int .i64 k, .int .i64 t, u]] w fun e w' => StOut w w' e (oR room (Pl.sDo room hs k t zs)) (oH (Pl.sDo room hs k t zs)) (Pl.sDo room hs k t zs).isSome := by
  have HB : Hid (∀ W, Below w.heap.size w W → Calls Tryz.prog 183 #[.agg #[.int .i64 room, v], .agg #[.int .i64 k, .int .i64 t, u]] W fun e w' => StepOut W w' e (Pl.behind room hs k t zs)) := fun W h =>
    behind_any room v hs k t u zs a W (hv.later h (Nat.le_refl _)) hl (hu.later h (Nat.le_refl _)) hzl (ha.later h (Nat.le_refl _))
  have HV : Hid (∀ W, Below w.heap.size w W → Holds W v hs) := fun W h => hv.later h (Nat.le_refl _)
  obtain ⟨av, cv, rfl⟩ := hv.shape
  obtain ⟨au, cu, rfl⟩ := hu.shape
  have BX := hide_it (BoxS.new w (.int .i64 room) (.slice av hs.length cv) k t (.slice au zs.length cu) 95 161 95)
  clear hv hu ha
  cases ho : Pl.behind room hs k t zs with
  | none =>
    have e : Pl.sDo room hs k t zs = none := by unfold Pl.sDo; rw [ho]; rfl
    rw [e]
    rw [ho] at HB
    go_enter Tryz.func161, Tryz.ntmps161
    go_wp2_with fail
    refine (HB.out _ (below3 w _ _ _)).mono ?_
    rintro e w1 ⟨p, q, rfl, -, hb1⟩
    have B1 := hide_it ((below3 w _ _ _).trans (hb1.mono (by simp; omega)))
    obtain ⟨_, _, q0, q1, f0, f1⟩ := (BX.out.later hb1 (by simp)).later (al_below w1 (.cells #[.int .i64 p, .int .i64 q] 93)) (by have := hb1.size; simp at this; omega)
    have hz1 : w.heap.size + 3 ≤ w1.heap.size := by have := hb1.size; simp at this; omega
    clear hb1
    go_wp2
    exact bodyPost_ret (v := .tuple #[.agg #[.int .i64 0, .slice none 0 0], .bool false]) (by simp [results, Tryz.results161, go_sem, q0, q1]) rfl (StOut.none_ (((B1.out.alloc B1.out.size _).setCell (by simp; omega) _).setCell (by simp; omega) _))
  | some h =>
    have e : Pl.sDo room hs k t zs = some (hs.set (Pl.at_ t) h) := by unfold Pl.sDo; rw [ho]; rfl
    rw [e]
    have hrec : Pl.recOk k t zs = true := by
      cases hr : Pl.recOk k t zs
      · rw [Pl.behind_rec room hs hr] at ho; cases ho
      · rfl
    have hok : Pl.sOk room hs = true := by
      cases hr : Pl.sOk room hs
      · rw [Pl.behind_stock k t zs hr] at ho; cases ho
      · rfl
    obtain ⟨_, _, p3, _⟩ := Pl.sOk_parts hok
    rw [ho] at HB
    obtain ⟨i, hi, rfl, hat⟩ := trip_at hrec
    rw [hat]
    have P3 := hide_it p3
    rw [p3] at HB BX ⊢
    rw [p3] at HV
    clear e ho hrec hok hat p3 hl
    go_enter Tryz.func161, Tryz.ntmps161
    go_wp2_with fail
    refine (HB.out _ (below3 w _ _ _)).mono ?_
    rintro e w1 ⟨p, q, rfl, hpq, hb1⟩
    have hh := hpq h rfl
    have HH := hide_it hh
    have B1 := hide_it ((below3 w _ _ _).trans (hb1.mono (by simp; omega)))
    have BX1 := hide_it (BX.out.later hb1 (by simp))
    have hz1 : w.heap.size + 3 ≤ w1.heap.size := by have := hb1.size; simp at this; omega
    clear hb1 hpq hh
    have BX2 := BX1.out.later (al_below w1 (.cells #[.int .i64 p, .int .i64 q] 93)) hz1
    obtain ⟨⟨x0, x1⟩, ⟨r0, r1, r2⟩, q0, q1, f0, f1⟩ := BX2
    have D2 := hide_it (Duo.new w1 (.int .i64 p) (.int .i64 q) 93)
    have HV2 := hide_it (HV.out _ (B1.out.alloc B1.out.size (.cells #[.int .i64 p, .int .i64 q] 93)))
    go_wp2_with (at_builtin; refine wpList_append_holds rfl _ _ rfl (w1.heap.size + 1) (.slice none 0 0) (.slice av 6 cv) 0 [] hs rfl rfl (World.ownsRow_nil _ _ _ _) HV2.out 6 (by have := P3.out; omega) (by decide) (by decide) (by simp) ?_; intro g cap w3 hown3 hgrow3; simp only [List.nil_append] at hown3; have hb3 := grown_below hgrow3; have B3 := hide_it ((B1.out.alloc B1.out.size (.cells #[.int .i64 p, .int .i64 q] 93)).trans (hb3.mono (by have := B1.out.size; simp; omega))); have O3 := hide_it hown3; have hgl := hown3.lt g rfl; have D3 := D2.out.later hb3 (Nat.le_refl _); have BX3 := (BX1.out.later (al_below w1 (.cells #[.int .i64 p, .int .i64 q] 93)) hz1).later hb3 (by simp; omega); clear hb3 hown3 hgrow3 x0 x1 r0 r1 r2 q0 q1 f0 f1; obtain ⟨d0, d1⟩ := D3; obtain ⟨⟨x0, x1⟩, ⟨r0, r1, r2⟩, q0, q1, f0, f1⟩ := BX3; obtain ⟨y0, y1, hy0, hy1, z0, z1⟩ := row_pair O3.out i hi; have ST := hide_it (stored2 O3.out i (by have := P3.out; omega) (p, q)).1; have hgn : ¬ g = w.heap.size := (by omega); have hgn1 : ¬ g = w.heap.size + 1 := (by omega); have hgn2 : ¬ g = w.heap.size + 1 + 1 := (by omega); have hgn3 : ¬ g = w1.heap.size := (by omega))
    have hlen : (hs.set i h).length = 6 := by rw [List.length_set]; exact P3.out
    refine bodyPost_ret (v := .tuple #[.agg #[.int .i64 room, .slice (some ⟨g, 0, none⟩) 6 cap], .bool true]) (by simp [results, Tryz.results161, go_sem, q0, q1]) rfl ⟨some ⟨g, 0, none⟩, cap, ?_, ?_, ?_⟩
    · show _ = _
      simp only [oR, oH, Option.getD_some, hlen]
    · simp only [oH, Option.getD_some, hlen]
      have h1 := ST.out
      rw [← HH.out] at h1
      exact ownsRow_base (ownsRow_setCell_below (ownsRow_setCell_below h1 (by simp; omega) _) (by simp; omega) _) (by omega)
    · exact (((B3.out.setCell (by simp; omega) _).setCell (by simp; omega) _).setCell (by simp; omega) _).setCell (by simp; omega) _

theorem bcell2 {B : Nat} {W w1 : World} (hb : Below B W w1) : (∀ b o, b < B → w1.cell? ⟨b, o, none⟩ = W.cell? ⟨b, o, none⟩) ∧ (∀ b o, b < B → w1.frozen? ⟨b, o, none⟩ = W.frozen? ⟨b, o, none⟩) :=
  ⟨fun b o h => hb.cell (p := ⟨b, o, none⟩) h, fun b o h => hb.frozen (p := ⟨b, o, none⟩) h⟩

end Go.Proofs.YtkkkdgpbmmjieaaGreatDoor

namespace Go.Proofs.YtkkkdgpbmmjieaaGreatDoor
open Go.RowKit

theorem setCell_mid (W : World) (b o : Nat) (x : Value) : Mid b (b + 1) W (W.setCell ⟨b, o, none⟩ x) :=
  ⟨rfl, rfl, rfl, by simp, fun k hk hh => Below.heap_setCell _ _ _ _ (by simp; omega)⟩
theorem Mid.then_below {lo hi : Nat} {w a b : World} (h : Mid lo hi w a) (hb : Below w.heap.size a b) : Mid lo hi w b :=
  ⟨hb.os.trans h.os, hb.tape.trans h.tape, hb.output.trans h.output, Nat.le_trans h.size hb.size, fun k hk hh => (hb.block k hk).trans (h.block k hk hh)⟩

/-- What a record that may come makes of its trip's hold, kind by kind. -/
theorem next_some {h : Pl.H} {m s k z F : Int} (e : Pl.next (m, s) k z F = some h) : (k = 1 ∧ h = (z, 1)) ∨ (k = 2 ∧ h = (m, 2)) ∨ (k = 3 ∧ h = (m, 3)) := by
  by_cases k1 : k = 1
  · subst k1
    rw [next_1] at e
    split at e
    · exact Or.inl ⟨rfl, (by simpa using e.symm)⟩
    · cases e
  by_cases k2 : k = 2
  · subst k2
    rw [next_2] at e
    split at e
    · exact Or.inr (Or.inl ⟨rfl, (by simpa using e.symm)⟩)
    · cases e
  by_cases k3 : k = 3
  · subst k3
    rw [next_3] at e
    split at e
    · exact Or.inr (Or.inr ⟨rfl, (by simpa using e.symm)⟩)
    · cases e
  · rw [next_x _ _ _ _ k1 k2 k3] at e; cases e
theorem behind_parts {room : Int} {hs : List Pl.H} {k t : Int} {zs : List Int} {h : Pl.H} (e : Pl.behind room hs k t zs = some h) : Pl.sOk room hs = true ∧ Pl.recOk k t zs = true ∧ Pl.next (Pl.hAt hs t) k (zs.headD 0) (Pl.free room hs) = some h := by
  cases hok : Pl.sOk room hs
  · rw [Pl.behind_stock k t zs hok] at e; cases e
  cases hr : Pl.recOk k t zs
  · rw [Pl.behind_rec room hs hr] at e; cases e
  · rw [Pl.behind_ok hok hr] at e; exact ⟨rfl, rfl, e⟩

theorem below4' (w : World) (o1 o2 o3 o4 : Obj) : Below w.heap.size w ((((w.alloc o1).alloc o2).alloc o3).alloc o4) := (below3 w o1 o2 o3).alloc (by simp; omega) o4

set_option maxRecDepth 100000 in
set_option maxHeartbeats 4000000 in
theorem l2Do_any (room : Int) (g cap lo : Nat) (hs : List Pl.H) (k t : Int) (u : Value) (zs : List Int) (h : Pl.H) (w : World) (ho : w.ownsRow lo 93 2 (.slice (some ⟨g, 0, none⟩) 6 cap) 6 (hflat hs)) (hu : Ints w u zs) (hbh : Pl.behind room hs k t zs = some h) :
    Calls Tryz.prog 121 #[.agg #[.int .i64 room, .slice (some ⟨g, 0, none⟩) 6 cap], .agg #[.int .i64 k, .int .i64 t, u]] w fun e w' => e = .returned (.agg #[.int .i64 room, .slice (some ⟨g, 0, none⟩) 6 cap]) ∧ w'.ownsRow lo 93 2 (.slice (some ⟨g, 0, none⟩) 6 cap) 6 (hflat (hs.set (Pl.at_ t) h)) ∧ Mid g (g + 1) w w' := by
  obtain ⟨hok, hrec, hnx⟩ := behind_parts hbh
  obtain ⟨_, _, p3, _⟩ := Pl.sOk_parts hok
  obtain ⟨i, hi, rfl, hat⟩ := trip_at hrec
  rw [hat]
  obtain ⟨m, s, hms⟩ : ∃ m s, hs.getD i (0, 0) = (m, s) := ⟨_, _, rfl⟩
  have hms' : Pl.hAt hs ((i : Int) + 1) = (m, s) := by unfold Pl.hAt; rw [hat]; exact hms
  rw [hms'] at hnx
  have hgl := ho.lt g rfl
  obtain ⟨f0, f1⟩ := hflat_get hs i (by omega)
  rw [hms] at f0 f1
  have c0 : w.cell? ⟨g, i * 2, none⟩ = some (.int .i64 m) := by rw [ho.cellAt _ (by omega)]; exact f0
  have c1 : w.cell? ⟨g, i * 2 + 1, none⟩ = some (.int .i64 s) := by rw [ho.cellAt _ (by omega)]; exact f1
  have z0 := ho.frozenAt (i * 2)
  have z1 := ho.frozenAt (i * 2 + 1)
  have c30 : ∀ o1 o2 o3, (((w.alloc o1).alloc o2).alloc o3).cell? ⟨g, i * 2, none⟩ = some (.int .i64 m) := fun o1 o2 o3 => ((below3 w o1 o2 o3).cell (p := ⟨g, i * 2, none⟩) hgl.2).trans c0
  have c31 : ∀ o1 o2 o3, (((w.alloc o1).alloc o2).alloc o3).cell? ⟨g, i * 2 + 1, none⟩ = some (.int .i64 s) := fun o1 o2 o3 => ((below3 w o1 o2 o3).cell (p := ⟨g, i * 2 + 1, none⟩) hgl.2).trans c1
  have c40 : ∀ o1 o2 o3 o4, ((((w.alloc o1).alloc o2).alloc o3).alloc o4).cell? ⟨g, i * 2, none⟩ = some (.int .i64 m) := fun o1 o2 o3 o4 => ((below4' w o1 o2 o3 o4).cell (p := ⟨g, i * 2, none⟩) hgl.2).trans c0
  have c41 : ∀ o1 o2 o3 o4, ((((w.alloc o1).alloc o2).alloc o3).alloc o4).cell? ⟨g, i * 2 + 1, none⟩ = some (.int .i64 s) := fun o1 o2 o3 o4 => ((below4' w o1 o2 o3 o4).cell (p := ⟨g, i * 2 + 1, none⟩) hgl.2).trans c1
  have z40 : ∀ o1 o2 o3 o4, ((((w.alloc o1).alloc o2).alloc o3).alloc o4).frozen? ⟨g, i * 2, none⟩ = false := fun o1 o2 o3 o4 => ((below4' w o1 o2 o3 o4).frozen (p := ⟨g, i * 2, none⟩) hgl.2).trans z0
  have z41 : ∀ o1 o2 o3 o4, ((((w.alloc o1).alloc o2).alloc o3).alloc o4).frozen? ⟨g, i * 2 + 1, none⟩ = false := fun o1 o2 o3 o4 => ((below4' w o1 o2 o3 o4).frozen (p := ⟨g, i * 2 + 1, none⟩) hgl.2).trans z1
  have FIN : Hid (∀ o1 o2 o3 o4 x y, (((((((w.alloc o1).alloc o2).alloc o3).alloc o4).setCell ⟨g, i * 2, none⟩ (.int .i64 h.1)).setCell ⟨g, i * 2 + 1, none⟩ (.int .i64 h.2)).setCell ⟨w.heap.size + 1 + 1, 0, none⟩ x |>.setCell ⟨w.heap.size + 1 + 1, 1, none⟩ y).ownsRow lo 93 2 (.slice (some ⟨g, 0, none⟩) 6 cap) 6 (hflat (hs.set i h)) ∧ Mid g (g + 1) w (((((((w.alloc o1).alloc o2).alloc o3).alloc o4).setCell ⟨g, i * 2, none⟩ (.int .i64 h.1)).setCell ⟨g, i * 2 + 1, none⟩ (.int .i64 h.2)).setCell ⟨w.heap.size + 1 + 1, 0, none⟩ x |>.setCell ⟨w.heap.size + 1 + 1, 1, none⟩ y)) := fun o1 o2 o3 o4 x y => by
    have st := stored2 ((((ho.alloc o1).alloc o2).alloc o3).alloc o4) i (by omega) h
    refine ⟨ownsRow_mid (ownsRow_mid st.1 (setCell_mid _ _ _ _) ?_) (setCell_mid _ _ _ _) ?_, ?_⟩
    · intro j hj; simp [Value.ownBlock] at hj; omega
    · intro j hj; simp [Value.ownBlock] at hj; omega
    · have m1 : Mid g (g + 1) w _ := (Mid.of_below (below4' w o1 o2 o3 o4) (Nat.le_refl _)).trans (Mid.of_grown st.2 (fun j hj => by simp at hj; omega))
      exact m1.then_below (((Below.refl _ _).setCell (by simp; omega) _).setCell (by simp; omega) _)
  have hgn : ¬ g = w.heap.size + 1 + 1 := by omega
  have hgn0 : ¬ g = w.heap.size := by omega
  have hgn1 : ¬ g = w.heap.size + 1 := by omega
  have hgn3 : ¬ g = w.heap.size + 1 + 1 + 1 := by omega
  clear f0 f1 hok p3 hat hms hms' ho
  rcases next_some hnx with ⟨rfl, rfl⟩ | ⟨rfl, rfl⟩ | ⟨rfl, rfl⟩
  · obtain ⟨z, rfl, _, _⟩ := Pl.recOk_hold hrec
    rcases hu with ⟨h, _⟩ | ⟨b2, off2, cap2, rfl, hz2, hc2⟩
    · simp at h
    have d0 : w.cell? ⟨b2, off2, none⟩ = some (.int .i64 z) := hc2 0 (by simp)
    have hb2 : b2 < w.heap.size := World.block_lt_of_cell? _ _ d0
    have d4 : ∀ o1 o2 o3 o4, ((((w.alloc o1).alloc o2).alloc o3).alloc o4).cell? ⟨b2, off2, none⟩ = some (.int .i64 z) := fun o1 o2 o3 o4 => ((below4' w o1 o2 o3 o4).cell (p := ⟨b2, off2, none⟩) hb2).trans d0
    clear hc2 hz2 hrec hnx hbh
    go_enter Tryz.func121, Tryz.ntmps121
    go_wp2
    exact bodyPost_ret (v := .agg #[.int .i64 room, .slice (some ⟨g, 0, none⟩) 6 cap]) (by simp [results, Tryz.results121, go_sem]) rfl ⟨rfl, FIN.out _ _ _ _ _ _⟩
  · obtain ⟨au, cu, rfl⟩ := hu.shape
    clear hu hrec hnx hbh
    go_enter Tryz.func121, Tryz.ntmps121
    go_wp2
    exact bodyPost_ret (v := .agg #[.int .i64 room, .slice (some ⟨g, 0, none⟩) 6 cap]) (by simp [results, Tryz.results121, go_sem]) rfl ⟨rfl, FIN.out _ _ _ _ _ _⟩
  · obtain ⟨au, cu, rfl⟩ := hu.shape
    clear hu hrec hnx hbh
    go_enter Tryz.func121, Tryz.ntmps121
    go_wp2
    exact bodyPost_ret (v := .agg #[.int .i64 room, .slice (some ⟨g, 0, none⟩) 6 cap]) (by simp [results, Tryz.results121, go_sem]) rfl ⟨rfl, FIN.out _ _ _ _ _ _⟩

end Go.Proofs.YtkkkdgpbmmjieaaGreatDoor

namespace Go.Proofs.YtkkkdgpbmmjieaaGreatDoor
open Go.RowKit

/-- A stock's own block. -/
def SB (W : World) (S : Nat) (x y : Value) : Prop := W.heap[S]? = some (.cells #[x, y] 95 (0, 0))
theorem SB.new (w : World) (x y : Value) : SB (w.alloc (.cells #[x, y] 95)) w.heap.size x y := heap_alloc_new w _
theorem SB.lt {w : World} {b : Nat} {x y : Value} (h : SB w b x y) : b < w.heap.size := by
  unfold SB at h
  by_cases e : b < w.heap.size
  · exact e
  · rw [Array.getElem?_eq_none (by omega)] at h; cases h
theorem SB.later {w w' : World} {b L : Nat} {x y : Value} (h : SB w b x y) (hb : Below L w w') (hL : b < L) : SB w' b x y := by
  unfold SB at *
  rw [hb.block b hL]; exact h
theorem SB.mid {w w' : World} {b l h' : Nat} {x y : Value} (h : SB w b x y) (hm : Mid l h' w w') (hb : b < l ∨ h' ≤ b) : SB w' b x y := by
  have := h.lt
  unfold SB at *
  rw [hm.block b this hb]; exact h
theorem SB.cells {w : World} {b : Nat} {x y : Value} (h : SB w b x y) : w.cell? ⟨b, 0, none⟩ = some x ∧ w.cell? ⟨b, 1, none⟩ = some y ∧ w.frozen? ⟨b, 0, none⟩ = false ∧ w.frozen? ⟨b, 1, none⟩ = false := by
  refine ⟨?_, ?_, frozen_of_row w _ _ _ _ h, frozen_of_row w _ _ _ _ h⟩
  · rw [cell_of_row w _ _ _ _ _ h]; rfl
  · rw [cell_of_row w _ _ _ _ _ h]; rfl
theorem SB.set {w : World} {b : Nat} {x y : Value} (h : SB w b x y) (x' y' : Value) : SB ((w.setCell ⟨b, 0, none⟩ x').setCell ⟨b, 1, none⟩ y') b x' y' := by
  have h2 := heap_setCell_same w b 0 _ _ x' h
  have h3 := heap_setCell_same _ b 1 _ _ y' h2
  unfold SB
  rw [h3]; rfl
theorem SB.other {w : World} {b c : Nat} {x y : Value} (h : SB w b x y) (hne : b ≠ c) (x' y' : Value) : SB ((w.setCell ⟨c, 0, none⟩ x').setCell ⟨c, 1, none⟩ y') b x y := by
  unfold SB at *
  rw [Below.heap_setCell _ _ _ _ hne, Below.heap_setCell _ _ _ _ hne]; exact h

theorem sRun_nil (room : Int) (hs : List Pl.H) : Pl.sRun room [] hs = some hs := rfl
theorem sRun_no (room : Int) (r : R) (t : List R) (hs : List Pl.H) (h : Pl.sDo room hs r.1 r.2.1 r.2.2 = none) : Pl.sRun room (r :: t) hs = none := by simp [Pl.sRun, h]
theorem sRun_yes (room : Int) (r : R) (t : List R) (hs hs' : List Pl.H) (h : Pl.sDo room hs r.1 r.2.1 r.2.2 = some hs') : Pl.sRun room (r :: t) hs = Pl.sRun room t hs' := by simp [Pl.sRun, h]
theorem drop_at {rs : List R} {k : Nat} {r : R} (h : rs[k]? = some r) : rs.drop k = r :: rs.drop (k + 1) := by
  have hk : k < rs.length := by
    by_cases e : k < rs.length
    · exact e
    · rw [List.getElem?_eq_none (by omega)] at h; cases h
  rw [List.getElem?_eq_getElem hk] at h
  simp only [Option.some.injEq] at h
  rw [List.drop_eq_getElem_cons hk, h]

theorem newO_no {room : Int} (h : Pl.inB room 0 9 = false) : newO room = none := by simp [newO, h]
theorem newO_yes {room : Int} (h : Pl.inB room 0 9 = true) : newO room = some Pl.noHolds := by simp [newO, h]
theorem sOf_no {room : Int} (rs : List R) (h : Pl.inB room 0 9 = false) : Pl.sOf room rs = none := by simp [Pl.sOf, h]
theorem sOf_yes {room : Int} (rs : List R) (h : Pl.inB room 0 9 = true) : Pl.sOf room rs = Pl.sRun room rs Pl.noHolds := by simp [Pl.sOf, h]

theorem row_g {w : World} {base n : Nat} {v : Value} {xs : List Value} (h : w.ownsRow base 93 2 v n xs) (hn : 0 < n) : ∃ g cap, v = .slice (some ⟨g, 0, none⟩) n cap := by
  rcases h.2 with ⟨_, h0⟩ | ⟨g, cap, cur, hv, _⟩
  · omega
  · exact ⟨g, cap, hv⟩

set_option maxRecDepth 100000 in
set_option maxHeartbeats 4000000 in
theorem implOf_any (room : Int) (v : Value) (rs : List R) (a : Addr) (w : World) (hv : Recs w v rs) (hl : tot rs ≤ 1048576) (ha : ErrAt w a) :
    Calls Tryz.prog 127 #[.int .i64 room, v] w fun e w' => StOut w w' e (oR room (Pl.sOf room rs)) (oH (Pl.sOf room rs)) (Pl.sOf room rs).isSome := by
  have hlen := tot_len rs
  have HM : Hid (∀ r ∈ rs, r.2.2.length ≤ 1048576) := fun r hr => Nat.le_trans (tot_mem rs r hr) hl
  have HA : Hid (∀ W, Below w.heap.size w W → ErrAt W a) := fun W h => ha.later h (Nat.le_refl _)
  have HN := hide_it (implNew_any room)
  cases hr : Pl.inB room 0 9
  · rw [sOf_no rs hr]
    have HN0 : ∀ W, Calls Tryz.prog 160 #[.int .i64 room] W fun e w' => StOut W w' e 0 [] false := fun W => by
      have := HN.out W
      rw [newO_no hr] at this
      exact this
    have HN1 := hide_it HN0
    clear HN0 HN
    obtain ⟨ao, cap, rfl⟩ := hv.shape
    clear hv ha
    go_enter Tryz.func127, Tryz.ntmps127
    go_wp2_with fail
    refine (HN1.out _).mono ?_
    rintro e w1 ⟨a1, c1, rfl, ho1, hb1⟩
    have Z1 := hide_it ((SB.new w (.int .i64 0) (.slice none 0 0)).later hb1 (by simp))
    have B1 := hide_it ((al_below w _).trans (hb1.mono (by simp)))
    have hz1 := Z1.out.lt
    obtain ⟨z0, z1, z2, z3⟩ := Z1.out.cells
    have ZS := Z1.out.set (.int .i64 0) (.slice none 0 0)
    have ZT := ZS.later (al_below _ (.cells #[.int .i64 0, .slice a1 0 c1] 95)) ZS.lt
    have HZT := hide_it ZT.cells
    clear ho1 hb1 ZS ZT
    go_wp2
    obtain ⟨t0, t1, _, _⟩ := HZT.out
    refine bodyPost_ret (v := .tuple #[.agg #[.int .i64 0, .slice none 0 0], .bool false]) (by simp [results, Tryz.results127, go_sem, t0, t1]) rfl ?_
    first | exact StOut.none_ (((B1.out.alloc B1.out.size _).setCell (by simp) _).setCell (by simp) _) | exact StOut.none_ (((B1.out.setCell (by simp) _).setCell (by simp) _).alloc (by simp; exact B1.out.size) _)
  rw [sOf_yes rs hr]
  have HN0 : ∀ W, Calls Tryz.prog 160 #[.int .i64 room] W fun e w' => StOut W w' e room Pl.noHolds true := fun W => by
    have := HN.out W
    rw [newO_yes hr] at this
    exact this
  have HN1 := hide_it HN0
  clear HN0 HN
  obtain ⟨OO, hOO⟩ : ∃ o, Pl.sRun room rs Pl.noHolds = o := ⟨_, rfl⟩
  rw [hOO]
  have HOO := hide_it hOO
  have HR := hide_it hr
  have HC : Hid (∀ W, Below w.heap.size w W → ∀ i r, rs[i]? = some r → ∃ b off cap u, v = .slice (some ⟨b, off, none⟩) rs.length cap ∧ RecCells W b (off + i * 3) r u) := fun W h i r hri => by
    rcases hv.later h (Nat.le_refl _) with ⟨rfl, _⟩ | ⟨b, off, cap, hvv, _, hc⟩
    · simp at hri
    · obtain ⟨u, hu⟩ := hc i r hri
      exact ⟨b, off, cap, u, hvv, hu⟩
  obtain ⟨av, cv, rfl⟩ := hv.shape
  clear hv ha hOO hr
  go_enter Tryz.func127, Tryz.ntmps127
  go_wp2_with fail
  refine (HN1.out _).mono ?_
  rintro e w1 ⟨a1, c1, rfl, ho1, hb1⟩
  have n6 : Pl.noHolds.length = 6 := rfl
  rw [n6] at ho1 ⊢
  have Z1 := hide_it ((SB.new w (.int .i64 0) (.slice none 0 0)).later hb1 (by simp))
  have B1 := hide_it ((al_below w _).trans (hb1.mono (by simp)))
  have hz1 := Z1.out.lt
  have ho1' : w1.ownsRow (w.heap.size + 1) 93 2 (.slice a1 6 c1) 6 (hflat Pl.noHolds) := by
    have h := ho1
    rw [World.size_alloc] at h
    exact h
  have O1 := hide_it (ho1'.alloc (.cells #[.int .i64 room, .slice a1 6 c1] 95))
  have Z2 := hide_it (Z1.out.later (al_below w1 (.cells #[.int .i64 room, .slice a1 6 c1] 95)) hz1)
  have S2 := hide_it (SB.new w1 (.int .i64 room) (.slice a1 6 c1))
  have B2 := hide_it (B1.out.alloc B1.out.size (.cells #[.int .i64 room, .slice a1 6 c1] 95))
  clear ho1 ho1' hb1
  go_wp2_with fail
  go_loopw [20] (fun i wr => ∃ (k : Nat) (hk : List Pl.H) (ak : Option Addr) (ck : Nat), k ≤ rs.length ∧ i = .int .i64 k ∧ Hid (Pl.sRun room (rs.drop k) hk = OO) ∧ Hid (Pl.sOk room hk = true) ∧ Hid (SB wr w1.heap.size (.int .i64 room) (.slice ak 6 ck)) ∧ Hid (SB wr w.heap.size (.int .i64 0) (.slice none 0 0)) ∧ Hid (wr.ownsRow (w.heap.size + 1) 93 2 (.slice ak 6 ck) 6 (hflat hk)) ∧ Hid (Below w.heap.size w wr)) (fun i _ => rs.length - (intOf i).toNat)
  case atStart => exact ⟨0, Pl.noHolds, a1, c1, Nat.zero_le _, rfl, HOO, Pl.new_ok room HR.out, S2, Z2, O1, B2⟩
  case round =>
    obtain ⟨k, hk, ak, ck, hkl, rfl, HRU, HOK, HS, HZ, HO, HB⟩ := hrel
    have P3 : Hid (hk.length = 6) := (Pl.sOk_parts HOK.out).2.2.1
    obtain ⟨s0, s1, s2, s3⟩ := HS.out.cells
    obtain ⟨z0, z1, z2, z3⟩ := HZ.out.cells
    have hsl := HS.out.lt
    have hzl := HZ.out.lt
    by_cases hlt : k < rs.length
    · obtain ⟨r, hri⟩ : ∃ r, Hid (rs[k]? = some r) := ⟨rs[k], by show _ = _; simp [hlt]⟩
      have hrl : r.2.2.length ≤ 1048576 := HM.out r (List.mem_of_getElem? hri.out)
      obtain ⟨b, off, cap, u, hvv, c0, c1', c2, hI⟩ := HC.out wr HB.out k r hri.out
      simp only [Value.slice.injEq] at hvv
      obtain ⟨rfl, -, rfl⟩ := hvv
      obtain ⟨au, cu, hus⟩ := hI.shape
      subst hus
      have HI := hide_it hI
      have HD : Hid (∀ o, Calls Tryz.prog 161 #[.agg #[.int .i64 room, .slice ak 6 ck], .agg #[.int .i64 r.1, .int .i64 r.2.1, .slice au r.2.2.length cu]] (wr.alloc o) fun e w' => StOut (wr.alloc o) w' e (oR room (Pl.sDo room hk r.1 r.2.1 r.2.2)) (oH (Pl.sDo room hk r.1 r.2.1 r.2.2)) (Pl.sDo room hk r.1 r.2.1 r.2.2).isSome) := fun o => by
        have h6 := HO.out
        have hH : Holds (wr.alloc o) (.slice ak 6 ck) hk := by
          have h := h6.alloc o
          rw [← P3.out] at h
          have := holds_of_row h
          rw [P3.out] at this
          exact this
        exact implDo_any room _ hk r.1 r.2.1 _ r.2.2 a (wr.alloc o) hH (by have := P3.out; omega) (HI.out.later (al_below _ _) (Nat.le_refl _)) hrl (HA.out _ (HB.out.alloc HB.out.size o))
      have HRU2 := hide_it HRU.out
      rw [drop_at hri.out] at HRU2
      have hbw : b < wr.heap.size := World.block_lt_of_cell? _ _ c0
      have sA := fun o => (HS.out.later (al_below wr o) hsl).cells
      have SAl := hide_it sA
      clear sA hI
      obtain ⟨sa0, sa1, _, _⟩ := SAl.out (.cells #[.int .i64 r.1, .int .i64 r.2.1, .slice au r.2.2.length cu] 161)
      go_wp2_with fail
      cases hd : Pl.sDo room hk r.1 r.2.1 r.2.2 with
      | none =>
        rw [hd] at HD
        have HE : Hid (OO = none) := by show _ = _; rw [← HRU2.out]; exact sRun_no room r _ hk hd
        refine (HD.out _).mono ?_
        rintro e w3 ⟨a3, c3, rfl, ho3, hb3⟩
        have B3 := hide_it ((HB.out.alloc HB.out.size (.cells #[.int .i64 r.1, .int .i64 r.2.1, .slice au r.2.2.length cu] 161)).trans (hb3.mono (by have := HB.out.size; simp; omega)))
        have S3 := hide_it ((HS.out.later (al_below wr (.cells #[.int .i64 r.1, .int .i64 r.2.1, .slice au r.2.2.length cu] 161)) hsl).later hb3 (by simp; omega))
        have Z3 := hide_it ((HZ.out.later (al_below wr (.cells #[.int .i64 r.1, .int .i64 r.2.1, .slice au r.2.2.length cu] 161)) hzl).later hb3 (by simp; omega))
        have hb13 : w.heap.size ≠ w1.heap.size := by omega
        clear ho3 hb3 s0 s1 s2 s3 z0 z1 z2 z3 sa0 sa1 c0 c1' c2
        obtain ⟨s0, s1, s2, s3⟩ := S3.out.cells
        obtain ⟨z0, z1, z2, z3⟩ := (Z3.out.other hb13 (.int .i64 (oR room none)) (.slice a3 (oH none).length c3)).cells
        go_wp2
        rw [HE.out]
        exact bodyPost_ret (v := .tuple #[.agg #[.int .i64 0, .slice none 0 0], .bool false]) (by simp [results, Tryz.results127, go_sem, z0, z1]) rfl (StOut.none_ ((((B3.out.setCell (by simp; omega) _).setCell (by simp; omega) _).setCell (by simp) _).setCell (by simp) _))
      | some hk' =>
        rw [hd] at HD
        have hl6 : hk'.length = 6 := by rw [Pl.sDo_len hd]; exact P3.out
        refine (HD.out _).mono ?_
        rintro e w3 ⟨a3, c3, rfl, ho3, hb3⟩
        have eH : oH (some hk') = hk' := rfl
        have eR : oR room (some hk') = room := rfl
        rw [eH, hl6] at ho3 ⊢
        rw [eR]
        have HRU3 : Hid (Pl.sRun room (rs.drop (k + 1)) hk' = OO) := by show _ = _; rw [← HRU2.out]; exact (sRun_yes room r _ hk hk' hd).symm
        have HOK3 : Hid (Pl.sOk room hk' = true) := Pl.sDo_keeps hd
        have B3 := hide_it ((HB.out.alloc HB.out.size (.cells #[.int .i64 r.1, .int .i64 r.2.1, .slice au r.2.2.length cu] 161)).trans (hb3.mono (by have := HB.out.size; simp; omega)))
        have S3 := hide_it ((HS.out.later (al_below wr (.cells #[.int .i64 r.1, .int .i64 r.2.1, .slice au r.2.2.length cu] 161)) hsl).later hb3 (by simp; omega))
        have Z3 := hide_it ((HZ.out.later (al_below wr (.cells #[.int .i64 r.1, .int .i64 r.2.1, .slice au r.2.2.length cu] 161)) hzl).later hb3 (by simp; omega))
        have hb13 : w.heap.size ≠ w1.heap.size := by omega
        have S4 := hide_it (S3.out.set (.int .i64 room) (.slice a3 6 c3))
        have Z4 := hide_it (Z3.out.other hb13 (.int .i64 room) (.slice a3 6 c3))
        rw [World.size_alloc] at ho3
        have O4 := hide_it (ownsRow_base (base' := w.heap.size + 1) (ownsRow_setCell_below (a := ⟨w1.heap.size, 1, none⟩) (ownsRow_setCell_below (a := ⟨w1.heap.size, 0, none⟩) ho3 (by simp; omega) (.int .i64 room)) (by simp; omega) (.slice a3 6 c3)) (by omega))
        clear ho3 hb3 s0 s1 s2 s3 z0 z1 z2 z3 sa0 sa1 c0 c1' c2 hd hl6 eH eR
        obtain ⟨s0, s1, s2, s3⟩ := S3.out.cells
        go_wp2
        go_roundw
        case rel => exact ⟨k + 1, hk', a3, c3, by omega, by go_num, HRU3, HOK3, S4, Z4, O4, (B3.out.setCell (by simp; omega) _).setCell (by simp; omega) _⟩
        case measure => simp [intOf]; omega
    · have HE : Hid (OO = some hk) := by
        show _ = _
        have hke : k = rs.length := by omega
        rw [← HRU.out, hke, List.drop_length]
        rfl
      go_wp2
      rw [HE.out]
      refine bodyPost_ret (v := .tuple #[.agg #[.int .i64 room, .slice ak 6 ck], .bool true]) (by simp [results, Tryz.results127, go_sem, z0, z1]) rfl ⟨ak, ck, ?_, ?_, ?_⟩
      · show _ = _
        simp only [oR, oH, Option.getD_some, Option.isSome_some, P3.out]
      · simp only [oH, Option.getD_some, P3.out]
        exact ownsRow_base (ownsRow_setCell_below (ownsRow_setCell_below HO.out (by simp) _) (by simp) _) (by omega)
      · exact (HB.out.setCell (by simp) _).setCell (by simp) _

end Go.Proofs.YtkkkdgpbmmjieaaGreatDoor

namespace Go.Proofs.YtkkkdgpbmmjieaaGreatDoor
open Go.RowKit

theorem hOO_no {room : Int} {r : R} {t : List R} {hk : List Pl.H} (h : Pl.behind room hk r.1 r.2.1 r.2.2 = none) : Pl.sRun room (r :: t) hk = none :=
  sRun_no room r t hk (by unfold Pl.sDo; rw [h]; rfl)
theorem hOO_yes {room : Int} {r : R} {t : List R} {hk : List Pl.H} {h' : Pl.H} (h : Pl.behind room hk r.1 r.2.1 r.2.2 = some h') : Pl.sRun room (r :: t) hk = Pl.sRun room t (hk.set (Pl.at_ r.2.1) h') :=
  sRun_yes room r t hk _ (by unfold Pl.sDo; rw [h]; rfl)

set_option maxRecDepth 100000 in
set_option maxHeartbeats 8000000 in
theorem l2Of_any (room : Int) (v : Value) (rs : List R) (w : World) (hv : Recs w v rs) (hl : tot rs ≤ 1048576) :
    Calls Tryz.prog 72 #[.int .i64 room, v] w fun e w' => StOut w w' e (oR room (Pl.sOf room rs)) (oH (Pl.sOf room rs)) (Pl.sOf room rs).isSome := by
  have hlen := tot_len rs
  have HM : Hid (∀ r ∈ rs, r.2.2.length ≤ 1048576) := fun r hr => Nat.le_trans (tot_mem rs r hr) hl
  have HN := hide_it (specNew_any room)
  cases hr : Pl.inB room 0 9
  · rw [sOf_no rs hr]
    have HN0 : ∀ W, Calls Tryz.prog 119 #[.int .i64 room] W fun e w' => StOut W w' e 0 [] false := fun W => by
      have := HN.out W
      rw [newO_no hr] at this
      exact this
    have HN1 := hide_it HN0
    clear HN0 HN
    obtain ⟨ao, cap, rfl⟩ := hv.shape
    clear hv
    go_enter Tryz.func72, Tryz.ntmps72
    go_wp2_with fail
    refine (HN1.out _).mono ?_
    rintro e w1 ⟨a1, c1, rfl, ho1, hb1⟩
    have Z1 := hide_it ((SB.new w (.int .i64 0) (.slice none 0 0)).later hb1 (by simp))
    have B1 := hide_it ((al_below w _).trans (hb1.mono (by simp)))
    have hz1 := Z1.out.lt
    obtain ⟨z0, z1, z2, z3⟩ := Z1.out.cells
    have ZS := Z1.out.set (.int .i64 0) (.slice none 0 0)
    have ZT := ZS.later (al_below _ (.cells #[.int .i64 0, .slice a1 0 c1] 95)) ZS.lt
    have HZT := hide_it ZT.cells
    clear ho1 hb1 ZS ZT
    go_wp2
    obtain ⟨t0, t1, _, _⟩ := HZT.out
    refine bodyPost_ret (v := .tuple #[.agg #[.int .i64 0, .slice none 0 0], .bool false]) (by simp [results, Tryz.results72, go_sem, t0, t1]) rfl ?_
    exact StOut.none_ (((B1.out.setCell (by simp) _).setCell (by simp) _).alloc (by simp; exact B1.out.size) _)
  rw [sOf_yes rs hr]
  have HN0 : ∀ W, Calls Tryz.prog 119 #[.int .i64 room] W fun e w' => StOut W w' e room Pl.noHolds true := fun W => by
    have := HN.out W
    rw [newO_yes hr] at this
    exact this
  have HN1 := hide_it HN0
  clear HN0 HN
  obtain ⟨OO, hOO⟩ : ∃ o, Pl.sRun room rs Pl.noHolds = o := ⟨_, rfl⟩
  rw [hOO]
  have HOO := hide_it hOO
  have HR := hide_it hr
  have HC : Hid (∀ W, Below w.heap.size w W → ∀ i r, rs[i]? = some r → ∃ b off cap u, v = .slice (some ⟨b, off, none⟩) rs.length cap ∧ RecCells W b (off + i * 3) r u ∧ b < w.heap.size) := fun W h i r hri => by
    rcases hv with ⟨rfl, _⟩ | ⟨b, off, cap, hvv, _, hc⟩
    · simp at hri
    · obtain ⟨u, hu⟩ := hc i r hri
      exact ⟨b, off, cap, u, hvv, hu.later h (Nat.le_refl _), by simpa using World.block_lt_of_cell? _ _ hu.1⟩
  obtain ⟨av, cv, rfl⟩ := hv.shape
  clear hv hOO hr
  go_enter Tryz.func72, Tryz.ntmps72
  go_wp2_with fail
  refine (HN1.out _).mono ?_
  rintro e w1 ⟨a1, c1, rfl, ho1, hb1⟩
  have n6 : Pl.noHolds.length = 6 := rfl
  rw [n6] at ho1 ⊢
  obtain ⟨g, cg, hvg⟩ := row_g ho1 (by decide)
  rw [hvg] at ho1 ⊢
  have Z1 := hide_it ((SB.new w (.int .i64 0) (.slice none 0 0)).later hb1 (by simp))
  have B1 := hide_it ((al_below w _).trans (hb1.mono (by simp)))
  have hz1 := Z1.out.lt
  have ho1' : w1.ownsRow (w.heap.size + 1) 93 2 (.slice (some ⟨g, 0, none⟩) 6 cg) 6 (hflat Pl.noHolds) := by
    have h := ho1
    rw [World.size_alloc] at h
    exact h
  have hgl := ho1'.lt g rfl
  have O1 := hide_it (ho1'.alloc (.cells #[.int .i64 room, .slice (some ⟨g, 0, none⟩) 6 cg] 95))
  have Z2 := hide_it (Z1.out.later (al_below w1 (.cells #[.int .i64 room, .slice (some ⟨g, 0, none⟩) 6 cg] 95)) hz1)
  have S2 := hide_it (SB.new w1 (.int .i64 room) (.slice (some ⟨g, 0, none⟩) 6 cg))
  have B2 := hide_it (B1.out.alloc B1.out.size (.cells #[.int .i64 room, .slice (some ⟨g, 0, none⟩) 6 cg] 95))
  clear ho1 ho1' hb1 hvg
  go_wp2_with fail
  go_loopw [8] (fun i wr => ∃ (k : Nat) (hk : List Pl.H), k ≤ rs.length ∧ i = .int .i64 k ∧ Hid (Pl.sRun room (rs.drop k) hk = OO) ∧ Hid (Pl.sOk room hk = true) ∧ Hid (SB wr w1.heap.size (.int .i64 room) (.slice (some ⟨g, 0, none⟩) 6 cg)) ∧ Hid (SB wr w.heap.size (.int .i64 0) (.slice none 0 0)) ∧ Hid (wr.ownsRow (w.heap.size + 1) 93 2 (.slice (some ⟨g, 0, none⟩) 6 cg) 6 (hflat hk)) ∧ Hid (Below w.heap.size w wr)) (fun i _ => rs.length - (intOf i).toNat)
  case atStart => exact ⟨0, Pl.noHolds, Nat.zero_le _, rfl, HOO, Pl.new_ok room HR.out, S2, Z2, O1, B2⟩
  case round =>
    obtain ⟨k, hk, hkl, rfl, HRU, HOK, HS, HZ, HO, HB⟩ := hrel
    have P3 : Hid (hk.length = 6) := (Pl.sOk_parts HOK.out).2.2.1
    obtain ⟨s0, s1, s2, s3⟩ := HS.out.cells
    obtain ⟨z0, z1, z2, z3⟩ := HZ.out.cells
    have hsl := HS.out.lt
    have hzl := HZ.out.lt
    by_cases hlt : k < rs.length
    · obtain ⟨r, hri⟩ : ∃ r, Hid (rs[k]? = some r) := ⟨rs[k], by show _ = _; simp [hlt]⟩
      have hrl : r.2.2.length ≤ 1048576 := HM.out r (List.mem_of_getElem? hri.out)
      obtain ⟨b, off, cap, u, hvv, ⟨c0, c1', c2, hI⟩, hbw⟩ := HC.out wr HB.out k r hri.out
      simp only [Value.slice.injEq] at hvv
      obtain ⟨rfl, -, rfl⟩ := hvv
      obtain ⟨au, cu, hus⟩ := hI.shape
      subst hus
      have HI : Hid (∀ W, Below wr.heap.size wr W → Ints W (.slice au r.2.2.length cu) r.2.2) := fun W h => hI.later h (Nat.le_refl _)
      have HH : Hid (∀ W, Below wr.heap.size wr W → Holds W (.slice (some ⟨g, 0, none⟩) 6 cg) hk) := fun W h => by
        have h6 := HO.out
        rw [← P3.out] at h6
        have := (holds_of_row h6).later h (Nat.le_refl _)
        rw [P3.out] at this
        exact this
      have HRC : Hid (∀ W, Below wr.heap.size wr W → W.cell? ⟨b, off + k * 3, none⟩ = some (.int .i64 r.1) ∧ W.cell? ⟨b, off + k * 3 + 1, none⟩ = some (.int .i64 r.2.1) ∧ W.cell? ⟨b, off + k * 3 + 2, none⟩ = some (.slice au r.2.2.length cu)) := fun W h => by
        have hbr : b < wr.heap.size := Nat.lt_of_lt_of_le hbw HB.out.size
        exact ⟨(h.cell (p := ⟨b, off + k * 3, none⟩) hbr).trans c0, (h.cell (p := ⟨b, off + k * 3 + 1, none⟩) hbr).trans c1', (h.cell (p := ⟨b, off + k * 3 + 2, none⟩) hbr).trans c2⟩
      have HRU2 := hide_it HRU.out
      rw [drop_at hri.out] at HRU2
      have hkI : (k : Int) < (rs.length : Int) := by omega
      clear hI
      obtain ⟨o, ho⟩ : ∃ o, Pl.behind room hk r.1 r.2.1 r.2.2 = o := ⟨_, rfl⟩
      have HO2 := hide_it ho
      clear ho
      go_wp2_with fail
      go_cut [37] (fun b W => b = .bool (!o.isSome) ∧ Hid (Below wr.heap.size wr W))
      case first =>
        cases hrec : Pl.recOk r.1 r.2.1 r.2.2
        · have hon : o = none := by rw [← HO2.out]; exact Pl.behind_rec room hk hrec
          subst hon
          first | (go_region_with (go_at_call 116; refine (specOk_any r.1 r.2.1 _ r.2.2 _ (HI.out _ (Below.refl _ _).drew) hrl).mono ?_; rintro e w3 ⟨rfl, hb3⟩; rw [hrec]; have N3 := hide_it ((Below.refl wr.heap.size wr).drew.trans hb3); obtain ⟨d0, d1, d2⟩ := HRC.out _ N3.out; clear hb3)) | fail
          all_goals
            go_wp2_with fail
            go_meet
            case rel => exact ⟨rfl, N3⟩
        · have HMAY : Hid (∀ W, Below wr.heap.size wr W → Calls Tryz.prog 120 #[.agg #[.int .i64 room, .slice (some ⟨g, 0, none⟩) 6 cg], .agg #[.int .i64 r.1, .int .i64 r.2.1, .slice au r.2.2.length cu]] W fun e w' => e = .returned (.bool o.isSome) ∧ Below W.heap.size W w') := fun W h => by
            have := l2May_any room _ hk r.1 r.2.1 _ r.2.2 W (HH.out W h) (HI.out W h) HOK.out hrec
            rw [← Pl.behind_ok HOK.out hrec, HO2.out] at this
            exact this
          first | (go_region_with (first
            | (go_at_call 116; refine (specOk_any r.1 r.2.1 _ r.2.2 _ (HI.out _ (Below.refl _ _).drew) hrl).mono ?_; rintro e w3 ⟨rfl, hb3⟩; rw [hrec]; have N3 := hide_it ((Below.refl wr.heap.size wr).drew.trans hb3); obtain ⟨d0, d1, d2⟩ := HRC.out _ N3.out; have S3 := hide_it (HS.out.later N3.out hsl); obtain ⟨e0, e1, _, _⟩ := S3.out.cells; clear hb3)
            | (go_at_call 120; refine (HMAY.out _ N3.out).mono ?_; rintro e w4 ⟨rfl, hb4⟩; have N4 := hide_it (N3.out.trans (hb4.mono N3.out.size)); clear hb4))) | fail
          all_goals
            go_wp2_with fail
            go_meet
            case rel => exact ⟨by first | rfl | simp, N4⟩
      case rest =>
        obtain ⟨rfl, N4⟩ := hcut
        have S4 := hide_it (HS.out.later N4.out hsl)
        have Z4 := hide_it (HZ.out.later N4.out hzl)
        have O4 := hide_it (ownsRow_below HO.out N4.out (fun j hj => (HO.out.lt j hj).2))
        have B4 := hide_it (HB.out.trans (N4.out.mono HB.out.size))
        have hsl4 := S4.out.lt
        have hzl4 := Z4.out.lt
        clear s0 s1 s2 s3 z0 z1 z2 z3 c0 c1' c2
        obtain ⟨s0, s1, s2, s3⟩ := S4.out.cells
        obtain ⟨z0, z1, z2, z3⟩ := Z4.out.cells
        obtain ⟨c0, c1', c2⟩ := HRC.out _ N4.out
        cases o with
        | none =>
          have HE : Hid (OO = none) := by show _ = _; rw [← HRU2.out]; exact hOO_no HO2.out
          go_wp2
          rw [HE.out]
          refine bodyPost_ret (v := .tuple #[.agg #[.int .i64 0, .slice none 0 0], .bool false]) (by simp [results, Tryz.results72, go_sem, z0, z1]) rfl ?_
          exact StOut.none_ ((B4.out.setCell (by simp) _).setCell (by simp) _)
        | some h' =>
          have HRU3 : Hid (Pl.sRun room (rs.drop (k + 1)) (hk.set (Pl.at_ r.2.1) h') = OO) := by show _ = _; rw [← HRU2.out]; exact (hOO_yes HO2.out).symm
          have HOK3 : Hid (Pl.sOk room (hk.set (Pl.at_ r.2.1) h') = true) := Pl.behind_keeps HO2.out
          go_wp2_with fail
          first | (go_region_held (fun w' => w'.cell? ⟨w1.heap.size, 0, none⟩ = some (.int .i64 room) ∧ w'.cell? ⟨w1.heap.size, 1, none⟩ = some (.slice (some ⟨g, 0, none⟩) 6 cg) ∧ w'.cell? ⟨b, off + k * 3, none⟩ = some (.int .i64 r.1) ∧ w'.cell? ⟨b, off + k * 3 + 1, none⟩ = some (.int .i64 r.2.1) ∧ w'.cell? ⟨b, off + k * 3 + 2, none⟩ = some (.slice au r.2.2.length cu)) (first | (go_keep; done) | exact KP.out)
            ((go_at_call 121; refine (l2Do_any room g cg _ hk r.1 r.2.1 _ r.2.2 h' _ (ownsRow_below O4.out (Below.refl _ _).drew (fun j hj => (O4.out.lt j hj).2)) (HI.out _ N4.out.drew) HO2.out).mono ?_; rintro e w5 ⟨rfl, ho5, hM5⟩; have hM5' := hide_it ((Mid.of_below (Below.refl wc.heap.size wc).drew (Nat.le_refl _)).trans hM5); have E5 := hide_it (hM5'.out.below (B := w.heap.size) (by omega) B4.out.size); have S5 := hide_it (S4.out.mid hM5'.out (Or.inr (by omega))); have Z5 := hide_it (Z4.out.mid hM5'.out (Or.inl (by omega))); have B5 := hide_it (B4.out.trans E5.out); obtain ⟨x0, x1, x2, x3⟩ := S5.out.cells; have y0 := (E5.out.cell (p := ⟨b, off + k * 3, none⟩) hbw).trans c0; have y1 := (E5.out.cell (p := ⟨b, off + k * 3 + 1, none⟩) hbw).trans c1'; have y2 := (E5.out.cell (p := ⟨b, off + k * 3 + 2, none⟩) hbw).trans c2; have S6 := hide_it (S5.out.set (.int .i64 room) (.slice (some ⟨g, 0, none⟩) 6 cg)); have Z6 := hide_it (Z5.out.other (c := w1.heap.size) (by omega) (.int .i64 room) (.slice (some ⟨g, 0, none⟩) 6 cg)); have O6 := hide_it (ownsRow_mid (ownsRow_mid ho5 (setCell_mid _ w1.heap.size 0 (.int .i64 room)) (fun j hj => by simp [Value.ownBlock] at hj; omega)) (setCell_mid _ w1.heap.size 1 (.slice (some ⟨g, 0, none⟩) 6 cg)) (fun j hj => by simp [Value.ownBlock] at hj; omega)); have KP := hide_it (And.intro S6.out.cells.1 (And.intro S6.out.cells.2.1 (And.intro ((two_set_cells w5 w1.heap.size (.int .i64 room) (.slice (some ⟨g, 0, none⟩) 6 cg) b (off + k * 3) (by omega)).trans y0) (And.intro ((two_set_cells w5 w1.heap.size (.int .i64 room) (.slice (some ⟨g, 0, none⟩) 6 cg) b (off + k * 3 + 1) (by omega)).trans y1) ((two_set_cells w5 w1.heap.size (.int .i64 room) (.slice (some ⟨g, 0, none⟩) 6 cg) b (off + k * 3 + 2) (by omega)).trans y2))))); clear ho5 hM5))) | fail
          go_wp2
          go_roundw
          case rel => exact ⟨k + 1, _, by omega, by go_num, HRU3, HOK3, S6, Z6, O6, (B5.out.setCell (by simp; omega) _).setCell (by simp; omega) _⟩
          case measure => simp [intOf]; omega
    · have HE : Hid (OO = some hk) := by
        show _ = _
        have hke : k = rs.length := by omega
        rw [← HRU.out, hke, List.drop_length]
        rfl
      go_wp2
      rw [HE.out]
      refine bodyPost_ret (v := .tuple #[.agg #[.int .i64 room, .slice (some ⟨g, 0, none⟩) 6 cg], .bool true]) (by simp [results, Tryz.results72, go_sem, z0, z1]) rfl ⟨some ⟨g, 0, none⟩, cg, ?_, ?_, ?_⟩
      · show _ = _
        simp only [oR, oH, Option.getD_some, Option.isSome_some, P3.out]
      · simp only [oH, Option.getD_some, P3.out]
        exact ownsRow_base (ownsRow_setCell_below (ownsRow_setCell_below HO.out (by simp) _) (by simp) _) (by omega)
      · exact (HB.out.setCell (by simp) _).setCell (by simp) _

end Go.Proofs.YtkkkdgpbmmjieaaGreatDoor

namespace Go.Proofs.YtkkkdgpbmmjieaaGreatDoor
open Go.RowKit

def hoOk (id room : Int) (rs : List R) (f : Int) : Bool := Pl.inB id 1 3 && logOk rs f && (Pl.sOf room rs).isSome
theorem hoOk_id {id room : Int} {rs : List R} {f : Int} (h : Pl.inB id 1 3 = false) : hoOk id room rs f = false := by simp [hoOk, h]
theorem hoOk_log {id room : Int} {rs : List R} {f : Int} (h : logOk rs f = false) : hoOk id room rs f = false := by simp [hoOk, h]
theorem hoOk_of {id room : Int} {rs : List R} {f : Int} (h1 : Pl.inB id 1 3 = true) (h2 : logOk rs f = true) : hoOk id room rs f = (Pl.sOf room rs).isSome := by simp [hoOk, h1, h2]
theorem hoOk_parts {id room : Int} {rs : List R} {f : Int} (h : hoOk id room rs f = true) : Pl.inB id 1 3 = true ∧ logOk rs f = true ∧ (Pl.sOf room rs).isSome = true := by
  simp only [hoOk, Bool.and_eq_true] at h
  exact ⟨h.1.1, h.1.2, h.2⟩

set_option maxHeartbeats 2000000 in
theorem specHouseOk_any (id : Int) (up : Bool) (room : Int) (v : Value) (rs : List R) (f : Int) (w : World) (hv : Recs w v rs) (hl : tot rs ≤ 1048576) :
    Calls Tryz.prog 38 #[houseV id up room v f] w fun e w' => e = .returned (.bool (hoOk id room rs f)) ∧ Below w.heap.size w w' := by
  have HO : Hid (∀ o, Calls Tryz.prog 72 #[.int .i64 room, v] (w.alloc o) fun e w' => StOut (w.alloc o) w' e (oR room (Pl.sOf room rs)) (oH (Pl.sOf room rs)) (Pl.sOf room rs).isSome) := fun o =>
    l2Of_any room v rs (w.alloc o) (hv.later (alloc_below w o) (Nat.le_refl _)) hl
  have HL : Hid (∀ W, Below w.heap.size w W → Calls Tryz.prog 70 #[.agg #[v, .int .i64 f]] W fun e w' => e = .returned (.bool (logOk rs f)) ∧ Below W.heap.size W w') := fun W h =>
    specLogOk_any v rs f W (hv.later h (Nat.le_refl _)) hl
  obtain ⟨av, cv, rfl⟩ := hv.shape
  clear hv
  have HE : Hid (hoOk id room rs f = (Pl.inB id 1 3 && logOk rs f && (Pl.sOf room rs).isSome)) := rfl
  rw [HE.out]
  clear HE
  obtain ⟨RR, hRR⟩ : ∃ x, oR room (Pl.sOf room rs) = x := ⟨_, rfl⟩
  obtain ⟨HS, hHS⟩ : ∃ x, oH (Pl.sOf room rs) = x := ⟨_, rfl⟩
  obtain ⟨BB, hBB⟩ : ∃ x, (Pl.sOf room rs).isSome = x := ⟨_, rfl⟩
  obtain ⟨LL, hLL⟩ : ∃ x, logOk rs f = x := ⟨_, rfl⟩
  obtain ⟨II, hII⟩ : ∃ x, Pl.inB id 1 3 = x := ⟨_, rfl⟩
  rw [hRR, hHS, hBB] at HO
  rw [hLL] at HL
  have HI : Hid (∀ W, Calls Tryz.prog 49 #[.int .i64 id, .int .i64 1, .int .i64 3] W fun e w' => e = .returned (.bool II) ∧ w' = W) := fun W => by rw [← hII]; exact in_any id 1 3 W
  rw [hBB, hLL, hII]
  clear hRR hHS hBB hLL hII
  go_enter Tryz.func38, Tryz.ntmps38
  go_wp2_with fail
  refine (HO.out _).mono ?_
  rintro e w1 ⟨a1, c1, rfl, -, hb1⟩
  have F1 := hide_it ((Five.new w id up room (.slice av rs.length cv) f 79).later hb1 (by simp))
  obtain ⟨w2, hw2⟩ : ∃ W, Hid (W = w1.alloc (.cells #[.int .i64 RR, .slice a1 HS.length c1] 95)) := ⟨_, rfl⟩
  have al2 : Hid (Below w1.heap.size w1 w2) := by show Below _ _ _; rw [hw2.out]; exact alloc_below _ _
  have E2 := hide_it (hb1.trans (al2.out.mono hb1.size))
  have B2 := hide_it ((alloc_below w _).trans (E2.out.mono (by simp)))
  have hz : w.heap.size < w2.heap.size := by have := E2.out.size; simp at this; omega
  have hz1 : w.heap.size < w1.heap.size := F1.out.lt
  obtain ⟨x0, x1, x2, x3, x4⟩ := F1.out.cells
  have k0 := fun x => cellAlloc x0 x
  have k3 := fun x => cellAlloc x3 x
  have k4 := fun x => cellAlloc x4 x
  clear hb1 x0 x1 x2 x3 x4
  go_wp2_with fail
  rw [← hw2.out]
  obtain ⟨x0, x1, x2, x3, x4⟩ := ((Five.new w id up room (.slice av rs.length cv) f 79).later E2.out (by simp)).cells
  clear k0 k3 k4
  refine (HI.out _).mono ?_
  rintro e w3 ⟨rfl, rfl⟩
  cases II
  · go_wp2
    go_ret
    exact ⟨rfl, B2.out⟩
  · go_wp2_with fail
    refine (HL.out _ B2.out).mono ?_
    rintro e w4 ⟨rfl, hb4⟩
    have B4 := hide_it (B2.out.trans (hb4.mono B2.out.size))
    clear hb4
    cases LL
    · go_wp2
      go_ret
      exact ⟨rfl, B4.out⟩
    · go_wp2
      go_ret
      exact ⟨rfl, B4.out⟩

theorem houseId_any (id : Int) (w : World) : Calls Tryz.prog 126 #[.int .i64 id] w fun e w' => e = .returned (.bool (Pl.inB id 1 3)) ∧ w' = w := by
  by_cases h1 : 1 ≤ id
  · by_cases h2 : id ≤ 3
    all_goals
      go_enter Tryz.func126, Tryz.ntmps126
      go_wp2
      go_ret
      exact ⟨by simp [Pl.inB]; omega, rfl⟩
  · go_enter Tryz.func126, Tryz.ntmps126
    go_wp2
    go_ret
    exact ⟨by simp [Pl.inB]; omega, rfl⟩

set_option maxHeartbeats 2000000 in
theorem implHouseOk_any (id : Int) (up : Bool) (room : Int) (v : Value) (rs : List R) (f : Int) (a : Addr) (w : World) (hv : Recs w v rs) (hl : tot rs ≤ 1048576) (ha : ErrAt w a) :
    Calls Tryz.prog 77 #[houseV id up room v f] w fun e w' => e = .returned (.bool (hoOk id room rs f)) ∧ Below w.heap.size w w' := by
  have HO : Hid (∀ W, Below w.heap.size w W → Calls Tryz.prog 127 #[.int .i64 room, v] W fun e w' => StOut W w' e (oR room (Pl.sOf room rs)) (oH (Pl.sOf room rs)) (Pl.sOf room rs).isSome) := fun W h =>
    implOf_any room v rs a W (hv.later h (Nat.le_refl _)) hl (ha.later h (Nat.le_refl _))
  have HL : Hid (∀ W, Below w.heap.size w W → Calls Tryz.prog 123 #[.agg #[v, .int .i64 f]] W fun e w' => e = .returned (.bool (logOk rs f)) ∧ Below W.heap.size W w') := fun W h =>
    implLogOk_any v rs f a W (hv.later h (Nat.le_refl _)) hl (ha.later h (Nat.le_refl _))
  obtain ⟨av, cv, rfl⟩ := hv.shape
  clear hv ha
  have HE : Hid (hoOk id room rs f = (Pl.inB id 1 3 && logOk rs f && (Pl.sOf room rs).isSome)) := rfl
  rw [HE.out]
  clear HE
  obtain ⟨RR, hRR⟩ : ∃ x, oR room (Pl.sOf room rs) = x := ⟨_, rfl⟩
  obtain ⟨HS, hHS⟩ : ∃ x, oH (Pl.sOf room rs) = x := ⟨_, rfl⟩
  obtain ⟨BB, hBB⟩ : ∃ x, (Pl.sOf room rs).isSome = x := ⟨_, rfl⟩
  obtain ⟨LL, hLL⟩ : ∃ x, logOk rs f = x := ⟨_, rfl⟩
  obtain ⟨II, hII⟩ : ∃ x, Pl.inB id 1 3 = x := ⟨_, rfl⟩
  rw [hRR, hHS, hBB] at HO
  rw [hLL] at HL
  have HI : Hid (∀ W, Calls Tryz.prog 126 #[.int .i64 id] W fun e w' => e = .returned (.bool II) ∧ w' = W) := fun W => by rw [← hII]; exact houseId_any id W
  rw [hBB, hLL, hII]
  clear hRR hHS hBB hLL hII
  have B0 := fun o => hide_it (alloc_below w o)
  go_enter Tryz.func77, Tryz.ntmps77
  go_wp2_with fail
  refine (HI.out _).mono ?_
  rintro e w3 ⟨rfl, rfl⟩
  cases II
  · go_wp2
    go_ret
    exact ⟨rfl, alloc_below _ _⟩
  · go_wp2_with fail
    refine (HL.out _ (alloc_below _ _)).mono ?_
    rintro e w4 ⟨rfl, hb4⟩
    obtain ⟨x0, x1, x2, x3, x4⟩ := ((Five.new w id up room (.slice av rs.length cv) f 79).later hb4 (by simp)).cells
    have B4 := hide_it ((alloc_below w _).trans (hb4.mono (by simp)))
    clear hb4
    cases LL
    · go_wp2
      go_ret
      exact ⟨rfl, B4.out⟩
    · go_wp2_with fail
      refine (HO.out _ B4.out).mono ?_
      rintro e w5 ⟨a1, c1, rfl, -, hb5⟩
      have B5 := hide_it (B4.out.trans (hb5.mono B4.out.size))
      clear hb5
      go_wp2
      go_ret
      exact ⟨rfl, B5.out.alloc B5.out.size _⟩

end Go.Proofs.YtkkkdgpbmmjieaaGreatDoor
