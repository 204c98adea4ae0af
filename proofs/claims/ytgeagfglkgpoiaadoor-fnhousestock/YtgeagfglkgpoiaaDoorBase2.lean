/- What the last text of this claim stands on, part 2: plain facts and contracts; the last text says what is proved. -/
import Derived.Test.YtgeagfglkgpoiaaDoorBase1
import Derived.Deep.RegionHeldLaw
import Derived.Laws.AppendOwnNone
import Derived.Deep.DeepCutAuto
import Derived.Deep.RegionLaw
import Derived.Deep.AppendLies
import Derived.Deep.RegionLawGrows
import Derived.Deep.CutBlock
import Derived.Deep.RegionHeld

namespace Go.Proofs.YtgeagfglkgpoiaaDoor
open Go.RowKit

/-- The two boxes and the answer's own, as holdBehind begins. -/
def Box3 (W : World) (B : Nat) (x y : Value) (k t : Int) (u : Value) : Prop :=
  Duo W B x y ∧ RecAt W (B + 1) k t u ∧ W.cell? ⟨B + 2, 0, none⟩ = some (.int .i64 0) ∧ W.cell? ⟨B + 2, 1, none⟩ = some (.int .i64 0) ∧ W.frozen? ⟨B + 2, 0, none⟩ = false ∧ W.frozen? ⟨B + 2, 1, none⟩ = false
theorem Box3.later {C : Nat} {W W' : World} {B : Nat} {x y : Value} {k t : Int} {u : Value} (h : Box3 W B x y k t u) (hb : Below C W W') (hC : W.heap.size ≤ C) : Box3 W' B x y k t u := by
  obtain ⟨h1, h2, h3, h4, h5, h6⟩ := h
  have hlt := World.block_lt_of_cell? _ _ h3
  simp at hlt
  refine ⟨h1.later hb hC, h2.later hb hC, ?_, ?_, ?_, ?_⟩
  · rw [← h3]; exact hb.cell (p := ⟨B + 2, 0, none⟩) (by simp; omega)
  · rw [← h4]; exact hb.cell (p := ⟨B + 2, 1, none⟩) (by simp; omega)
  · rw [← h5]; exact hb.frozen (p := ⟨B + 2, 0, none⟩) (by simp; omega)
  · rw [← h6]; exact hb.frozen (p := ⟨B + 2, 1, none⟩) (by simp; omega)
theorem Box3.new (w : World) (x y : Value) (k t : Int) (u : Value) (t1 t2 t3 : TypeId) : Box3 (((w.alloc (.cells #[x, y] t1)).alloc (.cells #[.int .i64 k, .int .i64 t, u] t2)).alloc (.cells #[.int .i64 0, .int .i64 0] t3)) w.heap.size x y k t u := by
  refine ⟨⟨?_, ?_⟩, ⟨?_, ?_, ?_⟩, ?_, ?_, ?_, ?_⟩ <;> simp [go_sem]

theorem two_set_cells (W : World) (B : Nat) (x y : Value) (b o : Nat) (h : b < B) : ((W.setCell ⟨B, 0, none⟩ x).setCell ⟨B, 1, none⟩ y).cell? ⟨b, o, none⟩ = W.cell? ⟨b, o, none⟩ :=
  (((Below.refl B W).setCell (Nat.le_refl _) x).setCell (Nat.le_refl _) y).cell (p := ⟨b, o, none⟩) h

theorem StepOut.none_ {W w' : World} {p q : Int} (hb : Below W.heap.size W w') : StepOut W w' (.returned (.tuple #[.agg #[.int .i64 p, .int .i64 q], .bool false])) none := ⟨p, q, rfl, fun h hh => (by cases hh), hb⟩

set_option maxHeartbeats 2000000 in
theorem behind_noStock (room : Int) (v : Value) (hs : List Pl.H) (k t : Int) (u : Value) (zs : List Int) (w : World) (hv : Holds w v hs) (hl : hs.length ≤ 1048576) (hu : ∃ au n cu, u = .slice au n cu) (hok : Pl.sOk room hs = false) :
    Calls Tryd.prog 49 #[.agg #[.int .i64 room, v], .agg #[.int .i64 k, .int .i64 t, u]] w fun e w' => StepOut w w' e (Pl.behind room hs k t zs) := by
  rw [Pl.behind_stock k t zs hok]
  have HV : Hid (∀ W, Below w.heap.size w W → Holds W v hs) := fun W h => hv.later h (Nat.le_refl _)
  obtain ⟨av, cv, rfl⟩ := hv.shape
  obtain ⟨au, n, cu, rfl⟩ := hu
  have BX := hide_it (Box3.new w (.int .i64 room) (.slice av hs.length cv) k t (.slice au n cu) 32 62 56)
  clear hv
  go_enter Tryd.func49, Tryd.ntmps49
  go_wp2_with fail
  refine (implStockOk_any room _ hs _ (HV.out _ (below3 w _ _ _)) hl).mono ?_
  rintro e w1 ⟨rfl, hb1⟩
  rw [hok]
  have B1 := hide_it ((below3 w _ _ _).trans (hb1.mono (by simp; omega)))
  obtain ⟨⟨x0, x1⟩, ⟨r0, r1, r2⟩, q0, q1, f0, f1⟩ := BX.out.later hb1 (Nat.le_refl _)
  clear hb1
  go_wp2
  exact bodyPost_ret (v := .tuple #[.agg #[.int .i64 0, .int .i64 0], .bool false]) (by simp [results, Tryd.results49, go_sem, q0, q1]) rfl (StepOut.none_ ((B1.out.setCell (by simp; omega) _).setCell (by simp; omega) _))

set_option maxHeartbeats 2000000 in
theorem behind_noRec (room : Int) (v : Value) (hs : List Pl.H) (k t : Int) (u : Value) (zs : List Int) (a : Addr) (w : World) (hv : Holds w v hs) (hl : hs.length ≤ 1048576) (hu : Ints w u zs) (hzl : zs.length ≤ 1048576) (ha : ErrAt w a) (hok : Pl.sOk room hs = true) (hrec : Pl.recOk k t zs = false) :
    Calls Tryd.prog 49 #[.agg #[.int .i64 room, v], .agg #[.int .i64 k, .int .i64 t, u]] w fun e w' => StepOut w w' e (Pl.behind room hs k t zs) := by
  rw [Pl.behind_rec room hs hrec]
  have HV : Hid (∀ W, Below w.heap.size w W → Holds W v hs) := fun W h => hv.later h (Nat.le_refl _)
  have HU : Hid (∀ W, Below w.heap.size w W → Ints W u zs) := fun W h => hu.later h (Nat.le_refl _)
  have HA : Hid (∀ W, Below w.heap.size w W → ErrAt W a) := fun W h => ha.later h (Nat.le_refl _)
  obtain ⟨av, cv, rfl⟩ := hv.shape
  obtain ⟨au, cu, rfl⟩ := hu.shape
  have BX := hide_it (Box3.new w (.int .i64 room) (.slice av hs.length cv) k t (.slice au zs.length cu) 32 62 56)
  clear hv hu ha
  go_enter Tryd.func49, Tryd.ntmps49
  go_wp2_with fail
  refine (implStockOk_any room _ hs _ (HV.out _ (below3 w _ _ _)) hl).mono ?_
  rintro e w1 ⟨rfl, hb1⟩
  rw [hok]
  have B1 := hide_it ((below3 w _ _ _).trans (hb1.mono (by simp; omega)))
  have BX1 := hide_it (BX.out.later hb1 (Nat.le_refl _))
  obtain ⟨⟨x0, x1⟩, ⟨r0, r1, r2⟩, q0, q1, f0, f1⟩ := BX1.out
  clear hb1
  go_wp2_with fail
  refine (implOk_any k t _ zs a w1 (HU.out _ B1.out) hzl (HA.out _ B1.out)).mono ?_
  rintro e w2 ⟨rfl, hb2⟩
  rw [hrec]
  have B2 := hide_it (B1.out.trans (hb2.mono B1.out.size))
  clear x0 x1 r0 r1 r2 q0 q1 f0 f1
  obtain ⟨⟨x0, x1⟩, ⟨r0, r1, r2⟩, q0, q1, f0, f1⟩ := BX1.out.later hb2 (Nat.le_refl _)
  clear hb2
  go_wp2
  exact bodyPost_ret (v := .tuple #[.agg #[.int .i64 0, .int .i64 0], .bool false]) (by simp [results, Tryd.results49, go_sem, q0, q1]) rfl (StepOut.none_ ((B2.out.setCell (by simp; omega) _).setCell (by simp; omega) _))

set_option maxRecDepth 100000 in
set_option maxHeartbeats 4000000 in
theorem behind_K1 (room : Int) (v : Value) (hs : List Pl.H) (t : Int) (u : Value) (zs : List Int) (a : Addr) (w : World) (hv : Holds w v hs) (hu : Ints w u zs) (hzl : zs.length ≤ 1048576) (ha : ErrAt w a) (hok : Pl.sOk room hs = true) (hrec : Pl.recOk 1 t zs = true) :
    Calls Tryd.prog 49 #[.agg #[.int .i64 room, v], .agg #[.int .i64 1, .int .i64 t, u]] w fun e w' => StepOut w w' e (Pl.behind room hs 1 t zs) := by
  rw [Pl.behind_ok hok hrec]
  obtain ⟨p1, p2, p3, p4⟩ := Pl.sOk_parts hok
  have HV : Hid (∀ W, Below w.heap.size w W → Holds W v hs) := fun W h => hv.later h (Nat.le_refl _)
  have HU : Hid (∀ W, Below w.heap.size w W → Ints W u zs) := fun W h => hu.later h (Nat.le_refl _)
  have HA : Hid (∀ W, Below w.heap.size w W → ErrAt W a) := fun W h => ha.later h (Nat.le_refl _)
  obtain ⟨i, hi, rfl, hat⟩ := trip_at hrec
  obtain ⟨F, hF⟩ : ∃ F, Pl.free room hs = F := ⟨_, rfl⟩
  have HFR : Hid (∀ W, Below w.heap.size w W → Calls Tryd.prog 35 #[.agg #[.int .i64 room, v]] W fun e w' => e = .returned (.int .i64 F) ∧ Below W.heap.size W w') := fun W h => by
    have := implFree_any room v hs W (HV.out W h) (by omega)
    rw [Pl.sFree_yes hok, hF] at this
    exact this
  obtain ⟨m, s, hms⟩ : ∃ m s, Pl.hAt hs ((i : Int) + 1) = (m, s) := ⟨_, _, rfl⟩
  rw [hF, hms]
  have HST : Hid (∀ W, Below w.heap.size w W → Calls Tryd.prog 69 #[.agg #[.int .i64 m, .int .i64 s], .agg #[.int .i64 1, .int .i64 ((i : Int) + 1), u], .int .i64 F] W fun e w' => StepOut W w' e (Pl.next (m, s) 1 (zs.headD 0) F)) := fun W h => by
    obtain ⟨z, rfl, _, _⟩ := Pl.recOk_hold hrec
    rcases HU.out W h with ⟨h, _⟩ | ⟨b2, off2, cap2, rfl, _, hc2⟩
    · simp at h
    · exact holdStep_any m s _ b2 off2 cap2 z F W (hc2 0 (by simp))
  obtain ⟨o, ho⟩ : ∃ o, Pl.next (m, s) 1 (zs.headD 0) F = o := ⟨_, rfl⟩
  rw [ho] at HST ⊢
  clear ho
  rcases hv with ⟨rfl, _⟩ | ⟨b, off, cap, rfl, hz, hc⟩
  · simp at p3
  have hmsd : hs.getD i (0, 0) = (m, s) := by rw [← hat]; exact hms
  have hbw : b < w.heap.size := World.block_lt_of_cell? _ _ (hc i (by omega)).1
  have HC : Hid (∀ W, Below w.heap.size w W → W.cell? ⟨b, off + i * 2, none⟩ = some (.int .i64 m) ∧ W.cell? ⟨b, off + i * 2 + 1, none⟩ = some (.int .i64 s)) := fun W h => by
    obtain ⟨h1, h2⟩ := hc i (by omega)
    rw [hmsd] at h1 h2
    have hl := World.block_lt_of_cell? _ _ h1
    simp at hl
    exact ⟨by rw [← h1]; exact h.cell (p := ⟨b, off + i * 2, none⟩) (by simp; omega), by rw [← h2]; exact h.cell (p := ⟨b, off + i * 2 + 1, none⟩) (by simp; omega)⟩
  rw [p3] at HFR ⊢
  have HOK : Hid (∀ W, Below w.heap.size w W → Calls Tryd.prog 12 #[.agg #[.int .i64 room, .slice (some ⟨b, off, none⟩) 6 cap]] W fun e w' => e = .returned (.bool true) ∧ Below W.heap.size W w') := fun W h => by
    have h1 := HV.out W h
    rw [p3] at h1
    have := implStockOk_any room _ hs W h1 (by omega)
    rw [hok] at this
    exact this
  obtain ⟨au, cu, rfl⟩ := hu.shape
  have BX := hide_it (Box3.new w (.int .i64 room) (.slice (some ⟨b, off, none⟩) 6 cap) 1 ((i : Int) + 1) (.slice au zs.length cu) 32 62 56)
  clear hc hz p1 p2 p3 p4 hat hms hmsd hF HV hu ha
  go_enter Tryd.func49, Tryd.ntmps49
  go_wp2_with fail
  refine (HOK.out _ (below3 w _ _ _)).mono ?_
  rintro e w1 ⟨rfl, hb1⟩
  have B1 := hide_it ((below3 w _ _ _).trans (hb1.mono (by simp; omega)))
  have BX1 := hide_it (BX.out.later hb1 (Nat.le_refl _))
  obtain ⟨⟨x0, x1⟩, ⟨r0, r1, r2⟩, q0, q1, f0, f1⟩ := BX1.out
  clear hb1
  go_wp2_with fail
  refine (implOk_any 1 _ _ zs a w1 (HU.out _ B1.out) hzl (HA.out _ B1.out)).mono ?_
  rintro e w2 ⟨rfl, hb2⟩
  rw [hrec]
  have B2 := hide_it (B1.out.trans (hb2.mono B1.out.size))
  have BX2 := hide_it (BX1.out.later hb2 (Nat.le_refl _))
  clear x0 x1 r0 r1 r2 q0 q1 f0 f1 hb2
  obtain ⟨⟨x0, x1⟩, ⟨r0, r1, r2⟩, q0, q1, f0, f1⟩ := BX2.out
  have hix : ∀ W, Sem.run Tryd.prog (Instr.index 88 (.agg #[.func (.func 68) #[] #[], .func (.func 69) #[] #[], .func (.func 70) #[] #[], .func (.func 71) #[] #[], .func (.func 68) #[] #[], .func (.func 68) #[] #[], .func (.func 68) #[] #[], .func (.func 68) #[] #[]]) (.int .i64 1)) W = .ok (.func (.func 69) #[] #[]) W := fun W => by kernel_rfl
  go_wp2_with fail
  go_region_held (fun w' => w'.cell? ⟨w.heap.size + 1, 0, none⟩ = some (.int .i64 1)) (go_keep)
    ((go_at_call 60; refine (steps_any _).mono ?_; rintro e w3 ⟨rfl, hb3⟩; have B3 := hide_it (B2.out.drew.trans (hb3.mono B2.out.size)); have BX3 := hide_it ((BX2.out.later (Below.refl _ _).drew (Nat.le_refl _)).later hb3 (Nat.le_refl _)); obtain ⟨_, ⟨s0, _⟩, _⟩ := BX3.out; clear hb3))
  have hi6 : (i : Int) < 6 := by omega
  have hwr : IntKind.i64.wrap ((i : Int) + 1 - 1) = (i : Int) := by simp [IntKind.wrap, IntKind.bits, IntKind.signed]; omega
  have hwi : IntKind.i64.wrap (i : Int) = (i : Int) := by simp [IntKind.wrap, IntKind.bits, IntKind.signed]; omega
  obtain ⟨d0, d1⟩ := HC.out _ B3.out
  obtain ⟨⟨y0, y1⟩, ⟨t0, t1, t2⟩, g0, g1, h0, h1⟩ := BX3.out
  clear x0 x1 r0 r1 r2 q0 q1 f0 f1 s0 hix
  go_wp2_with fail
  go_region_held (fun w' => w'.cell? ⟨w.heap.size, 0, none⟩ = some (.int .i64 room) ∧ w'.cell? ⟨w.heap.size, 1, none⟩ = some (.slice (some ⟨b, off, none⟩) 6 cap) ∧ w'.cell? ⟨w.heap.size + 1, 0, none⟩ = some (.int .i64 1) ∧ w'.cell? ⟨w.heap.size + 1, 1, none⟩ = some (.int .i64 ((i : Int) + 1)) ∧ w'.cell? ⟨w.heap.size + 1, 2, none⟩ = some (.slice au zs.length cu) ∧ w'.cell? ⟨b, off + i * 2, none⟩ = some (.int .i64 m) ∧ w'.cell? ⟨b, off + i * 2 + 1, none⟩ = some (.int .i64 s)) (first | (go_keep; done) | (refine ⟨?_, ?_, ?_, ?_, ?_, ?_, ?_⟩ <;> (rw [two_set_cells _ _ _ _ _ _ (by omega)]; assumption)))
    (first
    | (go_at_call 35; refine (HFR.out _ B3.out.drew).mono ?_; rintro e w4 ⟨rfl, hb4⟩; have B4 := hide_it (B3.out.drew.trans (hb4.mono B3.out.size)); have BX4 := hide_it ((BX3.out.later (Below.refl _ _).drew (Nat.le_refl _)).later hb4 (Nat.le_refl _)); obtain ⟨k0, k1⟩ := HC.out _ B4.out; obtain ⟨⟨l0, l1⟩, ⟨n0, n1, n2⟩, _⟩ := BX4.out; clear hb4)
    | (go_at_call 69; refine (HST.out _ B4.out).mono ?_; rintro e w5 ⟨p, q, rfl, hpq, hb5⟩; have HPQ := hide_it hpq; have B5 := hide_it (B4.out.trans (hb5.mono B4.out.size)); have BX5 := hide_it (BX4.out.later hb5 (Nat.le_refl _)); obtain ⟨m0, m1⟩ := HC.out _ B5.out; obtain ⟨⟨o0, o1⟩, ⟨v0, v1, v2⟩, z0, z1, j0, j1⟩ := BX5.out; have hw5 : w.heap.size + 2 < w5.heap.size := World.block_lt_of_cell? _ _ z0; clear hb5 hpq))
  go_wp2
  exact bodyPost_ret (v := .tuple #[.agg #[.int .i64 p, .int .i64 q], .bool o.isSome]) (by simp [results, Tryd.results49, go_sem, z0, z1]) rfl ⟨p, q, rfl, HPQ.out, (B5.out.setCell (by simp; omega) _).setCell (by simp; omega) _⟩

set_option maxRecDepth 100000 in
set_option maxHeartbeats 4000000 in
theorem behind_K2 (room : Int) (v : Value) (hs : List Pl.H) (t : Int) (u : Value) (zs : List Int) (a : Addr) (w : World) (hv : Holds w v hs) (hu : Ints w u zs) (hzl : zs.length ≤ 1048576) (ha : ErrAt w a) (hok : Pl.sOk room hs = true) (hrec : Pl.recOk 2 t zs = true) :
    Calls Tryd.prog 49 #[.agg #[.int .i64 room, v], .agg #[.int .i64 2, .int .i64 t, u]] w fun e w' => StepOut w w' e (Pl.behind room hs 2 t zs) := by
  rw [Pl.behind_ok hok hrec]
  obtain ⟨p1, p2, p3, p4⟩ := Pl.sOk_parts hok
  have HV : Hid (∀ W, Below w.heap.size w W → Holds W v hs) := fun W h => hv.later h (Nat.le_refl _)
  have HU : Hid (∀ W, Below w.heap.size w W → Ints W u zs) := fun W h => hu.later h (Nat.le_refl _)
  have HA : Hid (∀ W, Below w.heap.size w W → ErrAt W a) := fun W h => ha.later h (Nat.le_refl _)
  obtain ⟨i, hi, rfl, hat⟩ := trip_at hrec
  obtain ⟨F, hF⟩ : ∃ F, Pl.free room hs = F := ⟨_, rfl⟩
  have HFR : Hid (∀ W, Below w.heap.size w W → Calls Tryd.prog 35 #[.agg #[.int .i64 room, v]] W fun e w' => e = .returned (.int .i64 F) ∧ Below W.heap.size W w') := fun W h => by
    have := implFree_any room v hs W (HV.out W h) (by omega)
    rw [Pl.sFree_yes hok, hF] at this
    exact this
  obtain ⟨m, s, hms⟩ : ∃ m s, Pl.hAt hs ((i : Int) + 1) = (m, s) := ⟨_, _, rfl⟩
  rw [hF, hms]
  have HST : Hid (∀ W, Below w.heap.size w W → Calls Tryd.prog 70 #[.agg #[.int .i64 m, .int .i64 s], .agg #[.int .i64 2, .int .i64 ((i : Int) + 1), u], .int .i64 F] W fun e w' => StepOut W w' e (Pl.next (m, s) 2 (zs.headD 0) F)) := fun W h => by
    obtain ⟨au, cu, e⟩ := hu.shape
    exact closeStep_any m s _ u _ F W ⟨au, _, cu, e⟩
  obtain ⟨o, ho⟩ : ∃ o, Pl.next (m, s) 2 (zs.headD 0) F = o := ⟨_, rfl⟩
  rw [ho] at HST ⊢
  clear ho
  rcases hv with ⟨rfl, _⟩ | ⟨b, off, cap, rfl, hz, hc⟩
  · simp at p3
  have hmsd : hs.getD i (0, 0) = (m, s) := by rw [← hat]; exact hms
  have hbw : b < w.heap.size := World.block_lt_of_cell? _ _ (hc i (by omega)).1
  have HC : Hid (∀ W, Below w.heap.size w W → W.cell? ⟨b, off + i * 2, none⟩ = some (.int .i64 m) ∧ W.cell? ⟨b, off + i * 2 + 1, none⟩ = some (.int .i64 s)) := fun W h => by
    obtain ⟨h1, h2⟩ := hc i (by omega)
    rw [hmsd] at h1 h2
    have hl := World.block_lt_of_cell? _ _ h1
    simp at hl
    exact ⟨by rw [← h1]; exact h.cell (p := ⟨b, off + i * 2, none⟩) (by simp; omega), by rw [← h2]; exact h.cell (p := ⟨b, off + i * 2 + 1, none⟩) (by simp; omega)⟩
  rw [p3] at HFR ⊢
  have HOK : Hid (∀ W, Below w.heap.size w W → Calls Tryd.prog 12 #[.agg #[.int .i64 room, .slice (some ⟨b, off, none⟩) 6 cap]] W fun e w' => e = .returned (.bool true) ∧ Below W.heap.size W w') := fun W h => by
    have h1 := HV.out W h
    rw [p3] at h1
    have := implStockOk_any room _ hs W h1 (by omega)
    rw [hok] at this
    exact this
  obtain ⟨au, cu, rfl⟩ := hu.shape
  have BX := hide_it (Box3.new w (.int .i64 room) (.slice (some ⟨b, off, none⟩) 6 cap) 2 ((i : Int) + 1) (.slice au zs.length cu) 32 62 56)
  clear hc hz p1 p2 p3 p4 hat hms hmsd hF HV hu ha
  go_enter Tryd.func49, Tryd.ntmps49
  go_wp2_with fail
  refine (HOK.out _ (below3 w _ _ _)).mono ?_
  rintro e w1 ⟨rfl, hb1⟩
  have B1 := hide_it ((below3 w _ _ _).trans (hb1.mono (by simp; omega)))
  have BX1 := hide_it (BX.out.later hb1 (Nat.le_refl _))
  obtain ⟨⟨x0, x1⟩, ⟨r0, r1, r2⟩, q0, q1, f0, f1⟩ := BX1.out
  clear hb1
  go_wp2_with fail
  refine (implOk_any 2 _ _ zs a w1 (HU.out _ B1.out) hzl (HA.out _ B1.out)).mono ?_
  rintro e w2 ⟨rfl, hb2⟩
  rw [hrec]
  have B2 := hide_it (B1.out.trans (hb2.mono B1.out.size))
  have BX2 := hide_it (BX1.out.later hb2 (Nat.le_refl _))
  clear x0 x1 r0 r1 r2 q0 q1 f0 f1 hb2
  obtain ⟨⟨x0, x1⟩, ⟨r0, r1, r2⟩, q0, q1, f0, f1⟩ := BX2.out
  have hix : ∀ W, Sem.run Tryd.prog (Instr.index 88 (.agg #[.func (.func 68) #[] #[], .func (.func 69) #[] #[], .func (.func 70) #[] #[], .func (.func 71) #[] #[], .func (.func 68) #[] #[], .func (.func 68) #[] #[], .func (.func 68) #[] #[], .func (.func 68) #[] #[]]) (.int .i64 2)) W = .ok (.func (.func 70) #[] #[]) W := fun W => by kernel_rfl
  go_wp2_with fail
  go_region_held (fun w' => w'.cell? ⟨w.heap.size + 1, 0, none⟩ = some (.int .i64 2)) (go_keep)
    ((go_at_call 60; refine (steps_any _).mono ?_; rintro e w3 ⟨rfl, hb3⟩; have B3 := hide_it (B2.out.drew.trans (hb3.mono B2.out.size)); have BX3 := hide_it ((BX2.out.later (Below.refl _ _).drew (Nat.le_refl _)).later hb3 (Nat.le_refl _)); obtain ⟨_, ⟨s0, _⟩, _⟩ := BX3.out; clear hb3))
  have hi6 : (i : Int) < 6 := by omega
  have hwr : IntKind.i64.wrap ((i : Int) + 1 - 1) = (i : Int) := by simp [IntKind.wrap, IntKind.bits, IntKind.signed]; omega
  have hwi : IntKind.i64.wrap (i : Int) = (i : Int) := by simp [IntKind.wrap, IntKind.bits, IntKind.signed]; omega
  obtain ⟨d0, d1⟩ := HC.out _ B3.out
  obtain ⟨⟨y0, y1⟩, ⟨t0, t1, t2⟩, g0, g1, h0, h1⟩ := BX3.out
  clear x0 x1 r0 r1 r2 q0 q1 f0 f1 s0 hix
  go_wp2_with fail
  go_region_held (fun w' => w'.cell? ⟨w.heap.size, 0, none⟩ = some (.int .i64 room) ∧ w'.cell? ⟨w.heap.size, 1, none⟩ = some (.slice (some ⟨b, off, none⟩) 6 cap) ∧ w'.cell? ⟨w.heap.size + 1, 0, none⟩ = some (.int .i64 2) ∧ w'.cell? ⟨w.heap.size + 1, 1, none⟩ = some (.int .i64 ((i : Int) + 1)) ∧ w'.cell? ⟨w.heap.size + 1, 2, none⟩ = some (.slice au zs.length cu) ∧ w'.cell? ⟨b, off + i * 2, none⟩ = some (.int .i64 m) ∧ w'.cell? ⟨b, off + i * 2 + 1, none⟩ = some (.int .i64 s)) (first | (go_keep; done) | (refine ⟨?_, ?_, ?_, ?_, ?_, ?_, ?_⟩ <;> (rw [two_set_cells _ _ _ _ _ _ (by omega)]; assumption)))
    (first
    | (go_at_call 35; refine (HFR.out _ B3.out.drew).mono ?_; rintro e w4 ⟨rfl, hb4⟩; have B4 := hide_it (B3.out.drew.trans (hb4.mono B3.out.size)); have BX4 := hide_it ((BX3.out.later (Below.refl _ _).drew (Nat.le_refl _)).later hb4 (Nat.le_refl _)); obtain ⟨k0, k1⟩ := HC.out _ B4.out; obtain ⟨⟨l0, l1⟩, ⟨n0, n1, n2⟩, _⟩ := BX4.out; clear hb4)
    | (go_at_call 70; refine (HST.out _ B4.out).mono ?_; rintro e w5 ⟨p, q, rfl, hpq, hb5⟩; have HPQ := hide_it hpq; have B5 := hide_it (B4.out.trans (hb5.mono B4.out.size)); have BX5 := hide_it (BX4.out.later hb5 (Nat.le_refl _)); obtain ⟨m0, m1⟩ := HC.out _ B5.out; obtain ⟨⟨o0, o1⟩, ⟨v0, v1, v2⟩, z0, z1, j0, j1⟩ := BX5.out; have hw5 : w.heap.size + 2 < w5.heap.size := World.block_lt_of_cell? _ _ z0; clear hb5 hpq))
  go_wp2
  exact bodyPost_ret (v := .tuple #[.agg #[.int .i64 p, .int .i64 q], .bool o.isSome]) (by simp [results, Tryd.results49, go_sem, z0, z1]) rfl ⟨p, q, rfl, HPQ.out, (B5.out.setCell (by simp; omega) _).setCell (by simp; omega) _⟩

set_option maxRecDepth 100000 in
set_option maxHeartbeats 4000000 in
theorem behind_K3 (room : Int) (v : Value) (hs : List Pl.H) (t : Int) (u : Value) (zs : List Int) (a : Addr) (w : World) (hv : Holds w v hs) (hu : Ints w u zs) (hzl : zs.length ≤ 1048576) (ha : ErrAt w a) (hok : Pl.sOk room hs = true) (hrec : Pl.recOk 3 t zs = true) :
    Calls Tryd.prog 49 #[.agg #[.int .i64 room, v], .agg #[.int .i64 3, .int .i64 t, u]] w fun e w' => StepOut w w' e (Pl.behind room hs 3 t zs) := by
  rw [Pl.behind_ok hok hrec]
  obtain ⟨p1, p2, p3, p4⟩ := Pl.sOk_parts hok
  have HV : Hid (∀ W, Below w.heap.size w W → Holds W v hs) := fun W h => hv.later h (Nat.le_refl _)
  have HU : Hid (∀ W, Below w.heap.size w W → Ints W u zs) := fun W h => hu.later h (Nat.le_refl _)
  have HA : Hid (∀ W, Below w.heap.size w W → ErrAt W a) := fun W h => ha.later h (Nat.le_refl _)
  obtain ⟨i, hi, rfl, hat⟩ := trip_at hrec
  obtain ⟨F, hF⟩ : ∃ F, Pl.free room hs = F := ⟨_, rfl⟩
  have HFR : Hid (∀ W, Below w.heap.size w W → Calls Tryd.prog 35 #[.agg #[.int .i64 room, v]] W fun e w' => e = .returned (.int .i64 F) ∧ Below W.heap.size W w') := fun W h => by
    have := implFree_any room v hs W (HV.out W h) (by omega)
    rw [Pl.sFree_yes hok, hF] at this
    exact this
  obtain ⟨m, s, hms⟩ : ∃ m s, Pl.hAt hs ((i : Int) + 1) = (m, s) := ⟨_, _, rfl⟩
  rw [hF, hms]
  have HST : Hid (∀ W, Below w.heap.size w W → Calls Tryd.prog 71 #[.agg #[.int .i64 m, .int .i64 s], .agg #[.int .i64 3, .int .i64 ((i : Int) + 1), u], .int .i64 F] W fun e w' => StepOut W w' e (Pl.next (m, s) 3 (zs.headD 0) F)) := fun W h => by
    obtain ⟨au, cu, e⟩ := hu.shape
    exact undoStep_any m s _ u _ F W ⟨au, _, cu, e⟩
  obtain ⟨o, ho⟩ : ∃ o, Pl.next (m, s) 3 (zs.headD 0) F = o := ⟨_, rfl⟩
  rw [ho] at HST ⊢
  clear ho
  rcases hv with ⟨rfl, _⟩ | ⟨b, off, cap, rfl, hz, hc⟩
  · simp at p3
  have hmsd : hs.getD i (0, 0) = (m, s) := by rw [← hat]; exact hms
  have hbw : b < w.heap.size := World.block_lt_of_cell? _ _ (hc i (by omega)).1
  have HC : Hid (∀ W, Below w.heap.size w W → W.cell? ⟨b, off + i * 2, none⟩ = some (.int .i64 m) ∧ W.cell? ⟨b, off + i * 2 + 1, none⟩ = some (.int .i64 s)) := fun W h => by
    obtain ⟨h1, h2⟩ := hc i (by omega)
    rw [hmsd] at h1 h2
    have hl := World.block_lt_of_cell? _ _ h1
    simp at hl
    exact ⟨by rw [← h1]; exact h.cell (p := ⟨b, off + i * 2, none⟩) (by simp; omega), by rw [← h2]; exact h.cell (p := ⟨b, off + i * 2 + 1, none⟩) (by simp; omega)⟩
  rw [p3] at HFR ⊢
  have HOK : Hid (∀ W, Below w.heap.size w W → Calls Tryd.prog 12 #[.agg #[.int .i64 room, .slice (some ⟨b, off, none⟩) 6 cap]] W fun e w' => e = .returned (.bool true) ∧ Below W.heap.size W w') := fun W h => by
    have h1 := HV.out W h
    rw [p3] at h1
    have := implStockOk_any room _ hs W h1 (by omega)
    rw [hok] at this
    exact this
  obtain ⟨au, cu, rfl⟩ := hu.shape
  have BX := hide_it (Box3.new w (.int .i64 room) (.slice (some ⟨b, off, none⟩) 6 cap) 3 ((i : Int) + 1) (.slice au zs.length cu) 32 62 56)
  clear hc hz p1 p2 p3 p4 hat hms hmsd hF HV hu ha
  go_enter Tryd.func49, Tryd.ntmps49
  go_wp2_with fail
  refine (HOK.out _ (below3 w _ _ _)).mono ?_
  rintro e w1 ⟨rfl, hb1⟩
  have B1 := hide_it ((below3 w _ _ _).trans (hb1.mono (by simp; omega)))
  have BX1 := hide_it (BX.out.later hb1 (Nat.le_refl _))
  obtain ⟨⟨x0, x1⟩, ⟨r0, r1, r2⟩, q0, q1, f0, f1⟩ := BX1.out
  clear hb1
  go_wp2_with fail
  refine (implOk_any 3 _ _ zs a w1 (HU.out _ B1.out) hzl (HA.out _ B1.out)).mono ?_
  rintro e w2 ⟨rfl, hb2⟩
  rw [hrec]
  have B2 := hide_it (B1.out.trans (hb2.mono B1.out.size))
  have BX2 := hide_it (BX1.out.later hb2 (Nat.le_refl _))
  clear x0 x1 r0 r1 r2 q0 q1 f0 f1 hb2
  obtain ⟨⟨x0, x1⟩, ⟨r0, r1, r2⟩, q0, q1, f0, f1⟩ := BX2.out
  have hix : ∀ W, Sem.run Tryd.prog (Instr.index 88 (.agg #[.func (.func 68) #[] #[], .func (.func 69) #[] #[], .func (.func 70) #[] #[], .func (.func 71) #[] #[], .func (.func 68) #[] #[], .func (.func 68) #[] #[], .func (.func 68) #[] #[], .func (.func 68) #[] #[]]) (.int .i64 3)) W = .ok (.func (.func 71) #[] #[]) W := fun W => by kernel_rfl
  go_wp2_with fail
  go_region_held (fun w' => w'.cell? ⟨w.heap.size + 1, 0, none⟩ = some (.int .i64 3)) (go_keep)
    ((go_at_call 60; refine (steps_any _).mono ?_; rintro e w3 ⟨rfl, hb3⟩; have B3 := hide_it (B2.out.drew.trans (hb3.mono B2.out.size)); have BX3 := hide_it ((BX2.out.later (Below.refl _ _).drew (Nat.le_refl _)).later hb3 (Nat.le_refl _)); obtain ⟨_, ⟨s0, _⟩, _⟩ := BX3.out; clear hb3))
  have hi6 : (i : Int) < 6 := by omega
  have hwr : IntKind.i64.wrap ((i : Int) + 1 - 1) = (i : Int) := by simp [IntKind.wrap, IntKind.bits, IntKind.signed]; omega
  have hwi : IntKind.i64.wrap (i : Int) = (i : Int) := by simp [IntKind.wrap, IntKind.bits, IntKind.signed]; omega
  obtain ⟨d0, d1⟩ := HC.out _ B3.out
  obtain ⟨⟨y0, y1⟩, ⟨t0, t1, t2⟩, g0, g1, h0, h1⟩ := BX3.out
  clear x0 x1 r0 r1 r2 q0 q1 f0 f1 s0 hix
  go_wp2_with fail
  go_region_held (fun w' => w'.cell? ⟨w.heap.size, 0, none⟩ = some (.int .i64 room) ∧ w'.cell? ⟨w.heap.size, 1, none⟩ = some (.slice (some ⟨b, off, none⟩) 6 cap) ∧ w'.cell? ⟨w.heap.size + 1, 0, none⟩ = some (.int .i64 3) ∧ w'.cell? ⟨w.heap.size + 1, 1, none⟩ = some (.int .i64 ((i : Int) + 1)) ∧ w'.cell? ⟨w.heap.size + 1, 2, none⟩ = some (.slice au zs.length cu) ∧ w'.cell? ⟨b, off + i * 2, none⟩ = some (.int .i64 m) ∧ w'.cell? ⟨b, off + i * 2 + 1, none⟩ = some (.int .i64 s)) (first | (go_keep; done) | (refine ⟨?_, ?_, ?_, ?_, ?_, ?_, ?_⟩ <;> (rw [two_set_cells _ _ _ _ _ _ (by omega)]; assumption)))
    (first
    | (go_at_call 35; refine (HFR.out _ B3.out.drew).mono ?_; rintro e w4 ⟨rfl, hb4⟩; have B4 := hide_it (B3.out.drew.trans (hb4.mono B3.out.size)); have BX4 := hide_it ((BX3.out.later (Below.refl _ _).drew (Nat.le_refl _)).later hb4 (Nat.le_refl _)); obtain ⟨k0, k1⟩ := HC.out _ B4.out; obtain ⟨⟨l0, l1⟩, ⟨n0, n1, n2⟩, _⟩ := BX4.out; clear hb4)
    | (go_at_call 71; refine (HST.out _ B4.out).mono ?_; rintro e w5 ⟨p, q, rfl, hpq, hb5⟩; have HPQ := hide_it hpq; have B5 := hide_it (B4.out.trans (hb5.mono B4.out.size)); have BX5 := hide_it (BX4.out.later hb5 (Nat.le_refl _)); obtain ⟨m0, m1⟩ := HC.out _ B5.out; obtain ⟨⟨o0, o1⟩, ⟨v0, v1, v2⟩, z0, z1, j0, j1⟩ := BX5.out; have hw5 : w.heap.size + 2 < w5.heap.size := World.block_lt_of_cell? _ _ z0; clear hb5 hpq))
  go_wp2
  exact bodyPost_ret (v := .tuple #[.agg #[.int .i64 p, .int .i64 q], .bool o.isSome]) (by simp [results, Tryd.results49, go_sem, z0, z1]) rfl ⟨p, q, rfl, HPQ.out, (B5.out.setCell (by simp; omega) _).setCell (by simp; omega) _⟩

set_option maxRecDepth 100000 in
set_option maxHeartbeats 4000000 in
theorem behind_K4 (room : Int) (v : Value) (hs : List Pl.H) (t : Int) (u : Value) (zs : List Int) (a : Addr) (w : World) (hv : Holds w v hs) (hu : Ints w u zs) (hzl : zs.length ≤ 1048576) (ha : ErrAt w a) (hok : Pl.sOk room hs = true) (hrec : Pl.recOk 4 t zs = true) :
    Calls Tryd.prog 49 #[.agg #[.int .i64 room, v], .agg #[.int .i64 4, .int .i64 t, u]] w fun e w' => StepOut w w' e (Pl.behind room hs 4 t zs) := by
  rw [Pl.behind_ok hok hrec]
  obtain ⟨p1, p2, p3, p4⟩ := Pl.sOk_parts hok
  have HV : Hid (∀ W, Below w.heap.size w W → Holds W v hs) := fun W h => hv.later h (Nat.le_refl _)
  have HU : Hid (∀ W, Below w.heap.size w W → Ints W u zs) := fun W h => hu.later h (Nat.le_refl _)
  have HA : Hid (∀ W, Below w.heap.size w W → ErrAt W a) := fun W h => ha.later h (Nat.le_refl _)
  obtain ⟨i, hi, rfl, hat⟩ := trip_at hrec
  obtain ⟨F, hF⟩ : ∃ F, Pl.free room hs = F := ⟨_, rfl⟩
  have HFR : Hid (∀ W, Below w.heap.size w W → Calls Tryd.prog 35 #[.agg #[.int .i64 room, v]] W fun e w' => e = .returned (.int .i64 F) ∧ Below W.heap.size W w') := fun W h => by
    have := implFree_any room v hs W (HV.out W h) (by omega)
    rw [Pl.sFree_yes hok, hF] at this
    exact this
  obtain ⟨m, s, hms⟩ : ∃ m s, Pl.hAt hs ((i : Int) + 1) = (m, s) := ⟨_, _, rfl⟩
  rw [hF, hms]
  have HST : Hid (∀ W, Below w.heap.size w W → Calls Tryd.prog 68 #[.agg #[.int .i64 m, .int .i64 s], .agg #[.int .i64 4, .int .i64 ((i : Int) + 1), u], .int .i64 F] W fun e w' => StepOut W w' e (Pl.next (m, s) 4 (zs.headD 0) F)) := fun W h => by
    obtain ⟨au, cu, e⟩ := hu.shape
    exact noStep_any m s _ _ u _ F W (by decide) (by decide) (by decide) ⟨au, _, cu, e⟩
  obtain ⟨o, ho⟩ : ∃ o, Pl.next (m, s) 4 (zs.headD 0) F = o := ⟨_, rfl⟩
  rw [ho] at HST ⊢
  clear ho
  rcases hv with ⟨rfl, _⟩ | ⟨b, off, cap, rfl, hz, hc⟩
  · simp at p3
  have hmsd : hs.getD i (0, 0) = (m, s) := by rw [← hat]; exact hms
  have hbw : b < w.heap.size := World.block_lt_of_cell? _ _ (hc i (by omega)).1
  have HC : Hid (∀ W, Below w.heap.size w W → W.cell? ⟨b, off + i * 2, none⟩ = some (.int .i64 m) ∧ W.cell? ⟨b, off + i * 2 + 1, none⟩ = some (.int .i64 s)) := fun W h => by
    obtain ⟨h1, h2⟩ := hc i (by omega)
    rw [hmsd] at h1 h2
    have hl := World.block_lt_of_cell? _ _ h1
    simp at hl
    exact ⟨by rw [← h1]; exact h.cell (p := ⟨b, off + i * 2, none⟩) (by simp; omega), by rw [← h2]; exact h.cell (p := ⟨b, off + i * 2 + 1, none⟩) (by simp; omega)⟩
  rw [p3] at HFR ⊢
  have HOK : Hid (∀ W, Below w.heap.size w W → Calls Tryd.prog 12 #[.agg #[.int .i64 room, .slice (some ⟨b, off, none⟩) 6 cap]] W fun e w' => e = .returned (.bool true) ∧ Below W.heap.size W w') := fun W h => by
    have h1 := HV.out W h
    rw [p3] at h1
    have := implStockOk_any room _ hs W h1 (by omega)
    rw [hok] at this
    exact this
  obtain ⟨au, cu, rfl⟩ := hu.shape
  have BX := hide_it (Box3.new w (.int .i64 room) (.slice (some ⟨b, off, none⟩) 6 cap) 4 ((i : Int) + 1) (.slice au zs.length cu) 32 62 56)
  clear hc hz p1 p2 p3 p4 hat hms hmsd hF HV hu ha
  go_enter Tryd.func49, Tryd.ntmps49
  go_wp2_with fail
  refine (HOK.out _ (below3 w _ _ _)).mono ?_
  rintro e w1 ⟨rfl, hb1⟩
  have B1 := hide_it ((below3 w _ _ _).trans (hb1.mono (by simp; omega)))
  have BX1 := hide_it (BX.out.later hb1 (Nat.le_refl _))
  obtain ⟨⟨x0, x1⟩, ⟨r0, r1, r2⟩, q0, q1, f0, f1⟩ := BX1.out
  clear hb1
  go_wp2_with fail
  refine (implOk_any 4 _ _ zs a w1 (HU.out _ B1.out) hzl (HA.out _ B1.out)).mono ?_
  rintro e w2 ⟨rfl, hb2⟩
  rw [hrec]
  have B2 := hide_it (B1.out.trans (hb2.mono B1.out.size))
  have BX2 := hide_it (BX1.out.later hb2 (Nat.le_refl _))
  clear x0 x1 r0 r1 r2 q0 q1 f0 f1 hb2
  obtain ⟨⟨x0, x1⟩, ⟨r0, r1, r2⟩, q0, q1, f0, f1⟩ := BX2.out
  have hix : ∀ W, Sem.run Tryd.prog (Instr.index 88 (.agg #[.func (.func 68) #[] #[], .func (.func 69) #[] #[], .func (.func 70) #[] #[], .func (.func 71) #[] #[], .func (.func 68) #[] #[], .func (.func 68) #[] #[], .func (.func 68) #[] #[], .func (.func 68) #[] #[]]) (.int .i64 4)) W = .ok (.func (.func 68) #[] #[]) W := fun W => by kernel_rfl
  go_wp2_with fail
  go_region_held (fun w' => w'.cell? ⟨w.heap.size + 1, 0, none⟩ = some (.int .i64 4)) (go_keep)
    ((go_at_call 60; refine (steps_any _).mono ?_; rintro e w3 ⟨rfl, hb3⟩; have B3 := hide_it (B2.out.drew.trans (hb3.mono B2.out.size)); have BX3 := hide_it ((BX2.out.later (Below.refl _ _).drew (Nat.le_refl _)).later hb3 (Nat.le_refl _)); obtain ⟨_, ⟨s0, _⟩, _⟩ := BX3.out; clear hb3))
  have hi6 : (i : Int) < 6 := by omega
  have hwr : IntKind.i64.wrap ((i : Int) + 1 - 1) = (i : Int) := by simp [IntKind.wrap, IntKind.bits, IntKind.signed]; omega
  have hwi : IntKind.i64.wrap (i : Int) = (i : Int) := by simp [IntKind.wrap, IntKind.bits, IntKind.signed]; omega
  obtain ⟨d0, d1⟩ := HC.out _ B3.out
  obtain ⟨⟨y0, y1⟩, ⟨t0, t1, t2⟩, g0, g1, h0, h1⟩ := BX3.out
  clear x0 x1 r0 r1 r2 q0 q1 f0 f1 s0 hix
  go_wp2_with fail
  go_region_held (fun w' => w'.cell? ⟨w.heap.size, 0, none⟩ = some (.int .i64 room) ∧ w'.cell? ⟨w.heap.size, 1, none⟩ = some (.slice (some ⟨b, off, none⟩) 6 cap) ∧ w'.cell? ⟨w.heap.size + 1, 0, none⟩ = some (.int .i64 4) ∧ w'.cell? ⟨w.heap.size + 1, 1, none⟩ = some (.int .i64 ((i : Int) + 1)) ∧ w'.cell? ⟨w.heap.size + 1, 2, none⟩ = some (.slice au zs.length cu) ∧ w'.cell? ⟨b, off + i * 2, none⟩ = some (.int .i64 m) ∧ w'.cell? ⟨b, off + i * 2 + 1, none⟩ = some (.int .i64 s)) (first | (go_keep; done) | (refine ⟨?_, ?_, ?_, ?_, ?_, ?_, ?_⟩ <;> (rw [two_set_cells _ _ _ _ _ _ (by omega)]; assumption)))
    (first
    | (go_at_call 35; refine (HFR.out _ B3.out.drew).mono ?_; rintro e w4 ⟨rfl, hb4⟩; have B4 := hide_it (B3.out.drew.trans (hb4.mono B3.out.size)); have BX4 := hide_it ((BX3.out.later (Below.refl _ _).drew (Nat.le_refl _)).later hb4 (Nat.le_refl _)); obtain ⟨k0, k1⟩ := HC.out _ B4.out; obtain ⟨⟨l0, l1⟩, ⟨n0, n1, n2⟩, _⟩ := BX4.out; clear hb4)
    | (go_at_call 68; refine (HST.out _ B4.out).mono ?_; rintro e w5 ⟨p, q, rfl, hpq, hb5⟩; have HPQ := hide_it hpq; have B5 := hide_it (B4.out.trans (hb5.mono B4.out.size)); have BX5 := hide_it (BX4.out.later hb5 (Nat.le_refl _)); obtain ⟨m0, m1⟩ := HC.out _ B5.out; obtain ⟨⟨o0, o1⟩, ⟨v0, v1, v2⟩, z0, z1, j0, j1⟩ := BX5.out; have hw5 : w.heap.size + 2 < w5.heap.size := World.block_lt_of_cell? _ _ z0; clear hb5 hpq))
  go_wp2
  exact bodyPost_ret (v := .tuple #[.agg #[.int .i64 p, .int .i64 q], .bool o.isSome]) (by simp [results, Tryd.results49, go_sem, z0, z1]) rfl ⟨p, q, rfl, HPQ.out, (B5.out.setCell (by simp; omega) _).setCell (by simp; omega) _⟩

set_option maxRecDepth 100000 in
set_option maxHeartbeats 4000000 in
theorem behind_K5 (room : Int) (v : Value) (hs : List Pl.H) (t : Int) (u : Value) (zs : List Int) (a : Addr) (w : World) (hv : Holds w v hs) (hu : Ints w u zs) (hzl : zs.length ≤ 1048576) (ha : ErrAt w a) (hok : Pl.sOk room hs = true) (hrec : Pl.recOk 5 t zs = true) :
    Calls Tryd.prog 49 #[.agg #[.int .i64 room, v], .agg #[.int .i64 5, .int .i64 t, u]] w fun e w' => StepOut w w' e (Pl.behind room hs 5 t zs) := by
  rw [Pl.behind_ok hok hrec]
  obtain ⟨p1, p2, p3, p4⟩ := Pl.sOk_parts hok
  have HV : Hid (∀ W, Below w.heap.size w W → Holds W v hs) := fun W h => hv.later h (Nat.le_refl _)
  have HU : Hid (∀ W, Below w.heap.size w W → Ints W u zs) := fun W h => hu.later h (Nat.le_refl _)
  have HA : Hid (∀ W, Below w.heap.size w W → ErrAt W a) := fun W h => ha.later h (Nat.le_refl _)
  obtain ⟨i, hi, rfl, hat⟩ := trip_at hrec
  obtain ⟨F, hF⟩ : ∃ F, Pl.free room hs = F := ⟨_, rfl⟩
  have HFR : Hid (∀ W, Below w.heap.size w W → Calls Tryd.prog 35 #[.agg #[.int .i64 room, v]] W fun e w' => e = .returned (.int .i64 F) ∧ Below W.heap.size W w') := fun W h => by
    have := implFree_any room v hs W (HV.out W h) (by omega)
    rw [Pl.sFree_yes hok, hF] at this
    exact this
  obtain ⟨m, s, hms⟩ : ∃ m s, Pl.hAt hs ((i : Int) + 1) = (m, s) := ⟨_, _, rfl⟩
  rw [hF, hms]
  have HST : Hid (∀ W, Below w.heap.size w W → Calls Tryd.prog 68 #[.agg #[.int .i64 m, .int .i64 s], .agg #[.int .i64 5, .int .i64 ((i : Int) + 1), u], .int .i64 F] W fun e w' => StepOut W w' e (Pl.next (m, s) 5 (zs.headD 0) F)) := fun W h => by
    obtain ⟨au, cu, e⟩ := hu.shape
    exact noStep_any m s _ _ u _ F W (by decide) (by decide) (by decide) ⟨au, _, cu, e⟩
  obtain ⟨o, ho⟩ : ∃ o, Pl.next (m, s) 5 (zs.headD 0) F = o := ⟨_, rfl⟩
  rw [ho] at HST ⊢
  clear ho
  rcases hv with ⟨rfl, _⟩ | ⟨b, off, cap, rfl, hz, hc⟩
  · simp at p3
  have hmsd : hs.getD i (0, 0) = (m, s) := by rw [← hat]; exact hms
  have hbw : b < w.heap.size := World.block_lt_of_cell? _ _ (hc i (by omega)).1
  have HC : Hid (∀ W, Below w.heap.size w W → W.cell? ⟨b, off + i * 2, none⟩ = some (.int .i64 m) ∧ W.cell? ⟨b, off + i * 2 + 1, none⟩ = some (.int .i64 s)) := fun W h => by
    obtain ⟨h1, h2⟩ := hc i (by omega)
    rw [hmsd] at h1 h2
    have hl := World.block_lt_of_cell? _ _ h1
    simp at hl
    exact ⟨by rw [← h1]; exact h.cell (p := ⟨b, off + i * 2, none⟩) (by simp; omega), by rw [← h2]; exact h.cell (p := ⟨b, off + i * 2 + 1, none⟩) (by simp; omega)⟩
  rw [p3] at HFR ⊢
  have HOK : Hid (∀ W, Below w.heap.size w W → Calls Tryd.prog 12 #[.agg #[.int .i64 room, .slice (some ⟨b, off, none⟩) 6 cap]] W fun e w' => e = .returned (.bool true) ∧ Below W.heap.size W w') := fun W h => by
    have h1 := HV.out W h
    rw [p3] at h1
    have := implStockOk_any room _ hs W h1 (by omega)
    rw [hok] at this
    exact this
  obtain ⟨au, cu, rfl⟩ := hu.shape
  have BX := hide_it (Box3.new w (.int .i64 room) (.slice (some ⟨b, off, none⟩) 6 cap) 5 ((i : Int) + 1) (.slice au zs.length cu) 32 62 56)
  clear hc hz p1 p2 p3 p4 hat hms hmsd hF HV hu ha
  go_enter Tryd.func49, Tryd.ntmps49
  go_wp2_with fail
  refine (HOK.out _ (below3 w _ _ _)).mono ?_
  rintro e w1 ⟨rfl, hb1⟩
  have B1 := hide_it ((below3 w _ _ _).trans (hb1.mono (by simp; omega)))
  have BX1 := hide_it (BX.out.later hb1 (Nat.le_refl _))
  obtain ⟨⟨x0, x1⟩, ⟨r0, r1, r2⟩, q0, q1, f0, f1⟩ := BX1.out
  clear hb1
  go_wp2_with fail
  refine (implOk_any 5 _ _ zs a w1 (HU.out _ B1.out) hzl (HA.out _ B1.out)).mono ?_
  rintro e w2 ⟨rfl, hb2⟩
  rw [hrec]
  have B2 := hide_it (B1.out.trans (hb2.mono B1.out.size))
  have BX2 := hide_it (BX1.out.later hb2 (Nat.le_refl _))
  clear x0 x1 r0 r1 r2 q0 q1 f0 f1 hb2
  obtain ⟨⟨x0, x1⟩, ⟨r0, r1, r2⟩, q0, q1, f0, f1⟩ := BX2.out
  have hix : ∀ W, Sem.run Tryd.prog (Instr.index 88 (.agg #[.func (.func 68) #[] #[], .func (.func 69) #[] #[], .func (.func 70) #[] #[], .func (.func 71) #[] #[], .func (.func 68) #[] #[], .func (.func 68) #[] #[], .func (.func 68) #[] #[], .func (.func 68) #[] #[]]) (.int .i64 5)) W = .ok (.func (.func 68) #[] #[]) W := fun W => by kernel_rfl
  go_wp2_with fail
  go_region_held (fun w' => w'.cell? ⟨w.heap.size + 1, 0, none⟩ = some (.int .i64 5)) (go_keep)
    ((go_at_call 60; refine (steps_any _).mono ?_; rintro e w3 ⟨rfl, hb3⟩; have B3 := hide_it (B2.out.drew.trans (hb3.mono B2.out.size)); have BX3 := hide_it ((BX2.out.later (Below.refl _ _).drew (Nat.le_refl _)).later hb3 (Nat.le_refl _)); obtain ⟨_, ⟨s0, _⟩, _⟩ := BX3.out; clear hb3))
  have hi6 : (i : Int) < 6 := by omega
  have hwr : IntKind.i64.wrap ((i : Int) + 1 - 1) = (i : Int) := by simp [IntKind.wrap, IntKind.bits, IntKind.signed]; omega
  have hwi : IntKind.i64.wrap (i : Int) = (i : Int) := by simp [IntKind.wrap, IntKind.bits, IntKind.signed]; omega
  obtain ⟨d0, d1⟩ := HC.out _ B3.out
  obtain ⟨⟨y0, y1⟩, ⟨t0, t1, t2⟩, g0, g1, h0, h1⟩ := BX3.out
  clear x0 x1 r0 r1 r2 q0 q1 f0 f1 s0 hix
  go_wp2_with fail
  go_region_held (fun w' => w'.cell? ⟨w.heap.size, 0, none⟩ = some (.int .i64 room) ∧ w'.cell? ⟨w.heap.size, 1, none⟩ = some (.slice (some ⟨b, off, none⟩) 6 cap) ∧ w'.cell? ⟨w.heap.size + 1, 0, none⟩ = some (.int .i64 5) ∧ w'.cell? ⟨w.heap.size + 1, 1, none⟩ = some (.int .i64 ((i : Int) + 1)) ∧ w'.cell? ⟨w.heap.size + 1, 2, none⟩ = some (.slice au zs.length cu) ∧ w'.cell? ⟨b, off + i * 2, none⟩ = some (.int .i64 m) ∧ w'.cell? ⟨b, off + i * 2 + 1, none⟩ = some (.int .i64 s)) (first | (go_keep; done) | (refine ⟨?_, ?_, ?_, ?_, ?_, ?_, ?_⟩ <;> (rw [two_set_cells _ _ _ _ _ _ (by omega)]; assumption)))
    (first
    | (go_at_call 35; refine (HFR.out _ B3.out.drew).mono ?_; rintro e w4 ⟨rfl, hb4⟩; have B4 := hide_it (B3.out.drew.trans (hb4.mono B3.out.size)); have BX4 := hide_it ((BX3.out.later (Below.refl _ _).drew (Nat.le_refl _)).later hb4 (Nat.le_refl _)); obtain ⟨k0, k1⟩ := HC.out _ B4.out; obtain ⟨⟨l0, l1⟩, ⟨n0, n1, n2⟩, _⟩ := BX4.out; clear hb4)
    | (go_at_call 68; refine (HST.out _ B4.out).mono ?_; rintro e w5 ⟨p, q, rfl, hpq, hb5⟩; have HPQ := hide_it hpq; have B5 := hide_it (B4.out.trans (hb5.mono B4.out.size)); have BX5 := hide_it (BX4.out.later hb5 (Nat.le_refl _)); obtain ⟨m0, m1⟩ := HC.out _ B5.out; obtain ⟨⟨o0, o1⟩, ⟨v0, v1, v2⟩, z0, z1, j0, j1⟩ := BX5.out; have hw5 : w.heap.size + 2 < w5.heap.size := World.block_lt_of_cell? _ _ z0; clear hb5 hpq))
  go_wp2
  exact bodyPost_ret (v := .tuple #[.agg #[.int .i64 p, .int .i64 q], .bool o.isSome]) (by simp [results, Tryd.results49, go_sem, z0, z1]) rfl ⟨p, q, rfl, HPQ.out, (B5.out.setCell (by simp; omega) _).setCell (by simp; omega) _⟩

set_option maxRecDepth 100000 in
set_option maxHeartbeats 4000000 in
theorem behind_K6 (room : Int) (v : Value) (hs : List Pl.H) (t : Int) (u : Value) (zs : List Int) (a : Addr) (w : World) (hv : Holds w v hs) (hu : Ints w u zs) (hzl : zs.length ≤ 1048576) (ha : ErrAt w a) (hok : Pl.sOk room hs = true) (hrec : Pl.recOk 6 t zs = true) :
    Calls Tryd.prog 49 #[.agg #[.int .i64 room, v], .agg #[.int .i64 6, .int .i64 t, u]] w fun e w' => StepOut w w' e (Pl.behind room hs 6 t zs) := by
  rw [Pl.behind_ok hok hrec]
  obtain ⟨p1, p2, p3, p4⟩ := Pl.sOk_parts hok
  have HV : Hid (∀ W, Below w.heap.size w W → Holds W v hs) := fun W h => hv.later h (Nat.le_refl _)
  have HU : Hid (∀ W, Below w.heap.size w W → Ints W u zs) := fun W h => hu.later h (Nat.le_refl _)
  have HA : Hid (∀ W, Below w.heap.size w W → ErrAt W a) := fun W h => ha.later h (Nat.le_refl _)
  obtain ⟨i, hi, rfl, hat⟩ := trip_at hrec
  obtain ⟨F, hF⟩ : ∃ F, Pl.free room hs = F := ⟨_, rfl⟩
  have HFR : Hid (∀ W, Below w.heap.size w W → Calls Tryd.prog 35 #[.agg #[.int .i64 room, v]] W fun e w' => e = .returned (.int .i64 F) ∧ Below W.heap.size W w') := fun W h => by
    have := implFree_any room v hs W (HV.out W h) (by omega)
    rw [Pl.sFree_yes hok, hF] at this
    exact this
  obtain ⟨m, s, hms⟩ : ∃ m s, Pl.hAt hs ((i : Int) + 1) = (m, s) := ⟨_, _, rfl⟩
  rw [hF, hms]
  have HST : Hid (∀ W, Below w.heap.size w W → Calls Tryd.prog 68 #[.agg #[.int .i64 m, .int .i64 s], .agg #[.int .i64 6, .int .i64 ((i : Int) + 1), u], .int .i64 F] W fun e w' => StepOut W w' e (Pl.next (m, s) 6 (zs.headD 0) F)) := fun W h => by
    obtain ⟨au, cu, e⟩ := hu.shape
    exact noStep_any m s _ _ u _ F W (by decide) (by decide) (by decide) ⟨au, _, cu, e⟩
  obtain ⟨o, ho⟩ : ∃ o, Pl.next (m, s) 6 (zs.headD 0) F = o := ⟨_, rfl⟩
  rw [ho] at HST ⊢
  clear ho
  rcases hv with ⟨rfl, _⟩ | ⟨b, off, cap, rfl, hz, hc⟩
  · simp at p3
  have hmsd : hs.getD i (0, 0) = (m, s) := by rw [← hat]; exact hms
  have hbw : b < w.heap.size := World.block_lt_of_cell? _ _ (hc i (by omega)).1
  have HC : Hid (∀ W, Below w.heap.size w W → W.cell? ⟨b, off + i * 2, none⟩ = some (.int .i64 m) ∧ W.cell? ⟨b, off + i * 2 + 1, none⟩ = some (.int .i64 s)) := fun W h => by
    obtain ⟨h1, h2⟩ := hc i (by omega)
    rw [hmsd] at h1 h2
    have hl := World.block_lt_of_cell? _ _ h1
    simp at hl
    exact ⟨by rw [← h1]; exact h.cell (p := ⟨b, off + i * 2, none⟩) (by simp; omega), by rw [← h2]; exact h.cell (p := ⟨b, off + i * 2 + 1, none⟩) (by simp; omega)⟩
  rw [p3] at HFR ⊢
  have HOK : Hid (∀ W, Below w.heap.size w W → Calls Tryd.prog 12 #[.agg #[.int .i64 room, .slice (some ⟨b, off, none⟩) 6 cap]] W fun e w' => e = .returned (.bool true) ∧ Below W.heap.size W w') := fun W h => by
    have h1 := HV.out W h
    rw [p3] at h1
    have := implStockOk_any room _ hs W h1 (by omega)
    rw [hok] at this
    exact this
  obtain ⟨au, cu, rfl⟩ := hu.shape
  have BX := hide_it (Box3.new w (.int .i64 room) (.slice (some ⟨b, off, none⟩) 6 cap) 6 ((i : Int) + 1) (.slice au zs.length cu) 32 62 56)
  clear hc hz p1 p2 p3 p4 hat hms hmsd hF HV hu ha
  go_enter Tryd.func49, Tryd.ntmps49
  go_wp2_with fail
  refine (HOK.out _ (below3 w _ _ _)).mono ?_
  rintro e w1 ⟨rfl, hb1⟩
  have B1 := hide_it ((below3 w _ _ _).trans (hb1.mono (by simp; omega)))
  have BX1 := hide_it (BX.out.later hb1 (Nat.le_refl _))
  obtain ⟨⟨x0, x1⟩, ⟨r0, r1, r2⟩, q0, q1, f0, f1⟩ := BX1.out
  clear hb1
  go_wp2_with fail
  refine (implOk_any 6 _ _ zs a w1 (HU.out _ B1.out) hzl (HA.out _ B1.out)).mono ?_
  rintro e w2 ⟨rfl, hb2⟩
  rw [hrec]
  have B2 := hide_it (B1.out.trans (hb2.mono B1.out.size))
  have BX2 := hide_it (BX1.out.later hb2 (Nat.le_refl _))
  clear x0 x1 r0 r1 r2 q0 q1 f0 f1 hb2
  obtain ⟨⟨x0, x1⟩, ⟨r0, r1, r2⟩, q0, q1, f0, f1⟩ := BX2.out
  have hix : ∀ W, Sem.run Tryd.prog (Instr.index 88 (.agg #[.func (.func 68) #[] #[], .func (.func 69) #[] #[], .func (.func 70) #[] #[], .func (.func 71) #[] #[], .func (.func 68) #[] #[], .func (.func 68) #[] #[], .func (.func 68) #[] #[], .func (.func 68) #[] #[]]) (.int .i64 6)) W = .ok (.func (.func 68) #[] #[]) W := fun W => by kernel_rfl
  go_wp2_with fail
  go_region_held (fun w' => w'.cell? ⟨w.heap.size + 1, 0, none⟩ = some (.int .i64 6)) (go_keep)
    ((go_at_call 60; refine (steps_any _).mono ?_; rintro e w3 ⟨rfl, hb3⟩; have B3 := hide_it (B2.out.drew.trans (hb3.mono B2.out.size)); have BX3 := hide_it ((BX2.out.later (Below.refl _ _).drew (Nat.le_refl _)).later hb3 (Nat.le_refl _)); obtain ⟨_, ⟨s0, _⟩, _⟩ := BX3.out; clear hb3))
  have hi6 : (i : Int) < 6 := by omega
  have hwr : IntKind.i64.wrap ((i : Int) + 1 - 1) = (i : Int) := by simp [IntKind.wrap, IntKind.bits, IntKind.signed]; omega
  have hwi : IntKind.i64.wrap (i : Int) = (i : Int) := by simp [IntKind.wrap, IntKind.bits, IntKind.signed]; omega
  obtain ⟨d0, d1⟩ := HC.out _ B3.out
  obtain ⟨⟨y0, y1⟩, ⟨t0, t1, t2⟩, g0, g1, h0, h1⟩ := BX3.out
  clear x0 x1 r0 r1 r2 q0 q1 f0 f1 s0 hix
  go_wp2_with fail
  go_region_held (fun w' => w'.cell? ⟨w.heap.size, 0, none⟩ = some (.int .i64 room) ∧ w'.cell? ⟨w.heap.size, 1, none⟩ = some (.slice (some ⟨b, off, none⟩) 6 cap) ∧ w'.cell? ⟨w.heap.size + 1, 0, none⟩ = some (.int .i64 6) ∧ w'.cell? ⟨w.heap.size + 1, 1, none⟩ = some (.int .i64 ((i : Int) + 1)) ∧ w'.cell? ⟨w.heap.size + 1, 2, none⟩ = some (.slice au zs.length cu) ∧ w'.cell? ⟨b, off + i * 2, none⟩ = some (.int .i64 m) ∧ w'.cell? ⟨b, off + i * 2 + 1, none⟩ = some (.int .i64 s)) (first | (go_keep; done) | (refine ⟨?_, ?_, ?_, ?_, ?_, ?_, ?_⟩ <;> (rw [two_set_cells _ _ _ _ _ _ (by omega)]; assumption)))
    (first
    | (go_at_call 35; refine (HFR.out _ B3.out.drew).mono ?_; rintro e w4 ⟨rfl, hb4⟩; have B4 := hide_it (B3.out.drew.trans (hb4.mono B3.out.size)); have BX4 := hide_it ((BX3.out.later (Below.refl _ _).drew (Nat.le_refl _)).later hb4 (Nat.le_refl _)); obtain ⟨k0, k1⟩ := HC.out _ B4.out; obtain ⟨⟨l0, l1⟩, ⟨n0, n1, n2⟩, _⟩ := BX4.out; clear hb4)
    | (go_at_call 68; refine (HST.out _ B4.out).mono ?_; rintro e w5 ⟨p, q, rfl, hpq, hb5⟩; have HPQ := hide_it hpq; have B5 := hide_it (B4.out.trans (hb5.mono B4.out.size)); have BX5 := hide_it (BX4.out.later hb5 (Nat.le_refl _)); obtain ⟨m0, m1⟩ := HC.out _ B5.out; obtain ⟨⟨o0, o1⟩, ⟨v0, v1, v2⟩, z0, z1, j0, j1⟩ := BX5.out; have hw5 : w.heap.size + 2 < w5.heap.size := World.block_lt_of_cell? _ _ z0; clear hb5 hpq))
  go_wp2
  exact bodyPost_ret (v := .tuple #[.agg #[.int .i64 p, .int .i64 q], .bool o.isSome]) (by simp [results, Tryd.results49, go_sem, z0, z1]) rfl ⟨p, q, rfl, HPQ.out, (B5.out.setCell (by simp; omega) _).setCell (by simp; omega) _⟩

set_option maxRecDepth 100000 in
set_option maxHeartbeats 4000000 in
theorem behind_K7 (room : Int) (v : Value) (hs : List Pl.H) (t : Int) (u : Value) (zs : List Int) (a : Addr) (w : World) (hv : Holds w v hs) (hu : Ints w u zs) (hzl : zs.length ≤ 1048576) (ha : ErrAt w a) (hok : Pl.sOk room hs = true) (hrec : Pl.recOk 7 t zs = true) :
    Calls Tryd.prog 49 #[.agg #[.int .i64 room, v], .agg #[.int .i64 7, .int .i64 t, u]] w fun e w' => StepOut w w' e (Pl.behind room hs 7 t zs) := by
  rw [Pl.behind_ok hok hrec]
  obtain ⟨p1, p2, p3, p4⟩ := Pl.sOk_parts hok
  have HV : Hid (∀ W, Below w.heap.size w W → Holds W v hs) := fun W h => hv.later h (Nat.le_refl _)
  have HU : Hid (∀ W, Below w.heap.size w W → Ints W u zs) := fun W h => hu.later h (Nat.le_refl _)
  have HA : Hid (∀ W, Below w.heap.size w W → ErrAt W a) := fun W h => ha.later h (Nat.le_refl _)
  obtain ⟨i, hi, rfl, hat⟩ := trip_at hrec
  obtain ⟨F, hF⟩ : ∃ F, Pl.free room hs = F := ⟨_, rfl⟩
  have HFR : Hid (∀ W, Below w.heap.size w W → Calls Tryd.prog 35 #[.agg #[.int .i64 room, v]] W fun e w' => e = .returned (.int .i64 F) ∧ Below W.heap.size W w') := fun W h => by
    have := implFree_any room v hs W (HV.out W h) (by omega)
    rw [Pl.sFree_yes hok, hF] at this
    exact this
  obtain ⟨m, s, hms⟩ : ∃ m s, Pl.hAt hs ((i : Int) + 1) = (m, s) := ⟨_, _, rfl⟩
  rw [hF, hms]
  have HST : Hid (∀ W, Below w.heap.size w W → Calls Tryd.prog 68 #[.agg #[.int .i64 m, .int .i64 s], .agg #[.int .i64 7, .int .i64 ((i : Int) + 1), u], .int .i64 F] W fun e w' => StepOut W w' e (Pl.next (m, s) 7 (zs.headD 0) F)) := fun W h => by
    obtain ⟨au, cu, e⟩ := hu.shape
    exact noStep_any m s _ _ u _ F W (by decide) (by decide) (by decide) ⟨au, _, cu, e⟩
  obtain ⟨o, ho⟩ : ∃ o, Pl.next (m, s) 7 (zs.headD 0) F = o := ⟨_, rfl⟩
  rw [ho] at HST ⊢
  clear ho
  rcases hv with ⟨rfl, _⟩ | ⟨b, off, cap, rfl, hz, hc⟩
  · simp at p3
  have hmsd : hs.getD i (0, 0) = (m, s) := by rw [← hat]; exact hms
  have hbw : b < w.heap.size := World.block_lt_of_cell? _ _ (hc i (by omega)).1
  have HC : Hid (∀ W, Below w.heap.size w W → W.cell? ⟨b, off + i * 2, none⟩ = some (.int .i64 m) ∧ W.cell? ⟨b, off + i * 2 + 1, none⟩ = some (.int .i64 s)) := fun W h => by
    obtain ⟨h1, h2⟩ := hc i (by omega)
    rw [hmsd] at h1 h2
    have hl := World.block_lt_of_cell? _ _ h1
    simp at hl
    exact ⟨by rw [← h1]; exact h.cell (p := ⟨b, off + i * 2, none⟩) (by simp; omega), by rw [← h2]; exact h.cell (p := ⟨b, off + i * 2 + 1, none⟩) (by simp; omega)⟩
  rw [p3] at HFR ⊢
  have HOK : Hid (∀ W, Below w.heap.size w W → Calls Tryd.prog 12 #[.agg #[.int .i64 room, .slice (some ⟨b, off, none⟩) 6 cap]] W fun e w' => e = .returned (.bool true) ∧ Below W.heap.size W w') := fun W h => by
    have h1 := HV.out W h
    rw [p3] at h1
    have := implStockOk_any room _ hs W h1 (by omega)
    rw [hok] at this
    exact this
  obtain ⟨au, cu, rfl⟩ := hu.shape
  have BX := hide_it (Box3.new w (.int .i64 room) (.slice (some ⟨b, off, none⟩) 6 cap) 7 ((i : Int) + 1) (.slice au zs.length cu) 32 62 56)
  clear hc hz p1 p2 p3 p4 hat hms hmsd hF HV hu ha
  go_enter Tryd.func49, Tryd.ntmps49
  go_wp2_with fail
  refine (HOK.out _ (below3 w _ _ _)).mono ?_
  rintro e w1 ⟨rfl, hb1⟩
  have B1 := hide_it ((below3 w _ _ _).trans (hb1.mono (by simp; omega)))
  have BX1 := hide_it (BX.out.later hb1 (Nat.le_refl _))
  obtain ⟨⟨x0, x1⟩, ⟨r0, r1, r2⟩, q0, q1, f0, f1⟩ := BX1.out
  clear hb1
  go_wp2_with fail
  refine (implOk_any 7 _ _ zs a w1 (HU.out _ B1.out) hzl (HA.out _ B1.out)).mono ?_
  rintro e w2 ⟨rfl, hb2⟩
  rw [hrec]
  have B2 := hide_it (B1.out.trans (hb2.mono B1.out.size))
  have BX2 := hide_it (BX1.out.later hb2 (Nat.le_refl _))
  clear x0 x1 r0 r1 r2 q0 q1 f0 f1 hb2
  obtain ⟨⟨x0, x1⟩, ⟨r0, r1, r2⟩, q0, q1, f0, f1⟩ := BX2.out
  have hix : ∀ W, Sem.run Tryd.prog (Instr.index 88 (.agg #[.func (.func 68) #[] #[], .func (.func 69) #[] #[], .func (.func 70) #[] #[], .func (.func 71) #[] #[], .func (.func 68) #[] #[], .func (.func 68) #[] #[], .func (.func 68) #[] #[], .func (.func 68) #[] #[]]) (.int .i64 7)) W = .ok (.func (.func 68) #[] #[]) W := fun W => by kernel_rfl
  go_wp2_with fail
  go_region_held (fun w' => w'.cell? ⟨w.heap.size + 1, 0, none⟩ = some (.int .i64 7)) (go_keep)
    ((go_at_call 60; refine (steps_any _).mono ?_; rintro e w3 ⟨rfl, hb3⟩; have B3 := hide_it (B2.out.drew.trans (hb3.mono B2.out.size)); have BX3 := hide_it ((BX2.out.later (Below.refl _ _).drew (Nat.le_refl _)).later hb3 (Nat.le_refl _)); obtain ⟨_, ⟨s0, _⟩, _⟩ := BX3.out; clear hb3))
  have hi6 : (i : Int) < 6 := by omega
  have hwr : IntKind.i64.wrap ((i : Int) + 1 - 1) = (i : Int) := by simp [IntKind.wrap, IntKind.bits, IntKind.signed]; omega
  have hwi : IntKind.i64.wrap (i : Int) = (i : Int) := by simp [IntKind.wrap, IntKind.bits, IntKind.signed]; omega
  obtain ⟨d0, d1⟩ := HC.out _ B3.out
  obtain ⟨⟨y0, y1⟩, ⟨t0, t1, t2⟩, g0, g1, h0, h1⟩ := BX3.out
  clear x0 x1 r0 r1 r2 q0 q1 f0 f1 s0 hix
  go_wp2_with fail
  go_region_held (fun w' => w'.cell? ⟨w.heap.size, 0, none⟩ = some (.int .i64 room) ∧ w'.cell? ⟨w.heap.size, 1, none⟩ = some (.slice (some ⟨b, off, none⟩) 6 cap) ∧ w'.cell? ⟨w.heap.size + 1, 0, none⟩ = some (.int .i64 7) ∧ w'.cell? ⟨w.heap.size + 1, 1, none⟩ = some (.int .i64 ((i : Int) + 1)) ∧ w'.cell? ⟨w.heap.size + 1, 2, none⟩ = some (.slice au zs.length cu) ∧ w'.cell? ⟨b, off + i * 2, none⟩ = some (.int .i64 m) ∧ w'.cell? ⟨b, off + i * 2 + 1, none⟩ = some (.int .i64 s)) (first | (go_keep; done) | (refine ⟨?_, ?_, ?_, ?_, ?_, ?_, ?_⟩ <;> (rw [two_set_cells _ _ _ _ _ _ (by omega)]; assumption)))
    (first
    | (go_at_call 35; refine (HFR.out _ B3.out.drew).mono ?_; rintro e w4 ⟨rfl, hb4⟩; have B4 := hide_it (B3.out.drew.trans (hb4.mono B3.out.size)); have BX4 := hide_it ((BX3.out.later (Below.refl _ _).drew (Nat.le_refl _)).later hb4 (Nat.le_refl _)); obtain ⟨k0, k1⟩ := HC.out _ B4.out; obtain ⟨⟨l0, l1⟩, ⟨n0, n1, n2⟩, _⟩ := BX4.out; clear hb4)
    | (go_at_call 68; refine (HST.out _ B4.out).mono ?_; rintro e w5 ⟨p, q, rfl, hpq, hb5⟩; have HPQ := hide_it hpq; have B5 := hide_it (B4.out.trans (hb5.mono B4.out.size)); have BX5 := hide_it (BX4.out.later hb5 (Nat.le_refl _)); obtain ⟨m0, m1⟩ := HC.out _ B5.out; obtain ⟨⟨o0, o1⟩, ⟨v0, v1, v2⟩, z0, z1, j0, j1⟩ := BX5.out; have hw5 : w.heap.size + 2 < w5.heap.size := World.block_lt_of_cell? _ _ z0; clear hb5 hpq))
  go_wp2
  exact bodyPost_ret (v := .tuple #[.agg #[.int .i64 p, .int .i64 q], .bool o.isSome]) (by simp [results, Tryd.results49, go_sem, z0, z1]) rfl ⟨p, q, rfl, HPQ.out, (B5.out.setCell (by simp; omega) _).setCell (by simp; omega) _⟩

/-- What a record makes of its trip's hold, whatever the stock and the record. -/
theorem behind_any (room : Int) (v : Value) (hs : List Pl.H) (k t : Int) (u : Value) (zs : List Int) (a : Addr) (w : World) (hv : Holds w v hs) (hl : hs.length ≤ 1048576) (hu : Ints w u zs) (hzl : zs.length ≤ 1048576) (ha : ErrAt w a) :
    Calls Tryd.prog 49 #[.agg #[.int .i64 room, v], .agg #[.int .i64 k, .int .i64 t, u]] w fun e w' => StepOut w w' e (Pl.behind room hs k t zs) := by
  cases hok : Pl.sOk room hs
  · obtain ⟨au, cu, e⟩ := hu.shape
    exact behind_noStock room v hs k t u zs w hv hl ⟨au, _, cu, e⟩ hok
  cases hrec : Pl.recOk k t zs
  · exact behind_noRec room v hs k t u zs a w hv hl hu hzl ha hok hrec
  have hk := Pl.recOk_kind hrec
  rcases (show k = 1 ∨ k = 2 ∨ k = 3 ∨ k = 4 ∨ k = 5 ∨ k = 6 ∨ k = 7 by omega) with rfl | rfl | rfl | rfl | rfl | rfl | rfl
  · exact behind_K1 room v hs t u zs a w hv hu hzl ha hok hrec
  · exact behind_K2 room v hs t u zs a w hv hu hzl ha hok hrec
  · exact behind_K3 room v hs t u zs a w hv hu hzl ha hok hrec
  · exact behind_K4 room v hs t u zs a w hv hu hzl ha hok hrec
  · exact behind_K5 room v hs t u zs a w hv hu hzl ha hok hrec
  · exact behind_K6 room v hs t u zs a w hv hu hzl ha hok hrec
  · exact behind_K7 room v hs t u zs a w hv hu hzl ha hok hrec

end Go.Proofs.YtgeagfglkgpoiaaDoor

namespace Go.Proofs.YtgeagfglkgpoiaaDoor
open Go.RowKit

set_option maxHeartbeats 2000000 in
theorem specMay_any (room : Int) (v : Value) (hs : List Pl.H) (k t : Int) (u : Value) (zs : List Int) (w : World) (hv : Holds w v hs) (hl : hs.length ≤ 1048576) (hu : Ints w u zs) (hzl : zs.length ≤ 1048576) :
    Calls Tryd.prog 66 #[.agg #[.int .i64 room, v], .agg #[.int .i64 k, .int .i64 t, u]] w fun e w' => e = .returned (.bool (Pl.sMay room hs k t zs)) ∧ Below w.heap.size w w' := by
  have HV : Hid (∀ W, Below w.heap.size w W → Holds W v hs) := fun W h => hv.later h (Nat.le_refl _)
  have HU : Hid (∀ W, Below w.heap.size w W → Ints W u zs) := fun W h => hu.later h (Nat.le_refl _)
  have hsh := hv.shape
  obtain ⟨av, cv, rfl⟩ := hsh
  obtain ⟨au, cu, rfl⟩ := hu.shape
  have D0 := hide_it ((Duo.new w (.int .i64 room) (.slice av hs.length cv) 32).later (al_below _ (.cells #[.int .i64 k, .int .i64 t, .slice au zs.length cu] 62)) (Nat.le_refl _))
  have R0 := hide_it (RecAt.new (w.alloc (.cells #[.int .i64 room, .slice av hs.length cv] 32)) k t (.slice au zs.length cu) 62)
  rw [World.size_alloc] at R0
  unfold Pl.sMay
  clear hv hu
  cases hok : Pl.sOk room hs
  · rw [Pl.behind_stock k t zs hok]
    go_enter Tryd.func66, Tryd.ntmps66
    go_wp2_with fail
    refine (specStockOk_any room _ hs _ (HV.out _ (below2 w _ _)) hl).mono ?_
    rintro e w1 ⟨rfl, hb1⟩
    rw [hok]
    have B1 := hide_it ((below2 w _ _).trans (hb1.mono (by simp; omega)))
    clear hb1
    go_wp2
    go_ret
    exact ⟨rfl, B1.out⟩
  cases hrec : Pl.recOk k t zs
  · rw [Pl.behind_rec room hs hrec]
    go_enter Tryd.func66, Tryd.ntmps66
    go_wp2_with fail
    refine (specStockOk_any room _ hs _ (HV.out _ (below2 w _ _)) hl).mono ?_
    rintro e w1 ⟨rfl, hb1⟩
    rw [hok]
    have B1 := hide_it ((below2 w _ _).trans (hb1.mono (by simp; omega)))
    obtain ⟨d0, d1⟩ := D0.out.later hb1 (Nat.le_refl _)
    obtain ⟨r0, r1, r2⟩ := R0.out.later hb1 (Nat.le_refl _)
    clear hb1
    go_wp2_with fail
    refine (specOk_any k t _ zs w1 (HU.out _ B1.out) hzl).mono ?_
    rintro e w2 ⟨rfl, hb2⟩
    rw [hrec]
    have B2 := hide_it (B1.out.trans (hb2.mono B1.out.size))
    clear hb2 d0 d1 r0 r1 r2
    go_wp2
    go_ret
    exact ⟨rfl, B2.out⟩
  · rw [Pl.behind_ok hok hrec]
    have HM : Hid (∀ W, Below w.heap.size w W → Calls Tryd.prog 46 #[.agg #[.int .i64 room, .slice av hs.length cv], .agg #[.int .i64 k, .int .i64 t, .slice au zs.length cu]] W fun e w' => e = .returned (.bool (Pl.next (Pl.hAt hs t) k (zs.headD 0) (Pl.free room hs)).isSome) ∧ Below W.heap.size W w') := fun W h =>
      l2May_any room _ hs k t _ zs W (HV.out W h) (HU.out W h) hok hrec
    obtain ⟨o, ho⟩ : ∃ o, Pl.next (Pl.hAt hs t) k (zs.headD 0) (Pl.free room hs) = o := ⟨_, rfl⟩
    rw [ho] at HM ⊢
    clear ho
    go_enter Tryd.func66, Tryd.ntmps66
    go_wp2_with fail
    refine (specStockOk_any room _ hs _ (HV.out _ (below2 w _ _)) hl).mono ?_
    rintro e w1 ⟨rfl, hb1⟩
    rw [hok]
    have B1 := hide_it ((below2 w _ _).trans (hb1.mono (by simp; omega)))
    have D1 := hide_it (D0.out.later hb1 (Nat.le_refl _))
    have R1 := hide_it (R0.out.later hb1 (Nat.le_refl _))
    obtain ⟨d0, d1⟩ := D1.out
    obtain ⟨r0, r1, r2⟩ := R1.out
    clear hb1
    go_wp2_with fail
    refine (specOk_any k t _ zs w1 (HU.out _ B1.out) hzl).mono ?_
    rintro e w2 ⟨rfl, hb2⟩
    rw [hrec]
    have B2 := hide_it (B1.out.trans (hb2.mono B1.out.size))
    clear d0 d1 r0 r1 r2
    obtain ⟨d0, d1⟩ := D1.out.later hb2 (Nat.le_refl _)
    obtain ⟨r0, r1, r2⟩ := R1.out.later hb2 (Nat.le_refl _)
    clear hb2
    go_wp2_with fail
    refine (HM.out w2 B2.out).mono ?_
    rintro e w3 ⟨rfl, hb3⟩
    have B3 := hide_it (B2.out.trans (hb3.mono B2.out.size))
    clear hb3 d0 d1 r0 r1 r2
    go_wp2
    go_ret
    exact ⟨rfl, B3.out⟩

end Go.Proofs.YtgeagfglkgpoiaaDoor

namespace Go.Proofs.YtgeagfglkgpoiaaDoor
open Go.RowKit

/-- What comes out where a stock, or nothing, does: its room, its holds. -/
def oR (room : Int) (o : Option (List Pl.H)) : Int := match o with | some _ => room | none => 0
def oH (o : Option (List Pl.H)) : List Pl.H := o.getD []
def StOut (W w' : World) (e : Ending) (RR : Int) (HS : List Pl.H) (BB : Bool) : Prop :=
  ∃ ao cap, e = .returned (.tuple #[.agg #[.int .i64 RR, .slice ao HS.length cap], .bool BB]) ∧ w'.ownsRow W.heap.size 56 2 (.slice ao HS.length cap) HS.length (hflat HS) ∧ Below W.heap.size W w'
def newO (room : Int) : Option (List Pl.H) := if Pl.inB room 0 9 = true then some Pl.noHolds else none

theorem grown_al {w w2 : World} {x y : Value} {ty : TypeId} (hg : (w.alloc (.cells #[x, y] ty)).grownBy w2 none) : Below w.heap.size w w2 ∧ w.heap.size < w2.heap.size ∧
    w2.cell? ⟨w.heap.size, 0, none⟩ = some x ∧ w2.cell? ⟨w.heap.size, 1, none⟩ = some y ∧ w2.frozen? ⟨w.heap.size, 0, none⟩ = false ∧ w2.frozen? ⟨w.heap.size, 1, none⟩ = false := by
  have hb : Below (w.heap.size + 1) (w.alloc (.cells #[x, y] ty)) w2 := (Below.refl _ _).grown hg (by simp) (fun k h => by cases h)
  have hs := hb.size
  simp at hs
  refine ⟨(al_below w _).trans (hb.mono (by omega)), by omega, ?_, ?_, ?_, ?_⟩
  · rw [hb.cell (p := ⟨w.heap.size, 0, none⟩) (by simp)]; simp
  · rw [hb.cell (p := ⟨w.heap.size, 1, none⟩) (by simp)]; simp
  · rw [hb.frozen (p := ⟨w.heap.size, 0, none⟩) (by simp)]; simp [go_sem]
  · rw [hb.frozen (p := ⟨w.heap.size, 1, none⟩) (by simp)]; simp [go_sem]

set_option maxHeartbeats 1000000 in
theorem specNew_any (room : Int) (w : World) :
    Calls Tryd.prog 44 #[.int .i64 room] w fun e w' => StOut w w' e (oR room (newO room)) (oH (newO room)) (newO room).isSome := by
  obtain ⟨i0, hi, hz0, hz1, hz2⟩ := info_parts infoHold
  have hbytes : i0.bytes * 6 ≤ 281474976710656 := by rw [hz2]; omega
  have hmax : 6 ≤ maxLen := by unfold maxLen; omega
  cases hr : Pl.inB room 0 9
  · have e : newO room = none := by simp [newO, hr]
    rw [e]
    go_enter Tryd.func44, Tryd.ntmps44
    go_wp2_with (go_at_call 29; refine (in_any _ _ _ _).mono ?_; rintro e w1 ⟨rfl, rfl⟩; rw [hr])
    refine bodyPost_ret (v := .tuple #[.agg #[.int .i64 0, .slice none 0 0], .bool false]) (by simp [results, Tryd.results44, go_sem]) rfl ⟨none, 0, rfl, World.ownsRow_nil _ _ _ _, ?_⟩
    first | exact al_below _ _ | exact (al_below _ _).setCell (by simp) _ | exact ((al_below _ _).setCell (by simp) _).setCell (by simp) _
  · have e : newO room = some Pl.noHolds := by simp [newO, hr]
    rw [e]
    go_enter Tryd.func44, Tryd.ntmps44
    go_wp2_with (first
      | (go_at_call 29; refine (in_any _ _ _ _).mono ?_; rintro e w1 ⟨rfl, rfl⟩; rw [hr])
      | (at_make; refine wpList_make_full _ rfl _ _ 30 rfl (w.heap.size + 1) 56 i0 (.agg #[.int .i64 0, .int .i64 0]) 2 Tryd.underlying30 hi hz0 hz1 .i64 .i64 _ _ 6 rfl rfl rfl rfl hbytes hmax (by simp) ?_; intro w2 hown hgrow; have HO := hide_it hown; obtain ⟨hbb, hws, g0, g1, f0, f1⟩ := grown_al hgrow; have HB := hide_it hbb; clear hown hgrow hbb))
    have HO2 : Hid (w2.ownsRow (w.heap.size + 1) 56 2 (.slice (some ⟨w.heap.size + 1, 0, none⟩) 6 6) 6 (hflat Pl.noHolds)) := by
      have := made_two 6
      have h := HO.out
      rw [show (Value.agg #[.int .i64 0, .int .i64 0]).cells = #[.int .i64 0, .int .i64 0] from rfl, this] at h
      rw [World.size_alloc] at h
      exact h
    refine bodyPost_ret (v := .tuple #[.agg #[.int .i64 room, .slice (some ⟨w.heap.size + 1, 0, none⟩) 6 6], .bool true]) (by simp [results, Tryd.results44, go_sem, g0, g1]) rfl ⟨_, _, rfl, ?_, ?_⟩
    · exact ownsRow_base (ownsRow_setCell_below (ownsRow_setCell_below HO2.out (by simp) _) (by simp) _) (by omega)
    · exact (HB.out.setCell (by simp) _).setCell (by simp) _

set_option maxHeartbeats 1000000 in
theorem implNew_any (room : Int) (w : World) :
    Calls Tryd.prog 31 #[.int .i64 room] w fun e w' => StOut w w' e (oR room (newO room)) (oH (newO room)) (newO room).isSome := by
  obtain ⟨i0, hi, hz0, hz1, hz2⟩ := info_parts infoHold
  have hbytes : i0.bytes * 6 ≤ 281474976710656 := by rw [hz2]; omega
  have hmax : 6 ≤ maxLen := by unfold maxLen; omega
  cases hr : Pl.inB room 0 9
  · have e : newO room = none := by simp [newO, hr]
    rw [e]
    go_enter Tryd.func31, Tryd.ntmps31
    go_wp2_with (go_at_call 48; refine (roomOk_any _ _).mono ?_; rintro e w1 ⟨rfl, rfl⟩; rw [hr])
    refine bodyPost_ret (v := .tuple #[.agg #[.int .i64 0, .slice none 0 0], .bool false]) (by simp [results, Tryd.results31, go_sem]) rfl ⟨none, 0, rfl, World.ownsRow_nil _ _ _ _, ?_⟩
    first | exact al_below _ _ | exact (al_below _ _).setCell (by simp) _ | exact ((al_below _ _).setCell (by simp) _).setCell (by simp) _
  · have e : newO room = some Pl.noHolds := by simp [newO, hr]
    rw [e]
    go_enter Tryd.func31, Tryd.ntmps31
    go_wp2_with (first
      | (go_at_call 48; refine (roomOk_any _ _).mono ?_; rintro e w1 ⟨rfl, rfl⟩; rw [hr])
      | (at_make; refine wpList_make_full _ rfl _ _ 30 rfl (w.heap.size + 1) 56 i0 (.agg #[.int .i64 0, .int .i64 0]) 2 Tryd.underlying30 hi hz0 hz1 .i64 .i64 _ _ 6 rfl rfl rfl rfl hbytes hmax (by simp) ?_; intro w2 hown hgrow; have HO := hide_it hown; obtain ⟨hbb, hws, g0, g1, f0, f1⟩ := grown_al hgrow; have HB := hide_it hbb; clear hown hgrow hbb))
    have HO2 : Hid (w2.ownsRow (w.heap.size + 1) 56 2 (.slice (some ⟨w.heap.size + 1, 0, none⟩) 6 6) 6 (hflat Pl.noHolds)) := by
      have := made_two 6
      have h := HO.out
      rw [show (Value.agg #[.int .i64 0, .int .i64 0]).cells = #[.int .i64 0, .int .i64 0] from rfl, this] at h
      rw [World.size_alloc] at h
      exact h
    refine bodyPost_ret (v := .tuple #[.agg #[.int .i64 room, .slice (some ⟨w.heap.size + 1, 0, none⟩) 6 6], .bool true]) (by simp [results, Tryd.results31, go_sem, g0, g1]) rfl ⟨_, _, rfl, ?_, ?_⟩
    · exact ownsRow_base (ownsRow_setCell_below (ownsRow_setCell_below HO2.out (by simp) _) (by simp) _) (by omega)
    · exact (HB.out.setCell (by simp) _).setCell (by simp) _

end Go.Proofs.YtgeagfglkgpoiaaDoor

namespace Go.Proofs.YtgeagfglkgpoiaaDoor
open Go.RowKit

theorem hflat_one (hs : List Pl.H) : ∀ u ∈ hflat hs, u.oneCell' = true := by
  induction hs with
  | nil => intro u hu; simp [hflat] at hu
  | cons h t ih =>
    intro u hu
    simp only [hflat, List.mem_cons] at hu
    rcases hu with rfl | rfl | hu
    · rfl
    · rfl
    · exact ih u hu

theorem hflat_cells {w : World} {b off : Nat} {hs : List Pl.H} (hc : ∀ k, k < hs.length → w.cell? ⟨b, off + k * 2, none⟩ = some (.int .i64 (hs.getD k (0, 0)).1) ∧ w.cell? ⟨b, off + k * 2 + 1, none⟩ = some (.int .i64 (hs.getD k (0, 0)).2)) :
    ∀ j u, (hflat hs)[j]? = some u → w.cell? ((⟨b, off, none⟩ : Addr).add j) = some u := by
  intro j u hj
  have hjl : j < hs.length * 2 := by
    by_cases e : j < hs.length * 2
    · exact e
    · rw [List.getElem?_eq_none (by rw [hflat_length]; omega)] at hj; cases hj
  obtain ⟨f0, f1⟩ := hflat_get hs (j / 2) (by omega)
  obtain ⟨c0, c1⟩ := hc (j / 2) (by omega)
  rw [Go.WideShapes.add_plain]
  rcases (show j = j / 2 * 2 ∨ j = j / 2 * 2 + 1 by omega) with e | e
  · rw [← e] at f0 c0
    rw [c0, ← f0]; exact hj
  · rw [← e] at f1
    rw [show off + j = off + j / 2 * 2 + 1 by omega, c1, ← f1]; exact hj

/-- Holds appended to a row of holds of the call's own. -/
theorem run_append_holds (w : World) (base ty : Nat) (v xv : Value) (n : Nat) (xs : List Value) (hs : List Pl.H) (hown : w.ownsRow base 56 2 v n xs) (hI : Holds w xv hs) (hb : n + hs.length ≤ 8388608) (hbase : base ≤ w.heap.size) :
    ∃ v' w', (Builtin.append_ #[30, 30] ty #[v, xv]).run Tryd.prog w = .ok v' w' ∧ w'.ownsRow base 56 2 v' (n + hs.length) (xs ++ hflat hs) ∧ w.grownBy w' v.ownBlock := by
  obtain ⟨i0, hi, hz0, hz1, hz2⟩ := info_parts infoHold
  rcases hI with ⟨rfl, ao, cap, rfl, hao⟩ | ⟨b, off, cap, rfl, hz, hc⟩
  · cases ao with
    | none =>
      obtain rfl := hao rfl
      exact ⟨v, w, run_append_owned_none w base 30 ty 56 i0 2 Tryd.underlying30 hi v n xs hown, by simpa [hflat] using hown, World.grownBy.refl _ _⟩
    | some a =>
      obtain ⟨v', w', h1, h2, h3, _⟩ := run_append_own (P := Tryd.prog) w base 30 ty 56 i0 (.agg #[.int .i64 0, .int .i64 0]) 2 16 Tryd.underlying30 hi hz0 hz1 hz2 rfl (by decide) v n xs hown a 0 cap [] rfl (fun j u h => by simp at h) (fun u h => by simp at h) (by unfold maxLen; omega) (by simp at hb; omega) hbase
      exact ⟨v', w', h1, by simpa [hflat] using h2, h3⟩
  · obtain ⟨v', w', h1, h2, h3, _⟩ := run_append_own (P := Tryd.prog) w base 30 ty 56 i0 (.agg #[.int .i64 0, .int .i64 0]) 2 16 Tryd.underlying30 hi hz0 hz1 hz2 rfl (by decide) v n xs hown ⟨b, off, none⟩ hs.length cap (hflat hs) (hflat_length hs) (hflat_cells hc) (hflat_one hs) (by unfold maxLen; omega) (by omega) hbase
    exact ⟨v', w', h1, h2, h3⟩

theorem step_append_holds {ops : Array Oper} {o : Oper} {a : Act} {w : World} {K : Act → World → Prop} {Q : Exit → Act → World → Prop} {E : Prop} (hgd : o.guard = none) (s x : Operand)
    (ho : o.op = .call { callee := .builtin .append, args := #[s, x], argTypes := #[30, 30] })
    (base : Nat) (v xv : Value) (n : Nat) (xs : List Value) (hs : List Pl.H) (he : a.eval s = v) (hx : a.eval x = xv) (hown : w.ownsRow base 56 2 v n xs) (hI : Holds w xv hs) (N : Nat) (hN : n + hs.length = N) (hpos : 0 < N) (hb : N ≤ 8388608) (hbase : base ≤ w.heap.size)
    (h : ∀ g cap w', w'.ownsRow base 56 2 (.slice (some ⟨g, 0, none⟩) N cap) N (xs ++ hflat hs) → w.grownBy w' v.ownBlock → K (a.put o.dst (.slice (some ⟨g, 0, none⟩) N cap)) w') :
    if Region.wanted o (yielded ops a.tmps) = true then Oper.wp Tryd.prog o a w K Q else E := by
  have hw : Region.wanted o (yielded ops a.tmps) = true := by simp [Region.wanted, hgd]
  rw [if_pos hw]
  obtain ⟨v', w', hrun, r1, r2⟩ := run_append_holds w base o.type v xv n xs hs hown hI (by omega) hbase
  rw [hN] at r1
  obtain ⟨g, cap, rfl⟩ : ∃ g cap, v' = .slice (some ⟨g, 0, none⟩) N cap := by
    rcases r1.2 with ⟨_, h0⟩ | ⟨g, cap, cur, hv, _⟩
    · omega
    · exact ⟨g, cap, hv⟩
  unfold Oper.wp
  simp [execOp, ho, resolve, invoke, builtin, he, hx, hrun, Result.andThen]
  exact h g cap w' r1 r2

theorem wpList_append_holds {ops : Array Oper} {rest : List Oper} {o : Oper} {a : Act} {w : World} {Q : Exit → Act → World → Prop} (hgd : o.guard = none) (s x : Operand)
    (ho : o.op = .call { callee := .builtin .append, args := #[s, x], argTypes := #[30, 30] })
    (base : Nat) (v xv : Value) (n : Nat) (xs : List Value) (hs : List Pl.H) (he : a.eval s = v) (hx : a.eval x = xv) (hown : w.ownsRow base 56 2 v n xs) (hI : Holds w xv hs) (N : Nat) (hN : n + hs.length = N) (hpos : 0 < N) (hb : N ≤ 8388608) (hbase : base ≤ w.heap.size)
    (h : ∀ g cap w', w'.ownsRow base 56 2 (.slice (some ⟨g, 0, none⟩) N cap) N (xs ++ hflat hs) → w.grownBy w' v.ownBlock → wpList Tryd.prog ops Q rest (a.put o.dst (.slice (some ⟨g, 0, none⟩) N cap)) w') :
    wpList Tryd.prog ops Q (o :: rest) a w := by
  refine wpList_plain hgd fun K hK' => ?_
  obtain ⟨v', w', hrun, r1, r2⟩ := run_append_holds w base o.type v xv n xs hs hown hI (by omega) hbase
  rw [hN] at r1
  obtain ⟨g, cap, rfl⟩ : ∃ g cap, v' = .slice (some ⟨g, 0, none⟩) N cap := by
    rcases r1.2 with ⟨_, h0⟩ | ⟨g, cap, cur, hv, _⟩
    · omega
    · exact ⟨g, cap, hv⟩
  unfold Oper.wp
  simp [execOp, ho, resolve, invoke, builtin, he, hx, hrun, Result.andThen]
  exact hK' _ _ (h g cap w' r1 r2)

/-- The two cells of a hold in a row of six. -/
theorem row_pair {w : World} {base g cap : Nat} {hs : List Pl.H} (h : w.ownsRow base 56 2 (.slice (some ⟨g, 0, none⟩) 6 cap) 6 (hflat hs)) (i : Nat) (hi : i < 6) :
    ∃ y0 y1, w.cell? ⟨g, i * 2, none⟩ = some y0 ∧ w.cell? ⟨g, i * 2 + 1, none⟩ = some y1 ∧ w.frozen? ⟨g, i * 2, none⟩ = false ∧ w.frozen? ⟨g, i * 2 + 1, none⟩ = false := by
  have cellEx : ∀ j, j < 6 * 2 → ∃ x, w.cell? ⟨g, j, none⟩ = some x := fun j hj => by
    have h1 := h.cellAt j hj
    have h2 : j < (hflat hs).length := by rw [h.1]; exact hj
    exact ⟨_, by rw [h1, List.getElem?_eq_getElem h2]⟩
  obtain ⟨y0, hy0⟩ := cellEx (i * 2) (by omega)
  obtain ⟨y1, hy1⟩ := cellEx (i * 2 + 1) (by omega)
  exact ⟨y0, y1, hy0, hy1, h.frozenAt _, h.frozenAt _⟩

/-- The two boxes and the answer's own, as a StockDo begins. -/
def BoxS (W : World) (B : Nat) (x y : Value) (k t : Int) (u : Value) : Prop :=
  Duo W B x y ∧ RecAt W (B + 1) k t u ∧ W.cell? ⟨B + 2, 0, none⟩ = some (.int .i64 0) ∧ W.cell? ⟨B + 2, 1, none⟩ = some (.slice none 0 0) ∧ W.frozen? ⟨B + 2, 0, none⟩ = false ∧ W.frozen? ⟨B + 2, 1, none⟩ = false
theorem BoxS.later {C : Nat} {W W' : World} {B : Nat} {x y : Value} {k t : Int} {u : Value} (h : BoxS W B x y k t u) (hb : Below C W W') (hC : B + 3 ≤ C) : BoxS W' B x y k t u := by
  obtain ⟨h1, h2, h3, h4, h5, h6⟩ := h
  refine ⟨⟨?_, ?_⟩, ⟨?_, ?_, ?_⟩, ?_, ?_, ?_, ?_⟩
  · rw [← h1.1]; exact hb.cell (p := ⟨B, 0, none⟩) (by simp; omega)
  · rw [← h1.2]; exact hb.cell (p := ⟨B, 1, none⟩) (by simp; omega)
  · rw [← h2.1]; exact hb.cell (p := ⟨B + 1, 0, none⟩) (by simp; omega)
  · rw [← h2.2.1]; exact hb.cell (p := ⟨B + 1, 1, none⟩) (by simp; omega)
  · rw [← h2.2.2]; exact hb.cell (p := ⟨B + 1, 2, none⟩) (by simp; omega)
  · rw [← h3]; exact hb.cell (p := ⟨B + 2, 0, none⟩) (by simp; omega)
  · rw [← h4]; exact hb.cell (p := ⟨B + 2, 1, none⟩) (by simp; omega)
  · rw [← h5]; exact hb.frozen (p := ⟨B + 2, 0, none⟩) (by simp; omega)
  · rw [← h6]; exact hb.frozen (p := ⟨B + 2, 1, none⟩) (by simp; omega)
theorem BoxS.new (w : World) (x y : Value) (k t : Int) (u : Value) (t1 t2 t3 : TypeId) : BoxS (((w.alloc (.cells #[x, y] t1)).alloc (.cells #[.int .i64 k, .int .i64 t, u] t2)).alloc (.cells #[.int .i64 0, .slice none 0 0] t3)) w.heap.size x y k t u := by
  refine ⟨⟨?_, ?_⟩, ⟨?_, ?_, ?_⟩, ?_, ?_, ?_, ?_⟩ <;> simp [go_sem]
theorem BoxS.lt {W : World} {B : Nat} {x y : Value} {k t : Int} {u : Value} (h : BoxS W B x y k t u) : B + 2 < W.heap.size := by simpa using World.block_lt_of_cell? _ _ h.2.2.1

theorem StOut.none_ {W w' : World} (hb : Below W.heap.size W w') : StOut W w' (.returned (.tuple #[.agg #[.int .i64 0, .slice none 0 0], .bool false])) 0 [] false := ⟨none, 0, rfl, World.ownsRow_nil _ _ _ _, hb⟩

set_option maxRecDepth 100000 in
set_option maxHeartbeats 4000000 in
theorem implDo_any (room : Int) (v : Value) (hs : List Pl.H) (k t : Int) (u : Value) (zs : List Int) (a : Addr) (w : World) (hv : Holds w v hs) (hl : hs.length ≤ 1048576) (hu : Ints w u zs) (hzl : zs.length ≤ 1048576) (ha : ErrAt w a) :
    Calls Tryd.prog 32 #[.agg #[.int .i64 room, v], .agg #[.int .i64 k, .int .i64 t, u]] w fun e w' => StOut w w' e (oR room (Pl.sDo room hs k t zs)) (oH (Pl.sDo room hs k t zs)) (Pl.sDo room hs k t zs).isSome := by
  have HB : Hid (∀ W, Below w.heap.size w W → Calls Tryd.prog 49 #[.agg #[.int .i64 room, v], .agg #[.int .i64 k, .int .i64 t, u]] W fun e w' => StepOut W w' e (Pl.behind room hs k t zs)) := fun W h =>
    behind_any room v hs k t u zs a W (hv.later h (Nat.le_refl _)) hl (hu.later h (Nat.le_refl _)) hzl (ha.later h (Nat.le_refl _))
  have HV : Hid (∀ W, Below w.heap.size w W → Holds W v hs) := fun W h => hv.later h (Nat.le_refl _)
  obtain ⟨av, cv, rfl⟩ := hv.shape
  obtain ⟨au, cu, rfl⟩ := hu.shape
  have BX := hide_it (BoxS.new w (.int .i64 room) (.slice av hs.length cv) k t (.slice au zs.length cu) 32 62 32)
  clear hv hu ha
  cases ho : Pl.behind room hs k t zs with
  | none =>
    have e : Pl.sDo room hs k t zs = none := by unfold Pl.sDo; rw [ho]; rfl
    rw [e]
    rw [ho] at HB
    go_enter Tryd.func32, Tryd.ntmps32
    go_wp2_with fail
    refine (HB.out _ (below3 w _ _ _)).mono ?_
    rintro e w1 ⟨p, q, rfl, -, hb1⟩
    have B1 := hide_it ((below3 w _ _ _).trans (hb1.mono (by simp; omega)))
    obtain ⟨_, _, q0, q1, f0, f1⟩ := (BX.out.later hb1 (by simp)).later (al_below w1 (.cells #[.int .i64 p, .int .i64 q] 56)) (by have := hb1.size; simp at this; omega)
    have hz1 : w.heap.size + 3 ≤ w1.heap.size := by have := hb1.size; simp at this; omega
    clear hb1
    go_wp2
    exact bodyPost_ret (v := .tuple #[.agg #[.int .i64 0, .slice none 0 0], .bool false]) (by simp [results, Tryd.results32, go_sem, q0, q1]) rfl (StOut.none_ (((B1.out.alloc B1.out.size _).setCell (by simp; omega) _).setCell (by simp; omega) _))
  | some h =>
    have e : Pl.sDo room hs k t zs = some (hs.set (Pl.at_ t) h) := by unfold Pl.sDo; rw [ho]; rfl
    rw [e]
    have hrec : Pl.recOk k t zs = true := by
      cases hr : Pl.recOk k t zs
      · rw [Pl.behind_rec room hs hr] at ho; cases ho
      · rfl
    have hok : Pl.sOk room hs = true := by
      cases hr : Pl.sOk room hs
      · rw [Pl.behind_stock k t zs hr] at ho; cases ho
      · rfl
    obtain ⟨_, _, p3, _⟩ := Pl.sOk_parts hok
    rw [ho] at HB
    obtain ⟨i, hi, rfl, hat⟩ := trip_at hrec
    rw [hat]
    have P3 := hide_it p3
    rw [p3] at HB BX ⊢
    rw [p3] at HV
    clear e ho hrec hok hat p3 hl
    go_enter Tryd.func32, Tryd.ntmps32
    go_wp2_with fail
    refine (HB.out _ (below3 w _ _ _)).mono ?_
    rintro e w1 ⟨p, q, rfl, hpq, hb1⟩
    have hh := hpq h rfl
    have HH := hide_it hh
    have B1 := hide_it ((below3 w _ _ _).trans (hb1.mono (by simp; omega)))
    have BX1 := hide_it (BX.out.later hb1 (by simp))
    have hz1 : w.heap.size + 3 ≤ w1.heap.size := by have := hb1.size; simp at this; omega
    clear hb1 hpq hh
    have BX2 := BX1.out.later (al_below w1 (.cells #[.int .i64 p, .int .i64 q] 56)) hz1
    obtain ⟨⟨x0, x1⟩, ⟨r0, r1, r2⟩, q0, q1, f0, f1⟩ := BX2
    have D2 := hide_it (Duo.new w1 (.int .i64 p) (.int .i64 q) 56)
    have HV2 := hide_it (HV.out _ (B1.out.alloc B1.out.size (.cells #[.int .i64 p, .int .i64 q] 56)))
    go_wp2_with (at_builtin; refine wpList_append_holds rfl _ _ rfl (w1.heap.size + 1) (.slice none 0 0) (.slice av 6 cv) 0 [] hs rfl rfl (World.ownsRow_nil _ _ _ _) HV2.out 6 (by have := P3.out; omega) (by decide) (by decide) (by simp) ?_; intro g cap w3 hown3 hgrow3; simp only [List.nil_append] at hown3; have hb3 := grown_below hgrow3; have B3 := hide_it ((B1.out.alloc B1.out.size (.cells #[.int .i64 p, .int .i64 q] 56)).trans (hb3.mono (by have := B1.out.size; simp; omega))); have O3 := hide_it hown3; have hgl := hown3.lt g rfl; have D3 := D2.out.later hb3 (Nat.le_refl _); have BX3 := (BX1.out.later (al_below w1 (.cells #[.int .i64 p, .int .i64 q] 56)) hz1).later hb3 (by simp; omega); clear hb3 hown3 hgrow3 x0 x1 r0 r1 r2 q0 q1 f0 f1; obtain ⟨d0, d1⟩ := D3; obtain ⟨⟨x0, x1⟩, ⟨r0, r1, r2⟩, q0, q1, f0, f1⟩ := BX3; obtain ⟨y0, y1, hy0, hy1, z0, z1⟩ := row_pair O3.out i hi; have ST := hide_it (stored2 O3.out i (by have := P3.out; omega) (p, q)).1; have hgn : ¬ g = w.heap.size := (by omega); have hgn1 : ¬ g = w.heap.size + 1 := (by omega); have hgn2 : ¬ g = w.heap.size + 1 + 1 := (by omega); have hgn3 : ¬ g = w1.heap.size := (by omega))
    have hlen : (hs.set i h).length = 6 := by rw [List.length_set]; exact P3.out
    refine bodyPost_ret (v := .tuple #[.agg #[.int .i64 room, .slice (some ⟨g, 0, none⟩) 6 cap], .bool true]) (by simp [results, Tryd.results32, go_sem, q0, q1]) rfl ⟨some ⟨g, 0, none⟩, cap, ?_, ?_, ?_⟩
    · show _ = _
      simp only [oR, oH, Option.getD_some, hlen]
    · simp only [oH, Option.getD_some, hlen]
      have h1 := ST.out
      rw [← HH.out] at h1
      exact ownsRow_base (ownsRow_setCell_below (ownsRow_setCell_below h1 (by simp; omega) _) (by simp; omega) _) (by omega)
    · exact (((B3.out.setCell (by simp; omega) _).setCell (by simp; omega) _).setCell (by simp; omega) _).setCell (by simp; omega) _

theorem bcell2 {B : Nat} {W w1 : World} (hb : Below B W w1) : (∀ b o, b < B → w1.cell? ⟨b, o, none⟩ = W.cell? ⟨b, o, none⟩) ∧ (∀ b o, b < B → w1.frozen? ⟨b, o, none⟩ = W.frozen? ⟨b, o, none⟩) :=
  ⟨fun b o h => hb.cell (p := ⟨b, o, none⟩) h, fun b o h => hb.frozen (p := ⟨b, o, none⟩) h⟩

set_option maxHeartbeats 2000000 in
theorem l2Copy_any (room : Int) (v : Value) (hs : List Pl.H) (w : World) (hv : Holds w v hs) (hl : hs.length = 6) :
    Calls Tryd.prog 67 #[.agg #[.int .i64 room, v]] w fun e w' => ∃ g cap, e = .returned (.agg #[.int .i64 room, .slice (some ⟨g, 0, none⟩) 6 cap]) ∧
      w'.ownsRow (w.heap.size + 2) 56 2 (.slice (some ⟨g, 0, none⟩) 6 cap) 6 (hflat hs) ∧ Below w.heap.size w w' := by
  have HV : Hid (∀ W, Below w.heap.size w W → Holds W v hs) := fun W h => hv.later h (Nat.le_refl _)
  obtain ⟨av, cv, hvs⟩ := hv.shape
  rw [hl] at hvs
  clear hv
  subst hvs
  have HL := hide_it hl
  clear hl
  have DR : Hid (∀ W, Below (w.heap.size + 2) ((w.alloc (.cells #[.int .i64 room, .slice av 6 cv] 32)).alloc (.cells #[.int .i64 0, .slice none 0 0] 32)) W → W.cell? ⟨w.heap.size, 0, none⟩ = some (.int .i64 room) ∧ W.cell? ⟨w.heap.size, 1, none⟩ = some (.slice av 6 cv) ∧ W.cell? ⟨w.heap.size + 1, 0, none⟩ = some (.int .i64 0) ∧ W.cell? ⟨w.heap.size + 1, 1, none⟩ = some (.slice none 0 0) ∧ W.frozen? ⟨w.heap.size + 1, 0, none⟩ = false ∧ W.frozen? ⟨w.heap.size + 1, 1, none⟩ = false) := fun W h => by
    obtain ⟨hc, hf⟩ := bcell2 h
    refine ⟨?_, ?_, ?_, ?_, ?_, ?_⟩
    · rw [hc _ _ (by omega)]; simp [go_sem]
    · rw [hc _ _ (by omega)]; simp [go_sem]
    · rw [hc _ _ (by omega)]; simp [go_sem]
    · rw [hc _ _ (by omega)]; simp [go_sem]
    · rw [hf _ _ (by omega)]; simp [go_sem]
    · rw [hf _ _ (by omega)]; simp [go_sem]
  have AL : Hid (Below (w.heap.size + 2) ((w.alloc (.cells #[.int .i64 room, .slice av 6 cv] 32)).alloc (.cells #[.int .i64 0, .slice none 0 0] 32)) (((w.alloc (.cells #[.int .i64 room, .slice av 6 cv] 32)).alloc (.cells #[.int .i64 0, .slice none 0 0] 32)).drew.alloc (.cells #[] 56))) := (Below.refl _ _).drew.alloc (by simp) _
  have B2 : Hid (Below w.heap.size w (((w.alloc (.cells #[.int .i64 room, .slice av 6 cv] 32)).alloc (.cells #[.int .i64 0, .slice none 0 0] 32)).drew.alloc (.cells #[] 56))) := (below2 w _ _).trans (AL.out.mono (by omega))
  have ROW : Hid ((((w.alloc (.cells #[.int .i64 room, .slice av 6 cv] 32)).alloc (.cells #[.int .i64 0, .slice none 0 0] 32)).drew.alloc (.cells #[] 56)).ownsRow (w.heap.size + 2) 56 2 (.slice (some ⟨w.heap.size + 2, 0, none⟩) 0 0) 0 []) := by
    have h := World.ownsRow_lit (base := w.heap.size + 2) (e := 56) (size := 2) (((w.alloc (.cells #[.int .i64 room, .slice av 6 cv] 32)).alloc (.cells #[.int .i64 0, .slice none 0 0] 32)).drew) #[] 0 (by simp) (by unfold maxLen; omega) rfl
    have e : (((w.alloc (.cells #[.int .i64 room, .slice av 6 cv] 32)).alloc (.cells #[.int .i64 0, .slice none 0 0] 32)).drew).heap.size = w.heap.size + 2 := by simp
    rw [e] at h
    exact h
  go_enter Tryd.func67, Tryd.ntmps67
  go_wp2
  go_region_held_law (fun w' => w'.cell? ⟨w.heap.size, 0, none⟩ = some (.int .i64 room) ∧ w'.cell? ⟨w.heap.size, 1, none⟩ = some (.slice av 6 cv)) (go_keep)
    ((refine step_append_holds rfl _ _ rfl (w.heap.size + 2) (.slice (some ⟨w.heap.size + 2, 0, none⟩) 0 0) (.slice av 6 cv) 0 [] hs rfl rfl (by exact ROW.out) (by exact HV.out _ B2.out) 6 (by have := HL.out; omega) (by decide) (by decide) (by simp) ?_; intro g cap w1 hown hgrow; simp only [List.nil_append] at hown; have hb1 := AL.out.trans ((Below.refl (w.heap.size + 2) _).grown hgrow (by simp) (fun j hj => by simp [Value.ownBlock] at hj; omega)); obtain ⟨k0, k1, k2, k3, k4, k5⟩ := DR.out _ hb1; have HO := hide_it hown; have HB := hide_it ((below2 w _ _).trans (hb1.mono (by omega))); have hz1 : w.heap.size + 2 ≤ w1.heap.size := (by have := hb1.size; simp at this; omega); clear hown hgrow hb1))
  go_wp2
  refine bodyPost_ret (v := .agg #[.int .i64 room, .slice (some ⟨g, 0, none⟩) 6 cap]) (by simp [results, Tryd.results67, go_sem, k2, k3]) rfl ⟨g, cap, rfl, ?_, ?_⟩
  · exact ownsRow_setCell_below (ownsRow_setCell_below HO.out (by simp) _) (by simp) _
  · exact (HB.out.setCell (by simp) _).setCell (by simp) _

end Go.Proofs.YtgeagfglkgpoiaaDoor

namespace Go.Proofs.YtgeagfglkgpoiaaDoor
open Go.RowKit

theorem setCell_mid (W : World) (b o : Nat) (x : Value) : Mid b (b + 1) W (W.setCell ⟨b, o, none⟩ x) :=
  ⟨rfl, rfl, rfl, by simp, fun k hk hh => Below.heap_setCell _ _ _ _ (by simp; omega)⟩
theorem Mid.then_below {lo hi : Nat} {w a b : World} (h : Mid lo hi w a) (hb : Below w.heap.size a b) : Mid lo hi w b :=
  ⟨hb.os.trans h.os, hb.tape.trans h.tape, hb.output.trans h.output, Nat.le_trans h.size hb.size, fun k hk hh => (hb.block k hk).trans (h.block k hk hh)⟩

/-- What a record that may come makes of its trip's hold, kind by kind. -/
theorem next_some {h : Pl.H} {m s k z F : Int} (e : Pl.next (m, s) k z F = some h) : (k = 1 ∧ h = (z, 1)) ∨ (k = 2 ∧ h = (m, 2)) ∨ (k = 3 ∧ h = (m, 3)) := by
  by_cases k1 : k = 1
  · subst k1
    rw [next_1] at e
    split at e
    · exact Or.inl ⟨rfl, (by simpa using e.symm)⟩
    · cases e
  by_cases k2 : k = 2
  · subst k2
    rw [next_2] at e
    split at e
    · exact Or.inr (Or.inl ⟨rfl, (by simpa using e.symm)⟩)
    · cases e
  by_cases k3 : k = 3
  · subst k3
    rw [next_3] at e
    split at e
    · exact Or.inr (Or.inr ⟨rfl, (by simpa using e.symm)⟩)
    · cases e
  · rw [next_x _ _ _ _ k1 k2 k3] at e; cases e
theorem behind_parts {room : Int} {hs : List Pl.H} {k t : Int} {zs : List Int} {h : Pl.H} (e : Pl.behind room hs k t zs = some h) : Pl.sOk room hs = true ∧ Pl.recOk k t zs = true ∧ Pl.next (Pl.hAt hs t) k (zs.headD 0) (Pl.free room hs) = some h := by
  cases hok : Pl.sOk room hs
  · rw [Pl.behind_stock k t zs hok] at e; cases e
  cases hr : Pl.recOk k t zs
  · rw [Pl.behind_rec room hs hr] at e; cases e
  · rw [Pl.behind_ok hok hr] at e; exact ⟨rfl, rfl, e⟩

theorem below4' (w : World) (o1 o2 o3 o4 : Obj) : Below w.heap.size w ((((w.alloc o1).alloc o2).alloc o3).alloc o4) := (below3 w o1 o2 o3).alloc (by simp; omega) o4

set_option maxRecDepth 100000 in
set_option maxHeartbeats 4000000 in
theorem l2Do_any (room : Int) (g cap lo : Nat) (hs : List Pl.H) (k t : Int) (u : Value) (zs : List Int) (h : Pl.H) (w : World) (ho : w.ownsRow lo 56 2 (.slice (some ⟨g, 0, none⟩) 6 cap) 6 (hflat hs)) (hu : Ints w u zs) (hbh : Pl.behind room hs k t zs = some h) :
    Calls Tryd.prog 47 #[.agg #[.int .i64 room, .slice (some ⟨g, 0, none⟩) 6 cap], .agg #[.int .i64 k, .int .i64 t, u]] w fun e w' => e = .returned (.agg #[.int .i64 room, .slice (some ⟨g, 0, none⟩) 6 cap]) ∧ w'.ownsRow lo 56 2 (.slice (some ⟨g, 0, none⟩) 6 cap) 6 (hflat (hs.set (Pl.at_ t) h)) ∧ Mid g (g + 1) w w' := by
  obtain ⟨hok, hrec, hnx⟩ := behind_parts hbh
  obtain ⟨_, _, p3, _⟩ := Pl.sOk_parts hok
  obtain ⟨i, hi, rfl, hat⟩ := trip_at hrec
  rw [hat]
  obtain ⟨m, s, hms⟩ : ∃ m s, hs.getD i (0, 0) = (m, s) := ⟨_, _, rfl⟩
  have hms' : Pl.hAt hs ((i : Int) + 1) = (m, s) := by unfold Pl.hAt; rw [hat]; exact hms
  rw [hms'] at hnx
  have hgl := ho.lt g rfl
  obtain ⟨f0, f1⟩ := hflat_get hs i (by omega)
  rw [hms] at f0 f1
  have c0 : w.cell? ⟨g, i * 2, none⟩ = some (.int .i64 m) := by rw [ho.cellAt _ (by omega)]; exact f0
  have c1 : w.cell? ⟨g, i * 2 + 1, none⟩ = some (.int .i64 s) := by rw [ho.cellAt _ (by omega)]; exact f1
  have z0 := ho.frozenAt (i * 2)
  have z1 := ho.frozenAt (i * 2 + 1)
  have c30 : ∀ o1 o2 o3, (((w.alloc o1).alloc o2).alloc o3).cell? ⟨g, i * 2, none⟩ = some (.int .i64 m) := fun o1 o2 o3 => ((below3 w o1 o2 o3).cell (p := ⟨g, i * 2, none⟩) hgl.2).trans c0
  have c31 : ∀ o1 o2 o3, (((w.alloc o1).alloc o2).alloc o3).cell? ⟨g, i * 2 + 1, none⟩ = some (.int .i64 s) := fun o1 o2 o3 => ((below3 w o1 o2 o3).cell (p := ⟨g, i * 2 + 1, none⟩) hgl.2).trans c1
  have c40 : ∀ o1 o2 o3 o4, ((((w.alloc o1).alloc o2).alloc o3).alloc o4).cell? ⟨g, i * 2, none⟩ = some (.int .i64 m) := fun o1 o2 o3 o4 => ((below4' w o1 o2 o3 o4).cell (p := ⟨g, i * 2, none⟩) hgl.2).trans c0
  have c41 : ∀ o1 o2 o3 o4, ((((w.alloc o1).alloc o2).alloc o3).alloc o4).cell? ⟨g, i * 2 + 1, none⟩ = some (.int .i64 s) := fun o1 o2 o3 o4 => ((below4' w o1 o2 o3 o4).cell (p := ⟨g, i * 2 + 1, none⟩) hgl.2).trans c1
  have z40 : ∀ o1 o2 o3 o4, ((((w.alloc o1).alloc o2).alloc o3).alloc o4).frozen? ⟨g, i * 2, none⟩ = false := fun o1 o2 o3 o4 => ((below4' w o1 o2 o3 o4).frozen (p := ⟨g, i * 2, none⟩) hgl.2).trans z0
  have z41 : ∀ o1 o2 o3 o4, ((((w.alloc o1).alloc o2).alloc o3).alloc o4).frozen? ⟨g, i * 2 + 1, none⟩ = false := fun o1 o2 o3 o4 => ((below4' w o1 o2 o3 o4).frozen (p := ⟨g, i * 2 + 1, none⟩) hgl.2).trans z1
  have FIN : Hid (∀ o1 o2 o3 o4 x y, (((((((w.alloc o1).alloc o2).alloc o3).alloc o4).setCell ⟨g, i * 2, none⟩ (.int .i64 h.1)).setCell ⟨g, i * 2 + 1, none⟩ (.int .i64 h.2)).setCell ⟨w.heap.size + 1 + 1, 0, none⟩ x |>.setCell ⟨w.heap.size + 1 + 1, 1, none⟩ y).ownsRow lo 56 2 (.slice (some ⟨g, 0, none⟩) 6 cap) 6 (hflat (hs.set i h)) ∧ Mid g (g + 1) w (((((((w.alloc o1).alloc o2).alloc o3).alloc o4).setCell ⟨g, i * 2, none⟩ (.int .i64 h.1)).setCell ⟨g, i * 2 + 1, none⟩ (.int .i64 h.2)).setCell ⟨w.heap.size + 1 + 1, 0, none⟩ x |>.setCell ⟨w.heap.size + 1 + 1, 1, none⟩ y)) := fun o1 o2 o3 o4 x y => by
    have st := stored2 ((((ho.alloc o1).alloc o2).alloc o3).alloc o4) i (by omega) h
    refine ⟨ownsRow_mid (ownsRow_mid st.1 (setCell_mid _ _ _ _) ?_) (setCell_mid _ _ _ _) ?_, ?_⟩
    · intro j hj; simp [Value.ownBlock] at hj; omega
    · intro j hj; simp [Value.ownBlock] at hj; omega
    · have m1 : Mid g (g + 1) w _ := (Mid.of_below (below4' w o1 o2 o3 o4) (Nat.le_refl _)).trans (Mid.of_grown st.2 (fun j hj => by simp at hj; omega))
      exact m1.then_below (((Below.refl _ _).setCell (by simp; omega) _).setCell (by simp; omega) _)
  have hgn : ¬ g = w.heap.size + 1 + 1 := by omega
  have hgn0 : ¬ g = w.heap.size := by omega
  have hgn1 : ¬ g = w.heap.size + 1 := by omega
  have hgn3 : ¬ g = w.heap.size + 1 + 1 + 1 := by omega
  clear f0 f1 hok p3 hat hms hms' ho
  rcases next_some hnx with ⟨rfl, rfl⟩ | ⟨rfl, rfl⟩ | ⟨rfl, rfl⟩
  · obtain ⟨z, rfl, _, _⟩ := Pl.recOk_hold hrec
    rcases hu with ⟨h, _⟩ | ⟨b2, off2, cap2, rfl, hz2, hc2⟩
    · simp at h
    have d0 : w.cell? ⟨b2, off2, none⟩ = some (.int .i64 z) := hc2 0 (by simp)
    have hb2 : b2 < w.heap.size := World.block_lt_of_cell? _ _ d0
    have d4 : ∀ o1 o2 o3 o4, ((((w.alloc o1).alloc o2).alloc o3).alloc o4).cell? ⟨b2, off2, none⟩ = some (.int .i64 z) := fun o1 o2 o3 o4 => ((below4' w o1 o2 o3 o4).cell (p := ⟨b2, off2, none⟩) hb2).trans d0
    clear hc2 hz2 hrec hnx hbh
    go_enter Tryd.func47, Tryd.ntmps47
    go_wp2
    exact bodyPost_ret (v := .agg #[.int .i64 room, .slice (some ⟨g, 0, none⟩) 6 cap]) (by simp [results, Tryd.results47, go_sem]) rfl ⟨rfl, FIN.out _ _ _ _ _ _⟩
  · obtain ⟨au, cu, rfl⟩ := hu.shape
    clear hu hrec hnx hbh
    go_enter Tryd.func47, Tryd.ntmps47
    go_wp2
    exact bodyPost_ret (v := .agg #[.int .i64 room, .slice (some ⟨g, 0, none⟩) 6 cap]) (by simp [results, Tryd.results47, go_sem]) rfl ⟨rfl, FIN.out _ _ _ _ _ _⟩
  · obtain ⟨au, cu, rfl⟩ := hu.shape
    clear hu hrec hnx hbh
    go_enter Tryd.func47, Tryd.ntmps47
    go_wp2
    exact bodyPost_ret (v := .agg #[.int .i64 room, .slice (some ⟨g, 0, none⟩) 6 cap]) (by simp [results, Tryd.results47, go_sem]) rfl ⟨rfl, FIN.out _ _ _ _ _ _⟩

set_option maxRecDepth 100000 in
set_option maxHeartbeats 4000000 in
theorem specDo_any (room : Int) (v : Value) (hs : List Pl.H) (k t : Int) (u : Value) (zs : List Int) (w : World) (hv : Holds w v hs) (hl : hs.length ≤ 1048576) (hu : Ints w u zs) (hzl : zs.length ≤ 1048576) :
    Calls Tryd.prog 56 #[.agg #[.int .i64 room, v], .agg #[.int .i64 k, .int .i64 t, u]] w fun e w' => StOut w w' e (oR room (Pl.sDo room hs k t zs)) (oH (Pl.sDo room hs k t zs)) (Pl.sDo room hs k t zs).isSome := by
  have HM : Hid (∀ W, Below w.heap.size w W → Calls Tryd.prog 66 #[.agg #[.int .i64 room, v], .agg #[.int .i64 k, .int .i64 t, u]] W fun e w' => e = .returned (.bool (Pl.behind room hs k t zs).isSome) ∧ Below W.heap.size W w') := fun W h =>
    specMay_any room v hs k t u zs W (hv.later h (Nat.le_refl _)) hl (hu.later h (Nat.le_refl _)) hzl
  have HV : Hid (∀ W, Below w.heap.size w W → Holds W v hs) := fun W h => hv.later h (Nat.le_refl _)
  have HU : Hid (∀ W, Below w.heap.size w W → Ints W u zs) := fun W h => hu.later h (Nat.le_refl _)
  obtain ⟨av, cv, rfl⟩ := hv.shape
  obtain ⟨au, cu, rfl⟩ := hu.shape
  have BX := hide_it (BoxS.new w (.int .i64 room) (.slice av hs.length cv) k t (.slice au zs.length cu) 32 62 32)
  clear hv hu
  cases ho : Pl.behind room hs k t zs with
  | none =>
    have e : Pl.sDo room hs k t zs = none := by unfold Pl.sDo; rw [ho]; rfl
    rw [e]
    rw [ho] at HM
    go_enter Tryd.func56, Tryd.ntmps56
    go_wp2_with fail
    refine (HM.out _ (below3 w _ _ _)).mono ?_
    rintro e w1 ⟨rfl, hb1⟩
    have B1 := hide_it ((below3 w _ _ _).trans (hb1.mono (by simp; omega)))
    obtain ⟨_, _, q0, q1, f0, f1⟩ := BX.out.later hb1 (by simp)
    clear hb1
    go_wp2
    exact bodyPost_ret (v := .tuple #[.agg #[.int .i64 0, .slice none 0 0], .bool false]) (by simp [results, Tryd.results56, go_sem, q0, q1]) rfl (StOut.none_ ((B1.out.setCell (by simp; omega) _).setCell (by simp; omega) _))
  | some h =>
    have e : Pl.sDo room hs k t zs = some (hs.set (Pl.at_ t) h) := by unfold Pl.sDo; rw [ho]; rfl
    rw [e]
    obtain ⟨hok, hrec, _⟩ := behind_parts ho
    obtain ⟨_, _, p3, _⟩ := Pl.sOk_parts hok
    have P3 := hide_it p3
    have HBH := hide_it ho
    rw [ho] at HM
    rw [p3] at HM BX ⊢
    rw [p3] at HV
    have hlen : Hid ((hs.set (Pl.at_ t) h).length = 6) := by show _ = _; rw [List.length_set]; exact P3.out
    clear e ho hrec hok p3 hl
    go_enter Tryd.func56, Tryd.ntmps56
    go_wp2_with fail
    refine (HM.out _ (below3 w _ _ _)).mono ?_
    rintro e w1 ⟨rfl, hb1⟩
    have B1 := hide_it ((below3 w _ _ _).trans (hb1.mono (by simp; omega)))
    have BX1 := hide_it (BX.out.later hb1 (by simp))
    have hz1 : w.heap.size + 3 ≤ w1.heap.size := by have := hb1.size; simp at this; omega
    obtain ⟨⟨x0, x1⟩, ⟨r0, r1, r2⟩, q0, q1, f0, f1⟩ := BX1.out
    clear hb1
    go_wp2_with fail
    go_region_held (fun w' => w'.cell? ⟨w.heap.size, 0, none⟩ = some (.int .i64 room) ∧ w'.cell? ⟨w.heap.size, 1, none⟩ = some (.slice av 6 cv) ∧ w'.cell? ⟨w.heap.size + 1, 0, none⟩ = some (.int .i64 k) ∧ w'.cell? ⟨w.heap.size + 1, 1, none⟩ = some (.int .i64 t) ∧ w'.cell? ⟨w.heap.size + 1, 2, none⟩ = some (.slice au zs.length cu)) (first | (go_keep; done) | (refine ⟨?_, ?_, ?_, ?_, ?_⟩ <;> (rw [two_set_cells _ _ _ _ _ _ (by omega)]; assumption)))
      (first
      | (go_at_call 67; refine (l2Copy_any room _ hs _ (HV.out _ B1.out.drew) P3.out).mono ?_; rintro e w2 ⟨g, cap, rfl, ho2, hb2⟩; have O2 := hide_it ho2; have hg2 := ho2.lt g rfl; have B2 := hide_it (B1.out.drew.trans (hb2.mono B1.out.size)); have BX2 := hide_it ((BX1.out.later (Below.refl _ _).drew hz1).later hb2 (by exact hz1)); obtain ⟨⟨y0, y1⟩, ⟨s0, s1, s2⟩, _⟩ := BX2.out; clear hb2 ho2)
      | (go_at_call 47; refine (l2Do_any room g cap _ hs k t _ zs h _ O2.out (HU.out _ B2.out) HBH.out).mono ?_; rintro e w3 ⟨rfl, ho3, hM3⟩; have O3 := hide_it ho3; have hw1g : w1.heap.size + 2 ≤ g := hg2.1; have E3 := hide_it (hM3.below (B := w1.heap.size) (by omega) (by omega)); have B3 := hide_it (B2.out.trans (E3.out.mono B1.out.size)); have BX3 := hide_it (BX2.out.later E3.out hz1); obtain ⟨⟨o0, o1⟩, ⟨v0, v1, v2⟩, z0, z1, j0, j1⟩ := BX3.out; have hz3 := BX3.out.lt; clear ho3 hM3))
    go_wp2
    refine bodyPost_ret (v := .tuple #[.agg #[.int .i64 room, .slice (some ⟨g, 0, none⟩) 6 cap], .bool true]) (by simp [results, Tryd.results56, go_sem, z0, z1]) rfl ⟨some ⟨g, 0, none⟩, cap, ?_, ?_, ?_⟩
    · show _ = _
      simp only [oR, oH, Option.getD_some, Option.isSome_some, hlen.out]
    · simp only [oH, Option.getD_some, hlen.out]
      exact ownsRow_base (ownsRow_setCell_below (ownsRow_setCell_below O3.out (by show _ < w1.heap.size + 2; simp; omega) _) (by show _ < w1.heap.size + 2; simp; omega) _) (by show _ ≤ w1.heap.size + 2; omega)
    · exact (B3.out.setCell (by simp; omega) _).setCell (by simp; omega) _

end Go.Proofs.YtgeagfglkgpoiaaDoor

namespace Go.Proofs.YtgeagfglkgpoiaaDoor
open Go.RowKit

/-- A stock's own block. -/
def SB (W : World) (S : Nat) (x y : Value) : Prop := W.heap[S]? = some (.cells #[x, y] 32 (0, 0))
theorem SB.new (w : World) (x y : Value) : SB (w.alloc (.cells #[x, y] 32)) w.heap.size x y := heap_alloc_new w _
theorem SB.lt {w : World} {b : Nat} {x y : Value} (h : SB w b x y) : b < w.heap.size := by
  unfold SB at h
  by_cases e : b < w.heap.size
  · exact e
  · rw [Array.getElem?_eq_none (by omega)] at h; cases h
theorem SB.later {w w' : World} {b L : Nat} {x y : Value} (h : SB w b x y) (hb : Below L w w') (hL : b < L) : SB w' b x y := by
  unfold SB at *
  rw [hb.block b hL]; exact h
theorem SB.mid {w w' : World} {b l h' : Nat} {x y : Value} (h : SB w b x y) (hm : Mid l h' w w') (hb : b < l ∨ h' ≤ b) : SB w' b x y := by
  have := h.lt
  unfold SB at *
  rw [hm.block b this hb]; exact h
theorem SB.cells {w : World} {b : Nat} {x y : Value} (h : SB w b x y) : w.cell? ⟨b, 0, none⟩ = some x ∧ w.cell? ⟨b, 1, none⟩ = some y ∧ w.frozen? ⟨b, 0, none⟩ = false ∧ w.frozen? ⟨b, 1, none⟩ = false := by
  refine ⟨?_, ?_, frozen_of_row w _ _ _ _ h, frozen_of_row w _ _ _ _ h⟩
  · rw [cell_of_row w _ _ _ _ _ h]; rfl
  · rw [cell_of_row w _ _ _ _ _ h]; rfl
theorem SB.set {w : World} {b : Nat} {x y : Value} (h : SB w b x y) (x' y' : Value) : SB ((w.setCell ⟨b, 0, none⟩ x').setCell ⟨b, 1, none⟩ y') b x' y' := by
  have h2 := heap_setCell_same w b 0 _ _ x' h
  have h3 := heap_setCell_same _ b 1 _ _ y' h2
  unfold SB
  rw [h3]; rfl
theorem SB.other {w : World} {b c : Nat} {x y : Value} (h : SB w b x y) (hne : b ≠ c) (x' y' : Value) : SB ((w.setCell ⟨c, 0, none⟩ x').setCell ⟨c, 1, none⟩ y') b x y := by
  unfold SB at *
  rw [Below.heap_setCell _ _ _ _ hne, Below.heap_setCell _ _ _ _ hne]; exact h

theorem sRun_nil (room : Int) (hs : List Pl.H) : Pl.sRun room [] hs = some hs := rfl
theorem sRun_no (room : Int) (r : R) (t : List R) (hs : List Pl.H) (h : Pl.sDo room hs r.1 r.2.1 r.2.2 = none) : Pl.sRun room (r :: t) hs = none := by simp [Pl.sRun, h]
theorem sRun_yes (room : Int) (r : R) (t : List R) (hs hs' : List Pl.H) (h : Pl.sDo room hs r.1 r.2.1 r.2.2 = some hs') : Pl.sRun room (r :: t) hs = Pl.sRun room t hs' := by simp [Pl.sRun, h]
theorem drop_at {rs : List R} {k : Nat} {r : R} (h : rs[k]? = some r) : rs.drop k = r :: rs.drop (k + 1) := by
  have hk : k < rs.length := by
    by_cases e : k < rs.length
    · exact e
    · rw [List.getElem?_eq_none (by omega)] at h; cases h
  rw [List.getElem?_eq_getElem hk] at h
  simp only [Option.some.injEq] at h
  rw [List.drop_eq_getElem_cons hk, h]

theorem newO_no {room : Int} (h : Pl.inB room 0 9 = false) : newO room = none := by simp [newO, h]
theorem newO_yes {room : Int} (h : Pl.inB room 0 9 = true) : newO room = some Pl.noHolds := by simp [newO, h]
theorem sOf_no {room : Int} (rs : List R) (h : Pl.inB room 0 9 = false) : Pl.sOf room rs = none := by simp [Pl.sOf, h]
theorem sOf_yes {room : Int} (rs : List R) (h : Pl.inB room 0 9 = true) : Pl.sOf room rs = Pl.sRun room rs Pl.noHolds := by simp [Pl.sOf, h]

theorem row_g {w : World} {base n : Nat} {v : Value} {xs : List Value} (h : w.ownsRow base 56 2 v n xs) (hn : 0 < n) : ∃ g cap, v = .slice (some ⟨g, 0, none⟩) n cap := by
  rcases h.2 with ⟨_, h0⟩ | ⟨g, cap, cur, hv, _⟩
  · omega
  · exact ⟨g, cap, hv⟩

set_option maxRecDepth 100000 in
set_option maxHeartbeats 4000000 in
theorem implOf_any (room : Int) (v : Value) (rs : List R) (a : Addr) (w : World) (hv : Recs w v rs) (hl : tot rs ≤ 1048576) (ha : ErrAt w a) :
    Calls Tryd.prog 10 #[.int .i64 room, v] w fun e w' => StOut w w' e (oR room (Pl.sOf room rs)) (oH (Pl.sOf room rs)) (Pl.sOf room rs).isSome := by
  have hlen := tot_len rs
  have HM : Hid (∀ r ∈ rs, r.2.2.length ≤ 1048576) := fun r hr => Nat.le_trans (tot_mem rs r hr) hl
  have HA : Hid (∀ W, Below w.heap.size w W → ErrAt W a) := fun W h => ha.later h (Nat.le_refl _)
  have HN := hide_it (implNew_any room)
  cases hr : Pl.inB room 0 9
  · rw [sOf_no rs hr]
    have HN0 : ∀ W, Calls Tryd.prog 31 #[.int .i64 room] W fun e w' => StOut W w' e 0 [] false := fun W => by
      have := HN.out W
      rw [newO_no hr] at this
      exact this
    have HN1 := hide_it HN0
    clear HN0 HN
    obtain ⟨ao, cap, rfl⟩ := hv.shape
    clear hv ha
    go_enter Tryd.func10, Tryd.ntmps10
    go_wp2_with fail
    refine (HN1.out _).mono ?_
    rintro e w1 ⟨a1, c1, rfl, ho1, hb1⟩
    have Z1 := hide_it ((SB.new w (.int .i64 0) (.slice none 0 0)).later hb1 (by simp))
    have B1 := hide_it ((al_below w _).trans (hb1.mono (by simp)))
    have hz1 := Z1.out.lt
    obtain ⟨z0, z1, z2, z3⟩ := Z1.out.cells
    have ZS := Z1.out.set (.int .i64 0) (.slice none 0 0)
    have ZT := ZS.later (al_below _ (.cells #[.int .i64 0, .slice a1 0 c1] 32)) ZS.lt
    have HZT := hide_it ZT.cells
    clear ho1 hb1 ZS ZT
    go_wp2
    obtain ⟨t0, t1, _, _⟩ := HZT.out
    refine bodyPost_ret (v := .tuple #[.agg #[.int .i64 0, .slice none 0 0], .bool false]) (by simp [results, Tryd.results10, go_sem, t0, t1]) rfl ?_
    first | exact StOut.none_ (((B1.out.alloc B1.out.size _).setCell (by simp) _).setCell (by simp) _) | exact StOut.none_ (((B1.out.setCell (by simp) _).setCell (by simp) _).alloc (by simp; exact B1.out.size) _)
  rw [sOf_yes rs hr]
  have HN0 : ∀ W, Calls Tryd.prog 31 #[.int .i64 room] W fun e w' => StOut W w' e room Pl.noHolds true := fun W => by
    have := HN.out W
    rw [newO_yes hr] at this
    exact this
  have HN1 := hide_it HN0
  clear HN0 HN
  obtain ⟨OO, hOO⟩ : ∃ o, Pl.sRun room rs Pl.noHolds = o := ⟨_, rfl⟩
  rw [hOO]
  have HOO := hide_it hOO
  have HR := hide_it hr
  have HC : Hid (∀ W, Below w.heap.size w W → ∀ i r, rs[i]? = some r → ∃ b off cap u, v = .slice (some ⟨b, off, none⟩) rs.length cap ∧ RecCells W b (off + i * 3) r u) := fun W h i r hri => by
    rcases hv.later h (Nat.le_refl _) with ⟨rfl, _⟩ | ⟨b, off, cap, hvv, _, hc⟩
    · simp at hri
    · obtain ⟨u, hu⟩ := hc i r hri
      exact ⟨b, off, cap, u, hvv, hu⟩
  obtain ⟨av, cv, rfl⟩ := hv.shape
  clear hv ha hOO hr
  go_enter Tryd.func10, Tryd.ntmps10
  go_wp2_with fail
  refine (HN1.out _).mono ?_
  rintro e w1 ⟨a1, c1, rfl, ho1, hb1⟩
  have n6 : Pl.noHolds.length = 6 := rfl
  rw [n6] at ho1 ⊢
  have Z1 := hide_it ((SB.new w (.int .i64 0) (.slice none 0 0)).later hb1 (by simp))
  have B1 := hide_it ((al_below w _).trans (hb1.mono (by simp)))
  have hz1 := Z1.out.lt
  have ho1' : w1.ownsRow (w.heap.size + 1) 56 2 (.slice a1 6 c1) 6 (hflat Pl.noHolds) := by
    have h := ho1
    rw [World.size_alloc] at h
    exact h
  have O1 := hide_it (ho1'.alloc (.cells #[.int .i64 room, .slice a1 6 c1] 32))
  have Z2 := hide_it (Z1.out.later (al_below w1 (.cells #[.int .i64 room, .slice a1 6 c1] 32)) hz1)
  have S2 := hide_it (SB.new w1 (.int .i64 room) (.slice a1 6 c1))
  have B2 := hide_it (B1.out.alloc B1.out.size (.cells #[.int .i64 room, .slice a1 6 c1] 32))
  clear ho1 ho1' hb1
  go_wp2_with fail
  go_loopw [20] (fun i wr => ∃ (k : Nat) (hk : List Pl.H) (ak : Option Addr) (ck : Nat), k ≤ rs.length ∧ i = .int .i64 k ∧ Hid (Pl.sRun room (rs.drop k) hk = OO) ∧ Hid (Pl.sOk room hk = true) ∧ Hid (SB wr w1.heap.size (.int .i64 room) (.slice ak 6 ck)) ∧ Hid (SB wr w.heap.size (.int .i64 0) (.slice none 0 0)) ∧ Hid (wr.ownsRow (w.heap.size + 1) 56 2 (.slice ak 6 ck) 6 (hflat hk)) ∧ Hid (Below w.heap.size w wr)) (fun i _ => rs.length - (intOf i).toNat)
  case atStart => exact ⟨0, Pl.noHolds, a1, c1, Nat.zero_le _, rfl, HOO, Pl.new_ok room HR.out, S2, Z2, O1, B2⟩
  case round =>
    obtain ⟨k, hk, ak, ck, hkl, rfl, HRU, HOK, HS, HZ, HO, HB⟩ := hrel
    have P3 : Hid (hk.length = 6) := (Pl.sOk_parts HOK.out).2.2.1
    obtain ⟨s0, s1, s2, s3⟩ := HS.out.cells
    obtain ⟨z0, z1, z2, z3⟩ := HZ.out.cells
    have hsl := HS.out.lt
    have hzl := HZ.out.lt
    by_cases hlt : k < rs.length
    · obtain ⟨r, hri⟩ : ∃ r, Hid (rs[k]? = some r) := ⟨rs[k], by show _ = _; simp [hlt]⟩
      have hrl : r.2.2.length ≤ 1048576 := HM.out r (List.mem_of_getElem? hri.out)
      obtain ⟨b, off, cap, u, hvv, c0, c1', c2, hI⟩ := HC.out wr HB.out k r hri.out
      simp only [Value.slice.injEq] at hvv
      obtain ⟨rfl, -, rfl⟩ := hvv
      obtain ⟨au, cu, hus⟩ := hI.shape
      subst hus
      have HI := hide_it hI
      have HD : Hid (∀ o, Calls Tryd.prog 32 #[.agg #[.int .i64 room, .slice ak 6 ck], .agg #[.int .i64 r.1, .int .i64 r.2.1, .slice au r.2.2.length cu]] (wr.alloc o) fun e w' => StOut (wr.alloc o) w' e (oR room (Pl.sDo room hk r.1 r.2.1 r.2.2)) (oH (Pl.sDo room hk r.1 r.2.1 r.2.2)) (Pl.sDo room hk r.1 r.2.1 r.2.2).isSome) := fun o => by
        have h6 := HO.out
        have hH : Holds (wr.alloc o) (.slice ak 6 ck) hk := by
          have h := h6.alloc o
          rw [← P3.out] at h
          have := holds_of_row h
          rw [P3.out] at this
          exact this
        exact implDo_any room _ hk r.1 r.2.1 _ r.2.2 a (wr.alloc o) hH (by have := P3.out; omega) (HI.out.later (al_below _ _) (Nat.le_refl _)) hrl (HA.out _ (HB.out.alloc HB.out.size o))
      have HRU2 := hide_it HRU.out
      rw [drop_at hri.out] at HRU2
      have hbw : b < wr.heap.size := World.block_lt_of_cell? _ _ c0
      have sA := fun o => (HS.out.later (al_below wr o) hsl).cells
      have SAl := hide_it sA
      clear sA hI
      obtain ⟨sa0, sa1, _, _⟩ := SAl.out (.cells #[.int .i64 r.1, .int .i64 r.2.1, .slice au r.2.2.length cu] 62)
      go_wp2_with fail
      cases hd : Pl.sDo room hk r.1 r.2.1 r.2.2 with
      | none =>
        rw [hd] at HD
        have HE : Hid (OO = none) := by show _ = _; rw [← HRU2.out]; exact sRun_no room r _ hk hd
        refine (HD.out _).mono ?_
        rintro e w3 ⟨a3, c3, rfl, ho3, hb3⟩
        have B3 := hide_it ((HB.out.alloc HB.out.size (.cells #[.int .i64 r.1, .int .i64 r.2.1, .slice au r.2.2.length cu] 62)).trans (hb3.mono (by have := HB.out.size; simp; omega)))
        have S3 := hide_it ((HS.out.later (al_below wr (.cells #[.int .i64 r.1, .int .i64 r.2.1, .slice au r.2.2.length cu] 62)) hsl).later hb3 (by simp; omega))
        have Z3 := hide_it ((HZ.out.later (al_below wr (.cells #[.int .i64 r.1, .int .i64 r.2.1, .slice au r.2.2.length cu] 62)) hzl).later hb3 (by simp; omega))
        have hb13 : w.heap.size ≠ w1.heap.size := by omega
        clear ho3 hb3 s0 s1 s2 s3 z0 z1 z2 z3 sa0 sa1 c0 c1' c2
        obtain ⟨s0, s1, s2, s3⟩ := S3.out.cells
        obtain ⟨z0, z1, z2, z3⟩ := (Z3.out.other hb13 (.int .i64 (oR room none)) (.slice a3 (oH none).length c3)).cells
        go_wp2
        rw [HE.out]
        exact bodyPost_ret (v := .tuple #[.agg #[.int .i64 0, .slice none 0 0], .bool false]) (by simp [results, Tryd.results10, go_sem, z0, z1]) rfl (StOut.none_ ((((B3.out.setCell (by simp; omega) _).setCell (by simp; omega) _).setCell (by simp) _).setCell (by simp) _))
      | some hk' =>
        rw [hd] at HD
        have hl6 : hk'.length = 6 := by rw [Pl.sDo_len hd]; exact P3.out
        refine (HD.out _).mono ?_
        rintro e w3 ⟨a3, c3, rfl, ho3, hb3⟩
        have eH : oH (some hk') = hk' := rfl
        have eR : oR room (some hk') = room := rfl
        rw [eH, hl6] at ho3 ⊢
        rw [eR]
        have HRU3 : Hid (Pl.sRun room (rs.drop (k + 1)) hk' = OO) := by show _ = _; rw [← HRU2.out]; exact (sRun_yes room r _ hk hk' hd).symm
        have HOK3 : Hid (Pl.sOk room hk' = true) := Pl.sDo_keeps hd
        have B3 := hide_it ((HB.out.alloc HB.out.size (.cells #[.int .i64 r.1, .int .i64 r.2.1, .slice au r.2.2.length cu] 62)).trans (hb3.mono (by have := HB.out.size; simp; omega)))
        have S3 := hide_it ((HS.out.later (al_below wr (.cells #[.int .i64 r.1, .int .i64 r.2.1, .slice au r.2.2.length cu] 62)) hsl).later hb3 (by simp; omega))
        have Z3 := hide_it ((HZ.out.later (al_below wr (.cells #[.int .i64 r.1, .int .i64 r.2.1, .slice au r.2.2.length cu] 62)) hzl).later hb3 (by simp; omega))
        have hb13 : w.heap.size ≠ w1.heap.size := by omega
        have S4 := hide_it (S3.out.set (.int .i64 room) (.slice a3 6 c3))
        have Z4 := hide_it (Z3.out.other hb13 (.int .i64 room) (.slice a3 6 c3))
        rw [World.size_alloc] at ho3
        have O4 := hide_it (ownsRow_base (base' := w.heap.size + 1) (ownsRow_setCell_below (a := ⟨w1.heap.size, 1, none⟩) (ownsRow_setCell_below (a := ⟨w1.heap.size, 0, none⟩) ho3 (by simp; omega) (.int .i64 room)) (by simp; omega) (.slice a3 6 c3)) (by omega))
        clear ho3 hb3 s0 s1 s2 s3 z0 z1 z2 z3 sa0 sa1 c0 c1' c2 hd hl6 eH eR
        obtain ⟨s0, s1, s2, s3⟩ := S3.out.cells
        go_wp2
        go_roundw
        case rel => exact ⟨k + 1, hk', a3, c3, by omega, by go_num, HRU3, HOK3, S4, Z4, O4, (B3.out.setCell (by simp; omega) _).setCell (by simp; omega) _⟩
        case measure => simp [intOf]; omega
    · have HE : Hid (OO = some hk) := by
        show _ = _
        have hke : k = rs.length := by omega
        rw [← HRU.out, hke, List.drop_length]
        rfl
      go_wp2
      rw [HE.out]
      refine bodyPost_ret (v := .tuple #[.agg #[.int .i64 room, .slice ak 6 ck], .bool true]) (by simp [results, Tryd.results10, go_sem, z0, z1]) rfl ⟨ak, ck, ?_, ?_, ?_⟩
      · show _ = _
        simp only [oR, oH, Option.getD_some, Option.isSome_some, P3.out]
      · simp only [oH, Option.getD_some, P3.out]
        exact ownsRow_base (ownsRow_setCell_below (ownsRow_setCell_below HO.out (by simp) _) (by simp) _) (by omega)
      · exact (HB.out.setCell (by simp) _).setCell (by simp) _

end Go.Proofs.YtgeagfglkgpoiaaDoor

namespace Go.Proofs.YtgeagfglkgpoiaaDoor
open Go.RowKit

theorem hOO_no {room : Int} {r : R} {t : List R} {hk : List Pl.H} (h : Pl.behind room hk r.1 r.2.1 r.2.2 = none) : Pl.sRun room (r :: t) hk = none :=
  sRun_no room r t hk (by unfold Pl.sDo; rw [h]; rfl)
theorem hOO_yes {room : Int} {r : R} {t : List R} {hk : List Pl.H} {h' : Pl.H} (h : Pl.behind room hk r.1 r.2.1 r.2.2 = some h') : Pl.sRun room (r :: t) hk = Pl.sRun room t (hk.set (Pl.at_ r.2.1) h') :=
  sRun_yes room r t hk _ (by unfold Pl.sDo; rw [h]; rfl)

set_option maxRecDepth 100000 in
set_option maxHeartbeats 8000000 in
theorem l2Of_any (room : Int) (v : Value) (rs : List R) (w : World) (hv : Recs w v rs) (hl : tot rs ≤ 1048576) :
    Calls Tryd.prog 28 #[.int .i64 room, v] w fun e w' => StOut w w' e (oR room (Pl.sOf room rs)) (oH (Pl.sOf room rs)) (Pl.sOf room rs).isSome := by
  have hlen := tot_len rs
  have HM : Hid (∀ r ∈ rs, r.2.2.length ≤ 1048576) := fun r hr => Nat.le_trans (tot_mem rs r hr) hl
  have HN := hide_it (specNew_any room)
  cases hr : Pl.inB room 0 9
  · rw [sOf_no rs hr]
    have HN0 : ∀ W, Calls Tryd.prog 44 #[.int .i64 room] W fun e w' => StOut W w' e 0 [] false := fun W => by
      have := HN.out W
      rw [newO_no hr] at this
      exact this
    have HN1 := hide_it HN0
    clear HN0 HN
    obtain ⟨ao, cap, rfl⟩ := hv.shape
    clear hv
    go_enter Tryd.func28, Tryd.ntmps28
    go_wp2_with fail
    refine (HN1.out _).mono ?_
    rintro e w1 ⟨a1, c1, rfl, ho1, hb1⟩
    have Z1 := hide_it ((SB.new w (.int .i64 0) (.slice none 0 0)).later hb1 (by simp))
    have B1 := hide_it ((al_below w _).trans (hb1.mono (by simp)))
    have hz1 := Z1.out.lt
    obtain ⟨z0, z1, z2, z3⟩ := Z1.out.cells
    have ZS := Z1.out.set (.int .i64 0) (.slice none 0 0)
    have ZT := ZS.later (al_below _ (.cells #[.int .i64 0, .slice a1 0 c1] 32)) ZS.lt
    have HZT := hide_it ZT.cells
    clear ho1 hb1 ZS ZT
    go_wp2
    obtain ⟨t0, t1, _, _⟩ := HZT.out
    refine bodyPost_ret (v := .tuple #[.agg #[.int .i64 0, .slice none 0 0], .bool false]) (by simp [results, Tryd.results28, go_sem, t0, t1]) rfl ?_
    exact StOut.none_ (((B1.out.setCell (by simp) _).setCell (by simp) _).alloc (by simp; exact B1.out.size) _)
  rw [sOf_yes rs hr]
  have HN0 : ∀ W, Calls Tryd.prog 44 #[.int .i64 room] W fun e w' => StOut W w' e room Pl.noHolds true := fun W => by
    have := HN.out W
    rw [newO_yes hr] at this
    exact this
  have HN1 := hide_it HN0
  clear HN0 HN
  obtain ⟨OO, hOO⟩ : ∃ o, Pl.sRun room rs Pl.noHolds = o := ⟨_, rfl⟩
  rw [hOO]
  have HOO := hide_it hOO
  have HR := hide_it hr
  have HC : Hid (∀ W, Below w.heap.size w W → ∀ i r, rs[i]? = some r → ∃ b off cap u, v = .slice (some ⟨b, off, none⟩) rs.length cap ∧ RecCells W b (off + i * 3) r u ∧ b < w.heap.size) := fun W h i r hri => by
    rcases hv with ⟨rfl, _⟩ | ⟨b, off, cap, hvv, _, hc⟩
    · simp at hri
    · obtain ⟨u, hu⟩ := hc i r hri
      exact ⟨b, off, cap, u, hvv, hu.later h (Nat.le_refl _), by simpa using World.block_lt_of_cell? _ _ hu.1⟩
  obtain ⟨av, cv, rfl⟩ := hv.shape
  clear hv hOO hr
  go_enter Tryd.func28, Tryd.ntmps28
  go_wp2_with fail
  refine (HN1.out _).mono ?_
  rintro e w1 ⟨a1, c1, rfl, ho1, hb1⟩
  have n6 : Pl.noHolds.length = 6 := rfl
  rw [n6] at ho1 ⊢
  obtain ⟨g, cg, hvg⟩ := row_g ho1 (by decide)
  rw [hvg] at ho1 ⊢
  have Z1 := hide_it ((SB.new w (.int .i64 0) (.slice none 0 0)).later hb1 (by simp))
  have B1 := hide_it ((al_below w _).trans (hb1.mono (by simp)))
  have hz1 := Z1.out.lt
  have ho1' : w1.ownsRow (w.heap.size + 1) 56 2 (.slice (some ⟨g, 0, none⟩) 6 cg) 6 (hflat Pl.noHolds) := by
    have h := ho1
    rw [World.size_alloc] at h
    exact h
  have hgl := ho1'.lt g rfl
  have O1 := hide_it (ho1'.alloc (.cells #[.int .i64 room, .slice (some ⟨g, 0, none⟩) 6 cg] 32))
  have Z2 := hide_it (Z1.out.later (al_below w1 (.cells #[.int .i64 room, .slice (some ⟨g, 0, none⟩) 6 cg] 32)) hz1)
  have S2 := hide_it (SB.new w1 (.int .i64 room) (.slice (some ⟨g, 0, none⟩) 6 cg))
  have B2 := hide_it (B1.out.alloc B1.out.size (.cells #[.int .i64 room, .slice (some ⟨g, 0, none⟩) 6 cg] 32))
  clear ho1 ho1' hb1 hvg
  go_wp2_with fail
  go_loopw [8] (fun i wr => ∃ (k : Nat) (hk : List Pl.H), k ≤ rs.length ∧ i = .int .i64 k ∧ Hid (Pl.sRun room (rs.drop k) hk = OO) ∧ Hid (Pl.sOk room hk = true) ∧ Hid (SB wr w1.heap.size (.int .i64 room) (.slice (some ⟨g, 0, none⟩) 6 cg)) ∧ Hid (SB wr w.heap.size (.int .i64 0) (.slice none 0 0)) ∧ Hid (wr.ownsRow (w.heap.size + 1) 56 2 (.slice (some ⟨g, 0, none⟩) 6 cg) 6 (hflat hk)) ∧ Hid (Below w.heap.size w wr)) (fun i _ => rs.length - (intOf i).toNat)
  case atStart => exact ⟨0, Pl.noHolds, Nat.zero_le _, rfl, HOO, Pl.new_ok room HR.out, S2, Z2, O1, B2⟩
  case round =>
    obtain ⟨k, hk, hkl, rfl, HRU, HOK, HS, HZ, HO, HB⟩ := hrel
    have P3 : Hid (hk.length = 6) := (Pl.sOk_parts HOK.out).2.2.1
    obtain ⟨s0, s1, s2, s3⟩ := HS.out.cells
    obtain ⟨z0, z1, z2, z3⟩ := HZ.out.cells
    have hsl := HS.out.lt
    have hzl := HZ.out.lt
    by_cases hlt : k < rs.length
    · obtain ⟨r, hri⟩ : ∃ r, Hid (rs[k]? = some r) := ⟨rs[k], by show _ = _; simp [hlt]⟩
      have hrl : r.2.2.length ≤ 1048576 := HM.out r (List.mem_of_getElem? hri.out)
      obtain ⟨b, off, cap, u, hvv, ⟨c0, c1', c2, hI⟩, hbw⟩ := HC.out wr HB.out k r hri.out
      simp only [Value.slice.injEq] at hvv
      obtain ⟨rfl, -, rfl⟩ := hvv
      obtain ⟨au, cu, hus⟩ := hI.shape
      subst hus
      have HI : Hid (∀ W, Below wr.heap.size wr W → Ints W (.slice au r.2.2.length cu) r.2.2) := fun W h => hI.later h (Nat.le_refl _)
      have HH : Hid (∀ W, Below wr.heap.size wr W → Holds W (.slice (some ⟨g, 0, none⟩) 6 cg) hk) := fun W h => by
        have h6 := HO.out
        rw [← P3.out] at h6
        have := (holds_of_row h6).later h (Nat.le_refl _)
        rw [P3.out] at this
        exact this
      have HRC : Hid (∀ W, Below wr.heap.size wr W → W.cell? ⟨b, off + k * 3, none⟩ = some (.int .i64 r.1) ∧ W.cell? ⟨b, off + k * 3 + 1, none⟩ = some (.int .i64 r.2.1) ∧ W.cell? ⟨b, off + k * 3 + 2, none⟩ = some (.slice au r.2.2.length cu)) := fun W h => by
        have hbr : b < wr.heap.size := Nat.lt_of_lt_of_le hbw HB.out.size
        exact ⟨(h.cell (p := ⟨b, off + k * 3, none⟩) hbr).trans c0, (h.cell (p := ⟨b, off + k * 3 + 1, none⟩) hbr).trans c1', (h.cell (p := ⟨b, off + k * 3 + 2, none⟩) hbr).trans c2⟩
      have HRU2 := hide_it HRU.out
      rw [drop_at hri.out] at HRU2
      have hkI : (k : Int) < (rs.length : Int) := by omega
      clear hI
      obtain ⟨o, ho⟩ : ∃ o, Pl.behind room hk r.1 r.2.1 r.2.2 = o := ⟨_, rfl⟩
      have HO2 := hide_it ho
      clear ho
      go_wp2_with fail
      go_cut [37] (fun b W => b = .bool (!o.isSome) ∧ Hid (Below wr.heap.size wr W))
      case first =>
        cases hrec : Pl.recOk r.1 r.2.1 r.2.2
        · have hon : o = none := by rw [← HO2.out]; exact Pl.behind_rec room hk hrec
          subst hon
          first | (go_region_with (go_at_call 45; refine (specOk_any r.1 r.2.1 _ r.2.2 _ (HI.out _ (Below.refl _ _).drew) hrl).mono ?_; rintro e w3 ⟨rfl, hb3⟩; rw [hrec]; have N3 := hide_it ((Below.refl wr.heap.size wr).drew.trans hb3); obtain ⟨d0, d1, d2⟩ := HRC.out _ N3.out; clear hb3)) | fail
          all_goals
            go_wp2_with fail
            go_meet
            case rel => exact ⟨rfl, N3⟩
        · have HMAY : Hid (∀ W, Below wr.heap.size wr W → Calls Tryd.prog 46 #[.agg #[.int .i64 room, .slice (some ⟨g, 0, none⟩) 6 cg], .agg #[.int .i64 r.1, .int .i64 r.2.1, .slice au r.2.2.length cu]] W fun e w' => e = .returned (.bool o.isSome) ∧ Below W.heap.size W w') := fun W h => by
            have := l2May_any room _ hk r.1 r.2.1 _ r.2.2 W (HH.out W h) (HI.out W h) HOK.out hrec
            rw [← Pl.behind_ok HOK.out hrec, HO2.out] at this
            exact this
          first | (go_region_with (first
            | (go_at_call 45; refine (specOk_any r.1 r.2.1 _ r.2.2 _ (HI.out _ (Below.refl _ _).drew) hrl).mono ?_; rintro e w3 ⟨rfl, hb3⟩; rw [hrec]; have N3 := hide_it ((Below.refl wr.heap.size wr).drew.trans hb3); obtain ⟨d0, d1, d2⟩ := HRC.out _ N3.out; have S3 := hide_it (HS.out.later N3.out hsl); obtain ⟨e0, e1, _, _⟩ := S3.out.cells; clear hb3)
            | (go_at_call 46; refine (HMAY.out _ N3.out).mono ?_; rintro e w4 ⟨rfl, hb4⟩; have N4 := hide_it (N3.out.trans (hb4.mono N3.out.size)); clear hb4))) | fail
          all_goals
            go_wp2_with fail
            go_meet
            case rel => exact ⟨by first | rfl | simp, N4⟩
      case rest =>
        obtain ⟨rfl, N4⟩ := hcut
        have S4 := hide_it (HS.out.later N4.out hsl)
        have Z4 := hide_it (HZ.out.later N4.out hzl)
        have O4 := hide_it (ownsRow_below HO.out N4.out (fun j hj => (HO.out.lt j hj).2))
        have B4 := hide_it (HB.out.trans (N4.out.mono HB.out.size))
        have hsl4 := S4.out.lt
        have hzl4 := Z4.out.lt
        clear s0 s1 s2 s3 z0 z1 z2 z3 c0 c1' c2
        obtain ⟨s0, s1, s2, s3⟩ := S4.out.cells
        obtain ⟨z0, z1, z2, z3⟩ := Z4.out.cells
        obtain ⟨c0, c1', c2⟩ := HRC.out _ N4.out
        cases o with
        | none =>
          have HE : Hid (OO = none) := by show _ = _; rw [← HRU2.out]; exact hOO_no HO2.out
          go_wp2
          rw [HE.out]
          refine bodyPost_ret (v := .tuple #[.agg #[.int .i64 0, .slice none 0 0], .bool false]) (by simp [results, Tryd.results28, go_sem, z0, z1]) rfl ?_
          exact StOut.none_ ((B4.out.setCell (by simp) _).setCell (by simp) _)
        | some h' =>
          have HRU3 : Hid (Pl.sRun room (rs.drop (k + 1)) (hk.set (Pl.at_ r.2.1) h') = OO) := by show _ = _; rw [← HRU2.out]; exact (hOO_yes HO2.out).symm
          have HOK3 : Hid (Pl.sOk room (hk.set (Pl.at_ r.2.1) h') = true) := Pl.behind_keeps HO2.out
          go_wp2_with fail
          first | (go_region_held (fun w' => w'.cell? ⟨w1.heap.size, 0, none⟩ = some (.int .i64 room) ∧ w'.cell? ⟨w1.heap.size, 1, none⟩ = some (.slice (some ⟨g, 0, none⟩) 6 cg) ∧ w'.cell? ⟨b, off + k * 3, none⟩ = some (.int .i64 r.1) ∧ w'.cell? ⟨b, off + k * 3 + 1, none⟩ = some (.int .i64 r.2.1) ∧ w'.cell? ⟨b, off + k * 3 + 2, none⟩ = some (.slice au r.2.2.length cu)) (first | (go_keep; done) | exact KP.out)
            ((go_at_call 47; refine (l2Do_any room g cg _ hk r.1 r.2.1 _ r.2.2 h' _ (ownsRow_below O4.out (Below.refl _ _).drew (fun j hj => (O4.out.lt j hj).2)) (HI.out _ N4.out.drew) HO2.out).mono ?_; rintro e w5 ⟨rfl, ho5, hM5⟩; have hM5' := hide_it ((Mid.of_below (Below.refl wc.heap.size wc).drew (Nat.le_refl _)).trans hM5); have E5 := hide_it (hM5'.out.below (B := w.heap.size) (by omega) B4.out.size); have S5 := hide_it (S4.out.mid hM5'.out (Or.inr (by omega))); have Z5 := hide_it (Z4.out.mid hM5'.out (Or.inl (by omega))); have B5 := hide_it (B4.out.trans E5.out); obtain ⟨x0, x1, x2, x3⟩ := S5.out.cells; have y0 := (E5.out.cell (p := ⟨b, off + k * 3, none⟩) hbw).trans c0; have y1 := (E5.out.cell (p := ⟨b, off + k * 3 + 1, none⟩) hbw).trans c1'; have y2 := (E5.out.cell (p := ⟨b, off + k * 3 + 2, none⟩) hbw).trans c2; have S6 := hide_it (S5.out.set (.int .i64 room) (.slice (some ⟨g, 0, none⟩) 6 cg)); have Z6 := hide_it (Z5.out.other (c := w1.heap.size) (by omega) (.int .i64 room) (.slice (some ⟨g, 0, none⟩) 6 cg)); have O6 := hide_it (ownsRow_mid (ownsRow_mid ho5 (setCell_mid _ w1.heap.size 0 (.int .i64 room)) (fun j hj => by simp [Value.ownBlock] at hj; omega)) (setCell_mid _ w1.heap.size 1 (.slice (some ⟨g, 0, none⟩) 6 cg)) (fun j hj => by simp [Value.ownBlock] at hj; omega)); have KP := hide_it (And.intro S6.out.cells.1 (And.intro S6.out.cells.2.1 (And.intro ((two_set_cells w5 w1.heap.size (.int .i64 room) (.slice (some ⟨g, 0, none⟩) 6 cg) b (off + k * 3) (by omega)).trans y0) (And.intro ((two_set_cells w5 w1.heap.size (.int .i64 room) (.slice (some ⟨g, 0, none⟩) 6 cg) b (off + k * 3 + 1) (by omega)).trans y1) ((two_set_cells w5 w1.heap.size (.int .i64 room) (.slice (some ⟨g, 0, none⟩) 6 cg) b (off + k * 3 + 2) (by omega)).trans y2))))); clear ho5 hM5))) | fail
          go_wp2
          go_roundw
          case rel => exact ⟨k + 1, _, by omega, by go_num, HRU3, HOK3, S6, Z6, O6, (B5.out.setCell (by simp; omega) _).setCell (by simp; omega) _⟩
          case measure => simp [intOf]; omega
    · have HE : Hid (OO = some hk) := by
        show _ = _
        have hke : k = rs.length := by omega
        rw [← HRU.out, hke, List.drop_length]
        rfl
      go_wp2
      rw [HE.out]
      refine bodyPost_ret (v := .tuple #[.agg #[.int .i64 room, .slice (some ⟨g, 0, none⟩) 6 cg], .bool true]) (by simp [results, Tryd.results28, go_sem, z0, z1]) rfl ⟨some ⟨g, 0, none⟩, cg, ?_, ?_, ?_⟩
      · show _ = _
        simp only [oR, oH, Option.getD_some, Option.isSome_some, P3.out]
      · simp only [oH, Option.getD_some, P3.out]
        exact ownsRow_base (ownsRow_setCell_below (ownsRow_setCell_below HO.out (by simp) _) (by simp) _) (by omega)
      · exact (HB.out.setCell (by simp) _).setCell (by simp) _

end Go.Proofs.YtgeagfglkgpoiaaDoor

namespace Go.Proofs.YtgeagfglkgpoiaaDoor

namespace Pl
theorem sRun_snoc (room : Int) (rs : List (Int × Int × List Int)) (r : Int × Int × List Int) (hs : List H) : sRun room (rs ++ [r]) hs = (sRun room rs hs).bind fun h => sDo room h r.1 r.2.1 r.2.2 := by
  induction rs generalizing hs with
  | nil => simp [sRun]; cases sDo room hs r.1 r.2.1 r.2.2 <;> rfl
  | cons x t ih =>
    simp only [List.cons_append, sRun]
    cases sDo room hs x.1 x.2.1 x.2.2 with
    | none => rfl
    | some h => exact ih h
theorem sRun_len {room : Int} : ∀ (rs : List (Int × Int × List Int)) {hs hs' : List H}, sRun room rs hs = some hs' → hs'.length = hs.length
  | [], _, _, h => by simp [sRun] at h; rw [h]
  | r :: t, hs, hs', h => by
    simp only [sRun] at h
    cases e : sDo room hs r.1 r.2.1 r.2.2 with
    | none => rw [e] at h; cases h
    | some h1 => rw [e] at h; rw [sRun_len t h, sDo_len e]
theorem sRun_ok {room : Int} : ∀ (rs : List (Int × Int × List Int)) {hs hs' : List H}, sOk room hs = true → sRun room rs hs = some hs' → sOk room hs' = true
  | [], _, _, h0, h => by simp [sRun] at h; rw [← h]; exact h0
  | r :: t, hs, hs', _, h => by
    simp only [sRun] at h
    cases e : sDo room hs r.1 r.2.1 r.2.2 with
    | none => rw [e] at h; cases h
    | some h1 => rw [e] at h; exact sRun_ok t (sDo_keeps e) h
theorem sRun_take {room : Int} : ∀ (rs : List (Int × Int × List Int)) (n : Nat) {hs hs' : List H}, sRun room rs hs = some hs' → ∃ h1, sRun room (rs.take n) hs = some h1
  | [], n, hs, hs', h => ⟨hs', by simpa using h⟩
  | r :: t, 0, hs, _, _ => ⟨hs, by simp [sRun]⟩
  | r :: t, n + 1, hs, hs', h => by
    simp only [sRun] at h
    simp only [List.take_succ_cons, sRun]
    cases e : sDo room hs r.1 r.2.1 r.2.2 with
    | none => rw [e] at h; cases h
    | some h1 => rw [e] at h; exact sRun_take t n h
theorem sOf_run {room : Int} {rs : List (Int × Int × List Int)} {hs : List H} (h : sOf room rs = some hs) : inB room 0 9 = true ∧ sRun room rs noHolds = some hs := by
  unfold sOf at h
  by_cases hr : inB room 0 9 = true
  · rw [if_pos hr] at h; exact ⟨hr, h⟩
  · rw [if_neg hr] at h; cases h
theorem sOf_ok {room : Int} {rs : List (Int × Int × List Int)} {hs : List H} (h : sOf room rs = some hs) : sOk room hs = true ∧ hs.length = 6 := by
  obtain ⟨h1, h2⟩ := sOf_run h
  exact ⟨sRun_ok rs (new_ok room h1) h2, by rw [sRun_len rs h2]; rfl⟩
theorem sOf_take {room : Int} {rs : List (Int × Int × List Int)} {hs : List H} (n : Nat) (h : sOf room rs = some hs) : ∃ h1, sOf room (rs.take n) = some h1 := by
  obtain ⟨h1, h2⟩ := sOf_run h
  obtain ⟨h3, h4⟩ := sRun_take rs n h2
  exact ⟨h3, by unfold sOf; rw [if_pos h1]; exact h4⟩
theorem sOf_snoc {room : Int} {rs : List (Int × Int × List Int)} {hs : List H} (r : Int × Int × List Int) (h : sOf room rs = some hs) : sOf room (rs ++ [r]) = sDo room hs r.1 r.2.1 r.2.2 := by
  obtain ⟨h1, h2⟩ := sOf_run h
  unfold sOf
  rw [if_pos h1, sRun_snoc, h2]
  rfl
theorem oH_len {room : Int} (rs : List (Int × Int × List Int)) : ((sOf room rs).getD []).length ≤ 6 := by
  cases h : sOf room rs with
  | none => simp
  | some hs => simp [(sOf_ok h).2]
end Pl

end Go.Proofs.YtgeagfglkgpoiaaDoor

namespace Go.Proofs.YtgeagfglkgpoiaaDoor
open Go.RowKit

/-- While records of a house are drawn: the stock's block, its holds, the records so far, the reader. -/
structure StS (w W : World) (b q S : Nat) (room : Int) (u : Value) (hs : List Pl.H) (o : Value) (ps : List (R × Value)) : Prop where
  stk : W.heap[S]? = some (.cells #[.int .i64 room, u] 32 (0, 0))
  new : w.heap.size ≤ S
  hol : W.ownsRow w.heap.size 56 2 u hs.length (hflat hs)
  row : W.ownsRow w.heap.size 62 3 o ps.length (flat ps)
  all : ∀ p ∈ ps, Good W w.heap.size p
  rd : Rd W b q
  mid : Mid b (b + 1) w W
  low : b < w.heap.size

theorem StS.step {w W W' : World} {b q q' S : Nat} {room : Int} {u : Value} {hs : List Pl.H} {o : Value} {ps : List (R × Value)} (h : StS w W b q S room u hs o ps) (hb : Mid b (b + 1) W W') (hr : Rd W' b q') : StS w W' b q' S room u hs o ps :=
  ⟨rowS_mid h.stk hb (by have := h.new; have := h.low; omega), h.new,
    ownsRow_mid h.hol hb (fun k hk => Or.inr (by have := (rowB_at h.hol k hk).1; have := h.low; omega)),
    ownsRow_mid h.row hb (fun k hk => Or.inr (by have := (rowB_at h.row k hk).1; have := h.low; omega)),
    fun p hp => (h.all p hp).step h.rd hb, hr, h.mid.trans hb, h.low⟩
theorem StS.later {w W W' : World} {b q S : Nat} {room : Int} {u : Value} {hs : List Pl.H} {o : Value} {ps : List (R × Value)} (h : StS w W b q S room u hs o ps) (hb : Below W.heap.size W W') : StS w W' b q S room u hs o ps :=
  h.step (Mid.of_below hb (Nat.le_refl _)) (h.rd.later hb (Nat.le_refl _))
theorem StS.cells {w W : World} {b q S : Nat} {room : Int} {u : Value} {hs : List Pl.H} {o : Value} {ps : List (R × Value)} (h : StS w W b q S room u hs o ps) :
    W.cell? ⟨S, 0, none⟩ = some (.int .i64 room) ∧ W.cell? ⟨S, 1, none⟩ = some u ∧ W.frozen? ⟨S, 0, none⟩ = false ∧ W.frozen? ⟨S, 1, none⟩ = false ∧ S < W.heap.size := by
  refine ⟨?_, ?_, frozen_of_row W _ _ _ _ h.stk, frozen_of_row W _ _ _ _ h.stk, heap_lt h.stk⟩
  · rw [cell_of_row W _ _ _ _ _ h.stk]; rfl
  · rw [cell_of_row W _ _ _ _ _ h.stk]; rfl
/-- The stock is given another row of holds. -/
theorem StS.setS {w W : World} {b q S : Nat} {room : Int} {u u' : Value} {hs hs' : List Pl.H} {o : Value} {ps : List (R × Value)} (h : StS w W b q S room u hs o ps) (hu : W.ownsRow w.heap.size 56 2 u' hs'.length (hflat hs')) :
    StS w ((W.setCell ⟨S, 0, none⟩ (.int .i64 room)).setCell ⟨S, 1, none⟩ u') b q S room u' hs' o ps := by
  have hn := h.new
  have hl := h.low
  have s1 := heap_setCell_same W S 0 _ _ (.int .i64 room) h.stk
  have s2 := heap_setCell_same (W.setCell ⟨S, 0, none⟩ (.int .i64 room)) S 1 _ _ u' s1
  have a1 : ∀ {e : TypeId} {size : Nat} {v : Value} {n : Nat} {xs : List Value}, e ≠ 32 → W.ownsRow w.heap.size e size v n xs → ((W.setCell ⟨S, 0, none⟩ (.int .i64 room)).setCell ⟨S, 1, none⟩ u').ownsRow w.heap.size e size v n xs := fun he hr =>
    ownsRow_setCell_ne (ownsRow_setCell_ne hr (fun g hg => by obtain ⟨cs, hh⟩ := (rowB_at hr g hg).2; exact ne_of_type hh h.stk he) _) (fun g hg => by obtain ⟨cs, hh⟩ := (rowB_at hr g hg).2; exact ne_of_type hh h.stk he) _
  refine ⟨by rw [s2]; simp, hn, a1 (by decide) hu, a1 (by decide) h.row, ?_, (h.rd.setApart (by omega) _).setApart (by omega) _, (h.mid.setNew (by omega) _).setNew (by omega) _, hl⟩
  intro p hp
  exact ((h.all p hp).keep fun g cs hh => Below.heap_setCell _ _ _ _ (ne_of_type hh h.stk (by decide))).keep fun g cs hh => Below.heap_setCell _ _ _ _ (ne_of_type hh s1 (by decide))
/-- One record more. -/
theorem StS.push {w W w4 : World} {b q S : Nat} {room : Int} {u : Value} {hs : List Pl.H} {o o' : Value} {ps : List (R × Value)} {r : R} {x : Value} (h : StS w W b q S room u hs o ps) (hg : Good W w.heap.size (r, x))
    (hown : w4.ownsRow w.heap.size 62 3 o' (ps.length + 1) (flat ps ++ [.int .i64 r.1, .int .i64 r.2.1, x])) (hgr : W.grownBy w4 o.ownBlock) : StS w w4 b q S room u hs o' (ps ++ [(r, x)]) := by
  have hn := h.new
  have hl := h.low
  have hblk : ∀ k, k < W.heap.size → (∀ cs, W.heap[k]? ≠ some (.cells cs 62 (0, 0))) → w4.heap[k]? = W.heap[k]? := fun k hk hn => hgr.block k hk (fun e => by
    obtain ⟨cs, hh⟩ := (rowB_at h.row k e.symm).2
    exact hn cs hh)
  have hlow : ∀ k, k < w.heap.size → w4.heap[k]? = W.heap[k]? := fun k hk => hgr.block k (by have := heap_lt h.stk; omega) (fun e => by have := (rowB_at h.row k e.symm).1; omega)
  have hrd : Rd w4 b q := by
    obtain ⟨y, n, hn, h1, h2⟩ := h.rd
    exact ⟨y, n, hn, by rw [hlow b hl]; exact h1, h2.mid (fun k hk => hlow k (by omega))⟩
  have hmid : Mid b (b + 1) w w4 := ⟨hgr.os.trans h.mid.os, hgr.tape.trans h.mid.tape, hgr.output.trans h.mid.output, Nat.le_trans h.mid.size hgr.size, fun k hk hh => (hlow k hk).trans (h.mid.block k hk hh)⟩
  refine ⟨by rw [hblk S (heap_lt h.stk) (fun cs e => by rw [h.stk] at e; simp at e)]; exact h.stk, hn, ?_, ?_, ?_, hrd, hmid, hl⟩
  · obtain ⟨h1, h2⟩ := h.hol
    refine ⟨h1, ?_⟩
    rcases h2 with h2 | ⟨g, cap, cur, hv, hg, hh, r⟩
    · exact Or.inl h2
    · exact Or.inr ⟨g, cap, cur, hv, hg, by rw [hblk g (heap_lt hh) (fun cs e => by rw [hh] at e; simp at e)]; exact hh, r⟩
  · rw [flat_append, List.length_append]; exact hown
  · intro p hp
    have hgood : Good W w.heap.size p := by
      rcases List.mem_append.1 hp with hp | hp
      · exact h.all p hp
      · simp at hp; subst hp; exact hg
    exact hgood.keep fun g cs hh => hblk g (heap_lt hh) (fun cs' e => by rw [hh] at e; simp at e)

end Go.Proofs.YtgeagfglkgpoiaaDoor

namespace Go.Proofs.YtgeagfglkgpoiaaDoor
open Go.RowKit

/-- What comes out of the draw: a room, and records that a stock of that room takes, in memory of the draw's own. -/
def RecsGot (w w' : World) (e : Ending) (b p : Nat) : Prop :=
  ∃ (room : Int) (o : Value) (ps : List (R × Value)) (hs : List Pl.H) (q : Nat), e = .returned (.tuple #[.int .i64 room, o]) ∧ 0 ≤ room ∧ room ≤ 7 ∧ ps.length ≤ 13 ∧
    w'.ownsRow w.heap.size 62 3 o ps.length (flat ps) ∧ (∀ x ∈ ps, Good w' w.heap.size x) ∧ Pl.sRun room (ps.map (·.1)) Pl.noHolds = some hs ∧ q ≤ p + 60 ∧ Rd w' b q ∧ Mid b (b + 1) w w'

theorem oH_some (hs : List Pl.H) : oH (some hs) = hs := rfl
theorem new_some {room : Int} (h0 : 0 ≤ room) (h7 : room ≤ 7) : newO room = some Pl.noHolds := by simp [newO, Pl.inB_mk h0 (show room ≤ 9 by omega)]

/-- A store into the record's own block leaves all else. -/
theorem StS.setX {w W : World} {b q S X i : Nat} {cs : Array Value} {room : Int} {u : Value} {hs : List Pl.H} {o : Value} {ps : List (R × Value)} (h : StS w W b q S room u hs o ps) (hX : W.heap[X]? = some (.cells cs 62 (0, 0))) (hw : w.heap.size ≤ X) (hO : ∀ g, o.ownBlock = some g → g < X) (x : Value) : StS w (W.setCell ⟨X, i, none⟩ x) b q S room u hs o ps := by
  have hl := h.low
  refine ⟨by rw [Below.heap_setCell _ _ _ _ (ne_of_type h.stk hX (by decide))]; exact h.stk, h.new, ?_, ?_, ?_, h.rd.setApart (by omega) _, h.mid.setNew hw _, hl⟩
  · exact ownsRow_setCell_ne h.hol (fun g hg => by obtain ⟨cs, hh⟩ := (rowB_at h.hol g hg).2; exact ne_of_type hh hX (by decide)) _
  · exact ownsRow_setCell_ne h.row (fun g hg => by have := hO g hg; simp; omega) _
  · exact fun p hp => (h.all p hp).keep fun g cs hh => Below.heap_setCell _ _ _ _ (ne_of_type hh hX (by decide))

theorem StS.ob {w W : World} {b q S : Nat} {room : Int} {u : Value} {hs : List Pl.H} {o : Value} {ps : List (R × Value)} (h : StS w W b q S room u hs o ps) : ∀ g, o.ownBlock = some g → g < W.heap.size := fun g hg => by
  obtain ⟨cs, hh⟩ := (rowB_at h.row g hg).2; exact heap_lt hh

set_option maxRecDepth 100000 in
set_option maxHeartbeats 8000000 in
theorem recs_draw (b p : Nat) (w : World) (h : Rd w b p) (hp : p ≤ 700000) :
    Calls Tryd.prog 42 #[.pointer (some ⟨b, 0, none⟩)] w fun e w' => RecsGot w w' e b p := by
  obtain ⟨i0, hi, hz0, hz1, hz2⟩ := info_parts infoRec
  have hblt := h.lt
  have R0 := hide_it h
  clear h
  go_enter Tryd.func42, Tryd.ntmps42
  go_wp2_with fail
  refine (pick_any b p 8 _ R0.out (by omega) (by omega) (by omega)).mono ?_
  rintro e w1 ⟨room, rfl, lr, ur, r1, m1⟩
  have R1 := hide_it r1
  have M1 := hide_it m1
  clear r1 m1
  have HNW : Hid (∀ W, Calls Tryd.prog 44 #[.int .i64 room] W fun e w' => StOut W w' e room Pl.noHolds true) := fun W => by
    have := specNew_any room W
    rw [new_some lr (by omega)] at this
    exact this
  go_wp2_with fail
  refine (HNW.out _).mono ?_
  rintro e w3 ⟨ao, cap, rfl, ho3, hb3⟩
  have e6 : Pl.noHolds.length = 6 := rfl
  rw [e6] at ho3 ⊢
  clear e6
  obtain ⟨G, hG⟩ : ∃ G, Hid (G = w1.heap.size) := ⟨_, rfl⟩
  obtain ⟨S, hS⟩ : ∃ S, Hid (S = w3.heap.size) := ⟨_, rfl⟩
  obtain ⟨w4, hw4⟩ : ∃ W, Hid (W = w3.alloc (.cells #[.int .i64 room, .slice ao 6 cap] 32)) := ⟨_, rfl⟩
  have T4 : Hid (StS w w4 b (p + 1) S room (.slice ao 6 cap) Pl.noHolds (.slice (some ⟨G, 0, none⟩) 0 0) []) := by
    show StS _ _ _ _ _ _ _ _ _ _
    have hs1 : w.heap.size ≤ w1.heap.size := M1.out.size
    have hs3 := hb3.size
    simp at hs3
    have hg3 : w3.heap[G]? = some (.cells #[] 62 (0, 0)) := by rw [hG.out]; exact rowS_later (heap_alloc_new w1 _) hb3 (Nat.le_refl _)
    rw [hw4.out, hS.out]
    have al := alloc_below w3 (.cells #[.int .i64 room, .slice ao 6 cap] 32)
    refine ⟨heap_alloc_new _ _, by omega, ?_, ?_, (fun x hx => (by cases hx)), ?_, ?_, hblt⟩
    · exact ownsRow_below (ownsRow_lower ho3 (by simp; omega)) al (fun k hk => (ho3.lt k hk).2)
    · exact row_empty _ _ _ (rowS_later hg3 al (Nat.le_refl _)) (by rw [hG.out]; exact hs1)
    · exact ((R1.out.alloc _).later hb3 (Nat.le_refl _)).later al (Nat.le_refl _)
    · exact ((M1.out.alloc _).trans (Mid.of_below hb3 (Nat.le_refl _))).alloc _
  clear ho3 hb3 R0 R1 M1 HNW
  go_wp2_with fail
  rw [← hw4.out, ← hG.out, ← hS.out]
  refine (pick_any b (p + 1) 14 _ T4.out.rd (by omega) (by omega) (by omega)).mono ?_
  rintro e w5 ⟨n, rfl, ln, un, r5, m5⟩
  have T5 := hide_it (T4.out.step m5 r5)
  clear r5 m5 T4 hw4 hG hS
  obtain ⟨N, rfl⟩ := Int.eq_ofNat_of_zero_le ln
  go_wp2_with fail
  go_loopw [5, 8] (fun o i W => ∃ (m q : Nat) (u : Value) (hs : List Pl.H) (ps : List (R × Value)), i = .int .i64 m ∧ ps.length + m ≤ 13 ∧ p ≤ q ∧ q + 3 * m ≤ p + 2 + 3 * 13 ∧ Hid (StS w W b q S room u hs o ps) ∧ Hid (Pl.sRun room (ps.map (·.1)) Pl.noHolds = some hs)) (fun _ i _ => (intOf i).toNat)
  case atStart => exact ⟨N, p + 1 + 1, _, _, [], rfl, by simp; omega, by omega, by omega, T5, rfl⟩
  case round =>
    obtain ⟨m, q, u, hs, ps, rfl, hm, hq0, hq1, HS, HR⟩ := hrel
    by_cases hlt : 0 < m
    · have hlen : Hid (hs.length = 6) := by show _ = _; rw [Pl.sRun_len _ HR.out]; rfl
      go_wp2_with fail
      refine (pick_any b q 3 _ HS.out.rd (by omega) (by omega) (by omega)).mono ?_
      rintro e w6 ⟨k0, rfl, lk, uk, r6, m6⟩
      have S6 := hide_it (HS.out.step m6 r6)
      clear r6 m6 HS
      go_wp2_with fail
      refine (pick_any b (q + 1) 6 _ S6.out.rd (by omega) (by omega) (by omega)).mono ?_
      rintro e w7 ⟨t0, rfl, lt, ut, r7, m7⟩
      have S7 := hide_it (S6.out.step m7 r7)
      clear r7 m7 S6
      obtain ⟨Z, hZ⟩ : ∃ Z, Hid (Z = w7.heap.size) := ⟨_, rfl⟩
      have hw7 : w.heap.size ≤ w7.heap.size := S7.out.mid.size
      obtain ⟨au, cu, hus⟩ := row_shape S7.out.hol
      subst hus
      obtain ⟨ao5, co5, ho5⟩ := row_shape S7.out.row
      subst ho5
      have hwX : w.heap.size ≤ (Z + 1) := by rw [hZ.out]; omega
      have OB := hide_it (fun g hg => Nat.lt_trans (S7.out.ob g hg) (show w7.heap.size < (Z + 1) by rw [hZ.out]; omega))
      by_cases hk0 : k0 = 0
      · subst hk0
        obtain ⟨w8, hw8⟩ : ∃ W, Hid (W = (w7.alloc (.cells #[] 3)).alloc (.cells #[.int .i64 1, .int .i64 (1 + t0), .slice (some ⟨Z, 0, none⟩) 0 0] 62)) := ⟨_, rfl⟩
        have S8 : Hid (StS w w8 b (q + 2) S room (.slice au hs.length cu) hs (.slice ao5 ps.length co5) ps) := by show StS _ _ _ _ _ _ _ _ _ _; rw [hw8.out]; exact (S7.out.later (alloc_below _ _)).later (alloc_below _ _)
        have R8 : Hid (w8.heap[Z + 1]? = some (.cells #[.int .i64 1, .int .i64 (1 + t0), .slice (some ⟨Z, 0, none⟩) 0 0] 62 (0, 0))) := by
          show _ = _
          have := heap_alloc_new (w7.alloc (.cells #[] 3)) (.cells #[.int .i64 1, .int .i64 (1 + t0), .slice (some ⟨Z, 0, none⟩) 0 0] 62)
          rw [World.size_alloc] at this
          rw [hw8.out, hZ.out]; rw [hZ.out] at this; exact this
        clear S7
        go_wp2_with fail
        rw [← hZ.out, ← hw8.out]
        refine (pick_any b (q + 2) 3 _ S8.out.rd (by omega) (by omega) (by omega)).mono ?_
        rintro e w11 ⟨z, rfl, lz, uz, r11, m11⟩
        have S11 := hide_it (S8.out.step m11 r11)
        have R11 := hide_it (rowS_mid R8.out m11 (by omega))
        obtain ⟨Y, hY⟩ : ∃ Y, Hid (Y = w11.heap.size) := ⟨_, rfl⟩
        obtain ⟨V, hV⟩ : ∃ W, Hid (W = (w11.setCell ⟨Z + 1, 2, none⟩ (.slice (some ⟨Y, 0, none⟩) 1 1)).alloc (.cells #[.int .i64 (1 + z)] 3)) := ⟨_, rfl⟩
        have SX : Hid (StS w V b (q + 3) S room (.slice au hs.length cu) hs (.slice ao5 ps.length co5) ps) := by show StS _ _ _ _ _ _ _ _ _ _; rw [hV.out]; exact (S11.out.setX R11.out hwX OB.out _).later (alloc_below _ _)
        have RX : Hid (V.heap[Z + 1]? = some (.cells #[.int .i64 1, .int .i64 (1 + t0), .slice (some ⟨Y, 0, none⟩) 1 1] 62 (0, 0))) := by
          show _ = _
          rw [hV.out]
          exact rowS_later (by rw [heap_setCell_same w11 (Z + 1) 2 _ _ _ R11.out]; rfl) (alloc_below _ _) (Nat.le_refl _)
        have FX : Hid (Fresh V w.heap.size (.slice (some ⟨Y, 0, none⟩) 1 1) [1 + z] 1) := by
          show Fresh _ _ _ _ _
          have := fresh1 (w11.setCell ⟨Z + 1, 2, none⟩ (.slice (some ⟨Y, 0, none⟩) 1 1)) w.heap.size (1 + z) (by have := S11.out.mid.size; simp; omega)
          rw [World.size_setCell, ← hY.out] at this
          rw [hV.out]; exact this
        obtain ⟨y0, y1, yf2⟩ : w11.cell? ⟨Z + 1, 0, none⟩ = some (.int .i64 1) ∧ w11.cell? ⟨Z + 1, 1, none⟩ = some (.int .i64 (1 + t0)) ∧ w11.frozen? ⟨Z + 1, 2, none⟩ = false := ⟨by rw [cell_of_row w11 _ _ _ _ _ R11.out]; rfl, by rw [cell_of_row w11 _ _ _ _ _ R11.out]; rfl, frozen_of_row w11 _ _ _ _ R11.out⟩
        have y2 : w11.cell? ⟨Z + 1, 2, none⟩ = some (.slice (some ⟨Z, 0, none⟩) 0 0) := by rw [cell_of_row w11 _ _ _ _ _ R11.out]; rfl
        have yl := heap_lt R11.out
        obtain ⟨s0, s1, sf0, sf1, sl⟩ := S11.out.cells
        have hXS : Z + 1 ≠ S := ne_of_type R11.out S11.out.stk (by decide)
        have hSX : S ≠ Z + 1 := fun e => hXS e.symm
        clear r11 m11 S8 R8 hw8
        have hwV : w.heap.size ≤ V.heap.size := SX.out.mid.size
        have HDO := hide_it (specDo_any room (.slice au hs.length cu) hs (1) (1 + t0) (.slice (some ⟨Y, 0, none⟩) 1 1) ([1 + z]) V (holds_of_row SX.out.hol) (by rw [hlen.out]; omega) FX.out.ints (by simp))
        cases hdo : Pl.sDo room hs (1) (1 + t0) ([1 + z]) with
        | none =>
          rw [hdo] at HDO
          have HDO' : Hid (Calls Tryd.prog 56 #[.agg #[.int .i64 room, .slice au hs.length cu], .agg #[.int .i64 (1), .int .i64 (1 + t0), .slice (some ⟨Y, 0, none⟩) 1 1]] V fun e w' => StOut V w' e 0 [] false) := HDO.out
          clear HDO
          go_wp2_with fail
          rw [← hY.out, ← hV.out]
          refine HDO'.out.mono ?_
          rintro e w9 ⟨a9, c9, rfl, ho9, hb9⟩
          have S9 := hide_it ((SX.out.later hb9).later (alloc_below _ (.cells #[.int .i64 0, .slice a9 0 c9] 32)))
          clear ho9 hb9 s0 s1 sf0 sf1 sl
          go_wp2_with fail
          go_roundw
          case rel => exact ⟨m - 1, _, _, _, ps, by go_num, by omega, by omega, by omega, S9, HR⟩
          case measure => simp [intOf]; omega
        | some hs' =>
          rw [hdo] at HDO
          have HDO' : Hid (Calls Tryd.prog 56 #[.agg #[.int .i64 room, .slice au hs.length cu], .agg #[.int .i64 (1), .int .i64 (1 + t0), .slice (some ⟨Y, 0, none⟩) 1 1]] V fun e w' => StOut V w' e room hs' true) := HDO.out
          have HR' : Hid (Pl.sRun room ((ps ++ [(((1, 1 + t0, [1 + z]) : R), (.slice (some ⟨Y, 0, none⟩) 1 1 : Value))]).map (·.1)) Pl.noHolds = some hs') := by
            show _ = _
            rw [List.map_append, List.map_singleton, Pl.sRun_snoc, HR.out]; exact hdo
          clear HDO hdo
          go_wp2_with fail
          rw [← hY.out, ← hV.out]
          refine HDO'.out.mono ?_
          rintro e w9 ⟨a9, c9, rfl, ho9, hb9⟩
          obtain ⟨L', hL'⟩ : ∃ l, Hid (hs'.length = l) := ⟨_, rfl⟩
          rw [hL'.out] at ho9 ⊢
          have S9 := hide_it (SX.out.later hb9)
          have F9 := hide_it (FX.out.later hb9 (Nat.le_refl _))
          have R9 := hide_it (rowS_later RX.out hb9 (Nat.le_refl _))
          have O9 : Hid (w9.ownsRow w.heap.size 56 2 (.slice a9 L' c9) hs'.length (hflat hs')) := by show World.ownsRow _ _ _ _ _ _ _; rw [hL'.out]; exact ownsRow_lower ho9 hwV
          have S10 := hide_it ((S9.out.setS O9.out).later (alloc_below _ (.cells #[.int .i64 room, .slice a9 L' c9] 32)))
          have F10 : Hid (Fresh (((w9.setCell ⟨S, 0, none⟩ (.int .i64 room)).setCell ⟨S, 1, none⟩ (.slice a9 L' c9)).alloc (.cells #[.int .i64 room, .slice a9 L' c9] 32)) w.heap.size (.slice (some ⟨Y, 0, none⟩) 1 1) ([1 + z]) 1) := by
            show Fresh _ _ _ _ _
            exact ((F9.out.set S9.out.stk (by decide) _).set (heap_setCell_same _ S 0 _ _ _ S9.out.stk) (by decide) _).later (alloc_below _ _) (Nat.le_refl _)
          have hpl : ps.length ≤ 12 := by omega
          have ROW : Hid (∀ o, ((((w9.setCell ⟨S, 0, none⟩ (.int .i64 room)).setCell ⟨S, 1, none⟩ (.slice a9 L' c9)).alloc (.cells #[.int .i64 room, .slice a9 L' c9] 32)).alloc o).ownsRow w.heap.size 62 3 (.slice ao5 ps.length co5) ps.length (flat ps)) := fun o => (S10.out.later (alloc_below _ o)).row
          have hw9s : w.heap.size ≤ w9.heap.size := S9.out.mid.size
          clear ho9 s0 s1 sf0 sf1 sl
          have x0 : w9.cell? ⟨Z + 1, 0, none⟩ = some (.int .i64 (1)) := by rw [cell_of_row w9 _ _ _ _ _ R9.out]; rfl
          have x1 : w9.cell? ⟨Z + 1, 1, none⟩ = some (.int .i64 (1 + t0)) := by rw [cell_of_row w9 _ _ _ _ _ R9.out]; rfl
          have x2 : w9.cell? ⟨Z + 1, 2, none⟩ = some (.slice (some ⟨Y, 0, none⟩) 1 1) := by rw [cell_of_row w9 _ _ _ _ _ R9.out]; rfl
          have xl := heap_lt R9.out
          obtain ⟨s0, s1, sf0, sf1, sl⟩ := S9.out.cells
          clear hb9
          have NEWS : Hid (∀ (j : Nat) (x : Value), [Value.int .i64 (1), .int .i64 (1 + t0), .slice (some ⟨Y, 0, none⟩) 1 1][j]? = some x → ((((w9.setCell ⟨S, 0, none⟩ (.int .i64 room)).setCell ⟨S, 1, none⟩ (.slice a9 L' c9)).alloc (.cells #[.int .i64 room, .slice a9 L' c9] 32)).alloc (.cells #[.int .i64 (1), .int .i64 (1 + t0), .slice (some ⟨Y, 0, none⟩) 1 1] 62)).cell? ((⟨w9.heap.size + 1, 0, none⟩ : Addr).add j) = some x) := by
            have := news3 (((w9.setCell ⟨S, 0, none⟩ (.int .i64 room)).setCell ⟨S, 1, none⟩ (.slice a9 L' c9)).alloc (.cells #[.int .i64 room, .slice a9 L' c9] 32)) (1) (1 + t0) (.slice (some ⟨Y, 0, none⟩) 1 1) 62
            rw [World.size_alloc, World.size_setCell, World.size_setCell] at this
            exact this
          go_wp2_with (at_builtin; refine wpList_append_own _ rfl _ _ 23 rfl w.heap.size 62 i0 (.agg #[.int .i64 0, .int .i64 0, .slice none 0 0]) 3 40 Tryd.underlying23 hi hz0 hz1 hz2 rfl (by decide) (.slice ao5 ps.length co5) ps.length (flat ps) rfl (ROW.out _) ⟨w9.heap.size + 1, 0, none⟩ 1 1 [.int .i64 (1), .int .i64 (1 + t0), .slice (some ⟨Y, 0, none⟩) 1 1] rfl rfl NEWS.out (one3 _ _ _) ?c3 ?c4 ?c5 ?_)
          case c3 => unfold maxLen; omega
          case c4 => omega
          case c5 => simp; omega
          intro v' w12 hown12 hgrow12 _
          have S12 := hide_it ((S10.out.later (alloc_below _ _)).push (r := (1, 1 + t0, [1 + z])) ⟨by simp, Or.inl ⟨1, F10.out.later (alloc_below _ _) (Nat.le_refl _)⟩⟩ hown12 hgrow12)
          clear hown12 hgrow12 ROW S10 F10 NEWS S9 F9 R9 O9 s0 s1 sf0 sf1 x0 x1 x2
          go_wp2_with fail
          go_roundw
          case rel => exact ⟨m - 1, _, _, _, _, by go_num, by simp; omega, by omega, by omega, S12, HR'⟩
          case measure => simp [intOf]; omega
      · obtain ⟨V, hV⟩ : ∃ W, Hid (W = (w7.alloc (.cells #[] 3)).alloc (.cells #[.int .i64 (1 + k0), .int .i64 (1 + t0), .slice (some ⟨Z, 0, none⟩) 0 0] 62)) := ⟨_, rfl⟩
        have SX : Hid (StS w V b (q + 2) S room (.slice au hs.length cu) hs (.slice ao5 ps.length co5) ps) := by show StS _ _ _ _ _ _ _ _ _ _; rw [hV.out]; exact (S7.out.later (alloc_below _ _)).later (alloc_below _ _)
        have RX : Hid (V.heap[Z + 1]? = some (.cells #[.int .i64 (1 + k0), .int .i64 (1 + t0), .slice (some ⟨Z, 0, none⟩) 0 0] 62 (0, 0))) := by
          show _ = _
          have := heap_alloc_new (w7.alloc (.cells #[] 3)) (.cells #[.int .i64 (1 + k0), .int .i64 (1 + t0), .slice (some ⟨Z, 0, none⟩) 0 0] 62)
          rw [World.size_alloc] at this
          rw [hV.out, hZ.out]; rw [hZ.out] at this; exact this
        have FX : Hid (Fresh V w.heap.size (.slice (some ⟨Z, 0, none⟩) 0 0) [] 0) := by
          show Fresh _ _ _ _ _
          rw [hV.out, hZ.out]; exact (fresh0 w7 w.heap.size hw7).later (alloc_below _ _) (Nat.le_refl _)
        have hk1 : ¬ (1 + k0 = 1) := by omega
        obtain ⟨s0, s1, sf0, sf1, sl⟩ := S7.out.cells
        have hXS : Z + 1 ≠ S := ne_of_type RX.out SX.out.stk (by decide)
        have hSX : S ≠ Z + 1 := fun e => hXS e.symm
        clear S7
        have hwV : w.heap.size ≤ V.heap.size := SX.out.mid.size
        have HDO := hide_it (specDo_any room (.slice au hs.length cu) hs (1 + k0) (1 + t0) (.slice (some ⟨Z, 0, none⟩) 0 0) ([]) V (holds_of_row SX.out.hol) (by rw [hlen.out]; omega) FX.out.ints (by simp))
        cases hdo : Pl.sDo room hs (1 + k0) (1 + t0) ([]) with
        | none =>
          rw [hdo] at HDO
          have HDO' : Hid (Calls Tryd.prog 56 #[.agg #[.int .i64 room, .slice au hs.length cu], .agg #[.int .i64 (1 + k0), .int .i64 (1 + t0), .slice (some ⟨Z, 0, none⟩) 0 0]] V fun e w' => StOut V w' e 0 [] false) := HDO.out
          clear HDO
          go_wp2_with fail
          rw [← hZ.out, ← hV.out]
          refine HDO'.out.mono ?_
          rintro e w9 ⟨a9, c9, rfl, ho9, hb9⟩
          have S9 := hide_it ((SX.out.later hb9).later (alloc_below _ (.cells #[.int .i64 0, .slice a9 0 c9] 32)))
          clear ho9 hb9 s0 s1 sf0 sf1 sl
          go_wp2_with fail
          go_roundw
          case rel => exact ⟨m - 1, _, _, _, ps, by go_num, by omega, by omega, by omega, S9, HR⟩
          case measure => simp [intOf]; omega
        | some hs' =>
          rw [hdo] at HDO
          have HDO' : Hid (Calls Tryd.prog 56 #[.agg #[.int .i64 room, .slice au hs.length cu], .agg #[.int .i64 (1 + k0), .int .i64 (1 + t0), .slice (some ⟨Z, 0, none⟩) 0 0]] V fun e w' => StOut V w' e room hs' true) := HDO.out
          have HR' : Hid (Pl.sRun room ((ps ++ [(((1 + k0, 1 + t0, []) : R), (.slice (some ⟨Z, 0, none⟩) 0 0 : Value))]).map (·.1)) Pl.noHolds = some hs') := by
            show _ = _
            rw [List.map_append, List.map_singleton, Pl.sRun_snoc, HR.out]; exact hdo
          clear HDO hdo
          go_wp2_with fail
          rw [← hZ.out, ← hV.out]
          refine HDO'.out.mono ?_
          rintro e w9 ⟨a9, c9, rfl, ho9, hb9⟩
          obtain ⟨L', hL'⟩ : ∃ l, Hid (hs'.length = l) := ⟨_, rfl⟩
          rw [hL'.out] at ho9 ⊢
          have S9 := hide_it (SX.out.later hb9)
          have F9 := hide_it (FX.out.later hb9 (Nat.le_refl _))
          have R9 := hide_it (rowS_later RX.out hb9 (Nat.le_refl _))
          have O9 : Hid (w9.ownsRow w.heap.size 56 2 (.slice a9 L' c9) hs'.length (hflat hs')) := by show World.ownsRow _ _ _ _ _ _ _; rw [hL'.out]; exact ownsRow_lower ho9 hwV
          have S10 := hide_it ((S9.out.setS O9.out).later (alloc_below _ (.cells #[.int .i64 room, .slice a9 L' c9] 32)))
          have F10 : Hid (Fresh (((w9.setCell ⟨S, 0, none⟩ (.int .i64 room)).setCell ⟨S, 1, none⟩ (.slice a9 L' c9)).alloc (.cells #[.int .i64 room, .slice a9 L' c9] 32)) w.heap.size (.slice (some ⟨Z, 0, none⟩) 0 0) ([]) 0) := by
            show Fresh _ _ _ _ _
            exact ((F9.out.set S9.out.stk (by decide) _).set (heap_setCell_same _ S 0 _ _ _ S9.out.stk) (by decide) _).later (alloc_below _ _) (Nat.le_refl _)
          have hpl : ps.length ≤ 12 := by omega
          have ROW : Hid (∀ o, ((((w9.setCell ⟨S, 0, none⟩ (.int .i64 room)).setCell ⟨S, 1, none⟩ (.slice a9 L' c9)).alloc (.cells #[.int .i64 room, .slice a9 L' c9] 32)).alloc o).ownsRow w.heap.size 62 3 (.slice ao5 ps.length co5) ps.length (flat ps)) := fun o => (S10.out.later (alloc_below _ o)).row
          have hw9s : w.heap.size ≤ w9.heap.size := S9.out.mid.size
          clear ho9 s0 s1 sf0 sf1 sl
          have x0 : w9.cell? ⟨Z + 1, 0, none⟩ = some (.int .i64 (1 + k0)) := by rw [cell_of_row w9 _ _ _ _ _ R9.out]; rfl
          have x1 : w9.cell? ⟨Z + 1, 1, none⟩ = some (.int .i64 (1 + t0)) := by rw [cell_of_row w9 _ _ _ _ _ R9.out]; rfl
          have x2 : w9.cell? ⟨Z + 1, 2, none⟩ = some (.slice (some ⟨Z, 0, none⟩) 0 0) := by rw [cell_of_row w9 _ _ _ _ _ R9.out]; rfl
          have xl := heap_lt R9.out
          obtain ⟨s0, s1, sf0, sf1, sl⟩ := S9.out.cells
          clear hb9
          have NEWS : Hid (∀ (j : Nat) (x : Value), [Value.int .i64 (1 + k0), .int .i64 (1 + t0), .slice (some ⟨Z, 0, none⟩) 0 0][j]? = some x → ((((w9.setCell ⟨S, 0, none⟩ (.int .i64 room)).setCell ⟨S, 1, none⟩ (.slice a9 L' c9)).alloc (.cells #[.int .i64 room, .slice a9 L' c9] 32)).alloc (.cells #[.int .i64 (1 + k0), .int .i64 (1 + t0), .slice (some ⟨Z, 0, none⟩) 0 0] 62)).cell? ((⟨w9.heap.size + 1, 0, none⟩ : Addr).add j) = some x) := by
            have := news3 (((w9.setCell ⟨S, 0, none⟩ (.int .i64 room)).setCell ⟨S, 1, none⟩ (.slice a9 L' c9)).alloc (.cells #[.int .i64 room, .slice a9 L' c9] 32)) (1 + k0) (1 + t0) (.slice (some ⟨Z, 0, none⟩) 0 0) 62
            rw [World.size_alloc, World.size_setCell, World.size_setCell] at this
            exact this
          go_wp2_with (at_builtin; refine wpList_append_own _ rfl _ _ 23 rfl w.heap.size 62 i0 (.agg #[.int .i64 0, .int .i64 0, .slice none 0 0]) 3 40 Tryd.underlying23 hi hz0 hz1 hz2 rfl (by decide) (.slice ao5 ps.length co5) ps.length (flat ps) rfl (ROW.out _) ⟨w9.heap.size + 1, 0, none⟩ 1 1 [.int .i64 (1 + k0), .int .i64 (1 + t0), .slice (some ⟨Z, 0, none⟩) 0 0] rfl rfl NEWS.out (one3 _ _ _) ?c3 ?c4 ?c5 ?_)
          case c3 => unfold maxLen; omega
          case c4 => omega
          case c5 => simp; omega
          intro v' w12 hown12 hgrow12 _
          have S12 := hide_it ((S10.out.later (alloc_below _ _)).push (r := (1 + k0, 1 + t0, [])) ⟨by simp, Or.inl ⟨0, F10.out.later (alloc_below _ _) (Nat.le_refl _)⟩⟩ hown12 hgrow12)
          clear hown12 hgrow12 ROW S10 F10 NEWS S9 F9 R9 O9 s0 s1 sf0 sf1 x0 x1 x2
          go_wp2_with fail
          go_roundw
          case rel => exact ⟨m - 1, _, _, _, _, by go_num, by simp; omega, by omega, by omega, S12, HR'⟩
          case measure => simp [intOf]; omega
    · obtain rfl : m = 0 := by omega
      go_wp2
      go_ret2
      exact ⟨room, _, ps, hs, q, rfl, lr, by omega, by omega, HS.out.row, HS.out.all, HR.out, by omega, HS.out.rd, HS.out.mid⟩

end Go.Proofs.YtgeagfglkgpoiaaDoor

namespace Go.Proofs.YtgeagfglkgpoiaaDoor
open Go.RowKit

set_option maxRecDepth 100000 in
set_option maxHeartbeats 4000000 in
theorem many_draw (b p : Nat) (w : World) (h : Rd w b p) (hp : p ≤ 900000) :
    Calls Tryd.prog 57 #[.pointer (some ⟨b, 0, none⟩)] w fun e w' => ∃ u zs q, e = .returned u ∧ zs.length ≤ 3 ∧ Fresh w' w.heap.size u zs zs.length ∧ p ≤ q ∧ q ≤ p + 8 ∧ Rd w' b q ∧ Mid b (b + 1) w w' := by
  have hblt := h.lt
  have HR := hide_it h
  clear h
  go_enter Tryd.func57, Tryd.ntmps57
  go_wp2_with fail
  refine (pick_any b p 3 w HR.out (by omega) (by omega) (by omega)).mono ?_
  rintro e w1 ⟨x1, rfl, l1, u1, r1, m1⟩
  have HR1 := hide_it r1
  have HM1 := hide_it m1
  clear r1 m1
  go_wp2_with fail
  refine (pick_any b (p + 1) 3 w1 HR1.out (by omega) (by omega) (by omega)).mono ?_
  rintro e w2 ⟨x2, rfl, l2, u2, r2, m2⟩
  have HR2 := hide_it r2
  have HM2 := hide_it (HM1.out.trans m2)
  clear r2 m2 HR1 HM1
  go_wp2_with fail
  refine (pick_any b (p + 1 + 1) 3 w2 HR2.out (by omega) (by omega) (by omega)).mono ?_
  rintro e w3 ⟨x3, rfl, l3, u3, r3, m3⟩
  have HR3 := hide_it r3
  have HM3 := hide_it (HM2.out.trans m3)
  have hs3 : w.heap.size ≤ w3.heap.size := HM3.out.size
  clear r3 m3 HR2 HM2
  go_wp2_with fail
  go_quiet (fail)
  go_upto_if 22 with fail
  go_cut [3] (fun o W => ∃ g a0 a1 a2 q, o = .slice (some ⟨g, 0, none⟩) 3 3 ∧ p ≤ q ∧ q ≤ p + 4 ∧ Hid (StM w W b q g a0 a1 a2))
  case first =>
    go_wp2_with fail
    · refine (pick_any b (p + 1 + 1 + 1) 3 _ ((HR3.out.alloc _).drewN _) (by omega) (by omega) (by omega)).mono ?_
      rintro e w4 ⟨x4, rfl, l4, u4, r4, m4⟩
      have S4 : Hid (StM w w4 b (p + 4) w3.heap.size x1 x2 x3) := ⟨((Row3.new w3 x1 x2 x3).drewN _).mid m4 (by omega), hs3, by omega, r4, ((HM3.out.alloc _).drewN _).trans m4⟩
      clear r4 m4
      obtain ⟨c0, c1, c2, f0, f1, f2⟩ := S4.out.1.cells
      rcases three l4 u4 with rfl | rfl | rfl
      · go_wp2_with fail
        go_meet
        case rel => exact ⟨w3.heap.size, 1, x2, x3, p + 4, rfl, by omega, by omega, S4.out.1.set0 1, hs3, by omega, S4.out.2.2.2.1.setApart (by omega) _, S4.out.2.2.2.2.setNew hs3 _⟩
      · go_wp2_with fail
        go_meet
        case rel => exact ⟨w3.heap.size, x1, 1, x3, p + 4, rfl, by omega, by omega, S4.out.1.set1 1, hs3, by omega, S4.out.2.2.2.1.setApart (by omega) _, S4.out.2.2.2.2.setNew hs3 _⟩
      · go_wp2_with fail
        go_meet
        case rel => exact ⟨w3.heap.size, x1, x2, 1, p + 4, rfl, by omega, by omega, S4.out.1.set2 1, hs3, by omega, S4.out.2.2.2.1.setApart (by omega) _, S4.out.2.2.2.2.setNew hs3 _⟩
    · go_meet
      case rel => exact ⟨w3.heap.size, x1, x2, x3, p + 3, rfl, by omega, by omega, (Row3.new w3 x1 x2 x3).drewN _, hs3, by omega, (HR3.out.alloc _).drewN _, (HM3.out.alloc _).drewN _⟩
  case rest =>
    obtain ⟨g, a0, a1, a2, q, rfl, hq0, hq1, HS⟩ := hcut
    clear HR HR3 HM3 hs3 l1 l2 l3 u1 u2 u3
    have hgb : b < g := HS.out.2.2.1
    have hwg : w.heap.size ≤ g := HS.out.2.1
    go_wp2_with fail
    refine (pick_any b q 24 _ HS.out.2.2.2.1 (by omega) (by omega) (by omega)).mono ?_
    rintro e w5 ⟨y, rfl, ly, uy, r5, m5⟩
    have S5 : Hid (StM w w5 b (q + 1) g a0 a1 a2) := ⟨HS.out.1.mid m5 hgb, hwg, hgb, r5, HS.out.2.2.2.2.trans m5⟩
    clear r5 m5 HS
    obtain ⟨c0, c1, c2, f0, f1, f2⟩ := S5.out.1.cells
    by_cases y0 : y = 0
    · subst y0
      go_wp2_with fail
      refine (pick_any b (q + 1) 3 _ S5.out.2.2.2.1 (by omega) (by omega) (by omega)).mono ?_
      rintro e w6 ⟨z, rfl, lz, uz, r6, m6⟩
      have S6 : Hid (StM w w6 b (q + 2) g a0 a1 a2) := ⟨S5.out.1.mid m6 hgb, hwg, hgb, r6, S5.out.2.2.2.2.trans m6⟩
      clear r6 m6 S5 c0 c1 c2 f0 f1 f2
      have hs6 : g < w6.heap.size := S6.out.1.lt
      go_wp2_with fail
      refine (pick_any b (q + 2) 3 _ (S6.out.2.2.2.1.alloc _) (by omega) (by omega) (by omega)).mono ?_
      rintro e w7 ⟨t, rfl, lt, ut, r7, m7⟩
      have S7 : Hid (StM w w7 b (q + 3) g a0 a1 a2) := ⟨(S6.out.1.later (alloc_below _ _) (Nat.le_refl _)).mid m7 hgb, hwg, hgb, r7, (S6.out.2.2.2.2.alloc _).trans m7⟩
      have N7 : Hid (Row3 w7 w6.heap.size (-1) 3 4) := (Row3.new w6 (-1) 3 4).mid m7 (by omega)
      clear r7 m7 S6
      obtain ⟨c0, c1, c2, f0, f1, f2⟩ := S7.out.1.cells
      obtain ⟨d0, d1, d2, _, _, _⟩ := N7.out.cells
      rcases three lz uz with rfl | rfl | rfl
      · rcases three lt ut with rfl | rfl | rfl
        all_goals
          go_wp2
          go_ret
          exact ⟨_, [_, _, _], q + 3, rfl, by simp, (S7.out.1.set0 _).fresh hwg, by omega, by omega, S7.out.2.2.2.1.setApart (by omega) _, S7.out.2.2.2.2.setNew hwg _⟩
      · rcases three lt ut with rfl | rfl | rfl
        all_goals
          go_wp2
          go_ret
          exact ⟨_, [_, _, _], q + 3, rfl, by simp, (S7.out.1.set1 _).fresh hwg, by omega, by omega, S7.out.2.2.2.1.setApart (by omega) _, S7.out.2.2.2.2.setNew hwg _⟩
      · rcases three lt ut with rfl | rfl | rfl
        all_goals
          go_wp2
          go_ret
          exact ⟨_, [_, _, _], q + 3, rfl, by simp, (S7.out.1.set2 _).fresh hwg, by omega, by omega, S7.out.2.2.2.1.setApart (by omega) _, S7.out.2.2.2.2.setNew hwg _⟩
    by_cases y1 : y = 1
    · subst y1
      go_wp2
      go_ret
      exact ⟨_, [a1, a2], q + 1, rfl, by simp, S5.out.1.fresh1 hwg, by omega, by omega, S5.out.2.2.2.1, S5.out.2.2.2.2⟩
    by_cases y2 : y = 2
    · subst y2
      have hs5 : g < w5.heap.size := S5.out.1.lt
      go_wp2
      go_ret
      exact ⟨_, [0, 0, 0], q + 1, rfl, by simp, (Row3.new w5 0 0 0).fresh (by omega), by omega, by omega, S5.out.2.2.2.1.alloc _, S5.out.2.2.2.2.alloc _⟩
    go_wp2
    go_ret
    exact ⟨_, [a0, a1, a2], q + 1, rfl, by simp, S5.out.1.fresh hwg, by omega, by omega, S5.out.2.2.2.1, S5.out.2.2.2.2⟩

end Go.Proofs.YtgeagfglkgpoiaaDoor

namespace Go.Proofs.YtgeagfglkgpoiaaDoor
open Go.RowKit

/-- What lies there while a record is drawn: the result's block, the record's own, its numbers, the reader. -/
structure StR (w W : World) (b q X : Nat) (k t : Int) (u : Value) (zs : List Int) : Prop where
  own : W.heap[X]? = some (.cells #[.int .i64 k, .int .i64 t, u] 62 (0, 0))
  res : W.heap[w.heap.size]? = some (.cells #[.int .i64 0, .int .i64 0, .slice none 0 0] 62 (0, 0))
  lt : w.heap.size < X
  many : Fresh W w.heap.size u zs zs.length
  few : zs.length ≤ 3
  rd : Rd W b q
  mid : Mid b (b + 1) w W
  low : b < w.heap.size

theorem row_later {W W' : World} {X B : Nat} {o : Obj} (h : W.heap[X]? = some o) (hb : Below B W W') (hB : W.heap.size ≤ B) : W'.heap[X]? = some o := by
  rw [hb.block X (by have := heap_lt h; omega)]; exact h
theorem row_mid {W W' : World} {X b : Nat} {o : Obj} (h : W.heap[X]? = some o) (hb : Mid b (b + 1) W W') (hx : b < X) : W'.heap[X]? = some o := by
  rw [hb.block X (heap_lt h) (Or.inr (by omega))]; exact h

theorem StR.step {w W W' : World} {b q q' X : Nat} {k t : Int} {u : Value} {zs : List Int} (h : StR w W b q X k t u zs) (hb : Mid b (b + 1) W W') (hr : Rd W' b q') : StR w W' b q' X k t u zs :=
  ⟨row_mid h.own hb (by have := h.lt; have := h.low; omega), row_mid h.res hb h.low, h.lt, h.many.mid h.rd hb, h.few, hr, h.mid.trans hb, h.low⟩
theorem StR.later {w W W' : World} {b q X : Nat} {k t : Int} {u : Value} {zs : List Int} (h : StR w W b q X k t u zs) (hb : Below W.heap.size W W') : StR w W' b q X k t u zs :=
  h.step (Mid.of_below hb (Nat.le_refl _)) (h.rd.later hb (Nat.le_refl _))
theorem StR.cells {w W : World} {b q X : Nat} {k t : Int} {u : Value} {zs : List Int} (h : StR w W b q X k t u zs) :
    (W.cell? ⟨X, 0, none⟩ = some (.int .i64 k) ∧ W.cell? ⟨X, 1, none⟩ = some (.int .i64 t) ∧ W.cell? ⟨X, 2, none⟩ = some u ∧
    W.frozen? ⟨X, 0, none⟩ = false ∧ W.frozen? ⟨X, 1, none⟩ = false ∧ W.frozen? ⟨X, 2, none⟩ = false) ∧
    (W.cell? ⟨w.heap.size, 0, none⟩ = some (.int .i64 0) ∧ W.cell? ⟨w.heap.size, 1, none⟩ = some (.int .i64 0) ∧ W.cell? ⟨w.heap.size, 2, none⟩ = some (.slice none 0 0) ∧
    W.frozen? ⟨w.heap.size, 0, none⟩ = false ∧ W.frozen? ⟨w.heap.size, 1, none⟩ = false ∧ W.frozen? ⟨w.heap.size, 2, none⟩ = false) := by
  refine ⟨⟨?_, ?_, ?_, frozen_of_row W _ _ _ _ h.own, frozen_of_row W _ _ _ _ h.own, frozen_of_row W _ _ _ _ h.own⟩, ⟨?_, ?_, ?_, frozen_of_row W _ _ _ _ h.res, frozen_of_row W _ _ _ _ h.res, frozen_of_row W _ _ _ _ h.res⟩⟩
  · rw [cell_of_row W _ _ _ _ _ h.own]; rfl
  · rw [cell_of_row W _ _ _ _ _ h.own]; rfl
  · rw [cell_of_row W _ _ _ _ _ h.own]; rfl
  · rw [cell_of_row W _ _ _ _ _ h.res]; rfl
  · rw [cell_of_row W _ _ _ _ _ h.res]; rfl
  · rw [cell_of_row W _ _ _ _ _ h.res]; rfl
theorem StR.set0 {w W : World} {b q X : Nat} {k t : Int} {u : Value} {zs : List Int} (h : StR w W b q X k t u zs) (x : Int) : StR w (W.setCell ⟨X, 0, none⟩ (.int .i64 x)) b q X x t u zs :=
  have hl := h.lt
  have hw := h.low
  ⟨by rw [heap_setCell_same W X 0 _ _ _ h.own]; simp, by rw [Below.heap_setCell _ _ _ _ (by simp; omega)]; exact h.res, hl, h.many.set h.own (by decide) _, h.few, h.rd.setApart (by omega) _, h.mid.setNew (by omega) _, hw⟩
theorem StR.set1 {w W : World} {b q X : Nat} {k t : Int} {u : Value} {zs : List Int} (h : StR w W b q X k t u zs) (x : Int) : StR w (W.setCell ⟨X, 1, none⟩ (.int .i64 x)) b q X k x u zs :=
  have hl := h.lt
  have hw := h.low
  ⟨by rw [heap_setCell_same W X 1 _ _ _ h.own]; simp, by rw [Below.heap_setCell _ _ _ _ (by simp; omega)]; exact h.res, hl, h.many.set h.own (by decide) _, h.few, h.rd.setApart (by omega) _, h.mid.setNew (by omega) _, hw⟩
theorem StR.set2 {w W : World} {b q X : Nat} {k t : Int} {u u' : Value} {zs zs' : List Int} (h : StR w W b q X k t u zs) (hm : Fresh W w.heap.size u' zs' zs'.length) (hf : zs'.length ≤ 3) : StR w (W.setCell ⟨X, 2, none⟩ u') b q X k t u' zs' :=
  have hl := h.lt
  have hw := h.low
  ⟨by rw [heap_setCell_same W X 2 _ _ _ h.own]; simp, by rw [Below.heap_setCell _ _ _ _ (by simp; omega)]; exact h.res, hl, hm.set h.own (by decide) _, hf, h.rd.setApart (by omega) _, h.mid.setNew (by omega) _, hw⟩
theorem one_fresh (W : World) (lo : Nat) (x : Int) (h : lo ≤ W.heap.size) : Fresh (W.alloc (.cells #[.int .i64 x] 3)) lo (.slice (some ⟨W.heap.size, 0, none⟩) 1 1) [x] 1 :=
  ⟨W.heap.size, 0, _, rfl, h, heap_alloc_new W _, fun k hk => by match k, hk with | 0, _ => rfl⟩

theorem StR.new2 {w W : World} {b q X : Nat} {k t : Int} {u : Value} {zs : List Int} (h : StR w W b q X k t u zs) (x : Int) : StR w ((W.setCell ⟨X, 2, none⟩ (.slice (some ⟨W.heap.size, 0, none⟩) 1 1)).alloc (.cells #[.int .i64 x] 3)) b q X k t (.slice (some ⟨W.heap.size, 0, none⟩) 1 1) [x] := by
  have hl := h.lt
  have hw := h.low
  have hX := heap_lt h.own
  have hn := heap_alloc_new (W.setCell ⟨X, 2, none⟩ (.slice (some ⟨W.heap.size, 0, none⟩) 1 1)) (.cells #[.int .i64 x] 3)
  rw [show (W.setCell ⟨X, 2, none⟩ (.slice (some ⟨W.heap.size, 0, none⟩) 1 1)).heap.size = W.heap.size by simp] at hn
  refine ⟨?_, ?_, hl, ⟨W.heap.size, 0, _, rfl, by omega, hn, fun k hk => by match k, hk with | 0, _ => rfl⟩, by simp, (h.rd.setApart (by omega) _).alloc _, (h.mid.setNew (by omega) _).alloc _, hw⟩
  · rw [Below.heap_alloc _ _ _ (by simp; omega), heap_setCell_same W X 2 _ _ _ h.own]; simp
  · rw [Below.heap_alloc _ _ _ (by simp; omega), Below.heap_setCell _ _ _ _ (by simp; omega)]; exact h.res

/-- What is left of it when the record is handed back. -/
structure StO (w W : World) (b q : Nat) (u : Value) (zs : List Int) (cap : Nat) : Prop where
  res : ∃ cs, W.heap[w.heap.size]? = some (.cells cs 62 (0, 0))
  many : Fresh W w.heap.size u zs cap
  rd : Rd W b q
  mid : Mid b (b + 1) w W
  low : b < w.heap.size
theorem StR.out {w W : World} {b q X : Nat} {k t : Int} {u : Value} {zs : List Int} (h : StR w W b q X k t u zs) : StO w W b q u zs zs.length := ⟨⟨_, h.res⟩, h.many, h.rd, h.mid, h.low⟩
theorem StO.set {w W : World} {b q : Nat} {u : Value} {zs : List Int} {cap : Nat} (h : StO w W b q u zs cap) (i : Nat) (x : Value) : StO w (W.setCell ⟨w.heap.size, i, none⟩ x) b q u zs cap := by
  obtain ⟨cs, hr⟩ := h.res
  exact ⟨⟨_, heap_setCell_same W _ i _ _ _ hr⟩, h.many.set hr (by decide) _, h.rd.setApart h.low _, h.mid.setNew (Nat.le_refl _) _, h.low⟩

theorem own_fresh {W : World} {base lo n : Nat} {v : Value} {zs : List Int} (h : W.ownsRow base 3 1 v n (zs.map (Value.int .i64))) (hn : 0 < n) (hl : lo ≤ base) : ∃ g cap, v = .slice (some ⟨g, 0, none⟩) zs.length cap ∧ Fresh W lo v zs cap := by
  obtain ⟨h1, h2⟩ := h
  rcases h2 with ⟨_, h0⟩ | ⟨g, cap, cur, hv, hg, hh, _, _, hc, ht⟩
  · omega
  · have hzl : zs.length = n := by simpa using h1
    refine ⟨g, cap, by rw [hzl]; exact hv, g, 0, cur, by rw [hzl]; exact hv, by omega, hh, fun k hk => ?_⟩
    have e : (cur.toList.take (n * 1))[k]? = (zs.map (Value.int .i64))[k]? := by rw [ht]
    rw [List.getElem?_take, if_pos (by omega)] at e
    rw [Nat.zero_add, ← Array.getElem?_toList, e]
    simp [List.getD_eq_getElem?_getD, hk]
theorem StO.setX {w W : World} {b q X i : Nat} {cs : Array Value} {u : Value} {zs : List Int} {cap : Nat} (h : StO w W b q u zs cap) (hX : W.heap[X]? = some (.cells cs 62 (0, 0))) (hl : w.heap.size < X) (x : Value) : StO w (W.setCell ⟨X, i, none⟩ x) b q u zs cap := by
  obtain ⟨cr, hr⟩ := h.res
  have hw := h.low
  exact ⟨⟨cr, by rw [Below.heap_setCell _ _ _ _ (by simp; omega)]; exact hr⟩, h.many.set hX (by decide) _, h.rd.setApart (by omega) _, h.mid.setNew (by omega) _, hw⟩
theorem fresh_cells {W : World} {lo g off : Nat} {zs : List Int} {cap : Nat} (h : Fresh W lo (.slice (some ⟨g, off, none⟩) zs.length cap) zs cap) (j : Nat) (u : Value) (hj : (zs.map (Value.int .i64))[j]? = some u) : W.cell? ((⟨g, off, none⟩ : Addr).add j) = some u := by
  obtain ⟨g', off', cs, hu, _, hh, hc⟩ := h
  simp at hu
  obtain ⟨rfl, rfl⟩ := hu
  have hjl : j < zs.length := by
    by_cases e : j < zs.length
    · exact e
    · rw [List.getElem?_eq_none (by simp; omega)] at hj; cases hj
  rw [Go.WideShapes.add_plain, cell_of_row W _ _ _ _ _ hh, hc j hjl, ← hj]
  simp [List.getD_eq_getElem?_getD, hjl]

set_option maxRecDepth 100000 in
set_option maxHeartbeats 4000000 in
theorem rec_draw (b p : Nat) (w : World) (h : Rd w b p) (hp : p ≤ 800000) :
    Calls Tryd.prog 43 #[.pointer (some ⟨b, 0, none⟩)] w fun e w' => ∃ k t u zs q cap, e = .returned (.agg #[.int .i64 k, .int .i64 t, u]) ∧ zs.length ≤ 4 ∧ Fresh w' w.heap.size u zs cap ∧ p ≤ q ∧ q ≤ p + 14 ∧ Rd w' b q ∧ Mid b (b + 1) w w' := by
  have hblt := h.lt
  have HR := hide_it h
  clear h
  go_enter Tryd.func43, Tryd.ntmps43
  go_wp2_with fail
  refine (pick_any b p 7 _ (HR.out.alloc _) (by omega) (by omega) (by omega)).mono ?_
  rintro e w1 ⟨x1, rfl, l1, u1, r1, m1⟩
  have HR1 := hide_it r1
  have H01 := hide_it (row_mid (heap_alloc_new w _) m1 hblt)
  have HM1 := hide_it (((Mid.refl b (b + 1) w).alloc _).trans m1)
  clear r1 m1
  go_wp2_with fail
  refine (pick_any b (p + 1) 4 w1 HR1.out (by omega) (by omega) (by omega)).mono ?_
  rintro e w2 ⟨x2, rfl, l2, u2, r2, m2⟩
  have HR2 := hide_it r2
  have H02 := hide_it (row_mid H01.out m2 hblt)
  have HM2 := hide_it (HM1.out.trans m2)
  have hs2 : w.heap.size < w2.heap.size := heap_lt H02.out
  clear r2 m2 HR1 HM1 H01
  have S2 : Hid (StR w ((w2.alloc (.cells #[] 3)).alloc (.cells #[.int .i64 (1 + x1), .int .i64 (1 + x2), .slice (some ⟨w2.heap.size, 0, none⟩) 0 0] 62)) b (p + 2) (w2.heap.size + 1) (1 + x1) (1 + x2) (.slice (some ⟨w2.heap.size, 0, none⟩) 0 0) []) := by
    have e1 := heap_alloc_new (w2.alloc (.cells #[] 3)) (.cells #[.int .i64 (1 + x1), .int .i64 (1 + x2), .slice (some ⟨w2.heap.size, 0, none⟩) 0 0] 62)
    rw [show (w2.alloc (.cells #[] 3)).heap.size = w2.heap.size + 1 by simp] at e1
    refine ⟨e1, ?_, by omega, ?_, by simp, (HR2.out.alloc _).alloc _, (HM2.out.alloc _).alloc _, hblt⟩
    · rw [Below.heap_alloc _ _ _ (by simp; omega), Below.heap_alloc _ _ _ (by omega)]; exact H02.out
    · refine ⟨w2.heap.size, 0, #[], rfl, by omega, ?_, fun k hk => by simp at hk⟩
      rw [Below.heap_alloc _ _ _ (by simp)]; exact heap_alloc_new w2 _
  clear HR2 HM2 H02 HR
  go_upto_block 0 with fail
  go_cut [3] (fun o W => ∃ X k t u zs q, o = .pointer (some ⟨X, 0, none⟩) ∧ p ≤ q ∧ q ≤ p + 10 ∧ Hid (StR w W b q X k t u zs))
  case first =>
    go_wp2_with fail
    · refine (pick_any b (p + 2) 3 _ S2.out.rd (by omega) (by omega) (by omega)).mono ?_
      rintro e w3 ⟨x3, rfl, l3, u3, r3, m3⟩
      have S3 := hide_it (S2.out.step m3 r3)
      clear r3 m3 S2
      obtain ⟨⟨c0, c1, c2, f0, f1, f2⟩, _⟩ := S3.out.cells
      have hlt3 : w2.heap.size + 1 < w3.heap.size := heap_lt S3.out.own
      go_wp2_with fail
      go_meet
      case rel => exact ⟨_, _, _, _, [_], p + 3, rfl, by omega, by omega, S3.out.new2 _⟩
    · refine (many_draw b (p + 2) _ S2.out.rd (by omega)).mono ?_
      rintro e w3 ⟨u, zs, q, rfl, hz, hF, hq0, hq1, r3, m3⟩
      have S3 := hide_it (S2.out.step m3 r3)
      have F3 := hide_it (hF.mono (lo' := w.heap.size) (by simp; omega))
      obtain ⟨g, off, hu⟩ : ∃ g off, u = .slice (some ⟨g, off, none⟩) zs.length zs.length := by obtain ⟨g, off, cs, h, _⟩ := hF; exact ⟨g, off, h⟩
      subst hu
      clear r3 m3 S2 hF
      obtain ⟨⟨c0, c1, c2, f0, f1, f2⟩, _⟩ := S3.out.cells
      go_wp2_with fail
      go_meet
      case rel => exact ⟨_, _, _, _, zs, q, rfl, by omega, by omega, S3.out.set2 F3.out hz⟩
    · go_meet
      case rel => exact ⟨_, _, _, _, [], p + 2, rfl, by omega, by omega, S2.out⟩
  case rest =>
    obtain ⟨X, k, t, u, zs, q, rfl, hq0, hq1, HS⟩ := hcut
    clear S2 l1 l2 u1 u2 hs2
    have hX := HS.out.lt
    go_wp2_with fail
    refine (pick_any b q 20 _ HS.out.rd (by omega) (by omega) (by omega)).mono ?_
    rintro e w4 ⟨y, rfl, ly, uy, r4, m4⟩
    have S4 := hide_it (HS.out.step m4 r4)
    clear r4 m4 HS
    have hf : zs.length ≤ 3 := S4.out.few
    obtain ⟨g, off, hu⟩ : ∃ g off, u = .slice (some ⟨g, off, none⟩) zs.length zs.length := by obtain ⟨g, off, cs, h, _⟩ := S4.out.many; exact ⟨g, off, h⟩
    subst hu
    by_cases y0 : y = 0
    · subst y0
      go_wp2_with fail
      refine (pick_any b (q + 1) 9 _ S4.out.rd (by omega) (by omega) (by omega)).mono ?_
      rintro e w5 ⟨z, rfl, lz, uz, r5, m5⟩
      have S5 := hide_it (S4.out.step m5 r5)
      clear r5 m5 S4
      obtain ⟨⟨c0, c1, c2, f0, f1, f2⟩, ⟨d0, d1, d2, e0, e1, e2⟩⟩ := S5.out.cells
      have hXn : X ≠ w.heap.size := by omega
      go_wp2
      refine bodyPost_ret (v := .agg #[.int .i64 z, .int .i64 t, .slice (some ⟨g, off, none⟩) zs.length zs.length]) (by simp [results, Tryd.results43, go_sem, d0, d1, d2]) rfl ⟨z, t, _, zs, q + 2, zs.length, rfl, by omega, ?_⟩
      have R := (((S5.out.set0 z).out.set 0 (.int .i64 z)).set 1 (.int .i64 t)).set 2 (.slice (some ⟨g, off, none⟩) zs.length zs.length)
      exact ⟨R.many, by omega, by omega, R.rd, R.mid⟩
    by_cases y1 : y = 1
    · subst y1
      go_wp2_with fail
      refine (pick_any b (q + 1) 3 _ (S4.out.later (alloc_below _ _)).rd (by omega) (by omega) (by omega)).mono ?_
      rintro e w5 ⟨z, rfl, lz, uz, r5, m5⟩
      have S5 := hide_it ((S4.out.later (alloc_below _ _)).step m5 r5)
      have N5 : Hid (Row3 w5 w4.heap.size 0 6 7) := (Row3.new w4 0 6 7).mid m5 (by have := heap_lt S4.out.res; omega)
      clear r5 m5 S4
      obtain ⟨⟨c0, c1, c2, f0, f1, f2⟩, ⟨d0, d1, d2, e0, e1, e2⟩⟩ := S5.out.cells
      obtain ⟨n0, n1, n2, _, _, _⟩ := N5.out.cells
      have hXn : X ≠ w.heap.size := by omega
      rcases three lz uz with rfl | rfl | rfl
      · go_wp2
        refine bodyPost_ret (v := .agg #[.int .i64 k, .int .i64 0, .slice (some ⟨g, off, none⟩) zs.length zs.length]) (by simp [results, Tryd.results43, go_sem, d0, d1, d2]) rfl ⟨k, 0, _, zs, q + 2, zs.length, rfl, by omega, ?_⟩
        have R := (((S5.out.set1 0).out.set 0 (.int .i64 k)).set 1 (.int .i64 0)).set 2 (.slice (some ⟨g, off, none⟩) zs.length zs.length)
        exact ⟨R.many, by omega, by omega, R.rd, R.mid⟩
      · go_wp2
        refine bodyPost_ret (v := .agg #[.int .i64 k, .int .i64 6, .slice (some ⟨g, off, none⟩) zs.length zs.length]) (by simp [results, Tryd.results43, go_sem, d0, d1, d2]) rfl ⟨k, 6, _, zs, q + 2, zs.length, rfl, by omega, ?_⟩
        have R := (((S5.out.set1 6).out.set 0 (.int .i64 k)).set 1 (.int .i64 6)).set 2 (.slice (some ⟨g, off, none⟩) zs.length zs.length)
        exact ⟨R.many, by omega, by omega, R.rd, R.mid⟩
      · go_wp2
        refine bodyPost_ret (v := .agg #[.int .i64 k, .int .i64 7, .slice (some ⟨g, off, none⟩) zs.length zs.length]) (by simp [results, Tryd.results43, go_sem, d0, d1, d2]) rfl ⟨k, 7, _, zs, q + 2, zs.length, rfl, by omega, ?_⟩
        have R := (((S5.out.set1 7).out.set 0 (.int .i64 k)).set 1 (.int .i64 7)).set 2 (.slice (some ⟨g, off, none⟩) zs.length zs.length)
        exact ⟨R.many, by omega, by omega, R.rd, R.mid⟩
    have hXn : X ≠ w.heap.size := by omega
    by_cases y2 : y = 2
    · subst y2
      obtain ⟨⟨c0, c1, c2, f0, f1, f2⟩, ⟨d0, d1, d2, e0, e1, e2⟩⟩ := S4.out.cells
      obtain ⟨i0, hi, hz0, hz1, hz2⟩ := info_parts info3
      clear d0 d1 d2 e0 e1 e2
      go_wp2_with fail
      go_region_law
        (first
          | (go_simp; go_at_call 23; refine (pick_any b (q + 1) 5 _ (S4.out.later (by first | exact (Below.refl _ _).drew | exact (Below.refl _ _).drew.drew | exact (Below.refl _ _).drew.drew.drew)).rd (by omega) (by omega) (by omega)).mono ?_; rintro e w5 ⟨z, rfl, lz, uz, r5, m5⟩; have S5 := hide_it ((S4.out.later (by first | exact (Below.refl _ _).drew | exact (Below.refl _ _).drew.drew | exact (Below.refl _ _).drew.drew.drew)).step m5 r5); clear r5 m5 c0 c1 c2 f0 f1 f2; obtain ⟨⟨c0, c1, c2, f0, f1, f2⟩, _⟩ := S5.out.cells; have hs5 : w.heap.size < w5.heap.size := heap_lt S5.out.res; have c2a := ((S5.out.later (alloc_below w5 (.cells #[.int .i64 z] 3))).cells).1.2.2.1)
          | (refine step_append_grows rfl _ _ 60 rfl 3 i0 (.int .i64 0) 1 8 Tryd.underlying60 hi hz0 hz1 hz2 rfl (by decide) (some ⟨g, off, none⟩) zs.length zs.length (zs.map (Value.int .i64)) rfl (fun h => by cases h) (by simp) (fun a ha => by cases ha; exact fresh_cells (S5.out.later (alloc_below _ _)).many) ⟨w5.heap.size, 0, none⟩ 1 1 [.int .i64 z] rfl rfl (fun j u hj => by match j, hj with | 0, hj => simp at hj; subst hj; simp [Go.WideShapes.add_plain, go_sem]) (by simp [Value.oneCell']) (by omega) (by unfold maxLen; omega) (by omega) ?_; intro v6 w6 hown hgrow; have hown' := own_fresh (lo := w.heap.size) (zs := zs ++ [z]) (by simpa using hown) (by omega) (by first | omega | (simp; omega)); obtain ⟨g6, cap6, hv6, hF6⟩ := hown'; subst hv6; have F6 := hide_it hF6; have S6 := hide_it ((S5.out.later (alloc_below _ _)).later (grown_below hgrow)); clear hown hgrow hF6 c0 c1 c2 c2a f0 f1 f2; obtain ⟨⟨c0, c1, c2, f0, f1, f2⟩, ⟨d0, d1, d2, e0, e1, e2⟩⟩ := S6.out.cells))
      all_goals
       go_wp2
       refine bodyPost_ret (v := .agg #[.int .i64 k, .int .i64 t, .slice (some ⟨g6, 0, none⟩) (zs.length + 1) cap6]) (by simp [results, Tryd.results43, go_sem, d0, d1, d2]) rfl ⟨k, t, _, zs ++ [z], q + 2, cap6, rfl, by simp; omega, ?_⟩
       have F6' : Fresh w6 w.heap.size (.slice (some ⟨g6, 0, none⟩) (zs.length + 1) cap6) (zs ++ [z]) cap6 := by have h := F6.out; rwa [List.length_append, List.length_singleton] at h
       have R0 : StO w w6 b (q + 2) (.slice (some ⟨g6, 0, none⟩) (zs.length + 1) cap6) (zs ++ [z]) cap6 := ⟨⟨_, S6.out.res⟩, F6', S6.out.rd, S6.out.mid, S6.out.low⟩
       have R := (((R0.setX (i := 2) S6.out.own S6.out.lt (.slice (some ⟨g6, 0, none⟩) (zs.length + 1) cap6)).set 0 (.int .i64 k)).set 1 (.int .i64 t)).set 2 (.slice (some ⟨g6, 0, none⟩) (zs.length + 1) cap6)
       exact ⟨R.many, by omega, by omega, R.rd, R.mid⟩
    obtain ⟨⟨c0, c1, c2, f0, f1, f2⟩, ⟨d0, d1, d2, e0, e1, e2⟩⟩ := S4.out.cells
    go_wp2
    refine bodyPost_ret (v := .agg #[.int .i64 k, .int .i64 t, .slice (some ⟨g, off, none⟩) zs.length zs.length]) (by simp [results, Tryd.results43, go_sem, d0, d1, d2]) rfl ⟨k, t, _, zs, q + 1, zs.length, rfl, by omega, ?_⟩
    have R := ((S4.out.out.set 0 (.int .i64 k)).set 1 (.int .i64 t)).set 2 (.slice (some ⟨g, off, none⟩) zs.length zs.length)
    exact ⟨R.many, by omega, by omega, R.rd, R.mid⟩

end Go.Proofs.YtgeagfglkgpoiaaDoor

namespace Go.Proofs.YtgeagfglkgpoiaaDoor
open Go.RowKit

namespace Pl
theorem sOk_more {room : Int} {hs : List H} (h : sOk room hs = true) (hr : room ≤ 8) : sOk (room + 1) hs = true := by
  obtain ⟨h1, h2, h3, h4⟩ := sOk_parts h
  have h5 := inB_true h2
  rw [sOk_mk h1 (inB_mk (by omega) (by omega)) h3]
  unfold free at *
  simp; omega
theorem free_more (room : Int) (hs : List H) : free (room + 1) hs = free room hs + 1 := by unfold free; omega
theorem next_more {h x : H} {k m F : Int} (e : next h k m F = some x) : next h k m (F + 1) = some x := by
  unfold next at *
  by_cases k1 : k = 1
  · simp only [k1, if_true] at *
    by_cases c : h.2 = 0 ∧ m ≤ F
    · rw [if_pos c] at e; rw [if_pos ⟨c.1, by omega⟩]; exact e
    · rw [if_neg c] at e; cases e
  · simp only [k1, if_false] at *; exact e
theorem behind_more {room : Int} {hs : List H} {k t : Int} {zs : List Int} {x : H} (hr : room ≤ 8) (e : behind room hs k t zs = some x) : behind (room + 1) hs k t zs = some x := by
  unfold behind at *
  by_cases c : sOk room hs = true ∧ recOk k t zs = true
  · rw [if_pos c] at e
    rw [if_pos ⟨sOk_more c.1 hr, c.2⟩, free_more]; exact next_more e
  · rw [if_neg c] at e; cases e
theorem sDo_more {room : Int} {hs hs' : List H} {k t : Int} {zs : List Int} (hr : room ≤ 8) (e : sDo room hs k t zs = some hs') : sDo (room + 1) hs k t zs = some hs' := by
  unfold sDo at *
  cases b : behind room hs k t zs with
  | none => rw [b] at e; cases e
  | some x => rw [b] at e; rw [behind_more hr b]; exact e
theorem sRun_more {room : Int} (hr : room ≤ 8) : ∀ (rs : List (Int × Int × List Int)) {hs hs' : List H}, sRun room rs hs = some hs' → sRun (room + 1) rs hs = some hs'
  | [], _, _, h => h
  | r :: t, hs, hs', h => by
    simp only [sRun] at h ⊢
    cases e : sDo room hs r.1 r.2.1 r.2.2 with
    | none => rw [e] at h; cases h
    | some h1 => rw [e] at h; rw [sDo_more hr e]; exact sRun_more hr t h
theorem sOf_more {room : Int} {rs : List (Int × Int × List Int)} {hs : List H} (hr : room ≤ 8) (h : sOf room rs = some hs) : sOf (room + 1) rs = some hs := by
  unfold sOf at *
  by_cases c : inB room 0 9 = true
  · rw [if_pos c] at h
    have := inB_true c
    rw [if_pos (inB_mk (by omega) (by omega))]; exact sRun_more hr rs h
  · rw [if_neg c] at h; cases h
end Pl

end Go.Proofs.YtgeagfglkgpoiaaDoor

namespace Go.Proofs.YtgeagfglkgpoiaaDoor
open Go.RowKit

/-- A house as a value: its number, whether it is up, how many it has, its log. -/
abbrev houseV (id : Int) (up : Bool) (room : Int) (v : Value) (f : Int) : Value := .agg #[.int .i64 id, .bool up, .int .i64 room, v, .int .i64 f]

/-- A house comes back, in memory of the call's own. -/
def HoOut (w w' : World) (e : Ending) (id : Int) (up : Bool) (room : Int) (rs : List R) (f : Int) : Prop :=
  ∃ ao cap, e = .returned (houseV id up room (.slice ao rs.length cap) f) ∧ Made w' w.heap.size (.slice ao rs.length cap) rs ∧ Below w.heap.size w w'

/-- A block that holds a house. -/
def Five (w : World) (b : Nat) (id : Int) (up : Bool) (room : Int) (v : Value) (f : Int) (ty : TypeId) : Prop := w.heap[b]? = some (.cells #[.int .i64 id, .bool up, .int .i64 room, v, .int .i64 f] ty (0, 0))
theorem Five.new (w : World) (id : Int) (up : Bool) (room : Int) (v : Value) (f : Int) (ty : TypeId) : Five (w.alloc (.cells #[.int .i64 id, .bool up, .int .i64 room, v, .int .i64 f] ty)) w.heap.size id up room v f ty := heap_alloc_new w _
theorem Five.lt {w : World} {b : Nat} {id : Int} {up : Bool} {room : Int} {v : Value} {f : Int} {ty : TypeId} (h : Five w b id up room v f ty) : b < w.heap.size := by
  by_cases e : b < w.heap.size
  · exact e
  · unfold Five at h; rw [Array.getElem?_eq_none (by omega)] at h; cases h
theorem Five.later {w w' : World} {b L : Nat} {id : Int} {up : Bool} {room : Int} {v : Value} {f : Int} {ty : TypeId} (h : Five w b id up room v f ty) (hb : Below L w w') (hL : b < L) : Five w' b id up room v f ty := by
  unfold Five; rw [hb.block b hL]; exact h
theorem Five.mid {w w' : World} {b l h' : Nat} {id : Int} {up : Bool} {room : Int} {v : Value} {f : Int} {ty : TypeId} (h : Five w b id up room v f ty) (hm : Mid l h' w w') (hb : b < l ∨ h' ≤ b) : Five w' b id up room v f ty := by
  unfold Five; rw [hm.block b h.lt hb]; exact h
theorem Five.cells {w : World} {b : Nat} {id : Int} {up : Bool} {room : Int} {v : Value} {f : Int} {ty : TypeId} (h : Five w b id up room v f ty) :
    w.cell? ⟨b, 0, none⟩ = some (.int .i64 id) ∧ w.cell? ⟨b, 1, none⟩ = some (.bool up) ∧ w.cell? ⟨b, 2, none⟩ = some (.int .i64 room) ∧ w.cell? ⟨b, 3, none⟩ = some v ∧ w.cell? ⟨b, 4, none⟩ = some (.int .i64 f) := by
  refine ⟨?_, ?_, ?_, ?_, ?_⟩ <;> (rw [cell_of_row w _ _ _ _ _ h]; rfl)
theorem Five.free {w : World} {b : Nat} {id : Int} {up : Bool} {room : Int} {v : Value} {f : Int} {ty : TypeId} (h : Five w b id up room v f ty) :
    w.frozen? ⟨b, 0, none⟩ = false ∧ w.frozen? ⟨b, 1, none⟩ = false ∧ w.frozen? ⟨b, 2, none⟩ = false ∧ w.frozen? ⟨b, 3, none⟩ = false ∧ w.frozen? ⟨b, 4, none⟩ = false :=
  ⟨frozen_of_row w _ _ _ _ h, frozen_of_row w _ _ _ _ h, frozen_of_row w _ _ _ _ h, frozen_of_row w _ _ _ _ h, frozen_of_row w _ _ _ _ h⟩

theorem Five.pinned {w : World} {b : Nat} {id : Int} {up : Bool} {room : Int} {v : Value} {f : Int} {ty : TypeId} (h : w.heap[b]? = some (.cells #[.int .i64 id, .bool up, .int .i64 room, v, .int .i64 f] ty (0, 0))) : Five w b id up room v f ty := h

end Go.Proofs.YtgeagfglkgpoiaaDoor

namespace Go.Proofs.YtgeagfglkgpoiaaDoor
open Go.RowKit

/-- A record as plain data: its kind, its trip, its numbers. -/
abbrev Rc := R

/-- A block as it lies. -/
def Blk (w : World) (b : Nat) (cs : Array Value) (ty : TypeId) : Prop := w.heap[b]? = some (.cells cs ty (0, 0))
theorem Blk.new (w : World) (cs : Array Value) (ty : TypeId) : Blk (w.alloc (.cells cs ty)) w.heap.size cs ty := heap_alloc_new w _
theorem Blk.lt {w : World} {b : Nat} {cs : Array Value} {ty : TypeId} (h : Blk w b cs ty) : b < w.heap.size := lt_of_heap h
theorem Blk.later {w w' : World} {b L : Nat} {cs : Array Value} {ty : TypeId} (h : Blk w b cs ty) (hb : Below L w w') (hL : b < L) : Blk w' b cs ty := by
  unfold Blk; rw [hb.block b hL]; exact h
theorem Blk.after {w w' : World} {b : Nat} {cs : Array Value} {ty : TypeId} (h : Blk w b cs ty) (hb : Below w.heap.size w w') : Blk w' b cs ty := h.later hb h.lt
theorem Blk.mid {w w' : World} {b l h' : Nat} {cs : Array Value} {ty : TypeId} (h : Blk w b cs ty) (hm : Mid l h' w w') (hb : b < l ∨ h' ≤ b) : Blk w' b cs ty := by
  unfold Blk; rw [hm.block b h.lt hb]; exact h
theorem Blk.cell {w : World} {b : Nat} {cs : Array Value} {ty : TypeId} (h : Blk w b cs ty) (i : Nat) : w.cell? ⟨b, i, none⟩ = cs[i]? := cell_of_row w _ _ _ _ _ h
theorem Blk.free {w : World} {b : Nat} {cs : Array Value} {ty : TypeId} (h : Blk w b cs ty) (i : Nat) : w.frozen? ⟨b, i, none⟩ = false := frozen_of_row w _ _ _ _ h
theorem Blk.other {w : World} {b : Nat} {cs : Array Value} {ty : TypeId} (h : Blk w b cs ty) {a : Addr} (ha : b ≠ a.block) (x : Value) : Blk (w.setCell a x) b cs ty := by
  unfold Blk; rw [Below.heap_setCell _ _ _ _ ha]; exact h
theorem Blk.alloc {w : World} {b : Nat} {cs : Array Value} {ty : TypeId} (h : Blk w b cs ty) (o : Obj) : Blk (w.alloc o) b cs ty := h.after (alloc_below w o)
theorem Blk.cells5 {w : World} {b : Nat} {x0 x1 x2 x3 x4 : Value} {ty : TypeId} (h : Blk w b #[x0, x1, x2, x3, x4] ty) :
    w.cell? ⟨b, 0, none⟩ = some x0 ∧ w.cell? ⟨b, 1, none⟩ = some x1 ∧ w.cell? ⟨b, 2, none⟩ = some x2 ∧ w.cell? ⟨b, 3, none⟩ = some x3 ∧ w.cell? ⟨b, 4, none⟩ = some x4 := by
  refine ⟨?_, ?_, ?_, ?_, ?_⟩ <;> (rw [h.cell]; rfl)
theorem Blk.cells2 {w : World} {b : Nat} {x0 x1 : Value} {ty : TypeId} (h : Blk w b #[x0, x1] ty) :
    w.cell? ⟨b, 0, none⟩ = some x0 ∧ w.cell? ⟨b, 1, none⟩ = some x1 := by
  refine ⟨?_, ?_⟩ <;> (rw [h.cell]; rfl)
theorem Blk.free5 {w : World} {b : Nat} {cs : Array Value} {ty : TypeId} (h : Blk w b cs ty) :
    w.frozen? ⟨b, 0, none⟩ = false ∧ w.frozen? ⟨b, 1, none⟩ = false ∧ w.frozen? ⟨b, 2, none⟩ = false ∧ w.frozen? ⟨b, 3, none⟩ = false ∧ w.frozen? ⟨b, 4, none⟩ = false :=
  ⟨h.free 0, h.free 1, h.free 2, h.free 3, h.free 4⟩
theorem Blk.new2 (w : World) (o : Obj) (cs : Array Value) (ty : TypeId) : Blk ((w.alloc o).alloc (.cells cs ty)) (w.heap.size + 1) cs ty := by
  have h := Blk.new (w.alloc o) cs ty
  rw [size1] at h
  exact h
theorem Blk.set_ {w : World} {b : Nat} {cs : Array Value} {ty : TypeId} (h : Blk w b cs ty) (i : Nat) (x : Value) : Blk (w.setCell ⟨b, i, none⟩ x) b (cs.setIfInBounds i x) ty := by
  unfold Blk; rw [heap_setCell_same w b i _ _ x h]

theorem Blk.drew {w : World} {b : Nat} {cs : Array Value} {ty : TypeId} (h : Blk w b cs ty) : Blk w.drew b cs ty := h.after (Below.refl _ _).drew
/-- Blocks of unlike types are not one. -/
theorem Blk.ne {w : World} {b b' : Nat} {cs cs' : Array Value} {ty ty' : TypeId} (h : Blk w b cs ty) (h' : Blk w b' cs' ty') (ht : ty ≠ ty') : b ≠ b' := by
  intro e
  subst e
  unfold Blk at h h'
  rw [h] at h'
  simp at h'
  exact ht h'.2
theorem Blk.cells3 {w : World} {b : Nat} {x0 x1 x2 : Value} {ty : TypeId} (h : Blk w b #[x0, x1, x2] ty) :
    w.cell? ⟨b, 0, none⟩ = some x0 ∧ w.cell? ⟨b, 1, none⟩ = some x1 ∧ w.cell? ⟨b, 2, none⟩ = some x2 := by
  refine ⟨?_, ?_, ?_⟩ <;> (rw [h.cell]; rfl)
theorem row_apart {w : World} {base : Nat} {ty ty' : TypeId} {sz n g : Nat} {x : Value} {xs : List Value} {cur : Array Value} {fz : Nat × Nat} (hr : w.ownsRow base ty sz x n xs) (hh : w.heap[g]? = some (.cells cur ty' fz)) (ht : ty ≠ ty') : ∀ k, x.ownBlock = some k → k ≠ g := by
  intro k hk e
  subst e
  rcases hr.2 with ⟨hv, _⟩ | ⟨g', cap, cur', hv, _, h2, _⟩
  · rw [hv] at hk; simp [Value.ownBlock] at hk
  · rw [hv] at hk
    simp [Value.ownBlock] at hk
    subst hk
    rw [hh] at h2
    simp at h2
    exact ht h2.2.1.symm
/-- A row of the call's own is no such block. -/
theorem Blk.off {w : World} {b base sz n : Nat} {cs : Array Value} {ty ty' : TypeId} {v : Value} {xs : List Value} (h : Blk w b cs ty) (hr : w.ownsRow base ty' sz v n xs) (ht : ty' ≠ ty) : v.ownBlock ≠ some b := fun e => row_apart hr h ht b e rfl

end Go.Proofs.YtgeagfglkgpoiaaDoor

namespace Go.Proofs.YtgeagfglkgpoiaaDoor
open Go.RowKit

/-- A keeper as a value: its log, its number, whether it is up, how many it has. -/
abbrev keeperV (v : Value) (f id : Int) (up : Bool) (room : Int) : Value := .agg #[v, .int .i64 f, .int .i64 id, .bool up, .int .i64 room]

set_option maxHeartbeats 1000000 in
theorem keeperOf_any (id : Int) (up : Bool) (room : Int) (ao : Option Addr) (n cap : Nat) (f : Int) (w : World) :
    Calls Tryd.prog 24 #[houseV id up room (.slice ao n cap) f] w fun e w' => e = .returned (keeperV (.slice ao n cap) f id up room) ∧ Below w.heap.size w w' := by
  go_enter Tryd.func24, Tryd.ntmps24
  go_wp2
  refine bodyPost_ret (v := keeperV (.slice ao n cap) f id up room) (by simp [results, Tryd.results24, go_sem]) rfl ⟨rfl, ?_⟩
  exact below2 w _ _

set_option maxHeartbeats 2000000 in
theorem l11Copy_any (id : Int) (up : Bool) (room : Int) (v : Value) (rs : List R) (f : Int) (w : World) (hv : Recs w v rs) (hl : tot rs ≤ 1048576) :
    Calls Tryd.prog 36 #[houseV id up room v f] w fun e w' => HoOut w w' e id up room rs f := by
  have HS : Hid (∀ W, Below w.heap.size w W → Calls Tryd.prog 53 #[.agg #[v, .int .i64 f]] W fun e w' => LogOut W w' e rs f) := fun W h => l1Copy_any v rs f W (hv.later h (Nat.le_refl _)) hl
  obtain ⟨av, cv, rfl⟩ := hv.shape
  clear hv
  obtain ⟨w0, hw0⟩ : ∃ W, Hid (W = (w.alloc (.cells #[.int .i64 id, .bool up, .int .i64 room, .slice av rs.length cv, .int .i64 f] 27)).alloc (.cells #[.int .i64 0, .bool false, .int .i64 0, .slice none 0 0, .int .i64 0] 27)) := ⟨_, rfl⟩
  have B0 : Hid (Below w.heap.size w w0) := by show Below _ _ _; rw [hw0.out]; exact below2 _ _ _
  have X0 : Hid (Blk w0 w.heap.size #[.int .i64 id, .bool up, .int .i64 room, .slice av rs.length cv, .int .i64 f] 27) := by show Blk _ _ _ _; rw [hw0.out]; exact (Blk.new _ _ _).alloc _
  have Z0 : Hid (Blk w0 (w.heap.size + 1) #[.int .i64 0, .bool false, .int .i64 0, .slice none 0 0, .int .i64 0] 27) := by show Blk _ _ _ _; rw [hw0.out]; exact Blk.new2 _ _ _ _
  have hs0 : w0.heap.size = w.heap.size + 2 := by rw [hw0.out, size2]
  go_enter Tryd.func36, Tryd.ntmps36
  go_wp2_with fail
  rw [← hw0.out]
  refine (HS.out _ B0.out).mono ?_
  rintro e w1 ⟨ao, cap, rfl, hm, hb⟩
  obtain ⟨x0, x1, x2, x3, x4⟩ := (X0.out.after hb).cells5
  obtain ⟨z0, z1, z2, z3, z4⟩ := (Z0.out.after hb).cells5
  obtain ⟨xf0, xf1, xf2, xf3, xf4⟩ := (X0.out.after hb).free5
  obtain ⟨zf0, zf1, zf2, zf3, zf4⟩ := (Z0.out.after hb).free5
  have HM := hide_it hm
  have HB := hide_it (B0.out.trans (hb.mono B0.out.size))
  have hz : w.heap.size + 2 ≤ w1.heap.size := by have := hb.size; omega
  clear hm hb
  go_wp2
  refine bodyPost_ret (v := houseV id up room (.slice ao rs.length cap) f) (by simp [results, Tryd.results36, go_sem, *]) rfl ?_
  refine ⟨ao, cap, rfl, ?_, ?_⟩
  · refine Made.lo ?_ (show w.heap.size ≤ w0.heap.size by omega)
    repeat (refine Made.setBelow ?_ (by simp; omega) _)
    exact HM.out
  · repeat (refine Below.setCell ?_ (by first | (simp; done) | (simp; omega)) _)
    exact HB.out

set_option maxHeartbeats 4000000 in
theorem keeperHouse_any (id : Int) (up : Bool) (room : Int) (v : Value) (rs : List R) (f : Int) (w : World) (hv : Recs w v rs) (hl : tot rs ≤ 1048576) :
    Calls Tryd.prog 34 #[keeperV v f id up room] w fun e w' => HoOut w w' e id up room rs f := by
  have HS : Hid (∀ W, Below w.heap.size w W → Calls Tryd.prog 50 #[v] W fun e w' => ∃ ao cap, e = .returned (.slice ao rs.length cap) ∧ Made w' W.heap.size (.slice ao rs.length cap) rs ∧ Below W.heap.size W w') := fun W h =>
    copyRecs_any v rs W (hv.later h (Nat.le_refl _)) hl
  obtain ⟨av, cv, rfl⟩ := hv.shape
  clear hv
  obtain ⟨w0, hw0⟩ : ∃ W, Hid (W = (w.alloc (.cells #[.slice av rs.length cv, .int .i64 f, .int .i64 id, .bool up, .int .i64 room] 52)).alloc (.cells #[.int .i64 0, .bool false, .int .i64 0, .slice none 0 0, .int .i64 0] 27)) := ⟨_, rfl⟩
  have B0 : Hid (Below w.heap.size w w0) := by show Below _ _ _; rw [hw0.out]; exact below2 _ _ _
  have X0 : Hid (Blk w0 w.heap.size #[.slice av rs.length cv, .int .i64 f, .int .i64 id, .bool up, .int .i64 room] 52) := by show Blk _ _ _ _; rw [hw0.out]; exact (Blk.new _ _ _).alloc _
  have Z0 : Hid (Blk w0 (w.heap.size + 1) #[.int .i64 0, .bool false, .int .i64 0, .slice none 0 0, .int .i64 0] 27) := by show Blk _ _ _ _; rw [hw0.out]; exact Blk.new2 _ _ _ _
  have hs0 : w0.heap.size = w.heap.size + 2 := by rw [hw0.out, size2]
  obtain ⟨x0, x1, x2, x3, x4⟩ := X0.out.cells5
  go_enter Tryd.func34, Tryd.ntmps34
  go_wp2_with fail
  rw [← hw0.out]
  go_region_held (fun w' => w'.cell? ⟨w.heap.size, 0, none⟩ = some (.slice av rs.length cv) ∧ w'.cell? ⟨w.heap.size, 1, none⟩ = some (.int .i64 f) ∧ w'.cell? ⟨w.heap.size, 2, none⟩ = some (.int .i64 id) ∧ w'.cell? ⟨w.heap.size, 3, none⟩ = some (.bool up) ∧ w'.cell? ⟨w.heap.size, 4, none⟩ = some (.int .i64 room)) (go_keep)
    ((go_at_call 50; refine (HS.out _ B0.out.drew).mono ?_; rintro e w1 ⟨ao, cap, rfl, hm, hb⟩; have hb' := (Below.refl w0.heap.size w0).drew.trans hb; obtain ⟨y0, y1, y2, y3, y4⟩ := (X0.out.after hb').cells5; obtain ⟨z0, z1, z2, z3, z4⟩ := (Z0.out.after hb').cells5; obtain ⟨zf0, zf1, zf2, zf3, zf4⟩ := (Z0.out.after hb').free5; have HM := hide_it hm; have HB := hide_it (B0.out.trans (hb'.mono B0.out.size)); have hz : w.heap.size + 2 ≤ w1.heap.size := (by have := hb'.size; omega); clear hm hb hb'))
  all_goals
    go_wp2
    refine bodyPost_ret (v := houseV id up room (.slice ao rs.length cap) f) (by simp [results, Tryd.results34, go_sem, *]) rfl ?_
    refine ⟨ao, cap, rfl, ?_, ?_⟩
    · refine Made.lo ?_ (show w.heap.size ≤ w0.heap.size by omega)
      repeat (refine Made.setBelow ?_ (by simp; omega) _)
      exact HM.out
    · repeat (refine Below.setCell ?_ (by first | (simp; done) | (simp; omega)) _)
      exact HB.out

end Go.Proofs.YtgeagfglkgpoiaaDoor
