/- The contract of the program's holdBehind: what a record makes of its trip's hold. For stocks of at most 1048576 holds and records of at most 1048576 numbers, in a world in which the sentinel's variable holds a pointer to an errors.errorString. -/
import Derived.Test.YtmkikenacnemkaaDoorKStep
import Derived.Test.YtmkikenacnemkaaDoorToRec
namespace Go.Proofs.YtmkikenacnemkaaDoor
open Go.RowKit

/-- The two boxes and the answer's own, as holdBehind begins. -/
def Box3 (W : World) (B : Nat) (x y : Value) (k t : Int) (u : Value) : Prop :=
  Duo W B x y ∧ RecAt W (B + 1) k t u ∧ W.cell? ⟨B + 2, 0, none⟩ = some (.int .i64 0) ∧ W.cell? ⟨B + 2, 1, none⟩ = some (.int .i64 0) ∧ W.frozen? ⟨B + 2, 0, none⟩ = false ∧ W.frozen? ⟨B + 2, 1, none⟩ = false
theorem Box3.later {C : Nat} {W W' : World} {B : Nat} {x y : Value} {k t : Int} {u : Value} (h : Box3 W B x y k t u) (hb : Below C W W') (hC : W.heap.size ≤ C) : Box3 W' B x y k t u := by
  obtain ⟨h1, h2, h3, h4, h5, h6⟩ := h
  have hlt := World.block_lt_of_cell? _ _ h3
  simp at hlt
  refine ⟨h1.later hb hC, h2.later hb hC, ?_, ?_, ?_, ?_⟩
  · rw [← h3]; exact hb.cell (p := ⟨B + 2, 0, none⟩) (by simp; omega)
  · rw [← h4]; exact hb.cell (p := ⟨B + 2, 1, none⟩) (by simp; omega)
  · rw [← h5]; exact hb.frozen (p := ⟨B + 2, 0, none⟩) (by simp; omega)
  · rw [← h6]; exact hb.frozen (p := ⟨B + 2, 1, none⟩) (by simp; omega)
theorem Box3.new (w : World) (x y : Value) (k t : Int) (u : Value) (t1 t2 t3 : TypeId) : Box3 (((w.alloc (.cells #[x, y] t1)).alloc (.cells #[.int .i64 k, .int .i64 t, u] t2)).alloc (.cells #[.int .i64 0, .int .i64 0] t3)) w.heap.size x y k t u := by
  refine ⟨⟨?_, ?_⟩, ⟨?_, ?_, ?_⟩, ?_, ?_, ?_, ?_⟩ <;> simp [go_sem]

theorem two_set_cells (W : World) (B : Nat) (x y : Value) (b o : Nat) (h : b < B) : ((W.setCell ⟨B, 0, none⟩ x).setCell ⟨B, 1, none⟩ y).cell? ⟨b, o, none⟩ = W.cell? ⟨b, o, none⟩ :=
  (((Below.refl B W).setCell (Nat.le_refl _) x).setCell (Nat.le_refl _) y).cell (p := ⟨b, o, none⟩) h

theorem StepOut.none_ {W w' : World} {p q : Int} (hb : Below W.heap.size W w') : StepOut W w' (.returned (.tuple #[.agg #[.int .i64 p, .int .i64 q], .bool false])) none := ⟨p, q, rfl, fun h hh => (by cases hh), hb⟩

set_option maxHeartbeats 2000000 in
theorem behind_noStock (room : Int) (v : Value) (hs : List Pl.H) (k t : Int) (u : Value) (zs : List Int) (w : World) (hv : Holds w v hs) (hl : hs.length ≤ 1048576) (hu : ∃ au n cu, u = .slice au n cu) (hok : Pl.sOk room hs = false) :
    Calls Tryd.prog 18 #[.agg #[.int .i64 room, v], .agg #[.int .i64 k, .int .i64 t, u]] w fun e w' => StepOut w w' e (Pl.behind room hs k t zs) := by
  rw [Pl.behind_stock k t zs hok]
  have HV : Hid (∀ W, Below w.heap.size w W → Holds W v hs) := fun W h => hv.later h (Nat.le_refl _)
  obtain ⟨av, cv, rfl⟩ := hv.shape
  obtain ⟨au, n, cu, rfl⟩ := hu
  have BX := hide_it (Box3.new w (.int .i64 room) (.slice av hs.length cv) k t (.slice au n cu) 26 44 40)
  clear hv
  go_enter Tryd.func18, Tryd.ntmps18
  go_wp2_with fail
  refine (implStockOk_any room _ hs _ (HV.out _ (below3 w _ _ _)) hl).mono ?_
  rintro e w1 ⟨rfl, hb1⟩
  rw [hok]
  have B1 := hide_it ((below3 w _ _ _).trans (hb1.mono (by simp; omega)))
  obtain ⟨⟨x0, x1⟩, ⟨r0, r1, r2⟩, q0, q1, f0, f1⟩ := BX.out.later hb1 (Nat.le_refl _)
  clear hb1
  go_wp2
  exact bodyPost_ret (v := .tuple #[.agg #[.int .i64 0, .int .i64 0], .bool false]) (by simp [results, Tryd.results18, go_sem, q0, q1]) rfl (StepOut.none_ ((B1.out.setCell (by simp; omega) _).setCell (by simp; omega) _))

set_option maxHeartbeats 2000000 in
theorem behind_noRec (room : Int) (v : Value) (hs : List Pl.H) (k t : Int) (u : Value) (zs : List Int) (a : Addr) (w : World) (hv : Holds w v hs) (hl : hs.length ≤ 1048576) (hu : Ints w u zs) (hzl : zs.length ≤ 1048576) (ha : ErrAt w a) (hok : Pl.sOk room hs = true) (hrec : Pl.recOk k t zs = false) :
    Calls Tryd.prog 18 #[.agg #[.int .i64 room, v], .agg #[.int .i64 k, .int .i64 t, u]] w fun e w' => StepOut w w' e (Pl.behind room hs k t zs) := by
  rw [Pl.behind_rec room hs hrec]
  have HV : Hid (∀ W, Below w.heap.size w W → Holds W v hs) := fun W h => hv.later h (Nat.le_refl _)
  have HU : Hid (∀ W, Below w.heap.size w W → Ints W u zs) := fun W h => hu.later h (Nat.le_refl _)
  have HA : Hid (∀ W, Below w.heap.size w W → ErrAt W a) := fun W h => ha.later h (Nat.le_refl _)
  obtain ⟨av, cv, rfl⟩ := hv.shape
  obtain ⟨au, cu, rfl⟩ := hu.shape
  have BX := hide_it (Box3.new w (.int .i64 room) (.slice av hs.length cv) k t (.slice au zs.length cu) 26 44 40)
  clear hv hu ha
  go_enter Tryd.func18, Tryd.ntmps18
  go_wp2_with fail
  refine (implStockOk_any room _ hs _ (HV.out _ (below3 w _ _ _)) hl).mono ?_
  rintro e w1 ⟨rfl, hb1⟩
  rw [hok]
  have B1 := hide_it ((below3 w _ _ _).trans (hb1.mono (by simp; omega)))
  have BX1 := hide_it (BX.out.later hb1 (Nat.le_refl _))
  obtain ⟨⟨x0, x1⟩, ⟨r0, r1, r2⟩, q0, q1, f0, f1⟩ := BX1.out
  clear hb1
  go_wp2_with fail
  refine (implOk_any k t _ zs a w1 (HU.out _ B1.out) hzl (HA.out _ B1.out)).mono ?_
  rintro e w2 ⟨rfl, hb2⟩
  rw [hrec]
  have B2 := hide_it (B1.out.trans (hb2.mono B1.out.size))
  clear x0 x1 r0 r1 r2 q0 q1 f0 f1
  obtain ⟨⟨x0, x1⟩, ⟨r0, r1, r2⟩, q0, q1, f0, f1⟩ := BX1.out.later hb2 (Nat.le_refl _)
  clear hb2
  go_wp2
  exact bodyPost_ret (v := .tuple #[.agg #[.int .i64 0, .int .i64 0], .bool false]) (by simp [results, Tryd.results18, go_sem, q0, q1]) rfl (StepOut.none_ ((B2.out.setCell (by simp; omega) _).setCell (by simp; omega) _))

set_option maxRecDepth 100000 in
set_option maxHeartbeats 4000000 in
theorem behind_K1 (room : Int) (v : Value) (hs : List Pl.H) (t : Int) (u : Value) (zs : List Int) (a : Addr) (w : World) (hv : Holds w v hs) (hu : Ints w u zs) (hzl : zs.length ≤ 1048576) (ha : ErrAt w a) (hok : Pl.sOk room hs = true) (hrec : Pl.recOk 1 t zs = true) :
    Calls Tryd.prog 18 #[.agg #[.int .i64 room, v], .agg #[.int .i64 1, .int .i64 t, u]] w fun e w' => StepOut w w' e (Pl.behind room hs 1 t zs) := by
  rw [Pl.behind_ok hok hrec]
  obtain ⟨p1, p2, p3, p4⟩ := Pl.sOk_parts hok
  have HV : Hid (∀ W, Below w.heap.size w W → Holds W v hs) := fun W h => hv.later h (Nat.le_refl _)
  have HU : Hid (∀ W, Below w.heap.size w W → Ints W u zs) := fun W h => hu.later h (Nat.le_refl _)
  have HA : Hid (∀ W, Below w.heap.size w W → ErrAt W a) := fun W h => ha.later h (Nat.le_refl _)
  obtain ⟨i, hi, rfl, hat⟩ := trip_at hrec
  obtain ⟨F, hF⟩ : ∃ F, Pl.free room hs = F := ⟨_, rfl⟩
  have HFR : Hid (∀ W, Below w.heap.size w W → Calls Tryd.prog 10 #[.agg #[.int .i64 room, v]] W fun e w' => e = .returned (.int .i64 F) ∧ Below W.heap.size W w') := fun W h => by
    have := implFree_any room v hs W (HV.out W h) (by omega)
    rw [Pl.sFree_yes hok, hF] at this
    exact this
  obtain ⟨m, s, hms⟩ : ∃ m s, Pl.hAt hs ((i : Int) + 1) = (m, s) := ⟨_, _, rfl⟩
  rw [hF, hms]
  have HST : Hid (∀ W, Below w.heap.size w W → Calls Tryd.prog 24 #[.agg #[.int .i64 m, .int .i64 s], .agg #[.int .i64 1, .int .i64 ((i : Int) + 1), u], .int .i64 F] W fun e w' => StepOut W w' e (Pl.next (m, s) 1 (zs.headD 0) F)) := fun W h => by
    obtain ⟨z, rfl, _, _⟩ := Pl.recOk_hold hrec
    rcases HU.out W h with ⟨h, _⟩ | ⟨b2, off2, cap2, rfl, _, hc2⟩
    · simp at h
    · exact holdStep_any m s _ b2 off2 cap2 z F W (hc2 0 (by simp))
  obtain ⟨o, ho⟩ : ∃ o, Pl.next (m, s) 1 (zs.headD 0) F = o := ⟨_, rfl⟩
  rw [ho] at HST ⊢
  clear ho
  rcases hv with ⟨rfl, _⟩ | ⟨b, off, cap, rfl, hz, hc⟩
  · simp at p3
  have hmsd : hs.getD i (0, 0) = (m, s) := by rw [← hat]; exact hms
  have hbw : b < w.heap.size := World.block_lt_of_cell? _ _ (hc i (by omega)).1
  have HC : Hid (∀ W, Below w.heap.size w W → W.cell? ⟨b, off + i * 2, none⟩ = some (.int .i64 m) ∧ W.cell? ⟨b, off + i * 2 + 1, none⟩ = some (.int .i64 s)) := fun W h => by
    obtain ⟨h1, h2⟩ := hc i (by omega)
    rw [hmsd] at h1 h2
    have hl := World.block_lt_of_cell? _ _ h1
    simp at hl
    exact ⟨by rw [← h1]; exact h.cell (p := ⟨b, off + i * 2, none⟩) (by simp; omega), by rw [← h2]; exact h.cell (p := ⟨b, off + i * 2 + 1, none⟩) (by simp; omega)⟩
  rw [p3] at HFR ⊢
  have HOK : Hid (∀ W, Below w.heap.size w W → Calls Tryd.prog 9 #[.agg #[.int .i64 room, .slice (some ⟨b, off, none⟩) 6 cap]] W fun e w' => e = .returned (.bool true) ∧ Below W.heap.size W w') := fun W h => by
    have h1 := HV.out W h
    rw [p3] at h1
    have := implStockOk_any room _ hs W h1 (by omega)
    rw [hok] at this
    exact this
  obtain ⟨au, cu, rfl⟩ := hu.shape
  have BX := hide_it (Box3.new w (.int .i64 room) (.slice (some ⟨b, off, none⟩) 6 cap) 1 ((i : Int) + 1) (.slice au zs.length cu) 26 44 40)
  clear hc hz p1 p2 p3 p4 hat hms hmsd hF HV hu ha
  go_enter Tryd.func18, Tryd.ntmps18
  go_wp2_with fail
  refine (HOK.out _ (below3 w _ _ _)).mono ?_
  rintro e w1 ⟨rfl, hb1⟩
  have B1 := hide_it ((below3 w _ _ _).trans (hb1.mono (by simp; omega)))
  have BX1 := hide_it (BX.out.later hb1 (Nat.le_refl _))
  obtain ⟨⟨x0, x1⟩, ⟨r0, r1, r2⟩, q0, q1, f0, f1⟩ := BX1.out
  clear hb1
  go_wp2_with fail
  refine (implOk_any 1 _ _ zs a w1 (HU.out _ B1.out) hzl (HA.out _ B1.out)).mono ?_
  rintro e w2 ⟨rfl, hb2⟩
  rw [hrec]
  have B2 := hide_it (B1.out.trans (hb2.mono B1.out.size))
  have BX2 := hide_it (BX1.out.later hb2 (Nat.le_refl _))
  clear x0 x1 r0 r1 r2 q0 q1 f0 f1 hb2
  obtain ⟨⟨x0, x1⟩, ⟨r0, r1, r2⟩, q0, q1, f0, f1⟩ := BX2.out
  have hix : ∀ W, Sem.run Tryd.prog (Instr.index 55 (.agg #[.func (.func 23) #[] #[], .func (.func 24) #[] #[], .func (.func 25) #[] #[], .func (.func 26) #[] #[], .func (.func 23) #[] #[], .func (.func 23) #[] #[], .func (.func 23) #[] #[], .func (.func 23) #[] #[]]) (.int .i64 1)) W = .ok (.func (.func 24) #[] #[]) W := fun W => by kernel_rfl
  go_wp2_with fail
  go_region_held (fun w' => w'.cell? ⟨w.heap.size + 1, 0, none⟩ = some (.int .i64 1)) (go_keep)
    ((go_at_call 20; refine (steps_any _).mono ?_; rintro e w3 ⟨rfl, hb3⟩; have B3 := hide_it (B2.out.drew.trans (hb3.mono B2.out.size)); have BX3 := hide_it ((BX2.out.later (Below.refl _ _).drew (Nat.le_refl _)).later hb3 (Nat.le_refl _)); obtain ⟨_, ⟨s0, _⟩, _⟩ := BX3.out; clear hb3))
  have hi6 : (i : Int) < 6 := by omega
  have hwr : IntKind.i64.wrap ((i : Int) + 1 - 1) = (i : Int) := by simp [IntKind.wrap, IntKind.bits, IntKind.signed]; omega
  have hwi : IntKind.i64.wrap (i : Int) = (i : Int) := by simp [IntKind.wrap, IntKind.bits, IntKind.signed]; omega
  obtain ⟨d0, d1⟩ := HC.out _ B3.out
  obtain ⟨⟨y0, y1⟩, ⟨t0, t1, t2⟩, g0, g1, h0, h1⟩ := BX3.out
  clear x0 x1 r0 r1 r2 q0 q1 f0 f1 s0 hix
  go_wp2_with fail
  go_region_held (fun w' => w'.cell? ⟨w.heap.size, 0, none⟩ = some (.int .i64 room) ∧ w'.cell? ⟨w.heap.size, 1, none⟩ = some (.slice (some ⟨b, off, none⟩) 6 cap) ∧ w'.cell? ⟨w.heap.size + 1, 0, none⟩ = some (.int .i64 1) ∧ w'.cell? ⟨w.heap.size + 1, 1, none⟩ = some (.int .i64 ((i : Int) + 1)) ∧ w'.cell? ⟨w.heap.size + 1, 2, none⟩ = some (.slice au zs.length cu) ∧ w'.cell? ⟨b, off + i * 2, none⟩ = some (.int .i64 m) ∧ w'.cell? ⟨b, off + i * 2 + 1, none⟩ = some (.int .i64 s)) (first | (go_keep; done) | (refine ⟨?_, ?_, ?_, ?_, ?_, ?_, ?_⟩ <;> (rw [two_set_cells _ _ _ _ _ _ (by omega)]; assumption)))
    (first
    | (go_at_call 10; refine (HFR.out _ B3.out.drew).mono ?_; rintro e w4 ⟨rfl, hb4⟩; have B4 := hide_it (B3.out.drew.trans (hb4.mono B3.out.size)); have BX4 := hide_it ((BX3.out.later (Below.refl _ _).drew (Nat.le_refl _)).later hb4 (Nat.le_refl _)); obtain ⟨k0, k1⟩ := HC.out _ B4.out; obtain ⟨⟨l0, l1⟩, ⟨n0, n1, n2⟩, _⟩ := BX4.out; clear hb4)
    | (go_at_call 24; refine (HST.out _ B4.out).mono ?_; rintro e w5 ⟨p, q, rfl, hpq, hb5⟩; have HPQ := hide_it hpq; have B5 := hide_it (B4.out.trans (hb5.mono B4.out.size)); have BX5 := hide_it (BX4.out.later hb5 (Nat.le_refl _)); obtain ⟨m0, m1⟩ := HC.out _ B5.out; obtain ⟨⟨o0, o1⟩, ⟨v0, v1, v2⟩, z0, z1, j0, j1⟩ := BX5.out; have hw5 : w.heap.size + 2 < w5.heap.size := World.block_lt_of_cell? _ _ z0; clear hb5 hpq))
  go_wp2
  exact bodyPost_ret (v := .tuple #[.agg #[.int .i64 p, .int .i64 q], .bool o.isSome]) (by simp [results, Tryd.results18, go_sem, z0, z1]) rfl ⟨p, q, rfl, HPQ.out, (B5.out.setCell (by simp; omega) _).setCell (by simp; omega) _⟩

set_option maxRecDepth 100000 in
set_option maxHeartbeats 4000000 in
theorem behind_K2 (room : Int) (v : Value) (hs : List Pl.H) (t : Int) (u : Value) (zs : List Int) (a : Addr) (w : World) (hv : Holds w v hs) (hu : Ints w u zs) (hzl : zs.length ≤ 1048576) (ha : ErrAt w a) (hok : Pl.sOk room hs = true) (hrec : Pl.recOk 2 t zs = true) :
    Calls Tryd.prog 18 #[.agg #[.int .i64 room, v], .agg #[.int .i64 2, .int .i64 t, u]] w fun e w' => StepOut w w' e (Pl.behind room hs 2 t zs) := by
  rw [Pl.behind_ok hok hrec]
  obtain ⟨p1, p2, p3, p4⟩ := Pl.sOk_parts hok
  have HV : Hid (∀ W, Below w.heap.size w W → Holds W v hs) := fun W h => hv.later h (Nat.le_refl _)
  have HU : Hid (∀ W, Below w.heap.size w W → Ints W u zs) := fun W h => hu.later h (Nat.le_refl _)
  have HA : Hid (∀ W, Below w.heap.size w W → ErrAt W a) := fun W h => ha.later h (Nat.le_refl _)
  obtain ⟨i, hi, rfl, hat⟩ := trip_at hrec
  obtain ⟨F, hF⟩ : ∃ F, Pl.free room hs = F := ⟨_, rfl⟩
  have HFR : Hid (∀ W, Below w.heap.size w W → Calls Tryd.prog 10 #[.agg #[.int .i64 room, v]] W fun e w' => e = .returned (.int .i64 F) ∧ Below W.heap.size W w') := fun W h => by
    have := implFree_any room v hs W (HV.out W h) (by omega)
    rw [Pl.sFree_yes hok, hF] at this
    exact this
  obtain ⟨m, s, hms⟩ : ∃ m s, Pl.hAt hs ((i : Int) + 1) = (m, s) := ⟨_, _, rfl⟩
  rw [hF, hms]
  have HST : Hid (∀ W, Below w.heap.size w W → Calls Tryd.prog 25 #[.agg #[.int .i64 m, .int .i64 s], .agg #[.int .i64 2, .int .i64 ((i : Int) + 1), u], .int .i64 F] W fun e w' => StepOut W w' e (Pl.next (m, s) 2 (zs.headD 0) F)) := fun W h => by
    obtain ⟨au, cu, e⟩ := hu.shape
    exact closeStep_any m s _ u _ F W ⟨au, _, cu, e⟩
  obtain ⟨o, ho⟩ : ∃ o, Pl.next (m, s) 2 (zs.headD 0) F = o := ⟨_, rfl⟩
  rw [ho] at HST ⊢
  clear ho
  rcases hv with ⟨rfl, _⟩ | ⟨b, off, cap, rfl, hz, hc⟩
  · simp at p3
  have hmsd : hs.getD i (0, 0) = (m, s) := by rw [← hat]; exact hms
  have hbw : b < w.heap.size := World.block_lt_of_cell? _ _ (hc i (by omega)).1
  have HC : Hid (∀ W, Below w.heap.size w W → W.cell? ⟨b, off + i * 2, none⟩ = some (.int .i64 m) ∧ W.cell? ⟨b, off + i * 2 + 1, none⟩ = some (.int .i64 s)) := fun W h => by
    obtain ⟨h1, h2⟩ := hc i (by omega)
    rw [hmsd] at h1 h2
    have hl := World.block_lt_of_cell? _ _ h1
    simp at hl
    exact ⟨by rw [← h1]; exact h.cell (p := ⟨b, off + i * 2, none⟩) (by simp; omega), by rw [← h2]; exact h.cell (p := ⟨b, off + i * 2 + 1, none⟩) (by simp; omega)⟩
  rw [p3] at HFR ⊢
  have HOK : Hid (∀ W, Below w.heap.size w W → Calls Tryd.prog 9 #[.agg #[.int .i64 room, .slice (some ⟨b, off, none⟩) 6 cap]] W fun e w' => e = .returned (.bool true) ∧ Below W.heap.size W w') := fun W h => by
    have h1 := HV.out W h
    rw [p3] at h1
    have := implStockOk_any room _ hs W h1 (by omega)
    rw [hok] at this
    exact this
  obtain ⟨au, cu, rfl⟩ := hu.shape
  have BX := hide_it (Box3.new w (.int .i64 room) (.slice (some ⟨b, off, none⟩) 6 cap) 2 ((i : Int) + 1) (.slice au zs.length cu) 26 44 40)
  clear hc hz p1 p2 p3 p4 hat hms hmsd hF HV hu ha
  go_enter Tryd.func18, Tryd.ntmps18
  go_wp2_with fail
  refine (HOK.out _ (below3 w _ _ _)).mono ?_
  rintro e w1 ⟨rfl, hb1⟩
  have B1 := hide_it ((below3 w _ _ _).trans (hb1.mono (by simp; omega)))
  have BX1 := hide_it (BX.out.later hb1 (Nat.le_refl _))
  obtain ⟨⟨x0, x1⟩, ⟨r0, r1, r2⟩, q0, q1, f0, f1⟩ := BX1.out
  clear hb1
  go_wp2_with fail
  refine (implOk_any 2 _ _ zs a w1 (HU.out _ B1.out) hzl (HA.out _ B1.out)).mono ?_
  rintro e w2 ⟨rfl, hb2⟩
  rw [hrec]
  have B2 := hide_it (B1.out.trans (hb2.mono B1.out.size))
  have BX2 := hide_it (BX1.out.later hb2 (Nat.le_refl _))
  clear x0 x1 r0 r1 r2 q0 q1 f0 f1 hb2
  obtain ⟨⟨x0, x1⟩, ⟨r0, r1, r2⟩, q0, q1, f0, f1⟩ := BX2.out
  have hix : ∀ W, Sem.run Tryd.prog (Instr.index 55 (.agg #[.func (.func 23) #[] #[], .func (.func 24) #[] #[], .func (.func 25) #[] #[], .func (.func 26) #[] #[], .func (.func 23) #[] #[], .func (.func 23) #[] #[], .func (.func 23) #[] #[], .func (.func 23) #[] #[]]) (.int .i64 2)) W = .ok (.func (.func 25) #[] #[]) W := fun W => by kernel_rfl
  go_wp2_with fail
  go_region_held (fun w' => w'.cell? ⟨w.heap.size + 1, 0, none⟩ = some (.int .i64 2)) (go_keep)
    ((go_at_call 20; refine (steps_any _).mono ?_; rintro e w3 ⟨rfl, hb3⟩; have B3 := hide_it (B2.out.drew.trans (hb3.mono B2.out.size)); have BX3 := hide_it ((BX2.out.later (Below.refl _ _).drew (Nat.le_refl _)).later hb3 (Nat.le_refl _)); obtain ⟨_, ⟨s0, _⟩, _⟩ := BX3.out; clear hb3))
  have hi6 : (i : Int) < 6 := by omega
  have hwr : IntKind.i64.wrap ((i : Int) + 1 - 1) = (i : Int) := by simp [IntKind.wrap, IntKind.bits, IntKind.signed]; omega
  have hwi : IntKind.i64.wrap (i : Int) = (i : Int) := by simp [IntKind.wrap, IntKind.bits, IntKind.signed]; omega
  obtain ⟨d0, d1⟩ := HC.out _ B3.out
  obtain ⟨⟨y0, y1⟩, ⟨t0, t1, t2⟩, g0, g1, h0, h1⟩ := BX3.out
  clear x0 x1 r0 r1 r2 q0 q1 f0 f1 s0 hix
  go_wp2_with fail
  go_region_held (fun w' => w'.cell? ⟨w.heap.size, 0, none⟩ = some (.int .i64 room) ∧ w'.cell? ⟨w.heap.size, 1, none⟩ = some (.slice (some ⟨b, off, none⟩) 6 cap) ∧ w'.cell? ⟨w.heap.size + 1, 0, none⟩ = some (.int .i64 2) ∧ w'.cell? ⟨w.heap.size + 1, 1, none⟩ = some (.int .i64 ((i : Int) + 1)) ∧ w'.cell? ⟨w.heap.size + 1, 2, none⟩ = some (.slice au zs.length cu) ∧ w'.cell? ⟨b, off + i * 2, none⟩ = some (.int .i64 m) ∧ w'.cell? ⟨b, off + i * 2 + 1, none⟩ = some (.int .i64 s)) (first | (go_keep; done) | (refine ⟨?_, ?_, ?_, ?_, ?_, ?_, ?_⟩ <;> (rw [two_set_cells _ _ _ _ _ _ (by omega)]; assumption)))
    (first
    | (go_at_call 10; refine (HFR.out _ B3.out.drew).mono ?_; rintro e w4 ⟨rfl, hb4⟩; have B4 := hide_it (B3.out.drew.trans (hb4.mono B3.out.size)); have BX4 := hide_it ((BX3.out.later (Below.refl _ _).drew (Nat.le_refl _)).later hb4 (Nat.le_refl _)); obtain ⟨k0, k1⟩ := HC.out _ B4.out; obtain ⟨⟨l0, l1⟩, ⟨n0, n1, n2⟩, _⟩ := BX4.out; clear hb4)
    | (go_at_call 25; refine (HST.out _ B4.out).mono ?_; rintro e w5 ⟨p, q, rfl, hpq, hb5⟩; have HPQ := hide_it hpq; have B5 := hide_it (B4.out.trans (hb5.mono B4.out.size)); have BX5 := hide_it (BX4.out.later hb5 (Nat.le_refl _)); obtain ⟨m0, m1⟩ := HC.out _ B5.out; obtain ⟨⟨o0, o1⟩, ⟨v0, v1, v2⟩, z0, z1, j0, j1⟩ := BX5.out; have hw5 : w.heap.size + 2 < w5.heap.size := World.block_lt_of_cell? _ _ z0; clear hb5 hpq))
  go_wp2
  exact bodyPost_ret (v := .tuple #[.agg #[.int .i64 p, .int .i64 q], .bool o.isSome]) (by simp [results, Tryd.results18, go_sem, z0, z1]) rfl ⟨p, q, rfl, HPQ.out, (B5.out.setCell (by simp; omega) _).setCell (by simp; omega) _⟩

set_option maxRecDepth 100000 in
set_option maxHeartbeats 4000000 in
theorem behind_K3 (room : Int) (v : Value) (hs : List Pl.H) (t : Int) (u : Value) (zs : List Int) (a : Addr) (w : World) (hv : Holds w v hs) (hu : Ints w u zs) (hzl : zs.length ≤ 1048576) (ha : ErrAt w a) (hok : Pl.sOk room hs = true) (hrec : Pl.recOk 3 t zs = true) :
    Calls Tryd.prog 18 #[.agg #[.int .i64 room, v], .agg #[.int .i64 3, .int .i64 t, u]] w fun e w' => StepOut w w' e (Pl.behind room hs 3 t zs) := by
  rw [Pl.behind_ok hok hrec]
  obtain ⟨p1, p2, p3, p4⟩ := Pl.sOk_parts hok
  have HV : Hid (∀ W, Below w.heap.size w W → Holds W v hs) := fun W h => hv.later h (Nat.le_refl _)
  have HU : Hid (∀ W, Below w.heap.size w W → Ints W u zs) := fun W h => hu.later h (Nat.le_refl _)
  have HA : Hid (∀ W, Below w.heap.size w W → ErrAt W a) := fun W h => ha.later h (Nat.le_refl _)
  obtain ⟨i, hi, rfl, hat⟩ := trip_at hrec
  obtain ⟨F, hF⟩ : ∃ F, Pl.free room hs = F := ⟨_, rfl⟩
  have HFR : Hid (∀ W, Below w.heap.size w W → Calls Tryd.prog 10 #[.agg #[.int .i64 room, v]] W fun e w' => e = .returned (.int .i64 F) ∧ Below W.heap.size W w') := fun W h => by
    have := implFree_any room v hs W (HV.out W h) (by omega)
    rw [Pl.sFree_yes hok, hF] at this
    exact this
  obtain ⟨m, s, hms⟩ : ∃ m s, Pl.hAt hs ((i : Int) + 1) = (m, s) := ⟨_, _, rfl⟩
  rw [hF, hms]
  have HST : Hid (∀ W, Below w.heap.size w W → Calls Tryd.prog 26 #[.agg #[.int .i64 m, .int .i64 s], .agg #[.int .i64 3, .int .i64 ((i : Int) + 1), u], .int .i64 F] W fun e w' => StepOut W w' e (Pl.next (m, s) 3 (zs.headD 0) F)) := fun W h => by
    obtain ⟨au, cu, e⟩ := hu.shape
    exact undoStep_any m s _ u _ F W ⟨au, _, cu, e⟩
  obtain ⟨o, ho⟩ : ∃ o, Pl.next (m, s) 3 (zs.headD 0) F = o := ⟨_, rfl⟩
  rw [ho] at HST ⊢
  clear ho
  rcases hv with ⟨rfl, _⟩ | ⟨b, off, cap, rfl, hz, hc⟩
  · simp at p3
  have hmsd : hs.getD i (0, 0) = (m, s) := by rw [← hat]; exact hms
  have hbw : b < w.heap.size := World.block_lt_of_cell? _ _ (hc i (by omega)).1
  have HC : Hid (∀ W, Below w.heap.size w W → W.cell? ⟨b, off + i * 2, none⟩ = some (.int .i64 m) ∧ W.cell? ⟨b, off + i * 2 + 1, none⟩ = some (.int .i64 s)) := fun W h => by
    obtain ⟨h1, h2⟩ := hc i (by omega)
    rw [hmsd] at h1 h2
    have hl := World.block_lt_of_cell? _ _ h1
    simp at hl
    exact ⟨by rw [← h1]; exact h.cell (p := ⟨b, off + i * 2, none⟩) (by simp; omega), by rw [← h2]; exact h.cell (p := ⟨b, off + i * 2 + 1, none⟩) (by simp; omega)⟩
  rw [p3] at HFR ⊢
  have HOK : Hid (∀ W, Below w.heap.size w W → Calls Tryd.prog 9 #[.agg #[.int .i64 room, .slice (some ⟨b, off, none⟩) 6 cap]] W fun e w' => e = .returned (.bool true) ∧ Below W.heap.size W w') := fun W h => by
    have h1 := HV.out W h
    rw [p3] at h1
    have := implStockOk_any room _ hs W h1 (by omega)
    rw [hok] at this
    exact this
  obtain ⟨au, cu, rfl⟩ := hu.shape
  have BX := hide_it (Box3.new w (.int .i64 room) (.slice (some ⟨b, off, none⟩) 6 cap) 3 ((i : Int) + 1) (.slice au zs.length cu) 26 44 40)
  clear hc hz p1 p2 p3 p4 hat hms hmsd hF HV hu ha
  go_enter Tryd.func18, Tryd.ntmps18
  go_wp2_with fail
  refine (HOK.out _ (below3 w _ _ _)).mono ?_
  rintro e w1 ⟨rfl, hb1⟩
  have B1 := hide_it ((below3 w _ _ _).trans (hb1.mono (by simp; omega)))
  have BX1 := hide_it (BX.out.later hb1 (Nat.le_refl _))
  obtain ⟨⟨x0, x1⟩, ⟨r0, r1, r2⟩, q0, q1, f0, f1⟩ := BX1.out
  clear hb1
  go_wp2_with fail
  refine (implOk_any 3 _ _ zs a w1 (HU.out _ B1.out) hzl (HA.out _ B1.out)).mono ?_
  rintro e w2 ⟨rfl, hb2⟩
  rw [hrec]
  have B2 := hide_it (B1.out.trans (hb2.mono B1.out.size))
  have BX2 := hide_it (BX1.out.later hb2 (Nat.le_refl _))
  clear x0 x1 r0 r1 r2 q0 q1 f0 f1 hb2
  obtain ⟨⟨x0, x1⟩, ⟨r0, r1, r2⟩, q0, q1, f0, f1⟩ := BX2.out
  have hix : ∀ W, Sem.run Tryd.prog (Instr.index 55 (.agg #[.func (.func 23) #[] #[], .func (.func 24) #[] #[], .func (.func 25) #[] #[], .func (.func 26) #[] #[], .func (.func 23) #[] #[], .func (.func 23) #[] #[], .func (.func 23) #[] #[], .func (.func 23) #[] #[]]) (.int .i64 3)) W = .ok (.func (.func 26) #[] #[]) W := fun W => by kernel_rfl
  go_wp2_with fail
  go_region_held (fun w' => w'.cell? ⟨w.heap.size + 1, 0, none⟩ = some (.int .i64 3)) (go_keep)
    ((go_at_call 20; refine (steps_any _).mono ?_; rintro e w3 ⟨rfl, hb3⟩; have B3 := hide_it (B2.out.drew.trans (hb3.mono B2.out.size)); have BX3 := hide_it ((BX2.out.later (Below.refl _ _).drew (Nat.le_refl _)).later hb3 (Nat.le_refl _)); obtain ⟨_, ⟨s0, _⟩, _⟩ := BX3.out; clear hb3))
  have hi6 : (i : Int) < 6 := by omega
  have hwr : IntKind.i64.wrap ((i : Int) + 1 - 1) = (i : Int) := by simp [IntKind.wrap, IntKind.bits, IntKind.signed]; omega
  have hwi : IntKind.i64.wrap (i : Int) = (i : Int) := by simp [IntKind.wrap, IntKind.bits, IntKind.signed]; omega
  obtain ⟨d0, d1⟩ := HC.out _ B3.out
  obtain ⟨⟨y0, y1⟩, ⟨t0, t1, t2⟩, g0, g1, h0, h1⟩ := BX3.out
  clear x0 x1 r0 r1 r2 q0 q1 f0 f1 s0 hix
  go_wp2_with fail
  go_region_held (fun w' => w'.cell? ⟨w.heap.size, 0, none⟩ = some (.int .i64 room) ∧ w'.cell? ⟨w.heap.size, 1, none⟩ = some (.slice (some ⟨b, off, none⟩) 6 cap) ∧ w'.cell? ⟨w.heap.size + 1, 0, none⟩ = some (.int .i64 3) ∧ w'.cell? ⟨w.heap.size + 1, 1, none⟩ = some (.int .i64 ((i : Int) + 1)) ∧ w'.cell? ⟨w.heap.size + 1, 2, none⟩ = some (.slice au zs.length cu) ∧ w'.cell? ⟨b, off + i * 2, none⟩ = some (.int .i64 m) ∧ w'.cell? ⟨b, off + i * 2 + 1, none⟩ = some (.int .i64 s)) (first | (go_keep; done) | (refine ⟨?_, ?_, ?_, ?_, ?_, ?_, ?_⟩ <;> (rw [two_set_cells _ _ _ _ _ _ (by omega)]; assumption)))
    (first
    | (go_at_call 10; refine (HFR.out _ B3.out.drew).mono ?_; rintro e w4 ⟨rfl, hb4⟩; have B4 := hide_it (B3.out.drew.trans (hb4.mono B3.out.size)); have BX4 := hide_it ((BX3.out.later (Below.refl _ _).drew (Nat.le_refl _)).later hb4 (Nat.le_refl _)); obtain ⟨k0, k1⟩ := HC.out _ B4.out; obtain ⟨⟨l0, l1⟩, ⟨n0, n1, n2⟩, _⟩ := BX4.out; clear hb4)
    | (go_at_call 26; refine (HST.out _ B4.out).mono ?_; rintro e w5 ⟨p, q, rfl, hpq, hb5⟩; have HPQ := hide_it hpq; have B5 := hide_it (B4.out.trans (hb5.mono B4.out.size)); have BX5 := hide_it (BX4.out.later hb5 (Nat.le_refl _)); obtain ⟨m0, m1⟩ := HC.out _ B5.out; obtain ⟨⟨o0, o1⟩, ⟨v0, v1, v2⟩, z0, z1, j0, j1⟩ := BX5.out; have hw5 : w.heap.size + 2 < w5.heap.size := World.block_lt_of_cell? _ _ z0; clear hb5 hpq))
  go_wp2
  exact bodyPost_ret (v := .tuple #[.agg #[.int .i64 p, .int .i64 q], .bool o.isSome]) (by simp [results, Tryd.results18, go_sem, z0, z1]) rfl ⟨p, q, rfl, HPQ.out, (B5.out.setCell (by simp; omega) _).setCell (by simp; omega) _⟩

set_option maxRecDepth 100000 in
set_option maxHeartbeats 4000000 in
theorem behind_K4 (room : Int) (v : Value) (hs : List Pl.H) (t : Int) (u : Value) (zs : List Int) (a : Addr) (w : World) (hv : Holds w v hs) (hu : Ints w u zs) (hzl : zs.length ≤ 1048576) (ha : ErrAt w a) (hok : Pl.sOk room hs = true) (hrec : Pl.recOk 4 t zs = true) :
    Calls Tryd.prog 18 #[.agg #[.int .i64 room, v], .agg #[.int .i64 4, .int .i64 t, u]] w fun e w' => StepOut w w' e (Pl.behind room hs 4 t zs) := by
  rw [Pl.behind_ok hok hrec]
  obtain ⟨p1, p2, p3, p4⟩ := Pl.sOk_parts hok
  have HV : Hid (∀ W, Below w.heap.size w W → Holds W v hs) := fun W h => hv.later h (Nat.le_refl _)
  have HU : Hid (∀ W, Below w.heap.size w W → Ints W u zs) := fun W h => hu.later h (Nat.le_refl _)
  have HA : Hid (∀ W, Below w.heap.size w W → ErrAt W a) := fun W h => ha.later h (Nat.le_refl _)
  obtain ⟨i, hi, rfl, hat⟩ := trip_at hrec
  obtain ⟨F, hF⟩ : ∃ F, Pl.free room hs = F := ⟨_, rfl⟩
  have HFR : Hid (∀ W, Below w.heap.size w W → Calls Tryd.prog 10 #[.agg #[.int .i64 room, v]] W fun e w' => e = .returned (.int .i64 F) ∧ Below W.heap.size W w') := fun W h => by
    have := implFree_any room v hs W (HV.out W h) (by omega)
    rw [Pl.sFree_yes hok, hF] at this
    exact this
  obtain ⟨m, s, hms⟩ : ∃ m s, Pl.hAt hs ((i : Int) + 1) = (m, s) := ⟨_, _, rfl⟩
  rw [hF, hms]
  have HST : Hid (∀ W, Below w.heap.size w W → Calls Tryd.prog 23 #[.agg #[.int .i64 m, .int .i64 s], .agg #[.int .i64 4, .int .i64 ((i : Int) + 1), u], .int .i64 F] W fun e w' => StepOut W w' e (Pl.next (m, s) 4 (zs.headD 0) F)) := fun W h => by
    obtain ⟨au, cu, e⟩ := hu.shape
    exact noStep_any m s _ _ u _ F W (by decide) (by decide) (by decide) ⟨au, _, cu, e⟩
  obtain ⟨o, ho⟩ : ∃ o, Pl.next (m, s) 4 (zs.headD 0) F = o := ⟨_, rfl⟩
  rw [ho] at HST ⊢
  clear ho
  rcases hv with ⟨rfl, _⟩ | ⟨b, off, cap, rfl, hz, hc⟩
  · simp at p3
  have hmsd : hs.getD i (0, 0) = (m, s) := by rw [← hat]; exact hms
  have hbw : b < w.heap.size := World.block_lt_of_cell? _ _ (hc i (by omega)).1
  have HC : Hid (∀ W, Below w.heap.size w W → W.cell? ⟨b, off + i * 2, none⟩ = some (.int .i64 m) ∧ W.cell? ⟨b, off + i * 2 + 1, none⟩ = some (.int .i64 s)) := fun W h => by
    obtain ⟨h1, h2⟩ := hc i (by omega)
    rw [hmsd] at h1 h2
    have hl := World.block_lt_of_cell? _ _ h1
    simp at hl
    exact ⟨by rw [← h1]; exact h.cell (p := ⟨b, off + i * 2, none⟩) (by simp; omega), by rw [← h2]; exact h.cell (p := ⟨b, off + i * 2 + 1, none⟩) (by simp; omega)⟩
  rw [p3] at HFR ⊢
  have HOK : Hid (∀ W, Below w.heap.size w W → Calls Tryd.prog 9 #[.agg #[.int .i64 room, .slice (some ⟨b, off, none⟩) 6 cap]] W fun e w' => e = .returned (.bool true) ∧ Below W.heap.size W w') := fun W h => by
    have h1 := HV.out W h
    rw [p3] at h1
    have := implStockOk_any room _ hs W h1 (by omega)
    rw [hok] at this
    exact this
  obtain ⟨au, cu, rfl⟩ := hu.shape
  have BX := hide_it (Box3.new w (.int .i64 room) (.slice (some ⟨b, off, none⟩) 6 cap) 4 ((i : Int) + 1) (.slice au zs.length cu) 26 44 40)
  clear hc hz p1 p2 p3 p4 hat hms hmsd hF HV hu ha
  go_enter Tryd.func18, Tryd.ntmps18
  go_wp2_with fail
  refine (HOK.out _ (below3 w _ _ _)).mono ?_
  rintro e w1 ⟨rfl, hb1⟩
  have B1 := hide_it ((below3 w _ _ _).trans (hb1.mono (by simp; omega)))
  have BX1 := hide_it (BX.out.later hb1 (Nat.le_refl _))
  obtain ⟨⟨x0, x1⟩, ⟨r0, r1, r2⟩, q0, q1, f0, f1⟩ := BX1.out
  clear hb1
  go_wp2_with fail
  refine (implOk_any 4 _ _ zs a w1 (HU.out _ B1.out) hzl (HA.out _ B1.out)).mono ?_
  rintro e w2 ⟨rfl, hb2⟩
  rw [hrec]
  have B2 := hide_it (B1.out.trans (hb2.mono B1.out.size))
  have BX2 := hide_it (BX1.out.later hb2 (Nat.le_refl _))
  clear x0 x1 r0 r1 r2 q0 q1 f0 f1 hb2
  obtain ⟨⟨x0, x1⟩, ⟨r0, r1, r2⟩, q0, q1, f0, f1⟩ := BX2.out
  have hix : ∀ W, Sem.run Tryd.prog (Instr.index 55 (.agg #[.func (.func 23) #[] #[], .func (.func 24) #[] #[], .func (.func 25) #[] #[], .func (.func 26) #[] #[], .func (.func 23) #[] #[], .func (.func 23) #[] #[], .func (.func 23) #[] #[], .func (.func 23) #[] #[]]) (.int .i64 4)) W = .ok (.func (.func 23) #[] #[]) W := fun W => by kernel_rfl
  go_wp2_with fail
  go_region_held (fun w' => w'.cell? ⟨w.heap.size + 1, 0, none⟩ = some (.int .i64 4)) (go_keep)
    ((go_at_call 20; refine (steps_any _).mono ?_; rintro e w3 ⟨rfl, hb3⟩; have B3 := hide_it (B2.out.drew.trans (hb3.mono B2.out.size)); have BX3 := hide_it ((BX2.out.later (Below.refl _ _).drew (Nat.le_refl _)).later hb3 (Nat.le_refl _)); obtain ⟨_, ⟨s0, _⟩, _⟩ := BX3.out; clear hb3))
  have hi6 : (i : Int) < 6 := by omega
  have hwr : IntKind.i64.wrap ((i : Int) + 1 - 1) = (i : Int) := by simp [IntKind.wrap, IntKind.bits, IntKind.signed]; omega
  have hwi : IntKind.i64.wrap (i : Int) = (i : Int) := by simp [IntKind.wrap, IntKind.bits, IntKind.signed]; omega
  obtain ⟨d0, d1⟩ := HC.out _ B3.out
  obtain ⟨⟨y0, y1⟩, ⟨t0, t1, t2⟩, g0, g1, h0, h1⟩ := BX3.out
  clear x0 x1 r0 r1 r2 q0 q1 f0 f1 s0 hix
  go_wp2_with fail
  go_region_held (fun w' => w'.cell? ⟨w.heap.size, 0, none⟩ = some (.int .i64 room) ∧ w'.cell? ⟨w.heap.size, 1, none⟩ = some (.slice (some ⟨b, off, none⟩) 6 cap) ∧ w'.cell? ⟨w.heap.size + 1, 0, none⟩ = some (.int .i64 4) ∧ w'.cell? ⟨w.heap.size + 1, 1, none⟩ = some (.int .i64 ((i : Int) + 1)) ∧ w'.cell? ⟨w.heap.size + 1, 2, none⟩ = some (.slice au zs.length cu) ∧ w'.cell? ⟨b, off + i * 2, none⟩ = some (.int .i64 m) ∧ w'.cell? ⟨b, off + i * 2 + 1, none⟩ = some (.int .i64 s)) (first | (go_keep; done) | (refine ⟨?_, ?_, ?_, ?_, ?_, ?_, ?_⟩ <;> (rw [two_set_cells _ _ _ _ _ _ (by omega)]; assumption)))
    (first
    | (go_at_call 10; refine (HFR.out _ B3.out.drew).mono ?_; rintro e w4 ⟨rfl, hb4⟩; have B4 := hide_it (B3.out.drew.trans (hb4.mono B3.out.size)); have BX4 := hide_it ((BX3.out.later (Below.refl _ _).drew (Nat.le_refl _)).later hb4 (Nat.le_refl _)); obtain ⟨k0, k1⟩ := HC.out _ B4.out; obtain ⟨⟨l0, l1⟩, ⟨n0, n1, n2⟩, _⟩ := BX4.out; clear hb4)
    | (go_at_call 23; refine (HST.out _ B4.out).mono ?_; rintro e w5 ⟨p, q, rfl, hpq, hb5⟩; have HPQ := hide_it hpq; have B5 := hide_it (B4.out.trans (hb5.mono B4.out.size)); have BX5 := hide_it (BX4.out.later hb5 (Nat.le_refl _)); obtain ⟨m0, m1⟩ := HC.out _ B5.out; obtain ⟨⟨o0, o1⟩, ⟨v0, v1, v2⟩, z0, z1, j0, j1⟩ := BX5.out; have hw5 : w.heap.size + 2 < w5.heap.size := World.block_lt_of_cell? _ _ z0; clear hb5 hpq))
  go_wp2
  exact bodyPost_ret (v := .tuple #[.agg #[.int .i64 p, .int .i64 q], .bool o.isSome]) (by simp [results, Tryd.results18, go_sem, z0, z1]) rfl ⟨p, q, rfl, HPQ.out, (B5.out.setCell (by simp; omega) _).setCell (by simp; omega) _⟩

set_option maxRecDepth 100000 in
set_option maxHeartbeats 4000000 in
theorem behind_K5 (room : Int) (v : Value) (hs : List Pl.H) (t : Int) (u : Value) (zs : List Int) (a : Addr) (w : World) (hv : Holds w v hs) (hu : Ints w u zs) (hzl : zs.length ≤ 1048576) (ha : ErrAt w a) (hok : Pl.sOk room hs = true) (hrec : Pl.recOk 5 t zs = true) :
    Calls Tryd.prog 18 #[.agg #[.int .i64 room, v], .agg #[.int .i64 5, .int .i64 t, u]] w fun e w' => StepOut w w' e (Pl.behind room hs 5 t zs) := by
  rw [Pl.behind_ok hok hrec]
  obtain ⟨p1, p2, p3, p4⟩ := Pl.sOk_parts hok
  have HV : Hid (∀ W, Below w.heap.size w W → Holds W v hs) := fun W h => hv.later h (Nat.le_refl _)
  have HU : Hid (∀ W, Below w.heap.size w W → Ints W u zs) := fun W h => hu.later h (Nat.le_refl _)
  have HA : Hid (∀ W, Below w.heap.size w W → ErrAt W a) := fun W h => ha.later h (Nat.le_refl _)
  obtain ⟨i, hi, rfl, hat⟩ := trip_at hrec
  obtain ⟨F, hF⟩ : ∃ F, Pl.free room hs = F := ⟨_, rfl⟩
  have HFR : Hid (∀ W, Below w.heap.size w W → Calls Tryd.prog 10 #[.agg #[.int .i64 room, v]] W fun e w' => e = .returned (.int .i64 F) ∧ Below W.heap.size W w') := fun W h => by
    have := implFree_any room v hs W (HV.out W h) (by omega)
    rw [Pl.sFree_yes hok, hF] at this
    exact this
  obtain ⟨m, s, hms⟩ : ∃ m s, Pl.hAt hs ((i : Int) + 1) = (m, s) := ⟨_, _, rfl⟩
  rw [hF, hms]
  have HST : Hid (∀ W, Below w.heap.size w W → Calls Tryd.prog 23 #[.agg #[.int .i64 m, .int .i64 s], .agg #[.int .i64 5, .int .i64 ((i : Int) + 1), u], .int .i64 F] W fun e w' => StepOut W w' e (Pl.next (m, s) 5 (zs.headD 0) F)) := fun W h => by
    obtain ⟨au, cu, e⟩ := hu.shape
    exact noStep_any m s _ _ u _ F W (by decide) (by decide) (by decide) ⟨au, _, cu, e⟩
  obtain ⟨o, ho⟩ : ∃ o, Pl.next (m, s) 5 (zs.headD 0) F = o := ⟨_, rfl⟩
  rw [ho] at HST ⊢
  clear ho
  rcases hv with ⟨rfl, _⟩ | ⟨b, off, cap, rfl, hz, hc⟩
  · simp at p3
  have hmsd : hs.getD i (0, 0) = (m, s) := by rw [← hat]; exact hms
  have hbw : b < w.heap.size := World.block_lt_of_cell? _ _ (hc i (by omega)).1
  have HC : Hid (∀ W, Below w.heap.size w W → W.cell? ⟨b, off + i * 2, none⟩ = some (.int .i64 m) ∧ W.cell? ⟨b, off + i * 2 + 1, none⟩ = some (.int .i64 s)) := fun W h => by
    obtain ⟨h1, h2⟩ := hc i (by omega)
    rw [hmsd] at h1 h2
    have hl := World.block_lt_of_cell? _ _ h1
    simp at hl
    exact ⟨by rw [← h1]; exact h.cell (p := ⟨b, off + i * 2, none⟩) (by simp; omega), by rw [← h2]; exact h.cell (p := ⟨b, off + i * 2 + 1, none⟩) (by simp; omega)⟩
  rw [p3] at HFR ⊢
  have HOK : Hid (∀ W, Below w.heap.size w W → Calls Tryd.prog 9 #[.agg #[.int .i64 room, .slice (some ⟨b, off, none⟩) 6 cap]] W fun e w' => e = .returned (.bool true) ∧ Below W.heap.size W w') := fun W h => by
    have h1 := HV.out W h
    rw [p3] at h1
    have := implStockOk_any room _ hs W h1 (by omega)
    rw [hok] at this
    exact this
  obtain ⟨au, cu, rfl⟩ := hu.shape
  have BX := hide_it (Box3.new w (.int .i64 room) (.slice (some ⟨b, off, none⟩) 6 cap) 5 ((i : Int) + 1) (.slice au zs.length cu) 26 44 40)
  clear hc hz p1 p2 p3 p4 hat hms hmsd hF HV hu ha
  go_enter Tryd.func18, Tryd.ntmps18
  go_wp2_with fail
  refine (HOK.out _ (below3 w _ _ _)).mono ?_
  rintro e w1 ⟨rfl, hb1⟩
  have B1 := hide_it ((below3 w _ _ _).trans (hb1.mono (by simp; omega)))
  have BX1 := hide_it (BX.out.later hb1 (Nat.le_refl _))
  obtain ⟨⟨x0, x1⟩, ⟨r0, r1, r2⟩, q0, q1, f0, f1⟩ := BX1.out
  clear hb1
  go_wp2_with fail
  refine (implOk_any 5 _ _ zs a w1 (HU.out _ B1.out) hzl (HA.out _ B1.out)).mono ?_
  rintro e w2 ⟨rfl, hb2⟩
  rw [hrec]
  have B2 := hide_it (B1.out.trans (hb2.mono B1.out.size))
  have BX2 := hide_it (BX1.out.later hb2 (Nat.le_refl _))
  clear x0 x1 r0 r1 r2 q0 q1 f0 f1 hb2
  obtain ⟨⟨x0, x1⟩, ⟨r0, r1, r2⟩, q0, q1, f0, f1⟩ := BX2.out
  have hix : ∀ W, Sem.run Tryd.prog (Instr.index 55 (.agg #[.func (.func 23) #[] #[], .func (.func 24) #[] #[], .func (.func 25) #[] #[], .func (.func 26) #[] #[], .func (.func 23) #[] #[], .func (.func 23) #[] #[], .func (.func 23) #[] #[], .func (.func 23) #[] #[]]) (.int .i64 5)) W = .ok (.func (.func 23) #[] #[]) W := fun W => by kernel_rfl
  go_wp2_with fail
  go_region_held (fun w' => w'.cell? ⟨w.heap.size + 1, 0, none⟩ = some (.int .i64 5)) (go_keep)
    ((go_at_call 20; refine (steps_any _).mono ?_; rintro e w3 ⟨rfl, hb3⟩; have B3 := hide_it (B2.out.drew.trans (hb3.mono B2.out.size)); have BX3 := hide_it ((BX2.out.later (Below.refl _ _).drew (Nat.le_refl _)).later hb3 (Nat.le_refl _)); obtain ⟨_, ⟨s0, _⟩, _⟩ := BX3.out; clear hb3))
  have hi6 : (i : Int) < 6 := by omega
  have hwr : IntKind.i64.wrap ((i : Int) + 1 - 1) = (i : Int) := by simp [IntKind.wrap, IntKind.bits, IntKind.signed]; omega
  have hwi : IntKind.i64.wrap (i : Int) = (i : Int) := by simp [IntKind.wrap, IntKind.bits, IntKind.signed]; omega
  obtain ⟨d0, d1⟩ := HC.out _ B3.out
  obtain ⟨⟨y0, y1⟩, ⟨t0, t1, t2⟩, g0, g1, h0, h1⟩ := BX3.out
  clear x0 x1 r0 r1 r2 q0 q1 f0 f1 s0 hix
  go_wp2_with fail
  go_region_held (fun w' => w'.cell? ⟨w.heap.size, 0, none⟩ = some (.int .i64 room) ∧ w'.cell? ⟨w.heap.size, 1, none⟩ = some (.slice (some ⟨b, off, none⟩) 6 cap) ∧ w'.cell? ⟨w.heap.size + 1, 0, none⟩ = some (.int .i64 5) ∧ w'.cell? ⟨w.heap.size + 1, 1, none⟩ = some (.int .i64 ((i : Int) + 1)) ∧ w'.cell? ⟨w.heap.size + 1, 2, none⟩ = some (.slice au zs.length cu) ∧ w'.cell? ⟨b, off + i * 2, none⟩ = some (.int .i64 m) ∧ w'.cell? ⟨b, off + i * 2 + 1, none⟩ = some (.int .i64 s)) (first | (go_keep; done) | (refine ⟨?_, ?_, ?_, ?_, ?_, ?_, ?_⟩ <;> (rw [two_set_cells _ _ _ _ _ _ (by omega)]; assumption)))
    (first
    | (go_at_call 10; refine (HFR.out _ B3.out.drew).mono ?_; rintro e w4 ⟨rfl, hb4⟩; have B4 := hide_it (B3.out.drew.trans (hb4.mono B3.out.size)); have BX4 := hide_it ((BX3.out.later (Below.refl _ _).drew (Nat.le_refl _)).later hb4 (Nat.le_refl _)); obtain ⟨k0, k1⟩ := HC.out _ B4.out; obtain ⟨⟨l0, l1⟩, ⟨n0, n1, n2⟩, _⟩ := BX4.out; clear hb4)
    | (go_at_call 23; refine (HST.out _ B4.out).mono ?_; rintro e w5 ⟨p, q, rfl, hpq, hb5⟩; have HPQ := hide_it hpq; have B5 := hide_it (B4.out.trans (hb5.mono B4.out.size)); have BX5 := hide_it (BX4.out.later hb5 (Nat.le_refl _)); obtain ⟨m0, m1⟩ := HC.out _ B5.out; obtain ⟨⟨o0, o1⟩, ⟨v0, v1, v2⟩, z0, z1, j0, j1⟩ := BX5.out; have hw5 : w.heap.size + 2 < w5.heap.size := World.block_lt_of_cell? _ _ z0; clear hb5 hpq))
  go_wp2
  exact bodyPost_ret (v := .tuple #[.agg #[.int .i64 p, .int .i64 q], .bool o.isSome]) (by simp [results, Tryd.results18, go_sem, z0, z1]) rfl ⟨p, q, rfl, HPQ.out, (B5.out.setCell (by simp; omega) _).setCell (by simp; omega) _⟩

set_option maxRecDepth 100000 in
set_option maxHeartbeats 4000000 in
theorem behind_K6 (room : Int) (v : Value) (hs : List Pl.H) (t : Int) (u : Value) (zs : List Int) (a : Addr) (w : World) (hv : Holds w v hs) (hu : Ints w u zs) (hzl : zs.length ≤ 1048576) (ha : ErrAt w a) (hok : Pl.sOk room hs = true) (hrec : Pl.recOk 6 t zs = true) :
    Calls Tryd.prog 18 #[.agg #[.int .i64 room, v], .agg #[.int .i64 6, .int .i64 t, u]] w fun e w' => StepOut w w' e (Pl.behind room hs 6 t zs) := by
  rw [Pl.behind_ok hok hrec]
  obtain ⟨p1, p2, p3, p4⟩ := Pl.sOk_parts hok
  have HV : Hid (∀ W, Below w.heap.size w W → Holds W v hs) := fun W h => hv.later h (Nat.le_refl _)
  have HU : Hid (∀ W, Below w.heap.size w W → Ints W u zs) := fun W h => hu.later h (Nat.le_refl _)
  have HA : Hid (∀ W, Below w.heap.size w W → ErrAt W a) := fun W h => ha.later h (Nat.le_refl _)
  obtain ⟨i, hi, rfl, hat⟩ := trip_at hrec
  obtain ⟨F, hF⟩ : ∃ F, Pl.free room hs = F := ⟨_, rfl⟩
  have HFR : Hid (∀ W, Below w.heap.size w W → Calls Tryd.prog 10 #[.agg #[.int .i64 room, v]] W fun e w' => e = .returned (.int .i64 F) ∧ Below W.heap.size W w') := fun W h => by
    have := implFree_any room v hs W (HV.out W h) (by omega)
    rw [Pl.sFree_yes hok, hF] at this
    exact this
  obtain ⟨m, s, hms⟩ : ∃ m s, Pl.hAt hs ((i : Int) + 1) = (m, s) := ⟨_, _, rfl⟩
  rw [hF, hms]
  have HST : Hid (∀ W, Below w.heap.size w W → Calls Tryd.prog 23 #[.agg #[.int .i64 m, .int .i64 s], .agg #[.int .i64 6, .int .i64 ((i : Int) + 1), u], .int .i64 F] W fun e w' => StepOut W w' e (Pl.next (m, s) 6 (zs.headD 0) F)) := fun W h => by
    obtain ⟨au, cu, e⟩ := hu.shape
    exact noStep_any m s _ _ u _ F W (by decide) (by decide) (by decide) ⟨au, _, cu, e⟩
  obtain ⟨o, ho⟩ : ∃ o, Pl.next (m, s) 6 (zs.headD 0) F = o := ⟨_, rfl⟩
  rw [ho] at HST ⊢
  clear ho
  rcases hv with ⟨rfl, _⟩ | ⟨b, off, cap, rfl, hz, hc⟩
  · simp at p3
  have hmsd : hs.getD i (0, 0) = (m, s) := by rw [← hat]; exact hms
  have hbw : b < w.heap.size := World.block_lt_of_cell? _ _ (hc i (by omega)).1
  have HC : Hid (∀ W, Below w.heap.size w W → W.cell? ⟨b, off + i * 2, none⟩ = some (.int .i64 m) ∧ W.cell? ⟨b, off + i * 2 + 1, none⟩ = some (.int .i64 s)) := fun W h => by
    obtain ⟨h1, h2⟩ := hc i (by omega)
    rw [hmsd] at h1 h2
    have hl := World.block_lt_of_cell? _ _ h1
    simp at hl
    exact ⟨by rw [← h1]; exact h.cell (p := ⟨b, off + i * 2, none⟩) (by simp; omega), by rw [← h2]; exact h.cell (p := ⟨b, off + i * 2 + 1, none⟩) (by simp; omega)⟩
  rw [p3] at HFR ⊢
  have HOK : Hid (∀ W, Below w.heap.size w W → Calls Tryd.prog 9 #[.agg #[.int .i64 room, .slice (some ⟨b, off, none⟩) 6 cap]] W fun e w' => e = .returned (.bool true) ∧ Below W.heap.size W w') := fun W h => by
    have h1 := HV.out W h
    rw [p3] at h1
    have := implStockOk_any room _ hs W h1 (by omega)
    rw [hok] at this
    exact this
  obtain ⟨au, cu, rfl⟩ := hu.shape
  have BX := hide_it (Box3.new w (.int .i64 room) (.slice (some ⟨b, off, none⟩) 6 cap) 6 ((i : Int) + 1) (.slice au zs.length cu) 26 44 40)
  clear hc hz p1 p2 p3 p4 hat hms hmsd hF HV hu ha
  go_enter Tryd.func18, Tryd.ntmps18
  go_wp2_with fail
  refine (HOK.out _ (below3 w _ _ _)).mono ?_
  rintro e w1 ⟨rfl, hb1⟩
  have B1 := hide_it ((below3 w _ _ _).trans (hb1.mono (by simp; omega)))
  have BX1 := hide_it (BX.out.later hb1 (Nat.le_refl _))
  obtain ⟨⟨x0, x1⟩, ⟨r0, r1, r2⟩, q0, q1, f0, f1⟩ := BX1.out
  clear hb1
  go_wp2_with fail
  refine (implOk_any 6 _ _ zs a w1 (HU.out _ B1.out) hzl (HA.out _ B1.out)).mono ?_
  rintro e w2 ⟨rfl, hb2⟩
  rw [hrec]
  have B2 := hide_it (B1.out.trans (hb2.mono B1.out.size))
  have BX2 := hide_it (BX1.out.later hb2 (Nat.le_refl _))
  clear x0 x1 r0 r1 r2 q0 q1 f0 f1 hb2
  obtain ⟨⟨x0, x1⟩, ⟨r0, r1, r2⟩, q0, q1, f0, f1⟩ := BX2.out
  have hix : ∀ W, Sem.run Tryd.prog (Instr.index 55 (.agg #[.func (.func 23) #[] #[], .func (.func 24) #[] #[], .func (.func 25) #[] #[], .func (.func 26) #[] #[], .func (.func 23) #[] #[], .func (.func 23) #[] #[], .func (.func 23) #[] #[], .func (.func 23) #[] #[]]) (.int .i64 6)) W = .ok (.func (.func 23) #[] #[]) W := fun W => by kernel_rfl
  go_wp2_with fail
  go_region_held (fun w' => w'.cell? ⟨w.heap.size + 1, 0, none⟩ = some (.int .i64 6)) (go_keep)
    ((go_at_call 20; refine (steps_any _).mono ?_; rintro e w3 ⟨rfl, hb3⟩; have B3 := hide_it (B2.out.drew.trans (hb3.mono B2.out.size)); have BX3 := hide_it ((BX2.out.later (Below.refl _ _).drew (Nat.le_refl _)).later hb3 (Nat.le_refl _)); obtain ⟨_, ⟨s0, _⟩, _⟩ := BX3.out; clear hb3))
  have hi6 : (i : Int) < 6 := by omega
  have hwr : IntKind.i64.wrap ((i : Int) + 1 - 1) = (i : Int) := by simp [IntKind.wrap, IntKind.bits, IntKind.signed]; omega
  have hwi : IntKind.i64.wrap (i : Int) = (i : Int) := by simp [IntKind.wrap, IntKind.bits, IntKind.signed]; omega
  obtain ⟨d0, d1⟩ := HC.out _ B3.out
  obtain ⟨⟨y0, y1⟩, ⟨t0, t1, t2⟩, g0, g1, h0, h1⟩ := BX3.out
  clear x0 x1 r0 r1 r2 q0 q1 f0 f1 s0 hix
  go_wp2_with fail
  go_region_held (fun w' => w'.cell? ⟨w.heap.size, 0, none⟩ = some (.int .i64 room) ∧ w'.cell? ⟨w.heap.size, 1, none⟩ = some (.slice (some ⟨b, off, none⟩) 6 cap) ∧ w'.cell? ⟨w.heap.size + 1, 0, none⟩ = some (.int .i64 6) ∧ w'.cell? ⟨w.heap.size + 1, 1, none⟩ = some (.int .i64 ((i : Int) + 1)) ∧ w'.cell? ⟨w.heap.size + 1, 2, none⟩ = some (.slice au zs.length cu) ∧ w'.cell? ⟨b, off + i * 2, none⟩ = some (.int .i64 m) ∧ w'.cell? ⟨b, off + i * 2 + 1, none⟩ = some (.int .i64 s)) (first | (go_keep; done) | (refine ⟨?_, ?_, ?_, ?_, ?_, ?_, ?_⟩ <;> (rw [two_set_cells _ _ _ _ _ _ (by omega)]; assumption)))
    (first
    | (go_at_call 10; refine (HFR.out _ B3.out.drew).mono ?_; rintro e w4 ⟨rfl, hb4⟩; have B4 := hide_it (B3.out.drew.trans (hb4.mono B3.out.size)); have BX4 := hide_it ((BX3.out.later (Below.refl _ _).drew (Nat.le_refl _)).later hb4 (Nat.le_refl _)); obtain ⟨k0, k1⟩ := HC.out _ B4.out; obtain ⟨⟨l0, l1⟩, ⟨n0, n1, n2⟩, _⟩ := BX4.out; clear hb4)
    | (go_at_call 23; refine (HST.out _ B4.out).mono ?_; rintro e w5 ⟨p, q, rfl, hpq, hb5⟩; have HPQ := hide_it hpq; have B5 := hide_it (B4.out.trans (hb5.mono B4.out.size)); have BX5 := hide_it (BX4.out.later hb5 (Nat.le_refl _)); obtain ⟨m0, m1⟩ := HC.out _ B5.out; obtain ⟨⟨o0, o1⟩, ⟨v0, v1, v2⟩, z0, z1, j0, j1⟩ := BX5.out; have hw5 : w.heap.size + 2 < w5.heap.size := World.block_lt_of_cell? _ _ z0; clear hb5 hpq))
  go_wp2
  exact bodyPost_ret (v := .tuple #[.agg #[.int .i64 p, .int .i64 q], .bool o.isSome]) (by simp [results, Tryd.results18, go_sem, z0, z1]) rfl ⟨p, q, rfl, HPQ.out, (B5.out.setCell (by simp; omega) _).setCell (by simp; omega) _⟩

set_option maxRecDepth 100000 in
set_option maxHeartbeats 4000000 in
theorem behind_K7 (room : Int) (v : Value) (hs : List Pl.H) (t : Int) (u : Value) (zs : List Int) (a : Addr) (w : World) (hv : Holds w v hs) (hu : Ints w u zs) (hzl : zs.length ≤ 1048576) (ha : ErrAt w a) (hok : Pl.sOk room hs = true) (hrec : Pl.recOk 7 t zs = true) :
    Calls Tryd.prog 18 #[.agg #[.int .i64 room, v], .agg #[.int .i64 7, .int .i64 t, u]] w fun e w' => StepOut w w' e (Pl.behind room hs 7 t zs) := by
  rw [Pl.behind_ok hok hrec]
  obtain ⟨p1, p2, p3, p4⟩ := Pl.sOk_parts hok
  have HV : Hid (∀ W, Below w.heap.size w W → Holds W v hs) := fun W h => hv.later h (Nat.le_refl _)
  have HU : Hid (∀ W, Below w.heap.size w W → Ints W u zs) := fun W h => hu.later h (Nat.le_refl _)
  have HA : Hid (∀ W, Below w.heap.size w W → ErrAt W a) := fun W h => ha.later h (Nat.le_refl _)
  obtain ⟨i, hi, rfl, hat⟩ := trip_at hrec
  obtain ⟨F, hF⟩ : ∃ F, Pl.free room hs = F := ⟨_, rfl⟩
  have HFR : Hid (∀ W, Below w.heap.size w W → Calls Tryd.prog 10 #[.agg #[.int .i64 room, v]] W fun e w' => e = .returned (.int .i64 F) ∧ Below W.heap.size W w') := fun W h => by
    have := implFree_any room v hs W (HV.out W h) (by omega)
    rw [Pl.sFree_yes hok, hF] at this
    exact this
  obtain ⟨m, s, hms⟩ : ∃ m s, Pl.hAt hs ((i : Int) + 1) = (m, s) := ⟨_, _, rfl⟩
  rw [hF, hms]
  have HST : Hid (∀ W, Below w.heap.size w W → Calls Tryd.prog 23 #[.agg #[.int .i64 m, .int .i64 s], .agg #[.int .i64 7, .int .i64 ((i : Int) + 1), u], .int .i64 F] W fun e w' => StepOut W w' e (Pl.next (m, s) 7 (zs.headD 0) F)) := fun W h => by
    obtain ⟨au, cu, e⟩ := hu.shape
    exact noStep_any m s _ _ u _ F W (by decide) (by decide) (by decide) ⟨au, _, cu, e⟩
  obtain ⟨o, ho⟩ : ∃ o, Pl.next (m, s) 7 (zs.headD 0) F = o := ⟨_, rfl⟩
  rw [ho] at HST ⊢
  clear ho
  rcases hv with ⟨rfl, _⟩ | ⟨b, off, cap, rfl, hz, hc⟩
  · simp at p3
  have hmsd : hs.getD i (0, 0) = (m, s) := by rw [← hat]; exact hms
  have hbw : b < w.heap.size := World.block_lt_of_cell? _ _ (hc i (by omega)).1
  have HC : Hid (∀ W, Below w.heap.size w W → W.cell? ⟨b, off + i * 2, none⟩ = some (.int .i64 m) ∧ W.cell? ⟨b, off + i * 2 + 1, none⟩ = some (.int .i64 s)) := fun W h => by
    obtain ⟨h1, h2⟩ := hc i (by omega)
    rw [hmsd] at h1 h2
    have hl := World.block_lt_of_cell? _ _ h1
    simp at hl
    exact ⟨by rw [← h1]; exact h.cell (p := ⟨b, off + i * 2, none⟩) (by simp; omega), by rw [← h2]; exact h.cell (p := ⟨b, off + i * 2 + 1, none⟩) (by simp; omega)⟩
  rw [p3] at HFR ⊢
  have HOK : Hid (∀ W, Below w.heap.size w W → Calls Tryd.prog 9 #[.agg #[.int .i64 room, .slice (some ⟨b, off, none⟩) 6 cap]] W fun e w' => e = .returned (.bool true) ∧ Below W.heap.size W w') := fun W h => by
    have h1 := HV.out W h
    rw [p3] at h1
    have := implStockOk_any room _ hs W h1 (by omega)
    rw [hok] at this
    exact this
  obtain ⟨au, cu, rfl⟩ := hu.shape
  have BX := hide_it (Box3.new w (.int .i64 room) (.slice (some ⟨b, off, none⟩) 6 cap) 7 ((i : Int) + 1) (.slice au zs.length cu) 26 44 40)
  clear hc hz p1 p2 p3 p4 hat hms hmsd hF HV hu ha
  go_enter Tryd.func18, Tryd.ntmps18
  go_wp2_with fail
  refine (HOK.out _ (below3 w _ _ _)).mono ?_
  rintro e w1 ⟨rfl, hb1⟩
  have B1 := hide_it ((below3 w _ _ _).trans (hb1.mono (by simp; omega)))
  have BX1 := hide_it (BX.out.later hb1 (Nat.le_refl _))
  obtain ⟨⟨x0, x1⟩, ⟨r0, r1, r2⟩, q0, q1, f0, f1⟩ := BX1.out
  clear hb1
  go_wp2_with fail
  refine (implOk_any 7 _ _ zs a w1 (HU.out _ B1.out) hzl (HA.out _ B1.out)).mono ?_
  rintro e w2 ⟨rfl, hb2⟩
  rw [hrec]
  have B2 := hide_it (B1.out.trans (hb2.mono B1.out.size))
  have BX2 := hide_it (BX1.out.later hb2 (Nat.le_refl _))
  clear x0 x1 r0 r1 r2 q0 q1 f0 f1 hb2
  obtain ⟨⟨x0, x1⟩, ⟨r0, r1, r2⟩, q0, q1, f0, f1⟩ := BX2.out
  have hix : ∀ W, Sem.run Tryd.prog (Instr.index 55 (.agg #[.func (.func 23) #[] #[], .func (.func 24) #[] #[], .func (.func 25) #[] #[], .func (.func 26) #[] #[], .func (.func 23) #[] #[], .func (.func 23) #[] #[], .func (.func 23) #[] #[], .func (.func 23) #[] #[]]) (.int .i64 7)) W = .ok (.func (.func 23) #[] #[]) W := fun W => by kernel_rfl
  go_wp2_with fail
  go_region_held (fun w' => w'.cell? ⟨w.heap.size + 1, 0, none⟩ = some (.int .i64 7)) (go_keep)
    ((go_at_call 20; refine (steps_any _).mono ?_; rintro e w3 ⟨rfl, hb3⟩; have B3 := hide_it (B2.out.drew.trans (hb3.mono B2.out.size)); have BX3 := hide_it ((BX2.out.later (Below.refl _ _).drew (Nat.le_refl _)).later hb3 (Nat.le_refl _)); obtain ⟨_, ⟨s0, _⟩, _⟩ := BX3.out; clear hb3))
  have hi6 : (i : Int) < 6 := by omega
  have hwr : IntKind.i64.wrap ((i : Int) + 1 - 1) = (i : Int) := by simp [IntKind.wrap, IntKind.bits, IntKind.signed]; omega
  have hwi : IntKind.i64.wrap (i : Int) = (i : Int) := by simp [IntKind.wrap, IntKind.bits, IntKind.signed]; omega
  obtain ⟨d0, d1⟩ := HC.out _ B3.out
  obtain ⟨⟨y0, y1⟩, ⟨t0, t1, t2⟩, g0, g1, h0, h1⟩ := BX3.out
  clear x0 x1 r0 r1 r2 q0 q1 f0 f1 s0 hix
  go_wp2_with fail
  go_region_held (fun w' => w'.cell? ⟨w.heap.size, 0, none⟩ = some (.int .i64 room) ∧ w'.cell? ⟨w.heap.size, 1, none⟩ = some (.slice (some ⟨b, off, none⟩) 6 cap) ∧ w'.cell? ⟨w.heap.size + 1, 0, none⟩ = some (.int .i64 7) ∧ w'.cell? ⟨w.heap.size + 1, 1, none⟩ = some (.int .i64 ((i : Int) + 1)) ∧ w'.cell? ⟨w.heap.size + 1, 2, none⟩ = some (.slice au zs.length cu) ∧ w'.cell? ⟨b, off + i * 2, none⟩ = some (.int .i64 m) ∧ w'.cell? ⟨b, off + i * 2 + 1, none⟩ = some (.int .i64 s)) (first | (go_keep; done) | (refine ⟨?_, ?_, ?_, ?_, ?_, ?_, ?_⟩ <;> (rw [two_set_cells _ _ _ _ _ _ (by omega)]; assumption)))
    (first
    | (go_at_call 10; refine (HFR.out _ B3.out.drew).mono ?_; rintro e w4 ⟨rfl, hb4⟩; have B4 := hide_it (B3.out.drew.trans (hb4.mono B3.out.size)); have BX4 := hide_it ((BX3.out.later (Below.refl _ _).drew (Nat.le_refl _)).later hb4 (Nat.le_refl _)); obtain ⟨k0, k1⟩ := HC.out _ B4.out; obtain ⟨⟨l0, l1⟩, ⟨n0, n1, n2⟩, _⟩ := BX4.out; clear hb4)
    | (go_at_call 23; refine (HST.out _ B4.out).mono ?_; rintro e w5 ⟨p, q, rfl, hpq, hb5⟩; have HPQ := hide_it hpq; have B5 := hide_it (B4.out.trans (hb5.mono B4.out.size)); have BX5 := hide_it (BX4.out.later hb5 (Nat.le_refl _)); obtain ⟨m0, m1⟩ := HC.out _ B5.out; obtain ⟨⟨o0, o1⟩, ⟨v0, v1, v2⟩, z0, z1, j0, j1⟩ := BX5.out; have hw5 : w.heap.size + 2 < w5.heap.size := World.block_lt_of_cell? _ _ z0; clear hb5 hpq))
  go_wp2
  exact bodyPost_ret (v := .tuple #[.agg #[.int .i64 p, .int .i64 q], .bool o.isSome]) (by simp [results, Tryd.results18, go_sem, z0, z1]) rfl ⟨p, q, rfl, HPQ.out, (B5.out.setCell (by simp; omega) _).setCell (by simp; omega) _⟩

/-- What a record makes of its trip's hold, whatever the stock and the record. -/
theorem behind_any (room : Int) (v : Value) (hs : List Pl.H) (k t : Int) (u : Value) (zs : List Int) (a : Addr) (w : World) (hv : Holds w v hs) (hl : hs.length ≤ 1048576) (hu : Ints w u zs) (hzl : zs.length ≤ 1048576) (ha : ErrAt w a) :
    Calls Tryd.prog 18 #[.agg #[.int .i64 room, v], .agg #[.int .i64 k, .int .i64 t, u]] w fun e w' => StepOut w w' e (Pl.behind room hs k t zs) := by
  cases hok : Pl.sOk room hs
  · obtain ⟨au, cu, e⟩ := hu.shape
    exact behind_noStock room v hs k t u zs w hv hl ⟨au, _, cu, e⟩ hok
  cases hrec : Pl.recOk k t zs
  · exact behind_noRec room v hs k t u zs a w hv hl hu hzl ha hok hrec
  have hk := Pl.recOk_kind hrec
  rcases (show k = 1 ∨ k = 2 ∨ k = 3 ∨ k = 4 ∨ k = 5 ∨ k = 6 ∨ k = 7 by omega) with rfl | rfl | rfl | rfl | rfl | rfl | rfl
  · exact behind_K1 room v hs t u zs a w hv hu hzl ha hok hrec
  · exact behind_K2 room v hs t u zs a w hv hu hzl ha hok hrec
  · exact behind_K3 room v hs t u zs a w hv hu hzl ha hok hrec
  · exact behind_K4 room v hs t u zs a w hv hu hzl ha hok hrec
  · exact behind_K5 room v hs t u zs a w hv hu hzl ha hok hrec
  · exact behind_K6 room v hs t u zs a w hv hu hzl ha hok hrec
  · exact behind_K7 room v hs t u zs a w hv hu hzl ha hok hrec

end Go.Proofs.YtmkikenacnemkaaDoor
