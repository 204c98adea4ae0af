/- Contracts of the specification's l2Do and StockDo. For stocks of at most 1048576 holds and records of at most 1048576 numbers. -/
import Derived.Test.YtckafpmhhoeodaaDoorKSDo
namespace Go.Proofs.YtckafpmhhoeodaaDoor
open Go.RowKit

theorem setCell_mid (W : World) (b o : Nat) (x : Value) : Mid b (b + 1) W (W.setCell ⟨b, o, none⟩ x) :=
  ⟨rfl, rfl, rfl, by simp, fun k hk hh => Below.heap_setCell _ _ _ _ (by simp; omega)⟩
theorem Mid.then_below {lo hi : Nat} {w a b : World} (h : Mid lo hi w a) (hb : Below w.heap.size a b) : Mid lo hi w b :=
  ⟨hb.os.trans h.os, hb.tape.trans h.tape, hb.output.trans h.output, Nat.le_trans h.size hb.size, fun k hk hh => (hb.block k hk).trans (h.block k hk hh)⟩

/-- What a record that may come makes of its trip's hold, kind by kind. -/
theorem next_some {h : Pl.H} {m s k z F : Int} (e : Pl.next (m, s) k z F = some h) : (k = 1 ∧ h = (z, 1)) ∨ (k = 2 ∧ h = (m, 2)) ∨ (k = 3 ∧ h = (m, 3)) := by
  by_cases k1 : k = 1
  · subst k1
    rw [next_1] at e
    split at e
    · exact Or.inl ⟨rfl, (by simpa using e.symm)⟩
    · cases e
  by_cases k2 : k = 2
  · subst k2
    rw [next_2] at e
    split at e
    · exact Or.inr (Or.inl ⟨rfl, (by simpa using e.symm)⟩)
    · cases e
  by_cases k3 : k = 3
  · subst k3
    rw [next_3] at e
    split at e
    · exact Or.inr (Or.inr ⟨rfl, (by simpa using e.symm)⟩)
    · cases e
  · rw [next_x _ _ _ _ k1 k2 k3] at e; cases e
theorem behind_parts {room : Int} {hs : List Pl.H} {k t : Int} {zs : List Int} {h : Pl.H} (e : Pl.behind room hs k t zs = some h) : Pl.sOk room hs = true ∧ Pl.recOk k t zs = true ∧ Pl.next (Pl.hAt hs t) k (zs.headD 0) (Pl.free room hs) = some h := by
  cases hok : Pl.sOk room hs
  · rw [Pl.behind_stock k t zs hok] at e; cases e
  cases hr : Pl.recOk k t zs
  · rw [Pl.behind_rec room hs hr] at e; cases e
  · rw [Pl.behind_ok hok hr] at e; exact ⟨rfl, rfl, e⟩

theorem below4' (w : World) (o1 o2 o3 o4 : Obj) : Below w.heap.size w ((((w.alloc o1).alloc o2).alloc o3).alloc o4) := (below3 w o1 o2 o3).alloc (by simp; omega) o4

set_option maxRecDepth 100000 in
set_option maxHeartbeats 4000000 in
theorem l2Do_any (room : Int) (g cap lo : Nat) (hs : List Pl.H) (k t : Int) (u : Value) (zs : List Int) (h : Pl.H) (w : World) (ho : w.ownsRow lo 68 2 (.slice (some ⟨g, 0, none⟩) 6 cap) 6 (hflat hs)) (hu : Ints w u zs) (hbh : Pl.behind room hs k t zs = some h) :
    Calls Tryd.prog 64 #[.agg #[.int .i64 room, .slice (some ⟨g, 0, none⟩) 6 cap], .agg #[.int .i64 k, .int .i64 t, u]] w fun e w' => e = .returned (.agg #[.int .i64 room, .slice (some ⟨g, 0, none⟩) 6 cap]) ∧ w'.ownsRow lo 68 2 (.slice (some ⟨g, 0, none⟩) 6 cap) 6 (hflat (hs.set (Pl.at_ t) h)) ∧ Mid g (g + 1) w w' := by
  obtain ⟨hok, hrec, hnx⟩ := behind_parts hbh
  obtain ⟨_, _, p3, _⟩ := Pl.sOk_parts hok
  obtain ⟨i, hi, rfl, hat⟩ := trip_at hrec
  rw [hat]
  obtain ⟨m, s, hms⟩ : ∃ m s, hs.getD i (0, 0) = (m, s) := ⟨_, _, rfl⟩
  have hms' : Pl.hAt hs ((i : Int) + 1) = (m, s) := by unfold Pl.hAt; rw [hat]; exact hms
  rw [hms'] at hnx
  have hgl := ho.lt g rfl
  obtain ⟨f0, f1⟩ := hflat_get hs i (by omega)
  rw [hms] at f0 f1
  have c0 : w.cell? ⟨g, i * 2, none⟩ = some (.int .i64 m) := by rw [ho.cellAt _ (by omega)]; exact f0
  have c1 : w.cell? ⟨g, i * 2 + 1, none⟩ = some (.int .i64 s) := by rw [ho.cellAt _ (by omega)]; exact f1
  have z0 := ho.frozenAt (i * 2)
  have z1 := ho.frozenAt (i * 2 + 1)
  have c30 : ∀ o1 o2 o3, (((w.alloc o1).alloc o2).alloc o3).cell? ⟨g, i * 2, none⟩ = some (.int .i64 m) := fun o1 o2 o3 => ((below3 w o1 o2 o3).cell (p := ⟨g, i * 2, none⟩) hgl.2).trans c0
  have c31 : ∀ o1 o2 o3, (((w.alloc o1).alloc o2).alloc o3).cell? ⟨g, i * 2 + 1, none⟩ = some (.int .i64 s) := fun o1 o2 o3 => ((below3 w o1 o2 o3).cell (p := ⟨g, i * 2 + 1, none⟩) hgl.2).trans c1
  have c40 : ∀ o1 o2 o3 o4, ((((w.alloc o1).alloc o2).alloc o3).alloc o4).cell? ⟨g, i * 2, none⟩ = some (.int .i64 m) := fun o1 o2 o3 o4 => ((below4' w o1 o2 o3 o4).cell (p := ⟨g, i * 2, none⟩) hgl.2).trans c0
  have c41 : ∀ o1 o2 o3 o4, ((((w.alloc o1).alloc o2).alloc o3).alloc o4).cell? ⟨g, i * 2 + 1, none⟩ = some (.int .i64 s) := fun o1 o2 o3 o4 => ((below4' w o1 o2 o3 o4).cell (p := ⟨g, i * 2 + 1, none⟩) hgl.2).trans c1
  have z40 : ∀ o1 o2 o3 o4, ((((w.alloc o1).alloc o2).alloc o3).alloc o4).frozen? ⟨g, i * 2, none⟩ = false := fun o1 o2 o3 o4 => ((below4' w o1 o2 o3 o4).frozen (p := ⟨g, i * 2, none⟩) hgl.2).trans z0
  have z41 : ∀ o1 o2 o3 o4, ((((w.alloc o1).alloc o2).alloc o3).alloc o4).frozen? ⟨g, i * 2 + 1, none⟩ = false := fun o1 o2 o3 o4 => ((below4' w o1 o2 o3 o4).frozen (p := ⟨g, i * 2 + 1, none⟩) hgl.2).trans z1
  have FIN : Hid (∀ o1 o2 o3 o4 x y, (((((((w.alloc o1).alloc o2).alloc o3).alloc o4).setCell ⟨g, i * 2, none⟩ (.int .i64 h.1)).setCell ⟨g, i * 2 + 1, none⟩ (.int .i64 h.2)).setCell ⟨w.heap.size + 1 + 1, 0, none⟩ x |>.setCell ⟨w.heap.size + 1 + 1, 1, none⟩ y).ownsRow lo 68 2 (.slice (some ⟨g, 0, none⟩) 6 cap) 6 (hflat (hs.set i h)) ∧ Mid g (g + 1) w (((((((w.alloc o1).alloc o2).alloc o3).alloc o4).setCell ⟨g, i * 2, none⟩ (.int .i64 h.1)).setCell ⟨g, i * 2 + 1, none⟩ (.int .i64 h.2)).setCell ⟨w.heap.size + 1 + 1, 0, none⟩ x |>.setCell ⟨w.heap.size + 1 + 1, 1, none⟩ y)) := fun o1 o2 o3 o4 x y => by
    have st := stored2 ((((ho.alloc o1).alloc o2).alloc o3).alloc o4) i (by omega) h
    refine ⟨ownsRow_mid (ownsRow_mid st.1 (setCell_mid _ _ _ _) ?_) (setCell_mid _ _ _ _) ?_, ?_⟩
    · intro j hj; simp [Value.ownBlock] at hj; omega
    · intro j hj; simp [Value.ownBlock] at hj; omega
    · have m1 : Mid g (g + 1) w _ := (Mid.of_below (below4' w o1 o2 o3 o4) (Nat.le_refl _)).trans (Mid.of_grown st.2 (fun j hj => by simp at hj; omega))
      exact m1.then_below (((Below.refl _ _).setCell (by simp; omega) _).setCell (by simp; omega) _)
  have hgn : ¬ g = w.heap.size + 1 + 1 := by omega
  have hgn0 : ¬ g = w.heap.size := by omega
  have hgn1 : ¬ g = w.heap.size + 1 := by omega
  have hgn3 : ¬ g = w.heap.size + 1 + 1 + 1 := by omega
  clear f0 f1 hok p3 hat hms hms' ho
  rcases next_some hnx with ⟨rfl, rfl⟩ | ⟨rfl, rfl⟩ | ⟨rfl, rfl⟩
  · obtain ⟨z, rfl, _, _⟩ := Pl.recOk_hold hrec
    rcases hu with ⟨h, _⟩ | ⟨b2, off2, cap2, rfl, hz2, hc2⟩
    · simp at h
    have d0 : w.cell? ⟨b2, off2, none⟩ = some (.int .i64 z) := hc2 0 (by simp)
    have hb2 : b2 < w.heap.size := World.block_lt_of_cell? _ _ d0
    have d4 : ∀ o1 o2 o3 o4, ((((w.alloc o1).alloc o2).alloc o3).alloc o4).cell? ⟨b2, off2, none⟩ = some (.int .i64 z) := fun o1 o2 o3 o4 => ((below4' w o1 o2 o3 o4).cell (p := ⟨b2, off2, none⟩) hb2).trans d0
    clear hc2 hz2 hrec hnx hbh
    go_enter Tryd.func64, Tryd.ntmps64
    go_wp2
    exact bodyPost_ret (v := .agg #[.int .i64 room, .slice (some ⟨g, 0, none⟩) 6 cap]) (by simp [results, Tryd.results64, go_sem]) rfl ⟨rfl, FIN.out _ _ _ _ _ _⟩
  · obtain ⟨au, cu, rfl⟩ := hu.shape
    clear hu hrec hnx hbh
    go_enter Tryd.func64, Tryd.ntmps64
    go_wp2
    exact bodyPost_ret (v := .agg #[.int .i64 room, .slice (some ⟨g, 0, none⟩) 6 cap]) (by simp [results, Tryd.results64, go_sem]) rfl ⟨rfl, FIN.out _ _ _ _ _ _⟩
  · obtain ⟨au, cu, rfl⟩ := hu.shape
    clear hu hrec hnx hbh
    go_enter Tryd.func64, Tryd.ntmps64
    go_wp2
    exact bodyPost_ret (v := .agg #[.int .i64 room, .slice (some ⟨g, 0, none⟩) 6 cap]) (by simp [results, Tryd.results64, go_sem]) rfl ⟨rfl, FIN.out _ _ _ _ _ _⟩

set_option maxRecDepth 100000 in
set_option maxHeartbeats 4000000 in
theorem specDo_any (room : Int) (v : Value) (hs : List Pl.H) (k t : Int) (u : Value) (zs : List Int) (w : World) (hv : Holds w v hs) (hl : hs.length ≤ 1048576) (hu : Ints w u zs) (hzl : zs.length ≤ 1048576) :
    Calls Tryd.prog 68 #[.agg #[.int .i64 room, v], .agg #[.int .i64 k, .int .i64 t, u]] w fun e w' => StOut w w' e (oR room (Pl.sDo room hs k t zs)) (oH (Pl.sDo room hs k t zs)) (Pl.sDo room hs k t zs).isSome := by
  have HM : Hid (∀ W, Below w.heap.size w W → Calls Tryd.prog 78 #[.agg #[.int .i64 room, v], .agg #[.int .i64 k, .int .i64 t, u]] W fun e w' => e = .returned (.bool (Pl.behind room hs k t zs).isSome) ∧ Below W.heap.size W w') := fun W h =>
    specMay_any room v hs k t u zs W (hv.later h (Nat.le_refl _)) hl (hu.later h (Nat.le_refl _)) hzl
  have HV : Hid (∀ W, Below w.heap.size w W → Holds W v hs) := fun W h => hv.later h (Nat.le_refl _)
  have HU : Hid (∀ W, Below w.heap.size w W → Ints W u zs) := fun W h => hu.later h (Nat.le_refl _)
  obtain ⟨av, cv, rfl⟩ := hv.shape
  obtain ⟨au, cu, rfl⟩ := hu.shape
  have BX := hide_it (BoxS.new w (.int .i64 room) (.slice av hs.length cv) k t (.slice au zs.length cu) 43 73 43)
  clear hv hu
  cases ho : Pl.behind room hs k t zs with
  | none =>
    have e : Pl.sDo room hs k t zs = none := by unfold Pl.sDo; rw [ho]; rfl
    rw [e]
    rw [ho] at HM
    go_enter Tryd.func68, Tryd.ntmps68
    go_wp2_with fail
    refine (HM.out _ (below3 w _ _ _)).mono ?_
    rintro e w1 ⟨rfl, hb1⟩
    have B1 := hide_it ((below3 w _ _ _).trans (hb1.mono (by simp; omega)))
    obtain ⟨_, _, q0, q1, f0, f1⟩ := BX.out.later hb1 (by simp)
    clear hb1
    go_wp2
    exact bodyPost_ret (v := .tuple #[.agg #[.int .i64 0, .slice none 0 0], .bool false]) (by simp [results, Tryd.results68, go_sem, q0, q1]) rfl (StOut.none_ ((B1.out.setCell (by simp; omega) _).setCell (by simp; omega) _))
  | some h =>
    have e : Pl.sDo room hs k t zs = some (hs.set (Pl.at_ t) h) := by unfold Pl.sDo; rw [ho]; rfl
    rw [e]
    obtain ⟨hok, hrec, _⟩ := behind_parts ho
    obtain ⟨_, _, p3, _⟩ := Pl.sOk_parts hok
    have P3 := hide_it p3
    have HBH := hide_it ho
    rw [ho] at HM
    rw [p3] at HM BX ⊢
    rw [p3] at HV
    have hlen : Hid ((hs.set (Pl.at_ t) h).length = 6) := by show _ = _; rw [List.length_set]; exact P3.out
    clear e ho hrec hok p3 hl
    go_enter Tryd.func68, Tryd.ntmps68
    go_wp2_with fail
    refine (HM.out _ (below3 w _ _ _)).mono ?_
    rintro e w1 ⟨rfl, hb1⟩
    have B1 := hide_it ((below3 w _ _ _).trans (hb1.mono (by simp; omega)))
    have BX1 := hide_it (BX.out.later hb1 (by simp))
    have hz1 : w.heap.size + 3 ≤ w1.heap.size := by have := hb1.size; simp at this; omega
    obtain ⟨⟨x0, x1⟩, ⟨r0, r1, r2⟩, q0, q1, f0, f1⟩ := BX1.out
    clear hb1
    go_wp2_with fail
    go_region_held (fun w' => w'.cell? ⟨w.heap.size, 0, none⟩ = some (.int .i64 room) ∧ w'.cell? ⟨w.heap.size, 1, none⟩ = some (.slice av 6 cv) ∧ w'.cell? ⟨w.heap.size + 1, 0, none⟩ = some (.int .i64 k) ∧ w'.cell? ⟨w.heap.size + 1, 1, none⟩ = some (.int .i64 t) ∧ w'.cell? ⟨w.heap.size + 1, 2, none⟩ = some (.slice au zs.length cu)) (first | (go_keep; done) | (refine ⟨?_, ?_, ?_, ?_, ?_⟩ <;> (rw [two_set_cells _ _ _ _ _ _ (by omega)]; assumption)))
      (first
      | (go_at_call 79; refine (l2Copy_any room _ hs _ (HV.out _ B1.out.drew) P3.out).mono ?_; rintro e w2 ⟨g, cap, rfl, ho2, hb2⟩; have O2 := hide_it ho2; have hg2 := ho2.lt g rfl; have B2 := hide_it (B1.out.drew.trans (hb2.mono B1.out.size)); have BX2 := hide_it ((BX1.out.later (Below.refl _ _).drew hz1).later hb2 (by exact hz1)); obtain ⟨⟨y0, y1⟩, ⟨s0, s1, s2⟩, _⟩ := BX2.out; clear hb2 ho2)
      | (go_at_call 64; refine (l2Do_any room g cap _ hs k t _ zs h _ O2.out (HU.out _ B2.out) HBH.out).mono ?_; rintro e w3 ⟨rfl, ho3, hM3⟩; have O3 := hide_it ho3; have hw1g : w1.heap.size + 2 ≤ g := hg2.1; have E3 := hide_it (hM3.below (B := w1.heap.size) (by omega) (by omega)); have B3 := hide_it (B2.out.trans (E3.out.mono B1.out.size)); have BX3 := hide_it (BX2.out.later E3.out hz1); obtain ⟨⟨o0, o1⟩, ⟨v0, v1, v2⟩, z0, z1, j0, j1⟩ := BX3.out; have hz3 := BX3.out.lt; clear ho3 hM3))
    go_wp2
    refine bodyPost_ret (v := .tuple #[.agg #[.int .i64 room, .slice (some ⟨g, 0, none⟩) 6 cap], .bool true]) (by simp [results, Tryd.results68, go_sem, z0, z1]) rfl ⟨some ⟨g, 0, none⟩, cap, ?_, ?_, ?_⟩
    · show _ = _
      simp only [oR, oH, Option.getD_some, Option.isSome_some, hlen.out]
    · simp only [oH, Option.getD_some, hlen.out]
      exact ownsRow_base (ownsRow_setCell_below (ownsRow_setCell_below O3.out (by show _ < w1.heap.size + 2; simp; omega) _) (by show _ < w1.heap.size + 2; simp; omega) _) (by show _ ≤ w1.heap.size + 2; omega)
    · exact (B3.out.setCell (by simp; omega) _).setCell (by simp; omega) _

end Go.Proofs.YtckafpmhhoeodaaDoor
