/- Contracts of what lets a record come to the program's chain. For chains of at most six trips and records of at most 1048576 numbers, in a world in which the sentinel's variable holds a pointer to an errors.errorString. -/
import Derived.Test.YtickjfpbaknlmaaDoorTAdd
namespace Go.Proofs.YtickjfpbaknlmaaDoor.T
open Go.RowKit

/-- What comes of a chain behind a record. -/
def Took (w w' : World) (e : Ending) (c lo : Nat) (ns : List Nd) (r : Rc) (b : Bool) : Prop :=
  e = .returned (.bool b) ∧ ∃ ns', Chain w' c lo ns' ∧ ns'.map ndT = (if b = true then doL (ns.map ndT) r else ns.map ndT) ∧ Below lo w w'

theorem Took.no {w w' : World} {c lo : Nat} {ns : List Nd} {r : Rc} (hc : Chain w c lo ns) (hb : Below w.heap.size w w') : Took w w' (.returned (.bool false)) c lo ns r false :=
  ⟨rfl, ns, hc.after hb, rfl, hb.mono (by have := hc.head.lt; have := hc.lowc; omega)⟩

theorem doL_begin {rs : List R} {r : Rc} (h4 : r.1 = 4) : doL rs r = rs ++ [(r.2.2, 1)] := by unfold doL; rw [if_pos h4]

set_option maxHeartbeats 2000000 in
theorem begin_yes (c lo : Nat) (ns : List Nd) (u : Value) (zs : List Int) (w : World) (hc : Chain w c lo ns) (hn : ns.length ≤ 6) (hu : Ints w u zs) (h3 : zs.length = 3) :
    Calls Tryd.prog 42 #[ptr c, .agg #[.int .i64 4, .int .i64 ((ns.length : Int) + 1), u]] w fun e w' => Took w w' e c lo ns (4, (ns.length : Int) + 1, zs) true := by
  obtain ⟨z0, z1, z2, rfl⟩ := list3 h3
  have HC := hide_it hc
  have HU : Hid (∀ W, Below w.heap.size w W → Ints W u [z0, z1, z2]) := fun W h => hu.later h (Nat.le_refl _)
  obtain ⟨au, cu, hus⟩ := hu.shape
  have hus' : u = .slice au 3 cu := hus
  subst hus'
  have hlc : lo ≤ w.heap.size := by have := hc.head.lt; have := hc.lowc; omega
  clear hc hu h3 hus
  obtain ⟨w0, hw0⟩ : ∃ W, Hid (W = w.alloc (.cells #[.int .i64 4, .int .i64 ((ns.length : Int) + 1), .slice au 3 cu] 26)) := ⟨_, rfl⟩
  have B0 : Hid (Below w.heap.size w w0) := by show Below _ _ _; rw [hw0.out]; exact alloc_below _ _
  have C0 := hide_it (HC.out.after B0.out)
  have X0 : Hid (Blk w0 w.heap.size #[.int .i64 4, .int .i64 ((ns.length : Int) + 1), .slice au 3 cu] 26) := by show Blk _ _ _ _; rw [hw0.out]; exact Blk.new w _ _
  obtain ⟨x0, x1, x2⟩ := X0.out.cells3
  obtain ⟨-, -, d2⟩ := C0.out.head.cells3
  go_enter Tryd.func42, Tryd.ntmps42
  go_wp2
  rw [← hw0.out]
  go_quiet (fail)
  go_wp2_with fail
  have Bd := hide_it (below_drewN B0.out nq)
  have Cd := hide_it (HC.out.after Bd.out)
  refine (add_any c lo ns _ z0 z1 z2 1 _ Cd.out hn (HU.out _ Bd.out)).mono ?_
  rintro e w1 ⟨rfl, hc1, hb1⟩
  have C1 := hide_it hc1
  have B1 := hide_it ((Bd.out.mono hlc).trans hb1)
  clear hc1 hb1
  go_wp2
  go_ret
  refine ⟨rfl, _, C1.out, ?_, B1.out⟩
  rw [if_pos rfl, doL_begin rfl, List.map_append]
  rfl

set_option maxHeartbeats 2000000 in
theorem begin_no (c lo : Nat) (ns : List Nd) (t : Int) (u : Value) (zs : List Int) (w : World) (hc : Chain w c lo ns) (hn : ns.length ≤ 6) (hu : Ints w u zs) (h3 : zs.length = 3) (ht : ¬ t = (ns.length : Int) + 1) :
    Calls Tryd.prog 42 #[ptr c, .agg #[.int .i64 4, .int .i64 t, u]] w fun e w' => Took w w' e c lo ns (4, t, zs) false := by
  obtain ⟨z0, z1, z2, rfl⟩ := list3 h3
  have HC := hide_it hc
  have HU : Hid (∀ W, Below w.heap.size w W → Ints W u [z0, z1, z2]) := fun W h => hu.later h (Nat.le_refl _)
  obtain ⟨au, cu, hus⟩ := hu.shape
  have hus' : u = .slice au 3 cu := hus
  subst hus'
  have hlc : lo ≤ w.heap.size := by have := hc.head.lt; have := hc.lowc; omega
  clear hc hu h3 hus
  obtain ⟨w0, hw0⟩ : ∃ W, Hid (W = w.alloc (.cells #[.int .i64 4, .int .i64 t, .slice au 3 cu] 26)) := ⟨_, rfl⟩
  have B0 : Hid (Below w.heap.size w w0) := by show Below _ _ _; rw [hw0.out]; exact alloc_below _ _
  have C0 := hide_it (HC.out.after B0.out)
  have X0 : Hid (Blk w0 w.heap.size #[.int .i64 4, .int .i64 t, .slice au 3 cu] 26) := by show Blk _ _ _ _; rw [hw0.out]; exact Blk.new w _ _
  obtain ⟨x0, x1, x2⟩ := X0.out.cells3
  obtain ⟨-, -, d2⟩ := C0.out.head.cells3
  go_enter Tryd.func42, Tryd.ntmps42
  go_wp2
  rw [← hw0.out]
  go_quiet (fail)
  go_wp2
  go_ret
  exact Took.no HC.out (below_drewN B0.out _)

theorem begin_any (c lo : Nat) (ns : List Nd) (t : Int) (u : Value) (zs : List Int) (w : World) (hc : Chain w c lo ns) (hn : ns.length ≤ 6) (hu : Ints w u zs) (h3 : zs.length = 3) :
    Calls Tryd.prog 42 #[ptr c, .agg #[.int .i64 4, .int .i64 t, u]] w fun e w' => Took w w' e c lo ns (4, t, zs) (decide (t = ns.length + 1)) := by
  by_cases ht : t = ns.length + 1
  · have HE : decide (t = (ns.length : Int) + 1) = true := by simp [ht]
    rw [HE]
    subst ht
    exact begin_yes c lo ns u zs w hc hn hu h3
  · have HE : decide (t = (ns.length : Int) + 1) = false := by simp [ht]
    rw [HE]
    exact begin_no c lo ns t u zs w hc hn hu h3 ht

theorem tripAt_nd {ns : List Nd} {t : Int} {n : Nd} (h : ns[(t - 1).toNat]? = some n) : tripAt (ns.map ndT) t = ndT n := tripAt_get (by rw [List.getElem?_map, h]; rfl)

set_option maxHeartbeats 4000000 in
theorem take_any (c lo : Nat) (ns : List Nd) (r : Rc) (u : Value) (a : Addr) (w : World) (hc : Chain w c lo ns) (hn : ns.length ≤ 6) (hu : Ints w u r.2.2) (hrl : r.2.2.length ≤ 1048576) (ha : ErrAt w a) :
    Calls Tryd.prog 34 #[ptr c, .agg #[.int .i64 r.1, .int .i64 r.2.1, u]] w fun e w' => Took w w' e c lo ns r (rOk r && mayL (ns.map ndT) r) := by
  obtain ⟨kd, t, zs⟩ := r
  have HC := hide_it hc
  have HU : Hid (∀ W, Below w.heap.size w W → Ints W u zs) := fun W h => hu.later h (Nat.le_refl _)
  have HAe : Hid (∀ W, Below w.heap.size w W → ErrAt W a) := fun W h => ha.later h (Nat.le_refl _)
  obtain ⟨au, cu, hus⟩ := hu.shape
  dsimp only at hus hrl
  subst hus
  have hlc : lo ≤ w.heap.size := by have := hc.head.lt; have := hc.lowc; omega
  clear hc hu ha
  obtain ⟨w0, hw0⟩ : ∃ W, Hid (W = w.alloc (.cells #[.int .i64 kd, .int .i64 t, .slice au zs.length cu] 26)) := ⟨_, rfl⟩
  have B0 : Hid (Below w.heap.size w w0) := by show Below _ _ _; rw [hw0.out]; exact alloc_below _ _
  have C0 := hide_it (HC.out.after B0.out)
  have X0 : Hid (Blk w0 w.heap.size #[.int .i64 kd, .int .i64 t, .slice au zs.length cu] 26) := by show Blk _ _ _ _; rw [hw0.out]; exact Blk.new w _ _
  have S0 := implOk_any kd t _ zs a w0 (HU.out _ B0.out) hrl (HAe.out _ B0.out)
  cases hok : rOk (kd, t, zs)
  · have hok' : Pl.recOk kd t zs = false := hok
    rw [hok'] at S0
    have HS := hide_it S0
    clear S0 hok hok'
    rw [Bool.false_and]
    go_enter Tryd.func34, Tryd.ntmps34
    go_wp2_with fail
    rw [← hw0.out]
    refine HS.out.mono ?_
    rintro e w1 ⟨rfl, hb1⟩
    have B1 := hide_it (B0.out.trans (hb1.mono B0.out.size))
    clear hb1
    go_wp2
    go_ret
    exact Took.no HC.out B1.out
  obtain ⟨ht1, ht6⟩ := rOk_trip hok
  dsimp only at ht1 ht6
  have hok' : Pl.recOk kd t zs = true := hok
  rw [hok'] at S0
  have HS := hide_it S0
  have HOK := hide_it hok
  clear S0 hok hok'
  obtain ⟨bb, hbb⟩ : ∃ b, mayL (ns.map ndT) (kd, t, zs) = b := ⟨_, rfl⟩
  rw [hbb, Bool.true_and]
  have HBB := hide_it hbb
  clear hbb
  by_cases h4 : kd = 4
  · subst h4
    have hz3 : Hid (zs.length = 3) := manyOk_three (rOk_begin HOK.out rfl)
    have HE : Hid (bb = decide (t = (ns.length : Int) + 1)) := by show _ = _; rw [← HBB.out]; unfold mayL; simp
    go_enter Tryd.func34, Tryd.ntmps34
    go_wp2_with fail
    rw [← hw0.out]
    refine HS.out.mono ?_
    rintro e w1 ⟨rfl, hb1⟩
    have B1 := hide_it (B0.out.trans (hb1.mono B0.out.size))
    have X1 := hide_it (X0.out.after hb1)
    have C1 := hide_it (C0.out.after hb1)
    clear hb1
    obtain ⟨x0, x1, x2⟩ := X1.out.cells3
    go_wp2_with fail
    refine (begin_any c lo ns t _ zs w1 C1.out hn (HU.out _ B1.out) hz3.out).mono ?_
    rintro e w2 ⟨rfl, ns', hc2, hm2, hb2⟩
    rw [← HE.out]
    rw [← HE.out] at hm2
    have C2 := hide_it hc2
    have M2 := hide_it hm2
    have B2 := hide_it ((B1.out.mono hlc).trans hb2)
    clear hc2 hm2 hb2
    go_wp2
    go_ret
    exact ⟨rfl, ns', C2.out, M2.out, B2.out⟩
  cases hg : ns[(t - 1).toNat]? with
  | none =>
    have HAt : Hid (at_ ns (t - 1).toNat = .pointer none) := by show _ = _; unfold at_; rw [hg]
    have HE : Hid (bb = false) := by
      show _ = _; rw [← HBB.out]; unfold mayL; rw [if_neg h4]
      dsimp only
      rw [tripAt_none (by rw [List.getElem?_map, hg]; rfl), nextS_0]; rfl
    rw [HE.out]
    clear hg
    go_enter Tryd.func34, Tryd.ntmps34
    go_wp2_with fail
    rw [← hw0.out]
    refine HS.out.mono ?_
    rintro e w1 ⟨rfl, hb1⟩
    have B1 := hide_it (B0.out.trans (hb1.mono B0.out.size))
    have X1 := hide_it (X0.out.after hb1)
    have C1 := hide_it (C0.out.after hb1)
    clear hb1
    obtain ⟨x0, x1, x2⟩ := X1.out.cells3
    go_wp2_with fail
    have HF := find_any c lo ns t w1 C1.out hn ht1
    rw [HAt.out] at HF
    refine HF.mono ?_
    rintro e w2 ⟨rfl, rfl⟩
    go_wp2
    go_ret
    exact Took.no HC.out B1.out
  | some n =>
    have HG := hide_it hg
    have HAt : Hid (at_ ns (t - 1).toNat = ptr n.1) := by show _ = _; exact at_some hg
    have HE : Hid (bb = decide (nextS n.2.2 kd ≠ 0)) := by
      show _ = _; rw [← HBB.out]; unfold mayL; rw [if_neg h4]
      dsimp only
      rw [tripAt_nd hg]; rfl
    clear hg
    by_cases hz : nextS n.2.2 kd = 0
    · have HQ : Hid (∀ W, Calls Tryd.prog 44 #[.int .i64 n.2.2, .int .i64 kd] W fun e w' => e = .returned (.int .i64 0) ∧ w' = W) := fun W => by
        have := stateBehind_any n.2.2 kd W
        rw [hz] at this; exact this
      have HE2 : Hid (bb = false) := by show _ = _; rw [HE.out, hz]; rfl
      rw [HE2.out]
      clear hz
      go_enter Tryd.func34, Tryd.ntmps34
      go_wp2_with fail
      rw [← hw0.out]
      refine HS.out.mono ?_
      rintro e w1 ⟨rfl, hb1⟩
      have B1 := hide_it (B0.out.trans (hb1.mono B0.out.size))
      have X1 := hide_it (X0.out.after hb1)
      have C1 := hide_it (C0.out.after hb1)
      clear hb1
      obtain ⟨x0, x1, x2⟩ := X1.out.cells3
      obtain ⟨-, -, -, n3, -⟩ := C1.out.nodes.cells HG.out
      go_wp2_with fail
      have HF := find_any c lo ns t w1 C1.out hn ht1
      rw [HAt.out] at HF
      refine HF.mono ?_
      rintro e w2 ⟨rfl, rfl⟩
      go_wp2
      go_quiet ((go_at_call 44; exact Calls.quiet_of_same (HQ.out _)))
      go_wp2
      go_ret
      exact Took.no HC.out (below_drewN B1.out _)
    · have HE2 : Hid (bb = true) := by show _ = _; rw [HE.out]; simp [hz]
      rw [HE2.out]
      obtain ⟨S, hS⟩ : ∃ S, nextS n.2.2 kd = S := ⟨_, rfl⟩
      have HSS := hide_it hS
      rw [hS] at hz
      have HQ : Hid (∀ W, Calls Tryd.prog 44 #[.int .i64 n.2.2, .int .i64 kd] W fun e w' => e = .returned (.int .i64 S) ∧ w' = W) := fun W => by
        have := stateBehind_any n.2.2 kd W
        rw [hS] at this; exact this
      clear hS
      go_enter Tryd.func34, Tryd.ntmps34
      go_wp2_with fail
      rw [← hw0.out]
      refine HS.out.mono ?_
      rintro e w1 ⟨rfl, hb1⟩
      have B1 := hide_it (B0.out.trans (hb1.mono B0.out.size))
      have X1 := hide_it (X0.out.after hb1)
      have C1 := hide_it (C0.out.after hb1)
      clear hb1
      obtain ⟨x0, x1, x2⟩ := X1.out.cells3
      obtain ⟨-, -, -, n3, -⟩ := C1.out.nodes.cells HG.out
      have fn3 := (C1.out.nodes.node _ n HG.out).free 3
      go_wp2_with fail
      have HF := find_any c lo ns t w1 C1.out hn ht1
      rw [HAt.out] at HF
      refine HF.mono ?_
      rintro e w2 ⟨rfl, rfl⟩
      go_wp2
      go_quiet ((go_at_call 44; exact Calls.quiet_of_same (HQ.out _)))
      go_wp2
      go_ret
      have T := (C1.out.after (below_drewN (Below.refl _ _) nq)).turn S HG.out
      refine ⟨rfl, _, T.1, ?_, ((below_drewN B1.out _).mono hlc).trans T.2⟩
      rw [if_pos rfl]
      unfold doL
      rw [if_neg h4]
      dsimp only
      rw [tripAt_nd HG.out, List.map_set]
      show _ = List.set _ _ ((ndT n).1, nextS n.2.2 kd)
      rw [HSS.out]
      rfl

end Go.Proofs.YtickjfpbaknlmaaDoor.T
