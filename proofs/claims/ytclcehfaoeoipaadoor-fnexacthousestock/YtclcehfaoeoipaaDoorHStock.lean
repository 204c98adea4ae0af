/- Contracts of HouseStock: the specification's, and the program's. For all that together has at most 1048576 records and numbers, in a world in which the sentinel's variable holds a pointer to an errors.errorString. -/
import Derived.Test.YtclcehfaoeoipaaDoorHFns
import Derived.Test.YtclcehfaoeoipaaDoorHOk
import Derived.Test.YtclcehfaoeoipaaDoorIForm
namespace Go.Proofs.YtclcehfaoeoipaaDoor
open Go.RowKit

/-- A stock comes back, in memory of the call's own. -/
def SkOut (W w' : World) (e : Ending) (RR : Int) (HS : List Pl.H) : Prop :=
  ∃ ao cap, e = .returned (.agg #[.int .i64 RR, .slice ao HS.length cap]) ∧ w'.ownsRow W.heap.size 79 2 (.slice ao HS.length cap) HS.length (hflat HS) ∧ Below W.heap.size W w'
theorem SkOut.none_ {W w' : World} (h : Below W.heap.size W w') : SkOut W w' (.returned (.agg #[.int .i64 0, .slice none 0 0])) 0 [] := ⟨none, 0, rfl, World.ownsRow_nil _ _ _ _, h⟩

/-- The records that count; what HouseStock answers by. -/
def cutR (rs : List R) (f : Int) (forced : Bool) : List R := if forced = true then rs.take f.toNat else rs
def hsO (id room : Int) (rs : List R) (f : Int) (forced : Bool) : Option (List Pl.H) := if hoOk id room rs f = true then Pl.sOf room (cutR rs f forced) else none
theorem cutR_tot (rs : List R) (f : Int) (forced : Bool) : tot (cutR rs f forced) ≤ tot rs := by
  unfold cutR; split
  · by_cases h : f.toNat ≤ rs.length
    · exact pre_take rs _ h
    · rw [List.take_of_length_le (by omega)]; exact Nat.le_refl _
  · exact Nat.le_refl _
theorem cutR_len {rs : List R} {f : Int} (h0 : 0 ≤ f) (h1 : f ≤ rs.length) : ((rs.take f.toNat).length : Int) = f := by simp; omega

/-- The first ones of a list that lies in memory. -/
theorem Recs.cut {w : World} {N cap : Nat} {ao : Option Addr} {rs : List R} (h : Recs w (.slice ao rs.length cap) rs) (hN : N ≤ rs.length) : Recs w (.slice ao N cap) (rs.take N) := h.take hN

theorem row_set {w : World} {base b : Nat} {v : Value} {n : Nat} {xs : List Value} {cur : Array Value} {ty : TypeId} (h : w.ownsRow base 79 2 v n xs) (hb : Blk w b cur ty) (ht : ty ≠ 79) (j : Nat) (x : Value) : (w.setCell ⟨b, j, none⟩ x).ownsRow base 79 2 v n xs := by
  refine ownsRow_setCell_ne h (fun g hg e => ?_) x
  subst e
  rcases h.2 with ⟨hv, _⟩ | ⟨g', cap, cur', hv, _, hc, _⟩
  · rw [hv] at hg; simp [Value.ownBlock] at hg
  · rw [hv] at hg
    simp [Value.ownBlock] at hg
    subst hg
    unfold Blk at hb
    rw [hb] at hc
    simp at hc
    exact ht hc.2
theorem row_low {w : World} {base lo : Nat} {v : Value} {n : Nat} {xs : List Value} (h : w.ownsRow base 79 2 v n xs) (hl : lo ≤ base) : w.ownsRow lo 79 2 v n xs := ownsRow_base h hl

set_option maxHeartbeats 2000000 in
theorem allStock_any (id : Int) (up : Bool) (room : Int) (v : Value) (rs : List R) (f : Int) (a : Addr) (w : World) (hv : Recs w v rs) (hl : tot rs ≤ 1048576) (ha : ErrAt w a) :
    Calls Tryd.prog 35 #[keeperV v f id up room] w fun e w' => SkOut w w' e (oR room (Pl.sOf room rs)) (oH (Pl.sOf room rs)) := by
  obtain ⟨RR, hRR⟩ : ∃ x, Hid (oR room (Pl.sOf room rs) = x) := ⟨_, rfl⟩
  obtain ⟨HS, hHS⟩ : ∃ x, Hid (oH (Pl.sOf room rs) = x) := ⟨_, rfl⟩
  obtain ⟨BB, hBB⟩ : ∃ x, Hid ((Pl.sOf room rs).isSome = x) := ⟨_, rfl⟩
  have HO : Hid (∀ W, Below w.heap.size w W → Calls Tryd.prog 30 #[.int .i64 room, v] W fun e w' => StOut W w' e RR HS BB) := fun W h => by
    have := implOf_any room v rs a W (hv.later h (Nat.le_refl _)) hl (ha.later h (Nat.le_refl _))
    rw [hRR.out, hHS.out, hBB.out] at this; exact this
  rw [hRR.out, hHS.out]
  obtain ⟨av, cv, rfl⟩ := hv.shape
  clear hv ha
  obtain ⟨w0, hw0⟩ : ∃ W, Hid (W = (w.alloc (.cells #[.slice av rs.length cv, .int .i64 f, .int .i64 id, .bool up, .int .i64 room] 57)).alloc (.cells #[.int .i64 0, .slice none 0 0] 39)) := ⟨_, rfl⟩
  have B0 : Hid (Below w.heap.size w w0) := by show Below _ _ _; rw [hw0.out]; exact below2 _ _ _
  have Z0 : Hid (Blk w0 (w.heap.size + 1) #[.int .i64 0, .slice none 0 0] 39) := by show Blk _ _ _ _; rw [hw0.out]; exact Blk.new2 _ _ _ _
  have hs0 : w0.heap.size = w.heap.size + 2 := by rw [hw0.out, size2]
  go_enter Tryd.func35, Tryd.ntmps35
  go_wp2_with fail
  rw [← hw0.out]
  refine (HO.out _ B0.out).mono ?_
  rintro e w1 ⟨a1, c1, rfl, ho1, hb1⟩
  have Z1 := hide_it (Z0.out.after hb1)
  have O1 := hide_it ho1
  have B1 := hide_it (B0.out.trans (hb1.mono B0.out.size))
  have hs1 : w.heap.size + 2 ≤ w1.heap.size := by have := hb1.size; omega
  obtain ⟨z0, z1⟩ := Z1.out.cells2
  obtain ⟨zf0, zf1, -, -, -⟩ := Z1.out.free5
  have k0 := fun x => cellAlloc z0 x
  have k1 := fun x => cellAlloc z1 x
  have q0 := fun x => frozenAlloc zf0 (by omega) x
  have q1 := fun x => frozenAlloc zf1 (by omega) x
  clear ho1 hb1
  go_wp2
  refine bodyPost_ret (v := .agg #[.int .i64 RR, .slice a1 HS.length c1]) (by simp [results, Tryd.results35, go_sem, *]) rfl ?_
  refine ⟨a1, c1, rfl, ?_, ?_⟩
  · refine row_low (row_set (row_set (ownsRow_below O1.out (alloc_below _ _) (fun k hk => (O1.out.lt k hk).2)) (Z1.out.alloc _) (by decide) _ _) ((Z1.out.alloc _).set_ 0 _) (by decide) _ _) (by omega)
  · exact ((B1.out.alloc (by omega) _).setCell (by simp) _).setCell (by simp) _

theorem b_drew {w0 w1 : World} (h : Below w0.drew.heap.size w0.drew w1) : Below w0.heap.size w0 w1 := (Below.refl w0.heap.size w0).drew.trans h
theorem b_alloc_drew {w0 w1 : World} {o : Obj} (h : Below (w0.alloc o).drew.heap.size (w0.alloc o).drew w1) : Below w0.heap.size w0 w1 := ((alloc_below w0 o).drew).trans (h.mono (by simp))
theorem z_alloc_drew {w0 w1 : World} {cs : Array Value} {ty : TypeId} (h : Below (w0.alloc (.cells cs ty)).drew.heap.size (w0.alloc (.cells cs ty)).drew w1) : Blk w1 w0.heap.size cs ty := by
  have h0 : Blk (w0.alloc (.cells cs ty)).drew w0.heap.size cs ty := (Blk.new w0 cs ty).after (Below.refl _ _).drew
  exact h0.after h
theorem o_alloc_drew {w0 w1 : World} {o : Obj} {e : TypeId} {sz n : Nat} {v : Value} {xs : List Value} (h : w1.ownsRow (w0.alloc o).drew.heap.size e sz v n xs) : w1.ownsRow w0.heap.size e sz v n xs := ownsRow_base h (by simp)
theorem o_drew {w0 w1 : World} {e : TypeId} {sz n : Nat} {v : Value} {xs : List Value} (h : w1.ownsRow w0.drew.heap.size e sz v n xs) : w1.ownsRow w0.heap.size e sz v n xs := ownsRow_base h (by simp)

end Go.Proofs.YtclcehfaoeoipaaDoor
