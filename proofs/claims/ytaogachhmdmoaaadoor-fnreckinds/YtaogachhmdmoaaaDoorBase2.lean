/- What the last text of this claim stands on, part 2: plain facts and contracts; the last text says what is proved. -/
import Derived.Test.YtaogachhmdmoaaaDoorBase1
import Derived.Deep.RegionWith
import Derived.Deep.RegionHeld
import Derived.Test.YtaogachhmdmoaaaDoorCards
import Derived.Test.YtaogachhmdmoaaaDoorTie
import Derived.ProofKit
import Derived.LaidMore
import Derived.OpenShut
import Derived.Stop.Joined
import Derived.Stop.LaidErr
import Derived.Lib.SmallJoins
import Derived.Deep.RegionHeldLaw

namespace Go.Proofs.YtaogachhmdmoaaaDoor
open Go.RowKit

set_option maxHeartbeats 1000000 in
theorem lnInts_any (v1 v2 : Value) (zs : List Int) (w : World) (h1 : Ints w v1 zs) (h2 : Ints w v2 zs) (hl : zs.length ≤ 1048576) :
    Calls Tryd.prog 32 #[v1, v2] w fun e w' => e = .returned (.bool true) ∧ Below w.heap.size w w' := by
  rcases h1 with ⟨rfl, ao, cap, rfl, -⟩ | ⟨b, off, cap, rfl, hz, hc⟩
  · obtain ⟨ao2, cap2, rfl⟩ := h2.shape
    clear h2
    go_enter Tryd.func32, Tryd.ntmps32
    go_wp2
    refine wp_loop_rounds 1 ?_
    rw [rounds_succ]
    go_wp2
    go_ret
    exact ⟨rfl, Below.refl _ _⟩
  rcases h2 with ⟨h, _⟩ | ⟨b2, off2, cap2, rfl, _, hc2⟩
  · exact absurd h hz
  have HC : Hid (∀ k, k < zs.length → w.cell? ⟨b, off + k, none⟩ = some (.int .i64 (zs.getD k 0))) := hc
  have HC2 : Hid (∀ k, k < zs.length → w.cell? ⟨b2, off2 + k, none⟩ = some (.int .i64 (zs.getD k 0))) := hc2
  have hzl : 0 < zs.length := List.length_pos_iff.2 hz
  have hbw : b < w.heap.size := World.block_lt_of_cell? _ _ (hc 0 hzl)
  have hbw2 : b2 < w.heap.size := World.block_lt_of_cell? _ _ (hc2 0 hzl)
  clear hc hc2 hz
  go_enter Tryd.func32, Tryd.ntmps32
  go_wp2
  go_loopw [5] (fun i wr => ∃ k : Nat, k ≤ zs.length ∧ i = .int .i64 k ∧ Below w.heap.size w wr) (fun i _ => zs.length - (intOf i).toNat)
  case atStart => exact ⟨0, Nat.zero_le _, rfl, Below.refl _ _⟩
  case round =>
    obtain ⟨k, hk, rfl, hbe⟩ := hrel
    by_cases hlt : k < zs.length
    · obtain ⟨z, HZ⟩ : ∃ z, Hid (z = zs.getD k 0) := ⟨_, rfl⟩
      have hck : wr.cell? ⟨b, off + k, none⟩ = some (.int .i64 z) := by rw [HZ.out, hbe.cell (p := ⟨b, off + k, none⟩) hbw]; exact HC.out k hlt
      have hck2 : wr.cell? ⟨b2, off2 + k, none⟩ = some (.int .i64 z) := by rw [HZ.out, hbe.cell (p := ⟨b2, off2 + k, none⟩) hbw2]; exact HC2.out k hlt
      have hli : (k : Int) < (zs.length : Int) := by omega
      have HB : Hid (Below w.heap.size w wr) := hbe
      clear hbe
      go_wp2
      go_quiet (fail)
      go_wp2
      go_roundw
      case rel => exact ⟨k + 1, by omega, by go_num, below_drewN HB.out _⟩
      case measure => simp [intOf]; omega
    · go_wp2
      go_ret
      exact ⟨rfl, hbe⟩

set_option maxHeartbeats 1000000 in
theorem lnRec_any (k t : Int) (v1 v2 : Value) (zs : List Int) (w : World) (h1 : Ints w v1 zs) (h2 : Ints w v2 zs) (hl : zs.length ≤ 1048576) :
    Calls Tryd.prog 15 #[.agg #[.int .i64 k, .int .i64 t, v1], .agg #[.int .i64 k, .int .i64 t, v2]] w fun e w' => e = .returned (.bool true) ∧ Below w.heap.size w w' := by
  have H1 : Hid (∀ o1 o2, Ints ((w.alloc o1).alloc o2) v1 zs) := fun o1 o2 => h1.later (below2 w o1 o2) (Nat.le_refl _)
  have H2 : Hid (∀ o1 o2, Ints ((w.alloc o1).alloc o2) v2 zs) := fun o1 o2 => h2.later (below2 w o1 o2) (Nat.le_refl _)
  clear h1 h2
  go_enter Tryd.func15, Tryd.ntmps15
  go_wp2_with (go_at_call 32; refine (lnInts_any _ _ zs _ (H1.out _ _) (H2.out _ _) hl).mono ?_; rintro e w1 ⟨rfl, hb⟩)
  go_ret
  refine ⟨rfl, (below2 w _ _).trans (Below.mono (by assumption) ?_)⟩
  simp; omega

set_option maxHeartbeats 1000000 in
theorem lnRecs_any (v1 v2 : Value) (rs : List R) (w : World) (h1 : Recs w v1 rs) (h2 : Recs w v2 rs) (hl : tot rs ≤ 1048576) :
    Calls Tryd.prog 16 #[v1, v2] w fun e w' => e = .returned (.bool true) ∧ Below w.heap.size w w' := by
  have hlen := tot_len rs
  have HM : Hid (∀ r ∈ rs, r.2.2.length ≤ 1048576) := fun r hr => Nat.le_trans (tot_mem rs r hr) hl
  rcases h1 with ⟨rfl, ao, cap, rfl⟩ | ⟨b, off, cap, rfl, hz, hc⟩
  · obtain ⟨ao2, cap2, rfl⟩ := h2.shape
    clear h2
    go_enter Tryd.func16, Tryd.ntmps16
    go_wp2
    refine wp_loop_rounds 1 ?_
    rw [rounds_succ]
    go_wp2
    go_ret
    exact ⟨rfl, Below.refl _ _⟩
  rcases h2 with ⟨h, _⟩ | ⟨b2, off2, cap2, rfl, _, hc2⟩
  · exact absurd h hz
  have HC : Hid (∀ i r, rs[i]? = some r → ∃ u, RecCells w b (off + i * 3) r u) := hc
  have HC2 : Hid (∀ i r, rs[i]? = some r → ∃ u, RecCells w b2 (off2 + i * 3) r u) := hc2
  have hzl : 0 < rs.length := List.length_pos_iff.2 hz
  clear hc hc2 hz
  go_enter Tryd.func16, Tryd.ntmps16
  go_wp2
  go_loopw [5] (fun i wr => ∃ k : Nat, k ≤ rs.length ∧ i = .int .i64 k ∧ Below w.heap.size w wr) (fun i _ => rs.length - (intOf i).toNat)
  case atStart => exact ⟨0, Nat.zero_le _, rfl, Below.refl _ _⟩
  case round =>
    obtain ⟨k, hk, rfl, hbe⟩ := hrel
    by_cases hlt : k < rs.length
    · obtain ⟨r, hr⟩ : ∃ r, Hid (rs[k]? = some r) := ⟨rs[k], by show _ = _; simp [hlt]⟩
      have hrl : r.2.2.length ≤ 1048576 := HM.out r (List.mem_of_getElem? hr.out)
      obtain ⟨u, hu⟩ := HC.out k r hr.out
      obtain ⟨u', hu'⟩ := HC2.out k r hr.out
      obtain ⟨c0, c1, c2, hI⟩ := hu.later hbe (Nat.le_refl _)
      obtain ⟨d0, d1, d2, hJ⟩ := hu'.later hbe (Nat.le_refl _)
      have HI : Hid (Ints wr u r.2.2) := hI
      have HJ : Hid (Ints wr u' r.2.2) := hJ
      have hli : (k : Int) < (rs.length : Int) := by omega
      have HB : Hid (Below w.heap.size w wr) := hbe
      clear hbe hI hJ hu hu'
      go_wp2
      go_region_with (go_at_call 15; refine (lnRec_any _ _ _ _ r.2.2 _ ?_ ?_ hrl).mono ?_; exact HI.out.later (Below.refl _ _).drew (Nat.le_refl _); exact HJ.out.later (Below.refl _ _).drew (Nat.le_refl _); rintro e w2 ⟨rfl, hb2⟩; have HB2 := HB.out.drew.trans (hb2.mono HB.out.size); clear hb2)
      all_goals (try go_wp2)
      all_goals
        go_roundw
        case rel => exact ⟨k + 1, by omega, by go_num, HB2⟩
        case measure => simp [intOf]; omega
    · go_wp2
      go_ret
      exact ⟨rfl, hbe⟩

set_option maxHeartbeats 1000000 in
theorem lnLog_any (v1 v2 : Value) (rs : List R) (f : Int) (w : World) (h1 : Recs w v1 rs) (h2 : Recs w v2 rs) (hl : tot rs ≤ 1048576) :
    Calls Tryd.prog 13 #[.agg #[v1, .int .i64 f], .agg #[v2, .int .i64 f]] w fun e w' => e = .returned (.bool true) ∧ Below w.heap.size w w' := by
  have H1 : Hid (∀ o1 o2, Recs ((w.alloc o1).alloc o2) v1 rs) := fun o1 o2 => h1.later (below2 w o1 o2) (Nat.le_refl _)
  have H2 : Hid (∀ o1 o2, Recs ((w.alloc o1).alloc o2) v2 rs) := fun o1 o2 => h2.later (below2 w o1 o2) (Nat.le_refl _)
  obtain ⟨a1, p1, rfl⟩ := h1.shape
  obtain ⟨a2, p2, rfl⟩ := h2.shape
  clear h1 h2
  go_enter Tryd.func13, Tryd.ntmps13
  go_wp2_with fail
  refine (lnRecs_any _ _ rs _ (H1.out _ _) (H2.out _ _) hl).mono ?_
  rintro e w1 ⟨rfl, hb⟩
  obtain ⟨hc, _⟩ := bcell hb
  have HB : Hid (Below w.heap.size w w1) := (below2 w _ _).trans (hb.mono (by simp; omega))
  have hz : w.heap.size + 2 ≤ w1.heap.size := by have := hb.size; rw [size2] at this; exact this
  rw [size2] at hc
  clear hb
  go_wp2
  go_ret
  exact ⟨rfl, HB.out⟩

end Go.Proofs.YtaogachhmdmoaaaDoor

namespace Go.Proofs.YtaogachhmdmoaaaDoor
open Go.RowKit

/-- A log and a yes or no come back, the log in memory of the call's own. -/
def LogOut2 (w w' : World) (e : Ending) (rs : List R) (f : Int) (b : Bool) : Prop :=
  ∃ ao cap, e = .returned (.tuple #[.agg #[.slice ao rs.length cap, .int .i64 f], .bool b]) ∧ Made w' w.heap.size (.slice ao rs.length cap) rs ∧ Below w.heap.size w w'

def addOk (rs : List R) (f : Int) (r : R) : Bool := logOk rs f && rOk r
def addR (rs : List R) (f : Int) (r : R) : List R := if addOk rs f r then (if rs.length = 40 then rs else rs ++ [r]) else []
def addF (rs : List R) (f : Int) (r : R) : Int := if addOk rs f r then f else 0
def addB (rs : List R) (f : Int) (r : R) : Bool := addOk rs f r && decide (rs.length ≠ 40)

/-- The three blocks of a call that takes a log and a record and gives back a log. -/
def Trio (w : World) (B : Nat) (v : Value) (f : Int) (r : R) (u : Value) : Prop :=
  w.heap[B]? = some (.cells #[v, .int .i64 f] 31 (0, 0)) ∧ w.heap[B + 1]? = some (.cells #[.int .i64 r.1, .int .i64 r.2.1, u] 25 (0, 0)) ∧ w.heap[B + 2]? = some (.cells #[.slice none 0 0, .int .i64 0] 31 (0, 0))

theorem Trio.size {w : World} {B : Nat} {v : Value} {f : Int} {r : R} {u : Value} (h : Trio w B v f r u) : B + 2 < w.heap.size := lt_of_heap h.2.2
theorem Trio.later {w w' : World} {B L : Nat} {v : Value} {f : Int} {r : R} {u : Value} (h : Trio w B v f r u) (hb : Below L w w') (hL : B + 3 ≤ L) : Trio w' B v f r u := by
  obtain ⟨h0, h1, h2⟩ := h
  exact ⟨by rw [hb.block B (by omega)]; exact h0, by rw [hb.block (B + 1) (by omega)]; exact h1, by rw [hb.block (B + 2) (by omega)]; exact h2⟩
theorem Trio.new (w : World) (v : Value) (f : Int) (r : R) (u : Value) : Trio (((w.alloc (.cells #[v, .int .i64 f] 31)).alloc (.cells #[.int .i64 r.1, .int .i64 r.2.1, u] 25)).alloc (.cells #[.slice none 0 0, .int .i64 0] 31)) w.heap.size v f r u := by
  refine ⟨?_, ?_, ?_⟩
  · rw [Below.heap_alloc _ _ _ (by simp; omega), Below.heap_alloc _ _ _ (by simp)]; exact heap_alloc_new w _
  · rw [Below.heap_alloc _ _ _ (by simp)]
    have := heap_alloc_new (w.alloc (.cells #[v, .int .i64 f] 31)) (.cells #[.int .i64 r.1, .int .i64 r.2.1, u] 25)
    rw [size1] at this
    exact this
  · have := heap_alloc_new ((w.alloc (.cells #[v, .int .i64 f] 31)).alloc (.cells #[.int .i64 r.1, .int .i64 r.2.1, u] 25)) (.cells #[.slice none 0 0, .int .i64 0] 31)
    rw [size2] at this
    exact this
theorem Trio.cells {w : World} {B : Nat} {v : Value} {f : Int} {r : R} {u : Value} (h : Trio w B v f r u) :
    (w.cell? ⟨B, 0, none⟩ = some v ∧ w.cell? ⟨B, 1, none⟩ = some (.int .i64 f)) ∧ (w.cell? ⟨B + 1, 0, none⟩ = some (.int .i64 r.1) ∧ w.cell? ⟨B + 1, 1, none⟩ = some (.int .i64 r.2.1) ∧ w.cell? ⟨B + 1, 2, none⟩ = some u) ∧
    (w.cell? ⟨B + 2, 0, none⟩ = some (.slice none 0 0) ∧ w.cell? ⟨B + 2, 1, none⟩ = some (.int .i64 0) ∧ w.frozen? ⟨B + 2, 0, none⟩ = false ∧ w.frozen? ⟨B + 2, 1, none⟩ = false) := by
  obtain ⟨h0, h1, h2⟩ := h
  refine ⟨⟨?_, ?_⟩, ⟨?_, ?_, ?_⟩, ⟨?_, ?_, frozen_of_row w _ _ _ _ h2, frozen_of_row w _ _ _ _ h2⟩⟩
  · rw [cell_of_row w _ _ _ _ _ h0]; rfl
  · rw [cell_of_row w _ _ _ _ _ h0]; rfl
  · rw [cell_of_row w _ _ _ _ _ h1]; rfl
  · rw [cell_of_row w _ _ _ _ _ h1]; rfl
  · rw [cell_of_row w _ _ _ _ _ h1]; rfl
  · rw [cell_of_row w _ _ _ _ _ h2]; rfl
  · rw [cell_of_row w _ _ _ _ _ h2]; rfl

theorem set2 (w : World) (b2 : Nat) (x y : Value) {b o : Nat} (h : b ≠ b2) : ((w.setCell ⟨b2, 0, none⟩ x).setCell ⟨b2, 1, none⟩ y).cell? ⟨b, o, none⟩ = w.cell? ⟨b, o, none⟩ := by
  rw [World.cell?_of_block (w := w.setCell ⟨b2, 0, none⟩ x) (a := ⟨b, o, none⟩) (Below.heap_setCell _ _ _ _ h), World.cell?_of_block (w := w) (a := ⟨b, o, none⟩) (Below.heap_setCell _ _ _ _ h)]

theorem addRow {w3 w4 : World} {lo n cap3 : Nat} {a3 : Option Addr} {ps : List (R × Value)} (ho : OwnRecs w3 lo w3.heap.size (.slice a3 n cap3) ps) (hpl : ps.length = n) (hb : Below w3.heap.size w3 w4) (o : Obj) :
    (w4.alloc o).ownsRow lo 25 3 (.slice a3 n cap3) n (flat ps) := by
  have h := ho.1
  rw [hpl] at h
  exact (ownsRow_below h hb (fun j hj => (h.lt j hj).2)).alloc o

theorem addBelow {W w5 : World} {lo n cap3 : Nat} {a3 : Option Addr} {xs : List Value} (hr : W.ownsRow lo 25 3 (.slice a3 n cap3) n xs) (hg : W.grownBy w5 (Value.slice a3 n cap3).ownBlock) (hlo : lo ≤ W.heap.size) : Below lo W w5 :=
  (Below.refl _ _).grown hg hlo (fun k hk => (hr.lt k hk).1)

/-- What comes of a list with one more record. -/
theorem implAdd_step {w3 w4 w5 : World} {lo n cap3 g5 cap5 cap4 : Nat} {a3 a4 : Option Addr} {rs : List R} {ps : List (R × Value)} {r : R} {o : Obj} (hlo : lo ≤ w3.heap.size) (hps : ps.map (·.1) = rs) (ho : OwnRecs w3 lo w3.heap.size (.slice a3 n cap3) ps) (hb : Below w3.heap.size w3 w4)
    (hown4 : w4.ownsRow (w3.heap.size + 2) 3 1 (.slice a4 r.2.2.length cap4) r.2.2.length (r.2.2.map (Value.int .i64)))
    (hown5 : w5.ownsRow lo 25 3 (.slice (some ⟨g5, 0, none⟩) (n + 1) cap5) (n + 1) (flat ps ++ [.int .i64 r.1, .int .i64 r.2.1, .slice a4 r.2.2.length cap4]))
    (hg5 : (w4.alloc o).grownBy w5 (Value.slice a3 n cap3).ownBlock) : Made w5 lo (.slice (some ⟨g5, 0, none⟩) (n + 1) cap5) (rs ++ [r]) := by
  have hpl : ps.length = n := by
    have h1 := hown5.1
    rw [List.length_append, flat_length] at h1
    simp at h1; omega
  have row4 := addRow ho hpl hb o
  have al := (Below.refl w4.heap.size w4).alloc (Nat.le_refl _) o
  have hs : (w4.alloc o).heap.size = w4.heap.size + 1 := by simp
  have hbs := hb.size
  have in4 : Inner (w4.alloc o) lo w3.heap.size ps := (ho.2.2.below hb (Nat.le_refl _)).below al hbs
  have lo3 : lo ≤ w3.heap.size + 2 := by omega
  rw [← hpl] at row4 hown5 hg5
  have st := append_step (r := r) row4 in4 (by omega) ((ownsRow_base hown4 lo3).alloc o) (fun k hk => by have := hown4.lt k hk; omega) hown5 hg5
  refine ⟨ps ++ [(r, .slice a4 r.2.2.length cap4)], by rw [List.map_append, hps]; rfl, ?_⟩
  rw [← hpl]
  exact ⟨st.1, fun k hk => (st.1.lt k hk).2, st.2⟩

set_option maxRecDepth 100000 in
set_option maxHeartbeats 4000000 in
theorem implAdd_any (v : Value) (rs : List R) (f : Int) (r : R) (u : Value) (a : Addr) (w : World) (hv : Recs w v rs) (hl : tot rs ≤ 1048576) (hu : Ints w u r.2.2) (hrl : r.2.2.length ≤ 1048576) (ha : ErrAt w a) :
    Calls Tryd.prog 12 #[.agg #[v, .int .i64 f], .agg #[.int .i64 r.1, .int .i64 r.2.1, u]] w fun e w' => LogOut2 w w' e (addR rs f r) (addF rs f r) (addB rs f r) := by
  obtain ⟨i0, hi, hz0, hz1, hz2⟩ := info_parts infoRec
  have hrsl := tot_len rs
  have HV : Hid (∀ W, Below w.heap.size w W → Recs W v rs) := fun W h => hv.later h (Nat.le_refl _)
  have HU : Hid (∀ W, Below w.heap.size w W → Ints W u r.2.2) := fun W h => hu.later h (Nat.le_refl _)
  have HA : Hid (∀ W, Below w.heap.size w W → ErrAt W a) := fun W h => ha.later h (Nat.le_refl _)
  have HT := hide_it (Trio.new w v f r u)
  obtain ⟨av, cv, hvs⟩ := hv.shape
  obtain ⟨au, cu, hus⟩ := hu.shape
  clear hv hu ha
  subst hvs hus
  have HS : Hid (∀ o1 o2 o3, Calls Tryd.prog 17 #[.agg #[.slice av rs.length cv, .int .i64 f]] (((w.alloc o1).alloc o2).alloc o3) fun e w' => e = .returned (.bool (logOk rs f)) ∧ Below (w.heap.size + 3) (((w.alloc o1).alloc o2).alloc o3) w') := fun o1 o2 o3 => by
    have := implLogOk_any _ rs f a _ (HV.out _ (below3 w o1 o2 o3)) hl (HA.out _ (below3 w o1 o2 o3))
    rw [size3] at this
    exact this
  cases hok : logOk rs f
  · have HR : Hid (addR rs f r = [] ∧ addF rs f r = 0 ∧ addB rs f r = false) := by refine ⟨?_, ?_, ?_⟩ <;> simp [addR, addF, addB, addOk, hok]
    rw [hok] at HS
    clear hok
    go_enter Tryd.func12, Tryd.ntmps12
    go_wp2_with fail
    refine (HS.out _ _ _).mono ?_
    rintro e w1 ⟨rfl, hb⟩
    have HB := hide_it ((below3 w _ _ _).trans (hb.mono (by omega)))
    have HT1 := hide_it (HT.out.later hb (Nat.le_refl _))
    obtain ⟨⟨l0, l1⟩, ⟨q0, q1, q2⟩, ⟨r0, r1, z0, z1⟩⟩ := HT1.out.cells
    have hz : w.heap.size + 3 ≤ w1.heap.size := by have := hb.size; rw [size3] at this; exact this
    clear hb
    go_wp2
    refine bodyPost_ret (v := .tuple #[.agg #[.slice none 0 0, .int .i64 0], .bool false]) (by simp [results, Tryd.results12, go_sem, r0, r1]) rfl ?_
    unfold LogOut2
    rw [HR.out.1, HR.out.2.1, HR.out.2.2]
    refine ⟨none, 0, rfl, Made.none _ _, ?_⟩
    exact (HB.out.setCell (by simp; omega) _).setCell (by simp; omega) _
  have HQ : Hid (∀ W, Below w.heap.size w W → Calls Tryd.prog 8 #[.agg #[.int .i64 r.1, .int .i64 r.2.1, .slice au r.2.2.length cu]] W fun e w' => e = .returned (.bool (rOk r)) ∧ Below W.heap.size W w') := fun W h => implOk_any r.1 r.2.1 _ r.2.2 a W (HU.out _ h) hrl (HA.out _ h)
  cases hrok : rOk r
  · have HR : Hid (addR rs f r = [] ∧ addF rs f r = 0 ∧ addB rs f r = false) := by refine ⟨?_, ?_, ?_⟩ <;> simp [addR, addF, addB, addOk, hrok]
    rw [hok] at HS
    rw [hrok] at HQ
    clear hok hrok
    go_enter Tryd.func12, Tryd.ntmps12
    go_wp2_with fail
    refine (HS.out _ _ _).mono ?_
    rintro e w1 ⟨rfl, hb⟩
    have HB := hide_it ((below3 w _ _ _).trans (hb.mono (by omega)))
    have HT1 := hide_it (HT.out.later hb (Nat.le_refl _))
    obtain ⟨⟨l0, l1⟩, ⟨q0, q1, q2⟩, -⟩ := HT1.out.cells
    have hz : w.heap.size + 3 ≤ w1.heap.size := by have := hb.size; rw [size3] at this; exact this
    clear hb
    go_wp2_with fail
    refine (HQ.out _ HB.out).mono ?_
    rintro e w2 ⟨rfl, hb2⟩
    have HB2 := hide_it (HB.out.trans (hb2.mono HB.out.size))
    have HT2 := hide_it (HT1.out.later hb2 (by omega))
    obtain ⟨-, -, ⟨r0, r1, z0, z1⟩⟩ := HT2.out.cells
    clear hb2
    go_wp2
    refine bodyPost_ret (v := .tuple #[.agg #[.slice none 0 0, .int .i64 0], .bool false]) (by simp [results, Tryd.results12, go_sem, r0, r1]) rfl ?_
    unfold LogOut2
    rw [HR.out.1, HR.out.2.1, HR.out.2.2]
    refine ⟨none, 0, rfl, Made.none _ _, ?_⟩
    exact (HB2.out.setCell (by simp; omega) _).setCell (by simp; omega) _
  obtain ⟨hf0, hfn, hn40⟩ := logOk_f hok
  rw [hok] at HS
  rw [hrok] at HQ
  have HOK : Hid (addOk rs f r = true) := by show _ = _; simp [addOk, hok, hrok]
  clear hok hrok
  go_enter Tryd.func12, Tryd.ntmps12
  go_wp2_with fail
  refine (HS.out _ _ _).mono ?_
  rintro e w1 ⟨rfl, hb⟩
  have HB := hide_it ((below3 w _ _ _).trans (hb.mono (by omega)))
  have HT1 := hide_it (HT.out.later hb (Nat.le_refl _))
  obtain ⟨⟨l0, l1⟩, ⟨q0, q1, q2⟩, -⟩ := HT1.out.cells
  have hz : w.heap.size + 3 ≤ w1.heap.size := by have := hb.size; rw [size3] at this; exact this
  clear hb
  go_wp2_with fail
  refine (HQ.out _ HB.out).mono ?_
  rintro e w2 ⟨rfl, hb2⟩
  have HB2 := hide_it (HB.out.trans (hb2.mono HB.out.size))
  have HT2 := hide_it (HT1.out.later hb2 (by omega))
  have hzz : w.heap.size + 3 ≤ w2.heap.size := Nat.le_trans hz hb2.size
  clear hb2 l0 l1 q0 q1 q2
  obtain ⟨⟨l0, l1⟩, -, -⟩ := HT2.out.cells
  go_wp2_with fail
  refine (copyRecs_any _ rs w2 (HV.out _ HB2.out) hl).mono ?_
  rintro e w3 ⟨a3, cap3, rfl, hm3, hb3⟩
  have HB3 := hide_it (HB2.out.trans (hb3.mono HB2.out.size))
  have HT3 := hide_it (HT2.out.later hb3 hzz)
  have HM3 := hide_it hm3
  have hz3 : w.heap.size + 3 ≤ w3.heap.size := Nat.le_trans hzz hb3.size
  have HZ23 := hide_it hb3.size
  clear hm3 hb3 l0 l1
  by_cases h40 : (rs.length : Int) = 40
  · have HR : Hid (addR rs f r = rs ∧ addF rs f r = f ∧ addB rs f r = false) := by
      have h4 : rs.length = 40 := by omega
      refine ⟨?_, ?_, ?_⟩ <;> simp [addR, addF, addB, HOK.out, h4]
    obtain ⟨⟨l0, l1⟩, -, ⟨r0, r1, z0, z1⟩⟩ := HT3.out.cells
    go_wp2
    refine bodyPost_ret (v := .tuple #[.agg #[.slice a3 rs.length cap3, .int .i64 f], .bool false]) (by simp [results, Tryd.results12, go_sem, r0, r1]) rfl ?_
    unfold LogOut2
    rw [HR.out.1, HR.out.2.1, HR.out.2.2]
    refine ⟨a3, cap3, rfl, ?_, ?_⟩
    · exact ((HM3.out.setBelow (by simp; omega) _).setBelow (by simp; omega) _).lo (by omega)
    · exact (HB3.out.setCell (by simp; omega) _).setCell (by simp; omega) _
  · have HR : Hid (addR rs f r = rs ++ [r] ∧ addF rs f r = f ∧ addB rs f r = true) := by
      have h4 : ¬ rs.length = 40 := by omega
      refine ⟨?_, ?_, ?_⟩ <;> simp [addR, addF, addB, HOK.out, h4]
    obtain ⟨⟨l0, l1⟩, ⟨q0, q1, q2⟩, -⟩ := HT3.out.cells
    obtain ⟨ps, hps, ho3⟩ := HM3.out
    have HPS := hide_it hps
    have HPL : Hid (ps.length = rs.length) := by have := congrArg List.length hps; show _ = _; simpa using this
    have HO3 := hide_it ho3
    clear hps ho3
    go_wp2_with fail
    go_region_held_law (fun w' => w'.cell? ⟨w.heap.size + 1, 0, none⟩ = some (.int .i64 r.1) ∧ w'.cell? ⟨w.heap.size + 1, 1, none⟩ = some (.int .i64 r.2.1) ∧ w'.cell? ⟨w.heap.size + 1, 2, none⟩ = some (.slice au r.2.2.length cu) ∧ w'.cell? ⟨w.heap.size, 1, none⟩ = some (.int .i64 f)) (first | (refine ⟨(set2 _ _ _ _ ?_).trans ?_, (set2 _ _ _ _ ?_).trans ?_, (set2 _ _ _ _ ?_).trans ?_, (set2 _ _ _ _ ?_).trans ?_⟩ <;> first | omega | assumption) | go_keep)
      (first
        | (refine step_append_lies _ rfl _ _ 29 rfl w2.heap.size 25 i0 (.agg #[.int .i64 0, .int .i64 0, .slice none 0 0]) 3 40 Tryd.underlying29 hi hz0 hz1 hz2 rfl (by decide) (.slice a3 rs.length cap3) rs.length (flat ps) rfl (by exact (ROW4.out _)) ⟨w4.heap.size, 0, none⟩ 1 1 [.int .i64 r.1, .int .i64 r.2.1, .slice a4 r.2.2.length cap4] rfl rfl (by exact news3 _ _ _ _ _) (by exact one3 _ _ _) (by decide) (by unfold maxLen; omega) (by omega) (by have := HZ23.out; simp; omega) _ rfl ?_; intro g5 cap5 w5 hown5 hgrow5 _ _; have ST := hide_it (implAdd_step HZ23.out HPS.out HO3.out HB4.out HW4.out hown5 hgrow5); have LO5 := hide_it (addBelow (ROW4.out _) hgrow5 (by have := HZ23.out; simp; omega)); obtain ⟨⟨m0, m1⟩, ⟨s0, s1, s2⟩, ⟨e0, e1, e2, e3⟩⟩ := ((HT4.out.later (alloc_below _ _) (by omega)).later LO5.out hzz).cells; have hz5 : w.heap.size + 3 ≤ w5.heap.size := (by have := LO5.out.size; simp at this; omega); clear hown5 hgrow5)
        | (go_simp; go_at_call 31; refine (copyRec_any r.1 r.2.1 _ r.2.2 _ ?_ hrl).mono ?_; exact HU.out _ HB3.out.drew; rintro e w4 ⟨a4, cap4, rfl, hown4, hb4⟩; have HB4 := hide_it ((Below.refl w3.heap.size w3).drew.trans hb4); have HW4 := hide_it hown4; have HT4 := hide_it (HT3.out.later HB4.out hz3); obtain ⟨⟨m0, m1⟩, ⟨s0, s1, s2⟩, ⟨e0, e1, e2, e3⟩⟩ := HT4.out.cells; have m1o := (fun x => cellAlloc m1 x); have s0o := (fun x => cellAlloc s0 x); have s1o := (fun x => cellAlloc s1 x); have s2o := (fun x => cellAlloc s2 x); have hz4 : w.heap.size + 3 ≤ w4.heap.size := Nat.le_trans hz3 HB4.out.size; have hz24 : w2.heap.size ≤ w4.heap.size := Nat.le_trans HZ23.out HB4.out.size; have ROW4 : Hid (∀ o, (w4.alloc o).ownsRow w2.heap.size 25 3 (.slice a3 rs.length cap3) rs.length (flat ps)) := (fun o => addRow HO3.out HPL.out HB4.out o); clear hown4 hb4))
    have BE5 := hide_it ((((HB3.out.trans (HB4.out.mono (by omega))).alloc (by omega) _).trans (LO5.out.mono (show w.heap.size ≤ w2.heap.size by omega))))
    have HLr : Hid ((rs ++ [r]).length = rs.length + 1) := by show _ = _; simp
    go_wp2
    refine bodyPost_ret (v := .tuple #[.agg #[.slice (some ⟨g5, 0, none⟩) (rs.length + 1) cap5, .int .i64 f], .bool true]) (by simp [results, Tryd.results12, go_sem, e0, e1]) rfl ?_
    unfold LogOut2
    rw [HR.out.1, HR.out.2.1, HR.out.2.2, HLr.out]
    refine ⟨_, cap5, rfl, ?_, ?_⟩
    · exact ((ST.out.setBelow (by simp; omega) _).setBelow (by simp; omega) _).lo (by omega)
    · exact (BE5.out.setCell (by simp; omega) _).setCell (by simp; omega) _

end Go.Proofs.YtaogachhmdmoaaaDoor

namespace Go.Proofs.YtaogachhmdmoaaaDoor
open Go.RowKit

/-- A record as plain data: its kind, its trip, its numbers. -/
abbrev Rc := R

/-- A block as it lies. -/
def Blk (w : World) (b : Nat) (cs : Array Value) (ty : TypeId) : Prop := w.heap[b]? = some (.cells cs ty (0, 0))
theorem Blk.new (w : World) (cs : Array Value) (ty : TypeId) : Blk (w.alloc (.cells cs ty)) w.heap.size cs ty := heap_alloc_new w _
theorem Blk.lt {w : World} {b : Nat} {cs : Array Value} {ty : TypeId} (h : Blk w b cs ty) : b < w.heap.size := lt_of_heap h
theorem Blk.later {w w' : World} {b L : Nat} {cs : Array Value} {ty : TypeId} (h : Blk w b cs ty) (hb : Below L w w') (hL : b < L) : Blk w' b cs ty := by
  unfold Blk; rw [hb.block b hL]; exact h
theorem Blk.after {w w' : World} {b : Nat} {cs : Array Value} {ty : TypeId} (h : Blk w b cs ty) (hb : Below w.heap.size w w') : Blk w' b cs ty := h.later hb h.lt
theorem Blk.mid {w w' : World} {b l h' : Nat} {cs : Array Value} {ty : TypeId} (h : Blk w b cs ty) (hm : Mid l h' w w') (hb : b < l ∨ h' ≤ b) : Blk w' b cs ty := by
  unfold Blk; rw [hm.block b h.lt hb]; exact h
theorem Blk.cell {w : World} {b : Nat} {cs : Array Value} {ty : TypeId} (h : Blk w b cs ty) (i : Nat) : w.cell? ⟨b, i, none⟩ = cs[i]? := cell_of_row w _ _ _ _ _ h
theorem Blk.free {w : World} {b : Nat} {cs : Array Value} {ty : TypeId} (h : Blk w b cs ty) (i : Nat) : w.frozen? ⟨b, i, none⟩ = false := frozen_of_row w _ _ _ _ h
theorem Blk.other {w : World} {b : Nat} {cs : Array Value} {ty : TypeId} (h : Blk w b cs ty) {a : Addr} (ha : b ≠ a.block) (x : Value) : Blk (w.setCell a x) b cs ty := by
  unfold Blk; rw [Below.heap_setCell _ _ _ _ ha]; exact h
theorem Blk.alloc {w : World} {b : Nat} {cs : Array Value} {ty : TypeId} (h : Blk w b cs ty) (o : Obj) : Blk (w.alloc o) b cs ty := h.after (alloc_below w o)
theorem Blk.cells5 {w : World} {b : Nat} {x0 x1 x2 x3 x4 : Value} {ty : TypeId} (h : Blk w b #[x0, x1, x2, x3, x4] ty) :
    w.cell? ⟨b, 0, none⟩ = some x0 ∧ w.cell? ⟨b, 1, none⟩ = some x1 ∧ w.cell? ⟨b, 2, none⟩ = some x2 ∧ w.cell? ⟨b, 3, none⟩ = some x3 ∧ w.cell? ⟨b, 4, none⟩ = some x4 := by
  refine ⟨?_, ?_, ?_, ?_, ?_⟩ <;> (rw [h.cell]; rfl)
theorem Blk.cells2 {w : World} {b : Nat} {x0 x1 : Value} {ty : TypeId} (h : Blk w b #[x0, x1] ty) :
    w.cell? ⟨b, 0, none⟩ = some x0 ∧ w.cell? ⟨b, 1, none⟩ = some x1 := by
  refine ⟨?_, ?_⟩ <;> (rw [h.cell]; rfl)
theorem Blk.free5 {w : World} {b : Nat} {cs : Array Value} {ty : TypeId} (h : Blk w b cs ty) :
    w.frozen? ⟨b, 0, none⟩ = false ∧ w.frozen? ⟨b, 1, none⟩ = false ∧ w.frozen? ⟨b, 2, none⟩ = false ∧ w.frozen? ⟨b, 3, none⟩ = false ∧ w.frozen? ⟨b, 4, none⟩ = false :=
  ⟨h.free 0, h.free 1, h.free 2, h.free 3, h.free 4⟩
theorem Blk.new2 (w : World) (o : Obj) (cs : Array Value) (ty : TypeId) : Blk ((w.alloc o).alloc (.cells cs ty)) (w.heap.size + 1) cs ty := by
  have h := Blk.new (w.alloc o) cs ty
  rw [size1] at h
  exact h
theorem Blk.set_ {w : World} {b : Nat} {cs : Array Value} {ty : TypeId} (h : Blk w b cs ty) (i : Nat) (x : Value) : Blk (w.setCell ⟨b, i, none⟩ x) b (cs.setIfInBounds i x) ty := by
  unfold Blk; rw [heap_setCell_same w b i _ _ x h]

theorem Blk.drew {w : World} {b : Nat} {cs : Array Value} {ty : TypeId} (h : Blk w b cs ty) : Blk w.drew b cs ty := h.after (Below.refl _ _).drew
/-- Blocks of unlike types are not one. -/
theorem Blk.ne {w : World} {b b' : Nat} {cs cs' : Array Value} {ty ty' : TypeId} (h : Blk w b cs ty) (h' : Blk w b' cs' ty') (ht : ty ≠ ty') : b ≠ b' := by
  intro e
  subst e
  unfold Blk at h h'
  rw [h] at h'
  simp at h'
  exact ht h'.2
theorem Blk.cells3 {w : World} {b : Nat} {x0 x1 x2 : Value} {ty : TypeId} (h : Blk w b #[x0, x1, x2] ty) :
    w.cell? ⟨b, 0, none⟩ = some x0 ∧ w.cell? ⟨b, 1, none⟩ = some x1 ∧ w.cell? ⟨b, 2, none⟩ = some x2 := by
  refine ⟨?_, ?_, ?_⟩ <;> (rw [h.cell]; rfl)
theorem row_apart {w : World} {base : Nat} {ty ty' : TypeId} {sz n g : Nat} {x : Value} {xs : List Value} {cur : Array Value} {fz : Nat × Nat} (hr : w.ownsRow base ty sz x n xs) (hh : w.heap[g]? = some (.cells cur ty' fz)) (ht : ty ≠ ty') : ∀ k, x.ownBlock = some k → k ≠ g := by
  intro k hk e
  subst e
  rcases hr.2 with ⟨hv, _⟩ | ⟨g', cap, cur', hv, _, h2, _⟩
  · rw [hv] at hk; simp [Value.ownBlock] at hk
  · rw [hv] at hk
    simp [Value.ownBlock] at hk
    subst hk
    rw [hh] at h2
    simp at h2
    exact ht h2.2.1.symm
/-- A row of the call's own is no such block. -/
theorem Blk.off {w : World} {b base sz n : Nat} {cs : Array Value} {ty ty' : TypeId} {v : Value} {xs : List Value} (h : Blk w b cs ty) (hr : w.ownsRow base ty' sz v n xs) (ht : ty' ≠ ty) : v.ownBlock ≠ some b := fun e => row_apart hr h ht b e rfl

end Go.Proofs.YtaogachhmdmoaaaDoor

namespace Go.Proofs.YtaogachhmdmoaaaDoor
open Go.RowKit

theorem Trio.grown {w w' : World} {B : Nat} {v : Value} {f : Int} {r : R} {u : Value} {row : Option Nat} (h : Trio w B v f r u) (hg : w.grownBy w' row) (hr : ∀ k, row = some k → k < B) : Trio w' B v f r u := by
  have hs := h.size
  obtain ⟨h0, h1, h2⟩ := h
  exact ⟨by rw [hg.block B (by omega) (fun e => by have := hr _ e.symm; omega)]; exact h0, by rw [hg.block (B + 1) (by omega) (fun e => by have := hr _ e.symm; omega)]; exact h1, by rw [hg.block (B + 2) hs (fun e => by have := hr _ e.symm; omega)]; exact h2⟩

/-- A store into a log's own block leaves lists of records as they are. -/
theorem Made.setApart {w : World} {lo b j : Nat} {v : Value} {rs : List R} {cur : Array Value} {fz : Nat × Nat} (h : Made w lo v rs) (hh : w.heap[b]? = some (.cells cur 31 fz)) (x : Value) : Made (w.setCell ⟨b, j, Option.none⟩ x) lo v rs := by
  obtain ⟨ps, hp, h1, h2, h3⟩ := h
  have hs : (w.setCell ⟨b, j, Option.none⟩ x).heap.size = w.heap.size := by simp
  refine ⟨ps, hp, ownsRow_setCell_ne h1 (row_apart h1 hh (by decide)) x, by rw [hs]; exact h2, ?_⟩
  rw [hs]
  exact ⟨by rw [hs]; exact h3.1, fun p hp => ⟨ownsRow_setCell_ne (h3.2.1 p hp).1 (row_apart (h3.2.1 p hp).1 hh (by decide)) x, (h3.2.1 p hp).2⟩, h3.2.2⟩

set_option maxRecDepth 100000 in
set_option maxHeartbeats 4000000 in
theorem l1Add_full (v : Value) (n : Nat) (f : Int) (r : R) (u : Value) (w : World) (hv : ∃ ao cap, v = .slice ao n cap) (h40 : 40 ≤ (n : Int)) :
    Calls Tryd.prog 27 #[.agg #[v, .int .i64 f], .agg #[.int .i64 r.1, .int .i64 r.2.1, u]] w fun e w' => e = .returned (.tuple #[.agg #[v, .int .i64 f], .bool false]) ∧ Below w.heap.size w w' := by
  obtain ⟨ao, cap, rfl⟩ := hv
  go_enter Tryd.func27, Tryd.ntmps27
  go_wp2
  refine bodyPost_ret (v := .tuple #[.agg #[.slice ao n cap, .int .i64 f], .bool false]) (by simp [results, Tryd.results27, go_sem]) rfl ⟨rfl, ?_⟩
  exact below3 w _ _ _

theorem Mid.setUp {lo hi : Nat} {w W : World} (h : Mid lo hi w W) {a : Addr} (ha : w.heap.size ≤ a.block) (x : Value) : Mid lo hi w (W.setCell a x) :=
  ⟨h.os, h.tape, h.output, by have := h.size; simpa using this, fun k hk hh => by rw [Below.heap_setCell _ _ _ _ (by omega)]; exact h.block k hk hh⟩

set_option maxRecDepth 100000 in
set_option maxHeartbeats 4000000 in
theorem l1Add_mid (ao : Option Addr) (cap : Nat) (ps : List (R × Value)) (f : Int) (r : R) (au : Option Addr) (cu lo hi : Nat) (w : World) (ho : OwnRecs w lo hi (.slice ao ps.length cap) ps) (hlo : lo ≤ w.heap.size)
    (hu : w.ownsRow lo 3 1 (.slice au r.2.2.length cu) r.2.2.length (r.2.2.map (Value.int .i64))) (hub : ∀ k, (Value.slice au r.2.2.length cu).ownBlock = some k → hi ≤ k) (h40 : (ps.length : Int) < 40) :
    Calls Tryd.prog 27 #[.agg #[.slice ao ps.length cap, .int .i64 f], .agg #[.int .i64 r.1, .int .i64 r.2.1, .slice au r.2.2.length cu]] w fun e w' => ∃ g cap', e = .returned (.tuple #[.agg #[.slice (some ⟨g, 0, none⟩) (ps.length + 1) cap', .int .i64 f], .bool true]) ∧ Made w' lo (.slice (some ⟨g, 0, none⟩) (ps.length + 1) cap') (ps.map (·.1) ++ [r]) ∧ Below lo w w' ∧ Mid lo hi w w' := by
  obtain ⟨i0, hi0, hz0, hz1, hz2⟩ := info_parts infoRec
  have HO := hide_it ho
  have HU := hide_it hu
  have HUB := hide_it hub
  have HT := hide_it (Trio.new w (.slice ao ps.length cap) f r (.slice au r.2.2.length cu))
  have ROW : Hid (∀ o1 o2 o3 o4, ((((w.alloc o1).alloc o2).alloc o3).alloc o4).ownsRow lo 25 3 (.slice ao ps.length cap) ps.length (flat ps)) := fun o1 o2 o3 o4 => (((ho.1.alloc o1).alloc o2).alloc o3).alloc o4
  clear ho hu hub
  go_enter Tryd.func27, Tryd.ntmps27
  go_wp2_with (at_builtin; refine wpList_append_lies _ rfl _ _ 29 rfl lo 25 i0 (.agg #[.int .i64 0, .int .i64 0, .slice none 0 0]) 3 40 Tryd.underlying29 hi0 hz0 hz1 hz2 rfl (by decide) (.slice ao ps.length cap) ps.length (flat ps) rfl (ROW.out _ _ _ _) ⟨w.heap.size + 3, 0, none⟩ 1 1 [.int .i64 r.1, .int .i64 r.2.1, .slice au r.2.2.length cu] rfl rfl ?c1 (one3 _ _ _) (by decide) ?c3 ?c4 ?c5 _ rfl ?_)
  case c1 =>
    have h := news3 (((w.alloc (.cells #[.slice ao ps.length cap, .int .i64 f] 31)).alloc (.cells #[.int .i64 r.1, .int .i64 r.2.1, .slice au r.2.2.length cu] 25)).alloc (.cells #[.slice none 0 0, .int .i64 0] 31)) r.1 r.2.1 (.slice au r.2.2.length cu) 25
    rw [size3] at h
    exact h
  case c3 => unfold maxLen; omega
  case c4 => omega
  case c5 => simp; omega
  · intro g cap' w5 hown5 hgrow5 _ _
    have hhi := HO.out.2.2.1
    have HT4 := hide_it (HT.out.later (alloc_below _ (.cells #[.int .i64 r.1, .int .i64 r.2.1, .slice au r.2.2.length cu] 25)) (by rw [size3]; exact Nat.le_refl _))
    have HT5 := hide_it (HT4.out.grown hgrow5 (fun k hk => by have := HO.out.2.1 k hk; omega))
    have IN4 := hide_it (HO.out.2.2.below (below4 w (.cells #[.slice ao ps.length cap, .int .i64 f] 31) (.cells #[.int .i64 r.1, .int .i64 r.2.1, .slice au r.2.2.length cu] 25) (.cells #[.slice none 0 0, .int .i64 0] 31) (.cells #[.int .i64 r.1, .int .i64 r.2.1, .slice au r.2.2.length cu] 25)) hhi)
    have HU4 := hide_it ((((HU.out.alloc (.cells #[.slice ao ps.length cap, .int .i64 f] 31)).alloc (.cells #[.int .i64 r.1, .int .i64 r.2.1, .slice au r.2.2.length cu] 25)).alloc (.cells #[.slice none 0 0, .int .i64 0] 31)).alloc (.cells #[.int .i64 r.1, .int .i64 r.2.1, .slice au r.2.2.length cu] 25))
    have st := append_step (r := r) (ROW.out _ _ _ _) IN4.out (by simp; omega) HU4.out (fun k hk => ⟨HUB.out k hk, (HU4.out.lt k hk).2⟩) hown5 hgrow5
    have MD : Hid (Made w5 lo (.slice (some ⟨g, 0, none⟩) (ps.length + 1) cap') (ps.map (·.1) ++ [r])) := by
      refine ⟨ps ++ [(r, .slice au r.2.2.length cu)], by simp, ?_, fun k hk => (st.1.lt k hk).2, st.2⟩
      have h := st.1
      exact h
    have LO5 := hide_it (addBelow (ROW.out _ _ _ _) hgrow5 (by simp; omega))
    have BE5 := hide_it (((below4 w _ _ _ _).mono hlo).trans LO5.out)
    have MI5 := hide_it ((Mid.of_below (lo := lo) (hi := hi) (below4 w (.cells #[.slice ao ps.length cap, .int .i64 f] 31) (.cells #[.int .i64 r.1, .int .i64 r.2.1, .slice au r.2.2.length cu] 25) (.cells #[.slice none 0 0, .int .i64 0] 31) (.cells #[.int .i64 r.1, .int .i64 r.2.1, .slice au r.2.2.length cu] 25)) (Nat.le_refl _)).trans (Mid.of_grown hgrow5 (fun k hk => ⟨(HO.out.1.lt k hk).1, HO.out.2.1 k hk⟩)))
    obtain ⟨⟨l0, l1⟩, ⟨q0, q1, q2⟩, ⟨e0, e1, e2, e3⟩⟩ := HT5.out.cells
    have fz := frozen_of_row w5 w.heap.size 0 _ _ HT5.out.1
    have hz5 : w.heap.size + 4 ≤ w5.heap.size := by have := LO5.out.size; simp at this; omega
    clear hown5 hgrow5 st
    go_wp2
    refine bodyPost_ret (v := .tuple #[.agg #[.slice (some ⟨g, 0, none⟩) (ps.length + 1) cap', .int .i64 f], .bool true]) (by simp [results, Tryd.results27, go_sem, e0, e1]) rfl ⟨g, cap', rfl, ?_, ?_, ?_⟩
    · have a1 := MD.out.setApart (j := 0) HT5.out.1 (.slice (some ⟨g, 0, none⟩) (ps.length + 1) cap')
      have h2 : (w5.setCell ⟨w.heap.size, 0, none⟩ (.slice (some ⟨g, 0, none⟩) (ps.length + 1) cap')).heap[w.heap.size + 2]? = some (.cells #[.slice none 0 0, .int .i64 0] 31 (0, 0)) := by
        rw [Below.heap_setCell _ _ _ _ (by simp)]; exact HT5.out.2.2
      have a2 := a1.setApart (j := 0) h2 (.slice (some ⟨g, 0, none⟩) (ps.length + 1) cap')
      exact a2.setApart (j := 1) (heap_setCell_same _ (w.heap.size + 2) 0 _ _ _ h2) (.int .i64 f)
    · exact ((BE5.out.setCell (by simp; omega) _).setCell (by simp; omega) _).setCell (by simp; omega) _
    · exact ((MI5.out.setUp (by simp) _).setUp (by simp; omega) _).setUp (by simp; omega) _

theorem l1Add_room (ao : Option Addr) (cap : Nat) (ps : List (R × Value)) (f : Int) (r : R) (au : Option Addr) (cu lo hi : Nat) (w : World) (ho : OwnRecs w lo hi (.slice ao ps.length cap) ps) (hlo : lo ≤ w.heap.size)
    (hu : w.ownsRow lo 3 1 (.slice au r.2.2.length cu) r.2.2.length (r.2.2.map (Value.int .i64))) (hub : ∀ k, (Value.slice au r.2.2.length cu).ownBlock = some k → hi ≤ k) (h40 : (ps.length : Int) < 40) :
    Calls Tryd.prog 27 #[.agg #[.slice ao ps.length cap, .int .i64 f], .agg #[.int .i64 r.1, .int .i64 r.2.1, .slice au r.2.2.length cu]] w fun e w' => ∃ g cap', e = .returned (.tuple #[.agg #[.slice (some ⟨g, 0, none⟩) (ps.length + 1) cap', .int .i64 f], .bool true]) ∧ Made w' lo (.slice (some ⟨g, 0, none⟩) (ps.length + 1) cap') (ps.map (·.1) ++ [r]) ∧ Below lo w w' :=
  (l1Add_mid ao cap ps f r au cu lo hi w ho hlo hu hub h40).mono fun _ _ ⟨g, cap', h1, h2, h3, _⟩ => ⟨g, cap', h1, h2, h3⟩

end Go.Proofs.YtaogachhmdmoaaaDoor

namespace Go.Proofs.YtaogachhmdmoaaaDoor
open Go.RowKit

theorem keep5 (W : World) (B : Nat) (x y : Value) {v : Value} {f : Int} {r : R} {u : Value} (h : Trio W B v f r u) :
    ((W.setCell ⟨B + 2, 0, none⟩ x).setCell ⟨B + 2, 1, none⟩ y).cell? ⟨B, 0, none⟩ = some v ∧ ((W.setCell ⟨B + 2, 0, none⟩ x).setCell ⟨B + 2, 1, none⟩ y).cell? ⟨B, 1, none⟩ = some (.int .i64 f) ∧
    ((W.setCell ⟨B + 2, 0, none⟩ x).setCell ⟨B + 2, 1, none⟩ y).cell? ⟨B + 1, 0, none⟩ = some (.int .i64 r.1) ∧ ((W.setCell ⟨B + 2, 0, none⟩ x).setCell ⟨B + 2, 1, none⟩ y).cell? ⟨B + 1, 1, none⟩ = some (.int .i64 r.2.1) ∧
    ((W.setCell ⟨B + 2, 0, none⟩ x).setCell ⟨B + 2, 1, none⟩ y).cell? ⟨B + 1, 2, none⟩ = some u := by
  obtain ⟨⟨l0, l1⟩, ⟨q0, q1, q2⟩, -⟩ := h.cells
  exact ⟨(set2 _ _ _ _ (by omega)).trans l0, (set2 _ _ _ _ (by omega)).trans l1, (set2 _ _ _ _ (by omega)).trans q0, (set2 _ _ _ _ (by omega)).trans q1, (set2 _ _ _ _ (by omega)).trans q2⟩

set_option maxRecDepth 100000 in
set_option maxHeartbeats 8000000 in
theorem specAdd_any (v : Value) (rs : List R) (f : Int) (r : R) (u : Value) (w : World) (hv : Recs w v rs) (hl : tot rs ≤ 1048576) (hu : Ints w u r.2.2) (hrl : r.2.2.length ≤ 1048576) :
    Calls Tryd.prog 11 #[.agg #[v, .int .i64 f], .agg #[.int .i64 r.1, .int .i64 r.2.1, u]] w fun e w' => LogOut2 w w' e (addR rs f r) (addF rs f r) (addB rs f r) := by
  have hrsl := tot_len rs
  have HV : Hid (∀ W, Below w.heap.size w W → Recs W v rs) := fun W h => hv.later h (Nat.le_refl _)
  have HU : Hid (∀ W, Below w.heap.size w W → Ints W u r.2.2) := fun W h => hu.later h (Nat.le_refl _)
  have HT := hide_it (Trio.new w v f r u)
  obtain ⟨av, cv, hvs⟩ := hv.shape
  obtain ⟨au, cu, hus⟩ := hu.shape
  clear hv hu
  subst hvs hus
  have HS : Hid (∀ o1 o2 o3, Calls Tryd.prog 14 #[.agg #[.slice av rs.length cv, .int .i64 f]] (((w.alloc o1).alloc o2).alloc o3) fun e w' => e = .returned (.bool (logOk rs f)) ∧ Below (w.heap.size + 3) (((w.alloc o1).alloc o2).alloc o3) w') := fun o1 o2 o3 => by
    have := specLogOk_any _ rs f _ (HV.out _ (below3 w o1 o2 o3)) hl
    rw [size3] at this
    exact this
  cases hok : logOk rs f
  · have HR : Hid (addR rs f r = [] ∧ addF rs f r = 0 ∧ addB rs f r = false) := by refine ⟨?_, ?_, ?_⟩ <;> simp [addR, addF, addB, addOk, hok]
    rw [hok] at HS
    clear hok
    go_enter Tryd.func11, Tryd.ntmps11
    go_wp2_with fail
    refine (HS.out _ _ _).mono ?_
    rintro e w1 ⟨rfl, hb⟩
    have HB := hide_it ((below3 w _ _ _).trans (hb.mono (by omega)))
    have HT1 := hide_it (HT.out.later hb (Nat.le_refl _))
    obtain ⟨⟨l0, l1⟩, ⟨q0, q1, q2⟩, ⟨r0, r1, z0, z1⟩⟩ := HT1.out.cells
    have hz : w.heap.size + 3 ≤ w1.heap.size := by have := hb.size; rw [size3] at this; exact this
    clear hb
    go_wp2
    refine bodyPost_ret (v := .tuple #[.agg #[.slice none 0 0, .int .i64 0], .bool false]) (by simp [results, Tryd.results11, go_sem, r0, r1]) rfl ?_
    unfold LogOut2
    rw [HR.out.1, HR.out.2.1, HR.out.2.2]
    refine ⟨none, 0, rfl, Made.none _ _, ?_⟩
    exact (HB.out.setCell (by simp; omega) _).setCell (by simp; omega) _
  have HQ : Hid (∀ W, Below w.heap.size w W → Calls Tryd.prog 9 #[.agg #[.int .i64 r.1, .int .i64 r.2.1, .slice au r.2.2.length cu]] W fun e w' => e = .returned (.bool (rOk r)) ∧ Below W.heap.size W w') := fun W h => specOk_any r.1 r.2.1 _ r.2.2 W (HU.out _ h) hrl
  cases hrok : rOk r
  · have HR : Hid (addR rs f r = [] ∧ addF rs f r = 0 ∧ addB rs f r = false) := by refine ⟨?_, ?_, ?_⟩ <;> simp [addR, addF, addB, addOk, hrok]
    rw [hok] at HS
    rw [hrok] at HQ
    clear hok hrok
    go_enter Tryd.func11, Tryd.ntmps11
    go_wp2_with fail
    refine (HS.out _ _ _).mono ?_
    rintro e w1 ⟨rfl, hb⟩
    have HB := hide_it ((below3 w _ _ _).trans (hb.mono (by omega)))
    have HT1 := hide_it (HT.out.later hb (Nat.le_refl _))
    obtain ⟨⟨l0, l1⟩, ⟨q0, q1, q2⟩, -⟩ := HT1.out.cells
    have hz : w.heap.size + 3 ≤ w1.heap.size := by have := hb.size; rw [size3] at this; exact this
    clear hb
    go_wp2_with fail
    refine (HQ.out _ HB.out).mono ?_
    rintro e w2 ⟨rfl, hb2⟩
    have HB2 := hide_it (HB.out.trans (hb2.mono HB.out.size))
    have HT2 := hide_it (HT1.out.later hb2 (by omega))
    obtain ⟨-, -, ⟨r0, r1, z0, z1⟩⟩ := HT2.out.cells
    clear hb2
    go_wp2
    refine bodyPost_ret (v := .tuple #[.agg #[.slice none 0 0, .int .i64 0], .bool false]) (by simp [results, Tryd.results11, go_sem, r0, r1]) rfl ?_
    unfold LogOut2
    rw [HR.out.1, HR.out.2.1, HR.out.2.2]
    refine ⟨none, 0, rfl, Made.none _ _, ?_⟩
    exact (HB2.out.setCell (by simp; omega) _).setCell (by simp; omega) _
  obtain ⟨hf0, hfn, hn40⟩ := logOk_f hok
  rw [hok] at HS
  rw [hrok] at HQ
  have HOK : Hid (addOk rs f r = true) := by show _ = _; simp [addOk, hok, hrok]
  clear hok hrok
  go_enter Tryd.func11, Tryd.ntmps11
  go_wp2_with fail
  refine (HS.out _ _ _).mono ?_
  rintro e w1 ⟨rfl, hb⟩
  have HB := hide_it ((below3 w _ _ _).trans (hb.mono (by omega)))
  have HT1 := hide_it (HT.out.later hb (Nat.le_refl _))
  obtain ⟨⟨l0, l1⟩, ⟨q0, q1, q2⟩, -⟩ := HT1.out.cells
  have hz : w.heap.size + 3 ≤ w1.heap.size := by have := hb.size; rw [size3] at this; exact this
  clear hb
  go_wp2_with fail
  refine (HQ.out _ HB.out).mono ?_
  rintro e w2 ⟨rfl, hb2⟩
  have HB2 := hide_it (HB.out.trans (hb2.mono HB.out.size))
  have HT2 := hide_it (HT1.out.later hb2 (by omega))
  have hzz : w.heap.size + 3 ≤ w2.heap.size := Nat.le_trans hz hb2.size
  clear hb2 l0 l1 q0 q1 q2
  obtain ⟨⟨l0, l1⟩, ⟨q0, q1, q2⟩, -⟩ := HT2.out.cells
  -- the last call's contract, from what the two copies leave
  have LAST : Hid (∀ (w3 w4 : World) (a3 a4 : Option Addr) (cap3 cap4 : Nat), Made w3 w2.heap.size (.slice a3 rs.length cap3) rs → w2.heap.size ≤ w3.heap.size → Below w3.heap.size w3 w4 → w4.ownsRow (w3.heap.size + 2) 3 1 (.slice a4 r.2.2.length cap4) r.2.2.length (r.2.2.map (Value.int .i64)) →
      Calls Tryd.prog 27 #[.agg #[.slice a3 rs.length cap3, .int .i64 f], .agg #[.int .i64 r.1, .int .i64 r.2.1, .slice a4 r.2.2.length cap4]] w4 fun e w' => ∃ ao cap, e = .returned (.tuple #[.agg #[.slice ao (addR rs f r).length cap, .int .i64 (addF rs f r)], .bool (addB rs f r)]) ∧ Made w' w2.heap.size (.slice ao (addR rs f r).length cap) (addR rs f r) ∧ Below w2.heap.size w4 w') := by
    intro w3 w4 a3 a4 cap3 cap4 hm hz23 hb4 hown4
    by_cases h40 : rs.length = 40
    · have hR : addR rs f r = rs ∧ addF rs f r = f ∧ addB rs f r = false := by refine ⟨?_, ?_, ?_⟩ <;> simp [addR, addF, addB, HOK.out, h40]
      rw [hR.1, hR.2.1, hR.2.2]
      refine (l1Add_full _ rs.length f r _ w4 ⟨_, _, rfl⟩ (by omega)).mono ?_
      rintro e w' ⟨rfl, hb'⟩
      have hb'' := hb'.mono (Nat.le_trans hz23 hb4.size)
      exact ⟨a3, cap3, rfl, (hm.below hb4 (Nat.le_refl _)).below hb' (Nat.le_refl _), hb''⟩
    · have hR : addR rs f r = rs ++ [r] ∧ addF rs f r = f ∧ addB rs f r = true := by refine ⟨?_, ?_, ?_⟩ <;> simp [addR, addF, addB, HOK.out, h40]
      rw [hR.1, hR.2.1, hR.2.2]
      obtain ⟨ps, hps, ho⟩ := hm
      have hpl : ps.length = rs.length := by have := congrArg List.length hps; simpa using this
      have ho4 := ho.below hb4 (Nat.le_refl _)
      have hc := l1Add_room a3 cap3 ps f r a4 cap4 w2.heap.size w3.heap.size w4 (by rw [hpl]; exact ho4) (Nat.le_trans hz23 hb4.size) (ownsRow_base hown4 (by omega)) (fun k hk => by have := (hown4.lt k hk).1; omega) (by omega)
      rw [hpl, hps] at hc
      refine hc.mono ?_
      rintro e w' ⟨g, cap', rfl, hm', hb'⟩
      have hlen : (rs ++ [r]).length = rs.length + 1 := by simp
      rw [hlen]
      exact ⟨_, cap', rfl, hm', hb'⟩
  go_wp2_with fail
  go_region_held (fun w' => w'.cell? ⟨w.heap.size, 0, none⟩ = some (.slice av rs.length cv) ∧ w'.cell? ⟨w.heap.size, 1, none⟩ = some (.int .i64 f) ∧ w'.cell? ⟨w.heap.size + 1, 0, none⟩ = some (.int .i64 r.1) ∧ w'.cell? ⟨w.heap.size + 1, 1, none⟩ = some (.int .i64 r.2.1) ∧ w'.cell? ⟨w.heap.size + 1, 2, none⟩ = some (.slice au r.2.2.length cu)) (first | exact keep5 _ _ _ _ (by assumption) | go_keep)
    (first
    | (go_at_call 28; refine (l1Copy_any _ rs f _ ?_ hl).mono ?_; exact (HV.out _ HB2.out.drew); rintro e w3 ⟨a3, cap3, rfl, hm3, hb3⟩; have HB3 := hide_it ((Below.refl w2.heap.size w2).drew.trans hb3); have HM3 := hide_it hm3; have HT3 := hide_it (HT2.out.later HB3.out hzz); obtain ⟨⟨l30, l31⟩, ⟨q30, q31, q32⟩, -⟩ := HT3.out.cells; have hz3 : w.heap.size + 3 ≤ w3.heap.size := Nat.le_trans hzz HB3.out.size; have BW3 := hide_it (HB2.out.trans (HB3.out.mono HB2.out.size)); clear hm3 hb3)
    | (go_at_call 29; refine (specCopy_any r.1 r.2.1 _ r.2.2 _ ?_ hrl).mono ?_; exact HU.out _ BW3.out; rintro e w4 ⟨a4, cap4, rfl, hown4, hb4⟩; have HB4 := hide_it hb4; have HW4 := hide_it hown4; have HT4 := hide_it (HT3.out.later hb4 hz3); obtain ⟨⟨l40, l41⟩, ⟨q40, q41, q42⟩, -⟩ := HT4.out.cells; have BW4 := hide_it (BW3.out.trans (hb4.mono BW3.out.size)); clear hown4 hb4)
    | (go_at_call 27; refine (LAST.out w3 w4 a3 a4 cap3 cap4 HM3.out HB3.out.size HB4.out HW4.out).mono ?_; rintro e w5 ⟨a5, cap5, rfl, hm5, hb5⟩; have HM5 := hide_it hm5; have HT5 := HT4.out.later hb5 hzz; obtain ⟨⟨l50, l51⟩, ⟨q50, q51, q52⟩, ⟨e0, e1, e2, e3⟩⟩ := HT5.cells; have BW5 := hide_it (BW4.out.trans (hb5.mono HB2.out.size)); clear hm5 hb5))
  go_wp2
  refine bodyPost_ret (v := .tuple #[.agg #[.slice a5 (addR rs f r).length cap5, .int .i64 (addF rs f r)], .bool (addB rs f r)]) (by simp [results, Tryd.results11, go_sem, e0, e1]) rfl ⟨a5, cap5, rfl, ?_, ?_⟩
  · exact ((HM5.out.setBelow (by simp; omega) _).setBelow (by simp; omega) _).lo (by omega)
  · exact (BW5.out.setCell (by simp; omega) _).setCell (by simp; omega) _

end Go.Proofs.YtaogachhmdmoaaaDoor

namespace Go.Proofs.YtaogachhmdmoaaaDoor
open Go.RowKit

theorem d_drew3 {w2 w3 : World} (hb : Below w2.drew.heap.size w2.drew w3) : Below w2.heap.size w2 w3 := (Below.refl w2.heap.size w2).drew.trans hb

theorem addB_parts {rs : List R} {f : Int} {r : R} (h : addB rs f r = true) : logOk rs f = true ∧ rOk r = true ∧ rs.length ≠ 40 := by
  unfold addB addOk at h
  simp only [Bool.and_eq_true, decide_eq_true_eq] at h
  exact ⟨h.1.1, h.1.2, h.2⟩
theorem addR_yes {rs : List R} {f : Int} {r : R} (h : addB rs f r = true) : addR rs f r = rs ++ [r] ∧ addF rs f r = f := by
  obtain ⟨h1, h2, h3⟩ := addB_parts h
  constructor <;> simp [addR, addF, addOk, h1, h2, h3]
theorem logOk_take {rs : List R} {fN : Nat} (h : logOk rs fN = true) : logOk (rs.take fN) fN = true := by
  obtain ⟨h0, h1, h2⟩ := logOk_f h
  unfold logOk at h ⊢
  simp only [Bool.and_eq_true, decide_eq_true_eq] at h ⊢
  have hl : (rs.take fN).length = fN := by rw [List.length_take]; omega
  refine ⟨?_, by omega, Pl.inB_mk (by omega) (by rw [hl]; omega)⟩
  rw [List.all_eq_true] at h ⊢
  exact fun x hx => h.1 x (List.mem_of_mem_take hx)
theorem addB_take {rs : List R} {fN : Nat} {r : R} (h : addB rs fN r = true) : addB (rs.take fN) fN r = true := by
  obtain ⟨h1, h2, h3⟩ := addB_parts h
  obtain ⟨_, h4, h5⟩ := logOk_f h1
  have hl : (rs.take fN).length = fN := by rw [List.length_take]; omega
  unfold addB addOk
  rw [logOk_take h1, h2, hl]
  have : fN ≠ 40 := by omega
  simp [this]
theorem logOk_more {rs : List R} {f : Int} {r : R} (h : addB rs f r = true) : logOk (rs ++ [r]) f = true := by
  obtain ⟨h1, h2, h3⟩ := addB_parts h
  obtain ⟨h4, h5, h6⟩ := logOk_f h1
  unfold logOk at h1 ⊢
  simp only [Bool.and_eq_true, decide_eq_true_eq] at h1 ⊢
  refine ⟨by rw [List.all_append, h1.1]; simp [h2], by simp; omega, Pl.inB_mk h4 (by simp; omega)⟩
theorem fall_zero {rs : List R} {fN : Nat} (h : logOk rs fN = true) : fallR rs fN 0 = rs.take fN ∧ fallF rs fN 0 = fN := by
  have e : fallN rs.length fN 0 = fN := by simp [fallN]
  constructor <;> simp [fallR, fallF, h, e]
theorem tot_snoc (rs : List R) (r : R) : tot (rs ++ [r]) ≤ tot rs + 1 + r.2.2.length := by
  unfold tot pre
  rw [List.take_length, List.take_length]
  simp
  omega
theorem addR_small (rs : List R) (f : Int) (r : R) (hl : tot rs ≤ 1000) (hr : r.2.2.length ≤ 4) : tot (addR rs f r) ≤ 2000 := by
  have h1 := tot_snoc rs r
  unfold addR
  split
  · split
    · omega
    · omega
  · simp [tot, pre]

end Go.Proofs.YtaogachhmdmoaaaDoor

namespace Go.Proofs.YtaogachhmdmoaaaDoor
open Go.ChangeShapes Go.WideShapes Go.ChangeAt Go.WideMaps Go.WideElems Go.RowKit

theorem own : ownKnob Tryd.prog.godebug = none := by kernel_rfl
theorem laidOut : laidOutB Tryd.prog = true := by kernel_rfl
theorem gErr : Tryd.prog.globalNamed "loop.example/concierge/impl.errNoRec" = some 0 := by kernel_rfl
theorem gErrType : (Tryd.prog.globals[0]?).map (·.type) = some 49 := by kernel_rfl
theorem cellsErrS : Tryd.prog.cellsOf 114 = 1 := by kernel_rfl
theorem cellsString : Tryd.prog.cellsOf 9 = 1 := by kernel_rfl
theorem cellsInt : Tryd.prog.cellsOf 3 = 1 := by kernel_rfl
theorem star : "*" ++ "errors.errorString" = "*errors.errorString" := by decide
theorem rowErr (u : TypeId) (h : Tryd.prog.typeName? 3 u = some "*errors.errorString") : u = 88 :=
  typeName_ptr_named (nm := "errors.errorString") (by rw [star]; kernel_rfl) (by kernel_rfl) (by decide) u (by rw [star]; exact h)

/-- The list that every row of this seat bears. -/
def laidErr : List (String × DataW Unit) := [("loop.example/concierge/impl.errNoRec", Rows.laid_loop_example_concierge_impl_errNoRec)]

theorem door_met (os : Os) (args : Array Value) : laidMetH Tryd.prog laidErr ((World.doorLaid Tryd.prog 28 os).forCall (fun _ _ => 0) ⟨#[], args, []⟩).memory :=
  laidMetH_of_parts3 (fuel := 8) (laidMet_of_run' 8 (by kernel_rfl) (by kernel_rfl)) (by kernel_rfl) (by kernel_rfl)

/-- What the list gives: the variable holds a pointer to an errors.errorString. -/
theorem of_laid {W : World} (h : laidMetH Tryd.prog laidErr W) : ∃ a, ErrAt W a ∧ W.var? Tryd.prog "loop.example/concierge/impl.errNoRec" = some #[.iface 88 (.pointer (some a))] := by
  rw [MakeChecks.laidMetH_plain _ _ _ (by kernel_rfl)] at h
  obtain ⟨a, s, hv, hc, _, _⟩ := laid_sentinel (r := []) h gErr gErrType Tryd.underlying49 rowErr Tryd.underlying88 Tryd.underlying114 rfl rfl Tryd.underlying9 cellsErrS cellsString
  refine ⟨a, ?_, hv⟩
  unfold ErrAt
  simpa using World.var?_cell gErr hv 0

end Go.Proofs.YtaogachhmdmoaaaDoor

namespace Go.Proofs.YtaogachhmdmoaaaDoor
open Go.ChangeShapes Go.WideShapes Go.ChangeAt Go.WideMaps Go.WideElems Go.RowKit Go.Joins

theorem cellsByte : Tryd.prog.cellsOf 5 = 1 := by kernel_rfl

theorem u8_bd {z : Int} (h : (Lit.int .u8 z).wf = true) : 0 ≤ z ∧ z ≤ 255 := by
  simp only [Lit.wf, Bool.and_eq_true, decide_eq_true_eq] at h
  have h0 : IntKind.min .u8 = 0 := by decide
  have h1 : IntKind.max .u8 = 255 := by decide
  omega

section
variable {H : Type} {enc : TypeId × Value → H} {W : World}

set_option maxRecDepth 100000 in
/-- A code that came in. -/
theorem open_code {base : Nat} {v : Value} {d : DataW H} {p : List MemPlace} (hval : Value.okWide Tryd.prog W .any base 22 v) (h : DataW.Trod enc Tryd.prog W 0 (fun _ => true) true 22 v d p) :
    ∃ n, CodeAt W v n ∧ (n : Int) ≤ 9223372036854775807 := by
  obtain ⟨ao, n, cap, rfl⟩ := okWide_slice Tryd.underlying22 hval
  obtain ⟨fuel, hf⟩ := h
  have hf' : DataW.trod enc Tryd.prog W 0 (fun _ => true) true fuel 22 [.slice ao n cap] = some (d, p) := hf
  rcases open_ints Tryd.underlying22 Tryd.underlying5 cellsByte hf' with ⟨hcs, hx⟩ | ⟨a, len, cap', zs, hcs, _, hl, hm, hz, hx, hcell, hwz⟩
  · simp at hcs
    obtain ⟨rfl, rfl, rfl⟩ := hcs
    exact ⟨0, ⟨none, 0, rfl, Nat.le_refl _, fun h => absurd rfl h⟩, by simp⟩
  · simp at hcs
    obtain ⟨rfl, rfl, rfl⟩ := hcs
    simp only [if_pos] at hz
    refine ⟨n, ⟨some a, cap, rfl, hl, fun hn => ?_⟩, by unfold maxLen at hm; omega⟩
    obtain ⟨b, off, rfl, hc⟩ := ints_at hcell (by omega)
    refine ⟨b, off, rfl, fun k hk => ⟨zs.getD k 0, hc k (by omega), ?_⟩⟩
    have hkz : k < zs.length := by omega
    have hmem : zs.getD k 0 ∈ zs := by simp [List.getD_eq_getElem?_getD, hkz]
    exact u8_bd (hwz _ hmem)

end
end Go.Proofs.YtaogachhmdmoaaaDoor

namespace Go.Proofs.YtaogachhmdmoaaaDoor

/-- An operation is taken first, its slot written out. -/
theorem takeD {P : Program} {md : Region.Mode} {ops : Array Oper} {Q : Exit → Act → World → Prop} {S : World → Prop} {i : Nat} {oi : Oper} {v : Value} {fuel : Nat} {listed : Array Bool} {a : Act} {w : World} (d : Option Nat) (hi : ops[i]? = some oi) (hd : oi.dst = d)
    (hs : Region.noSelect ops = true) (hf : Region.free md ops listed i = true) (hr : (Region.ready md ops listed).contains i = true)
    (hQ : ∀ c a w, Q (.panic c) (a.put d v) w → Q (.panic c) a w) (hw : Region.wanted oi (yielded ops a.tmps) = true) (hS : S w) (hy : ∀ w, S w → (execOp a.eval oi).run P w = .ok (.value v) w)
    (h : wpAnyH P md ops Q S fuel (listed.setIfInBounds i true) (a.put d v) w) : wpAnyH P md ops Q S (fuel + 1) listed a w := by
  subst hd
  exact wpAnyH_take hi hs hf hr hQ (Or.inl ⟨hw, hy⟩) hS h

/-- An operation that its guard passes over is taken first, its slot written out. -/
theorem skipD {P : Program} {md : Region.Mode} {ops : Array Oper} {Q : Exit → Act → World → Prop} {S : World → Prop} {i : Nat} {oi : Oper} {fuel : Nat} {listed : Array Bool} {a : Act} {w : World} (d : Option Nat) (hi : ops[i]? = some oi) (hd : oi.dst = d)
    (hs : Region.noSelect ops = true) (hf : Region.free md ops listed i = true) (hr : (Region.ready md ops listed).contains i = true)
    (hQ : ∀ c a w, Q (.panic c) (a.put d undef) w → Q (.panic c) a w) (hw : Region.wanted oi (yielded ops a.tmps) = false) (hS : S w)
    (h : wpAnyH P md ops Q S fuel (listed.setIfInBounds i true) (a.put d undef) w) : wpAnyH P md ops Q S (fuel + 1) listed a w := by
  subst hd
  exact wpAnyH_take hi hs hf hr hQ (Or.inr ⟨hw, rfl⟩) hS h

/-- What holds behind every operation may be weakened. -/
theorem heldMono {P : Program} {md : Region.Mode} {ops : Array Oper} {Q : Exit → Act → World → Prop} {S S2 : World → Prop} (hS : ∀ w, S2 w → S w) :
    ∀ (fuel : Nat) (listed : Array Bool) (a : Act) (w : World), wpAnyH P md ops Q S2 fuel listed a w → wpAnyH P md ops Q S fuel listed a w
  | 0, _, _, _, h => h
  | fuel + 1, _, _, _, h => ⟨h.1, fun i hi => wpOp_mono (fun a' w' h' => ⟨hS _ h'.1, heldMono hS fuel _ a' w' h'.2⟩) (h.2 i hi)⟩

end Go.Proofs.YtaogachhmdmoaaaDoor
