/- The contract of the program's LogAdd. For all that together has at most 1048576 records and numbers, in a world in which the sentinel's variable holds a pointer to an errors.errorString. -/
import Derived.Test.YtgbikmcpcolcpaaDoorSFall
namespace Go.Proofs.YtgbikmcpcolcpaaDoor
open Go.RowKit

/-- A log and a yes or no come back, the log in memory of the call's own. -/
def LogOut2 (w w' : World) (e : Ending) (rs : List R) (f : Int) (b : Bool) : Prop :=
  ∃ ao cap, e = .returned (.tuple #[.agg #[.slice ao rs.length cap, .int .i64 f], .bool b]) ∧ Made w' w.heap.size (.slice ao rs.length cap) rs ∧ Below w.heap.size w w'

def addOk (rs : List R) (f : Int) (r : R) : Bool := logOk rs f && rOk r
def addR (rs : List R) (f : Int) (r : R) : List R := if addOk rs f r then (if rs.length = 40 then rs else rs ++ [r]) else []
def addF (rs : List R) (f : Int) (r : R) : Int := if addOk rs f r then f else 0
def addB (rs : List R) (f : Int) (r : R) : Bool := addOk rs f r && decide (rs.length ≠ 40)

/-- The three blocks of a call that takes a log and a record and gives back a log. -/
def Trio (w : World) (B : Nat) (v : Value) (f : Int) (r : R) (u : Value) : Prop :=
  w.heap[B]? = some (.cells #[v, .int .i64 f] 25 (0, 0)) ∧ w.heap[B + 1]? = some (.cells #[.int .i64 r.1, .int .i64 r.2.1, u] 28 (0, 0)) ∧ w.heap[B + 2]? = some (.cells #[.slice none 0 0, .int .i64 0] 25 (0, 0))

theorem Trio.size {w : World} {B : Nat} {v : Value} {f : Int} {r : R} {u : Value} (h : Trio w B v f r u) : B + 2 < w.heap.size := lt_of_heap h.2.2
theorem Trio.later {w w' : World} {B L : Nat} {v : Value} {f : Int} {r : R} {u : Value} (h : Trio w B v f r u) (hb : Below L w w') (hL : B + 3 ≤ L) : Trio w' B v f r u := by
  obtain ⟨h0, h1, h2⟩ := h
  exact ⟨by rw [hb.block B (by omega)]; exact h0, by rw [hb.block (B + 1) (by omega)]; exact h1, by rw [hb.block (B + 2) (by omega)]; exact h2⟩
theorem Trio.new (w : World) (v : Value) (f : Int) (r : R) (u : Value) : Trio (((w.alloc (.cells #[v, .int .i64 f] 25)).alloc (.cells #[.int .i64 r.1, .int .i64 r.2.1, u] 28)).alloc (.cells #[.slice none 0 0, .int .i64 0] 25)) w.heap.size v f r u := by
  refine ⟨?_, ?_, ?_⟩
  · rw [Below.heap_alloc _ _ _ (by simp; omega), Below.heap_alloc _ _ _ (by simp)]; exact heap_alloc_new w _
  · rw [Below.heap_alloc _ _ _ (by simp)]
    have := heap_alloc_new (w.alloc (.cells #[v, .int .i64 f] 25)) (.cells #[.int .i64 r.1, .int .i64 r.2.1, u] 28)
    rw [size1] at this
    exact this
  · have := heap_alloc_new ((w.alloc (.cells #[v, .int .i64 f] 25)).alloc (.cells #[.int .i64 r.1, .int .i64 r.2.1, u] 28)) (.cells #[.slice none 0 0, .int .i64 0] 25)
    rw [size2] at this
    exact this
theorem Trio.cells {w : World} {B : Nat} {v : Value} {f : Int} {r : R} {u : Value} (h : Trio w B v f r u) :
    (w.cell? ⟨B, 0, none⟩ = some v ∧ w.cell? ⟨B, 1, none⟩ = some (.int .i64 f)) ∧ (w.cell? ⟨B + 1, 0, none⟩ = some (.int .i64 r.1) ∧ w.cell? ⟨B + 1, 1, none⟩ = some (.int .i64 r.2.1) ∧ w.cell? ⟨B + 1, 2, none⟩ = some u) ∧
    (w.cell? ⟨B + 2, 0, none⟩ = some (.slice none 0 0) ∧ w.cell? ⟨B + 2, 1, none⟩ = some (.int .i64 0) ∧ w.frozen? ⟨B + 2, 0, none⟩ = false ∧ w.frozen? ⟨B + 2, 1, none⟩ = false) := by
  obtain ⟨h0, h1, h2⟩ := h
  refine ⟨⟨?_, ?_⟩, ⟨?_, ?_, ?_⟩, ⟨?_, ?_, frozen_of_row w _ _ _ _ h2, frozen_of_row w _ _ _ _ h2⟩⟩
  · rw [cell_of_row w _ _ _ _ _ h0]; rfl
  · rw [cell_of_row w _ _ _ _ _ h0]; rfl
  · rw [cell_of_row w _ _ _ _ _ h1]; rfl
  · rw [cell_of_row w _ _ _ _ _ h1]; rfl
  · rw [cell_of_row w _ _ _ _ _ h1]; rfl
  · rw [cell_of_row w _ _ _ _ _ h2]; rfl
  · rw [cell_of_row w _ _ _ _ _ h2]; rfl

theorem set2 (w : World) (b2 : Nat) (x y : Value) {b o : Nat} (h : b ≠ b2) : ((w.setCell ⟨b2, 0, none⟩ x).setCell ⟨b2, 1, none⟩ y).cell? ⟨b, o, none⟩ = w.cell? ⟨b, o, none⟩ := by
  rw [World.cell?_of_block (w := w.setCell ⟨b2, 0, none⟩ x) (a := ⟨b, o, none⟩) (Below.heap_setCell _ _ _ _ h), World.cell?_of_block (w := w) (a := ⟨b, o, none⟩) (Below.heap_setCell _ _ _ _ h)]

theorem addRow {w3 w4 : World} {lo n cap3 : Nat} {a3 : Option Addr} {ps : List (R × Value)} (ho : OwnRecs w3 lo w3.heap.size (.slice a3 n cap3) ps) (hpl : ps.length = n) (hb : Below w3.heap.size w3 w4) (o : Obj) :
    (w4.alloc o).ownsRow lo 28 3 (.slice a3 n cap3) n (flat ps) := by
  have h := ho.1
  rw [hpl] at h
  exact (ownsRow_below h hb (fun j hj => (h.lt j hj).2)).alloc o

theorem addBelow {W w5 : World} {lo n cap3 : Nat} {a3 : Option Addr} {xs : List Value} (hr : W.ownsRow lo 28 3 (.slice a3 n cap3) n xs) (hg : W.grownBy w5 (Value.slice a3 n cap3).ownBlock) (hlo : lo ≤ W.heap.size) : Below lo W w5 :=
  (Below.refl _ _).grown hg hlo (fun k hk => (hr.lt k hk).1)

/-- What comes of a list with one more record. -/
theorem implAdd_step {w3 w4 w5 : World} {lo n cap3 g5 cap5 cap4 : Nat} {a3 a4 : Option Addr} {rs : List R} {ps : List (R × Value)} {r : R} {o : Obj} (hlo : lo ≤ w3.heap.size) (hps : ps.map (·.1) = rs) (ho : OwnRecs w3 lo w3.heap.size (.slice a3 n cap3) ps) (hb : Below w3.heap.size w3 w4)
    (hown4 : w4.ownsRow (w3.heap.size + 2) 3 1 (.slice a4 r.2.2.length cap4) r.2.2.length (r.2.2.map (Value.int .i64)))
    (hown5 : w5.ownsRow lo 28 3 (.slice (some ⟨g5, 0, none⟩) (n + 1) cap5) (n + 1) (flat ps ++ [.int .i64 r.1, .int .i64 r.2.1, .slice a4 r.2.2.length cap4]))
    (hg5 : (w4.alloc o).grownBy w5 (Value.slice a3 n cap3).ownBlock) : Made w5 lo (.slice (some ⟨g5, 0, none⟩) (n + 1) cap5) (rs ++ [r]) := by
  have hpl : ps.length = n := by
    have h1 := hown5.1
    rw [List.length_append, flat_length] at h1
    simp at h1; omega
  have row4 := addRow ho hpl hb o
  have al := (Below.refl w4.heap.size w4).alloc (Nat.le_refl _) o
  have hs : (w4.alloc o).heap.size = w4.heap.size + 1 := by simp
  have hbs := hb.size
  have in4 : Inner (w4.alloc o) lo w3.heap.size ps := (ho.2.2.below hb (Nat.le_refl _)).below al hbs
  have lo3 : lo ≤ w3.heap.size + 2 := by omega
  rw [← hpl] at row4 hown5 hg5
  have st := append_step (r := r) row4 in4 (by omega) ((ownsRow_base hown4 lo3).alloc o) (fun k hk => by have := hown4.lt k hk; omega) hown5 hg5
  refine ⟨ps ++ [(r, .slice a4 r.2.2.length cap4)], by rw [List.map_append, hps]; rfl, ?_⟩
  rw [← hpl]
  exact ⟨st.1, fun k hk => (st.1.lt k hk).2, st.2⟩

set_option maxRecDepth 100000 in
set_option maxHeartbeats 4000000 in
theorem implAdd_any (v : Value) (rs : List R) (f : Int) (r : R) (u : Value) (a : Addr) (w : World) (hv : Recs w v rs) (hl : tot rs ≤ 1048576) (hu : Ints w u r.2.2) (hrl : r.2.2.length ≤ 1048576) (ha : ErrAt w a) :
    Calls Tryd.prog 11 #[.agg #[v, .int .i64 f], .agg #[.int .i64 r.1, .int .i64 r.2.1, u]] w fun e w' => LogOut2 w w' e (addR rs f r) (addF rs f r) (addB rs f r) := by
  obtain ⟨i0, hi, hz0, hz1, hz2⟩ := info_parts infoRec
  have hrsl := tot_len rs
  have HV : Hid (∀ W, Below w.heap.size w W → Recs W v rs) := fun W h => hv.later h (Nat.le_refl _)
  have HU : Hid (∀ W, Below w.heap.size w W → Ints W u r.2.2) := fun W h => hu.later h (Nat.le_refl _)
  have HA : Hid (∀ W, Below w.heap.size w W → ErrAt W a) := fun W h => ha.later h (Nat.le_refl _)
  have HT := hide_it (Trio.new w v f r u)
  obtain ⟨av, cv, hvs⟩ := hv.shape
  obtain ⟨au, cu, hus⟩ := hu.shape
  clear hv hu ha
  subst hvs hus
  have HS : Hid (∀ o1 o2 o3, Calls Tryd.prog 17 #[.agg #[.slice av rs.length cv, .int .i64 f]] (((w.alloc o1).alloc o2).alloc o3) fun e w' => e = .returned (.bool (logOk rs f)) ∧ Below (w.heap.size + 3) (((w.alloc o1).alloc o2).alloc o3) w') := fun o1 o2 o3 => by
    have := implLogOk_any _ rs f a _ (HV.out _ (below3 w o1 o2 o3)) hl (HA.out _ (below3 w o1 o2 o3))
    rw [size3] at this
    exact this
  cases hok : logOk rs f
  · have HR : Hid (addR rs f r = [] ∧ addF rs f r = 0 ∧ addB rs f r = false) := by refine ⟨?_, ?_, ?_⟩ <;> simp [addR, addF, addB, addOk, hok]
    rw [hok] at HS
    clear hok
    go_enter Tryd.func11, Tryd.ntmps11
    go_wp2_with fail
    refine (HS.out _ _ _).mono ?_
    rintro e w1 ⟨rfl, hb⟩
    have HB := hide_it ((below3 w _ _ _).trans (hb.mono (by omega)))
    have HT1 := hide_it (HT.out.later hb (Nat.le_refl _))
    obtain ⟨⟨l0, l1⟩, ⟨q0, q1, q2⟩, ⟨r0, r1, z0, z1⟩⟩ := HT1.out.cells
    have hz : w.heap.size + 3 ≤ w1.heap.size := by have := hb.size; rw [size3] at this; exact this
    clear hb
    go_wp2
    refine bodyPost_ret (v := .tuple #[.agg #[.slice none 0 0, .int .i64 0], .bool false]) (by simp [results, Tryd.results11, go_sem, r0, r1]) rfl ?_
    unfold LogOut2
    rw [HR.out.1, HR.out.2.1, HR.out.2.2]
    refine ⟨none, 0, rfl, Made.none _ _, ?_⟩
    exact (HB.out.setCell (by simp; omega) _).setCell (by simp; omega) _
  have HQ : Hid (∀ W, Below w.heap.size w W → Calls Tryd.prog 31 #[.agg #[.int .i64 r.1, .int .i64 r.2.1, .slice au r.2.2.length cu]] W fun e w' => e = .returned (.bool (rOk r)) ∧ Below W.heap.size W w') := fun W h => implOk_any r.1 r.2.1 _ r.2.2 a W (HU.out _ h) hrl (HA.out _ h)
  cases hrok : rOk r
  · have HR : Hid (addR rs f r = [] ∧ addF rs f r = 0 ∧ addB rs f r = false) := by refine ⟨?_, ?_, ?_⟩ <;> simp [addR, addF, addB, addOk, hrok]
    rw [hok] at HS
    rw [hrok] at HQ
    clear hok hrok
    go_enter Tryd.func11, Tryd.ntmps11
    go_wp2_with fail
    refine (HS.out _ _ _).mono ?_
    rintro e w1 ⟨rfl, hb⟩
    have HB := hide_it ((below3 w _ _ _).trans (hb.mono (by omega)))
    have HT1 := hide_it (HT.out.later hb (Nat.le_refl _))
    obtain ⟨⟨l0, l1⟩, ⟨q0, q1, q2⟩, -⟩ := HT1.out.cells
    have hz : w.heap.size + 3 ≤ w1.heap.size := by have := hb.size; rw [size3] at this; exact this
    clear hb
    go_wp2_with fail
    refine (HQ.out _ HB.out).mono ?_
    rintro e w2 ⟨rfl, hb2⟩
    have HB2 := hide_it (HB.out.trans (hb2.mono HB.out.size))
    have HT2 := hide_it (HT1.out.later hb2 (by omega))
    obtain ⟨-, -, ⟨r0, r1, z0, z1⟩⟩ := HT2.out.cells
    clear hb2
    go_wp2
    refine bodyPost_ret (v := .tuple #[.agg #[.slice none 0 0, .int .i64 0], .bool false]) (by simp [results, Tryd.results11, go_sem, r0, r1]) rfl ?_
    unfold LogOut2
    rw [HR.out.1, HR.out.2.1, HR.out.2.2]
    refine ⟨none, 0, rfl, Made.none _ _, ?_⟩
    exact (HB2.out.setCell (by simp; omega) _).setCell (by simp; omega) _
  obtain ⟨hf0, hfn, hn40⟩ := logOk_f hok
  rw [hok] at HS
  rw [hrok] at HQ
  have HOK : Hid (addOk rs f r = true) := by show _ = _; simp [addOk, hok, hrok]
  clear hok hrok
  go_enter Tryd.func11, Tryd.ntmps11
  go_wp2_with fail
  refine (HS.out _ _ _).mono ?_
  rintro e w1 ⟨rfl, hb⟩
  have HB := hide_it ((below3 w _ _ _).trans (hb.mono (by omega)))
  have HT1 := hide_it (HT.out.later hb (Nat.le_refl _))
  obtain ⟨⟨l0, l1⟩, ⟨q0, q1, q2⟩, -⟩ := HT1.out.cells
  have hz : w.heap.size + 3 ≤ w1.heap.size := by have := hb.size; rw [size3] at this; exact this
  clear hb
  go_wp2_with fail
  refine (HQ.out _ HB.out).mono ?_
  rintro e w2 ⟨rfl, hb2⟩
  have HB2 := hide_it (HB.out.trans (hb2.mono HB.out.size))
  have HT2 := hide_it (HT1.out.later hb2 (by omega))
  have hzz : w.heap.size + 3 ≤ w2.heap.size := Nat.le_trans hz hb2.size
  clear hb2 l0 l1 q0 q1 q2
  obtain ⟨⟨l0, l1⟩, -, -⟩ := HT2.out.cells
  go_wp2_with fail
  refine (copyRecs_any _ rs w2 (HV.out _ HB2.out) hl).mono ?_
  rintro e w3 ⟨a3, cap3, rfl, hm3, hb3⟩
  have HB3 := hide_it (HB2.out.trans (hb3.mono HB2.out.size))
  have HT3 := hide_it (HT2.out.later hb3 hzz)
  have HM3 := hide_it hm3
  have hz3 : w.heap.size + 3 ≤ w3.heap.size := Nat.le_trans hzz hb3.size
  have HZ23 := hide_it hb3.size
  clear hm3 hb3 l0 l1
  by_cases h40 : (rs.length : Int) = 40
  · have HR : Hid (addR rs f r = rs ∧ addF rs f r = f ∧ addB rs f r = false) := by
      have h4 : rs.length = 40 := by omega
      refine ⟨?_, ?_, ?_⟩ <;> simp [addR, addF, addB, HOK.out, h4]
    obtain ⟨⟨l0, l1⟩, -, ⟨r0, r1, z0, z1⟩⟩ := HT3.out.cells
    go_wp2
    refine bodyPost_ret (v := .tuple #[.agg #[.slice a3 rs.length cap3, .int .i64 f], .bool false]) (by simp [results, Tryd.results11, go_sem, r0, r1]) rfl ?_
    unfold LogOut2
    rw [HR.out.1, HR.out.2.1, HR.out.2.2]
    refine ⟨a3, cap3, rfl, ?_, ?_⟩
    · exact ((HM3.out.setBelow (by simp; omega) _).setBelow (by simp; omega) _).lo (by omega)
    · exact (HB3.out.setCell (by simp; omega) _).setCell (by simp; omega) _
  · have HR : Hid (addR rs f r = rs ++ [r] ∧ addF rs f r = f ∧ addB rs f r = true) := by
      have h4 : ¬ rs.length = 40 := by omega
      refine ⟨?_, ?_, ?_⟩ <;> simp [addR, addF, addB, HOK.out, h4]
    obtain ⟨⟨l0, l1⟩, ⟨q0, q1, q2⟩, -⟩ := HT3.out.cells
    obtain ⟨ps, hps, ho3⟩ := HM3.out
    have HPS := hide_it hps
    have HPL : Hid (ps.length = rs.length) := by have := congrArg List.length hps; show _ = _; simpa using this
    have HO3 := hide_it ho3
    clear hps ho3
    go_wp2_with fail
    go_region_held_law (fun w' => w'.cell? ⟨w.heap.size + 1, 0, none⟩ = some (.int .i64 r.1) ∧ w'.cell? ⟨w.heap.size + 1, 1, none⟩ = some (.int .i64 r.2.1) ∧ w'.cell? ⟨w.heap.size + 1, 2, none⟩ = some (.slice au r.2.2.length cu) ∧ w'.cell? ⟨w.heap.size, 1, none⟩ = some (.int .i64 f)) (first | (refine ⟨(set2 _ _ _ _ ?_).trans ?_, (set2 _ _ _ _ ?_).trans ?_, (set2 _ _ _ _ ?_).trans ?_, (set2 _ _ _ _ ?_).trans ?_⟩ <;> first | omega | assumption) | go_keep)
      (first
        | (refine step_append_lies _ rfl _ _ 23 rfl w2.heap.size 28 i0 (.agg #[.int .i64 0, .int .i64 0, .slice none 0 0]) 3 40 Tryd.underlying23 hi hz0 hz1 hz2 rfl (by decide) (.slice a3 rs.length cap3) rs.length (flat ps) rfl (by exact (ROW4.out _)) ⟨w4.heap.size, 0, none⟩ 1 1 [.int .i64 r.1, .int .i64 r.2.1, .slice a4 r.2.2.length cap4] rfl rfl (by exact news3 _ _ _ _ _) (by exact one3 _ _ _) (by decide) (by unfold maxLen; omega) (by omega) (by have := HZ23.out; simp; omega) _ rfl ?_; intro g5 cap5 w5 hown5 hgrow5 _ _; have ST := hide_it (implAdd_step HZ23.out HPS.out HO3.out HB4.out HW4.out hown5 hgrow5); have LO5 := hide_it (addBelow (ROW4.out _) hgrow5 (by have := HZ23.out; simp; omega)); obtain ⟨⟨m0, m1⟩, ⟨s0, s1, s2⟩, ⟨e0, e1, e2, e3⟩⟩ := ((HT4.out.later (alloc_below _ _) (by omega)).later LO5.out hzz).cells; have hz5 : w.heap.size + 3 ≤ w5.heap.size := (by have := LO5.out.size; simp at this; omega); clear hown5 hgrow5)
        | (go_simp; go_at_call 33; refine (copyRec_any r.1 r.2.1 _ r.2.2 _ ?_ hrl).mono ?_; exact HU.out _ HB3.out.drew; rintro e w4 ⟨a4, cap4, rfl, hown4, hb4⟩; have HB4 := hide_it ((Below.refl w3.heap.size w3).drew.trans hb4); have HW4 := hide_it hown4; have HT4 := hide_it (HT3.out.later HB4.out hz3); obtain ⟨⟨m0, m1⟩, ⟨s0, s1, s2⟩, ⟨e0, e1, e2, e3⟩⟩ := HT4.out.cells; have m1o := (fun x => cellAlloc m1 x); have s0o := (fun x => cellAlloc s0 x); have s1o := (fun x => cellAlloc s1 x); have s2o := (fun x => cellAlloc s2 x); have hz4 : w.heap.size + 3 ≤ w4.heap.size := Nat.le_trans hz3 HB4.out.size; have hz24 : w2.heap.size ≤ w4.heap.size := Nat.le_trans HZ23.out HB4.out.size; have ROW4 : Hid (∀ o, (w4.alloc o).ownsRow w2.heap.size 28 3 (.slice a3 rs.length cap3) rs.length (flat ps)) := (fun o => addRow HO3.out HPL.out HB4.out o); clear hown4 hb4))
    have BE5 := hide_it ((((HB3.out.trans (HB4.out.mono (by omega))).alloc (by omega) _).trans (LO5.out.mono (show w.heap.size ≤ w2.heap.size by omega))))
    have HLr : Hid ((rs ++ [r]).length = rs.length + 1) := by show _ = _; simp
    go_wp2
    refine bodyPost_ret (v := .tuple #[.agg #[.slice (some ⟨g5, 0, none⟩) (rs.length + 1) cap5, .int .i64 f], .bool true]) (by simp [results, Tryd.results11, go_sem, e0, e1]) rfl ?_
    unfold LogOut2
    rw [HR.out.1, HR.out.2.1, HR.out.2.2, HLr.out]
    refine ⟨_, cap5, rfl, ?_, ?_⟩
    · exact ((ST.out.setBelow (by simp; omega) _).setBelow (by simp; omega) _).lo (by omega)
    · exact (BE5.out.setCell (by simp; omega) _).setCell (by simp; omega) _

end Go.Proofs.YtgbikmcpcolcpaaDoor
