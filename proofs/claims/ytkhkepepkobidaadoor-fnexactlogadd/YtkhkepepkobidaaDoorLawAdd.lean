/- The law FnExactLogAdd, walked: at every log and record it answers true, and nothing that was there before has turned. In a world in which the sentinel's variable holds a pointer to an errors.errorString. -/
import Derived.Test.YtkhkepepkobidaaDoorSLogAdd
import Derived.Test.YtkhkepepkobidaaDoorLawForce
import Derived.Deep.DeepCutAuto
namespace Go.Proofs.YtkhkepepkobidaaDoor
open Go.RowKit

/-- A log and a record that came in, in the law's own blocks. -/
def Duo (w : World) (B : Nat) (v : Value) (f : Int) (r : R) (u : Value) : Prop :=
  (w.cell? ⟨B, 0, none⟩ = some v ∧ w.cell? ⟨B, 1, none⟩ = some (.int .i64 f)) ∧ (w.cell? ⟨B + 1, 0, none⟩ = some (.int .i64 r.1) ∧ w.cell? ⟨B + 1, 1, none⟩ = some (.int .i64 r.2.1) ∧ w.cell? ⟨B + 1, 2, none⟩ = some u)
theorem Duo.later {w w' : World} {B L : Nat} {v : Value} {f : Int} {r : R} {u : Value} (h : Duo w B v f r u) (hb : Below L w w') (hL : w.heap.size ≤ L) : Duo w' B v f r u := by
  obtain ⟨h1, h2⟩ := h
  exact ⟨Two.later h1 hb hL, RecAt.later h2 hb hL⟩
theorem Duo.new (w : World) (v : Value) (f : Int) (r : R) (u : Value) (t1 t2 : TypeId) : Duo ((w.alloc (.cells #[v, .int .i64 f] t1)).alloc (.cells #[.int .i64 r.1, .int .i64 r.2.1, u] t2)) w.heap.size v f r u := by
  refine ⟨Two.later (show Two _ _ _ _ from box2 w _ _ _) (alloc_below _ _) (Nat.le_refl _), ?_⟩
  have h := RecAt.new (w.alloc (.cells #[v, .int .i64 f] t1)) r.1 r.2.1 u t2
  rw [size1] at h
  exact h

theorem RecAt.mid {lo hi : Nat} {w w' : World} {b : Nat} {k t : Int} {u : Value} (h : RecAt w b k t u) (hm : Mid lo hi w w') (hb : b < lo ∨ hi ≤ b) : RecAt w' b k t u := by
  have hlt := World.block_lt_of_cell? _ _ h.1
  simp at hlt
  have e := hm.block b hlt hb
  exact ⟨by rw [← h.1]; exact World.cell?_of_block (a := ⟨b, 0, none⟩) e, by rw [← h.2.1]; exact World.cell?_of_block (a := ⟨b, 1, none⟩) e, by rw [← h.2.2]; exact World.cell?_of_block (a := ⟨b, 2, none⟩) e⟩

theorem rOk_len {r : R} (h : rOk r = true) : r.2.2.length ≤ 3 := by
  unfold rOk Pl.recOk at h
  simp only [Bool.and_eq_true] at h
  have h2 := h.2
  by_cases h1 : r.1 = 1
  · rw [if_pos h1] at h2
    simp [Pl.holdOk] at h2; omega
  · rw [if_neg h1] at h2
    by_cases h4 : r.1 = 4
    · rw [if_pos h4] at h2
      simp [Pl.manyOk] at h2; omega
    · rw [if_neg h4] at h2
      simp only [Bool.and_eq_true, beq_iff_eq] at h2; omega
theorem pre_ok (rs : List R) (h : rs.all rOk = true) (k : Nat) : pre rs k ≤ 3 * k := by
  induction k with
  | zero => simp [pre]
  | succ k ih =>
    by_cases hk : k < rs.length
    · have h1 := pre_succ rs k rs[k] (by simp [hk])
      have h2 := rOk_len (List.all_eq_true.1 h rs[k] (List.getElem_mem hk))
      omega
    · have : pre rs (k + 1) = pre rs k := by unfold pre; rw [List.take_of_length_le (by omega), List.take_of_length_le (by omega)]
      omega
theorem addR_tot (rs : List R) (f : Int) (r : R) (hl : tot rs ≤ 1048576) : tot (addR rs f r) ≤ 1048576 := by
  unfold addR
  split
  · rename_i hok
    unfold addOk at hok
    simp only [Bool.and_eq_true] at hok
    have hn := (logOk_f hok.1).2.2
    split
    · exact hl
    · have hall : (rs ++ [r]).all rOk = true := by
        have h1 := hok.1
        unfold logOk at h1
        simp only [Bool.and_eq_true] at h1
        rw [List.all_append, h1.1]; simp [hok.2]
      have h3 := pre_ok (rs ++ [r]) hall (rs ++ [r]).length
      have h4 : (rs ++ [r]).length = rs.length + 1 := by simp
      unfold tot; omega
  · simp [tot, pre]

/-- The numbers of a record are marked. -/
theorem markRec_any (k t : Int) (g n cap : Nat) (q : Int) (xs : List Value) (lo : Nat) (w : World) (hv : w.ownsRow lo 3 1 (.slice (some ⟨g, 0, none⟩) n cap) n xs) (hn : n ≤ 1048576) (hk0 : 0 ≤ q) (hk1 : q ≤ 1000000000) :
    Calls Tryd.prog 21 #[.agg #[.int .i64 k, .int .i64 t, .slice (some ⟨g, 0, none⟩) n cap], .int .i64 q] w fun e w' => e = .returned (.int .i64 (q + n)) ∧ Mid g (g + 1) w w' := by
  have HS : Hid (∀ o, Calls Tryd.prog 43 #[.slice (some ⟨g, 0, none⟩) n cap, .int .i64 q] (w.alloc o) fun e w' => e = .returned (.int .i64 (q + n)) ∧ Mid g (g + 1) w w') := fun o => by
    refine (markInts_any _ xs q lo n (w.alloc o) (hv.alloc o) hn hk0 hk1).mono ?_
    rintro e w' ⟨h1, _, h3⟩
    exact ⟨h1, (Mid.of_below (alloc_below w o) (Nat.le_refl _)).trans (Mid.of_grown h3 (fun k hk => by simp [Value.ownBlock] at hk; omega))⟩
  clear hv
  go_enter Tryd.func21, Tryd.ntmps21
  go_wp2_with (go_at_call 43; refine (HS.out _).mono ?_; rintro e w1 ⟨rfl, h3⟩)
  go_ret
  exact ⟨rfl, by assumption⟩

set_option maxHeartbeats 1000000 in
theorem lawAdd_great1 (v : Value) (rs : List R) (f : Int) (x : Value) (w : World) (hx : ∃ k t ao n c, x = .agg #[.int .i64 k, .int .i64 t, .slice ao n c]) (hv : Recs w v rs) (hl : (rs.length : Int) ≤ 9223372036854775807) (hls : ∀ r ∈ rs, (r.2.2.length : Int) ≤ 9223372036854775807) (hg : 1048576 < (tot rs : Int)) :
    Calls Tryd.prog 5 #[.agg #[v, .int .i64 f], x] w fun e w' => e = .returned (.bool true) ∧ Below w.heap.size w w' := by
  obtain ⟨k, t, ao, n, c, rfl⟩ := hx
  have HS : Hid (∀ o1 o2, Calls Tryd.prog 13 #[.agg #[v, .int .i64 f], .int .i64 1048576] ((w.alloc o1).alloc o2) fun e w' => e = .returned (.int .i64 (-1)) ∧ Below w.heap.size w w') := fun o1 o2 => by
    have := szLog_any v rs f 1048576 ((w.alloc o1).alloc o2) (hv.later (below2 w o1 o2) (Nat.le_refl _)) hl hls (by omega) (by omega)
    rw [leftOf_neg (by omega)] at this
    refine this.mono ?_
    rintro e w' ⟨h1, h2⟩
    exact ⟨h1, (below2 w o1 o2).trans (h2.mono (by simp; omega))⟩
  clear hv hl hls hg
  go_enter Tryd.func5, Tryd.ntmps5
  go_wp2_with (go_at_call 13; refine (HS.out _ _).mono ?_; rintro e w1 ⟨rfl, hb⟩)
  go_ret
  exact ⟨rfl, by assumption⟩

set_option maxHeartbeats 1000000 in
theorem lawAdd_great2 (v : Value) (rs : List R) (f : Int) (r : R) (u : Value) (w : World) (hv : Recs w v rs) (hu : Ints w u r.2.2) (hul : (r.2.2.length : Int) ≤ 9223372036854775807) (hl : tot rs ≤ 1048576) (hg : 1048576 < (tot rs : Int) + r.2.2.length) :
    Calls Tryd.prog 5 #[.agg #[v, .int .i64 f], .agg #[.int .i64 r.1, .int .i64 r.2.1, u]] w fun e w' => e = .returned (.bool true) ∧ Below w.heap.size w w' := by
  have hrl := tot_len rs
  obtain ⟨au, cu, hus⟩ := hu.shape
  have HD := hide_it (Duo.new w v f r u 33 24)
  have HS : Hid (∀ o1 o2, Calls Tryd.prog 13 #[.agg #[v, .int .i64 f], .int .i64 1048576] ((w.alloc o1).alloc o2) fun e w' => e = .returned (.int .i64 (1048576 - tot rs)) ∧ Below ((w.alloc o1).alloc o2).heap.size ((w.alloc o1).alloc o2) w') := fun o1 o2 => by
    have := szLog_any v rs f 1048576 ((w.alloc o1).alloc o2) (hv.later (below2 w o1 o2) (Nat.le_refl _)) (by omega) (fun r hr => by have := tot_mem rs r hr; omega) (by omega) (by omega)
    rw [leftOf_pos (by omega)] at this
    exact this
  have HZ : Hid (∀ W, Calls Tryd.prog 8 #[.agg #[.int .i64 r.1, .int .i64 r.2.1, u], .int .i64 (1048576 - tot rs)] W fun e w' => e = .returned (.int .i64 (-1)) ∧ Below W.heap.size W w') := fun W => by
    have := szRec_any r.1 r.2.1 au r.2.2.length cu (1048576 - tot rs) W hul (by omega) (by omega)
    rw [if_pos (by omega)] at this
    rw [hus]
    exact this
  clear hv hu hus hg
  go_enter Tryd.func5, Tryd.ntmps5
  go_wp2_with fail
  refine (HS.out _ _).mono ?_
  rintro e w1 ⟨rfl, hb⟩
  have HB := hide_it ((below2 w _ _).trans (hb.mono (by simp; omega)))
  obtain ⟨⟨l0, l1⟩, ⟨q0, q1, q2⟩⟩ := HD.out.later hb (Nat.le_refl _)
  clear hb
  go_wp2_with fail
  refine (HZ.out _).mono ?_
  rintro e w2 ⟨rfl, hb2⟩
  have HB2 := hide_it (HB.out.trans (hb2.mono HB.out.size))
  clear hb2
  go_wp2
  go_ret
  exact ⟨rfl, HB2.out⟩

/-- A log's block as it was laid. -/
def ZB (w : World) (b : Nat) : Prop := w.heap[b]? = some (.cells #[.slice none 0 0, .int .i64 0] 38 (0, 0))
theorem ZB.new (w : World) : ZB (w.alloc (.cells #[.slice none 0 0, .int .i64 0] 38)) w.heap.size := heap_alloc_new w _
theorem ZB.later {w w' : World} {b L : Nat} (h : ZB w b) (hb : Below L w w') (hL : w.heap.size ≤ L) : ZB w' b := by
  have := lt_of_heap h
  unfold ZB at *
  rw [hb.block b (by omega)]; exact h
theorem ZB.cells {w : World} {b : Nat} (h : ZB w b) : w.cell? ⟨b, 0, none⟩ = some (.slice none 0 0) ∧ w.cell? ⟨b, 1, none⟩ = some (.int .i64 0) ∧ w.frozen? ⟨b, 0, none⟩ = false ∧ w.frozen? ⟨b, 1, none⟩ = false := by
  refine ⟨?_, ?_, frozen_of_row w _ _ _ _ h, frozen_of_row w _ _ _ _ h⟩
  · rw [cell_of_row w _ _ _ _ _ h]; rfl
  · rw [cell_of_row w _ _ _ _ _ h]; rfl

theorem size0d (w : World) : w.drew.heap.size = w.heap.size := rfl
theorem size1d (w : World) (o : Obj) : (w.alloc o).drew.heap.size = w.heap.size + 1 := by show (w.alloc o).heap.size = _; simp
theorem n_drew {w2 w3 : World} (hb : Below w2.drew.heap.size w2.drew w3) : Below w2.heap.size w2 w3 := (Below.refl w2.heap.size w2).drew.trans hb
theorem n_alloc_drew {w2 w3 : World} {o : Obj} (hb : Below (w2.alloc o).drew.heap.size (w2.alloc o).drew w3) : Below w2.heap.size w2 w3 := ((Below.refl w2.heap.size w2).alloc (Nat.le_refl _) o).drew.trans (hb.mono (by show w2.heap.size ≤ (w2.alloc o).heap.size; simp))
theorem z_alloc_drew {w2 w3 : World} (hb : Below (w2.alloc (.cells #[.slice none 0 0, .int .i64 0] 38)).drew.heap.size (w2.alloc (.cells #[.slice none 0 0, .int .i64 0] 38)).drew w3) : ZB w3 w2.heap.size := ((ZB.new w2).later (Below.refl _ _).drew (Nat.le_refl _)).later hb (Nat.le_refl _)
theorem z_alloc {w2 w3 : World} (hb : Below (w2.alloc (.cells #[.slice none 0 0, .int .i64 0] 38)).heap.size (w2.alloc (.cells #[.slice none 0 0, .int .i64 0] 38)) w3) : ZB w3 w2.heap.size := (ZB.new w2).later hb (Nat.le_refl _)

/-- What is known when a log has come back and lies in a block of the law's own. -/
def Met (w W : World) (B b : Nat) (v : Value) (f : Int) (r : R) (u : Value) (x : Value) (F : Int) (RS : List R) : Prop :=
  Below w.heap.size w W ∧ Duo W B v f r u ∧ Two W b x (.int .i64 F) ∧ Recs W x RS ∧ w.heap.size ≤ b

theorem met_set {w w5 : World} {B lo b6 n cap5 : Nat} {a5 : Option Addr} {v : Value} {f F : Int} {r : R} {u : Value} {RS : List R} (B5 : Below w.heap.size w w5) (D5 : Duo w5 B v f r u) (M5 : Made w5 lo (.slice a5 n cap5) RS) (hz : ZB w5 b6) (hb6 : w.heap.size ≤ b6) (hB : B + 1 < w.heap.size) :
    Met w ((w5.setCell ⟨b6, 0, none⟩ (.slice a5 n cap5)).setCell ⟨b6, 1, none⟩ (.int .i64 F)) B b6 v f r u (.slice a5 n cap5) F RS := by
  have h2 := heap_setCell_same w5 b6 0 _ _ (.slice a5 n cap5) hz
  have h3 := heap_setCell_same _ b6 1 _ _ (.int .i64 F) h2
  refine ⟨(B5.setCell (by show w.heap.size ≤ b6; omega) _).setCell (by show w.heap.size ≤ b6; omega) _, ?_, ?_, ?_, hb6⟩
  · obtain ⟨⟨d0, d1⟩, ⟨d2, d3, d4⟩⟩ := D5
    exact ⟨⟨(set2 _ _ _ _ (by omega)).trans d0, (set2 _ _ _ _ (by omega)).trans d1⟩, ⟨(set2 _ _ _ _ (by omega)).trans d2, (set2 _ _ _ _ (by omega)).trans d3, (set2 _ _ _ _ (by omega)).trans d4⟩⟩
  · exact ⟨by rw [cell_of_row _ _ _ _ _ _ h3]; rfl, by rw [cell_of_row _ _ _ _ _ _ h3]; rfl⟩
  · exact ((M5.setApart hz _).setApart h2 _).recs

theorem met_new {w w5 : World} {B lo n cap5 : Nat} {a5 : Option Addr} {v : Value} {f F : Int} {r : R} {u : Value} {RS : List R} (B5 : Below w.heap.size w w5) (D5 : Duo w5 B v f r u) (M5 : Made w5 lo (.slice a5 n cap5) RS) :
    Met w (w5.alloc (.cells #[.slice a5 n cap5, .int .i64 F] 38)) B w5.heap.size v f r u (.slice a5 n cap5) F RS :=
  ⟨B5.alloc B5.size _, D5.later (alloc_below _ _) (Nat.le_refl _), box2 w5 _ _ _, (M5.below (alloc_below _ _) (Nat.le_refl _)).recs, B5.size⟩

set_option maxRecDepth 100000 in
set_option maxHeartbeats 16000000 in
theorem lawAdd_small (v : Value) (rs : List R) (f : Int) (r : R) (u : Value) (a : Addr) (w : World) (hv : Recs w v rs) (hu : Ints w u r.2.2) (ha : ErrAt w a) (hlt : tot rs + r.2.2.length ≤ 1048576) :
    Calls Tryd.prog 5 #[.agg #[v, .int .i64 f], .agg #[.int .i64 r.1, .int .i64 r.2.1, u]] w fun e w' => e = .returned (.bool true) ∧ Below w.heap.size w w' := by
  have hrl := tot_len rs
  have hl : tot rs ≤ 1048576 := by omega
  have hul : r.2.2.length ≤ 1048576 := by omega
  have HD := hide_it (Duo.new w v f r u 33 24)
  obtain ⟨au, cu, hus⟩ := hu.shape
  obtain ⟨av, cv, hvs⟩ := hv.shape
  have HS : Hid (∀ o1 o2, Calls Tryd.prog 13 #[.agg #[v, .int .i64 f], .int .i64 1048576] ((w.alloc o1).alloc o2) fun e w' => e = .returned (.int .i64 (1048576 - tot rs)) ∧ Below ((w.alloc o1).alloc o2).heap.size ((w.alloc o1).alloc o2) w') := fun o1 o2 => by
    have := szLog_any v rs f 1048576 ((w.alloc o1).alloc o2) (hv.later (below2 w o1 o2) (Nat.le_refl _)) (by omega) (fun r hr => by have := tot_mem rs r hr; omega) (by omega) (by omega)
    rw [leftOf_pos (by omega)] at this
    exact this
  have HZ : Hid (∀ W, Calls Tryd.prog 8 #[.agg #[.int .i64 r.1, .int .i64 r.2.1, u], .int .i64 (1048576 - tot rs)] W fun e w' => e = .returned (.int .i64 (1048576 - tot rs - r.2.2.length)) ∧ Below W.heap.size W w') := fun W => by
    have := szRec_any r.1 r.2.1 au r.2.2.length cu (1048576 - tot rs) W (by omega) (by omega) (by omega)
    rw [if_neg (by omega)] at this
    rw [hus]
    exact this
  have HV : Hid (∀ W, Below w.heap.size w W → Recs W v rs) := fun W h => hv.later h (Nat.le_refl _)
  have HU : Hid (∀ W, Below w.heap.size w W → Ints W u r.2.2) := fun W h => hu.later h (Nat.le_refl _)
  have HA : Hid (∀ W, Below w.heap.size w W → ErrAt W a) := fun W h => ha.later h (Nat.le_refl _)
  clear hv hu ha
  subst hvs hus
  obtain ⟨RS, hRS⟩ : ∃ RS, Hid (RS = addR rs f r) := ⟨_, rfl⟩
  obtain ⟨F, hF⟩ : ∃ F, Hid (F = addF rs f r) := ⟨_, rfl⟩
  obtain ⟨BB, hBB⟩ : ∃ b, Hid (b = addB rs f r) := ⟨_, rfl⟩
  have hRl : tot RS ≤ 1048576 := by rw [hRS.out]; exact addR_tot rs f r hl
  have HSP : Hid (∀ (x y : Value) (W : World), Recs W x rs → Ints W y r.2.2 → Calls Tryd.prog 18 #[.agg #[x, .int .i64 f], .agg #[.int .i64 r.1, .int .i64 r.2.1, y]] W fun e w' => LogOut2 W w' e RS F BB) := fun x y W h h2 => by rw [hRS.out, hF.out, hBB.out]; exact specAdd_any x rs f r y W h hl h2 hul
  have HIM : Hid (∀ (x y : Value) (W : World), Recs W x rs → Ints W y r.2.2 → ErrAt W a → Calls Tryd.prog 19 #[.agg #[x, .int .i64 f], .agg #[.int .i64 r.1, .int .i64 r.2.1, y]] W fun e w' => LogOut2 W w' e RS F BB) := fun x y W h h2 h3 => by rw [hRS.out, hF.out, hBB.out]; exact implAdd_any x rs f r y a W h hl h2 hul h3
  have hKb := kAt_bd RS 1 RS.length (Nat.le_refl _) hRl (by omega) (by omega)
  have hKx := kAt_bd rs 1 rs.length (Nat.le_refl _) hl (by omega) (by omega)
  go_enter Tryd.func5, Tryd.ntmps5
  -- how great they are
  go_wp2_with fail
  refine (HS.out _ _).mono ?_
  rintro e w1 ⟨rfl, hb1⟩
  have B1 := hide_it ((below2 w _ _).trans (hb1.mono (by simp; omega)))
  have D1 := hide_it (HD.out.later hb1 (Nat.le_refl _))
  clear hb1
  obtain ⟨⟨l0, l1⟩, ⟨q0, q1, q2⟩⟩ := D1.out
  go_wp2_with fail
  refine (HZ.out _).mono ?_
  rintro e w2 ⟨rfl, hb2⟩
  have B2 := hide_it (B1.out.trans (hb2.mono B1.out.size))
  have D2 := hide_it (D1.out.later hb2 (Nat.le_refl _))
  have hz2 : w.heap.size ≤ w2.heap.size := B2.out.size
  clear hb2 l0 l1 q0 q1 q2
  obtain ⟨⟨l0, l1⟩, ⟨q0, q1, q2⟩⟩ := D2.out
  have hw2 : w.heap.size + 1 < w2.heap.size := World.block_lt_of_cell? _ _ q0
  -- w0
  go_wp2_with fail
  go_cut [6, 7] (fun p b W => ∃ b6 a5 cap5, p = .pointer (some ⟨b6, 0, none⟩) ∧ b = .bool BB ∧ Hid (Met w2 W w.heap.size b6 (.slice av rs.length cv) f r (.slice au r.2.2.length cu) (.slice a5 RS.length cap5) F RS))
  case first =>
    go_region_held (fun w' => w'.cell? ⟨w.heap.size, 0, none⟩ = some (.slice av rs.length cv) ∧ w'.cell? ⟨w.heap.size, 1, none⟩ = some (.int .i64 f) ∧ w'.cell? ⟨w.heap.size + 1, 0, none⟩ = some (.int .i64 r.1) ∧ w'.cell? ⟨w.heap.size + 1, 1, none⟩ = some (.int .i64 r.2.1) ∧ w'.cell? ⟨w.heap.size + 1, 2, none⟩ = some (.slice au r.2.2.length cu)) (first | (go_keep; done) | (refine ⟨(set2 _ _ _ _ ?_).trans ?_, (set2 _ _ _ _ ?_).trans ?_, (set2 _ _ _ _ ?_).trans ?_, (set2 _ _ _ _ ?_).trans ?_, (set2 _ _ _ _ ?_).trans ?_⟩ <;> first | omega | assumption))
      (first
      | (go_at_call 15; refine (toLog_any _ rs f _ ?_ hl).mono ?_; (first | (with_reducible exact (HV.out _ B2.out.drew)) | exact (HV.out _ (B2.out.alloc hz2 _).drew)); rintro e w3 ⟨rfl, hm3, hb3⟩; have N3 : Hid (Below w2.heap.size w2 w3) := (by first | (with_reducible exact hide_it (n_drew hb3)) | (with_reducible exact hide_it (n_alloc_drew hb3))); (try (with_reducible have Zb := hide_it (z_alloc_drew hb3))); (try rw [size1d] at hm3); (try rw [size0d] at hm3); have V3 := hide_it hm3.recs; have D3 := hide_it (D2.out.later N3.out (Nat.le_refl _)); obtain ⟨⟨l30, l31⟩, ⟨q30, q31, q32⟩⟩ := D3.out; have B3 := hide_it (B2.out.trans (N3.out.mono hz2)); have hz3 := B3.out.size; have hs3 := N3.out.size; clear hm3 hb3)
      | (go_at_call 10; refine (toRec_any r.1 r.2.1 _ r.2.2 _ ?_ hul).mono ?_; (first | (with_reducible exact HU.out _ B3.out) | exact (HU.out _ (B3.out.alloc hz3 _))); rintro e w4 ⟨rfl, hown4, hb4⟩; have N4 : Hid (Below w3.heap.size w3 w4) := (by first | (with_reducible exact hide_it hb4) | (with_reducible exact hide_it (below_after hb4))); (first | (with_reducible have Zb := hide_it (Zb.out.later N4.out (Nat.le_refl _))) | (with_reducible have Zb := hide_it (z_alloc hb4)) | skip); (try rw [size1] at hown4); have U4 := hide_it (ints_of_row hown4); have V4 := hide_it (V3.out.later N4.out (Nat.le_refl _)); have D4 := hide_it (D3.out.later N4.out (Nat.le_refl _)); obtain ⟨⟨l40, l41⟩, ⟨q40, q41, q42⟩⟩ := D4.out; have B4 := hide_it (B3.out.trans (N4.out.mono hz3)); have hz4 := B4.out.size; have hs4 := N4.out.size; clear hown4 hb4)
      | (go_at_call 18; refine (HSP.out _ _ _ ?_ ?_).mono ?_; (first | (with_reducible exact V4.out) | (with_reducible exact (V4.out.later (alloc_below _ _) (Nat.le_refl _))) | exact V4.out | exact (V4.out.later (alloc_below _ _) (Nat.le_refl _))); (first | (with_reducible exact U4.out) | (with_reducible exact (U4.out.later (alloc_below _ _) (Nat.le_refl _))) | exact U4.out | exact (U4.out.later (alloc_below _ _) (Nat.le_refl _))); rintro e w5 ⟨a5, cap5, rfl, hm5, hb5⟩; have N5 : Hid (Below w4.heap.size w4 w5) := (by first | (with_reducible exact hide_it hb5) | (with_reducible exact hide_it (below_after hb5))); (first | (with_reducible have Zb := hide_it (Zb.out.later N5.out (Nat.le_refl _))) | (with_reducible have Zb := hide_it (z_alloc hb5)) | skip); have M5 := hide_it hm5; have D5 := hide_it (D4.out.later N5.out (Nat.le_refl _)); obtain ⟨⟨l50, l51⟩, ⟨q50, q51, q52⟩⟩ := D5.out; (try obtain ⟨y0, y1, y2, y3⟩ := Zb.out.cells); have B5 := hide_it (B4.out.trans (N5.out.mono hz4)); have hs5 := N5.out.size; have C5 := hide_it ((N3.out.trans (N4.out.mono hs3)).trans (N5.out.mono (Nat.le_trans hs3 hs4))); clear hm5 hb5))
    all_goals
      go_wp2_with fail
      go_meet
      case rel => first | exact ⟨_, a5, cap5, rfl, rfl, hide_it (met_new C5.out D5.out M5.out)⟩ | exact ⟨_, a5, cap5, rfl, rfl, hide_it (met_set C5.out D5.out M5.out Zb.out (by omega) hw2)⟩
  case rest =>
    obtain ⟨b6, a5, cap5, rfl, rfl, HMET⟩ := hcut
    have CW := hide_it HMET.out.1
    have DW := hide_it HMET.out.2.1
    have Z4 := hide_it HMET.out.2.2.1
    have V4 := hide_it HMET.out.2.2.2.1
    have B4 := hide_it (B2.out.trans (CW.out.mono hz2))
    have hz4 : w.heap.size ≤ wc.heap.size := B4.out.size
    clear HMET CW l0 l1 q0 q1 q2 hw2
    obtain ⟨⟨l0, l1⟩, ⟨q0, q1, q2⟩⟩ := DW.out
    -- x0
    go_wp2_with fail
    refine (toLog_any _ rs f wc (HV.out _ B4.out) hl).mono ?_
    rintro e wA ⟨rfl, hmA, hbA⟩
    obtain ⟨g5, hg5⟩ : ∃ g, Hid (g = wc.heap.size + 3) := ⟨_, rfl⟩
    rw [← hg5.out] at hmA ⊢
    obtain ⟨ps5, hp5, ho5⟩ := hmA
    have HP5 := hide_it hp5
    have OA := hide_it ho5
    have EA := hide_it hbA
    clear hp5 ho5 hbA l0 l1 q0 q1 q2
    obtain ⟨wB, hwB⟩ : ∃ W, Hid (W = wA.alloc (.cells #[.slice (some ⟨g5, 0, none⟩) rs.length rs.length, .int .i64 f] 38)) := ⟨_, rfl⟩
    have DA := hide_it (DW.out.later EA.out (Nat.le_refl _))
    obtain ⟨⟨l0, l1⟩, ⟨q0, q1, q2⟩⟩ := DA.out
    have q0o := fun x => cellAlloc q0 x
    have q1o := fun x => cellAlloc q1 x
    have q2o := fun x => cellAlloc q2 x
    have hltA : w.heap.size + 1 < wA.heap.size := World.block_lt_of_cell? _ _ q0
    -- x1
    go_wp2_with fail
    rw [← hwB.out]
    have alB := hide_it (show Below wA.heap.size wA wB by rw [hwB.out]; exact alloc_below _ _)
    have HSB := hide_it (show wB.heap.size = wA.heap.size + 1 by rw [hwB.out]; simp)
    have EB := hide_it (EA.out.trans (alB.out.mono EA.out.size))
    have OB := hide_it (OA.out.below alB.out (Nat.le_refl _))
    have XB : Hid (Two wB wA.heap.size (.slice (some ⟨g5, 0, none⟩) rs.length rs.length) (.int .i64 f)) := by show Two _ _ _ _; rw [hwB.out]; exact box2 wA _ _ _
    have BB' := hide_it (B4.out.trans (EB.out.mono hz4))
    clear q0o q1o q2o l0 l1 q0 q1 q2
    refine (toRec_any r.1 r.2.1 _ r.2.2 wB (HU.out _ BB'.out) hul).mono ?_
    rintro e wC ⟨rfl, hownC, hbC⟩
    obtain ⟨gu, hgu⟩ : ∃ g, Hid (g = wB.heap.size + 3) := ⟨_, rfl⟩
    rw [← hgu.out] at hownC ⊢
    have RC := hide_it hownC
    have HSC := hide_it hbC.size
    have EC := hide_it (EB.out.trans (hbC.mono EB.out.size))
    have OC := hide_it (OB.out.below hbC (by have := HSB.out; omega))
    have XC := hide_it (XB.out.later hbC (Nat.le_refl _))
    have hguC : gu < wC.heap.size := (hownC.lt gu rfl).2
    have HGC := hide_it hguC
    clear hownC hbC hguC
    obtain ⟨wD, hwD⟩ : ∃ W, Hid (W = wC.alloc (.cells #[.int .i64 r.1, .int .i64 r.2.1, .slice (some ⟨gu, 0, none⟩) r.2.2.length r.2.2.length] 27)) := ⟨_, rfl⟩
    obtain ⟨x0, x1⟩ := XC.out
    have x0o := fun x => cellAlloc x0 x
    have x1o := fun x => cellAlloc x1 x
    have hltC : wA.heap.size < wC.heap.size := World.block_lt_of_cell? _ _ x0
    -- g0
    go_wp2_with fail
    rw [← hwD.out]
    have alD := hide_it (show Below wC.heap.size wC wD by rw [hwD.out]; exact alloc_below _ _)
    have HSD := hide_it (show wD.heap.size = wC.heap.size + 1 by rw [hwD.out]; simp)
    have ED := hide_it (EC.out.trans (alD.out.mono EC.out.size))
    have OD := hide_it (OC.out.below alD.out (by have := HSB.out; have := HSC.out; omega))
    have XD := hide_it (XC.out.later alD.out (Nat.le_refl _))
    have RD : Hid (wD.ownsRow gu 3 1 (.slice (some ⟨gu, 0, none⟩) r.2.2.length r.2.2.length) r.2.2.length (r.2.2.map (Value.int .i64))) := by
      exact ownsRow_below RC.out alD.out (fun j hj => (RC.out.lt j hj).2)
    have YD : Hid (RecAt wD wC.heap.size r.1 r.2.1 (.slice (some ⟨gu, 0, none⟩) r.2.2.length r.2.2.length)) := by show RecAt _ _ _ _ _; rw [hwD.out]; exact RecAt.new wC r.1 r.2.1 _ _
    have BD := hide_it (B4.out.trans (ED.out.mono hz4))
    have ReD : Hid (Recs wD (.slice (some ⟨g5, 0, none⟩) rs.length rs.length) rs) := by
      have := OD.out.recs; rw [HP5.out] at this; exact this
    clear x0o x1o x0 x1
    refine (HIM.out _ _ wD ReD.out (ints_of_row RD.out) (HA.out _ BD.out)).mono ?_
    rintro e wE ⟨a7, cap7, rfl, hm7, hbE⟩
    obtain ⟨ps7, hp7, ho7⟩ := hm7
    have HP7 := hide_it hp7
    have OE := hide_it ho7
    have EE := hide_it (ED.out.trans (hbE.mono ED.out.size))
    have OEx := hide_it (OD.out.below hbE (by have := HSB.out; have := HSC.out; have := HSD.out; omega))
    have XE := hide_it (XD.out.later hbE (Nat.le_refl _))
    have YE := hide_it (YD.out.later hbE (Nat.le_refl _))
    have RE := hide_it (ownsRow_below RD.out hbE (fun j hj => (RD.out.lt j hj).2))
    have HSE := hide_it hbE.size
    clear hp7 ho7 hbE
    obtain ⟨wF, hwF⟩ : ∃ W, Hid (W = wE.alloc (.cells #[.slice a7 RS.length cap7, .int .i64 F] 38)) := ⟨_, rfl⟩
    obtain ⟨z0, z1⟩ := Z4.out.later EE.out (Nat.le_refl _)
    have z0o := fun x => cellAlloc z0 x
    have z1o := fun x => cellAlloc z1 x
    have hlt6E : b6 < wE.heap.size := World.block_lt_of_cell? _ _ z0
    go_wp2_with fail
    rw [← hwF.out]
    have alF := hide_it (show Below wE.heap.size wE wF by rw [hwF.out]; exact alloc_below _ _)
    have HSF := hide_it (show wF.heap.size = wE.heap.size + 1 by rw [hwF.out]; simp)
    have SZ := hide_it (show wc.heap.size ≤ wA.heap.size ∧ wA.heap.size < wB.heap.size ∧ wB.heap.size ≤ wC.heap.size ∧ wC.heap.size < wD.heap.size ∧ wD.heap.size ≤ wE.heap.size ∧ wE.heap.size < wF.heap.size ∧ gu < wC.heap.size ∧ wB.heap.size ≤ gu ∧ wc.heap.size ≤ g5 by
      have h1 := EA.out.size; have h2 := HSB.out; have h3 := HSC.out; have h4 := HSD.out; have h5 := HSE.out; have h6 := HSF.out; have h7 := HGC.out; have h8 := hgu.out; have h9 := hg5.out
      omega)
    have EF := hide_it (EE.out.trans (alF.out.mono EE.out.size))
    have OF := hide_it (OE.out.below alF.out (Nat.le_refl _))
    have OFx := hide_it (OEx.out.below alF.out (by have := SZ.out; omega))
    have XF := hide_it (XE.out.later alF.out (Nat.le_refl _))
    have YF := hide_it (YE.out.later alF.out (Nat.le_refl _))
    have RF := hide_it (ownsRow_below RE.out alF.out (fun j hj => (RE.out.lt j hj).2))
    have GF : Hid (Two wF wE.heap.size (.slice a7 RS.length cap7) (.int .i64 F)) := by show Two _ _ _ _; rw [hwF.out]; exact box2 wE _ _ _
    have ReF : Hid (Recs wF (.slice a7 RS.length cap7) RS) := by
      have := OF.out.recs; rw [HP7.out] at this; exact this
    have VF := hide_it (V4.out.later EF.out (Nat.le_refl _))
    clear z0o z1o z0 z1
    refine (eqLog_any _ _ RS F wF ReF.out VF.out hRl).mono ?_
    rintro e wG ⟨rfl, hbG⟩
    have EG := hide_it (EF.out.trans (hbG.mono EF.out.size))
    have OG := hide_it (OF.out.below hbG (by have := SZ.out; omega))
    have OGx := hide_it (OFx.out.below hbG (by have := SZ.out; omega))
    have XG := hide_it (XF.out.later hbG (Nat.le_refl _))
    have YG := hide_it (YF.out.later hbG (Nat.le_refl _))
    have RG := hide_it (ownsRow_below RF.out hbG (fun j hj => (RF.out.lt j hj).2))
    have GG := hide_it (GF.out.later hbG (Nat.le_refl _))
    have DG := hide_it (DW.out.later EG.out (Nat.le_refl _))
    have HSG := hide_it hbG.size
    have hzG : w.heap.size ≤ wG.heap.size := Nat.le_trans hz4 EG.out.size
    have BG := hide_it (B4.out.trans (EG.out.mono hz4))
    have ReGx : Hid (Recs wG (.slice (some ⟨g5, 0, none⟩) rs.length rs.length) rs) := by
      have := OGx.out.recs; rw [HP5.out] at this; exact this
    clear hbG
    obtain ⟨⟨l0, l1⟩, ⟨q0, q1, q2⟩⟩ := DG.out
    obtain ⟨x0, x1⟩ := XG.out
    go_wp2_with fail
    go_region_held (fun w' => w'.cell? ⟨wA.heap.size, 0, none⟩ = some (.slice (some ⟨g5, 0, none⟩) rs.length rs.length) ∧ w'.cell? ⟨wA.heap.size, 1, none⟩ = some (.int .i64 f) ∧ w'.cell? ⟨w.heap.size, 0, none⟩ = some (.slice av rs.length cv) ∧ w'.cell? ⟨w.heap.size, 1, none⟩ = some (.int .i64 f)) (go_keep)
      (first
      | (go_at_call 15; refine (toLog_any _ rs f _ ?_ hl).mono ?_; exact (HV.out _ BG.out.drew); rintro e wH ⟨rfl, hmH, hbH⟩; have LH := hide_it (n_drew hbH); have yH := ReGx.out.later LH.out (Nat.le_refl _); have vH := hmH.recs; obtain ⟨xH0, xH1⟩ := XG.out.later LH.out (Nat.le_refl _); obtain ⟨⟨lH0, lH1⟩, -⟩ := DG.out.later LH.out (Nat.le_refl _); clear hbH hmH)
      | (go_at_call 17; refine (eqLog_any _ _ rs f _ ?_ ?_ hl).mono ?_; assumption; assumption; rintro e wI ⟨rfl, hbI⟩; have LI := hide_it (LH.out.trans (hbI.mono LH.out.size)); obtain ⟨xI0, xI1⟩ := XG.out.later LI.out (Nat.le_refl _); obtain ⟨⟨lI0, lI1⟩, -⟩ := DG.out.later LI.out (Nat.le_refl _); clear hbI))
    clear l0 l1 q0 q1 q2 x0 x1
    have EI := hide_it (EG.out.trans (LI.out.mono EG.out.size))
    have OI := hide_it (OG.out.below LI.out (by have := SZ.out; have := HSG.out; omega))
    have OIx := hide_it (OGx.out.below LI.out (by have := SZ.out; have := HSG.out; omega))
    have XI := hide_it (XG.out.later LI.out (Nat.le_refl _))
    have YI := hide_it (YG.out.later LI.out (Nat.le_refl _))
    have RI := hide_it (ownsRow_below RG.out LI.out (fun j hj => (RG.out.lt j hj).2))
    have GI := hide_it (GG.out.later LI.out (Nat.le_refl _))
    have DI := hide_it (DG.out.later LI.out (Nat.le_refl _))
    have HSI := hide_it (Nat.le_trans HSG.out LI.out.size)
    have BI := hide_it (B4.out.trans (EI.out.mono hz4))
    obtain ⟨-, ⟨q0, q1, q2⟩⟩ := DI.out
    obtain ⟨y0, y1, y2⟩ := YI.out
    have UI := hide_it (ints_of_row RI.out)
    go_wp2_with fail
    go_region_held (fun w' => w'.cell? ⟨wC.heap.size, 0, none⟩ = some (.int .i64 r.1) ∧ w'.cell? ⟨wC.heap.size, 1, none⟩ = some (.int .i64 r.2.1) ∧ w'.cell? ⟨wC.heap.size, 2, none⟩ = some (.slice (some ⟨gu, 0, none⟩) r.2.2.length r.2.2.length) ∧ w'.cell? ⟨w.heap.size + 1, 0, none⟩ = some (.int .i64 r.1) ∧ w'.cell? ⟨w.heap.size + 1, 1, none⟩ = some (.int .i64 r.2.1) ∧ w'.cell? ⟨w.heap.size + 1, 2, none⟩ = some (.slice au r.2.2.length cu)) (go_keep)
      (first
      | (go_at_call 10; refine (toRec_any r.1 r.2.1 _ r.2.2 _ ?_ hul).mono ?_; exact (HU.out _ BI.out.drew); rintro e wJ ⟨rfl, hownJ, hbJ⟩; have LJ := hide_it (n_drew hbJ); (try rw [size0d] at hownJ); have uJ := ints_of_row hownJ; have vJ := UI.out.later LJ.out (Nat.le_refl _); obtain ⟨yJ0, yJ1, yJ2⟩ := YI.out.later LJ.out (Nat.le_refl _); obtain ⟨-, ⟨qJ0, qJ1, qJ2⟩⟩ := DI.out.later LJ.out (Nat.le_refl _); clear hbJ hownJ)
      | (go_at_call 12; refine (eqRec_any _ _ _ _ r.2.2 _ ?_ ?_ hul).mono ?_; assumption; assumption; rintro e wK ⟨rfl, hbK⟩; have LK := hide_it (LJ.out.trans (hbK.mono LJ.out.size)); obtain ⟨yK0, yK1, yK2⟩ := YI.out.later LK.out (Nat.le_refl _); obtain ⟨-, ⟨qK0, qK1, qK2⟩⟩ := DI.out.later LK.out (Nat.le_refl _); clear hbK))
    clear q0 q1 q2 y0 y1 y2
    have EK := hide_it (EI.out.trans (LK.out.mono EI.out.size))
    have OK := hide_it (OI.out.below LK.out (by have := SZ.out; have := HSI.out; omega))
    have OKx := hide_it (OIx.out.below LK.out (by have := SZ.out; have := HSI.out; omega))
    have XK := hide_it (XI.out.later LK.out (Nat.le_refl _))
    have YK := hide_it (YI.out.later LK.out (Nat.le_refl _))
    have RK := hide_it (ownsRow_below RI.out LK.out (fun j hj => (RI.out.lt j hj).2))
    have GK := hide_it (GI.out.later LK.out (Nat.le_refl _))
    have HSK := hide_it (Nat.le_trans HSI.out LK.out.size)
    have HL5 : Hid (ps5.length = rs.length) := by have := congrArg List.length HP5.out; show _ = _; simpa using this
    have HL7 : Hid (ps7.length = RS.length) := by have := congrArg List.length HP7.out; show _ = _; simpa using this
    have hmk : Calls Tryd.prog 20 #[.agg #[.slice (some ⟨g5, 0, none⟩) rs.length rs.length, .int .i64 f], .int .i64 1] wK fun e w' => e = .returned (.int .i64 (kAt rs 1 rs.length)) ∧ Mid g5 wA.heap.size wK w' := by
      have h := markLog_any (.slice (some ⟨g5, 0, none⟩) rs.length rs.length) ps5 f 1 g5 wA.heap.size wK OKx.out (by rw [HP5.out]; exact hl) (by omega) (by omega)
      rw [HP5.out, HL5.out] at h
      refine h.mono ?_
      rintro e w' ⟨h1, -, h3⟩
      exact ⟨h1, h3⟩
    have HMK := hide_it hmk
    clear hmk
    obtain ⟨x0, x1⟩ := XK.out
    go_wp2_with fail
    refine HMK.out.mono ?_
    rintro e wL ⟨rfl, hML⟩
    have EL := hide_it (EK.out.trans (hML.below (by have := SZ.out; omega) EK.out.size))
    have OL := hide_it (OK.out.mid hML (by have := SZ.out; omega))
    have GL := hide_it (GK.out.mid hML (Or.inr (by have := SZ.out; omega)))
    have YL := hide_it (YK.out.mid hML (Or.inr (by have := SZ.out; omega)))
    have RL := hide_it (ownsRow_mid RK.out hML (fun k hk => Or.inr (by have := (RK.out.lt k hk).1; have := SZ.out; omega)))
    have HSL := hide_it (Nat.le_trans HSK.out hML.size)
    clear hML x0 x1
    obtain ⟨y0, y1, y2⟩ := YL.out
    go_wp2_with fail
    refine (markRec_any r.1 r.2.1 gu r.2.2.length r.2.2.length (kAt rs 1 rs.length) _ gu wL RL.out hul (by omega) (by omega)).mono ?_
    rintro e wM ⟨rfl, hMM⟩
    have EM := hide_it (EL.out.trans (hMM.below (by have := SZ.out; omega) EL.out.size))
    have OM := hide_it (OL.out.mid hMM (by have := SZ.out; omega))
    have GM := hide_it (GL.out.mid hMM (Or.inr (by have := SZ.out; omega)))
    have ZM := hide_it (Z4.out.later EM.out (Nat.le_refl _))
    have VM := hide_it (V4.out.later EM.out (Nat.le_refl _))
    have HSM := hide_it (Nat.le_trans HSL.out hMM.size)
    have ReM : Hid (Recs wM (.slice a7 RS.length cap7) RS) := by
      have := OM.out.recs; rw [HP7.out] at this; exact this
    clear hMM y0 y1 y2
    obtain ⟨g0, g1⟩ := GM.out
    obtain ⟨z0, z1⟩ := ZM.out
    have hKm : 0 ≤ kAt rs 1 rs.length + r.2.2.length := by omega
    go_wp2_with fail
    refine (eqLog_any _ _ RS F wM ReM.out VM.out hRl).mono ?_
    rintro e wN ⟨rfl, hbN⟩
    have EN := hide_it (EM.out.trans (hbN.mono EM.out.size))
    have ON := hide_it (OM.out.below hbN (by have := SZ.out; have := HSM.out; omega))
    have GN := hide_it (GM.out.later hbN (Nat.le_refl _))
    clear hbN g0 g1 z0 z1
    have hmk : Calls Tryd.prog 20 #[.agg #[.slice a7 RS.length cap7, .int .i64 F], .int .i64 1] wN fun e w' => e = .returned (.int .i64 (kAt RS 1 RS.length)) ∧ Recs w' (.slice a7 RS.length cap7) (markAll RS 1) ∧ Mid wD.heap.size wE.heap.size wN w' := by
      have h := markLog_any (.slice a7 RS.length cap7) ps7 F 1 wD.heap.size wE.heap.size wN ON.out (by rw [HP7.out]; exact hRl) (by omega) (by omega)
      refine h.mono ?_
      rintro e w' ⟨h1, h2, h3⟩
      refine ⟨?_, ?_, h3⟩
      · rw [h1, HP7.out, HL7.out]
      · have := h2.recs
        rw [stg_all, HP7.out] at this
        exact this
    have HMK2 := hide_it hmk
    clear hmk
    obtain ⟨g0, g1⟩ := GN.out
    go_wp2_with fail
    refine HMK2.out.mono ?_
    rintro e wO ⟨rfl, hRO, hMO⟩
    have EO := hide_it (EN.out.trans (hMO.below (show wc.heap.size ≤ wD.heap.size by have := SZ.out; omega) EN.out.size))
    have GO := hide_it (GN.out.mid hMO (Or.inr (Nat.le_refl _)))
    have RO := hide_it hRO
    clear hMO hRO g0 g1
    obtain ⟨g0, g1⟩ := GO.out
    go_wp2_with fail
    refine (heldLog_any _ RS F 1 wO RO.out hRl (by omega) (by omega)).mono ?_
    rintro e wP ⟨rfl, hbP⟩
    have EP := hide_it (EO.out.trans (hbP.mono EO.out.size))
    have GP := hide_it (GO.out.later hbP (Nat.le_refl _))
    have RP := hide_it (RO.out.later hbP (Nat.le_refl _))
    have DP := hide_it (DW.out.later EP.out (Nat.le_refl _))
    have BP := hide_it (B4.out.trans (EP.out.mono hz4))
    have hzP : w.heap.size ≤ wP.heap.size := BP.out.size
    clear hbP g0 g1
    obtain ⟨⟨l0, l1⟩, ⟨q0, q1, q2⟩⟩ := DP.out
    have hwP : w.heap.size + 1 < wP.heap.size := World.block_lt_of_cell? _ _ q0
    go_wp2_with fail
    go_cut [15, 16] (fun p b W => ∃ b7 a17 cap17, p = .pointer (some ⟨b7, 0, none⟩) ∧ b = .bool BB ∧ Hid (Met wP W w.heap.size b7 (.slice av rs.length cv) f r (.slice au r.2.2.length cu) (.slice a17 RS.length cap17) F RS))
    case first =>
      go_region_held (fun w' => w'.cell? ⟨w.heap.size, 0, none⟩ = some (.slice av rs.length cv) ∧ w'.cell? ⟨w.heap.size, 1, none⟩ = some (.int .i64 f) ∧ w'.cell? ⟨w.heap.size + 1, 0, none⟩ = some (.int .i64 r.1) ∧ w'.cell? ⟨w.heap.size + 1, 1, none⟩ = some (.int .i64 r.2.1) ∧ w'.cell? ⟨w.heap.size + 1, 2, none⟩ = some (.slice au r.2.2.length cu)) (first | (go_keep; done) | (refine ⟨(set2 _ _ _ _ ?_).trans ?_, (set2 _ _ _ _ ?_).trans ?_, (set2 _ _ _ _ ?_).trans ?_, (set2 _ _ _ _ ?_).trans ?_, (set2 _ _ _ _ ?_).trans ?_⟩ <;> first | omega | assumption))
        (first
        | (go_at_call 15; refine (toLog_any _ rs f _ ?_ hl).mono ?_; (first | (with_reducible exact (HV.out _ BP.out.drew)) | exact (HV.out _ (BP.out.alloc hzP _).drew)); rintro e wQ ⟨rfl, hm3, hb3⟩; have N3' : Hid (Below wP.heap.size wP wQ) := (by first | (with_reducible exact hide_it (n_drew hb3)) | (with_reducible exact hide_it (n_alloc_drew hb3))); (try (with_reducible have Zc := hide_it (z_alloc_drew hb3))); (try rw [size1d] at hm3); (try rw [size0d] at hm3); have V3' := hide_it hm3.recs; have D3' := hide_it (DP.out.later N3'.out (Nat.le_refl _)); obtain ⟨⟨l30, l31⟩, ⟨q30, q31, q32⟩⟩ := D3'.out; have B3' := hide_it (BP.out.trans (N3'.out.mono hzP)); have hz3' := B3'.out.size; have hs3' := N3'.out.size; clear hm3 hb3)
        | (go_at_call 10; refine (toRec_any r.1 r.2.1 _ r.2.2 _ ?_ hul).mono ?_; (first | (with_reducible exact HU.out _ B3'.out) | exact (HU.out _ (B3'.out.alloc hz3' _))); rintro e wR ⟨rfl, hown4, hb4⟩; have N4' : Hid (Below wQ.heap.size wQ wR) := (by first | (with_reducible exact hide_it hb4) | (with_reducible exact hide_it (below_after hb4))); (first | (with_reducible have Zc := hide_it (Zc.out.later N4'.out (Nat.le_refl _))) | (with_reducible have Zc := hide_it (z_alloc hb4)) | skip); (try rw [size1] at hown4); have U4' := hide_it (ints_of_row hown4); have V4' := hide_it (V3'.out.later N4'.out (Nat.le_refl _)); have D4' := hide_it (D3'.out.later N4'.out (Nat.le_refl _)); obtain ⟨⟨l40, l41⟩, ⟨q40, q41, q42⟩⟩ := D4'.out; have B4' := hide_it (B3'.out.trans (N4'.out.mono hz3')); have hz4' := B4'.out.size; have hs4' := N4'.out.size; clear hown4 hb4)
        | (go_at_call 19; refine (HIM.out _ _ _ ?_ ?_ ?_).mono ?_; (first | (with_reducible exact V4'.out) | (with_reducible exact (V4'.out.later (alloc_below _ _) (Nat.le_refl _))) | exact V4'.out | exact (V4'.out.later (alloc_below _ _) (Nat.le_refl _))); (first | (with_reducible exact U4'.out) | (with_reducible exact (U4'.out.later (alloc_below _ _) (Nat.le_refl _))) | exact U4'.out | exact (U4'.out.later (alloc_below _ _) (Nat.le_refl _))); (first | (with_reducible exact (HA.out _ B4'.out)) | exact (HA.out _ (B4'.out.alloc hz4' _))); rintro e wS ⟨a17, cap17, rfl, hm5, hb5⟩; have N5' : Hid (Below wR.heap.size wR wS) := (by first | (with_reducible exact hide_it hb5) | (with_reducible exact hide_it (below_after hb5))); (first | (with_reducible have Zc := hide_it (Zc.out.later N5'.out (Nat.le_refl _))) | (with_reducible have Zc := hide_it (z_alloc hb5)) | skip); have M5' := hide_it hm5; have D5' := hide_it (D4'.out.later N5'.out (Nat.le_refl _)); obtain ⟨⟨l50, l51⟩, ⟨q50, q51, q52⟩⟩ := D5'.out; (try obtain ⟨y0, y1, y2, y3⟩ := Zc.out.cells); have B5' := hide_it (B4'.out.trans (N5'.out.mono hz4')); have hs5' := N5'.out.size; have C5' := hide_it ((N3'.out.trans (N4'.out.mono hs3')).trans (N5'.out.mono (Nat.le_trans hs3' hs4'))); clear hm5 hb5))
      all_goals
        go_wp2_with fail
        go_meet
        case rel => first | exact ⟨_, a17, cap17, rfl, rfl, hide_it (met_new C5'.out D5'.out M5'.out)⟩ | exact ⟨_, a17, cap17, rfl, rfl, hide_it (met_set C5'.out D5'.out M5'.out Zc.out (by omega) hwP)⟩
    case rest =>
      obtain ⟨b7, a17, cap17, rfl, rfl, HMET⟩ := hcut
      have EW := hide_it (EP.out.trans (HMET.out.1.mono EP.out.size))
      have HT := hide_it HMET.out.2.2.1
      have VT := hide_it HMET.out.2.2.2.1
      have GT := hide_it (GP.out.later HMET.out.1 (Nat.le_refl _))
      have RT := hide_it (RP.out.later HMET.out.1 (Nat.le_refl _))
      have ZT := hide_it (Z4.out.later EW.out (Nat.le_refl _))
      have YT := hide_it (V4.out.later EW.out (Nat.le_refl _))
      clear HMET l0 l1 q0 q1 q2
      obtain ⟨h0, h1⟩ := HT.out
      obtain ⟨z0, z1⟩ := ZT.out
      go_wp2_with fail
      refine (eqLog_any _ _ RS F _ VT.out YT.out hRl).mono ?_
      rintro e wU ⟨rfl, hbU⟩
      have EU := hide_it (EW.out.trans (hbU.mono EW.out.size))
      have GU := hide_it (GT.out.later hbU (Nat.le_refl _))
      have RU := hide_it (RT.out.later hbU (Nat.le_refl _))
      clear hbU h0 h1 z0 z1
      obtain ⟨g0, g1⟩ := GU.out
      go_wp2_with fail
      refine (heldLog_any _ RS F 1 wU RU.out hRl (by omega) (by omega)).mono ?_
      rintro e wV ⟨rfl, hbV⟩
      have BV := hide_it (B4.out.trans ((EU.out.trans (hbV.mono EU.out.size)).mono hz4))
      clear hbV g0 g1
      go_wp2
      go_ret
      exact ⟨rfl, BV.out⟩

end Go.Proofs.YtkhkepepkobidaaDoor
