/- The law FnExactStockDo, walked: at every stock and record it answers true, and nothing that was there before has turned. In a world in which the sentinel's variable holds a pointer to an errors.errorString. -/
import Derived.Test.YtpnhcmjdjekleaaDoorKPr
namespace Go.Proofs.YtpnhcmjdjekleaaDoor
open Go.RowKit

/-- The numbers of a record are marked. -/
theorem markRec_any (k t : Int) (g n cap : Nat) (q : Int) (xs : List Value) (lo : Nat) (w : World) (hv : w.ownsRow lo 3 1 (.slice (some ⟨g, 0, none⟩) n cap) n xs) (hn : n ≤ 1048576) (hk0 : 0 ≤ q) (hk1 : q ≤ 1000000000) :
    Calls Tryd.prog 17 #[.agg #[.int .i64 k, .int .i64 t, .slice (some ⟨g, 0, none⟩) n cap], .int .i64 q] w fun e w' => e = .returned (.int .i64 (q + n)) ∧ Mid g (g + 1) w w' := by
  have HS : Hid (∀ o, Calls Tryd.prog 38 #[.slice (some ⟨g, 0, none⟩) n cap, .int .i64 q] (w.alloc o) fun e w' => e = .returned (.int .i64 (q + n)) ∧ Mid g (g + 1) w w') := fun o => by
    refine (markInts_any _ xs q lo n (w.alloc o) (hv.alloc o) hn hk0 hk1).mono ?_
    rintro e w' ⟨h1, _, h3⟩
    exact ⟨h1, (Mid.of_below (al_below w o) (Nat.le_refl _)).trans (Mid.of_grown h3 (fun k hk => by simp [Value.ownBlock] at hk; omega))⟩
  clear hv
  go_enter Tryd.func17, Tryd.ntmps17
  go_wp2_with (go_at_call 38; refine (HS.out _).mono ?_; rintro e w1 ⟨rfl, h3⟩)
  go_ret
  exact ⟨rfl, by assumption⟩

theorem lawDo_great1 (room : Int) (av : Option Addr) (n cv : Nat) (k t : Int) (au : Option Addr) (m cu : Nat) (w : World) (hl : (n : Int) ≤ 9223372036854775807) (hg : 1048576 < (n : Int)) :
    Calls Tryd.prog 4 #[.agg #[.int .i64 room, .slice av n cv], .agg #[.int .i64 k, .int .i64 t, .slice au m cu]] w fun e w' => e = .returned (.bool true) ∧ Below w.heap.size w w' := by
  go_enter Tryd.func4, Tryd.ntmps4
  go_wp2_with fail
  refine (sz_stock_neg room av n cv _ hl hg).mono ?_
  rintro e w1 ⟨rfl, hb⟩
  have HB := hide_it ((below2 w _ _).trans (hb.mono (by simp; omega)))
  clear hb
  go_wp2
  go_ret
  exact ⟨rfl, HB.out⟩

theorem lawDo_great2 (room : Int) (av : Option Addr) (n cv : Nat) (k t : Int) (au : Option Addr) (m cu : Nat) (w : World) (hl : (m : Int) ≤ 9223372036854775807) (hn : n ≤ 1048576) (hg : 1048576 < (n : Int) + m) :
    Calls Tryd.prog 4 #[.agg #[.int .i64 room, .slice av n cv], .agg #[.int .i64 k, .int .i64 t, .slice au m cu]] w fun e w' => e = .returned (.bool true) ∧ Below w.heap.size w w' := by
  have HD := hide_it (Pr.new w room (.slice av n cv) k t (.slice au m cu) 24 27)
  go_enter Tryd.func4, Tryd.ntmps4
  go_wp2_with fail
  refine (sz_stock_pos room av n cv _ hn).mono ?_
  rintro e w1 ⟨rfl, hb⟩
  have HB := hide_it ((below2 w _ _).trans (hb.mono (by simp; omega)))
  obtain ⟨⟨l0, l1⟩, ⟨q0, q1, q2⟩⟩ := HD.out.later hb (Nat.le_refl _)
  clear hb
  go_wp2_with fail
  refine (sz_rec_neg k t au n m cu _ hl hn hg).mono ?_
  rintro e w2 ⟨rfl, hb2⟩
  have HB2 := hide_it (HB.out.trans (hb2.mono HB.out.size))
  clear hb2
  go_wp2
  go_ret
  exact ⟨rfl, HB2.out⟩

/-- A stock's block as it was laid. -/
def ZBs (w : World) (b : Nat) : Prop := w.heap[b]? = some (.cells #[.int .i64 0, .slice none 0 0] 33 (0, 0))
theorem ZBs.new (w : World) : ZBs (w.alloc (.cells #[.int .i64 0, .slice none 0 0] 33)) w.heap.size := heap_alloc_new w _
theorem ZBs.lt {w : World} {b : Nat} (h : ZBs w b) : b < w.heap.size := by
  unfold ZBs at h
  by_cases e : b < w.heap.size
  · exact e
  · rw [Array.getElem?_eq_none (by omega)] at h; cases h
theorem ZBs.later {w w' : World} {b L : Nat} (h : ZBs w b) (hb : Below L w w') (hL : w.heap.size ≤ L) : ZBs w' b := by
  have := h.lt
  unfold ZBs at *
  rw [hb.block b (by omega)]; exact h
theorem ZBs.cells {w : World} {b : Nat} (h : ZBs w b) : w.cell? ⟨b, 0, none⟩ = some (.int .i64 0) ∧ w.cell? ⟨b, 1, none⟩ = some (.slice none 0 0) ∧ w.frozen? ⟨b, 0, none⟩ = false ∧ w.frozen? ⟨b, 1, none⟩ = false := by
  refine ⟨?_, ?_, frozen_of_row w _ _ _ _ h, frozen_of_row w _ _ _ _ h⟩
  · rw [cell_of_row w _ _ _ _ _ h]; rfl
  · rw [cell_of_row w _ _ _ _ _ h]; rfl
theorem k_alloc_drew {w2 w3 : World} {o : Obj} (hb : Below (w2.alloc o).drew.heap.size (w2.alloc o).drew w3) : Below w2.heap.size w2 w3 := ((Below.refl w2.heap.size w2).alloc (Nat.le_refl _) o).drew.trans (hb.mono (by show w2.heap.size ≤ (w2.alloc o).heap.size; simp))
theorem k_size1d (w : World) (o : Obj) : (w.alloc o).drew.heap.size = w.heap.size + 1 := by show (w.alloc o).heap.size = _; simp
theorem zs_alloc_drew {w2 w3 : World} (hb : Below (w2.alloc (.cells #[.int .i64 0, .slice none 0 0] 33)).drew.heap.size (w2.alloc (.cells #[.int .i64 0, .slice none 0 0] 33)).drew w3) : ZBs w3 w2.heap.size := ((ZBs.new w2).later (Below.refl _ _).drew (Nat.le_refl _)).later hb (Nat.le_refl _)
theorem zs_alloc {w2 w3 : World} (hb : Below (w2.alloc (.cells #[.int .i64 0, .slice none 0 0] 33)).heap.size (w2.alloc (.cells #[.int .i64 0, .slice none 0 0] 33)) w3) : ZBs w3 w2.heap.size := (ZBs.new w2).later hb (Nat.le_refl _)

theorem holdrow_ne {w : World} {base n b : Nat} {v : Value} {xs : List Value} {cs : Array Value} {ty : TypeId} (hr : w.ownsRow base 59 2 v n xs) (hz : w.heap[b]? = some (.cells cs ty (0, 0))) (hty : ty ≠ 59) : ∀ k, v.ownBlock = some k → k < b ∨ b + 1 ≤ k := by
  intro k hk
  have hne : k ≠ b := by
    intro e
    subst e
    rcases hr.2 with ⟨hv, _⟩ | ⟨g', cap, cur', hv, _, h2, _⟩
    · rw [hv] at hk; simp [Value.ownBlock] at hk
    · rw [hv] at hk
      simp [Value.ownBlock] at hk
      subst hk
      rw [hz] at h2
      simp at h2
      exact hty h2.2
  omega

theorem kset2 (w : World) (b2 : Nat) (x y : Value) {b o : Nat} (h : b ≠ b2) : ((w.setCell ⟨b2, 0, none⟩ x).setCell ⟨b2, 1, none⟩ y).cell? ⟨b, o, none⟩ = w.cell? ⟨b, o, none⟩ := by
  rw [World.cell?_of_block (w := w.setCell ⟨b2, 0, none⟩ x) (a := ⟨b, o, none⟩) (Below.heap_setCell _ _ _ _ h), World.cell?_of_block (w := w) (a := ⟨b, o, none⟩) (Below.heap_setCell _ _ _ _ h)]

theorem kcellAlloc {w : World} {b o : Nat} {v : Value} (h : w.cell? ⟨b, o, none⟩ = some v) (x : Obj) : (w.alloc x).cell? ⟨b, o, none⟩ = some v := by
  rw [← h]
  exact ((Below.refl w.heap.size w).alloc (Nat.le_refl _) x).cell (p := ⟨b, o, none⟩) (World.block_lt_of_cell? _ _ h)

/-- What is known when a stock has come back and lies in a block of the law's own. -/
def MetS (w W : World) (B b : Nat) (room : Int) (v : Value) (k t : Int) (u : Value) (x : Value) (RR : Int) (HS : List Pl.H) : Prop :=
  Below w.heap.size w W ∧ Pr W B room v k t u ∧ Duo W b (.int .i64 RR) x ∧ Holds W x HS ∧ w.heap.size ≤ b

theorem mets_set {w w5 : World} {B lo b6 n cap5 : Nat} {a5 : Option Addr} {room : Int} {v : Value} {k t RR : Int} {u : Value} {HS : List Pl.H} (B5 : Below w.heap.size w w5) (D5 : Pr w5 B room v k t u) (hn : n = HS.length) (M5 : w5.ownsRow lo 59 2 (.slice a5 n cap5) n (hflat HS)) (hz : ZBs w5 b6) (hb6 : w.heap.size ≤ b6) (hB : B + 1 < w.heap.size) :
    MetS w ((w5.setCell ⟨b6, 0, none⟩ (.int .i64 RR)).setCell ⟨b6, 1, none⟩ (.slice a5 n cap5)) B b6 room v k t u (.slice a5 n cap5) RR HS := by
  have h2 := heap_setCell_same w5 b6 0 _ _ (.int .i64 RR) hz
  have h3 := heap_setCell_same _ b6 1 _ _ (.slice a5 n cap5) h2
  refine ⟨(B5.setCell (by show w.heap.size ≤ b6; omega) _).setCell (by show w.heap.size ≤ b6; omega) _, ?_, ?_, ?_, hb6⟩
  · obtain ⟨⟨d0, d1⟩, ⟨d2, d3, d4⟩⟩ := D5
    exact ⟨⟨(kset2 _ _ _ _ (by omega)).trans d0, (kset2 _ _ _ _ (by omega)).trans d1⟩, ⟨(kset2 _ _ _ _ (by omega)).trans d2, (kset2 _ _ _ _ (by omega)).trans d3, (kset2 _ _ _ _ (by omega)).trans d4⟩⟩
  · exact ⟨by rw [cell_of_row _ _ _ _ _ _ h3]; rfl, by rw [cell_of_row _ _ _ _ _ _ h3]; rfl⟩
  · have r1 := ownsRow_mid M5 (setCell_mid w5 b6 0 (.int .i64 RR)) (holdrow_ne M5 hz (by decide))
    have r2 := ownsRow_mid r1 (setCell_mid _ b6 1 (.slice a5 n cap5)) (holdrow_ne M5 hz (by decide))
    subst hn
    exact holds_of_row r2

theorem mets_new {w w5 : World} {B lo n cap5 : Nat} {a5 : Option Addr} {room : Int} {v : Value} {k t RR : Int} {u : Value} {HS : List Pl.H} (B5 : Below w.heap.size w w5) (D5 : Pr w5 B room v k t u) (hn : n = HS.length) (M5 : w5.ownsRow lo 59 2 (.slice a5 n cap5) n (hflat HS)) :
    MetS w (w5.alloc (.cells #[.int .i64 RR, .slice a5 n cap5] 33)) B w5.heap.size room v k t u (.slice a5 n cap5) RR HS := by
  refine ⟨B5.alloc B5.size _, D5.later (al_below _ _) (Nat.le_refl _), Duo.new w5 _ _ _, ?_, B5.size⟩
  subst hn
  exact holds_of_row (M5.alloc _)

set_option maxRecDepth 100000 in
set_option maxHeartbeats 16000000 in
theorem lawDo_small (room : Int) (v : Value) (hs : List Pl.H) (k t : Int) (u : Value) (zs : List Int) (a : Addr) (w : World) (hv : Holds w v hs) (hu : Ints w u zs) (ha : ErrAt w a) (hlt : hs.length + zs.length ≤ 1048576) :
    Calls Tryd.prog 4 #[.agg #[.int .i64 room, v], .agg #[.int .i64 k, .int .i64 t, u]] w fun e w' => e = .returned (.bool true) ∧ Below w.heap.size w w' := by
  have hl : hs.length ≤ 1048576 := by omega
  have hzl : zs.length ≤ 1048576 := by omega
  have HV : Hid (∀ W, Below w.heap.size w W → Holds W v hs) := fun W h => hv.later h (Nat.le_refl _)
  have HU : Hid (∀ W, Below w.heap.size w W → Ints W u zs) := fun W h => hu.later h (Nat.le_refl _)
  have HA : Hid (∀ W, Below w.heap.size w W → ErrAt W a) := fun W h => ha.later h (Nat.le_refl _)
  obtain ⟨RR, hRR⟩ : ∃ x, oR room (Pl.sDo room hs k t zs) = x := ⟨_, rfl⟩
  obtain ⟨HS, hHS⟩ : ∃ x, oH (Pl.sDo room hs k t zs) = x := ⟨_, rfl⟩
  obtain ⟨BB, hBB⟩ : ∃ x, (Pl.sDo room hs k t zs).isSome = x := ⟨_, rfl⟩
  have hRl : HS.length ≤ 1048576 := by
    rw [← hHS]
    cases hd : Pl.sDo room hs k t zs with
    | none => simp [oH]
    | some x => simp only [oH, Option.getD_some]; rw [Pl.sDo_len hd]; exact hl
  have HSP : Hid (∀ (x y : Value) (W : World), Holds W x hs → Ints W y zs → Calls Tryd.prog 14 #[.agg #[.int .i64 room, x], .agg #[.int .i64 k, .int .i64 t, y]] W fun e w' => StOut W w' e RR HS BB) := fun x y W h1 h2 => by rw [← hRR, ← hHS, ← hBB]; exact specDo_any room x hs k t y zs W h1 hl h2 hzl
  have HIM : Hid (∀ (x y : Value) (W : World), Holds W x hs → Ints W y zs → ErrAt W a → Calls Tryd.prog 15 #[.agg #[.int .i64 room, x], .agg #[.int .i64 k, .int .i64 t, y]] W fun e w' => StOut W w' e RR HS BB) := fun x y W h1 h2 h3 => by rw [← hRR, ← hHS, ← hBB]; exact implDo_any room x hs k t y zs a W h1 hl h2 hzl h3
  obtain ⟨av, cv, rfl⟩ := hv.shape
  obtain ⟨au, cu, rfl⟩ := hu.shape
  have HD := hide_it (Pr.new w room (.slice av hs.length cv) k t (.slice au zs.length cu) 24 27)
  clear hv hu ha hRR hHS hBB
  go_enter Tryd.func4, Tryd.ntmps4
  go_wp2_with fail
  refine (sz_stock_pos room av hs.length cv _ hl).mono ?_
  rintro e w1 ⟨rfl, hb1⟩
  have B1 := hide_it ((below2 w _ _).trans (hb1.mono (by simp; omega)))
  have D1 := hide_it (HD.out.later hb1 (Nat.le_refl _))
  clear hb1
  obtain ⟨⟨l0, l1⟩, ⟨q0, q1, q2⟩⟩ := D1.out
  go_wp2_with fail
  refine (sz_rec_pos k t au hs.length zs.length cu _ hlt).mono ?_
  rintro e w2 ⟨rfl, hb2⟩
  have B2 := hide_it (B1.out.trans (hb2.mono B1.out.size))
  have D2 := hide_it (D1.out.later hb2 (Nat.le_refl _))
  have hzzA : w.heap.size ≤ w2.heap.size := B2.out.size
  clear hb2 l0 l1 q0 q1 q2
  obtain ⟨⟨l0, l1⟩, ⟨q0, q1, q2⟩⟩ := D2.out
  have hw2 : w.heap.size + 1 < w2.heap.size := World.block_lt_of_cell? _ _ q0
  -- w0
  go_wp2_with fail
  go_cut [6, 7] (fun p b W => ∃ b6 a5 cap5, p = .pointer (some ⟨b6, 0, none⟩) ∧ b = .bool BB ∧ Hid (MetS w2 W w.heap.size b6 room (.slice av hs.length cv) k t (.slice au zs.length cu) (.slice a5 HS.length cap5) RR HS))
  case first =>
    go_region_held (fun w' => w'.cell? ⟨w.heap.size, 0, none⟩ = some (.int .i64 room) ∧ w'.cell? ⟨w.heap.size, 1, none⟩ = some (.slice av hs.length cv) ∧ w'.cell? ⟨w.heap.size + 1, 0, none⟩ = some (.int .i64 k) ∧ w'.cell? ⟨w.heap.size + 1, 1, none⟩ = some (.int .i64 t) ∧ w'.cell? ⟨w.heap.size + 1, 2, none⟩ = some (.slice au zs.length cu)) (first | (go_keep; done) | (refine ⟨(kset2 _ _ _ _ ?_).trans ?_, (kset2 _ _ _ _ ?_).trans ?_, (kset2 _ _ _ _ ?_).trans ?_, (kset2 _ _ _ _ ?_).trans ?_, (kset2 _ _ _ _ ?_).trans ?_⟩ <;> first | omega | assumption))
      (first
      | (go_at_call 9; refine (toStock_any room _ hs _ ?_ hl).mono ?_; (first | (with_reducible exact (HV.out _ B2.out.drew)) | exact (HV.out _ (B2.out.alloc hzzA _).drew)); rintro e wq3A ⟨rfl, ho3, hb3⟩; have N3A : Hid (Below w2.heap.size w2 wq3A) := (by first | (with_reducible exact hide_it (k_drew hb3)) | (with_reducible exact hide_it (k_alloc_drew hb3))); (try (with_reducible have ZbA := hide_it (zs_alloc_drew hb3))); (try rw [k_size1d] at ho3); (try rw [k_size0] at ho3); have V3A := hide_it (holds_of_row ho3); have D3A := hide_it (D2.out.later N3A.out (Nat.le_refl _)); obtain ⟨⟨l30, l31⟩, ⟨q30, q31, q32⟩⟩ := D3A.out; have B3A := hide_it (B2.out.trans (N3A.out.mono hzzA)); have hz3A := B3A.out.size; have hs3A := N3A.out.size; clear ho3 hb3)
      | (go_at_call 10; refine (toRec_any k t _ zs _ ?_ hzl).mono ?_; (first | (with_reducible exact HU.out _ B3A.out) | exact (HU.out _ (B3A.out.alloc hz3A _))); rintro e wq4A ⟨rfl, ho4, hb4⟩; have N4A : Hid (Below wq3A.heap.size wq3A wq4A) := (by first | (with_reducible exact hide_it hb4) | (with_reducible exact hide_it (al_after hb4))); (first | (with_reducible have ZbA := hide_it (ZbA.out.later N4A.out (Nat.le_refl _))) | (with_reducible have ZbA := hide_it (zs_alloc hb4)) | skip); (try rw [World.size_alloc] at ho4); have U4A := hide_it (ints_of_row ho4); have V4A := hide_it (V3A.out.later N4A.out (Nat.le_refl _)); have D4A := hide_it (D3A.out.later N4A.out (Nat.le_refl _)); obtain ⟨⟨l40, l41⟩, ⟨q40, q41, q42⟩⟩ := D4A.out; have B4A := hide_it (B3A.out.trans (N4A.out.mono hz3A)); have hz4A := B4A.out.size; have hs4A := N4A.out.size; clear ho4 hb4)
      | (go_at_call 14; refine (HSP.out _ _ _ ?_ ?_).mono ?_; (first | (with_reducible exact V4A.out) | (with_reducible exact (V4A.out.later (al_below _ _) (Nat.le_refl _))) | exact V4A.out | exact (V4A.out.later (al_below _ _) (Nat.le_refl _))); (first | (with_reducible exact U4A.out) | (with_reducible exact (U4A.out.later (al_below _ _) (Nat.le_refl _))) | exact U4A.out | exact (U4A.out.later (al_below _ _) (Nat.le_refl _))); rintro e wq5A ⟨a5, cap5, rfl, hm5, hb5⟩; have N5A : Hid (Below wq4A.heap.size wq4A wq5A) := (by first | (with_reducible exact hide_it hb5) | (with_reducible exact hide_it (al_after hb5))); (first | (with_reducible have ZbA := hide_it (ZbA.out.later N5A.out (Nat.le_refl _))) | (with_reducible have ZbA := hide_it (zs_alloc hb5)) | skip); have M5A := hide_it hm5; have D5A := hide_it (D4A.out.later N5A.out (Nat.le_refl _)); obtain ⟨⟨l50, l51⟩, ⟨q50, q51, q52⟩⟩ := D5A.out; (try obtain ⟨y0, y1, y2, y3⟩ := ZbA.out.cells); have hs5A := N5A.out.size; have C5A := hide_it ((N3A.out.trans (N4A.out.mono hs3A)).trans (N5A.out.mono (Nat.le_trans hs3A hs4A))); clear hm5 hb5))
    all_goals
      go_wp2_with fail
      go_meet
      case rel => first | exact ⟨_, a5, cap5, rfl, rfl, hide_it (mets_new C5A.out D5A.out rfl M5A.out)⟩ | exact ⟨_, a5, cap5, rfl, rfl, hide_it (mets_set C5A.out D5A.out rfl M5A.out ZbA.out (by omega) hw2)⟩
  case rest =>
    obtain ⟨b6, a5, cap5, rfl, rfl, HMET⟩ := hcut
    have CW := hide_it HMET.out.1
    have DW := hide_it HMET.out.2.1
    have Z4 := hide_it HMET.out.2.2.1
    have V4 := hide_it HMET.out.2.2.2.1
    have B4 := hide_it (B2.out.trans (CW.out.mono hzzA))
    have hz4 : w.heap.size ≤ wc.heap.size := B4.out.size
    clear HMET CW l0 l1 q0 q1 q2 hw2
    obtain ⟨⟨l0, l1⟩, ⟨q0, q1, q2⟩⟩ := DW.out
    -- x0
    go_wp2_with fail
    refine (toStock_any room _ hs wc (HV.out _ B4.out) hl).mono ?_
    rintro e wA ⟨rfl, hoA, hbA⟩
    obtain ⟨g5, hg5⟩ : ∃ g, Hid (g = wc.heap.size + 3) := ⟨_, rfl⟩
    rw [← hg5.out] at hoA ⊢
    have OA := hide_it hoA
    have EA := hide_it hbA
    have HG5 := hide_it (hoA.lt g5 rfl).2
    clear hoA hbA l0 l1 q0 q1 q2
    obtain ⟨wB, hwB⟩ : ∃ W, Hid (W = wA.alloc (.cells #[.int .i64 room, .slice (some ⟨g5, 0, none⟩) hs.length hs.length] 33)) := ⟨_, rfl⟩
    have DA := hide_it (DW.out.later EA.out (Nat.le_refl _))
    obtain ⟨⟨l0, l1⟩, ⟨q0, q1, q2⟩⟩ := DA.out
    have q0o := fun x => kcellAlloc q0 x
    have q1o := fun x => kcellAlloc q1 x
    have q2o := fun x => kcellAlloc q2 x
    have hltA : w.heap.size + 1 < wA.heap.size := World.block_lt_of_cell? _ _ q0
    -- x1
    go_wp2_with fail
    rw [← hwB.out]
    have alB := hide_it (show Below wA.heap.size wA wB by rw [hwB.out]; exact al_below _ _)
    have HSB := hide_it (show wB.heap.size = wA.heap.size + 1 by rw [hwB.out]; simp)
    have EB := hide_it (EA.out.trans (alB.out.mono EA.out.size))
    have OB := hide_it (ownsRow_below OA.out alB.out (fun j hj => (OA.out.lt j hj).2))
    have XB : Hid (Duo wB wA.heap.size (.int .i64 room) (.slice (some ⟨g5, 0, none⟩) hs.length hs.length)) := by show Duo _ _ _ _; rw [hwB.out]; exact Duo.new wA _ _ _
    have BB' := hide_it (B4.out.trans (EB.out.mono hz4))
    clear q0o q1o q2o l0 l1 q0 q1 q2
    refine (toRec_any k t _ zs wB (HU.out _ BB'.out) hzl).mono ?_
    rintro e wC ⟨rfl, hownC, hbC⟩
    obtain ⟨gu, hgu⟩ : ∃ g, Hid (g = wB.heap.size + 3) := ⟨_, rfl⟩
    rw [← hgu.out] at hownC ⊢
    have RC := hide_it hownC
    have HSC := hide_it hbC.size
    have EC := hide_it (EB.out.trans (hbC.mono EB.out.size))
    have OC := hide_it (ownsRow_below OB.out hbC (fun j hj => (OB.out.lt j hj).2))
    have XC := hide_it (XB.out.later hbC (Nat.le_refl _))
    have hguC : gu < wC.heap.size := (hownC.lt gu rfl).2
    have HGC := hide_it hguC
    clear hownC hbC hguC
    obtain ⟨wD, hwD⟩ : ∃ W, Hid (W = wC.alloc (.cells #[.int .i64 k, .int .i64 t, .slice (some ⟨gu, 0, none⟩) zs.length zs.length] 35)) := ⟨_, rfl⟩
    obtain ⟨x0, x1⟩ := XC.out
    have x0o := fun x => kcellAlloc x0 x
    have x1o := fun x => kcellAlloc x1 x
    have hltC : wA.heap.size < wC.heap.size := World.block_lt_of_cell? _ _ x0
    -- g0
    go_wp2_with fail
    rw [← hwD.out]
    have alD := hide_it (show Below wC.heap.size wC wD by rw [hwD.out]; exact al_below _ _)
    have HSD := hide_it (show wD.heap.size = wC.heap.size + 1 by rw [hwD.out]; simp)
    have ED := hide_it (EC.out.trans (alD.out.mono EC.out.size))
    have OD := hide_it (ownsRow_below OC.out alD.out (fun j hj => (OC.out.lt j hj).2))
    have XD := hide_it (XC.out.later alD.out (Nat.le_refl _))
    have RD := hide_it (ownsRow_below RC.out alD.out (fun j hj => (RC.out.lt j hj).2))
    have YD : Hid (RecAt wD wC.heap.size k t (.slice (some ⟨gu, 0, none⟩) zs.length zs.length)) := by show RecAt _ _ _ _ _; rw [hwD.out]; exact RecAt.new wC k t _ _
    have BD := hide_it (B4.out.trans (ED.out.mono hz4))
    clear x0o x1o x0 x1
    refine (HIM.out _ _ wD (holds_of_row OD.out) (ints_of_row RD.out) (HA.out _ BD.out)).mono ?_
    rintro e wE ⟨a7, cap7, rfl, hm7, hbE⟩
    have OE := hide_it hm7
    have EE := hide_it (ED.out.trans (hbE.mono ED.out.size))
    have OEx := hide_it (ownsRow_below OD.out hbE (fun j hj => (OD.out.lt j hj).2))
    have XE := hide_it (XD.out.later hbE (Nat.le_refl _))
    have YE := hide_it (YD.out.later hbE (Nat.le_refl _))
    have RE := hide_it (ownsRow_below RD.out hbE (fun j hj => (RD.out.lt j hj).2))
    have HSE := hide_it hbE.size
    have LTE := hide_it (fun j hj => hm7.lt j hj)
    clear hm7 hbE
    obtain ⟨wF, hwF⟩ : ∃ W, Hid (W = wE.alloc (.cells #[.int .i64 RR, .slice a7 HS.length cap7] 33)) := ⟨_, rfl⟩
    obtain ⟨z0, z1⟩ := Z4.out.later EE.out (Nat.le_refl _)
    have z0o := fun x => kcellAlloc z0 x
    have z1o := fun x => kcellAlloc z1 x
    have hlt6E : b6 < wE.heap.size := World.block_lt_of_cell? _ _ z0
    go_wp2_with fail
    rw [← hwF.out]
    have alF := hide_it (show Below wE.heap.size wE wF by rw [hwF.out]; exact al_below _ _)
    have HSF := hide_it (show wF.heap.size = wE.heap.size + 1 by rw [hwF.out]; simp)
    have SZ := hide_it (show wc.heap.size ≤ wA.heap.size ∧ wA.heap.size < wB.heap.size ∧ wB.heap.size ≤ wC.heap.size ∧ wC.heap.size < wD.heap.size ∧ wD.heap.size ≤ wE.heap.size ∧ wE.heap.size < wF.heap.size ∧ gu < wC.heap.size ∧ wB.heap.size ≤ gu ∧ wc.heap.size ≤ g5 ∧ g5 < wA.heap.size by
      have h1 := EA.out.size; have h2 := HSB.out; have h3 := HSC.out; have h4 := HSD.out; have h5 := HSE.out; have h6 := HSF.out; have h7 := HGC.out; have h8 := hgu.out; have h9 := hg5.out; have h10 := HG5.out
      omega)
    have EF := hide_it (EE.out.trans (alF.out.mono EE.out.size))
    have OF := hide_it (ownsRow_below OE.out alF.out (fun j hj => (OE.out.lt j hj).2))
    have OFx := hide_it (ownsRow_below OEx.out alF.out (fun j hj => (OEx.out.lt j hj).2))
    have XF := hide_it (XE.out.later alF.out (Nat.le_refl _))
    have YF := hide_it (YE.out.later alF.out (Nat.le_refl _))
    have RF := hide_it (ownsRow_below RE.out alF.out (fun j hj => (RE.out.lt j hj).2))
    have GF : Hid (Duo wF wE.heap.size (.int .i64 RR) (.slice a7 HS.length cap7)) := by show Duo _ _ _ _; rw [hwF.out]; exact Duo.new wE _ _ _
    have VF := hide_it (V4.out.later EF.out (Nat.le_refl _))
    clear z0o z1o z0 z1
    refine (eqStock_any RR _ _ HS wF (holds_of_row OF.out) VF.out hRl).mono ?_
    rintro e wG ⟨rfl, hbG⟩
    have EG := hide_it (EF.out.trans (hbG.mono EF.out.size))
    have OG := hide_it (ownsRow_below OF.out hbG (fun j hj => (OF.out.lt j hj).2))
    have OGx := hide_it (ownsRow_below OFx.out hbG (fun j hj => (OFx.out.lt j hj).2))
    have XG := hide_it (XF.out.later hbG (Nat.le_refl _))
    have YG := hide_it (YF.out.later hbG (Nat.le_refl _))
    have RG := hide_it (ownsRow_below RF.out hbG (fun j hj => (RF.out.lt j hj).2))
    have GG := hide_it (GF.out.later hbG (Nat.le_refl _))
    have DG := hide_it (DW.out.later EG.out (Nat.le_refl _))
    have hzG : w.heap.size ≤ wG.heap.size := Nat.le_trans hz4 EG.out.size
    have BG := hide_it (B4.out.trans (EG.out.mono hz4))
    have ReGx := hide_it (holds_of_row OGx.out)
    clear hbG
    obtain ⟨⟨l0, l1⟩, ⟨q0, q1, q2⟩⟩ := DG.out
    obtain ⟨x0, x1⟩ := XG.out
    go_wp2_with fail
    go_region_held (fun w' => w'.cell? ⟨wA.heap.size, 0, none⟩ = some (.int .i64 room) ∧ w'.cell? ⟨wA.heap.size, 1, none⟩ = some (.slice (some ⟨g5, 0, none⟩) hs.length hs.length) ∧ w'.cell? ⟨w.heap.size, 0, none⟩ = some (.int .i64 room) ∧ w'.cell? ⟨w.heap.size, 1, none⟩ = some (.slice av hs.length cv)) (go_keep)
      (first
      | (go_at_call 9; refine (toStock_any room _ hs _ ?_ hl).mono ?_; exact (HV.out _ BG.out.drew); rintro e wH ⟨rfl, hmH, hbH⟩; have LH := hide_it (k_drew hbH); have yH := ReGx.out.later LH.out (Nat.le_refl _); have vH := holds_of_row hmH; obtain ⟨xH0, xH1⟩ := XG.out.later LH.out (Nat.le_refl _); obtain ⟨⟨lH0, lH1⟩, -⟩ := DG.out.later LH.out (Nat.le_refl _); clear hbH hmH)
      | (go_at_call 12; refine (eqStock_any room _ _ hs _ ?_ ?_ hl).mono ?_; assumption; assumption; rintro e wI ⟨rfl, hbI⟩; have LI := hide_it (LH.out.trans (hbI.mono LH.out.size)); obtain ⟨xI0, xI1⟩ := XG.out.later LI.out (Nat.le_refl _); obtain ⟨⟨lI0, lI1⟩, -⟩ := DG.out.later LI.out (Nat.le_refl _); clear hbI))
    clear l0 l1 q0 q1 q2 x0 x1
    have EI := hide_it (EG.out.trans (LI.out.mono EG.out.size))
    have OI := hide_it (ownsRow_below OG.out LI.out (fun j hj => (OG.out.lt j hj).2))
    have OIx := hide_it (ownsRow_below OGx.out LI.out (fun j hj => (OGx.out.lt j hj).2))
    have XI := hide_it (XG.out.later LI.out (Nat.le_refl _))
    have YI := hide_it (YG.out.later LI.out (Nat.le_refl _))
    have RI := hide_it (ownsRow_below RG.out LI.out (fun j hj => (RG.out.lt j hj).2))
    have GI := hide_it (GG.out.later LI.out (Nat.le_refl _))
    have DI := hide_it (DG.out.later LI.out (Nat.le_refl _))
    have BI := hide_it (B4.out.trans (EI.out.mono hz4))
    obtain ⟨-, ⟨q0, q1, q2⟩⟩ := DI.out
    obtain ⟨y0, y1, y2⟩ := YI.out
    have UI := hide_it (ints_of_row RI.out)
    go_wp2_with fail
    go_region_held (fun w' => w'.cell? ⟨wC.heap.size, 0, none⟩ = some (.int .i64 k) ∧ w'.cell? ⟨wC.heap.size, 1, none⟩ = some (.int .i64 t) ∧ w'.cell? ⟨wC.heap.size, 2, none⟩ = some (.slice (some ⟨gu, 0, none⟩) zs.length zs.length) ∧ w'.cell? ⟨w.heap.size + 1, 0, none⟩ = some (.int .i64 k) ∧ w'.cell? ⟨w.heap.size + 1, 1, none⟩ = some (.int .i64 t) ∧ w'.cell? ⟨w.heap.size + 1, 2, none⟩ = some (.slice au zs.length cu)) (go_keep)
      (first
      | (go_at_call 10; refine (toRec_any k t _ zs _ ?_ hzl).mono ?_; exact (HU.out _ BI.out.drew); rintro e wJ ⟨rfl, hownJ, hbJ⟩; have LJ := hide_it (k_drew hbJ); (try rw [k_size0] at hownJ); have uJ := ints_of_row hownJ; have vJ := UI.out.later LJ.out (Nat.le_refl _); obtain ⟨yJ0, yJ1, yJ2⟩ := YI.out.later LJ.out (Nat.le_refl _); obtain ⟨-, ⟨qJ0, qJ1, qJ2⟩⟩ := DI.out.later LJ.out (Nat.le_refl _); clear hbJ hownJ)
      | (go_at_call 13; refine (eqRec_any _ _ _ _ zs _ ?_ ?_ hzl).mono ?_; assumption; assumption; rintro e wK ⟨rfl, hbK⟩; have LK := hide_it (LJ.out.trans (hbK.mono LJ.out.size)); obtain ⟨yK0, yK1, yK2⟩ := YI.out.later LK.out (Nat.le_refl _); obtain ⟨-, ⟨qK0, qK1, qK2⟩⟩ := DI.out.later LK.out (Nat.le_refl _); clear hbK))
    clear q0 q1 q2 y0 y1 y2
    have EK := hide_it (EI.out.trans (LK.out.mono EI.out.size))
    have OK := hide_it (ownsRow_below OI.out LK.out (fun j hj => (OI.out.lt j hj).2))
    have OKx := hide_it (ownsRow_below OIx.out LK.out (fun j hj => (OIx.out.lt j hj).2))
    have XK := hide_it (XI.out.later LK.out (Nat.le_refl _))
    have YK := hide_it (YI.out.later LK.out (Nat.le_refl _))
    have RK := hide_it (ownsRow_below RI.out LK.out (fun j hj => (RI.out.lt j hj).2))
    have GK := hide_it (GI.out.later LK.out (Nat.le_refl _))
    have HMK : Hid (Calls Tryd.prog 16 #[.agg #[.int .i64 room, .slice (some ⟨g5, 0, none⟩) hs.length hs.length], .int .i64 1] wK fun e w' => e = .returned (.int .i64 (1 + 2 * hs.length)) ∧ Mid g5 (g5 + 1) wK w') := by
      refine (markStock_any room _ hs 1 _ hs.length wK OKx.out hl (by omega) (by omega)).mono ?_
      rintro e w' ⟨h1, -, h3⟩
      exact ⟨h1, h3 _ _ (fun i hi => by simp [Value.ownBlock] at hi; omega)⟩
    obtain ⟨x0, x1⟩ := XK.out
    go_wp2_with fail
    refine HMK.out.mono ?_
    rintro e wL ⟨rfl, hML⟩
    have EL := hide_it (EK.out.trans (hML.below (by have := SZ.out; omega) EK.out.size))
    have OL := hide_it (ownsRow_mid OK.out hML (fun j hj => Or.inr (by have := (LTE.out j hj).1; have := SZ.out; omega)))
    have GL := hide_it (GK.out.mid' hML (Or.inr (by have := SZ.out; omega)))
    have YL := hide_it (YK.out.mid hML (Or.inr (by have := SZ.out; omega)))
    have RL := hide_it (ownsRow_mid RK.out hML (fun j hj => Or.inr (by have := (RK.out.lt j hj).1; have := SZ.out; omega)))
    clear hML x0 x1
    obtain ⟨y0, y1, y2⟩ := YL.out
    go_wp2_with fail
    refine (markRec_any k t gu zs.length zs.length (1 + 2 * hs.length) _ _ wL RL.out hzl (by omega) (by omega)).mono ?_
    rintro e wM ⟨rfl, hMM⟩
    have EM := hide_it (EL.out.trans (hMM.below (by have := SZ.out; omega) EL.out.size))
    have OM := hide_it (ownsRow_mid OL.out hMM (fun j hj => Or.inr (by have := (LTE.out j hj).1; have := SZ.out; omega)))
    have GM := hide_it (GL.out.mid' hMM (Or.inr (by have := SZ.out; omega)))
    have ZM := hide_it (Z4.out.later EM.out (Nat.le_refl _))
    have VM := hide_it (V4.out.later EM.out (Nat.le_refl _))
    clear hMM y0 y1 y2
    obtain ⟨g0, g1⟩ := GM.out
    obtain ⟨z0, z1⟩ := ZM.out
    have hKm : 0 ≤ (1 : Int) + 2 * hs.length + zs.length := by omega
    go_wp2_with fail
    refine (eqStock_any RR _ _ HS wM (holds_of_row OM.out) VM.out hRl).mono ?_
    rintro e wN ⟨rfl, hbN⟩
    have EN := hide_it (EM.out.trans (hbN.mono EM.out.size))
    have ON := hide_it (ownsRow_below OM.out hbN (fun j hj => (OM.out.lt j hj).2))
    have GN := hide_it (GM.out.later hbN (Nat.le_refl _))
    clear hbN g0 g1 z0 z1
    have HMK2 : Hid (Calls Tryd.prog 16 #[.agg #[.int .i64 RR, .slice a7 HS.length cap7], .int .i64 1] wN fun e w' => e = .returned (.int .i64 (1 + 2 * HS.length)) ∧ Holds w' (.slice a7 HS.length cap7) (markH HS.length 1) ∧ Mid wD.heap.size wE.heap.size wN w') := by
      refine (markStock_any RR _ HS 1 _ HS.length wN ON.out hRl (by omega) (by omega)).mono ?_
      rintro e w' ⟨h1, h2, h3⟩
      refine ⟨h1, holds_of_row (base := wD.heap.size) ?_, h3 _ _ (fun i hi => LTE.out i hi)⟩
      rw [markH_length]; exact h2
    obtain ⟨g0, g1⟩ := GN.out
    go_wp2_with fail
    refine HMK2.out.mono ?_
    rintro e wO ⟨rfl, hRO, hMO⟩
    have EO := hide_it (EN.out.trans (hMO.below (show wc.heap.size ≤ wD.heap.size by have := SZ.out; omega) EN.out.size))
    have GO := hide_it (GN.out.mid' hMO (Or.inr (Nat.le_refl _)))
    have RO := hide_it hRO
    clear hMO hRO g0 g1
    obtain ⟨g0, g1⟩ := GO.out
    go_wp2_with fail
    refine (heldStock_any RR _ HS.length 1 wO RO.out hRl (by omega) (by omega)).mono ?_
    rintro e wP ⟨rfl, hbP⟩
    have EP := hide_it (EO.out.trans (hbP.mono EO.out.size))
    have GP := hide_it (GO.out.later hbP (Nat.le_refl _))
    have RP := hide_it (RO.out.later hbP (Nat.le_refl _))
    have DP := hide_it (DW.out.later EP.out (Nat.le_refl _))
    have BP := hide_it (B4.out.trans (EP.out.mono hz4))
    have hzzB : w.heap.size ≤ wP.heap.size := BP.out.size
    clear hbP g0 g1
    obtain ⟨⟨l0, l1⟩, ⟨q0, q1, q2⟩⟩ := DP.out
    have hwP : w.heap.size + 1 < wP.heap.size := World.block_lt_of_cell? _ _ q0
    go_wp2_with fail
    go_cut [15, 16] (fun p b W => ∃ b6 a5 cap5, p = .pointer (some ⟨b6, 0, none⟩) ∧ b = .bool BB ∧ Hid (MetS wP W w.heap.size b6 room (.slice av hs.length cv) k t (.slice au zs.length cu) (.slice a5 HS.length cap5) RR HS))
    case first =>
      go_region_held (fun w' => w'.cell? ⟨w.heap.size, 0, none⟩ = some (.int .i64 room) ∧ w'.cell? ⟨w.heap.size, 1, none⟩ = some (.slice av hs.length cv) ∧ w'.cell? ⟨w.heap.size + 1, 0, none⟩ = some (.int .i64 k) ∧ w'.cell? ⟨w.heap.size + 1, 1, none⟩ = some (.int .i64 t) ∧ w'.cell? ⟨w.heap.size + 1, 2, none⟩ = some (.slice au zs.length cu)) (first | (go_keep; done) | (refine ⟨(kset2 _ _ _ _ ?_).trans ?_, (kset2 _ _ _ _ ?_).trans ?_, (kset2 _ _ _ _ ?_).trans ?_, (kset2 _ _ _ _ ?_).trans ?_, (kset2 _ _ _ _ ?_).trans ?_⟩ <;> first | omega | assumption))
        (first
        | (go_at_call 9; refine (toStock_any room _ hs _ ?_ hl).mono ?_; (first | (with_reducible exact (HV.out _ BP.out.drew)) | exact (HV.out _ (BP.out.alloc hzzB _).drew)); rintro e wq3B ⟨rfl, ho3, hb3⟩; have N3B : Hid (Below wP.heap.size wP wq3B) := (by first | (with_reducible exact hide_it (k_drew hb3)) | (with_reducible exact hide_it (k_alloc_drew hb3))); (try (with_reducible have ZbB := hide_it (zs_alloc_drew hb3))); (try rw [k_size1d] at ho3); (try rw [k_size0] at ho3); have V3B := hide_it (holds_of_row ho3); have D3B := hide_it (DP.out.later N3B.out (Nat.le_refl _)); obtain ⟨⟨l30, l31⟩, ⟨q30, q31, q32⟩⟩ := D3B.out; have B3B := hide_it (BP.out.trans (N3B.out.mono hzzB)); have hz3B := B3B.out.size; have hs3B := N3B.out.size; clear ho3 hb3)
        | (go_at_call 10; refine (toRec_any k t _ zs _ ?_ hzl).mono ?_; (first | (with_reducible exact HU.out _ B3B.out) | exact (HU.out _ (B3B.out.alloc hz3B _))); rintro e wq4B ⟨rfl, ho4, hb4⟩; have N4B : Hid (Below wq3B.heap.size wq3B wq4B) := (by first | (with_reducible exact hide_it hb4) | (with_reducible exact hide_it (al_after hb4))); (first | (with_reducible have ZbB := hide_it (ZbB.out.later N4B.out (Nat.le_refl _))) | (with_reducible have ZbB := hide_it (zs_alloc hb4)) | skip); (try rw [World.size_alloc] at ho4); have U4B := hide_it (ints_of_row ho4); have V4B := hide_it (V3B.out.later N4B.out (Nat.le_refl _)); have D4B := hide_it (D3B.out.later N4B.out (Nat.le_refl _)); obtain ⟨⟨l40, l41⟩, ⟨q40, q41, q42⟩⟩ := D4B.out; have B4B := hide_it (B3B.out.trans (N4B.out.mono hz3B)); have hz4B := B4B.out.size; have hs4B := N4B.out.size; clear ho4 hb4)
        | (go_at_call 15; refine (HIM.out _ _ _ ?_ ?_ ?_).mono ?_; (first | (with_reducible exact V4B.out) | (with_reducible exact (V4B.out.later (al_below _ _) (Nat.le_refl _))) | exact V4B.out | exact (V4B.out.later (al_below _ _) (Nat.le_refl _))); (first | (with_reducible exact U4B.out) | (with_reducible exact (U4B.out.later (al_below _ _) (Nat.le_refl _))) | exact U4B.out | exact (U4B.out.later (al_below _ _) (Nat.le_refl _))); (first | (with_reducible exact (HA.out _ B4B.out)) | exact (HA.out _ (B4B.out.alloc hz4B _))); rintro e wq5B ⟨a5, cap5, rfl, hm5, hb5⟩; have N5B : Hid (Below wq4B.heap.size wq4B wq5B) := (by first | (with_reducible exact hide_it hb5) | (with_reducible exact hide_it (al_after hb5))); (first | (with_reducible have ZbB := hide_it (ZbB.out.later N5B.out (Nat.le_refl _))) | (with_reducible have ZbB := hide_it (zs_alloc hb5)) | skip); have M5B := hide_it hm5; have D5B := hide_it (D4B.out.later N5B.out (Nat.le_refl _)); obtain ⟨⟨l50, l51⟩, ⟨q50, q51, q52⟩⟩ := D5B.out; (try obtain ⟨y0, y1, y2, y3⟩ := ZbB.out.cells); have hs5B := N5B.out.size; have C5B := hide_it ((N3B.out.trans (N4B.out.mono hs3B)).trans (N5B.out.mono (Nat.le_trans hs3B hs4B))); clear hm5 hb5))
      all_goals
        go_wp2_with fail
        go_meet
        case rel => first | exact ⟨_, a5, cap5, rfl, rfl, hide_it (mets_new C5B.out D5B.out rfl M5B.out)⟩ | exact ⟨_, a5, cap5, rfl, rfl, hide_it (mets_set C5B.out D5B.out rfl M5B.out ZbB.out (by omega) hwP)⟩
    case rest =>
      obtain ⟨b7, a17, cap17, rfl, rfl, HMET⟩ := hcut
      have EW := hide_it (EP.out.trans (HMET.out.1.mono EP.out.size))
      have HT := hide_it HMET.out.2.2.1
      have VT := hide_it HMET.out.2.2.2.1
      have GT := hide_it (GP.out.later HMET.out.1 (Nat.le_refl _))
      have RT := hide_it (RP.out.later HMET.out.1 (Nat.le_refl _))
      have ZT := hide_it (Z4.out.later EW.out (Nat.le_refl _))
      have YT := hide_it (V4.out.later EW.out (Nat.le_refl _))
      clear HMET l0 l1 q0 q1 q2
      obtain ⟨h0, h1⟩ := HT.out
      obtain ⟨z0, z1⟩ := ZT.out
      go_wp2_with fail
      refine (eqStock_any RR _ _ HS _ VT.out YT.out hRl).mono ?_
      rintro e wU ⟨rfl, hbU⟩
      have EU := hide_it (EW.out.trans (hbU.mono EW.out.size))
      have GU := hide_it (GT.out.later hbU (Nat.le_refl _))
      have RU := hide_it (RT.out.later hbU (Nat.le_refl _))
      clear hbU h0 h1 z0 z1
      obtain ⟨g0, g1⟩ := GU.out
      go_wp2_with fail
      refine (heldStock_any RR _ HS.length 1 wU RU.out hRl (by omega) (by omega)).mono ?_
      rintro e wV ⟨rfl, hbV⟩
      have BV := hide_it (B4.out.trans ((EU.out.trans (hbV.mono EU.out.size)).mono hz4))
      clear hbV g0 g1
      go_wp2
      go_ret
      exact ⟨rfl, BV.out⟩

end Go.Proofs.YtpnhcmjdjekleaaDoor
