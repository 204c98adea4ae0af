/- The law FnExactStockMay, walked: at every stock and record it answers true, and nothing that was there before has turned. In a world in which the sentinel's variable holds a pointer to an errors.errorString. -/
import Derived.Test.YtpnhcmjdjekleaaDoorKPr
namespace Go.Proofs.YtpnhcmjdjekleaaDoor
open Go.RowKit

set_option maxHeartbeats 1000000 in
theorem lawMay_great1 (room : Int) (av : Option Addr) (n cv : Nat) (k t : Int) (au : Option Addr) (m cu : Nat) (w : World) (hl : (n : Int) ≤ 9223372036854775807) (hg : 1048576 < (n : Int)) :
    Calls Tryd.prog 3 #[.agg #[.int .i64 room, .slice av n cv], .agg #[.int .i64 k, .int .i64 t, .slice au m cu]] w fun e w' => e = .returned (.bool true) ∧ Below w.heap.size w w' := by
  go_enter Tryd.func3, Tryd.ntmps3
  go_wp2_with fail
  refine (sz_stock_neg room av n cv _ hl hg).mono ?_
  rintro e w1 ⟨rfl, hb⟩
  have HB := hide_it ((below2 w _ _).trans (hb.mono (by simp; omega)))
  clear hb
  go_wp2
  go_ret
  exact ⟨rfl, HB.out⟩

set_option maxHeartbeats 1000000 in
theorem lawMay_great2 (room : Int) (av : Option Addr) (n cv : Nat) (k t : Int) (au : Option Addr) (m cu : Nat) (w : World) (hl : (m : Int) ≤ 9223372036854775807) (hn : n ≤ 1048576) (hg : 1048576 < (n : Int) + m) :
    Calls Tryd.prog 3 #[.agg #[.int .i64 room, .slice av n cv], .agg #[.int .i64 k, .int .i64 t, .slice au m cu]] w fun e w' => e = .returned (.bool true) ∧ Below w.heap.size w w' := by
  have HD := hide_it (Pr.new w room (.slice av n cv) k t (.slice au m cu) 24 27)
  go_enter Tryd.func3, Tryd.ntmps3
  go_wp2_with fail
  refine (sz_stock_pos room av n cv _ hn).mono ?_
  rintro e w1 ⟨rfl, hb⟩
  have HB := hide_it ((below2 w _ _).trans (hb.mono (by simp; omega)))
  obtain ⟨⟨l0, l1⟩, ⟨q0, q1, q2⟩⟩ := HD.out.later hb (Nat.le_refl _)
  clear hb
  go_wp2_with fail
  refine (sz_rec_neg k t au n m cu _ hl hn hg).mono ?_
  rintro e w2 ⟨rfl, hb2⟩
  have HB2 := hide_it (HB.out.trans (hb2.mono HB.out.size))
  clear hb2
  go_wp2
  go_ret
  exact ⟨rfl, HB2.out⟩

set_option maxRecDepth 100000 in
set_option maxHeartbeats 8000000 in
theorem lawMay_small (room : Int) (v : Value) (hs : List Pl.H) (k t : Int) (u : Value) (zs : List Int) (a : Addr) (w : World) (hv : Holds w v hs) (hu : Ints w u zs) (ha : ErrAt w a) (hlt : hs.length + zs.length ≤ 1048576) :
    Calls Tryd.prog 3 #[.agg #[.int .i64 room, v], .agg #[.int .i64 k, .int .i64 t, u]] w fun e w' => e = .returned (.bool true) ∧ Below w.heap.size w w' := by
  have hl : hs.length ≤ 1048576 := by omega
  have hzl : zs.length ≤ 1048576 := by omega
  have HV : Hid (∀ W, Below w.heap.size w W → Holds W v hs) := fun W h => hv.later h (Nat.le_refl _)
  have HU : Hid (∀ W, Below w.heap.size w W → Ints W u zs) := fun W h => hu.later h (Nat.le_refl _)
  have HA : Hid (∀ W, Below w.heap.size w W → ErrAt W a) := fun W h => ha.later h (Nat.le_refl _)
  obtain ⟨BB, hBB⟩ : ∃ b, Pl.sMay room hs k t zs = b := ⟨_, rfl⟩
  have HSP : Hid (∀ (x y : Value) (W : World), Holds W x hs → Ints W y zs → Calls Tryd.prog 8 #[.agg #[.int .i64 room, x], .agg #[.int .i64 k, .int .i64 t, y]] W fun e w' => e = .returned (.bool BB) ∧ Below W.heap.size W w') := fun x y W h1 h2 => by rw [← hBB]; exact specMay_any room x hs k t y zs W h1 hl h2 hzl
  have HIM : Hid (∀ (x y : Value) (W : World), Holds W x hs → Ints W y zs → ErrAt W a → Calls Tryd.prog 11 #[.agg #[.int .i64 room, x], .agg #[.int .i64 k, .int .i64 t, y]] W fun e w' => e = .returned (.bool BB) ∧ Below W.heap.size W w') := fun x y W h1 h2 h3 => by rw [← hBB]; exact implMay_any room x hs k t y zs a W h1 hl h2 hzl h3
  obtain ⟨av, cv, rfl⟩ := hv.shape
  obtain ⟨au, cu, rfl⟩ := hu.shape
  have HD := hide_it (Pr.new w room (.slice av hs.length cv) k t (.slice au zs.length cu) 24 27)
  clear hv hu ha hBB
  go_enter Tryd.func3, Tryd.ntmps3
  go_wp2_with fail
  refine (sz_stock_pos room av hs.length cv _ hl).mono ?_
  rintro e w1 ⟨rfl, hb1⟩
  have B1 := hide_it ((below2 w _ _).trans (hb1.mono (by simp; omega)))
  have D1 := hide_it (HD.out.later hb1 (Nat.le_refl _))
  clear hb1
  obtain ⟨⟨l0, l1⟩, ⟨q0, q1, q2⟩⟩ := D1.out
  go_wp2_with fail
  refine (sz_rec_pos k t au hs.length zs.length cu _ hlt).mono ?_
  rintro e w2 ⟨rfl, hb2⟩
  have B2 := hide_it (B1.out.trans (hb2.mono B1.out.size))
  have D2 := hide_it (D1.out.later hb2 (Nat.le_refl _))
  clear hb2 l0 l1 q0 q1 q2
  obtain ⟨⟨l0, l1⟩, ⟨q0, q1, q2⟩⟩ := D2.out
  -- w0
  go_wp2_with fail
  go_region_held (fun w' => w'.cell? ⟨w.heap.size, 0, none⟩ = some (.int .i64 room) ∧ w'.cell? ⟨w.heap.size, 1, none⟩ = some (.slice av hs.length cv) ∧ w'.cell? ⟨w.heap.size + 1, 0, none⟩ = some (.int .i64 k) ∧ w'.cell? ⟨w.heap.size + 1, 1, none⟩ = some (.int .i64 t) ∧ w'.cell? ⟨w.heap.size + 1, 2, none⟩ = some (.slice au zs.length cu)) (go_keep)
    (first
    | (go_at_call 9; refine (toStock_any room _ hs _ (HV.out _ B2.out.drew) hl).mono ?_; rintro e w3 ⟨rfl, ho3, hb3⟩; have N3 := hide_it (k_drew hb3); have V3 := hide_it (holds_of_row ho3); have B3 := hide_it (B2.out.trans (N3.out.mono B2.out.size)); have D3 := hide_it (D2.out.later N3.out (Nat.le_refl _)); obtain ⟨⟨l30, l31⟩, ⟨q30, q31, q32⟩⟩ := D3.out; clear ho3 hb3)
    | (go_at_call 10; refine (toRec_any k t _ zs _ (HU.out _ B3.out) hzl).mono ?_; rintro e w4 ⟨rfl, ho4, hb4⟩; have U4 := hide_it (ints_of_row ho4); have V4 := hide_it (V3.out.later hb4 (Nat.le_refl _)); have B4 := hide_it (B3.out.trans (hb4.mono B3.out.size)); have D4 := hide_it (D3.out.later hb4 (Nat.le_refl _)); obtain ⟨⟨l40, l41⟩, ⟨q40, q41, q42⟩⟩ := D4.out; clear ho4 hb4)
    | (go_at_call 8; refine (HSP.out _ _ _ V4.out U4.out).mono ?_; rintro e w5 ⟨rfl, hb5⟩; have B5 := hide_it (B4.out.trans (hb5.mono B4.out.size)); have D5 := hide_it (D4.out.later hb5 (Nat.le_refl _)); obtain ⟨⟨l50, l51⟩, ⟨q50, q51, q52⟩⟩ := D5.out; clear hb5))
  clear l0 l1 q0 q1 q2 l30 l31 q30 q31 q32 l40 l41 q40 q41 q42 l50 l51 q50 q51 q52 V3 V4 U4 B3 B4 D3 D4
  obtain ⟨⟨l0, l1⟩, ⟨q0, q1, q2⟩⟩ := D5.out
  -- x0
  go_wp2_with fail
  refine (toStock_any room _ hs w5 (HV.out _ B5.out) hl).mono ?_
  rintro e w6 ⟨rfl, ho6, hb6⟩
  obtain ⟨g6, hg6⟩ : ∃ g, Hid (g = w5.heap.size + 3) := ⟨_, rfl⟩
  rw [← hg6.out] at ho6 ⊢
  have V6 := hide_it (holds_of_row ho6)
  have B6 := hide_it (B5.out.trans (hb6.mono B5.out.size))
  have D6 := hide_it (D5.out.later hb6 (Nat.le_refl _))
  have D6o := D6.out.later (al_below w6 (.cells #[.int .i64 room, .slice (some ⟨g6, 0, none⟩) hs.length hs.length] 33)) (Nat.le_refl _)
  have X7 := hide_it (Duo.new w6 (.int .i64 room) (.slice (some ⟨g6, 0, none⟩) hs.length hs.length) 33)
  clear ho6 hb6 l0 l1 q0 q1 q2
  obtain ⟨⟨l0, l1⟩, ⟨q0, q1, q2⟩⟩ := D6o
  -- x1
  go_wp2_with fail
  refine (toRec_any k t _ zs _ (HU.out _ (B6.out.alloc B6.out.size _)) hzl).mono ?_
  rintro e w8 ⟨rfl, ho8, hb8⟩
  obtain ⟨g8, hg8⟩ : ∃ g, Hid (g = (w6.alloc (.cells #[.int .i64 room, .slice (some ⟨g6, 0, none⟩) hs.length hs.length] 33)).heap.size + 3) := ⟨_, rfl⟩
  rw [← hg8.out] at ho8 ⊢
  have U8 := hide_it (ints_of_row ho8)
  have N8 := hide_it (al_after hb8)
  have V8 := hide_it (V6.out.later N8.out (Nat.le_refl _))
  have B8 := hide_it (B6.out.trans (N8.out.mono B6.out.size))
  have X8 := hide_it (X7.out.later hb8 (Nat.le_refl _))
  have D8 := hide_it (D6.out.later N8.out (Nat.le_refl _))
  clear ho8 hb8 l0 l1 q0 q1 q2
  have X8o := X8.out.later (al_below w8 (.cells #[.int .i64 k, .int .i64 t, .slice (some ⟨g8, 0, none⟩) zs.length zs.length] 35)) (Nat.le_refl _)
  have Y9 := hide_it (RecAt.new w8 k t (.slice (some ⟨g8, 0, none⟩) zs.length zs.length) 35)
  have hx8 := X8.out.lt
  obtain ⟨x0, x1⟩ := X8o
  go_wp2_with fail
  refine (HIM.out _ _ _ (V8.out.later (al_below _ _) (Nat.le_refl _)) (U8.out.later (al_below _ _) (Nat.le_refl _)) (HA.out _ (B8.out.alloc B8.out.size _))).mono ?_
  rintro e w10 ⟨rfl, hb10⟩
  have N10 := hide_it (al_after hb10)
  have V10 := hide_it (V8.out.later N10.out (Nat.le_refl _))
  have U10 := hide_it (U8.out.later N10.out (Nat.le_refl _))
  have B10 := hide_it (B8.out.trans (N10.out.mono B8.out.size))
  have X10 := hide_it (X8.out.later N10.out (Nat.le_refl _))
  have Y10 := hide_it (Y9.out.later hb10 (Nat.le_refl _))
  have D10 := hide_it (D8.out.later N10.out (Nat.le_refl _))
  clear hb10 x0 x1
  obtain ⟨x0, x1⟩ := X10.out
  obtain ⟨⟨l0, l1⟩, ⟨q0, q1, q2⟩⟩ := D10.out
  go_wp2_with fail
  go_region_held (fun w' => w'.cell? ⟨w6.heap.size, 0, none⟩ = some (.int .i64 room) ∧ w'.cell? ⟨w6.heap.size, 1, none⟩ = some (.slice (some ⟨g6, 0, none⟩) hs.length hs.length) ∧ w'.cell? ⟨w.heap.size, 0, none⟩ = some (.int .i64 room) ∧ w'.cell? ⟨w.heap.size, 1, none⟩ = some (.slice av hs.length cv)) (go_keep)
    (first
    | (go_at_call 9; refine (toStock_any room _ hs _ (HV.out _ B10.out.drew) hl).mono ?_; rintro e w11 ⟨rfl, ho11, hb11⟩; have N11 := hide_it (k_drew hb11); have v11 := holds_of_row ho11; have y11 := V10.out.later N11.out (Nat.le_refl _); obtain ⟨x110, x111⟩ := X10.out.later N11.out (Nat.le_refl _); obtain ⟨⟨l110, l111⟩, -⟩ := D10.out.later N11.out (Nat.le_refl _); clear ho11 hb11)
    | (go_at_call 12; refine (eqStock_any room _ _ hs _ ?_ ?_ hl).mono ?_; assumption; assumption; rintro e w12 ⟨rfl, hb12⟩; have N12 := hide_it (N11.out.trans (hb12.mono N11.out.size)); obtain ⟨x120, x121⟩ := X10.out.later N12.out (Nat.le_refl _); obtain ⟨⟨l120, l121⟩, -⟩ := D10.out.later N12.out (Nat.le_refl _); clear hb12))
  clear l0 l1 q0 q1 q2 x0 x1
  have U12 := hide_it (U10.out.later N12.out (Nat.le_refl _))
  have B12 := hide_it (B10.out.trans (N12.out.mono B10.out.size))
  have Y12 := hide_it (Y10.out.later N12.out (Nat.le_refl _))
  have D12 := hide_it (D10.out.later N12.out (Nat.le_refl _))
  obtain ⟨-, ⟨q0, q1, q2⟩⟩ := D12.out
  obtain ⟨y0, y1, y2⟩ := Y12.out
  go_wp2_with fail
  go_region_held (fun w' => w'.cell? ⟨w8.heap.size, 0, none⟩ = some (.int .i64 k) ∧ w'.cell? ⟨w8.heap.size, 1, none⟩ = some (.int .i64 t) ∧ w'.cell? ⟨w8.heap.size, 2, none⟩ = some (.slice (some ⟨g8, 0, none⟩) zs.length zs.length) ∧ w'.cell? ⟨w.heap.size + 1, 0, none⟩ = some (.int .i64 k) ∧ w'.cell? ⟨w.heap.size + 1, 1, none⟩ = some (.int .i64 t) ∧ w'.cell? ⟨w.heap.size + 1, 2, none⟩ = some (.slice au zs.length cu)) (go_keep)
    (first
    | (go_at_call 10; refine (toRec_any k t _ zs _ (HU.out _ B12.out.drew) hzl).mono ?_; rintro e w13 ⟨rfl, ho13, hb13⟩; have N13 := hide_it (k_drew hb13); have u13 := ints_of_row ho13; have v13 := U12.out.later N13.out (Nat.le_refl _); obtain ⟨y130, y131, y132⟩ := Y12.out.later N13.out (Nat.le_refl _); obtain ⟨-, ⟨q130, q131, q132⟩⟩ := D12.out.later N13.out (Nat.le_refl _); clear ho13 hb13)
    | (go_at_call 13; refine (eqRec_any _ _ _ _ zs _ ?_ ?_ hzl).mono ?_; assumption; assumption; rintro e w14 ⟨rfl, hb14⟩; have N14 := hide_it (N13.out.trans (hb14.mono N13.out.size)); obtain ⟨y140, y141, y142⟩ := Y12.out.later N14.out (Nat.le_refl _); obtain ⟨-, ⟨q140, q141, q142⟩⟩ := D12.out.later N14.out (Nat.le_refl _); clear hb14))
  have B14 := hide_it (B12.out.trans (N14.out.mono B12.out.size))
  go_wp2
  go_ret
  exact ⟨rfl, B14.out⟩

end Go.Proofs.YtpnhcmjdjekleaaDoor
