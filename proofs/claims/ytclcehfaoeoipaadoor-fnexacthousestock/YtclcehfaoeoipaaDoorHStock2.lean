/- Contracts of HouseStock, and of what it calls, by what was forced: the specification's, and the program's. For all that together has at most 1048576 records and numbers, in a world in which the sentinel's variable holds a pointer to an errors.errorString. -/
import Derived.Test.YtclcehfaoeoipaaDoorHStock
import Derived.Deep.RegionHeld
namespace Go.Proofs.YtclcehfaoeoipaaDoor
open Go.RowKit

/-- What lies behind the region: the stock's block, its holds, the result's block. -/
def StkMet (w0 W : World) (B b : Nat) (RR : Int) (v : Value) (HS : List Pl.H) : Prop :=
  Below w0.heap.size w0 W ∧ Blk W b #[.int .i64 RR, v] 39 ∧ Blk W B #[.int .i64 0, .slice none 0 0] 39 ∧ W.ownsRow w0.heap.size 79 2 v HS.length (hflat HS)
theorem ks2 (w : World) (b2 : Nat) (x y : Value) {b o : Nat} (h : b ≠ b2) : ((w.setCell ⟨b2, 0, none⟩ x).setCell ⟨b2, 1, none⟩ y).cell? ⟨b, o, none⟩ = w.cell? ⟨b, o, none⟩ := by
  rw [World.cell?_of_block (w := w.setCell ⟨b2, 0, none⟩ x) (a := ⟨b, o, none⟩) (Below.heap_setCell _ _ _ _ h), World.cell?_of_block (w := w) (a := ⟨b, o, none⟩) (Below.heap_setCell _ _ _ _ h)]
theorem stkMet_new {w0 w1 : World} {B : Nat} {RR : Int} {v : Value} {HS : List Pl.H} (hb : Below w0.heap.size w0 w1) (hZ : Blk w1 B #[.int .i64 0, .slice none 0 0] 39) (ho : w1.ownsRow w0.heap.size 79 2 v HS.length (hflat HS)) :
    StkMet w0 (w1.alloc (.cells #[.int .i64 RR, v] 39)) B w1.heap.size RR v HS :=
  ⟨hb.alloc hb.size _, Blk.new _ _ _, hZ.alloc _, ownsRow_below ho (alloc_below _ _) (fun k hk => (ho.lt k hk).2)⟩
theorem stkMet_set {w0 w1 : World} {B b : Nat} {RR : Int} {v : Value} {HS : List Pl.H} (hb : Below w0.heap.size w0 w1) (hz : w0.heap.size ≤ b) (hB : B < w0.heap.size) (hY : Blk w1 b #[.int .i64 0, .slice none 0 0] 39) (hZ : Blk w1 B #[.int .i64 0, .slice none 0 0] 39) (ho : w1.ownsRow w0.heap.size 79 2 v HS.length (hflat HS)) :
    StkMet w0 ((w1.setCell ⟨b, 0, none⟩ (.int .i64 RR)).setCell ⟨b, 1, none⟩ v) B b RR v HS :=
  ⟨(hb.setCell hz _).setCell hz _, (hY.set_ 0 _).set_ 1 _, (hZ.other (by simp; omega) _).other (by simp; omega) _, row_set (row_set ho hY (by decide) _ _) (hY.set_ 0 _) (by decide) _ _⟩

set_option maxHeartbeats 4000000 in
theorem forcedStock_nil (id : Int) (up : Bool) (room : Int) (RR : Int) (HS : List Pl.H) (BB : Bool) (w : World) 
    (HO : Hid (∀ W, Below w.heap.size w W → Calls Tryd.prog 30 #[.int .i64 room, .slice none 0 0] W fun e w' => StOut W w' e RR HS BB)) :
    Calls Tryd.prog 34 #[keeperV (.slice none 0 0) 0 id up room] w fun e w' => SkOut w w' e RR HS := by
  obtain ⟨w0, hw0⟩ : ∃ W, Hid (W = (w.alloc (.cells #[.slice none 0 0, .int .i64 0, .int .i64 id, .bool up, .int .i64 room] 57)).alloc (.cells #[.int .i64 0, .slice none 0 0] 39)) := ⟨_, rfl⟩
  have B0 : Hid (Below w.heap.size w w0) := by show Below _ _ _; rw [hw0.out]; exact below2 _ _ _
  have X0 : Hid (Blk w0 w.heap.size #[.slice none 0 0, .int .i64 0, .int .i64 id, .bool up, .int .i64 room] 57) := by show Blk _ _ _ _; rw [hw0.out]; exact (Blk.new _ _ _).alloc _
  have Z0 : Hid (Blk w0 (w.heap.size + 1) #[.int .i64 0, .slice none 0 0] 39) := by show Blk _ _ _ _; rw [hw0.out]; exact Blk.new2 _ _ _ _
  have hs0 : Hid (w0.heap.size = w.heap.size + 2) := by show _ = _; rw [hw0.out, size2]
  have hs1 : w.heap.size + 1 < w0.heap.size := by have := hs0.out; omega
  obtain ⟨x0, x1, x2, x3, x4⟩ := X0.out.cells5
  go_enter Tryd.func34, Tryd.ntmps34
  go_wp2_with fail
  rw [← hw0.out]
  go_cut [3] (fun p W => ∃ b a5 cap5, p = .pointer (some ⟨b, 0, none⟩) ∧ Hid (StkMet w0 W (w.heap.size + 1) b RR (.slice a5 HS.length cap5) HS))
  case first =>
    go_region_held (fun w' => w'.cell? ⟨w.heap.size, 0, none⟩ = some (.slice none 0 0) ∧ w'.cell? ⟨w.heap.size, 1, none⟩ = some (.int .i64 0) ∧ w'.cell? ⟨w.heap.size, 4, none⟩ = some (.int .i64 room)) (first | (go_keep; done) | (refine ⟨(ks2 _ _ _ _ ?_).trans ?_, (ks2 _ _ _ _ ?_).trans ?_, (ks2 _ _ _ _ ?_).trans ?_⟩ <;> first | omega | assumption))
      ((go_at_call 30; refine (HO.out _ ?_).mono ?_; (first | (with_reducible exact B0.out.drew) | exact (B0.out.alloc B0.out.size _).drew); rintro e w1 ⟨a5, cap5, rfl, ho5, hb5⟩; have N5 : Hid (Below w0.heap.size w0 w1) := (by first | (with_reducible exact hide_it (b_drew hb5)) | (with_reducible exact hide_it (b_alloc_drew hb5))); (try (with_reducible have Y5 := hide_it (z_alloc_drew hb5))); have O5 : Hid (w1.ownsRow w0.heap.size 79 2 (.slice a5 HS.length cap5) HS.length (hflat HS)) := (by first | (with_reducible exact hide_it (o_drew ho5)) | (with_reducible exact hide_it (o_alloc_drew ho5))); have Z5 := hide_it (Z0.out.after N5.out); have hs5 := N5.out.size; obtain ⟨y0, y1, y2, y3, y4⟩ := (X0.out.after N5.out).cells5; (try obtain ⟨u0, u1⟩ := Y5.out.cells2); (try obtain ⟨uf0, uf1, -, -, -⟩ := Y5.out.free5); clear ho5 hb5))
    all_goals
      go_wp2_with fail
      go_meet
      case rel => first | exact ⟨_, a5, cap5, rfl, hide_it (stkMet_new N5.out Z5.out O5.out)⟩ | exact ⟨_, a5, cap5, rfl, hide_it (stkMet_set N5.out (by omega) (by omega) Y5.out Z5.out O5.out)⟩
  case rest =>
    obtain ⟨b, a5, cap5, rfl, HMET⟩ := hcut
    have EW := hide_it HMET.out.1
    have YW := hide_it HMET.out.2.1
    have ZW := hide_it HMET.out.2.2.1
    have OW := hide_it HMET.out.2.2.2
    clear HMET x0 x1 x2 x3 x4
    obtain ⟨u0, u1⟩ := YW.out.cells2
    obtain ⟨z0, z1⟩ := ZW.out.cells2
    obtain ⟨zf0, zf1, -, -, -⟩ := ZW.out.free5
    go_wp2
    refine bodyPost_ret (v := .agg #[.int .i64 RR, .slice a5 HS.length cap5]) (by simp [results, Tryd.results34, go_sem, *]) rfl ?_
    refine ⟨a5, cap5, rfl, ?_, ?_⟩
    · exact row_low (row_set (row_set OW.out ZW.out (by decide) _ _) (ZW.out.set_ 0 _) (by decide) _ _) (by omega)
    · exact ((B0.out.trans (EW.out.mono B0.out.size)).setCell (by simp) _).setCell (by simp) _

set_option maxHeartbeats 4000000 in
theorem forcedStock_some (id : Int) (up : Bool) (room : Int) (g n cap N : Nat) (RR : Int) (HS : List Pl.H) (BB : Bool) (w : World) (hN : N ≤ n) (hc : n ≤ cap)
    (HO : Hid (∀ W, Below w.heap.size w W → Calls Tryd.prog 30 #[.int .i64 room, .slice (some ⟨g, 0, none⟩) N cap] W fun e w' => StOut W w' e RR HS BB)) :
    Calls Tryd.prog 34 #[keeperV (.slice (some ⟨g, 0, none⟩) n cap) N id up room] w fun e w' => SkOut w w' e RR HS := by
  obtain ⟨w0, hw0⟩ : ∃ W, Hid (W = (w.alloc (.cells #[.slice (some ⟨g, 0, none⟩) n cap, .int .i64 N, .int .i64 id, .bool up, .int .i64 room] 57)).alloc (.cells #[.int .i64 0, .slice none 0 0] 39)) := ⟨_, rfl⟩
  have B0 : Hid (Below w.heap.size w w0) := by show Below _ _ _; rw [hw0.out]; exact below2 _ _ _
  have X0 : Hid (Blk w0 w.heap.size #[.slice (some ⟨g, 0, none⟩) n cap, .int .i64 N, .int .i64 id, .bool up, .int .i64 room] 57) := by show Blk _ _ _ _; rw [hw0.out]; exact (Blk.new _ _ _).alloc _
  have Z0 : Hid (Blk w0 (w.heap.size + 1) #[.int .i64 0, .slice none 0 0] 39) := by show Blk _ _ _ _; rw [hw0.out]; exact Blk.new2 _ _ _ _
  have hs0 : Hid (w0.heap.size = w.heap.size + 2) := by show _ = _; rw [hw0.out, size2]
  have hs1 : w.heap.size + 1 < w0.heap.size := by have := hs0.out; omega
  obtain ⟨x0, x1, x2, x3, x4⟩ := X0.out.cells5
  go_enter Tryd.func34, Tryd.ntmps34
  go_wp2_with fail
  rw [← hw0.out]
  go_cut [3] (fun p W => ∃ b a5 cap5, p = .pointer (some ⟨b, 0, none⟩) ∧ Hid (StkMet w0 W (w.heap.size + 1) b RR (.slice a5 HS.length cap5) HS))
  case first =>
    go_region_held (fun w' => w'.cell? ⟨w.heap.size, 0, none⟩ = some (.slice (some ⟨g, 0, none⟩) n cap) ∧ w'.cell? ⟨w.heap.size, 1, none⟩ = some (.int .i64 N) ∧ w'.cell? ⟨w.heap.size, 4, none⟩ = some (.int .i64 room)) (first | (go_keep; done) | (refine ⟨(ks2 _ _ _ _ ?_).trans ?_, (ks2 _ _ _ _ ?_).trans ?_, (ks2 _ _ _ _ ?_).trans ?_⟩ <;> first | omega | assumption))
      ((go_at_call 30; refine (HO.out _ ?_).mono ?_; (first | (with_reducible exact B0.out.drew) | exact (B0.out.alloc B0.out.size _).drew); rintro e w1 ⟨a5, cap5, rfl, ho5, hb5⟩; have N5 : Hid (Below w0.heap.size w0 w1) := (by first | (with_reducible exact hide_it (b_drew hb5)) | (with_reducible exact hide_it (b_alloc_drew hb5))); (try (with_reducible have Y5 := hide_it (z_alloc_drew hb5))); have O5 : Hid (w1.ownsRow w0.heap.size 79 2 (.slice a5 HS.length cap5) HS.length (hflat HS)) := (by first | (with_reducible exact hide_it (o_drew ho5)) | (with_reducible exact hide_it (o_alloc_drew ho5))); have Z5 := hide_it (Z0.out.after N5.out); have hs5 := N5.out.size; obtain ⟨y0, y1, y2, y3, y4⟩ := (X0.out.after N5.out).cells5; (try obtain ⟨u0, u1⟩ := Y5.out.cells2); (try obtain ⟨uf0, uf1, -, -, -⟩ := Y5.out.free5); clear ho5 hb5))
    all_goals
      go_wp2_with fail
      go_meet
      case rel => first | exact ⟨_, a5, cap5, rfl, hide_it (stkMet_new N5.out Z5.out O5.out)⟩ | exact ⟨_, a5, cap5, rfl, hide_it (stkMet_set N5.out (by omega) (by omega) Y5.out Z5.out O5.out)⟩
  case rest =>
    obtain ⟨b, a5, cap5, rfl, HMET⟩ := hcut
    have EW := hide_it HMET.out.1
    have YW := hide_it HMET.out.2.1
    have ZW := hide_it HMET.out.2.2.1
    have OW := hide_it HMET.out.2.2.2
    clear HMET x0 x1 x2 x3 x4
    obtain ⟨u0, u1⟩ := YW.out.cells2
    obtain ⟨z0, z1⟩ := ZW.out.cells2
    obtain ⟨zf0, zf1, -, -, -⟩ := ZW.out.free5
    go_wp2
    refine bodyPost_ret (v := .agg #[.int .i64 RR, .slice a5 HS.length cap5]) (by simp [results, Tryd.results34, go_sem, *]) rfl ?_
    refine ⟨a5, cap5, rfl, ?_, ?_⟩
    · exact row_low (row_set (row_set OW.out ZW.out (by decide) _ _) (ZW.out.set_ 0 _) (by decide) _ _) (by omega)
    · exact ((B0.out.trans (EW.out.mono B0.out.size)).setCell (by simp) _).setCell (by simp) _

theorem forcedStock_any (id : Int) (up : Bool) (room : Int) (v : Value) (rs : List R) (f : Int) (a : Addr) (w : World) (hv : Recs w v rs) (hfm : Form v rs.length) (hl : tot rs ≤ 1048576) (h0 : 0 ≤ f) (h1 : f ≤ rs.length) (ha : ErrAt w a) :
    Calls Tryd.prog 34 #[keeperV v f id up room] w fun e w' => SkOut w w' e (oR room (Pl.sOf room (rs.take f.toNat))) (oH (Pl.sOf room (rs.take f.toNat))) := by
  obtain ⟨N, rfl⟩ := Int.eq_ofNat_of_zero_le h0
  have hN : N ≤ rs.length := by omega
  rw [show ((N : Nat) : Int).toNat = N by simp]
  have hrl := tot_len rs
  obtain ⟨ao, cap, rfl⟩ := hv.shape
  have HO : ∀ W, Below w.heap.size w W → Calls Tryd.prog 30 #[.int .i64 room, .slice ao N cap] W fun e w' => StOut W w' e (oR room (Pl.sOf room (rs.take N))) (oH (Pl.sOf room (rs.take N))) (Pl.sOf room (rs.take N)).isSome := fun W h =>
    implOf_any room (.slice ao N cap) (rs.take N) a W ((hv.later h (Nat.le_refl _)).take hN) (Nat.le_trans (pre_take rs N hN) hl) (ha.later h (Nat.le_refl _))
  rcases hfm with ⟨hv0, hn0⟩ | ⟨g, cap', hv0, hc⟩
  · simp only [Value.slice.injEq] at hv0
    obtain ⟨rfl, -, rfl⟩ := hv0
    obtain rfl : N = 0 := by omega
    rw [hn0]
    exact forcedStock_nil id up room _ _ _ w HO
  · simp only [Value.slice.injEq] at hv0
    obtain ⟨rfl, -, rfl⟩ := hv0
    exact forcedStock_some id up room g rs.length cap N _ _ _ w hN hc HO

set_option maxHeartbeats 4000000 in
theorem l11Stock_forced_nil (id : Int) (up : Bool) (room : Int) (RR : Int) (HS : List Pl.H) (BB : Bool) (w : World) 
    (HO : Hid (∀ W, Below w.heap.size w W → Calls Tryd.prog 24 #[.int .i64 room, .slice none 0 0] W fun e w' => StOut W w' e RR HS BB)) :
    Calls Tryd.prog 32 #[houseV id up room (.slice none 0 0) 0, .bool true] w fun e w' => SkOut w w' e RR HS := by
  obtain ⟨w0, hw0⟩ : ∃ W, Hid (W = (w.alloc (.cells #[.int .i64 id, .bool up, .int .i64 room, .slice none 0 0, .int .i64 0] 33)).alloc (.cells #[.int .i64 0, .slice none 0 0] 39)) := ⟨_, rfl⟩
  have B0 : Hid (Below w.heap.size w w0) := by show Below _ _ _; rw [hw0.out]; exact below2 _ _ _
  have X0 : Hid (Blk w0 w.heap.size #[.int .i64 id, .bool up, .int .i64 room, .slice none 0 0, .int .i64 0] 33) := by show Blk _ _ _ _; rw [hw0.out]; exact (Blk.new _ _ _).alloc _
  have Z0 : Hid (Blk w0 (w.heap.size + 1) #[.int .i64 0, .slice none 0 0] 39) := by show Blk _ _ _ _; rw [hw0.out]; exact Blk.new2 _ _ _ _
  have hs0 : Hid (w0.heap.size = w.heap.size + 2) := by show _ = _; rw [hw0.out, size2]
  have hs1 : w.heap.size + 1 < w0.heap.size := by have := hs0.out; omega
  obtain ⟨x0, x1, x2, x3, x4⟩ := X0.out.cells5
  go_enter Tryd.func32, Tryd.ntmps32
  go_wp2_with fail
  rw [← hw0.out]
  go_cut [6] (fun p W => ∃ b a5 cap5, p = .pointer (some ⟨b, 0, none⟩) ∧ Hid (StkMet w0 W (w.heap.size + 1) b RR (.slice a5 HS.length cap5) HS))
  case first =>
    go_region_held (fun w' => w'.cell? ⟨w.heap.size, 2, none⟩ = some (.int .i64 room) ∧ w'.cell? ⟨w.heap.size, 3, none⟩ = some (.slice none 0 0) ∧ w'.cell? ⟨w.heap.size, 0, none⟩ = some (.int .i64 id)) (first | (go_keep; done) | (refine ⟨(ks2 _ _ _ _ ?_).trans ?_, (ks2 _ _ _ _ ?_).trans ?_, (ks2 _ _ _ _ ?_).trans ?_⟩ <;> first | omega | assumption))
      ((go_at_call 24; refine (HO.out _ ?_).mono ?_; (first | (with_reducible exact B0.out.drew) | exact (B0.out.alloc B0.out.size _).drew); rintro e w1 ⟨a5, cap5, rfl, ho5, hb5⟩; have N5 : Hid (Below w0.heap.size w0 w1) := (by first | (with_reducible exact hide_it (b_drew hb5)) | (with_reducible exact hide_it (b_alloc_drew hb5))); (try (with_reducible have Y5 := hide_it (z_alloc_drew hb5))); have O5 : Hid (w1.ownsRow w0.heap.size 79 2 (.slice a5 HS.length cap5) HS.length (hflat HS)) := (by first | (with_reducible exact hide_it (o_drew ho5)) | (with_reducible exact hide_it (o_alloc_drew ho5))); have Z5 := hide_it (Z0.out.after N5.out); have hs5 := N5.out.size; obtain ⟨y0, y1, y2, y3, y4⟩ := (X0.out.after N5.out).cells5; (try obtain ⟨u0, u1⟩ := Y5.out.cells2); (try obtain ⟨uf0, uf1, -, -, -⟩ := Y5.out.free5); clear ho5 hb5))
    all_goals
      go_wp2_with fail
      go_meet
      case rel => first | exact ⟨_, a5, cap5, rfl, hide_it (stkMet_new N5.out Z5.out O5.out)⟩ | exact ⟨_, a5, cap5, rfl, hide_it (stkMet_set N5.out (by omega) (by omega) Y5.out Z5.out O5.out)⟩
  case rest =>
    obtain ⟨b, a5, cap5, rfl, HMET⟩ := hcut
    have EW := hide_it HMET.out.1
    have YW := hide_it HMET.out.2.1
    have ZW := hide_it HMET.out.2.2.1
    have OW := hide_it HMET.out.2.2.2
    clear HMET x0 x1 x2 x3 x4
    obtain ⟨u0, u1⟩ := YW.out.cells2
    obtain ⟨z0, z1⟩ := ZW.out.cells2
    obtain ⟨zf0, zf1, -, -, -⟩ := ZW.out.free5
    go_wp2
    refine bodyPost_ret (v := .agg #[.int .i64 RR, .slice a5 HS.length cap5]) (by simp [results, Tryd.results32, go_sem, *]) rfl ?_
    refine ⟨a5, cap5, rfl, ?_, ?_⟩
    · exact row_low (row_set (row_set OW.out ZW.out (by decide) _ _) (ZW.out.set_ 0 _) (by decide) _ _) (by omega)
    · exact ((B0.out.trans (EW.out.mono B0.out.size)).setCell (by simp) _).setCell (by simp) _

set_option maxHeartbeats 4000000 in
theorem l11Stock_forced_some (id : Int) (up : Bool) (room : Int) (g n cap N : Nat) (RR : Int) (HS : List Pl.H) (BB : Bool) (w : World) (hN : N ≤ n) (hc : n ≤ cap)
    (HO : Hid (∀ W, Below w.heap.size w W → Calls Tryd.prog 24 #[.int .i64 room, .slice (some ⟨g, 0, none⟩) N cap] W fun e w' => StOut W w' e RR HS BB)) :
    Calls Tryd.prog 32 #[houseV id up room (.slice (some ⟨g, 0, none⟩) n cap) N, .bool true] w fun e w' => SkOut w w' e RR HS := by
  obtain ⟨w0, hw0⟩ : ∃ W, Hid (W = (w.alloc (.cells #[.int .i64 id, .bool up, .int .i64 room, .slice (some ⟨g, 0, none⟩) n cap, .int .i64 N] 33)).alloc (.cells #[.int .i64 0, .slice none 0 0] 39)) := ⟨_, rfl⟩
  have B0 : Hid (Below w.heap.size w w0) := by show Below _ _ _; rw [hw0.out]; exact below2 _ _ _
  have X0 : Hid (Blk w0 w.heap.size #[.int .i64 id, .bool up, .int .i64 room, .slice (some ⟨g, 0, none⟩) n cap, .int .i64 N] 33) := by show Blk _ _ _ _; rw [hw0.out]; exact (Blk.new _ _ _).alloc _
  have Z0 : Hid (Blk w0 (w.heap.size + 1) #[.int .i64 0, .slice none 0 0] 39) := by show Blk _ _ _ _; rw [hw0.out]; exact Blk.new2 _ _ _ _
  have hs0 : Hid (w0.heap.size = w.heap.size + 2) := by show _ = _; rw [hw0.out, size2]
  have hs1 : w.heap.size + 1 < w0.heap.size := by have := hs0.out; omega
  obtain ⟨x0, x1, x2, x3, x4⟩ := X0.out.cells5
  go_enter Tryd.func32, Tryd.ntmps32
  go_wp2_with fail
  rw [← hw0.out]
  go_cut [6] (fun p W => ∃ b a5 cap5, p = .pointer (some ⟨b, 0, none⟩) ∧ Hid (StkMet w0 W (w.heap.size + 1) b RR (.slice a5 HS.length cap5) HS))
  case first =>
    go_region_held (fun w' => w'.cell? ⟨w.heap.size, 2, none⟩ = some (.int .i64 room) ∧ w'.cell? ⟨w.heap.size, 3, none⟩ = some (.slice (some ⟨g, 0, none⟩) n cap) ∧ w'.cell? ⟨w.heap.size, 0, none⟩ = some (.int .i64 id)) (first | (go_keep; done) | (refine ⟨(ks2 _ _ _ _ ?_).trans ?_, (ks2 _ _ _ _ ?_).trans ?_, (ks2 _ _ _ _ ?_).trans ?_⟩ <;> first | omega | assumption))
      ((go_at_call 24; refine (HO.out _ ?_).mono ?_; (first | (with_reducible exact B0.out.drew) | exact (B0.out.alloc B0.out.size _).drew); rintro e w1 ⟨a5, cap5, rfl, ho5, hb5⟩; have N5 : Hid (Below w0.heap.size w0 w1) := (by first | (with_reducible exact hide_it (b_drew hb5)) | (with_reducible exact hide_it (b_alloc_drew hb5))); (try (with_reducible have Y5 := hide_it (z_alloc_drew hb5))); have O5 : Hid (w1.ownsRow w0.heap.size 79 2 (.slice a5 HS.length cap5) HS.length (hflat HS)) := (by first | (with_reducible exact hide_it (o_drew ho5)) | (with_reducible exact hide_it (o_alloc_drew ho5))); have Z5 := hide_it (Z0.out.after N5.out); have hs5 := N5.out.size; obtain ⟨y0, y1, y2, y3, y4⟩ := (X0.out.after N5.out).cells5; (try obtain ⟨u0, u1⟩ := Y5.out.cells2); (try obtain ⟨uf0, uf1, -, -, -⟩ := Y5.out.free5); clear ho5 hb5))
    all_goals
      go_wp2_with fail
      go_meet
      case rel => first | exact ⟨_, a5, cap5, rfl, hide_it (stkMet_new N5.out Z5.out O5.out)⟩ | exact ⟨_, a5, cap5, rfl, hide_it (stkMet_set N5.out (by omega) (by omega) Y5.out Z5.out O5.out)⟩
  case rest =>
    obtain ⟨b, a5, cap5, rfl, HMET⟩ := hcut
    have EW := hide_it HMET.out.1
    have YW := hide_it HMET.out.2.1
    have ZW := hide_it HMET.out.2.2.1
    have OW := hide_it HMET.out.2.2.2
    clear HMET x0 x1 x2 x3 x4
    obtain ⟨u0, u1⟩ := YW.out.cells2
    obtain ⟨z0, z1⟩ := ZW.out.cells2
    obtain ⟨zf0, zf1, -, -, -⟩ := ZW.out.free5
    go_wp2
    refine bodyPost_ret (v := .agg #[.int .i64 RR, .slice a5 HS.length cap5]) (by simp [results, Tryd.results32, go_sem, *]) rfl ?_
    refine ⟨a5, cap5, rfl, ?_, ?_⟩
    · exact row_low (row_set (row_set OW.out ZW.out (by decide) _ _) (ZW.out.set_ 0 _) (by decide) _ _) (by omega)
    · exact ((B0.out.trans (EW.out.mono B0.out.size)).setCell (by simp) _).setCell (by simp) _

set_option maxHeartbeats 4000000 in
theorem l11Stock_all_nil (id : Int) (up : Bool) (room : Int) (f : Int) (RR : Int) (HS : List Pl.H) (BB : Bool) (w : World) 
    (HO : Hid (∀ W, Below w.heap.size w W → Calls Tryd.prog 24 #[.int .i64 room, .slice none 0 0] W fun e w' => StOut W w' e RR HS BB)) :
    Calls Tryd.prog 32 #[houseV id up room (.slice none 0 0) f, .bool false] w fun e w' => SkOut w w' e RR HS := by
  obtain ⟨w0, hw0⟩ : ∃ W, Hid (W = (w.alloc (.cells #[.int .i64 id, .bool up, .int .i64 room, .slice none 0 0, .int .i64 f] 33)).alloc (.cells #[.int .i64 0, .slice none 0 0] 39)) := ⟨_, rfl⟩
  have B0 : Hid (Below w.heap.size w w0) := by show Below _ _ _; rw [hw0.out]; exact below2 _ _ _
  have X0 : Hid (Blk w0 w.heap.size #[.int .i64 id, .bool up, .int .i64 room, .slice none 0 0, .int .i64 f] 33) := by show Blk _ _ _ _; rw [hw0.out]; exact (Blk.new _ _ _).alloc _
  have Z0 : Hid (Blk w0 (w.heap.size + 1) #[.int .i64 0, .slice none 0 0] 39) := by show Blk _ _ _ _; rw [hw0.out]; exact Blk.new2 _ _ _ _
  have hs0 : Hid (w0.heap.size = w.heap.size + 2) := by show _ = _; rw [hw0.out, size2]
  have hs1 : w.heap.size + 1 < w0.heap.size := by have := hs0.out; omega
  obtain ⟨x0, x1, x2, x3, x4⟩ := X0.out.cells5
  go_enter Tryd.func32, Tryd.ntmps32
  go_wp2_with fail
  rw [← hw0.out]
  go_cut [6] (fun p W => ∃ b a5 cap5, p = .pointer (some ⟨b, 0, none⟩) ∧ Hid (StkMet w0 W (w.heap.size + 1) b RR (.slice a5 HS.length cap5) HS))
  case first =>
    go_region_held (fun w' => w'.cell? ⟨w.heap.size, 2, none⟩ = some (.int .i64 room) ∧ w'.cell? ⟨w.heap.size, 3, none⟩ = some (.slice none 0 0) ∧ w'.cell? ⟨w.heap.size, 0, none⟩ = some (.int .i64 id)) (first | (go_keep; done) | (refine ⟨(ks2 _ _ _ _ ?_).trans ?_, (ks2 _ _ _ _ ?_).trans ?_, (ks2 _ _ _ _ ?_).trans ?_⟩ <;> first | omega | assumption))
      ((go_at_call 24; refine (HO.out _ ?_).mono ?_; (first | (with_reducible exact B0.out.drew) | exact (B0.out.alloc B0.out.size _).drew); rintro e w1 ⟨a5, cap5, rfl, ho5, hb5⟩; have N5 : Hid (Below w0.heap.size w0 w1) := (by first | (with_reducible exact hide_it (b_drew hb5)) | (with_reducible exact hide_it (b_alloc_drew hb5))); (try (with_reducible have Y5 := hide_it (z_alloc_drew hb5))); have O5 : Hid (w1.ownsRow w0.heap.size 79 2 (.slice a5 HS.length cap5) HS.length (hflat HS)) := (by first | (with_reducible exact hide_it (o_drew ho5)) | (with_reducible exact hide_it (o_alloc_drew ho5))); have Z5 := hide_it (Z0.out.after N5.out); have hs5 := N5.out.size; obtain ⟨y0, y1, y2, y3, y4⟩ := (X0.out.after N5.out).cells5; (try obtain ⟨u0, u1⟩ := Y5.out.cells2); (try obtain ⟨uf0, uf1, -, -, -⟩ := Y5.out.free5); clear ho5 hb5))
    all_goals
      go_wp2_with fail
      go_meet
      case rel => first | exact ⟨_, a5, cap5, rfl, hide_it (stkMet_new N5.out Z5.out O5.out)⟩ | exact ⟨_, a5, cap5, rfl, hide_it (stkMet_set N5.out (by omega) (by omega) Y5.out Z5.out O5.out)⟩
  case rest =>
    obtain ⟨b, a5, cap5, rfl, HMET⟩ := hcut
    have EW := hide_it HMET.out.1
    have YW := hide_it HMET.out.2.1
    have ZW := hide_it HMET.out.2.2.1
    have OW := hide_it HMET.out.2.2.2
    clear HMET x0 x1 x2 x3 x4
    obtain ⟨u0, u1⟩ := YW.out.cells2
    obtain ⟨z0, z1⟩ := ZW.out.cells2
    obtain ⟨zf0, zf1, -, -, -⟩ := ZW.out.free5
    go_wp2
    refine bodyPost_ret (v := .agg #[.int .i64 RR, .slice a5 HS.length cap5]) (by simp [results, Tryd.results32, go_sem, *]) rfl ?_
    refine ⟨a5, cap5, rfl, ?_, ?_⟩
    · exact row_low (row_set (row_set OW.out ZW.out (by decide) _ _) (ZW.out.set_ 0 _) (by decide) _ _) (by omega)
    · exact ((B0.out.trans (EW.out.mono B0.out.size)).setCell (by simp) _).setCell (by simp) _

set_option maxHeartbeats 4000000 in
theorem l11Stock_all_some (id : Int) (up : Bool) (room : Int) (f : Int) (g n cap : Nat) (RR : Int) (HS : List Pl.H) (BB : Bool) (w : World) (hc : n ≤ cap)
    (HO : Hid (∀ W, Below w.heap.size w W → Calls Tryd.prog 24 #[.int .i64 room, .slice (some ⟨g, 0, none⟩) n cap] W fun e w' => StOut W w' e RR HS BB)) :
    Calls Tryd.prog 32 #[houseV id up room (.slice (some ⟨g, 0, none⟩) n cap) f, .bool false] w fun e w' => SkOut w w' e RR HS := by
  obtain ⟨w0, hw0⟩ : ∃ W, Hid (W = (w.alloc (.cells #[.int .i64 id, .bool up, .int .i64 room, .slice (some ⟨g, 0, none⟩) n cap, .int .i64 f] 33)).alloc (.cells #[.int .i64 0, .slice none 0 0] 39)) := ⟨_, rfl⟩
  have B0 : Hid (Below w.heap.size w w0) := by show Below _ _ _; rw [hw0.out]; exact below2 _ _ _
  have X0 : Hid (Blk w0 w.heap.size #[.int .i64 id, .bool up, .int .i64 room, .slice (some ⟨g, 0, none⟩) n cap, .int .i64 f] 33) := by show Blk _ _ _ _; rw [hw0.out]; exact (Blk.new _ _ _).alloc _
  have Z0 : Hid (Blk w0 (w.heap.size + 1) #[.int .i64 0, .slice none 0 0] 39) := by show Blk _ _ _ _; rw [hw0.out]; exact Blk.new2 _ _ _ _
  have hs0 : Hid (w0.heap.size = w.heap.size + 2) := by show _ = _; rw [hw0.out, size2]
  have hs1 : w.heap.size + 1 < w0.heap.size := by have := hs0.out; omega
  obtain ⟨x0, x1, x2, x3, x4⟩ := X0.out.cells5
  go_enter Tryd.func32, Tryd.ntmps32
  go_wp2_with fail
  rw [← hw0.out]
  go_cut [6] (fun p W => ∃ b a5 cap5, p = .pointer (some ⟨b, 0, none⟩) ∧ Hid (StkMet w0 W (w.heap.size + 1) b RR (.slice a5 HS.length cap5) HS))
  case first =>
    go_region_held (fun w' => w'.cell? ⟨w.heap.size, 2, none⟩ = some (.int .i64 room) ∧ w'.cell? ⟨w.heap.size, 3, none⟩ = some (.slice (some ⟨g, 0, none⟩) n cap) ∧ w'.cell? ⟨w.heap.size, 0, none⟩ = some (.int .i64 id)) (first | (go_keep; done) | (refine ⟨(ks2 _ _ _ _ ?_).trans ?_, (ks2 _ _ _ _ ?_).trans ?_, (ks2 _ _ _ _ ?_).trans ?_⟩ <;> first | omega | assumption))
      ((go_at_call 24; refine (HO.out _ ?_).mono ?_; (first | (with_reducible exact B0.out.drew) | exact (B0.out.alloc B0.out.size _).drew); rintro e w1 ⟨a5, cap5, rfl, ho5, hb5⟩; have N5 : Hid (Below w0.heap.size w0 w1) := (by first | (with_reducible exact hide_it (b_drew hb5)) | (with_reducible exact hide_it (b_alloc_drew hb5))); (try (with_reducible have Y5 := hide_it (z_alloc_drew hb5))); have O5 : Hid (w1.ownsRow w0.heap.size 79 2 (.slice a5 HS.length cap5) HS.length (hflat HS)) := (by first | (with_reducible exact hide_it (o_drew ho5)) | (with_reducible exact hide_it (o_alloc_drew ho5))); have Z5 := hide_it (Z0.out.after N5.out); have hs5 := N5.out.size; obtain ⟨y0, y1, y2, y3, y4⟩ := (X0.out.after N5.out).cells5; (try obtain ⟨u0, u1⟩ := Y5.out.cells2); (try obtain ⟨uf0, uf1, -, -, -⟩ := Y5.out.free5); clear ho5 hb5))
    all_goals
      go_wp2_with fail
      go_meet
      case rel => first | exact ⟨_, a5, cap5, rfl, hide_it (stkMet_new N5.out Z5.out O5.out)⟩ | exact ⟨_, a5, cap5, rfl, hide_it (stkMet_set N5.out (by omega) (by omega) Y5.out Z5.out O5.out)⟩
  case rest =>
    obtain ⟨b, a5, cap5, rfl, HMET⟩ := hcut
    have EW := hide_it HMET.out.1
    have YW := hide_it HMET.out.2.1
    have ZW := hide_it HMET.out.2.2.1
    have OW := hide_it HMET.out.2.2.2
    clear HMET x0 x1 x2 x3 x4
    obtain ⟨u0, u1⟩ := YW.out.cells2
    obtain ⟨z0, z1⟩ := ZW.out.cells2
    obtain ⟨zf0, zf1, -, -, -⟩ := ZW.out.free5
    go_wp2
    refine bodyPost_ret (v := .agg #[.int .i64 RR, .slice a5 HS.length cap5]) (by simp [results, Tryd.results32, go_sem, *]) rfl ?_
    refine ⟨a5, cap5, rfl, ?_, ?_⟩
    · exact row_low (row_set (row_set OW.out ZW.out (by decide) _ _) (ZW.out.set_ 0 _) (by decide) _ _) (by omega)
    · exact ((B0.out.trans (EW.out.mono B0.out.size)).setCell (by simp) _).setCell (by simp) _

theorem l11Stock_any (id : Int) (up : Bool) (room : Int) (v : Value) (rs : List R) (f : Int) (forced : Bool) (w : World) (hv : Recs w v rs) (hfm : Form v rs.length) (hl : tot rs ≤ 1048576) (h0 : 0 ≤ f) (h1 : f ≤ rs.length) :
    Calls Tryd.prog 32 #[houseV id up room v f, .bool forced] w fun e w' => SkOut w w' e (oR room (Pl.sOf room (cutR rs f forced))) (oH (Pl.sOf room (cutR rs f forced))) := by
  obtain ⟨N, rfl⟩ := Int.eq_ofNat_of_zero_le h0
  have hN : N ≤ rs.length := by omega
  obtain ⟨ao, cap, rfl⟩ := hv.shape
  cases forced
  · have hcut : cutR rs (N : Int) false = rs := by simp [cutR]
    rw [hcut]
    have HO : ∀ W, Below w.heap.size w W → Calls Tryd.prog 24 #[.int .i64 room, .slice ao rs.length cap] W fun e w' => StOut W w' e (oR room (Pl.sOf room rs)) (oH (Pl.sOf room rs)) (Pl.sOf room rs).isSome := fun W h =>
      l2Of_any room (.slice ao rs.length cap) rs W (hv.later h (Nat.le_refl _)) hl
    rcases hfm with ⟨hv0, hn0⟩ | ⟨g, cap', hv0, hc⟩
    · simp only [Value.slice.injEq] at hv0
      obtain ⟨rfl, -, rfl⟩ := hv0
      rw [hn0] at HO ⊢
      exact l11Stock_all_nil id up room _ _ _ _ w HO
    · simp only [Value.slice.injEq] at hv0
      obtain ⟨rfl, -, rfl⟩ := hv0
      exact l11Stock_all_some id up room _ g rs.length cap _ _ _ w hc HO
  · have hcut : cutR rs (N : Int) true = rs.take N := by simp [cutR]
    rw [hcut]
    have HO : ∀ W, Below w.heap.size w W → Calls Tryd.prog 24 #[.int .i64 room, .slice ao N cap] W fun e w' => StOut W w' e (oR room (Pl.sOf room (rs.take N))) (oH (Pl.sOf room (rs.take N))) (Pl.sOf room (rs.take N)).isSome := fun W h =>
      l2Of_any room (.slice ao N cap) (rs.take N) W ((hv.later h (Nat.le_refl _)).take hN) (Nat.le_trans (pre_take rs N hN) hl)
    rcases hfm with ⟨hv0, hn0⟩ | ⟨g, cap', hv0, hc⟩
    · simp only [Value.slice.injEq] at hv0
      obtain ⟨rfl, -, rfl⟩ := hv0
      obtain rfl : N = 0 := by omega
      rw [hn0]
      exact l11Stock_forced_nil id up room _ _ _ w HO
    · simp only [Value.slice.injEq] at hv0
      obtain ⟨rfl, -, rfl⟩ := hv0
      exact l11Stock_forced_some id up room g rs.length cap N _ _ _ w hN hc HO

end Go.Proofs.YtclcehfaoeoipaaDoor
