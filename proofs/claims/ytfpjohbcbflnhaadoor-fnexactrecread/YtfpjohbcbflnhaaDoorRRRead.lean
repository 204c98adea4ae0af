/- The contract of the program's RecRead: the record whose text it is, in memory of the call's own, or that there is none. For every text. -/
import Derived.Test.YtfpjohbcbflnhaaDoorRREntry
import Derived.Test.YtfpjohbcbflnhaaDoorIs
namespace Go.Proofs.YtfpjohbcbflnhaaDoor
open Go.RowKit

theorem mkindH (t z : Int) (w : World) : Sem.run Tryd.prog (Go.method 273 76 (.agg #[.int .i64 t, .int .i64 z]) "loop.example/concierge/impl.kind") w = .ok (107, .agg #[.int .i64 t, .int .i64 z]) w := by kernel_rfl
theorem mtripH (t z : Int) (w : World) : Sem.run Tryd.prog (Go.method 273 76 (.agg #[.int .i64 t, .int .i64 z]) "loop.example/concierge/impl.trip") w = .ok (108, .agg #[.int .i64 t, .int .i64 z]) w := by kernel_rfl
theorem mkindB (t x y z : Int) (w : World) : Sem.run Tryd.prog (Go.method 273 79 (.agg #[.int .i64 t, .int .i64 x, .int .i64 y, .int .i64 z]) "loop.example/concierge/impl.kind") w = .ok (109, .agg #[.int .i64 t, .int .i64 x, .int .i64 y, .int .i64 z]) w := by kernel_rfl
theorem mtripB (t x y z : Int) (w : World) : Sem.run Tryd.prog (Go.method 273 79 (.agg #[.int .i64 t, .int .i64 x, .int .i64 y, .int .i64 z]) "loop.example/concierge/impl.trip") w = .ok (110, .agg #[.int .i64 t, .int .i64 x, .int .i64 y, .int .i64 z]) w := by kernel_rfl
theorem mkindP (k t : Int) (w : World) : Sem.run Tryd.prog (Go.method 273 81 (.agg #[.int .i64 k, .int .i64 t]) "loop.example/concierge/impl.kind") w = .ok (111, .agg #[.int .i64 k, .int .i64 t]) w := by kernel_rfl
theorem mtripP (k t : Int) (w : World) : Sem.run Tryd.prog (Go.method 273 81 (.agg #[.int .i64 k, .int .i64 t]) "loop.example/concierge/impl.trip") w = .ok (112, .agg #[.int .i64 k, .int .i64 t]) w := by kernel_rfl

/-- What RecRead gives. -/
def RdRO (s : ByteArray) (base : Nat) (e : Ending) (w' : World) : Prop :=
  ∃ k t zs b v, e = .returned (.tuple #[.agg #[.int .i64 k, .int .i64 t, v], .bool b]) ∧ Pl.RdR s k t zs b ∧ w'.ownsRow base 3 1 v zs.length (zs.map (Value.int .i64))

theorem zeroR {w W w0 : World} (h0 : w0 = w.alloc (.cells #[.int .i64 0, .int .i64 0, .slice none 0 0] 25)) (hb : Below w0.heap.size w0 W) :
    (W.cell? ⟨w.heap.size, 0, none⟩ = some (.int .i64 0) ∧ W.cell? ⟨w.heap.size, 1, none⟩ = some (.int .i64 0) ∧ W.cell? ⟨w.heap.size, 2, none⟩ = some (.slice none 0 0)) ∧ ∀ j, W.frozen? ⟨w.heap.size, j, none⟩ = false := by
  subst h0
  have q2 : W.heap[w.heap.size]? = some (.cells #[.int .i64 0, .int .i64 0, .slice none 0 0] 25 (0, 0)) := by
    rw [hb.block _ (by simp)]; exact heap_alloc_new w _
  refine ⟨⟨?_, ?_, ?_⟩, fun j => frozen_of_row _ _ _ _ _ q2⟩ <;> rw [cell_of_row _ _ _ _ _ _ q2] <;> rfl
theorem below3s {w W : World} {b n : Nat} (h : Below n w W) (hb : n ≤ b) (x y z : Value) : Below n w (((W.setCell ⟨b, 0, none⟩ x).setCell ⟨b, 1, none⟩ y).setCell ⟨b, 2, none⟩ z) :=
  ((h.setCell (p := ⟨b, 0, none⟩) hb _).setCell (p := ⟨b, 1, none⟩) hb _).setCell (p := ⟨b, 2, none⟩) hb _

set_option maxRecDepth 100000 in
set_option maxHeartbeats 400000 in
theorem implRecRead_any (s : ByteArray) (a : Addr) (w : World) (hE : ErrV w) (ha : ErrAt w a) (hK : Kinds8 w) :
    Calls Tryd.prog 11 #[.string s] w fun e w' => RdRO s w.heap.size e w' ∧ Below w.heap.size w w' := by
  obtain ⟨w0, hw0⟩ : ∃ W, Hid (W = w.alloc (.cells #[.int .i64 0, .int .i64 0, .slice none 0 0] 25)) := ⟨_, rfl⟩
  have B0 : Hid (Below w.heap.size w w0) := by show Below _ _ _; rw [hw0.out]; exact (Below.refl _ _).alloc (Nat.le_refl _) _
  have HA := hide_it (fun W (hb : Below w0.heap.size w0 W) => ha.later (B0.out.trans (hb.mono B0.out.size)) (Nat.le_refl _))
  have HR := hide_it (rentry_any s a w0 (hE.later B0.out (Nat.le_refl _)) (ha.later B0.out (Nat.le_refl _)) (hK.later B0.out (Nat.le_refl _)))
  clear hE ha hK
  go_enter Tryd.func11, Tryd.ntmps11
  go_wp2_with fail
  rw [← hw0.out]
  refine HR.out.mono ?_
  rintro e w1 ⟨hre, hb1⟩
  have B1 := hide_it hb1
  clear hb1 HR
  have herr : w1.cell? ⟨0, 0, none⟩ = some (.iface 137 (.pointer (some a))) := HA.out w1 B1.out
  rcases hre with ⟨k, t, zs, rfl, hok, hr⟩ | ⟨rfl, hr⟩
  · have RR := hide_it hr
    clear hr
    obtain ⟨E, hE⟩ : ∃ E, Hid (entV k t zs = E) := ⟨_, rfl⟩
    rw [hE.out]
    go_wp2_with fail
    refine (is_nil a _).mono ?_
    rintro e wq ⟨rfl, hwq⟩
    rw [hwq]
    clear hwq
    have ht : 1 ≤ t ∧ t ≤ 6 := by
      have h : Pl.inB t 1 6 = true := by
        simp only [Pl.recOk, Bool.and_eq_true] at hok; exact hok.1
      exact Pl.inB_true h
    have hT := Pl.inB_mk ht.1 ht.2
    by_cases k1 : k = 1
    · subst k1
      rw [Pl.recOk_1 t zs hT] at hok
      obtain ⟨z, rfl⟩ : ∃ z, zs = [z] := by
        simp only [Pl.holdOk, Bool.and_eq_true, beq_iff_eq] at hok
        obtain ⟨z, e⟩ := List.length_eq_one_iff.1 hok.1
        exact ⟨z, e⟩
      have HEE : Hid (E = holdV t z) := hE.out.symm
      clear hE hok hT ht
      rw [HEE.out]
      have m1 := mkindH t z
      have m2 := mtripH t z
      go_wp2_with fail
      refine (kindH t z _).mono ?_
      rintro e w2 ⟨rfl, hb2⟩
      have B2 := hide_it (B1.out.trans (hb2.mono B1.out.size))
      clear hb2
      go_wp2_with fail
      refine (tripH t z _).mono ?_
      rintro e w3 ⟨rfl, hb3⟩
      have B3 := hide_it (B2.out.trans (hb3.mono B2.out.size))
      clear hb3
      go_wp2_with fail
      refine (manyH t z _).mono ?_
      rintro e w4 ⟨v, rfl, ho4, hb4⟩
      have B4 := hide_it (B3.out.trans (hb4.mono B3.out.size))
      obtain ⟨g, cap, hv⟩ := ownsRow_one (n := 0) ho4
      subst hv
      have hwl : w.heap.size ≤ w3.heap.size := by have := (B0.out.trans (B3.out.mono B0.out.size)).size; exact this
      obtain ⟨⟨z0, z1, z2⟩, zf⟩ := zeroR hw0.out B4.out
      have OW : Hid (((((w4.setCell ⟨w.heap.size, 0, none⟩ (.int .i64 1)).setCell ⟨w.heap.size, 1, none⟩ (.int .i64 t)).setCell ⟨w.heap.size, 2, none⟩ (.slice (some ⟨g, 0, none⟩) 1 cap)).ownsRow w.heap.size 3 1 (.slice (some ⟨g, 0, none⟩) 1 cap) 1 [.int .i64 z])) := by
        have hw0s : w0.heap.size = w.heap.size + 1 := by rw [hw0.out]; simp
        have hgt : w.heap.size < w3.heap.size := by have := B3.out.size; omega
        exact ownsRow_base (ownsRow_setCell_below (ownsRow_setCell_below (ownsRow_setCell_below ho4 (by simpa using hgt) _) (by simpa using hgt) _) (by simpa using hgt) _) hwl
      clear hb4
      go_wp2
      exact bodyPost_ret (v := .tuple #[.agg #[.int .i64 1, .int .i64 t, .slice (some ⟨g, 0, none⟩) 1 cap], .bool true]) (by simp [results, Tryd.results11, go_sem, z0, z1, z2]) rfl ⟨⟨1, t, [z], true, .slice (some ⟨g, 0, none⟩) 1 cap, rfl, RR.out, OW.out⟩, below3s (B0.out.trans (B4.out.mono B0.out.size)) (Nat.le_refl _) _ _ _⟩
    by_cases k4 : k = 4
    · subst k4
      rw [Pl.recOk_4 t zs hT] at hok
      obtain ⟨x, y, z, rfl, -⟩ := manyOk_three hok
      have HEE : Hid (E = beginV t x y z) := hE.out.symm
      clear hE hok hT ht
      rw [HEE.out]
      have m1 := mkindB t x y z
      have m2 := mtripB t x y z
      go_wp2_with fail
      refine (kindB t x y z _).mono ?_
      rintro e w2 ⟨rfl, hb2⟩
      have B2 := hide_it (B1.out.trans (hb2.mono B1.out.size))
      clear hb2
      go_wp2_with fail
      refine (tripB t x y z _).mono ?_
      rintro e w3 ⟨rfl, hb3⟩
      have B3 := hide_it (B2.out.trans (hb3.mono B2.out.size))
      clear hb3
      go_wp2_with fail
      refine (manyB t x y z _).mono ?_
      rintro e w4 ⟨v, rfl, ho4, hb4⟩
      have B4 := hide_it (B3.out.trans (hb4.mono B3.out.size))
      obtain ⟨g, cap, hv⟩ := ownsRow_one (n := 2) ho4
      subst hv
      have hwl : w.heap.size ≤ w3.heap.size := by have := (B0.out.trans (B3.out.mono B0.out.size)).size; exact this
      obtain ⟨⟨z0, z1, z2⟩, zf⟩ := zeroR hw0.out B4.out
      have OW : Hid (((((w4.setCell ⟨w.heap.size, 0, none⟩ (.int .i64 4)).setCell ⟨w.heap.size, 1, none⟩ (.int .i64 t)).setCell ⟨w.heap.size, 2, none⟩ (.slice (some ⟨g, 0, none⟩) 3 cap)).ownsRow w.heap.size 3 1 (.slice (some ⟨g, 0, none⟩) 3 cap) 3 [.int .i64 x, .int .i64 y, .int .i64 z])) := by
        have hw0s : w0.heap.size = w.heap.size + 1 := by rw [hw0.out]; simp
        have hgt : w.heap.size < w3.heap.size := by have := B3.out.size; omega
        exact ownsRow_base (ownsRow_setCell_below (ownsRow_setCell_below (ownsRow_setCell_below ho4 (by simpa using hgt) _) (by simpa using hgt) _) (by simpa using hgt) _) hwl
      clear hb4
      go_wp2
      exact bodyPost_ret (v := .tuple #[.agg #[.int .i64 4, .int .i64 t, .slice (some ⟨g, 0, none⟩) 3 cap], .bool true]) (by simp [results, Tryd.results11, go_sem, z0, z1, z2]) rfl ⟨⟨4, t, [x, y, z], true, .slice (some ⟨g, 0, none⟩) 3 cap, rfl, RR.out, OW.out⟩, below3s (B0.out.trans (B4.out.mono B0.out.size)) (Nat.le_refl _) _ _ _⟩
    · rw [Pl.recOk_p k t zs hT k1 k4, Bool.and_eq_true] at hok
      obtain rfl : zs = [] := List.length_eq_zero_iff.1 (by simpa using hok.2)
      have HEE : Hid (E = plainV k t) := by show _ = _; rw [← hE.out]; unfold entV; rw [if_neg k1, if_neg k4]
      clear hE hok hT ht
      rw [HEE.out]
      have m1 := mkindP k t
      have m2 := mtripP k t
      go_wp2_with fail
      refine (kindP k t _).mono ?_
      rintro e w2 ⟨rfl, hb2⟩
      have B2 := hide_it (B1.out.trans (hb2.mono B1.out.size))
      clear hb2
      go_wp2_with fail
      refine (tripP k t _).mono ?_
      rintro e w3 ⟨rfl, hb3⟩
      have B3 := hide_it (B2.out.trans (hb3.mono B2.out.size))
      clear hb3
      go_wp2_with fail
      refine (manyP k t _).mono ?_
      rintro e w4 ⟨rfl, hb4⟩
      have B4 := hide_it (B3.out.trans (hb4.mono B3.out.size))
      have OW : Hid (((((w4.setCell ⟨w.heap.size, 0, none⟩ (.int .i64 k)).setCell ⟨w.heap.size, 1, none⟩ (.int .i64 t)).setCell ⟨w.heap.size, 2, none⟩ (.slice none 0 0)).ownsRow w.heap.size 3 1 (.slice none 0 0) 0 [])) := World.ownsRow_nil _ _ _ _
      obtain ⟨⟨z0, z1, z2⟩, zf⟩ := zeroR hw0.out B4.out
      clear hb4
      go_wp2
      exact bodyPost_ret (v := .tuple #[.agg #[.int .i64 k, .int .i64 t, .slice none 0 0], .bool true]) (by simp [results, Tryd.results11, go_sem, z0, z1, z2]) rfl ⟨⟨k, t, [], true, .slice none 0 0, rfl, RR.out, OW.out⟩, below3s (B0.out.trans (B4.out.mono B0.out.size)) (Nat.le_refl _) _ _ _⟩
  · have RR := hide_it hr
    clear hr
    go_wp2_with fail
    refine (is_same a _).mono ?_
    rintro e wq ⟨rfl, hwq⟩
    rw [hwq]
    clear hwq
    obtain ⟨⟨z0, z1, z2⟩, zf⟩ := zeroR hw0.out B1.out
    go_wp2
    exact bodyPost_ret (v := .tuple #[.agg #[.int .i64 0, .int .i64 0, .slice none 0 0], .bool false]) (by simp [results, Tryd.results11, go_sem, z0, z1, z2]) rfl ⟨⟨0, 0, [], false, .slice none 0 0, rfl, RR.out, World.ownsRow_nil _ _ _ _⟩, below3s (B0.out.trans (B1.out.mono B0.out.size)) (Nat.le_refl _) _ _ _⟩

end Go.Proofs.YtfpjohbcbflnhaaDoor
