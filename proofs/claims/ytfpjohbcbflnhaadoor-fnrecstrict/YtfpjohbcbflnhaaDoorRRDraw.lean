/- The draw of a text of a record, some spoilt: it is a text of at most 100 bytes. For codes of at most 1048576 bytes. -/
import Derived.Test.YtfpjohbcbflnhaaDoorRRBack
import Derived.Deep.DeepCutAuto
import Derived.Deep.RegionHeldLaw
import Derived.Deep.RegionLawGrows
namespace Go.Proofs.YtfpjohbcbflnhaaDoor
open Go.RowKit

set_option maxHeartbeats 1000000 in
theorem of_any (b p : Nat) (n cap : Nat) (g : Nat) (w : World) (h : Rd w b p) (hp : p ≤ 1000000) (hn : 1 ≤ n) (hn2 : n ≤ 1000) (hg : g ≠ b) (hs : ∀ j, j < n → ∃ s : ByteArray, w.cell? ⟨g, j, none⟩ = some (.string s) ∧ s.size ≤ 10) :
    Calls Tryd.prog 32 #[.pointer (some ⟨b, 0, none⟩), .slice (some ⟨g, 0, none⟩) n cap] w fun e w' => ∃ s : ByteArray, e = .returned (.string s) ∧ s.size ≤ 10 ∧ Rd w' b (p + 1) ∧ Mid b (b + 1) w w' := by
  have HP := hidden (pick_any b p n w h hp (by omega) (by omega))
  have HS : Hid (∀ W, Mid b (b + 1) w W → ∀ j, j < n → ∃ s : ByteArray, W.cell? ⟨g, j, none⟩ = some (.string s) ∧ s.size ≤ 10) := fun W hm j hj => by
    obtain ⟨s, h1, h2⟩ := hs j hj
    have hl := World.block_lt_of_cell? _ _ h1
    simp at hl
    exact ⟨s, by rw [← h1]; simp [World.cell?, hm.block g hl (by omega)], h2⟩
  clear hs h
  go_enter Tryd.func32, Tryd.ntmps32
  go_wp2_with fail
  refine HP.out.mono ?_
  rintro e w1 ⟨x, rfl, l1, u1, r1, m1⟩
  obtain ⟨j, rfl⟩ : ∃ j : Nat, x = j := ⟨x.toNat, by omega⟩
  obtain ⟨s, hc, hsz⟩ := HS.out w1 m1 j (by omega)
  have R1 := hidden r1
  have M1 := hidden m1
  clear r1 m1 HP HS
  go_wp2
  go_ret
  exact ⟨s, rfl, hsz, R1.out, M1.out⟩

set_option maxHeartbeats 4000000 in
theorem drawRecRead_any (v : Value) (n : Nat) (w : World) (hv : CodeAt w v n) (hn : n ≤ 1048576) :
    Calls Tryd.prog 14 #[v] w fun e w' => ∃ s : ByteArray, e = .returned (.string s) ∧ s.size ≤ 100 ∧ Below w.heap.size w w' := by
  have HO := hidden (open_any v n w hv hn)
  obtain ⟨ao, cap, rfl, _⟩ := hv
  go_enter Tryd.func14, Tryd.ntmps14
  go_wp2_with fail
  refine HO.out.mono ?_
  rintro e w1 ⟨rfl, hr1, hs1, hb1⟩
  have R1 := hidden hr1
  have B1 := hidden hb1
  clear hr1 hb1 hs1 HO
  go_wp2_with fail
  refine (rec_draw _ 0 _ R1.out (by omega)).mono ?_
  rintro e w2 ⟨k, t, u, zs, q, cap2, rfl, hz, hf, _, hq, hr2, m2⟩
  have hI := hf.ints
  obtain ⟨g, off, hu⟩ := fresh_formR hf
  obtain ⟨nz, hnz⟩ : ∃ n, Hid (zs.length = n) := ⟨_, rfl⟩
  have HI := hidden hI
  rw [hnz.out] at hu
  subst hu
  have B2 := hidden (B1.out.trans (m2.below (B := w.heap.size) (Nat.le_refl _) B1.out.size))
  have R2 := hidden hr2
  obtain ⟨T, hT⟩ : ∃ x, Hid (Pl.rTxt k t zs = x) := ⟨_, rfl⟩
  have HSP := hidden (specRecText_any k t _ zs w2 HI.out (by omega))
  clear hr2 m2 hf hI hz
  have hTs : T.size ≤ 14 := by
    rw [← hT.out]
    cases e : Pl.recOk k t zs
    · rw [Pl.rTxt_no e]; exact Nat.zero_le _
    · exact (Pl.rec_read e).2.2.1
  rw [hT.out] at HSP
  clear hT
  go_wp2_with fail
  refine HSP.out.mono ?_
  rintro e w3 ⟨rfl, hb3⟩
  have B3 := hidden (B2.out.trans (hb3.mono B2.out.size))
  have R3 := hidden (R2.out.later hb3 (Nat.le_refl _))
  clear hb3 HSP
  have PT := hidden (pick_any w.heap.size q ((T.size : Int) + 1) w3 R3.out (by omega) (by omega) (by omega))
  go_wp2_with fail
  refine PT.out.mono ?_
  rintro e w4 ⟨x, rfl, l4, u4, hr4, m4⟩
  obtain ⟨a, rfl⟩ : ∃ a : Nat, x = a := ⟨x.toNat, by omega⟩
  have B4 := hidden (B3.out.trans (m4.below (B := w.heap.size) (Nat.le_refl _) B3.out.size))
  have R4 := hidden hr4
  clear hr4 m4 PT
  have P8 := hidden (pick_any w.heap.size (q + 1) 8 w4 R4.out (by omega) (by omega) (by omega))
  go_wp2_with fail
  refine P8.out.mono ?_
  rintro e w5 ⟨y, rfl, l5, u5, hr5, m5⟩
  have B5 := hidden (B4.out.trans (m5.below (B := w.heap.size) (Nat.le_refl _) B4.out.size))
  have R5 := hidden hr5
  clear hr5 m5 P8
  have ha : (a : Int) ≤ (T.size : Int) := by omega
  have ha2 : a ≤ T.size := by omega
  by_cases y0 : y = 0
  · subst y0
    go_wp2
    go_ret
    exact ⟨_, rfl, by simp; omega, B5.out⟩
  by_cases y1 : y = 1
  · subst y1
    have RA : Hid (Rd (w5.alloc (.cells #[.string ⟨#[48]⟩, .string ⟨#[32]⟩, .string ⟨#[32, 49]⟩, .string ⟨#[120]⟩, .string ⟨#[57]⟩] 9)).drew w.heap.size (q + 1 + 1)) := (R5.out.alloc _).drewN 1
    have CA : Hid (∀ j, j < 5 → ∃ s : ByteArray, (w5.alloc (.cells #[.string ⟨#[48]⟩, .string ⟨#[32]⟩, .string ⟨#[32, 49]⟩, .string ⟨#[120]⟩, .string ⟨#[57]⟩] 9)).drew.cell? ⟨w5.heap.size, j, none⟩ = some (.string s) ∧ s.size ≤ 10) := fun j hj => by
      have h : (w5.alloc (.cells #[.string ⟨#[48]⟩, .string ⟨#[32]⟩, .string ⟨#[32, 49]⟩, .string ⟨#[120]⟩, .string ⟨#[57]⟩] 9)).drew.heap[w5.heap.size]? = some (.cells #[.string ⟨#[48]⟩, .string ⟨#[32]⟩, .string ⟨#[32, 49]⟩, .string ⟨#[120]⟩, .string ⟨#[57]⟩] 9 (0, 0)) := heap_alloc_new w5 _
      match j, hj with
      | 0, _ => exact ⟨_, (cell_of_row _ _ 0 _ _ _ h).trans rfl, by decide⟩
      | 1, _ => exact ⟨_, (cell_of_row _ _ 1 _ _ _ h).trans rfl, by decide⟩
      | 2, _ => exact ⟨_, (cell_of_row _ _ 2 _ _ _ h).trans rfl, by decide⟩
      | 3, _ => exact ⟨_, (cell_of_row _ _ 3 _ _ _ h).trans rfl, by decide⟩
      | 4, _ => exact ⟨_, (cell_of_row _ _ 4 _ _ _ h).trans rfl, by decide⟩
    have hlt5 := R5.out.lt
    have OF := hidden (of_any w.heap.size (q + 1 + 1) 5 5 w5.heap.size _ RA.out (by omega) (by omega) (by omega) (by omega) CA.out)
    have B5a := hidden ((B5.out.alloc B5.out.size (.cells #[.string ⟨#[48]⟩, .string ⟨#[32]⟩, .string ⟨#[32, 49]⟩, .string ⟨#[120]⟩, .string ⟨#[57]⟩] 9)).drew)
    have hx1 : (T.extract 0 a).size = a := by simp; omega
    have hx2 : (T.extract a T.size).size = T.size - a := by simp
    clear RA CA
    go_wp2_with fail
    go_region_law
      (go_simp; go_at_call 32; refine OF.out.mono ?_; rintro e w6 ⟨s, rfl, hsz, r6, m6⟩; have B6 := hidden (B5a.out.trans (m6.below (B := w.heap.size) (Nat.le_refl _) B5a.out.size)); clear r6 m6; have hz1 : ¬ 9223372036854775807 < a + s.size := (by omega); have hz2 : ¬ 9223372036854775807 < a + s.size + (T.size - a) := (by omega))
    all_goals
      go_wp2
      go_ret
      exact ⟨_, rfl, by simp only [ByteArray.size_append]; omega, B6.out⟩
  · go_wp2
    go_ret
    exact ⟨_, rfl, by omega, B5.out⟩

end Go.Proofs.YtfpjohbcbflnhaaDoor
