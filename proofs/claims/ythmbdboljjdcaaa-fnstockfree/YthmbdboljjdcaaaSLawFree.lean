/- The law FnStockFree, walked: whatever the code, it answers true, and nothing that was there before has turned. For codes of at most 1048576 bytes. -/
import Derived.Test.YthmbdboljjdcaaaSDraw
namespace Go.Proofs.Ythmbdboljjdcaaa
open Go.RowKit

namespace Pl
/-- What is had of a stock's first holds. -/
def hadT (hs : List H) : Int := (hs.map hHad).sum
theorem hadT_snoc (hs : List H) (k : Nat) (h : k < hs.length) : hadT (hs.take (k + 1)) = hadT (hs.take k) + hHad (hs.getD k (0, 0)) := by
  unfold hadT
  rw [htake hs k h, List.map_append, List.sum_append]; simp
theorem hadT_free (room : Int) (hs : List H) : free room hs + hadT hs = room := by unfold free hadT; omega
theorem hadT_bd (hs : List H) (h : hs.all hOk = true) (k : Nat) : 0 ≤ hadT (hs.take k) ∧ hadT (hs.take k) ≤ 3 * hs.length := by
  have h1 : (hs.take k).all hOk = true := by
    rw [List.all_eq_true] at h ⊢
    exact fun x hx => h x (List.mem_of_mem_take hx)
  have := hsum_bd _ h1
  have hl : (hs.take k).length ≤ hs.length := by simp; omega
  unfold hadT
  omega
end Pl

set_option maxHeartbeats 8000000 in
theorem lawP14_small (vc : Value) (nc : Nat) (w : World) (hc : CodeAt w vc nc) (hcn : nc ≤ 1048576) :
    Calls Try.prog 3 #[vc] w fun e w' => e = .returned (.bool true) ∧ Below w.heap.size w w' := by
  have HD := hide_it (drawFree_any vc nc w hc hcn)
  obtain ⟨ac, cc, rfl, _⟩ := hc
  have hci : (nc : Int) ≤ 1048576 := by omega
  clear hcn
  go_enter Try.func3, Try.ntmps3
  go_wp2_with fail
  refine HD.out.mono ?_
  rintro e w1 ⟨room, u, hs, rfl, lr, ur, hl, hH, hb1⟩
  have B1 := hide_it hb1
  have H1 := hide_it hH
  obtain ⟨au, cu, rfl⟩ := hH.shape
  clear hb1 hH HD
  obtain ⟨w2, hw2⟩ : ∃ W, Hid (W = w1.alloc (.cells #[.int .i64 room, .slice au hs.length cu] 25)) := ⟨_, rfl⟩
  have al2 : Hid (Below w1.heap.size w1 w2) := by show Below _ _ _; rw [hw2.out]; exact alloc_below _ _
  have B2 := hide_it (B1.out.trans (al2.out.mono B1.out.size))
  have D2 : Hid (Duo w2 w1.heap.size (.int .i64 room) (.slice au hs.length cu)) := by show Duo _ _ _ _; rw [hw2.out]; exact Duo.new _ _ _ _
  have H2 := hide_it (H1.out.later al2.out (Nat.le_refl _))
  have hl9 : hs.length ≤ 1048576 := by omega
  go_wp2_with fail
  rw [← hw2.out]
  refine (implFree_any room _ hs w2 H2.out hl9).mono ?_
  rintro e w3 ⟨rfl, hb3⟩
  have B3 := hide_it (B2.out.trans (hb3.mono B2.out.size))
  have D3 := hide_it (D2.out.later hb3 (Nat.le_refl _))
  have H3 := hide_it (H2.out.later hb3 (Nat.le_refl _))
  clear hb3
  obtain ⟨c0, c1⟩ := D3.out
  obtain ⟨F, hF⟩ : ∃ F, Hid (Pl.sFree room hs = F) := ⟨_, rfl⟩
  have SF : Hid (∀ W, Holds W (.slice au hs.length cu) hs → Calls Try.prog 6 #[.agg #[.int .i64 room, .slice au hs.length cu]] W fun e w' => e = .returned (.int .i64 F) ∧ Below W.heap.size W w') := fun W hW => by
    have := specFree_any room _ hs W hW hl9
    rw [hF.out] at this; exact this
  rw [hF.out]
  go_wp2_with fail
  refine (SF.out _ H3.out).mono ?_
  rintro e w4 ⟨rfl, hb4⟩
  have B4 := hide_it (B3.out.trans (hb4.mono B3.out.size))
  have D4 := hide_it (D3.out.later hb4 (Nat.le_refl _))
  have H4 := hide_it (H3.out.later hb4 (Nat.le_refl _))
  clear hb4 c0 c1
  obtain ⟨c0, c1⟩ := D4.out
  go_wp2_with fail
  refine (specStockOk_any room _ hs w4 H4.out hl9).mono ?_
  rintro e w5 ⟨rfl, hb5⟩
  have B5 := hide_it (B4.out.trans (hb5.mono B4.out.size))
  have D5 := hide_it (D4.out.later hb5 (Nat.le_refl _))
  have H5 := hide_it (H4.out.later hb5 (Nat.le_refl _))
  clear hb5 c0 c1
  obtain ⟨c0, c1⟩ := D5.out
  obtain ⟨BB, hBB⟩ : ∃ x, Hid (Pl.sOk room hs = x) := ⟨_, rfl⟩
  rw [hBB.out]
  cases BB
  · go_wp2_with fail
    refine (SF.out _ H5.out).mono ?_
    rintro e w6 ⟨rfl, hb6⟩
    have B6 := hide_it (B5.out.trans (hb6.mono B5.out.size))
    clear hb6 c0 c1
    go_wp2
    go_ret
    exact ⟨rfl, B6.out⟩
  · obtain ⟨hall, hroom, h6, hf0⟩ := Pl.sOk_parts hBB.out
    have hFf : F = Pl.free room hs := by rw [← hF.out, Pl.sFree_yes hBB.out]
    have hbd := hide_it (Pl.hadT_bd hs hall)
    have hfr := Pl.hadT_free room hs
    rw [← hFf] at hf0 hfr
    have HC : Hid (∃ b off, au = some ⟨b, off, none⟩ ∧ ∀ k, k < 6 → w5.cell? ⟨b, off + k * 2, none⟩ = some (.int .i64 (hs.getD k (0, 0)).1) ∧ w5.cell? ⟨b, off + k * 2 + 1, none⟩ = some (.int .i64 (hs.getD k (0, 0)).2)) := by
      rcases H5.out with ⟨h0, _⟩ | ⟨b', off, cap', hv, _, hc⟩
      · rw [h0] at h6; simp at h6
      · simp only [Value.slice.injEq] at hv
        exact ⟨b', off, hv.1, fun k hk => hc k (by omega)⟩
    obtain ⟨b', off, hau, hcell⟩ := HC.out
    subst hau
    have HCC := hide_it hcell
    have hokk : Hid (∀ k, k < 6 → Pl.hOk (hs.getD k (0, 0)) = true) := fun k hk => by
      rw [List.all_eq_true] at hall
      exact hall _ (by simp [List.getD_eq_getElem?_getD, h6, hk])
    have H6 := hide_it h6
    clear hcell HC hall hroom
    rw [H6.out] at c1 ⊢
    go_wp2_with fail
    go_loop [5, 6] (fun h i => ∃ k : Nat, k ≤ 6 ∧ i = .int .i64 k ∧ h = .int .i64 (Pl.hadT (hs.take k))) (fun _ i => 6 - (intOf i).toNat)
    case atStart => exact ⟨0, by omega, rfl, rfl⟩
    case round =>
      obtain ⟨k, hk, rfl, rfl⟩ := hrel
      have hb1 := hbd.out k
      rw [H6.out] at hb1
      by_cases hlt : k < 6
      · obtain ⟨m, s, HZ⟩ : ∃ m s, Hid (hs.getD k (0, 0) = (m, s)) := ⟨_, _, rfl⟩
        have hsn := hide_it (Pl.hadT_snoc hs k (by rw [H6.out]; exact hlt))
        have z0 : w5.cell? ⟨b', off + k * 2, none⟩ = some (.int .i64 m) := by rw [(HCC.out k hlt).1, HZ.out]
        have z1 : w5.cell? ⟨b', off + k * 2 + 1, none⟩ = some (.int .i64 s) := by rw [(HCC.out k hlt).2, HZ.out]
        have hm := Pl.hHad_bd _ (hokk.out k hlt)
        rw [HZ.out] at hm hsn
        have hki : (k : Int) < 6 := by omega
        by_cases hs1 : s = 1
        · subst hs1
          rw [Pl.hHad_1] at hm hsn
          go_wp2
          go_round
          case rel => exact ⟨k + 1, by omega, by go_num, by rw [hsn.out]⟩
          case measure => simp [intOf]; omega
        · by_cases hs2 : s = 2
          · subst hs2
            rw [Pl.hHad_2] at hm hsn
            go_wp2
            go_round
            case rel => exact ⟨k + 1, by omega, by go_num, by rw [hsn.out]⟩
            case measure => simp [intOf]; omega
          · rw [Pl.hHad_x m s hs1 hs2] at hsn
            have e1 : (s == 1) = false := by simpa using hs1
            have e2 : (s == 2) = false := by simpa using hs2
            go_wp2
            go_round
            case rel => exact ⟨k + 1, by omega, by go_num, by rw [hsn.out, Int.add_zero]⟩
            case measure => simp [intOf]; omega
      · obtain rfl : k = 6 := by omega
        have ht : Hid (Pl.hadT (hs.take 6) = Pl.hadT hs) := by show _ = _; rw [List.take_of_length_le (by rw [H6.out]; omega)]
        rw [ht.out] at hb1 ⊢
        obtain ⟨T, hT⟩ : ∃ T, Hid (Pl.hadT hs = T) := ⟨_, rfl⟩
        rw [hT.out] at hfr hb1 ⊢
        have hsum : F + T = room := hfr
        go_wp2
        go_ret
        exact ⟨by simp; omega, B5.out⟩

end Go.Proofs.Ythmbdboljjdcaaa
