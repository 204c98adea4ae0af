/- The contract of what says whether a list is what can be wanted. For lists of at most 1048576 numbers. -/
import Derived.Test.YtfpjohbcbflnhaaDoorSmall
import Derived.WalkSmall
namespace Go.Proofs.YtfpjohbcbflnhaaDoor
open Go.RowKit

set_option maxHeartbeats 600000 in
theorem wanted_any (v : Value) (zs : List Int) (w : World) (hv : Ints w v zs) (hl : zs.length ≤ 1048576) :
    Calls Tryd.prog 50 #[v] w fun e w' => e = .returned (.bool (Pl.manyOk zs)) ∧ w' = w := by
  by_cases h3 : zs.length = 3
  · rcases hv with ⟨rfl, ao, cap, rfl, -⟩ | ⟨b, off, cap, rfl, hz, hc⟩
    · simp at h3
    · have HC : Hid (∀ k, k < zs.length → w.cell? ⟨b, off + k, none⟩ = some (.int .i64 (zs.getD k 0))) := hc
      have H3 : Hid (zs.length = 3) := h3
      clear hz hc
      rw [h3]
      clear h3 hl
      go_enter Tryd.func50, Tryd.ntmps50
      go_wp2
      go_loop [3, 11] (fun s i => ∃ k : Nat, k ≤ 3 ∧ i = .int .i64 k ∧ s = .bool (Pl.anyPos (zs.take k)) ∧ Hid ((zs.take k).all (fun z => Pl.inB z 0 3) = true)) (fun _ i => 3 - (intOf i).toNat)
      case atStart => exact ⟨0, Nat.zero_le _, rfl, rfl, rfl⟩
      case round =>
        obtain ⟨k, hk, rfl, rfl, hall⟩ := hrel
        by_cases hlt : k < 3
        · have hlz : Hid (k < zs.length) := by show _ < _; rw [H3.out]; exact hlt
          obtain ⟨z, HZ⟩ : ∃ z, Hid (z = zs.getD k 0) := ⟨_, rfl⟩
          have hck : w.cell? ⟨b, off + k, none⟩ = some (.int .i64 z) := by rw [HZ.out]; exact HC.out k hlz.out
          by_cases h0 : z < 0
          · have HB : Hid (Pl.manyOk zs = false) := Pl.manyOk_bad zs k hlz.out (by rw [← HZ.out]; exact Pl.inB_lo h0)
            go_wp2
            go_ret
            exact ⟨by rw [HB.out]; rfl, rfl⟩
          by_cases h4 : 3 < z
          · have HB : Hid (Pl.manyOk zs = false) := Pl.manyOk_bad zs k hlz.out (by rw [← HZ.out]; exact Pl.inB_hi h4)
            go_wp2
            go_ret
            exact ⟨by rw [HB.out]; rfl, rfl⟩
          have HA : Hid ((zs.take (k + 1)).all (fun z => Pl.inB z 0 3) = true) := by
            show _ = _
            rw [Pl.all_snoc _ zs k hlz.out, hall.out, ← HZ.out, Pl.inB_mk (by omega) (by omega)]; rfl
          have HS : Hid (Pl.anyPos (zs.take (k + 1)) = (Pl.anyPos (zs.take k) || decide (0 < z))) := by
            show _ = _
            rw [Pl.anyPos_snoc zs k hlz.out, ← HZ.out]
          cases hs : Pl.anyPos (zs.take k)
          · by_cases hp : 0 < z
            all_goals
              go_wp2
              go_round
              case rel => exact ⟨k + 1, by omega, by go_num, by rw [HS.out, hs]; simp; omega, HA⟩
              case measure => simp [intOf]; omega
          · go_wp2
            go_round
            case rel => exact ⟨k + 1, by omega, by go_num, by rw [HS.out, hs]; rfl, HA⟩
            case measure => simp [intOf]; omega
        · have HE : Hid (Pl.manyOk zs = Pl.anyPos (zs.take k)) := by
            show _ = _
            have hke : k = zs.length := by rw [H3.out]; omega
            have := hall.out
            rw [hke, List.take_length] at this ⊢
            exact Pl.manyOk_any zs this H3.out
          go_wp2
          go_ret
          exact ⟨by rw [HE.out]; rfl, rfl⟩
  · have hne : ¬ (zs.length : Int) = 3 := by omega
    rw [Pl.manyOk_len zs h3]
    obtain ⟨ao, cap, rfl⟩ := hv.shape
    clear hv h3
    go_enter Tryd.func50, Tryd.ntmps50
    go_wp2
    go_ret
    exact ⟨rfl, rfl⟩

end Go.Proofs.YtfpjohbcbflnhaaDoor
