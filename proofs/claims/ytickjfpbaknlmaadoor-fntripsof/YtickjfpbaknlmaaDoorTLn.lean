/- The contract of the laws' look at two lists of trips that are the same. For lists of at most 1048576 trips and numbers together. -/
import Derived.Test.YtickjfpbaknlmaaDoorTMark
import Derived.Test.YtickjfpbaknlmaaDoorLn
import Derived.Deep.RegionHeld
namespace Go.Proofs.YtickjfpbaknlmaaDoor
open Go.RowKit

set_option maxHeartbeats 4000000 in
theorem lnTrips_any (v1 v2 : Value) (rs : List T.R) (w : World) (h1 : T.Recs w v1 rs) (h2 : T.Recs w v2 rs) (hl : T.tot rs ≤ 1048576) :
    Calls Tryd.prog 17 #[v1, v2] w fun e w' => e = .returned (.bool true) ∧ Below w.heap.size w w' := by
  have hlen := T.tot_len rs
  have HM : Hid (∀ r ∈ rs, r.1.length ≤ 1048576) := fun r hr => Nat.le_trans (T.tot_mem rs r hr) hl
  rcases h1 with ⟨rfl, ao, cap, rfl⟩ | ⟨b, off, cap, rfl, hz, hc⟩
  · obtain ⟨ao2, cap2, rfl⟩ := h2.shape
    clear h2
    go_enter Tryd.func17, Tryd.ntmps17
    go_wp2
    refine wp_loop_rounds 1 ?_
    rw [rounds_succ]
    go_wp2
    go_ret
    exact ⟨rfl, Below.refl _ _⟩
  rcases h2 with ⟨h, _⟩ | ⟨b2, off2, cap2, rfl, _, hc2⟩
  · exact absurd h hz
  have HC : Hid (∀ i r, rs[i]? = some r → ∃ u, T.RecCells w b (off + i * 2) r u) := hc
  have HC2 : Hid (∀ i r, rs[i]? = some r → ∃ u, T.RecCells w b2 (off2 + i * 2) r u) := hc2
  have hzl : 0 < rs.length := List.length_pos_iff.2 hz
  clear hc hc2 hz
  go_enter Tryd.func17, Tryd.ntmps17
  go_wp2
  go_loopw [5] (fun i wr => ∃ k : Nat, k ≤ rs.length ∧ i = .int .i64 k ∧ Below w.heap.size w wr) (fun i _ => rs.length - (intOf i).toNat)
  case atStart => exact ⟨0, Nat.zero_le _, rfl, Below.refl _ _⟩
  case round =>
    obtain ⟨k, hk, rfl, hbe⟩ := hrel
    by_cases hlt : k < rs.length
    · obtain ⟨r, hr⟩ : ∃ r, Hid (rs[k]? = some r) := ⟨rs[k], by show _ = _; simp [hlt]⟩
      have hrl : r.1.length ≤ 1048576 := HM.out r (List.mem_of_getElem? hr.out)
      obtain ⟨u, hu⟩ := HC.out k r hr.out
      obtain ⟨u', hu'⟩ := HC2.out k r hr.out
      have RC := hide_it (hu.later hbe (Nat.le_refl _))
      have RC' := hide_it (hu'.later hbe (Nat.le_refl _))
      obtain ⟨c0, c1, hI⟩ := RC.out
      obtain ⟨d0, d1, hJ⟩ := RC'.out
      have HI := hide_it hI
      have HJ := hide_it hJ
      have hli : (k : Int) < (rs.length : Int) := by omega
      have HB := hide_it hbe
      clear hbe hI hJ hu hu'
      go_wp2
      first
        | (go_region_held (fun w' => w'.cell? ⟨b, off + k * 2, none⟩ = some u ∧ w'.cell? ⟨b, off + k * 2 + 1, none⟩ = some (.int .i64 r.2) ∧ w'.cell? ⟨b2, off2 + k * 2, none⟩ = some u' ∧ w'.cell? ⟨b2, off2 + k * 2 + 1, none⟩ = some (.int .i64 r.2)) (go_keep)
            ((go_at_call 21; refine (lnInts_any _ _ r.1 _ (HI.out.later (Below.refl _ _).drew (Nat.le_refl _)) (HJ.out.later (Below.refl _ _).drew (Nat.le_refl _)) hrl).mono ?_; rintro e w2 ⟨rfl, hb2⟩; have N2 := (Below.refl wr.heap.size wr).drew.trans hb2; obtain ⟨e0, e1, -⟩ := RC.out.later N2 (Nat.le_refl _); obtain ⟨e2, e3, -⟩ := RC'.out.later N2 (Nat.le_refl _); have HB2 := hide_it (HB.out.trans (N2.mono HB.out.size)); clear hb2 N2)))
        | fail
      go_wp2
      go_roundw
      case rel => exact ⟨k + 1, by omega, by go_num, HB2.out⟩
      case measure => simp [intOf]; omega
    · go_wp2
      go_ret
      exact ⟨rfl, hbe⟩

end Go.Proofs.YtickjfpbaknlmaaDoor
