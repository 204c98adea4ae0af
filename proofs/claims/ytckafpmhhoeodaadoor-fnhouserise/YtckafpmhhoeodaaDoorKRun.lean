/- Records one behind the other, over lists alone: what a stock is behind them. No conditions. -/
import Derived.Test.YtckafpmhhoeodaaDoorKPure
namespace Go.Proofs.YtckafpmhhoeodaaDoor

namespace Pl
theorem sRun_snoc (room : Int) (rs : List (Int × Int × List Int)) (r : Int × Int × List Int) (hs : List H) : sRun room (rs ++ [r]) hs = (sRun room rs hs).bind fun h => sDo room h r.1 r.2.1 r.2.2 := by
  induction rs generalizing hs with
  | nil => simp [sRun]; cases sDo room hs r.1 r.2.1 r.2.2 <;> rfl
  | cons x t ih =>
    simp only [List.cons_append, sRun]
    cases sDo room hs x.1 x.2.1 x.2.2 with
    | none => rfl
    | some h => exact ih h
theorem sRun_len {room : Int} : ∀ (rs : List (Int × Int × List Int)) {hs hs' : List H}, sRun room rs hs = some hs' → hs'.length = hs.length
  | [], _, _, h => by simp [sRun] at h; rw [h]
  | r :: t, hs, hs', h => by
    simp only [sRun] at h
    cases e : sDo room hs r.1 r.2.1 r.2.2 with
    | none => rw [e] at h; cases h
    | some h1 => rw [e] at h; rw [sRun_len t h, sDo_len e]
theorem sRun_ok {room : Int} : ∀ (rs : List (Int × Int × List Int)) {hs hs' : List H}, sOk room hs = true → sRun room rs hs = some hs' → sOk room hs' = true
  | [], _, _, h0, h => by simp [sRun] at h; rw [← h]; exact h0
  | r :: t, hs, hs', _, h => by
    simp only [sRun] at h
    cases e : sDo room hs r.1 r.2.1 r.2.2 with
    | none => rw [e] at h; cases h
    | some h1 => rw [e] at h; exact sRun_ok t (sDo_keeps e) h
theorem sRun_take {room : Int} : ∀ (rs : List (Int × Int × List Int)) (n : Nat) {hs hs' : List H}, sRun room rs hs = some hs' → ∃ h1, sRun room (rs.take n) hs = some h1
  | [], n, hs, hs', h => ⟨hs', by simpa using h⟩
  | r :: t, 0, hs, _, _ => ⟨hs, by simp [sRun]⟩
  | r :: t, n + 1, hs, hs', h => by
    simp only [sRun] at h
    simp only [List.take_succ_cons, sRun]
    cases e : sDo room hs r.1 r.2.1 r.2.2 with
    | none => rw [e] at h; cases h
    | some h1 => rw [e] at h; exact sRun_take t n h
theorem sOf_run {room : Int} {rs : List (Int × Int × List Int)} {hs : List H} (h : sOf room rs = some hs) : inB room 0 9 = true ∧ sRun room rs noHolds = some hs := by
  unfold sOf at h
  by_cases hr : inB room 0 9 = true
  · rw [if_pos hr] at h; exact ⟨hr, h⟩
  · rw [if_neg hr] at h; cases h
theorem sOf_ok {room : Int} {rs : List (Int × Int × List Int)} {hs : List H} (h : sOf room rs = some hs) : sOk room hs = true ∧ hs.length = 6 := by
  obtain ⟨h1, h2⟩ := sOf_run h
  exact ⟨sRun_ok rs (new_ok room h1) h2, by rw [sRun_len rs h2]; rfl⟩
theorem sOf_take {room : Int} {rs : List (Int × Int × List Int)} {hs : List H} (n : Nat) (h : sOf room rs = some hs) : ∃ h1, sOf room (rs.take n) = some h1 := by
  obtain ⟨h1, h2⟩ := sOf_run h
  obtain ⟨h3, h4⟩ := sRun_take rs n h2
  exact ⟨h3, by unfold sOf; rw [if_pos h1]; exact h4⟩
theorem sOf_snoc {room : Int} {rs : List (Int × Int × List Int)} {hs : List H} (r : Int × Int × List Int) (h : sOf room rs = some hs) : sOf room (rs ++ [r]) = sDo room hs r.1 r.2.1 r.2.2 := by
  obtain ⟨h1, h2⟩ := sOf_run h
  unfold sOf
  rw [if_pos h1, sRun_snoc, h2]
  rfl
theorem oH_len {room : Int} (rs : List (Int × Int × List Int)) : ((sOf room rs).getD []).length ≤ 6 := by
  cases h : sOf room rs with
  | none => simp
  | some hs => simp [(sOf_ok h).2]
end Pl

end Go.Proofs.YtckafpmhhoeodaaDoor
