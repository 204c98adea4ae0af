/- What the last text of this claim stands on, part 3: plain facts and contracts; the last text says what is proved. -/
import Derived.Test.YtfdcfomfghbpaaaWorldNewSaidPart2
import Derived.Deep.RegionWith
import Derived.Test.YtfdcfomfghbpaaaRows
import Derived.ProofKit
import Derived.Lib.SmallJoins
import Derived.Deep.LoopGhost
import Derived.Deep.AppendLies
import Derived.Great.Walk
import Derived.Deep.WholeRow
import Derived.Great.BuildSlice

namespace Go.Proofs.Ytfdcfomfghbpaaa
namespace Pl

/-- A hold as plain data: how many, and in which state. -/
abbrev H := Int × Int

def hOk (h : H) : Bool := if h.2 = 0 then decide (h.1 = 0) else if h.2 = 1 ∨ h.2 = 2 then inB h.1 1 3 else if h.2 = 3 then inB h.1 0 3 else false
def hHad (h : H) : Int := if h.2 = 1 ∨ h.2 = 2 then h.1 else 0
def free (room : Int) (hs : List H) : Int := room - (hs.map hHad).sum
def sOk (room : Int) (hs : List H) : Bool := hs.all hOk && inB room 0 9 && (hs.length == 6) && decide (0 ≤ free room hs)
def sFree (room : Int) (hs : List H) : Int := if sOk room hs = true then free room hs else -1

theorem hOk_0 (m : Int) : hOk (m, 0) = decide (m = 0) := by simp [hOk]
theorem hOk_1 (m : Int) : hOk (m, 1) = inB m 1 3 := by simp [hOk]
theorem hOk_2 (m : Int) : hOk (m, 2) = inB m 1 3 := by simp [hOk]
theorem hOk_3 (m : Int) : hOk (m, 3) = inB m 0 3 := by simp [hOk]
theorem hOk_x (m s : Int) (h0 : s ≠ 0) (h1 : s ≠ 1) (h2 : s ≠ 2) (h3 : s ≠ 3) : hOk (m, s) = false := by simp [hOk, h0, h1, h2, h3]
theorem hHad_1 (m : Int) : hHad (m, 1) = m := by simp [hHad]
theorem hHad_2 (m : Int) : hHad (m, 2) = m := by simp [hHad]
theorem hHad_x (m s : Int) (h1 : s ≠ 1) (h2 : s ≠ 2) : hHad (m, s) = 0 := by simp [hHad, h1, h2]

theorem hHad_bd (h : H) (hk : hOk h = true) : 0 ≤ hHad h ∧ hHad h ≤ 3 := by
  obtain ⟨m, s⟩ := h
  by_cases h1 : s = 1
  · subst h1; rw [hHad_1]; rw [hOk_1] at hk; have := inB_true hk; omega
  by_cases h2 : s = 2
  · subst h2; rw [hHad_2]; rw [hOk_2] at hk; have := inB_true hk; omega
  rw [hHad_x m s h1 h2]; omega

theorem htake (hs : List H) (k : Nat) (h : k < hs.length) : hs.take (k + 1) = hs.take k ++ [hs.getD k (0, 0)] := by
  rw [List.take_succ_eq_append_getElem h]; simp [List.getD_eq_getElem?_getD, h]
theorem free_snoc (room : Int) (hs : List H) (k : Nat) (h : k < hs.length) : free room (hs.take (k + 1)) = free room (hs.take k) - hHad (hs.getD k (0, 0)) := by
  rw [htake hs k h]; simp [free]; omega
theorem free_nil (room : Int) : free room [] = room := by simp [free]
theorem hall_snoc (hs : List H) (k : Nat) (h : k < hs.length) : (hs.take (k + 1)).all hOk = ((hs.take k).all hOk && hOk (hs.getD k (0, 0))) := by
  rw [htake hs k h]; simp
theorem hall_bad (hs : List H) (k : Nat) (h : k < hs.length) (hp : hOk (hs.getD k (0, 0)) = false) : hs.all hOk = false := by
  rw [List.all_eq_false]
  refine ⟨hs.getD k (0, 0), ?_, by rw [hp]; decide⟩
  simp [List.getD_eq_getElem?_getD, h]
theorem hsum_bd (hs : List H) (h : hs.all hOk = true) : 0 ≤ (hs.map hHad).sum ∧ (hs.map hHad).sum ≤ 3 * hs.length := by
  induction hs with
  | nil => simp
  | cons z zs ih =>
    simp only [List.all_cons, Bool.and_eq_true] at h
    have := hHad_bd z h.1
    have := ih h.2
    simp; omega
theorem free_bd (room : Int) (hs : List H) (h : hs.all hOk = true) : room - 3 * hs.length ≤ free room hs ∧ free room hs ≤ room := by
  have := hsum_bd hs h
  unfold free; omega

theorem sOk_parts {room : Int} {hs : List H} (h : sOk room hs = true) : hs.all hOk = true ∧ inB room 0 9 = true ∧ hs.length = 6 ∧ 0 ≤ free room hs := by
  unfold sOk at h
  simp only [Bool.and_eq_true, beq_iff_eq, decide_eq_true_eq] at h
  exact ⟨h.1.1.1, h.1.1.2, h.1.2, h.2⟩
theorem sOk_mk {room : Int} {hs : List H} (h1 : hs.all hOk = true) (h2 : inB room 0 9 = true) (h3 : hs.length = 6) : sOk room hs = decide (0 ≤ free room hs) := by
  simp [sOk, h1, h2, h3]
theorem sOk_all {room : Int} {hs : List H} (h : hs.all hOk = false) : sOk room hs = false := by simp [sOk, h]
theorem sOk_room {room : Int} {hs : List H} (h : inB room 0 9 = false) : sOk room hs = false := by simp [sOk, h]
theorem sOk_len {room : Int} {hs : List H} (h : hs.length ≠ 6) : sOk room hs = false := by simp [sOk, h]
theorem sFree_no {room : Int} {hs : List H} (h : sOk room hs = false) : sFree room hs = -1 := by simp [sFree, h]
theorem sFree_yes {room : Int} {hs : List H} (h : sOk room hs = true) : sFree room hs = free room hs := by simp [sFree, h]
theorem sFree_max {room : Int} {hs : List H} (h1 : hs.all hOk = true) (h2 : inB room 0 9 = true) (h3 : hs.length = 6) : sFree room hs = max (free room hs) (-1) := by
  by_cases h : 0 ≤ free room hs
  · rw [sFree_yes (by rw [sOk_mk h1 h2 h3]; simpa using h)]; omega
  · rw [sFree_no (by rw [sOk_mk h1 h2 h3]; simpa using h)]; omega
theorem sFree_ok (room : Int) (hs : List H) : decide (0 ≤ sFree room hs) = sOk room hs := by
  cases h : sOk room hs
  · rw [sFree_no h]; decide
  · rw [sFree_yes h]; have := (sOk_parts h).2.2.2; simpa using this
theorem sFree_bd (room : Int) (hs : List H) : -1 ≤ sFree room hs ∧ sFree room hs ≤ 9 := by
  cases h : sOk room hs
  · rw [sFree_no h]; omega
  · rw [sFree_yes h]
    obtain ⟨h1, h2, h3, h4⟩ := sOk_parts h
    have := inB_true h2
    have := free_bd room hs h1
    omega

/-- What a record makes of its trip's hold; nothing, if it may not come. -/
def next (h : H) (k m free : Int) : Option H :=
  if k = 1 then (if h.2 = 0 ∧ m ≤ free then some (m, 1) else none)
  else if k = 2 then (if h.2 = 1 then some (h.1, 2) else none)
  else if k = 3 then (if h.2 = 1 ∨ h.2 = 0 then some (h.1, 3) else none)
  else none
/-- The place of a trip's hold. -/
def at_ (t : Int) : Nat := (t - 1).toNat
def hAt (hs : List H) (t : Int) : H := hs.getD (at_ t) (0, 0)
/-- What a record makes of its trip's hold in a stock; nothing, if it may not come. -/
def behind (room : Int) (hs : List H) (k t : Int) (zs : List Int) : Option H :=
  if sOk room hs = true ∧ recOk k t zs = true then next (hAt hs t) k (zs.headD 0) (free room hs) else none
def sMay (room : Int) (hs : List H) (k t : Int) (zs : List Int) : Bool := (behind room hs k t zs).isSome
def sDo (room : Int) (hs : List H) (k t : Int) (zs : List Int) : Option (List H) := (behind room hs k t zs).map fun h => hs.set (at_ t) h

theorem behind_stock {room : Int} {hs : List H} (k t : Int) (zs : List Int) (h : sOk room hs = false) : behind room hs k t zs = none := by simp [behind, h]
theorem behind_rec (room : Int) (hs : List H) {k t : Int} {zs : List Int} (h : recOk k t zs = false) : behind room hs k t zs = none := by simp [behind, h]
theorem behind_ok {room : Int} {hs : List H} {k t : Int} {zs : List Int} (h : sOk room hs = true) (h2 : recOk k t zs = true) : behind room hs k t zs = next (hAt hs t) k (zs.headD 0) (free room hs) := by simp [behind, h, h2]

theorem recOk_trip {k t : Int} {zs : List Int} (h : recOk k t zs = true) : 1 ≤ t ∧ t ≤ 6 := by
  cases ht : inB t 1 6
  · rw [recOk_t k t zs ht] at h; cases h
  · exact inB_true ht
theorem recOk_kind {k t : Int} {zs : List Int} (h : recOk k t zs = true) : 1 ≤ k ∧ k ≤ 7 := by
  by_cases h1 : k = 1
  · omega
  by_cases h4 : k = 4
  · omega
  have ht := inB_mk (recOk_trip h).1 (recOk_trip h).2
  rw [recOk_p k t zs ht h1 h4] at h
  simp only [Bool.and_eq_true] at h
  have := inB_true h.1
  omega
theorem recOk_hold {t : Int} {zs : List Int} (h : recOk 1 t zs = true) : ∃ z, zs = [z] ∧ 1 ≤ z ∧ z ≤ 3 := by
  have ht := inB_mk (recOk_trip h).1 (recOk_trip h).2
  rw [recOk_1 t zs ht] at h
  simp only [holdOk, Bool.and_eq_true, beq_iff_eq] at h
  obtain ⟨z, rfl⟩ := List.length_eq_one_iff.1 h.1
  exact ⟨z, rfl, by simpa using inB_true h.2⟩
theorem at_lt {k t : Int} {zs : List Int} (h : recOk k t zs = true) : at_ t < 6 := by
  have := recOk_trip h
  unfold at_; omega

theorem hAt_mem (hs : List H) (t : Int) (h : at_ t < hs.length) : hAt hs t ∈ hs := by
  unfold hAt
  simp [List.getD_eq_getElem?_getD, h]
theorem sum_set (hs : List H) (i : Nat) (h : H) (hi : i < hs.length) : ((hs.set i h).map hHad).sum = (hs.map hHad).sum - hHad (hs.getD i (0, 0)) + hHad h := by
  induction hs generalizing i with
  | nil => simp at hi
  | cons z zs ih =>
    cases i with
    | zero => simp; omega
    | succ i =>
      have := ih i (by simpa using hi)
      simp at this ⊢
      omega
theorem free_set (room : Int) (hs : List H) (i : Nat) (h : H) (hi : i < hs.length) : free room (hs.set i h) = free room hs + hHad (hs.getD i (0, 0)) - hHad h := by
  unfold free; rw [sum_set hs i h hi]; omega
theorem all_set (hs : List H) (i : Nat) (h : H) (ha : hs.all hOk = true) (hh : hOk h = true) : (hs.set i h).all hOk = true := by
  rw [List.all_eq_true] at ha ⊢
  intro x hx
  rcases List.mem_or_eq_of_mem_set hx with h1 | h1
  · exact ha x h1
  · rw [h1]; exact hh

/-- A stock behind a record that may come is ok. -/
theorem behind_keeps {room : Int} {hs : List H} {k t : Int} {zs : List Int} {h : H} (hb : behind room hs k t zs = some h) : sOk room (hs.set (at_ t) h) = true := by
  unfold behind at hb
  by_cases hc : sOk room hs = true ∧ recOk k t zs = true
  · rw [if_pos hc] at hb
    obtain ⟨h1, h2, h3, h4⟩ := sOk_parts hc.1
    have hat := at_lt hc.2
    have hmem := hAt_mem hs t (by omega)
    have hok := (List.all_eq_true.1 h1) _ hmem
    have key : hOk h = true ∧ hHad h ≤ free room hs + hHad (hAt hs t) := by
      have hbd := hHad_bd _ hok
      unfold next at hb
      by_cases k1 : k = 1
      · rw [if_pos k1] at hb
        subst k1
        by_cases c : (hAt hs t).2 = 0 ∧ zs.headD 0 ≤ free room hs
        · rw [if_pos c] at hb
          simp at hb
          obtain ⟨z, rfl, z1, z2⟩ := recOk_hold hc.2
          simp at hb c
          subst hb
          rw [hOk_1, hHad_1]
          exact ⟨inB_mk z1 z2, by omega⟩
        · rw [if_neg c] at hb; cases hb
      rw [if_neg k1] at hb
      by_cases k2 : k = 2
      · rw [if_pos k2] at hb
        by_cases c : (hAt hs t).2 = 1
        · rw [if_pos c] at hb
          simp at hb
          subst hb
          have e : hAt hs t = ((hAt hs t).1, 1) := by rw [← c]
          rw [e, hOk_1] at hok
          rw [e, hHad_1]
          rw [hOk_2, hHad_2]
          exact ⟨by simpa using hok, by simp; omega⟩
        · rw [if_neg c] at hb; cases hb
      rw [if_neg k2] at hb
      by_cases k3 : k = 3
      · rw [if_pos k3] at hb
        by_cases c : (hAt hs t).2 = 1 ∨ (hAt hs t).2 = 0
        · rw [if_pos c] at hb
          simp at hb
          subst hb
          rw [hOk_3, hHad_x _ _ (by decide) (by decide)]
          refine ⟨?_, by omega⟩
          rcases c with c | c
          · have e : hAt hs t = ((hAt hs t).1, 1) := by rw [← c]
            rw [e, hOk_1] at hok
            have := inB_true hok
            exact inB_mk (by omega) (by omega)
          · have e : hAt hs t = ((hAt hs t).1, 0) := by rw [← c]
            rw [e, hOk_0] at hok
            have := of_decide_eq_true hok
            exact inB_mk (by omega) (by omega)
        · rw [if_neg c] at hb; cases hb
      · rw [if_neg k3] at hb; cases hb
    rw [sOk_mk (all_set hs _ h h1 key.1) h2 (by rw [List.length_set]; exact h3), free_set room hs _ h (by omega)]
    have e : hHad (hs.getD (at_ t) (0, 0)) = hHad (hAt hs t) := rfl
    have := key.2
    rw [e]
    exact decide_eq_true (by omega)
  · rw [if_neg hc] at hb; cases hb

/-- A stock of which nobody has anything. -/
def noHolds : List H := List.replicate 6 (0, 0)
theorem new_ok (room : Int) (h : inB room 0 9 = true) : sOk room noHolds = true := by
  rw [sOk_mk (by decide) h (by decide)]
  have := inB_true h
  simp [free, noHolds, hHad]; omega

/-- A stock behind records; nothing, if one may not come. -/
def sRun (room : Int) : List (Int × Int × List Int) → List H → Option (List H)
  | [], hs => some hs
  | r :: t, hs => match sDo room hs r.1 r.2.1 r.2.2 with
    | none => none
    | some h => sRun room t h
def sOf (room : Int) (rs : List (Int × Int × List Int)) : Option (List H) := if inB room 0 9 = true then sRun room rs noHolds else none

theorem sDo_len {room : Int} {hs hs' : List H} {k t : Int} {zs : List Int} (h : sDo room hs k t zs = some hs') : hs'.length = hs.length := by
  unfold sDo at h
  cases hb : behind room hs k t zs with
  | none => rw [hb] at h; cases h
  | some x => rw [hb] at h; simp at h; rw [← h, List.length_set]
theorem sDo_keeps {room : Int} {hs hs' : List H} {k t : Int} {zs : List Int} (h : sDo room hs k t zs = some hs') : sOk room hs' = true := by
  unfold sDo at h
  cases hb : behind room hs k t zs with
  | none => rw [hb] at h; cases h
  | some x => rw [hb] at h; simp at h; rw [← h]; exact behind_keeps hb

end Pl
end Go.Proofs.Ytfdcfomfghbpaaa

namespace Go.Proofs.Ytfdcfomfghbpaaa
open Go.RowKit

/-- Holds, as they lie in a row. -/
def hflat : List Pl.H → List Value
  | [] => []
  | h :: t => .int .i64 h.1 :: .int .i64 h.2 :: hflat t

theorem hflat_length (hs : List Pl.H) : (hflat hs).length = hs.length * 2 := by
  induction hs with
  | nil => rfl
  | cons p t ih => simp only [hflat, List.length_cons, ih]; omega
theorem hflat_get (hs : List Pl.H) (i : Nat) (h : i < hs.length) :
    (hflat hs)[i * 2]? = some (.int .i64 (hs.getD i (0, 0)).1) ∧ (hflat hs)[i * 2 + 1]? = some (.int .i64 (hs.getD i (0, 0)).2) := by
  induction hs generalizing i with
  | nil => simp at h
  | cons q t ih =>
    cases i with
    | zero => simp [hflat]
    | succ i =>
      have := ih i (by simpa using h)
      rw [show (i + 1) * 2 = i * 2 + 2 by omega]
      simpa [hflat] using this
theorem hflat_set (hs : List Pl.H) (k : Nat) (p : Pl.H) (h : k < hs.length) :
    ((hflat hs).set (k * 2) (.int .i64 p.1)).set (k * 2 + 1) (.int .i64 p.2) = hflat (hs.set k p) := by
  induction hs generalizing k with
  | nil => simp at h
  | cons q t ih =>
    cases k with
    | zero => simp [hflat]
    | succ k =>
      have := ih k (by simpa using h)
      rw [show (k + 1) * 2 = k * 2 + 2 by omega]
      simp only [hflat, List.set_cons_succ]
      rw [this]
theorem hflat_append (ps qs : List Pl.H) : hflat (ps ++ qs) = hflat ps ++ hflat qs := by
  induction ps with
  | nil => rfl
  | cons p t ih => simp [hflat, ih]

/-- The value v is a slice of just these holds in the world w. -/
def Holds (w : World) (v : Value) (hs : List Pl.H) : Prop :=
  (hs = [] ∧ ∃ ao cap, v = .slice ao 0 cap ∧ (ao = none → cap = 0)) ∨
  (∃ b off cap, v = .slice (some ⟨b, off, none⟩) hs.length cap ∧ hs ≠ [] ∧ ∀ k, k < hs.length → w.cell? ⟨b, off + k * 2, none⟩ = some (.int .i64 (hs.getD k (0, 0)).1) ∧ w.cell? ⟨b, off + k * 2 + 1, none⟩ = some (.int .i64 (hs.getD k (0, 0)).2))

theorem Holds.later {B : Nat} {w w' : World} {v : Value} {hs : List Pl.H} (h : Holds w v hs) (hb : Below B w w') (hB : w.heap.size ≤ B) : Holds w' v hs := by
  rcases h with h | ⟨b, off, cap, hv, hz, hc⟩
  · exact Or.inl h
  · refine Or.inr ⟨b, off, cap, hv, hz, fun k hk => ?_⟩
    obtain ⟨h1, h2⟩ := hc k hk
    have hl := World.block_lt_of_cell? _ _ h1
    simp at hl
    exact ⟨by rw [← h1]; exact hb.cell (p := ⟨b, off + k * 2, none⟩) (by simp; omega), by rw [← h2]; exact hb.cell (p := ⟨b, off + k * 2 + 1, none⟩) (by simp; omega)⟩

theorem Holds.shape {w : World} {v : Value} {hs : List Pl.H} (h : Holds w v hs) : ∃ ao cap, v = .slice ao hs.length cap := by
  rcases h with ⟨rfl, ao, cap, rfl, _⟩ | ⟨b, off, cap, rfl, _, _⟩
  · exact ⟨ao, cap, rfl⟩
  · exact ⟨_, cap, rfl⟩

/-- A row of holds that the call owns is a list of them. -/
theorem holds_of_row {w : World} {base : Nat} {v : Value} {hs : List Pl.H} (h : w.ownsRow base 91 2 v hs.length (hflat hs)) : Holds w v hs := by
  rcases h.2 with ⟨hv, hn⟩ | ⟨g, cap, cur, hv, _⟩
  · have : hs = [] := List.length_eq_zero_iff.1 hn
    exact Or.inl ⟨this, none, 0, hv, fun _ => rfl⟩
  · by_cases hz : hs = []
    · subst hz; exact Or.inl ⟨rfl, _, _, hv, fun h => by cases h⟩
    · subst hv
      refine Or.inr ⟨g, 0, cap, rfl, hz, fun k hk => ?_⟩
      obtain ⟨f0, f1⟩ := hflat_get hs k hk
      exact ⟨by rw [Nat.zero_add, h.cellAt _ (by omega)]; exact f0, by rw [Nat.zero_add, h.cellAt _ (by omega)]; exact f1⟩

theorem infoHold : (Try.prog.info? 91).map (fun i => (i.zero, i.size, i.bytes)) = some (some (.agg #[.int .i64 0, .int .i64 0]), 2, 16) := by kernel_rfl

theorem made_two (n : Nat) : (madeCells #[.int .i64 0, .int .i64 0] (n * 2)).toList = hflat (List.replicate n (0, 0)) := by
  apply List.ext_getElem?
  intro i
  by_cases h : i < n * 2
  · have hq : i / 2 < n := by omega
    obtain ⟨f0, f1⟩ := hflat_get (List.replicate n (0, 0)) (i / 2) (by simpa using hq)
    have hl : (madeCells #[.int .i64 0, .int .i64 0] (n * 2)).toList[i]? = some (#[Value.int .i64 0, .int .i64 0][i % 2]!) := by
      simp [madeCells, h]
    have hd : (List.replicate n ((0, 0) : Pl.H)).getD (i / 2) (0, 0) = (0, 0) := by simp [List.getD_eq_getElem?_getD, hq]
    rw [hd] at f0 f1
    rw [hl]
    rcases (show i % 2 = 0 ∨ i % 2 = 1 by omega) with h0 | h0
    · rw [show i / 2 * 2 = i by omega] at f0; rw [f0, h0]; rfl
    · rw [show i / 2 * 2 + 1 = i by omega] at f1; rw [f1, h0]; rfl
  · rw [List.getElem?_eq_none (by simp [madeCells]; omega), List.getElem?_eq_none (by rw [hflat_length]; simp; omega)]

/-- Two stores into a row of holds. -/
theorem stored2 {w : World} {base g n cap : Nat} {hs : List Pl.H} (h : w.ownsRow base 91 2 (.slice (some ⟨g, 0, none⟩) n cap) n (hflat hs)) (k : Nat) (hk : k < hs.length) (p : Pl.H) :
    ((w.setCell ⟨g, k * 2, none⟩ (.int .i64 p.1)).setCell ⟨g, k * 2 + 1, none⟩ (.int .i64 p.2)).ownsRow base 91 2 (.slice (some ⟨g, 0, none⟩) n cap) n (hflat (hs.set k p)) ∧
    w.grownBy ((w.setCell ⟨g, k * 2, none⟩ (.int .i64 p.1)).setCell ⟨g, k * 2 + 1, none⟩ (.int .i64 p.2)) (some g) := by
  have a1 := h.stored (k * 2) (.int .i64 p.1)
  have a2 := a1.1.stored (k * 2 + 1) (.int .i64 p.2)
  rw [hflat_set hs k p hk] at a2
  exact ⟨a2.1, grownBy_trans a1.2 a2.2⟩

end Go.Proofs.Ytfdcfomfghbpaaa

namespace Go.Proofs.Ytfdcfomfghbpaaa
open Go.RowKit

theorem al_below (w : World) (o : Obj) : Below w.heap.size w (w.alloc o) := (Below.refl _ _).alloc (Nat.le_refl _) o
theorem al_after {w : World} {o : Obj} {w' : World} (h : Below (w.alloc o).heap.size (w.alloc o) w') : Below w.heap.size w w' := (al_below w o).trans (h.mono (by simp))

theorem roomOk_any (room : Int) (w : World) :
    Calls Try.prog 29 #[.int .i64 room] w fun e w' => e = .returned (.bool (Pl.inB room 0 9)) ∧ w' = w := by
  by_cases h1 : 0 ≤ room
  all_goals by_cases h2 : room ≤ 9
  all_goals
    go_enter Try.func29, Try.ntmps29
    go_wp2
    go_ret
    exact ⟨by simp [Pl.inB, h1, h2], rfl⟩

theorem hall_take (hs : List Pl.H) (k : Nat) (h : hs.all Pl.hOk = true) : (hs.take k).all Pl.hOk = true := by
  rw [List.all_eq_true] at h ⊢
  exact fun x hx => h x (List.mem_of_mem_take hx)

/-- Two values lie at the head of this block. -/
def Duo (w : World) (b : Nat) (x y : Value) : Prop := w.cell? ⟨b, 0, none⟩ = some x ∧ w.cell? ⟨b, 1, none⟩ = some y
theorem Duo.later {B : Nat} {w w' : World} {b : Nat} {x y : Value} (h : Duo w b x y) (hb : Below B w w') (hB : w.heap.size ≤ B) : Duo w' b x y := by
  obtain ⟨h0, h1⟩ := h
  have hlt := World.block_lt_of_cell? _ _ h0
  simp at hlt
  exact ⟨by rw [← h0]; exact hb.cell (p := ⟨b, 0, none⟩) (by simp; omega), by rw [← h1]; exact hb.cell (p := ⟨b, 1, none⟩) (by simp; omega)⟩
theorem Duo.new (w : World) (x y : Value) (ty : TypeId) : Duo (w.alloc (.cells #[x, y] ty)) w.heap.size x y := by
  refine ⟨?_, ?_⟩ <;> simp
theorem Duo.lt {w : World} {b : Nat} {x y : Value} (h : Duo w b x y) : b < w.heap.size := by simpa using World.block_lt_of_cell? _ _ h.1

end Go.Proofs.Ytfdcfomfghbpaaa

namespace Go.Proofs.Ytfdcfomfghbpaaa
open Go.RowKit

/-- Holds, all marked. -/
def markH (n : Nat) (k : Int) : List Pl.H := (List.range n).map fun i => (k + 2 * (i : Nat), k + 2 * (i : Nat) + 1)
theorem markH_length (n : Nat) (k : Int) : (markH n k).length = n := by simp [markH]
theorem markH_get? (n : Nat) (k : Int) (i : Nat) (h : i < n) : (markH n k)[i]? = some (k + 2 * i, k + 2 * i + 1) := by simp [markH, h]
theorem markH_get (n : Nat) (k : Int) (i : Nat) (h : i < n) : (markH n k).getD i (0, 0) = (k + 2 * i, k + 2 * i + 1) := by
  rw [List.getD_eq_getElem?_getD, markH_get? n k i h]; rfl

theorem mixH_set (A xs : List Pl.H) (i : Nat) (hA : A.length = xs.length) (hi : i < xs.length) (x : Pl.H) (hx : A[i]? = some x) : (A.take i ++ xs.drop i).set i x = A.take (i + 1) ++ xs.drop (i + 1) := by
  have hi' : i < A.length := by omega
  rw [List.set_append_right _ _ (by simp; omega)]
  have h1 : i - (A.take i).length = 0 := by simp; omega
  rw [h1, List.drop_eq_getElem_cons hi, List.set_cons_zero, List.take_succ_eq_append_getElem hi']
  rw [List.getElem?_eq_getElem hi'] at hx
  simp only [Option.some.injEq] at hx
  rw [hx]; simp

theorem holds_mid {l h : Nat} {w w' : World} {lo n : Nat} {v : Value} {hs : List Pl.H} (ho : w.ownsRow lo 91 2 v n (hflat hs)) (hm : Mid l h w w') (hd : ∀ i, v.ownBlock = some i → i < l ∨ h ≤ i) : w'.ownsRow lo 91 2 v n (hflat hs) := ownsRow_mid ho hm hd

end Go.Proofs.Ytfdcfomfghbpaaa

namespace Go.Proofs.Ytfdcfomfghbpaaa
open Go.RowKit

/-- What comes out where a stock, or nothing, does: its room, its holds. -/
def oR (room : Int) (o : Option (List Pl.H)) : Int := match o with | some _ => room | none => 0
def oH (o : Option (List Pl.H)) : List Pl.H := o.getD []
def StOut (W w' : World) (e : Ending) (RR : Int) (HS : List Pl.H) (BB : Bool) : Prop :=
  ∃ ao cap, e = .returned (.tuple #[.agg #[.int .i64 RR, .slice ao HS.length cap], .bool BB]) ∧ w'.ownsRow W.heap.size 91 2 (.slice ao HS.length cap) HS.length (hflat HS) ∧ Below W.heap.size W w'
def newO (room : Int) : Option (List Pl.H) := if Pl.inB room 0 9 = true then some Pl.noHolds else none

theorem grown_al {w w2 : World} {x y : Value} {ty : TypeId} (hg : (w.alloc (.cells #[x, y] ty)).grownBy w2 none) : Below w.heap.size w w2 ∧ w.heap.size < w2.heap.size ∧
    w2.cell? ⟨w.heap.size, 0, none⟩ = some x ∧ w2.cell? ⟨w.heap.size, 1, none⟩ = some y ∧ w2.frozen? ⟨w.heap.size, 0, none⟩ = false ∧ w2.frozen? ⟨w.heap.size, 1, none⟩ = false := by
  have hb : Below (w.heap.size + 1) (w.alloc (.cells #[x, y] ty)) w2 := (Below.refl _ _).grown hg (by simp) (fun k h => by cases h)
  have hs := hb.size
  simp at hs
  refine ⟨(al_below w _).trans (hb.mono (by omega)), by omega, ?_, ?_, ?_, ?_⟩
  · rw [hb.cell (p := ⟨w.heap.size, 0, none⟩) (by simp)]; simp
  · rw [hb.cell (p := ⟨w.heap.size, 1, none⟩) (by simp)]; simp
  · rw [hb.frozen (p := ⟨w.heap.size, 0, none⟩) (by simp)]; simp [go_sem]
  · rw [hb.frozen (p := ⟨w.heap.size, 1, none⟩) (by simp)]; simp [go_sem]

set_option maxHeartbeats 1000000 in
theorem specNew_any (room : Int) (w : World) :
    Calls Try.prog 26 #[.int .i64 room] w fun e w' => StOut w w' e (oR room (newO room)) (oH (newO room)) (newO room).isSome := by
  obtain ⟨i0, hi, hz0, hz1, hz2⟩ := info_parts infoHold
  have hbytes : i0.bytes * 6 ≤ 281474976710656 := by rw [hz2]; omega
  have hmax : 6 ≤ maxLen := by unfold maxLen; omega
  cases hr : Pl.inB room 0 9
  · have e : newO room = none := by simp [newO, hr]
    rw [e]
    go_enter Try.func26, Try.ntmps26
    go_wp2_with (go_at_call 27; refine (in_any _ _ _ _).mono ?_; rintro e w1 ⟨rfl, rfl⟩; rw [hr])
    refine bodyPost_ret (v := .tuple #[.agg #[.int .i64 0, .slice none 0 0], .bool false]) (by simp [results, Try.results26, go_sem]) rfl ⟨none, 0, rfl, World.ownsRow_nil _ _ _ _, ?_⟩
    first | exact al_below _ _ | exact (al_below _ _).setCell (by simp) _ | exact ((al_below _ _).setCell (by simp) _).setCell (by simp) _
  · have e : newO room = some Pl.noHolds := by simp [newO, hr]
    rw [e]
    go_enter Try.func26, Try.ntmps26
    go_wp2_with (first
      | (go_at_call 27; refine (in_any _ _ _ _).mono ?_; rintro e w1 ⟨rfl, rfl⟩; rw [hr])
      | (at_make; refine wpList_make_full _ rfl _ _ 55 rfl (w.heap.size + 1) 91 i0 (.agg #[.int .i64 0, .int .i64 0]) 2 Try.underlying55 hi hz0 hz1 .i64 .i64 _ _ 6 rfl rfl rfl rfl hbytes hmax (by simp) ?_; intro w2 hown hgrow; have HO := hide_it hown; obtain ⟨hbb, hws, g0, g1, f0, f1⟩ := grown_al hgrow; have HB := hide_it hbb; clear hown hgrow hbb))
    have HO2 : Hid (w2.ownsRow (w.heap.size + 1) 91 2 (.slice (some ⟨w.heap.size + 1, 0, none⟩) 6 6) 6 (hflat Pl.noHolds)) := by
      have := made_two 6
      have h := HO.out
      rw [show (Value.agg #[.int .i64 0, .int .i64 0]).cells = #[.int .i64 0, .int .i64 0] from rfl, this] at h
      rw [World.size_alloc] at h
      exact h
    refine bodyPost_ret (v := .tuple #[.agg #[.int .i64 room, .slice (some ⟨w.heap.size + 1, 0, none⟩) 6 6], .bool true]) (by simp [results, Try.results26, go_sem, g0, g1]) rfl ⟨_, _, rfl, ?_, ?_⟩
    · exact ownsRow_base (ownsRow_setCell_below (ownsRow_setCell_below HO2.out (by simp) _) (by simp) _) (by omega)
    · exact (HB.out.setCell (by simp) _).setCell (by simp) _

end Go.Proofs.Ytfdcfomfghbpaaa

namespace Go.Proofs.Ytfdcfomfghbpaaa
open Go.ChangeShapes Go.WideShapes Go.ChangeAt Go.WideMaps Go.WideElems Go.RowKit Go.Joins

theorem own : ownKnob Try.prog.godebug = none := by kernel_rfl
theorem laidOut : laidOutB Try.prog = true := by kernel_rfl

/-- A house of which nobody has anything comes back, or nothing. -/
def HnOut (w w' : World) (e : Ending) (ID : Int) (ROOM : Int) (BB : Bool) : Prop :=
  ∃ ao cap, e = .returned (.tuple #[houseV ID BB ROOM (.slice ao 0 cap) 0, .bool BB]) ∧ Made w' w.heap.size (.slice ao 0 cap) [] ∧ Below w.heap.size w w'
def hnB (id room : Int) : Bool := Pl.inB id 1 3 && Pl.inB room 0 9
def hnX (id room x : Int) : Int := if hnB id room = true then x else 0

theorem houseIdN_any (id : Int) (w : World) : Calls Try.prog 28 #[.int .i64 id] w fun e w' => e = .returned (.bool (Pl.inB id 1 3)) ∧ w' = w := by
  by_cases h1 : 1 ≤ id
  all_goals by_cases h2 : id ≤ 3
  all_goals
    go_enter Try.func28, Try.ntmps28
    go_wp2
    go_ret
    exact ⟨by simp [Pl.inB]; omega, rfl⟩

theorem hn_none (w w' : World) (h : Below w.heap.size w w') : HnOut w w' (.returned (.tuple #[houseV 0 false 0 (.slice none 0 0) 0, .bool false])) 0 0 false := ⟨none, 0, rfl, Made.none _ _, h⟩

set_option maxHeartbeats 2000000 in
theorem implHNew_any (id room : Int) (w : World) :
    Calls Try.prog 15 #[.int .i64 id, .int .i64 room] w fun e w' => HnOut w w' e (hnX id room id) (hnX id room room) (hnB id room) := by
  have HI := hide_it (houseIdN_any id)
  have HR := hide_it (roomOk_any room)
  unfold hnX hnB
  obtain ⟨II, hII⟩ : ∃ x, Pl.inB id 1 3 = x := ⟨_, rfl⟩
  obtain ⟨JJ, hJJ⟩ : ∃ x, Pl.inB room 0 9 = x := ⟨_, rfl⟩
  rw [hII] at HI
  rw [hJJ] at HR
  rw [hII, hJJ]
  clear hII hJJ
  cases II
  · go_enter Try.func15, Try.ntmps15
    go_wp2_with (go_at_call 28; refine (HI.out _).mono ?_; rintro e w1 ⟨rfl, rfl⟩)
    refine bodyPost_ret (v := .tuple #[houseV 0 false 0 (.slice none 0 0) 0, .bool false]) (by simp [results, Try.results15, go_sem]) rfl ?_
    exact hn_none _ _ (alloc_below _ _)
  · cases JJ
    · go_enter Try.func15, Try.ntmps15
      go_wp2_with (first | (go_at_call 28; refine (HI.out _).mono ?_; rintro e w1 ⟨rfl, rfl⟩) | (go_at_call 29; refine (HR.out _).mono ?_; rintro e w1 ⟨rfl, rfl⟩))
      refine bodyPost_ret (v := .tuple #[houseV 0 false 0 (.slice none 0 0) 0, .bool false]) (by simp [results, Try.results15, go_sem]) rfl ?_
      exact hn_none _ _ (alloc_below _ _)
    · go_enter Try.func15, Try.ntmps15
      go_wp2_with (first | (go_at_call 28; refine (HI.out _).mono ?_; rintro e w1 ⟨rfl, rfl⟩) | (go_at_call 29; refine (HR.out _).mono ?_; rintro e w1 ⟨rfl, rfl⟩))
      refine bodyPost_ret (v := .tuple #[houseV id true room (.slice none 0 0) 0, .bool true]) (by simp [results, Try.results15, go_sem]) rfl ?_
      exact ⟨none, 0, rfl, Made.none _ _, alloc_below _ _⟩

set_option maxHeartbeats 2000000 in
theorem specHNew_any (id room : Int) (w : World) :
    Calls Try.prog 13 #[.int .i64 id, .int .i64 room] w fun e w' => HnOut w w' e (hnX id room id) (hnX id room room) (hnB id room) := by
  have HN := hide_it (specNew_any room)
  have HI := hide_it (in_any id 1 3)
  unfold hnX hnB
  obtain ⟨II, hII⟩ : ∃ x, Pl.inB id 1 3 = x := ⟨_, rfl⟩
  obtain ⟨JJ, hJJ⟩ : ∃ x, Pl.inB room 0 9 = x := ⟨_, rfl⟩
  have hnO : (newO room).isSome = JJ := by rw [← hJJ]; unfold newO; cases Pl.inB room 0 9 <;> simp
  obtain ⟨RR, hRR⟩ : ∃ x, oR room (newO room) = x := ⟨_, rfl⟩
  obtain ⟨HS, hHS⟩ : ∃ x, oH (newO room) = x := ⟨_, rfl⟩
  rw [hRR, hHS, hnO] at HN
  rw [hII] at HI
  rw [hII, hJJ]
  clear hII hJJ hnO hRR hHS
  obtain ⟨w0, hw0⟩ : ∃ W, Hid (W = w.alloc (.cells #[.int .i64 0, .bool false, .int .i64 0, .slice none 0 0, .int .i64 0] 42)) := ⟨_, rfl⟩
  have B0 : Hid (Below w.heap.size w w0) := by show Below _ _ _; rw [hw0.out]; exact alloc_below _ _
  have Z0 : Hid (Blk w0 w.heap.size #[.int .i64 0, .bool false, .int .i64 0, .slice none 0 0, .int .i64 0] 42) := by show Blk _ _ _ _; rw [hw0.out]; exact Blk.new _ _ _
  go_enter Try.func13, Try.ntmps13
  go_wp2_with fail
  rw [← hw0.out]
  refine (HN.out _).mono ?_
  rintro e w1 ⟨a1, c1, rfl, -, hb1⟩
  have Z1 := hide_it (Z0.out.after hb1)
  have B1 := hide_it (B0.out.trans (hb1.mono B0.out.size))
  have hs1 : w.heap.size < w1.heap.size := Z1.out.lt
  have FR : Hid (∀ o, Blk (w1.alloc o) w.heap.size #[.int .i64 0, .bool false, .int .i64 0, .slice none 0 0, .int .i64 0] 42) := fun o => Z1.out.alloc o
  have FR2 : Hid (∀ o o2, Blk ((w1.alloc o).alloc o2) w.heap.size #[.int .i64 0, .bool false, .int .i64 0, .slice none 0 0, .int .i64 0] 42) := fun o o2 => (Z1.out.alloc o).alloc o2
  clear hb1
  obtain ⟨z0, z1, z2, z3, z4⟩ := Z1.out.cells5
  obtain ⟨zf0, zf1, zf2, zf3, zf4⟩ := Z1.out.free5
  have c0 := fun o => (FR.out o).cells5.1
  have c1' := fun o => (FR.out o).cells5.2.1
  have c2 := fun o => (FR.out o).cells5.2.2.1
  have c3 := fun o => (FR.out o).cells5.2.2.2.1
  have c4 := fun o => (FR.out o).cells5.2.2.2.2
  have f0 := fun o => (FR.out o).free 0
  have f1 := fun o => (FR.out o).free 1
  have f2 := fun o => (FR.out o).free 2
  have f3 := fun o => (FR.out o).free 3
  have f4 := fun o => (FR.out o).free 4
  have d0 := fun o o2 => (FR2.out o o2).cells5.1
  have d1 := fun o o2 => (FR2.out o o2).cells5.2.1
  have d2 := fun o o2 => (FR2.out o o2).cells5.2.2.1
  have d3 := fun o o2 => (FR2.out o o2).cells5.2.2.2.1
  have d4 := fun o o2 => (FR2.out o o2).cells5.2.2.2.2
  have g0 := fun o o2 => (FR2.out o o2).free 0
  have g1 := fun o o2 => (FR2.out o o2).free 1
  have g2 := fun o o2 => (FR2.out o o2).free 2
  have g3 := fun o o2 => (FR2.out o o2).free 3
  have g4 := fun o o2 => (FR2.out o o2).free 4
  cases II
  · go_wp2_with (go_at_call 27; refine (HI.out _).mono ?_; rintro e w2 ⟨rfl, rfl⟩)
    refine bodyPost_ret (v := .tuple #[houseV 0 false 0 (.slice none 0 0) 0, .bool false]) (by simp [results, Try.results13, go_sem, *]) rfl ?_
    refine hn_none _ _ (Below.alloc ?_ (by simp; omega) _)
    iterate 5 (refine Below.setCell ?_ (by simp) _)
    exact B1.out
  · cases JJ
    · go_wp2_with (go_at_call 27; refine (HI.out _).mono ?_; rintro e w2 ⟨rfl, rfl⟩)
      refine bodyPost_ret (v := .tuple #[houseV 0 false 0 (.slice none 0 0) 0, .bool false]) (by simp [results, Try.results13, go_sem, *]) rfl ?_
      refine hn_none _ _ (Below.alloc ?_ (by simp; omega) _)
      iterate 5 (refine Below.setCell ?_ (by simp) _)
      exact B1.out
    · go_wp2_with (go_at_call 27; refine (HI.out _).mono ?_; rintro e w2 ⟨rfl, rfl⟩)
      obtain ⟨w2, hw2⟩ : ∃ W, Hid (W = ((((w1.setCell ⟨w.heap.size, 0, none⟩ (.int .i64 id)).setCell ⟨w.heap.size, 1, none⟩ (.bool true)).setCell ⟨w.heap.size, 2, none⟩ (.int .i64 room)).setCell ⟨w.heap.size, 3, none⟩ (.slice (some ⟨w1.heap.size + 1, 0, none⟩) 0 0)).setCell ⟨w.heap.size, 4, none⟩ (.int .i64 0)) := ⟨_, rfl⟩
      have B2 : Hid (Below w.heap.size w w2) := by
        show Below _ _ _
        rw [hw2.out]
        iterate 5 (refine Below.setCell ?_ (by simp) _)
        exact B1.out
      have hs2 : w2.heap.size = w1.heap.size := by rw [hw2.out]; simp
      have Z2 : Hid (Blk w2 w.heap.size #[.int .i64 id, .bool true, .int .i64 room, .slice (some ⟨w1.heap.size + 1, 0, none⟩) 0 0, .int .i64 0] 42) := by
        show Blk _ _ _ _
        rw [hw2.out]
        exact ((((Z1.out.set_ 0 _).set_ 1 _).set_ 2 _).set_ 3 _).set_ 4 _
      rw [← hw2.out]
      clear z0 z1 z2 z3 z4 zf0 zf1 zf2 zf3 zf4 c0 c1' c2 c3 c4 f0 f1 f2 f3 f4 d0 d1 d2 d3 d4 g0 g1 g2 g3 g4
      have FQ : Hid (∀ o o2, Blk ((w2.alloc o).alloc o2) w.heap.size #[.int .i64 id, .bool true, .int .i64 room, .slice (some ⟨w1.heap.size + 1, 0, none⟩) 0 0, .int .i64 0] 42) := fun o o2 => (Z2.out.alloc o).alloc o2
      obtain ⟨z0, z1, z2, z3, z4⟩ := (FQ.out (.cells #[.int .i64 RR, .slice a1 HS.length c1] 57) (.cells #[] 72)).cells5
      refine bodyPost_ret (v := .tuple #[houseV id true room (.slice (some ⟨w1.heap.size + 1, 0, none⟩) 0 0) 0, .bool true]) (by simp only [results, Try.results13]; simp [go_sem, z0, z1, z2, z3, z4]) rfl ?_
      refine ⟨_, _, rfl, ⟨[], rfl, ?_, ?_, Inner.nil _ _ _ (Nat.le_refl _)⟩, ?_⟩
      · have h := World.ownsRow_lit (base := w.heap.size) (e := 72) (size := 3) (w2.alloc (.cells #[.int .i64 RR, .slice a1 HS.length c1] 57)) #[] 0 (by simp; omega) (by unfold maxLen; omega) rfl
        rw [size1, hs2] at h
        exact h
      · intro k hk; simp [Value.ownBlock] at hk; simp; omega
      · exact (B2.out.alloc (by omega) _).alloc (by simp; omega) _

end Go.Proofs.Ytfdcfomfghbpaaa

namespace Go.Proofs.Ytfdcfomfghbpaaa
open Go.RowKit

def Bare (ps : List (Hd × Value)) : Prop := ∀ p ∈ ps, ∃ a c, p.2 = .slice a 0 c
/-- A house's marks. -/
def mkH (k : Int) (u : Value) : Hd × Value := ((k, (k + 1) % 3 == 0, k + 2, [], k + 3), u)
def mkHs (ps : List (Hd × Value)) (k : Int) (n : Nat) : List (Hd × Value) := (List.range n).map fun i => mkH (k + 4 * (i : Nat)) (ps.getD i zeroHo).2
theorem mkHs_length (ps : List (Hd × Value)) (k : Int) (n : Nat) : (mkHs ps k n).length = n := by simp [mkHs]
theorem mkHs_succ (ps : List (Hd × Value)) (k : Int) (n : Nat) : mkHs ps k (n + 1) = mkHs ps k n ++ [mkH (k + 4 * (n : Nat)) (ps.getD n zeroHo).2] := by
  unfold mkHs; rw [List.range_succ, List.map_append]; rfl
theorem mkHs_get (ps : List (Hd × Value)) (k : Int) (n i : Nat) (h : i < n) : (mkHs ps k n)[i]? = some (mkH (k + 4 * (i : Nat)) (ps.getD i zeroHo).2) := by
  simp [mkHs, h]

theorem hoflat_set4 (ps : List (Hd × Value)) (i : Nat) (p : Hd × Value) (h : ps[i]? = some p) (q : Hd) :
    ((((hoflat ps).set (i * 5) (.int .i64 q.1)).set (i * 5 + 1) (.bool q.2.1)).set (i * 5 + 2) (.int .i64 q.2.2.1)).set (i * 5 + 4) (.int .i64 q.2.2.2.2) = hoflat (ps.set i (q, p.2)) := by
  induction ps generalizing i with
  | nil => simp at h
  | cons a t ih =>
    cases i with
    | zero => simp at h; subst h; simp [hoflat]
    | succ i =>
      have := ih i (by simpa using h)
      rw [show (i + 1) * 5 = i * 5 + 5 by omega]
      simp only [hoflat, List.set_cons_succ]
      rw [this]
theorem mk_set (ps : List (Hd × Value)) (k : Int) (j : Nat) (p : Hd × Value) (h : ps[j]? = some p) : (mkHs ps k j ++ ps.drop j).set j (mkH (k + 4 * (j : Nat)) p.2) = mkHs ps k (j + 1) ++ ps.drop (j + 1) := by
  have hl : j < ps.length := by
    by_cases e : j < ps.length
    · exact e
    · rw [List.getElem?_eq_none (by omega)] at h; cases h
  rw [List.set_append_right _ _ (by rw [mkHs_length]; exact Nat.le_refl _), mkHs_length, Nat.sub_self, List.drop_eq_getElem_cons hl, List.set_cons_zero, mkHs_succ, List.append_assoc]
  have : (ps.getD j zeroHo) = p := by rw [List.getD_eq_getElem?_getD, h]; rfl
  rw [this]
  rfl
theorem markRecs0_any (a : Option Addr) (c : Nat) (k : Int) (w : World) :
    Calls Try.prog 34 #[.slice a 0 c, .int .i64 k] w fun e w' => e = .returned (.int .i64 k) ∧ w' = w := by
  go_enter Try.func34, Try.ntmps34
  go_wp2
  refine wp_loop_rounds 1 ?_
  rw [rounds_succ]
  go_wp2
  go_ret
  exact ⟨rfl, rfl⟩
theorem heldRecs0_any (a : Option Addr) (c : Nat) (k : Int) (w : World) :
    Calls Try.prog 36 #[.slice a 0 c, .int .i64 k] w fun e w' => e = .returned (.int .i64 k) ∧ w' = w := by
  go_enter Try.func36, Try.ntmps36
  go_wp2
  refine wp_loop_rounds 1 ?_
  rw [rounds_succ]
  go_wp2
  go_ret
  exact ⟨rfl, rfl⟩

set_option maxRecDepth 100000 in
set_option maxHeartbeats 4000000 in
theorem markHouses0_any (g cap n lo : Nat) (ps : List (Hd × Value)) (k : Int) (w : World) (hv : w.ownsRow lo 42 5 (.slice (some ⟨g, 0, none⟩) n cap) n (hoflat ps)) (hb : Bare ps) (hn : n ≤ 1000) (hk0 : 0 ≤ k) (hk1 : k ≤ 100000) :
    Calls Try.prog 21 #[.slice (some ⟨g, 0, none⟩) n cap, .int .i64 k] w fun e w' => e = .returned (.int .i64 (k + 4 * n)) ∧ w'.ownsRow lo 42 5 (.slice (some ⟨g, 0, none⟩) n cap) n (hoflat (mkHs ps k n)) ∧ w.grownBy w' (some g) := by
  have hxl : ps.length = n := by have := hv.1; rw [hoflat_length] at this; omega
  have HX : Hid (ps.length = n) := hxl
  have HBR := hide_it hb
  have H0 : Hid (w.ownsRow lo 42 5 (.slice (some ⟨g, 0, none⟩) n cap) n (hoflat (mkHs ps k 0 ++ ps.drop 0))) := by show World.ownsRow _ _ _ _ _ _ _; simpa [mkHs] using hv
  clear hv hxl hb
  go_enter Try.func21, Try.ntmps21
  go_wp2
  go_loopg [1, 5] n (fun gh q i wr => ∃ (j : Nat) (K : Int), j ≤ n ∧ gh = n - j ∧ i = .int .i64 j ∧ q = .int .i64 K ∧ Hid (K = k + 4 * j) ∧ Hid (wr.ownsRow lo 42 5 (.slice (some ⟨g, 0, none⟩) n cap) n (hoflat (mkHs ps k j ++ ps.drop j))) ∧ Hid (w.grownBy wr (some g)))
  case atStart => exact ⟨0, k, Nat.zero_le _, rfl, rfl, rfl, by show _ = _; simp, H0, World.grownBy.refl _ _⟩
  case round =>
    obtain ⟨j, K, hj, rfl, rfl, rfl, HK, HO, HG⟩ := hrel
    have hK0 : 0 ≤ K := by have := HK.out; omega
    have hK1 : K ≤ 200000 := by have := HK.out; omega
    by_cases hlt : j < n
    · obtain ⟨p, hp⟩ : ∃ p, ps[j]? = some p := ⟨_, List.getElem?_eq_getElem (by rw [HX.out]; exact hlt)⟩
      obtain ⟨a, c, hac⟩ := HBR.out p (List.mem_of_getElem? hp)
      have hdr : (mkHs ps k j ++ ps.drop j)[j]? = some p := by
        rw [List.getElem?_append_right (by rw [mkHs_length]; exact Nat.le_refl _), mkHs_length, Nat.sub_self, List.getElem?_drop, Nat.add_zero]
        exact hp
      obtain ⟨e0, e1, e2, e3, e4⟩ := hoflat_get _ j p hdr
      have c0 : wr.cell? ⟨g, j * 5, none⟩ = some (.int .i64 p.1.1) := by rw [HO.out.cellAt _ (by omega)]; exact e0
      have c1 : wr.cell? ⟨g, j * 5 + 1, none⟩ = some (.bool p.1.2.1) := by rw [HO.out.cellAt _ (by omega)]; exact e1
      have c2 : wr.cell? ⟨g, j * 5 + 2, none⟩ = some (.int .i64 p.1.2.2.1) := by rw [HO.out.cellAt _ (by omega)]; exact e2
      have c3 : wr.cell? ⟨g, j * 5 + 3, none⟩ = some (.slice a 0 c) := by rw [HO.out.cellAt _ (by omega), ← hac]; exact e3
      have c4 : wr.cell? ⟨g, j * 5 + 4, none⟩ = some (.int .i64 p.1.2.2.2.2) := by rw [HO.out.cellAt _ (by omega)]; exact e4
      have f0 := HO.out.frozenAt (j * 5)
      have f1 := HO.out.frozenAt (j * 5 + 1)
      have f2 := HO.out.frozenAt (j * 5 + 2)
      have f3 := HO.out.frozenAt (j * 5 + 3)
      have f4 := HO.out.frozenAt (j * 5 + 4)
      clear e0 e1 e2 e3 e4 hdr
      go_wp2_with fail
      refine (markRecs0_any a c _ _).mono ?_
      rintro e wq ⟨rfl, hwq⟩
      rw [hwq]
      clear hwq
      have HKE : Hid (K + 4 = k + 4 * ((j + 1 : Nat) : Int)) := by have := HK.out; show _ = _; omega
      have hd2 : (mkHs ps k j ++ ps.drop j)[j]? = some p := by
        rw [List.getElem?_append_right (by rw [mkHs_length]; exact Nat.le_refl _), mkHs_length, Nat.sub_self, List.getElem?_drop, Nat.add_zero]
        exact hp
      have a1 := HO.out.stored (j * 5) (.int .i64 K)
      have a2 := a1.1.stored (j * 5 + 1) (.bool ((K + 1) % 3 == 0))
      have a3 := a2.1.stored (j * 5 + 2) (.int .i64 (K + 1 + 1))
      have a4 := a3.1.stored (j * 5 + 4) (.int .i64 (K + 1 + 1 + 1))
      have ST := hide_it a4.1
      have SG := hide_it (grownBy_trans (grownBy_trans (grownBy_trans a1.2 a2.2) a3.2) a4.2)
      have HFL : Hid (((((hoflat (mkHs ps k j ++ ps.drop j)).set (j * 5) (.int .i64 K)).set (j * 5 + 1) (.bool ((K + 1) % 3 == 0))).set (j * 5 + 2) (.int .i64 (K + 1 + 1))).set (j * 5 + 4) (.int .i64 (K + 1 + 1 + 1)) = hoflat (mkHs ps k (j + 1) ++ ps.drop (j + 1))) := by
        show _ = _
        have h1 := hoflat_set4 _ j p hd2 (K, (K + 1) % 3 == 0, K + 1 + 1, [], K + 1 + 1 + 1)
        rw [h1, ← mk_set ps k j p hp]
        have h2 : K = k + 4 * (j : Nat) := HK.out
        unfold mkH
        rw [← h2, show K + 1 + 1 = K + 2 by omega, show K + 2 + 1 = K + 3 by omega]
      clear a1 a2 a3 a4 hd2
      go_wp2
      go_roundg (n - (j + 1))
      case measure => omega
      case rel => exact ⟨j + 1, K + 4, by omega, rfl, by go_num, by go_num, HKE, by rw [← HFL.out]; exact ST, grownBy_trans HG.out SG.out⟩
    · have hje : j = n := by omega
      subst hje
      have HO2 : Hid (wr.ownsRow lo 42 5 (.slice (some ⟨g, 0, none⟩) j cap) j (hoflat (mkHs ps k j))) := by
        have := HO.out
        rw [List.drop_of_length_le (by rw [HX.out]; exact Nat.le_refl _), List.append_nil] at this
        exact this
      go_wp2
      go_ret
      exact ⟨by rw [HK.out]; rfl, HO2.out, HG.out⟩

set_option maxRecDepth 100000 in
set_option maxHeartbeats 4000000 in
theorem heldHouses0_any (g cap n lo : Nat) (ps : List (Hd × Value)) (k : Int) (w : World) (hv : w.ownsRow lo 42 5 (.slice (some ⟨g, 0, none⟩) n cap) n (hoflat (mkHs ps k n))) (hb : Bare ps) (hx : ps.length = n) (hn : n ≤ 1000) (hk0 : 0 ≤ k) (hk1 : k ≤ 100000) :
    Calls Try.prog 24 #[.slice (some ⟨g, 0, none⟩) n cap, .int .i64 k] w fun e w' => e = .returned (.int .i64 (k + 4 * n)) ∧ w' = w := by
  have HX : Hid (ps.length = n) := hx
  have HBR := hide_it hb
  have HO := hide_it hv
  clear hv hx hb
  go_enter Try.func24, Try.ntmps24
  go_wp2
  go_loopg [1, 5] n (fun gh q i wr => ∃ (j : Nat) (K : Int), j ≤ n ∧ gh = n - j ∧ i = .int .i64 j ∧ q = .int .i64 K ∧ Hid (K = k + 4 * j) ∧ wr = w)
  case atStart => exact ⟨0, k, Nat.zero_le _, rfl, rfl, rfl, by show _ = _; simp, rfl⟩
  case round =>
    obtain ⟨j, K, hj, rfl, rfl, rfl, HK, rfl⟩ := hrel
    have hK0 : 0 ≤ K := by have := HK.out; omega
    have hK1 : K ≤ 200000 := by have := HK.out; omega
    by_cases hlt : j < n
    · obtain ⟨p, hp⟩ : ∃ p, ps[j]? = some p := ⟨_, List.getElem?_eq_getElem (by rw [HX.out]; exact hlt)⟩
      obtain ⟨a, c, hac⟩ := HBR.out p (List.mem_of_getElem? hp)
      have hq : (mkHs ps k n)[j]? = some (mkH K p.2) := by
        rw [mkHs_get ps k n j hlt, ← HK.out]
        have : (ps.getD j zeroHo) = p := by rw [List.getD_eq_getElem?_getD, hp]; rfl
        rw [this]
      obtain ⟨e0, e1, e2, e3, e4⟩ := hoflat_get _ j _ hq
      simp only [mkH] at e0 e1 e2 e3 e4
      rename World => wr
      have c0 : wr.cell? ⟨g, j * 5, none⟩ = some (.int .i64 K) := by rw [HO.out.cellAt _ (by omega)]; exact e0
      have c1 : wr.cell? ⟨g, j * 5 + 1, none⟩ = some (.bool ((K + 1) % 3 == 0)) := by rw [HO.out.cellAt _ (by omega)]; exact e1
      have c2 : wr.cell? ⟨g, j * 5 + 2, none⟩ = some (.int .i64 (K + 1 + 1)) := by rw [HO.out.cellAt _ (by omega), show K + 1 + 1 = K + 2 by omega]; exact e2
      have c3 : wr.cell? ⟨g, j * 5 + 3, none⟩ = some (.slice a 0 c) := by rw [HO.out.cellAt _ (by omega), ← hac]; exact e3
      have c4 : wr.cell? ⟨g, j * 5 + 4, none⟩ = some (.int .i64 (K + 1 + 1 + 1)) := by rw [HO.out.cellAt _ (by omega), show K + 1 + 1 + 1 = K + 3 by omega]; exact e4
      have hbne : (((K + 1) % 3 == 0) != ((K + 1) % 3 == 0)) = false := by simp
      have HKE : Hid (K + 4 = k + 4 * ((j + 1 : Nat) : Int)) := by have := HK.out; show _ = _; omega
      clear e0 e1 e2 e3 e4 hq hp hac
      go_wp2_with fail
      refine (heldRecs0_any a c _ _).mono ?_
      rintro e wq ⟨rfl, hwq⟩
      rw [hwq]
      clear hwq
      go_wp2
      go_roundg (n - (j + 1))
      case measure => omega
      case rel => exact ⟨j + 1, K + 4, by omega, rfl, by go_num, by go_num, HKE, rfl⟩
    · have hje : j = n := by omega
      subst hje
      go_wp2
      go_ret
      exact ⟨by rw [HK.out]; rfl, rfl⟩

end Go.Proofs.Ytfdcfomfghbpaaa

namespace Go.Proofs.Ytfdcfomfghbpaaa
open Go.RowKit

theorem implDNew_any (w : World) : Calls Try.prog 14 #[] w fun e w' => e = .returned (deskV true (.slice none 0 0) 0 (.slice none 0 0)) ∧ Below w.heap.size w w' := by
  go_enter Try.func14, Try.ntmps14
  go_wp2
  refine bodyPost_ret (v := deskV true (.slice none 0 0) 0 (.slice none 0 0)) (by simp [results, Try.results14, go_sem]) rfl ⟨rfl, ?_⟩
  first | exact alloc_below _ _ | (repeat (refine Below.setCell ?_ (by simp) _)); exact alloc_below _ _
theorem specDNew_any (w : World) : Calls Try.prog 12 #[] w fun e w' => ∃ g h, e = .returned (deskV true (.slice (some g) 0 0) 0 (.slice (some h) 0 0)) ∧ Below w.heap.size w w' := by
  go_enter Try.func12, Try.ntmps12
  go_wp2
  refine bodyPost_ret (v := deskV true (.slice (some ⟨w.heap.size + 1, 0, none⟩) 0 0) 0 (.slice (some ⟨w.heap.size + 1 + 1, 0, none⟩) 0 0)) (by simp [results, Try.results12, go_sem]) rfl ⟨_, _, rfl, ?_⟩
  first | exact below3 w _ _ _ | ((repeat (refine Below.setCell ?_ (by simp) _)); exact below3 w _ _ _)

def wnK (zs : List Int) (k : Nat) : Bool := (List.range k).all fun i => hnB (((i : Nat) : Int) + 1) (zs.getD i 0)
def wnB (zs : List Int) : Bool := decide (zs.length = 3) && wnK zs 3
/-- The first k houses. -/
def wnH (zs : List Int) (k : Nat) : List Hd := (List.range k).map fun i => (((i : Nat) : Int) + 1, true, zs.getD i 0, [], 0)
def wnHs (zs : List Int) : List Hd := if wnB zs = true then wnH zs 3 else []
theorem wnK_zero (zs : List Int) : wnK zs 0 = true := rfl
theorem wnK_succ (zs : List Int) (k : Nat) : wnK zs (k + 1) = (wnK zs k && hnB ((k : Int) + 1) (zs.getD k 0)) := by
  unfold wnK; rw [List.range_succ, List.all_append]; simp
theorem wnK_no {zs : List Int} {k n : Nat} (hk : k ≤ n) (h : wnK zs k = false) : wnK zs n = false := by
  unfold wnK at *
  rw [List.all_eq_false] at *
  obtain ⟨x, hx, hy⟩ := h
  exact ⟨x, by simp at hx ⊢; omega, hy⟩
theorem wnK_three {zs : List Int} {k : Nat} (h : wnK zs k = true) : k ≤ 3 := by
  by_cases hk : k ≤ 3
  · exact hk
  · have h4 : wnK zs 4 = false := by
      rw [show (4 : Nat) = 3 + 1 from rfl, wnK_succ]
      have : hnB (((3 : Nat) : Int) + 1) (zs.getD 3 0) = false := by unfold hnB; rw [show Pl.inB (((3 : Nat) : Int) + 1) 1 3 = false by decide]; rfl
      rw [this, Bool.and_false]
    rw [wnK_no (by omega) h4] at h
    cases h
theorem wnH_zero (zs : List Int) : wnH zs 0 = [] := rfl
theorem wnH_succ (zs : List Int) (k : Nat) : wnH zs (k + 1) = wnH zs k ++ [((k : Int) + 1, true, zs.getD k 0, [], 0)] := by
  unfold wnH; rw [List.range_succ, List.map_append]; rfl
theorem wnH_length (zs : List Int) (k : Nat) : (wnH zs k).length = k := by simp [wnH]

theorem wnH_bare (zs : List Int) (k : Nat) : ∀ h ∈ wnH zs k, h.2.2.2.1 = [] := by
  intro h hh
  unfold wnH at hh
  obtain ⟨i, _, rfl⟩ := List.mem_map.1 hh
  rfl
theorem ints_cell' {w : World} {v : Value} {zs : List Int} (h : Ints w v zs) (hne : zs ≠ []) : ∃ b off cap, v = .slice (some ⟨b, off, none⟩) zs.length cap ∧ ∀ k, k < zs.length → w.cell? ⟨b, off + k, none⟩ = some (.int .i64 (zs.getD k 0)) := by
  rcases h with ⟨h0, _⟩ | ⟨b, off, cap, h1, _, h2⟩
  · exact absurd h0 hne
  · exact ⟨b, off, cap, h1, h2⟩
/-- A row of bare houses reads as them. -/
theorem bare_houses {w : World} {lo n : Nat} {v : Value} {ps : List (Hd × Value)} {hs : List Hd} (h : w.ownsRow lo 42 5 v n (hoflat ps)) (hp : ps.map (·.1) = hs) (hb : Bare ps) (he : ∀ h ∈ hs, h.2.2.2.1 = []) : Houses w v hs := by
  subst hp
  have hl : ps.length = n := by have := h.1; rw [hoflat_length] at this; omega
  by_cases hp : ps = []
  · subst hp
    rcases h.2 with ⟨hv, _⟩ | ⟨g, cap, cur, hv, _⟩
    · exact Or.inl ⟨rfl, none, 0, hv⟩
    · subst hl; exact Or.inl ⟨rfl, _, cap, hv⟩
  · rcases h.2 with ⟨_, hn⟩ | ⟨g, cap, cur, hv, _⟩
    · exact absurd (List.length_eq_zero_iff.1 (hl.trans hn)) hp
    · subst hv
      refine Or.inr ⟨g, 0, cap, by simp [hl], by simpa using hp, fun i r hr => ?_⟩
      rw [List.getElem?_map] at hr
      cases hpi : ps[i]? with
      | none => rw [hpi] at hr; cases hr
      | some p =>
        rw [hpi] at hr
        simp at hr
        subst hr
        have hil : i < ps.length := by
          by_cases e : i < ps.length
          · exact e
          · rw [List.getElem?_eq_none (by omega)] at hpi; cases hpi
        obtain ⟨f0, f1, f2, f3, f4⟩ := hoflat_get ps i p hpi
        obtain ⟨a, c, hac⟩ := hb p (List.mem_of_getElem? hpi)
        have hrs := he p.1 (List.mem_map.2 ⟨p, List.mem_of_getElem? hpi, rfl⟩)
        refine ⟨p.2, ?_, ?_, ?_, ?_, ?_, Or.inl ⟨hrs, a, c, hac⟩⟩
        · rw [Nat.zero_add, h.cellAt _ (by omega)]; exact f0
        · rw [Nat.zero_add, h.cellAt _ (by omega)]; exact f1
        · rw [Nat.zero_add, h.cellAt _ (by omega)]; exact f2
        · rw [Nat.zero_add, h.cellAt _ (by omega)]; exact f3
        · rw [Nat.zero_add, h.cellAt _ (by omega)]; exact f4
theorem news5 (w : World) (x0 x1 x2 x3 x4 : Value) (ty : TypeId) : ∀ (j : Nat) (x : Value), [x0, x1, x2, x3, x4][j]? = some x → (w.alloc (.cells #[x0, x1, x2, x3, x4] ty)).cell? ((⟨w.heap.size, 0, none⟩ : Addr).add j) = some x := by
  intro j x hj
  match j, hj with
  | 0, hj => simp at hj; subst hj; simp [Addr.add]
  | 1, hj => simp at hj; subst hj; simp [Addr.add]
  | 2, hj => simp at hj; subst hj; simp [Addr.add]
  | 3, hj => simp at hj; subst hj; simp [Addr.add]
  | 4, hj => simp at hj; subst hj; simp [Addr.add]
theorem news5' (w : World) (o : Obj) (x0 x1 x2 x3 x4 : Value) (ty : TypeId) : ∀ (j : Nat) (x : Value), [x0, x1, x2, x3, x4][j]? = some x → ((w.alloc o).alloc (.cells #[x0, x1, x2, x3, x4] ty)).cell? ((⟨w.heap.size + 1, 0, none⟩ : Addr).add j) = some x := by
  have h := news5 (w.alloc o) x0 x1 x2 x3 x4 ty
  rw [show (w.alloc o).heap.size = w.heap.size + 1 by simp] at h
  exact h
theorem one5 (id : Int) (up : Bool) (room : Int) (a : Option Addr) (n c : Nat) (f : Int) : ∀ x ∈ [Value.int .i64 id, .bool up, .int .i64 room, .slice a n c, .int .i64 f], x.oneCell' = true := by
  intro x hx; simp at hx; rcases hx with rfl | rfl | rfl | rfl | rfl <;> rfl
/-- A new world comes back, or nothing. -/
def WnO (w w' : World) (e : Ending) (zs : List Int) : Prop :=
  ∃ a1 c1 a2 c2 a3 c3 a4 c4, e = .returned (.tuple #[worldV (wnB zs) (.slice a1 0 c1) 0 (.slice a2 0 c2) (.slice a3 (wnHs zs).length c3) (.slice a4 0 c4), .bool (wnB zs)]) ∧ WdAt w' (.slice a1 0 c1) (.slice a2 0 c2) (.slice a3 (wnHs zs).length c3) (.slice a4 0 c4) [] [] (wnHs zs) [] ∧ Below w.heap.size w w'
theorem wn_none {w w' : World} {zs : List Int} (hz : wnB zs = false) (h : Below w.heap.size w w') : WnO w w' (.returned (.tuple #[worldV false (.slice none 0 0) 0 (.slice none 0 0) (.slice none 0 0) (.slice none 0 0), .bool false])) zs := by
  have he : wnHs zs = [] := by unfold wnHs; rw [hz]; rfl
  refine ⟨none, 0, none, 0, none, 0, none, 0, by rw [hz, he]; rfl, ?_, h⟩
  rw [he]
  exact ⟨⟨Or.inl ⟨rfl, _, _, rfl⟩, Or.inl ⟨rfl, _, _, rfl, fun _ => rfl⟩⟩, Or.inl ⟨rfl, _, _, rfl⟩, Or.inl ⟨rfl, _, _, rfl, fun _ => rfl⟩⟩

set_option maxRecDepth 100000 in
set_option maxHeartbeats 4000000 in
theorem specWNew_any (v : Value) (zs : List Int) (w : World) (hv : Ints w v zs) :
    Calls Try.prog 4 #[v] w fun e w' => WnO w w' e zs := by
  obtain ⟨i0, hi, hz0, hz1, hz2⟩ := info_parts infoHouse
  have HI : Hid (∀ W, Below w.heap.size w W → Ints W v zs) := fun W h => hv.later h (Nat.le_refl _)
  obtain ⟨av, cv, rfl⟩ := hv.shape
  clear hv
  go_enter Try.func4, Try.ntmps4
  obtain ⟨w0, hw0⟩ : ∃ W, Hid (W = w.alloc (.cells #[.bool false, .slice none 0 0, .int .i64 0, .slice none 0 0, .slice none 0 0, .slice none 0 0] 31)) := ⟨_, rfl⟩
  have B0 : Hid (Below w.heap.size w w0) := by show Below _ _ _; rw [hw0.out]; exact alloc_below _ _
  have R0 : Hid (Blk w0 w.heap.size #[.bool false, .slice none 0 0, .int .i64 0, .slice none 0 0, .slice none 0 0, .slice none 0 0] 31) := by show Blk _ _ _ _; rw [hw0.out]; exact Blk.new _ _ _
  go_wp2_with fail
  rw [← hw0.out]
  refine (specDNew_any w0).mono ?_
  rintro e w1 ⟨g, h, rfl, hb1⟩
  have B1 := hide_it (B0.out.trans (hb1.mono B0.out.size))
  have R1 := hide_it (R0.out.after hb1)
  have hs1 : w.heap.size < w1.heap.size := R1.out.lt
  clear hb1
  obtain ⟨w2, hw2⟩ : ∃ W, Hid (W = (w1.alloc (.cells #[] 67)).alloc (.cells #[.bool true, .slice (some g) 0 0, .int .i64 0, .slice (some h) 0 0, .slice none 0 0, .slice (some ⟨w1.heap.size, 0, none⟩) 0 0] 31)) := ⟨_, rfl⟩
  have B2 : Hid (Below w.heap.size w w2) := by show Below _ _ _; rw [hw2.out]; exact B1.out.trans ((below2 _ _ _).mono B1.out.size)
  have R2 : Hid (Blk w2 w.heap.size #[.bool false, .slice none 0 0, .int .i64 0, .slice none 0 0, .slice none 0 0, .slice none 0 0] 31) := by show Blk _ _ _ _; rw [hw2.out]; exact (R1.out.alloc _).alloc _
  have X2 : Hid (Blk w2 (w1.heap.size + 1) #[.bool true, .slice (some g) 0 0, .int .i64 0, .slice (some h) 0 0, .slice none 0 0, .slice (some ⟨w1.heap.size, 0, none⟩) 0 0] 31) := by show Blk _ _ _ _; rw [hw2.out]; exact Blk.new2 _ _ _ _
  have hs2 : w2.heap.size = w1.heap.size + 2 := by rw [hw2.out]; simp
  go_wp2_with fail
  rw [← hw2.out]
  go_loopg [5] zs.length (fun gg i wr => ∃ (k : Nat) (a3 : Option Addr) (c3 : Nat) (hps : List (Hd × Value)), k ≤ zs.length ∧ gg = zs.length - k ∧ i = .int .i64 k ∧ Hid (wnK zs k = true) ∧ Hid (Blk wr (w1.heap.size + 1) #[.bool true, .slice (some g) 0 0, .int .i64 0, .slice (some h) 0 0, .slice a3 k c3, .slice (some ⟨w1.heap.size, 0, none⟩) 0 0] 31) ∧ Hid (hps.map (·.1) = wnH zs k ∧ Bare hps ∧ wr.ownsRow (w1.heap.size + 2) 42 5 (.slice a3 k c3) k (hoflat hps)) ∧ Hid (Blk wr w.heap.size #[.bool false, .slice none 0 0, .int .i64 0, .slice none 0 0, .slice none 0 0, .slice none 0 0] 31) ∧ Hid (Below (w1.heap.size + 1) w2 wr))
  case atStart => exact ⟨0, none, 0, [], Nat.zero_le _, rfl, rfl, wnK_zero zs, X2, ⟨rfl, fun p hp => by simp at hp, World.ownsRow_nil _ _ _ _⟩, R2, Below.refl _ _⟩
  case round =>
    obtain ⟨k, a3, c3, hps, hk, rfl, rfl, HK, HX, HP, HR, HB⟩ := hrel
    have hk3 : k ≤ 3 := wnK_three HK.out
    have B3 := hide_it (B2.out.trans (HB.out.mono (by omega)))
    have hsr : w1.heap.size + 2 ≤ wr.heap.size := by have := HB.out.size; omega
    by_cases hlt : k < zs.length
    · obtain ⟨b1, off, cap, hvv, hc⟩ := ints_cell' (HI.out wr B3.out) (by intro e; rw [e] at hlt; simp at hlt)
      simp only [Value.slice.injEq] at hvv
      obtain ⟨rfl, -, rfl⟩ := hvv
      obtain ⟨z, hz⟩ : ∃ z, zs.getD k 0 = z := ⟨_, rfl⟩
      have z0 := hc k hlt
      rw [hz] at z0
      have HS := hide_it (wnK_succ zs k)
      have HH := hide_it (wnH_succ zs k)
      rw [hz] at HS HH
      have HN := hide_it (specHNew_any ((k : Int) + 1) z wr)
      obtain ⟨BB, hBB⟩ : ∃ x, hnB ((k : Int) + 1) z = x := ⟨_, rfl⟩
      unfold hnX at HN
      rw [hBB] at HS HN
      clear hc hz hBB
      cases BB
      · have HF : Hid (wnB zs = false) := by
          show _ = _
          unfold wnB
          by_cases h3 : zs.length = 3
          · rw [wnK_no (k := k + 1) (n := 3) (by omega) (by rw [HS.out, Bool.and_false]), Bool.and_false]
          · simp [h3]
        have HN0 : Hid (Calls Try.prog 13 #[.int .i64 ((k : Int) + 1), .int .i64 z] wr fun e w' => HnOut wr w' e 0 0 false) := HN.out
        clear HN
        go_wp2_with fail
        refine HN0.out.mono ?_
        rintro e w4 ⟨ao, cp, rfl, hm4, hb4⟩
        have R4 := hide_it (HR.out.after hb4)
        have B4 := hide_it (B3.out.trans (hb4.mono B3.out.size))
        have hs4 : w.heap.size < w4.heap.size := R4.out.lt
        obtain ⟨r0, r1, r2, r3, r4, r5⟩ := R4.out.cells6
        obtain ⟨f0, f1, f2, f3, f4, f5⟩ := R4.out.free6
        have k0 := fun x => cellAlloc r0 x
        have k1 := fun x => cellAlloc r1 x
        have k2 := fun x => cellAlloc r2 x
        have k3 := fun x => cellAlloc r3 x
        have k4 := fun x => cellAlloc r4 x
        have k5 := fun x => cellAlloc r5 x
        have q0 := fun x => frozenAlloc f0 R4.out.lt x
        have q1 := fun x => frozenAlloc f1 R4.out.lt x
        have q2 := fun x => frozenAlloc f2 R4.out.lt x
        have q3 := fun x => frozenAlloc f3 R4.out.lt x
        have q4 := fun x => frozenAlloc f4 R4.out.lt x
        have q5 := fun x => frozenAlloc f5 R4.out.lt x
        clear hm4 hb4 z0
        go_wp2
        refine bodyPost_ret (v := .tuple #[worldV false (.slice none 0 0) 0 (.slice none 0 0) (.slice none 0 0) (.slice none 0 0), .bool false]) (by simp [results, Try.results4, go_sem, *]) rfl ?_
        exact wn_none HF.out (Below.alloc (Below.setCell (Below.setCell (Below.setCell (Below.setCell (Below.setCell (Below.setCell (B4.out) (Nat.le_refl _) _) (Nat.le_refl _) _) (Nat.le_refl _) _) (Nat.le_refl _) _) (Nat.le_refl _) _) (Nat.le_refl _) _) (by simp; omega) _)
      · have HK2 : Hid (wnK zs (k + 1) = true) := by show _ = _; rw [HS.out, HK.out]; rfl
        have HN0 : Hid (Calls Try.prog 13 #[.int .i64 ((k : Int) + 1), .int .i64 z] wr fun e w' => HnOut wr w' e ((k : Int) + 1) z true) := HN.out
        clear HN
        go_wp2_with fail
        refine HN0.out.mono ?_
        rintro e w4 ⟨ao, cp, rfl, hm4, hb4⟩
        have R4 := hide_it (HR.out.after hb4)
        have X4 := hide_it (HX.out.after hb4)
        have P4 := hide_it (ownsRow_below HP.out.2.2 hb4 (fun j hj => (HP.out.2.2.lt j hj).2))
        have L4 := hide_it (HB.out.trans (hb4.mono (by omega)))
        have hs4 : w1.heap.size + 2 ≤ w4.heap.size := by have := L4.out.size; omega
        clear hm4 hb4 z0
        have R5 := hide_it (R4.out.alloc (.cells #[.int .i64 ((k : Int) + 1), .bool true, .int .i64 z, .slice ao 0 cp, .int .i64 0] 42))
        have X5 := hide_it (X4.out.alloc (.cells #[.int .i64 ((k : Int) + 1), .bool true, .int .i64 z, .slice ao 0 cp, .int .i64 0] 42))
        have L5 := hide_it (L4.out.trans ((alloc_below w4 (.cells #[.int .i64 ((k : Int) + 1), .bool true, .int .i64 z, .slice ao 0 cp, .int .i64 0] 42)).mono (by omega)))
        obtain ⟨h0, h1, h2, h3, h4⟩ := (show Blk (w4.alloc (.cells #[.int .i64 ((k : Int) + 1), .bool true, .int .i64 z, .slice ao 0 cp, .int .i64 0] 42)) w4.heap.size #[.int .i64 ((k : Int) + 1), .bool true, .int .i64 z, .slice ao 0 cp, .int .i64 0] 42 from Blk.new _ _ _).cells5
        obtain ⟨x0, x1, x2, x3, x4, x5⟩ := X5.out.cells6
        have ROW : Hid (∀ o, ((w4.alloc (.cells #[.int .i64 ((k : Int) + 1), .bool true, .int .i64 z, .slice ao 0 cp, .int .i64 0] 42)).alloc o).ownsRow (w1.heap.size + 2) 42 5 (.slice a3 k c3) k (hoflat hps)) := fun o => (P4.out.alloc _).alloc o
        go_wp2_with (at_builtin; refine wpList_append_own _ rfl _ _ 29 rfl (w1.heap.size + 2) 42 i0 (.agg #[.int .i64 0, .bool false, .int .i64 0, .slice none 0 0, .int .i64 0]) 5 56 Try.underlying29 hi hz0 hz1 hz2 rfl (by decide) (.slice a3 k c3) k (hoflat hps) rfl (ROW.out _) ⟨w4.heap.size + 1, 0, none⟩ 1 1 [.int .i64 ((k : Int) + 1), .bool true, .int .i64 z, .slice ao 0 cp, .int .i64 0] rfl rfl (news5' w4 _ _ _ _ _ _ _) (one5 _ _ _ _ _ _ _) ?c3 ?c4 ?c5 ?_)
        case c3 => unfold maxLen; omega
        case c4 => omega
        case c5 => simp; omega
        intro v' w6 hown hgrow _
        have hown2 : w6.ownsRow (w1.heap.size + 2) 42 5 v' (k + 1) (hoflat (hps ++ [(((k : Int) + 1, true, z, [], 0), .slice ao 0 cp)])) := by simpa [hoflat, hoflat_append] using hown
        have LA : Below (w1.heap.size + 1) w2 ((w4.alloc (.cells #[.int .i64 ((k : Int) + 1), .bool true, .int .i64 z, .slice ao 0 cp, .int .i64 0] 42)).alloc (.cells #[.int .i64 ((k : Int) + 1), .bool true, .int .i64 z, .slice ao 0 cp, .int .i64 0] 42)) := L5.out.alloc (by simp; omega) _
        have L6 : Hid (Below (w1.heap.size + 1) w2 w6) := LA.grown hgrow (by simp; omega) (fun j hj => by have := ((ROW.out (.cells #[.int .i64 ((k : Int) + 1), .bool true, .int .i64 z, .slice ao 0 cp, .int .i64 0] 42)).lt j hj).1; omega)
        have K6 : Hid (Kept [42] (w4.alloc (.cells #[.int .i64 ((k : Int) + 1), .bool true, .int .i64 z, .slice ao 0 cp, .int .i64 0] 42)) w6) := (Kept.of_below (alloc_below _ _)).trans (Kept.of_row (ROW.out _) hgrow (by decide))
        obtain ⟨a6, c6, rfl⟩ := row_shape hown2
        have P6 := hide_it hown2
        have X6 := hide_it (K6.out.blk X5.out (by decide))
        have R6 := hide_it (K6.out.blk R5.out (by decide))
        clear hown hown2 hgrow LA x0 x1 x2 x3 x4 x5 h0 h1 h2 h3 h4
        obtain ⟨x0, x1, x2, x3, x4, x5⟩ := X6.out.cells6
        obtain ⟨f0, f1, f2, f3, f4, f5⟩ := X6.out.free6
        obtain ⟨w7, hw7⟩ : ∃ W, Hid (W = w6.setCell ⟨w1.heap.size + 1, 4, none⟩ (.slice a6 (k + 1) c6)) := ⟨_, rfl⟩
        have X7 : Hid (Blk w7 (w1.heap.size + 1) #[.bool true, .slice (some g) 0 0, .int .i64 0, .slice (some h) 0 0, .slice a6 (k + 1) c6, .slice (some ⟨w1.heap.size, 0, none⟩) 0 0] 31) := by
          show Blk _ _ _ _; rw [hw7.out]
          have := X6.out.set_ 4 (.slice a6 (k + 1) c6)
          simpa using this
        have R7 : Hid (Blk w7 w.heap.size #[.bool false, .slice none 0 0, .int .i64 0, .slice none 0 0, .slice none 0 0, .slice none 0 0] 31) := by show Blk _ _ _ _; rw [hw7.out]; exact R6.out.other (by show w.heap.size ≠ w1.heap.size + 1; omega) _
        have P7 : Hid (w7.ownsRow (w1.heap.size + 2) 42 5 (.slice a6 (k + 1) c6) (k + 1) (hoflat (hps ++ [(((k : Int) + 1, true, z, [], 0), .slice ao 0 cp)]))) := by
          show World.ownsRow _ _ _ _ _ _ _; rw [hw7.out]; exact ownsRow_setCell_below P6.out (by show w1.heap.size + 1 < _; omega) _
        have L7 : Hid (Below (w1.heap.size + 1) w2 w7) := by show Below _ _ _; rw [hw7.out]; exact Below.setCell L6.out (Nat.le_refl _) _
        have HP7 : Hid ((hps ++ [((((k : Int) + 1, true, z, [], 0) : Hd), Value.slice ao 0 cp)]).map (fun x : Hd × Value => x.1) = wnH zs (k + 1)) := by show _ = _; rw [List.map_append, (show hps.map (·.1) = wnH zs k from HP.out.1), HH.out]; rfl
        have HB7 : Hid (Bare (hps ++ [(((k : Int) + 1, true, z, [], 0), Value.slice ao 0 cp)])) := fun p hp => by
          rcases List.mem_append.1 hp with hp | hp
          · exact HP.out.2.1 p hp
          · simp at hp; subst hp; exact ⟨ao, cp, rfl⟩
        go_wp2
        rw [← hw7.out]
        go_roundg (zs.length - (k + 1))
        case measure => omega
        case rel => exact ⟨k + 1, a6, c6, _, by omega, rfl, by go_num, HK2, X7, ⟨HP7.out, HB7.out, P7.out⟩, R7, L7⟩
    · have hke : k = zs.length := by omega
      obtain ⟨x0, x1, x2, x3, x4, x5⟩ := HX.out.cells6
      obtain ⟨r0, r1, r2, r3, r4, r5⟩ := HR.out.cells6
      obtain ⟨f0, f1, f2, f3, f4, f5⟩ := HR.out.free6
      by_cases h3 : zs.length = 3
      · have h3b : ((zs.length : Int) != 3) = false := by simp; omega
        have HE : Hid (wnB zs = true) := by show _ = _; unfold wnB; rw [show (3 : Nat) = k by omega, HK.out]; simp; omega
        have hwh : Hid (wnHs zs = wnH zs k) := by show _ = _; unfold wnHs; rw [HE.out, if_pos rfl, show (3 : Nat) = k by omega]
        have hk33 : k = 3 := by omega
        have HK33 := hide_it hk33
        clear h3 hke hk33
        go_wp2
        refine bodyPost_ret (v := .tuple #[worldV true (.slice (some g) 0 0) 0 (.slice (some h) 0 0) (.slice a3 k c3) (.slice (some ⟨w1.heap.size, 0, none⟩) 0 0), .bool true]) (by simp [results, Try.results4, go_sem, *]) rfl ?_
        have KS : Hid (Kept [31] wr (((((wr.setCell ⟨w.heap.size, 0, none⟩ (.bool true)).setCell ⟨w.heap.size, 1, none⟩ (.slice (some g) 0 0)).setCell ⟨w.heap.size, 2, none⟩ (.int .i64 0)).setCell ⟨w.heap.size, 3, none⟩ (.slice (some h) 0 0)).setCell ⟨w.heap.size, 4, none⟩ (.slice a3 k c3) |>.setCell ⟨w.heap.size, 5, none⟩ (.slice (some ⟨w1.heap.size, 0, none⟩) 0 0))) := by
          have h0 := Kept.set_ (ts := [31]) HR.out (by decide) (i := 0) (.bool true)
          have h1 := Kept.set_ (ts := [31]) (HR.out.set_ 0 (.bool true)) (by decide) (i := 1) (.slice (some g) 0 0)
          have h2 := Kept.set_ (ts := [31]) ((HR.out.set_ 0 (.bool true)).set_ 1 (.slice (some g) 0 0)) (by decide) (i := 2) (.int .i64 0)
          have h3 := Kept.set_ (ts := [31]) (((HR.out.set_ 0 (.bool true)).set_ 1 (.slice (some g) 0 0)).set_ 2 (.int .i64 0)) (by decide) (i := 3) (.slice (some h) 0 0)
          have h4 := Kept.set_ (ts := [31]) ((((HR.out.set_ 0 (.bool true)).set_ 1 (.slice (some g) 0 0)).set_ 2 (.int .i64 0)).set_ 3 (.slice (some h) 0 0)) (by decide) (i := 4) (.slice a3 k c3)
          have h5 := Kept.set_ (ts := [31]) (((((HR.out.set_ 0 (.bool true)).set_ 1 (.slice (some g) 0 0)).set_ 2 (.int .i64 0)).set_ 3 (.slice (some h) 0 0)).set_ 4 (.slice a3 k c3)) (by decide) (i := 5) (.slice (some ⟨w1.heap.size, 0, none⟩) 0 0)
          exact ((((h0.trans h1).trans h2).trans h3).trans h4).trans h5
        have hR := bare_houses (KS.out.row HP.out.2.2 (by decide)) HP.out.1 HP.out.2.1 (wnH_bare zs k)
        refine ⟨some g, 0, some h, 0, a3, c3, some ⟨w1.heap.size, 0, none⟩, 0, ?_, ?_, Below.setCell (Below.setCell (Below.setCell (Below.setCell (Below.setCell (Below.setCell (B3.out) (Nat.le_refl _) _) (Nat.le_refl _) _) (Nat.le_refl _) _) (Nat.le_refl _) _) (Nat.le_refl _) _) (Nat.le_refl _) _⟩
        · rw [HE.out, hwh.out, wnH_length]
        · rw [hwh.out, wnH_length]
          exact ⟨⟨Or.inl ⟨rfl, _, _, rfl⟩, Or.inl ⟨rfl, _, _, rfl, fun e => by cases e⟩⟩, hR, Or.inl ⟨rfl, _, _, rfl, fun e => by cases e⟩⟩
      · have h3b : ((zs.length : Int) != 3) = true := by simp; omega
        have HE : Hid (wnB zs = false) := by show _ = _; unfold wnB; simp [h3]
        clear h3
        go_wp2
        refine bodyPost_ret (v := .tuple #[worldV false (.slice none 0 0) 0 (.slice none 0 0) (.slice none 0 0) (.slice none 0 0), .bool false]) (by simp [results, Try.results4, go_sem, *]) rfl ?_
        exact wn_none HE.out (Below.setCell (Below.setCell (Below.setCell (Below.setCell (Below.setCell (Below.setCell (B3.out) (Nat.le_refl _) _) (Nat.le_refl _) _) (Nat.le_refl _) _) (Nat.le_refl _) _) (Nat.le_refl _) _) (Nat.le_refl _) _)

end Go.Proofs.Ytfdcfomfghbpaaa

namespace Go.Proofs.Ytfdcfomfghbpaaa
open Go.RowKit

/-- A scene's cells. -/
def scn (p0 p1 p2 : Hd × Value) : Array Value := #[.bool true, .slice none 0 0, .int .i64 0, .slice none 0 0,
  .int .i64 p0.1.1, .bool p0.1.2.1, .int .i64 p0.1.2.2.1, p0.2, .int .i64 p0.1.2.2.2.2,
  .int .i64 p1.1.1, .bool p1.1.2.1, .int .i64 p1.1.2.2.1, p1.2, .int .i64 p1.1.2.2.2.2,
  .int .i64 p2.1.1, .bool p2.1.2.1, .int .i64 p2.1.2.2.1, p2.2, .int .i64 p2.1.2.2.2.2, .slice none 0 0]

theorem store6 {w : World} {R X : Nat} {p0 p1 p2 : Hd × Value} {t' : TypeId} {y0 y1 y2 y3 y4 y5 : Value} (hx : Blk w X (scn p0 p1 p2) t') (hn : R ≠ X) :
    let W := (((((w.setCell ⟨R, 0, none⟩ y0).setCell ⟨R, 1, none⟩ y1).setCell ⟨R, 2, none⟩ y2).setCell ⟨R, 3, none⟩ y3).setCell ⟨R, 4, none⟩ y4).setCell ⟨R, 5, none⟩ y5
    W.cell? ⟨X, 0, none⟩ = some (.bool true) ∧ W.cell? ⟨X, 1, none⟩ = some (.slice none 0 0) ∧ W.cell? ⟨X, 2, none⟩ = some (.int .i64 0) ∧ W.cell? ⟨X, 3, none⟩ = some (.slice none 0 0) ∧ W.cell? ⟨X, 19, none⟩ = some (.slice none 0 0) := by
  have h6 := (((((hx.other (a := ⟨R, 0, none⟩) (fun e => hn e.symm) y0).other (a := ⟨R, 1, none⟩) (fun e => hn e.symm) y1).other (a := ⟨R, 2, none⟩) (fun e => hn e.symm) y2).other (a := ⟨R, 3, none⟩) (fun e => hn e.symm) y3).other (a := ⟨R, 4, none⟩) (fun e => hn e.symm) y4).other (a := ⟨R, 5, none⟩) (fun e => hn e.symm) y5
  exact ⟨by rw [h6.cell]; rfl, by rw [h6.cell]; rfl, by rw [h6.cell]; rfl, by rw [h6.cell]; rfl, by rw [h6.cell]; rfl⟩

set_option maxRecDepth 100000 in
set_option maxHeartbeats 4000000 in
theorem implScene_any (w : World) (X : Nat) (p0 p1 p2 : Hd × Value) (HX : Blk w X (scn p0 p1 p2) 47) (h0 : p0.2.oneCell' = true) (h1 : p1.2.oneCell' = true) (h2 : p2.2.oneCell' = true) :
    Calls Try.prog 16 #[.pointer (some ⟨X, 0, none⟩)] w fun e w' => ∃ g3 c3, e = .returned (worldV true (.slice none 0 0) 0 (.slice none 0 0) (.slice (some ⟨g3, 0, none⟩) 3 c3) (.slice none 0 0)) ∧ w'.ownsRow (w.heap.size + 1) 42 5 (.slice (some ⟨g3, 0, none⟩) 3 c3) 3 (hoflat [p0, p1, p2]) ∧ Below w.heap.size w w' := by
  obtain ⟨i0, hi, hz0, hz1, hz2⟩ := info_parts infoHouse
  obtain ⟨w1, hw1⟩ : ∃ W, Hid (W = w.alloc (.cells #[.bool false, .slice none 0 0, .int .i64 0, .slice none 0 0, .slice none 0 0, .slice none 0 0] 31)) := ⟨_, rfl⟩
  have B1 : Hid (Below w.heap.size w w1) := by show Below _ _ _; rw [hw1.out]; exact alloc_below _ _
  have R1 : Hid (Blk w1 w.heap.size #[.bool false, .slice none 0 0, .int .i64 0, .slice none 0 0, .slice none 0 0, .slice none 0 0] 31) := by show Blk _ _ _ _; rw [hw1.out]; exact Blk.new _ _ _
  have X1 := hide_it (HX.later B1.out HX.lt)
  have HNE : Hid (w.heap.size ≠ X) := by have := HX.lt; show _ ≠ _; omega
  have HON : Hid (∀ u ∈ hoflat [p0, p1, p2], u.oneCell' = true) := by
    intro u hu
    simp only [hoflat, List.mem_cons, List.not_mem_nil, or_false] at hu
    rcases hu with rfl | rfl | rfl | rfl | rfl | rfl | rfl | rfl | rfl | rfl | rfl | rfl | rfl | rfl | rfl <;> first | rfl | assumption
  have XN : Hid (∀ j u, (hoflat [p0, p1, p2])[j]? = some u → w1.cell? ((⟨X, 4, none⟩ : Addr).add j) = some u) := by
    intro j u hj
    have hjl : j < 15 := by
      have := (List.getElem?_eq_some_iff.1 hj).1
      simpa [hoflat] using this
    rw [show (⟨X, 4, none⟩ : Addr).add j = ⟨X, 4 + j, none⟩ by simp [Addr.add], X1.out.cell, ← hj]
    have : ∀ j < 15, (scn p0 p1 p2)[4 + j]? = (hoflat [p0, p1, p2])[j]? := by
      intro j hj
      match j, hj with
      | 0, _ | 1, _ | 2, _ | 3, _ | 4, _ | 5, _ | 6, _ | 7, _ | 8, _ | 9, _ | 10, _ | 11, _ | 12, _ | 13, _ | 14, _ => rfl
    exact this j hjl
  clear HX h0 h1 h2
  go_enter Try.func16, Try.ntmps16
  go_wp2_with fail
  rw [← hw1.out]
  refine wp_region_held_drew (S := fun w' => w'.cell? ⟨X, 0, none⟩ = some (.bool true) ∧ w'.cell? ⟨X, 1, none⟩ = some (.slice none 0 0) ∧ w'.cell? ⟨X, 2, none⟩ = some (.int .i64 0) ∧ w'.cell? ⟨X, 3, none⟩ = some (.slice none 0 0) ∧ w'.cell? ⟨X, 19, none⟩ = some (.slice none 0 0)) (by kernel_rfl) ⟨by rw [X1.out.drew.cell]; rfl, by rw [X1.out.drew.cell]; rfl, by rw [X1.out.drew.cell]; rfl, by rw [X1.out.drew.cell]; rfl, by rw [X1.out.drew.cell]; rfl⟩ (fun hHeld => ?_)
  refine takeD (i := 0) (v := ?_) (some 3) rfl rfl (by kernel_rfl) (by kernel_rfl) (by kernel_rfl) (fun _ _ _ h => h) (by rfl) hHeld ?_ ?_
  rotate_left
  · intro W hSw
    try dsimp only at hSw
    go_simp
    try with_reducible rfl
  try simp only [Act.put]
  try simp only [List.setIfInBounds_toArray]
  try simp only [List.set_cons_succ]
  try simp only [List.set_cons_zero]
  refine takeD (i := 1) (v := ?_) (some 4) rfl rfl (by kernel_rfl) (by kernel_rfl) (by kernel_rfl) (fun _ _ _ h => h) (by rfl) hHeld ?_ ?_
  rotate_left
  · intro W hSw
    try dsimp only at hSw
    go_simp
    try with_reducible rfl
  try simp only [Act.put]
  try simp only [List.setIfInBounds_toArray]
  try simp only [List.set_cons_succ]
  try simp only [List.set_cons_zero]
  refine takeD (i := 2) (v := ?_) (some 5) rfl rfl (by kernel_rfl) (by kernel_rfl) (by kernel_rfl) (fun _ _ _ h => h) (by rfl) hHeld ?_ ?_
  rotate_left
  · intro W hSw
    try dsimp only at hSw
    go_simp
    try with_reducible rfl
  try simp only [Act.put]
  try simp only [List.setIfInBounds_toArray]
  try simp only [List.set_cons_succ]
  try simp only [List.set_cons_zero]
  refine takeD (i := 3) (v := ?_) (some 6) rfl rfl (by kernel_rfl) (by kernel_rfl) (by kernel_rfl) (fun _ _ _ h => h) (by rfl) hHeld ?_ ?_
  rotate_left
  · intro W hSw
    try dsimp only at hSw
    go_simp
    try with_reducible rfl
  try simp only [Act.put]
  try simp only [List.setIfInBounds_toArray]
  try simp only [List.set_cons_succ]
  try simp only [List.set_cons_zero]
  refine takeD (i := 4) (v := ?_) (some 7) rfl rfl (by kernel_rfl) (by kernel_rfl) (by kernel_rfl) (fun _ _ _ h => h) (by rfl) hHeld ?_ ?_
  rotate_left
  · intro W hSw
    try dsimp only at hSw
    go_simp
    try with_reducible rfl
  try simp only [Act.put]
  try simp only [List.setIfInBounds_toArray]
  try simp only [List.set_cons_succ]
  try simp only [List.set_cons_zero]
  refine takeD (i := 5) (v := ?_) (some 8) rfl rfl (by kernel_rfl) (by kernel_rfl) (by kernel_rfl) (fun _ _ _ h => h) (by rfl) hHeld ?_ ?_
  rotate_left
  · intro W hSw
    try dsimp only at hSw
    go_simp
    try with_reducible rfl
  try simp only [Act.put]
  try simp only [List.setIfInBounds_toArray]
  try simp only [List.set_cons_succ]
  try simp only [List.set_cons_zero]
  refine takeD (i := 6) (v := ?_) (some 9) rfl rfl (by kernel_rfl) (by kernel_rfl) (by kernel_rfl) (fun _ _ _ h => h) (by rfl) hHeld ?_ ?_
  rotate_left
  · intro W hSw
    try dsimp only at hSw
    go_simp
    try with_reducible rfl
  try simp only [Act.put]
  try simp only [List.setIfInBounds_toArray]
  try simp only [List.set_cons_succ]
  try simp only [List.set_cons_zero]
  refine takeD (i := 7) (v := ?_) (some 10) rfl rfl (by kernel_rfl) (by kernel_rfl) (by kernel_rfl) (fun _ _ _ h => h) (by rfl) hHeld ?_ ?_
  rotate_left
  · intro W hSw
    try dsimp only at hSw
    go_simp
    try with_reducible rfl
  try simp only [Act.put]
  try simp only [List.setIfInBounds_toArray]
  try simp only [List.set_cons_succ]
  try simp only [List.set_cons_zero]
  refine takeD (i := 9) (v := ?_) (some 12) rfl rfl (by kernel_rfl) (by kernel_rfl) (by kernel_rfl) (fun _ _ _ h => h) (by rfl) hHeld ?_ ?_
  rotate_left
  · intro W hSw
    try dsimp only at hSw
    go_simp
    try with_reducible rfl
  try simp only [Act.put]
  try simp only [List.setIfInBounds_toArray]
  try simp only [List.set_cons_succ]
  try simp only [List.set_cons_zero]
  refine takeD (i := 10) (v := ?_) (some 13) rfl rfl (by kernel_rfl) (by kernel_rfl) (by kernel_rfl) (fun _ _ _ h => h) (by rfl) hHeld ?_ ?_
  rotate_left
  · intro W hSw
    try dsimp only at hSw
    go_simp
    try with_reducible rfl
  try simp only [Act.put]
  try simp only [List.setIfInBounds_toArray]
  try simp only [List.set_cons_succ]
  try simp only [List.set_cons_zero]
  refine takeD (i := 11) (v := ?_) (some 14) rfl rfl (by kernel_rfl) (by kernel_rfl) (by kernel_rfl) (fun _ _ _ h => h) (by rfl) hHeld ?_ ?_
  rotate_left
  · intro W hSw
    try dsimp only at hSw
    go_simp
    try with_reducible rfl
  try simp only [Act.put]
  try simp only [List.setIfInBounds_toArray]
  try simp only [List.set_cons_succ]
  try simp only [List.set_cons_zero]
  refine takeD (i := 12) (v := ?_) (some 15) rfl rfl (by kernel_rfl) (by kernel_rfl) (by kernel_rfl) (fun _ _ _ h => h) (by rfl) hHeld ?_ ?_
  rotate_left
  · intro W hSw
    try dsimp only at hSw
    go_simp
    try with_reducible rfl
  try simp only [Act.put]
  try simp only [List.setIfInBounds_toArray]
  try simp only [List.set_cons_succ]
  try simp only [List.set_cons_zero]
  refine wpAnyH_ready (rs := [8]) (by kernel_rfl) (by simp) ?_
  refine AllReadyH.cons rfl (fun K hK => ?_) AllReadyH.nil
  skip
  refine step_append_lies _ rfl _ _ 29 rfl w1.heap.size 42 i0 (.agg #[.int .i64 0, .bool false, .int .i64 0, .slice none 0 0, .int .i64 0]) 5 56 Try.underlying29 hi hz0 hz1 hz2 rfl (by decide) (.slice none 0 0) 0 [] rfl (World.ownsRow_nil _ _ _ _) ⟨X, 4, none⟩ 3 3 (hoflat [p0, p1, p2]) rfl rfl (XN.out) (HON.out) (by decide) (by unfold maxLen; omega) (by omega) (Nat.le_refl _) w1.heap.size rfl ?_
  intro gg cc w2 hown hgrow hgb hglt
  have B2 := hide_it (B1.out.drew.trans ((grown_below hgrow).mono B1.out.size))
  have O2 := hide_it hown
  have X2 := hide_it (X1.out.drew.after (grown_below hgrow))
  have R2 := hide_it (R1.out.drew.after (grown_below hgrow))
  have G2 : Hid (gg = w1.heap.size) := by rcases hgb with h | h; exact absurd h (by simp [Value.ownBlock]); exact h
  clear hown hgrow hgb hglt
  obtain ⟨r0, r1, r2, r3, r4, r5⟩ := R2.out.cells6
  obtain ⟨f0, f1, f2, f3, f4, f5⟩ := R2.out.free6
  try dsimp only
  refine hK.out _ _ ⟨by rw [X2.out.cell]; rfl, by rw [X2.out.cell]; rfl, by rw [X2.out.cell]; rfl, by rw [X2.out.cell]; rfl, by rw [X2.out.cell]; rfl⟩ (fun hHeld => ?_)
  clear hK K
  refine takeD (i := 13) (v := ?_) (some 16) rfl rfl (by kernel_rfl) (by kernel_rfl) (by kernel_rfl) (fun _ _ _ h => h) (by rfl) hHeld ?_ ?_
  rotate_left
  · intro W hSw
    try dsimp only at hSw
    go_simp
    try with_reducible rfl
  try simp only [Act.put]
  try simp only [List.setIfInBounds_toArray]
  try simp only [List.set_cons_succ]
  try simp only [List.set_cons_zero]
  refine wpAnyH_ready (rs := [14]) (by kernel_rfl) (by simp) ?_
  refine AllReadyH.cons rfl (fun K hK => ?_) AllReadyH.nil
  go_simp
  
  try dsimp only
  refine hK.out _ _ (store6 X2.out HNE.out) (fun hHeld => ?_)
  clear hK K
  refine wpAnyH_done (by kernel_rfl) ?_ _
  go_wp2
  refine bodyPost_ret (v := worldV true (.slice none 0 0) 0 (.slice none 0 0) (.slice (some ⟨gg, 0, none⟩) 3 cc) (.slice none 0 0)) (by simp [results, Try.results16, go_sem, *]) rfl ?_
  refine ⟨_, _, rfl, ?_, Below.setCell (Below.setCell (Below.setCell (Below.setCell (Below.setCell (Below.setCell (B2.out) (Nat.le_refl _) _) (Nat.le_refl _) _) (Nat.le_refl _) _) (Nat.le_refl _) _) (Nat.le_refl _) _) (Nat.le_refl _) _⟩
  have hw : w1.heap.size = w.heap.size + 1 := by rw [hw1.out]; simp
  have O3 : w2.ownsRow (w.heap.size + 1) 42 5 (.slice (some ⟨gg, 0, none⟩) 3 cc) 3 (hoflat [p0, p1, p2]) := by rw [← hw]; exact O2.out
  exact ownsRow_setCell_below (ownsRow_setCell_below (ownsRow_setCell_below (ownsRow_setCell_below (ownsRow_setCell_below (ownsRow_setCell_below O3 (Nat.lt_succ_self _) _) (Nat.lt_succ_self _) _) (Nat.lt_succ_self _) _) (Nat.lt_succ_self _) _) (Nat.lt_succ_self _) _) (Nat.lt_succ_self _) _

end Go.Proofs.Ytfdcfomfghbpaaa

namespace Go.Proofs.Ytfdcfomfghbpaaa
open Go.RowKit

/-- What the program's WorldNew hands back: nothing, or three bare houses in memory of their own. -/
def WnI (w w' : World) (e : Ending) (zs : List Int) : Prop :=
  (wnB zs = false ∧ e = .returned (.tuple #[worldV false (.slice none 0 0) 0 (.slice none 0 0) (.slice none 0 0) (.slice none 0 0), .bool false]) ∧ Below w.heap.size w w') ∨
  (wnB zs = true ∧ ∃ g3 c3 hps, e = .returned (.tuple #[worldV true (.slice none 0 0) 0 (.slice none 0 0) (.slice (some ⟨g3, 0, none⟩) 3 c3) (.slice none 0 0), .bool true]) ∧ w'.ownsRow w.heap.size 42 5 (.slice (some ⟨g3, 0, none⟩) 3 c3) 3 (hoflat hps) ∧ hps.map (·.1) = wnHs zs ∧ Bare hps ∧ Below w.heap.size w w')
theorem wni_none {w w' : World} {zs : List Int} (hz : wnB zs = false) (h : Below w.heap.size w w') : WnI w w' (.returned (.tuple #[worldV false (.slice none 0 0) 0 (.slice none 0 0) (.slice none 0 0) (.slice none 0 0), .bool false])) zs := Or.inl ⟨hz, rfl, h⟩

set_option maxRecDepth 100000 in
set_option maxHeartbeats 4000000 in
theorem implWNew_bad (v : Value) (zs : List Int) (w : World) (hv : Ints w v zs) (h3 : ¬ zs.length = 3) :
    Calls Try.prog 6 #[v] w fun e w' => WnI w w' e zs := by
  obtain ⟨av, cv, rfl⟩ := hv.shape
  clear hv
  obtain ⟨w0, hw0⟩ : ∃ W, Hid (W = w.alloc (.cells #[.bool false, .slice none 0 0, .int .i64 0, .slice none 0 0, .slice none 0 0, .slice none 0 0] 31)) := ⟨_, rfl⟩
  have B0 : Hid (Below w.heap.size w w0) := by show Below _ _ _; rw [hw0.out]; exact alloc_below _ _
  have h3b : ((zs.length : Int) == 3) = false := by simp; omega
  have HF : Hid (wnB zs = false) := by show _ = _; unfold wnB; simp [h3]
  clear h3
  go_enter Try.func6, Try.ntmps6
  go_wp2_with fail
  refine bodyPost_ret (v := .tuple #[worldV false (.slice none 0 0) 0 (.slice none 0 0) (.slice none 0 0) (.slice none 0 0), .bool false]) (by simp [results, Try.results6, go_sem]) rfl ?_
  rw [← hw0.out]
  exact wni_none HF.out B0.out

/-- House i while k houses stand. -/
def wnP (zs : List Int) (k i : Nat) (u : Value) : Hd × Value := if i < k then ((((i : Nat) : Int) + 1, true, zs.getD i 0, [], 0), u) else ((0, false, 0, [], 0), .slice none 0 0)
def Emp (u : Value) : Prop := ∃ a c, u = .slice a 0 c
theorem Emp.one {u : Value} (h : Emp u) : u.oneCell' = true := by obtain ⟨a, c, rfl⟩ := h; rfl
theorem wnP_lt {zs : List Int} {k i : Nat} {u : Value} (h : i < k) : wnP zs k i u = ((((i : Nat) : Int) + 1, true, zs.getD i 0, [], 0), u) := if_pos h
theorem wnP_ge {zs : List Int} {k i : Nat} {u : Value} (h : ¬ i < k) : wnP zs k i u = ((0, false, 0, [], 0), .slice none 0 0) := if_neg h
theorem wnH_three (zs : List Int) (u0 u1 u2 : Value) : [wnP zs 3 0 u0, wnP zs 3 1 u1, wnP zs 3 2 u2].map (·.1) = wnH zs 3 := by
  rw [wnP_lt (by decide), wnP_lt (by decide), wnP_lt (by decide), show (3 : Nat) = 2 + 1 from rfl, wnH_succ, show (2 : Nat) = 1 + 1 from rfl, wnH_succ, show (1 : Nat) = 0 + 1 from rfl, wnH_succ, wnH_zero]
  rfl
theorem wnP_bare {zs : List Int} {u0 u1 u2 : Value} (h : Emp u0 ∧ Emp u1 ∧ Emp u2) : Bare [wnP zs 3 0 u0, wnP zs 3 1 u1, wnP zs 3 2 u2] := by
  intro p hp
  simp only [List.mem_cons, List.not_mem_nil, or_false] at hp
  rcases hp with rfl | rfl | rfl
  · exact h.1
  · exact h.2.1
  · exact h.2.2
theorem scn_step (zs : List Int) (k : Nat) (u0 u1 u2 : Value) (z : Int) (ao : Option Addr) (cp : Nat) (hk : k < 3) (hz : zs.getD k 0 = z) (hu : Emp u0 ∧ Emp u1 ∧ Emp u2) :
    ∃ v0 v1 v2, (Emp v0 ∧ Emp v1 ∧ Emp v2) ∧ ((((((scn (wnP zs k 0 u0) (wnP zs k 1 u1) (wnP zs k 2 u2)).setIfInBounds (4 + k * 5) (.int .i64 ((k : Int) + 1))).setIfInBounds (4 + k * 5 + 1) (.bool true)).setIfInBounds (4 + k * 5 + 2) (.int .i64 z)).setIfInBounds (4 + k * 5 + 3) (.slice ao 0 cp)).setIfInBounds (4 + k * 5 + 4) (.int .i64 0)) = scn (wnP zs (k + 1) 0 v0) (wnP zs (k + 1) 1 v1) (wnP zs (k + 1) 2 v2) := by
  subst hz
  rcases (show k = 0 ∨ k = 1 ∨ k = 2 by omega) with rfl | rfl | rfl
  · exact ⟨.slice ao 0 cp, u1, u2, ⟨⟨_, _, rfl⟩, hu.2.1, hu.2.2⟩, rfl⟩
  · exact ⟨u0, .slice ao 0 cp, u2, ⟨hu.1, ⟨_, _, rfl⟩, hu.2.2⟩, rfl⟩
  · exact ⟨u0, u1, .slice ao 0 cp, ⟨hu.1, hu.2.1, ⟨_, _, rfl⟩⟩, rfl⟩

set_option maxRecDepth 100000 in
set_option maxHeartbeats 4000000 in
theorem implWNew_good (v : Value) (zs : List Int) (w : World) (hv : Ints w v zs) (h3 : zs.length = 3) :
    Calls Try.prog 6 #[v] w fun e w' => WnI w w' e zs := by
  have HI : Hid (∀ W, Below w.heap.size w W → Ints W v zs) := fun W h => hv.later h (Nat.le_refl _)
  obtain ⟨av, cv, rfl⟩ := hv.shape
  clear hv
  obtain ⟨w0, hw0⟩ : ∃ W, Hid (W = w.alloc (.cells #[.bool false, .slice none 0 0, .int .i64 0, .slice none 0 0, .slice none 0 0, .slice none 0 0] 31)) := ⟨_, rfl⟩
  have B0 : Hid (Below w.heap.size w w0) := by show Below _ _ _; rw [hw0.out]; exact alloc_below _ _
  have R0 : Hid (Blk w0 w.heap.size #[.bool false, .slice none 0 0, .int .i64 0, .slice none 0 0, .slice none 0 0, .slice none 0 0] 31) := by show Blk _ _ _ _; rw [hw0.out]; exact Blk.new _ _ _
  have HL3 := hide_it h3
  have h3b : ((zs.length : Int) != 3) = false := by simp; omega
  clear h3
  go_enter Try.func6, Try.ntmps6
  go_wp2_with fail
  rw [← hw0.out]
  refine (implDNew_any w0).mono ?_
  rintro e w1 ⟨rfl, hb1⟩
  have B1 := hide_it (B0.out.trans (hb1.mono B0.out.size))
  have R1 := hide_it (R0.out.after hb1)
  have hs1 : w.heap.size < w1.heap.size := R1.out.lt
  clear hb1
  go_simp
  rename_i K3 HK3
  refine HK3 _ _ ?_
  clear HK3
  obtain ⟨u0, hu0⟩ : ∃ u : Value, u = .slice none 0 0 := ⟨_, rfl⟩
  refine Go.wpList_buildTo rfl 47 _ rfl (some 14) rfl (scn (wnP zs 0 0 (.slice none 0 0)) (wnP zs 0 1 (.slice none 0 0)) (wnP zs 0 2 (.slice none 0 0))) (by as_aux_lemma => kernel_rfl) ?_
  refine Go.Great.wpList_allocTo rfl (some 4) rfl (.pointer (some ⟨w1.heap.size, 0, none⟩)) (.cells #[.bool false, .slice none 0 0, .int .i64 0, .slice none 0 0, .int .i64 0, .bool false, .int .i64 0, .slice none 0 0, .int .i64 0, .int .i64 0, .bool false, .int .i64 0, .slice none 0 0, .int .i64 0, .int .i64 0, .bool false, .int .i64 0, .slice none 0 0, .int .i64 0, .slice none 0 0] 47) (by as_aux_lemma => kernel_rfl) ?_
  refine Go.wpList_store_rowTo rfl 47 _ _ rfl rfl w1.heap.size (scn (wnP zs 0 0 (.slice none 0 0)) (wnP zs 0 1 (.slice none 0 0)) (wnP zs 0 2 (.slice none 0 0))) (by as_aux_lemma => kernel_rfl) (by as_aux_lemma => kernel_rfl) 47 #[.bool false, .slice none 0 0, .int .i64 0, .slice none 0 0, .int .i64 0, .bool false, .int .i64 0, .slice none 0 0, .int .i64 0, .int .i64 0, .bool false, .int .i64 0, .slice none 0 0, .int .i64 0, .int .i64 0, .bool false, .int .i64 0, .slice none 0 0, .int .i64 0, .slice none 0 0] (heap_alloc_new w1 _) (by as_aux_lemma => kernel_rfl) (by as_aux_lemma => kernel_rfl) (by as_aux_lemma => kernel_rfl) ?_
  rw [World.setRow_alloc_new]
  clear hu0 u0
  obtain ⟨w2, hw2⟩ : ∃ W, Hid (W = w1.alloc (.cells (scn (wnP zs 0 0 (.slice none 0 0)) (wnP zs 0 1 (.slice none 0 0)) (wnP zs 0 2 (.slice none 0 0))) 47)) := ⟨_, rfl⟩
  rw [← hw2.out]
  have B2 : Hid (Below w1.heap.size w1 w2) := by show Below _ _ _; rw [hw2.out]; exact alloc_below _ _
  have X2 : Hid (Blk w2 w1.heap.size (scn (wnP zs 0 0 (.slice none 0 0)) (wnP zs 0 1 (.slice none 0 0)) (wnP zs 0 2 (.slice none 0 0))) 47) := by show Blk _ _ _ _; rw [hw2.out]; exact Blk.new _ _ _
  go_wp2_with fail
  go_loopg [17] 3 (fun gg i wr => ∃ (k : Nat) (u0 u1 u2 : Value), k ≤ 3 ∧ gg = 3 - k ∧ i = .int .i64 k ∧ Hid (wnK zs k = true) ∧ Hid (Blk wr w1.heap.size (scn (wnP zs k 0 u0) (wnP zs k 1 u1) (wnP zs k 2 u2)) 47) ∧ Hid (Emp u0 ∧ Emp u1 ∧ Emp u2) ∧ Hid (Below w1.heap.size w1 wr))
  case atStart => exact ⟨0, .slice none 0 0, .slice none 0 0, .slice none 0 0, Nat.zero_le _, rfl, rfl, wnK_zero zs, X2, ⟨⟨_, _, rfl⟩, ⟨_, _, rfl⟩, ⟨_, _, rfl⟩⟩, B2⟩
  case round =>
    obtain ⟨k, u0, u1, u2, hk, rfl, rfl, HK, HX, HU, HB⟩ := hrel
    have L3 := HL3.out
    have B3 := hide_it (B1.out.trans (HB.out.mono (Nat.le_of_lt hs1)))
    have R3 := hide_it (R1.out.later HB.out hs1)
    have hsr : w1.heap.size ≤ wr.heap.size := HB.out.size
    by_cases hlt : k < 3
    · obtain ⟨b1, off, cap, hvv, hc⟩ := ints_cell' (HI.out wr B3.out) (by intro e; rw [e] at L3; simp at L3)
      simp only [Value.slice.injEq] at hvv
      obtain ⟨rfl, -, rfl⟩ := hvv
      obtain ⟨z, hz⟩ : ∃ z, zs.getD k 0 = z := ⟨_, rfl⟩
      have z0 := hc k (by omega)
      rw [hz] at z0
      have HS := hide_it (wnK_succ zs k)
      rw [hz] at HS
      have HZ := hide_it hz
      have HN := hide_it (implHNew_any ((k : Int) + 1) z wr)
      obtain ⟨BB, hBB⟩ : ∃ x, hnB ((k : Int) + 1) z = x := ⟨_, rfl⟩
      unfold hnX at HN
      rw [hBB] at HS HN
      have hlz : k < zs.length := by omega
      have HLT := hide_it hlt
      clear hc hz hBB L3 hk
      cases BB
      · have HF : Hid (wnB zs = false) := by
          show _ = _
          unfold wnB
          rw [wnK_no (k := k + 1) (n := 3) (by have := HLT.out; omega) (by rw [HS.out, Bool.and_false]), Bool.and_false]
        have HN0 : Hid (Calls Try.prog 15 #[.int .i64 ((k : Int) + 1), .int .i64 z] wr fun e w' => HnOut wr w' e 0 0 false) := HN.out
        clear HN
        go_wp2_with fail
        refine HN0.out.mono ?_
        rintro e w4 ⟨ao, cp, rfl, hm4, hb4⟩
        have R4 := hide_it (R3.out.after hb4)
        have B4 := hide_it (B3.out.trans (hb4.mono B3.out.size))
        have hs4 : w.heap.size < w4.heap.size := R4.out.lt
        obtain ⟨r0, r1, r2, r3, r4, r5⟩ := R4.out.cells6
        obtain ⟨f0, f1, f2, f3, f4, f5⟩ := R4.out.free6
        have k0 := fun x => cellAlloc r0 x
        have k1 := fun x => cellAlloc r1 x
        have k2 := fun x => cellAlloc r2 x
        have k3 := fun x => cellAlloc r3 x
        have k4 := fun x => cellAlloc r4 x
        have k5 := fun x => cellAlloc r5 x
        have q0 := fun x => frozenAlloc f0 R4.out.lt x
        have q1 := fun x => frozenAlloc f1 R4.out.lt x
        have q2 := fun x => frozenAlloc f2 R4.out.lt x
        have q3 := fun x => frozenAlloc f3 R4.out.lt x
        have q4 := fun x => frozenAlloc f4 R4.out.lt x
        have q5 := fun x => frozenAlloc f5 R4.out.lt x
        clear hm4 hb4 z0 hlz
        go_wp2
        refine bodyPost_ret (v := .tuple #[worldV false (.slice none 0 0) 0 (.slice none 0 0) (.slice none 0 0) (.slice none 0 0), .bool false]) (by simp [results, Try.results6, go_sem, *]) rfl ?_
        exact wni_none HF.out (Below.alloc (Below.setCell (Below.setCell (Below.setCell (Below.setCell (Below.setCell (Below.setCell (B4.out) (Nat.le_refl _) _) (Nat.le_refl _) _) (Nat.le_refl _) _) (Nat.le_refl _) _) (Nat.le_refl _) _) (Nat.le_refl _) _) (by simp; omega) _)
      · have HK2 : Hid (wnK zs (k + 1) = true) := by show _ = _; rw [HS.out, HK.out]; rfl
        have HN0 : Hid (Calls Try.prog 15 #[.int .i64 ((k : Int) + 1), .int .i64 z] wr fun e w' => HnOut wr w' e ((k : Int) + 1) z true) := HN.out
        clear HN
        go_wp2_with fail
        refine HN0.out.mono ?_
        rintro e w4 ⟨ao, cp, rfl, hm4, hb4⟩
        have X4 := hide_it (HX.out.after hb4)
        have L4 := hide_it (HB.out.trans (hb4.mono hsr))
        have hs4 : w1.heap.size ≤ w4.heap.size := L4.out.size
        clear hm4 hb4 z0 hlz
        obtain ⟨w5, hw5⟩ : ∃ W, Hid (W = w4.alloc (.cells #[.int .i64 ((k : Int) + 1), .bool true, .int .i64 z, .slice ao 0 cp, .int .i64 0] 42)) := ⟨_, rfl⟩
        have X5 : Hid (Blk w5 w1.heap.size (scn (wnP zs k 0 u0) (wnP zs k 1 u1) (wnP zs k 2 u2)) 47) := by show Blk _ _ _ _; rw [hw5.out]; exact X4.out.alloc _
        have L5 : Hid (Below w1.heap.size w1 w5) := by show Below _ _ _; rw [hw5.out]; exact L4.out.alloc hs4 _
        have H5 : Hid (Blk w5 w4.heap.size #[.int .i64 ((k : Int) + 1), .bool true, .int .i64 z, .slice ao 0 cp, .int .i64 0] 42) := by show Blk _ _ _ _; rw [hw5.out]; exact Blk.new _ _ _
        have E5 := hide_it hw5.out
        have h00 := H5.out.cells5
        rw [hw5.out] at X5 h00
        obtain ⟨h0, h1, h2, h3, h4⟩ := h00
        obtain ⟨y0, x0⟩ : ∃ y, (w4.alloc (.cells #[.int .i64 ((k : Int) + 1), .bool true, .int .i64 z, .slice ao 0 cp, .int .i64 0] 42)).cell? ⟨w1.heap.size, 4 + k * 5, none⟩ = some y := by
          rw [X5.out.cell]
          rcases (show k = 0 ∨ k = 1 ∨ k = 2 by omega) with rfl | rfl | rfl <;> exact ⟨_, rfl⟩
        have f0 := X5.out.free (4 + k * 5)
        obtain ⟨y1, x1⟩ : ∃ y, (w4.alloc (.cells #[.int .i64 ((k : Int) + 1), .bool true, .int .i64 z, .slice ao 0 cp, .int .i64 0] 42)).cell? ⟨w1.heap.size, 4 + k * 5 + 1, none⟩ = some y := by
          rw [X5.out.cell]
          rcases (show k = 0 ∨ k = 1 ∨ k = 2 by omega) with rfl | rfl | rfl <;> exact ⟨_, rfl⟩
        have f1 := X5.out.free (4 + k * 5 + 1)
        obtain ⟨y2, x2⟩ : ∃ y, (w4.alloc (.cells #[.int .i64 ((k : Int) + 1), .bool true, .int .i64 z, .slice ao 0 cp, .int .i64 0] 42)).cell? ⟨w1.heap.size, 4 + k * 5 + 2, none⟩ = some y := by
          rw [X5.out.cell]
          rcases (show k = 0 ∨ k = 1 ∨ k = 2 by omega) with rfl | rfl | rfl <;> exact ⟨_, rfl⟩
        have f2 := X5.out.free (4 + k * 5 + 2)
        obtain ⟨y3, x3⟩ : ∃ y, (w4.alloc (.cells #[.int .i64 ((k : Int) + 1), .bool true, .int .i64 z, .slice ao 0 cp, .int .i64 0] 42)).cell? ⟨w1.heap.size, 4 + k * 5 + 3, none⟩ = some y := by
          rw [X5.out.cell]
          rcases (show k = 0 ∨ k = 1 ∨ k = 2 by omega) with rfl | rfl | rfl <;> exact ⟨_, rfl⟩
        have f3 := X5.out.free (4 + k * 5 + 3)
        obtain ⟨y4, x4⟩ : ∃ y, (w4.alloc (.cells #[.int .i64 ((k : Int) + 1), .bool true, .int .i64 z, .slice ao 0 cp, .int .i64 0] 42)).cell? ⟨w1.heap.size, 4 + k * 5 + 4, none⟩ = some y := by
          rw [X5.out.cell]
          rcases (show k = 0 ∨ k = 1 ∨ k = 2 by omega) with rfl | rfl | rfl <;> exact ⟨_, rfl⟩
        have f4 := X5.out.free (4 + k * 5 + 4)
        clear hw5
        obtain ⟨w6, hw6⟩ : ∃ W, Hid (W = (((((w4.alloc (.cells #[.int .i64 ((k : Int) + 1), .bool true, .int .i64 z, .slice ao 0 cp, .int .i64 0] 42)).setCell ⟨w1.heap.size, 4 + k * 5, none⟩ (.int .i64 ((k : Int) + 1))).setCell ⟨w1.heap.size, 4 + k * 5 + 1, none⟩ (.bool true)).setCell ⟨w1.heap.size, 4 + k * 5 + 2, none⟩ (.int .i64 z)).setCell ⟨w1.heap.size, 4 + k * 5 + 3, none⟩ (.slice ao 0 cp)).setCell ⟨w1.heap.size, 4 + k * 5 + 4, none⟩ (.int .i64 0)) := ⟨_, rfl⟩
        have L6 : Hid (Below w1.heap.size w1 w6) := by
          show Below _ _ _; rw [hw6.out, ← E5.out]
          exact Below.setCell (Below.setCell (Below.setCell (Below.setCell (Below.setCell L5.out (Nat.le_refl _) _) (Nat.le_refl _) _) (Nat.le_refl _) _) (Nat.le_refl _) _) (Nat.le_refl _) _
        have S6 : Hid (∃ v0 v1 v2, (Emp v0 ∧ Emp v1 ∧ Emp v2) ∧ Blk w6 w1.heap.size (scn (wnP zs (k + 1) 0 v0) (wnP zs (k + 1) 1 v1) (wnP zs (k + 1) 2 v2)) 47) := by
          show ∃ _, _
          have hx := ((((X5.out.set_ (4 + k * 5) (.int .i64 ((k : Int) + 1))).set_ (4 + k * 5 + 1) (.bool true)).set_ (4 + k * 5 + 2) (.int .i64 z)).set_ (4 + k * 5 + 3) (.slice ao 0 cp)).set_ (4 + k * 5 + 4) (.int .i64 0)
          rw [← hw6.out] at hx
          obtain ⟨v0, v1, v2, he, hv⟩ := scn_step zs k u0 u1 u2 z ao cp HLT.out HZ.out HU.out
          exact ⟨v0, v1, v2, he, by rw [← hv]; exact hx⟩
        go_wp2_with fail
        rw [← hw6.out]
        obtain ⟨v0, v1, v2, he, hx⟩ := S6.out
        go_roundg (3 - (k + 1))
        case measure => omega
        case rel => exact ⟨k + 1, v0, v1, v2, by omega, rfl, by go_num, HK2, hx, he, L6⟩
    · obtain rfl : k = 3 := by omega
      have HE : Hid (wnB zs = true) := by show _ = _; unfold wnB; rw [HK.out]; simp; omega
      have hwh : Hid (wnHs zs = wnH zs 3) := by show _ = _; unfold wnHs; rw [HE.out, if_pos rfl]
      have hl3 : ¬ ((3 : Nat) : Int) < (zs.length : Int) := by omega
      have HC := hide_it (implScene_any wr w1.heap.size (wnP zs 3 0 u0) (wnP zs 3 1 u1) (wnP zs 3 2 u2) HX.out (by rw [wnP_lt (by decide)]; exact HU.out.1.one) (by rw [wnP_lt (by decide)]; exact HU.out.2.1.one) (by rw [wnP_lt (by decide)]; exact HU.out.2.2.one))
      clear L3 hlt hk
      go_wp2_with fail
      refine HC.out.mono ?_
      rintro e w4 ⟨g3, c3, rfl, hrow, hb4⟩
      have R4 := hide_it (R3.out.after hb4)
      have B4 := hide_it (B3.out.trans (hb4.mono B3.out.size))
      have P4 := hide_it hrow
      clear hrow hb4
      obtain ⟨r0, r1, r2, r3, r4, r5⟩ := R4.out.cells6
      obtain ⟨f0, f1, f2, f3, f4, f5⟩ := R4.out.free6
      go_wp2
      refine bodyPost_ret (v := .tuple #[worldV true (.slice none 0 0) 0 (.slice none 0 0) (.slice (some ⟨g3, 0, none⟩) 3 c3) (.slice none 0 0), .bool true]) (by simp [results, Try.results6, go_sem, *]) rfl ?_
      have hlw : w.heap.size < wr.heap.size + 1 := by omega
      refine Or.inr ⟨HE.out, g3, c3, [wnP zs 3 0 u0, wnP zs 3 1 u1, wnP zs 3 2 u2], rfl, ?_, (wnH_three zs u0 u1 u2).trans hwh.out.symm, wnP_bare HU.out, Below.setCell (Below.setCell (Below.setCell (Below.setCell (Below.setCell (Below.setCell (B4.out) (Nat.le_refl _) _) (Nat.le_refl _) _) (Nat.le_refl _) _) (Nat.le_refl _) _) (Nat.le_refl _) _) (Nat.le_refl _) _⟩
      exact ownsRow_base (ownsRow_setCell_below (ownsRow_setCell_below (ownsRow_setCell_below (ownsRow_setCell_below (ownsRow_setCell_below (ownsRow_setCell_below P4.out hlw (a := ⟨w.heap.size, 0, none⟩) (.bool true)) hlw (a := ⟨w.heap.size, 1, none⟩) (.slice none 0 0)) hlw (a := ⟨w.heap.size, 2, none⟩) (.int .i64 0)) hlw (a := ⟨w.heap.size, 3, none⟩) (.slice none 0 0)) hlw (a := ⟨w.heap.size, 4, none⟩) (.slice (some ⟨g3, 0, none⟩) 3 c3)) hlw (a := ⟨w.heap.size, 5, none⟩) (.slice none 0 0)) (by omega)

theorem implWNew_any (v : Value) (zs : List Int) (w : World) (hv : Ints w v zs) :
    Calls Try.prog 6 #[v] w fun e w' => WnI w w' e zs := by
  by_cases h3 : zs.length = 3
  · exact implWNew_good v zs w hv h3
  · exact implWNew_bad v zs w hv h3

end Go.Proofs.Ytfdcfomfghbpaaa

namespace Go.Proofs.Ytfdcfomfghbpaaa
open Go.RowKit

/-- Houses in memory of their own, none at all perhaps. -/
def HRow (w : World) (lo n : Nat) (v : Value) (ps : List (Hd × Value)) : Prop :=
  (n = 0 ∧ v = .slice none 0 0 ∧ ps = []) ∨ (∃ g cap, v = .slice (some ⟨g, 0, none⟩) n cap ∧ w.ownsRow lo 42 5 v n (hoflat ps))
theorem HRow.later {w w' : World} {lo n : Nat} {v : Value} {ps : List (Hd × Value)} (h : HRow w lo n v ps) (hb : Below w.heap.size w w') : HRow w' lo n v ps := by
  rcases h with h | ⟨g, cap, h1, h2⟩
  · exact Or.inl h
  · exact Or.inr ⟨g, cap, h1, ownsRow_below h2 hb (fun k hk => (h2.lt k hk).2)⟩
theorem HRow.len {w : World} {lo n : Nat} {v : Value} {ps : List (Hd × Value)} (h : HRow w lo n v ps) : ps.length = n := by
  rcases h with ⟨rfl, _, rfl⟩ | ⟨g, cap, h1, h2⟩
  · rfl
  · have := h2.1; rw [hoflat_length] at this; omega

theorem markHousesN_any (k : Int) (w : World) : Calls Try.prog 21 #[.slice none 0 0, .int .i64 k] w fun e w' => e = .returned (.int .i64 k) ∧ w' = w := by
  go_enter Try.func21, Try.ntmps21
  go_wp2
  refine wp_loop_rounds 1 ?_
  rw [rounds_succ]
  go_wp2
  go_ret
  exact ⟨rfl, rfl⟩
theorem heldHousesN_any (k : Int) (w : World) : Calls Try.prog 24 #[.slice none 0 0, .int .i64 k] w fun e w' => e = .returned (.int .i64 k) ∧ w' = w := by
  go_enter Try.func24, Try.ntmps24
  go_wp2
  refine wp_loop_rounds 1 ?_
  rw [rounds_succ]
  go_wp2
  go_ret
  exact ⟨rfl, rfl⟩
theorem markHousesR_any (k : Int) (v : Value) (n lo : Nat) (ps : List (Hd × Value)) (w : World) (hv : HRow w lo n v ps) (hb : Bare ps) (hlo : lo ≤ w.heap.size) (hn : n ≤ 1000) (hk0 : 0 ≤ k) (hk1 : k ≤ 100000) :
    Calls Try.prog 21 #[v, .int .i64 k] w fun e w' => e = .returned (.int .i64 (k + 4 * n)) ∧ HRow w' lo n v (mkHs ps k n) ∧ Below lo w w' ∧ Kept [42] w w' := by
  rcases hv with ⟨rfl, rfl, rfl⟩ | ⟨g, cap, rfl, h2⟩
  · refine (markHousesN_any k w).mono ?_
    rintro e w' ⟨rfl, rfl⟩
    exact ⟨by simp, Or.inl ⟨rfl, rfl, rfl⟩, Below.refl _ _, Kept.of_below (Below.refl _ _)⟩
  · refine (markHouses0_any g cap n lo ps k w h2 hb hn hk0 hk1).mono ?_
    rintro e w' ⟨rfl, h3, h4⟩
    exact ⟨rfl, Or.inr ⟨g, cap, rfl, h3⟩, (Below.refl lo w).grown h4 hlo (fun j hj => (h2.lt j hj).1), Kept.of_row h2 h4 (by decide)⟩
theorem heldHousesR_any (k : Int) (v : Value) (n lo : Nat) (ps : List (Hd × Value)) (w : World) (hv : HRow w lo n v (mkHs ps k n)) (hb : Bare ps) (hx : ps.length = n) (hn : n ≤ 1000) (hk0 : 0 ≤ k) (hk1 : k ≤ 100000) :
    Calls Try.prog 24 #[v, .int .i64 k] w fun e w' => e = .returned (.int .i64 (k + 4 * n)) ∧ w' = w := by
  rcases hv with ⟨rfl, rfl, h⟩ | ⟨g, cap, rfl, h2⟩
  · refine (heldHousesN_any k w).mono ?_
    rintro e w' ⟨rfl, rfl⟩
    exact ⟨by simp, rfl⟩
  · exact heldHouses0_any g cap n lo ps k w h2 hb hx hn hk0 hk1

theorem dkOwnNil (w : World) : DkOwn w w.heap.size w.heap.size (.slice none 0 0) (.slice none 0 0) [] [] := by
  obtain ⟨ps, hp, ho⟩ := Made.none w w.heap.size
  have : ps = [] := by simpa using hp
  subst this
  exact ⟨Nat.le_refl _, w.heap.size, w.heap.size, Nat.le_refl _, Nat.le_refl _, ho, World.ownsRow_nil _ _ _ _, fun g hg => by simp [Value.ownBlock] at hg⟩
theorem dkNil' (w : World) (a b : Option Addr) : DkAt w (.slice a 0 0) (.slice b 0 0) [] [] :=
  ⟨Or.inl ⟨rfl, a, 0, rfl⟩, Or.inl ⟨rfl, b, 0, rfl, fun _ => rfl⟩⟩

set_option maxRecDepth 100000 in
set_option maxHeartbeats 4000000 in
theorem markWorld0_any (up : Bool) (v : Value) (n lo : Nat) (ps : List (Hd × Value)) (w : World) (hv : HRow w lo n v ps) (hb : Bare ps) (hlo : lo ≤ w.heap.size) (hn : n ≤ 1000) :
    Calls Try.prog 10 #[worldV up (.slice none 0 0) 0 (.slice none 0 0) v (.slice none 0 0), .int .i64 1] w fun e w' => e = .returned (.int .i64 (1 + 4 * n)) ∧ HRow w' lo n v (mkHs ps 1 n) ∧ Below lo w w' ∧ Kept [42] w w' := by
  have MK : Hid (∀ W, Calls Try.prog 20 #[deskV up (.slice none 0 0) 0 (.slice none 0 0), .int .i64 1] W fun e w' => e = .returned (.int .i64 1) ∧ Below W.heap.size W w') := fun W => by
    refine (markDesk_any up _ _ [] 0 [] 1 _ _ W (dkOwnNil W) (by simp [tot, pre]) (by simp) (by omega) (by omega)).mono fun e w' h => ⟨?_, h.2.2.below (Nat.le_refl _) (Nat.le_refl _)⟩
    rw [h.1]; simp [kDk, kAt, pre]
  have MW : Hid (∀ (W : World) (k : Int), 0 ≤ k → k ≤ 1000000 → Calls Try.prog 22 #[.slice none 0 0, .int .i64 k] W fun e w' => e = .returned (.int .i64 k) ∧ Below W.heap.size W w') := fun W k h0 h1 => by
    refine (markWords_any (.slice none 0 0) [] k W.heap.size 0 W (World.ownsRow_nil _ _ _ _) (by omega) h0 (by omega)).mono fun e w' h => ⟨?_, grown_below h.2.2⟩
    rw [h.1]; simp
  have MH : Hid (∀ W, Below w.heap.size w W → Calls Try.prog 21 #[v, .int .i64 1] W fun e w' => e = .returned (.int .i64 (1 + 4 * n)) ∧ HRow w' lo n v (mkHs ps 1 n) ∧ Below lo W w' ∧ Kept [42] W w') := fun W h =>
    markHousesR_any 1 v n lo ps W (hv.later h) hb (Nat.le_trans hlo h.size) hn (by omega) (by omega)
  clear hv
  have hw : lo ≤ w.heap.size := hlo
  obtain ⟨w1, hw1⟩ : ∃ W, Hid (W = w.alloc (.cells #[.bool up, .slice none 0 0, .int .i64 0, .slice none 0 0, v, .slice none 0 0] 31)) := ⟨_, rfl⟩
  have B1 : Hid (Below w.heap.size w w1) := by show Below _ _ _; rw [hw1.out]; exact alloc_below _ _
  have A1 : Hid (Blk w1 w.heap.size #[.bool up, .slice none 0 0, .int .i64 0, .slice none 0 0, v, .slice none 0 0] 31) := by show Blk _ _ _ _; rw [hw1.out]; exact Blk.new _ _ _
  go_enter Try.func10, Try.ntmps10
  go_wp2_with fail
  rw [← hw1.out]
  refine (MK.out _).mono ?_
  rintro e w2 ⟨rfl, hb2⟩
  have B2 := hide_it (B1.out.trans (hb2.mono B1.out.size))
  have A2 := hide_it (A1.out.after hb2)
  clear hb2
  obtain ⟨a0, a1, a2, a3, a4, a5⟩ := A2.out.cells6
  go_wp2_with fail
  refine (MH.out _ B2.out).mono ?_
  rintro e w3 ⟨rfl, hr3, hb3, hk3⟩
  have A3 := hide_it (hk3.blk A2.out (by decide))
  have K3 := hide_it ((Kept.of_below B2.out).trans hk3)
  have R3 := hide_it hr3
  have B3 := hide_it ((B2.out.mono hw).trans hb3)
  have hn4 : 0 ≤ 1 + 4 * (n : Int) ∧ 1 + 4 * (n : Int) ≤ 1000000 := by omega
  clear hr3 hb3 hk3 a0 a1 a2 a3 a4 a5
  obtain ⟨a0, a1, a2, a3, a4, a5⟩ := A3.out.cells6
  go_wp2_with fail
  refine (MW.out _ _ hn4.1 hn4.2).mono ?_
  rintro e w4 ⟨rfl, hb4⟩
  have R4 := hide_it (R3.out.later hb4)
  have B4 := hide_it (B3.out.trans (hb4.mono (Nat.le_trans hw (Nat.le_trans (Nat.le_refl _) B3.out.size))))
  go_wp2
  go_ret
  exact ⟨rfl, R4.out, B4.out, K3.out.trans (Kept.of_below hb4)⟩

set_option maxRecDepth 100000 in
set_option maxHeartbeats 4000000 in
theorem heldWorld0_any (up : Bool) (v : Value) (n lo : Nat) (ps : List (Hd × Value)) (w : World) (hv : HRow w lo n v (mkHs ps 1 n)) (hb : Bare ps) (hx : ps.length = n) (hn : n ≤ 1000) :
    Calls Try.prog 11 #[worldV up (.slice none 0 0) 0 (.slice none 0 0) v (.slice none 0 0), .int .i64 1] w fun e w' => e = .returned (.int .i64 (1 + 4 * n)) ∧ Below w.heap.size w w' := by
  have HD : Hid (∀ W, Calls Try.prog 23 #[deskV up (.slice none 0 0) 0 (.slice none 0 0), .int .i64 1] W fun e w' => e = .returned (.int .i64 1) ∧ Below W.heap.size W w') := fun W => by
    refine (heldDesk_any up _ _ [] 0 0 1 W (by simpa [markAll, markW] using dkNil' W none none) (by simp [tot, pre]) (by omega) (by omega) (by omega)).mono fun e w' h => ⟨?_, h.2⟩
    rw [h.1]; simp [kDk, kAt, pre]
  have HW : Hid (∀ (W : World) (k : Int), 0 ≤ k → k ≤ 1000000 → Calls Try.prog 25 #[.slice none 0 0, .int .i64 k] W fun e w' => e = .returned (.int .i64 k) ∧ Below W.heap.size W w') := fun W k h0 h1 => by
    refine (heldWords_any (.slice none 0 0) 0 k W (Or.inl ⟨rfl, none, 0, rfl, fun _ => rfl⟩) (by omega) h0 (by omega)).mono ?_
    rintro e w' ⟨rfl, rfl⟩
    exact ⟨by simp, Below.refl _ _⟩
  have HH : Hid (∀ W, Below w.heap.size w W → Calls Try.prog 24 #[v, .int .i64 1] W fun e w' => e = .returned (.int .i64 (1 + 4 * n)) ∧ w' = W) := fun W h =>
    heldHousesR_any 1 v n lo ps W (hv.later h) hb hx hn (by omega) (by omega)
  clear hv
  obtain ⟨w1, hw1⟩ : ∃ W, Hid (W = w.alloc (.cells #[.bool up, .slice none 0 0, .int .i64 0, .slice none 0 0, v, .slice none 0 0] 31)) := ⟨_, rfl⟩
  have B1 : Hid (Below w.heap.size w w1) := by show Below _ _ _; rw [hw1.out]; exact alloc_below _ _
  have A1 : Hid (Blk w1 w.heap.size #[.bool up, .slice none 0 0, .int .i64 0, .slice none 0 0, v, .slice none 0 0] 31) := by show Blk _ _ _ _; rw [hw1.out]; exact Blk.new _ _ _
  go_enter Try.func11, Try.ntmps11
  go_wp2_with fail
  rw [← hw1.out]
  refine (HD.out _).mono ?_
  rintro e w2 ⟨rfl, hb2⟩
  have B2 := hide_it (B1.out.trans (hb2.mono B1.out.size))
  have A2 := hide_it (A1.out.after hb2)
  clear hb2
  obtain ⟨a0, a1, a2, a3, a4, a5⟩ := A2.out.cells6
  go_wp2_with fail
  refine (HH.out _ B2.out).mono ?_
  rintro e w3 ⟨rfl, hw3⟩
  rw [hw3]
  clear hw3
  have hn4 : 0 ≤ 1 + 4 * (n : Int) ∧ 1 + 4 * (n : Int) ≤ 1000000 := by omega
  go_wp2_with fail
  refine (HW.out _ _ hn4.1 hn4.2).mono ?_
  rintro e w4 ⟨rfl, hb4⟩
  have B4 := hide_it (B2.out.trans (hb4.mono B2.out.size))
  go_wp2
  go_ret
  exact ⟨rfl, B4.out⟩

end Go.Proofs.Ytfdcfomfghbpaaa
