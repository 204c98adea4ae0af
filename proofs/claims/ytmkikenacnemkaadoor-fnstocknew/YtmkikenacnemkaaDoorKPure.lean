/- The plain mathematics of stocks: what is had, what is free, which record may come and what it makes of a stock, over integers and lists alone; nothing of the program is met here. No conditions. -/
import Derived.Test.YtmkikenacnemkaaDoorPure
namespace Go.Proofs.YtmkikenacnemkaaDoor
namespace Pl

/-- A hold as plain data: how many, and in which state. -/
abbrev H := Int × Int

def hOk (h : H) : Bool := if h.2 = 0 then decide (h.1 = 0) else if h.2 = 1 ∨ h.2 = 2 then inB h.1 1 3 else if h.2 = 3 then inB h.1 0 3 else false
def hHad (h : H) : Int := if h.2 = 1 ∨ h.2 = 2 then h.1 else 0
def free (room : Int) (hs : List H) : Int := room - (hs.map hHad).sum
def sOk (room : Int) (hs : List H) : Bool := hs.all hOk && inB room 0 9 && (hs.length == 6) && decide (0 ≤ free room hs)
def sFree (room : Int) (hs : List H) : Int := if sOk room hs = true then free room hs else -1

theorem hOk_0 (m : Int) : hOk (m, 0) = decide (m = 0) := by simp [hOk]
theorem hOk_1 (m : Int) : hOk (m, 1) = inB m 1 3 := by simp [hOk]
theorem hOk_2 (m : Int) : hOk (m, 2) = inB m 1 3 := by simp [hOk]
theorem hOk_3 (m : Int) : hOk (m, 3) = inB m 0 3 := by simp [hOk]
theorem hOk_x (m s : Int) (h0 : s ≠ 0) (h1 : s ≠ 1) (h2 : s ≠ 2) (h3 : s ≠ 3) : hOk (m, s) = false := by simp [hOk, h0, h1, h2, h3]
theorem hHad_1 (m : Int) : hHad (m, 1) = m := by simp [hHad]
theorem hHad_2 (m : Int) : hHad (m, 2) = m := by simp [hHad]
theorem hHad_x (m s : Int) (h1 : s ≠ 1) (h2 : s ≠ 2) : hHad (m, s) = 0 := by simp [hHad, h1, h2]

theorem hHad_bd (h : H) (hk : hOk h = true) : 0 ≤ hHad h ∧ hHad h ≤ 3 := by
  obtain ⟨m, s⟩ := h
  by_cases h1 : s = 1
  · subst h1; rw [hHad_1]; rw [hOk_1] at hk; have := inB_true hk; omega
  by_cases h2 : s = 2
  · subst h2; rw [hHad_2]; rw [hOk_2] at hk; have := inB_true hk; omega
  rw [hHad_x m s h1 h2]; omega

theorem htake (hs : List H) (k : Nat) (h : k < hs.length) : hs.take (k + 1) = hs.take k ++ [hs.getD k (0, 0)] := by
  rw [List.take_succ_eq_append_getElem h]; simp [List.getD_eq_getElem?_getD, h]
theorem free_snoc (room : Int) (hs : List H) (k : Nat) (h : k < hs.length) : free room (hs.take (k + 1)) = free room (hs.take k) - hHad (hs.getD k (0, 0)) := by
  rw [htake hs k h]; simp [free]; omega
theorem free_nil (room : Int) : free room [] = room := by simp [free]
theorem hall_snoc (hs : List H) (k : Nat) (h : k < hs.length) : (hs.take (k + 1)).all hOk = ((hs.take k).all hOk && hOk (hs.getD k (0, 0))) := by
  rw [htake hs k h]; simp
theorem hall_bad (hs : List H) (k : Nat) (h : k < hs.length) (hp : hOk (hs.getD k (0, 0)) = false) : hs.all hOk = false := by
  rw [List.all_eq_false]
  refine ⟨hs.getD k (0, 0), ?_, by rw [hp]; decide⟩
  simp [List.getD_eq_getElem?_getD, h]
theorem hsum_bd (hs : List H) (h : hs.all hOk = true) : 0 ≤ (hs.map hHad).sum ∧ (hs.map hHad).sum ≤ 3 * hs.length := by
  induction hs with
  | nil => simp
  | cons z zs ih =>
    simp only [List.all_cons, Bool.and_eq_true] at h
    have := hHad_bd z h.1
    have := ih h.2
    simp; omega
theorem free_bd (room : Int) (hs : List H) (h : hs.all hOk = true) : room - 3 * hs.length ≤ free room hs ∧ free room hs ≤ room := by
  have := hsum_bd hs h
  unfold free; omega

theorem sOk_parts {room : Int} {hs : List H} (h : sOk room hs = true) : hs.all hOk = true ∧ inB room 0 9 = true ∧ hs.length = 6 ∧ 0 ≤ free room hs := by
  unfold sOk at h
  simp only [Bool.and_eq_true, beq_iff_eq, decide_eq_true_eq] at h
  exact ⟨h.1.1.1, h.1.1.2, h.1.2, h.2⟩
theorem sOk_mk {room : Int} {hs : List H} (h1 : hs.all hOk = true) (h2 : inB room 0 9 = true) (h3 : hs.length = 6) : sOk room hs = decide (0 ≤ free room hs) := by
  simp [sOk, h1, h2, h3]
theorem sOk_all {room : Int} {hs : List H} (h : hs.all hOk = false) : sOk room hs = false := by simp [sOk, h]
theorem sOk_room {room : Int} {hs : List H} (h : inB room 0 9 = false) : sOk room hs = false := by simp [sOk, h]
theorem sOk_len {room : Int} {hs : List H} (h : hs.length ≠ 6) : sOk room hs = false := by simp [sOk, h]
theorem sFree_no {room : Int} {hs : List H} (h : sOk room hs = false) : sFree room hs = -1 := by simp [sFree, h]
theorem sFree_yes {room : Int} {hs : List H} (h : sOk room hs = true) : sFree room hs = free room hs := by simp [sFree, h]
theorem sFree_max {room : Int} {hs : List H} (h1 : hs.all hOk = true) (h2 : inB room 0 9 = true) (h3 : hs.length = 6) : sFree room hs = max (free room hs) (-1) := by
  by_cases h : 0 ≤ free room hs
  · rw [sFree_yes (by rw [sOk_mk h1 h2 h3]; simpa using h)]; omega
  · rw [sFree_no (by rw [sOk_mk h1 h2 h3]; simpa using h)]; omega
theorem sFree_ok (room : Int) (hs : List H) : decide (0 ≤ sFree room hs) = sOk room hs := by
  cases h : sOk room hs
  · rw [sFree_no h]; decide
  · rw [sFree_yes h]; have := (sOk_parts h).2.2.2; simpa using this
theorem sFree_bd (room : Int) (hs : List H) : -1 ≤ sFree room hs ∧ sFree room hs ≤ 9 := by
  cases h : sOk room hs
  · rw [sFree_no h]; omega
  · rw [sFree_yes h]
    obtain ⟨h1, h2, h3, h4⟩ := sOk_parts h
    have := inB_true h2
    have := free_bd room hs h1
    omega

/-- What a record makes of its trip's hold; nothing, if it may not come. -/
def next (h : H) (k m free : Int) : Option H :=
  if k = 1 then (if h.2 = 0 ∧ m ≤ free then some (m, 1) else none)
  else if k = 2 then (if h.2 = 1 then some (h.1, 2) else none)
  else if k = 3 then (if h.2 = 1 ∨ h.2 = 0 then some (h.1, 3) else none)
  else none
/-- The place of a trip's hold. -/
def at_ (t : Int) : Nat := (t - 1).toNat
def hAt (hs : List H) (t : Int) : H := hs.getD (at_ t) (0, 0)
/-- What a record makes of its trip's hold in a stock; nothing, if it may not come. -/
def behind (room : Int) (hs : List H) (k t : Int) (zs : List Int) : Option H :=
  if sOk room hs = true ∧ recOk k t zs = true then next (hAt hs t) k (zs.headD 0) (free room hs) else none
def sMay (room : Int) (hs : List H) (k t : Int) (zs : List Int) : Bool := (behind room hs k t zs).isSome
def sDo (room : Int) (hs : List H) (k t : Int) (zs : List Int) : Option (List H) := (behind room hs k t zs).map fun h => hs.set (at_ t) h

theorem behind_stock {room : Int} {hs : List H} (k t : Int) (zs : List Int) (h : sOk room hs = false) : behind room hs k t zs = none := by simp [behind, h]
theorem behind_rec (room : Int) (hs : List H) {k t : Int} {zs : List Int} (h : recOk k t zs = false) : behind room hs k t zs = none := by simp [behind, h]
theorem behind_ok {room : Int} {hs : List H} {k t : Int} {zs : List Int} (h : sOk room hs = true) (h2 : recOk k t zs = true) : behind room hs k t zs = next (hAt hs t) k (zs.headD 0) (free room hs) := by simp [behind, h, h2]

theorem recOk_trip {k t : Int} {zs : List Int} (h : recOk k t zs = true) : 1 ≤ t ∧ t ≤ 6 := by
  cases ht : inB t 1 6
  · rw [recOk_t k t zs ht] at h; cases h
  · exact inB_true ht
theorem recOk_kind {k t : Int} {zs : List Int} (h : recOk k t zs = true) : 1 ≤ k ∧ k ≤ 7 := by
  by_cases h1 : k = 1
  · omega
  by_cases h4 : k = 4
  · omega
  have ht := inB_mk (recOk_trip h).1 (recOk_trip h).2
  rw [recOk_p k t zs ht h1 h4] at h
  simp only [Bool.and_eq_true] at h
  have := inB_true h.1
  omega
theorem recOk_hold {t : Int} {zs : List Int} (h : recOk 1 t zs = true) : ∃ z, zs = [z] ∧ 1 ≤ z ∧ z ≤ 3 := by
  have ht := inB_mk (recOk_trip h).1 (recOk_trip h).2
  rw [recOk_1 t zs ht] at h
  simp only [holdOk, Bool.and_eq_true, beq_iff_eq] at h
  obtain ⟨z, rfl⟩ := List.length_eq_one_iff.1 h.1
  exact ⟨z, rfl, by simpa using inB_true h.2⟩
theorem at_lt {k t : Int} {zs : List Int} (h : recOk k t zs = true) : at_ t < 6 := by
  have := recOk_trip h
  unfold at_; omega

theorem hAt_mem (hs : List H) (t : Int) (h : at_ t < hs.length) : hAt hs t ∈ hs := by
  unfold hAt
  simp [List.getD_eq_getElem?_getD, h]
theorem sum_set (hs : List H) (i : Nat) (h : H) (hi : i < hs.length) : ((hs.set i h).map hHad).sum = (hs.map hHad).sum - hHad (hs.getD i (0, 0)) + hHad h := by
  induction hs generalizing i with
  | nil => simp at hi
  | cons z zs ih =>
    cases i with
    | zero => simp; omega
    | succ i =>
      have := ih i (by simpa using hi)
      simp at this ⊢
      omega
theorem free_set (room : Int) (hs : List H) (i : Nat) (h : H) (hi : i < hs.length) : free room (hs.set i h) = free room hs + hHad (hs.getD i (0, 0)) - hHad h := by
  unfold free; rw [sum_set hs i h hi]; omega
theorem all_set (hs : List H) (i : Nat) (h : H) (ha : hs.all hOk = true) (hh : hOk h = true) : (hs.set i h).all hOk = true := by
  rw [List.all_eq_true] at ha ⊢
  intro x hx
  rcases List.mem_or_eq_of_mem_set hx with h1 | h1
  · exact ha x h1
  · rw [h1]; exact hh

/-- A stock behind a record that may come is ok. -/
theorem behind_keeps {room : Int} {hs : List H} {k t : Int} {zs : List Int} {h : H} (hb : behind room hs k t zs = some h) : sOk room (hs.set (at_ t) h) = true := by
  unfold behind at hb
  by_cases hc : sOk room hs = true ∧ recOk k t zs = true
  · rw [if_pos hc] at hb
    obtain ⟨h1, h2, h3, h4⟩ := sOk_parts hc.1
    have hat := at_lt hc.2
    have hmem := hAt_mem hs t (by omega)
    have hok := (List.all_eq_true.1 h1) _ hmem
    have key : hOk h = true ∧ hHad h ≤ free room hs + hHad (hAt hs t) := by
      have hbd := hHad_bd _ hok
      unfold next at hb
      by_cases k1 : k = 1
      · rw [if_pos k1] at hb
        subst k1
        by_cases c : (hAt hs t).2 = 0 ∧ zs.headD 0 ≤ free room hs
        · rw [if_pos c] at hb
          simp at hb
          obtain ⟨z, rfl, z1, z2⟩ := recOk_hold hc.2
          simp at hb c
          subst hb
          rw [hOk_1, hHad_1]
          exact ⟨inB_mk z1 z2, by omega⟩
        · rw [if_neg c] at hb; cases hb
      rw [if_neg k1] at hb
      by_cases k2 : k = 2
      · rw [if_pos k2] at hb
        by_cases c : (hAt hs t).2 = 1
        · rw [if_pos c] at hb
          simp at hb
          subst hb
          have e : hAt hs t = ((hAt hs t).1, 1) := by rw [← c]
          rw [e, hOk_1] at hok
          rw [e, hHad_1]
          rw [hOk_2, hHad_2]
          exact ⟨by simpa using hok, by simp; omega⟩
        · rw [if_neg c] at hb; cases hb
      rw [if_neg k2] at hb
      by_cases k3 : k = 3
      · rw [if_pos k3] at hb
        by_cases c : (hAt hs t).2 = 1 ∨ (hAt hs t).2 = 0
        · rw [if_pos c] at hb
          simp at hb
          subst hb
          rw [hOk_3, hHad_x _ _ (by decide) (by decide)]
          refine ⟨?_, by omega⟩
          rcases c with c | c
          · have e : hAt hs t = ((hAt hs t).1, 1) := by rw [← c]
            rw [e, hOk_1] at hok
            have := inB_true hok
            exact inB_mk (by omega) (by omega)
          · have e : hAt hs t = ((hAt hs t).1, 0) := by rw [← c]
            rw [e, hOk_0] at hok
            have := of_decide_eq_true hok
            exact inB_mk (by omega) (by omega)
        · rw [if_neg c] at hb; cases hb
      · rw [if_neg k3] at hb; cases hb
    rw [sOk_mk (all_set hs _ h h1 key.1) h2 (by rw [List.length_set]; exact h3), free_set room hs _ h (by omega)]
    have e : hHad (hs.getD (at_ t) (0, 0)) = hHad (hAt hs t) := rfl
    have := key.2
    rw [e]
    exact decide_eq_true (by omega)
  · rw [if_neg hc] at hb; cases hb

/-- A stock of which nobody has anything. -/
def noHolds : List H := List.replicate 6 (0, 0)
theorem new_ok (room : Int) (h : inB room 0 9 = true) : sOk room noHolds = true := by
  rw [sOk_mk (by decide) h (by decide)]
  have := inB_true h
  simp [free, noHolds, hHad]; omega

/-- A stock behind records; nothing, if one may not come. -/
def sRun (room : Int) : List (Int × Int × List Int) → List H → Option (List H)
  | [], hs => some hs
  | r :: t, hs => match sDo room hs r.1 r.2.1 r.2.2 with
    | none => none
    | some h => sRun room t h
def sOf (room : Int) (rs : List (Int × Int × List Int)) : Option (List H) := if inB room 0 9 = true then sRun room rs noHolds else none

theorem sDo_len {room : Int} {hs hs' : List H} {k t : Int} {zs : List Int} (h : sDo room hs k t zs = some hs') : hs'.length = hs.length := by
  unfold sDo at h
  cases hb : behind room hs k t zs with
  | none => rw [hb] at h; cases h
  | some x => rw [hb] at h; simp at h; rw [← h, List.length_set]
theorem sDo_keeps {room : Int} {hs hs' : List H} {k t : Int} {zs : List Int} (h : sDo room hs k t zs = some hs') : sOk room hs' = true := by
  unfold sDo at h
  cases hb : behind room hs k t zs with
  | none => rw [hb] at h; cases h
  | some x => rw [hb] at h; simp at h; rw [← h]; exact behind_keeps hb

end Pl
end Go.Proofs.YtmkikenacnemkaaDoor
