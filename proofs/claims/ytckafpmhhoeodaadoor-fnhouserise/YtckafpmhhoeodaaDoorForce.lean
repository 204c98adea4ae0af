/- Contracts of the program's LogForce and of what it calls. For all that together has at most 1048576 records and numbers, in a world in which the sentinel's variable holds a pointer to an errors.errorString. -/
import Derived.Test.YtckafpmhhoeodaaDoorMarkRecs
import Derived.Test.YtckafpmhhoeodaaDoorILogOk
namespace Go.Proofs.YtckafpmhhoeodaaDoor
open Go.RowKit

theorem size1 (w : World) (o : Obj) : (w.alloc o).heap.size = w.heap.size + 1 := by simp

/-- A result's block as it was laid: its two cells are there, and may be written. -/
def Zero2 (w : World) (b : Nat) : Prop := w.cell? ⟨b, 0, none⟩ = some (.slice none 0 0) ∧ w.cell? ⟨b, 1, none⟩ = some (.int .i64 0) ∧ w.frozen? ⟨b, 0, none⟩ = false ∧ w.frozen? ⟨b, 1, none⟩ = false
theorem Zero2.later {B : Nat} {w w' : World} {b : Nat} (h : Zero2 w b) (hb : Below B w w') (hB : b < B) : Zero2 w' b := by
  obtain ⟨h0, h1, h2, h3⟩ := h
  exact ⟨by rw [← h0]; exact hb.cell (p := ⟨b, 0, none⟩) hB, by rw [← h1]; exact hb.cell (p := ⟨b, 1, none⟩) hB, by rw [← h2]; exact hb.frozen (p := ⟨b, 0, none⟩) hB, by rw [← h3]; exact hb.frozen (p := ⟨b, 1, none⟩) hB⟩
theorem Zero2.new (w : World) (ty : TypeId) : Zero2 (w.alloc (.cells #[.slice none 0 0, .int .i64 0] ty)) w.heap.size := by
  refine ⟨?_, ?_, ?_, ?_⟩ <;> simp

theorem Zero2.new2 (w : World) (o : Obj) (ty : TypeId) : Zero2 ((w.alloc o).alloc (.cells #[.slice none 0 0, .int .i64 0] ty)) (w.heap.size + 1) := by
  have h := Zero2.new (w.alloc o) ty
  rw [size1] at h
  exact h

/-- A log comes back, in memory of the call's own. -/
def LogOut (w w' : World) (e : Ending) (rs : List R) (f : Int) : Prop :=
  ∃ ao cap, e = .returned (.agg #[.slice ao rs.length cap, .int .i64 f]) ∧ Made w' w.heap.size (.slice ao rs.length cap) rs ∧ Below w.heap.size w w'

theorem Made.lo {w : World} {lo lo' : Nat} {v : Value} {rs : List R} (h : Made w lo v rs) (hl : lo' ≤ lo) : Made w lo' v rs := by
  obtain ⟨ps, hp, h1, h2, h3⟩ := h
  exact ⟨ps, hp, ownsRow_base h1 hl, h2, h3.1, fun p hp => ⟨ownsRow_base (h3.2.1 p hp).1 hl, (h3.2.1 p hp).2⟩, h3.2.2⟩

theorem Made.none (w : World) (lo : Nat) : Made w lo (.slice none 0 0) [] :=
  ⟨[], rfl, World.ownsRow_nil _ _ _ _, fun k hk => by simp [Value.ownBlock] at hk, Inner.nil _ _ _ (Nat.le_refl _)⟩

set_option maxHeartbeats 1000000 in
theorem forced_any (v : Value) (rs : List R) (w : World) (hv : Recs w v rs) (hl : tot rs ≤ 1048576) :
    Calls Tryd.prog 45 #[v] w fun e w' => LogOut w w' e rs rs.length := by
  have HS : Hid (∀ o, Calls Tryd.prog 60 #[v] (w.alloc o) fun e w' => ∃ ao cap, e = .returned (.slice ao rs.length cap) ∧ Made w' (w.alloc o).heap.size (.slice ao rs.length cap) rs ∧ Below (w.alloc o).heap.size (w.alloc o) w') := fun o =>
    copyRecs_any v rs (w.alloc o) (hv.later (alloc_below w o) (Nat.le_refl _)) hl
  obtain ⟨av, cv, rfl⟩ := hv.shape
  clear hv
  go_enter Tryd.func45, Tryd.ntmps45
  go_wp2_with fail
  refine (HS.out _).mono ?_
  rintro e w1 ⟨ao, cap, rfl, hm, hb⟩
  obtain ⟨hc, hf⟩ := bcell hb
  have hz : w.heap.size + 1 ≤ w1.heap.size := by have := hb.size; simp at this; exact this
  rw [size1] at hc hf
  have HM := hide_it hm
  have HB := hide_it (below_after hb)
  clear hm hb
  go_wp2
  refine bodyPost_ret (v := .agg #[.slice ao rs.length cap, .int .i64 rs.length]) (by simp [results, Tryd.results45, go_sem, hc]) rfl ⟨ao, cap, rfl, ?_, ?_⟩
  · exact ((HM.out.setBelow (by simp) _).setBelow (by simp) _).lo (by simp)
  · exact (HB.out.setCell (by simp) _).setCell (by simp) _

/-- What a log is when all is forced. -/
def forceR (rs : List R) (f : Int) : List R := if logOk rs f then rs else []
def forceF (rs : List R) (f : Int) : Int := if logOk rs f then rs.length else 0

set_option maxHeartbeats 1000000 in
theorem implForce_any (v : Value) (rs : List R) (f : Int) (a : Addr) (w : World) (hv : Recs w v rs) (hl : tot rs ≤ 1048576) (ha : ErrAt w a) :
    Calls Tryd.prog 15 #[.agg #[v, .int .i64 f]] w fun e w' => LogOut w w' e (forceR rs f) (forceF rs f) := by
  have hrl := tot_len rs
  have HV : Hid (∀ W, Below w.heap.size w W → Recs W v rs) := fun W h => hv.later h (Nat.le_refl _)
  have HA : Hid (∀ W, Below w.heap.size w W → ErrAt W a) := fun W h => ha.later h (Nat.le_refl _)
  obtain ⟨av, cv, hvs⟩ := hv.shape
  have HT : Hid (∀ o, Two ((w.alloc (.cells #[v, .int .i64 f] 25)).alloc o) w.heap.size v (.int .i64 f)) := fun o => Two.later (show Two _ _ _ _ from box2 w _ _ _) (alloc_below _ o) (Nat.le_refl _)
  clear hv ha
  subst hvs
  have HS : Hid (∀ o1 o2, Calls Tryd.prog 44 #[.agg #[.slice av rs.length cv, .int .i64 f]] ((w.alloc o1).alloc o2) fun e w' => e = .returned (.bool (logOk rs f)) ∧ Below ((w.alloc o1).alloc o2).heap.size ((w.alloc o1).alloc o2) w') := fun o1 o2 =>
    implLogOk_any _ rs f a _ (HV.out _ (below2 w o1 o2)) hl (HA.out _ (below2 w o1 o2))
  cases hok : logOk rs f
  · have HR : Hid (forceR rs f = [] ∧ forceF rs f = 0) := by constructor <;> simp [forceR, forceF, hok]
    rw [hok] at HS
    clear hok
    go_enter Tryd.func15, Tryd.ntmps15
    go_wp2_with fail
    refine (HS.out _ _).mono ?_
    rintro e w1 ⟨rfl, hb⟩
    obtain ⟨hc, hf⟩ := bcell hb
    have hz : w.heap.size + 2 ≤ w1.heap.size := by have := hb.size; rw [size2] at this; exact this
    rw [size2] at hc hf
    have HB := hide_it ((below2 w _ _).trans (hb.mono (by simp; omega)))
    clear hb
    go_wp2
    refine bodyPost_ret (v := .agg #[.slice none 0 0, .int .i64 0]) (by simp [results, Tryd.results15, go_sem, hc]) rfl ?_
    unfold LogOut
    rw [HR.out.1, HR.out.2]
    refine ⟨none, 0, rfl, Made.none _ _, ?_⟩
    exact (HB.out.setCell (by simp) _).setCell (by simp) _
  · have HR : Hid (forceR rs f = rs ∧ forceF rs f = rs.length) := by constructor <;> simp [forceR, forceF, hok]
    rw [hok] at HS
    clear hok
    go_enter Tryd.func15, Tryd.ntmps15
    go_wp2_with fail
    refine (HS.out _ _).mono ?_
    rintro e w1 ⟨rfl, hb⟩
    have HB := hide_it ((below2 w _ _).trans (hb.mono (by simp; omega)))
    have HZ : Hid (Zero2 w1 (w.heap.size + 1)) := Zero2.later (by exact Zero2.new2 _ _ _) hb (by simp)
    obtain ⟨t0, t1⟩ := (HT.out _).later hb (Nat.le_refl _)
    have hz : w.heap.size + 2 ≤ w1.heap.size := by have := hb.size; rw [size2] at this; exact this
    clear hb
    go_wp2_with fail
    refine (forced_any _ rs w1 (HV.out _ HB.out) hl).mono ?_
    rintro e w2 ⟨ao, cap, rfl, hm, hb2⟩
    have HM := hide_it hm
    have HB2 := hide_it (HB.out.trans (hb2.mono HB.out.size))
    obtain ⟨r0, r1, z0, z1⟩ := HZ.out.later hb2 (by omega)
    clear hm hb2
    go_wp2
    refine bodyPost_ret (v := .agg #[.slice ao rs.length cap, .int .i64 rs.length]) (by simp [results, Tryd.results15, go_sem, r0, r1]) rfl ?_
    unfold LogOut
    rw [HR.out.1, HR.out.2]
    refine ⟨ao, cap, rfl, ?_, ?_⟩
    · exact ((HM.out.setBelow (by simp; omega) _).setBelow (by simp; omega) _).lo (by omega)
    · exact (HB2.out.setCell (by simp) _).setCell (by simp) _

end Go.Proofs.YtckafpmhhoeodaaDoor
