/- Contracts of the two functions that say whether a record is ok, the specification's and the program's. For every record whose numbers are at most 1048576, in a world in which the sentinel's variable holds a pointer to an errors.errorString. -/
import Derived.Test.YtfpjohbcbflnhaaDoorRec
namespace Go.Proofs.YtfpjohbcbflnhaaDoor
open Go.RowKit

theorem alloc_below (w : World) (o : Obj) : Below w.heap.size w (w.alloc o) := (Below.refl _ _).alloc (Nat.le_refl _) o
theorem below_after {w : World} {o : Obj} {w' : World} (h : Below (w.alloc o).heap.size (w.alloc o) w') : Below w.heap.size w w' :=
  (alloc_below w o).trans (h.mono (by simp))

set_option maxHeartbeats 2000000 in
theorem entry_any (k t : Int) (v : Value) (zs : List Int) (a : Addr) (w : World) (hv : Ints w v zs) (hl : zs.length ≤ 1048576) (ha : ErrAt w a) :
    Calls Tryd.prog 23 #[.agg #[.int .i64 k, .int .i64 t, v]] w fun e w' => (∃ ent, e = .returned (.tuple #[ent, errV (Pl.recOk k t zs) a])) ∧ Below w.heap.size w w' := by
  have hv1 : Hid (∀ o, Ints (w.alloc o) v zs) := fun o => hv.later (alloc_below w o) (Nat.le_refl _)
  have ha1 : Hid (∀ o, ErrAt (w.alloc o) a) := fun o => ha.later (alloc_below w o) (Nat.le_refl _)
  have hb0 : 0 < w.heap.size := World.block_lt_of_cell? _ _ ha
  unfold ErrAt at ha
  clear hv
  by_cases ht1 : t < 1
  · have HE : Hid (errV (Pl.recOk k t zs) a = .iface 137 (.pointer (some a))) := by
      show _ = _; rw [Pl.recOk_t k t zs (Pl.inB_lo ht1)]; rfl
    go_enter Tryd.func23, Tryd.ntmps23
    go_wp2
    go_quiet (fail)
    go_wp2
    go_ret2
    exact ⟨⟨_, by rw [HE.out]; rfl⟩, below_drewN (alloc_below _ _) _⟩
  by_cases ht6 : 6 < t
  · have HE : Hid (errV (Pl.recOk k t zs) a = .iface 137 (.pointer (some a))) := by
      show _ = _; rw [Pl.recOk_t k t zs (Pl.inB_hi ht6)]; rfl
    go_enter Tryd.func23, Tryd.ntmps23
    go_wp2
    go_quiet (fail)
    go_wp2
    go_ret2
    exact ⟨⟨_, by rw [HE.out]; rfl⟩, below_drewN (alloc_below _ _) _⟩
  have HT : Hid (Pl.inB t 1 6 = true) := Pl.inB_mk (by omega) (by omega)
  by_cases h1 : k = 1
  · subst h1
    have HE : Hid (Pl.recOk 1 t zs = Pl.holdOk zs) := Pl.recOk_1 t zs HT.out
    go_enter Tryd.func23, Tryd.ntmps23
    go_wp2_with (go_at_call 41; refine (hold_any _ _ zs a _ (hv1.out _) (ha1.out _)).mono ?_; rintro e w' ⟨⟨ent, rfl⟩, hb⟩)
    go_ret2
    exact ⟨⟨_, by rw [HE.out]; rfl⟩, below_after (by assumption)⟩
  by_cases h4 : k = 4
  · subst h4
    have HE : Hid (Pl.recOk 4 t zs = Pl.manyOk zs) := Pl.recOk_4 t zs HT.out
    go_enter Tryd.func23, Tryd.ntmps23
    go_wp2_with (go_at_call 42; refine (begin_any _ _ zs a _ (hv1.out _) hl (ha1.out _)).mono ?_; rintro e w' ⟨⟨ent, rfl⟩, hb⟩)
    go_ret2
    exact ⟨⟨_, by rw [HE.out]; rfl⟩, below_after (by assumption)⟩
  cases hk : Pl.inB k 2 7
  · have HE : Hid (errV (Pl.recOk k t zs) a = .iface 137 (.pointer (some a))) := by
      show _ = _; rw [Pl.recOk_none k t zs HT.out h1 h4 hk]; rfl
    have hk' := Pl.inB_false hk
    have h2 : ¬ k = 2 := by omega
    have h3 : ¬ k = 3 := by omega
    have h5 : ¬ k = 5 := by omega
    have h6 : ¬ k = 6 := by omega
    have h7 : ¬ k = 7 := by omega
    clear hk' hk
    go_enter Tryd.func23, Tryd.ntmps23
    go_wp2
    go_quiet (fail)
    go_wp2
    go_ret2
    exact ⟨⟨_, by rw [HE.out]; rfl⟩, below_drewN (alloc_below _ _) _⟩
  · have HE : Hid (Pl.recOk k t zs = (zs.length == 0)) := Pl.recOk_plain k t zs HT.out h1 h4 hk
    have hk' := Pl.inB_true hk
    clear hk
    rcases (show k = 2 ∨ k = 3 ∨ k = 5 ∨ k = 6 ∨ k = 7 by omega) with rfl | rfl | rfl | rfl | rfl
    all_goals
      clear hk' h1 h4
      go_enter Tryd.func23, Tryd.ntmps23
      go_wp2_with (go_at_call 43; refine (plain_any _ _ _ zs a _ (hv1.out _) (ha1.out _)).mono ?_; rintro e w' ⟨⟨ent, rfl⟩, hb⟩)
      go_ret2
      exact ⟨⟨_, by rw [HE.out]; rfl⟩, below_after (by assumption)⟩

theorem entry_yes (k t : Int) (v : Value) (zs : List Int) (a : Addr) (w : World) (hv : Ints w v zs) (hl : zs.length ≤ 1048576) (ha : ErrAt w a) (h : Pl.recOk k t zs = true) :
    Calls Tryd.prog 23 #[.agg #[.int .i64 k, .int .i64 t, v]] w fun e w' => (∃ ent, e = .returned (.tuple #[ent, .nilIface])) ∧ Below w.heap.size w w' := by
  have := entry_any k t v zs a w hv hl ha
  rw [h] at this
  exact this
theorem entry_no (k t : Int) (v : Value) (zs : List Int) (a : Addr) (w : World) (hv : Ints w v zs) (hl : zs.length ≤ 1048576) (ha : ErrAt w a) (h : Pl.recOk k t zs = false) :
    Calls Tryd.prog 23 #[.agg #[.int .i64 k, .int .i64 t, v]] w fun e w' => (∃ ent, e = .returned (.tuple #[ent, .iface 137 (.pointer (some a))])) ∧ Below w.heap.size w w' := by
  have := entry_any k t v zs a w hv hl ha
  rw [h] at this
  exact this

set_option maxHeartbeats 1000000 in
theorem implOk_any (k t : Int) (v : Value) (zs : List Int) (a : Addr) (w : World) (hv : Ints w v zs) (hl : zs.length ≤ 1048576) (ha : ErrAt w a) :
    Calls Tryd.prog 13 #[.agg #[.int .i64 k, .int .i64 t, v]] w fun e w' => e = .returned (.bool (Pl.recOk k t zs)) ∧ Below w.heap.size w w' := by
  have hv1 : Hid (∀ o, Ints (w.alloc o) v zs) := fun o => hv.later (alloc_below w o) (Nat.le_refl _)
  have ha1 : Hid (∀ o, ErrAt (w.alloc o) a) := fun o => ha.later (alloc_below w o) (Nat.le_refl _)
  clear hv ha
  cases hr : Pl.recOk k t zs
  · have HR : Hid (Pl.recOk k t zs = false) := hr
    clear hr
    go_enter Tryd.func13, Tryd.ntmps13
    go_wp2_with (first
      | (go_at_call 23; refine (entry_no k t v zs a _ (hv1.out _) hl (ha1.out _) HR.out).mono ?_; rintro e w1 ⟨⟨ent, rfl⟩, hb⟩; have ha2 := (ha1.out _).later hb (Nat.le_refl _); unfold ErrAt at ha2)
      | (go_at_call 24; refine (is_same a _).mono ?_; rintro e w2 ⟨rfl, rfl⟩))
    go_ret
    exact ⟨rfl, below_after (by assumption)⟩
  · have HR : Hid (Pl.recOk k t zs = true) := hr
    clear hr
    go_enter Tryd.func13, Tryd.ntmps13
    go_wp2_with (first
      | (go_at_call 23; refine (entry_yes k t v zs a _ (hv1.out _) hl (ha1.out _) HR.out).mono ?_; rintro e w1 ⟨⟨ent, rfl⟩, hb⟩; have ha2 := (ha1.out _).later hb (Nat.le_refl _); unfold ErrAt at ha2)
      | (go_at_call 24; refine (is_nil a _).mono ?_; rintro e w2 ⟨rfl, rfl⟩))
    go_ret
    exact ⟨rfl, below_after (by assumption)⟩

end Go.Proofs.YtfpjohbcbflnhaaDoor
