/- What the laws over a list of trips and a record share: what is too great, and the marks of a record. No conditions. -/
import Derived.Test.YtmbgnmnlkbeaoaaDoorTLawOf
import Derived.Deep.RegionHeld
namespace Go.Proofs.YtmbgnmnlkbeaoaaDoor
open Go.RowKit

theorem sz_trips_neg (v : Value) (hs : List T.R) (W : World) (hv : T.Recs W v hs) (hm : (hs.length : Int) ≤ 9223372036854775807) (hms : ∀ r ∈ hs, (r.1.length : Int) ≤ 9223372036854775807) (hg : 1048576 < T.tot hs) :
    Calls Tryd.prog 6 #[v, .int .i64 1048576] W fun e w' => e = .returned (.int .i64 (-1)) ∧ Below W.heap.size W w' := by
  have := T.szRecs_any v hs 1048576 W hv hm hms (by omega) (by omega)
  rw [leftOf_neg (by omega)] at this
  exact this
theorem sz_trips_pos (v : Value) (hs : List T.R) (W : World) (hv : T.Recs W v hs) (hg : T.tot hs ≤ 1048576) :
    Calls Tryd.prog 6 #[v, .int .i64 1048576] W fun e w' => e = .returned (.int .i64 (1048576 - T.tot hs)) ∧ Below W.heap.size W w' := by
  have hl := T.tot_len hs
  have := T.szRecs_any v hs 1048576 W hv (by omega) (fun r hr => by have := T.tot_mem hs r hr; omega) (by omega) (by omega)
  rw [leftOf_pos (by omega)] at this
  exact this
theorem sz_trec_neg (k t : Int) (ao : Option Addr) (n len cap : Nat) (W : World) (hl : (len : Int) ≤ 9223372036854775807) (hn : n ≤ 1048576) (hg : 1048576 < (n : Int) + len) :
    Calls Tryd.prog 7 #[.agg #[.int .i64 k, .int .i64 t, .slice ao len cap], .int .i64 (1048576 - n)] W fun e w' => e = .returned (.int .i64 (-1)) ∧ Below W.heap.size W w' := by
  have := szRec_any k t ao len cap (1048576 - n) W hl (by omega) (by omega)
  rw [if_pos (by omega)] at this
  exact this
theorem sz_trec_pos (k t : Int) (ao : Option Addr) (n len cap : Nat) (W : World) (hg : n + len ≤ 1048576) :
    Calls Tryd.prog 7 #[.agg #[.int .i64 k, .int .i64 t, .slice ao len cap], .int .i64 (1048576 - n)] W fun e w' => e = .returned (.int .i64 (1048576 - n - len)) ∧ Below W.heap.size W w' := by
  have := szRec_any k t ao len cap (1048576 - n) W (by omega) (by omega) (by omega)
  rw [if_neg (by omega)] at this
  exact this
theorem t_drew {w2 w3 : World} (hb : Below w2.drew.heap.size w2.drew w3) : Below w2.heap.size w2 w3 := (Below.refl w2.heap.size w2).drew.trans hb

/-- The numbers of a record are marked. -/
theorem markRec_t (k t : Int) (g n cap : Nat) (q : Int) (xs : List Value) (lo : Nat) (w : World) (hv : w.ownsRow lo 3 1 (.slice (some ⟨g, 0, none⟩) n cap) n xs) (hn : n ≤ 1048576) (hk0 : 0 ≤ q) (hk1 : q ≤ 1000000000) :
    Calls Tryd.prog 17 #[.agg #[.int .i64 k, .int .i64 t, .slice (some ⟨g, 0, none⟩) n cap], .int .i64 q] w fun e w' => e = .returned (.int .i64 (q + n)) ∧ Mid g (g + 1) w w' := by
  have HS : Hid (∀ o, Calls Tryd.prog 38 #[.slice (some ⟨g, 0, none⟩) n cap, .int .i64 q] (w.alloc o) fun e w' => e = .returned (.int .i64 (q + n)) ∧ Mid g (g + 1) w w') := fun o => by
    refine (markInts_any _ xs q lo n (w.alloc o) (hv.alloc o) hn hk0 hk1).mono ?_
    rintro e w' ⟨h1, _, h3⟩
    exact ⟨h1, (Mid.of_below (alloc_below w o) (Nat.le_refl _)).trans (Mid.of_grown h3 (fun k hk => by simp [Value.ownBlock] at hk; omega))⟩
  clear hv
  go_enter Tryd.func17, Tryd.ntmps17
  go_wp2_with (go_at_call 38; refine (HS.out _).mono ?_; rintro e w1 ⟨rfl, h3⟩)
  go_ret
  exact ⟨rfl, by assumption⟩

end Go.Proofs.YtmbgnmnlkbeaoaaDoor
