/- FnHouseRise answers true whatever the codes, and they read afterwards as they read before: promise 42 at every drawn house. The card: the sentinel's variable starts as the program's text lays it. -/
import Derived.Test.YtckafpmhhoeodaaDoorCards
import Derived.Test.YtckafpmhhoeodaaDoorTie
import Derived.Test.YtckafpmhhoeodaaDoorRec
import Derived.ProofKit
import Derived.LaidMore
import Derived.OpenShut
import Derived.Stop.Joined
import Derived.Stop.LaidErr
import Derived.Lib.SmallJoins
import Derived.Test.YtckafpmhhoeodaaDoorRows
import Derived.Test.YtckafpmhhoeodaaDoorSGood
import Derived.Test.YtckafpmhhoeodaaDoorSRecs
import Derived.Test.YtckafpmhhoeodaaDoorDRec
import Derived.Test.YtckafpmhhoeodaaDoorToLog
import Derived.Deep.RegionWith
import Derived.Test.YtckafpmhhoeodaaDoorHFns
import Derived.Deep.RegionLaw
import Derived.Deep.AppendLies
import Derived.Deep.RegionHeld

namespace Go.Proofs.YtckafpmhhoeodaaDoor
open Go.ChangeShapes Go.WideShapes Go.ChangeAt Go.WideMaps Go.WideElems Go.RowKit

theorem own : ownKnob Tryd.prog.godebug = none := by kernel_rfl
theorem laidOut : laidOutB Tryd.prog = true := by kernel_rfl
theorem gErr : Tryd.prog.globalNamed "loop.example/concierge/impl.errNoRec" = some 0 := by kernel_rfl
theorem gErrType : (Tryd.prog.globals[0]?).map (·.type) = some 96 := by kernel_rfl
theorem cellsErrS : Tryd.prog.cellsOf 157 = 1 := by kernel_rfl
theorem cellsString : Tryd.prog.cellsOf 9 = 1 := by kernel_rfl
theorem cellsInt : Tryd.prog.cellsOf 3 = 1 := by kernel_rfl
theorem star : "*" ++ "errors.errorString" = "*errors.errorString" := by decide
theorem rowErr (u : TypeId) (h : Tryd.prog.typeName? 3 u = some "*errors.errorString") : u = 130 :=
  typeName_ptr_named (nm := "errors.errorString") (by rw [star]; kernel_rfl) (by kernel_rfl) (by decide) u (by rw [star]; exact h)

/-- The list that every row of this seat bears. -/
def laidErr : List (String × DataW Unit) := [("loop.example/concierge/impl.errNoRec", Rows.laid_loop_example_concierge_impl_errNoRec)]

theorem door_met (os : Os) (args : Array Value) : laidMetH Tryd.prog laidErr ((World.doorLaid Tryd.prog 28 os).forCall (fun _ _ => 0) ⟨#[], args, []⟩).memory :=
  laidMetH_of_parts3 (fuel := 8) (laidMet_of_run' 8 (by kernel_rfl) (by kernel_rfl)) (by kernel_rfl) (by kernel_rfl)

/-- What the list gives: the variable holds a pointer to an errors.errorString. -/
theorem of_laid {W : World} (h : laidMetH Tryd.prog laidErr W) : ∃ a, ErrAt W a ∧ W.var? Tryd.prog "loop.example/concierge/impl.errNoRec" = some #[.iface 130 (.pointer (some a))] := by
  rw [MakeChecks.laidMetH_plain _ _ _ (by kernel_rfl)] at h
  obtain ⟨a, s, hv, hc, _, _⟩ := laid_sentinel (r := []) h gErr gErrType Tryd.underlying96 rowErr Tryd.underlying130 Tryd.underlying157 rfl rfl Tryd.underlying9 cellsErrS cellsString
  refine ⟨a, ?_, hv⟩
  unfold ErrAt
  simpa using World.var?_cell gErr hv 0

end Go.Proofs.YtckafpmhhoeodaaDoor

namespace Go.Proofs.YtckafpmhhoeodaaDoor
open Go.ChangeShapes Go.WideShapes Go.ChangeAt Go.WideMaps Go.WideElems Go.RowKit Go.Joins

theorem cellsByte : Tryd.prog.cellsOf 5 = 1 := by kernel_rfl

theorem u8_bd {z : Int} (h : (Lit.int .u8 z).wf = true) : 0 ≤ z ∧ z ≤ 255 := by
  simp only [Lit.wf, Bool.and_eq_true, decide_eq_true_eq] at h
  have h0 : IntKind.min .u8 = 0 := by decide
  have h1 : IntKind.max .u8 = 255 := by decide
  omega

section
variable {H : Type} {enc : TypeId × Value → H} {W : World}

set_option maxRecDepth 100000 in
/-- A code that came in. -/
theorem open_code {base : Nat} {v : Value} {d : DataW H} {p : List MemPlace} (hval : Value.okWide Tryd.prog W .any base 22 v) (h : DataW.Trod enc Tryd.prog W 0 (fun _ => true) true 22 v d p) :
    ∃ n, CodeAt W v n ∧ (n : Int) ≤ 9223372036854775807 := by
  obtain ⟨ao, n, cap, rfl⟩ := okWide_slice Tryd.underlying22 hval
  obtain ⟨fuel, hf⟩ := h
  have hf' : DataW.trod enc Tryd.prog W 0 (fun _ => true) true fuel 22 [.slice ao n cap] = some (d, p) := hf
  rcases open_ints Tryd.underlying22 Tryd.underlying5 cellsByte hf' with ⟨hcs, hx⟩ | ⟨a, len, cap', zs, hcs, _, hl, hm, hz, hx, hcell, hwz⟩
  · simp at hcs
    obtain ⟨rfl, rfl, rfl⟩ := hcs
    exact ⟨0, ⟨none, 0, rfl, Nat.le_refl _, fun h => absurd rfl h⟩, by simp⟩
  · simp at hcs
    obtain ⟨rfl, rfl, rfl⟩ := hcs
    simp only [if_pos] at hz
    refine ⟨n, ⟨some a, cap, rfl, hl, fun hn => ?_⟩, by unfold maxLen at hm; omega⟩
    obtain ⟨b, off, rfl, hc⟩ := ints_at hcell (by omega)
    refine ⟨b, off, rfl, fun k hk => ⟨zs.getD k 0, hc k (by omega), ?_⟩⟩
    have hkz : k < zs.length := by omega
    have hmem : zs.getD k 0 ∈ zs := by simp [List.getD_eq_getElem?_getD, hkz]
    exact u8_bd (hwz _ hmem)

end
end Go.Proofs.YtckafpmhhoeodaaDoor

namespace Go.Proofs.YtckafpmhhoeodaaDoor
open Go.RowKit

namespace Pl
theorem sOk_more {room : Int} {hs : List H} (h : sOk room hs = true) (hr : room ≤ 8) : sOk (room + 1) hs = true := by
  obtain ⟨h1, h2, h3, h4⟩ := sOk_parts h
  have h5 := inB_true h2
  rw [sOk_mk h1 (inB_mk (by omega) (by omega)) h3]
  unfold free at *
  simp; omega
theorem free_more (room : Int) (hs : List H) : free (room + 1) hs = free room hs + 1 := by unfold free; omega
theorem next_more {h x : H} {k m F : Int} (e : next h k m F = some x) : next h k m (F + 1) = some x := by
  unfold next at *
  by_cases k1 : k = 1
  · simp only [k1, if_true] at *
    by_cases c : h.2 = 0 ∧ m ≤ F
    · rw [if_pos c] at e; rw [if_pos ⟨c.1, by omega⟩]; exact e
    · rw [if_neg c] at e; cases e
  · simp only [k1, if_false] at *; exact e
theorem behind_more {room : Int} {hs : List H} {k t : Int} {zs : List Int} {x : H} (hr : room ≤ 8) (e : behind room hs k t zs = some x) : behind (room + 1) hs k t zs = some x := by
  unfold behind at *
  by_cases c : sOk room hs = true ∧ recOk k t zs = true
  · rw [if_pos c] at e
    rw [if_pos ⟨sOk_more c.1 hr, c.2⟩, free_more]; exact next_more e
  · rw [if_neg c] at e; cases e
theorem sDo_more {room : Int} {hs hs' : List H} {k t : Int} {zs : List Int} (hr : room ≤ 8) (e : sDo room hs k t zs = some hs') : sDo (room + 1) hs k t zs = some hs' := by
  unfold sDo at *
  cases b : behind room hs k t zs with
  | none => rw [b] at e; cases e
  | some x => rw [b] at e; rw [behind_more hr b]; exact e
theorem sRun_more {room : Int} (hr : room ≤ 8) : ∀ (rs : List (Int × Int × List Int)) {hs hs' : List H}, sRun room rs hs = some hs' → sRun (room + 1) rs hs = some hs'
  | [], _, _, h => h
  | r :: t, hs, hs', h => by
    simp only [sRun] at h ⊢
    cases e : sDo room hs r.1 r.2.1 r.2.2 with
    | none => rw [e] at h; cases h
    | some h1 => rw [e] at h; rw [sDo_more hr e]; exact sRun_more hr t h
theorem sOf_more {room : Int} {rs : List (Int × Int × List Int)} {hs : List H} (hr : room ≤ 8) (h : sOf room rs = some hs) : sOf (room + 1) rs = some hs := by
  unfold sOf at *
  by_cases c : inB room 0 9 = true
  · rw [if_pos c] at h
    have := inB_true c
    rw [if_pos (inB_mk (by omega) (by omega))]; exact sRun_more hr rs h
  · rw [if_neg c] at h; cases h
end Pl

/-- Records that a draw has made, and the reader. -/
structure RcS (w W : World) (b q : Nat) (o : Value) (ps : List (R × Value)) : Prop where
  row : W.ownsRow w.heap.size 73 3 o ps.length (flat ps)
  all : ∀ p ∈ ps, Good W w.heap.size p
  rd : Rd W b q
  mid : Mid b (b + 1) w W
  low : b < w.heap.size
theorem RcS.step {w W W' : World} {b q q' : Nat} {o : Value} {ps : List (R × Value)} (h : RcS w W b q o ps) (hb : Mid b (b + 1) W W') (hr : Rd W' b q') : RcS w W' b q' o ps :=
  ⟨ownsRow_mid h.row hb (fun k hk => Or.inr (by have := (rowB_at h.row k hk).1; have := h.low; omega)), fun p hp => (h.all p hp).step h.rd hb, hr, h.mid.trans hb, h.low⟩
theorem RcS.later {w W W' : World} {b q : Nat} {o : Value} {ps : List (R × Value)} (h : RcS w W b q o ps) (hb : Below W.heap.size W W') : RcS w W' b q o ps :=
  h.step (Mid.of_below hb (Nat.le_refl _)) (h.rd.later hb (Nat.le_refl _))
theorem RcS.push {w W w4 : World} {b q : Nat} {o o' : Value} {ps : List (R × Value)} {r : R} {x : Value} (h : RcS w W b q o ps) (hg : Good W w.heap.size (r, x))
    (hown : w4.ownsRow w.heap.size 73 3 o' (ps.length + 1) (flat ps ++ [.int .i64 r.1, .int .i64 r.2.1, x])) (hgr : W.grownBy w4 o.ownBlock) : RcS w w4 b q o' (ps ++ [(r, x)]) := by
  have hl := h.low
  have hblk : ∀ k, k < W.heap.size → (∀ cs, W.heap[k]? ≠ some (.cells cs 73 (0, 0))) → w4.heap[k]? = W.heap[k]? := fun k hk hn => hgr.block k hk (fun e => by
    obtain ⟨cs, hh⟩ := (rowB_at h.row k e.symm).2
    exact hn cs hh)
  have hws : w.heap.size ≤ W.heap.size := h.mid.size
  have hlow : ∀ k, k < w.heap.size → w4.heap[k]? = W.heap[k]? := fun k hk => hgr.block k (by omega) (fun e => by have := (rowB_at h.row k e.symm).1; omega)
  have hrd : Rd w4 b q := by
    obtain ⟨y, n, hn, h1, h2⟩ := h.rd
    exact ⟨y, n, hn, by rw [hlow b hl]; exact h1, h2.mid (fun k hk => hlow k (by omega))⟩
  have hmid : Mid b (b + 1) w w4 := ⟨hgr.os.trans h.mid.os, hgr.tape.trans h.mid.tape, hgr.output.trans h.mid.output, Nat.le_trans h.mid.size hgr.size, fun k hk hh => (hlow k hk).trans (h.mid.block k hk hh)⟩
  refine ⟨by rw [flat_append, List.length_append]; exact hown, fun p hp => ?_, hrd, hmid, hl⟩
  have hgood : Good W w.heap.size p := by
    rcases List.mem_append.1 hp with hp | hp
    · exact h.all p hp
    · simp at hp; subst hp; exact hg
  exact hgood.keep fun g cs hh => hblk g (heap_lt hh) (fun cs' e => by rw [hh] at e; simp at e)
theorem RcS.out {w W : World} {b q : Nat} {o : Value} {ps : List (R × Value)} (h : RcS w W b q o ps) (hp : ps.length ≤ 60) : Recs W o (ps.map (·.1)) ∧ tot (ps.map (·.1)) ≤ 1000 :=
  ⟨recs_rows h.row h.all, tot_small ps hp (fun x hx => (h.all x hx).1)⟩

end Go.Proofs.YtckafpmhhoeodaaDoor

namespace Go.Proofs.YtckafpmhhoeodaaDoor
open Go.RowKit

set_option maxHeartbeats 1000000 in
theorem lnInts_any (v1 v2 : Value) (zs : List Int) (w : World) (h1 : Ints w v1 zs) (h2 : Ints w v2 zs) (hl : zs.length ≤ 1048576) :
    Calls Tryd.prog 74 #[v1, v2] w fun e w' => e = .returned (.bool true) ∧ Below w.heap.size w w' := by
  rcases h1 with ⟨rfl, ao, cap, rfl, -⟩ | ⟨b, off, cap, rfl, hz, hc⟩
  · obtain ⟨ao2, cap2, rfl⟩ := h2.shape
    clear h2
    go_enter Tryd.func74, Tryd.ntmps74
    go_wp2
    refine wp_loop_rounds 1 ?_
    rw [rounds_succ]
    go_wp2
    go_ret
    exact ⟨rfl, Below.refl _ _⟩
  rcases h2 with ⟨h, _⟩ | ⟨b2, off2, cap2, rfl, _, hc2⟩
  · exact absurd h hz
  have HC : Hid (∀ k, k < zs.length → w.cell? ⟨b, off + k, none⟩ = some (.int .i64 (zs.getD k 0))) := hc
  have HC2 : Hid (∀ k, k < zs.length → w.cell? ⟨b2, off2 + k, none⟩ = some (.int .i64 (zs.getD k 0))) := hc2
  have hzl : 0 < zs.length := List.length_pos_iff.2 hz
  have hbw : b < w.heap.size := World.block_lt_of_cell? _ _ (hc 0 hzl)
  have hbw2 : b2 < w.heap.size := World.block_lt_of_cell? _ _ (hc2 0 hzl)
  clear hc hc2 hz
  go_enter Tryd.func74, Tryd.ntmps74
  go_wp2
  go_loopw [5] (fun i wr => ∃ k : Nat, k ≤ zs.length ∧ i = .int .i64 k ∧ Below w.heap.size w wr) (fun i _ => zs.length - (intOf i).toNat)
  case atStart => exact ⟨0, Nat.zero_le _, rfl, Below.refl _ _⟩
  case round =>
    obtain ⟨k, hk, rfl, hbe⟩ := hrel
    by_cases hlt : k < zs.length
    · obtain ⟨z, HZ⟩ : ∃ z, Hid (z = zs.getD k 0) := ⟨_, rfl⟩
      have hck : wr.cell? ⟨b, off + k, none⟩ = some (.int .i64 z) := by rw [HZ.out, hbe.cell (p := ⟨b, off + k, none⟩) hbw]; exact HC.out k hlt
      have hck2 : wr.cell? ⟨b2, off2 + k, none⟩ = some (.int .i64 z) := by rw [HZ.out, hbe.cell (p := ⟨b2, off2 + k, none⟩) hbw2]; exact HC2.out k hlt
      have hli : (k : Int) < (zs.length : Int) := by omega
      have HB : Hid (Below w.heap.size w wr) := hbe
      clear hbe
      go_wp2
      go_quiet (fail)
      go_wp2
      go_roundw
      case rel => exact ⟨k + 1, by omega, by go_num, below_drewN HB.out _⟩
      case measure => simp [intOf]; omega
    · go_wp2
      go_ret
      exact ⟨rfl, hbe⟩

set_option maxHeartbeats 1000000 in
theorem lnRec_any (k t : Int) (v1 v2 : Value) (zs : List Int) (w : World) (h1 : Ints w v1 zs) (h2 : Ints w v2 zs) (hl : zs.length ≤ 1048576) :
    Calls Tryd.prog 65 #[.agg #[.int .i64 k, .int .i64 t, v1], .agg #[.int .i64 k, .int .i64 t, v2]] w fun e w' => e = .returned (.bool true) ∧ Below w.heap.size w w' := by
  have H1 : Hid (∀ o1 o2, Ints ((w.alloc o1).alloc o2) v1 zs) := fun o1 o2 => h1.later (below2 w o1 o2) (Nat.le_refl _)
  have H2 : Hid (∀ o1 o2, Ints ((w.alloc o1).alloc o2) v2 zs) := fun o1 o2 => h2.later (below2 w o1 o2) (Nat.le_refl _)
  clear h1 h2
  go_enter Tryd.func65, Tryd.ntmps65
  go_wp2_with (go_at_call 74; refine (lnInts_any _ _ zs _ (H1.out _ _) (H2.out _ _) hl).mono ?_; rintro e w1 ⟨rfl, hb⟩)
  go_ret
  refine ⟨rfl, (below2 w _ _).trans (Below.mono (by assumption) ?_)⟩
  simp; omega

set_option maxHeartbeats 1000000 in
theorem lnRecs_any (v1 v2 : Value) (rs : List R) (w : World) (h1 : Recs w v1 rs) (h2 : Recs w v2 rs) (hl : tot rs ≤ 1048576) :
    Calls Tryd.prog 43 #[v1, v2] w fun e w' => e = .returned (.bool true) ∧ Below w.heap.size w w' := by
  have hlen := tot_len rs
  have HM : Hid (∀ r ∈ rs, r.2.2.length ≤ 1048576) := fun r hr => Nat.le_trans (tot_mem rs r hr) hl
  rcases h1 with ⟨rfl, ao, cap, rfl⟩ | ⟨b, off, cap, rfl, hz, hc⟩
  · obtain ⟨ao2, cap2, rfl⟩ := h2.shape
    clear h2
    go_enter Tryd.func43, Tryd.ntmps43
    go_wp2
    refine wp_loop_rounds 1 ?_
    rw [rounds_succ]
    go_wp2
    go_ret
    exact ⟨rfl, Below.refl _ _⟩
  rcases h2 with ⟨h, _⟩ | ⟨b2, off2, cap2, rfl, _, hc2⟩
  · exact absurd h hz
  have HC : Hid (∀ i r, rs[i]? = some r → ∃ u, RecCells w b (off + i * 3) r u) := hc
  have HC2 : Hid (∀ i r, rs[i]? = some r → ∃ u, RecCells w b2 (off2 + i * 3) r u) := hc2
  have hzl : 0 < rs.length := List.length_pos_iff.2 hz
  clear hc hc2 hz
  go_enter Tryd.func43, Tryd.ntmps43
  go_wp2
  go_loopw [5] (fun i wr => ∃ k : Nat, k ≤ rs.length ∧ i = .int .i64 k ∧ Below w.heap.size w wr) (fun i _ => rs.length - (intOf i).toNat)
  case atStart => exact ⟨0, Nat.zero_le _, rfl, Below.refl _ _⟩
  case round =>
    obtain ⟨k, hk, rfl, hbe⟩ := hrel
    by_cases hlt : k < rs.length
    · obtain ⟨r, hr⟩ : ∃ r, Hid (rs[k]? = some r) := ⟨rs[k], by show _ = _; simp [hlt]⟩
      have hrl : r.2.2.length ≤ 1048576 := HM.out r (List.mem_of_getElem? hr.out)
      obtain ⟨u, hu⟩ := HC.out k r hr.out
      obtain ⟨u', hu'⟩ := HC2.out k r hr.out
      obtain ⟨c0, c1, c2, hI⟩ := hu.later hbe (Nat.le_refl _)
      obtain ⟨d0, d1, d2, hJ⟩ := hu'.later hbe (Nat.le_refl _)
      have HI : Hid (Ints wr u r.2.2) := hI
      have HJ : Hid (Ints wr u' r.2.2) := hJ
      have hli : (k : Int) < (rs.length : Int) := by omega
      have HB : Hid (Below w.heap.size w wr) := hbe
      clear hbe hI hJ hu hu'
      go_wp2
      go_region_with (go_at_call 65; refine (lnRec_any _ _ _ _ r.2.2 _ ?_ ?_ hrl).mono ?_; exact HI.out.later (Below.refl _ _).drew (Nat.le_refl _); exact HJ.out.later (Below.refl _ _).drew (Nat.le_refl _); rintro e w2 ⟨rfl, hb2⟩; have HB2 := HB.out.drew.trans (hb2.mono HB.out.size); clear hb2)
      all_goals (try go_wp2)
      all_goals
        go_roundw
        case rel => exact ⟨k + 1, by omega, by go_num, HB2⟩
        case measure => simp [intOf]; omega
    · go_wp2
      go_ret
      exact ⟨rfl, hbe⟩

set_option maxHeartbeats 1000000 in
theorem lnLog_any (v1 v2 : Value) (rs : List R) (f : Int) (w : World) (h1 : Recs w v1 rs) (h2 : Recs w v2 rs) (hl : tot rs ≤ 1048576) :
    Calls Tryd.prog 14 #[.agg #[v1, .int .i64 f], .agg #[v2, .int .i64 f]] w fun e w' => e = .returned (.bool true) ∧ Below w.heap.size w w' := by
  have H1 : Hid (∀ o1 o2, Recs ((w.alloc o1).alloc o2) v1 rs) := fun o1 o2 => h1.later (below2 w o1 o2) (Nat.le_refl _)
  have H2 : Hid (∀ o1 o2, Recs ((w.alloc o1).alloc o2) v2 rs) := fun o1 o2 => h2.later (below2 w o1 o2) (Nat.le_refl _)
  obtain ⟨a1, p1, rfl⟩ := h1.shape
  obtain ⟨a2, p2, rfl⟩ := h2.shape
  clear h1 h2
  go_enter Tryd.func14, Tryd.ntmps14
  go_wp2_with fail
  refine (lnRecs_any _ _ rs _ (H1.out _ _) (H2.out _ _) hl).mono ?_
  rintro e w1 ⟨rfl, hb⟩
  obtain ⟨hc, _⟩ := bcell hb
  have HB : Hid (Below w.heap.size w w1) := (below2 w _ _).trans (hb.mono (by simp; omega))
  have hz : w.heap.size + 2 ≤ w1.heap.size := by have := hb.size; rw [size2] at this; exact this
  rw [size2] at hc
  clear hb
  go_wp2
  go_ret
  exact ⟨rfl, HB.out⟩

end Go.Proofs.YtckafpmhhoeodaaDoor

namespace Go.Proofs.YtckafpmhhoeodaaDoor
open Go.RowKit

theorem form_made {w : World} {lo cap : Nat} {ao : Option Addr} {rs : List R} (h : Made w lo (.slice ao rs.length cap) rs) : Form (.slice ao rs.length cap) rs.length := by
  rcases h.form with ⟨rfl, rfl, rfl⟩ | ⟨g, rfl, hc⟩
  · exact Or.inl ⟨rfl, rfl⟩
  · exact Or.inr ⟨g, cap, rfl, hc⟩

end Go.Proofs.YtckafpmhhoeodaaDoor

namespace Go.Proofs.YtckafpmhhoeodaaDoor
open Go.RowKit

/-- A store into a block of a house leaves the records, and the reader. -/
theorem RcS.setH {w W : World} {b q X i : Nat} {cs : Array Value} {o : Value} {ps : List (R × Value)} (h : RcS w W b q o ps) (hX : Blk W X cs 27) (hw : w.heap.size ≤ X) (x : Value) : RcS w (W.setCell ⟨X, i, none⟩ x) b q o ps := by
  have hl := h.low
  refine ⟨?_, ?_, h.rd.setApart (by omega) _, h.mid.setNew hw _, hl⟩
  · exact ownsRow_setCell_ne h.row (fun g hg => by obtain ⟨cs', hh⟩ := (rowB_at h.row g hg).2; exact ne_of_type hh hX (by decide)) _
  · exact fun p hp => (h.all p hp).keep fun g cs' hh => Below.heap_setCell _ _ _ _ (ne_of_type hh hX (by decide))
theorem Good.lower {W : World} {lo lo' : Nat} {p : R × Value} (h : Good W lo p) (hl : lo' ≤ lo) : Good W lo' p := by
  obtain ⟨h1, h2⟩ := h
  refine ⟨h1, ?_⟩
  rcases h2 with ⟨cap, h2⟩ | h2
  · exact Or.inl ⟨cap, h2.mono hl⟩
  · exact Or.inr h2
/-- While a house is drawn: the result's block, the house's block, its records, the reader. -/
structure HsS (w W : World) (b q S : Nat) (id : Int) (up : Bool) (room : Int) (o : Value) (f : Int) (ps : List (R × Value)) : Prop where
  rc : RcS w W b q o ps
  res : Blk W w.heap.size #[.int .i64 0, .bool false, .int .i64 0, .slice none 0 0, .int .i64 0] 27
  hos : Blk W S #[.int .i64 id, .bool up, .int .i64 room, o, .int .i64 f] 27
  lt : w.heap.size < S
section
variable {w W W' : World} {b q q' S : Nat} {id : Int} {up : Bool} {room : Int} {o : Value} {f : Int} {ps : List (R × Value)}
theorem HsS.step (h : HsS w W b q S id up room o f ps) (hb : Mid b (b + 1) W W') (hr : Rd W' b q') : HsS w W' b q' S id up room o f ps :=
  ⟨h.rc.step hb hr, h.res.mid hb (Or.inr (by have := h.rc.low; omega)), h.hos.mid hb (Or.inr (by have := h.rc.low; have := h.lt; omega)), h.lt⟩
theorem HsS.later (h : HsS w W b q S id up room o f ps) (hb : Below W.heap.size W W') : HsS w W' b q S id up room o f ps :=
  h.step (Mid.of_below hb (Nat.le_refl _)) (h.rc.rd.later hb (Nat.le_refl _))
theorem HsS.setId (h : HsS w W b q S id up room o f ps) (x : Int) : HsS w (W.setCell ⟨S, 0, none⟩ (.int .i64 x)) b q S x up room o f ps :=
  ⟨h.rc.setH h.hos (Nat.le_of_lt h.lt) _, h.res.other (by have := h.lt; simp; omega) _, h.hos.set_ 0 _, h.lt⟩
theorem HsS.setRoom (h : HsS w W b q S id up room o f ps) (x : Int) : HsS w (W.setCell ⟨S, 2, none⟩ (.int .i64 x)) b q S id up x o f ps :=
  ⟨h.rc.setH h.hos (Nat.le_of_lt h.lt) _, h.res.other (by have := h.lt; simp; omega) _, h.hos.set_ 2 _, h.lt⟩
theorem HsS.setF (h : HsS w W b q S id up room o f ps) (x : Int) : HsS w (W.setCell ⟨S, 4, none⟩ (.int .i64 x)) b q S id up room o x ps :=
  ⟨h.rc.setH h.hos (Nat.le_of_lt h.lt) _, h.res.other (by have := h.lt; simp; omega) _, h.hos.set_ 4 _, h.lt⟩
theorem HsS.cells (h : HsS w W b q S id up room o f ps) :
    (W.cell? ⟨S, 0, none⟩ = some (.int .i64 id) ∧ W.cell? ⟨S, 1, none⟩ = some (.bool up) ∧ W.cell? ⟨S, 2, none⟩ = some (.int .i64 room) ∧ W.cell? ⟨S, 3, none⟩ = some o ∧ W.cell? ⟨S, 4, none⟩ = some (.int .i64 f)) ∧
    (W.frozen? ⟨S, 0, none⟩ = false ∧ W.frozen? ⟨S, 1, none⟩ = false ∧ W.frozen? ⟨S, 2, none⟩ = false ∧ W.frozen? ⟨S, 3, none⟩ = false ∧ W.frozen? ⟨S, 4, none⟩ = false) := ⟨h.hos.cells5, h.hos.free5⟩
end
/-- One more record is put behind the others, and the house has them. -/
theorem HsS.pushed {w W w4 : World} {b q S : Nat} {id : Int} {up : Bool} {room : Int} {o o' : Value} {f : Int} {ps : List (R × Value)} {r : R} {x : Value} (h : HsS w W b q S id up room o f ps) (hg : Good W w.heap.size (r, x))
    (hown : w4.ownsRow w.heap.size 73 3 o' (ps.length + 1) (flat ps ++ [.int .i64 r.1, .int .i64 r.2.1, x])) (hgr : W.grownBy w4 o.ownBlock) :
    Hid (HsS w (w4.setCell ⟨S, 3, none⟩ o') b q S id up room o' f (ps ++ [(r, x)])) ∧ (Blk w4 S #[.int .i64 id, .bool up, .int .i64 room, o, .int .i64 f] 27 ∧ Blk w4 w.heap.size #[.int .i64 0, .bool false, .int .i64 0, .slice none 0 0, .int .i64 0] 27) := by
  have hb : ∀ {k : Nat} {cs : Array Value}, Blk W k cs 27 → Blk w4 k cs 27 := fun {k cs} hk => by
    unfold Blk at hk ⊢
    rw [hgr.block k (heap_lt hk) (fun e => by
      obtain ⟨cs', hh⟩ := (rowB_at h.rc.row k e.symm).2
      rw [hk] at hh; simp at hh)]
    exact hk
  have hH := hb h.hos
  have hR := hb h.res
  exact ⟨⟨(h.rc.push hg hown hgr).setH hH (Nat.le_of_lt h.lt) _, hR.other (by have := h.lt; simp; omega) _, hH.set_ 3 _, h.lt⟩, hH, hR⟩
/-- What comes out of the draw: a house whose records lie in memory of the draw's own. -/
def HouGot (w w' : World) (e : Ending) (b p : Nat) : Prop :=
  ∃ (id : Int) (up : Bool) (room : Int) (o : Value) (f : Int) (ps : List (R × Value)) (q : Nat), e = .returned (houseV id up room o f) ∧ ps.length ≤ 14 ∧ q ≤ p + 90 ∧ RcS w w' b q o ps
theorem HsS.done {w W : World} {b q S p : Nat} {id : Int} {up : Bool} {room : Int} {o : Value} {f : Int} {ps : List (R × Value)} (h : HsS w W b q S id up room o f ps) (hp : ps.length ≤ 14) (hq : q ≤ p + 90) (x0 x1 x2 x3 x4 : Value) :
    HouGot w (((((W.setCell ⟨w.heap.size, 0, none⟩ x0).setCell ⟨w.heap.size, 1, none⟩ x1).setCell ⟨w.heap.size, 2, none⟩ x2).setCell ⟨w.heap.size, 3, none⟩ x3).setCell ⟨w.heap.size, 4, none⟩ x4) (.returned (houseV id up room o f)) b p := by
  have e0 := h.res.set_ 0 x0
  have e1 := e0.set_ 1 x1
  have e2 := e1.set_ 2 x2
  have e3 := e2.set_ 3 x3
  exact ⟨id, up, room, o, f, ps, q, rfl, hp, hq, ((((h.rc.setH h.res (Nat.le_refl _) _).setH e0 (Nat.le_refl _) _).setH e1 (Nat.le_refl _) _).setH e2 (Nat.le_refl _) _).setH e3 (Nat.le_refl _) _⟩

set_option maxRecDepth 100000 in
set_option maxHeartbeats 8000000 in
theorem house_draw (b p : Nat) (w : World) (h : Rd w b p) (hp : p ≤ 600000) :
    Calls Tryd.prog 35 #[.pointer (some ⟨b, 0, none⟩)] w fun e w' => HouGot w w' e b p := by
  obtain ⟨i0, hi, hz0, hz1, hz2⟩ := info_parts infoRec
  have hblt := h.lt
  obtain ⟨w0, hw0⟩ : ∃ W, Hid (W = w.alloc (.cells #[.int .i64 0, .bool false, .int .i64 0, .slice none 0 0, .int .i64 0] 27)) := ⟨_, rfl⟩
  have R0 : Hid (Rd w0 b p) := by show Rd _ _ _; rw [hw0.out]; exact h.alloc _
  have M0 : Hid (Mid b (b + 1) w w0) := by show Mid _ _ _ _; rw [hw0.out]; exact (Mid.refl _ _ _).alloc _
  have E0 : Hid (Blk w0 w.heap.size #[.int .i64 0, .bool false, .int .i64 0, .slice none 0 0, .int .i64 0] 27) := by show Blk _ _ _ _; rw [hw0.out]; exact Blk.new _ _ _
  clear h
  go_enter Tryd.func35, Tryd.ntmps35
  go_wp2_with fail
  rw [← hw0.out]
  refine (recs_draw b p _ R0.out (by omega)).mono ?_
  rintro e w1 ⟨room, o, ps, hs, q, rfl, lr, ur, hps, hrow, hall, hrun, hq, r1, m1⟩
  have hzz : w.heap.size < w0.heap.size := E0.out.lt
  have C1 : Hid (RcS w w1 b q o ps) := ⟨ownsRow_base hrow (by omega), fun x hx => (hall x hx).lower (by omega), r1, M0.out.trans m1, hblt⟩
  have E1 := hide_it (E0.out.mid m1 (Or.inr (by omega)))
  obtain ⟨ao, co, hos⟩ := row_shape hrow
  subst hos
  clear hrow hall hrun r1 m1 R0 M0
  go_wp2_with fail
  refine (pick_any b q 3 _ C1.out.rd (by omega) (by omega) (by omega)).mono ?_
  rintro e w2 ⟨x1, rfl, lx1, ux1, r2, m2⟩
  have C2 := hide_it (C1.out.step m2 r2)
  have E2 := hide_it (E1.out.mid m2 (Or.inr (by omega)))
  clear r2 m2 C1 E1
  go_wp2_with fail
  refine (pick_any b (q + 1) 6 _ C2.out.rd (by omega) (by omega) (by omega)).mono ?_
  rintro e w3 ⟨x2, rfl, lx2, ux2, r3, m3⟩
  have C3 := hide_it (C2.out.step m3 r3)
  have E3 := hide_it (E2.out.mid m3 (Or.inr (by omega)))
  clear r3 m3 C2 E2
  obtain ⟨S, hS⟩ : ∃ S, Hid (S = w3.heap.size) := ⟨_, rfl⟩
  obtain ⟨w4, hw4⟩ : ∃ W, Hid (W = w3.alloc (.cells #[.int .i64 (1 + x1), .bool (decide (0 < x2)), .int .i64 room, .slice ao ps.length co, .int .i64 ps.length] 27)) := ⟨_, rfl⟩
  have H4 : Hid (HsS w w4 b (q + 2) S (1 + x1) (decide (0 < x2)) room (.slice ao ps.length co) ps.length ps) := by
    show HsS _ _ _ _ _ _ _ _ _ _ _
    rw [hw4.out, hS.out]
    exact ⟨C3.out.later (alloc_below _ _), E3.out.alloc _, Blk.new _ _ _, E3.out.lt⟩
  clear C3 E3
  go_wp2_with fail
  rw [← hS.out, ← hw4.out]
  -- behind the house as it was made
  refine (pick_any b (q + 2) 2 _ H4.out.rc.rd (by omega) (by omega) (by omega)).mono ?_
  rintro e w5 ⟨y, rfl, ly, uy, r5, m5⟩
  have H5 := hide_it (H4.out.step m5 r5)
  clear r5 m5 H4
  by_cases hy : y = 0
  · subst hy
    go_wp2_with fail
    refine (pick_any b (q + 3) (ps.length + 1) _ H5.out.rc.rd (by omega) (by omega) (by omega)).mono ?_
    rintro e w6 ⟨z6, rfl, lz6, uz6, r6, m6⟩
    have H6 := hide_it (H5.out.step m6 r6)
    clear r6 m6
    obtain ⟨⟨c0, c1, c2, c3, c4⟩, ⟨f0, f1, f2, f3, f4⟩⟩ := H6.out.cells
    obtain ⟨wF, hwF⟩ : ∃ W, Hid (W = w6.setCell ⟨S, 4, none⟩ (.int .i64 z6)) := ⟨_, rfl⟩
    have HF : Hid (HsS w wF b (q + 4) S (1 + x1) (decide (0 < x2)) room (.slice ao ps.length co) z6 ps) := by
      show HsS _ _ _ _ _ _ _ _ _ _ _
      rw [hwF.out]; exact H6.out.setF z6
    go_wp2_with fail
    rw [← hwF.out]
    clear c0 c1 c2 c3 c4 f0 f1 f2 f3 f4
    refine (pick_any b (q + 4) 20 _ HF.out.rc.rd (by omega) (by omega) (by omega)).mono ?_
    rintro e w7 ⟨y2, rfl, ly2, uy2, r7, m7⟩
    have H7 := hide_it (HF.out.step m7 r7)
    clear r7 m7
    by_cases hy0 : y2 = 0
    · subst hy0
      have H8 := hide_it (H7.out.later (alloc_below _ (.cells #[.int .i64 0, .int .i64 4] 3)))
      have N8 := hide_it (Blk.new w7 #[.int .i64 0, .int .i64 4] 3)
      have hb7 : b < w7.heap.size := H7.out.rc.rd.lt
      go_wp2_with fail
      refine (pick_any b (q + 4 + 1) 2 _ H8.out.rc.rd (by omega) (by omega) (by omega)).mono ?_
      rintro e w9 ⟨z, rfl, lz, uz, r9, m9⟩
      have H9 := hide_it (H8.out.step m9 r9)
      have N9 := hide_it (N8.out.mid m9 (Or.inr (by omega)))
      clear r9 m9 H8 N8
      obtain ⟨n0, n1⟩ := N9.out.cells2
      obtain ⟨⟨c0, c1, c2, c3, c4⟩, ⟨f0, f1, f2, f3, f4⟩⟩ := H9.out.cells
      obtain ⟨d0, d1, d2, d3, d4⟩ := H9.out.res.cells5
      obtain ⟨g0, g1, g2, g3, g4⟩ := H9.out.res.free5
      have hne : w.heap.size ≠ S := by have := H9.out.lt; omega
      have hne2 : S ≠ w.heap.size := by have := H9.out.lt; omega
      have hz2 : z = 0 ∨ z = 1 := by omega
      rcases hz2 with rfl | rfl
      · go_wp2
        refine bodyPost_ret (v := houseV 0 (decide (0 < x2)) room (.slice ao ps.length co) z6) (by simp [results, Tryd.results35, go_sem, *]) rfl ?_
        exact (H9.out.setId 0).done (by omega) (by omega) _ _ _ _ _
      · go_wp2
        refine bodyPost_ret (v := houseV 4 (decide (0 < x2)) room (.slice ao ps.length co) z6) (by simp [results, Tryd.results35, go_sem, *]) rfl ?_
        exact (H9.out.setId 4).done (by omega) (by omega) _ _ _ _ _
    by_cases hy1 : y2 = 1
    · subst hy1
      have HD7 := hide_it (H7.out.later (Below.refl _ _).drew)
      obtain ⟨⟨c0, c1, c2, c3, c4⟩, ⟨f0, f1, f2, f3, f4⟩⟩ := H7.out.cells
      go_wp2_with fail
      go_region_law (first
        | (refine step_append_lies _ rfl _ _ 23 rfl w.heap.size 73 i0 (.agg #[.int .i64 0, .int .i64 0, .slice none 0 0]) 3 40 Tryd.underlying23 hi hz0 hz1 hz2 rfl (by decide) (.slice ao ps.length co) ps.length (flat ps) rfl (by exact (ROW8.out _)) ⟨w8.heap.size, 0, none⟩ 1 1 [.int .i64 k, .int .i64 t, .slice (some ⟨g, off, none⟩) zs.length cap8] rfl rfl (by exact news3 _ _ _ _ _) (by exact one3 _ _ _) (by decide) (by unfold maxLen; omega) (by omega) (by simp; omega) _ rfl ?_; intro g9 cap9 w9 hown9 hgrow9 _ _; have P9 := HsS.pushed (r := (k, t, zs)) (H8.out.later (alloc_below _ _)) (GD8.out _) hown9 hgrow9; have PS := hide_it P9.1.out; obtain ⟨j0, j1, j2, j3, j4⟩ := P9.2.1.cells5; obtain ⟨jf0, jf1, jf2, jf3, jf4⟩ := P9.2.1.free5; obtain ⟨d0, d1, d2, d3, d4⟩ := P9.2.2.cells5; obtain ⟨g0, g1, g2, g3, g4⟩ := P9.2.2.free5; have hne : w.heap.size ≠ S := (by have := H8.out.lt; omega); have hne2 : S ≠ w.heap.size := (by have := H8.out.lt; omega); clear P9 hown9 hgrow9)
        | (go_simp; go_at_call 59; refine (rec_draw b ((q + 4) + 1) _ HD7.out.rc.rd (by omega)).mono ?_; rintro e w8 ⟨k, t, u, zs, q8, cap8, rfl, hz, hF, hqa, hqb, r8, m8⟩; have H8 := hide_it (HD7.out.step m8 r8); have F8 := hide_it (hF.mono (lo' := w.heap.size) (by have := H7.out.rc.mid.size; simp; omega)); obtain ⟨g, off, hu⟩ : ∃ g off, u = .slice (some ⟨g, off, none⟩) zs.length cap8 := (by obtain ⟨g, off, cs, h, _⟩ := hF; exact ⟨g, off, h⟩); subst hu; have GD8 : Hid (∀ x, Good (w8.alloc x) w.heap.size ((k, t, zs), .slice (some ⟨g, off, none⟩) zs.length cap8)) := (fun x => ⟨hz, Or.inl ⟨_, F8.out.later (alloc_below _ x) (Nat.le_refl _)⟩⟩); have ROW8 : Hid (∀ x, (w8.alloc x).ownsRow w.heap.size 73 3 (.slice ao ps.length co) ps.length (flat ps)) := (fun x => (H8.out.rc.later (alloc_below _ x)).row); obtain ⟨⟨l0, l1, l2, l3, l4⟩, ⟨lf0, lf1, lf2, lf3, lf4⟩⟩ := H8.out.cells; have l3o := (fun x => cellAlloc l3 x); have hs8 : w.heap.size ≤ w8.heap.size := H8.out.rc.mid.size; clear hF r8 m8))
      all_goals
        go_wp2
        refine bodyPost_ret (v := houseV (1 + x1) (decide (0 < x2)) room (.slice (some ⟨g9, 0, none⟩) (ps.length + 1) cap9) z6) (by simp [results, Tryd.results35, go_sem, *]) rfl ?_
        exact PS.out.done (by simp; omega) (by omega) _ _ _ _ _
    by_cases hy2 : y2 = 2
    · subst hy2
      go_wp2_with fail
      refine (pick_any b (q + 4 + 1) 4 _ H7.out.rc.rd (by omega) (by omega) (by omega)).mono ?_
      rintro e w9 ⟨z, rfl, lz, uz, r9, m9⟩
      have H9 := hide_it (H7.out.step m9 r9)
      clear r9 m9
      obtain ⟨⟨c0, c1, c2, c3, c4⟩, ⟨f0, f1, f2, f3, f4⟩⟩ := H9.out.cells
      obtain ⟨d0, d1, d2, d3, d4⟩ := H9.out.res.cells5
      obtain ⟨g0, g1, g2, g3, g4⟩ := H9.out.res.free5
      have hne : w.heap.size ≠ S := by have := H9.out.lt; omega
      have hne2 : S ≠ w.heap.size := by have := H9.out.lt; omega
      go_wp2
      refine bodyPost_ret (v := houseV (1 + x1) (decide (0 < x2)) z (.slice ao ps.length co) z6) (by simp [results, Tryd.results35, go_sem, *]) rfl ?_
      exact (H9.out.setRoom z).done (by omega) (by omega) _ _ _ _ _
    have e0 : (y2 == 0) = false := by simpa using hy0
    have e1 : (y2 == 1) = false := by simpa using hy1
    have e2 : (y2 == 2) = false := by simpa using hy2
    obtain ⟨⟨c0, c1, c2, c3, c4⟩, ⟨f0, f1, f2, f3, f4⟩⟩ := H7.out.cells
    obtain ⟨d0, d1, d2, d3, d4⟩ := H7.out.res.cells5
    obtain ⟨g0, g1, g2, g3, g4⟩ := H7.out.res.free5
    have hne : w.heap.size ≠ S := by have := H7.out.lt; omega
    have hne2 : S ≠ w.heap.size := by have := H7.out.lt; omega
    go_wp2
    refine bodyPost_ret (v := houseV (1 + x1) (decide (0 < x2)) room (.slice ao ps.length co) z6) (by simp [results, Tryd.results35, go_sem, *]) rfl ?_
    exact H7.out.done (by omega) (by omega) _ _ _ _ _
  · have ey : (y == 0) = false := by simpa using hy
    go_wp2_with fail
    refine (pick_any b (q + 3) 20 _ H5.out.rc.rd (by omega) (by omega) (by omega)).mono ?_
    rintro e w7 ⟨y2, rfl, ly2, uy2, r7, m7⟩
    have H7 := hide_it (H5.out.step m7 r7)
    clear r7 m7
    by_cases hy0 : y2 = 0
    · subst hy0
      have H8 := hide_it (H7.out.later (alloc_below _ (.cells #[.int .i64 0, .int .i64 4] 3)))
      have N8 := hide_it (Blk.new w7 #[.int .i64 0, .int .i64 4] 3)
      have hb7 : b < w7.heap.size := H7.out.rc.rd.lt
      go_wp2_with fail
      refine (pick_any b (q + 3 + 1) 2 _ H8.out.rc.rd (by omega) (by omega) (by omega)).mono ?_
      rintro e w9 ⟨z, rfl, lz, uz, r9, m9⟩
      have H9 := hide_it (H8.out.step m9 r9)
      have N9 := hide_it (N8.out.mid m9 (Or.inr (by omega)))
      clear r9 m9 H8 N8
      obtain ⟨n0, n1⟩ := N9.out.cells2
      obtain ⟨⟨c0, c1, c2, c3, c4⟩, ⟨f0, f1, f2, f3, f4⟩⟩ := H9.out.cells
      obtain ⟨d0, d1, d2, d3, d4⟩ := H9.out.res.cells5
      obtain ⟨g0, g1, g2, g3, g4⟩ := H9.out.res.free5
      have hne : w.heap.size ≠ S := by have := H9.out.lt; omega
      have hne2 : S ≠ w.heap.size := by have := H9.out.lt; omega
      have hz2 : z = 0 ∨ z = 1 := by omega
      rcases hz2 with rfl | rfl
      · go_wp2
        refine bodyPost_ret (v := houseV 0 (decide (0 < x2)) room (.slice ao ps.length co) ps.length) (by simp [results, Tryd.results35, go_sem, *]) rfl ?_
        exact (H9.out.setId 0).done (by omega) (by omega) _ _ _ _ _
      · go_wp2
        refine bodyPost_ret (v := houseV 4 (decide (0 < x2)) room (.slice ao ps.length co) ps.length) (by simp [results, Tryd.results35, go_sem, *]) rfl ?_
        exact (H9.out.setId 4).done (by omega) (by omega) _ _ _ _ _
    by_cases hy1 : y2 = 1
    · subst hy1
      have HD7 := hide_it (H7.out.later (Below.refl _ _).drew)
      obtain ⟨⟨c0, c1, c2, c3, c4⟩, ⟨f0, f1, f2, f3, f4⟩⟩ := H7.out.cells
      go_wp2_with fail
      go_region_law (first
        | (refine step_append_lies _ rfl _ _ 23 rfl w.heap.size 73 i0 (.agg #[.int .i64 0, .int .i64 0, .slice none 0 0]) 3 40 Tryd.underlying23 hi hz0 hz1 hz2 rfl (by decide) (.slice ao ps.length co) ps.length (flat ps) rfl (by exact (ROW8.out _)) ⟨w8.heap.size, 0, none⟩ 1 1 [.int .i64 k, .int .i64 t, .slice (some ⟨g, off, none⟩) zs.length cap8] rfl rfl (by exact news3 _ _ _ _ _) (by exact one3 _ _ _) (by decide) (by unfold maxLen; omega) (by omega) (by simp; omega) _ rfl ?_; intro g9 cap9 w9 hown9 hgrow9 _ _; have P9 := HsS.pushed (r := (k, t, zs)) (H8.out.later (alloc_below _ _)) (GD8.out _) hown9 hgrow9; have PS := hide_it P9.1.out; obtain ⟨j0, j1, j2, j3, j4⟩ := P9.2.1.cells5; obtain ⟨jf0, jf1, jf2, jf3, jf4⟩ := P9.2.1.free5; obtain ⟨d0, d1, d2, d3, d4⟩ := P9.2.2.cells5; obtain ⟨g0, g1, g2, g3, g4⟩ := P9.2.2.free5; have hne : w.heap.size ≠ S := (by have := H8.out.lt; omega); have hne2 : S ≠ w.heap.size := (by have := H8.out.lt; omega); clear P9 hown9 hgrow9)
        | (go_simp; go_at_call 59; refine (rec_draw b ((q + 3) + 1) _ HD7.out.rc.rd (by omega)).mono ?_; rintro e w8 ⟨k, t, u, zs, q8, cap8, rfl, hz, hF, hqa, hqb, r8, m8⟩; have H8 := hide_it (HD7.out.step m8 r8); have F8 := hide_it (hF.mono (lo' := w.heap.size) (by have := H7.out.rc.mid.size; simp; omega)); obtain ⟨g, off, hu⟩ : ∃ g off, u = .slice (some ⟨g, off, none⟩) zs.length cap8 := (by obtain ⟨g, off, cs, h, _⟩ := hF; exact ⟨g, off, h⟩); subst hu; have GD8 : Hid (∀ x, Good (w8.alloc x) w.heap.size ((k, t, zs), .slice (some ⟨g, off, none⟩) zs.length cap8)) := (fun x => ⟨hz, Or.inl ⟨_, F8.out.later (alloc_below _ x) (Nat.le_refl _)⟩⟩); have ROW8 : Hid (∀ x, (w8.alloc x).ownsRow w.heap.size 73 3 (.slice ao ps.length co) ps.length (flat ps)) := (fun x => (H8.out.rc.later (alloc_below _ x)).row); obtain ⟨⟨l0, l1, l2, l3, l4⟩, ⟨lf0, lf1, lf2, lf3, lf4⟩⟩ := H8.out.cells; have l3o := (fun x => cellAlloc l3 x); have hs8 : w.heap.size ≤ w8.heap.size := H8.out.rc.mid.size; clear hF r8 m8))
      all_goals
        go_wp2
        refine bodyPost_ret (v := houseV (1 + x1) (decide (0 < x2)) room (.slice (some ⟨g9, 0, none⟩) (ps.length + 1) cap9) ps.length) (by simp [results, Tryd.results35, go_sem, *]) rfl ?_
        exact PS.out.done (by simp; omega) (by omega) _ _ _ _ _
    by_cases hy2 : y2 = 2
    · subst hy2
      go_wp2_with fail
      refine (pick_any b (q + 3 + 1) 4 _ H7.out.rc.rd (by omega) (by omega) (by omega)).mono ?_
      rintro e w9 ⟨z, rfl, lz, uz, r9, m9⟩
      have H9 := hide_it (H7.out.step m9 r9)
      clear r9 m9
      obtain ⟨⟨c0, c1, c2, c3, c4⟩, ⟨f0, f1, f2, f3, f4⟩⟩ := H9.out.cells
      obtain ⟨d0, d1, d2, d3, d4⟩ := H9.out.res.cells5
      obtain ⟨g0, g1, g2, g3, g4⟩ := H9.out.res.free5
      have hne : w.heap.size ≠ S := by have := H9.out.lt; omega
      have hne2 : S ≠ w.heap.size := by have := H9.out.lt; omega
      go_wp2
      refine bodyPost_ret (v := houseV (1 + x1) (decide (0 < x2)) z (.slice ao ps.length co) ps.length) (by simp [results, Tryd.results35, go_sem, *]) rfl ?_
      exact (H9.out.setRoom z).done (by omega) (by omega) _ _ _ _ _
    have e0 : (y2 == 0) = false := by simpa using hy0
    have e1 : (y2 == 1) = false := by simpa using hy1
    have e2 : (y2 == 2) = false := by simpa using hy2
    obtain ⟨⟨c0, c1, c2, c3, c4⟩, ⟨f0, f1, f2, f3, f4⟩⟩ := H7.out.cells
    obtain ⟨d0, d1, d2, d3, d4⟩ := H7.out.res.cells5
    obtain ⟨g0, g1, g2, g3, g4⟩ := H7.out.res.free5
    have hne : w.heap.size ≠ S := by have := H7.out.lt; omega
    have hne2 : S ≠ w.heap.size := by have := H7.out.lt; omega
    go_wp2
    refine bodyPost_ret (v := houseV (1 + x1) (decide (0 < x2)) room (.slice ao ps.length co) ps.length) (by simp [results, Tryd.results35, go_sem, *]) rfl ?_
    exact H7.out.done (by omega) (by omega) _ _ _ _ _

end Go.Proofs.YtckafpmhhoeodaaDoor

namespace Go.Proofs.YtckafpmhhoeodaaDoor
open Go.RowKit

/-- Records that a draw has made, and the block of a result below them. -/
structure RL (W : World) (base X : Nat) (o : Value) (ps : List (R × Value)) : Prop where
  row : W.ownsRow base 73 3 o ps.length (flat ps)
  all : ∀ p ∈ ps, Good W base p
  blk : ∃ cs, Blk W X cs 27
  low : X < base
theorem RL.set {W : World} {base X i : Nat} {o : Value} {ps : List (R × Value)} (h : RL W base X o ps) (x : Value) : RL (W.setCell ⟨X, i, none⟩ x) base X o ps := by
  obtain ⟨cs, hX⟩ := h.blk
  exact ⟨ownsRow_setCell_below h.row (by simpa using h.low) _, fun p hp => (h.all p hp).keep fun g cs' hh => Below.heap_setCell _ _ _ _ (ne_of_type hh hX (by decide)), ⟨_, hX.set_ i x⟩, h.low⟩

set_option maxHeartbeats 2000000 in
theorem lnHouse_any (id : Int) (up : Bool) (room : Int) (v1 v2 : Value) (rs : List R) (f : Int) (w : World) (h1 : Recs w v1 rs) (h2 : Recs w v2 rs) (hl : tot rs ≤ 1048576) :
    Calls Tryd.prog 11 #[houseV id up room v1 f, houseV id up room v2 f] w fun e w' => e = .returned (.bool true) ∧ Below w.heap.size w w' := by
  have HL : Hid (∀ o1 o2, Calls Tryd.prog 14 #[.agg #[v1, .int .i64 f], .agg #[v2, .int .i64 f]] ((w.alloc o1).alloc o2) fun e w' => e = .returned (.bool true) ∧ Below ((w.alloc o1).alloc o2).heap.size ((w.alloc o1).alloc o2) w') := fun o1 o2 =>
    lnLog_any v1 v2 rs f _ (h1.later (below2 w o1 o2) (Nat.le_refl _)) (h2.later (below2 w o1 o2) (Nat.le_refl _)) hl
  obtain ⟨a1, p1, rfl⟩ := h1.shape
  obtain ⟨a2, p2, rfl⟩ := h2.shape
  clear h1 h2
  cases up
  all_goals
    go_enter Tryd.func11, Tryd.ntmps11
    go_wp2_with fail
    refine (HL.out _ _).mono ?_
    rintro e w1 ⟨rfl, hb⟩
    have HB : Hid (Below w.heap.size w w1) := (below2 w _ _).trans (hb.mono (by simp; omega))
    clear hb
    go_wp2
    go_ret
    exact ⟨rfl, HB.out⟩

set_option maxHeartbeats 2000000 in
theorem drawHouseForce_any (v : Value) (n : Nat) (w : World) (hv : CodeAt w v n) (hn : n ≤ 1048576) :
    Calls Tryd.prog 9 #[v] w fun e w' => ∃ (id : Int) (up : Bool) (room : Int) (o : Value) (f : Int) (rs : List R), e = .returned (houseV id up room o f) ∧ tot rs ≤ 1000 ∧ Recs w' o rs ∧ Form o rs.length ∧ Below w.heap.size w w' := by
  have hv0 := hide_it (hv.later (alloc_below w (.cells #[.int .i64 0, .bool false, .int .i64 0, .slice none 0 0, .int .i64 0] 27)) (Nat.le_refl _))
  have HO := hide_it (open_any v n _ hv0.out hn)
  obtain ⟨ao, cap, rfl, _⟩ := hv
  obtain ⟨w0, hw0⟩ : ∃ W, Hid (W = w.alloc (.cells #[.int .i64 0, .bool false, .int .i64 0, .slice none 0 0, .int .i64 0] 27)) := ⟨_, rfl⟩
  have B0 : Hid (Below w.heap.size w w0) := by show Below _ _ _; rw [hw0.out]; exact alloc_below _ _
  have S0 : Hid (Blk w0 w.heap.size #[.int .i64 0, .bool false, .int .i64 0, .slice none 0 0, .int .i64 0] 27) := by show Blk _ _ _ _; rw [hw0.out]; exact Blk.new _ _ _
  have Z0 : Hid (w0.heap.size = w.heap.size + 1) := by show _ = _; rw [hw0.out]; simp
  rw [← hw0.out] at HO
  clear hv0
  go_enter Tryd.func9, Tryd.ntmps9
  go_wp2_with fail
  rw [← hw0.out]
  refine HO.out.mono ?_
  rintro e w1 ⟨rfl, hr1, hs1, hb1⟩
  have R1 := hide_it hr1
  have B1 := hide_it (B0.out.trans (hb1.mono B0.out.size))
  have S1 := hide_it (S0.out.after hb1)
  have Z1 : Hid (w1.heap.size = w.heap.size + 2) := by show _ = _; rw [hs1, Z0.out]
  clear hr1 hb1 hs1
  go_wp2_with fail
  refine (house_draw _ 0 _ R1.out (by omega)).mono ?_
  rintro e w2 ⟨id, up, room, o, f, ps, q, rfl, hps, hq, hrc⟩
  have B2 := hide_it (B1.out.trans (hrc.mid.below (B := w.heap.size) (by rw [Z0.out]; omega) B1.out.size))
  have S2 := hide_it (S1.out.mid hrc.mid (Or.inl (by rw [Z0.out]; omega)))
  have L2 : Hid (RL w2 w1.heap.size w.heap.size o ps) := ⟨hrc.row, hrc.all, ⟨_, S2.out⟩, by rw [Z1.out]; omega⟩
  have hlen : (ps.map (·.1)).length = ps.length := by simp
  obtain ⟨au, cu, rfl⟩ := row_shape hrc.row
  clear hrc
  obtain ⟨c0, c1, c2, c3, c4⟩ := S2.out.cells5
  obtain ⟨f0, f1, f2, f3, f4⟩ := S2.out.free5
  go_wp2
  refine bodyPost_ret (v := houseV id up room (.slice au ps.length cu) f) (by simp [results, Tryd.results9, go_sem, *]) rfl ?_
  have LF := ((((L2.out.set (i := 0) (.int .i64 id)).set (i := 1) (.bool up)).set (i := 2) (.int .i64 room)).set (i := 3) (.slice au ps.length cu)).set (i := 4) (.int .i64 f)
  refine ⟨id, up, room, _, f, ps.map (·.1), rfl, tot_small ps (by omega) (fun x hx => (LF.all x hx).1), recs_rows LF.row LF.all, ?_, ?_⟩
  · rw [hlen]; exact form_of_row LF.row
  · exact ((((B2.out.setCell (by simp) _).setCell (by simp) _).setCell (by simp) _).setCell (by simp) _).setCell (by simp) _

set_option maxHeartbeats 2000000 in
theorem drawHouseRise_any (v : Value) (n : Nat) (w : World) (hv : CodeAt w v n) (hn : n ≤ 1048576) :
    Calls Tryd.prog 16 #[v] w fun e w' => ∃ (id : Int) (up : Bool) (room : Int) (o : Value) (f : Int) (rs : List R), e = .returned (houseV id up room o f) ∧ tot rs ≤ 1000 ∧ Recs w' o rs ∧ Form o rs.length ∧ Below w.heap.size w w' := by
  have hv0 := hide_it (hv.later (alloc_below w (.cells #[.int .i64 0, .bool false, .int .i64 0, .slice none 0 0, .int .i64 0] 27)) (Nat.le_refl _))
  have HO := hide_it (open_any v n _ hv0.out hn)
  obtain ⟨ao, cap, rfl, _⟩ := hv
  obtain ⟨w0, hw0⟩ : ∃ W, Hid (W = w.alloc (.cells #[.int .i64 0, .bool false, .int .i64 0, .slice none 0 0, .int .i64 0] 27)) := ⟨_, rfl⟩
  have B0 : Hid (Below w.heap.size w w0) := by show Below _ _ _; rw [hw0.out]; exact alloc_below _ _
  have S0 : Hid (Blk w0 w.heap.size #[.int .i64 0, .bool false, .int .i64 0, .slice none 0 0, .int .i64 0] 27) := by show Blk _ _ _ _; rw [hw0.out]; exact Blk.new _ _ _
  have Z0 : Hid (w0.heap.size = w.heap.size + 1) := by show _ = _; rw [hw0.out]; simp
  rw [← hw0.out] at HO
  clear hv0
  go_enter Tryd.func16, Tryd.ntmps16
  go_wp2_with fail
  rw [← hw0.out]
  refine HO.out.mono ?_
  rintro e w1 ⟨rfl, hr1, hs1, hb1⟩
  have R1 := hide_it hr1
  have B1 := hide_it (B0.out.trans (hb1.mono B0.out.size))
  have S1 := hide_it (S0.out.after hb1)
  have Z1 : Hid (w1.heap.size = w.heap.size + 2) := by show _ = _; rw [hs1, Z0.out]
  clear hr1 hb1 hs1
  go_wp2_with fail
  refine (house_draw _ 0 _ R1.out (by omega)).mono ?_
  rintro e w2 ⟨id, up, room, o, f, ps, q, rfl, hps, hq, hrc⟩
  have B2 := hide_it (B1.out.trans (hrc.mid.below (B := w.heap.size) (by rw [Z0.out]; omega) B1.out.size))
  have S2 := hide_it (S1.out.mid hrc.mid (Or.inl (by rw [Z0.out]; omega)))
  have L2 : Hid (RL w2 w1.heap.size w.heap.size o ps) := ⟨hrc.row, hrc.all, ⟨_, S2.out⟩, by rw [Z1.out]; omega⟩
  have hlen : (ps.map (·.1)).length = ps.length := by simp
  obtain ⟨au, cu, rfl⟩ := row_shape hrc.row
  clear hrc
  obtain ⟨c0, c1, c2, c3, c4⟩ := S2.out.cells5
  obtain ⟨f0, f1, f2, f3, f4⟩ := S2.out.free5
  go_wp2
  refine bodyPost_ret (v := houseV id up room (.slice au ps.length cu) f) (by simp [results, Tryd.results16, go_sem, *]) rfl ?_
  have LF := ((((L2.out.set (i := 0) (.int .i64 id)).set (i := 1) (.bool up)).set (i := 2) (.int .i64 room)).set (i := 3) (.slice au ps.length cu)).set (i := 4) (.int .i64 f)
  refine ⟨id, up, room, _, f, ps.map (·.1), rfl, tot_small ps (by omega) (fun x hx => (LF.all x hx).1), recs_rows LF.row LF.all, ?_, ?_⟩
  · rw [hlen]; exact form_of_row LF.row
  · exact ((((B2.out.setCell (by simp) _).setCell (by simp) _).setCell (by simp) _).setCell (by simp) _).setCell (by simp) _

set_option maxHeartbeats 2000000 in
theorem drawHouseOk_any (v : Value) (n : Nat) (w : World) (hv : CodeAt w v n) (hn : n ≤ 1048576) :
    Calls Tryd.prog 30 #[v] w fun e w' => ∃ (id : Int) (up : Bool) (room : Int) (o : Value) (f : Int) (rs : List R), e = .returned (houseV id up room o f) ∧ tot rs ≤ 1000 ∧ Recs w' o rs ∧ Form o rs.length ∧ Below w.heap.size w w' := by
  have hv0 := hide_it (hv.later (alloc_below w (.cells #[.int .i64 0, .bool false, .int .i64 0, .slice none 0 0, .int .i64 0] 27)) (Nat.le_refl _))
  have HO := hide_it (open_any v n _ hv0.out hn)
  obtain ⟨ao, cap, rfl, _⟩ := hv
  obtain ⟨w0, hw0⟩ : ∃ W, Hid (W = w.alloc (.cells #[.int .i64 0, .bool false, .int .i64 0, .slice none 0 0, .int .i64 0] 27)) := ⟨_, rfl⟩
  have B0 : Hid (Below w.heap.size w w0) := by show Below _ _ _; rw [hw0.out]; exact alloc_below _ _
  have S0 : Hid (Blk w0 w.heap.size #[.int .i64 0, .bool false, .int .i64 0, .slice none 0 0, .int .i64 0] 27) := by show Blk _ _ _ _; rw [hw0.out]; exact Blk.new _ _ _
  have Z0 : Hid (w0.heap.size = w.heap.size + 1) := by show _ = _; rw [hw0.out]; simp
  rw [← hw0.out] at HO
  clear hv0
  go_enter Tryd.func30, Tryd.ntmps30
  go_wp2_with fail
  rw [← hw0.out]
  refine HO.out.mono ?_
  rintro e w1 ⟨rfl, hr1, hs1, hb1⟩
  have R1 := hide_it hr1
  have B1 := hide_it (B0.out.trans (hb1.mono B0.out.size))
  have S1 := hide_it (S0.out.after hb1)
  have Z1 : Hid (w1.heap.size = w.heap.size + 2) := by show _ = _; rw [hs1, Z0.out]
  clear hr1 hb1 hs1
  go_wp2_with fail
  refine (house_draw _ 0 _ R1.out (by omega)).mono ?_
  rintro e w2 ⟨id, up, room, o, f, ps, q, rfl, hps, hq, hrc⟩
  have B2 := hide_it (B1.out.trans (hrc.mid.below (B := w.heap.size) (by rw [Z0.out]; omega) B1.out.size))
  have S2 := hide_it (S1.out.mid hrc.mid (Or.inl (by rw [Z0.out]; omega)))
  have L2 : Hid (RL w2 w1.heap.size w.heap.size o ps) := ⟨hrc.row, hrc.all, ⟨_, S2.out⟩, by rw [Z1.out]; omega⟩
  have hlen : (ps.map (·.1)).length = ps.length := by simp
  obtain ⟨au, cu, rfl⟩ := row_shape hrc.row
  clear hrc
  obtain ⟨c0, c1, c2, c3, c4⟩ := S2.out.cells5
  obtain ⟨f0, f1, f2, f3, f4⟩ := S2.out.free5
  go_wp2
  refine bodyPost_ret (v := houseV id up room (.slice au ps.length cu) f) (by simp [results, Tryd.results30, go_sem, *]) rfl ?_
  have LF := ((((L2.out.set (i := 0) (.int .i64 id)).set (i := 1) (.bool up)).set (i := 2) (.int .i64 room)).set (i := 3) (.slice au ps.length cu)).set (i := 4) (.int .i64 f)
  refine ⟨id, up, room, _, f, ps.map (·.1), rfl, tot_small ps (by omega) (fun x hx => (LF.all x hx).1), recs_rows LF.row LF.all, ?_, ?_⟩
  · rw [hlen]; exact form_of_row LF.row
  · exact ((((B2.out.setCell (by simp) _).setCell (by simp) _).setCell (by simp) _).setCell (by simp) _).setCell (by simp) _

end Go.Proofs.YtckafpmhhoeodaaDoor

namespace Go.Proofs.YtckafpmhhoeodaaDoor
open Go.RowKit

theorem se_drew {w0 w1 : World} (h : Below w0.drew.heap.size w0.drew w1) : Below w0.heap.size w0 w1 := (Below.refl w0.heap.size w0).drew.trans h
set_option maxRecDepth 100000 in
set_option maxHeartbeats 8000000 in
theorem lawP42_small (vc : Value) (nc : Nat) (am : Option Addr) (nm cm : Nat) (a : Addr) (w : World) (hc : CodeAt w vc nc) (hcn : nc ≤ 1048576) (hmn : nm ≤ 1048576) (ha : ErrAt w a) :
    Calls Tryd.prog 4 #[vc, .slice am nm cm] w fun e w' => e = .returned (.bool true) ∧ Below w.heap.size w w' := by
  have HD := hide_it (drawHouseRise_any vc nc w hc hcn)
  have HA : Hid (∀ W, Below w.heap.size w W → ErrAt W a) := fun W hb => ha.later hb (Nat.le_refl _)
  obtain ⟨ac, cc, rfl, _⟩ := hc
  have hci : (nc : Int) ≤ 1048576 := by omega
  have hmi : (nm : Int) ≤ 1048576 := by omega
  clear hcn ha
  go_enter Tryd.func4, Tryd.ntmps4
  go_wp2_with fail
  refine HD.out.mono ?_
  rintro e w1 ⟨id, up, room, o, f, rs, rfl, hl9, hR, hfm, hb1⟩
  have hl : tot rs ≤ 1048576 := by omega
  have B1 := hide_it hb1
  have R1 := hide_it hR
  have FM := hide_it hfm
  obtain ⟨ao, co, rfl⟩ := hR.shape
  clear hb1 hR HD hfm
  obtain ⟨⟨ID, UP, ROOM, RS, F⟩, hO⟩ : ∃ o : Ho, Hid (hoRise id room rs f = o) := ⟨_, rfl⟩
  have hRl : tot RS ≤ 1048576 := by have := hoRise_tot id room rs f hl; rw [hO.out] at this; exact this
  obtain ⟨BB, hBB⟩ : ∃ b, Hid (hoOk id room rs f = b) := ⟨_, rfl⟩
  have HSP : Hid (∀ W, Below w1.heap.size w1 W → Calls Tryd.prog 18 #[houseV id up room (.slice ao rs.length co) f] W fun e w' => HoOut W w' e ID UP ROOM RS F) := fun W hb => by
    have := specHRise_any id up room _ rs f W (R1.out.later hb (Nat.le_refl _)) hl; rw [hO.out] at this; exact this
  have HIM : Hid (∀ W, Below w1.heap.size w1 W → Calls Tryd.prog 17 #[houseV id up room (.slice ao rs.length co) f] W fun e w' => HoOut W w' e ID UP ROOM RS F) := fun W hb => by
    have := implHRise_any id up room _ rs f a W (R1.out.later hb (Nat.le_refl _)) hl (HA.out _ (B1.out.trans (hb.mono B1.out.size))); rw [hO.out] at this; exact this
  have HOK : Hid (∀ W, Below w1.heap.size w1 W → Calls Tryd.prog 13 #[houseV id up room (.slice ao rs.length co) f] W fun e w' => e = .returned (.bool BB) ∧ Below W.heap.size W w') := fun W hb => by
    have := specHouseOk_any id up room _ rs f W (R1.out.later hb (Nat.le_refl _)) hl; rw [hBB.out] at this; exact this
  obtain ⟨w2, hw2⟩ : ∃ W, Hid (W = w1.alloc (.cells #[.int .i64 id, .bool up, .int .i64 room, .slice ao rs.length co, .int .i64 f] 27)) := ⟨_, rfl⟩
  have al2 : Hid (Below w1.heap.size w1 w2) := by show Below _ _ _; rw [hw2.out]; exact alloc_below _ _
  have L2 : Hid (Blk w2 w1.heap.size #[.int .i64 id, .bool up, .int .i64 room, .slice ao rs.length co, .int .i64 f] 27) := by show Blk _ _ _ _; rw [hw2.out]; exact Blk.new _ _ _
  go_wp2_with fail
  rw [← hw2.out]
  refine (HIM.out _ al2.out).mono ?_
  rintro e w3 ⟨a3, c3, rfl, hm3, hb3⟩
  have E3 := hide_it (al2.out.trans (hb3.mono al2.out.size))
  have L3 := hide_it (L2.out.after hb3)
  have M3 := hide_it hm3
  clear hm3 hb3
  obtain ⟨w4, hw4⟩ : ∃ W, Hid (W = w3.alloc (.cells #[.int .i64 ID, .bool UP, .int .i64 ROOM, .slice a3 RS.length c3, .int .i64 F] 27)) := ⟨_, rfl⟩
  have al4 : Hid (Below w3.heap.size w3 w4) := by show Below _ _ _; rw [hw4.out]; exact alloc_below _ _
  have E4 := hide_it (E3.out.trans (al4.out.mono E3.out.size))
  have L4 := hide_it (L3.out.after al4.out)
  have X4 : Hid (Blk w4 w3.heap.size #[.int .i64 ID, .bool UP, .int .i64 ROOM, .slice a3 RS.length c3, .int .i64 F] 27) := by show Blk _ _ _ _; rw [hw4.out]; exact Blk.new _ _ _
  have V4 := hide_it (M3.out.recs.later al4.out (Nat.le_refl _))
  have U4 := hide_it (R1.out.later E4.out (Nat.le_refl _))
  have B4 := hide_it (B1.out.trans (E4.out.mono B1.out.size))
  obtain ⟨l0, l1, l2, l3, l4⟩ := L4.out.cells5
  obtain ⟨x0, x1, x2, x3, x4⟩ := X4.out.cells5
  go_wp2_with fail
  rw [← hw4.out]
  go_cut [29] (fun b W => b = .bool (!BB) ∧ Hid (Below w4.heap.size w4 W))
  case first =>
    first | (go_region_held (fun w' => (w'.cell? ⟨w1.heap.size, 0, none⟩ = some (.int .i64 id) ∧ w'.cell? ⟨w1.heap.size, 1, none⟩ = some (.bool up) ∧ w'.cell? ⟨w1.heap.size, 2, none⟩ = some (.int .i64 room) ∧ w'.cell? ⟨w1.heap.size, 3, none⟩ = some (.slice ao rs.length co) ∧ w'.cell? ⟨w1.heap.size, 4, none⟩ = some (.int .i64 f)) ∧ (w'.cell? ⟨w3.heap.size, 0, none⟩ = some (.int .i64 ID) ∧ w'.cell? ⟨w3.heap.size, 1, none⟩ = some (.bool UP) ∧ w'.cell? ⟨w3.heap.size, 2, none⟩ = some (.int .i64 ROOM) ∧ w'.cell? ⟨w3.heap.size, 3, none⟩ = some (.slice a3 RS.length c3) ∧ w'.cell? ⟨w3.heap.size, 4, none⟩ = some (.int .i64 F))) (go_keep)
      (first
      | (go_at_call 18; refine (HSP.out _ E4.out.drew).mono ?_; rintro e w5 ⟨a5, c5, rfl, hm5, hb5⟩; have N5 := hide_it (se_drew hb5); have V5 := hide_it hm5.recs; obtain ⟨l50, l51, l52, l53, l54⟩ := (L4.out.after N5.out).cells5; obtain ⟨x50, x51, x52, x53, x54⟩ := (X4.out.after N5.out).cells5; clear hm5 hb5)
      | (go_at_call 11; refine (lnHouse_any ID UP ROOM _ _ RS F _ (V4.out.later N5.out (Nat.le_refl _)) V5.out hRl).mono ?_; rintro e w6 ⟨rfl, hb6⟩; have N6 := hide_it (N5.out.trans (hb6.mono N5.out.size)); obtain ⟨l60, l61, l62, l63, l64⟩ := (L4.out.after N6.out).cells5; obtain ⟨x60, x61, x62, x63, x64⟩ := (X4.out.after N6.out).cells5; clear hb6)
      | (go_at_call 13; refine (HOK.out _ (E4.out.trans (N6.out.mono E4.out.size))).mono ?_; rintro e w7 ⟨rfl, hb7⟩; have N7 := hide_it (N6.out.trans (hb7.mono N6.out.size)); obtain ⟨l70, l71, l72, l73, l74⟩ := (L4.out.after N7.out).cells5; obtain ⟨x70, x71, x72, x73, x74⟩ := (X4.out.after N7.out).cells5; clear hb7))) | fail
    all_goals
      go_wp2_with fail
      go_meet
      case rel => exact ⟨by first | rfl | simp, N7⟩
  case rest =>
    obtain ⟨rfl, N8⟩ := hcut
    have L8 := hide_it (L4.out.after N8.out)
    have X8 := hide_it (X4.out.after N8.out)
    have V8 := hide_it (V4.out.later N8.out (Nat.le_refl _))
    have U8 := hide_it (U4.out.later N8.out (Nat.le_refl _))
    have E8 := hide_it (E4.out.trans (N8.out.mono E4.out.size))
    have B8 := hide_it (B4.out.trans (N8.out.mono B4.out.size))
    clear l0 l1 l2 l3 l4 x0 x1 x2 x3 x4
    obtain ⟨l0, l1, l2, l3, l4⟩ := L8.out.cells5
    obtain ⟨x0, x1, x2, x3, x4⟩ := X8.out.cells5
    cases BB
    · go_wp2_with fail
      go_region_held (fun w' => (w'.cell? ⟨w1.heap.size, 0, none⟩ = some (.int .i64 id) ∧ w'.cell? ⟨w1.heap.size, 1, none⟩ = some (.bool up) ∧ w'.cell? ⟨w1.heap.size, 2, none⟩ = some (.int .i64 room) ∧ w'.cell? ⟨w1.heap.size, 3, none⟩ = some (.slice ao rs.length co) ∧ w'.cell? ⟨w1.heap.size, 4, none⟩ = some (.int .i64 f)) ∧ (w'.cell? ⟨w3.heap.size, 0, none⟩ = some (.int .i64 ID) ∧ w'.cell? ⟨w3.heap.size, 1, none⟩ = some (.bool UP) ∧ w'.cell? ⟨w3.heap.size, 2, none⟩ = some (.int .i64 ROOM) ∧ w'.cell? ⟨w3.heap.size, 3, none⟩ = some (.slice a3 RS.length c3) ∧ w'.cell? ⟨w3.heap.size, 4, none⟩ = some (.int .i64 F))) (go_keep)
        (first
        | (go_at_call 18; refine (HSP.out _ E8.out.drew).mono ?_; rintro e w9 ⟨a9, c9, rfl, hm9, hb9⟩; have N9 := hide_it (se_drew hb9); have V9 := hide_it hm9.recs; obtain ⟨l90, l91, l92, l93, l94⟩ := (L8.out.after N9.out).cells5; obtain ⟨x90, x91, x92, x93, x94⟩ := (X8.out.after N9.out).cells5; clear hm9 hb9)
        | (go_at_call 11; refine (lnHouse_any ID UP ROOM _ _ RS F _ (V8.out.later N9.out (Nat.le_refl _)) V9.out hRl).mono ?_; rintro e w10 ⟨rfl, hb10⟩; have N10 := hide_it (N9.out.trans (hb10.mono N9.out.size)); obtain ⟨la0, la1, la2, la3, la4⟩ := (L8.out.after N10.out).cells5; obtain ⟨xa0, xa1, xa2, xa3, xa4⟩ := (X8.out.after N10.out).cells5; clear hb10))
      all_goals
        go_wp2
        go_ret
        exact ⟨rfl, B8.out.trans (N10.out.mono B8.out.size)⟩
    · have hoo := hO.out
      simp only [hoRise, hBB.out, if_true, Prod.mk.injEq] at hoo
      obtain ⟨rfl, rfl, rfl, rfl, rfl⟩ := hoo
      have FX := hide_it (form_made M3.out)
      have HI2 : Hid (∀ W, Below wc.heap.size wc W → Calls Tryd.prog 17 #[houseV id true room (.slice a3 rs.length c3) f] W fun e w' => HoOut W w' e id true room rs f) := fun W hb => by
        have := implHRise_any id true room _ rs f a W (V8.out.later hb (Nat.le_refl _)) hl (HA.out _ (B8.out.trans (hb.mono B8.out.size)))
        rw [show hoRise id room rs f = (id, true, room, rs, f) by simp [hoRise, hBB.out]] at this
        exact this
      obtain ⟨KP, hKP⟩ : ∃ x : Int, Hid (((nm : Int) % 4) = x) := ⟨_, rfl⟩
      obtain ⟨⟨FI, FU, FR, FS, FF⟩, hFO⟩ : ∃ o : Ho, Hid (hoFall id room rs f KP = o) := ⟨_, rfl⟩
      have hFl : tot FS ≤ 1048576 := by have := hoFall_tot id room rs f KP hl; rw [hFO.out] at this; exact this
      have HFX : Hid (∀ W, Below wc.heap.size wc W → Calls Tryd.prog 19 #[houseV id true room (.slice a3 rs.length c3) f, .int .i64 KP] W fun e w' => HoOut W w' e FI FU FR FS FF) := fun W hb => by
        have := implHFall_any id true room _ rs f KP a W (V8.out.later hb (Nat.le_refl _)) hl FX.out (HA.out _ (B8.out.trans (hb.mono B8.out.size)))
        rw [hFO.out] at this; exact this
      have HFH : Hid (∀ W, Below wc.heap.size wc W → Calls Tryd.prog 19 #[houseV id up room (.slice ao rs.length co) f, .int .i64 KP] W fun e w' => HoOut W w' e FI FU FR FS FF) := fun W hb => by
        have := implHFall_any id up room _ rs f KP a W (U8.out.later hb (Nat.le_refl _)) hl FM.out (HA.out _ (B8.out.trans (hb.mono B8.out.size)))
        rw [hFO.out] at this; exact this
      go_wp2_with fail
      rw [hKP.out]
      first | (go_region_held (fun w' => (w'.cell? ⟨w1.heap.size, 0, none⟩ = some (.int .i64 id) ∧ w'.cell? ⟨w1.heap.size, 1, none⟩ = some (.bool up) ∧ w'.cell? ⟨w1.heap.size, 2, none⟩ = some (.int .i64 room) ∧ w'.cell? ⟨w1.heap.size, 3, none⟩ = some (.slice ao rs.length co) ∧ w'.cell? ⟨w1.heap.size, 4, none⟩ = some (.int .i64 f)) ∧ (w'.cell? ⟨w3.heap.size, 0, none⟩ = some (.int .i64 id) ∧ w'.cell? ⟨w3.heap.size, 1, none⟩ = some (.bool true) ∧ w'.cell? ⟨w3.heap.size, 2, none⟩ = some (.int .i64 room) ∧ w'.cell? ⟨w3.heap.size, 3, none⟩ = some (.slice a3 rs.length c3) ∧ w'.cell? ⟨w3.heap.size, 4, none⟩ = some (.int .i64 f))) (go_keep)
        (first
        | (go_at_call 14; refine (lnLog_any _ _ rs f _ (V8.out.later (Below.refl _ _).drew (Nat.le_refl _)) (U8.out.later (Below.refl _ _).drew (Nat.le_refl _)) hl).mono ?_; rintro e w9 ⟨rfl, hb9⟩; have N9 := hide_it (se_drew hb9); obtain ⟨l90, l91, l92, l93, l94⟩ := (L8.out.after N9.out).cells5; obtain ⟨x90, x91, x92, x93, x94⟩ := (X8.out.after N9.out).cells5; clear hb9)
        | (go_at_call 17; refine (HI2.out _ N9.out).mono ?_; rintro e w10 ⟨a10, c10, rfl, hm10, hb10⟩; have N10 := hide_it (N9.out.trans (hb10.mono N9.out.size)); have V10 := hide_it hm10.recs; obtain ⟨la0, la1, la2, la3, la4⟩ := (L8.out.after N10.out).cells5; obtain ⟨xa0, xa1, xa2, xa3, xa4⟩ := (X8.out.after N10.out).cells5; clear hm10 hb10)
        | (go_at_call 11; refine (lnHouse_any FI FU FR _ _ FS FF _ (V12.out.later NP13.out (Nat.le_refl _)) V13.out hFl).mono ?_; rintro e w14 ⟨rfl, hb14⟩; have N14 := hide_it (N13.out.trans (hb14.mono N13.out.size)); obtain ⟨le0, le1, le2, le3, le4⟩ := (L8.out.after N14.out).cells5; obtain ⟨xe0, xe1, xe2, xe3, xe4⟩ := (X8.out.after N14.out).cells5; clear hb14)
        | (go_at_call 11; refine (lnHouse_any id true room _ _ rs f _ V10.out (V8.out.later N10.out (Nat.le_refl _)) hl).mono ?_; rintro e w11 ⟨rfl, hb11⟩; have N11 := hide_it (N10.out.trans (hb11.mono N10.out.size)); obtain ⟨lb0, lb1, lb2, lb3, lb4⟩ := (L8.out.after N11.out).cells5; obtain ⟨xb0, xb1, xb2, xb3, xb4⟩ := (X8.out.after N11.out).cells5; clear hb11)
        | (go_at_call 19; refine (HFH.out _ N12.out).mono ?_; rintro e w13 ⟨a13, c13, rfl, hm13, hb13⟩; have NP13 := hide_it hb13; have N13 := hide_it (N12.out.trans (hb13.mono N12.out.size)); have V13 := hide_it hm13.recs; obtain ⟨ld0, ld1, ld2, ld3, ld4⟩ := (L8.out.after N13.out).cells5; obtain ⟨xd0, xd1, xd2, xd3, xd4⟩ := (X8.out.after N13.out).cells5; clear hm13 hb13)
        | (go_at_call 19; refine (HFX.out _ N11.out).mono ?_; rintro e w12 ⟨a12, c12, rfl, hm12, hb12⟩; have N12 := hide_it (N11.out.trans (hb12.mono N11.out.size)); have V12 := hide_it hm12.recs; obtain ⟨lc0, lc1, lc2, lc3, lc4⟩ := (L8.out.after N12.out).cells5; obtain ⟨xc0, xc1, xc2, xc3, xc4⟩ := (X8.out.after N12.out).cells5; clear hm12 hb12))) | fail
      all_goals
        go_wp2
        go_ret
        exact ⟨rfl, B8.out.trans (N14.out.mono B8.out.size)⟩

end Go.Proofs.YtckafpmhhoeodaaDoor

namespace Go.Proofs.YtckafpmhhoeodaaDoor
open Go.ChangeShapes Go.WideShapes Go.ChangeAt Go.WideMaps Go.WideElems Go.RowKit Go.Joins

set_option maxHeartbeats 1000000 in
theorem lawP42_great1 (ac : Option Addr) (nc cc : Nat) (am : Option Addr) (nm cm : Nat) (w : World) (h : 1048576 < (nc : Int)) :
    Calls Tryd.prog 4 #[.slice ac nc cc, .slice am nm cm] w fun e w' => e = .returned (.bool true) ∧ Below w.heap.size w w' := by
  go_enter Tryd.func4, Tryd.ntmps4
  go_wp2
  go_ret
  exact ⟨rfl, Below.refl _ _⟩

set_option maxHeartbeats 1000000 in
theorem lawP42_great2 (ac : Option Addr) (nc cc : Nat) (am : Option Addr) (nm cm : Nat) (w : World) (hc : (nc : Int) ≤ 1048576) (h : 1048576 < (nm : Int)) :
    Calls Tryd.prog 4 #[.slice ac nc cc, .slice am nm cm] w fun e w' => e = .returned (.bool true) ∧ Below w.heap.size w w' := by
  go_enter Tryd.func4, Tryd.ntmps4
  go_wp2
  go_ret
  exact ⟨rfl, Below.refl _ _⟩

theorem lawP42_any (vc vm : Value) (nc nm : Nat) (a : Addr) (w : World) (hc : CodeAt w vc nc) (hm : CodeAt w vm nm) (ha : ErrAt w a) :
    Calls Tryd.prog 4 #[vc, vm] w fun e w' => e = .returned (.bool true) ∧ Below w.heap.size w w' := by
  obtain ⟨am, cm, rfl, _⟩ := hm
  by_cases h1 : nc ≤ 1048576
  · by_cases h2 : nm ≤ 1048576
    · exact lawP42_small vc nc am nm cm a w hc h1 h2 ha
    · obtain ⟨ac, cc, rfl, _⟩ := hc
      exact lawP42_great2 ac nc cc am nm cm w (by omega) (by omega)
  · obtain ⟨ac, cc, rfl, _⟩ := hc
    exact lawP42_great1 ac nc cc am nm cm w (by omega)

set_option maxRecDepth 100000 in
theorem p42_lifted (os : Os) (started : os.Started) (H : Type) (enc : TypeId × Value → H) :
    ReturnsInHanded {} Tryd.checked os 4 .any (fun w args => (Rows.fnHouseRiseSpec.pre enc Tryd.prog Tryd.f4 [] false w args ∧ laidMetH Tryd.prog laidErr w) ∧ sizedMet enc Tryd.prog Tryd.f4 (OpenSpec.ofChange Rows.fnHouseRiseSpec) false w args)
      (Rows.fnHouseRiseSpec.post enc Tryd.prog Tryd.f4 false true false false) := by
  refine returnsInHanded_of_change_and (C := Tryd.checked) (X := fun w _ => laidMetH Tryd.prog laidErr w) (fun _ _ _ hh h => h.of_heap hh) own started (by kernel_rfl) Tryd.func4
    (ChangeSpec.witness_shaped (enc := enc) (C := Tryd.checked) (os := os) (X := fun w _ => laidMetH Tryd.prog laidErr w) false (World.doorLaid Tryd.prog 28 os) #[.slice none 0 0, .slice none 0 0] 8 rfl (World.shaped_of_RefB (by kernel_rfl) (by kernel_rfl)) (by kernel_rfl) (by kernel_rfl) (by kernel_rfl) (door_met os _)) ?_
  intro W base args ds gs before hval0 hW _ _ hL _
  have hval : ∀ (j : Nat) t v, Tryd.f4.params[j]? = some t → args[j]? = some v → Value.okWide Tryd.prog W .any base t v := hval0
  have hW' := hW
  obtain ⟨p, q, hA0, hV0, rfl, hfz, hnd⟩ := hW
  have hA : DataW.TrodAll enc Tryd.prog W 0 (fun _ => true) true Tryd.f4.params.toList args.toList ds p := hA0
  have hV : DataW.TrodVars enc Tryd.prog W (fun _ => true) ["loop.example/concierge/impl.errNoRec"] gs q := hV0
  rw [Tryd.params4] at hA hval
  obtain ⟨v0, v1, d0, d1, p0, p1, rfl, rfl, rfl, h0, h1⟩ := trodAll_two hA
  obtain ⟨a, hErr, hvar⟩ := of_laid hL
  have vr : ∀ {X : World}, X.var? Tryd.prog "loop.example/concierge/impl.errNoRec" = some #[.iface 130 (.pointer (some a))] → ∀ sp : Nat → Bool,
      DataW.TrodVars enc Tryd.prog X sp ["loop.example/concierge/impl.errNoRec"] [tok enc (.iface 130 (.pointer (some a)))] [.cell 0 0] :=
    fun x0 sp => vars_read1 enc gErr gErrType Tryd.underlying96 x0 trivial sp
  obtain ⟨rfl, rfl⟩ := hV.unique (vr hvar _)
  clear hA0 hV0 hval0
  obtain ⟨nc, hC, _⟩ := open_code (hval 0 22 v0 rfl rfl) h0
  obtain ⟨nm, hM, _⟩ := open_code (hval 1 22 v1 rfl rfl) h1
  refine (lawP42_any v0 v1 nc nm a W hC hM hErr).mono fun e W' ⟨he, hb⟩ => ?_
  subst he
  have hlt : ∀ x ∈ p0, x.block < W.heap.size := fun x hx => hW'.lt x (by simp [hx])
  have hlt1 : ∀ x ∈ p1, x.block < W.heap.size := fun x hx => hW'.lt x (by simp [hx])
  refine ⟨_, rfl, _, _, _, [], p0 ++ p1, [.cell 0 0], hW', ?_, ?_, ?_, hb.frame _, fun h => by cases h⟩
  · exact trodAll_mk1 (shut_bool Tryd.underlying4 true)
  · exact trodAll_mk2 (Below.trod laidOut (by kernel_rfl) (of_decide_eq_true (by kernel_rfl)) h0 hb hlt) (Below.trod laidOut (by kernel_rfl) (of_decide_eq_true (by kernel_rfl)) h1 hb hlt1)
  · exact vr (var?_below hb gErr (World.block_lt_of_cell? _ _ hErr) hvar) _

theorem p42_said : Rows.FnHouseRiseSaid :=
  OpenClaim.holds_of_wide 4 Tryd.f4 rfl rfl rfl rfl rfl rfl rfl ⟨rfl, rfl, rfl, rfl, rfl⟩ rfl rfl rfl rfl rfl (by kernel_rfl) Tryd.func4 (by kernel_rfl)
    (of_decide_eq_true (by kernel_rfl)) (by unfold Func.isWrapper; first | (rw [if_pos (by decide +kernel)]; kernel_rfl) | (rw [if_neg (by decide +kernel)]; exact ⟨rfl, rfl⟩))
    (fun os started H enc _ => p42_lifted os started H enc)

theorem p42_plain (f : FuncId) (fn : Func) (hf : Tryd.pinned.checked.prog.funcNamed "loop.example/concierge/laws.FnHouseRise" = some f) (hfn : Tryd.pinned.checked.prog.funcs[f]? = some fn) :
    true = Tryd.pinned.checked.prog.looks [] ∧ ∀ (j : Nat) t, fn.params[j]? = some t → Tryd.pinned.checked.prog.wantsStandIn t = false := by
  obtain rfl : f = 4 := Option.some.inj ((show Tryd.prog.funcNamed "loop.example/concierge/laws.FnHouseRise" = some 4 by kernel_rfl).symm.trans hf) |>.symm
  obtain rfl : fn = Tryd.f4 := (Option.some.inj (Tryd.func4.symm.trans hfn)).symm
  refine ⟨by kernel_rfl, fun j t ht => ?_⟩
  rw [Tryd.params4] at ht
  obtain rfl : t = 22 := by simpa using Array.mem_of_getElem? ht
  exact (show Tryd.prog.wantsStandIn 22 = false by kernel_rfl)

theorem p42_card : Rows.FnHouseRiseCardSaid :=
  Claim7.holds_tied_plain_at .later [] _ _ _ _ p42_said (fun _ h => by cases h) (by kernel_rfl) (fun _ h => by cases h) fnHouseRise_row_tie rfl ⟨rfl, rfl⟩ (by kernel_rfl) rfl p42_plain (by kernel_rfl)
#print axioms p42_card

end Go.Proofs.YtckafpmhhoeodaaDoor
