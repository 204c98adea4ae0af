/- FnTripsStep answers true whatever the code, and it reads afterwards as it read before: promise 44 at all drawn trips and records. The card: the sentinel's variable starts as the program's text lays it. -/
import Derived.Test.YtickjfpbaknlmaaDoorRows
import Derived.Test.YtickjfpbaknlmaaDoorDGood
import Derived.ProofKit
import Derived.OpenShut
import Derived.Lib.SmallJoins
import Derived.Test.YtickjfpbaknlmaaDoorDTrips
import Derived.Test.YtickjfpbaknlmaaDoorDRec
import Derived.Test.YtickjfpbaknlmaaDoorTSpec
import Derived.Test.YtickjfpbaknlmaaDoorTMark
import Derived.Test.YtickjfpbaknlmaaDoorLn
import Derived.Deep.RegionHeld
import Derived.Deep.RegionHeldLaw
import Derived.Test.YtickjfpbaknlmaaDoorFrame

namespace Go.Proofs.YtickjfpbaknlmaaDoor
open Go.ChangeShapes Go.WideShapes Go.ChangeAt Go.WideMaps Go.WideElems Go.RowKit Go.Joins

theorem cellsByte : Tryd.prog.cellsOf 5 = 1 := by kernel_rfl

theorem u8_bd {z : Int} (h : (Lit.int .u8 z).wf = true) : 0 ≤ z ∧ z ≤ 255 := by
  simp only [Lit.wf, Bool.and_eq_true, decide_eq_true_eq] at h
  have h0 : IntKind.min .u8 = 0 := by decide
  have h1 : IntKind.max .u8 = 255 := by decide
  omega

section
variable {H : Type} {enc : TypeId × Value → H} {W : World}

set_option maxRecDepth 100000 in
/-- A code that came in. -/
theorem open_code {base : Nat} {v : Value} {d : DataW H} {p : List MemPlace} (hval : Value.okWide Tryd.prog W .any base 22 v) (h : DataW.Trod enc Tryd.prog W 0 (fun _ => true) true 22 v d p) :
    ∃ n, CodeAt W v n ∧ (n : Int) ≤ 9223372036854775807 := by
  obtain ⟨ao, n, cap, rfl⟩ := okWide_slice Tryd.underlying22 hval
  obtain ⟨fuel, hf⟩ := h
  have hf' : DataW.trod enc Tryd.prog W 0 (fun _ => true) true fuel 22 [.slice ao n cap] = some (d, p) := hf
  rcases open_ints Tryd.underlying22 Tryd.underlying5 cellsByte hf' with ⟨hcs, hx⟩ | ⟨a, len, cap', zs, hcs, _, hl, hm, hz, hx, hcell, hwz⟩
  · simp at hcs
    obtain ⟨rfl, rfl, rfl⟩ := hcs
    exact ⟨0, ⟨none, 0, rfl, Nat.le_refl _, fun h => absurd rfl h⟩, by simp⟩
  · simp at hcs
    obtain ⟨rfl, rfl, rfl⟩ := hcs
    simp only [if_pos] at hz
    refine ⟨n, ⟨some a, cap, rfl, hl, fun hn => ?_⟩, by unfold maxLen at hm; omega⟩
    obtain ⟨b, off, rfl, hc⟩ := ints_at hcell (by omega)
    refine ⟨b, off, rfl, fun k hk => ⟨zs.getD k 0, hc k (by omega), ?_⟩⟩
    have hkz : k < zs.length := by omega
    have hmem : zs.getD k 0 ∈ zs := by simp [List.getD_eq_getElem?_getD, hkz]
    exact u8_bd (hwz _ hmem)

end
end Go.Proofs.YtickjfpbaknlmaaDoor

namespace Go.Proofs.YtickjfpbaknlmaaDoor
open Go.RowKit

/-- What a drawn trip wants: a list of at most four numbers, or none at all. -/
def TGood (W : World) (lo : Nat) (p : T.R × Value) : Prop := Good W lo ((0, 0, p.1.1), p.2)

/-- Trips that a draw has made, and the reader. -/
structure TrS (w W : World) (b q : Nat) (o : Value) (ps : List (T.R × Value)) : Prop where
  row : W.ownsRow w.heap.size 33 2 o ps.length (T.flat ps)
  all : ∀ p ∈ ps, TGood W w.heap.size p
  rd : Rd W b q
  mid : Mid b (b + 1) w W
  low : b < w.heap.size

theorem TrS.step {w W W' : World} {b q q' : Nat} {o : Value} {ps : List (T.R × Value)} (h : TrS w W b q o ps) (hb : Mid b (b + 1) W W') (hr : Rd W' b q') : TrS w W' b q' o ps :=
  ⟨ownsRow_mid h.row hb (fun k hk => Or.inr (by have := (rowB_at h.row k hk).1; have := h.low; omega)), fun p hp => Good.step (h.all p hp) h.rd hb, hr, h.mid.trans hb, h.low⟩
theorem TrS.later {w W W' : World} {b q : Nat} {o : Value} {ps : List (T.R × Value)} (h : TrS w W b q o ps) (hb : Below W.heap.size W W') : TrS w W' b q o ps :=
  h.step (Mid.of_below hb (Nat.le_refl _)) (h.rd.later hb (Nat.le_refl _))

theorem row_fresh {W : World} {lo : Nat} {v : Value} {zs : List Int} (h : W.ownsRow lo 3 1 v zs.length (zs.map (Value.int .i64))) : (∃ cap, Fresh W lo v zs cap) ∨ (v = .slice none 0 0 ∧ zs = []) := by
  have hcell : ∀ g cap, v = .slice (some ⟨g, 0, none⟩) zs.length cap → ∀ k, k < zs.length → W.cell? ⟨g, k, none⟩ = some (.int .i64 (zs.getD k 0)) := fun g cap hv k hk => by
    subst hv
    rw [h.cellAt k (by omega)]
    simp [List.getD_eq_getElem?_getD, hk]
  rcases h.2 with ⟨hv, hn⟩ | ⟨g, cap, cur, hv, hg, hh, _⟩
  · exact Or.inr ⟨hv, List.length_eq_zero_iff.1 hn⟩
  · refine Or.inl ⟨cap, g, 0, cur, hv, hg, hh, fun k hk => ?_⟩
    have := hcell g cap hv k hk
    rw [cell_of_row W _ _ _ _ _ hh] at this
    rw [Nat.zero_add]; exact this

theorem TrS.of_made {w W : World} {b q lo : Nat} {o : Value} {rs : List T.R} (h : T.Made W lo o rs) (hf : T.Fit rs) (hlo : w.heap.size ≤ lo) (hr : Rd W b q) (hm : Mid b (b + 1) w W) (hl : b < w.heap.size) : ∃ ps : List (T.R × Value), ps.map (·.1) = rs ∧ ps.length = rs.length ∧ TrS w W b q o ps := by
  obtain ⟨ps, hp, h1, h2, h3⟩ := h
  refine ⟨ps, hp, by rw [← hp]; simp, ownsRow_lower h1 hlo, fun p hpm => ?_, hr, hm, hl⟩
  have h3l : p.1.1.length = 3 := hf.2 p.1 (by rw [← hp]; exact List.mem_map_of_mem hpm)
  refine ⟨by show p.1.1.length ≤ 4; omega, ?_⟩
  rcases row_fresh (ownsRow_lower (h3.2.1 p hpm).1 hlo) with ⟨cap, hF⟩ | ⟨hv, hz⟩
  · exact Or.inl ⟨cap, hF⟩
  · exact Or.inr ⟨hv, hz⟩

theorem TrS.push {w W w4 : World} {b q : Nat} {o o' : Value} {ps : List (T.R × Value)} {r : T.R} {x : Value} (h : TrS w W b q o ps) (hg : TGood W w.heap.size (r, x))
    (hown : w4.ownsRow w.heap.size 33 2 o' (ps.length + 1) (T.flat ps ++ [x, .int .i64 r.2])) (hgr : W.grownBy w4 o.ownBlock) : TrS w w4 b q o' (ps ++ [(r, x)]) := by
  have hl := h.low
  have hblk : ∀ k, k < W.heap.size → (∀ cs, W.heap[k]? ≠ some (.cells cs 33 (0, 0))) → w4.heap[k]? = W.heap[k]? := fun k hk hn => hgr.block k hk (fun e => by
    obtain ⟨cs, hh⟩ := (rowB_at h.row k e.symm).2
    exact hn cs hh)
  have hws : w.heap.size ≤ W.heap.size := h.mid.size
  have hlow : ∀ k, k < w.heap.size → w4.heap[k]? = W.heap[k]? := fun k hk => hgr.block k (by omega) (fun e => by have := (rowB_at h.row k e.symm).1; omega)
  have hrd : Rd w4 b q := by
    obtain ⟨y, n, hn, h1, h2⟩ := h.rd
    exact ⟨y, n, hn, by rw [hlow b hl]; exact h1, h2.mid (fun k hk => hlow k (by omega))⟩
  have hmid : Mid b (b + 1) w w4 := ⟨hgr.os.trans h.mid.os, hgr.tape.trans h.mid.tape, hgr.output.trans h.mid.output, Nat.le_trans h.mid.size hgr.size, fun k hk hh => (hlow k hk).trans (h.mid.block k hk hh)⟩
  refine ⟨by rw [T.flat_append, List.length_append]; exact hown, fun p hp => ?_, hrd, hmid, hl⟩
  have hgood : TGood W w.heap.size p := by
    rcases List.mem_append.1 hp with hp | hp
    · exact h.all p hp
    · simp at hp; subst hp; exact hg
  exact Good.keep hgood fun g cs hh => hblk g (heap_lt hh) (fun cs' e => by rw [hh] at e; simp at e)

/-- Another state of one trip. -/
theorem TrS.turn {w W : World} {b q g n cap i : Nat} {ps : List (T.R × Value)} {p : T.R × Value} (s : Int) (h : TrS w W b q (.slice (some ⟨g, 0, none⟩) n cap) ps) (hn : ps.length = n) (hp : ps[i]? = some p) :
    TrS w (W.setCell ⟨g, i * 2 + 1, none⟩ (.int .i64 s)) b q (.slice (some ⟨g, 0, none⟩) n cap) (ps.set i ((p.1.1, s), p.2)) := by
  have hrow := h.row
  rw [hn] at hrow
  have hl := h.low
  obtain ⟨hlo, cs, hh⟩ := rowB_at hrow g rfl
  have st := hrow.stored (i * 2 + 1) (.int .i64 s)
  have e := T.flat_set1 ps i p (p.1.1, s) hp
  rw [e] at st
  refine ⟨by rw [List.length_set, hn]; exact st.1, fun x hx => ?_, h.rd.setApart (by omega) _, h.mid.setNew hlo _, hl⟩
  have hx' : TGood W w.heap.size x := by
    rcases List.mem_or_eq_of_mem_set hx with hx | hx
    · exact h.all x hx
    · subst hx; exact h.all p (List.mem_of_getElem? hp)
  exact Good.keep hx' fun g' cs' hh' => Below.heap_setCell _ _ _ _ (ne_of_type hh' hh (by decide))

theorem TrS.setX {w W : World} {b q X i : Nat} {cs : Array Value} {o : Value} {ps : List (T.R × Value)} (h : TrS w W b q o ps) (hX : W.heap[X]? = some (.cells cs 26 (0, 0))) (hw : w.heap.size ≤ X) (x : Value) : TrS w (W.setCell ⟨X, i, none⟩ x) b q o ps := by
  have hl := h.low
  refine ⟨?_, ?_, h.rd.setApart (by omega) _, h.mid.setNew hw _, hl⟩
  · exact ownsRow_setCell_ne h.row (fun g hg => by obtain ⟨_, cs', hh⟩ := rowB_at h.row g hg; exact ne_of_type hh hX (by decide)) _
  · exact fun p hp => Good.keep (h.all p hp) fun g cs hh => Below.heap_setCell _ _ _ _ (ne_of_type hh hX (by decide))

theorem trips_rows {W : World} {lo base : Nat} {v : Value} {ps : List (T.R × Value)} (hrow : W.ownsRow base 33 2 v ps.length (T.flat ps)) (hall : ∀ p ∈ ps, TGood W lo p) : T.Recs W v (ps.map (·.1)) := by
  by_cases hp : ps = []
  · subst hp
    rcases hrow.2 with ⟨hv, _⟩ | ⟨g, cap, cur, hv, _⟩
    · exact Or.inl ⟨rfl, none, 0, hv⟩
    · exact Or.inl ⟨rfl, _, cap, hv⟩
  · rcases hrow.2 with ⟨_, hn⟩ | ⟨g, cap, cur, hv, _⟩
    · exact absurd (List.length_eq_zero_iff.1 hn) hp
    · subst hv
      refine Or.inr ⟨g, 0, cap, by simp, by simpa using hp, fun i r hr => ?_⟩
      rw [List.getElem?_map] at hr
      cases hpi : ps[i]? with
      | none => rw [hpi] at hr; cases hr
      | some p =>
        rw [hpi] at hr
        simp at hr
        subst hr
        have hil := T.len_lt hpi
        obtain ⟨f0, f1⟩ := T.flat_get ps i p hpi
        refine ⟨p.2, ?_, ?_, Good.ints (hall p (List.mem_of_getElem? hpi))⟩
        · rw [Nat.zero_add, hrow.cellAt _ (by omega)]; exact f0
        · rw [Nat.zero_add, hrow.cellAt _ (by omega)]; exact f1
theorem TrS.out {w W : World} {b q : Nat} {o : Value} {ps : List (T.R × Value)} (h : TrS w W b q o ps) (hp : ps.length ≤ 10) : T.Recs W o (ps.map (·.1)) ∧ T.tot (ps.map (·.1)) ≤ 1000 := by
  refine ⟨trips_rows h.row h.all, ?_⟩
  have key : ∀ (l : List (T.R × Value)), (∀ x ∈ l, x.1.1.length ≤ 4) → ((l.map (·.1)).map fun r : T.R => r.1.length).sum ≤ 4 * l.length := by
    intro l
    induction l with
    | nil => intro _; simp
    | cons x t ih =>
      intro hx
      have h1 := ih (fun y hy => hx y (by simp [hy]))
      have h2 := hx x (by simp)
      simp at h1 ⊢
      omega
  have := key ps (fun x hx => (h.all x hx).1)
  unfold T.tot T.pre
  rw [List.take_length, List.length_map]
  omega

/-- What comes out of the draw. -/
def ListGot (w w' : World) (e : Ending) (b p : Nat) : Prop :=
  ∃ (o : Value) (ps : List (T.R × Value)) (q : Nat), e = .returned o ∧ ps.length ≤ 7 ∧ q ≤ p + 120 ∧ TrS w w' b q o ps

set_option maxRecDepth 100000 in
set_option maxHeartbeats 8000000 in
theorem list_draw (b p : Nat) (w : World) (h : Rd w b p) (hp : p ≤ 600000) :
    Calls Tryd.prog 24 #[.pointer (some ⟨b, 0, none⟩)] w fun e w' => ListGot w w' e b p := by
  obtain ⟨i0, hi, hz0, hz1, hz2⟩ := info_parts T.infoTrip
  have hblt := h.lt
  have HD := hide_it (trips_draw b p w h (by omega))
  clear h
  go_enter Tryd.func24, Tryd.ntmps24
  go_wp2_with fail
  refine HD.out.mono ?_
  rintro e w1 ⟨o, qs, q, rfl, hqs, hrow, hall, hq, r1, m1⟩
  have C1 : Hid (RcS w w1 b q o qs) := ⟨hrow, hall, r1, m1, hblt⟩
  obtain ⟨oa, oc, hos⟩ := row_shape hrow
  subst hos
  clear hrow hall r1 m1
  obtain ⟨hRq, hTq⟩ := C1.out.out (by omega)
  have HOF := hide_it (T.specOf_any _ (qs.map (·.1)) w1 hRq (by omega))
  have FO := hide_it (T.ofO_fit (qs.map (·.1)))
  obtain ⟨OO, hOO⟩ : ∃ x, T.ofO (qs.map (·.1)) = x := ⟨_, rfl⟩
  obtain ⟨BB, hBB⟩ : ∃ x, (T.runT (qs.map (·.1))).isSome = x := ⟨_, rfl⟩
  rw [hOO, hBB] at HOF
  rw [hOO] at FO
  clear hOO hBB hRq hTq
  go_wp2_with fail
  refine HOF.out.mono ?_
  rintro e w2 ⟨a2, c2, rfl, hm2, hb2⟩
  obtain ⟨ps, hps, hpsl, hT⟩ := TrS.of_made (w := w) (b := b) (q := q) hm2 FO.out C1.out.mid.size (C1.out.rd.later hb2 (Nat.le_refl _)) (C1.out.mid.trans (Mid.of_below hb2 (Nat.le_refl _))) hblt
  have S2 := hide_it hT
  have hO6 := FO.out.1
  rw [← hpsl] at S2 hO6 ⊢
  clear hm2 hb2 hT hps hpsl
  go_wp2_with fail
  refine (pick_any b q 16 _ S2.out.rd (by omega) (by omega) (by omega)).mono ?_
  rintro e w3 ⟨y, rfl, ly, uy, r3, m3⟩
  have S3 := hide_it (S2.out.step m3 r3)
  clear r3 m3
  by_cases hy0 : y = 0
  · subst hy0
    go_wp2_with fail
    refine (many_draw b (q + 1) _ S3.out.rd (by omega)).mono ?_
    rintro e w4 ⟨u, zs, q4, rfl, hzl, hF, hqa, hqb, r4, m4⟩
    have S4 := hide_it (S3.out.step m4 r4)
    have F4 := hide_it (hF.mono S3.out.mid.size)
    obtain ⟨g, off, hu⟩ : ∃ g off, u = .slice (some ⟨g, off, none⟩) zs.length zs.length := by obtain ⟨g, off, cs, h, _⟩ := hF; exact ⟨g, off, h⟩
    subst hu
    clear hF r4 m4
    go_wp2_with fail
    refine (pick_any b q4 8 _ S4.out.rd (by omega) (by omega) (by omega)).mono ?_
    rintro e w5 ⟨z, rfl, lz, uz, r5, m5⟩
    have S5 := hide_it (S4.out.step m5 r5)
    have F5 := hide_it (F4.out.mid S4.out.rd m5)
    have hw5 := S5.out.mid.size
    have ROW : Hid (∀ x, (w5.alloc x).ownsRow w.heap.size 33 2 (.slice a2 ps.length c2) ps.length (T.flat ps)) := fun x => S5.out.row.alloc x
    clear r5 m5
    go_wp2_with (at_builtin; refine wpList_append_own _ rfl _ _ 23 rfl w.heap.size 33 i0 (.agg #[.slice none 0 0, .int .i64 0]) 2 32 Tryd.underlying23 hi hz0 hz1 hz2 rfl (by decide) (.slice a2 ps.length c2) ps.length (T.flat ps) rfl (ROW.out _) ⟨w5.heap.size, 0, none⟩ 1 1 [.slice (some ⟨g, off, none⟩) zs.length zs.length, .int .i64 z] rfl rfl (T.news2 _ _ _ _) (T.one2 _ _) ?c3 ?c4 ?c5 ?_)
    case c3 => unfold maxLen; omega
    case c4 => omega
    case c5 => simp; omega
    intro v' w6 hown6 hgrow6 _
    have S6 := hide_it ((S5.out.later (alloc_below _ _)).push (r := (zs, z)) ⟨by show zs.length ≤ 4; omega, Or.inl ⟨_, F5.out.later (alloc_below _ _) (Nat.le_refl _)⟩⟩ hown6 hgrow6)
    clear hown6 hgrow6 ROW
    go_wp2
    go_ret
    exact ⟨_, _, q4 + 1, rfl, by simp; omega, by omega, S6.out⟩
  by_cases hy1 : y = 1
  · subst hy1
    by_cases hpos : ¬ 0 < (ps.length : Int)
    · go_wp2
      go_ret
      exact ⟨_, ps, q + 1, rfl, by omega, by omega, S3.out⟩
    · have hpos1 : 0 < (ps.length : Int) := by omega
      obtain ⟨x, hx⟩ : ∃ x, Hid (ps[0]? = some x) := ⟨ps[0]'(by omega), by show _ = _; rw [List.getElem?_eq_getElem]⟩
      go_wp2_with fail
      refine (pick_any b (q + 1) 8 _ S3.out.rd (by omega) (by omega) (by omega)).mono ?_
      rintro e w4 ⟨z, rfl, lz, uz, r4, m4⟩
      have S4 := hide_it (S3.out.step m4 r4)
      clear r4 m4
      obtain ⟨g, hga⟩ : ∃ g, a2 = some ⟨g, 0, none⟩ := by
        rcases S4.out.row.2 with ⟨hv, hn⟩ | ⟨g, cap, cur, hv, _⟩
        · omega
        · simp at hv; exact ⟨g, hv.1⟩
      subst hga
      have c1 := S4.out.row.cellAt 1 (by omega)
      rw [(T.flat_get ps 0 x hx.out).2] at c1
      have f1 := S4.out.row.frozenAt 1
      have ST := hide_it (S4.out.turn (z - 1) rfl hx.out)
      go_wp2
      go_ret
      exact ⟨_, ps.set 0 ((x.1.1, z - 1), x.2), q + 1 + 1, rfl, by rw [List.length_set]; omega, by omega, ST.out⟩
  · go_wp2
    go_ret
    exact ⟨_, ps, q + 1, rfl, by omega, by omega, S3.out⟩

end Go.Proofs.YtickjfpbaknlmaaDoor

namespace Go.Proofs.YtickjfpbaknlmaaDoor
open Go.RowKit

/-- Three stores into a record's block leave blocks of other types, and rows in them. -/
theorem sets3 {W : World} {B g : Nat} {cs cs' : Array Value} {ty : TypeId} (hB : W.heap[B]? = some (Obj.cells cs 26 (0, 0))) (hh : W.heap[g]? = some (Obj.cells cs' ty (0, 0))) (ht : ty ≠ 26) (x y z : Value) :
    (((W.setCell ⟨B, 0, none⟩ x).setCell ⟨B, 1, none⟩ y).setCell ⟨B, 2, none⟩ z).heap[g]? = W.heap[g]? := by
  have hne : g ≠ B := ne_of_type hh hB ht
  rw [Below.heap_setCell _ _ _ _ hne, Below.heap_setCell _ _ _ _ hne, Below.heap_setCell _ _ _ _ hne]
theorem rowSets3 {W : World} {base B sz n : Nat} {cs : Array Value} {ty : TypeId} {v : Value} {xs : List Value} (h : W.ownsRow base ty sz v n xs) (hB : W.heap[B]? = some (Obj.cells cs 26 (0, 0))) (ht : ty ≠ 26) (x y z : Value) :
    (((W.setCell ⟨B, 0, none⟩ x).setCell ⟨B, 1, none⟩ y).setCell ⟨B, 2, none⟩ z).ownsRow base ty sz v n xs := by
  obtain ⟨h1, h2⟩ := h
  refine ⟨h1, ?_⟩
  rcases h2 with h2 | ⟨g, cap, cur, hv, hg, hh, r⟩
  · exact Or.inl h2
  · exact Or.inr ⟨g, cap, cur, hv, hg, by rw [sets3 hB hh ht]; exact hh, r⟩

/-- A record is put into the block. -/
theorem BoxT.put {w W : World} {b q X : Nat} {r r' : R} {u u' o : Value} {ps : List (T.R × Value)} (h : BoxT w W X r u (.slice none 0 0)) (hs : TrS w W b q o ps) (hg : Good W w.heap.size (r', u')) (hsl : ∃ a n c, u' = .slice a n c) :
    TrS w (((W.setCell ⟨X, 0, none⟩ (.int .i64 r'.1)).setCell ⟨X, 1, none⟩ (.int .i64 r'.2.1)).setCell ⟨X, 2, none⟩ u') b q o ps ∧
    BoxT w (((W.setCell ⟨X, 0, none⟩ (.int .i64 r'.1)).setCell ⟨X, 1, none⟩ (.int .i64 r'.2.1)).setCell ⟨X, 2, none⟩ u') X r' u' (.slice none 0 0) := by
  have e0 : Blk W X #[.int .i64 r.1, .int .i64 r.2.1, u] 26 := h.own
  have e1 := e0.set_ 0 (.int .i64 r'.1)
  have e2 := e1.set_ 1 (.int .i64 r'.2.1)
  have e3 := e2.set_ 2 u'
  have s1 := hs.setX (i := 0) e0 h.new (.int .i64 r'.1)
  have s2 := s1.setX (i := 1) e1 h.new (.int .i64 r'.2.1)
  have s3 := s2.setX (i := 2) e2 h.new u'
  refine ⟨s3, ⟨e3, h.new, h.far, ?_, hsl⟩⟩
  exact hg.keep fun g cs hh => sets3 h.own hh (by decide) _ _ _
theorem BoxT.turnR {w W : World} {b q X Y : Nat} {r : R} {u o : Value} {ps : List (T.R × Value)} (h : BoxT w W X r u (.slice none 0 0)) (hs : TrS w W b q o ps) (k t : Int) (hY : W.heap.size = Y) :
    TrS w ((((W.setCell ⟨X, 0, none⟩ (.int .i64 k)).setCell ⟨X, 1, none⟩ (.int .i64 t)).setCell ⟨X, 2, none⟩ (.slice (some ⟨Y, 0, none⟩) 0 0)).alloc (.cells #[] 3)) b q o ps ∧
    BoxT w ((((W.setCell ⟨X, 0, none⟩ (.int .i64 k)).setCell ⟨X, 1, none⟩ (.int .i64 t)).setCell ⟨X, 2, none⟩ (.slice (some ⟨Y, 0, none⟩) 0 0)).alloc (.cells #[] 3)) X (k, t, []) (.slice (some ⟨Y, 0, none⟩) 0 0) (.slice none 0 0) := by
  have e0 : Blk W X #[.int .i64 r.1, .int .i64 r.2.1, u] 26 := h.own
  have e1 := e0.set_ 0 (.int .i64 k)
  have e2 := e1.set_ 1 (.int .i64 t)
  have e3 := e2.set_ 2 (.slice (some ⟨Y, 0, none⟩) 0 0)
  have s1 := hs.setX (i := 0) e0 h.new (.int .i64 k)
  have s2 := s1.setX (i := 1) e1 h.new (.int .i64 t)
  have s3 := s2.setX (i := 2) e2 h.new (.slice (some ⟨Y, 0, none⟩) 0 0)
  have hsz : (((W.setCell ⟨X, 0, none⟩ (.int .i64 k)).setCell ⟨X, 1, none⟩ (.int .i64 t)).setCell ⟨X, 2, none⟩ (.slice (some ⟨Y, 0, none⟩) 0 0)).heap.size = Y := by simp [hY]
  refine ⟨s3.later (alloc_below _ _), ⟨(e3.alloc _ : Blk _ _ _ _), h.new, h.far, ⟨by simp, Or.inl ⟨0, ?_⟩⟩, ⟨_, _, _, rfl⟩⟩⟩
  have := fresh0 (((W.setCell ⟨X, 0, none⟩ (.int .i64 k)).setCell ⟨X, 1, none⟩ (.int .i64 t)).setCell ⟨X, 2, none⟩ (.slice (some ⟨Y, 0, none⟩) 0 0)) w.heap.size (by rw [hsz, ← hY]; exact hs.mid.size)
  rw [hsz] at this
  exact this

theorem Fresh.keepLo {W W' : World} {lo : Nat} {u : Value} {zs : List Int} {cap : Nat} (h : Fresh W lo u zs cap) (hk : ∀ g, lo ≤ g → W'.heap[g]? = W.heap[g]?) : Fresh W' lo u zs cap := by
  obtain ⟨g, off, cs, hu, hl, hh, hc⟩ := h
  exact ⟨g, off, cs, hu, hl, by rw [hk g hl]; exact hh, hc⟩
theorem Good.keepLo {W W' : World} {lo : Nat} {p : R × Value} (h : Good W lo p) (hk : ∀ g, lo ≤ g → W'.heap[g]? = W.heap[g]?) : Good W' lo p := by
  obtain ⟨h1, h2⟩ := h
  refine ⟨h1, ?_⟩
  rcases h2 with ⟨cap, h2⟩ | h2
  · exact Or.inl ⟨cap, h2.keepLo hk⟩
  · exact Or.inr h2
theorem rowKeepLo {W W' : World} {lo sz n : Nat} {ty : TypeId} {v : Value} {xs : List Value} (h : W.ownsRow lo ty sz v n xs) (hk : ∀ g, lo ≤ g → W'.heap[g]? = W.heap[g]?) : W'.ownsRow lo ty sz v n xs := by
  obtain ⟨h1, h2⟩ := h
  refine ⟨h1, ?_⟩
  rcases h2 with h2 | ⟨g, cap, cur, hv, hg, hh, r⟩
  · exact Or.inl h2
  · exact Or.inr ⟨g, cap, cur, hv, hg, by rw [hk g hg]; exact hh, r⟩

/-- What comes out of the draw: trips, and a record, in blocks behind the result's. -/
def PairFar (w w' : World) (e : Ending) : Prop :=
  ∃ (o : Value) (rs : List T.R) (r : R) (u : Value), e = .returned (.tuple #[o, .agg #[.int .i64 r.1, .int .i64 r.2.1, u]]) ∧ T.tot rs ≤ 1000 ∧ r.2.2.length ≤ 4 ∧ (∀ W', (∀ k, w.heap.size < k → W'.heap[k]? = w'.heap[k]?) → T.Recs W' o rs ∧ Ints W' u r.2.2) ∧ Below w.heap.size w w'

/-- What comes out of the draw: trips, and a record. -/
def PairGot (w w' : World) (e : Ending) : Prop :=
  ∃ (o : Value) (rs : List T.R) (r : R) (u : Value), e = .returned (.tuple #[o, .agg #[.int .i64 r.1, .int .i64 r.2.1, u]]) ∧ T.tot rs ≤ 1000 ∧ T.Recs w' o rs ∧ r.2.2.length ≤ 4 ∧ Ints w' u r.2.2 ∧ Below w.heap.size w w'

/-- The record is put into the result's block. -/
theorem pair_out {w w1 W : World} {b q X B : Nat} {r : R} {u o : Value} {ps : List (T.R × Value)} (hs : TrS w1 W b q o ps) (hx : BoxT w1 W X r u (.slice none 0 0)) (hp : ps.length ≤ 10) (hB : Blk W B #[.int .i64 0, .int .i64 0, .slice none 0 0] 26) (hwB : w.heap.size ≤ B) (hww : w.heap.size < w1.heap.size) (hb : Below w.heap.size w W) :
    PairFar w (((W.setCell ⟨B, 0, none⟩ (.int .i64 r.1)).setCell ⟨B, 1, none⟩ (.int .i64 r.2.1)).setCell ⟨B, 2, none⟩ u) (.returned (.tuple #[o, .agg #[.int .i64 r.1, .int .i64 r.2.1, u]])) := by
  refine ⟨o, ps.map (·.1), r, u, rfl, (hs.out hp).2, hx.many.1, fun W' hk => ?_, ((hb.setCell hwB _).setCell hwB _).setCell hwB _⟩
  have hk' : ∀ g, w1.heap.size ≤ g → W'.heap[g]? = (((W.setCell ⟨B, 0, none⟩ (.int .i64 r.1)).setCell ⟨B, 1, none⟩ (.int .i64 r.2.1)).setCell ⟨B, 2, none⟩ u).heap[g]? := fun g hg => hk g (by omega)
  refine ⟨trips_rows (rowKeepLo (rowSets3 hs.row hB (by decide) _ _ _) hk') (fun p hpm => Good.keepLo (Good.keep (hs.all p hpm) fun g cs hh => sets3 hB hh (by decide) _ _ _) hk'), ?_⟩
  exact ((hx.many.keep fun g cs hh => sets3 hB hh (by decide) _ _ _).keepLo hk').ints
theorem PairFar.drew {w w' : World} {e : Ending} (h : PairFar w w' e) : PairFar w w'.drew e := by
  obtain ⟨o, rs, r, u, h1, h2, h3, h4, h5⟩ := h
  exact ⟨o, rs, r, u, h1, h2, h3, h4, h5.drew⟩
theorem PairFar.got {w w' : World} {e : Ending} (h : PairFar w w' e) : PairGot w w' e := by
  obtain ⟨o, rs, r, u, h1, h2, h3, h4, h5⟩ := h
  obtain ⟨h6, h7⟩ := h4 w' (fun k _ => rfl)
  exact ⟨o, rs, r, u, h1, h2, h6, h3, h7, h5⟩

set_option maxRecDepth 100000 in
set_option maxHeartbeats 8000000 in
theorem drawTMay_far (v : Value) (n : Nat) (w : World) (hv : CodeAt w v n) (hn : n ≤ 1048576) :
    Calls Tryd.prog 9 #[v] w fun e w' => PairFar w w' e := by
  obtain ⟨w0, hw0⟩ : ∃ W, Hid (W = w.alloc (.cells #[.int .i64 0, .int .i64 0, .slice none 0 0] 26)) := ⟨_, rfl⟩
  have B0 : Hid (Below w.heap.size w w0) := by show Below _ _ _; rw [hw0.out]; exact alloc_below _ _
  have Z0 : Hid (Blk w0 w.heap.size #[.int .i64 0, .int .i64 0, .slice none 0 0] 26) := by show Blk _ _ _ _; rw [hw0.out]; exact Blk.new w _ _
  have HO := hide_it (open_any v n w0 (hv.later B0.out (Nat.le_refl _)) hn)
  obtain ⟨ao, cap, rfl, _⟩ := hv
  go_enter Tryd.func9, Tryd.ntmps9
  go_wp2_with fail
  rw [← hw0.out]
  refine HO.out.mono ?_
  rintro e w1 ⟨rfl, hr1, hs1, hb1⟩
  obtain ⟨b, hbb⟩ : ∃ b, Hid (b = w0.heap.size) := ⟨_, rfl⟩
  rw [← hbb.out] at hr1 ⊢
  have hb1' : b < w1.heap.size := by rw [hbb.out, hs1]; omega
  have hzb : w.heap.size < b := by rw [hbb.out]; exact Z0.out.lt
  have R1 := hide_it hr1
  have B1 := hide_it (B0.out.trans (hb1.mono B0.out.size))
  have Z1 := hide_it (Z0.out.after hb1)
  have RES : Hid (∀ W, Mid b (b + 1) w1 W → Blk W w.heap.size #[.int .i64 0, .int .i64 0, .slice none 0 0] 26 ∧ Below w.heap.size w W) := fun W hm =>
    ⟨Z1.out.mid hm (Or.inl hzb), B1.out.trans (hm.below (by omega) B1.out.size)⟩
  clear hr1 hb1 hs1
  go_wp2_with fail
  refine (list_draw b 0 _ R1.out (by omega)).mono ?_
  rintro e w2 ⟨o, ps, q, rfl, hps, hq, hT⟩
  have S2 := hide_it hT
  obtain ⟨oa, oc, hos⟩ := row_shape hT.row
  subst hos
  clear hT
  go_wp2_with fail
  refine (many_draw b q _ S2.out.rd (by omega)).mono ?_
  rintro e w3 ⟨u, zs, q3, rfl, hzl, hF, hqa, hqb, r3, m3⟩
  have S3 := hide_it (S2.out.step m3 r3)
  have F3 := hide_it (hF.mono S2.out.mid.size)
  obtain ⟨g, off, hu⟩ : ∃ g off, u = .slice (some ⟨g, off, none⟩) zs.length zs.length := by obtain ⟨g, off, cs, h, _⟩ := hF; exact ⟨g, off, h⟩
  subst hu
  clear hF r3 m3
  obtain ⟨X, hX⟩ : ∃ X, Hid (w3.heap.size = X) := ⟨_, rfl⟩
  obtain ⟨w4, hw4⟩ : ∃ W, Hid (W = w3.alloc (.cells #[.int .i64 4, .int .i64 ((ps.length : Int) + 1), .slice (some ⟨g, off, none⟩) zs.length zs.length] 26)) := ⟨_, rfl⟩
  have b4 : Below w3.heap.size w3 w4 := by rw [hw4.out]; exact alloc_below _ _
  have S4 := hide_it (S3.out.later b4)
  have X4 : Hid (BoxT w1 w4 X (4, (ps.length : Int) + 1, zs) (.slice (some ⟨g, off, none⟩) zs.length zs.length) (.slice none 0 0)) := by
    refine ⟨?_, by rw [← hX.out]; exact S3.out.mid.size, fun g hg => by simp [Value.ownBlock] at hg, ⟨by show zs.length ≤ 4; omega, Or.inl ⟨_, F3.out.later b4 (Nat.le_refl _)⟩⟩, ⟨_, _, _, rfl⟩⟩
    rw [hw4.out, ← hX.out]; exact heap_alloc_new w3 _
  clear b4
  have hbw1 := hb1'
  go_wp2
  rw [hX.out, ← hw4.out]
  go_loopw [7] (fun i wr => ∃ (j q' : Nat) (r : R) (x : Value), j ≤ 4 ∧ i = .int .i64 j ∧ q' ≤ 200 + 3 * j ∧ Hid (TrS w1 wr b q' (.slice oa ps.length oc) ps) ∧ Hid (BoxT w1 wr X r x (.slice none 0 0))) (fun i _ => 4 - (intOf i).toNat)
  case atStart => exact ⟨0, q3, _, _, by omega, rfl, by omega, S4, X4⟩
  case round =>
    obtain ⟨j, q', r, x, hj, rfl, hq', HS, HX⟩ := hrel
    obtain ⟨xa, xn, xc, hxs⟩ := HX.out.sl
    subst hxs
    by_cases hj4 : ¬ (j : Int) < 4
    · go_wp2_with fail
      refine (pick_any b q' 12 _ HS.out.rd (by omega) (by omega) (by omega)).mono ?_
      rintro e w8 ⟨y8, rfl, l8, u8', r8, m8⟩
      have S8 := hide_it (HS.out.step m8 r8)
      have X8 := hide_it (HX.out.mid m8 HS.out.rd HS.out.low)
      clear r8 m8
      by_cases hy8 : y8 = 0
      · subst hy8
        go_wp2_with fail
        refine (rec_draw b (q' + 1) _ S8.out.rd (by omega)).mono ?_
        rintro e w9 ⟨k9, t9, u9, zs9, q9, cap9, rfl, hz9, hF9, hqa9, hqb9, r9, m9⟩
        have S9 := hide_it (S8.out.step m9 r9)
        have X9 := hide_it (X8.out.mid m9 S8.out.rd S8.out.low)
        have hsl9 : ∃ a n c, u9 = .slice a n c := by obtain ⟨g, off, cs, h, _⟩ := hF9; exact ⟨_, _, _, h⟩
        have PT := X9.out.put (r' := (k9, t9, zs9)) S9.out ⟨hz9, Or.inl ⟨cap9, hF9.mono S8.out.mid.size⟩⟩ hsl9
        obtain ⟨w10, hw10⟩ : ∃ W, Hid (W = ((w9.setCell ⟨X, 0, none⟩ (.int .i64 k9)).setCell ⟨X, 1, none⟩ (.int .i64 t9)).setCell ⟨X, 2, none⟩ u9) := ⟨_, rfl⟩
        have S10 : Hid (TrS w1 w10 b q9 (.slice oa ps.length oc) ps) := by show TrS _ _ _ _ _ _; rw [hw10.out]; exact PT.1
        have X10 : Hid (BoxT w1 w10 X (k9, t9, zs9) u9 (.slice none 0 0)) := by show BoxT _ _ _ _ _ _; rw [hw10.out]; exact PT.2
        obtain ⟨a9, n9, c9, hu9⟩ := hsl9
        subst hu9
        obtain ⟨y0, y1, y2⟩ := Blk.cells3 X9.out.own
        obtain ⟨fy0, fy1, fy2, -, -⟩ := Blk.free5 X9.out.own
        clear hF9 r9 m9 PT
        go_upto_region 12 with fail
        rw [← hw10.out]
        obtain ⟨x0, x1, x2⟩ := Blk.cells3 X10.out.own
        obtain ⟨hZr, hBr⟩ := RES.out _ S10.out.mid
        obtain ⟨z0, z1, z2⟩ := hZr.cells3
        obtain ⟨f0, f1, f2, -, -⟩ := hZr.free5
        have hXB : X ≠ w.heap.size := by have := X10.out.new; omega
        have hBX : w.heap.size ≠ X := fun e => hXB e.symm
        have hXl := heap_lt X10.out.own
        have OUT := hide_it (pair_out S10.out X10.out (by omega) hZr (Nat.le_refl _) (by omega) hBr)
        go_wp2
        go_region
        all_goals
          try go_wp2
          refine bodyPost_ret (v := .tuple #[.slice oa ps.length oc, .agg #[.int .i64 ((k9, t9, zs9) : R).1, .int .i64 ((k9, t9, zs9) : R).2.1, (.slice a9 n9 c9)]]) (by simp [results, Tryd.results9, go_sem, z0, z1, z2]) rfl ?_
          first | exact OUT.out | exact OUT.out.drew | exact OUT.out.drew.drew
      · go_upto_region 12 with fail
        obtain ⟨x0, x1, x2⟩ := Blk.cells3 X8.out.own
        obtain ⟨hZr, hBr⟩ := RES.out _ S8.out.mid
        obtain ⟨z0, z1, z2⟩ := hZr.cells3
        obtain ⟨f0, f1, f2, -, -⟩ := hZr.free5
        have hXB : X ≠ w.heap.size := by have := X8.out.new; omega
        have hBX : w.heap.size ≠ X := fun e => hXB e.symm
        have hXl := heap_lt X8.out.own
        have OUT := hide_it (pair_out S8.out X8.out (by omega) hZr (Nat.le_refl _) (by omega) hBr)
        go_wp2
        go_region
        all_goals
          try go_wp2
          refine bodyPost_ret (v := .tuple #[.slice oa ps.length oc, .agg #[.int .i64 r.1, .int .i64 r.2.1, (.slice xa xn xc)]]) (by simp [results, Tryd.results9, go_sem, z0, z1, z2]) rfl ?_
          first | exact OUT.out | exact OUT.out.drew | exact OUT.out.drew.drew
    have hj4' : (j : Int) < 4 := by omega
    by_cases hpos : ¬ 0 < (ps.length : Int)
    · go_wp2_with fail
      refine (pick_any b q' 12 _ HS.out.rd (by omega) (by omega) (by omega)).mono ?_
      rintro e w8 ⟨y8, rfl, l8, u8', r8, m8⟩
      have S8 := hide_it (HS.out.step m8 r8)
      have X8 := hide_it (HX.out.mid m8 HS.out.rd HS.out.low)
      clear r8 m8
      by_cases hy8 : y8 = 0
      · subst hy8
        go_wp2_with fail
        refine (rec_draw b (q' + 1) _ S8.out.rd (by omega)).mono ?_
        rintro e w9 ⟨k9, t9, u9, zs9, q9, cap9, rfl, hz9, hF9, hqa9, hqb9, r9, m9⟩
        have S9 := hide_it (S8.out.step m9 r9)
        have X9 := hide_it (X8.out.mid m9 S8.out.rd S8.out.low)
        have hsl9 : ∃ a n c, u9 = .slice a n c := by obtain ⟨g, off, cs, h, _⟩ := hF9; exact ⟨_, _, _, h⟩
        have PT := X9.out.put (r' := (k9, t9, zs9)) S9.out ⟨hz9, Or.inl ⟨cap9, hF9.mono S8.out.mid.size⟩⟩ hsl9
        obtain ⟨w10, hw10⟩ : ∃ W, Hid (W = ((w9.setCell ⟨X, 0, none⟩ (.int .i64 k9)).setCell ⟨X, 1, none⟩ (.int .i64 t9)).setCell ⟨X, 2, none⟩ u9) := ⟨_, rfl⟩
        have S10 : Hid (TrS w1 w10 b q9 (.slice oa ps.length oc) ps) := by show TrS _ _ _ _ _ _; rw [hw10.out]; exact PT.1
        have X10 : Hid (BoxT w1 w10 X (k9, t9, zs9) u9 (.slice none 0 0)) := by show BoxT _ _ _ _ _ _; rw [hw10.out]; exact PT.2
        obtain ⟨a9, n9, c9, hu9⟩ := hsl9
        subst hu9
        obtain ⟨y0, y1, y2⟩ := Blk.cells3 X9.out.own
        obtain ⟨fy0, fy1, fy2, -, -⟩ := Blk.free5 X9.out.own
        clear hF9 r9 m9 PT
        go_upto_region 12 with fail
        rw [← hw10.out]
        obtain ⟨x0, x1, x2⟩ := Blk.cells3 X10.out.own
        obtain ⟨hZr, hBr⟩ := RES.out _ S10.out.mid
        obtain ⟨z0, z1, z2⟩ := hZr.cells3
        obtain ⟨f0, f1, f2, -, -⟩ := hZr.free5
        have hXB : X ≠ w.heap.size := by have := X10.out.new; omega
        have hBX : w.heap.size ≠ X := fun e => hXB e.symm
        have hXl := heap_lt X10.out.own
        have OUT := hide_it (pair_out S10.out X10.out (by omega) hZr (Nat.le_refl _) (by omega) hBr)
        go_wp2
        go_region
        all_goals
          try go_wp2
          refine bodyPost_ret (v := .tuple #[.slice oa ps.length oc, .agg #[.int .i64 ((k9, t9, zs9) : R).1, .int .i64 ((k9, t9, zs9) : R).2.1, (.slice a9 n9 c9)]]) (by simp [results, Tryd.results9, go_sem, z0, z1, z2]) rfl ?_
          first | exact OUT.out | exact OUT.out.drew | exact OUT.out.drew.drew
      · go_upto_region 12 with fail
        obtain ⟨x0, x1, x2⟩ := Blk.cells3 X8.out.own
        obtain ⟨hZr, hBr⟩ := RES.out _ S8.out.mid
        obtain ⟨z0, z1, z2⟩ := hZr.cells3
        obtain ⟨f0, f1, f2, -, -⟩ := hZr.free5
        have hXB : X ≠ w.heap.size := by have := X8.out.new; omega
        have hBX : w.heap.size ≠ X := fun e => hXB e.symm
        have hXl := heap_lt X8.out.own
        have OUT := hide_it (pair_out S8.out X8.out (by omega) hZr (Nat.le_refl _) (by omega) hBr)
        go_wp2
        go_region
        all_goals
          try go_wp2
          refine bodyPost_ret (v := .tuple #[.slice oa ps.length oc, .agg #[.int .i64 r.1, .int .i64 r.2.1, (.slice xa xn xc)]]) (by simp [results, Tryd.results9, go_sem, z0, z1, z2]) rfl ?_
          first | exact OUT.out | exact OUT.out.drew | exact OUT.out.drew.drew
    have hpos1 : 0 < (ps.length : Int) := by omega
    go_wp2_with fail
    refine (pick_any b q' 5 _ HS.out.rd (by omega) (by omega) (by omega)).mono ?_
    rintro e w5 ⟨y5, rfl, l5, u5', r5, m5⟩
    have S5 := hide_it (HS.out.step m5 r5)
    have X5 := hide_it (HX.out.mid m5 HS.out.rd HS.out.low)
    clear r5 m5
    by_cases hy5 : ¬ 0 < y5
    · have hy50 : y5 = 0 := by omega
      subst hy50
      go_wp2_with fail
      refine (pick_any b (q' + 1) 12 _ S5.out.rd (by omega) (by omega) (by omega)).mono ?_
      rintro e w8 ⟨y8, rfl, l8, u8', r8, m8⟩
      have S8 := hide_it (S5.out.step m8 r8)
      have X8 := hide_it (X5.out.mid m8 S5.out.rd S5.out.low)
      clear r8 m8
      by_cases hy8 : y8 = 0
      · subst hy8
        go_wp2_with fail
        refine (rec_draw b ((q' + 1) + 1) _ S8.out.rd (by omega)).mono ?_
        rintro e w9 ⟨k9, t9, u9, zs9, q9, cap9, rfl, hz9, hF9, hqa9, hqb9, r9, m9⟩
        have S9 := hide_it (S8.out.step m9 r9)
        have X9 := hide_it (X8.out.mid m9 S8.out.rd S8.out.low)
        have hsl9 : ∃ a n c, u9 = .slice a n c := by obtain ⟨g, off, cs, h, _⟩ := hF9; exact ⟨_, _, _, h⟩
        have PT := X9.out.put (r' := (k9, t9, zs9)) S9.out ⟨hz9, Or.inl ⟨cap9, hF9.mono S8.out.mid.size⟩⟩ hsl9
        obtain ⟨w10, hw10⟩ : ∃ W, Hid (W = ((w9.setCell ⟨X, 0, none⟩ (.int .i64 k9)).setCell ⟨X, 1, none⟩ (.int .i64 t9)).setCell ⟨X, 2, none⟩ u9) := ⟨_, rfl⟩
        have S10 : Hid (TrS w1 w10 b q9 (.slice oa ps.length oc) ps) := by show TrS _ _ _ _ _ _; rw [hw10.out]; exact PT.1
        have X10 : Hid (BoxT w1 w10 X (k9, t9, zs9) u9 (.slice none 0 0)) := by show BoxT _ _ _ _ _ _; rw [hw10.out]; exact PT.2
        obtain ⟨a9, n9, c9, hu9⟩ := hsl9
        subst hu9
        obtain ⟨y0, y1, y2⟩ := Blk.cells3 X9.out.own
        obtain ⟨fy0, fy1, fy2, -, -⟩ := Blk.free5 X9.out.own
        clear hF9 r9 m9 PT
        go_upto_region 12 with fail
        rw [← hw10.out]
        obtain ⟨x0, x1, x2⟩ := Blk.cells3 X10.out.own
        obtain ⟨hZr, hBr⟩ := RES.out _ S10.out.mid
        obtain ⟨z0, z1, z2⟩ := hZr.cells3
        obtain ⟨f0, f1, f2, -, -⟩ := hZr.free5
        have hXB : X ≠ w.heap.size := by have := X10.out.new; omega
        have hBX : w.heap.size ≠ X := fun e => hXB e.symm
        have hXl := heap_lt X10.out.own
        have OUT := hide_it (pair_out S10.out X10.out (by omega) hZr (Nat.le_refl _) (by omega) hBr)
        go_wp2
        go_region
        all_goals
          try go_wp2
          refine bodyPost_ret (v := .tuple #[.slice oa ps.length oc, .agg #[.int .i64 ((k9, t9, zs9) : R).1, .int .i64 ((k9, t9, zs9) : R).2.1, (.slice a9 n9 c9)]]) (by simp [results, Tryd.results9, go_sem, z0, z1, z2]) rfl ?_
          first | exact OUT.out | exact OUT.out.drew | exact OUT.out.drew.drew
      · go_upto_region 12 with fail
        obtain ⟨x0, x1, x2⟩ := Blk.cells3 X8.out.own
        obtain ⟨hZr, hBr⟩ := RES.out _ S8.out.mid
        obtain ⟨z0, z1, z2⟩ := hZr.cells3
        obtain ⟨f0, f1, f2, -, -⟩ := hZr.free5
        have hXB : X ≠ w.heap.size := by have := X8.out.new; omega
        have hBX : w.heap.size ≠ X := fun e => hXB e.symm
        have hXl := heap_lt X8.out.own
        have OUT := hide_it (pair_out S8.out X8.out (by omega) hZr (Nat.le_refl _) (by omega) hBr)
        go_wp2
        go_region
        all_goals
          try go_wp2
          refine bodyPost_ret (v := .tuple #[.slice oa ps.length oc, .agg #[.int .i64 r.1, .int .i64 r.2.1, (.slice xa xn xc)]]) (by simp [results, Tryd.results9, go_sem, z0, z1, z2]) rfl ?_
          first | exact OUT.out | exact OUT.out.drew | exact OUT.out.drew.drew
    have hy51 : 0 < y5 := by omega
    go_wp2_with fail
    refine (pick_any b (q' + 1) 3 _ S5.out.rd (by omega) (by omega) (by omega)).mono ?_
    rintro e w6 ⟨y6, rfl, l6, u6', r6, m6⟩
    have S6 := hide_it (S5.out.step m6 r6)
    have X6 := hide_it (X5.out.mid m6 S5.out.rd S5.out.low)
    clear r6 m6
    go_wp2_with fail
    refine (pick_any b (q' + 1 + 1) ps.length _ S6.out.rd (by omega) (by omega) (by omega)).mono ?_
    rintro e w7 ⟨y7, rfl, l7, u7', r7, m7⟩
    have S7 := hide_it (S6.out.step m7 r7)
    have X7 := hide_it (X6.out.mid m7 S6.out.rd S6.out.low)
    clear r7 m7
    obtain ⟨Y, hY⟩ : ∃ Y, Hid (w7.heap.size = Y) := ⟨_, rfl⟩
    obtain ⟨v70, v71, v72⟩ := Blk.cells3 X7.out.own
    obtain ⟨f70, f71, f72, -, -⟩ := Blk.free5 X7.out.own
    have hX7 := heap_lt X7.out.own
    obtain ⟨w8a, hw8a⟩ : ∃ W, Hid (W = (((w7.setCell ⟨X, 0, none⟩ (.int .i64 (5 + y6))).setCell ⟨X, 1, none⟩ (.int .i64 (1 + y7))).setCell ⟨X, 2, none⟩ (.slice (some ⟨Y, 0, none⟩) 0 0)).alloc (.cells #[] 3)) := ⟨_, rfl⟩
    have TU := X7.out.turnR S7.out (5 + y6) (1 + y7) hY.out
    have S8a : Hid (TrS w1 w8a b (q' + 3) (.slice oa ps.length oc) ps) := by show TrS _ _ _ _ _ _; rw [hw8a.out]; exact TU.1
    have X8a : Hid (BoxT w1 w8a X (5 + y6, 1 + y7, []) (.slice (some ⟨Y, 0, none⟩) 0 0) (.slice none 0 0)) := by show BoxT _ _ _ _ _ _; rw [hw8a.out]; exact TU.2
    clear TU
    obtain ⟨hRR, hTT⟩ := S8a.out.out (by omega)
    have HMY := hide_it (T.specMay_any (.slice oa ps.length oc) (ps.map (·.1)) (5 + y6, 1 + y7, []) (.slice (some ⟨Y, 0, none⟩) 0 0) w8a hRR (by omega) X8a.out.many.ints (by simp))
    obtain ⟨BB, hBB⟩ : ∃ x, T.tMay (ps.map (·.1)) (5 + y6, 1 + y7, []) = x := ⟨_, rfl⟩
    rw [hBB] at HMY
    clear hBB hRR hTT
    go_upto_region 8 with fail
    rw [hY.out, ← hw8a.out]
    clear v70 v71 v72 f70 f71 f72
    obtain ⟨v80, v81, v82⟩ := Blk.cells3 X8a.out.own
    go_wp2_with fail
    refine HMY.out.mono ?_
    rintro e w9 ⟨rfl, hb9⟩
    have S9 := hide_it (S8a.out.later hb9)
    have X9 := hide_it (X8a.out.later hb9)
    clear hb9 v80 v81 v82
    cases BB
    · go_wp2_with fail
      go_roundw
      case rel => exact ⟨j + 1, q' + 3, _, _, by omega, by go_num, by omega, S9, X9⟩
      case measure => simp [intOf]; omega
    · go_upto_region 9 with fail
      obtain ⟨x0, x1, x2⟩ := Blk.cells3 X9.out.own
      obtain ⟨hZr, hBr⟩ := RES.out _ S9.out.mid
      obtain ⟨z0, z1, z2⟩ := hZr.cells3
      obtain ⟨f0, f1, f2, -, -⟩ := hZr.free5
      have hXB : X ≠ w.heap.size := by have := X9.out.new; omega
      have hBX : w.heap.size ≠ X := fun e => hXB e.symm
      have hXl := heap_lt X9.out.own
      have OUT := hide_it (pair_out S9.out X9.out (by omega) hZr (Nat.le_refl _) (by omega) hBr)
      go_wp2
      go_region
      all_goals
        try go_wp2
        refine bodyPost_ret (v := .tuple #[.slice oa ps.length oc, .agg #[.int .i64 ((5 + y6, 1 + y7, []) : R).1, .int .i64 ((5 + y6, 1 + y7, []) : R).2.1, (.slice (some ⟨Y, 0, none⟩) 0 0)]]) (by simp [results, Tryd.results9, go_sem, z0, z1, z2]) rfl ?_
        first | exact OUT.out | exact OUT.out.drew | exact OUT.out.drew.drew

theorem drawTMay_any (v : Value) (n : Nat) (w : World) (hv : CodeAt w v n) (hn : n ≤ 1048576) :
    Calls Tryd.prog 9 #[v] w fun e w' => PairGot w w' e := (drawTMay_far v n w hv hn).mono fun _ _ h => h.got

end Go.Proofs.YtickjfpbaknlmaaDoor

namespace Go.Proofs.YtickjfpbaknlmaaDoor
open Go.RowKit

theorem T.tMay_ok {rs : List T.R} {r : Rc} (h1 : T.tripsOk rs = true) (h2 : rOk r = true) : T.tMay rs r = T.mayL rs r := by unfold T.tMay; rw [h1, h2]; rfl
theorem T.may5 {rs : List T.R} {t : Int} {zs : List Int} : T.mayL rs (5, t, zs) = ((T.tripAt rs t).2 == 1) := by
  unfold T.mayL
  rw [if_neg (by show ¬ (_ : Int) = 4; simp)]
  dsimp only
  by_cases h : (T.tripAt rs t).2 = 1 <;> simp [T.nextS, h]
theorem T.may6 {rs : List T.R} {t : Int} {zs : List Int} : T.mayL rs (6, t, zs) = ((T.tripAt rs t).2 == 1) := by
  unfold T.mayL
  rw [if_neg (by show ¬ (_ : Int) = 4; simp)]
  dsimp only
  by_cases h : (T.tripAt rs t).2 = 1 <;> simp [T.nextS, h]
theorem T.may7 {rs : List T.R} {t : Int} {zs : List Int} : T.mayL rs (7, t, zs) = ((T.tripAt rs t).2 == 2 || (T.tripAt rs t).2 == 3) := by
  unfold T.mayL
  rw [if_neg (by show ¬ (_ : Int) = 4; simp)]
  dsimp only
  by_cases h : (T.tripAt rs t).2 = 2
  · simp [T.nextS, h]
  · by_cases h3 : (T.tripAt rs t).2 = 3 <;> simp [T.nextS, h, h3]
theorem T.mayx {rs : List T.R} {k t : Int} {zs : List Int} (h4 : k ≠ 4) (h5 : k ≠ 5) (h6 : k ≠ 6) (h7 : k ≠ 7) : T.mayL rs (k, t, zs) = false := by
  unfold T.mayL
  rw [if_neg h4]
  simp [T.nextS, h5, h6, h7]

end Go.Proofs.YtickjfpbaknlmaaDoor

namespace Go.Proofs.YtickjfpbaknlmaaDoor.T
open Go.RowKit

theorem tripsOk_mk {rs : List R} (h1 : rs.all tOk = true) (h2 : rs.length ≤ 6) : tripsOk rs = true := by unfold tripsOk; rw [h1]; simp [h2]
theorem tripsOk_all {rs : List R} (h : tripsOk rs = true) : rs.all tOk = true ∧ rs.length ≤ 6 := by
  unfold tripsOk at h
  simp only [Bool.and_eq_true, decide_eq_true_eq] at h
  exact h

/-- Ok trips behind a record that may come are ok. -/
theorem doL_ok {rs : List R} {r : Rc} (h : tripsOk rs = true) (h1 : rOk r = true) (h2 : mayL rs r = true) : tripsOk (doL rs r) = true := by
  obtain ⟨ha, hl⟩ := tripsOk_all h
  have hf := ((fit_ok h).doL h1 h2).1
  refine tripsOk_mk ?_ hf
  unfold doL
  by_cases h4 : r.1 = 4
  · rw [if_pos h4, List.all_append, ha]
    have : tOk (r.2.2, 1) = true := by unfold tOk; rw [rOk_begin h1 h4]; rfl
    simp [this]
  · rw [if_neg h4]
    obtain ⟨x, hx⟩ := mayL_at h2 h4
    have hn : nextS x.2 r.1 ≠ 0 := by
      unfold mayL at h2
      rw [if_neg h4, tripAt_get hx] at h2
      simpa using h2
    rw [tripAt_get hx]
    rw [List.all_eq_true]
    intro y hy
    rcases List.mem_or_eq_of_mem_set hy with hy | hy
    · exact List.all_eq_true.1 ha y hy
    · subst hy
      have hxo := List.all_eq_true.1 ha x (List.mem_of_getElem? hx)
      unfold tOk at hxo ⊢
      simp only [Bool.and_eq_true] at hxo ⊢
      have := nextS_nz hn
      exact ⟨hxo.1, Pl.inB_mk (by omega) (by omega)⟩

theorem runT_ok {qs : List Rc} {rs : List R} (h : runT qs = some rs) : tripsOk rs = true := by
  have key : ∀ k, k ≤ qs.length → ∀ rs, runT (qs.take k) = some rs → tripsOk rs = true := by
    intro k
    induction k with
    | zero => intro _ rs h; rw [List.take_zero, runT_nil] at h; cases h; rfl
    | succ k ih =>
      intro hk rs h
      have hg : qs[k]? = some qs[k] := List.getElem?_eq_getElem (by omega)
      rw [take_snoc hg, runT_snoc] at h
      cases hr : runT (qs.take k) with
      | none => rw [hr] at h; cases h
      | some xs =>
        rw [hr] at h
        have h' : stepT xs qs[k] = some rs := h
        unfold stepT at h'
        split at h'
        · next hb =>
          simp only [Option.some.injEq] at h'
          subst h'
          simp only [Bool.and_eq_true] at hb
          exact doL_ok (ih (by omega) xs hr) hb.1 hb.2
        · cases h'
  refine key qs.length (Nat.le_refl _) rs ?_
  rw [List.take_length]; exact h

theorem nextS_twice (s k : Int) : nextS (nextS s k) k = 0 := by
  unfold nextS
  by_cases a : k = 5 ∧ s = 1
  · rw [if_pos a]; simp [a.1]
  rw [if_neg a]
  by_cases b : k = 6 ∧ s = 1
  · rw [if_pos b]; simp [b.1]
  rw [if_neg b]
  by_cases c : k = 7 ∧ s = 2
  · rw [if_pos c]; simp
  rw [if_neg c]
  by_cases d : k = 7 ∧ s = 3
  · rw [if_pos d]; simp
  rw [if_neg d]
  simp

/-- What came does not come again. -/
theorem again_no {rs : List R} {r : Rc} (h1 : rOk r = true) (h2 : mayL rs r = true) : mayL (doL rs r) r = false := by
  obtain ⟨k, t, zs⟩ := r
  obtain ⟨ht1, _⟩ := rOk_trip h1
  dsimp only at ht1
  by_cases h4 : k = 4
  · subst h4
    rw [mayL_4] at h2
    simp at h2
    rw [show doL rs (4, t, zs) = rs ++ [(zs, 1)] by unfold doL; rw [if_pos rfl], mayL_4]
    simp; omega
  · obtain ⟨x, hx⟩ := mayL_at h2 h4
    dsimp only at hx
    have hl := len_lt hx
    have hd : doL rs (k, t, zs) = rs.set (t - 1).toNat (x.1, nextS x.2 k) := by
      unfold doL
      rw [if_neg h4]
      dsimp only
      rw [tripAt_get hx]
    rw [hd, mayL_at' h4 (x := (x.1, nextS x.2 k)) (by rw [List.getElem?_set, if_pos rfl, if_pos hl]), nextS_twice]
    rfl

end Go.Proofs.YtickjfpbaknlmaaDoor.T

namespace Go.Proofs.YtickjfpbaknlmaaDoor
open Go.RowKit

set_option maxHeartbeats 4000000 in
theorem lnTrips_any (v1 v2 : Value) (rs : List T.R) (w : World) (h1 : T.Recs w v1 rs) (h2 : T.Recs w v2 rs) (hl : T.tot rs ≤ 1048576) :
    Calls Tryd.prog 17 #[v1, v2] w fun e w' => e = .returned (.bool true) ∧ Below w.heap.size w w' := by
  have hlen := T.tot_len rs
  have HM : Hid (∀ r ∈ rs, r.1.length ≤ 1048576) := fun r hr => Nat.le_trans (T.tot_mem rs r hr) hl
  rcases h1 with ⟨rfl, ao, cap, rfl⟩ | ⟨b, off, cap, rfl, hz, hc⟩
  · obtain ⟨ao2, cap2, rfl⟩ := h2.shape
    clear h2
    go_enter Tryd.func17, Tryd.ntmps17
    go_wp2
    refine wp_loop_rounds 1 ?_
    rw [rounds_succ]
    go_wp2
    go_ret
    exact ⟨rfl, Below.refl _ _⟩
  rcases h2 with ⟨h, _⟩ | ⟨b2, off2, cap2, rfl, _, hc2⟩
  · exact absurd h hz
  have HC : Hid (∀ i r, rs[i]? = some r → ∃ u, T.RecCells w b (off + i * 2) r u) := hc
  have HC2 : Hid (∀ i r, rs[i]? = some r → ∃ u, T.RecCells w b2 (off2 + i * 2) r u) := hc2
  have hzl : 0 < rs.length := List.length_pos_iff.2 hz
  clear hc hc2 hz
  go_enter Tryd.func17, Tryd.ntmps17
  go_wp2
  go_loopw [5] (fun i wr => ∃ k : Nat, k ≤ rs.length ∧ i = .int .i64 k ∧ Below w.heap.size w wr) (fun i _ => rs.length - (intOf i).toNat)
  case atStart => exact ⟨0, Nat.zero_le _, rfl, Below.refl _ _⟩
  case round =>
    obtain ⟨k, hk, rfl, hbe⟩ := hrel
    by_cases hlt : k < rs.length
    · obtain ⟨r, hr⟩ : ∃ r, Hid (rs[k]? = some r) := ⟨rs[k], by show _ = _; simp [hlt]⟩
      have hrl : r.1.length ≤ 1048576 := HM.out r (List.mem_of_getElem? hr.out)
      obtain ⟨u, hu⟩ := HC.out k r hr.out
      obtain ⟨u', hu'⟩ := HC2.out k r hr.out
      have RC := hide_it (hu.later hbe (Nat.le_refl _))
      have RC' := hide_it (hu'.later hbe (Nat.le_refl _))
      obtain ⟨c0, c1, hI⟩ := RC.out
      obtain ⟨d0, d1, hJ⟩ := RC'.out
      have HI := hide_it hI
      have HJ := hide_it hJ
      have hli : (k : Int) < (rs.length : Int) := by omega
      have HB := hide_it hbe
      clear hbe hI hJ hu hu'
      go_wp2
      first
        | (go_region_held (fun w' => w'.cell? ⟨b, off + k * 2, none⟩ = some u ∧ w'.cell? ⟨b, off + k * 2 + 1, none⟩ = some (.int .i64 r.2) ∧ w'.cell? ⟨b2, off2 + k * 2, none⟩ = some u' ∧ w'.cell? ⟨b2, off2 + k * 2 + 1, none⟩ = some (.int .i64 r.2)) (go_keep)
            ((go_at_call 21; refine (lnInts_any _ _ r.1 _ (HI.out.later (Below.refl _ _).drew (Nat.le_refl _)) (HJ.out.later (Below.refl _ _).drew (Nat.le_refl _)) hrl).mono ?_; rintro e w2 ⟨rfl, hb2⟩; have N2 := (Below.refl wr.heap.size wr).drew.trans hb2; obtain ⟨e0, e1, -⟩ := RC.out.later N2 (Nat.le_refl _); obtain ⟨e2, e3, -⟩ := RC'.out.later N2 (Nat.le_refl _); have HB2 := hide_it (HB.out.trans (N2.mono HB.out.size)); clear hb2 N2)))
        | fail
      go_wp2
      go_roundw
      case rel => exact ⟨k + 1, by omega, by go_num, HB2.out⟩
      case measure => simp [intOf]; omega
    · go_wp2
      go_ret
      exact ⟨rfl, hbe⟩

end Go.Proofs.YtickjfpbaknlmaaDoor

namespace Go.Proofs.YtickjfpbaknlmaaDoor

/-- An operation is taken first, its slot written out. -/
theorem takeD {P : Program} {md : Region.Mode} {ops : Array Oper} {Q : Exit → Act → World → Prop} {S : World → Prop} {i : Nat} {oi : Oper} {v : Value} {fuel : Nat} {listed : Array Bool} {a : Act} {w : World} (d : Option Nat) (hi : ops[i]? = some oi) (hd : oi.dst = d)
    (hs : Region.noSelect ops = true) (hf : Region.free md ops listed i = true) (hr : (Region.ready md ops listed).contains i = true)
    (hQ : ∀ c a w, Q (.panic c) (a.put d v) w → Q (.panic c) a w) (hw : Region.wanted oi (yielded ops a.tmps) = true) (hS : S w) (hy : ∀ w, S w → (execOp a.eval oi).run P w = .ok (.value v) w)
    (h : wpAnyH P md ops Q S fuel (listed.setIfInBounds i true) (a.put d v) w) : wpAnyH P md ops Q S (fuel + 1) listed a w := by
  subst hd
  exact wpAnyH_take hi hs hf hr hQ (Or.inl ⟨hw, hy⟩) hS h

/-- An operation that its guard passes over is taken first, its slot written out. -/
theorem skipD {P : Program} {md : Region.Mode} {ops : Array Oper} {Q : Exit → Act → World → Prop} {S : World → Prop} {i : Nat} {oi : Oper} {fuel : Nat} {listed : Array Bool} {a : Act} {w : World} (d : Option Nat) (hi : ops[i]? = some oi) (hd : oi.dst = d)
    (hs : Region.noSelect ops = true) (hf : Region.free md ops listed i = true) (hr : (Region.ready md ops listed).contains i = true)
    (hQ : ∀ c a w, Q (.panic c) (a.put d undef) w → Q (.panic c) a w) (hw : Region.wanted oi (yielded ops a.tmps) = false) (hS : S w)
    (h : wpAnyH P md ops Q S fuel (listed.setIfInBounds i true) (a.put d undef) w) : wpAnyH P md ops Q S (fuel + 1) listed a w := by
  subst hd
  exact wpAnyH_take hi hs hf hr hQ (Or.inr ⟨hw, rfl⟩) hS h

/-- What holds behind every operation may be weakened. -/
theorem heldMono {P : Program} {md : Region.Mode} {ops : Array Oper} {Q : Exit → Act → World → Prop} {S S2 : World → Prop} (hS : ∀ w, S2 w → S w) :
    ∀ (fuel : Nat) (listed : Array Bool) (a : Act) (w : World), wpAnyH P md ops Q S2 fuel listed a w → wpAnyH P md ops Q S fuel listed a w
  | 0, _, _, _, h => h
  | fuel + 1, _, _, _, h => ⟨h.1, fun i hi => wpOp_mono (fun a' w' h' => ⟨hS _ h'.1, heldMono hS fuel _ a' w' h'.2⟩) (h.2 i hi)⟩

end Go.Proofs.YtickjfpbaknlmaaDoor

namespace Go.Proofs.YtickjfpbaknlmaaDoor
open Go.RowKit

set_option maxHeartbeats 2000000 in
theorem drawTDo_any (v : Value) (n : Nat) (w : World) (hv : CodeAt w v n) (hn : n ≤ 1048576) :
    Calls Tryd.prog 18 #[v] w fun e w' => PairGot w w' e := by
  obtain ⟨w0, hw0⟩ : ∃ W, Hid (W = w.alloc (.cells #[.int .i64 0, .int .i64 0, .slice none 0 0] 26)) := ⟨_, rfl⟩
  have B0 : Hid (Below w.heap.size w w0) := by show Below _ _ _; rw [hw0.out]; exact alloc_below _ _
  have Z0 : Hid (Blk w0 w.heap.size #[.int .i64 0, .int .i64 0, .slice none 0 0] 26) := by show Blk _ _ _ _; rw [hw0.out]; exact Blk.new w _ _
  have HO := hide_it (drawTMay_far v n w0 (hv.later B0.out (Nat.le_refl _)) hn)
  obtain ⟨ao, cap, rfl, _⟩ := hv
  go_enter Tryd.func18, Tryd.ntmps18
  go_wp2_with fail
  rw [← hw0.out]
  refine HO.out.mono ?_
  rintro e w1 ⟨o, rs, r, u, rfl, htot, hrl, hfar, hb1⟩
  have Z1 := hide_it (Z0.out.after hb1)
  obtain ⟨z0, z1, z2⟩ := Z1.out.cells3
  obtain ⟨f0, f1, f2, -, -⟩ := Z1.out.free5
  have B1 := hide_it (B0.out.trans (hb1.mono B0.out.size))
  obtain ⟨hR, hI⟩ := hfar w1 (fun k _ => rfl)
  obtain ⟨oa, oc, hos⟩ := hR.shape
  obtain ⟨ua, uc, hus⟩ := hI.shape
  subst hos hus
  have HFAR := hide_it hfar
  have hwl := Z0.out.lt
  have hbz := Z1.out.lt
  clear hR hI hb1 hfar
  go_wp2
  refine bodyPost_ret (v := .tuple #[.slice oa rs.length oc, .agg #[.int .i64 r.1, .int .i64 r.2.1, .slice ua r.2.2.length uc]]) (by simp [results, Tryd.results18, go_sem, z0, z1, z2]) rfl ?_
  obtain ⟨h6, h7⟩ := HFAR.out (((w1.setCell ⟨w.heap.size, 0, none⟩ (.int .i64 r.1)).setCell ⟨w.heap.size, 1, none⟩ (.int .i64 r.2.1)).setCell ⟨w.heap.size, 2, none⟩ (.slice ua r.2.2.length uc)) (fun k hk => by
    have hne : k ≠ w.heap.size := by omega
    rw [Below.heap_setCell _ _ _ _ hne, Below.heap_setCell _ _ _ _ hne, Below.heap_setCell _ _ _ _ hne])
  exact ⟨_, rs, r, _, rfl, htot, h6, hrl, h7, ((B1.out.setCell (Nat.le_refl _) _).setCell (Nat.le_refl _) _).setCell (Nat.le_refl _) _⟩

theorem plainOk {k t : Int} (hk : k = 5 ∨ k = 6 ∨ k = 7) (h1 : 1 ≤ t) (h6 : t ≤ 6) : rOk (k, t, []) = true := by
  show Pl.recOk k t [] = true
  unfold Pl.recOk
  rw [Pl.inB_mk h1 h6]
  rcases hk with rfl | rfl | rfl <;> rfl

set_option maxRecDepth 100000 in
set_option maxHeartbeats 8000000 in
theorem lawP45_small (v : Value) (n : Nat) (a : Addr) (w : World) (hv : CodeAt w v n) (hn : n ≤ 1048576) (ha : ErrAt w a) :
    Calls Tryd.prog 7 #[v] w fun e w' => e = .returned (.bool true) ∧ Below w.heap.size w w' := by
  have HO := hide_it (drawTDo_any v n w hv hn)
  have HAe : Hid (∀ W, Below w.heap.size w W → ErrAt W a) := fun W h => ha.later h (Nat.le_refl _)
  obtain ⟨ao, cap, rfl, _⟩ := hv
  clear ha
  have hni : ¬ (1048576 : Int) < (n : Int) := by omega
  go_enter Tryd.func7, Tryd.ntmps7
  go_wp2_with fail
  refine HO.out.mono ?_
  rintro e w1 ⟨o, rs, r, u, rfl, htot, hR, hrl, hI, hb1⟩
  obtain ⟨k, t, zs⟩ := r
  dsimp only at hrl hI ⊢
  have B1 := hide_it hb1
  have HR : Hid (∀ W, Below w1.heap.size w1 W → T.Recs W o rs) := fun W h => hR.later h (Nat.le_refl _)
  have HI : Hid (∀ W, Below w1.heap.size w1 W → Ints W u zs) := fun W h => hI.later h (Nat.le_refl _)
  obtain ⟨oa, oc, hos⟩ := hR.shape
  obtain ⟨ua, uc, hus⟩ := hI.shape
  subst hos hus
  have hrsl := T.tot_len rs
  clear hR hI hb1
  obtain ⟨w2, hw2⟩ : ∃ W, Hid (W = w1.alloc (.cells #[.int .i64 k, .int .i64 t, .slice ua zs.length uc] 26)) := ⟨_, rfl⟩
  have E2 : Hid (Below w1.heap.size w1 w2) := by show Below _ _ _; rw [hw2.out]; exact alloc_below _ _
  have X2 : Hid (Blk w2 w1.heap.size #[.int .i64 k, .int .i64 t, .slice ua zs.length uc] 26) := by show Blk _ _ _ _; rw [hw2.out]; exact Blk.new w1 _ _
  have FO := T.doO_fit rs (k, t, zs)
  have FT := FO.tot
  have F6 := FO.1
  clear FO
  obtain ⟨OO, hOO⟩ : ∃ x, T.doO rs (k, t, zs) = x := ⟨_, rfl⟩
  obtain ⟨BB, hBB⟩ : ∃ x, T.tMay rs (k, t, zs) = x := ⟨_, rfl⟩
  have HOO := hide_it hOO
  have HBB := hide_it hBB
  rw [hOO] at FT F6
  have HSP : Hid (∀ W, Below w1.heap.size w1 W → Calls Tryd.prog 19 #[.slice oa rs.length oc, .agg #[.int .i64 k, .int .i64 t, .slice ua zs.length uc]] W fun e w' => T.TrOut W w' e OO BB) := fun W h => by
    have := T.specDo_any _ rs (k, t, zs) _ W (HR.out W h) (by omega) (HI.out W h) (by dsimp only; omega)
    rw [hOO, hBB] at this; exact this
  have HIM : Hid (∀ W, Below w1.heap.size w1 W → Calls Tryd.prog 20 #[.slice oa rs.length oc, .agg #[.int .i64 k, .int .i64 t, .slice ua zs.length uc]] W fun e w' => T.TrOut W w' e OO BB) := fun W h => by
    have := T.implDo_any _ rs (k, t, zs) _ a W (HR.out W h) (by omega) (HI.out W h) (by dsimp only; omega) (HAe.out W (B1.out.trans (h.mono B1.out.size)))
    rw [hOO, hBB] at this; exact this
  clear hOO hBB
  go_wp2_with fail
  rw [← hw2.out]
  refine (HSP.out w2 E2.out).mono ?_
  rintro e w3 ⟨a3, c3, rfl, hm3, hb3⟩
  have E3 := hide_it (E2.out.trans (hb3.mono E2.out.size))
  have X3 := hide_it (X2.out.after hb3)
  have M3 := hide_it hm3.recs
  clear hm3 hb3
  obtain ⟨x30, x31, x32⟩ := X3.out.cells3
  go_wp2_with fail
  refine (HIM.out w3 E3.out).mono ?_
  rintro e w4 ⟨a4, c4, rfl, hm4, hb4⟩
  have E4 := hide_it (E3.out.trans (hb4.mono E3.out.size))
  have X4 := hide_it (X3.out.after hb4)
  have M4 := hide_it hm4.recs
  have V4 := hide_it (M3.out.later hb4 (Nat.le_refl _))
  clear hm4 hb4 x30 x31 x32
  cases BB
  · go_wp2_with fail
    refine (lnTrips_any _ _ OO w4 M4.out V4.out FT).mono ?_
    rintro e w5 ⟨rfl, hb5⟩
    have E5 := hide_it (E4.out.trans (hb5.mono E4.out.size))
    have M5 := hide_it (M4.out.later hb5 (Nat.le_refl _))
    have V5 := hide_it (V4.out.later hb5 (Nat.le_refl _))
    clear hb5
    go_wp2_with fail
    refine (lnTrips_any _ _ OO w5 M5.out V5.out FT).mono ?_
    rintro e w6 ⟨rfl, hb6⟩
    have B6 := hide_it (B1.out.trans ((E5.out.trans (hb6.mono E5.out.size)).mono B1.out.size))
    clear hb6
    go_wp2
    go_ret
    exact ⟨rfl, B6.out⟩
  have hmm : T.tripsOk rs = true ∧ rOk (k, t, zs) = true ∧ T.mayL rs (k, t, zs) = true := by
    have h := HBB.out
    unfold T.tMay at h
    simp only [Bool.and_eq_true] at h
    exact h
  have hOd : OO = T.doL rs (k, t, zs) := by rw [← HOO.out]; unfold T.doO; rw [HBB.out]; rfl
  have hOk : T.tripsOk OO = true := by rw [hOd]; exact T.doL_ok hmm.1 hmm.2.1 hmm.2.2
  obtain ⟨ht1, ht6⟩ := T.rOk_trip hmm.2.1
  dsimp only at ht1 ht6
  have hAg : T.tMay OO (k, t, zs) = false := by rw [T.tMay_ok hOk hmm.2.1, hOd]; exact T.again_no hmm.2.1 hmm.2.2
  have htl : t ≤ (OO.length : Int) := by
    rw [hOd]
    by_cases h4 : k = 4
    · subst h4
      have h2 := hmm.2.2
      rw [T.mayL_4] at h2
      rw [T.doL_begin rfl]
      simp at h2
      simp
      omega
    · obtain ⟨x, hx⟩ := T.mayL_at hmm.2.2 h4
      have := T.len_lt hx
      dsimp only at this
      unfold T.doL
      rw [if_neg h4, List.length_set]
      omega
  obtain ⟨S, hS⟩ : ∃ S, (T.tripAt OO t).2 = S := ⟨_, rfl⟩
  obtain ⟨i, hi⟩ : ∃ i : Nat, t = (i : Int) + 1 := ⟨(t - 1).toNat, by omega⟩
  subst hi
  have hil : i < OO.length := by omega
  have HTR : Hid (∀ (q : Int) (W : World), (q = 5 ∨ q = 6 ∨ q = 7) → Below w4.heap.size w4 W → Calls Tryd.prog 10 #[.slice a4 OO.length c4, .agg #[.int .i64 q, .int .i64 ((i : Int) + 1), .slice none 0 0]] W fun e w' => e = .returned (.bool (T.mayL OO (q, (i : Int) + 1, []))) ∧ Below W.heap.size W w') := fun q W hq h => by
    have := T.implMay_any _ OO (q, (i : Int) + 1, []) (.slice none 0 0) a W (M4.out.later h (Nat.le_refl _)) FT (Or.inl ⟨rfl, none, 0, rfl, fun _ => rfl⟩) (by simp) (HAe.out W (B1.out.trans ((E4.out.trans (h.mono E4.out.size)).mono B1.out.size)))
    rw [T.tMay_ok hOk (plainOk hq ht1 ht6)] at this
    exact this
  have H5 : Hid (∀ W, Below w4.heap.size w4 W → Calls Tryd.prog 10 #[.slice a4 OO.length c4, .agg #[.int .i64 5, .int .i64 ((i : Int) + 1), .slice none 0 0]] W fun e w' => e = .returned (.bool (S == 1)) ∧ Below W.heap.size W w') := fun W h => by
    have := HTR.out 5 W (Or.inl rfl) h; rw [T.may5, hS] at this; exact this
  have H6 : Hid (∀ W, Below w4.heap.size w4 W → Calls Tryd.prog 10 #[.slice a4 OO.length c4, .agg #[.int .i64 6, .int .i64 ((i : Int) + 1), .slice none 0 0]] W fun e w' => e = .returned (.bool (S == 1)) ∧ Below W.heap.size W w') := fun W h => by
    have := HTR.out 6 W (Or.inr (Or.inl rfl)) h; rw [T.may6, hS] at this; exact this
  have H7 : Hid (∀ W, Below w4.heap.size w4 W → Calls Tryd.prog 10 #[.slice a4 OO.length c4, .agg #[.int .i64 7, .int .i64 ((i : Int) + 1), .slice none 0 0]] W fun e w' => e = .returned (.bool (S == 2 || S == 3)) ∧ Below W.heap.size W w') := fun W h => by
    have := HTR.out 7 W (Or.inr (Or.inr rfl)) h; rw [T.may7, hS] at this; exact this
  have HR2 : Hid (∀ W, Below w4.heap.size w4 W → Calls Tryd.prog 10 #[.slice a4 OO.length c4, .agg #[.int .i64 k, .int .i64 ((i : Int) + 1), .slice ua zs.length uc]] W fun e w' => e = .returned (.bool false) ∧ Below W.heap.size W w') := fun W h => by
    have h1 := E4.out.trans (h.mono E4.out.size)
    have := T.implMay_any _ OO (k, (i : Int) + 1, zs) _ a W (M4.out.later h (Nat.le_refl _)) FT (HI.out W h1) (by dsimp only; omega) (HAe.out W (B1.out.trans (h1.mono B1.out.size)))
    rw [hAg] at this; exact this
  obtain ⟨gb, goff, hga, HST⟩ : ∃ gb goff : Nat, a4 = some ⟨gb, goff, none⟩ ∧ Hid (∀ W, Below w4.heap.size w4 W → W.cell? ⟨gb, goff + i * 2 + 1, none⟩ = some (.int .i64 S)) := by
    rcases M4.out with ⟨h0, _⟩ | ⟨b, off, cap', hvv, _, hcl⟩
    · rw [h0] at hil; simp at hil
    simp only [Value.slice.injEq] at hvv
    obtain ⟨y, c0, c1, _⟩ := hcl i OO[i] (List.getElem?_eq_getElem hil)
    refine ⟨b, off, hvv.1, fun W h => ?_⟩
    rw [T.cellBelow c1 h (World.block_lt_of_cell? _ _ c1), ← hS, T.tripAt_get (by rw [show ((i : Int) + 1 - 1).toNat = i by omega]; exact List.getElem?_eq_getElem hil)]
  subst hga
  clear hmm hOd hAg htl HTR hOk
  go_wp2_with fail
  refine (lnTrips_any _ _ OO w4 M4.out V4.out FT).mono ?_
  rintro e w5 ⟨rfl, hb5⟩
  have N5 := hide_it hb5
  have X5 := hide_it (X4.out.after hb5)
  clear hb5
  obtain ⟨x50, x51, x52⟩ := X5.out.cells3
  go_wp2_with fail
  refine (H5.out w5 N5.out).mono ?_
  rintro e w6 ⟨rfl, hb6⟩
  have N6 := hide_it (N5.out.trans (hb6.mono N5.out.size))
  have X6 := hide_it (X5.out.after hb6)
  clear hb6 x50 x51 x52
  obtain ⟨x60, x61, x62⟩ := X6.out.cells3
  go_wp2_with fail
  refine (H6.out w6 N6.out).mono ?_
  rintro e w7 ⟨rfl, hb7⟩
  have N7 := hide_it (N6.out.trans (hb7.mono N6.out.size))
  have X7 := hide_it (X6.out.after hb7)
  clear hb7 x60 x61 x62
  obtain ⟨x70, x71, x72⟩ := X7.out.cells3
  go_wp2_with fail
  refine (H7.out w7 N7.out).mono ?_
  rintro e w8 ⟨rfl, hb8⟩
  have N8 := hide_it (N7.out.trans (hb8.mono N7.out.size))
  have X8 := hide_it (X7.out.after hb8)
  clear hb8 x70 x71 x72
  obtain ⟨x80, x81, x82⟩ := X8.out.cells3
  have gc := HST.out w8 N8.out
  have HSS := hide_it hS
  clear hS
  by_cases s1 : S = 1
  · subst s1
    go_wp2_with fail
    refine (HR2.out w8 N8.out).mono ?_
    rintro e w9 ⟨rfl, hb9⟩
    have B9 := hide_it (B1.out.trans ((E4.out.trans ((N8.out.trans (hb9.mono N8.out.size)).mono E4.out.size)).mono B1.out.size))
    clear hb9
    go_wp2
    go_ret
    exact ⟨by simp, B9.out⟩
  by_cases s2 : S = 2
  · subst s2
    go_wp2_with fail
    refine (HR2.out w8 N8.out).mono ?_
    rintro e w9 ⟨rfl, hb9⟩
    have B9 := hide_it (B1.out.trans ((E4.out.trans ((N8.out.trans (hb9.mono N8.out.size)).mono E4.out.size)).mono B1.out.size))
    clear hb9
    go_wp2
    go_ret
    exact ⟨by simp, B9.out⟩
  by_cases s3 : S = 3
  · subst s3
    go_wp2_with fail
    refine (HR2.out w8 N8.out).mono ?_
    rintro e w9 ⟨rfl, hb9⟩
    have B9 := hide_it (B1.out.trans ((E4.out.trans ((N8.out.trans (hb9.mono N8.out.size)).mono E4.out.size)).mono B1.out.size))
    clear hb9
    go_wp2
    go_ret
    exact ⟨by simp, B9.out⟩
  have b1 : (S == 1) = false := by simp [s1]
  have b2 : (S == 2) = false := by simp [s2]
  have b3 : (S == 3) = false := by simp [s3]
  rw [b1, b2, b3]
  go_wp2_with fail
  refine (HR2.out w8 N8.out).mono ?_
  rintro e w9 ⟨rfl, hb9⟩
  have B9 := hide_it (B1.out.trans ((E4.out.trans ((N8.out.trans (hb9.mono N8.out.size)).mono E4.out.size)).mono B1.out.size))
  clear hb9
  go_wp2
  go_ret
  exact ⟨by simp, B9.out⟩

end Go.Proofs.YtickjfpbaknlmaaDoor

namespace Go.Proofs.YtickjfpbaknlmaaDoor
open Go.RowKit

theorem T.Recs.cut {w : World} {N cap : Nat} {ao : Option Addr} {rs : List T.R} (h : T.Recs w (.slice ao rs.length cap) rs) (hN : N ≤ rs.length) : T.Recs w (.slice ao N cap) (rs.take N) := by
  have hl : (rs.take N).length = N := by rw [List.length_take]; omega
  by_cases h0 : N = 0
  · subst h0
    exact Or.inl ⟨by simp, ao, cap, rfl⟩
  rcases h with ⟨hz, _⟩ | ⟨b, off, cp, hv, hz, hc⟩
  · rw [hz] at hN; simp at hN; omega
  · simp only [Value.slice.injEq] at hv
    obtain ⟨e1, _, e3⟩ := hv
    refine Or.inr ⟨b, off, cp, by rw [hl, e1, e3], by intro e; rw [e] at hl; simp at hl; omega, fun i r hr => ?_⟩
    rw [List.getElem?_take] at hr
    split at hr
    · exact hc i r hr
    · cases hr
theorem T.Made.cap {w : World} {lo n cap : Nat} {ao : Option Addr} {rs : List T.R} (h : T.Made w lo (.slice ao n cap) rs) (_hn : n = rs.length) : rs.length ≤ cap := by
  obtain ⟨ps, hps, row, _⟩ := h
  have hpl : ps.length = rs.length := by rw [← hps]; simp
  rcases row.2 with ⟨hv, h0⟩ | ⟨g, cp, cur, hv, _, _, hc, _⟩
  · omega
  · simp only [Value.slice.injEq] at hv
    omega
/-- The cells of one trip of a list, and that its numbers lie there. -/
theorem T.Recs.at {w : World} {n cap i : Nat} {ao : Option Addr} {rs : List T.R} {x : T.R} (h : T.Recs w (.slice ao n cap) rs) (hx : rs[i]? = some x) : ∃ (b off : Nat) (y : Value), ao = some ⟨b, off, none⟩ ∧ T.RecCells w b (off + i * 2) x y := by
  rcases h with ⟨h0, _⟩ | ⟨b, off, cp, hv, _, hc⟩
  · rw [h0] at hx; simp at hx
  · simp only [Value.slice.injEq] at hv
    obtain ⟨y, hy⟩ := hc i x hx
    exact ⟨b, off, y, hv.1, hy⟩

set_option maxRecDepth 100000 in
set_option maxHeartbeats 8000000 in
theorem lawP44_small (v : Value) (n : Nat) (a : Addr) (w : World) (hv : CodeAt w v n) (hn : n ≤ 1048576) (ha : ErrAt w a) :
    Calls Tryd.prog 6 #[v] w fun e w' => e = .returned (.bool true) ∧ Below w.heap.size w w' := by
  have HO := hide_it (drawTDo_any v n w hv hn)
  have HAe : Hid (∀ W, Below w.heap.size w W → ErrAt W a) := fun W h => ha.later h (Nat.le_refl _)
  obtain ⟨ao, cap, rfl, _⟩ := hv
  clear ha
  have hni : ¬ (1048576 : Int) < (n : Int) := by omega
  go_enter Tryd.func6, Tryd.ntmps6
  go_wp2_with fail
  refine HO.out.mono ?_
  rintro e w1 ⟨o, rs, r, u, rfl, htot, hR, hrl, hI, hb1⟩
  obtain ⟨k, t, zs⟩ := r
  dsimp only at hrl hI ⊢
  have B1 := hide_it hb1
  have HR : Hid (∀ W, Below w1.heap.size w1 W → T.Recs W o rs) := fun W h => hR.later h (Nat.le_refl _)
  have HI : Hid (∀ W, Below w1.heap.size w1 W → Ints W u zs) := fun W h => hI.later h (Nat.le_refl _)
  obtain ⟨oa, oc, hos⟩ := hR.shape
  obtain ⟨ua, uc, hus⟩ := hI.shape
  subst hos hus
  have hrsl := T.tot_len rs
  clear hR hI hb1
  obtain ⟨w2, hw2⟩ : ∃ W, Hid (W = w1.alloc (.cells #[.int .i64 k, .int .i64 t, .slice ua zs.length uc] 26)) := ⟨_, rfl⟩
  have E2 : Hid (Below w1.heap.size w1 w2) := by show Below _ _ _; rw [hw2.out]; exact alloc_below _ _
  have X2 : Hid (Blk w2 w1.heap.size #[.int .i64 k, .int .i64 t, .slice ua zs.length uc] 26) := by show Blk _ _ _ _; rw [hw2.out]; exact Blk.new w1 _ _
  have FO := T.doO_fit rs (k, t, zs)
  have FT := FO.tot
  have F6 := FO.1
  clear FO
  obtain ⟨OO, hOO⟩ : ∃ x, T.doO rs (k, t, zs) = x := ⟨_, rfl⟩
  obtain ⟨BB, hBB⟩ : ∃ x, T.tMay rs (k, t, zs) = x := ⟨_, rfl⟩
  have HOO := hide_it hOO
  have HBB := hide_it hBB
  rw [hOO] at FT F6
  have HSP : Hid (∀ W, Below w1.heap.size w1 W → Calls Tryd.prog 19 #[.slice oa rs.length oc, .agg #[.int .i64 k, .int .i64 t, .slice ua zs.length uc]] W fun e w' => T.TrOut W w' e OO BB) := fun W h => by
    have := T.specDo_any _ rs (k, t, zs) _ W (HR.out W h) (by omega) (HI.out W h) (by dsimp only; omega)
    rw [hOO, hBB] at this; exact this
  have HIM : Hid (∀ W, Below w1.heap.size w1 W → Calls Tryd.prog 20 #[.slice oa rs.length oc, .agg #[.int .i64 k, .int .i64 t, .slice ua zs.length uc]] W fun e w' => T.TrOut W w' e OO BB) := fun W h => by
    have := T.implDo_any _ rs (k, t, zs) _ a W (HR.out W h) (by omega) (HI.out W h) (by dsimp only; omega) (HAe.out W (B1.out.trans (h.mono B1.out.size)))
    rw [hOO, hBB] at this; exact this
  clear hOO hBB
  go_wp2_with fail
  rw [← hw2.out]
  refine (HSP.out w2 E2.out).mono ?_
  rintro e w3 ⟨a3, c3, rfl, hm3, hb3⟩
  have E3 := hide_it (E2.out.trans (hb3.mono E2.out.size))
  have X3 := hide_it (X2.out.after hb3)
  have M3 := hide_it hm3.recs
  clear hm3 hb3
  obtain ⟨x30, x31, x32⟩ := X3.out.cells3
  go_wp2_with fail
  refine (HIM.out w3 E3.out).mono ?_
  rintro e w4 ⟨a4, c4, rfl, hm4, hb4⟩
  have E4 := hide_it (E3.out.trans (hb4.mono E3.out.size))
  have X4 := hide_it (X3.out.after hb4)
  have M4 := hide_it hm4.recs
  have ROW4 := hide_it hm4
  have V4 := hide_it (M3.out.later hb4 (Nat.le_refl _))
  clear hm4 hb4 x30 x31 x32
  cases BB
  · go_wp2_with fail
    refine (lnTrips_any _ _ OO w4 M4.out V4.out FT).mono ?_
    rintro e w5 ⟨rfl, hb5⟩
    have E5 := hide_it (E4.out.trans (hb5.mono E4.out.size))
    have M5 := hide_it (M4.out.later hb5 (Nat.le_refl _))
    have V5 := hide_it (V4.out.later hb5 (Nat.le_refl _))
    clear hb5
    go_wp2_with fail
    refine (lnTrips_any _ _ OO w5 M5.out V5.out FT).mono ?_
    rintro e w6 ⟨rfl, hb6⟩
    have B6 := hide_it (B1.out.trans ((E5.out.trans (hb6.mono E5.out.size)).mono B1.out.size))
    clear hb6
    go_wp2
    go_ret
    exact ⟨rfl, B6.out⟩
  have hmm : T.tripsOk rs = true ∧ rOk (k, t, zs) = true ∧ T.mayL rs (k, t, zs) = true := by
    have h := HBB.out
    unfold T.tMay at h
    simp only [Bool.and_eq_true] at h
    exact h
  have hOd : OO = T.doL rs (k, t, zs) := by rw [← HOO.out]; unfold T.doO; rw [HBB.out]; rfl
  have hOk : T.tripsOk OO = true := by rw [hOd]; exact T.doL_ok hmm.1 hmm.2.1 hmm.2.2
  obtain ⟨ht1, ht6⟩ := T.rOk_trip hmm.2.1
  dsimp only at ht1 ht6
  have hcap := ROW4.out.cap rfl
  have BW : Hid (∀ W, Below w4.heap.size w4 W → Below w.heap.size w W) := fun W h => B1.out.trans ((E4.out.trans (h.mono E4.out.size)).mono B1.out.size)
  have LW : Hid (∀ W, Below w4.heap.size w4 W → T.Recs W (.slice oa rs.length oc) rs) := fun W h => HR.out W (E4.out.trans (h.mono E4.out.size))
  have OW : Hid (∀ W, Below w4.heap.size w4 W → T.Recs W (.slice a4 OO.length c4) OO) := fun W h => M4.out.later h (Nat.le_refl _)
  have RT : T.tot rs ≤ 1048576 := by omega
  by_cases h4 : k = 4
  · subst h4
    have hO4 : OO = rs ++ [(zs, 1)] := by rw [hOd, T.doL_begin rfl]
    have hlen : OO.length = rs.length + 1 := by rw [hO4]; simp
    have htk : OO.take rs.length = rs := by rw [hO4]; simp
    have hlast : OO[rs.length]? = some (zs, 1) := by rw [hO4]; simp
    obtain ⟨gb, goff, y, hga, hRC⟩ := M4.out.at hlast
    subst hga
    obtain ⟨NO, hNO⟩ : ∃ N : Nat, OO.length = N := ⟨_, rfl⟩
    have HCT : Hid (∀ W, Below w4.heap.size w4 W → T.Recs W (.slice (some ⟨gb, goff, none⟩) rs.length c4) rs) := fun W h => by
      have := (OW.out W h).cut (N := rs.length) (by omega)
      rw [htk] at this
      exact this
    have RCW : Hid (∀ W, Below w4.heap.size w4 W → T.RecCells W gb (goff + rs.length * 2) (zs, 1) y) := fun W h => hRC.later h (Nat.le_refl _)
    obtain ⟨ay, cy, hys⟩ := hRC.2.2.shape
    subst hys
    have hnl : NO = rs.length + 1 := by omega
    have hcc : (rs.length : Int) ≤ (c4 : Int) := by omega
    have heq : ((NO : Int) == (rs.length : Int) + 1) = true := by simp; omega
    have hlt9 : (rs.length : Int) < (NO : Int) := by omega
    have hwr : IntKind.i64.wrap ((rs.length : Int) + 1) = (rs.length : Int) + 1 := by simp [IntKind.wrap, IntKind.bits, IntKind.signed]; omega
    have M4' := hide_it M4.out
    have V4' := hide_it V4.out
    rw [hNO] at M4' V4' ⊢
    have HL := hide_it hnl
    clear hO4 hlen htk hlast hRC hOd hOk hmm hcap hnl hNO
    go_wp2_with fail
    refine (lnTrips_any _ _ OO w4 M4'.out V4'.out FT).mono ?_
    rintro e w5 ⟨rfl, hb5⟩
    have N5 := hide_it hb5
    have X5 := hide_it (X4.out.after hb5)
    clear hb5
    obtain ⟨x50, x51, x52⟩ := X5.out.cells3
    obtain ⟨g0, g1, -⟩ := RCW.out w5 N5.out
    go_wp2
    go_region_held (fun w' => (w'.cell? ⟨gb, goff + rs.length * 2, none⟩ = some (.slice ay zs.length cy) ∧ w'.cell? ⟨gb, goff + rs.length * 2 + 1, none⟩ = some (.int .i64 1)) ∧ w'.cell? ⟨w1.heap.size, 2, none⟩ = some (.slice ua zs.length uc)) (go_keep)
      ((first
        | (go_at_call 17; refine (lnTrips_any _ _ rs _ ?_ ?_ RT).mono ?_; exact HCT.out _ N5.out.drew; exact LW.out _ N5.out.drew; rintro e w6 ⟨rfl, hb6⟩; have N6 := hide_it (N5.out.trans (((Below.refl w5.heap.size w5).drew.trans hb6).mono N5.out.size)); obtain ⟨g60, g61, g62⟩ := RCW.out w6 N6.out; obtain ⟨-, -, x62⟩ := (X5.out.after ((Below.refl w5.heap.size w5).drew.trans hb6)).cells3; have X6 := hide_it (X5.out.after ((Below.refl w5.heap.size w5).drew.trans hb6)); clear hb6)
        | (go_at_call 21; refine (lnInts_any _ _ zs _ ?_ ?_ ?_).mono ?_; exact (RCW.out w6 N6.out).2.2; exact HI.out _ (E4.out.trans (N6.out.mono E4.out.size)); omega; rintro e w7 ⟨rfl, hb7⟩; have N7 := hide_it (N6.out.trans (hb7.mono N6.out.size)); obtain ⟨g70, g71, -⟩ := RCW.out w7 N7.out; obtain ⟨-, -, x72⟩ := (X6.out.after hb7).cells3; clear hb7)))
    go_wp2
    go_ret
    exact ⟨by simp, BW.out _ N7.out⟩
  · obtain ⟨x, hx⟩ := T.mayL_at hmm.2.2 h4
    dsimp only at hx
    obtain ⟨ti, hti⟩ : ∃ i : Nat, t = (i : Int) + 1 := ⟨(t - 1).toNat, by omega⟩
    subst hti
    rw [show ((ti : Int) + 1 - 1).toNat = ti by omega] at hx
    have hO4 : OO = rs.set ti (x.1, T.nextS x.2 k) := by rw [hOd]; exact T.doL_at h4 hx
    have hlen : OO.length = rs.length := by rw [hO4]; simp
    have b4 : (k == 4) = false := by simp [h4]
    have SAME : Hid (∀ (i : Nat) (q : T.R), rs[i]? = some q → ∃ q' : T.R, OO[i]? = some q' ∧ q'.1 = q.1 ∧ (i ≠ ti → q'.2 = q.2)) := fun i q hq => by
      rw [hO4]
      by_cases e : ti = i
      · subst e
        rw [hx] at hq
        simp at hq
        subst hq
        exact ⟨(x.1, T.nextS x.2 k), by rw [List.getElem?_set, if_pos rfl, if_pos (T.len_lt hx)], rfl, fun h => absurd rfl h⟩
      · exact ⟨q, by rw [List.getElem?_set, if_neg e]; exact hq, rfl, fun _ => rfl⟩
    have HOK : Hid (∀ W, Below w4.heap.size w4 W → Calls Tryd.prog 22 #[.slice a4 rs.length c4] W fun e w' => e = .returned (.bool true) ∧ Below W.heap.size W w') := fun W h => by
      have := T.implTripsOk_any _ OO W (OW.out W h) FT
      rw [hOk, hlen] at this
      exact this
    have MW : Hid (∀ W, Below w4.heap.size w4 W → T.Recs W (.slice a4 rs.length c4) OO) := fun W h => by have := OW.out W h; rw [hlen] at this; exact this
    have M4' := hide_it M4.out
    have V4' := hide_it V4.out
    rw [hlen] at M4' V4' ⊢
    have HLN := hide_it hlen
    have hrs6 : rs.length ≤ 6 := by omega
    have XW : Hid (∀ W, Below w4.heap.size w4 W → Blk W w1.heap.size #[.int .i64 k, .int .i64 ((ti : Int) + 1), .slice ua zs.length uc] 26) := fun W h => X4.out.after h
    clear hO4 hlen hOd hOk hmm hcap hx OW
    go_wp2_with fail
    refine (lnTrips_any _ _ OO w4 M4'.out V4'.out FT).mono ?_
    rintro e w5 ⟨rfl, hb5⟩
    have N5 := hide_it hb5
    clear hb5
    obtain ⟨x50, x51, x52⟩ := (XW.out w5 N5.out).cells3
    go_wp2
    go_loopw [10] (fun iv wr => ∃ i : Nat, i ≤ rs.length ∧ iv = .int .i64 i ∧ Hid (Below w4.heap.size w4 wr)) (fun iv _ => rs.length - (intOf iv).toNat)
    case atStart => exact ⟨0, Nat.zero_le _, rfl, N5⟩
    case round =>
      obtain ⟨i, hi, rfl, HB⟩ := hrel
      by_cases hlt : i < rs.length
      · obtain ⟨q, hq⟩ : ∃ q, Hid (rs[i]? = some q) := ⟨rs[i], by show _ = _; simp [hlt]⟩
        obtain ⟨q', hq', hqa, hqb⟩ := SAME.out i q hq.out
        obtain ⟨lb, loff, ly, hla, hLC⟩ := (LW.out w4 (Below.refl _ _)).at hq.out
        obtain ⟨gb, goff, gy, hga, hGC⟩ := (MW.out w4 (Below.refl _ _)).at hq'
        subst hla hga
        have LC : Hid (∀ W, Below w4.heap.size w4 W → T.RecCells W lb (loff + i * 2) q ly) := fun W h => hLC.later h (Nat.le_refl _)
        have GC : Hid (∀ W, Below w4.heap.size w4 W → T.RecCells W gb (goff + i * 2) q' gy) := fun W h => hGC.later h (Nat.le_refl _)
        obtain ⟨al', cl', hly⟩ := hLC.2.2.shape
        obtain ⟨ag', cg', hgy⟩ := hGC.2.2.shape
        subst hly hgy
        have hql : q.1.length ≤ 1048576 := by have := T.tot_mem rs q (List.mem_of_getElem? hq.out); omega
        have HQA := hide_it hqa
        obtain ⟨l0, l1, -⟩ := LC.out wr HB.out
        obtain ⟨g0, g1, -⟩ := GC.out wr HB.out
        obtain ⟨x60, x61, x62⟩ := (XW.out wr HB.out).cells3
        have hli : (i : Int) < (rs.length : Int) := by omega
        have hwr : IntKind.i64.wrap ((ti : Int) + 1 - 1) = (ti : Int) := by simp [IntKind.wrap, IntKind.bits, IntKind.signed]; omega
        have hwi : IntKind.i64.wrap (ti : Int) = (ti : Int) := by simp [IntKind.wrap, IntKind.bits, IntKind.signed]; omega
        clear hLC hGC hqa
        by_cases hit : i = ti
        · subst hit
          clear hqb
          go_wp2
          refine wp_region_held_drew (S := fun w' => (w'.cell? ⟨lb, loff + i * 2, none⟩ = some (.slice al' q.1.length cl') ∧ w'.cell? ⟨lb, loff + i * 2 + 1, none⟩ = some (.int .i64 q.2)) ∧ (w'.cell? ⟨gb, goff + i * 2, none⟩ = some (.slice ag' q'.1.length cg') ∧ w'.cell? ⟨gb, goff + i * 2 + 1, none⟩ = some (.int .i64 q'.2)) ∧ w'.cell? ⟨w1.heap.size, 1, none⟩ = some (.int .i64 ((i : Int) + 1))) (by kernel_rfl) ⟨⟨l0, l1⟩, ⟨g0, g1⟩, x61⟩ (fun hHeld => ?_)
          clear l0 l1 g0 g1 x60 x61 x62
          refine takeD (i := 0) (v := ?_) (some 93) rfl rfl (by kernel_rfl) (by kernel_rfl) (by kernel_rfl) (fun _ _ _ h => h) (by rfl) hHeld ?_ ?_
          rotate_left
          · intro W hSw
            try dsimp only at hSw
            go_simp
            try with_reducible rfl
          try simp only [Act.put]
          try simp only [List.setIfInBounds_toArray]
          try simp only [List.set_cons_succ]
          try simp only [List.set_cons_zero]
          refine takeD (i := 1) (v := ?_) (some 94) rfl rfl (by kernel_rfl) (by kernel_rfl) (by kernel_rfl) (fun _ _ _ h => h) (by rfl) hHeld ?_ ?_
          rotate_left
          · intro W hSw
            try dsimp only at hSw
            go_simp
            try with_reducible rfl
          try simp only [Act.put]
          try simp only [List.setIfInBounds_toArray]
          try simp only [List.set_cons_succ]
          try simp only [List.set_cons_zero]
          refine takeD (i := 2) (v := ?_) (some 95) rfl rfl (by kernel_rfl) (by kernel_rfl) (by kernel_rfl) (fun _ _ _ h => h) (by rfl) hHeld ?_ ?_
          rotate_left
          · intro W hSw
            try dsimp only at hSw
            go_simp
            try with_reducible rfl
          try simp only [Act.put]
          try simp only [List.setIfInBounds_toArray]
          try simp only [List.set_cons_succ]
          try simp only [List.set_cons_zero]
          refine takeD (i := 3) (v := ?_) (some 96) rfl rfl (by kernel_rfl) (by kernel_rfl) (by kernel_rfl) (fun _ _ _ h => h) (by rfl) hHeld ?_ ?_
          rotate_left
          · intro W hSw
            try dsimp only at hSw
            go_simp
            try with_reducible rfl
          try simp only [Act.put]
          try simp only [List.setIfInBounds_toArray]
          try simp only [List.set_cons_succ]
          try simp only [List.set_cons_zero]
          refine takeD (i := 4) (v := .bool false) (some 97) rfl rfl (by kernel_rfl) (by kernel_rfl) (by kernel_rfl) (fun _ _ _ h => h) (by rfl) hHeld ?_ ?_
          · intro W hSw
            try dsimp only at hSw
            first | (go_simp; done) | (go_simp; simp [*])
          try simp only [Act.put]
          try simp only [List.setIfInBounds_toArray]
          try simp only [List.set_cons_succ]
          try simp only [List.set_cons_zero]
          refine takeD (i := 5) (v := .bool false) (some 98) rfl rfl (by kernel_rfl) (by kernel_rfl) (by kernel_rfl) (fun _ _ _ h => h) (by rfl) hHeld ?_ ?_
          · intro W hSw
            try dsimp only at hSw
            first | (go_simp; done) | (go_simp; simp [*])
          try simp only [Act.put]
          try simp only [List.setIfInBounds_toArray]
          try simp only [List.set_cons_succ]
          try simp only [List.set_cons_zero]
          refine skipD (i := 6) (some 99) rfl rfl (by kernel_rfl) (by kernel_rfl) (by kernel_rfl) (fun _ _ _ h => h) (by rfl) hHeld ?_
          try simp only [Act.put]
          try simp only [List.setIfInBounds_toArray]
          try simp only [List.set_cons_succ]
          try simp only [List.set_cons_zero]
          refine skipD (i := 7) (some 100) rfl rfl (by kernel_rfl) (by kernel_rfl) (by kernel_rfl) (fun _ _ _ h => h) (by rfl) hHeld ?_
          try simp only [Act.put]
          try simp only [List.setIfInBounds_toArray]
          try simp only [List.set_cons_succ]
          try simp only [List.set_cons_zero]
          refine skipD (i := 8) (some 101) rfl rfl (by kernel_rfl) (by kernel_rfl) (by kernel_rfl) (fun _ _ _ h => h) (by rfl) hHeld ?_
          try simp only [Act.put]
          try simp only [List.setIfInBounds_toArray]
          try simp only [List.set_cons_succ]
          try simp only [List.set_cons_zero]
          refine skipD (i := 9) (some 102) rfl rfl (by kernel_rfl) (by kernel_rfl) (by kernel_rfl) (fun _ _ _ h => h) (by rfl) hHeld ?_
          try simp only [Act.put]
          try simp only [List.setIfInBounds_toArray]
          try simp only [List.set_cons_succ]
          try simp only [List.set_cons_zero]
          refine skipD (i := 10) (some 103) rfl rfl (by kernel_rfl) (by kernel_rfl) (by kernel_rfl) (fun _ _ _ h => h) (by rfl) hHeld ?_
          try simp only [Act.put]
          try simp only [List.setIfInBounds_toArray]
          try simp only [List.set_cons_succ]
          try simp only [List.set_cons_zero]
          refine skipD (i := 11) (some 104) rfl rfl (by kernel_rfl) (by kernel_rfl) (by kernel_rfl) (fun _ _ _ h => h) (by rfl) hHeld ?_
          try simp only [Act.put]
          try simp only [List.setIfInBounds_toArray]
          try simp only [List.set_cons_succ]
          try simp only [List.set_cons_zero]
          refine skipD (i := 12) (some 105) rfl rfl (by kernel_rfl) (by kernel_rfl) (by kernel_rfl) (fun _ _ _ h => h) (by rfl) hHeld ?_
          try simp only [Act.put]
          try simp only [List.setIfInBounds_toArray]
          try simp only [List.set_cons_succ]
          try simp only [List.set_cons_zero]
          refine skipD (i := 13) (some 106) rfl rfl (by kernel_rfl) (by kernel_rfl) (by kernel_rfl) (fun _ _ _ h => h) (by rfl) hHeld ?_
          try simp only [Act.put]
          try simp only [List.setIfInBounds_toArray]
          try simp only [List.set_cons_succ]
          try simp only [List.set_cons_zero]
          refine skipD (i := 14) (some 107) rfl rfl (by kernel_rfl) (by kernel_rfl) (by kernel_rfl) (fun _ _ _ h => h) (by rfl) hHeld ?_
          try simp only [Act.put]
          try simp only [List.setIfInBounds_toArray]
          try simp only [List.set_cons_succ]
          try simp only [List.set_cons_zero]
          refine skipD (i := 15) (some 108) rfl rfl (by kernel_rfl) (by kernel_rfl) (by kernel_rfl) (fun _ _ _ h => h) (by rfl) hHeld ?_
          try simp only [Act.put]
          try simp only [List.setIfInBounds_toArray]
          try simp only [List.set_cons_succ]
          try simp only [List.set_cons_zero]
          refine skipD (i := 16) (some 109) rfl rfl (by kernel_rfl) (by kernel_rfl) (by kernel_rfl) (fun _ _ _ h => h) (by rfl) hHeld ?_
          try simp only [Act.put]
          try simp only [List.setIfInBounds_toArray]
          try simp only [List.set_cons_succ]
          try simp only [List.set_cons_zero]
          refine takeD (i := 17) (v := .bool false) (some 110) rfl rfl (by kernel_rfl) (by kernel_rfl) (by kernel_rfl) (fun _ _ _ h => h) (by rfl) hHeld ?_ ?_
          · intro W hSw
            try dsimp only at hSw
            first | (go_simp; done) | (go_simp; simp [*])
          try simp only [Act.put]
          try simp only [List.setIfInBounds_toArray]
          try simp only [List.set_cons_succ]
          try simp only [List.set_cons_zero]
          refine takeD (i := 18) (v := .bool false) (some 111) rfl rfl (by kernel_rfl) (by kernel_rfl) (by kernel_rfl) (fun _ _ _ h => h) (by rfl) hHeld ?_ ?_
          · intro W hSw
            try dsimp only at hSw
            first | (go_simp; done) | (go_simp; simp [*])
          try simp only [Act.put]
          try simp only [List.setIfInBounds_toArray]
          try simp only [List.set_cons_succ]
          try simp only [List.set_cons_zero]
          refine takeD (i := 19) (v := ?_) (some 112) rfl rfl (by kernel_rfl) (by kernel_rfl) (by kernel_rfl) (fun _ _ _ h => h) (by rfl) hHeld ?_ ?_
          rotate_left
          · intro W hSw
            try dsimp only at hSw
            go_simp
            try with_reducible rfl
          try simp only [Act.put]
          try simp only [List.setIfInBounds_toArray]
          try simp only [List.set_cons_succ]
          try simp only [List.set_cons_zero]
          refine takeD (i := 20) (v := ?_) (some 113) rfl rfl (by kernel_rfl) (by kernel_rfl) (by kernel_rfl) (fun _ _ _ h => h) (by rfl) hHeld ?_ ?_
          rotate_left
          · intro W hSw
            try dsimp only at hSw
            go_simp
            try with_reducible rfl
          try simp only [Act.put]
          try simp only [List.setIfInBounds_toArray]
          try simp only [List.set_cons_succ]
          try simp only [List.set_cons_zero]
          refine takeD (i := 21) (v := ?_) (some 114) rfl rfl (by kernel_rfl) (by kernel_rfl) (by kernel_rfl) (fun _ _ _ h => h) (by rfl) hHeld ?_ ?_
          rotate_left
          · intro W hSw
            try dsimp only at hSw
            go_simp
            try with_reducible rfl
          try simp only [Act.put]
          try simp only [List.setIfInBounds_toArray]
          try simp only [List.set_cons_succ]
          try simp only [List.set_cons_zero]
          refine takeD (i := 22) (v := ?_) (some 115) rfl rfl (by kernel_rfl) (by kernel_rfl) (by kernel_rfl) (fun _ _ _ h => h) (by rfl) hHeld ?_ ?_
          rotate_left
          · intro W hSw
            try dsimp only at hSw
            go_simp
            try with_reducible rfl
          try simp only [Act.put]
          try simp only [List.setIfInBounds_toArray]
          try simp only [List.set_cons_succ]
          try simp only [List.set_cons_zero]
          refine takeD (i := 23) (v := ?_) (some 116) rfl rfl (by kernel_rfl) (by kernel_rfl) (by kernel_rfl) (fun _ _ _ h => h) (by rfl) hHeld ?_ ?_
          rotate_left
          · intro W hSw
            try dsimp only at hSw
            go_simp
            try with_reducible rfl
          try simp only [Act.put]
          try simp only [List.setIfInBounds_toArray]
          try simp only [List.set_cons_succ]
          try simp only [List.set_cons_zero]
          refine takeD (i := 24) (v := ?_) (some 117) rfl rfl (by kernel_rfl) (by kernel_rfl) (by kernel_rfl) (fun _ _ _ h => h) (by rfl) hHeld ?_ ?_
          rotate_left
          · intro W hSw
            try dsimp only at hSw
            go_simp
            try with_reducible rfl
          try simp only [Act.put]
          try simp only [List.setIfInBounds_toArray]
          try simp only [List.set_cons_succ]
          try simp only [List.set_cons_zero]
          refine takeD (i := 25) (v := ?_) (some 118) rfl rfl (by kernel_rfl) (by kernel_rfl) (by kernel_rfl) (fun _ _ _ h => h) (by rfl) hHeld ?_ ?_
          rotate_left
          · intro W hSw
            try dsimp only at hSw
            go_simp
            try with_reducible rfl
          try simp only [Act.put]
          try simp only [List.setIfInBounds_toArray]
          try simp only [List.set_cons_succ]
          try simp only [List.set_cons_zero]
          refine takeD (i := 26) (v := ?_) (some 119) rfl rfl (by kernel_rfl) (by kernel_rfl) (by kernel_rfl) (fun _ _ _ h => h) (by rfl) hHeld ?_ ?_
          rotate_left
          · intro W hSw
            try dsimp only at hSw
            go_simp
            try with_reducible rfl
          try simp only [Act.put]
          try simp only [List.setIfInBounds_toArray]
          try simp only [List.set_cons_succ]
          try simp only [List.set_cons_zero]
          refine takeD (i := 27) (v := ?_) (some 120) rfl rfl (by kernel_rfl) (by kernel_rfl) (by kernel_rfl) (fun _ _ _ h => h) (by rfl) hHeld ?_ ?_
          rotate_left
          · intro W hSw
            try dsimp only at hSw
            go_simp
            try with_reducible rfl
          try simp only [Act.put]
          try simp only [List.setIfInBounds_toArray]
          try simp only [List.set_cons_succ]
          try simp only [List.set_cons_zero]
          refine takeD (i := 28) (v := ?_) (some 121) rfl rfl (by kernel_rfl) (by kernel_rfl) (by kernel_rfl) (fun _ _ _ h => h) (by rfl) hHeld ?_ ?_
          rotate_left
          · intro W hSw
            try dsimp only at hSw
            go_simp
            try with_reducible rfl
          try simp only [Act.put]
          try simp only [List.setIfInBounds_toArray]
          try simp only [List.set_cons_succ]
          try simp only [List.set_cons_zero]
          refine wpAnyH_ready (rs := [29]) (by kernel_rfl) (by simp) ?_
          refine AllReadyH.cons rfl (fun K hK => ?_) AllReadyH.nil
          go_simp
          refine (lnInts_any _ _ q.1 _ ?_ ?_ hql).mono ?_
          · have := (GC.out _ HB.out.drew).2.2
            rw [HQA.out] at this
            rw [HQA.out]
            exact this
          · exact (LC.out _ HB.out.drew).2.2
          rintro e w6 ⟨rfl, hb6⟩
          have N6 := hide_it (HB.out.trans (((Below.refl wr.heap.size wr).drew.trans hb6).mono HB.out.size))
          obtain ⟨m0, m1, -⟩ := LC.out w6 N6.out
          obtain ⟨n0, n1, -⟩ := GC.out w6 N6.out
          obtain ⟨-, xx, -⟩ := (XW.out w6 N6.out).cells3
          clear hb6
          try dsimp only
          refine hK.out _ _ ⟨⟨m0, m1⟩, ⟨n0, n1⟩, xx⟩ (fun hHeld => ?_)
          clear hK K m0 m1 n0 n1 xx
          refine takeD (i := 30) (v := .bool false) (some 123) rfl rfl (by kernel_rfl) (by kernel_rfl) (by kernel_rfl) (fun _ _ _ h => h) (by rfl) hHeld ?_ ?_
          · intro W hSw
            try dsimp only at hSw
            first | (go_simp; done) | (go_simp; simp [*])
          try simp only [Act.put]
          try simp only [List.setIfInBounds_toArray]
          try simp only [List.set_cons_succ]
          try simp only [List.set_cons_zero]
          refine takeD (i := 31) (v := .bool false) (some 124) rfl rfl (by kernel_rfl) (by kernel_rfl) (by kernel_rfl) (fun _ _ _ h => h) (by rfl) hHeld ?_ ?_
          · intro W hSw
            try dsimp only at hSw
            first | (go_simp; done) | (go_simp; simp [*])
          try simp only [Act.put]
          try simp only [List.setIfInBounds_toArray]
          try simp only [List.set_cons_succ]
          try simp only [List.set_cons_zero]
          refine wpAnyH_done (by kernel_rfl) ?_ _
          go_wp2
          go_roundw
          case rel => exact ⟨i + 1, by omega, by go_num, N6⟩
          case measure => simp [intOf]; omega
        · have hne : ((i : Int) != (ti : Int)) = true := by simp; omega
          have hn1 : ((i : Int) == (ti : Int)) = false := by simp; omega
          have hn2 : ¬ (i : Int) = (ti : Int) := by omega
          have hn3 : decide ((i : Int) = (ti : Int)) = false := by simp; omega
          have hq2 := hqb hit
          rw [hq2] at g1
          have GC2 : Hid (∀ W, Below w4.heap.size w4 W → W.cell? ⟨gb, goff + i * 2 + 1, none⟩ = some (.int .i64 q.2)) := fun W h => by rw [← hq2]; exact (GC.out W h).2.1
          clear hqb hq2
          go_wp2
          refine wp_region_held_drew (S := fun w' => (w'.cell? ⟨lb, loff + i * 2, none⟩ = some (.slice al' q.1.length cl') ∧ w'.cell? ⟨lb, loff + i * 2 + 1, none⟩ = some (.int .i64 q.2)) ∧ (w'.cell? ⟨gb, goff + i * 2, none⟩ = some (.slice ag' q'.1.length cg') ∧ w'.cell? ⟨gb, goff + i * 2 + 1, none⟩ = some (.int .i64 q.2)) ∧ w'.cell? ⟨w1.heap.size, 1, none⟩ = some (.int .i64 ((ti : Int) + 1))) (by kernel_rfl) ⟨⟨l0, l1⟩, ⟨g0, g1⟩, x61⟩ (fun hHeld => ?_)
          clear l0 l1 g0 g1 x60 x61 x62
          refine takeD (i := 0) (v := ?_) (some 93) rfl rfl (by kernel_rfl) (by kernel_rfl) (by kernel_rfl) (fun _ _ _ h => h) (by rfl) hHeld ?_ ?_
          rotate_left
          · intro W hSw
            try dsimp only at hSw
            go_simp
            try with_reducible rfl
          try simp only [Act.put]
          try simp only [List.setIfInBounds_toArray]
          try simp only [List.set_cons_succ]
          try simp only [List.set_cons_zero]
          refine takeD (i := 1) (v := ?_) (some 94) rfl rfl (by kernel_rfl) (by kernel_rfl) (by kernel_rfl) (fun _ _ _ h => h) (by rfl) hHeld ?_ ?_
          rotate_left
          · intro W hSw
            try dsimp only at hSw
            go_simp
            try with_reducible rfl
          try simp only [Act.put]
          try simp only [List.setIfInBounds_toArray]
          try simp only [List.set_cons_succ]
          try simp only [List.set_cons_zero]
          refine takeD (i := 2) (v := ?_) (some 95) rfl rfl (by kernel_rfl) (by kernel_rfl) (by kernel_rfl) (fun _ _ _ h => h) (by rfl) hHeld ?_ ?_
          rotate_left
          · intro W hSw
            try dsimp only at hSw
            go_simp
            try with_reducible rfl
          try simp only [Act.put]
          try simp only [List.setIfInBounds_toArray]
          try simp only [List.set_cons_succ]
          try simp only [List.set_cons_zero]
          refine takeD (i := 3) (v := ?_) (some 96) rfl rfl (by kernel_rfl) (by kernel_rfl) (by kernel_rfl) (fun _ _ _ h => h) (by rfl) hHeld ?_ ?_
          rotate_left
          · intro W hSw
            try dsimp only at hSw
            go_simp
            try with_reducible rfl
          try simp only [Act.put]
          try simp only [List.setIfInBounds_toArray]
          try simp only [List.set_cons_succ]
          try simp only [List.set_cons_zero]
          refine takeD (i := 4) (v := .bool true) (some 97) rfl rfl (by kernel_rfl) (by kernel_rfl) (by kernel_rfl) (fun _ _ _ h => h) (by rfl) hHeld ?_ ?_
          · intro W hSw
            try dsimp only at hSw
            first | (go_simp; done) | (go_simp; simp [*])
          try simp only [Act.put]
          try simp only [List.setIfInBounds_toArray]
          try simp only [List.set_cons_succ]
          try simp only [List.set_cons_zero]
          refine takeD (i := 5) (v := .bool true) (some 98) rfl rfl (by kernel_rfl) (by kernel_rfl) (by kernel_rfl) (fun _ _ _ h => h) (by rfl) hHeld ?_ ?_
          · intro W hSw
            try dsimp only at hSw
            first | (go_simp; done) | (go_simp; simp [*])
          try simp only [Act.put]
          try simp only [List.setIfInBounds_toArray]
          try simp only [List.set_cons_succ]
          try simp only [List.set_cons_zero]
          refine takeD (i := 6) (v := ?_) (some 99) rfl rfl (by kernel_rfl) (by kernel_rfl) (by kernel_rfl) (fun _ _ _ h => h) (by rfl) hHeld ?_ ?_
          rotate_left
          · intro W hSw
            try dsimp only at hSw
            go_simp
            try with_reducible rfl
          try simp only [Act.put]
          try simp only [List.setIfInBounds_toArray]
          try simp only [List.set_cons_succ]
          try simp only [List.set_cons_zero]
          refine takeD (i := 7) (v := ?_) (some 100) rfl rfl (by kernel_rfl) (by kernel_rfl) (by kernel_rfl) (fun _ _ _ h => h) (by rfl) hHeld ?_ ?_
          rotate_left
          · intro W hSw
            try dsimp only at hSw
            go_simp
            try with_reducible rfl
          try simp only [Act.put]
          try simp only [List.setIfInBounds_toArray]
          try simp only [List.set_cons_succ]
          try simp only [List.set_cons_zero]
          refine takeD (i := 8) (v := ?_) (some 101) rfl rfl (by kernel_rfl) (by kernel_rfl) (by kernel_rfl) (fun _ _ _ h => h) (by rfl) hHeld ?_ ?_
          rotate_left
          · intro W hSw
            try dsimp only at hSw
            go_simp
            try with_reducible rfl
          try simp only [Act.put]
          try simp only [List.setIfInBounds_toArray]
          try simp only [List.set_cons_succ]
          try simp only [List.set_cons_zero]
          refine takeD (i := 9) (v := ?_) (some 102) rfl rfl (by kernel_rfl) (by kernel_rfl) (by kernel_rfl) (fun _ _ _ h => h) (by rfl) hHeld ?_ ?_
          rotate_left
          · intro W hSw
            try dsimp only at hSw
            go_simp
            try with_reducible rfl
          try simp only [Act.put]
          try simp only [List.setIfInBounds_toArray]
          try simp only [List.set_cons_succ]
          try simp only [List.set_cons_zero]
          refine takeD (i := 10) (v := ?_) (some 103) rfl rfl (by kernel_rfl) (by kernel_rfl) (by kernel_rfl) (fun _ _ _ h => h) (by rfl) hHeld ?_ ?_
          rotate_left
          · intro W hSw
            try dsimp only at hSw
            go_simp
            try with_reducible rfl
          try simp only [Act.put]
          try simp only [List.setIfInBounds_toArray]
          try simp only [List.set_cons_succ]
          try simp only [List.set_cons_zero]
          refine takeD (i := 11) (v := ?_) (some 104) rfl rfl (by kernel_rfl) (by kernel_rfl) (by kernel_rfl) (fun _ _ _ h => h) (by rfl) hHeld ?_ ?_
          rotate_left
          · intro W hSw
            try dsimp only at hSw
            go_simp
            try with_reducible rfl
          try simp only [Act.put]
          try simp only [List.setIfInBounds_toArray]
          try simp only [List.set_cons_succ]
          try simp only [List.set_cons_zero]
          refine takeD (i := 12) (v := ?_) (some 105) rfl rfl (by kernel_rfl) (by kernel_rfl) (by kernel_rfl) (fun _ _ _ h => h) (by rfl) hHeld ?_ ?_
          rotate_left
          · intro W hSw
            try dsimp only at hSw
            go_simp
            try with_reducible rfl
          try simp only [Act.put]
          try simp only [List.setIfInBounds_toArray]
          try simp only [List.set_cons_succ]
          try simp only [List.set_cons_zero]
          refine takeD (i := 13) (v := ?_) (some 106) rfl rfl (by kernel_rfl) (by kernel_rfl) (by kernel_rfl) (fun _ _ _ h => h) (by rfl) hHeld ?_ ?_
          rotate_left
          · intro W hSw
            try dsimp only at hSw
            go_simp
            try with_reducible rfl
          try simp only [Act.put]
          try simp only [List.setIfInBounds_toArray]
          try simp only [List.set_cons_succ]
          try simp only [List.set_cons_zero]
          refine takeD (i := 14) (v := ?_) (some 107) rfl rfl (by kernel_rfl) (by kernel_rfl) (by kernel_rfl) (fun _ _ _ h => h) (by rfl) hHeld ?_ ?_
          rotate_left
          · intro W hSw
            try dsimp only at hSw
            go_simp
            try with_reducible rfl
          try simp only [Act.put]
          try simp only [List.setIfInBounds_toArray]
          try simp only [List.set_cons_succ]
          try simp only [List.set_cons_zero]
          refine takeD (i := 15) (v := ?_) (some 108) rfl rfl (by kernel_rfl) (by kernel_rfl) (by kernel_rfl) (fun _ _ _ h => h) (by rfl) hHeld ?_ ?_
          rotate_left
          · intro W hSw
            try dsimp only at hSw
            go_simp
            try with_reducible rfl
          try simp only [Act.put]
          try simp only [List.setIfInBounds_toArray]
          try simp only [List.set_cons_succ]
          try simp only [List.set_cons_zero]
          refine takeD (i := 16) (v := .bool false) (some 109) rfl rfl (by kernel_rfl) (by kernel_rfl) (by kernel_rfl) (fun _ _ _ h => h) (by rfl) hHeld ?_ ?_
          · intro W hSw
            try dsimp only at hSw
            first | (go_simp; done) | (go_simp; simp [*])
          try simp only [Act.put]
          try simp only [List.setIfInBounds_toArray]
          try simp only [List.set_cons_succ]
          try simp only [List.set_cons_zero]
          refine takeD (i := 17) (v := .bool false) (some 110) rfl rfl (by kernel_rfl) (by kernel_rfl) (by kernel_rfl) (fun _ _ _ h => h) (by rfl) hHeld ?_ ?_
          · intro W hSw
            try dsimp only at hSw
            first | (go_simp; done) | (go_simp; simp [*])
          try simp only [Act.put]
          try simp only [List.setIfInBounds_toArray]
          try simp only [List.set_cons_succ]
          try simp only [List.set_cons_zero]
          refine takeD (i := 18) (v := .bool false) (some 111) rfl rfl (by kernel_rfl) (by kernel_rfl) (by kernel_rfl) (fun _ _ _ h => h) (by rfl) hHeld ?_ ?_
          · intro W hSw
            try dsimp only at hSw
            first | (go_simp; done) | (go_simp; simp [*])
          try simp only [Act.put]
          try simp only [List.setIfInBounds_toArray]
          try simp only [List.set_cons_succ]
          try simp only [List.set_cons_zero]
          refine takeD (i := 19) (v := ?_) (some 112) rfl rfl (by kernel_rfl) (by kernel_rfl) (by kernel_rfl) (fun _ _ _ h => h) (by rfl) hHeld ?_ ?_
          rotate_left
          · intro W hSw
            try dsimp only at hSw
            go_simp
            try with_reducible rfl
          try simp only [Act.put]
          try simp only [List.setIfInBounds_toArray]
          try simp only [List.set_cons_succ]
          try simp only [List.set_cons_zero]
          refine takeD (i := 20) (v := ?_) (some 113) rfl rfl (by kernel_rfl) (by kernel_rfl) (by kernel_rfl) (fun _ _ _ h => h) (by rfl) hHeld ?_ ?_
          rotate_left
          · intro W hSw
            try dsimp only at hSw
            go_simp
            try with_reducible rfl
          try simp only [Act.put]
          try simp only [List.setIfInBounds_toArray]
          try simp only [List.set_cons_succ]
          try simp only [List.set_cons_zero]
          refine takeD (i := 21) (v := ?_) (some 114) rfl rfl (by kernel_rfl) (by kernel_rfl) (by kernel_rfl) (fun _ _ _ h => h) (by rfl) hHeld ?_ ?_
          rotate_left
          · intro W hSw
            try dsimp only at hSw
            go_simp
            try with_reducible rfl
          try simp only [Act.put]
          try simp only [List.setIfInBounds_toArray]
          try simp only [List.set_cons_succ]
          try simp only [List.set_cons_zero]
          refine takeD (i := 22) (v := ?_) (some 115) rfl rfl (by kernel_rfl) (by kernel_rfl) (by kernel_rfl) (fun _ _ _ h => h) (by rfl) hHeld ?_ ?_
          rotate_left
          · intro W hSw
            try dsimp only at hSw
            go_simp
            try with_reducible rfl
          try simp only [Act.put]
          try simp only [List.setIfInBounds_toArray]
          try simp only [List.set_cons_succ]
          try simp only [List.set_cons_zero]
          refine takeD (i := 23) (v := ?_) (some 116) rfl rfl (by kernel_rfl) (by kernel_rfl) (by kernel_rfl) (fun _ _ _ h => h) (by rfl) hHeld ?_ ?_
          rotate_left
          · intro W hSw
            try dsimp only at hSw
            go_simp
            try with_reducible rfl
          try simp only [Act.put]
          try simp only [List.setIfInBounds_toArray]
          try simp only [List.set_cons_succ]
          try simp only [List.set_cons_zero]
          refine takeD (i := 24) (v := ?_) (some 117) rfl rfl (by kernel_rfl) (by kernel_rfl) (by kernel_rfl) (fun _ _ _ h => h) (by rfl) hHeld ?_ ?_
          rotate_left
          · intro W hSw
            try dsimp only at hSw
            go_simp
            try with_reducible rfl
          try simp only [Act.put]
          try simp only [List.setIfInBounds_toArray]
          try simp only [List.set_cons_succ]
          try simp only [List.set_cons_zero]
          refine takeD (i := 25) (v := ?_) (some 118) rfl rfl (by kernel_rfl) (by kernel_rfl) (by kernel_rfl) (fun _ _ _ h => h) (by rfl) hHeld ?_ ?_
          rotate_left
          · intro W hSw
            try dsimp only at hSw
            go_simp
            try with_reducible rfl
          try simp only [Act.put]
          try simp only [List.setIfInBounds_toArray]
          try simp only [List.set_cons_succ]
          try simp only [List.set_cons_zero]
          refine takeD (i := 26) (v := ?_) (some 119) rfl rfl (by kernel_rfl) (by kernel_rfl) (by kernel_rfl) (fun _ _ _ h => h) (by rfl) hHeld ?_ ?_
          rotate_left
          · intro W hSw
            try dsimp only at hSw
            go_simp
            try with_reducible rfl
          try simp only [Act.put]
          try simp only [List.setIfInBounds_toArray]
          try simp only [List.set_cons_succ]
          try simp only [List.set_cons_zero]
          refine takeD (i := 27) (v := ?_) (some 120) rfl rfl (by kernel_rfl) (by kernel_rfl) (by kernel_rfl) (fun _ _ _ h => h) (by rfl) hHeld ?_ ?_
          rotate_left
          · intro W hSw
            try dsimp only at hSw
            go_simp
            try with_reducible rfl
          try simp only [Act.put]
          try simp only [List.setIfInBounds_toArray]
          try simp only [List.set_cons_succ]
          try simp only [List.set_cons_zero]
          refine takeD (i := 28) (v := ?_) (some 121) rfl rfl (by kernel_rfl) (by kernel_rfl) (by kernel_rfl) (fun _ _ _ h => h) (by rfl) hHeld ?_ ?_
          rotate_left
          · intro W hSw
            try dsimp only at hSw
            go_simp
            try with_reducible rfl
          try simp only [Act.put]
          try simp only [List.setIfInBounds_toArray]
          try simp only [List.set_cons_succ]
          try simp only [List.set_cons_zero]
          refine wpAnyH_ready (rs := [29]) (by kernel_rfl) (by simp) ?_
          refine AllReadyH.cons rfl (fun K hK => ?_) AllReadyH.nil
          go_simp
          refine (lnInts_any _ _ q.1 _ ?_ ?_ hql).mono ?_
          · have := (GC.out _ HB.out.drew).2.2
            rw [HQA.out] at this
            rw [HQA.out]
            exact this
          · exact (LC.out _ HB.out.drew).2.2
          rintro e w6 ⟨rfl, hb6⟩
          have N6 := hide_it (HB.out.trans (((Below.refl wr.heap.size wr).drew.trans hb6).mono HB.out.size))
          obtain ⟨m0, m1, -⟩ := LC.out w6 N6.out
          obtain ⟨n0, n1, -⟩ := GC.out w6 N6.out
          have n1 := GC2.out w6 N6.out
          obtain ⟨-, xx, -⟩ := (XW.out w6 N6.out).cells3
          clear hb6
          try dsimp only
          refine hK.out _ _ ⟨⟨m0, m1⟩, ⟨n0, n1⟩, xx⟩ (fun hHeld => ?_)
          clear hK K m0 m1 n0 n1 xx
          refine takeD (i := 30) (v := .bool false) (some 123) rfl rfl (by kernel_rfl) (by kernel_rfl) (by kernel_rfl) (fun _ _ _ h => h) (by rfl) hHeld ?_ ?_
          · intro W hSw
            try dsimp only at hSw
            first | (go_simp; done) | (go_simp; simp [*])
          try simp only [Act.put]
          try simp only [List.setIfInBounds_toArray]
          try simp only [List.set_cons_succ]
          try simp only [List.set_cons_zero]
          refine takeD (i := 31) (v := .bool false) (some 124) rfl rfl (by kernel_rfl) (by kernel_rfl) (by kernel_rfl) (fun _ _ _ h => h) (by rfl) hHeld ?_ ?_
          · intro W hSw
            try dsimp only at hSw
            first | (go_simp; done) | (go_simp; simp [*])
          try simp only [Act.put]
          try simp only [List.setIfInBounds_toArray]
          try simp only [List.set_cons_succ]
          try simp only [List.set_cons_zero]
          refine wpAnyH_done (by kernel_rfl) ?_ _
          go_wp2
          go_roundw
          case rel => exact ⟨i + 1, by omega, by go_num, N6⟩
          case measure => simp [intOf]; omega
      · have hge : ¬ (i : Int) < (rs.length : Int) := by omega
        have hee : ((rs.length : Int) == (rs.length : Int)) = true := by simp
        go_wp2_with fail
        refine (HOK.out wr HB.out).mono ?_
        rintro e w8 ⟨rfl, hb8⟩
        have N8 := hide_it (HB.out.trans (hb8.mono HB.out.size))
        clear hb8
        go_wp2
        go_ret
        exact ⟨by simp, BW.out _ N8.out⟩

end Go.Proofs.YtickjfpbaknlmaaDoor

namespace Go.Proofs.YtickjfpbaknlmaaDoor
open Go.ChangeShapes Go.WideShapes Go.ChangeAt Go.WideMaps Go.WideElems Go.RowKit Go.Joins

set_option maxHeartbeats 1000000 in
theorem lawP44_great (ac : Option Addr) (nc cc : Nat) (w : World) (h : 1048576 < (nc : Int)) :
    Calls Tryd.prog 6 #[.slice ac nc cc] w fun e w' => e = .returned (.bool true) ∧ Below w.heap.size w w' := by
  go_enter Tryd.func6, Tryd.ntmps6
  go_wp2
  go_ret
  exact ⟨rfl, Below.refl _ _⟩

theorem lawP44_any (vc : Value) (nc : Nat) (a : Addr) (w : World) (hc : CodeAt w vc nc) (ha : ErrAt w a) :
    Calls Tryd.prog 6 #[vc] w fun e w' => e = .returned (.bool true) ∧ Below w.heap.size w w' := by
  by_cases h1 : nc ≤ 1048576
  · exact lawP44_small vc nc a w hc h1 ha
  · obtain ⟨ac, cc, rfl, _⟩ := hc
    exact lawP44_great ac nc cc w (by omega)

set_option maxRecDepth 100000 in
theorem p44_lifted (os : Os) (started : os.Started) (H : Type) (enc : TypeId × Value → H) :
    ReturnsInHanded {} Tryd.checked os 6 .any (fun w args => (Rows.fnTripsStepSpec.pre enc Tryd.prog Tryd.f6 [] false w args ∧ laidMetH Tryd.prog laidErr w) ∧ sizedMet enc Tryd.prog Tryd.f6 (OpenSpec.ofChange Rows.fnTripsStepSpec) false w args)
      (Rows.fnTripsStepSpec.post enc Tryd.prog Tryd.f6 false true false false) := by
  refine returnsInHanded_of_change_and (C := Tryd.checked) (X := fun w _ => laidMetH Tryd.prog laidErr w) (fun _ _ _ hh h => h.of_heap hh) own started (by kernel_rfl) Tryd.func6
    (ChangeSpec.witness_shaped (enc := enc) (C := Tryd.checked) (os := os) (X := fun w _ => laidMetH Tryd.prog laidErr w) false (World.doorLaid Tryd.prog 28 os) #[.slice none 0 0] 8 rfl (World.shaped_of_RefB (by kernel_rfl) (by kernel_rfl)) (by kernel_rfl) (by kernel_rfl) (by kernel_rfl) (door_met os _)) ?_
  intro W base args ds gs before hval0 hW _ _ hL _
  have hval : ∀ (j : Nat) t v, Tryd.f6.params[j]? = some t → args[j]? = some v → Value.okWide Tryd.prog W .any base t v := hval0
  have hW' := hW
  obtain ⟨p, q, hA0, hV0, rfl, hfz, hnd⟩ := hW
  have hA : DataW.TrodAll enc Tryd.prog W 0 (fun _ => true) true Tryd.f6.params.toList args.toList ds p := hA0
  have hV : DataW.TrodVars enc Tryd.prog W (fun _ => true) ["loop.example/concierge/impl.errNoRec"] gs q := hV0
  rw [Tryd.params6] at hA hval
  obtain ⟨v0, d0, rfl, rfl, h0⟩ := trodAll_one hA
  obtain ⟨a, hErr, hvar⟩ := of_laid hL
  have vr : ∀ {X : World}, X.var? Tryd.prog "loop.example/concierge/impl.errNoRec" = some #[.iface 101 (.pointer (some a))] → ∀ sp : Nat → Bool,
      DataW.TrodVars enc Tryd.prog X sp ["loop.example/concierge/impl.errNoRec"] [tok enc (.iface 101 (.pointer (some a)))] [.cell 0 0] :=
    fun x0 sp => vars_read1 enc gErr gErrType Tryd.underlying73 x0 trivial sp
  obtain ⟨rfl, rfl⟩ := hV.unique (vr hvar _)
  clear hA0 hV0 hval0
  obtain ⟨nc, hC, _⟩ := open_code (hval 0 22 v0 rfl rfl) h0
  refine (lawP44_any v0 nc a W hC hErr).mono fun e W' ⟨he, hb⟩ => ?_
  subst he
  have hlt : ∀ x ∈ p, x.block < W.heap.size := fun x hx => hW'.lt x (by simp [hx])
  refine ⟨_, rfl, _, _, _, [], p, [.cell 0 0], hW', ?_, ?_, ?_, hb.frame _, fun h => by cases h⟩
  · exact trodAll_mk1 (shut_bool Tryd.underlying4 true)
  · exact trodAll_mk1 (Below.trod laidOut (by kernel_rfl) (of_decide_eq_true (by kernel_rfl)) h0 hb hlt)
  · exact vr (var?_below hb gErr (World.block_lt_of_cell? _ _ hErr) hvar) _

theorem p44_said : Rows.FnTripsStepSaid :=
  OpenClaim.holds_of_wide 6 Tryd.f6 rfl rfl rfl rfl rfl rfl rfl ⟨rfl, rfl, rfl, rfl, rfl⟩ rfl rfl rfl rfl rfl (by kernel_rfl) Tryd.func6 (by kernel_rfl)
    (of_decide_eq_true (by kernel_rfl)) (by unfold Func.isWrapper; first | (rw [if_pos (by decide +kernel)]; kernel_rfl) | (rw [if_neg (by decide +kernel)]; exact ⟨rfl, rfl⟩))
    (fun os started H enc _ => p44_lifted os started H enc)

theorem p44_plain (f : FuncId) (fn : Func) (hf : Tryd.pinned.checked.prog.funcNamed "loop.example/concierge/laws.FnTripsStep" = some f) (hfn : Tryd.pinned.checked.prog.funcs[f]? = some fn) :
    true = Tryd.pinned.checked.prog.looks [] ∧ ∀ (j : Nat) t, fn.params[j]? = some t → Tryd.pinned.checked.prog.wantsStandIn t = false := by
  obtain rfl : f = 6 := Option.some.inj ((show Tryd.prog.funcNamed "loop.example/concierge/laws.FnTripsStep" = some 6 by kernel_rfl).symm.trans hf) |>.symm
  obtain rfl : fn = Tryd.f6 := (Option.some.inj (Tryd.func6.symm.trans hfn)).symm
  refine ⟨by kernel_rfl, fun j t ht => ?_⟩
  rw [Tryd.params6] at ht
  obtain rfl : t = 22 := by simpa using Array.mem_of_getElem? ht
  exact (show Tryd.prog.wantsStandIn 22 = false by kernel_rfl)

theorem p44_card : Rows.FnTripsStepCardSaid :=
  Claim7.holds_tied_plain_at .later [] _ _ _ _ p44_said (fun _ h => by cases h) (by kernel_rfl) (fun _ h => by cases h) fnTripsStep_row_tie rfl ⟨rfl, rfl⟩ (by kernel_rfl) rfl p44_plain (by kernel_rfl)
#print axioms p44_card

end Go.Proofs.YtickjfpbaknlmaaDoor
