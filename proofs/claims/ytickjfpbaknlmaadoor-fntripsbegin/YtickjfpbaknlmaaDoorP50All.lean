/- FnTripsBegin answers true whatever the codes, and they read afterwards as they read before: promise 50 at all drawn trips. The card: the sentinel's variable starts as the program's text lays it. -/
import Derived.Test.YtickjfpbaknlmaaDoorRows
import Derived.Test.YtickjfpbaknlmaaDoorDGood
import Derived.ProofKit
import Derived.OpenShut
import Derived.Lib.SmallJoins
import Derived.Test.YtickjfpbaknlmaaDoorDTrips
import Derived.Test.YtickjfpbaknlmaaDoorDRec
import Derived.Deep.RegionHeld
import Derived.Test.YtickjfpbaknlmaaDoorFrame

namespace Go.Proofs.YtickjfpbaknlmaaDoor
open Go.ChangeShapes Go.WideShapes Go.ChangeAt Go.WideMaps Go.WideElems Go.RowKit Go.Joins

theorem cellsByte : Tryd.prog.cellsOf 5 = 1 := by kernel_rfl

theorem u8_bd {z : Int} (h : (Lit.int .u8 z).wf = true) : 0 ≤ z ∧ z ≤ 255 := by
  simp only [Lit.wf, Bool.and_eq_true, decide_eq_true_eq] at h
  have h0 : IntKind.min .u8 = 0 := by decide
  have h1 : IntKind.max .u8 = 255 := by decide
  omega

section
variable {H : Type} {enc : TypeId × Value → H} {W : World}

set_option maxRecDepth 100000 in
/-- A code that came in. -/
theorem open_code {base : Nat} {v : Value} {d : DataW H} {p : List MemPlace} (hval : Value.okWide Tryd.prog W .any base 22 v) (h : DataW.Trod enc Tryd.prog W 0 (fun _ => true) true 22 v d p) :
    ∃ n, CodeAt W v n ∧ (n : Int) ≤ 9223372036854775807 := by
  obtain ⟨ao, n, cap, rfl⟩ := okWide_slice Tryd.underlying22 hval
  obtain ⟨fuel, hf⟩ := h
  have hf' : DataW.trod enc Tryd.prog W 0 (fun _ => true) true fuel 22 [.slice ao n cap] = some (d, p) := hf
  rcases open_ints Tryd.underlying22 Tryd.underlying5 cellsByte hf' with ⟨hcs, hx⟩ | ⟨a, len, cap', zs, hcs, _, hl, hm, hz, hx, hcell, hwz⟩
  · simp at hcs
    obtain ⟨rfl, rfl, rfl⟩ := hcs
    exact ⟨0, ⟨none, 0, rfl, Nat.le_refl _, fun h => absurd rfl h⟩, by simp⟩
  · simp at hcs
    obtain ⟨rfl, rfl, rfl⟩ := hcs
    simp only [if_pos] at hz
    refine ⟨n, ⟨some a, cap, rfl, hl, fun hn => ?_⟩, by unfold maxLen at hm; omega⟩
    obtain ⟨b, off, rfl, hc⟩ := ints_at hcell (by omega)
    refine ⟨b, off, rfl, fun k hk => ⟨zs.getD k 0, hc k (by omega), ?_⟩⟩
    have hkz : k < zs.length := by omega
    have hmem : zs.getD k 0 ∈ zs := by simp [List.getD_eq_getElem?_getD, hkz]
    exact u8_bd (hwz _ hmem)

end
end Go.Proofs.YtickjfpbaknlmaaDoor

namespace Go.Proofs.YtickjfpbaknlmaaDoor
open Go.RowKit

/-- What a drawn trip wants: a list of at most four numbers, or none at all. -/
def TGood (W : World) (lo : Nat) (p : T.R × Value) : Prop := Good W lo ((0, 0, p.1.1), p.2)

/-- Trips that a draw has made, and the reader. -/
structure TrS (w W : World) (b q : Nat) (o : Value) (ps : List (T.R × Value)) : Prop where
  row : W.ownsRow w.heap.size 33 2 o ps.length (T.flat ps)
  all : ∀ p ∈ ps, TGood W w.heap.size p
  rd : Rd W b q
  mid : Mid b (b + 1) w W
  low : b < w.heap.size

theorem TrS.step {w W W' : World} {b q q' : Nat} {o : Value} {ps : List (T.R × Value)} (h : TrS w W b q o ps) (hb : Mid b (b + 1) W W') (hr : Rd W' b q') : TrS w W' b q' o ps :=
  ⟨ownsRow_mid h.row hb (fun k hk => Or.inr (by have := (rowB_at h.row k hk).1; have := h.low; omega)), fun p hp => Good.step (h.all p hp) h.rd hb, hr, h.mid.trans hb, h.low⟩
theorem TrS.later {w W W' : World} {b q : Nat} {o : Value} {ps : List (T.R × Value)} (h : TrS w W b q o ps) (hb : Below W.heap.size W W') : TrS w W' b q o ps :=
  h.step (Mid.of_below hb (Nat.le_refl _)) (h.rd.later hb (Nat.le_refl _))

theorem row_fresh {W : World} {lo : Nat} {v : Value} {zs : List Int} (h : W.ownsRow lo 3 1 v zs.length (zs.map (Value.int .i64))) : (∃ cap, Fresh W lo v zs cap) ∨ (v = .slice none 0 0 ∧ zs = []) := by
  have hcell : ∀ g cap, v = .slice (some ⟨g, 0, none⟩) zs.length cap → ∀ k, k < zs.length → W.cell? ⟨g, k, none⟩ = some (.int .i64 (zs.getD k 0)) := fun g cap hv k hk => by
    subst hv
    rw [h.cellAt k (by omega)]
    simp [List.getD_eq_getElem?_getD, hk]
  rcases h.2 with ⟨hv, hn⟩ | ⟨g, cap, cur, hv, hg, hh, _⟩
  · exact Or.inr ⟨hv, List.length_eq_zero_iff.1 hn⟩
  · refine Or.inl ⟨cap, g, 0, cur, hv, hg, hh, fun k hk => ?_⟩
    have := hcell g cap hv k hk
    rw [cell_of_row W _ _ _ _ _ hh] at this
    rw [Nat.zero_add]; exact this

theorem TrS.of_made {w W : World} {b q lo : Nat} {o : Value} {rs : List T.R} (h : T.Made W lo o rs) (hf : T.Fit rs) (hlo : w.heap.size ≤ lo) (hr : Rd W b q) (hm : Mid b (b + 1) w W) (hl : b < w.heap.size) : ∃ ps : List (T.R × Value), ps.map (·.1) = rs ∧ ps.length = rs.length ∧ TrS w W b q o ps := by
  obtain ⟨ps, hp, h1, h2, h3⟩ := h
  refine ⟨ps, hp, by rw [← hp]; simp, ownsRow_lower h1 hlo, fun p hpm => ?_, hr, hm, hl⟩
  have h3l : p.1.1.length = 3 := hf.2 p.1 (by rw [← hp]; exact List.mem_map_of_mem hpm)
  refine ⟨by show p.1.1.length ≤ 4; omega, ?_⟩
  rcases row_fresh (ownsRow_lower (h3.2.1 p hpm).1 hlo) with ⟨cap, hF⟩ | ⟨hv, hz⟩
  · exact Or.inl ⟨cap, hF⟩
  · exact Or.inr ⟨hv, hz⟩

theorem TrS.push {w W w4 : World} {b q : Nat} {o o' : Value} {ps : List (T.R × Value)} {r : T.R} {x : Value} (h : TrS w W b q o ps) (hg : TGood W w.heap.size (r, x))
    (hown : w4.ownsRow w.heap.size 33 2 o' (ps.length + 1) (T.flat ps ++ [x, .int .i64 r.2])) (hgr : W.grownBy w4 o.ownBlock) : TrS w w4 b q o' (ps ++ [(r, x)]) := by
  have hl := h.low
  have hblk : ∀ k, k < W.heap.size → (∀ cs, W.heap[k]? ≠ some (.cells cs 33 (0, 0))) → w4.heap[k]? = W.heap[k]? := fun k hk hn => hgr.block k hk (fun e => by
    obtain ⟨cs, hh⟩ := (rowB_at h.row k e.symm).2
    exact hn cs hh)
  have hws : w.heap.size ≤ W.heap.size := h.mid.size
  have hlow : ∀ k, k < w.heap.size → w4.heap[k]? = W.heap[k]? := fun k hk => hgr.block k (by omega) (fun e => by have := (rowB_at h.row k e.symm).1; omega)
  have hrd : Rd w4 b q := by
    obtain ⟨y, n, hn, h1, h2⟩ := h.rd
    exact ⟨y, n, hn, by rw [hlow b hl]; exact h1, h2.mid (fun k hk => hlow k (by omega))⟩
  have hmid : Mid b (b + 1) w w4 := ⟨hgr.os.trans h.mid.os, hgr.tape.trans h.mid.tape, hgr.output.trans h.mid.output, Nat.le_trans h.mid.size hgr.size, fun k hk hh => (hlow k hk).trans (h.mid.block k hk hh)⟩
  refine ⟨by rw [T.flat_append, List.length_append]; exact hown, fun p hp => ?_, hrd, hmid, hl⟩
  have hgood : TGood W w.heap.size p := by
    rcases List.mem_append.1 hp with hp | hp
    · exact h.all p hp
    · simp at hp; subst hp; exact hg
  exact Good.keep hgood fun g cs hh => hblk g (heap_lt hh) (fun cs' e => by rw [hh] at e; simp at e)

/-- Another state of one trip. -/
theorem TrS.turn {w W : World} {b q g n cap i : Nat} {ps : List (T.R × Value)} {p : T.R × Value} (s : Int) (h : TrS w W b q (.slice (some ⟨g, 0, none⟩) n cap) ps) (hn : ps.length = n) (hp : ps[i]? = some p) :
    TrS w (W.setCell ⟨g, i * 2 + 1, none⟩ (.int .i64 s)) b q (.slice (some ⟨g, 0, none⟩) n cap) (ps.set i ((p.1.1, s), p.2)) := by
  have hrow := h.row
  rw [hn] at hrow
  have hl := h.low
  obtain ⟨hlo, cs, hh⟩ := rowB_at hrow g rfl
  have st := hrow.stored (i * 2 + 1) (.int .i64 s)
  have e := T.flat_set1 ps i p (p.1.1, s) hp
  rw [e] at st
  refine ⟨by rw [List.length_set, hn]; exact st.1, fun x hx => ?_, h.rd.setApart (by omega) _, h.mid.setNew hlo _, hl⟩
  have hx' : TGood W w.heap.size x := by
    rcases List.mem_or_eq_of_mem_set hx with hx | hx
    · exact h.all x hx
    · subst hx; exact h.all p (List.mem_of_getElem? hp)
  exact Good.keep hx' fun g' cs' hh' => Below.heap_setCell _ _ _ _ (ne_of_type hh' hh (by decide))

theorem TrS.setX {w W : World} {b q X i : Nat} {cs : Array Value} {o : Value} {ps : List (T.R × Value)} (h : TrS w W b q o ps) (hX : W.heap[X]? = some (.cells cs 26 (0, 0))) (hw : w.heap.size ≤ X) (x : Value) : TrS w (W.setCell ⟨X, i, none⟩ x) b q o ps := by
  have hl := h.low
  refine ⟨?_, ?_, h.rd.setApart (by omega) _, h.mid.setNew hw _, hl⟩
  · exact ownsRow_setCell_ne h.row (fun g hg => by obtain ⟨_, cs', hh⟩ := rowB_at h.row g hg; exact ne_of_type hh hX (by decide)) _
  · exact fun p hp => Good.keep (h.all p hp) fun g cs hh => Below.heap_setCell _ _ _ _ (ne_of_type hh hX (by decide))

theorem trips_rows {W : World} {lo base : Nat} {v : Value} {ps : List (T.R × Value)} (hrow : W.ownsRow base 33 2 v ps.length (T.flat ps)) (hall : ∀ p ∈ ps, TGood W lo p) : T.Recs W v (ps.map (·.1)) := by
  by_cases hp : ps = []
  · subst hp
    rcases hrow.2 with ⟨hv, _⟩ | ⟨g, cap, cur, hv, _⟩
    · exact Or.inl ⟨rfl, none, 0, hv⟩
    · exact Or.inl ⟨rfl, _, cap, hv⟩
  · rcases hrow.2 with ⟨_, hn⟩ | ⟨g, cap, cur, hv, _⟩
    · exact absurd (List.length_eq_zero_iff.1 hn) hp
    · subst hv
      refine Or.inr ⟨g, 0, cap, by simp, by simpa using hp, fun i r hr => ?_⟩
      rw [List.getElem?_map] at hr
      cases hpi : ps[i]? with
      | none => rw [hpi] at hr; cases hr
      | some p =>
        rw [hpi] at hr
        simp at hr
        subst hr
        have hil := T.len_lt hpi
        obtain ⟨f0, f1⟩ := T.flat_get ps i p hpi
        refine ⟨p.2, ?_, ?_, Good.ints (hall p (List.mem_of_getElem? hpi))⟩
        · rw [Nat.zero_add, hrow.cellAt _ (by omega)]; exact f0
        · rw [Nat.zero_add, hrow.cellAt _ (by omega)]; exact f1
theorem TrS.out {w W : World} {b q : Nat} {o : Value} {ps : List (T.R × Value)} (h : TrS w W b q o ps) (hp : ps.length ≤ 10) : T.Recs W o (ps.map (·.1)) ∧ T.tot (ps.map (·.1)) ≤ 1000 := by
  refine ⟨trips_rows h.row h.all, ?_⟩
  have key : ∀ (l : List (T.R × Value)), (∀ x ∈ l, x.1.1.length ≤ 4) → ((l.map (·.1)).map fun r : T.R => r.1.length).sum ≤ 4 * l.length := by
    intro l
    induction l with
    | nil => intro _; simp
    | cons x t ih =>
      intro hx
      have h1 := ih (fun y hy => hx y (by simp [hy]))
      have h2 := hx x (by simp)
      simp at h1 ⊢
      omega
  have := key ps (fun x hx => (h.all x hx).1)
  unfold T.tot T.pre
  rw [List.take_length, List.length_map]
  omega

/-- What comes out of the draw. -/
def ListGot (w w' : World) (e : Ending) (b p : Nat) : Prop :=
  ∃ (o : Value) (ps : List (T.R × Value)) (q : Nat), e = .returned o ∧ ps.length ≤ 7 ∧ q ≤ p + 120 ∧ TrS w w' b q o ps

set_option maxRecDepth 100000 in
set_option maxHeartbeats 8000000 in
theorem list_draw (b p : Nat) (w : World) (h : Rd w b p) (hp : p ≤ 600000) :
    Calls Tryd.prog 24 #[.pointer (some ⟨b, 0, none⟩)] w fun e w' => ListGot w w' e b p := by
  obtain ⟨i0, hi, hz0, hz1, hz2⟩ := info_parts T.infoTrip
  have hblt := h.lt
  have HD := hide_it (trips_draw b p w h (by omega))
  clear h
  go_enter Tryd.func24, Tryd.ntmps24
  go_wp2_with fail
  refine HD.out.mono ?_
  rintro e w1 ⟨o, qs, q, rfl, hqs, hrow, hall, hq, r1, m1⟩
  have C1 : Hid (RcS w w1 b q o qs) := ⟨hrow, hall, r1, m1, hblt⟩
  obtain ⟨oa, oc, hos⟩ := row_shape hrow
  subst hos
  clear hrow hall r1 m1
  obtain ⟨hRq, hTq⟩ := C1.out.out (by omega)
  have HOF := hide_it (T.specOf_any _ (qs.map (·.1)) w1 hRq (by omega))
  have FO := hide_it (T.ofO_fit (qs.map (·.1)))
  obtain ⟨OO, hOO⟩ : ∃ x, T.ofO (qs.map (·.1)) = x := ⟨_, rfl⟩
  obtain ⟨BB, hBB⟩ : ∃ x, (T.runT (qs.map (·.1))).isSome = x := ⟨_, rfl⟩
  rw [hOO, hBB] at HOF
  rw [hOO] at FO
  clear hOO hBB hRq hTq
  go_wp2_with fail
  refine HOF.out.mono ?_
  rintro e w2 ⟨a2, c2, rfl, hm2, hb2⟩
  obtain ⟨ps, hps, hpsl, hT⟩ := TrS.of_made (w := w) (b := b) (q := q) hm2 FO.out C1.out.mid.size (C1.out.rd.later hb2 (Nat.le_refl _)) (C1.out.mid.trans (Mid.of_below hb2 (Nat.le_refl _))) hblt
  have S2 := hide_it hT
  have hO6 := FO.out.1
  rw [← hpsl] at S2 hO6 ⊢
  clear hm2 hb2 hT hps hpsl
  go_wp2_with fail
  refine (pick_any b q 16 _ S2.out.rd (by omega) (by omega) (by omega)).mono ?_
  rintro e w3 ⟨y, rfl, ly, uy, r3, m3⟩
  have S3 := hide_it (S2.out.step m3 r3)
  clear r3 m3
  by_cases hy0 : y = 0
  · subst hy0
    go_wp2_with fail
    refine (many_draw b (q + 1) _ S3.out.rd (by omega)).mono ?_
    rintro e w4 ⟨u, zs, q4, rfl, hzl, hF, hqa, hqb, r4, m4⟩
    have S4 := hide_it (S3.out.step m4 r4)
    have F4 := hide_it (hF.mono S3.out.mid.size)
    obtain ⟨g, off, hu⟩ : ∃ g off, u = .slice (some ⟨g, off, none⟩) zs.length zs.length := by obtain ⟨g, off, cs, h, _⟩ := hF; exact ⟨g, off, h⟩
    subst hu
    clear hF r4 m4
    go_wp2_with fail
    refine (pick_any b q4 8 _ S4.out.rd (by omega) (by omega) (by omega)).mono ?_
    rintro e w5 ⟨z, rfl, lz, uz, r5, m5⟩
    have S5 := hide_it (S4.out.step m5 r5)
    have F5 := hide_it (F4.out.mid S4.out.rd m5)
    have hw5 := S5.out.mid.size
    have ROW : Hid (∀ x, (w5.alloc x).ownsRow w.heap.size 33 2 (.slice a2 ps.length c2) ps.length (T.flat ps)) := fun x => S5.out.row.alloc x
    clear r5 m5
    go_wp2_with (at_builtin; refine wpList_append_own _ rfl _ _ 23 rfl w.heap.size 33 i0 (.agg #[.slice none 0 0, .int .i64 0]) 2 32 Tryd.underlying23 hi hz0 hz1 hz2 rfl (by decide) (.slice a2 ps.length c2) ps.length (T.flat ps) rfl (ROW.out _) ⟨w5.heap.size, 0, none⟩ 1 1 [.slice (some ⟨g, off, none⟩) zs.length zs.length, .int .i64 z] rfl rfl (T.news2 _ _ _ _) (T.one2 _ _) ?c3 ?c4 ?c5 ?_)
    case c3 => unfold maxLen; omega
    case c4 => omega
    case c5 => simp; omega
    intro v' w6 hown6 hgrow6 _
    have S6 := hide_it ((S5.out.later (alloc_below _ _)).push (r := (zs, z)) ⟨by show zs.length ≤ 4; omega, Or.inl ⟨_, F5.out.later (alloc_below _ _) (Nat.le_refl _)⟩⟩ hown6 hgrow6)
    clear hown6 hgrow6 ROW
    go_wp2
    go_ret
    exact ⟨_, _, q4 + 1, rfl, by simp; omega, by omega, S6.out⟩
  by_cases hy1 : y = 1
  · subst hy1
    by_cases hpos : ¬ 0 < (ps.length : Int)
    · go_wp2
      go_ret
      exact ⟨_, ps, q + 1, rfl, by omega, by omega, S3.out⟩
    · have hpos1 : 0 < (ps.length : Int) := by omega
      obtain ⟨x, hx⟩ : ∃ x, Hid (ps[0]? = some x) := ⟨ps[0]'(by omega), by show _ = _; rw [List.getElem?_eq_getElem]⟩
      go_wp2_with fail
      refine (pick_any b (q + 1) 8 _ S3.out.rd (by omega) (by omega) (by omega)).mono ?_
      rintro e w4 ⟨z, rfl, lz, uz, r4, m4⟩
      have S4 := hide_it (S3.out.step m4 r4)
      clear r4 m4
      obtain ⟨g, hga⟩ : ∃ g, a2 = some ⟨g, 0, none⟩ := by
        rcases S4.out.row.2 with ⟨hv, hn⟩ | ⟨g, cap, cur, hv, _⟩
        · omega
        · simp at hv; exact ⟨g, hv.1⟩
      subst hga
      have c1 := S4.out.row.cellAt 1 (by omega)
      rw [(T.flat_get ps 0 x hx.out).2] at c1
      have f1 := S4.out.row.frozenAt 1
      have ST := hide_it (S4.out.turn (z - 1) rfl hx.out)
      go_wp2
      go_ret
      exact ⟨_, ps.set 0 ((x.1.1, z - 1), x.2), q + 1 + 1, rfl, by rw [List.length_set]; omega, by omega, ST.out⟩
  · go_wp2
    go_ret
    exact ⟨_, ps, q + 1, rfl, by omega, by omega, S3.out⟩

end Go.Proofs.YtickjfpbaknlmaaDoor

namespace Go.Proofs.YtickjfpbaknlmaaDoor
open Go.RowKit

/-- Three stores into a record's block leave blocks of other types, and rows in them. -/
theorem sets3 {W : World} {B g : Nat} {cs cs' : Array Value} {ty : TypeId} (hB : W.heap[B]? = some (Obj.cells cs 26 (0, 0))) (hh : W.heap[g]? = some (Obj.cells cs' ty (0, 0))) (ht : ty ≠ 26) (x y z : Value) :
    (((W.setCell ⟨B, 0, none⟩ x).setCell ⟨B, 1, none⟩ y).setCell ⟨B, 2, none⟩ z).heap[g]? = W.heap[g]? := by
  have hne : g ≠ B := ne_of_type hh hB ht
  rw [Below.heap_setCell _ _ _ _ hne, Below.heap_setCell _ _ _ _ hne, Below.heap_setCell _ _ _ _ hne]
theorem rowSets3 {W : World} {base B sz n : Nat} {cs : Array Value} {ty : TypeId} {v : Value} {xs : List Value} (h : W.ownsRow base ty sz v n xs) (hB : W.heap[B]? = some (Obj.cells cs 26 (0, 0))) (ht : ty ≠ 26) (x y z : Value) :
    (((W.setCell ⟨B, 0, none⟩ x).setCell ⟨B, 1, none⟩ y).setCell ⟨B, 2, none⟩ z).ownsRow base ty sz v n xs := by
  obtain ⟨h1, h2⟩ := h
  refine ⟨h1, ?_⟩
  rcases h2 with h2 | ⟨g, cap, cur, hv, hg, hh, r⟩
  · exact Or.inl h2
  · exact Or.inr ⟨g, cap, cur, hv, hg, by rw [sets3 hB hh ht]; exact hh, r⟩

/-- A record is put into the block. -/
theorem BoxT.put {w W : World} {b q X : Nat} {r r' : R} {u u' o : Value} {ps : List (T.R × Value)} (h : BoxT w W X r u (.slice none 0 0)) (hs : TrS w W b q o ps) (hg : Good W w.heap.size (r', u')) (hsl : ∃ a n c, u' = .slice a n c) :
    TrS w (((W.setCell ⟨X, 0, none⟩ (.int .i64 r'.1)).setCell ⟨X, 1, none⟩ (.int .i64 r'.2.1)).setCell ⟨X, 2, none⟩ u') b q o ps ∧
    BoxT w (((W.setCell ⟨X, 0, none⟩ (.int .i64 r'.1)).setCell ⟨X, 1, none⟩ (.int .i64 r'.2.1)).setCell ⟨X, 2, none⟩ u') X r' u' (.slice none 0 0) := by
  have e0 : Blk W X #[.int .i64 r.1, .int .i64 r.2.1, u] 26 := h.own
  have e1 := e0.set_ 0 (.int .i64 r'.1)
  have e2 := e1.set_ 1 (.int .i64 r'.2.1)
  have e3 := e2.set_ 2 u'
  have s1 := hs.setX (i := 0) e0 h.new (.int .i64 r'.1)
  have s2 := s1.setX (i := 1) e1 h.new (.int .i64 r'.2.1)
  have s3 := s2.setX (i := 2) e2 h.new u'
  refine ⟨s3, ⟨e3, h.new, h.far, ?_, hsl⟩⟩
  exact hg.keep fun g cs hh => sets3 h.own hh (by decide) _ _ _
theorem BoxT.turnR {w W : World} {b q X Y : Nat} {r : R} {u o : Value} {ps : List (T.R × Value)} (h : BoxT w W X r u (.slice none 0 0)) (hs : TrS w W b q o ps) (k t : Int) (hY : W.heap.size = Y) :
    TrS w ((((W.setCell ⟨X, 0, none⟩ (.int .i64 k)).setCell ⟨X, 1, none⟩ (.int .i64 t)).setCell ⟨X, 2, none⟩ (.slice (some ⟨Y, 0, none⟩) 0 0)).alloc (.cells #[] 3)) b q o ps ∧
    BoxT w ((((W.setCell ⟨X, 0, none⟩ (.int .i64 k)).setCell ⟨X, 1, none⟩ (.int .i64 t)).setCell ⟨X, 2, none⟩ (.slice (some ⟨Y, 0, none⟩) 0 0)).alloc (.cells #[] 3)) X (k, t, []) (.slice (some ⟨Y, 0, none⟩) 0 0) (.slice none 0 0) := by
  have e0 : Blk W X #[.int .i64 r.1, .int .i64 r.2.1, u] 26 := h.own
  have e1 := e0.set_ 0 (.int .i64 k)
  have e2 := e1.set_ 1 (.int .i64 t)
  have e3 := e2.set_ 2 (.slice (some ⟨Y, 0, none⟩) 0 0)
  have s1 := hs.setX (i := 0) e0 h.new (.int .i64 k)
  have s2 := s1.setX (i := 1) e1 h.new (.int .i64 t)
  have s3 := s2.setX (i := 2) e2 h.new (.slice (some ⟨Y, 0, none⟩) 0 0)
  have hsz : (((W.setCell ⟨X, 0, none⟩ (.int .i64 k)).setCell ⟨X, 1, none⟩ (.int .i64 t)).setCell ⟨X, 2, none⟩ (.slice (some ⟨Y, 0, none⟩) 0 0)).heap.size = Y := by simp [hY]
  refine ⟨s3.later (alloc_below _ _), ⟨(e3.alloc _ : Blk _ _ _ _), h.new, h.far, ⟨by simp, Or.inl ⟨0, ?_⟩⟩, ⟨_, _, _, rfl⟩⟩⟩
  have := fresh0 (((W.setCell ⟨X, 0, none⟩ (.int .i64 k)).setCell ⟨X, 1, none⟩ (.int .i64 t)).setCell ⟨X, 2, none⟩ (.slice (some ⟨Y, 0, none⟩) 0 0)) w.heap.size (by rw [hsz, ← hY]; exact hs.mid.size)
  rw [hsz] at this
  exact this

/-- What comes out of the draw: trips, and a record. -/
def PairGot (w w' : World) (e : Ending) : Prop :=
  ∃ (o : Value) (rs : List T.R) (r : R) (u : Value), e = .returned (.tuple #[o, .agg #[.int .i64 r.1, .int .i64 r.2.1, u]]) ∧ T.tot rs ≤ 1000 ∧ T.Recs w' o rs ∧ r.2.2.length ≤ 4 ∧ Ints w' u r.2.2 ∧ Below w.heap.size w w'

/-- The record is put into the result's block. -/
theorem pair_out {w w1 W : World} {b q X B : Nat} {r : R} {u o : Value} {ps : List (T.R × Value)} (hs : TrS w1 W b q o ps) (hx : BoxT w1 W X r u (.slice none 0 0)) (hp : ps.length ≤ 10) (hB : Blk W B #[.int .i64 0, .int .i64 0, .slice none 0 0] 26) (hwB : w.heap.size ≤ B) (hb : Below w.heap.size w W) :
    PairGot w (((W.setCell ⟨B, 0, none⟩ (.int .i64 r.1)).setCell ⟨B, 1, none⟩ (.int .i64 r.2.1)).setCell ⟨B, 2, none⟩ u) (.returned (.tuple #[o, .agg #[.int .i64 r.1, .int .i64 r.2.1, u]])) := by
  refine ⟨o, ps.map (·.1), r, u, rfl, (hs.out hp).2, trips_rows (rowSets3 hs.row hB (by decide) _ _ _) (fun p hpm => Good.keep (hs.all p hpm) fun g cs hh => sets3 hB hh (by decide) _ _ _), hx.many.1, (hx.many.keep fun g cs hh => sets3 hB hh (by decide) _ _ _).ints, ?_⟩
  exact ((hb.setCell hwB _).setCell hwB _).setCell hwB _
theorem PairGot.drew {w w' : World} {e : Ending} (h : PairGot w w' e) : PairGot w w'.drew e := by
  obtain ⟨o, rs, r, u, h1, h2, h3, h4, h5, h6⟩ := h
  exact ⟨o, rs, r, u, h1, h2, h3.later (Below.refl _ _).drew (Nat.le_refl _), h4, h5.later (Below.refl _ _).drew (Nat.le_refl _), h6.drew⟩

set_option maxRecDepth 100000 in
set_option maxHeartbeats 8000000 in
theorem drawTMay_any (v : Value) (n : Nat) (w : World) (hv : CodeAt w v n) (hn : n ≤ 1048576) :
    Calls Tryd.prog 9 #[v] w fun e w' => PairGot w w' e := by
  obtain ⟨w0, hw0⟩ : ∃ W, Hid (W = w.alloc (.cells #[.int .i64 0, .int .i64 0, .slice none 0 0] 26)) := ⟨_, rfl⟩
  have B0 : Hid (Below w.heap.size w w0) := by show Below _ _ _; rw [hw0.out]; exact alloc_below _ _
  have Z0 : Hid (Blk w0 w.heap.size #[.int .i64 0, .int .i64 0, .slice none 0 0] 26) := by show Blk _ _ _ _; rw [hw0.out]; exact Blk.new w _ _
  have HO := hide_it (open_any v n w0 (hv.later B0.out (Nat.le_refl _)) hn)
  obtain ⟨ao, cap, rfl, _⟩ := hv
  go_enter Tryd.func9, Tryd.ntmps9
  go_wp2_with fail
  rw [← hw0.out]
  refine HO.out.mono ?_
  rintro e w1 ⟨rfl, hr1, hs1, hb1⟩
  obtain ⟨b, hbb⟩ : ∃ b, Hid (b = w0.heap.size) := ⟨_, rfl⟩
  rw [← hbb.out] at hr1 ⊢
  have hb1' : b < w1.heap.size := by rw [hbb.out, hs1]; omega
  have hzb : w.heap.size < b := by rw [hbb.out]; exact Z0.out.lt
  have R1 := hide_it hr1
  have B1 := hide_it (B0.out.trans (hb1.mono B0.out.size))
  have Z1 := hide_it (Z0.out.after hb1)
  have RES : Hid (∀ W, Mid b (b + 1) w1 W → Blk W w.heap.size #[.int .i64 0, .int .i64 0, .slice none 0 0] 26 ∧ Below w.heap.size w W) := fun W hm =>
    ⟨Z1.out.mid hm (Or.inl hzb), B1.out.trans (hm.below (by omega) B1.out.size)⟩
  clear hr1 hb1 hs1
  go_wp2_with fail
  refine (list_draw b 0 _ R1.out (by omega)).mono ?_
  rintro e w2 ⟨o, ps, q, rfl, hps, hq, hT⟩
  have S2 := hide_it hT
  obtain ⟨oa, oc, hos⟩ := row_shape hT.row
  subst hos
  clear hT
  go_wp2_with fail
  refine (many_draw b q _ S2.out.rd (by omega)).mono ?_
  rintro e w3 ⟨u, zs, q3, rfl, hzl, hF, hqa, hqb, r3, m3⟩
  have S3 := hide_it (S2.out.step m3 r3)
  have F3 := hide_it (hF.mono S2.out.mid.size)
  obtain ⟨g, off, hu⟩ : ∃ g off, u = .slice (some ⟨g, off, none⟩) zs.length zs.length := by obtain ⟨g, off, cs, h, _⟩ := hF; exact ⟨g, off, h⟩
  subst hu
  clear hF r3 m3
  obtain ⟨X, hX⟩ : ∃ X, Hid (w3.heap.size = X) := ⟨_, rfl⟩
  obtain ⟨w4, hw4⟩ : ∃ W, Hid (W = w3.alloc (.cells #[.int .i64 4, .int .i64 ((ps.length : Int) + 1), .slice (some ⟨g, off, none⟩) zs.length zs.length] 26)) := ⟨_, rfl⟩
  have b4 : Below w3.heap.size w3 w4 := by rw [hw4.out]; exact alloc_below _ _
  have S4 := hide_it (S3.out.later b4)
  have X4 : Hid (BoxT w1 w4 X (4, (ps.length : Int) + 1, zs) (.slice (some ⟨g, off, none⟩) zs.length zs.length) (.slice none 0 0)) := by
    refine ⟨?_, by rw [← hX.out]; exact S3.out.mid.size, fun g hg => by simp [Value.ownBlock] at hg, ⟨by show zs.length ≤ 4; omega, Or.inl ⟨_, F3.out.later b4 (Nat.le_refl _)⟩⟩, ⟨_, _, _, rfl⟩⟩
    rw [hw4.out, ← hX.out]; exact heap_alloc_new w3 _
  clear b4
  have hbw1 := hb1'
  go_wp2
  rw [hX.out, ← hw4.out]
  go_loopw [7] (fun i wr => ∃ (j q' : Nat) (r : R) (x : Value), j ≤ 4 ∧ i = .int .i64 j ∧ q' ≤ 200 + 3 * j ∧ Hid (TrS w1 wr b q' (.slice oa ps.length oc) ps) ∧ Hid (BoxT w1 wr X r x (.slice none 0 0))) (fun i _ => 4 - (intOf i).toNat)
  case atStart => exact ⟨0, q3, _, _, by omega, rfl, by omega, S4, X4⟩
  case round =>
    obtain ⟨j, q', r, x, hj, rfl, hq', HS, HX⟩ := hrel
    obtain ⟨xa, xn, xc, hxs⟩ := HX.out.sl
    subst hxs
    by_cases hj4 : ¬ (j : Int) < 4
    · go_wp2_with fail
      refine (pick_any b q' 12 _ HS.out.rd (by omega) (by omega) (by omega)).mono ?_
      rintro e w8 ⟨y8, rfl, l8, u8', r8, m8⟩
      have S8 := hide_it (HS.out.step m8 r8)
      have X8 := hide_it (HX.out.mid m8 HS.out.rd HS.out.low)
      clear r8 m8
      by_cases hy8 : y8 = 0
      · subst hy8
        go_wp2_with fail
        refine (rec_draw b (q' + 1) _ S8.out.rd (by omega)).mono ?_
        rintro e w9 ⟨k9, t9, u9, zs9, q9, cap9, rfl, hz9, hF9, hqa9, hqb9, r9, m9⟩
        have S9 := hide_it (S8.out.step m9 r9)
        have X9 := hide_it (X8.out.mid m9 S8.out.rd S8.out.low)
        have hsl9 : ∃ a n c, u9 = .slice a n c := by obtain ⟨g, off, cs, h, _⟩ := hF9; exact ⟨_, _, _, h⟩
        have PT := X9.out.put (r' := (k9, t9, zs9)) S9.out ⟨hz9, Or.inl ⟨cap9, hF9.mono S8.out.mid.size⟩⟩ hsl9
        obtain ⟨w10, hw10⟩ : ∃ W, Hid (W = ((w9.setCell ⟨X, 0, none⟩ (.int .i64 k9)).setCell ⟨X, 1, none⟩ (.int .i64 t9)).setCell ⟨X, 2, none⟩ u9) := ⟨_, rfl⟩
        have S10 : Hid (TrS w1 w10 b q9 (.slice oa ps.length oc) ps) := by show TrS _ _ _ _ _ _; rw [hw10.out]; exact PT.1
        have X10 : Hid (BoxT w1 w10 X (k9, t9, zs9) u9 (.slice none 0 0)) := by show BoxT _ _ _ _ _ _; rw [hw10.out]; exact PT.2
        obtain ⟨a9, n9, c9, hu9⟩ := hsl9
        subst hu9
        obtain ⟨y0, y1, y2⟩ := Blk.cells3 X9.out.own
        obtain ⟨fy0, fy1, fy2, -, -⟩ := Blk.free5 X9.out.own
        clear hF9 r9 m9 PT
        go_upto_region 12 with fail
        rw [← hw10.out]
        obtain ⟨x0, x1, x2⟩ := Blk.cells3 X10.out.own
        obtain ⟨hZr, hBr⟩ := RES.out _ S10.out.mid
        obtain ⟨z0, z1, z2⟩ := hZr.cells3
        obtain ⟨f0, f1, f2, -, -⟩ := hZr.free5
        have hXB : X ≠ w.heap.size := by have := X10.out.new; omega
        have hBX : w.heap.size ≠ X := fun e => hXB e.symm
        have hXl := heap_lt X10.out.own
        have OUT := hide_it (pair_out S10.out X10.out (by omega) hZr (Nat.le_refl _) hBr)
        go_wp2
        go_region
        all_goals
          try go_wp2
          refine bodyPost_ret (v := .tuple #[.slice oa ps.length oc, .agg #[.int .i64 ((k9, t9, zs9) : R).1, .int .i64 ((k9, t9, zs9) : R).2.1, (.slice a9 n9 c9)]]) (by simp [results, Tryd.results9, go_sem, z0, z1, z2]) rfl ?_
          first | exact OUT.out | exact OUT.out.drew | exact OUT.out.drew.drew
      · go_upto_region 12 with fail
        obtain ⟨x0, x1, x2⟩ := Blk.cells3 X8.out.own
        obtain ⟨hZr, hBr⟩ := RES.out _ S8.out.mid
        obtain ⟨z0, z1, z2⟩ := hZr.cells3
        obtain ⟨f0, f1, f2, -, -⟩ := hZr.free5
        have hXB : X ≠ w.heap.size := by have := X8.out.new; omega
        have hBX : w.heap.size ≠ X := fun e => hXB e.symm
        have hXl := heap_lt X8.out.own
        have OUT := hide_it (pair_out S8.out X8.out (by omega) hZr (Nat.le_refl _) hBr)
        go_wp2
        go_region
        all_goals
          try go_wp2
          refine bodyPost_ret (v := .tuple #[.slice oa ps.length oc, .agg #[.int .i64 r.1, .int .i64 r.2.1, (.slice xa xn xc)]]) (by simp [results, Tryd.results9, go_sem, z0, z1, z2]) rfl ?_
          first | exact OUT.out | exact OUT.out.drew | exact OUT.out.drew.drew
    have hj4' : (j : Int) < 4 := by omega
    by_cases hpos : ¬ 0 < (ps.length : Int)
    · go_wp2_with fail
      refine (pick_any b q' 12 _ HS.out.rd (by omega) (by omega) (by omega)).mono ?_
      rintro e w8 ⟨y8, rfl, l8, u8', r8, m8⟩
      have S8 := hide_it (HS.out.step m8 r8)
      have X8 := hide_it (HX.out.mid m8 HS.out.rd HS.out.low)
      clear r8 m8
      by_cases hy8 : y8 = 0
      · subst hy8
        go_wp2_with fail
        refine (rec_draw b (q' + 1) _ S8.out.rd (by omega)).mono ?_
        rintro e w9 ⟨k9, t9, u9, zs9, q9, cap9, rfl, hz9, hF9, hqa9, hqb9, r9, m9⟩
        have S9 := hide_it (S8.out.step m9 r9)
        have X9 := hide_it (X8.out.mid m9 S8.out.rd S8.out.low)
        have hsl9 : ∃ a n c, u9 = .slice a n c := by obtain ⟨g, off, cs, h, _⟩ := hF9; exact ⟨_, _, _, h⟩
        have PT := X9.out.put (r' := (k9, t9, zs9)) S9.out ⟨hz9, Or.inl ⟨cap9, hF9.mono S8.out.mid.size⟩⟩ hsl9
        obtain ⟨w10, hw10⟩ : ∃ W, Hid (W = ((w9.setCell ⟨X, 0, none⟩ (.int .i64 k9)).setCell ⟨X, 1, none⟩ (.int .i64 t9)).setCell ⟨X, 2, none⟩ u9) := ⟨_, rfl⟩
        have S10 : Hid (TrS w1 w10 b q9 (.slice oa ps.length oc) ps) := by show TrS _ _ _ _ _ _; rw [hw10.out]; exact PT.1
        have X10 : Hid (BoxT w1 w10 X (k9, t9, zs9) u9 (.slice none 0 0)) := by show BoxT _ _ _ _ _ _; rw [hw10.out]; exact PT.2
        obtain ⟨a9, n9, c9, hu9⟩ := hsl9
        subst hu9
        obtain ⟨y0, y1, y2⟩ := Blk.cells3 X9.out.own
        obtain ⟨fy0, fy1, fy2, -, -⟩ := Blk.free5 X9.out.own
        clear hF9 r9 m9 PT
        go_upto_region 12 with fail
        rw [← hw10.out]
        obtain ⟨x0, x1, x2⟩ := Blk.cells3 X10.out.own
        obtain ⟨hZr, hBr⟩ := RES.out _ S10.out.mid
        obtain ⟨z0, z1, z2⟩ := hZr.cells3
        obtain ⟨f0, f1, f2, -, -⟩ := hZr.free5
        have hXB : X ≠ w.heap.size := by have := X10.out.new; omega
        have hBX : w.heap.size ≠ X := fun e => hXB e.symm
        have hXl := heap_lt X10.out.own
        have OUT := hide_it (pair_out S10.out X10.out (by omega) hZr (Nat.le_refl _) hBr)
        go_wp2
        go_region
        all_goals
          try go_wp2
          refine bodyPost_ret (v := .tuple #[.slice oa ps.length oc, .agg #[.int .i64 ((k9, t9, zs9) : R).1, .int .i64 ((k9, t9, zs9) : R).2.1, (.slice a9 n9 c9)]]) (by simp [results, Tryd.results9, go_sem, z0, z1, z2]) rfl ?_
          first | exact OUT.out | exact OUT.out.drew | exact OUT.out.drew.drew
      · go_upto_region 12 with fail
        obtain ⟨x0, x1, x2⟩ := Blk.cells3 X8.out.own
        obtain ⟨hZr, hBr⟩ := RES.out _ S8.out.mid
        obtain ⟨z0, z1, z2⟩ := hZr.cells3
        obtain ⟨f0, f1, f2, -, -⟩ := hZr.free5
        have hXB : X ≠ w.heap.size := by have := X8.out.new; omega
        have hBX : w.heap.size ≠ X := fun e => hXB e.symm
        have hXl := heap_lt X8.out.own
        have OUT := hide_it (pair_out S8.out X8.out (by omega) hZr (Nat.le_refl _) hBr)
        go_wp2
        go_region
        all_goals
          try go_wp2
          refine bodyPost_ret (v := .tuple #[.slice oa ps.length oc, .agg #[.int .i64 r.1, .int .i64 r.2.1, (.slice xa xn xc)]]) (by simp [results, Tryd.results9, go_sem, z0, z1, z2]) rfl ?_
          first | exact OUT.out | exact OUT.out.drew | exact OUT.out.drew.drew
    have hpos1 : 0 < (ps.length : Int) := by omega
    go_wp2_with fail
    refine (pick_any b q' 5 _ HS.out.rd (by omega) (by omega) (by omega)).mono ?_
    rintro e w5 ⟨y5, rfl, l5, u5', r5, m5⟩
    have S5 := hide_it (HS.out.step m5 r5)
    have X5 := hide_it (HX.out.mid m5 HS.out.rd HS.out.low)
    clear r5 m5
    by_cases hy5 : ¬ 0 < y5
    · have hy50 : y5 = 0 := by omega
      subst hy50
      go_wp2_with fail
      refine (pick_any b (q' + 1) 12 _ S5.out.rd (by omega) (by omega) (by omega)).mono ?_
      rintro e w8 ⟨y8, rfl, l8, u8', r8, m8⟩
      have S8 := hide_it (S5.out.step m8 r8)
      have X8 := hide_it (X5.out.mid m8 S5.out.rd S5.out.low)
      clear r8 m8
      by_cases hy8 : y8 = 0
      · subst hy8
        go_wp2_with fail
        refine (rec_draw b ((q' + 1) + 1) _ S8.out.rd (by omega)).mono ?_
        rintro e w9 ⟨k9, t9, u9, zs9, q9, cap9, rfl, hz9, hF9, hqa9, hqb9, r9, m9⟩
        have S9 := hide_it (S8.out.step m9 r9)
        have X9 := hide_it (X8.out.mid m9 S8.out.rd S8.out.low)
        have hsl9 : ∃ a n c, u9 = .slice a n c := by obtain ⟨g, off, cs, h, _⟩ := hF9; exact ⟨_, _, _, h⟩
        have PT := X9.out.put (r' := (k9, t9, zs9)) S9.out ⟨hz9, Or.inl ⟨cap9, hF9.mono S8.out.mid.size⟩⟩ hsl9
        obtain ⟨w10, hw10⟩ : ∃ W, Hid (W = ((w9.setCell ⟨X, 0, none⟩ (.int .i64 k9)).setCell ⟨X, 1, none⟩ (.int .i64 t9)).setCell ⟨X, 2, none⟩ u9) := ⟨_, rfl⟩
        have S10 : Hid (TrS w1 w10 b q9 (.slice oa ps.length oc) ps) := by show TrS _ _ _ _ _ _; rw [hw10.out]; exact PT.1
        have X10 : Hid (BoxT w1 w10 X (k9, t9, zs9) u9 (.slice none 0 0)) := by show BoxT _ _ _ _ _ _; rw [hw10.out]; exact PT.2
        obtain ⟨a9, n9, c9, hu9⟩ := hsl9
        subst hu9
        obtain ⟨y0, y1, y2⟩ := Blk.cells3 X9.out.own
        obtain ⟨fy0, fy1, fy2, -, -⟩ := Blk.free5 X9.out.own
        clear hF9 r9 m9 PT
        go_upto_region 12 with fail
        rw [← hw10.out]
        obtain ⟨x0, x1, x2⟩ := Blk.cells3 X10.out.own
        obtain ⟨hZr, hBr⟩ := RES.out _ S10.out.mid
        obtain ⟨z0, z1, z2⟩ := hZr.cells3
        obtain ⟨f0, f1, f2, -, -⟩ := hZr.free5
        have hXB : X ≠ w.heap.size := by have := X10.out.new; omega
        have hBX : w.heap.size ≠ X := fun e => hXB e.symm
        have hXl := heap_lt X10.out.own
        have OUT := hide_it (pair_out S10.out X10.out (by omega) hZr (Nat.le_refl _) hBr)
        go_wp2
        go_region
        all_goals
          try go_wp2
          refine bodyPost_ret (v := .tuple #[.slice oa ps.length oc, .agg #[.int .i64 ((k9, t9, zs9) : R).1, .int .i64 ((k9, t9, zs9) : R).2.1, (.slice a9 n9 c9)]]) (by simp [results, Tryd.results9, go_sem, z0, z1, z2]) rfl ?_
          first | exact OUT.out | exact OUT.out.drew | exact OUT.out.drew.drew
      · go_upto_region 12 with fail
        obtain ⟨x0, x1, x2⟩ := Blk.cells3 X8.out.own
        obtain ⟨hZr, hBr⟩ := RES.out _ S8.out.mid
        obtain ⟨z0, z1, z2⟩ := hZr.cells3
        obtain ⟨f0, f1, f2, -, -⟩ := hZr.free5
        have hXB : X ≠ w.heap.size := by have := X8.out.new; omega
        have hBX : w.heap.size ≠ X := fun e => hXB e.symm
        have hXl := heap_lt X8.out.own
        have OUT := hide_it (pair_out S8.out X8.out (by omega) hZr (Nat.le_refl _) hBr)
        go_wp2
        go_region
        all_goals
          try go_wp2
          refine bodyPost_ret (v := .tuple #[.slice oa ps.length oc, .agg #[.int .i64 r.1, .int .i64 r.2.1, (.slice xa xn xc)]]) (by simp [results, Tryd.results9, go_sem, z0, z1, z2]) rfl ?_
          first | exact OUT.out | exact OUT.out.drew | exact OUT.out.drew.drew
    have hy51 : 0 < y5 := by omega
    go_wp2_with fail
    refine (pick_any b (q' + 1) 3 _ S5.out.rd (by omega) (by omega) (by omega)).mono ?_
    rintro e w6 ⟨y6, rfl, l6, u6', r6, m6⟩
    have S6 := hide_it (S5.out.step m6 r6)
    have X6 := hide_it (X5.out.mid m6 S5.out.rd S5.out.low)
    clear r6 m6
    go_wp2_with fail
    refine (pick_any b (q' + 1 + 1) ps.length _ S6.out.rd (by omega) (by omega) (by omega)).mono ?_
    rintro e w7 ⟨y7, rfl, l7, u7', r7, m7⟩
    have S7 := hide_it (S6.out.step m7 r7)
    have X7 := hide_it (X6.out.mid m7 S6.out.rd S6.out.low)
    clear r7 m7
    obtain ⟨Y, hY⟩ : ∃ Y, Hid (w7.heap.size = Y) := ⟨_, rfl⟩
    obtain ⟨v70, v71, v72⟩ := Blk.cells3 X7.out.own
    obtain ⟨f70, f71, f72, -, -⟩ := Blk.free5 X7.out.own
    have hX7 := heap_lt X7.out.own
    obtain ⟨w8a, hw8a⟩ : ∃ W, Hid (W = (((w7.setCell ⟨X, 0, none⟩ (.int .i64 (5 + y6))).setCell ⟨X, 1, none⟩ (.int .i64 (1 + y7))).setCell ⟨X, 2, none⟩ (.slice (some ⟨Y, 0, none⟩) 0 0)).alloc (.cells #[] 3)) := ⟨_, rfl⟩
    have TU := X7.out.turnR S7.out (5 + y6) (1 + y7) hY.out
    have S8a : Hid (TrS w1 w8a b (q' + 3) (.slice oa ps.length oc) ps) := by show TrS _ _ _ _ _ _; rw [hw8a.out]; exact TU.1
    have X8a : Hid (BoxT w1 w8a X (5 + y6, 1 + y7, []) (.slice (some ⟨Y, 0, none⟩) 0 0) (.slice none 0 0)) := by show BoxT _ _ _ _ _ _; rw [hw8a.out]; exact TU.2
    clear TU
    obtain ⟨hRR, hTT⟩ := S8a.out.out (by omega)
    have HMY := hide_it (T.specMay_any (.slice oa ps.length oc) (ps.map (·.1)) (5 + y6, 1 + y7, []) (.slice (some ⟨Y, 0, none⟩) 0 0) w8a hRR (by omega) X8a.out.many.ints (by simp))
    obtain ⟨BB, hBB⟩ : ∃ x, T.tMay (ps.map (·.1)) (5 + y6, 1 + y7, []) = x := ⟨_, rfl⟩
    rw [hBB] at HMY
    clear hBB hRR hTT
    go_upto_region 8 with fail
    rw [hY.out, ← hw8a.out]
    clear v70 v71 v72 f70 f71 f72
    obtain ⟨v80, v81, v82⟩ := Blk.cells3 X8a.out.own
    go_wp2_with fail
    refine HMY.out.mono ?_
    rintro e w9 ⟨rfl, hb9⟩
    have S9 := hide_it (S8a.out.later hb9)
    have X9 := hide_it (X8a.out.later hb9)
    clear hb9 v80 v81 v82
    cases BB
    · go_wp2_with fail
      go_roundw
      case rel => exact ⟨j + 1, q' + 3, _, _, by omega, by go_num, by omega, S9, X9⟩
      case measure => simp [intOf]; omega
    · go_upto_region 9 with fail
      obtain ⟨x0, x1, x2⟩ := Blk.cells3 X9.out.own
      obtain ⟨hZr, hBr⟩ := RES.out _ S9.out.mid
      obtain ⟨z0, z1, z2⟩ := hZr.cells3
      obtain ⟨f0, f1, f2, -, -⟩ := hZr.free5
      have hXB : X ≠ w.heap.size := by have := X9.out.new; omega
      have hBX : w.heap.size ≠ X := fun e => hXB e.symm
      have hXl := heap_lt X9.out.own
      have OUT := hide_it (pair_out S9.out X9.out (by omega) hZr (Nat.le_refl _) hBr)
      go_wp2
      go_region
      all_goals
        try go_wp2
        refine bodyPost_ret (v := .tuple #[.slice oa ps.length oc, .agg #[.int .i64 ((5 + y6, 1 + y7, []) : R).1, .int .i64 ((5 + y6, 1 + y7, []) : R).2.1, (.slice (some ⟨Y, 0, none⟩) 0 0)]]) (by simp [results, Tryd.results9, go_sem, z0, z1, z2]) rfl ?_
        first | exact OUT.out | exact OUT.out.drew | exact OUT.out.drew.drew

end Go.Proofs.YtickjfpbaknlmaaDoor

namespace Go.Proofs.YtickjfpbaknlmaaDoor
open Go.RowKit

theorem T.begin_may {rs : List T.R} {t : Int} (h : T.tripsOk rs = true) (h1 : 1 ≤ t) : T.tMay rs (4, t, [1, 1, 1]) = (decide (t ≤ 6) && decide (t = (rs.length : Int) + 1)) := by
  have hr : rOk (4, t, [1, 1, 1]) = decide (t ≤ 6) := by
    show Pl.recOk 4 t [1, 1, 1] = _
    have hm : Pl.manyOk [1, 1, 1] = true := by decide
    unfold Pl.recOk
    rw [if_neg (by decide), if_pos rfl, hm]
    by_cases e : t ≤ 6
    · rw [Pl.inB_mk h1 e]; simp [e]
    · rw [Pl.inB_hi (by omega)]; simp [e]
  unfold T.tMay
  rw [h, hr, T.mayL_4]
  rfl
theorem T.begin_next {rs : List T.R} (h : T.tripsOk rs = true) : T.tMay rs (4, (rs.length : Int) + 1, [1, 1, 1]) = decide ((rs.length : Int) < 6) := by
  rw [T.begin_may h (by omega)]
  by_cases e : (rs.length : Int) < 6
  · simp [e]; omega
  · simp; omega

set_option maxRecDepth 100000 in
set_option maxHeartbeats 2000000 in
theorem lawP50_small (v : Value) (n : Nat) (vm : Value) (nm : Nat) (a : Addr) (w : World) (hv : CodeAt w v n) (hm : CodeAt w vm nm) (hn : n ≤ 1048576) (hnm : nm ≤ 1048576) (ha : ErrAt w a) :
    Calls Tryd.prog 5 #[v, vm] w fun e w' => e = .returned (.bool true) ∧ Below w.heap.size w w' := by
  obtain ⟨am, cm, rfl, _⟩ := hm
  have HO := hide_it (drawTMay_any v n w hv hn)
  have HAe : Hid (∀ W, Below w.heap.size w W → ErrAt W a) := fun W h => ha.later h (Nat.le_refl _)
  obtain ⟨ao, cap, rfl, _⟩ := hv
  clear ha
  have hni : ¬ (1048576 : Int) < (n : Int) := by omega
  have hmi : ¬ (1048576 : Int) < (nm : Int) := by omega
  go_enter Tryd.func5, Tryd.ntmps5
  go_wp2_with fail
  refine HO.out.mono ?_
  rintro e w1 ⟨o, rs, r, u, rfl, htot, hR, hrl, hI, hb1⟩
  obtain ⟨k, t, zs⟩ := r
  dsimp only at hrl hI ⊢
  have B1 := hide_it hb1
  have HR : Hid (∀ W, Below w1.heap.size w1 W → T.Recs W o rs) := fun W h => hR.later h (Nat.le_refl _)
  have HI : Hid (∀ W, Below w1.heap.size w1 W → Ints W u zs) := fun W h => hI.later h (Nat.le_refl _)
  obtain ⟨oa, oc, hos⟩ := hR.shape
  obtain ⟨ua, uc, hus⟩ := hI.shape
  subst hos hus
  have hrsl := T.tot_len rs
  clear hR hI hb1
  obtain ⟨w2, hw2⟩ : ∃ W, Hid (W = w1.alloc (.cells #[.int .i64 k, .int .i64 t, .slice ua zs.length uc] 26)) := ⟨_, rfl⟩
  have E2 : Hid (Below w1.heap.size w1 w2) := by show Below _ _ _; rw [hw2.out]; exact alloc_below _ _
  have X2 : Hid (Blk w2 w1.heap.size #[.int .i64 k, .int .i64 t, .slice ua zs.length uc] 26) := by show Blk _ _ _ _; rw [hw2.out]; exact Blk.new w1 _ _
  have B2 := hide_it (B1.out.trans (E2.out.mono B1.out.size))
  obtain ⟨BB, hBB⟩ : ∃ x, T.tMay rs (k, t, zs) = x := ⟨_, rfl⟩
  have HBB := hide_it hBB
  have HSP : Hid (∀ W, Below w1.heap.size w1 W → Calls Tryd.prog 11 #[.slice oa rs.length oc, .agg #[.int .i64 k, .int .i64 t, .slice ua zs.length uc]] W fun e w' => e = .returned (.bool BB) ∧ Below W.heap.size W w') := fun W h => by
    have := T.specMay_any _ rs (k, t, zs) _ W (HR.out W h) (by omega) (HI.out W h) (by dsimp only; omega)
    rw [hBB] at this; exact this
  have HIM : Hid (∀ W, Below w1.heap.size w1 W → Calls Tryd.prog 10 #[.slice oa rs.length oc, .agg #[.int .i64 k, .int .i64 t, .slice ua zs.length uc]] W fun e w' => e = .returned (.bool BB) ∧ Below W.heap.size W w') := fun W h => by
    have := T.implMay_any _ rs (k, t, zs) _ a W (HR.out W h) (by omega) (HI.out W h) (by dsimp only; omega) (HAe.out W (B1.out.trans (h.mono B1.out.size)))
    rw [hBB] at this; exact this
  have HOK : Hid (∀ W, Below w1.heap.size w1 W → Calls Tryd.prog 12 #[.slice oa rs.length oc] W fun e w' => e = .returned (.bool (T.tripsOk rs)) ∧ Below W.heap.size W w') := fun W h => T.specTripsOk_any _ rs W (HR.out W h) (by omega)
  clear hBB
  go_wp2_with fail
  rw [← hw2.out]
  refine (HIM.out w2 E2.out).mono ?_
  rintro e w3 ⟨rfl, hb3⟩
  have E3 := hide_it (E2.out.trans (hb3.mono E2.out.size))
  have X3 := hide_it (X2.out.after hb3)
  clear hb3
  obtain ⟨x30, x31, x32⟩ := X3.out.cells3
  go_wp2_with fail
  refine (HSP.out w3 E3.out).mono ?_
  rintro e w4 ⟨rfl, hb4⟩
  have E4 := hide_it (E3.out.trans (hb4.mono E3.out.size))
  have X4 := hide_it (X3.out.after hb4)
  clear hb4 x30 x31 x32
  obtain ⟨x40, x41, x42⟩ := X4.out.cells3
  cases hok : T.tripsOk rs
  · rw [hok] at HOK
    clear hok
    cases BB
    all_goals
      go_wp2_with fail
      refine (HOK.out w4 E4.out).mono ?_
      rintro e w5 ⟨rfl, hb5⟩
      have E5 := hide_it (E4.out.trans (hb5.mono E4.out.size))
      obtain ⟨x50, x51, x52⟩ := (X4.out.after hb5).cells3
      clear hb5
      go_wp2_with fail
      refine (HSP.out w5 E5.out).mono ?_
      rintro e w6 ⟨rfl, hb6⟩
      have B6 := hide_it (B1.out.trans ((E5.out.trans (hb6.mono E5.out.size)).mono B1.out.size))
      clear hb6
      go_wp2
      go_ret
      exact ⟨by simp, B6.out⟩
  rw [hok] at HOK
  have HTK := hide_it hok
  have hn6 := (T.fit_ok hok).1
  clear hok HBB
  obtain ⟨M, hM⟩ : ∃ M : Int, (nm : Int) % 6 = M := ⟨_, rfl⟩
  have hM0 : 0 ≤ M := by rw [← hM]; exact Int.emod_nonneg _ (by omega)
  have hM5 : M < 6 := by rw [← hM]; exact Int.emod_lt_of_pos _ (by omega)
  have hMt : Int.tmod (nm : Int) 6 = M := by rw [← hM]; exact Int.tmod_eq_emod_of_nonneg (by omega)
  cases BB
  all_goals
    go_wp2_with fail
    refine (HOK.out w4 E4.out).mono ?_
    rintro e w5 ⟨rfl, hb5⟩
    have E5 := hide_it (E4.out.trans (hb5.mono E4.out.size))
    clear hb5 x40 x41 x42
    obtain ⟨Z, hZ⟩ : ∃ Z, Hid (w5.heap.size = Z) := ⟨_, rfl⟩
    obtain ⟨w6, hw6⟩ : ∃ W, Hid (W = (((w5.alloc (.cells #[.int .i64 1, .int .i64 1, .int .i64 1] 3)).alloc (.cells #[.int .i64 4, .int .i64 ((rs.length : Int) + 1), .slice (some ⟨Z, 0, none⟩) 3 3] 26)).alloc (.cells #[.int .i64 1, .int .i64 1, .int .i64 1] 3)).alloc (.cells #[.int .i64 4, .int .i64 (1 + M), .slice (some ⟨Z + 1 + 1, 0, none⟩) 3 3] 26)) := ⟨_, rfl⟩
    have e6 : Below w5.heap.size w5 w6 := by rw [hw6.out]; exact below4 w5 _ _ _ _
    have E6 := hide_it (E5.out.trans (e6.mono E5.out.size))
    obtain ⟨N1, hN1⟩ : ∃ N1 : Int, Hid ((rs.length : Int) + 1 = N1) := ⟨_, rfl⟩
    obtain ⟨M1, hM1⟩ : ∃ M1 : Int, Hid (1 + M = M1) := ⟨_, rfl⟩
    have XB : Hid (Blk w6 (Z + 1) #[.int .i64 4, .int .i64 N1, .slice (some ⟨Z, 0, none⟩) 3 3] 26) := by
      show Blk _ _ _ _
      rw [← hN1.out]
      rw [hw6.out, ← hZ.out]
      exact ((Blk.new2 w5 _ _ _).alloc _).alloc _
    have YB : Hid (Blk w6 (Z + 1 + 1 + 1) #[.int .i64 4, .int .i64 M1, .slice (some ⟨Z + 1 + 1, 0, none⟩) 3 3] 26) := by
      show Blk _ _ _ _
      rw [← hM1.out]
      have h := Blk.new (((w5.alloc (.cells #[.int .i64 1, .int .i64 1, .int .i64 1] 3)).alloc (.cells #[.int .i64 4, .int .i64 ((rs.length : Int) + 1), .slice (some ⟨Z, 0, none⟩) 3 3] 26)).alloc (.cells #[.int .i64 1, .int .i64 1, .int .i64 1] 3)) #[.int .i64 4, .int .i64 (1 + M), .slice (some ⟨Z + 1 + 1, 0, none⟩) 3 3] 26
      rw [size3, hZ.out] at h
      rw [hw6.out]
      exact h
    have XI : Hid (Ints w6 (.slice (some ⟨Z, 0, none⟩) 3 3) [1, 1, 1]) := by
      show Ints _ _ _
      have h := ((((Row3.new w5 1 1 1).later (alloc_below _ (.cells #[.int .i64 4, .int .i64 ((rs.length : Int) + 1), .slice (some ⟨Z, 0, none⟩) 3 3] 26)) (Nat.le_refl _)).later (alloc_below _ (.cells #[.int .i64 1, .int .i64 1, .int .i64 1] 3)) (Nat.le_refl _)).later (alloc_below _ (.cells #[.int .i64 4, .int .i64 (1 + M), .slice (some ⟨Z + 1 + 1, 0, none⟩) 3 3] 26)) (Nat.le_refl _)).fresh (Nat.zero_le _)
      rw [hZ.out, ← hw6.out] at h
      exact h.ints
    have YI : Hid (Ints w6 (.slice (some ⟨Z + 1 + 1, 0, none⟩) 3 3) [1, 1, 1]) := by
      show Ints _ _ _
      have h := ((Row3.new ((w5.alloc (.cells #[.int .i64 1, .int .i64 1, .int .i64 1] 3)).alloc (.cells #[.int .i64 4, .int .i64 ((rs.length : Int) + 1), .slice (some ⟨Z, 0, none⟩) 3 3] 26)) 1 1 1).later (alloc_below _ (.cells #[.int .i64 4, .int .i64 (1 + M), .slice (some ⟨Z + 1 + 1, 0, none⟩) 3 3] 26)) (Nat.le_refl _)).fresh (Nat.zero_le _)
      rw [size2, hZ.out] at h
      rw [hw6.out]
      exact h.ints
    clear e6
    have HX : Hid (∀ W, Below w6.heap.size w6 W → Calls Tryd.prog 10 #[.slice oa rs.length oc, .agg #[.int .i64 4, .int .i64 N1, .slice (some ⟨Z, 0, none⟩) 3 3]] W fun e w' => e = .returned (.bool (decide ((rs.length : Int) < 6))) ∧ Below W.heap.size W w') := fun W h => by
      have h1 := E6.out.trans (h.mono E6.out.size)
      have := T.implMay_any _ rs (4, (rs.length : Int) + 1, [1, 1, 1]) _ a W (HR.out W h1) (by omega) (XI.out.later h (Nat.le_refl _)) (by simp) (HAe.out W (B1.out.trans (h1.mono B1.out.size)))
      rw [T.begin_next HTK.out] at this
      rw [← hN1.out]; exact this
    have HY : Hid (∀ W, Below w6.heap.size w6 W → Calls Tryd.prog 10 #[.slice oa rs.length oc, .agg #[.int .i64 4, .int .i64 M1, .slice (some ⟨Z + 1 + 1, 0, none⟩) 3 3]] W fun e w' => e = .returned (.bool (M1 == (rs.length : Int) + 1)) ∧ Below W.heap.size W w') := fun W h => by
      have h1 := E6.out.trans (h.mono E6.out.size)
      have := T.implMay_any _ rs (4, 1 + M, [1, 1, 1]) _ a W (HR.out W h1) (by omega) (YI.out.later h (Nat.le_refl _)) (by simp) (HAe.out W (B1.out.trans (h1.mono B1.out.size)))
      rw [T.begin_may HTK.out (by omega), show decide (1 + M ≤ 6) = true by simp; omega, Bool.true_and] at this
      rw [← hM1.out]; exact this
    obtain ⟨x60, x61, x62⟩ := XB.out.cells3
    obtain ⟨y60, y61, y62⟩ := YB.out.cells3
    obtain ⟨B6x, hB6x⟩ : ∃ b, decide ((rs.length : Int) < 6) = b := ⟨_, rfl⟩
    obtain ⟨B6y, hB6y⟩ : ∃ b, (M1 == (rs.length : Int) + 1) = b := ⟨_, rfl⟩
    rw [hB6x] at HX
    rw [hB6y] at HY
    have hB6 := hide_it hB6x
    have hwr : IntKind.i64.wrap ((rs.length : Int) + 1) = (rs.length : Int) + 1 := by simp [IntKind.wrap, IntKind.bits, IntKind.signed]; omega
    have hE7 : Hid (∀ W, Below w6.heap.size w6 W → Below w.heap.size w W) := fun W h => B1.out.trans ((E6.out.trans (h.mono E6.out.size)).mono B1.out.size)
    clear hB6x
    go_upto_region 10 with fail
    rw [hZ.out, ← hw6.out]
    cases B6x
    · have hl6 : ¬ (rs.length : Int) < 6 := by have := hB6.out; simpa using this
      have hd6 : decide ((rs.length : Int) < 6) = false := hB6.out
      cases B6y
      all_goals
        (go_region_held (fun w' => (w'.cell? ⟨Z + 1, 0, none⟩ = some (.int .i64 4) ∧ w'.cell? ⟨Z + 1, 1, none⟩ = some (.int .i64 N1) ∧ w'.cell? ⟨Z + 1, 2, none⟩ = some (.slice (some ⟨Z, 0, none⟩) 3 3)) ∧ w'.cell? ⟨Z + 1 + 1 + 1, 0, none⟩ = some (.int .i64 4) ∧ w'.cell? ⟨Z + 1 + 1 + 1, 1, none⟩ = some (.int .i64 M1) ∧ w'.cell? ⟨Z + 1 + 1 + 1, 2, none⟩ = some (.slice (some ⟨Z + 1 + 1, 0, none⟩) 3 3)) (go_keep)
              ((first
                | (go_at_call_of 10 N1; refine (HX.out _ ?_).mono ?_; exact (Below.refl _ _).drew; rintro e w7 ⟨rfl, hb7⟩; have N7 := hide_it ((Below.refl w6.heap.size w6).drew.trans hb7); obtain ⟨x70, x71, x72⟩ := (XB.out.after N7.out).cells3; obtain ⟨y70, y71, y72⟩ := (YB.out.after N7.out).cells3; clear hb7)
                | (go_at_call_of 10 M1; refine (HY.out _ ?_).mono ?_; exact N7.out; rintro e w8 ⟨rfl, hb8⟩; have N8 := hide_it (N7.out.trans (hb8.mono N7.out.size)); obtain ⟨x80, x81, x82⟩ := (XB.out.after N8.out).cells3; obtain ⟨y80, y81, y82⟩ := (YB.out.after N8.out).cells3; clear hb8))))
      all_goals
        try go_wp2
        go_ret
        exact ⟨by simp, hE7.out _ N8.out⟩
    · have hl6 : (rs.length : Int) < 6 := by have := hB6.out; simpa using this
      have hd6 : decide ((rs.length : Int) < 6) = true := hB6.out
      cases B6y
      all_goals
        (go_region_held (fun w' => (w'.cell? ⟨Z + 1, 0, none⟩ = some (.int .i64 4) ∧ w'.cell? ⟨Z + 1, 1, none⟩ = some (.int .i64 N1) ∧ w'.cell? ⟨Z + 1, 2, none⟩ = some (.slice (some ⟨Z, 0, none⟩) 3 3)) ∧ w'.cell? ⟨Z + 1 + 1 + 1, 0, none⟩ = some (.int .i64 4) ∧ w'.cell? ⟨Z + 1 + 1 + 1, 1, none⟩ = some (.int .i64 M1) ∧ w'.cell? ⟨Z + 1 + 1 + 1, 2, none⟩ = some (.slice (some ⟨Z + 1 + 1, 0, none⟩) 3 3)) (go_keep)
              ((first
                | (go_at_call_of 10 N1; refine (HX.out _ ?_).mono ?_; exact (Below.refl _ _).drew; rintro e w7 ⟨rfl, hb7⟩; have N7 := hide_it ((Below.refl w6.heap.size w6).drew.trans hb7); obtain ⟨x70, x71, x72⟩ := (XB.out.after N7.out).cells3; obtain ⟨y70, y71, y72⟩ := (YB.out.after N7.out).cells3; clear hb7)
                | (go_at_call_of 10 M1; refine (HY.out _ ?_).mono ?_; exact N7.out; rintro e w8 ⟨rfl, hb8⟩; have N8 := hide_it (N7.out.trans (hb8.mono N7.out.size)); obtain ⟨x80, x81, x82⟩ := (XB.out.after N8.out).cells3; obtain ⟨y80, y81, y82⟩ := (YB.out.after N8.out).cells3; clear hb8))))
      all_goals
        try go_wp2
        go_ret
        exact ⟨by simp, hE7.out _ N8.out⟩

end Go.Proofs.YtickjfpbaknlmaaDoor

namespace Go.Proofs.YtickjfpbaknlmaaDoor
open Go.ChangeShapes Go.WideShapes Go.ChangeAt Go.WideMaps Go.WideElems Go.RowKit Go.Joins

set_option maxHeartbeats 1000000 in
theorem lawP50_great1 (ac : Option Addr) (nc cc : Nat) (am : Option Addr) (nm cm : Nat) (w : World) (h : 1048576 < (nc : Int)) :
    Calls Tryd.prog 5 #[.slice ac nc cc, .slice am nm cm] w fun e w' => e = .returned (.bool true) ∧ Below w.heap.size w w' := by
  go_enter Tryd.func5, Tryd.ntmps5
  go_wp2
  go_ret
  exact ⟨rfl, Below.refl _ _⟩

set_option maxHeartbeats 1000000 in
theorem lawP50_great2 (ac : Option Addr) (nc cc : Nat) (am : Option Addr) (nm cm : Nat) (w : World) (hc : (nc : Int) ≤ 1048576) (h : 1048576 < (nm : Int)) :
    Calls Tryd.prog 5 #[.slice ac nc cc, .slice am nm cm] w fun e w' => e = .returned (.bool true) ∧ Below w.heap.size w w' := by
  go_enter Tryd.func5, Tryd.ntmps5
  go_wp2
  go_ret
  exact ⟨rfl, Below.refl _ _⟩

theorem lawP50_any (vc vm : Value) (nc nm : Nat) (a : Addr) (w : World) (hc : CodeAt w vc nc) (hm : CodeAt w vm nm) (ha : ErrAt w a) :
    Calls Tryd.prog 5 #[vc, vm] w fun e w' => e = .returned (.bool true) ∧ Below w.heap.size w w' := by
  obtain ⟨am, cm, rfl, _⟩ := id hm
  by_cases h1 : nc ≤ 1048576
  · by_cases h2 : nm ≤ 1048576
    · exact lawP50_small vc nc (.slice am nm cm) nm a w hc hm h1 h2 ha
    · obtain ⟨ac, cc, rfl, _⟩ := hc
      exact lawP50_great2 ac nc cc am nm cm w (by omega) (by omega)
  · obtain ⟨ac, cc, rfl, _⟩ := hc
    exact lawP50_great1 ac nc cc am nm cm w (by omega)

set_option maxRecDepth 100000 in
theorem p50_lifted (os : Os) (started : os.Started) (H : Type) (enc : TypeId × Value → H) :
    ReturnsInHanded {} Tryd.checked os 5 .any (fun w args => (Rows.fnTripsBeginSpec.pre enc Tryd.prog Tryd.f5 [] false w args ∧ laidMetH Tryd.prog laidErr w) ∧ sizedMet enc Tryd.prog Tryd.f5 (OpenSpec.ofChange Rows.fnTripsBeginSpec) false w args)
      (Rows.fnTripsBeginSpec.post enc Tryd.prog Tryd.f5 false true false false) := by
  refine returnsInHanded_of_change_and (C := Tryd.checked) (X := fun w _ => laidMetH Tryd.prog laidErr w) (fun _ _ _ hh h => h.of_heap hh) own started (by kernel_rfl) Tryd.func5
    (ChangeSpec.witness_shaped (enc := enc) (C := Tryd.checked) (os := os) (X := fun w _ => laidMetH Tryd.prog laidErr w) false (World.doorLaid Tryd.prog 28 os) #[.slice none 0 0, .slice none 0 0] 8 rfl (World.shaped_of_RefB (by kernel_rfl) (by kernel_rfl)) (by kernel_rfl) (by kernel_rfl) (by kernel_rfl) (door_met os _)) ?_
  intro W base args ds gs before hval0 hW _ _ hL _
  have hval : ∀ (j : Nat) t v, Tryd.f5.params[j]? = some t → args[j]? = some v → Value.okWide Tryd.prog W .any base t v := hval0
  have hW' := hW
  obtain ⟨p, q, hA0, hV0, rfl, hfz, hnd⟩ := hW
  have hA : DataW.TrodAll enc Tryd.prog W 0 (fun _ => true) true Tryd.f5.params.toList args.toList ds p := hA0
  have hV : DataW.TrodVars enc Tryd.prog W (fun _ => true) ["loop.example/concierge/impl.errNoRec"] gs q := hV0
  rw [Tryd.params5] at hA hval
  obtain ⟨v0, v1, d0, d1, p0, p1, rfl, rfl, rfl, h0, h1⟩ := trodAll_two hA
  obtain ⟨a, hErr, hvar⟩ := of_laid hL
  have vr : ∀ {X : World}, X.var? Tryd.prog "loop.example/concierge/impl.errNoRec" = some #[.iface 101 (.pointer (some a))] → ∀ sp : Nat → Bool,
      DataW.TrodVars enc Tryd.prog X sp ["loop.example/concierge/impl.errNoRec"] [tok enc (.iface 101 (.pointer (some a)))] [.cell 0 0] :=
    fun x0 sp => vars_read1 enc gErr gErrType Tryd.underlying73 x0 trivial sp
  obtain ⟨rfl, rfl⟩ := hV.unique (vr hvar _)
  clear hA0 hV0 hval0
  obtain ⟨nc, hC, _⟩ := open_code (hval 0 22 v0 rfl rfl) h0
  obtain ⟨nm, hM, _⟩ := open_code (hval 1 22 v1 rfl rfl) h1
  refine (lawP50_any v0 v1 nc nm a W hC hM hErr).mono fun e W' ⟨he, hb⟩ => ?_
  subst he
  have hlt : ∀ x ∈ p0, x.block < W.heap.size := fun x hx => hW'.lt x (by simp [hx])
  have hlt1 : ∀ x ∈ p1, x.block < W.heap.size := fun x hx => hW'.lt x (by simp [hx])
  refine ⟨_, rfl, _, _, _, [], p0 ++ p1, [.cell 0 0], hW', ?_, ?_, ?_, hb.frame _, fun h => by cases h⟩
  · exact trodAll_mk1 (shut_bool Tryd.underlying4 true)
  · exact trodAll_mk2 (Below.trod laidOut (by kernel_rfl) (of_decide_eq_true (by kernel_rfl)) h0 hb hlt) (Below.trod laidOut (by kernel_rfl) (of_decide_eq_true (by kernel_rfl)) h1 hb hlt1)
  · exact vr (var?_below hb gErr (World.block_lt_of_cell? _ _ hErr) hvar) _

theorem p50_said : Rows.FnTripsBeginSaid :=
  OpenClaim.holds_of_wide 5 Tryd.f5 rfl rfl rfl rfl rfl rfl rfl ⟨rfl, rfl, rfl, rfl, rfl⟩ rfl rfl rfl rfl rfl (by kernel_rfl) Tryd.func5 (by kernel_rfl)
    (of_decide_eq_true (by kernel_rfl)) (by unfold Func.isWrapper; first | (rw [if_pos (by decide +kernel)]; kernel_rfl) | (rw [if_neg (by decide +kernel)]; exact ⟨rfl, rfl⟩))
    (fun os started H enc _ => p50_lifted os started H enc)

theorem p50_plain (f : FuncId) (fn : Func) (hf : Tryd.pinned.checked.prog.funcNamed "loop.example/concierge/laws.FnTripsBegin" = some f) (hfn : Tryd.pinned.checked.prog.funcs[f]? = some fn) :
    true = Tryd.pinned.checked.prog.looks [] ∧ ∀ (j : Nat) t, fn.params[j]? = some t → Tryd.pinned.checked.prog.wantsStandIn t = false := by
  obtain rfl : f = 5 := Option.some.inj ((show Tryd.prog.funcNamed "loop.example/concierge/laws.FnTripsBegin" = some 5 by kernel_rfl).symm.trans hf) |>.symm
  obtain rfl : fn = Tryd.f5 := (Option.some.inj (Tryd.func5.symm.trans hfn)).symm
  refine ⟨by kernel_rfl, fun j t ht => ?_⟩
  rw [Tryd.params5] at ht
  obtain rfl : t = 22 := by simpa using Array.mem_of_getElem? ht
  exact (show Tryd.prog.wantsStandIn 22 = false by kernel_rfl)

theorem p50_card : Rows.FnTripsBeginCardSaid :=
  Claim7.holds_tied_plain_at .later [] _ _ _ _ p50_said (fun _ h => by cases h) (by kernel_rfl) (fun _ h => by cases h) fnTripsBegin_row_tie rfl ⟨rfl, rfl⟩ (by kernel_rfl) rfl p50_plain (by kernel_rfl)
#print axioms p50_card

end Go.Proofs.YtickjfpbaknlmaaDoor
