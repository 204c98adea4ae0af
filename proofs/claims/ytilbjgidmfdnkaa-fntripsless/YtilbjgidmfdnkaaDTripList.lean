/- The draw of trips, seldom spoilt (l71TripList). For readers that picked at most 600000 times. -/
import Derived.Test.YtilbjgidmfdnkaaDTrips
import Derived.Test.YtilbjgidmfdnkaaDRec
namespace Go.Proofs.Ytilbjgidmfdnkaa
open Go.RowKit

/-- What a drawn trip wants: a list of at most four numbers, or none at all. -/
def TGood (W : World) (lo : Nat) (p : T.R × Value) : Prop := Good W lo ((0, 0, p.1.1), p.2)

/-- Trips that a draw has made, and the reader. -/
structure TrS (w W : World) (b q : Nat) (o : Value) (ps : List (T.R × Value)) : Prop where
  row : W.ownsRow w.heap.size 28 2 o ps.length (T.flat ps)
  all : ∀ p ∈ ps, TGood W w.heap.size p
  rd : Rd W b q
  mid : Mid b (b + 1) w W
  low : b < w.heap.size

theorem TrS.step {w W W' : World} {b q q' : Nat} {o : Value} {ps : List (T.R × Value)} (h : TrS w W b q o ps) (hb : Mid b (b + 1) W W') (hr : Rd W' b q') : TrS w W' b q' o ps :=
  ⟨ownsRow_mid h.row hb (fun k hk => Or.inr (by have := (rowB_at h.row k hk).1; have := h.low; omega)), fun p hp => Good.step (h.all p hp) h.rd hb, hr, h.mid.trans hb, h.low⟩
theorem TrS.later {w W W' : World} {b q : Nat} {o : Value} {ps : List (T.R × Value)} (h : TrS w W b q o ps) (hb : Below W.heap.size W W') : TrS w W' b q o ps :=
  h.step (Mid.of_below hb (Nat.le_refl _)) (h.rd.later hb (Nat.le_refl _))

theorem row_fresh {W : World} {lo : Nat} {v : Value} {zs : List Int} (h : W.ownsRow lo 3 1 v zs.length (zs.map (Value.int .i64))) : (∃ cap, Fresh W lo v zs cap) ∨ (v = .slice none 0 0 ∧ zs = []) := by
  have hcell : ∀ g cap, v = .slice (some ⟨g, 0, none⟩) zs.length cap → ∀ k, k < zs.length → W.cell? ⟨g, k, none⟩ = some (.int .i64 (zs.getD k 0)) := fun g cap hv k hk => by
    subst hv
    rw [h.cellAt k (by omega)]
    simp [List.getD_eq_getElem?_getD, hk]
  rcases h.2 with ⟨hv, hn⟩ | ⟨g, cap, cur, hv, hg, hh, _⟩
  · exact Or.inr ⟨hv, List.length_eq_zero_iff.1 hn⟩
  · refine Or.inl ⟨cap, g, 0, cur, hv, hg, hh, fun k hk => ?_⟩
    have := hcell g cap hv k hk
    rw [cell_of_row W _ _ _ _ _ hh] at this
    rw [Nat.zero_add]; exact this

theorem TrS.of_made {w W : World} {b q lo : Nat} {o : Value} {rs : List T.R} (h : T.Made W lo o rs) (hf : T.Fit rs) (hlo : w.heap.size ≤ lo) (hr : Rd W b q) (hm : Mid b (b + 1) w W) (hl : b < w.heap.size) : ∃ ps : List (T.R × Value), ps.map (·.1) = rs ∧ ps.length = rs.length ∧ TrS w W b q o ps := by
  obtain ⟨ps, hp, h1, h2, h3⟩ := h
  refine ⟨ps, hp, by rw [← hp]; simp, ownsRow_lower h1 hlo, fun p hpm => ?_, hr, hm, hl⟩
  have h3l : p.1.1.length = 3 := hf.2 p.1 (by rw [← hp]; exact List.mem_map_of_mem hpm)
  refine ⟨by show p.1.1.length ≤ 4; omega, ?_⟩
  rcases row_fresh (ownsRow_lower (h3.2.1 p hpm).1 hlo) with ⟨cap, hF⟩ | ⟨hv, hz⟩
  · exact Or.inl ⟨cap, hF⟩
  · exact Or.inr ⟨hv, hz⟩

theorem TrS.push {w W w4 : World} {b q : Nat} {o o' : Value} {ps : List (T.R × Value)} {r : T.R} {x : Value} (h : TrS w W b q o ps) (hg : TGood W w.heap.size (r, x))
    (hown : w4.ownsRow w.heap.size 28 2 o' (ps.length + 1) (T.flat ps ++ [x, .int .i64 r.2])) (hgr : W.grownBy w4 o.ownBlock) : TrS w w4 b q o' (ps ++ [(r, x)]) := by
  have hl := h.low
  have hblk : ∀ k, k < W.heap.size → (∀ cs, W.heap[k]? ≠ some (.cells cs 28 (0, 0))) → w4.heap[k]? = W.heap[k]? := fun k hk hn => hgr.block k hk (fun e => by
    obtain ⟨cs, hh⟩ := (rowB_at h.row k e.symm).2
    exact hn cs hh)
  have hws : w.heap.size ≤ W.heap.size := h.mid.size
  have hlow : ∀ k, k < w.heap.size → w4.heap[k]? = W.heap[k]? := fun k hk => hgr.block k (by omega) (fun e => by have := (rowB_at h.row k e.symm).1; omega)
  have hrd : Rd w4 b q := by
    obtain ⟨y, n, hn, h1, h2⟩ := h.rd
    exact ⟨y, n, hn, by rw [hlow b hl]; exact h1, h2.mid (fun k hk => hlow k (by omega))⟩
  have hmid : Mid b (b + 1) w w4 := ⟨hgr.os.trans h.mid.os, hgr.tape.trans h.mid.tape, hgr.output.trans h.mid.output, Nat.le_trans h.mid.size hgr.size, fun k hk hh => (hlow k hk).trans (h.mid.block k hk hh)⟩
  refine ⟨by rw [T.flat_append, List.length_append]; exact hown, fun p hp => ?_, hrd, hmid, hl⟩
  have hgood : TGood W w.heap.size p := by
    rcases List.mem_append.1 hp with hp | hp
    · exact h.all p hp
    · simp at hp; subst hp; exact hg
  exact Good.keep hgood fun g cs hh => hblk g (heap_lt hh) (fun cs' e => by rw [hh] at e; simp at e)

/-- Another state of one trip. -/
theorem TrS.turn {w W : World} {b q g n cap i : Nat} {ps : List (T.R × Value)} {p : T.R × Value} (s : Int) (h : TrS w W b q (.slice (some ⟨g, 0, none⟩) n cap) ps) (hn : ps.length = n) (hp : ps[i]? = some p) :
    TrS w (W.setCell ⟨g, i * 2 + 1, none⟩ (.int .i64 s)) b q (.slice (some ⟨g, 0, none⟩) n cap) (ps.set i ((p.1.1, s), p.2)) := by
  have hrow := h.row
  rw [hn] at hrow
  have hl := h.low
  obtain ⟨hlo, cs, hh⟩ := rowB_at hrow g rfl
  have st := hrow.stored (i * 2 + 1) (.int .i64 s)
  have e := T.flat_set1 ps i p (p.1.1, s) hp
  rw [e] at st
  refine ⟨by rw [List.length_set, hn]; exact st.1, fun x hx => ?_, h.rd.setApart (by omega) _, h.mid.setNew hlo _, hl⟩
  have hx' : TGood W w.heap.size x := by
    rcases List.mem_or_eq_of_mem_set hx with hx | hx
    · exact h.all x hx
    · subst hx; exact h.all p (List.mem_of_getElem? hp)
  exact Good.keep hx' fun g' cs' hh' => Below.heap_setCell _ _ _ _ (ne_of_type hh' hh (by decide))

theorem TrS.setX {w W : World} {b q X i : Nat} {cs : Array Value} {o : Value} {ps : List (T.R × Value)} (h : TrS w W b q o ps) (hX : W.heap[X]? = some (.cells cs 45 (0, 0))) (hw : w.heap.size ≤ X) (x : Value) : TrS w (W.setCell ⟨X, i, none⟩ x) b q o ps := by
  have hl := h.low
  refine ⟨?_, ?_, h.rd.setApart (by omega) _, h.mid.setNew hw _, hl⟩
  · exact ownsRow_setCell_ne h.row (fun g hg => by obtain ⟨_, cs', hh⟩ := rowB_at h.row g hg; exact ne_of_type hh hX (by decide)) _
  · exact fun p hp => Good.keep (h.all p hp) fun g cs hh => Below.heap_setCell _ _ _ _ (ne_of_type hh hX (by decide))

theorem trips_rows {W : World} {lo base : Nat} {v : Value} {ps : List (T.R × Value)} (hrow : W.ownsRow base 28 2 v ps.length (T.flat ps)) (hall : ∀ p ∈ ps, TGood W lo p) : T.Recs W v (ps.map (·.1)) := by
  by_cases hp : ps = []
  · subst hp
    rcases hrow.2 with ⟨hv, _⟩ | ⟨g, cap, cur, hv, _⟩
    · exact Or.inl ⟨rfl, none, 0, hv⟩
    · exact Or.inl ⟨rfl, _, cap, hv⟩
  · rcases hrow.2 with ⟨_, hn⟩ | ⟨g, cap, cur, hv, _⟩
    · exact absurd (List.length_eq_zero_iff.1 hn) hp
    · subst hv
      refine Or.inr ⟨g, 0, cap, by simp, by simpa using hp, fun i r hr => ?_⟩
      rw [List.getElem?_map] at hr
      cases hpi : ps[i]? with
      | none => rw [hpi] at hr; cases hr
      | some p =>
        rw [hpi] at hr
        simp at hr
        subst hr
        have hil := T.len_lt hpi
        obtain ⟨f0, f1⟩ := T.flat_get ps i p hpi
        refine ⟨p.2, ?_, ?_, Good.ints (hall p (List.mem_of_getElem? hpi))⟩
        · rw [Nat.zero_add, hrow.cellAt _ (by omega)]; exact f0
        · rw [Nat.zero_add, hrow.cellAt _ (by omega)]; exact f1
theorem TrS.out {w W : World} {b q : Nat} {o : Value} {ps : List (T.R × Value)} (h : TrS w W b q o ps) (hp : ps.length ≤ 10) : T.Recs W o (ps.map (·.1)) ∧ T.tot (ps.map (·.1)) ≤ 1000 := by
  refine ⟨trips_rows h.row h.all, ?_⟩
  have key : ∀ (l : List (T.R × Value)), (∀ x ∈ l, x.1.1.length ≤ 4) → ((l.map (·.1)).map fun r : T.R => r.1.length).sum ≤ 4 * l.length := by
    intro l
    induction l with
    | nil => intro _; simp
    | cons x t ih =>
      intro hx
      have h1 := ih (fun y hy => hx y (by simp [hy]))
      have h2 := hx x (by simp)
      simp at h1 ⊢
      omega
  have := key ps (fun x hx => (h.all x hx).1)
  unfold T.tot T.pre
  rw [List.take_length, List.length_map]
  omega

/-- What comes out of the draw. -/
def ListGot (w w' : World) (e : Ending) (b p : Nat) : Prop :=
  ∃ (o : Value) (ps : List (T.R × Value)) (q : Nat), e = .returned o ∧ ps.length ≤ 7 ∧ q ≤ p + 120 ∧ TrS w w' b q o ps

set_option maxRecDepth 100000 in
set_option maxHeartbeats 8000000 in
theorem list_draw (b p : Nat) (w : World) (h : Rd w b p) (hp : p ≤ 600000) :
    Calls Try.prog 8 #[.pointer (some ⟨b, 0, none⟩)] w fun e w' => ListGot w w' e b p := by
  obtain ⟨i0, hi, hz0, hz1, hz2⟩ := info_parts T.infoTrip
  have hblt := h.lt
  have HD := hide_it (trips_draw b p w h (by omega))
  clear h
  go_enter Try.func8, Try.ntmps8
  go_wp2_with fail
  refine HD.out.mono ?_
  rintro e w1 ⟨o, qs, q, rfl, hqs, hrow, hall, hq, r1, m1⟩
  have C1 : Hid (RcS w w1 b q o qs) := ⟨hrow, hall, r1, m1, hblt⟩
  obtain ⟨oa, oc, hos⟩ := row_shape hrow
  subst hos
  clear hrow hall r1 m1
  obtain ⟨hRq, hTq⟩ := C1.out.out (by omega)
  have HOF := hide_it (T.specOf_any _ (qs.map (·.1)) w1 hRq (by omega))
  have FO := hide_it (T.ofO_fit (qs.map (·.1)))
  obtain ⟨OO, hOO⟩ : ∃ x, T.ofO (qs.map (·.1)) = x := ⟨_, rfl⟩
  obtain ⟨BB, hBB⟩ : ∃ x, (T.runT (qs.map (·.1))).isSome = x := ⟨_, rfl⟩
  rw [hOO, hBB] at HOF
  rw [hOO] at FO
  clear hOO hBB hRq hTq
  go_wp2_with fail
  refine HOF.out.mono ?_
  rintro e w2 ⟨a2, c2, rfl, hm2, hb2⟩
  obtain ⟨ps, hps, hpsl, hT⟩ := TrS.of_made (w := w) (b := b) (q := q) hm2 FO.out C1.out.mid.size (C1.out.rd.later hb2 (Nat.le_refl _)) (C1.out.mid.trans (Mid.of_below hb2 (Nat.le_refl _))) hblt
  have S2 := hide_it hT
  have hO6 := FO.out.1
  rw [← hpsl] at S2 hO6 ⊢
  clear hm2 hb2 hT hps hpsl
  go_wp2_with fail
  refine (pick_any b q 16 _ S2.out.rd (by omega) (by omega) (by omega)).mono ?_
  rintro e w3 ⟨y, rfl, ly, uy, r3, m3⟩
  have S3 := hide_it (S2.out.step m3 r3)
  clear r3 m3
  by_cases hy0 : y = 0
  · subst hy0
    go_wp2_with fail
    refine (many_draw b (q + 1) _ S3.out.rd (by omega)).mono ?_
    rintro e w4 ⟨u, zs, q4, rfl, hzl, hF, hqa, hqb, r4, m4⟩
    have S4 := hide_it (S3.out.step m4 r4)
    have F4 := hide_it (hF.mono S3.out.mid.size)
    obtain ⟨g, off, hu⟩ : ∃ g off, u = .slice (some ⟨g, off, none⟩) zs.length zs.length := by obtain ⟨g, off, cs, h, _⟩ := hF; exact ⟨g, off, h⟩
    subst hu
    clear hF r4 m4
    go_wp2_with fail
    refine (pick_any b q4 8 _ S4.out.rd (by omega) (by omega) (by omega)).mono ?_
    rintro e w5 ⟨z, rfl, lz, uz, r5, m5⟩
    have S5 := hide_it (S4.out.step m5 r5)
    have F5 := hide_it (F4.out.mid S4.out.rd m5)
    have hw5 := S5.out.mid.size
    have ROW : Hid (∀ x, (w5.alloc x).ownsRow w.heap.size 28 2 (.slice a2 ps.length c2) ps.length (T.flat ps)) := fun x => S5.out.row.alloc x
    clear r5 m5
    go_wp2_with (at_builtin; refine wpList_append_own _ rfl _ _ 23 rfl w.heap.size 28 i0 (.agg #[.slice none 0 0, .int .i64 0]) 2 32 Try.underlying23 hi hz0 hz1 hz2 rfl (by decide) (.slice a2 ps.length c2) ps.length (T.flat ps) rfl (ROW.out _) ⟨w5.heap.size, 0, none⟩ 1 1 [.slice (some ⟨g, off, none⟩) zs.length zs.length, .int .i64 z] rfl rfl (T.news2 _ _ _ _) (T.one2 _ _) ?c3 ?c4 ?c5 ?_)
    case c3 => unfold maxLen; omega
    case c4 => omega
    case c5 => simp; omega
    intro v' w6 hown6 hgrow6 _
    have S6 := hide_it ((S5.out.later (alloc_below _ _)).push (r := (zs, z)) ⟨by show zs.length ≤ 4; omega, Or.inl ⟨_, F5.out.later (alloc_below _ _) (Nat.le_refl _)⟩⟩ hown6 hgrow6)
    clear hown6 hgrow6 ROW
    go_wp2
    go_ret
    exact ⟨_, _, q4 + 1, rfl, by simp; omega, by omega, S6.out⟩
  by_cases hy1 : y = 1
  · subst hy1
    by_cases hpos : ¬ 0 < (ps.length : Int)
    · go_wp2
      go_ret
      exact ⟨_, ps, q + 1, rfl, by omega, by omega, S3.out⟩
    · have hpos1 : 0 < (ps.length : Int) := by omega
      obtain ⟨x, hx⟩ : ∃ x, Hid (ps[0]? = some x) := ⟨ps[0]'(by omega), by show _ = _; rw [List.getElem?_eq_getElem]⟩
      go_wp2_with fail
      refine (pick_any b (q + 1) 8 _ S3.out.rd (by omega) (by omega) (by omega)).mono ?_
      rintro e w4 ⟨z, rfl, lz, uz, r4, m4⟩
      have S4 := hide_it (S3.out.step m4 r4)
      clear r4 m4
      obtain ⟨g, hga⟩ : ∃ g, a2 = some ⟨g, 0, none⟩ := by
        rcases S4.out.row.2 with ⟨hv, hn⟩ | ⟨g, cap, cur, hv, _⟩
        · omega
        · simp at hv; exact ⟨g, hv.1⟩
      subst hga
      have c1 := S4.out.row.cellAt 1 (by omega)
      rw [(T.flat_get ps 0 x hx.out).2] at c1
      have f1 := S4.out.row.frozenAt 1
      have ST := hide_it (S4.out.turn (z - 1) rfl hx.out)
      go_wp2
      go_ret
      exact ⟨_, ps.set 0 ((x.1.1, z - 1), x.2), q + 1 + 1, rfl, by rw [List.length_set]; omega, by omega, ST.out⟩
  · go_wp2
    go_ret
    exact ⟨_, ps, q + 1, rfl, by omega, by omega, S3.out⟩

end Go.Proofs.Ytilbjgidmfdnkaa
