/- What the last text of this claim stands on, part 4: plain facts and contracts; the last text says what is proved. -/
import Derived.Test.YthllcffmpeopcaaGreatDoorHouseHearCardPart3
import Derived.Deep.RegionHeldLaw
import Derived.Laws.AppendOwnNone
import Derived.Deep.DeepCutAuto
import Derived.Deep.RegionLaw
import Derived.Deep.RegionHeld

namespace Go.Proofs.YthllcffmpeopcaaGreatDoor
open Go.RowKit

theorem hflat_one (hs : List Pl.H) : ∀ u ∈ hflat hs, u.oneCell' = true := by
  induction hs with
  | nil => intro u hu; simp [hflat] at hu
  | cons h t ih =>
    intro u hu
    simp only [hflat, List.mem_cons] at hu
    rcases hu with rfl | rfl | hu
    · rfl
    · rfl
    · exact ih u hu

theorem hflat_cells {w : World} {b off : Nat} {hs : List Pl.H} (hc : ∀ k, k < hs.length → w.cell? ⟨b, off + k * 2, none⟩ = some (.int .i64 (hs.getD k (0, 0)).1) ∧ w.cell? ⟨b, off + k * 2 + 1, none⟩ = some (.int .i64 (hs.getD k (0, 0)).2)) :
    ∀ j u, (hflat hs)[j]? = some u → w.cell? ((⟨b, off, none⟩ : Addr).add j) = some u := by
  intro j u hj
  have hjl : j < hs.length * 2 := by
    by_cases e : j < hs.length * 2
    · exact e
    · rw [List.getElem?_eq_none (by rw [hflat_length]; omega)] at hj; cases hj
  obtain ⟨f0, f1⟩ := hflat_get hs (j / 2) (by omega)
  obtain ⟨c0, c1⟩ := hc (j / 2) (by omega)
  rw [Go.WideShapes.add_plain]
  rcases (show j = j / 2 * 2 ∨ j = j / 2 * 2 + 1 by omega) with e | e
  · rw [← e] at f0 c0
    rw [c0, ← f0]; exact hj
  · rw [← e] at f1
    rw [show off + j = off + j / 2 * 2 + 1 by omega, c1, ← f1]; exact hj

/-- Holds appended to a row of holds of the call's own. -/
theorem run_append_holds (w : World) (base ty : Nat) (v xv : Value) (n : Nat) (xs : List Value) (hs : List Pl.H) (hown : w.ownsRow base 54 2 v n xs) (hI : Holds w xv hs) (hb : n + hs.length ≤ 8388608) (hbase : base ≤ w.heap.size) :
    ∃ v' w', (Builtin.append_ #[48, 48] ty #[v, xv]).run Tryz.prog w = .ok v' w' ∧ w'.ownsRow base 54 2 v' (n + hs.length) (xs ++ hflat hs) ∧ w.grownBy w' v.ownBlock := by
  obtain ⟨i0, hi, hz0, hz1, hz2⟩ := info_parts infoHold
  rcases hI with ⟨rfl, ao, cap, rfl, hao⟩ | ⟨b, off, cap, rfl, hz, hc⟩
  · cases ao with
    | none =>
      obtain rfl := hao rfl
      exact ⟨v, w, run_append_owned_none w base 48 ty 54 i0 2 Tryz.underlying48 hi v n xs hown, by simpa [hflat] using hown, World.grownBy.refl _ _⟩
    | some a =>
      obtain ⟨v', w', h1, h2, h3, _⟩ := run_append_own (P := Tryz.prog) w base 48 ty 54 i0 (.agg #[.int .i64 0, .int .i64 0]) 2 16 Tryz.underlying48 hi hz0 hz1 hz2 rfl (by decide) v n xs hown a 0 cap [] rfl (fun j u h => by simp at h) (fun u h => by simp at h) (by unfold maxLen; omega) (by simp at hb; omega) hbase
      exact ⟨v', w', h1, by simpa [hflat] using h2, h3⟩
  · obtain ⟨v', w', h1, h2, h3, _⟩ := run_append_own (P := Tryz.prog) w base 48 ty 54 i0 (.agg #[.int .i64 0, .int .i64 0]) 2 16 Tryz.underlying48 hi hz0 hz1 hz2 rfl (by decide) v n xs hown ⟨b, off, none⟩ hs.length cap (hflat hs) (hflat_length hs) (hflat_cells hc) (hflat_one hs) (by unfold maxLen; omega) (by omega) hbase
    exact ⟨v', w', h1, h2, h3⟩

theorem step_append_holds {ops : Array Oper} {o : Oper} {a : Act} {w : World} {K : Act → World → Prop} {Q : Exit → Act → World → Prop} {E : Prop} (hgd : o.guard = none) (s x : Operand)
    (ho : o.op = .call { callee := .builtin .append, args := #[s, x], argTypes := #[48, 48] })
    (base : Nat) (v xv : Value) (n : Nat) (xs : List Value) (hs : List Pl.H) (he : a.eval s = v) (hx : a.eval x = xv) (hown : w.ownsRow base 54 2 v n xs) (hI : Holds w xv hs) (N : Nat) (hN : n + hs.length = N) (hpos : 0 < N) (hb : N ≤ 8388608) (hbase : base ≤ w.heap.size)
    (h : ∀ g cap w', w'.ownsRow base 54 2 (.slice (some ⟨g, 0, none⟩) N cap) N (xs ++ hflat hs) → w.grownBy w' v.ownBlock → K (a.put o.dst (.slice (some ⟨g, 0, none⟩) N cap)) w') :
    if Region.wanted o (yielded ops a.tmps) = true then Oper.wp Tryz.prog o a w K Q else E := by
  have hw : Region.wanted o (yielded ops a.tmps) = true := by simp [Region.wanted, hgd]
  rw [if_pos hw]
  obtain ⟨v', w', hrun, r1, r2⟩ := run_append_holds w base o.type v xv n xs hs hown hI (by omega) hbase
  rw [hN] at r1
  obtain ⟨g, cap, rfl⟩ : ∃ g cap, v' = .slice (some ⟨g, 0, none⟩) N cap := by
    rcases r1.2 with ⟨_, h0⟩ | ⟨g, cap, cur, hv, _⟩
    · omega
    · exact ⟨g, cap, hv⟩
  unfold Oper.wp
  simp [execOp, ho, resolve, invoke, builtin, he, hx, hrun, Result.andThen]
  exact h g cap w' r1 r2

theorem wpList_append_holds {ops : Array Oper} {rest : List Oper} {o : Oper} {a : Act} {w : World} {Q : Exit → Act → World → Prop} (hgd : o.guard = none) (s x : Operand)
    (ho : o.op = .call { callee := .builtin .append, args := #[s, x], argTypes := #[48, 48] })
    (base : Nat) (v xv : Value) (n : Nat) (xs : List Value) (hs : List Pl.H) (he : a.eval s = v) (hx : a.eval x = xv) (hown : w.ownsRow base 54 2 v n xs) (hI : Holds w xv hs) (N : Nat) (hN : n + hs.length = N) (hpos : 0 < N) (hb : N ≤ 8388608) (hbase : base ≤ w.heap.size)
    (h : ∀ g cap w', w'.ownsRow base 54 2 (.slice (some ⟨g, 0, none⟩) N cap) N (xs ++ hflat hs) → w.grownBy w' v.ownBlock → wpList Tryz.prog ops Q rest (a.put o.dst (.slice (some ⟨g, 0, none⟩) N cap)) w') :
    wpList Tryz.prog ops Q (o :: rest) a w := by
  refine wpList_plain hgd fun K hK' => ?_
  obtain ⟨v', w', hrun, r1, r2⟩ := run_append_holds w base o.type v xv n xs hs hown hI (by omega) hbase
  rw [hN] at r1
  obtain ⟨g, cap, rfl⟩ : ∃ g cap, v' = .slice (some ⟨g, 0, none⟩) N cap := by
    rcases r1.2 with ⟨_, h0⟩ | ⟨g, cap, cur, hv, _⟩
    · omega
    · exact ⟨g, cap, hv⟩
  unfold Oper.wp
  simp [execOp, ho, resolve, invoke, builtin, he, hx, hrun, Result.andThen]
  exact hK' _ _ (h g cap w' r1 r2)

/-- The two cells of a hold in a row of six. -/
theorem row_pair {w : World} {base g cap : Nat} {hs : List Pl.H} (h : w.ownsRow base 54 2 (.slice (some ⟨g, 0, none⟩) 6 cap) 6 (hflat hs)) (i : Nat) (hi : i < 6) :
    ∃ y0 y1, w.cell? ⟨g, i * 2, none⟩ = some y0 ∧ w.cell? ⟨g, i * 2 + 1, none⟩ = some y1 ∧ w.frozen? ⟨g, i * 2, none⟩ = false ∧ w.frozen? ⟨g, i * 2 + 1, none⟩ = false := by
  have cellEx : ∀ j, j < 6 * 2 → ∃ x, w.cell? ⟨g, j, none⟩ = some x := fun j hj => by
    have h1 := h.cellAt j hj
    have h2 : j < (hflat hs).length := by rw [h.1]; exact hj
    exact ⟨_, by rw [h1, List.getElem?_eq_getElem h2]⟩
  obtain ⟨y0, hy0⟩ := cellEx (i * 2) (by omega)
  obtain ⟨y1, hy1⟩ := cellEx (i * 2 + 1) (by omega)
  exact ⟨y0, y1, hy0, hy1, h.frozenAt _, h.frozenAt _⟩

/-- The two boxes and the answer's own, as a StockDo begins. -/
def BoxS (W : World) (B : Nat) (x y : Value) (k t : Int) (u : Value) : Prop :=
  Duo W B x y ∧ RecAt W (B + 1) k t u ∧ W.cell? ⟨B + 2, 0, none⟩ = some (.int .i64 0) ∧ W.cell? ⟨B + 2, 1, none⟩ = some (.slice none 0 0) ∧ W.frozen? ⟨B + 2, 0, none⟩ = false ∧ W.frozen? ⟨B + 2, 1, none⟩ = false
theorem BoxS.later {C : Nat} {W W' : World} {B : Nat} {x y : Value} {k t : Int} {u : Value} (h : BoxS W B x y k t u) (hb : Below C W W') (hC : B + 3 ≤ C) : BoxS W' B x y k t u := by
  obtain ⟨h1, h2, h3, h4, h5, h6⟩ := h
  refine ⟨⟨?_, ?_⟩, ⟨?_, ?_, ?_⟩, ?_, ?_, ?_, ?_⟩
  · rw [← h1.1]; exact hb.cell (p := ⟨B, 0, none⟩) (by simp; omega)
  · rw [← h1.2]; exact hb.cell (p := ⟨B, 1, none⟩) (by simp; omega)
  · rw [← h2.1]; exact hb.cell (p := ⟨B + 1, 0, none⟩) (by simp; omega)
  · rw [← h2.2.1]; exact hb.cell (p := ⟨B + 1, 1, none⟩) (by simp; omega)
  · rw [← h2.2.2]; exact hb.cell (p := ⟨B + 1, 2, none⟩) (by simp; omega)
  · rw [← h3]; exact hb.cell (p := ⟨B + 2, 0, none⟩) (by simp; omega)
  · rw [← h4]; exact hb.cell (p := ⟨B + 2, 1, none⟩) (by simp; omega)
  · rw [← h5]; exact hb.frozen (p := ⟨B + 2, 0, none⟩) (by simp; omega)
  · rw [← h6]; exact hb.frozen (p := ⟨B + 2, 1, none⟩) (by simp; omega)
theorem BoxS.new (w : World) (x y : Value) (k t : Int) (u : Value) (t1 t2 t3 : TypeId) : BoxS (((w.alloc (.cells #[x, y] t1)).alloc (.cells #[.int .i64 k, .int .i64 t, u] t2)).alloc (.cells #[.int .i64 0, .slice none 0 0] t3)) w.heap.size x y k t u := by
  refine ⟨⟨?_, ?_⟩, ⟨?_, ?_, ?_⟩, ?_, ?_, ?_, ?_⟩ <;> simp [go_sem]
theorem BoxS.lt {W : World} {B : Nat} {x y : Value} {k t : Int} {u : Value} (h : BoxS W B x y k t u) : B + 2 < W.heap.size := by simpa using World.block_lt_of_cell? _ _ h.2.2.1

theorem StOut.none_ {W w' : World} (hb : Below W.heap.size W w') : StOut W w' (.returned (.tuple #[.agg #[.int .i64 0, .slice none 0 0], .bool false])) 0 [] false := ⟨none, 0, rfl, World.ownsRow_nil _ _ _ _, hb⟩

set_option maxRecDepth 100000 in
set_option maxHeartbeats 4000000 in
theorem implDo_any (room : Int) (v : Value) (hs : List Pl.H) (k t : Int) (u : Value) (zs : List Int) (a : Addr) (w : World) (hv : Holds w v hs) (hl : hs.length ≤ 1048576) (hu : Ints w u zs) (hzl : zs.length ≤ 1048576) (ha : ErrAt w a) :
    Calls Tryz.prog 86 #[.agg #[.int .i64 room, v], .agg #[.int .i64 k, .int .i64 t, u]] w fun e w' => StOut w w' e (oR room (Pl.sDo room hs k t zs)) (oH (Pl.sDo room hs k t zs)) (Pl.sDo room hs k t zs).isSome := by
  have HB : Hid (∀ W, Below w.heap.size w W → Calls Tryz.prog 69 #[.agg #[.int .i64 room, v], .agg #[.int .i64 k, .int .i64 t, u]] W fun e w' => StepOut W w' e (Pl.behind room hs k t zs)) := fun W h =>
    behind_any room v hs k t u zs a W (hv.later h (Nat.le_refl _)) hl (hu.later h (Nat.le_refl _)) hzl (ha.later h (Nat.le_refl _))
  have HV : Hid (∀ W, Below w.heap.size w W → Holds W v hs) := fun W h => hv.later h (Nat.le_refl _)
  obtain ⟨av, cv, rfl⟩ := hv.shape
  obtain ⟨au, cu, rfl⟩ := hu.shape
  have BX := hide_it (BoxS.new w (.int .i64 room) (.slice av hs.length cv) k t (.slice au zs.length cu) 50 62 50)
  clear hv hu ha
  cases ho : Pl.behind room hs k t zs with
  | none =>
    have e : Pl.sDo room hs k t zs = none := by unfold Pl.sDo; rw [ho]; rfl
    rw [e]
    rw [ho] at HB
    go_enter Tryz.func86, Tryz.ntmps86
    go_wp2_with fail
    refine (HB.out _ (below3 w _ _ _)).mono ?_
    rintro e w1 ⟨p, q, rfl, -, hb1⟩
    have B1 := hide_it ((below3 w _ _ _).trans (hb1.mono (by simp; omega)))
    obtain ⟨_, _, q0, q1, f0, f1⟩ := (BX.out.later hb1 (by simp)).later (al_below w1 (.cells #[.int .i64 p, .int .i64 q] 54)) (by have := hb1.size; simp at this; omega)
    have hz1 : w.heap.size + 3 ≤ w1.heap.size := by have := hb1.size; simp at this; omega
    clear hb1
    go_wp2
    exact bodyPost_ret (v := .tuple #[.agg #[.int .i64 0, .slice none 0 0], .bool false]) (by simp [results, Tryz.results86, go_sem, q0, q1]) rfl (StOut.none_ (((B1.out.alloc B1.out.size _).setCell (by simp; omega) _).setCell (by simp; omega) _))
  | some h =>
    have e : Pl.sDo room hs k t zs = some (hs.set (Pl.at_ t) h) := by unfold Pl.sDo; rw [ho]; rfl
    rw [e]
    have hrec : Pl.recOk k t zs = true := by
      cases hr : Pl.recOk k t zs
      · rw [Pl.behind_rec room hs hr] at ho; cases ho
      · rfl
    have hok : Pl.sOk room hs = true := by
      cases hr : Pl.sOk room hs
      · rw [Pl.behind_stock k t zs hr] at ho; cases ho
      · rfl
    obtain ⟨_, _, p3, _⟩ := Pl.sOk_parts hok
    rw [ho] at HB
    obtain ⟨i, hi, rfl, hat⟩ := trip_at hrec
    rw [hat]
    have P3 := hide_it p3
    rw [p3] at HB BX ⊢
    rw [p3] at HV
    clear e ho hrec hok hat p3 hl
    go_enter Tryz.func86, Tryz.ntmps86
    go_wp2_with fail
    refine (HB.out _ (below3 w _ _ _)).mono ?_
    rintro e w1 ⟨p, q, rfl, hpq, hb1⟩
    have hh := hpq h rfl
    have HH := hide_it hh
    have B1 := hide_it ((below3 w _ _ _).trans (hb1.mono (by simp; omega)))
    have BX1 := hide_it (BX.out.later hb1 (by simp))
    have hz1 : w.heap.size + 3 ≤ w1.heap.size := by have := hb1.size; simp at this; omega
    clear hb1 hpq hh
    have BX2 := BX1.out.later (al_below w1 (.cells #[.int .i64 p, .int .i64 q] 54)) hz1
    obtain ⟨⟨x0, x1⟩, ⟨r0, r1, r2⟩, q0, q1, f0, f1⟩ := BX2
    have D2 := hide_it (Duo.new w1 (.int .i64 p) (.int .i64 q) 54)
    have HV2 := hide_it (HV.out _ (B1.out.alloc B1.out.size (.cells #[.int .i64 p, .int .i64 q] 54)))
    go_wp2_with (at_builtin; refine wpList_append_holds rfl _ _ rfl (w1.heap.size + 1) (.slice none 0 0) (.slice av 6 cv) 0 [] hs rfl rfl (World.ownsRow_nil _ _ _ _) HV2.out 6 (by have := P3.out; omega) (by decide) (by decide) (by simp) ?_; intro g cap w3 hown3 hgrow3; simp only [List.nil_append] at hown3; have hb3 := grown_below hgrow3; have B3 := hide_it ((B1.out.alloc B1.out.size (.cells #[.int .i64 p, .int .i64 q] 54)).trans (hb3.mono (by have := B1.out.size; simp; omega))); have O3 := hide_it hown3; have hgl := hown3.lt g rfl; have D3 := D2.out.later hb3 (Nat.le_refl _); have BX3 := (BX1.out.later (al_below w1 (.cells #[.int .i64 p, .int .i64 q] 54)) hz1).later hb3 (by simp; omega); clear hb3 hown3 hgrow3 x0 x1 r0 r1 r2 q0 q1 f0 f1; obtain ⟨d0, d1⟩ := D3; obtain ⟨⟨x0, x1⟩, ⟨r0, r1, r2⟩, q0, q1, f0, f1⟩ := BX3; obtain ⟨y0, y1, hy0, hy1, z0, z1⟩ := row_pair O3.out i hi; have ST := hide_it (stored2 O3.out i (by have := P3.out; omega) (p, q)).1; have hgn : ¬ g = w.heap.size := (by omega); have hgn1 : ¬ g = w.heap.size + 1 := (by omega); have hgn2 : ¬ g = w.heap.size + 1 + 1 := (by omega); have hgn3 : ¬ g = w1.heap.size := (by omega))
    have hlen : (hs.set i h).length = 6 := by rw [List.length_set]; exact P3.out
    refine bodyPost_ret (v := .tuple #[.agg #[.int .i64 room, .slice (some ⟨g, 0, none⟩) 6 cap], .bool true]) (by simp [results, Tryz.results86, go_sem, q0, q1]) rfl ⟨some ⟨g, 0, none⟩, cap, ?_, ?_, ?_⟩
    · show _ = _
      simp only [oR, oH, Option.getD_some, hlen]
    · simp only [oH, Option.getD_some, hlen]
      have h1 := ST.out
      rw [← HH.out] at h1
      exact ownsRow_base (ownsRow_setCell_below (ownsRow_setCell_below h1 (by simp; omega) _) (by simp; omega) _) (by omega)
    · exact (((B3.out.setCell (by simp; omega) _).setCell (by simp; omega) _).setCell (by simp; omega) _).setCell (by simp; omega) _

theorem bcell2 {B : Nat} {W w1 : World} (hb : Below B W w1) : (∀ b o, b < B → w1.cell? ⟨b, o, none⟩ = W.cell? ⟨b, o, none⟩) ∧ (∀ b o, b < B → w1.frozen? ⟨b, o, none⟩ = W.frozen? ⟨b, o, none⟩) :=
  ⟨fun b o h => hb.cell (p := ⟨b, o, none⟩) h, fun b o h => hb.frozen (p := ⟨b, o, none⟩) h⟩

set_option maxHeartbeats 2000000 in
theorem l2Copy_any (room : Int) (v : Value) (hs : List Pl.H) (w : World) (hv : Holds w v hs) (hl : hs.length = 6) :
    Calls Tryz.prog 116 #[.agg #[.int .i64 room, v]] w fun e w' => ∃ g cap, e = .returned (.agg #[.int .i64 room, .slice (some ⟨g, 0, none⟩) 6 cap]) ∧
      w'.ownsRow (w.heap.size + 2) 54 2 (.slice (some ⟨g, 0, none⟩) 6 cap) 6 (hflat hs) ∧ Below w.heap.size w w' := by
  have HV : Hid (∀ W, Below w.heap.size w W → Holds W v hs) := fun W h => hv.later h (Nat.le_refl _)
  obtain ⟨av, cv, hvs⟩ := hv.shape
  rw [hl] at hvs
  clear hv
  subst hvs
  have HL := hide_it hl
  clear hl
  have DR : Hid (∀ W, Below (w.heap.size + 2) ((w.alloc (.cells #[.int .i64 room, .slice av 6 cv] 50)).alloc (.cells #[.int .i64 0, .slice none 0 0] 50)) W → W.cell? ⟨w.heap.size, 0, none⟩ = some (.int .i64 room) ∧ W.cell? ⟨w.heap.size, 1, none⟩ = some (.slice av 6 cv) ∧ W.cell? ⟨w.heap.size + 1, 0, none⟩ = some (.int .i64 0) ∧ W.cell? ⟨w.heap.size + 1, 1, none⟩ = some (.slice none 0 0) ∧ W.frozen? ⟨w.heap.size + 1, 0, none⟩ = false ∧ W.frozen? ⟨w.heap.size + 1, 1, none⟩ = false) := fun W h => by
    obtain ⟨hc, hf⟩ := bcell2 h
    refine ⟨?_, ?_, ?_, ?_, ?_, ?_⟩
    · rw [hc _ _ (by omega)]; simp [go_sem]
    · rw [hc _ _ (by omega)]; simp [go_sem]
    · rw [hc _ _ (by omega)]; simp [go_sem]
    · rw [hc _ _ (by omega)]; simp [go_sem]
    · rw [hf _ _ (by omega)]; simp [go_sem]
    · rw [hf _ _ (by omega)]; simp [go_sem]
  have AL : Hid (Below (w.heap.size + 2) ((w.alloc (.cells #[.int .i64 room, .slice av 6 cv] 50)).alloc (.cells #[.int .i64 0, .slice none 0 0] 50)) (((w.alloc (.cells #[.int .i64 room, .slice av 6 cv] 50)).alloc (.cells #[.int .i64 0, .slice none 0 0] 50)).drew.alloc (.cells #[] 54))) := (Below.refl _ _).drew.alloc (by simp) _
  have B2 : Hid (Below w.heap.size w (((w.alloc (.cells #[.int .i64 room, .slice av 6 cv] 50)).alloc (.cells #[.int .i64 0, .slice none 0 0] 50)).drew.alloc (.cells #[] 54))) := (below2 w _ _).trans (AL.out.mono (by omega))
  have ROW : Hid ((((w.alloc (.cells #[.int .i64 room, .slice av 6 cv] 50)).alloc (.cells #[.int .i64 0, .slice none 0 0] 50)).drew.alloc (.cells #[] 54)).ownsRow (w.heap.size + 2) 54 2 (.slice (some ⟨w.heap.size + 2, 0, none⟩) 0 0) 0 []) := by
    have h := World.ownsRow_lit (base := w.heap.size + 2) (e := 54) (size := 2) (((w.alloc (.cells #[.int .i64 room, .slice av 6 cv] 50)).alloc (.cells #[.int .i64 0, .slice none 0 0] 50)).drew) #[] 0 (by simp) (by unfold maxLen; omega) rfl
    have e : (((w.alloc (.cells #[.int .i64 room, .slice av 6 cv] 50)).alloc (.cells #[.int .i64 0, .slice none 0 0] 50)).drew).heap.size = w.heap.size + 2 := by simp
    rw [e] at h
    exact h
  go_enter Tryz.func116, Tryz.ntmps116
  go_wp2
  go_region_held_law (fun w' => w'.cell? ⟨w.heap.size, 0, none⟩ = some (.int .i64 room) ∧ w'.cell? ⟨w.heap.size, 1, none⟩ = some (.slice av 6 cv)) (go_keep)
    ((refine step_append_holds rfl _ _ rfl (w.heap.size + 2) (.slice (some ⟨w.heap.size + 2, 0, none⟩) 0 0) (.slice av 6 cv) 0 [] hs rfl rfl (by exact ROW.out) (by exact HV.out _ B2.out) 6 (by have := HL.out; omega) (by decide) (by decide) (by simp) ?_; intro g cap w1 hown hgrow; simp only [List.nil_append] at hown; have hb1 := AL.out.trans ((Below.refl (w.heap.size + 2) _).grown hgrow (by simp) (fun j hj => by simp [Value.ownBlock] at hj; omega)); obtain ⟨k0, k1, k2, k3, k4, k5⟩ := DR.out _ hb1; have HO := hide_it hown; have HB := hide_it ((below2 w _ _).trans (hb1.mono (by omega))); have hz1 : w.heap.size + 2 ≤ w1.heap.size := (by have := hb1.size; simp at this; omega); clear hown hgrow hb1))
  go_wp2
  refine bodyPost_ret (v := .agg #[.int .i64 room, .slice (some ⟨g, 0, none⟩) 6 cap]) (by simp [results, Tryz.results116, go_sem, k2, k3]) rfl ⟨g, cap, rfl, ?_, ?_⟩
  · exact ownsRow_setCell_below (ownsRow_setCell_below HO.out (by simp) _) (by simp) _
  · exact (HB.out.setCell (by simp) _).setCell (by simp) _

end Go.Proofs.YthllcffmpeopcaaGreatDoor

namespace Go.Proofs.YthllcffmpeopcaaGreatDoor
open Go.RowKit

theorem setCell_mid (W : World) (b o : Nat) (x : Value) : Mid b (b + 1) W (W.setCell ⟨b, o, none⟩ x) :=
  ⟨rfl, rfl, rfl, by simp, fun k hk hh => Below.heap_setCell _ _ _ _ (by simp; omega)⟩
theorem Mid.then_below {lo hi : Nat} {w a b : World} (h : Mid lo hi w a) (hb : Below w.heap.size a b) : Mid lo hi w b :=
  ⟨hb.os.trans h.os, hb.tape.trans h.tape, hb.output.trans h.output, Nat.le_trans h.size hb.size, fun k hk hh => (hb.block k hk).trans (h.block k hk hh)⟩

/-- What a record that may come makes of its trip's hold, kind by kind. -/
theorem next_some {h : Pl.H} {m s k z F : Int} (e : Pl.next (m, s) k z F = some h) : (k = 1 ∧ h = (z, 1)) ∨ (k = 2 ∧ h = (m, 2)) ∨ (k = 3 ∧ h = (m, 3)) := by
  by_cases k1 : k = 1
  · subst k1
    rw [next_1] at e
    split at e
    · exact Or.inl ⟨rfl, (by simpa using e.symm)⟩
    · cases e
  by_cases k2 : k = 2
  · subst k2
    rw [next_2] at e
    split at e
    · exact Or.inr (Or.inl ⟨rfl, (by simpa using e.symm)⟩)
    · cases e
  by_cases k3 : k = 3
  · subst k3
    rw [next_3] at e
    split at e
    · exact Or.inr (Or.inr ⟨rfl, (by simpa using e.symm)⟩)
    · cases e
  · rw [next_x _ _ _ _ k1 k2 k3] at e; cases e
theorem behind_parts {room : Int} {hs : List Pl.H} {k t : Int} {zs : List Int} {h : Pl.H} (e : Pl.behind room hs k t zs = some h) : Pl.sOk room hs = true ∧ Pl.recOk k t zs = true ∧ Pl.next (Pl.hAt hs t) k (zs.headD 0) (Pl.free room hs) = some h := by
  cases hok : Pl.sOk room hs
  · rw [Pl.behind_stock k t zs hok] at e; cases e
  cases hr : Pl.recOk k t zs
  · rw [Pl.behind_rec room hs hr] at e; cases e
  · rw [Pl.behind_ok hok hr] at e; exact ⟨rfl, rfl, e⟩

theorem below4' (w : World) (o1 o2 o3 o4 : Obj) : Below w.heap.size w ((((w.alloc o1).alloc o2).alloc o3).alloc o4) := (below3 w o1 o2 o3).alloc (by simp; omega) o4

set_option maxRecDepth 100000 in
set_option maxHeartbeats 4000000 in
theorem l2Do_any (room : Int) (g cap lo : Nat) (hs : List Pl.H) (k t : Int) (u : Value) (zs : List Int) (h : Pl.H) (w : World) (ho : w.ownsRow lo 54 2 (.slice (some ⟨g, 0, none⟩) 6 cap) 6 (hflat hs)) (hu : Ints w u zs) (hbh : Pl.behind room hs k t zs = some h) :
    Calls Tryz.prog 82 #[.agg #[.int .i64 room, .slice (some ⟨g, 0, none⟩) 6 cap], .agg #[.int .i64 k, .int .i64 t, u]] w fun e w' => e = .returned (.agg #[.int .i64 room, .slice (some ⟨g, 0, none⟩) 6 cap]) ∧ w'.ownsRow lo 54 2 (.slice (some ⟨g, 0, none⟩) 6 cap) 6 (hflat (hs.set (Pl.at_ t) h)) ∧ Mid g (g + 1) w w' := by
  obtain ⟨hok, hrec, hnx⟩ := behind_parts hbh
  obtain ⟨_, _, p3, _⟩ := Pl.sOk_parts hok
  obtain ⟨i, hi, rfl, hat⟩ := trip_at hrec
  rw [hat]
  obtain ⟨m, s, hms⟩ : ∃ m s, hs.getD i (0, 0) = (m, s) := ⟨_, _, rfl⟩
  have hms' : Pl.hAt hs ((i : Int) + 1) = (m, s) := by unfold Pl.hAt; rw [hat]; exact hms
  rw [hms'] at hnx
  have hgl := ho.lt g rfl
  obtain ⟨f0, f1⟩ := hflat_get hs i (by omega)
  rw [hms] at f0 f1
  have c0 : w.cell? ⟨g, i * 2, none⟩ = some (.int .i64 m) := by rw [ho.cellAt _ (by omega)]; exact f0
  have c1 : w.cell? ⟨g, i * 2 + 1, none⟩ = some (.int .i64 s) := by rw [ho.cellAt _ (by omega)]; exact f1
  have z0 := ho.frozenAt (i * 2)
  have z1 := ho.frozenAt (i * 2 + 1)
  have c30 : ∀ o1 o2 o3, (((w.alloc o1).alloc o2).alloc o3).cell? ⟨g, i * 2, none⟩ = some (.int .i64 m) := fun o1 o2 o3 => ((below3 w o1 o2 o3).cell (p := ⟨g, i * 2, none⟩) hgl.2).trans c0
  have c31 : ∀ o1 o2 o3, (((w.alloc o1).alloc o2).alloc o3).cell? ⟨g, i * 2 + 1, none⟩ = some (.int .i64 s) := fun o1 o2 o3 => ((below3 w o1 o2 o3).cell (p := ⟨g, i * 2 + 1, none⟩) hgl.2).trans c1
  have c40 : ∀ o1 o2 o3 o4, ((((w.alloc o1).alloc o2).alloc o3).alloc o4).cell? ⟨g, i * 2, none⟩ = some (.int .i64 m) := fun o1 o2 o3 o4 => ((below4' w o1 o2 o3 o4).cell (p := ⟨g, i * 2, none⟩) hgl.2).trans c0
  have c41 : ∀ o1 o2 o3 o4, ((((w.alloc o1).alloc o2).alloc o3).alloc o4).cell? ⟨g, i * 2 + 1, none⟩ = some (.int .i64 s) := fun o1 o2 o3 o4 => ((below4' w o1 o2 o3 o4).cell (p := ⟨g, i * 2 + 1, none⟩) hgl.2).trans c1
  have z40 : ∀ o1 o2 o3 o4, ((((w.alloc o1).alloc o2).alloc o3).alloc o4).frozen? ⟨g, i * 2, none⟩ = false := fun o1 o2 o3 o4 => ((below4' w o1 o2 o3 o4).frozen (p := ⟨g, i * 2, none⟩) hgl.2).trans z0
  have z41 : ∀ o1 o2 o3 o4, ((((w.alloc o1).alloc o2).alloc o3).alloc o4).frozen? ⟨g, i * 2 + 1, none⟩ = false := fun o1 o2 o3 o4 => ((below4' w o1 o2 o3 o4).frozen (p := ⟨g, i * 2 + 1, none⟩) hgl.2).trans z1
  have FIN : Hid (∀ o1 o2 o3 o4 x y, (((((((w.alloc o1).alloc o2).alloc o3).alloc o4).setCell ⟨g, i * 2, none⟩ (.int .i64 h.1)).setCell ⟨g, i * 2 + 1, none⟩ (.int .i64 h.2)).setCell ⟨w.heap.size + 1 + 1, 0, none⟩ x |>.setCell ⟨w.heap.size + 1 + 1, 1, none⟩ y).ownsRow lo 54 2 (.slice (some ⟨g, 0, none⟩) 6 cap) 6 (hflat (hs.set i h)) ∧ Mid g (g + 1) w (((((((w.alloc o1).alloc o2).alloc o3).alloc o4).setCell ⟨g, i * 2, none⟩ (.int .i64 h.1)).setCell ⟨g, i * 2 + 1, none⟩ (.int .i64 h.2)).setCell ⟨w.heap.size + 1 + 1, 0, none⟩ x |>.setCell ⟨w.heap.size + 1 + 1, 1, none⟩ y)) := fun o1 o2 o3 o4 x y => by
    have st := stored2 ((((ho.alloc o1).alloc o2).alloc o3).alloc o4) i (by omega) h
    refine ⟨ownsRow_mid (ownsRow_mid st.1 (setCell_mid _ _ _ _) ?_) (setCell_mid _ _ _ _) ?_, ?_⟩
    · intro j hj; simp [Value.ownBlock] at hj; omega
    · intro j hj; simp [Value.ownBlock] at hj; omega
    · have m1 : Mid g (g + 1) w _ := (Mid.of_below (below4' w o1 o2 o3 o4) (Nat.le_refl _)).trans (Mid.of_grown st.2 (fun j hj => by simp at hj; omega))
      exact m1.then_below (((Below.refl _ _).setCell (by simp; omega) _).setCell (by simp; omega) _)
  have hgn : ¬ g = w.heap.size + 1 + 1 := by omega
  have hgn0 : ¬ g = w.heap.size := by omega
  have hgn1 : ¬ g = w.heap.size + 1 := by omega
  have hgn3 : ¬ g = w.heap.size + 1 + 1 + 1 := by omega
  clear f0 f1 hok p3 hat hms hms' ho
  rcases next_some hnx with ⟨rfl, rfl⟩ | ⟨rfl, rfl⟩ | ⟨rfl, rfl⟩
  · obtain ⟨z, rfl, _, _⟩ := Pl.recOk_hold hrec
    rcases hu with ⟨h, _⟩ | ⟨b2, off2, cap2, rfl, hz2, hc2⟩
    · simp at h
    have d0 : w.cell? ⟨b2, off2, none⟩ = some (.int .i64 z) := hc2 0 (by simp)
    have hb2 : b2 < w.heap.size := World.block_lt_of_cell? _ _ d0
    have d4 : ∀ o1 o2 o3 o4, ((((w.alloc o1).alloc o2).alloc o3).alloc o4).cell? ⟨b2, off2, none⟩ = some (.int .i64 z) := fun o1 o2 o3 o4 => ((below4' w o1 o2 o3 o4).cell (p := ⟨b2, off2, none⟩) hb2).trans d0
    clear hc2 hz2 hrec hnx hbh
    go_enter Tryz.func82, Tryz.ntmps82
    go_wp2
    exact bodyPost_ret (v := .agg #[.int .i64 room, .slice (some ⟨g, 0, none⟩) 6 cap]) (by simp [results, Tryz.results82, go_sem]) rfl ⟨rfl, FIN.out _ _ _ _ _ _⟩
  · obtain ⟨au, cu, rfl⟩ := hu.shape
    clear hu hrec hnx hbh
    go_enter Tryz.func82, Tryz.ntmps82
    go_wp2
    exact bodyPost_ret (v := .agg #[.int .i64 room, .slice (some ⟨g, 0, none⟩) 6 cap]) (by simp [results, Tryz.results82, go_sem]) rfl ⟨rfl, FIN.out _ _ _ _ _ _⟩
  · obtain ⟨au, cu, rfl⟩ := hu.shape
    clear hu hrec hnx hbh
    go_enter Tryz.func82, Tryz.ntmps82
    go_wp2
    exact bodyPost_ret (v := .agg #[.int .i64 room, .slice (some ⟨g, 0, none⟩) 6 cap]) (by simp [results, Tryz.results82, go_sem]) rfl ⟨rfl, FIN.out _ _ _ _ _ _⟩

set_option maxRecDepth 100000 in
set_option maxHeartbeats 4000000 in
theorem specDo_any (room : Int) (v : Value) (hs : List Pl.H) (k t : Int) (u : Value) (zs : List Int) (w : World) (hv : Holds w v hs) (hl : hs.length ≤ 1048576) (hu : Ints w u zs) (hzl : zs.length ≤ 1048576) :
    Calls Tryz.prog 100 #[.agg #[.int .i64 room, v], .agg #[.int .i64 k, .int .i64 t, u]] w fun e w' => StOut w w' e (oR room (Pl.sDo room hs k t zs)) (oH (Pl.sDo room hs k t zs)) (Pl.sDo room hs k t zs).isSome := by
  have HM : Hid (∀ W, Below w.heap.size w W → Calls Tryz.prog 115 #[.agg #[.int .i64 room, v], .agg #[.int .i64 k, .int .i64 t, u]] W fun e w' => e = .returned (.bool (Pl.behind room hs k t zs).isSome) ∧ Below W.heap.size W w') := fun W h =>
    specMay_any room v hs k t u zs W (hv.later h (Nat.le_refl _)) hl (hu.later h (Nat.le_refl _)) hzl
  have HV : Hid (∀ W, Below w.heap.size w W → Holds W v hs) := fun W h => hv.later h (Nat.le_refl _)
  have HU : Hid (∀ W, Below w.heap.size w W → Ints W u zs) := fun W h => hu.later h (Nat.le_refl _)
  obtain ⟨av, cv, rfl⟩ := hv.shape
  obtain ⟨au, cu, rfl⟩ := hu.shape
  have BX := hide_it (BoxS.new w (.int .i64 room) (.slice av hs.length cv) k t (.slice au zs.length cu) 50 62 50)
  clear hv hu
  cases ho : Pl.behind room hs k t zs with
  | none =>
    have e : Pl.sDo room hs k t zs = none := by unfold Pl.sDo; rw [ho]; rfl
    rw [e]
    rw [ho] at HM
    go_enter Tryz.func100, Tryz.ntmps100
    go_wp2_with fail
    refine (HM.out _ (below3 w _ _ _)).mono ?_
    rintro e w1 ⟨rfl, hb1⟩
    have B1 := hide_it ((below3 w _ _ _).trans (hb1.mono (by simp; omega)))
    obtain ⟨_, _, q0, q1, f0, f1⟩ := BX.out.later hb1 (by simp)
    clear hb1
    go_wp2
    exact bodyPost_ret (v := .tuple #[.agg #[.int .i64 0, .slice none 0 0], .bool false]) (by simp [results, Tryz.results100, go_sem, q0, q1]) rfl (StOut.none_ ((B1.out.setCell (by simp; omega) _).setCell (by simp; omega) _))
  | some h =>
    have e : Pl.sDo room hs k t zs = some (hs.set (Pl.at_ t) h) := by unfold Pl.sDo; rw [ho]; rfl
    rw [e]
    obtain ⟨hok, hrec, _⟩ := behind_parts ho
    obtain ⟨_, _, p3, _⟩ := Pl.sOk_parts hok
    have P3 := hide_it p3
    have HBH := hide_it ho
    rw [ho] at HM
    rw [p3] at HM BX ⊢
    rw [p3] at HV
    have hlen : Hid ((hs.set (Pl.at_ t) h).length = 6) := by show _ = _; rw [List.length_set]; exact P3.out
    clear e ho hrec hok p3 hl
    go_enter Tryz.func100, Tryz.ntmps100
    go_wp2_with fail
    refine (HM.out _ (below3 w _ _ _)).mono ?_
    rintro e w1 ⟨rfl, hb1⟩
    have B1 := hide_it ((below3 w _ _ _).trans (hb1.mono (by simp; omega)))
    have BX1 := hide_it (BX.out.later hb1 (by simp))
    have hz1 : w.heap.size + 3 ≤ w1.heap.size := by have := hb1.size; simp at this; omega
    obtain ⟨⟨x0, x1⟩, ⟨r0, r1, r2⟩, q0, q1, f0, f1⟩ := BX1.out
    clear hb1
    go_wp2_with fail
    go_region_held (fun w' => w'.cell? ⟨w.heap.size, 0, none⟩ = some (.int .i64 room) ∧ w'.cell? ⟨w.heap.size, 1, none⟩ = some (.slice av 6 cv) ∧ w'.cell? ⟨w.heap.size + 1, 0, none⟩ = some (.int .i64 k) ∧ w'.cell? ⟨w.heap.size + 1, 1, none⟩ = some (.int .i64 t) ∧ w'.cell? ⟨w.heap.size + 1, 2, none⟩ = some (.slice au zs.length cu)) (first | (go_keep; done) | (refine ⟨?_, ?_, ?_, ?_, ?_⟩ <;> (rw [two_set_cells _ _ _ _ _ _ (by omega)]; assumption)))
      (first
      | (go_at_call 116; refine (l2Copy_any room _ hs _ (HV.out _ B1.out.drew) P3.out).mono ?_; rintro e w2 ⟨g, cap, rfl, ho2, hb2⟩; have O2 := hide_it ho2; have hg2 := ho2.lt g rfl; have B2 := hide_it (B1.out.drew.trans (hb2.mono B1.out.size)); have BX2 := hide_it ((BX1.out.later (Below.refl _ _).drew hz1).later hb2 (by exact hz1)); obtain ⟨⟨y0, y1⟩, ⟨s0, s1, s2⟩, _⟩ := BX2.out; clear hb2 ho2)
      | (go_at_call 82; refine (l2Do_any room g cap _ hs k t _ zs h _ O2.out (HU.out _ B2.out) HBH.out).mono ?_; rintro e w3 ⟨rfl, ho3, hM3⟩; have O3 := hide_it ho3; have hw1g : w1.heap.size + 2 ≤ g := hg2.1; have E3 := hide_it (hM3.below (B := w1.heap.size) (by omega) (by omega)); have B3 := hide_it (B2.out.trans (E3.out.mono B1.out.size)); have BX3 := hide_it (BX2.out.later E3.out hz1); obtain ⟨⟨o0, o1⟩, ⟨v0, v1, v2⟩, z0, z1, j0, j1⟩ := BX3.out; have hz3 := BX3.out.lt; clear ho3 hM3))
    go_wp2
    refine bodyPost_ret (v := .tuple #[.agg #[.int .i64 room, .slice (some ⟨g, 0, none⟩) 6 cap], .bool true]) (by simp [results, Tryz.results100, go_sem, z0, z1]) rfl ⟨some ⟨g, 0, none⟩, cap, ?_, ?_, ?_⟩
    · show _ = _
      simp only [oR, oH, Option.getD_some, Option.isSome_some, hlen.out]
    · simp only [oH, Option.getD_some, hlen.out]
      exact ownsRow_base (ownsRow_setCell_below (ownsRow_setCell_below O3.out (by show _ < w1.heap.size + 2; simp; omega) _) (by show _ < w1.heap.size + 2; simp; omega) _) (by show _ ≤ w1.heap.size + 2; omega)
    · exact (B3.out.setCell (by simp; omega) _).setCell (by simp; omega) _

end Go.Proofs.YthllcffmpeopcaaGreatDoor

namespace Go.Proofs.YthllcffmpeopcaaGreatDoor
open Go.RowKit

/-- A stock's own block. -/
def SB (W : World) (S : Nat) (x y : Value) : Prop := W.heap[S]? = some (.cells #[x, y] 50 (0, 0))
theorem SB.new (w : World) (x y : Value) : SB (w.alloc (.cells #[x, y] 50)) w.heap.size x y := heap_alloc_new w _
theorem SB.lt {w : World} {b : Nat} {x y : Value} (h : SB w b x y) : b < w.heap.size := by
  unfold SB at h
  by_cases e : b < w.heap.size
  · exact e
  · rw [Array.getElem?_eq_none (by omega)] at h; cases h
theorem SB.later {w w' : World} {b L : Nat} {x y : Value} (h : SB w b x y) (hb : Below L w w') (hL : b < L) : SB w' b x y := by
  unfold SB at *
  rw [hb.block b hL]; exact h
theorem SB.mid {w w' : World} {b l h' : Nat} {x y : Value} (h : SB w b x y) (hm : Mid l h' w w') (hb : b < l ∨ h' ≤ b) : SB w' b x y := by
  have := h.lt
  unfold SB at *
  rw [hm.block b this hb]; exact h
theorem SB.cells {w : World} {b : Nat} {x y : Value} (h : SB w b x y) : w.cell? ⟨b, 0, none⟩ = some x ∧ w.cell? ⟨b, 1, none⟩ = some y ∧ w.frozen? ⟨b, 0, none⟩ = false ∧ w.frozen? ⟨b, 1, none⟩ = false := by
  refine ⟨?_, ?_, frozen_of_row w _ _ _ _ h, frozen_of_row w _ _ _ _ h⟩
  · rw [cell_of_row w _ _ _ _ _ h]; rfl
  · rw [cell_of_row w _ _ _ _ _ h]; rfl
theorem SB.set {w : World} {b : Nat} {x y : Value} (h : SB w b x y) (x' y' : Value) : SB ((w.setCell ⟨b, 0, none⟩ x').setCell ⟨b, 1, none⟩ y') b x' y' := by
  have h2 := heap_setCell_same w b 0 _ _ x' h
  have h3 := heap_setCell_same _ b 1 _ _ y' h2
  unfold SB
  rw [h3]; rfl
theorem SB.other {w : World} {b c : Nat} {x y : Value} (h : SB w b x y) (hne : b ≠ c) (x' y' : Value) : SB ((w.setCell ⟨c, 0, none⟩ x').setCell ⟨c, 1, none⟩ y') b x y := by
  unfold SB at *
  rw [Below.heap_setCell _ _ _ _ hne, Below.heap_setCell _ _ _ _ hne]; exact h

theorem sRun_nil (room : Int) (hs : List Pl.H) : Pl.sRun room [] hs = some hs := rfl
theorem sRun_no (room : Int) (r : R) (t : List R) (hs : List Pl.H) (h : Pl.sDo room hs r.1 r.2.1 r.2.2 = none) : Pl.sRun room (r :: t) hs = none := by simp [Pl.sRun, h]
theorem sRun_yes (room : Int) (r : R) (t : List R) (hs hs' : List Pl.H) (h : Pl.sDo room hs r.1 r.2.1 r.2.2 = some hs') : Pl.sRun room (r :: t) hs = Pl.sRun room t hs' := by simp [Pl.sRun, h]
theorem drop_at {rs : List R} {k : Nat} {r : R} (h : rs[k]? = some r) : rs.drop k = r :: rs.drop (k + 1) := by
  have hk : k < rs.length := by
    by_cases e : k < rs.length
    · exact e
    · rw [List.getElem?_eq_none (by omega)] at h; cases h
  rw [List.getElem?_eq_getElem hk] at h
  simp only [Option.some.injEq] at h
  rw [List.drop_eq_getElem_cons hk, h]

theorem newO_no {room : Int} (h : Pl.inB room 0 9 = false) : newO room = none := by simp [newO, h]
theorem newO_yes {room : Int} (h : Pl.inB room 0 9 = true) : newO room = some Pl.noHolds := by simp [newO, h]
theorem sOf_no {room : Int} (rs : List R) (h : Pl.inB room 0 9 = false) : Pl.sOf room rs = none := by simp [Pl.sOf, h]
theorem sOf_yes {room : Int} (rs : List R) (h : Pl.inB room 0 9 = true) : Pl.sOf room rs = Pl.sRun room rs Pl.noHolds := by simp [Pl.sOf, h]

theorem row_g {w : World} {base n : Nat} {v : Value} {xs : List Value} (h : w.ownsRow base 54 2 v n xs) (hn : 0 < n) : ∃ g cap, v = .slice (some ⟨g, 0, none⟩) n cap := by
  rcases h.2 with ⟨_, h0⟩ | ⟨g, cap, cur, hv, _⟩
  · omega
  · exact ⟨g, cap, hv⟩

set_option maxRecDepth 100000 in
set_option maxHeartbeats 4000000 in
theorem implOf_any (room : Int) (v : Value) (rs : List R) (a : Addr) (w : World) (hv : Recs w v rs) (hl : tot rs ≤ 1048576) (ha : ErrAt w a) :
    Calls Tryz.prog 57 #[.int .i64 room, v] w fun e w' => StOut w w' e (oR room (Pl.sOf room rs)) (oH (Pl.sOf room rs)) (Pl.sOf room rs).isSome := by
  have hlen := tot_len rs
  have HM : Hid (∀ r ∈ rs, r.2.2.length ≤ 1048576) := fun r hr => Nat.le_trans (tot_mem rs r hr) hl
  have HA : Hid (∀ W, Below w.heap.size w W → ErrAt W a) := fun W h => ha.later h (Nat.le_refl _)
  have HN := hide_it (implNew_any room)
  cases hr : Pl.inB room 0 9
  · rw [sOf_no rs hr]
    have HN0 : ∀ W, Calls Tryz.prog 85 #[.int .i64 room] W fun e w' => StOut W w' e 0 [] false := fun W => by
      have := HN.out W
      rw [newO_no hr] at this
      exact this
    have HN1 := hide_it HN0
    clear HN0 HN
    obtain ⟨ao, cap, rfl⟩ := hv.shape
    clear hv ha
    go_enter Tryz.func57, Tryz.ntmps57
    go_wp2_with fail
    refine (HN1.out _).mono ?_
    rintro e w1 ⟨a1, c1, rfl, ho1, hb1⟩
    have Z1 := hide_it ((SB.new w (.int .i64 0) (.slice none 0 0)).later hb1 (by simp))
    have B1 := hide_it ((al_below w _).trans (hb1.mono (by simp)))
    have hz1 := Z1.out.lt
    obtain ⟨z0, z1, z2, z3⟩ := Z1.out.cells
    have ZS := Z1.out.set (.int .i64 0) (.slice none 0 0)
    have ZT := ZS.later (al_below _ (.cells #[.int .i64 0, .slice a1 0 c1] 50)) ZS.lt
    have HZT := hide_it ZT.cells
    clear ho1 hb1 ZS ZT
    go_wp2
    obtain ⟨t0, t1, _, _⟩ := HZT.out
    refine bodyPost_ret (v := .tuple #[.agg #[.int .i64 0, .slice none 0 0], .bool false]) (by simp [results, Tryz.results57, go_sem, t0, t1]) rfl ?_
    first | exact StOut.none_ (((B1.out.alloc B1.out.size _).setCell (by simp) _).setCell (by simp) _) | exact StOut.none_ (((B1.out.setCell (by simp) _).setCell (by simp) _).alloc (by simp; exact B1.out.size) _)
  rw [sOf_yes rs hr]
  have HN0 : ∀ W, Calls Tryz.prog 85 #[.int .i64 room] W fun e w' => StOut W w' e room Pl.noHolds true := fun W => by
    have := HN.out W
    rw [newO_yes hr] at this
    exact this
  have HN1 := hide_it HN0
  clear HN0 HN
  obtain ⟨OO, hOO⟩ : ∃ o, Pl.sRun room rs Pl.noHolds = o := ⟨_, rfl⟩
  rw [hOO]
  have HOO := hide_it hOO
  have HR := hide_it hr
  have HC : Hid (∀ W, Below w.heap.size w W → ∀ i r, rs[i]? = some r → ∃ b off cap u, v = .slice (some ⟨b, off, none⟩) rs.length cap ∧ RecCells W b (off + i * 3) r u) := fun W h i r hri => by
    rcases hv.later h (Nat.le_refl _) with ⟨rfl, _⟩ | ⟨b, off, cap, hvv, _, hc⟩
    · simp at hri
    · obtain ⟨u, hu⟩ := hc i r hri
      exact ⟨b, off, cap, u, hvv, hu⟩
  obtain ⟨av, cv, rfl⟩ := hv.shape
  clear hv ha hOO hr
  go_enter Tryz.func57, Tryz.ntmps57
  go_wp2_with fail
  refine (HN1.out _).mono ?_
  rintro e w1 ⟨a1, c1, rfl, ho1, hb1⟩
  have n6 : Pl.noHolds.length = 6 := rfl
  rw [n6] at ho1 ⊢
  have Z1 := hide_it ((SB.new w (.int .i64 0) (.slice none 0 0)).later hb1 (by simp))
  have B1 := hide_it ((al_below w _).trans (hb1.mono (by simp)))
  have hz1 := Z1.out.lt
  have ho1' : w1.ownsRow (w.heap.size + 1) 54 2 (.slice a1 6 c1) 6 (hflat Pl.noHolds) := by
    have h := ho1
    rw [World.size_alloc] at h
    exact h
  have O1 := hide_it (ho1'.alloc (.cells #[.int .i64 room, .slice a1 6 c1] 50))
  have Z2 := hide_it (Z1.out.later (al_below w1 (.cells #[.int .i64 room, .slice a1 6 c1] 50)) hz1)
  have S2 := hide_it (SB.new w1 (.int .i64 room) (.slice a1 6 c1))
  have B2 := hide_it (B1.out.alloc B1.out.size (.cells #[.int .i64 room, .slice a1 6 c1] 50))
  clear ho1 ho1' hb1
  go_wp2_with fail
  go_loopw [20] (fun i wr => ∃ (k : Nat) (hk : List Pl.H) (ak : Option Addr) (ck : Nat), k ≤ rs.length ∧ i = .int .i64 k ∧ Hid (Pl.sRun room (rs.drop k) hk = OO) ∧ Hid (Pl.sOk room hk = true) ∧ Hid (SB wr w1.heap.size (.int .i64 room) (.slice ak 6 ck)) ∧ Hid (SB wr w.heap.size (.int .i64 0) (.slice none 0 0)) ∧ Hid (wr.ownsRow (w.heap.size + 1) 54 2 (.slice ak 6 ck) 6 (hflat hk)) ∧ Hid (Below w.heap.size w wr)) (fun i _ => rs.length - (intOf i).toNat)
  case atStart => exact ⟨0, Pl.noHolds, a1, c1, Nat.zero_le _, rfl, HOO, Pl.new_ok room HR.out, S2, Z2, O1, B2⟩
  case round =>
    obtain ⟨k, hk, ak, ck, hkl, rfl, HRU, HOK, HS, HZ, HO, HB⟩ := hrel
    have P3 : Hid (hk.length = 6) := (Pl.sOk_parts HOK.out).2.2.1
    obtain ⟨s0, s1, s2, s3⟩ := HS.out.cells
    obtain ⟨z0, z1, z2, z3⟩ := HZ.out.cells
    have hsl := HS.out.lt
    have hzl := HZ.out.lt
    by_cases hlt : k < rs.length
    · obtain ⟨r, hri⟩ : ∃ r, Hid (rs[k]? = some r) := ⟨rs[k], by show _ = _; simp [hlt]⟩
      have hrl : r.2.2.length ≤ 1048576 := HM.out r (List.mem_of_getElem? hri.out)
      obtain ⟨b, off, cap, u, hvv, c0, c1', c2, hI⟩ := HC.out wr HB.out k r hri.out
      simp only [Value.slice.injEq] at hvv
      obtain ⟨rfl, -, rfl⟩ := hvv
      obtain ⟨au, cu, hus⟩ := hI.shape
      subst hus
      have HI := hide_it hI
      have HD : Hid (∀ o, Calls Tryz.prog 86 #[.agg #[.int .i64 room, .slice ak 6 ck], .agg #[.int .i64 r.1, .int .i64 r.2.1, .slice au r.2.2.length cu]] (wr.alloc o) fun e w' => StOut (wr.alloc o) w' e (oR room (Pl.sDo room hk r.1 r.2.1 r.2.2)) (oH (Pl.sDo room hk r.1 r.2.1 r.2.2)) (Pl.sDo room hk r.1 r.2.1 r.2.2).isSome) := fun o => by
        have h6 := HO.out
        have hH : Holds (wr.alloc o) (.slice ak 6 ck) hk := by
          have h := h6.alloc o
          rw [← P3.out] at h
          have := holds_of_row h
          rw [P3.out] at this
          exact this
        exact implDo_any room _ hk r.1 r.2.1 _ r.2.2 a (wr.alloc o) hH (by have := P3.out; omega) (HI.out.later (al_below _ _) (Nat.le_refl _)) hrl (HA.out _ (HB.out.alloc HB.out.size o))
      have HRU2 := hide_it HRU.out
      rw [drop_at hri.out] at HRU2
      have hbw : b < wr.heap.size := World.block_lt_of_cell? _ _ c0
      have sA := fun o => (HS.out.later (al_below wr o) hsl).cells
      have SAl := hide_it sA
      clear sA hI
      obtain ⟨sa0, sa1, _, _⟩ := SAl.out (.cells #[.int .i64 r.1, .int .i64 r.2.1, .slice au r.2.2.length cu] 62)
      go_wp2_with fail
      cases hd : Pl.sDo room hk r.1 r.2.1 r.2.2 with
      | none =>
        rw [hd] at HD
        have HE : Hid (OO = none) := by show _ = _; rw [← HRU2.out]; exact sRun_no room r _ hk hd
        refine (HD.out _).mono ?_
        rintro e w3 ⟨a3, c3, rfl, ho3, hb3⟩
        have B3 := hide_it ((HB.out.alloc HB.out.size (.cells #[.int .i64 r.1, .int .i64 r.2.1, .slice au r.2.2.length cu] 62)).trans (hb3.mono (by have := HB.out.size; simp; omega)))
        have S3 := hide_it ((HS.out.later (al_below wr (.cells #[.int .i64 r.1, .int .i64 r.2.1, .slice au r.2.2.length cu] 62)) hsl).later hb3 (by simp; omega))
        have Z3 := hide_it ((HZ.out.later (al_below wr (.cells #[.int .i64 r.1, .int .i64 r.2.1, .slice au r.2.2.length cu] 62)) hzl).later hb3 (by simp; omega))
        have hb13 : w.heap.size ≠ w1.heap.size := by omega
        clear ho3 hb3 s0 s1 s2 s3 z0 z1 z2 z3 sa0 sa1 c0 c1' c2
        obtain ⟨s0, s1, s2, s3⟩ := S3.out.cells
        obtain ⟨z0, z1, z2, z3⟩ := (Z3.out.other hb13 (.int .i64 (oR room none)) (.slice a3 (oH none).length c3)).cells
        go_wp2
        rw [HE.out]
        exact bodyPost_ret (v := .tuple #[.agg #[.int .i64 0, .slice none 0 0], .bool false]) (by simp [results, Tryz.results57, go_sem, z0, z1]) rfl (StOut.none_ ((((B3.out.setCell (by simp; omega) _).setCell (by simp; omega) _).setCell (by simp) _).setCell (by simp) _))
      | some hk' =>
        rw [hd] at HD
        have hl6 : hk'.length = 6 := by rw [Pl.sDo_len hd]; exact P3.out
        refine (HD.out _).mono ?_
        rintro e w3 ⟨a3, c3, rfl, ho3, hb3⟩
        have eH : oH (some hk') = hk' := rfl
        have eR : oR room (some hk') = room := rfl
        rw [eH, hl6] at ho3 ⊢
        rw [eR]
        have HRU3 : Hid (Pl.sRun room (rs.drop (k + 1)) hk' = OO) := by show _ = _; rw [← HRU2.out]; exact (sRun_yes room r _ hk hk' hd).symm
        have HOK3 : Hid (Pl.sOk room hk' = true) := Pl.sDo_keeps hd
        have B3 := hide_it ((HB.out.alloc HB.out.size (.cells #[.int .i64 r.1, .int .i64 r.2.1, .slice au r.2.2.length cu] 62)).trans (hb3.mono (by have := HB.out.size; simp; omega)))
        have S3 := hide_it ((HS.out.later (al_below wr (.cells #[.int .i64 r.1, .int .i64 r.2.1, .slice au r.2.2.length cu] 62)) hsl).later hb3 (by simp; omega))
        have Z3 := hide_it ((HZ.out.later (al_below wr (.cells #[.int .i64 r.1, .int .i64 r.2.1, .slice au r.2.2.length cu] 62)) hzl).later hb3 (by simp; omega))
        have hb13 : w.heap.size ≠ w1.heap.size := by omega
        have S4 := hide_it (S3.out.set (.int .i64 room) (.slice a3 6 c3))
        have Z4 := hide_it (Z3.out.other hb13 (.int .i64 room) (.slice a3 6 c3))
        rw [World.size_alloc] at ho3
        have O4 := hide_it (ownsRow_base (base' := w.heap.size + 1) (ownsRow_setCell_below (a := ⟨w1.heap.size, 1, none⟩) (ownsRow_setCell_below (a := ⟨w1.heap.size, 0, none⟩) ho3 (by simp; omega) (.int .i64 room)) (by simp; omega) (.slice a3 6 c3)) (by omega))
        clear ho3 hb3 s0 s1 s2 s3 z0 z1 z2 z3 sa0 sa1 c0 c1' c2 hd hl6 eH eR
        obtain ⟨s0, s1, s2, s3⟩ := S3.out.cells
        go_wp2
        go_roundw
        case rel => exact ⟨k + 1, hk', a3, c3, by omega, by go_num, HRU3, HOK3, S4, Z4, O4, (B3.out.setCell (by simp; omega) _).setCell (by simp; omega) _⟩
        case measure => simp [intOf]; omega
    · have HE : Hid (OO = some hk) := by
        show _ = _
        have hke : k = rs.length := by omega
        rw [← HRU.out, hke, List.drop_length]
        rfl
      go_wp2
      rw [HE.out]
      refine bodyPost_ret (v := .tuple #[.agg #[.int .i64 room, .slice ak 6 ck], .bool true]) (by simp [results, Tryz.results57, go_sem, z0, z1]) rfl ⟨ak, ck, ?_, ?_, ?_⟩
      · show _ = _
        simp only [oR, oH, Option.getD_some, Option.isSome_some, P3.out]
      · simp only [oH, Option.getD_some, P3.out]
        exact ownsRow_base (ownsRow_setCell_below (ownsRow_setCell_below HO.out (by simp) _) (by simp) _) (by omega)
      · exact (HB.out.setCell (by simp) _).setCell (by simp) _

end Go.Proofs.YthllcffmpeopcaaGreatDoor

namespace Go.Proofs.YthllcffmpeopcaaGreatDoor
open Go.RowKit

theorem hOO_no {room : Int} {r : R} {t : List R} {hk : List Pl.H} (h : Pl.behind room hk r.1 r.2.1 r.2.2 = none) : Pl.sRun room (r :: t) hk = none :=
  sRun_no room r t hk (by unfold Pl.sDo; rw [h]; rfl)
theorem hOO_yes {room : Int} {r : R} {t : List R} {hk : List Pl.H} {h' : Pl.H} (h : Pl.behind room hk r.1 r.2.1 r.2.2 = some h') : Pl.sRun room (r :: t) hk = Pl.sRun room t (hk.set (Pl.at_ r.2.1) h') :=
  sRun_yes room r t hk _ (by unfold Pl.sDo; rw [h]; rfl)

set_option maxRecDepth 100000 in
set_option maxHeartbeats 8000000 in
theorem l2Of_any (room : Int) (v : Value) (rs : List R) (w : World) (hv : Recs w v rs) (hl : tot rs ≤ 1048576) :
    Calls Tryz.prog 46 #[.int .i64 room, v] w fun e w' => StOut w w' e (oR room (Pl.sOf room rs)) (oH (Pl.sOf room rs)) (Pl.sOf room rs).isSome := by
  have hlen := tot_len rs
  have HM : Hid (∀ r ∈ rs, r.2.2.length ≤ 1048576) := fun r hr => Nat.le_trans (tot_mem rs r hr) hl
  have HN := hide_it (specNew_any room)
  cases hr : Pl.inB room 0 9
  · rw [sOf_no rs hr]
    have HN0 : ∀ W, Calls Tryz.prog 80 #[.int .i64 room] W fun e w' => StOut W w' e 0 [] false := fun W => by
      have := HN.out W
      rw [newO_no hr] at this
      exact this
    have HN1 := hide_it HN0
    clear HN0 HN
    obtain ⟨ao, cap, rfl⟩ := hv.shape
    clear hv
    go_enter Tryz.func46, Tryz.ntmps46
    go_wp2_with fail
    refine (HN1.out _).mono ?_
    rintro e w1 ⟨a1, c1, rfl, ho1, hb1⟩
    have Z1 := hide_it ((SB.new w (.int .i64 0) (.slice none 0 0)).later hb1 (by simp))
    have B1 := hide_it ((al_below w _).trans (hb1.mono (by simp)))
    have hz1 := Z1.out.lt
    obtain ⟨z0, z1, z2, z3⟩ := Z1.out.cells
    have ZS := Z1.out.set (.int .i64 0) (.slice none 0 0)
    have ZT := ZS.later (al_below _ (.cells #[.int .i64 0, .slice a1 0 c1] 50)) ZS.lt
    have HZT := hide_it ZT.cells
    clear ho1 hb1 ZS ZT
    go_wp2
    obtain ⟨t0, t1, _, _⟩ := HZT.out
    refine bodyPost_ret (v := .tuple #[.agg #[.int .i64 0, .slice none 0 0], .bool false]) (by simp [results, Tryz.results46, go_sem, t0, t1]) rfl ?_
    exact StOut.none_ (((B1.out.setCell (by simp) _).setCell (by simp) _).alloc (by simp; exact B1.out.size) _)
  rw [sOf_yes rs hr]
  have HN0 : ∀ W, Calls Tryz.prog 80 #[.int .i64 room] W fun e w' => StOut W w' e room Pl.noHolds true := fun W => by
    have := HN.out W
    rw [newO_yes hr] at this
    exact this
  have HN1 := hide_it HN0
  clear HN0 HN
  obtain ⟨OO, hOO⟩ : ∃ o, Pl.sRun room rs Pl.noHolds = o := ⟨_, rfl⟩
  rw [hOO]
  have HOO := hide_it hOO
  have HR := hide_it hr
  have HC : Hid (∀ W, Below w.heap.size w W → ∀ i r, rs[i]? = some r → ∃ b off cap u, v = .slice (some ⟨b, off, none⟩) rs.length cap ∧ RecCells W b (off + i * 3) r u ∧ b < w.heap.size) := fun W h i r hri => by
    rcases hv with ⟨rfl, _⟩ | ⟨b, off, cap, hvv, _, hc⟩
    · simp at hri
    · obtain ⟨u, hu⟩ := hc i r hri
      exact ⟨b, off, cap, u, hvv, hu.later h (Nat.le_refl _), by simpa using World.block_lt_of_cell? _ _ hu.1⟩
  obtain ⟨av, cv, rfl⟩ := hv.shape
  clear hv hOO hr
  go_enter Tryz.func46, Tryz.ntmps46
  go_wp2_with fail
  refine (HN1.out _).mono ?_
  rintro e w1 ⟨a1, c1, rfl, ho1, hb1⟩
  have n6 : Pl.noHolds.length = 6 := rfl
  rw [n6] at ho1 ⊢
  obtain ⟨g, cg, hvg⟩ := row_g ho1 (by decide)
  rw [hvg] at ho1 ⊢
  have Z1 := hide_it ((SB.new w (.int .i64 0) (.slice none 0 0)).later hb1 (by simp))
  have B1 := hide_it ((al_below w _).trans (hb1.mono (by simp)))
  have hz1 := Z1.out.lt
  have ho1' : w1.ownsRow (w.heap.size + 1) 54 2 (.slice (some ⟨g, 0, none⟩) 6 cg) 6 (hflat Pl.noHolds) := by
    have h := ho1
    rw [World.size_alloc] at h
    exact h
  have hgl := ho1'.lt g rfl
  have O1 := hide_it (ho1'.alloc (.cells #[.int .i64 room, .slice (some ⟨g, 0, none⟩) 6 cg] 50))
  have Z2 := hide_it (Z1.out.later (al_below w1 (.cells #[.int .i64 room, .slice (some ⟨g, 0, none⟩) 6 cg] 50)) hz1)
  have S2 := hide_it (SB.new w1 (.int .i64 room) (.slice (some ⟨g, 0, none⟩) 6 cg))
  have B2 := hide_it (B1.out.alloc B1.out.size (.cells #[.int .i64 room, .slice (some ⟨g, 0, none⟩) 6 cg] 50))
  clear ho1 ho1' hb1 hvg
  go_wp2_with fail
  go_loopw [8] (fun i wr => ∃ (k : Nat) (hk : List Pl.H), k ≤ rs.length ∧ i = .int .i64 k ∧ Hid (Pl.sRun room (rs.drop k) hk = OO) ∧ Hid (Pl.sOk room hk = true) ∧ Hid (SB wr w1.heap.size (.int .i64 room) (.slice (some ⟨g, 0, none⟩) 6 cg)) ∧ Hid (SB wr w.heap.size (.int .i64 0) (.slice none 0 0)) ∧ Hid (wr.ownsRow (w.heap.size + 1) 54 2 (.slice (some ⟨g, 0, none⟩) 6 cg) 6 (hflat hk)) ∧ Hid (Below w.heap.size w wr)) (fun i _ => rs.length - (intOf i).toNat)
  case atStart => exact ⟨0, Pl.noHolds, Nat.zero_le _, rfl, HOO, Pl.new_ok room HR.out, S2, Z2, O1, B2⟩
  case round =>
    obtain ⟨k, hk, hkl, rfl, HRU, HOK, HS, HZ, HO, HB⟩ := hrel
    have P3 : Hid (hk.length = 6) := (Pl.sOk_parts HOK.out).2.2.1
    obtain ⟨s0, s1, s2, s3⟩ := HS.out.cells
    obtain ⟨z0, z1, z2, z3⟩ := HZ.out.cells
    have hsl := HS.out.lt
    have hzl := HZ.out.lt
    by_cases hlt : k < rs.length
    · obtain ⟨r, hri⟩ : ∃ r, Hid (rs[k]? = some r) := ⟨rs[k], by show _ = _; simp [hlt]⟩
      have hrl : r.2.2.length ≤ 1048576 := HM.out r (List.mem_of_getElem? hri.out)
      obtain ⟨b, off, cap, u, hvv, ⟨c0, c1', c2, hI⟩, hbw⟩ := HC.out wr HB.out k r hri.out
      simp only [Value.slice.injEq] at hvv
      obtain ⟨rfl, -, rfl⟩ := hvv
      obtain ⟨au, cu, hus⟩ := hI.shape
      subst hus
      have HI : Hid (∀ W, Below wr.heap.size wr W → Ints W (.slice au r.2.2.length cu) r.2.2) := fun W h => hI.later h (Nat.le_refl _)
      have HH : Hid (∀ W, Below wr.heap.size wr W → Holds W (.slice (some ⟨g, 0, none⟩) 6 cg) hk) := fun W h => by
        have h6 := HO.out
        rw [← P3.out] at h6
        have := (holds_of_row h6).later h (Nat.le_refl _)
        rw [P3.out] at this
        exact this
      have HRC : Hid (∀ W, Below wr.heap.size wr W → W.cell? ⟨b, off + k * 3, none⟩ = some (.int .i64 r.1) ∧ W.cell? ⟨b, off + k * 3 + 1, none⟩ = some (.int .i64 r.2.1) ∧ W.cell? ⟨b, off + k * 3 + 2, none⟩ = some (.slice au r.2.2.length cu)) := fun W h => by
        have hbr : b < wr.heap.size := Nat.lt_of_lt_of_le hbw HB.out.size
        exact ⟨(h.cell (p := ⟨b, off + k * 3, none⟩) hbr).trans c0, (h.cell (p := ⟨b, off + k * 3 + 1, none⟩) hbr).trans c1', (h.cell (p := ⟨b, off + k * 3 + 2, none⟩) hbr).trans c2⟩
      have HRU2 := hide_it HRU.out
      rw [drop_at hri.out] at HRU2
      have hkI : (k : Int) < (rs.length : Int) := by omega
      clear hI
      obtain ⟨o, ho⟩ : ∃ o, Pl.behind room hk r.1 r.2.1 r.2.2 = o := ⟨_, rfl⟩
      have HO2 := hide_it ho
      clear ho
      go_wp2_with fail
      go_cut [37] (fun b W => b = .bool (!o.isSome) ∧ Hid (Below wr.heap.size wr W))
      case first =>
        cases hrec : Pl.recOk r.1 r.2.1 r.2.2
        · have hon : o = none := by rw [← HO2.out]; exact Pl.behind_rec room hk hrec
          subst hon
          first | (go_region_with (go_at_call 81; refine (specOk_any r.1 r.2.1 _ r.2.2 _ (HI.out _ (Below.refl _ _).drew) hrl).mono ?_; rintro e w3 ⟨rfl, hb3⟩; rw [hrec]; have N3 := hide_it ((Below.refl wr.heap.size wr).drew.trans hb3); obtain ⟨d0, d1, d2⟩ := HRC.out _ N3.out; clear hb3)) | fail
          all_goals
            go_wp2_with fail
            go_meet
            case rel => exact ⟨rfl, N3⟩
        · have HMAY : Hid (∀ W, Below wr.heap.size wr W → Calls Tryz.prog 62 #[.agg #[.int .i64 room, .slice (some ⟨g, 0, none⟩) 6 cg], .agg #[.int .i64 r.1, .int .i64 r.2.1, .slice au r.2.2.length cu]] W fun e w' => e = .returned (.bool o.isSome) ∧ Below W.heap.size W w') := fun W h => by
            have := l2May_any room _ hk r.1 r.2.1 _ r.2.2 W (HH.out W h) (HI.out W h) HOK.out hrec
            rw [← Pl.behind_ok HOK.out hrec, HO2.out] at this
            exact this
          first | (go_region_with (first
            | (go_at_call 81; refine (specOk_any r.1 r.2.1 _ r.2.2 _ (HI.out _ (Below.refl _ _).drew) hrl).mono ?_; rintro e w3 ⟨rfl, hb3⟩; rw [hrec]; have N3 := hide_it ((Below.refl wr.heap.size wr).drew.trans hb3); obtain ⟨d0, d1, d2⟩ := HRC.out _ N3.out; have S3 := hide_it (HS.out.later N3.out hsl); obtain ⟨e0, e1, _, _⟩ := S3.out.cells; clear hb3)
            | (go_at_call 62; refine (HMAY.out _ N3.out).mono ?_; rintro e w4 ⟨rfl, hb4⟩; have N4 := hide_it (N3.out.trans (hb4.mono N3.out.size)); clear hb4))) | fail
          all_goals
            go_wp2_with fail
            go_meet
            case rel => exact ⟨by first | rfl | simp, N4⟩
      case rest =>
        obtain ⟨rfl, N4⟩ := hcut
        have S4 := hide_it (HS.out.later N4.out hsl)
        have Z4 := hide_it (HZ.out.later N4.out hzl)
        have O4 := hide_it (ownsRow_below HO.out N4.out (fun j hj => (HO.out.lt j hj).2))
        have B4 := hide_it (HB.out.trans (N4.out.mono HB.out.size))
        have hsl4 := S4.out.lt
        have hzl4 := Z4.out.lt
        clear s0 s1 s2 s3 z0 z1 z2 z3 c0 c1' c2
        obtain ⟨s0, s1, s2, s3⟩ := S4.out.cells
        obtain ⟨z0, z1, z2, z3⟩ := Z4.out.cells
        obtain ⟨c0, c1', c2⟩ := HRC.out _ N4.out
        cases o with
        | none =>
          have HE : Hid (OO = none) := by show _ = _; rw [← HRU2.out]; exact hOO_no HO2.out
          go_wp2
          rw [HE.out]
          refine bodyPost_ret (v := .tuple #[.agg #[.int .i64 0, .slice none 0 0], .bool false]) (by simp [results, Tryz.results46, go_sem, z0, z1]) rfl ?_
          exact StOut.none_ ((B4.out.setCell (by simp) _).setCell (by simp) _)
        | some h' =>
          have HRU3 : Hid (Pl.sRun room (rs.drop (k + 1)) (hk.set (Pl.at_ r.2.1) h') = OO) := by show _ = _; rw [← HRU2.out]; exact (hOO_yes HO2.out).symm
          have HOK3 : Hid (Pl.sOk room (hk.set (Pl.at_ r.2.1) h') = true) := Pl.behind_keeps HO2.out
          go_wp2_with fail
          first | (go_region_held (fun w' => w'.cell? ⟨w1.heap.size, 0, none⟩ = some (.int .i64 room) ∧ w'.cell? ⟨w1.heap.size, 1, none⟩ = some (.slice (some ⟨g, 0, none⟩) 6 cg) ∧ w'.cell? ⟨b, off + k * 3, none⟩ = some (.int .i64 r.1) ∧ w'.cell? ⟨b, off + k * 3 + 1, none⟩ = some (.int .i64 r.2.1) ∧ w'.cell? ⟨b, off + k * 3 + 2, none⟩ = some (.slice au r.2.2.length cu)) (first | (go_keep; done) | exact KP.out)
            ((go_at_call 82; refine (l2Do_any room g cg _ hk r.1 r.2.1 _ r.2.2 h' _ (ownsRow_below O4.out (Below.refl _ _).drew (fun j hj => (O4.out.lt j hj).2)) (HI.out _ N4.out.drew) HO2.out).mono ?_; rintro e w5 ⟨rfl, ho5, hM5⟩; have hM5' := hide_it ((Mid.of_below (Below.refl wc.heap.size wc).drew (Nat.le_refl _)).trans hM5); have E5 := hide_it (hM5'.out.below (B := w.heap.size) (by omega) B4.out.size); have S5 := hide_it (S4.out.mid hM5'.out (Or.inr (by omega))); have Z5 := hide_it (Z4.out.mid hM5'.out (Or.inl (by omega))); have B5 := hide_it (B4.out.trans E5.out); obtain ⟨x0, x1, x2, x3⟩ := S5.out.cells; have y0 := (E5.out.cell (p := ⟨b, off + k * 3, none⟩) hbw).trans c0; have y1 := (E5.out.cell (p := ⟨b, off + k * 3 + 1, none⟩) hbw).trans c1'; have y2 := (E5.out.cell (p := ⟨b, off + k * 3 + 2, none⟩) hbw).trans c2; have S6 := hide_it (S5.out.set (.int .i64 room) (.slice (some ⟨g, 0, none⟩) 6 cg)); have Z6 := hide_it (Z5.out.other (c := w1.heap.size) (by omega) (.int .i64 room) (.slice (some ⟨g, 0, none⟩) 6 cg)); have O6 := hide_it (ownsRow_mid (ownsRow_mid ho5 (setCell_mid _ w1.heap.size 0 (.int .i64 room)) (fun j hj => by simp [Value.ownBlock] at hj; omega)) (setCell_mid _ w1.heap.size 1 (.slice (some ⟨g, 0, none⟩) 6 cg)) (fun j hj => by simp [Value.ownBlock] at hj; omega)); have KP := hide_it (And.intro S6.out.cells.1 (And.intro S6.out.cells.2.1 (And.intro ((two_set_cells w5 w1.heap.size (.int .i64 room) (.slice (some ⟨g, 0, none⟩) 6 cg) b (off + k * 3) (by omega)).trans y0) (And.intro ((two_set_cells w5 w1.heap.size (.int .i64 room) (.slice (some ⟨g, 0, none⟩) 6 cg) b (off + k * 3 + 1) (by omega)).trans y1) ((two_set_cells w5 w1.heap.size (.int .i64 room) (.slice (some ⟨g, 0, none⟩) 6 cg) b (off + k * 3 + 2) (by omega)).trans y2))))); clear ho5 hM5))) | fail
          go_wp2
          go_roundw
          case rel => exact ⟨k + 1, _, by omega, by go_num, HRU3, HOK3, S6, Z6, O6, (B5.out.setCell (by simp; omega) _).setCell (by simp; omega) _⟩
          case measure => simp [intOf]; omega
    · have HE : Hid (OO = some hk) := by
        show _ = _
        have hke : k = rs.length := by omega
        rw [← HRU.out, hke, List.drop_length]
        rfl
      go_wp2
      rw [HE.out]
      refine bodyPost_ret (v := .tuple #[.agg #[.int .i64 room, .slice (some ⟨g, 0, none⟩) 6 cg], .bool true]) (by simp [results, Tryz.results46, go_sem, z0, z1]) rfl ⟨some ⟨g, 0, none⟩, cg, ?_, ?_, ?_⟩
      · show _ = _
        simp only [oR, oH, Option.getD_some, Option.isSome_some, P3.out]
      · simp only [oH, Option.getD_some, P3.out]
        exact ownsRow_base (ownsRow_setCell_below (ownsRow_setCell_below HO.out (by simp) _) (by simp) _) (by omega)
      · exact (HB.out.setCell (by simp) _).setCell (by simp) _

end Go.Proofs.YthllcffmpeopcaaGreatDoor

namespace Go.Proofs.YthllcffmpeopcaaGreatDoor
open Go.RowKit

def hoOk (id room : Int) (rs : List R) (f : Int) : Bool := Pl.inB id 1 3 && logOk rs f && (Pl.sOf room rs).isSome
theorem hoOk_id {id room : Int} {rs : List R} {f : Int} (h : Pl.inB id 1 3 = false) : hoOk id room rs f = false := by simp [hoOk, h]
theorem hoOk_log {id room : Int} {rs : List R} {f : Int} (h : logOk rs f = false) : hoOk id room rs f = false := by simp [hoOk, h]
theorem hoOk_of {id room : Int} {rs : List R} {f : Int} (h1 : Pl.inB id 1 3 = true) (h2 : logOk rs f = true) : hoOk id room rs f = (Pl.sOf room rs).isSome := by simp [hoOk, h1, h2]
theorem hoOk_parts {id room : Int} {rs : List R} {f : Int} (h : hoOk id room rs f = true) : Pl.inB id 1 3 = true ∧ logOk rs f = true ∧ (Pl.sOf room rs).isSome = true := by
  simp only [hoOk, Bool.and_eq_true] at h
  exact ⟨h.1.1, h.1.2, h.2⟩

set_option maxHeartbeats 2000000 in
theorem specHouseOk_any (id : Int) (up : Bool) (room : Int) (v : Value) (rs : List R) (f : Int) (w : World) (hv : Recs w v rs) (hl : tot rs ≤ 1048576) :
    Calls Tryz.prog 19 #[houseV id up room v f] w fun e w' => e = .returned (.bool (hoOk id room rs f)) ∧ Below w.heap.size w w' := by
  have HO : Hid (∀ o, Calls Tryz.prog 46 #[.int .i64 room, v] (w.alloc o) fun e w' => StOut (w.alloc o) w' e (oR room (Pl.sOf room rs)) (oH (Pl.sOf room rs)) (Pl.sOf room rs).isSome) := fun o =>
    l2Of_any room v rs (w.alloc o) (hv.later (alloc_below w o) (Nat.le_refl _)) hl
  have HL : Hid (∀ W, Below w.heap.size w W → Calls Tryz.prog 48 #[.agg #[v, .int .i64 f]] W fun e w' => e = .returned (.bool (logOk rs f)) ∧ Below W.heap.size W w') := fun W h =>
    specLogOk_any v rs f W (hv.later h (Nat.le_refl _)) hl
  obtain ⟨av, cv, rfl⟩ := hv.shape
  clear hv
  have HE : Hid (hoOk id room rs f = (Pl.inB id 1 3 && logOk rs f && (Pl.sOf room rs).isSome)) := rfl
  rw [HE.out]
  clear HE
  obtain ⟨RR, hRR⟩ : ∃ x, oR room (Pl.sOf room rs) = x := ⟨_, rfl⟩
  obtain ⟨HS, hHS⟩ : ∃ x, oH (Pl.sOf room rs) = x := ⟨_, rfl⟩
  obtain ⟨BB, hBB⟩ : ∃ x, (Pl.sOf room rs).isSome = x := ⟨_, rfl⟩
  obtain ⟨LL, hLL⟩ : ∃ x, logOk rs f = x := ⟨_, rfl⟩
  obtain ⟨II, hII⟩ : ∃ x, Pl.inB id 1 3 = x := ⟨_, rfl⟩
  rw [hRR, hHS, hBB] at HO
  rw [hLL] at HL
  have HI : Hid (∀ W, Calls Tryz.prog 47 #[.int .i64 id, .int .i64 1, .int .i64 3] W fun e w' => e = .returned (.bool II) ∧ w' = W) := fun W => by rw [← hII]; exact in_any id 1 3 W
  rw [hBB, hLL, hII]
  clear hRR hHS hBB hLL hII
  go_enter Tryz.func19, Tryz.ntmps19
  go_wp2_with fail
  refine (HO.out _).mono ?_
  rintro e w1 ⟨a1, c1, rfl, -, hb1⟩
  have F1 := hide_it ((Five.new w id up room (.slice av rs.length cv) f 34).later hb1 (by simp))
  obtain ⟨w2, hw2⟩ : ∃ W, Hid (W = w1.alloc (.cells #[.int .i64 RR, .slice a1 HS.length c1] 50)) := ⟨_, rfl⟩
  have al2 : Hid (Below w1.heap.size w1 w2) := by show Below _ _ _; rw [hw2.out]; exact alloc_below _ _
  have E2 := hide_it (hb1.trans (al2.out.mono hb1.size))
  have B2 := hide_it ((alloc_below w _).trans (E2.out.mono (by simp)))
  have hz : w.heap.size < w2.heap.size := by have := E2.out.size; simp at this; omega
  have hz1 : w.heap.size < w1.heap.size := F1.out.lt
  obtain ⟨x0, x1, x2, x3, x4⟩ := F1.out.cells
  have k0 := fun x => cellAlloc x0 x
  have k3 := fun x => cellAlloc x3 x
  have k4 := fun x => cellAlloc x4 x
  clear hb1 x0 x1 x2 x3 x4
  go_wp2_with fail
  rw [← hw2.out]
  obtain ⟨x0, x1, x2, x3, x4⟩ := ((Five.new w id up room (.slice av rs.length cv) f 34).later E2.out (by simp)).cells
  clear k0 k3 k4
  refine (HI.out _).mono ?_
  rintro e w3 ⟨rfl, rfl⟩
  cases II
  · go_wp2
    go_ret
    exact ⟨rfl, B2.out⟩
  · go_wp2_with fail
    refine (HL.out _ B2.out).mono ?_
    rintro e w4 ⟨rfl, hb4⟩
    have B4 := hide_it (B2.out.trans (hb4.mono B2.out.size))
    clear hb4
    cases LL
    · go_wp2
      go_ret
      exact ⟨rfl, B4.out⟩
    · go_wp2
      go_ret
      exact ⟨rfl, B4.out⟩

theorem houseId_any (id : Int) (w : World) : Calls Tryz.prog 55 #[.int .i64 id] w fun e w' => e = .returned (.bool (Pl.inB id 1 3)) ∧ w' = w := by
  by_cases h1 : 1 ≤ id
  · by_cases h2 : id ≤ 3
    all_goals
      go_enter Tryz.func55, Tryz.ntmps55
      go_wp2
      go_ret
      exact ⟨by simp [Pl.inB]; omega, rfl⟩
  · go_enter Tryz.func55, Tryz.ntmps55
    go_wp2
    go_ret
    exact ⟨by simp [Pl.inB]; omega, rfl⟩

set_option maxHeartbeats 2000000 in
theorem implHouseOk_any (id : Int) (up : Bool) (room : Int) (v : Value) (rs : List R) (f : Int) (a : Addr) (w : World) (hv : Recs w v rs) (hl : tot rs ≤ 1048576) (ha : ErrAt w a) :
    Calls Tryz.prog 25 #[houseV id up room v f] w fun e w' => e = .returned (.bool (hoOk id room rs f)) ∧ Below w.heap.size w w' := by
  have HO : Hid (∀ W, Below w.heap.size w W → Calls Tryz.prog 57 #[.int .i64 room, v] W fun e w' => StOut W w' e (oR room (Pl.sOf room rs)) (oH (Pl.sOf room rs)) (Pl.sOf room rs).isSome) := fun W h =>
    implOf_any room v rs a W (hv.later h (Nat.le_refl _)) hl (ha.later h (Nat.le_refl _))
  have HL : Hid (∀ W, Below w.heap.size w W → Calls Tryz.prog 56 #[.agg #[v, .int .i64 f]] W fun e w' => e = .returned (.bool (logOk rs f)) ∧ Below W.heap.size W w') := fun W h =>
    implLogOk_any v rs f a W (hv.later h (Nat.le_refl _)) hl (ha.later h (Nat.le_refl _))
  obtain ⟨av, cv, rfl⟩ := hv.shape
  clear hv ha
  have HE : Hid (hoOk id room rs f = (Pl.inB id 1 3 && logOk rs f && (Pl.sOf room rs).isSome)) := rfl
  rw [HE.out]
  clear HE
  obtain ⟨RR, hRR⟩ : ∃ x, oR room (Pl.sOf room rs) = x := ⟨_, rfl⟩
  obtain ⟨HS, hHS⟩ : ∃ x, oH (Pl.sOf room rs) = x := ⟨_, rfl⟩
  obtain ⟨BB, hBB⟩ : ∃ x, (Pl.sOf room rs).isSome = x := ⟨_, rfl⟩
  obtain ⟨LL, hLL⟩ : ∃ x, logOk rs f = x := ⟨_, rfl⟩
  obtain ⟨II, hII⟩ : ∃ x, Pl.inB id 1 3 = x := ⟨_, rfl⟩
  rw [hRR, hHS, hBB] at HO
  rw [hLL] at HL
  have HI : Hid (∀ W, Calls Tryz.prog 55 #[.int .i64 id] W fun e w' => e = .returned (.bool II) ∧ w' = W) := fun W => by rw [← hII]; exact houseId_any id W
  rw [hBB, hLL, hII]
  clear hRR hHS hBB hLL hII
  have B0 := fun o => hide_it (alloc_below w o)
  go_enter Tryz.func25, Tryz.ntmps25
  go_wp2_with fail
  refine (HI.out _).mono ?_
  rintro e w3 ⟨rfl, rfl⟩
  cases II
  · go_wp2
    go_ret
    exact ⟨rfl, alloc_below _ _⟩
  · go_wp2_with fail
    refine (HL.out _ (alloc_below _ _)).mono ?_
    rintro e w4 ⟨rfl, hb4⟩
    obtain ⟨x0, x1, x2, x3, x4⟩ := ((Five.new w id up room (.slice av rs.length cv) f 34).later hb4 (by simp)).cells
    have B4 := hide_it ((alloc_below w _).trans (hb4.mono (by simp)))
    clear hb4
    cases LL
    · go_wp2
      go_ret
      exact ⟨rfl, B4.out⟩
    · go_wp2_with fail
      refine (HO.out _ B4.out).mono ?_
      rintro e w5 ⟨a1, c1, rfl, -, hb5⟩
      have B5 := hide_it (B4.out.trans (hb5.mono B4.out.size))
      clear hb5
      go_wp2
      go_ret
      exact ⟨rfl, B5.out.alloc B5.out.size _⟩

end Go.Proofs.YthllcffmpeopcaaGreatDoor

namespace Go.Proofs.YthllcffmpeopcaaGreatDoor
open Go.RowKit

theorem frozenAlloc {w : World} {b o : Nat} (h : w.frozen? ⟨b, o, none⟩ = false) (hb : b < w.heap.size) (x : Obj) : (w.alloc x).frozen? ⟨b, o, none⟩ = false := by
  rw [← h]
  exact ((Below.refl w.heap.size w).alloc (Nat.le_refl _) x).frozen (p := ⟨b, o, none⟩) hb

end Go.Proofs.YthllcffmpeopcaaGreatDoor

namespace Go.Proofs.YthllcffmpeopcaaGreatDoor
open Go.RowKit

/-- How many are left behind a fall. -/
def fallN (n : Nat) (f keep : Int) : Nat := (if keep ≤ 0 then f else if keep < n - f then f + keep else n).toNat

theorem fallN_le {n : Nat} {f keep : Int} (h0 : 0 ≤ f) (h1 : f ≤ n) : fallN n f keep ≤ n := by
  unfold fallN; split
  · omega
  · split <;> omega

theorem fallN_lo {n F : Nat} {keep : Int} (h : keep ≤ 0) : fallN n F keep = F := by unfold fallN; rw [if_pos h]; simp
theorem fallN_mid {n F K : Nat} (h0 : ¬ (K : Int) ≤ 0) (h : (K : Int) ≤ n - F) : fallN n F K = F + K := by
  unfold fallN; rw [if_neg h0]
  by_cases e : (K : Int) < n - F
  · rw [if_pos e]; omega
  · rw [if_neg e]; omega
theorem fallN_all {n F K : Nat} (h0 : ¬ (K : Int) ≤ 0) (h : ¬ (K : Int) ≤ n - F) : fallN n F K = n := by unfold fallN; rw [if_neg h0, if_neg (by omega)]; simp

theorem flat_take (ps : List (R × Value)) (N : Nat) : flat (ps.take N) = (flat ps).take (N * 3) := by
  induction ps generalizing N with
  | nil => simp [flat]
  | cons p t ih =>
    cases N with
    | zero => simp [flat]
    | succ N =>
      rw [show (N + 1) * 3 = N * 3 + 3 by omega]
      simp [flat, ih]

theorem Made.take {w : World} {lo N : Nat} {ao : Option Addr} {cap : Nat} {rs : List R} (h : Made w lo (.slice ao rs.length cap) rs) (hN : N ≤ rs.length) : Made w lo (.slice ao N cap) (rs.take N) := by
  obtain ⟨ps, hp, h1, h2, h3⟩ := h
  have hpl : ps.length = rs.length := by have := congrArg List.length hp; simpa using this
  refine ⟨ps.take N, by rw [List.map_take, hp], ?_, ?_, h3.1, fun p hp => h3.2.1 p (List.mem_of_mem_take hp), fun i j p q hi hj hij => ?_⟩
  · have hl : (ps.take N).length = N := by rw [List.length_take]; omega
    rw [hl, flat_take]
    refine ⟨by rw [List.length_take, h1.1]; rw [hpl]; omega, ?_⟩
    rcases h1.2 with ⟨hv, hn⟩ | ⟨g, cp, cur, hv, hg, hh, hnc, hcm, hcs, htk⟩
    · simp only [Value.slice.injEq] at hv
      obtain ⟨e1, e2, e3⟩ := hv
      exact Or.inl ⟨by rw [e1, e3, show N = 0 by omega], by omega⟩
    · simp only [Value.slice.injEq] at hv
      obtain ⟨e1, e2, e3⟩ := hv
      refine Or.inr ⟨g, cp, cur, by rw [e1, e3], hg, hh, by omega, hcm, hcs, ?_⟩
      rw [← htk, List.take_take, Nat.min_eq_left (by rw [hpl]; omega)]
  · intro k hk
    refine h2 k ?_
    cases ao with
    | none => cases hk
    | some a => exact hk
  · have hi' : i < N ∧ ps[i]? = some p := by
      rw [List.getElem?_take] at hi
      split at hi
      · exact ⟨by assumption, hi⟩
      · cases hi
    have hj' : j < N ∧ ps[j]? = some q := by
      rw [List.getElem?_take] at hj
      split at hj
      · exact ⟨by assumption, hj⟩
      · cases hj
    exact h3.2.2 i j p q hi'.2 hj'.2 hij

theorem Recs.take {w : World} {N cap : Nat} {ao : Option Addr} {rs : List R} (h : Recs w (.slice ao rs.length cap) rs) (hN : N ≤ rs.length) : Recs w (.slice ao N cap) (rs.take N) := by
  have hl : (rs.take N).length = N := by rw [List.length_take]; omega
  by_cases h0 : N = 0
  · subst h0
    exact Or.inl ⟨by simp, ao, cap, rfl⟩
  rcases h with ⟨hz, _⟩ | ⟨b, off, cp, hv, hz, hc⟩
  · rw [hz] at hN; simp at hN; omega
  · simp only [Value.slice.injEq] at hv
    obtain ⟨e1, _, e3⟩ := hv
    refine Or.inr ⟨b, off, cp, by rw [hl, e1, e3], by intro e; rw [e] at hl; simp at hl; omega, fun i r hr => ?_⟩
    rw [List.getElem?_take] at hr
    split at hr
    · exact hc i r hr
    · cases hr

theorem pre_take (rs : List R) (N : Nat) (hN : N ≤ rs.length) : tot (rs.take N) ≤ tot rs := by
  have h1 := pre_le rs N
  have h2 : pre (rs.take N) (rs.take N).length = pre rs N := by unfold pre; rw [List.take_length]
  unfold tot
  rw [h2, List.length_take]; omega

/-- What a fall leaves. -/
def fallR (rs : List R) (f keep : Int) : List R := if logOk rs f then rs.take (fallN rs.length f keep) else []
def fallF (rs : List R) (f keep : Int) : Int := if logOk rs f then fallN rs.length f keep else 0

theorem logOk_f {rs : List R} {f : Int} (h : logOk rs f = true) : 0 ≤ f ∧ f ≤ rs.length ∧ rs.length ≤ 40 := by
  unfold logOk at h
  simp only [Bool.and_eq_true, decide_eq_true_eq] at h
  have := Pl.inB_true h.2.2
  omega

end Go.Proofs.YthllcffmpeopcaaGreatDoor

namespace Go.Proofs.YthllcffmpeopcaaGreatDoor
open Go.RowKit

theorem Made.form {w : World} {lo cap : Nat} {ao : Option Addr} {rs : List R} (h : Made w lo (.slice ao rs.length cap) rs) : (ao = Option.none ∧ rs = [] ∧ cap = 0) ∨ ∃ g, ao = some ⟨g, 0, Option.none⟩ ∧ rs.length ≤ cap := by
  obtain ⟨ps, hp, h1, _, _⟩ := h
  have hpl : ps.length = rs.length := by have := congrArg List.length hp; simpa using this
  rcases h1.2 with ⟨hv, hn⟩ | ⟨g, cp, cur, hv, hg, hh, hnc, _⟩
  · simp only [Value.slice.injEq] at hv
    exact Or.inl ⟨hv.1, List.length_eq_zero_iff.1 hv.2.1, hv.2.2⟩
  · simp only [Value.slice.injEq] at hv
    exact Or.inr ⟨g, hv.1, by omega⟩

end Go.Proofs.YthllcffmpeopcaaGreatDoor

namespace Go.Proofs.YthllcffmpeopcaaGreatDoor
open Go.RowKit

/-- The slice of a list that the call itself has made, or nil. -/
def Form (v : Value) (n : Nat) : Prop := (v = .slice none 0 0 ∧ n = 0) ∨ ∃ g cap, v = .slice (some ⟨g, 0, none⟩) n cap ∧ n ≤ cap
theorem form_of_row {w : World} {base : Nat} {e : TypeId} {size : Nat} {v : Value} {n : Nat} {xs : List Value} (h : w.ownsRow base e size v n xs) : Form v n := by
  rcases h.2 with h | ⟨g, cap, cur, hv, _, _, hc, _⟩
  · exact Or.inl h
  · exact Or.inr ⟨g, cap, hv, hc⟩

end Go.Proofs.YthllcffmpeopcaaGreatDoor

namespace Go.Proofs.YthllcffmpeopcaaGreatDoor
open Go.RowKit

end Go.Proofs.YthllcffmpeopcaaGreatDoor

namespace Go.Proofs.YthllcffmpeopcaaGreatDoor
open Go.RowKit

/-- A house as plain data: its number, whether it is up, how many it has, its records, how many of them are forced. -/
abbrev Ho := Int × Bool × Int × List R × Int
def hoZ : Ho := (0, false, 0, [], 0)
def hoForce (id : Int) (up : Bool) (room : Int) (rs : List R) (f : Int) : Ho := if hoOk id room rs f = true then (id, up, room, rs, if up = true then rs.length else f) else hoZ
def hoFall (id room : Int) (rs : List R) (f keep : Int) : Ho := if hoOk id room rs f = true then (id, false, room, rs.take (fallN rs.length f keep), fallN rs.length f keep) else hoZ
def hoRise (id room : Int) (rs : List R) (f : Int) : Ho := if hoOk id room rs f = true then (id, true, room, rs, f) else hoZ
def HoO (w w' : World) (e : Ending) (o : Ho) : Prop := HoOut w w' e o.1 o.2.1 o.2.2.1 o.2.2.2.1 o.2.2.2.2
theorem HoO.none_ {w w' : World} (h : Below w.heap.size w w') : HoO w w' (.returned (houseV 0 false 0 (.slice none 0 0) 0)) hoZ := ⟨none, 0, rfl, Made.none _ _, h⟩
theorem hoForce_tot (id : Int) (up : Bool) (room : Int) (rs : List R) (f : Int) (hl : tot rs ≤ 1048576) : tot (hoForce id up room rs f).2.2.2.1 ≤ 1048576 := by
  unfold hoForce; split
  · exact hl
  · simp [hoZ, tot, pre]
theorem hoRise_tot (id room : Int) (rs : List R) (f : Int) (hl : tot rs ≤ 1048576) : tot (hoRise id room rs f).2.2.2.1 ≤ 1048576 := by
  unfold hoRise; split
  · exact hl
  · simp [hoZ, tot, pre]
theorem hoFall_tot (id room : Int) (rs : List R) (f keep : Int) (hl : tot rs ≤ 1048576) : tot (hoFall id room rs f keep).2.2.2.1 ≤ 1048576 := by
  unfold hoFall; split
  · obtain ⟨h0, h1, _⟩ := logOk_f (hoOk_parts (by assumption)).2.1
    exact Nat.le_trans (pre_take rs _ (fallN_le h0 h1)) hl
  · simp [hoZ, tot, pre]
theorem Made.setTwo {w : World} {lo b : Nat} {v : Value} {rs : List R} (h : Made w lo v rs) (hb : b < lo) (x y : Value) (i j : Nat) : Made ((w.setCell ⟨b, i, Option.none⟩ x).setCell ⟨b, j, Option.none⟩ y) lo v rs :=
  (h.setBelow (by simpa using hb) _).setBelow (by simpa using hb) _
/-- A store into a block that holds a house leaves records that the call made. -/
theorem Made.setHouse {w : World} {lo b j : Nat} {v : Value} {rs : List R} {cur : Array Value} (h : Made w lo v rs) (hh : Blk w b cur 34) (x : Value) : Made (w.setCell ⟨b, j, Option.none⟩ x) lo v rs := by
  obtain ⟨ps, hp, h1, h2, h3⟩ := h
  have hs : (w.setCell ⟨b, j, Option.none⟩ x).heap.size = w.heap.size := by simp
  have ap : ∀ {e : TypeId} {sz n : Nat} {y : Value} {xs : List Value}, w.ownsRow lo e sz y n xs → e ≠ 34 → ∀ g, y.ownBlock = some g → g ≠ b := fun hr he g hg => by
    rcases hr.2 with ⟨hv, _⟩ | ⟨g', cap, cur', hv, _, hc, _⟩
    · rw [hv] at hg; simp [Value.ownBlock] at hg
    · rw [hv] at hg
      simp [Value.ownBlock] at hg
      subst hg
      intro e2
      subst e2
      unfold Blk at hh
      rw [hh] at hc
      simp at hc
      exact he hc.2.symm
  refine ⟨ps, hp, ownsRow_setCell_ne h1 (ap h1 (by decide)) x, by rw [hs]; exact h2, ?_⟩
  rw [hs]
  exact ⟨by rw [hs]; exact h3.1, fun p hp => ⟨ownsRow_setCell_ne (h3.2.1 p hp).1 (ap (h3.2.1 p hp).1 (by decide)) x, (h3.2.1 p hp).2⟩, h3.2.2⟩

set_option maxHeartbeats 4000000 in
theorem implHForce_any (id : Int) (up : Bool) (room : Int) (v : Value) (rs : List R) (f : Int) (a : Addr) (w : World) (hv : Recs w v rs) (hl : tot rs ≤ 1048576) (ha : ErrAt w a) :
    Calls Tryz.prog 22 #[houseV id up room v f] w fun e w' => HoO w w' e (hoForce id up room rs f) := by
  have hrl := tot_len rs
  have HV : Hid (∀ W, Below w.heap.size w W → Recs W v rs) := fun W h => hv.later h (Nat.le_refl _)
  have HA : Hid (∀ W, Below w.heap.size w W → ErrAt W a) := fun W h => ha.later h (Nat.le_refl _)
  have HOK : Hid (∀ W, Below w.heap.size w W → Calls Tryz.prog 25 #[houseV id up room v f] W fun e w' => e = .returned (.bool (hoOk id room rs f)) ∧ Below W.heap.size W w') := fun W h =>
    implHouseOk_any id up room v rs f a W (HV.out W h) hl (HA.out W h)
  obtain ⟨av, cv, rfl⟩ := hv.shape
  clear hv ha
  obtain ⟨w0, hw0⟩ : ∃ W, Hid (W = (w.alloc (.cells #[.int .i64 id, .bool up, .int .i64 room, .slice av rs.length cv, .int .i64 f] 34)).alloc (.cells #[.int .i64 0, .bool false, .int .i64 0, .slice none 0 0, .int .i64 0] 34)) := ⟨_, rfl⟩
  have B0 : Hid (Below w.heap.size w w0) := by show Below _ _ _; rw [hw0.out]; exact below2 _ _ _
  have X0 : Hid (Blk w0 w.heap.size #[.int .i64 id, .bool up, .int .i64 room, .slice av rs.length cv, .int .i64 f] 34) := by show Blk _ _ _ _; rw [hw0.out]; exact (Blk.new _ _ _).alloc _
  have Z0 : Hid (Blk w0 (w.heap.size + 1) #[.int .i64 0, .bool false, .int .i64 0, .slice none 0 0, .int .i64 0] 34) := by show Blk _ _ _ _; rw [hw0.out]; exact Blk.new2 _ _ _ _
  have hs0 : w0.heap.size = w.heap.size + 2 := by rw [hw0.out, size2]
  cases hok : hoOk id room rs f
  · have HR : Hid (hoForce id up room rs f = hoZ) := by show _ = _; simp [hoForce, hok]
    rw [hok] at HOK
    rw [HR.out]
    clear hok
    go_enter Tryz.func22, Tryz.ntmps22
    go_wp2_with fail
    rw [← hw0.out]
    refine (HOK.out _ B0.out).mono ?_
    rintro e w1 ⟨rfl, hb⟩
    obtain ⟨z0, z1, z2, z3, z4⟩ := (Z0.out.after hb).cells5
    obtain ⟨zf0, zf1, zf2, zf3, zf4⟩ := (Z0.out.after hb).free5
    have HB := hide_it (B0.out.trans (hb.mono B0.out.size))
    clear hb
    go_wp2
    refine bodyPost_ret (v := houseV 0 false 0 (.slice none 0 0) 0) (by simp [results, Tryz.results22, go_sem, *]) rfl (HoO.none_ ?_)
    repeat (refine Below.setCell ?_ (by first | (simp; done) | (simp; omega)) _)
    exact HB.out
  · have HR : Hid (hoForce id up room rs f = (id, up, room, rs, if up = true then (rs.length : Int) else f)) := by show _ = _; simp [hoForce, hok]
    have hlok := (hoOk_parts hok).2.1
    have LF : Hid (∀ W, Below w.heap.size w W → Calls Tryz.prog 53 #[.agg #[.slice av rs.length cv, .int .i64 f]] W fun e w' => LogOut W w' e rs rs.length) := fun W h => by
      have := implForce_any _ rs f a W (HV.out _ h) hl (HA.out _ h)
      rw [show forceR rs f = rs by simp [forceR, hlok], show forceF rs f = rs.length by simp [forceF, hlok]] at this
      exact this
    rw [hok] at HOK
    rw [HR.out]
    clear HR
    go_enter Tryz.func22, Tryz.ntmps22
    go_wp2_with fail
    rw [← hw0.out]
    refine (HOK.out _ B0.out).mono ?_
    rintro e w1 ⟨rfl, hb1⟩
    have X1 := hide_it (X0.out.after hb1)
    have Z1 := hide_it (Z0.out.after hb1)
    have B1 := hide_it (B0.out.trans (hb1.mono B0.out.size))
    have hs1 : w.heap.size + 2 ≤ w1.heap.size := by have := hb1.size; omega
    obtain ⟨x0, x1, x2, x3, x4⟩ := X1.out.cells5
    clear hb1
    go_wp2_with fail
    refine (keeperOf_any id up room av rs.length cv f w1).mono ?_
    rintro e w2 ⟨rfl, hb2⟩
    have Z2 := hide_it (Z1.out.after hb2)
    have B2 := hide_it (B1.out.trans (hb2.mono B1.out.size))
    have hs2 : w.heap.size + 2 ≤ w2.heap.size := by have := hb2.size; omega
    clear hb2 x0 x1 x2 x3 x4
    cases up
    · obtain ⟨w3, hw3⟩ : ∃ W, Hid (W = w2.alloc (.cells #[.slice av rs.length cv, .int .i64 f, .int .i64 id, .bool false, .int .i64 room] 66)) := ⟨_, rfl⟩
      have al3 : Hid (Below w2.heap.size w2 w3) := by show Below _ _ _; rw [hw3.out]; exact alloc_below _ _
      have hs3 : w3.heap.size = w2.heap.size + 1 := by rw [hw3.out]; simp
      have Z3 := hide_it (Z2.out.after al3.out)
      have B3 := hide_it (B2.out.trans (al3.out.mono B2.out.size))
      go_wp2_with fail
      rw [← hw3.out]
      refine (keeperHouse_any id false room _ rs f w3 (HV.out _ B3.out) hl).mono ?_
      rintro e w4 ⟨ao, cap, rfl, hm, hb⟩
      obtain ⟨z0, z1, z2, z3, z4⟩ := (Z3.out.after hb).cells5
      obtain ⟨zf0, zf1, zf2, zf3, zf4⟩ := (Z3.out.after hb).free5
      have HM := hide_it hm
      have HB := hide_it (B3.out.trans (hb.mono B3.out.size))
      clear hm hb
      go_wp2
      refine bodyPost_ret (v := houseV id false room (.slice ao rs.length cap) f) (by simp [results, Tryz.results22, go_sem, *]) rfl ?_
      refine ⟨ao, cap, rfl, ?_, ?_⟩
      · refine Made.lo ?_ (show w.heap.size ≤ w3.heap.size by omega)
        repeat (refine Made.setBelow ?_ (by first | (simp; done) | (simp; omega)) _)
        exact HM.out
      · repeat (refine Below.setCell ?_ (by first | (simp; done) | (simp; omega)) _)
        exact HB.out
    · obtain ⟨w3, hw3⟩ : ∃ W, Hid (W = w2.alloc (.cells #[.slice av rs.length cv, .int .i64 f, .int .i64 id, .bool true, .int .i64 room] 66)) := ⟨_, rfl⟩
      have al3 : Hid (Below w2.heap.size w2 w3) := by show Below _ _ _; rw [hw3.out]; exact alloc_below _ _
      have hs3 : w3.heap.size = w2.heap.size + 1 := by rw [hw3.out]; simp
      have Z3 := hide_it (Z2.out.after al3.out)
      have B3 := hide_it (B2.out.trans (al3.out.mono B2.out.size))
      have K3 : Hid (Blk w3 w2.heap.size #[.slice av rs.length cv, .int .i64 f, .int .i64 id, .bool true, .int .i64 room] 66) := by show Blk _ _ _ _; rw [hw3.out]; exact Blk.new _ _ _
      go_wp2_with fail
      rw [← hw3.out]
      refine (LF.out _ B3.out).mono ?_
      rintro e w4 ⟨a4, c4, rfl, hm4, hb4⟩
      have Z4 := hide_it (Z3.out.after hb4)
      have K4 := hide_it (K3.out.after hb4)
      have B4 := hide_it (B3.out.trans (hb4.mono B3.out.size))
      have hs4 : w3.heap.size ≤ w4.heap.size := hb4.size
      have M4 := hide_it (hm4.setTwo (show w2.heap.size < w3.heap.size by omega) (.slice a4 rs.length c4) (.int .i64 rs.length) 0 1)
      obtain ⟨y0, y1, y2, y3, y4⟩ := K4.out.cells5
      obtain ⟨yf0, yf1, yf2, yf3, yf4⟩ := K4.out.free5
      clear hm4 hb4
      obtain ⟨w5, hw5⟩ : ∃ W, Hid (W = (w4.setCell ⟨w2.heap.size, 0, none⟩ (.slice a4 rs.length c4)).setCell ⟨w2.heap.size, 1, none⟩ (.int .i64 rs.length)) := ⟨_, rfl⟩
      rw [← hw5.out] at M4
      have B5 : Hid (Below w.heap.size w w5) := by show Below _ _ _; rw [hw5.out]; exact (B4.out.setCell (by simp; omega) _).setCell (by simp; omega) _
      have Z5 : Hid (Blk w5 (w.heap.size + 1) #[.int .i64 0, .bool false, .int .i64 0, .slice none 0 0, .int .i64 0] 34) := by show Blk _ _ _ _; rw [hw5.out]; exact (Z4.out.other (by simp; omega) _).other (by simp; omega) _
      have hs5 : w5.heap.size = w4.heap.size := by rw [hw5.out]; simp
      go_wp2_with fail
      rw [← hw5.out]
      refine (keeperHouse_any id true room _ rs rs.length w5 M4.out.recs hl).mono ?_
      rintro e w6 ⟨ao, cap, rfl, hm, hb⟩
      obtain ⟨z0, z1, z2, z3, z4⟩ := (Z5.out.after hb).cells5
      obtain ⟨zf0, zf1, zf2, zf3, zf4⟩ := (Z5.out.after hb).free5
      have HM := hide_it hm
      have HB := hide_it (B5.out.trans (hb.mono B5.out.size))
      clear hm hb y0 y1 y2 y3 y4 yf0 yf1 yf2 yf3 yf4
      go_wp2
      refine bodyPost_ret (v := houseV id true room (.slice ao rs.length cap) rs.length) (by simp [results, Tryz.results22, go_sem, *]) rfl ?_
      refine ⟨ao, cap, rfl, ?_, ?_⟩
      · refine Made.lo ?_ (show w.heap.size ≤ w5.heap.size by omega)
        repeat (refine Made.setBelow ?_ (by first | (simp; done) | (simp; omega)) _)
        exact HM.out
      · repeat (refine Below.setCell ?_ (by first | (simp; done) | (simp; omega)) _)
        exact HB.out

end Go.Proofs.YthllcffmpeopcaaGreatDoor

namespace Go.Proofs.YthllcffmpeopcaaGreatDoor
open Go.RowKit

/-- A stock comes back, in memory of the call's own. -/
def SkOut (W w' : World) (e : Ending) (RR : Int) (HS : List Pl.H) : Prop :=
  ∃ ao cap, e = .returned (.agg #[.int .i64 RR, .slice ao HS.length cap]) ∧ w'.ownsRow W.heap.size 54 2 (.slice ao HS.length cap) HS.length (hflat HS) ∧ Below W.heap.size W w'
theorem SkOut.none_ {W w' : World} (h : Below W.heap.size W w') : SkOut W w' (.returned (.agg #[.int .i64 0, .slice none 0 0])) 0 [] := ⟨none, 0, rfl, World.ownsRow_nil _ _ _ _, h⟩

/-- The records that count; what HouseStock answers by. -/
def cutR (rs : List R) (f : Int) (forced : Bool) : List R := if forced = true then rs.take f.toNat else rs
def hsO (id room : Int) (rs : List R) (f : Int) (forced : Bool) : Option (List Pl.H) := if hoOk id room rs f = true then Pl.sOf room (cutR rs f forced) else none
theorem cutR_tot (rs : List R) (f : Int) (forced : Bool) : tot (cutR rs f forced) ≤ tot rs := by
  unfold cutR; split
  · by_cases h : f.toNat ≤ rs.length
    · exact pre_take rs _ h
    · rw [List.take_of_length_le (by omega)]; exact Nat.le_refl _
  · exact Nat.le_refl _
theorem cutR_len {rs : List R} {f : Int} (h0 : 0 ≤ f) (h1 : f ≤ rs.length) : ((rs.take f.toNat).length : Int) = f := by simp; omega

/-- The first ones of a list that lies in memory. -/
theorem Recs.cut {w : World} {N cap : Nat} {ao : Option Addr} {rs : List R} (h : Recs w (.slice ao rs.length cap) rs) (hN : N ≤ rs.length) : Recs w (.slice ao N cap) (rs.take N) := h.take hN

theorem row_set {w : World} {base b : Nat} {v : Value} {n : Nat} {xs : List Value} {cur : Array Value} {ty : TypeId} (h : w.ownsRow base 54 2 v n xs) (hb : Blk w b cur ty) (ht : ty ≠ 54) (j : Nat) (x : Value) : (w.setCell ⟨b, j, none⟩ x).ownsRow base 54 2 v n xs := by
  refine ownsRow_setCell_ne h (fun g hg e => ?_) x
  subst e
  rcases h.2 with ⟨hv, _⟩ | ⟨g', cap, cur', hv, _, hc, _⟩
  · rw [hv] at hg; simp [Value.ownBlock] at hg
  · rw [hv] at hg
    simp [Value.ownBlock] at hg
    subst hg
    unfold Blk at hb
    rw [hb] at hc
    simp at hc
    exact ht hc.2
theorem row_low {w : World} {base lo : Nat} {v : Value} {n : Nat} {xs : List Value} (h : w.ownsRow base 54 2 v n xs) (hl : lo ≤ base) : w.ownsRow lo 54 2 v n xs := ownsRow_base h hl

set_option maxHeartbeats 2000000 in
theorem allStock_any (id : Int) (up : Bool) (room : Int) (v : Value) (rs : List R) (f : Int) (a : Addr) (w : World) (hv : Recs w v rs) (hl : tot rs ≤ 1048576) (ha : ErrAt w a) :
    Calls Tryz.prog 35 #[keeperV v f id up room] w fun e w' => SkOut w w' e (oR room (Pl.sOf room rs)) (oH (Pl.sOf room rs)) := by
  obtain ⟨RR, hRR⟩ : ∃ x, Hid (oR room (Pl.sOf room rs) = x) := ⟨_, rfl⟩
  obtain ⟨HS, hHS⟩ : ∃ x, Hid (oH (Pl.sOf room rs) = x) := ⟨_, rfl⟩
  obtain ⟨BB, hBB⟩ : ∃ x, Hid ((Pl.sOf room rs).isSome = x) := ⟨_, rfl⟩
  have HO : Hid (∀ W, Below w.heap.size w W → Calls Tryz.prog 57 #[.int .i64 room, v] W fun e w' => StOut W w' e RR HS BB) := fun W h => by
    have := implOf_any room v rs a W (hv.later h (Nat.le_refl _)) hl (ha.later h (Nat.le_refl _))
    rw [hRR.out, hHS.out, hBB.out] at this; exact this
  rw [hRR.out, hHS.out]
  obtain ⟨av, cv, rfl⟩ := hv.shape
  clear hv ha
  obtain ⟨w0, hw0⟩ : ∃ W, Hid (W = (w.alloc (.cells #[.slice av rs.length cv, .int .i64 f, .int .i64 id, .bool up, .int .i64 room] 66)).alloc (.cells #[.int .i64 0, .slice none 0 0] 50)) := ⟨_, rfl⟩
  have B0 : Hid (Below w.heap.size w w0) := by show Below _ _ _; rw [hw0.out]; exact below2 _ _ _
  have Z0 : Hid (Blk w0 (w.heap.size + 1) #[.int .i64 0, .slice none 0 0] 50) := by show Blk _ _ _ _; rw [hw0.out]; exact Blk.new2 _ _ _ _
  have hs0 : w0.heap.size = w.heap.size + 2 := by rw [hw0.out, size2]
  go_enter Tryz.func35, Tryz.ntmps35
  go_wp2_with fail
  rw [← hw0.out]
  refine (HO.out _ B0.out).mono ?_
  rintro e w1 ⟨a1, c1, rfl, ho1, hb1⟩
  have Z1 := hide_it (Z0.out.after hb1)
  have O1 := hide_it ho1
  have B1 := hide_it (B0.out.trans (hb1.mono B0.out.size))
  have hs1 : w.heap.size + 2 ≤ w1.heap.size := by have := hb1.size; omega
  obtain ⟨z0, z1⟩ := Z1.out.cells2
  obtain ⟨zf0, zf1, -, -, -⟩ := Z1.out.free5
  have k0 := fun x => cellAlloc z0 x
  have k1 := fun x => cellAlloc z1 x
  have q0 := fun x => frozenAlloc zf0 (by omega) x
  have q1 := fun x => frozenAlloc zf1 (by omega) x
  clear ho1 hb1
  go_wp2
  refine bodyPost_ret (v := .agg #[.int .i64 RR, .slice a1 HS.length c1]) (by simp [results, Tryz.results35, go_sem, *]) rfl ?_
  refine ⟨a1, c1, rfl, ?_, ?_⟩
  · refine row_low (row_set (row_set (ownsRow_below O1.out (alloc_below _ _) (fun k hk => (O1.out.lt k hk).2)) (Z1.out.alloc _) (by decide) _ _) ((Z1.out.alloc _).set_ 0 _) (by decide) _ _) (by omega)
  · exact ((B1.out.alloc (by omega) _).setCell (by simp) _).setCell (by simp) _

theorem b_drew {w0 w1 : World} (h : Below w0.drew.heap.size w0.drew w1) : Below w0.heap.size w0 w1 := (Below.refl w0.heap.size w0).drew.trans h
theorem b_alloc_drew {w0 w1 : World} {o : Obj} (h : Below (w0.alloc o).drew.heap.size (w0.alloc o).drew w1) : Below w0.heap.size w0 w1 := ((alloc_below w0 o).drew).trans (h.mono (by simp))
theorem z_alloc_drew {w0 w1 : World} {cs : Array Value} {ty : TypeId} (h : Below (w0.alloc (.cells cs ty)).drew.heap.size (w0.alloc (.cells cs ty)).drew w1) : Blk w1 w0.heap.size cs ty := by
  have h0 : Blk (w0.alloc (.cells cs ty)).drew w0.heap.size cs ty := (Blk.new w0 cs ty).after (Below.refl _ _).drew
  exact h0.after h
theorem o_alloc_drew {w0 w1 : World} {o : Obj} {e : TypeId} {sz n : Nat} {v : Value} {xs : List Value} (h : w1.ownsRow (w0.alloc o).drew.heap.size e sz v n xs) : w1.ownsRow w0.heap.size e sz v n xs := ownsRow_base h (by simp)
theorem o_drew {w0 w1 : World} {e : TypeId} {sz n : Nat} {v : Value} {xs : List Value} (h : w1.ownsRow w0.drew.heap.size e sz v n xs) : w1.ownsRow w0.heap.size e sz v n xs := ownsRow_base h (by simp)

end Go.Proofs.YthllcffmpeopcaaGreatDoor

namespace Go.Proofs.YthllcffmpeopcaaGreatDoor
open Go.RowKit

/-- What lies behind the region: the stock's block, its holds, the result's block. -/
def StkMet (w0 W : World) (B b : Nat) (RR : Int) (v : Value) (HS : List Pl.H) : Prop :=
  Below w0.heap.size w0 W ∧ Blk W b #[.int .i64 RR, v] 50 ∧ Blk W B #[.int .i64 0, .slice none 0 0] 50 ∧ W.ownsRow w0.heap.size 54 2 v HS.length (hflat HS)
theorem ks2 (w : World) (b2 : Nat) (x y : Value) {b o : Nat} (h : b ≠ b2) : ((w.setCell ⟨b2, 0, none⟩ x).setCell ⟨b2, 1, none⟩ y).cell? ⟨b, o, none⟩ = w.cell? ⟨b, o, none⟩ := by
  rw [World.cell?_of_block (w := w.setCell ⟨b2, 0, none⟩ x) (a := ⟨b, o, none⟩) (Below.heap_setCell _ _ _ _ h), World.cell?_of_block (w := w) (a := ⟨b, o, none⟩) (Below.heap_setCell _ _ _ _ h)]
theorem stkMet_new {w0 w1 : World} {B : Nat} {RR : Int} {v : Value} {HS : List Pl.H} (hb : Below w0.heap.size w0 w1) (hZ : Blk w1 B #[.int .i64 0, .slice none 0 0] 50) (ho : w1.ownsRow w0.heap.size 54 2 v HS.length (hflat HS)) :
    StkMet w0 (w1.alloc (.cells #[.int .i64 RR, v] 50)) B w1.heap.size RR v HS :=
  ⟨hb.alloc hb.size _, Blk.new _ _ _, hZ.alloc _, ownsRow_below ho (alloc_below _ _) (fun k hk => (ho.lt k hk).2)⟩
theorem stkMet_set {w0 w1 : World} {B b : Nat} {RR : Int} {v : Value} {HS : List Pl.H} (hb : Below w0.heap.size w0 w1) (hz : w0.heap.size ≤ b) (hB : B < w0.heap.size) (hY : Blk w1 b #[.int .i64 0, .slice none 0 0] 50) (hZ : Blk w1 B #[.int .i64 0, .slice none 0 0] 50) (ho : w1.ownsRow w0.heap.size 54 2 v HS.length (hflat HS)) :
    StkMet w0 ((w1.setCell ⟨b, 0, none⟩ (.int .i64 RR)).setCell ⟨b, 1, none⟩ v) B b RR v HS :=
  ⟨(hb.setCell hz _).setCell hz _, (hY.set_ 0 _).set_ 1 _, (hZ.other (by simp; omega) _).other (by simp; omega) _, row_set (row_set ho hY (by decide) _ _) (hY.set_ 0 _) (by decide) _ _⟩

set_option maxHeartbeats 4000000 in
theorem forcedStock_nil (id : Int) (up : Bool) (room : Int) (RR : Int) (HS : List Pl.H) (BB : Bool) (w : World) 
    (HO : Hid (∀ W, Below w.heap.size w W → Calls Tryz.prog 57 #[.int .i64 room, .slice none 0 0] W fun e w' => StOut W w' e RR HS BB)) :
    Calls Tryz.prog 49 #[keeperV (.slice none 0 0) 0 id up room] w fun e w' => SkOut w w' e RR HS := by
  obtain ⟨w0, hw0⟩ : ∃ W, Hid (W = (w.alloc (.cells #[.slice none 0 0, .int .i64 0, .int .i64 id, .bool up, .int .i64 room] 66)).alloc (.cells #[.int .i64 0, .slice none 0 0] 50)) := ⟨_, rfl⟩
  have B0 : Hid (Below w.heap.size w w0) := by show Below _ _ _; rw [hw0.out]; exact below2 _ _ _
  have X0 : Hid (Blk w0 w.heap.size #[.slice none 0 0, .int .i64 0, .int .i64 id, .bool up, .int .i64 room] 66) := by show Blk _ _ _ _; rw [hw0.out]; exact (Blk.new _ _ _).alloc _
  have Z0 : Hid (Blk w0 (w.heap.size + 1) #[.int .i64 0, .slice none 0 0] 50) := by show Blk _ _ _ _; rw [hw0.out]; exact Blk.new2 _ _ _ _
  have hs0 : Hid (w0.heap.size = w.heap.size + 2) := by show _ = _; rw [hw0.out, size2]
  have hs1 : w.heap.size + 1 < w0.heap.size := by have := hs0.out; omega
  obtain ⟨x0, x1, x2, x3, x4⟩ := X0.out.cells5
  go_enter Tryz.func49, Tryz.ntmps49
  go_wp2_with fail
  rw [← hw0.out]
  go_cut [3] (fun p W => ∃ b a5 cap5, p = .pointer (some ⟨b, 0, none⟩) ∧ Hid (StkMet w0 W (w.heap.size + 1) b RR (.slice a5 HS.length cap5) HS))
  case first =>
    go_region_held (fun w' => w'.cell? ⟨w.heap.size, 0, none⟩ = some (.slice none 0 0) ∧ w'.cell? ⟨w.heap.size, 1, none⟩ = some (.int .i64 0) ∧ w'.cell? ⟨w.heap.size, 4, none⟩ = some (.int .i64 room)) (first | (go_keep; done) | (refine ⟨(ks2 _ _ _ _ ?_).trans ?_, (ks2 _ _ _ _ ?_).trans ?_, (ks2 _ _ _ _ ?_).trans ?_⟩ <;> first | omega | assumption))
      ((go_at_call 57; refine (HO.out _ ?_).mono ?_; (first | (with_reducible exact B0.out.drew) | exact (B0.out.alloc B0.out.size _).drew); rintro e w1 ⟨a5, cap5, rfl, ho5, hb5⟩; have N5 : Hid (Below w0.heap.size w0 w1) := (by first | (with_reducible exact hide_it (b_drew hb5)) | (with_reducible exact hide_it (b_alloc_drew hb5))); (try (with_reducible have Y5 := hide_it (z_alloc_drew hb5))); have O5 : Hid (w1.ownsRow w0.heap.size 54 2 (.slice a5 HS.length cap5) HS.length (hflat HS)) := (by first | (with_reducible exact hide_it (o_drew ho5)) | (with_reducible exact hide_it (o_alloc_drew ho5))); have Z5 := hide_it (Z0.out.after N5.out); have hs5 := N5.out.size; obtain ⟨y0, y1, y2, y3, y4⟩ := (X0.out.after N5.out).cells5; (try obtain ⟨u0, u1⟩ := Y5.out.cells2); (try obtain ⟨uf0, uf1, -, -, -⟩ := Y5.out.free5); clear ho5 hb5))
    all_goals
      go_wp2_with fail
      go_meet
      case rel => first | exact ⟨_, a5, cap5, rfl, hide_it (stkMet_new N5.out Z5.out O5.out)⟩ | exact ⟨_, a5, cap5, rfl, hide_it (stkMet_set N5.out (by omega) (by omega) Y5.out Z5.out O5.out)⟩
  case rest =>
    obtain ⟨b, a5, cap5, rfl, HMET⟩ := hcut
    have EW := hide_it HMET.out.1
    have YW := hide_it HMET.out.2.1
    have ZW := hide_it HMET.out.2.2.1
    have OW := hide_it HMET.out.2.2.2
    clear HMET x0 x1 x2 x3 x4
    obtain ⟨u0, u1⟩ := YW.out.cells2
    obtain ⟨z0, z1⟩ := ZW.out.cells2
    obtain ⟨zf0, zf1, -, -, -⟩ := ZW.out.free5
    go_wp2
    refine bodyPost_ret (v := .agg #[.int .i64 RR, .slice a5 HS.length cap5]) (by simp [results, Tryz.results49, go_sem, *]) rfl ?_
    refine ⟨a5, cap5, rfl, ?_, ?_⟩
    · exact row_low (row_set (row_set OW.out ZW.out (by decide) _ _) (ZW.out.set_ 0 _) (by decide) _ _) (by omega)
    · exact ((B0.out.trans (EW.out.mono B0.out.size)).setCell (by simp) _).setCell (by simp) _

set_option maxHeartbeats 4000000 in
theorem forcedStock_some (id : Int) (up : Bool) (room : Int) (g n cap N : Nat) (RR : Int) (HS : List Pl.H) (BB : Bool) (w : World) (hN : N ≤ n) (hc : n ≤ cap)
    (HO : Hid (∀ W, Below w.heap.size w W → Calls Tryz.prog 57 #[.int .i64 room, .slice (some ⟨g, 0, none⟩) N cap] W fun e w' => StOut W w' e RR HS BB)) :
    Calls Tryz.prog 49 #[keeperV (.slice (some ⟨g, 0, none⟩) n cap) N id up room] w fun e w' => SkOut w w' e RR HS := by
  obtain ⟨w0, hw0⟩ : ∃ W, Hid (W = (w.alloc (.cells #[.slice (some ⟨g, 0, none⟩) n cap, .int .i64 N, .int .i64 id, .bool up, .int .i64 room] 66)).alloc (.cells #[.int .i64 0, .slice none 0 0] 50)) := ⟨_, rfl⟩
  have B0 : Hid (Below w.heap.size w w0) := by show Below _ _ _; rw [hw0.out]; exact below2 _ _ _
  have X0 : Hid (Blk w0 w.heap.size #[.slice (some ⟨g, 0, none⟩) n cap, .int .i64 N, .int .i64 id, .bool up, .int .i64 room] 66) := by show Blk _ _ _ _; rw [hw0.out]; exact (Blk.new _ _ _).alloc _
  have Z0 : Hid (Blk w0 (w.heap.size + 1) #[.int .i64 0, .slice none 0 0] 50) := by show Blk _ _ _ _; rw [hw0.out]; exact Blk.new2 _ _ _ _
  have hs0 : Hid (w0.heap.size = w.heap.size + 2) := by show _ = _; rw [hw0.out, size2]
  have hs1 : w.heap.size + 1 < w0.heap.size := by have := hs0.out; omega
  obtain ⟨x0, x1, x2, x3, x4⟩ := X0.out.cells5
  go_enter Tryz.func49, Tryz.ntmps49
  go_wp2_with fail
  rw [← hw0.out]
  go_cut [3] (fun p W => ∃ b a5 cap5, p = .pointer (some ⟨b, 0, none⟩) ∧ Hid (StkMet w0 W (w.heap.size + 1) b RR (.slice a5 HS.length cap5) HS))
  case first =>
    go_region_held (fun w' => w'.cell? ⟨w.heap.size, 0, none⟩ = some (.slice (some ⟨g, 0, none⟩) n cap) ∧ w'.cell? ⟨w.heap.size, 1, none⟩ = some (.int .i64 N) ∧ w'.cell? ⟨w.heap.size, 4, none⟩ = some (.int .i64 room)) (first | (go_keep; done) | (refine ⟨(ks2 _ _ _ _ ?_).trans ?_, (ks2 _ _ _ _ ?_).trans ?_, (ks2 _ _ _ _ ?_).trans ?_⟩ <;> first | omega | assumption))
      ((go_at_call 57; refine (HO.out _ ?_).mono ?_; (first | (with_reducible exact B0.out.drew) | exact (B0.out.alloc B0.out.size _).drew); rintro e w1 ⟨a5, cap5, rfl, ho5, hb5⟩; have N5 : Hid (Below w0.heap.size w0 w1) := (by first | (with_reducible exact hide_it (b_drew hb5)) | (with_reducible exact hide_it (b_alloc_drew hb5))); (try (with_reducible have Y5 := hide_it (z_alloc_drew hb5))); have O5 : Hid (w1.ownsRow w0.heap.size 54 2 (.slice a5 HS.length cap5) HS.length (hflat HS)) := (by first | (with_reducible exact hide_it (o_drew ho5)) | (with_reducible exact hide_it (o_alloc_drew ho5))); have Z5 := hide_it (Z0.out.after N5.out); have hs5 := N5.out.size; obtain ⟨y0, y1, y2, y3, y4⟩ := (X0.out.after N5.out).cells5; (try obtain ⟨u0, u1⟩ := Y5.out.cells2); (try obtain ⟨uf0, uf1, -, -, -⟩ := Y5.out.free5); clear ho5 hb5))
    all_goals
      go_wp2_with fail
      go_meet
      case rel => first | exact ⟨_, a5, cap5, rfl, hide_it (stkMet_new N5.out Z5.out O5.out)⟩ | exact ⟨_, a5, cap5, rfl, hide_it (stkMet_set N5.out (by omega) (by omega) Y5.out Z5.out O5.out)⟩
  case rest =>
    obtain ⟨b, a5, cap5, rfl, HMET⟩ := hcut
    have EW := hide_it HMET.out.1
    have YW := hide_it HMET.out.2.1
    have ZW := hide_it HMET.out.2.2.1
    have OW := hide_it HMET.out.2.2.2
    clear HMET x0 x1 x2 x3 x4
    obtain ⟨u0, u1⟩ := YW.out.cells2
    obtain ⟨z0, z1⟩ := ZW.out.cells2
    obtain ⟨zf0, zf1, -, -, -⟩ := ZW.out.free5
    go_wp2
    refine bodyPost_ret (v := .agg #[.int .i64 RR, .slice a5 HS.length cap5]) (by simp [results, Tryz.results49, go_sem, *]) rfl ?_
    refine ⟨a5, cap5, rfl, ?_, ?_⟩
    · exact row_low (row_set (row_set OW.out ZW.out (by decide) _ _) (ZW.out.set_ 0 _) (by decide) _ _) (by omega)
    · exact ((B0.out.trans (EW.out.mono B0.out.size)).setCell (by simp) _).setCell (by simp) _

theorem forcedStock_any (id : Int) (up : Bool) (room : Int) (v : Value) (rs : List R) (f : Int) (a : Addr) (w : World) (hv : Recs w v rs) (hfm : Form v rs.length) (hl : tot rs ≤ 1048576) (h0 : 0 ≤ f) (h1 : f ≤ rs.length) (ha : ErrAt w a) :
    Calls Tryz.prog 49 #[keeperV v f id up room] w fun e w' => SkOut w w' e (oR room (Pl.sOf room (rs.take f.toNat))) (oH (Pl.sOf room (rs.take f.toNat))) := by
  obtain ⟨N, rfl⟩ := Int.eq_ofNat_of_zero_le h0
  have hN : N ≤ rs.length := by omega
  rw [show ((N : Nat) : Int).toNat = N by simp]
  have hrl := tot_len rs
  obtain ⟨ao, cap, rfl⟩ := hv.shape
  have HO : ∀ W, Below w.heap.size w W → Calls Tryz.prog 57 #[.int .i64 room, .slice ao N cap] W fun e w' => StOut W w' e (oR room (Pl.sOf room (rs.take N))) (oH (Pl.sOf room (rs.take N))) (Pl.sOf room (rs.take N)).isSome := fun W h =>
    implOf_any room (.slice ao N cap) (rs.take N) a W ((hv.later h (Nat.le_refl _)).take hN) (Nat.le_trans (pre_take rs N hN) hl) (ha.later h (Nat.le_refl _))
  rcases hfm with ⟨hv0, hn0⟩ | ⟨g, cap', hv0, hc⟩
  · simp only [Value.slice.injEq] at hv0
    obtain ⟨rfl, -, rfl⟩ := hv0
    obtain rfl : N = 0 := by omega
    rw [hn0]
    exact forcedStock_nil id up room _ _ _ w HO
  · simp only [Value.slice.injEq] at hv0
    obtain ⟨rfl, -, rfl⟩ := hv0
    exact forcedStock_some id up room g rs.length cap N _ _ _ w hN hc HO

set_option maxHeartbeats 4000000 in
theorem l11Stock_forced_nil (id : Int) (up : Bool) (room : Int) (RR : Int) (HS : List Pl.H) (BB : Bool) (w : World) 
    (HO : Hid (∀ W, Below w.heap.size w W → Calls Tryz.prog 46 #[.int .i64 room, .slice none 0 0] W fun e w' => StOut W w' e RR HS BB)) :
    Calls Tryz.prog 60 #[houseV id up room (.slice none 0 0) 0, .bool true] w fun e w' => SkOut w w' e RR HS := by
  obtain ⟨w0, hw0⟩ : ∃ W, Hid (W = (w.alloc (.cells #[.int .i64 id, .bool up, .int .i64 room, .slice none 0 0, .int .i64 0] 34)).alloc (.cells #[.int .i64 0, .slice none 0 0] 50)) := ⟨_, rfl⟩
  have B0 : Hid (Below w.heap.size w w0) := by show Below _ _ _; rw [hw0.out]; exact below2 _ _ _
  have X0 : Hid (Blk w0 w.heap.size #[.int .i64 id, .bool up, .int .i64 room, .slice none 0 0, .int .i64 0] 34) := by show Blk _ _ _ _; rw [hw0.out]; exact (Blk.new _ _ _).alloc _
  have Z0 : Hid (Blk w0 (w.heap.size + 1) #[.int .i64 0, .slice none 0 0] 50) := by show Blk _ _ _ _; rw [hw0.out]; exact Blk.new2 _ _ _ _
  have hs0 : Hid (w0.heap.size = w.heap.size + 2) := by show _ = _; rw [hw0.out, size2]
  have hs1 : w.heap.size + 1 < w0.heap.size := by have := hs0.out; omega
  obtain ⟨x0, x1, x2, x3, x4⟩ := X0.out.cells5
  go_enter Tryz.func60, Tryz.ntmps60
  go_wp2_with fail
  rw [← hw0.out]
  go_cut [6] (fun p W => ∃ b a5 cap5, p = .pointer (some ⟨b, 0, none⟩) ∧ Hid (StkMet w0 W (w.heap.size + 1) b RR (.slice a5 HS.length cap5) HS))
  case first =>
    go_region_held (fun w' => w'.cell? ⟨w.heap.size, 2, none⟩ = some (.int .i64 room) ∧ w'.cell? ⟨w.heap.size, 3, none⟩ = some (.slice none 0 0) ∧ w'.cell? ⟨w.heap.size, 0, none⟩ = some (.int .i64 id)) (first | (go_keep; done) | (refine ⟨(ks2 _ _ _ _ ?_).trans ?_, (ks2 _ _ _ _ ?_).trans ?_, (ks2 _ _ _ _ ?_).trans ?_⟩ <;> first | omega | assumption))
      ((go_at_call 46; refine (HO.out _ ?_).mono ?_; (first | (with_reducible exact B0.out.drew) | exact (B0.out.alloc B0.out.size _).drew); rintro e w1 ⟨a5, cap5, rfl, ho5, hb5⟩; have N5 : Hid (Below w0.heap.size w0 w1) := (by first | (with_reducible exact hide_it (b_drew hb5)) | (with_reducible exact hide_it (b_alloc_drew hb5))); (try (with_reducible have Y5 := hide_it (z_alloc_drew hb5))); have O5 : Hid (w1.ownsRow w0.heap.size 54 2 (.slice a5 HS.length cap5) HS.length (hflat HS)) := (by first | (with_reducible exact hide_it (o_drew ho5)) | (with_reducible exact hide_it (o_alloc_drew ho5))); have Z5 := hide_it (Z0.out.after N5.out); have hs5 := N5.out.size; obtain ⟨y0, y1, y2, y3, y4⟩ := (X0.out.after N5.out).cells5; (try obtain ⟨u0, u1⟩ := Y5.out.cells2); (try obtain ⟨uf0, uf1, -, -, -⟩ := Y5.out.free5); clear ho5 hb5))
    all_goals
      go_wp2_with fail
      go_meet
      case rel => first | exact ⟨_, a5, cap5, rfl, hide_it (stkMet_new N5.out Z5.out O5.out)⟩ | exact ⟨_, a5, cap5, rfl, hide_it (stkMet_set N5.out (by omega) (by omega) Y5.out Z5.out O5.out)⟩
  case rest =>
    obtain ⟨b, a5, cap5, rfl, HMET⟩ := hcut
    have EW := hide_it HMET.out.1
    have YW := hide_it HMET.out.2.1
    have ZW := hide_it HMET.out.2.2.1
    have OW := hide_it HMET.out.2.2.2
    clear HMET x0 x1 x2 x3 x4
    obtain ⟨u0, u1⟩ := YW.out.cells2
    obtain ⟨z0, z1⟩ := ZW.out.cells2
    obtain ⟨zf0, zf1, -, -, -⟩ := ZW.out.free5
    go_wp2
    refine bodyPost_ret (v := .agg #[.int .i64 RR, .slice a5 HS.length cap5]) (by simp [results, Tryz.results60, go_sem, *]) rfl ?_
    refine ⟨a5, cap5, rfl, ?_, ?_⟩
    · exact row_low (row_set (row_set OW.out ZW.out (by decide) _ _) (ZW.out.set_ 0 _) (by decide) _ _) (by omega)
    · exact ((B0.out.trans (EW.out.mono B0.out.size)).setCell (by simp) _).setCell (by simp) _

set_option maxHeartbeats 4000000 in
theorem l11Stock_forced_some (id : Int) (up : Bool) (room : Int) (g n cap N : Nat) (RR : Int) (HS : List Pl.H) (BB : Bool) (w : World) (hN : N ≤ n) (hc : n ≤ cap)
    (HO : Hid (∀ W, Below w.heap.size w W → Calls Tryz.prog 46 #[.int .i64 room, .slice (some ⟨g, 0, none⟩) N cap] W fun e w' => StOut W w' e RR HS BB)) :
    Calls Tryz.prog 60 #[houseV id up room (.slice (some ⟨g, 0, none⟩) n cap) N, .bool true] w fun e w' => SkOut w w' e RR HS := by
  obtain ⟨w0, hw0⟩ : ∃ W, Hid (W = (w.alloc (.cells #[.int .i64 id, .bool up, .int .i64 room, .slice (some ⟨g, 0, none⟩) n cap, .int .i64 N] 34)).alloc (.cells #[.int .i64 0, .slice none 0 0] 50)) := ⟨_, rfl⟩
  have B0 : Hid (Below w.heap.size w w0) := by show Below _ _ _; rw [hw0.out]; exact below2 _ _ _
  have X0 : Hid (Blk w0 w.heap.size #[.int .i64 id, .bool up, .int .i64 room, .slice (some ⟨g, 0, none⟩) n cap, .int .i64 N] 34) := by show Blk _ _ _ _; rw [hw0.out]; exact (Blk.new _ _ _).alloc _
  have Z0 : Hid (Blk w0 (w.heap.size + 1) #[.int .i64 0, .slice none 0 0] 50) := by show Blk _ _ _ _; rw [hw0.out]; exact Blk.new2 _ _ _ _
  have hs0 : Hid (w0.heap.size = w.heap.size + 2) := by show _ = _; rw [hw0.out, size2]
  have hs1 : w.heap.size + 1 < w0.heap.size := by have := hs0.out; omega
  obtain ⟨x0, x1, x2, x3, x4⟩ := X0.out.cells5
  go_enter Tryz.func60, Tryz.ntmps60
  go_wp2_with fail
  rw [← hw0.out]
  go_cut [6] (fun p W => ∃ b a5 cap5, p = .pointer (some ⟨b, 0, none⟩) ∧ Hid (StkMet w0 W (w.heap.size + 1) b RR (.slice a5 HS.length cap5) HS))
  case first =>
    go_region_held (fun w' => w'.cell? ⟨w.heap.size, 2, none⟩ = some (.int .i64 room) ∧ w'.cell? ⟨w.heap.size, 3, none⟩ = some (.slice (some ⟨g, 0, none⟩) n cap) ∧ w'.cell? ⟨w.heap.size, 0, none⟩ = some (.int .i64 id)) (first | (go_keep; done) | (refine ⟨(ks2 _ _ _ _ ?_).trans ?_, (ks2 _ _ _ _ ?_).trans ?_, (ks2 _ _ _ _ ?_).trans ?_⟩ <;> first | omega | assumption))
      ((go_at_call 46; refine (HO.out _ ?_).mono ?_; (first | (with_reducible exact B0.out.drew) | exact (B0.out.alloc B0.out.size _).drew); rintro e w1 ⟨a5, cap5, rfl, ho5, hb5⟩; have N5 : Hid (Below w0.heap.size w0 w1) := (by first | (with_reducible exact hide_it (b_drew hb5)) | (with_reducible exact hide_it (b_alloc_drew hb5))); (try (with_reducible have Y5 := hide_it (z_alloc_drew hb5))); have O5 : Hid (w1.ownsRow w0.heap.size 54 2 (.slice a5 HS.length cap5) HS.length (hflat HS)) := (by first | (with_reducible exact hide_it (o_drew ho5)) | (with_reducible exact hide_it (o_alloc_drew ho5))); have Z5 := hide_it (Z0.out.after N5.out); have hs5 := N5.out.size; obtain ⟨y0, y1, y2, y3, y4⟩ := (X0.out.after N5.out).cells5; (try obtain ⟨u0, u1⟩ := Y5.out.cells2); (try obtain ⟨uf0, uf1, -, -, -⟩ := Y5.out.free5); clear ho5 hb5))
    all_goals
      go_wp2_with fail
      go_meet
      case rel => first | exact ⟨_, a5, cap5, rfl, hide_it (stkMet_new N5.out Z5.out O5.out)⟩ | exact ⟨_, a5, cap5, rfl, hide_it (stkMet_set N5.out (by omega) (by omega) Y5.out Z5.out O5.out)⟩
  case rest =>
    obtain ⟨b, a5, cap5, rfl, HMET⟩ := hcut
    have EW := hide_it HMET.out.1
    have YW := hide_it HMET.out.2.1
    have ZW := hide_it HMET.out.2.2.1
    have OW := hide_it HMET.out.2.2.2
    clear HMET x0 x1 x2 x3 x4
    obtain ⟨u0, u1⟩ := YW.out.cells2
    obtain ⟨z0, z1⟩ := ZW.out.cells2
    obtain ⟨zf0, zf1, -, -, -⟩ := ZW.out.free5
    go_wp2
    refine bodyPost_ret (v := .agg #[.int .i64 RR, .slice a5 HS.length cap5]) (by simp [results, Tryz.results60, go_sem, *]) rfl ?_
    refine ⟨a5, cap5, rfl, ?_, ?_⟩
    · exact row_low (row_set (row_set OW.out ZW.out (by decide) _ _) (ZW.out.set_ 0 _) (by decide) _ _) (by omega)
    · exact ((B0.out.trans (EW.out.mono B0.out.size)).setCell (by simp) _).setCell (by simp) _

set_option maxHeartbeats 4000000 in
theorem l11Stock_all_nil (id : Int) (up : Bool) (room : Int) (f : Int) (RR : Int) (HS : List Pl.H) (BB : Bool) (w : World) 
    (HO : Hid (∀ W, Below w.heap.size w W → Calls Tryz.prog 46 #[.int .i64 room, .slice none 0 0] W fun e w' => StOut W w' e RR HS BB)) :
    Calls Tryz.prog 60 #[houseV id up room (.slice none 0 0) f, .bool false] w fun e w' => SkOut w w' e RR HS := by
  obtain ⟨w0, hw0⟩ : ∃ W, Hid (W = (w.alloc (.cells #[.int .i64 id, .bool up, .int .i64 room, .slice none 0 0, .int .i64 f] 34)).alloc (.cells #[.int .i64 0, .slice none 0 0] 50)) := ⟨_, rfl⟩
  have B0 : Hid (Below w.heap.size w w0) := by show Below _ _ _; rw [hw0.out]; exact below2 _ _ _
  have X0 : Hid (Blk w0 w.heap.size #[.int .i64 id, .bool up, .int .i64 room, .slice none 0 0, .int .i64 f] 34) := by show Blk _ _ _ _; rw [hw0.out]; exact (Blk.new _ _ _).alloc _
  have Z0 : Hid (Blk w0 (w.heap.size + 1) #[.int .i64 0, .slice none 0 0] 50) := by show Blk _ _ _ _; rw [hw0.out]; exact Blk.new2 _ _ _ _
  have hs0 : Hid (w0.heap.size = w.heap.size + 2) := by show _ = _; rw [hw0.out, size2]
  have hs1 : w.heap.size + 1 < w0.heap.size := by have := hs0.out; omega
  obtain ⟨x0, x1, x2, x3, x4⟩ := X0.out.cells5
  go_enter Tryz.func60, Tryz.ntmps60
  go_wp2_with fail
  rw [← hw0.out]
  go_cut [6] (fun p W => ∃ b a5 cap5, p = .pointer (some ⟨b, 0, none⟩) ∧ Hid (StkMet w0 W (w.heap.size + 1) b RR (.slice a5 HS.length cap5) HS))
  case first =>
    go_region_held (fun w' => w'.cell? ⟨w.heap.size, 2, none⟩ = some (.int .i64 room) ∧ w'.cell? ⟨w.heap.size, 3, none⟩ = some (.slice none 0 0) ∧ w'.cell? ⟨w.heap.size, 0, none⟩ = some (.int .i64 id)) (first | (go_keep; done) | (refine ⟨(ks2 _ _ _ _ ?_).trans ?_, (ks2 _ _ _ _ ?_).trans ?_, (ks2 _ _ _ _ ?_).trans ?_⟩ <;> first | omega | assumption))
      ((go_at_call 46; refine (HO.out _ ?_).mono ?_; (first | (with_reducible exact B0.out.drew) | exact (B0.out.alloc B0.out.size _).drew); rintro e w1 ⟨a5, cap5, rfl, ho5, hb5⟩; have N5 : Hid (Below w0.heap.size w0 w1) := (by first | (with_reducible exact hide_it (b_drew hb5)) | (with_reducible exact hide_it (b_alloc_drew hb5))); (try (with_reducible have Y5 := hide_it (z_alloc_drew hb5))); have O5 : Hid (w1.ownsRow w0.heap.size 54 2 (.slice a5 HS.length cap5) HS.length (hflat HS)) := (by first | (with_reducible exact hide_it (o_drew ho5)) | (with_reducible exact hide_it (o_alloc_drew ho5))); have Z5 := hide_it (Z0.out.after N5.out); have hs5 := N5.out.size; obtain ⟨y0, y1, y2, y3, y4⟩ := (X0.out.after N5.out).cells5; (try obtain ⟨u0, u1⟩ := Y5.out.cells2); (try obtain ⟨uf0, uf1, -, -, -⟩ := Y5.out.free5); clear ho5 hb5))
    all_goals
      go_wp2_with fail
      go_meet
      case rel => first | exact ⟨_, a5, cap5, rfl, hide_it (stkMet_new N5.out Z5.out O5.out)⟩ | exact ⟨_, a5, cap5, rfl, hide_it (stkMet_set N5.out (by omega) (by omega) Y5.out Z5.out O5.out)⟩
  case rest =>
    obtain ⟨b, a5, cap5, rfl, HMET⟩ := hcut
    have EW := hide_it HMET.out.1
    have YW := hide_it HMET.out.2.1
    have ZW := hide_it HMET.out.2.2.1
    have OW := hide_it HMET.out.2.2.2
    clear HMET x0 x1 x2 x3 x4
    obtain ⟨u0, u1⟩ := YW.out.cells2
    obtain ⟨z0, z1⟩ := ZW.out.cells2
    obtain ⟨zf0, zf1, -, -, -⟩ := ZW.out.free5
    go_wp2
    refine bodyPost_ret (v := .agg #[.int .i64 RR, .slice a5 HS.length cap5]) (by simp [results, Tryz.results60, go_sem, *]) rfl ?_
    refine ⟨a5, cap5, rfl, ?_, ?_⟩
    · exact row_low (row_set (row_set OW.out ZW.out (by decide) _ _) (ZW.out.set_ 0 _) (by decide) _ _) (by omega)
    · exact ((B0.out.trans (EW.out.mono B0.out.size)).setCell (by simp) _).setCell (by simp) _

set_option maxHeartbeats 4000000 in
theorem l11Stock_all_some (id : Int) (up : Bool) (room : Int) (f : Int) (g n cap : Nat) (RR : Int) (HS : List Pl.H) (BB : Bool) (w : World) (hc : n ≤ cap)
    (HO : Hid (∀ W, Below w.heap.size w W → Calls Tryz.prog 46 #[.int .i64 room, .slice (some ⟨g, 0, none⟩) n cap] W fun e w' => StOut W w' e RR HS BB)) :
    Calls Tryz.prog 60 #[houseV id up room (.slice (some ⟨g, 0, none⟩) n cap) f, .bool false] w fun e w' => SkOut w w' e RR HS := by
  obtain ⟨w0, hw0⟩ : ∃ W, Hid (W = (w.alloc (.cells #[.int .i64 id, .bool up, .int .i64 room, .slice (some ⟨g, 0, none⟩) n cap, .int .i64 f] 34)).alloc (.cells #[.int .i64 0, .slice none 0 0] 50)) := ⟨_, rfl⟩
  have B0 : Hid (Below w.heap.size w w0) := by show Below _ _ _; rw [hw0.out]; exact below2 _ _ _
  have X0 : Hid (Blk w0 w.heap.size #[.int .i64 id, .bool up, .int .i64 room, .slice (some ⟨g, 0, none⟩) n cap, .int .i64 f] 34) := by show Blk _ _ _ _; rw [hw0.out]; exact (Blk.new _ _ _).alloc _
  have Z0 : Hid (Blk w0 (w.heap.size + 1) #[.int .i64 0, .slice none 0 0] 50) := by show Blk _ _ _ _; rw [hw0.out]; exact Blk.new2 _ _ _ _
  have hs0 : Hid (w0.heap.size = w.heap.size + 2) := by show _ = _; rw [hw0.out, size2]
  have hs1 : w.heap.size + 1 < w0.heap.size := by have := hs0.out; omega
  obtain ⟨x0, x1, x2, x3, x4⟩ := X0.out.cells5
  go_enter Tryz.func60, Tryz.ntmps60
  go_wp2_with fail
  rw [← hw0.out]
  go_cut [6] (fun p W => ∃ b a5 cap5, p = .pointer (some ⟨b, 0, none⟩) ∧ Hid (StkMet w0 W (w.heap.size + 1) b RR (.slice a5 HS.length cap5) HS))
  case first =>
    go_region_held (fun w' => w'.cell? ⟨w.heap.size, 2, none⟩ = some (.int .i64 room) ∧ w'.cell? ⟨w.heap.size, 3, none⟩ = some (.slice (some ⟨g, 0, none⟩) n cap) ∧ w'.cell? ⟨w.heap.size, 0, none⟩ = some (.int .i64 id)) (first | (go_keep; done) | (refine ⟨(ks2 _ _ _ _ ?_).trans ?_, (ks2 _ _ _ _ ?_).trans ?_, (ks2 _ _ _ _ ?_).trans ?_⟩ <;> first | omega | assumption))
      ((go_at_call 46; refine (HO.out _ ?_).mono ?_; (first | (with_reducible exact B0.out.drew) | exact (B0.out.alloc B0.out.size _).drew); rintro e w1 ⟨a5, cap5, rfl, ho5, hb5⟩; have N5 : Hid (Below w0.heap.size w0 w1) := (by first | (with_reducible exact hide_it (b_drew hb5)) | (with_reducible exact hide_it (b_alloc_drew hb5))); (try (with_reducible have Y5 := hide_it (z_alloc_drew hb5))); have O5 : Hid (w1.ownsRow w0.heap.size 54 2 (.slice a5 HS.length cap5) HS.length (hflat HS)) := (by first | (with_reducible exact hide_it (o_drew ho5)) | (with_reducible exact hide_it (o_alloc_drew ho5))); have Z5 := hide_it (Z0.out.after N5.out); have hs5 := N5.out.size; obtain ⟨y0, y1, y2, y3, y4⟩ := (X0.out.after N5.out).cells5; (try obtain ⟨u0, u1⟩ := Y5.out.cells2); (try obtain ⟨uf0, uf1, -, -, -⟩ := Y5.out.free5); clear ho5 hb5))
    all_goals
      go_wp2_with fail
      go_meet
      case rel => first | exact ⟨_, a5, cap5, rfl, hide_it (stkMet_new N5.out Z5.out O5.out)⟩ | exact ⟨_, a5, cap5, rfl, hide_it (stkMet_set N5.out (by omega) (by omega) Y5.out Z5.out O5.out)⟩
  case rest =>
    obtain ⟨b, a5, cap5, rfl, HMET⟩ := hcut
    have EW := hide_it HMET.out.1
    have YW := hide_it HMET.out.2.1
    have ZW := hide_it HMET.out.2.2.1
    have OW := hide_it HMET.out.2.2.2
    clear HMET x0 x1 x2 x3 x4
    obtain ⟨u0, u1⟩ := YW.out.cells2
    obtain ⟨z0, z1⟩ := ZW.out.cells2
    obtain ⟨zf0, zf1, -, -, -⟩ := ZW.out.free5
    go_wp2
    refine bodyPost_ret (v := .agg #[.int .i64 RR, .slice a5 HS.length cap5]) (by simp [results, Tryz.results60, go_sem, *]) rfl ?_
    refine ⟨a5, cap5, rfl, ?_, ?_⟩
    · exact row_low (row_set (row_set OW.out ZW.out (by decide) _ _) (ZW.out.set_ 0 _) (by decide) _ _) (by omega)
    · exact ((B0.out.trans (EW.out.mono B0.out.size)).setCell (by simp) _).setCell (by simp) _

theorem l11Stock_any (id : Int) (up : Bool) (room : Int) (v : Value) (rs : List R) (f : Int) (forced : Bool) (w : World) (hv : Recs w v rs) (hfm : Form v rs.length) (hl : tot rs ≤ 1048576) (h0 : 0 ≤ f) (h1 : f ≤ rs.length) :
    Calls Tryz.prog 60 #[houseV id up room v f, .bool forced] w fun e w' => SkOut w w' e (oR room (Pl.sOf room (cutR rs f forced))) (oH (Pl.sOf room (cutR rs f forced))) := by
  obtain ⟨N, rfl⟩ := Int.eq_ofNat_of_zero_le h0
  have hN : N ≤ rs.length := by omega
  obtain ⟨ao, cap, rfl⟩ := hv.shape
  cases forced
  · have hcut : cutR rs (N : Int) false = rs := by simp [cutR]
    rw [hcut]
    have HO : ∀ W, Below w.heap.size w W → Calls Tryz.prog 46 #[.int .i64 room, .slice ao rs.length cap] W fun e w' => StOut W w' e (oR room (Pl.sOf room rs)) (oH (Pl.sOf room rs)) (Pl.sOf room rs).isSome := fun W h =>
      l2Of_any room (.slice ao rs.length cap) rs W (hv.later h (Nat.le_refl _)) hl
    rcases hfm with ⟨hv0, hn0⟩ | ⟨g, cap', hv0, hc⟩
    · simp only [Value.slice.injEq] at hv0
      obtain ⟨rfl, -, rfl⟩ := hv0
      rw [hn0] at HO ⊢
      exact l11Stock_all_nil id up room _ _ _ _ w HO
    · simp only [Value.slice.injEq] at hv0
      obtain ⟨rfl, -, rfl⟩ := hv0
      exact l11Stock_all_some id up room _ g rs.length cap _ _ _ w hc HO
  · have hcut : cutR rs (N : Int) true = rs.take N := by simp [cutR]
    rw [hcut]
    have HO : ∀ W, Below w.heap.size w W → Calls Tryz.prog 46 #[.int .i64 room, .slice ao N cap] W fun e w' => StOut W w' e (oR room (Pl.sOf room (rs.take N))) (oH (Pl.sOf room (rs.take N))) (Pl.sOf room (rs.take N)).isSome := fun W h =>
      l2Of_any room (.slice ao N cap) (rs.take N) W ((hv.later h (Nat.le_refl _)).take hN) (Nat.le_trans (pre_take rs N hN) hl)
    rcases hfm with ⟨hv0, hn0⟩ | ⟨g, cap', hv0, hc⟩
    · simp only [Value.slice.injEq] at hv0
      obtain ⟨rfl, -, rfl⟩ := hv0
      obtain rfl : N = 0 := by omega
      rw [hn0]
      exact l11Stock_forced_nil id up room _ _ _ w HO
    · simp only [Value.slice.injEq] at hv0
      obtain ⟨rfl, -, rfl⟩ := hv0
      exact l11Stock_forced_some id up room g rs.length cap N _ _ _ w hN hc HO

end Go.Proofs.YthllcffmpeopcaaGreatDoor
