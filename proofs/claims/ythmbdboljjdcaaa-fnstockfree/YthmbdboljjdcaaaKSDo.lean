/- Contracts of the copies and changes of a stock: the specification's l2Copy and l2Do, and the two StockDo. For stocks of at most 1048576 holds and records of at most 1048576 numbers, in a world in which the sentinel's variable holds a pointer to an errors.errorString. -/
import Derived.Test.YthmbdboljjdcaaaKSMay
import Derived.Test.YthmbdboljjdcaaaKNew
import Derived.Deep.RegionHeldLaw
import Derived.Laws.AppendOwnNone
namespace Go.Proofs.Ythmbdboljjdcaaa
open Go.RowKit

theorem hflat_one (hs : List Pl.H) : ∀ u ∈ hflat hs, u.oneCell' = true := by
  induction hs with
  | nil => intro u hu; simp [hflat] at hu
  | cons h t ih =>
    intro u hu
    simp only [hflat, List.mem_cons] at hu
    rcases hu with rfl | rfl | hu
    · rfl
    · rfl
    · exact ih u hu

theorem hflat_cells {w : World} {b off : Nat} {hs : List Pl.H} (hc : ∀ k, k < hs.length → w.cell? ⟨b, off + k * 2, none⟩ = some (.int .i64 (hs.getD k (0, 0)).1) ∧ w.cell? ⟨b, off + k * 2 + 1, none⟩ = some (.int .i64 (hs.getD k (0, 0)).2)) :
    ∀ j u, (hflat hs)[j]? = some u → w.cell? ((⟨b, off, none⟩ : Addr).add j) = some u := by
  intro j u hj
  have hjl : j < hs.length * 2 := by
    by_cases e : j < hs.length * 2
    · exact e
    · rw [List.getElem?_eq_none (by rw [hflat_length]; omega)] at hj; cases hj
  obtain ⟨f0, f1⟩ := hflat_get hs (j / 2) (by omega)
  obtain ⟨c0, c1⟩ := hc (j / 2) (by omega)
  rw [Go.WideShapes.add_plain]
  rcases (show j = j / 2 * 2 ∨ j = j / 2 * 2 + 1 by omega) with e | e
  · rw [← e] at f0 c0
    rw [c0, ← f0]; exact hj
  · rw [← e] at f1
    rw [show off + j = off + j / 2 * 2 + 1 by omega, c1, ← f1]; exact hj

/-- Holds appended to a row of holds of the call's own. -/
theorem run_append_holds (w : World) (base ty : Nat) (v xv : Value) (n : Nat) (xs : List Value) (hs : List Pl.H) (hown : w.ownsRow base 30 2 v n xs) (hI : Holds w xv hs) (hb : n + hs.length ≤ 8388608) (hbase : base ≤ w.heap.size) :
    ∃ v' w', (Builtin.append_ #[23, 23] ty #[v, xv]).run Try.prog w = .ok v' w' ∧ w'.ownsRow base 30 2 v' (n + hs.length) (xs ++ hflat hs) ∧ w.grownBy w' v.ownBlock := by
  obtain ⟨i0, hi, hz0, hz1, hz2⟩ := info_parts infoHold
  rcases hI with ⟨rfl, ao, cap, rfl, hao⟩ | ⟨b, off, cap, rfl, hz, hc⟩
  · cases ao with
    | none =>
      obtain rfl := hao rfl
      exact ⟨v, w, run_append_owned_none w base 23 ty 30 i0 2 Try.underlying23 hi v n xs hown, by simpa [hflat] using hown, World.grownBy.refl _ _⟩
    | some a =>
      obtain ⟨v', w', h1, h2, h3, _⟩ := run_append_own (P := Try.prog) w base 23 ty 30 i0 (.agg #[.int .i64 0, .int .i64 0]) 2 16 Try.underlying23 hi hz0 hz1 hz2 rfl (by decide) v n xs hown a 0 cap [] rfl (fun j u h => by simp at h) (fun u h => by simp at h) (by unfold maxLen; omega) (by simp at hb; omega) hbase
      exact ⟨v', w', h1, by simpa [hflat] using h2, h3⟩
  · obtain ⟨v', w', h1, h2, h3, _⟩ := run_append_own (P := Try.prog) w base 23 ty 30 i0 (.agg #[.int .i64 0, .int .i64 0]) 2 16 Try.underlying23 hi hz0 hz1 hz2 rfl (by decide) v n xs hown ⟨b, off, none⟩ hs.length cap (hflat hs) (hflat_length hs) (hflat_cells hc) (hflat_one hs) (by unfold maxLen; omega) (by omega) hbase
    exact ⟨v', w', h1, h2, h3⟩

theorem step_append_holds {ops : Array Oper} {o : Oper} {a : Act} {w : World} {K : Act → World → Prop} {Q : Exit → Act → World → Prop} {E : Prop} (hgd : o.guard = none) (s x : Operand)
    (ho : o.op = .call { callee := .builtin .append, args := #[s, x], argTypes := #[23, 23] })
    (base : Nat) (v xv : Value) (n : Nat) (xs : List Value) (hs : List Pl.H) (he : a.eval s = v) (hx : a.eval x = xv) (hown : w.ownsRow base 30 2 v n xs) (hI : Holds w xv hs) (N : Nat) (hN : n + hs.length = N) (hpos : 0 < N) (hb : N ≤ 8388608) (hbase : base ≤ w.heap.size)
    (h : ∀ g cap w', w'.ownsRow base 30 2 (.slice (some ⟨g, 0, none⟩) N cap) N (xs ++ hflat hs) → w.grownBy w' v.ownBlock → K (a.put o.dst (.slice (some ⟨g, 0, none⟩) N cap)) w') :
    if Region.wanted o (yielded ops a.tmps) = true then Oper.wp Try.prog o a w K Q else E := by
  have hw : Region.wanted o (yielded ops a.tmps) = true := by simp [Region.wanted, hgd]
  rw [if_pos hw]
  obtain ⟨v', w', hrun, r1, r2⟩ := run_append_holds w base o.type v xv n xs hs hown hI (by omega) hbase
  rw [hN] at r1
  obtain ⟨g, cap, rfl⟩ : ∃ g cap, v' = .slice (some ⟨g, 0, none⟩) N cap := by
    rcases r1.2 with ⟨_, h0⟩ | ⟨g, cap, cur, hv, _⟩
    · omega
    · exact ⟨g, cap, hv⟩
  unfold Oper.wp
  simp [execOp, ho, resolve, invoke, builtin, he, hx, hrun, Result.andThen]
  exact h g cap w' r1 r2

theorem wpList_append_holds {ops : Array Oper} {rest : List Oper} {o : Oper} {a : Act} {w : World} {Q : Exit → Act → World → Prop} (hgd : o.guard = none) (s x : Operand)
    (ho : o.op = .call { callee := .builtin .append, args := #[s, x], argTypes := #[23, 23] })
    (base : Nat) (v xv : Value) (n : Nat) (xs : List Value) (hs : List Pl.H) (he : a.eval s = v) (hx : a.eval x = xv) (hown : w.ownsRow base 30 2 v n xs) (hI : Holds w xv hs) (N : Nat) (hN : n + hs.length = N) (hpos : 0 < N) (hb : N ≤ 8388608) (hbase : base ≤ w.heap.size)
    (h : ∀ g cap w', w'.ownsRow base 30 2 (.slice (some ⟨g, 0, none⟩) N cap) N (xs ++ hflat hs) → w.grownBy w' v.ownBlock → wpList Try.prog ops Q rest (a.put o.dst (.slice (some ⟨g, 0, none⟩) N cap)) w') :
    wpList Try.prog ops Q (o :: rest) a w := by
  refine wpList_plain hgd fun K hK' => ?_
  obtain ⟨v', w', hrun, r1, r2⟩ := run_append_holds w base o.type v xv n xs hs hown hI (by omega) hbase
  rw [hN] at r1
  obtain ⟨g, cap, rfl⟩ : ∃ g cap, v' = .slice (some ⟨g, 0, none⟩) N cap := by
    rcases r1.2 with ⟨_, h0⟩ | ⟨g, cap, cur, hv, _⟩
    · omega
    · exact ⟨g, cap, hv⟩
  unfold Oper.wp
  simp [execOp, ho, resolve, invoke, builtin, he, hx, hrun, Result.andThen]
  exact hK' _ _ (h g cap w' r1 r2)

/-- The two cells of a hold in a row of six. -/
theorem row_pair {w : World} {base g cap : Nat} {hs : List Pl.H} (h : w.ownsRow base 30 2 (.slice (some ⟨g, 0, none⟩) 6 cap) 6 (hflat hs)) (i : Nat) (hi : i < 6) :
    ∃ y0 y1, w.cell? ⟨g, i * 2, none⟩ = some y0 ∧ w.cell? ⟨g, i * 2 + 1, none⟩ = some y1 ∧ w.frozen? ⟨g, i * 2, none⟩ = false ∧ w.frozen? ⟨g, i * 2 + 1, none⟩ = false := by
  have cellEx : ∀ j, j < 6 * 2 → ∃ x, w.cell? ⟨g, j, none⟩ = some x := fun j hj => by
    have h1 := h.cellAt j hj
    have h2 : j < (hflat hs).length := by rw [h.1]; exact hj
    exact ⟨_, by rw [h1, List.getElem?_eq_getElem h2]⟩
  obtain ⟨y0, hy0⟩ := cellEx (i * 2) (by omega)
  obtain ⟨y1, hy1⟩ := cellEx (i * 2 + 1) (by omega)
  exact ⟨y0, y1, hy0, hy1, h.frozenAt _, h.frozenAt _⟩

/-- The two boxes and the answer's own, as a StockDo begins. -/
def BoxS (W : World) (B : Nat) (x y : Value) (k t : Int) (u : Value) : Prop :=
  Duo W B x y ∧ RecAt W (B + 1) k t u ∧ W.cell? ⟨B + 2, 0, none⟩ = some (.int .i64 0) ∧ W.cell? ⟨B + 2, 1, none⟩ = some (.slice none 0 0) ∧ W.frozen? ⟨B + 2, 0, none⟩ = false ∧ W.frozen? ⟨B + 2, 1, none⟩ = false
theorem BoxS.later {C : Nat} {W W' : World} {B : Nat} {x y : Value} {k t : Int} {u : Value} (h : BoxS W B x y k t u) (hb : Below C W W') (hC : B + 3 ≤ C) : BoxS W' B x y k t u := by
  obtain ⟨h1, h2, h3, h4, h5, h6⟩ := h
  refine ⟨⟨?_, ?_⟩, ⟨?_, ?_, ?_⟩, ?_, ?_, ?_, ?_⟩
  · rw [← h1.1]; exact hb.cell (p := ⟨B, 0, none⟩) (by simp; omega)
  · rw [← h1.2]; exact hb.cell (p := ⟨B, 1, none⟩) (by simp; omega)
  · rw [← h2.1]; exact hb.cell (p := ⟨B + 1, 0, none⟩) (by simp; omega)
  · rw [← h2.2.1]; exact hb.cell (p := ⟨B + 1, 1, none⟩) (by simp; omega)
  · rw [← h2.2.2]; exact hb.cell (p := ⟨B + 1, 2, none⟩) (by simp; omega)
  · rw [← h3]; exact hb.cell (p := ⟨B + 2, 0, none⟩) (by simp; omega)
  · rw [← h4]; exact hb.cell (p := ⟨B + 2, 1, none⟩) (by simp; omega)
  · rw [← h5]; exact hb.frozen (p := ⟨B + 2, 0, none⟩) (by simp; omega)
  · rw [← h6]; exact hb.frozen (p := ⟨B + 2, 1, none⟩) (by simp; omega)
theorem BoxS.new (w : World) (x y : Value) (k t : Int) (u : Value) (t1 t2 t3 : TypeId) : BoxS (((w.alloc (.cells #[x, y] t1)).alloc (.cells #[.int .i64 k, .int .i64 t, u] t2)).alloc (.cells #[.int .i64 0, .slice none 0 0] t3)) w.heap.size x y k t u := by
  refine ⟨⟨?_, ?_⟩, ⟨?_, ?_, ?_⟩, ?_, ?_, ?_, ?_⟩ <;> simp [go_sem]
theorem BoxS.lt {W : World} {B : Nat} {x y : Value} {k t : Int} {u : Value} (h : BoxS W B x y k t u) : B + 2 < W.heap.size := by simpa using World.block_lt_of_cell? _ _ h.2.2.1

theorem StOut.none_ {W w' : World} (hb : Below W.heap.size W w') : StOut W w' (.returned (.tuple #[.agg #[.int .i64 0, .slice none 0 0], .bool false])) 0 [] false := ⟨none, 0, rfl, World.ownsRow_nil _ _ _ _, hb⟩

theorem bcell2 {B : Nat} {W w1 : World} (hb : Below B W w1) : (∀ b o, b < B → w1.cell? ⟨b, o, none⟩ = W.cell? ⟨b, o, none⟩) ∧ (∀ b o, b < B → w1.frozen? ⟨b, o, none⟩ = W.frozen? ⟨b, o, none⟩) :=
  ⟨fun b o h => hb.cell (p := ⟨b, o, none⟩) h, fun b o h => hb.frozen (p := ⟨b, o, none⟩) h⟩

set_option maxHeartbeats 2000000 in
theorem l2Copy_any (room : Int) (v : Value) (hs : List Pl.H) (w : World) (hv : Holds w v hs) (hl : hs.length = 6) :
    Calls Try.prog 24 #[.agg #[.int .i64 room, v]] w fun e w' => ∃ g cap, e = .returned (.agg #[.int .i64 room, .slice (some ⟨g, 0, none⟩) 6 cap]) ∧
      w'.ownsRow (w.heap.size + 2) 30 2 (.slice (some ⟨g, 0, none⟩) 6 cap) 6 (hflat hs) ∧ Below w.heap.size w w' := by
  have HV : Hid (∀ W, Below w.heap.size w W → Holds W v hs) := fun W h => hv.later h (Nat.le_refl _)
  obtain ⟨av, cv, hvs⟩ := hv.shape
  rw [hl] at hvs
  clear hv
  subst hvs
  have HL := hide_it hl
  clear hl
  have DR : Hid (∀ W, Below (w.heap.size + 2) ((w.alloc (.cells #[.int .i64 room, .slice av 6 cv] 25)).alloc (.cells #[.int .i64 0, .slice none 0 0] 25)) W → W.cell? ⟨w.heap.size, 0, none⟩ = some (.int .i64 room) ∧ W.cell? ⟨w.heap.size, 1, none⟩ = some (.slice av 6 cv) ∧ W.cell? ⟨w.heap.size + 1, 0, none⟩ = some (.int .i64 0) ∧ W.cell? ⟨w.heap.size + 1, 1, none⟩ = some (.slice none 0 0) ∧ W.frozen? ⟨w.heap.size + 1, 0, none⟩ = false ∧ W.frozen? ⟨w.heap.size + 1, 1, none⟩ = false) := fun W h => by
    obtain ⟨hc, hf⟩ := bcell2 h
    refine ⟨?_, ?_, ?_, ?_, ?_, ?_⟩
    · rw [hc _ _ (by omega)]; simp [go_sem]
    · rw [hc _ _ (by omega)]; simp [go_sem]
    · rw [hc _ _ (by omega)]; simp [go_sem]
    · rw [hc _ _ (by omega)]; simp [go_sem]
    · rw [hf _ _ (by omega)]; simp [go_sem]
    · rw [hf _ _ (by omega)]; simp [go_sem]
  have AL : Hid (Below (w.heap.size + 2) ((w.alloc (.cells #[.int .i64 room, .slice av 6 cv] 25)).alloc (.cells #[.int .i64 0, .slice none 0 0] 25)) (((w.alloc (.cells #[.int .i64 room, .slice av 6 cv] 25)).alloc (.cells #[.int .i64 0, .slice none 0 0] 25)).drew.alloc (.cells #[] 30))) := (Below.refl _ _).drew.alloc (by simp) _
  have B2 : Hid (Below w.heap.size w (((w.alloc (.cells #[.int .i64 room, .slice av 6 cv] 25)).alloc (.cells #[.int .i64 0, .slice none 0 0] 25)).drew.alloc (.cells #[] 30))) := (below2 w _ _).trans (AL.out.mono (by omega))
  have ROW : Hid ((((w.alloc (.cells #[.int .i64 room, .slice av 6 cv] 25)).alloc (.cells #[.int .i64 0, .slice none 0 0] 25)).drew.alloc (.cells #[] 30)).ownsRow (w.heap.size + 2) 30 2 (.slice (some ⟨w.heap.size + 2, 0, none⟩) 0 0) 0 []) := by
    have h := World.ownsRow_lit (base := w.heap.size + 2) (e := 30) (size := 2) (((w.alloc (.cells #[.int .i64 room, .slice av 6 cv] 25)).alloc (.cells #[.int .i64 0, .slice none 0 0] 25)).drew) #[] 0 (by simp) (by unfold maxLen; omega) rfl
    have e : (((w.alloc (.cells #[.int .i64 room, .slice av 6 cv] 25)).alloc (.cells #[.int .i64 0, .slice none 0 0] 25)).drew).heap.size = w.heap.size + 2 := by simp
    rw [e] at h
    exact h
  go_enter Try.func24, Try.ntmps24
  go_wp2
  go_region_held_law (fun w' => w'.cell? ⟨w.heap.size, 0, none⟩ = some (.int .i64 room) ∧ w'.cell? ⟨w.heap.size, 1, none⟩ = some (.slice av 6 cv)) (go_keep)
    ((refine step_append_holds rfl _ _ rfl (w.heap.size + 2) (.slice (some ⟨w.heap.size + 2, 0, none⟩) 0 0) (.slice av 6 cv) 0 [] hs rfl rfl (by exact ROW.out) (by exact HV.out _ B2.out) 6 (by have := HL.out; omega) (by decide) (by decide) (by simp) ?_; intro g cap w1 hown hgrow; simp only [List.nil_append] at hown; have hb1 := AL.out.trans ((Below.refl (w.heap.size + 2) _).grown hgrow (by simp) (fun j hj => by simp [Value.ownBlock] at hj; omega)); obtain ⟨k0, k1, k2, k3, k4, k5⟩ := DR.out _ hb1; have HO := hide_it hown; have HB := hide_it ((below2 w _ _).trans (hb1.mono (by omega))); have hz1 : w.heap.size + 2 ≤ w1.heap.size := (by have := hb1.size; simp at this; omega); clear hown hgrow hb1))
  go_wp2
  refine bodyPost_ret (v := .agg #[.int .i64 room, .slice (some ⟨g, 0, none⟩) 6 cap]) (by simp [results, Try.results24, go_sem, k2, k3]) rfl ⟨g, cap, rfl, ?_, ?_⟩
  · exact ownsRow_setCell_below (ownsRow_setCell_below HO.out (by simp) _) (by simp) _
  · exact (HB.out.setCell (by simp) _).setCell (by simp) _

end Go.Proofs.Ythmbdboljjdcaaa
