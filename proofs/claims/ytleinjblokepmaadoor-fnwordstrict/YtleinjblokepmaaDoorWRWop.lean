/- The contract of the program's wordOfPieces. For texts of at most 20 bytes. -/
import Derived.Test.YtleinjblokepmaaDoorWRPieces
import Derived.Test.YtleinjblokepmaaDoorWRKind
import Derived.RangeFuncFrom
import Derived.Test.YtleinjblokepmaaDoorWRCut
namespace Go.Proofs.YtleinjblokepmaaDoor
open Go.RowKit Go.Shelf
attribute [local go_sem] Oper.semAt_some

theorem newPieces_any (s : ByteArray) (w : World) :
    Calls Tryd.prog 29 #[.string s] w fun e w' => e = .returned (.func (.func 33) #[] #[.pointer (some ⟨w.heap.size, 0, none⟩)]) ∧ w' = w.alloc (.cells #[.string s] 9) := by
  go_enter Tryd.func29, Tryd.ntmps29
  go_wp2
  go_ret
  exact ⟨rfl, rfl⟩

/-- What a round makes of the word. -/
def stepP (q : Pl.W4) (x : Int × ByteArray) : Pl.W4 :=
  if x.1 = 0 then (Pl.wKind (cl x.2), q.2.1, q.2.2.1, q.2.2.2) else if x.1 = 1 then (q.1, Pl.num (cl x.2), q.2.2.1, q.2.2.2) else if x.1 = 2 then (q.1, q.2.1, Pl.num (cl x.2), q.2.2.2) else if x.1 = 3 then (q.1, q.2.1, q.2.2.1, Pl.num (cl x.2)) else q
def inP (x : Int × ByteArray) : Prop := x.1 = 0 ∨ x.1 = 1 ∨ x.1 = 2 ∨ x.1 = 3
def foldP (pre : List (Int × ByteArray)) : Pl.W4 := pre.foldl stepP (0, 0, 0, 0)
theorem foldP_snoc (pre : List (Int × ByteArray)) (x : Int × ByteArray) : foldP (pre ++ [x]) = stepP (foldP pre) x := by simp [foldP]

abbrev qv (q : Pl.W4) : Array Value := #[.int .i64 q.1, .int .i64 q.2.1, .int .i64 q.2.2.1, .int .i64 q.2.2.2]

theorem wop_enum (ps : List ByteArray) (hl : ∀ p ∈ ps, p.size ≤ 1000) (h : ∀ x ∈ enumP 0 ps, inP x) : Pl.wop ps = foldP (enumP 0 ps) := by
  match ps, hl, h with
  | [], _, _ => rfl
  | [a], hl, _ => simp [Pl.wop, enumP, foldP, stepP, cl_of (hl a (by simp))]
  | [a, b], hl, _ => simp [Pl.wop, enumP, foldP, stepP, cl_of (hl a (by simp)), cl_of (hl b (by simp))]
  | [a, b, c], hl, _ => simp [Pl.wop, enumP, foldP, stepP, cl_of (hl a (by simp)), cl_of (hl b (by simp)), cl_of (hl c (by simp))]
  | [a, b, c, d], hl, _ => simp [Pl.wop, enumP, foldP, stepP, cl_of (hl a (by simp)), cl_of (hl b (by simp)), cl_of (hl c (by simp)), cl_of (hl d (by simp))]
  | a :: b :: c :: d :: e :: r, _, h =>
    have := h (4, e) (by simp [enumP])
    simp [inP] at this

theorem enum_small (k : Nat) (ps : List ByteArray) (h : k + ps.length ≤ 4) : ∀ x ∈ enumP k ps, inP x := by
  induction ps generalizing k with
  | nil => simp [enumP]
  | cons a r ih =>
    intro x hx
    simp only [enumP, List.mem_cons] at hx
    simp only [List.length_cons] at h
    rcases hx with rfl | hx
    · simp only [inP]; omega
    · exact ih (k + 1) (by omega) x hx
theorem wop_long (ps : List ByteArray) (h : 4 < ps.length) : Pl.wop ps = (0, 0, 0, 0) := by
  match ps, h with
  | a :: b :: c :: d :: e :: r, _ => rfl

theorem row_kept {A B : World} {row : Option Nat} {b : Nat} {cs : Array Value} {ty : TypeId} (h : A.heap[b]? = some (.cells cs ty (0, 0))) (hg : A.grownBy B row) (hr : ∀ r, row = some r → ∃ o : Obj, A.heap[r]? = some o ∧ o.isCells = false) : B.heap[b]? = some (.cells cs ty (0, 0)) := by
  have hlt : b < A.heap.size := (Array.getElem?_eq_some_iff.1 h).1
  rw [← h]
  refine hg.block b hlt (fun e => ?_)
  obtain ⟨_, ho, hc⟩ := hr b e.symm
  rw [h] at ho
  obtain rfl := Option.some.inj ho
  cases hc

theorem below_keeps {W W' : World} (h : Below W.heap.size W W') : KeepsOthers W W' :=
  ⟨h.size, fun k _ hk _ => (h.block k (Array.getElem?_eq_some_iff.1 hk).1).trans hk⟩

/-- Four stores into a word's block. -/
theorem stored4 {W : World} {b : Nat} {q : Pl.W4} (h : W.heap[b]? = some (.cells (qv q) 24 (0, 0))) (k1 k2 k3 k4 : Int) :
    ((((W.setCell ⟨b, 0, none⟩ (.int .i64 k1)).setCell ⟨b, 1, none⟩ (.int .i64 k2)).setCell ⟨b, 2, none⟩ (.int .i64 k3)).setCell ⟨b, 3, none⟩ (.int .i64 k4)).heap[b]? = some (.cells (qv (k1, k2, k3, k4)) 24 (0, 0)) := by
  have h1 : (W.setCell ⟨b, 0, none⟩ (.int .i64 k1)).heap[b]? = some (.cells (qv (k1, q.2.1, q.2.2.1, q.2.2.2)) 24 (0, 0)) := by rw [heap_setCell_same _ _ _ _ _ _ h]; rfl
  have h2 : ((W.setCell ⟨b, 0, none⟩ (.int .i64 k1)).setCell ⟨b, 1, none⟩ (.int .i64 k2)).heap[b]? = some (.cells (qv (k1, k2, q.2.2.1, q.2.2.2)) 24 (0, 0)) := by rw [heap_setCell_same _ _ _ _ _ _ h1]; rfl
  have h3 : (((W.setCell ⟨b, 0, none⟩ (.int .i64 k1)).setCell ⟨b, 1, none⟩ (.int .i64 k2)).setCell ⟨b, 2, none⟩ (.int .i64 k3)).heap[b]? = some (.cells (qv (k1, k2, k3, q.2.2.2)) 24 (0, 0)) := by rw [heap_setCell_same _ _ _ _ _ _ h2]; rfl
  rw [heap_setCell_same _ _ _ _ _ _ h3]; rfl
theorem keeps4 (W : World) (b : Nat) (x y z u : Value) : KeepsOthers W ((((W.setCell ⟨b, 0, none⟩ x).setCell ⟨b, 1, none⟩ y).setCell ⟨b, 2, none⟩ z).setCell ⟨b, 3, none⟩ u) :=
  (((KeepsOthers.setCell _ _ _).trans (KeepsOthers.setCell _ _ _)).trans (KeepsOthers.setCell _ _ _)).trans (KeepsOthers.setCell _ _ _)
theorem below4 {w W : World} {b n : Nat} (h : Below n w W) (hb : n ≤ b) (x y z u : Value) : Below n w ((((W.setCell ⟨b, 0, none⟩ x).setCell ⟨b, 1, none⟩ y).setCell ⟨b, 2, none⟩ z).setCell ⟨b, 3, none⟩ u) :=
  (((h.setCell (p := ⟨b, 0, none⟩) hb _).setCell (p := ⟨b, 1, none⟩) hb _).setCell (p := ⟨b, 2, none⟩) hb _).setCell (p := ⟨b, 3, none⟩) hb _

def IW (w : World) (pre : List (Int × ByteArray)) (W : World) : Prop :=
  ((W.heap[w.heap.size + 1]? = some (.cells (qv (foldP pre)) 24 (0, 0)) ∧ W.heap[w.heap.size]? = some (.cells (qv (0, 0, 0, 0)) 24 (0, 0))) ∧ ∀ x ∈ pre, inP x) ∧ Below w.heap.size w W
def IxW (w : World) (c : Code) (pre : List (Int × ByteArray)) (W : World) : Prop :=
  (c = .ret ∧ W.heap[w.heap.size]? = some (.cells (qv (0, 0, 0, 0)) 24 (0, 0)) ∧ ∃ x ∈ pre, ¬ inP x) ∧ Below w.heap.size w W

set_option maxRecDepth 100000 in
set_option maxHeartbeats 4000000 in
theorem wop_any (s : ByteArray) (w : World) (hs : s.size ≤ 1000) (hN : Names8 w) (hE : ErrV w) :
    Calls Tryd.prog 21 #[.string s] w fun e w' => ∃ k h t m, e = .returned (wordV k h t m) ∧ Pl.wop (Pl.cutB s) = (k, h, t, m) ∧ Below w.heap.size w w' := by
  have HN := hidden hN
  have HE := hidden hE
  clear hN hE
  have hps : ∀ p ∈ Pl.cutB s, p.size ≤ 1000 := by
    intro p hp
    obtain ⟨x, hx, rfl⟩ := List.mem_map.1 hp
    have := cut_piece s.data.toList x hx
    have h2 : (Pl.bs x).size = x.length := by simp [Pl.bs, ByteArray.size]
    have h3 : s.data.toList.length = s.size := by simp
    omega
  have HP := hidden hps
  clear hps
  refine (callsIn_wide (n := 5)).1 ?_
  refine callsIn_of_wp_marks Tryd.func21 rfl trivial ?_ rfl
  simp only [Tryd.ntmps21, List.size_toArray, List.length_cons, List.length_nil, Nat.reduceAdd, Nat.reduceSub, Array.replicate_succ, Array.replicate_zero, List.push_toArray, List.append_toArray, List.nil_append, List.cons_append]
  gi_wp2_with (refine ⟨trivial, ?_⟩; gi_at_call 29; refine (callsIn_wide.2 (newPieces_any _ _)).mono ?_; rintro e w' ⟨rfl, rfl⟩)
  have hB0 : Below w.heap.size w (((w.alloc (.cells (qv (0, 0, 0, 0)) 24)).alloc (.cells (qv (0, 0, 0, 0)) 24)).alloc (.cells #[.string s] 9)) := (((Below.refl _ w).alloc (Nat.le_refl _) _).alloc (by simp) _).alloc (by simp; omega) _
  have I0 : IW w [] (((w.alloc (.cells (qv (0, 0, 0, 0)) 24)).alloc (.cells (qv (0, 0, 0, 0)) 24)).alloc (.cells #[.string s] 9)) := by
    refine ⟨⟨⟨?_, ?_⟩, fun x hx => by cases hx⟩, hB0⟩
    · rw [Below.heap_alloc _ _ _ (by simp)]
      have := heap_alloc_new (w.alloc (.cells (qv (0, 0, 0, 0)) 24)) (.cells (qv (0, 0, 0, 0)) 24)
      simpa [foldP] using this
    · rw [Below.heap_alloc _ _ _ (by simp; omega), Below.heap_alloc _ _ _ (by simp)]
      exact heap_alloc_new w _
  have hc0 : (((w.alloc (.cells (qv (0, 0, 0, 0)) 24)).alloc (.cells (qv (0, 0, 0, 0)) 24)).alloc (.cells #[.string s] 9)).cell? ⟨w.heap.size + 1 + 1, 0, none⟩ = some (.string s) := by
    have h := heap_alloc_new ((w.alloc (.cells (qv (0, 0, 0, 0)) 24)).alloc (.cells (qv (0, 0, 0, 0)) 24)) (.cells #[.string s] 9)
    rw [World.size_alloc, World.size_alloc] at h
    rw [cell_of_row _ _ _ _ _ _ h]
    rfl
  refine wpIn_rangeFunc_ownF rfl (by omega) (gf := 33) (lb := #[.pointer (some ⟨w.heap.size + 1 + 1, 0, none⟩)]) rfl trivial (enters_of Tryd.func33 (by kernel_rfl) rfl)
    (pieces_stops 4 (by omega) s hs (w.heap.size + 1 + 1) _ (by simp) hc0) walksK_t walksK_b (Below.refl _ _) (fun _ => rfl)
    (IW w) (IxW w)
    (OwnFrom.and (Own.from (fun s A B row hs hg hr => ⟨⟨row_kept hs.1.1 hg hr, row_kept hs.1.2 hg hr⟩, hs.2⟩) _) (ownFrom_below (Nat.le_refl _) (by simp; omega)))
    (fun c => OwnFrom.and (Own.from (fun s A B row hs hg hr => ⟨hs.1, row_kept hs.2.1 hg hr, hs.2.2⟩) _) (ownFrom_below (Nat.le_refl _) (by simp; omega)))
    I0
    (fun x => { tmps := #[.string s, undef, .pointer (some ⟨w.heap.size, 0, none⟩), .pointer (some ⟨w.heap.size + 1, 0, none⟩), .int .i64 x.1, .string (cl x.2), .string s, .func (.func 33) #[] #[.pointer (some ⟨w.heap.size + 1 + 1, 0, none⟩)], .int .i64 x.1, .string (cl x.2), undef, undef, undef, undef, undef, undef, undef, undef, undef, undef, undef, undef, undef, undef, undef, undef, undef, undef, undef, undef, undef, undef, undef], defers := [] }) ?assign ?body ?done ?stop
  case assign =>
    intro l x W K hK
    gi_wp2
    exact hK
  case body =>
    rintro l pre x W ⟨⟨⟨hq, hr⟩, hin⟩, hB⟩ _
    obtain ⟨i, b⟩ := x
    have NW := hidden (HN.out.later hB (Nat.le_refl _))
    have EW := hidden (HE.out.later hB (Nat.le_refl _))
    have HQ := hidden hq
    have HR := hidden hr
    have HI := hidden hin
    have HB := hidden hB
    have d1 : 1 ≤ 5 - 1 - 1 := by omega
    clear hq hr hin hB I0 hc0 hB0
    have wl : w.heap.size + 1 < W.heap.size := (Array.getElem?_eq_some_iff.1 HQ.out).1
    have hsnoc : ∀ k : Int, Hid (k = 0 ∨ k = 1 ∨ k = 2 ∨ k = 3) → ∀ x ∈ pre ++ [(k, b)], inP x := fun k hk x hx => by
      rcases List.mem_append.1 hx with h | h
      · exact HI.out x h
      · obtain rfl : x = (k, b) := by simpa using h
        exact hk.out
    have FIN := fun (W2 : World) (hb2 : Below W.heap.size W W2) (j : Nat) (v : Int) (k : Int) (hk : Hid (k = 0 ∨ k = 1 ∨ k = 2 ∨ k = 3)) (e : (qv (foldP pre)).setIfInBounds j (.int .i64 v) = qv (stepP (foldP pre) (k, b))) =>
      (show KeepsOthers W (W2.setCell ⟨w.heap.size + 1, j, none⟩ (.int .i64 v)) ∧ KeepsWalks W (W2.setCell ⟨w.heap.size + 1, j, none⟩ (.int .i64 v)) ∧ IW w (pre ++ [(k, b)]) (W2.setCell ⟨w.heap.size + 1, j, none⟩ (.int .i64 v)) from by
        have k1 : KeepsOthers W (W2.setCell ⟨w.heap.size + 1, j, none⟩ (.int .i64 v)) := (below_keeps hb2).trans (KeepsOthers.setCell _ _ _)
        have q2 : W2.heap[w.heap.size + 1]? = some (.cells (qv (foldP pre)) 24 (0, 0)) := (hb2.block _ wl).trans HQ.out
        have r2 : W2.heap[w.heap.size]? = some (.cells (qv (0, 0, 0, 0)) 24 (0, 0)) := (hb2.block _ (by omega)).trans HR.out
        refine ⟨k1, k1.walks, ⟨⟨?_, ?_⟩, hsnoc k hk⟩, (HB.out.trans (hb2.mono HB.out.size)).setCell (p := ⟨w.heap.size + 1, j, none⟩) (by simp) _⟩
        · rw [heap_setCell_same _ _ _ _ _ _ q2, e, foldP_snoc]
        · rw [Below.heap_setCell _ _ _ _ (by simp)]; exact r2)
    have HF := hidden FIN
    clear FIN hsnoc
    have cq : ∀ (W2 : World), Below W.heap.size W W2 → (W2.cell? ⟨w.heap.size + 1, 0, none⟩ = some (.int .i64 (foldP pre).1) ∧ W2.cell? ⟨w.heap.size + 1, 1, none⟩ = some (.int .i64 (foldP pre).2.1) ∧ W2.cell? ⟨w.heap.size + 1, 2, none⟩ = some (.int .i64 (foldP pre).2.2.1) ∧ W2.cell? ⟨w.heap.size + 1, 3, none⟩ = some (.int .i64 (foldP pre).2.2.2)) ∧ ∀ j, W2.frozen? ⟨w.heap.size + 1, j, none⟩ = false := fun W2 hb2 => by
      have q2 : W2.heap[w.heap.size + 1]? = some (.cells (qv (foldP pre)) 24 (0, 0)) := (hb2.block _ wl).trans HQ.out
      refine ⟨⟨?_, ?_, ?_, ?_⟩, fun j => frozen_of_row _ _ _ _ _ q2⟩ <;> rw [cell_of_row _ _ _ _ _ _ q2] <;> rfl
    have CQ := hidden cq
    clear cq
    by_cases i0 : i = 0
    · subst i0
      obtain ⟨⟨c0, c1, c2, c3⟩, fz⟩ := CQ.out W (Below.refl _ _)
      gi_wp2_with (refine ⟨trivial, ?_⟩; gi_at_call 30; refine (CallsIn.inRound l (callsIn_wide.2 (wkind_any (cl b) _ NW.out))).mono ?_; rintro e w' ⟨rfl, rfl⟩)
      exact HF.out _ (Below.refl _ _) 0 _ 0 (hidden (by omega)) (by simp [stepP])
    by_cases i1 : i = 1
    · subst i1
      gi_wp2_with (refine ⟨trivial, ?_⟩; gi_at_call 31; refine (CallsIn.inRound l (callsIn_wide.2 (piece_any (cl b) _ (cl_size b) EW.out))).mono ?_; rintro e W2 ⟨rfl, hb2⟩; have K2 := hidden hb2; obtain ⟨⟨c0, c1, c2, c3⟩, fz⟩ := CQ.out W2 hb2; clear hb2)
      exact HF.out _ K2.out 1 _ 1 (hidden (by omega)) (by simp [stepP])
    by_cases i2 : i = 2
    · subst i2
      gi_wp2_with (refine ⟨trivial, ?_⟩; gi_at_call 31; refine (CallsIn.inRound l (callsIn_wide.2 (piece_any (cl b) _ (cl_size b) EW.out))).mono ?_; rintro e W2 ⟨rfl, hb2⟩; have K2 := hidden hb2; obtain ⟨⟨c0, c1, c2, c3⟩, fz⟩ := CQ.out W2 hb2; clear hb2)
      exact HF.out _ K2.out 2 _ 2 (hidden (by omega)) (by simp [stepP])
    by_cases i3 : i = 3
    · subst i3
      gi_wp2_with (refine ⟨trivial, ?_⟩; gi_at_call 31; refine (CallsIn.inRound l (callsIn_wide.2 (piece_any (cl b) _ (cl_size b) EW.out))).mono ?_; rintro e W2 ⟨rfl, hb2⟩; have K2 := hidden hb2; obtain ⟨⟨c0, c1, c2, c3⟩, fz⟩ := CQ.out W2 hb2; clear hb2)
      exact HF.out _ K2.out 3 _ 3 (hidden (by omega)) (by simp [stepP])
    have r0 : W.cell? ⟨w.heap.size, 0, none⟩ = some (.int .i64 0) := by rw [cell_of_row _ _ _ _ _ _ HR.out]; rfl
    have r1 : W.cell? ⟨w.heap.size, 1, none⟩ = some (.int .i64 0) := by rw [cell_of_row _ _ _ _ _ _ HR.out]; rfl
    have r2 : W.cell? ⟨w.heap.size, 2, none⟩ = some (.int .i64 0) := by rw [cell_of_row _ _ _ _ _ _ HR.out]; rfl
    have r3 : W.cell? ⟨w.heap.size, 3, none⟩ = some (.int .i64 0) := by rw [cell_of_row _ _ _ _ _ _ HR.out]; rfl
    have rf := fun j => frozen_of_row W w.heap.size j _ _ HR.out
    gi_wp2
    have h4 := stored4 HR.out 0 0 0 0
    refine ⟨keeps4 _ _ _ _ _ _, ⟨rfl, h4, (i, b), by simp, by simp [inP, i0, i1, i2, i3]⟩, ?_⟩
    exact (((HB.out.setCell (p := ⟨w.heap.size, 0, none⟩) (Nat.le_refl _) _).setCell (p := ⟨w.heap.size, 1, none⟩) (Nat.le_refl _) _).setCell (p := ⟨w.heap.size, 2, none⟩) (Nat.le_refl _) _).setCell (p := ⟨w.heap.size, 3, none⟩) (Nat.le_refl _) _
  case done =>
    rintro D xs W hD rfl ⟨⟨⟨hq, hr⟩, hin⟩, hB⟩ hK
    have W0 := wop_enum _ HP.out hin
    generalize foldP (enumP 0 (Pl.cutB s)) = q at hq W0
    obtain ⟨k, h, t, m⟩ := q
    have q0 : W.cell? ⟨w.heap.size + 1, 0, none⟩ = some (.int .i64 k) := by rw [cell_of_row _ _ _ _ _ _ hq]; rfl
    have q1 : W.cell? ⟨w.heap.size + 1, 1, none⟩ = some (.int .i64 h) := by rw [cell_of_row _ _ _ _ _ _ hq]; rfl
    have q2 : W.cell? ⟨w.heap.size + 1, 2, none⟩ = some (.int .i64 t) := by rw [cell_of_row _ _ _ _ _ _ hq]; rfl
    have q3 : W.cell? ⟨w.heap.size + 1, 3, none⟩ = some (.int .i64 m) := by rw [cell_of_row _ _ _ _ _ _ hq]; rfl
    have r0 : W.cell? ⟨w.heap.size, 0, none⟩ = some (.int .i64 0) := by rw [cell_of_row _ _ _ _ _ _ hr]; rfl
    have r1 : W.cell? ⟨w.heap.size, 1, none⟩ = some (.int .i64 0) := by rw [cell_of_row _ _ _ _ _ _ hr]; rfl
    have r2 : W.cell? ⟨w.heap.size, 2, none⟩ = some (.int .i64 0) := by rw [cell_of_row _ _ _ _ _ _ hr]; rfl
    have r3 : W.cell? ⟨w.heap.size, 3, none⟩ = some (.int .i64 0) := by rw [cell_of_row _ _ _ _ _ _ hr]; rfl
    have rf := fun j => frozen_of_row W w.heap.size j _ _ hr
    have HWB := hidden W0
    have HBB := hidden hB
    have HRR := hidden hr
    clear W0 hB hr hq hin I0 hc0 hB0
    gi_wp2
    have hK' := (keeps4 W w.heap.size (.int .i64 k) (.int .i64 h) (.int .i64 t) (.int .i64 m)).same D _ hK rfl
    have hb4 := below4 HBB.out (Nat.le_refl _) (.int .i64 k) (.int .i64 h) (.int .i64 t) (.int .i64 m)
    have h4 := stored4 HRR.out k h t m
    generalize ((((W.setCell ⟨w.heap.size, 0, none⟩ (.int .i64 k)).setCell ⟨w.heap.size, 1, none⟩ (.int .i64 h)).setCell ⟨w.heap.size, 2, none⟩ (.int .i64 t)).setCell ⟨w.heap.size, 3, none⟩ (.int .i64 m)) = W4 at hK' hb4 h4
    refine ⟨by simp, .inl ⟨_, _, rfl, run_takeDeferred hK', ?_⟩⟩
    have h5 := row_kept h4 (grownBy_putObj' _ D (.deferred none)) (fun r e => by cases e; exact ⟨_, hK', rfl⟩)
    refine ⟨wordV k h t m, ?_, k, h, t, m, rfl, HWB.out, hb4.trans (belowK_b (w := w) (Nat.le_refl _) W4 D _ _ (by simp at hD; omega) hK' rfl rfl)⟩
    have e0 : (W4.putObj D (.deferred none)).cell? ⟨w.heap.size, 0, none⟩ = some (.int .i64 k) := by rw [cell_of_row _ _ _ _ _ _ h5]; rfl
    have e1 : (W4.putObj D (.deferred none)).cell? ⟨w.heap.size, 1, none⟩ = some (.int .i64 h) := by rw [cell_of_row _ _ _ _ _ _ h5]; rfl
    have e2 : (W4.putObj D (.deferred none)).cell? ⟨w.heap.size, 2, none⟩ = some (.int .i64 t) := by rw [cell_of_row _ _ _ _ _ _ h5]; rfl
    have e3 : (W4.putObj D (.deferred none)).cell? ⟨w.heap.size, 3, none⟩ = some (.int .i64 m) := by rw [cell_of_row _ _ _ _ _ _ h5]; rfl
    simp [results, Tryd.results21, go_sem, e0, e1, e2, e3]
  case stop =>
    rintro D c pre W hD hpre ⟨⟨rfl, hr, x, hx, hin⟩, hB⟩ hK
    have hlong : 4 < (Pl.cutB s).length := by
      apply Decidable.byContradiction
      intro h
      exact hin (enum_small 0 (Pl.cutB s) (by omega) x (hpre.subset hx))
    have HWB := hidden (wop_long _ hlong)
    clear hlong hin hx hpre I0 hc0 hB0
    gi_wp2
    refine ⟨by simp, .inl ⟨_, _, rfl, run_takeDeferred hK, ?_⟩⟩
    have h5 := row_kept hr (grownBy_putObj' _ D (.deferred none)) (fun r e => by cases e; exact ⟨_, hK, rfl⟩)
    refine ⟨wordV 0 0 0 0, ?_, 0, 0, 0, 0, rfl, HWB.out, hB.trans (belowK_b (w := w) (Nat.le_refl _) W D _ _ (by simp at hD; omega) hK rfl rfl)⟩
    have e0 : (W.putObj D (.deferred none)).cell? ⟨w.heap.size, 0, none⟩ = some (.int .i64 0) := by rw [cell_of_row _ _ _ _ _ _ h5]; rfl
    have e1 : (W.putObj D (.deferred none)).cell? ⟨w.heap.size, 1, none⟩ = some (.int .i64 0) := by rw [cell_of_row _ _ _ _ _ _ h5]; rfl
    have e2 : (W.putObj D (.deferred none)).cell? ⟨w.heap.size, 2, none⟩ = some (.int .i64 0) := by rw [cell_of_row _ _ _ _ _ _ h5]; rfl
    have e3 : (W.putObj D (.deferred none)).cell? ⟨w.heap.size, 3, none⟩ = some (.int .i64 0) := by rw [cell_of_row _ _ _ _ _ _ h5]; rfl
    simp [results, Tryd.results21, go_sem, e0, e1, e2, e3]

end Go.Proofs.YtleinjblokepmaaDoor
