/- What the last text of this claim stands on, part 6: plain facts and contracts; the last text says what is proved. -/
import Derived.Test.YtgknnigjlnfplaaDoorBase5
import Derived.Deep.LoopGhost

namespace Go.Proofs.YtgknnigjlnfplaaDoor
open Go.RowKit

theorem Blk.cells1 {w : World} {b : Nat} {x0 : Value} {ty : TypeId} (h : Blk w b #[x0] ty) : w.cell? ⟨b, 0, none⟩ = some x0 := by
  rw [h.cell]; rfl

set_option maxRecDepth 100000 in
set_option maxHeartbeats 4000000 in
theorem wordOf_any (k h t : Int) (v : Value) (zs : List Int) (s : Int) (w : World) (hv : Ints w v zs) (hz : zs.length = 3) (hh : 1 ≤ h ∧ h ≤ 3) :
    Calls Tryd.prog 41 #[.int .i64 k, .int .i64 h, .int .i64 t, .agg #[v, .int .i64 s]] w fun e w' => e = .returned (wordV k h t (if k = 1 then zs.getD (h - 1).toNat 0 else 0)) ∧ Below w.heap.size w w' := by
  obtain ⟨b1, off, cap, rfl, hc⟩ := ints_cell hv (by intro e; rw [e] at hz; simp at hz)
  obtain ⟨M, hM⟩ : ∃ M : Nat, (h - 1).toNat = M := ⟨_, rfl⟩
  obtain rfl : h = (M : Int) + 1 := by omega
  obtain ⟨z, hzz⟩ : ∃ z, zs.getD M 0 = z := ⟨_, rfl⟩
  have c0 := hc M (by omega)
  rw [hM, hzz]
  rw [hzz] at c0
  have c3 := fun x y z => cellAlloc (cellAlloc (cellAlloc c0 x) y) z
  have hM3 : M < 3 := by omega
  clear hc hzz hM hv c0
  by_cases h1 : k = 1
  · subst h1
    obtain ⟨V, hV⟩ : ∃ V, (if (1 : Int) = 1 then z else 0) = V := ⟨_, rfl⟩
    rw [hV]
    have HV : Hid (z = V) := by rw [← hV]; rfl
    clear hV
    go_enter Tryd.func41, Tryd.ntmps41
    go_wp2
    refine bodyPost_ret (v := wordV 1 ((M : Int) + 1) t z) (by simp [results, Tryd.results41, go_sem]) rfl ?_
    exact ⟨by rw [HV.out], Below.alloc (below2 _ _ _) (by simp; omega) _⟩
  · have e1 : (k == 1) = false := by simpa using h1
    rw [if_neg h1]
    go_enter Tryd.func41, Tryd.ntmps41
    go_wp2
    refine bodyPost_ret (v := wordV k ((M : Int) + 1) t 0) (by simp [results, Tryd.results41, go_sem]) rfl ?_
    exact ⟨rfl, Below.alloc (below2 _ _ _) (by simp; omega) _⟩

theorem head_cells {w : World} {b off n cap : Nat} {p : Wd} {t : List Wd} (h : Words w (.slice (some ⟨b, off, none⟩) n cap) (p :: t)) : w.cell? ⟨b, off, none⟩ = some (.int .i64 p.1) ∧ w.cell? ⟨b, off + 1, none⟩ = some (.int .i64 p.2.1) ∧ w.cell? ⟨b, off + 2, none⟩ = some (.int .i64 p.2.2.1) ∧ w.cell? ⟨b, off + 3, none⟩ = some (.int .i64 p.2.2.2) := by
  rcases h with ⟨h0, _⟩ | ⟨b1, off1, cap1, e, _, hc⟩
  · cases h0
  · simp only [Value.slice.injEq, Option.some.injEq, Addr.mk.injEq, and_true] at e
    obtain ⟨⟨rfl, rfl⟩, -, -⟩ := e
    have d0 := hc 0 (by simp)
    simp only [Nat.zero_mul, Nat.add_zero, List.getD_cons_zero] at d0
    exact d0
theorem Words.other {w : World} {b i : Nat} {v : Value} {hs : List Wd} (h : Words w v hs) (hn : v.ownBlock ≠ some b) (x : Value) : Words (w.setCell ⟨b, i, none⟩ x) v hs := by
  rcases h with h | ⟨b1, off, cap, rfl, h0, hc⟩
  · exact Or.inl h
  · refine Or.inr ⟨b1, off, cap, rfl, h0, fun k hk => ?_⟩
    have e : ∀ j, (w.setCell ⟨b, i, none⟩ x).cell? ⟨b1, j, none⟩ = w.cell? ⟨b1, j, none⟩ := fun j => World.cell?_of_block (Below.heap_setCell _ _ _ _ (fun h => hn (congrArg some h)))
    rw [e, e, e, e]
    exact hc k hk
theorem Kept.then_below {ts : List TypeId} {w a b : World} (h : Kept ts w a) (k : Below w.heap.size a b) : Kept ts w b :=
  ⟨k.os.trans h.os, k.tape.trans h.tape, k.output.trans h.output, Nat.le_trans h.size k.size, fun i o hi hn => by rw [k.block i (lt_of_heap hi)]; exact h.keep i o hi hn⟩
theorem words_tail0 {w : World} {b1 off n cap : Nat} {p : Wd} {t : List Wd} (h : Words w (.slice (some ⟨b1, off, none⟩) n cap) (p :: t)) (hn : t.length + 1 = n) (hc : n ≤ cap) :
    Words w (.slice (if cap = 1 then some ⟨b1, off, none⟩ else some ⟨b1, off + 4, none⟩) (n - 1) (cap - 1)) t := by
  rcases h with ⟨h0, _⟩ | ⟨b2, off2, cap2, e2, _, hcs⟩
  · cases h0
  · simp only [Value.slice.injEq, Option.some.injEq, Addr.mk.injEq, and_true] at e2
    obtain ⟨⟨rfl, rfl⟩, -, rfl⟩ := e2
    cases t with
    | nil =>
      refine Or.inl ⟨rfl, _, cap - 1, by rw [show n - 1 = 0 by simp at hn; omega], fun e3 => ?_⟩
      split at e3 <;> cases e3
    | cons q t =>
      have hc1 : ¬ cap = 1 := by simp at hn; omega
      rw [if_neg hc1]
      refine Or.inr ⟨b1, off + 4, cap - 1, by rw [show n - 1 = (q :: t).length by simp at hn ⊢; omega], by simp, fun k hk => ?_⟩
      have d := hcs (k + 1) (by simp at hk ⊢; omega)
      rw [show off + (k + 1) * 4 = off + 4 + k * 4 by omega] at d
      simpa using d
theorem words_tail {w : World} {b b1 off n cap : Nat} {p : Wd} {t : List Wd} {x : Value} (h : Words w (.slice (some ⟨b1, off, none⟩) n cap) (p :: t)) (hn : t.length + 1 = n) (hc : n ≤ cap) (hne : b1 ≠ b) :
    Words (w.setCell ⟨b, 0, none⟩ x) (.slice (if cap = 1 then some ⟨b1, off, none⟩ else some ⟨b1, off + 4, none⟩) (n - 1) (cap - 1)) t := by
  have e : ∀ i, (w.setCell ⟨b, 0, none⟩ x).cell? ⟨b1, i, none⟩ = w.cell? ⟨b1, i, none⟩ := fun i => World.cell?_of_block (Below.heap_setCell _ _ _ _ hne)
  rcases h with ⟨h0, _⟩ | ⟨b2, off2, cap2, e2, _, hcs⟩
  · cases h0
  · simp only [Value.slice.injEq, Option.some.injEq, Addr.mk.injEq, and_true] at e2
    obtain ⟨⟨rfl, rfl⟩, -, rfl⟩ := e2
    cases t with
    | nil =>
      refine Or.inl ⟨rfl, _, cap - 1, by rw [show n - 1 = 0 by simp at hn; omega], fun e3 => ?_⟩
      split at e3 <;> cases e3
    | cons q t =>
      have hc1 : ¬ cap = 1 := by simp at hn; omega
      rw [if_neg hc1]
      refine Or.inr ⟨b1, off + 4, cap - 1, by rw [show n - 1 = (q :: t).length by simp at hn ⊢; omega], by simp, fun k hk => ?_⟩
      have d := hcs (k + 1) (by simp at hk ⊢; omega)
      rw [show off + (k + 1) * 4 = off + 4 + k * 4 by omega] at d
      rw [e, e, e, e]
      simpa using d
theorem box_set {w : World} {c b : Nat} {x0 y : Value} {z0 z1 z2 z3 : Value} {ty : TypeId} (_ : Blk w c #[x0] ty) (hx : w.cell? ⟨b, 0, none⟩ = some z0 ∧ w.cell? ⟨b, 1, none⟩ = some z1 ∧ w.cell? ⟨b, 2, none⟩ = some z2 ∧ w.cell? ⟨b, 3, none⟩ = some z3) (hn : c ≠ b) :
    (w.setCell ⟨c, 0, none⟩ y).cell? ⟨b, 0, none⟩ = some z0 ∧ (w.setCell ⟨c, 0, none⟩ y).cell? ⟨b, 1, none⟩ = some z1 ∧ (w.setCell ⟨c, 0, none⟩ y).cell? ⟨b, 2, none⟩ = some z2 ∧ (w.setCell ⟨c, 0, none⟩ y).cell? ⟨b, 3, none⟩ = some z3 := by
  have e : ∀ i, (w.setCell ⟨c, 0, none⟩ y).cell? ⟨b, i, none⟩ = w.cell? ⟨b, i, none⟩ := fun i => World.cell?_of_block (Below.heap_setCell _ _ _ _ (fun h => hn h.symm))
  rw [e, e, e, e]
  exact hx
/-- A queue of words, as it lies. -/
def QuAt (w : World) (lo b : Nat) (qs : List Wd) (ao : Option Addr) (co : Nat) : Prop :=
  Blk w b #[.slice ao qs.length co] 55 ∧ w.ownsRow lo 58 4 (.slice ao qs.length co) qs.length (wflat qs)
theorem push_end {w w1 w2 w3 : World} {b lo co : Nat} {x : Value} {qs : List Wd} {p : Wd} {ao : Option Addr} (h1 : Below w.heap.size w w1) (h2 : Below w1.heap.size w1 w2) (hk : Kept [58] w2 w3) (hc : Blk w3 b #[x] 55)
    (ho : w3.ownsRow lo 58 4 (.slice ao (qs.length + 1) co) (qs.length + 1) (wflat (qs ++ [p]))) (hl : Below lo w2 w3) (hlo : lo ≤ w.heap.size) (hb : lo ≤ b) :
    QuAt (w3.setCell ⟨b, 0, none⟩ (.slice ao (qs.length + 1) co)) lo b (qs ++ [p]) ao co ∧ Kept [58, 55] w (w3.setCell ⟨b, 0, none⟩ (.slice ao (qs.length + 1) co)) ∧ Below lo w (w3.setCell ⟨b, 0, none⟩ (.slice ao (qs.length + 1) co)) ∧ ∀ (c : Nat) (cs : Array Value), c ≠ b → Blk w c cs 55 → Blk (w3.setCell ⟨b, 0, none⟩ (.slice ao (qs.length + 1) co)) c cs 55 := by
  have hq : (qs ++ [p]).length = qs.length + 1 := by simp
  have hs := Kept.set_ (ts := [55]) hc (by decide) (i := 0) (.slice ao (qs.length + 1) co)
  have h12 : Below lo w w2 := (h1.mono hlo).trans (h2.mono (Nat.le_trans hlo h1.size))
  refine ⟨⟨?_, ?_⟩, ?_, Below.setCell (h12.trans hl) hb _, fun c cs hn hc' => (hk.blk ((hc'.after h1).after h2) (by decide)).other hn _⟩
  · rw [hq]
    have := hc.set_ 0 (.slice ao (qs.length + 1) co)
    simpa using this
  · rw [hq]
    exact hs.row ho (by decide)
  · exact ((Kept.of_below h1).trans (Kept.of_below h2)).trans ((hk.mono (by intro t ht; simp at ht; subst ht; simp)).trans (hs.mono (by intro t ht; simp at ht; subst ht; simp)))

set_option maxRecDepth 100000 in
set_option maxHeartbeats 4000000 in
theorem qpush_any (b lo : Nat) (ao : Option Addr) (co : Nat) (qs : List Wd) (p : Wd) (w : World) (hq : QuAt w lo b qs ao co) (hlo : lo ≤ w.heap.size) (hbl : lo ≤ b) (hl : qs.length ≤ 1000) :
    Calls Tryd.prog 40 #[.pointer (some ⟨b, 0, none⟩), wordV p.1 p.2.1 p.2.2.1 p.2.2.2] w fun e w' => e = .returned (.tuple #[]) ∧ ∃ ao co, QuAt w' lo b (qs ++ [p]) ao co ∧ Kept [58, 55] w w' ∧ Below lo w w' ∧ ∀ (c : Nat) (cs : Array Value), c ≠ b → Blk w c cs 55 → Blk w' c cs 55 := by
  obtain ⟨hq, ho⟩ := hq
  obtain ⟨au, rfl⟩ : ∃ au, ao = au := ⟨_, rfl⟩
  obtain ⟨cu, rfl⟩ : ∃ cu, co = cu := ⟨_, rfl⟩
  obtain ⟨w1, hw1⟩ : ∃ W, Hid (W = w.alloc (.cells #[.int .i64 p.1, .int .i64 p.2.1, .int .i64 p.2.2.1, .int .i64 p.2.2.2] 58)) := ⟨_, rfl⟩
  have A1 : Hid (Below w.heap.size w w1) := by show Below _ _ _; rw [hw1.out]; exact alloc_below _ _
  have X1 : Hid (Blk w1 w.heap.size #[.int .i64 p.1, .int .i64 p.2.1, .int .i64 p.2.2.1, .int .i64 p.2.2.2] 58) := by show Blk _ _ _ _; rw [hw1.out]; exact Blk.new _ _ _
  have C1 := hide_it (hq.after A1.out)
  have O1 := hide_it (ownsRow_below ho A1.out (fun k hk => (ho.lt k hk).2))
  have hlo1 : lo ≤ w1.heap.size := Nat.le_trans hlo A1.out.size
  have hbw := hq.lt
  have HUX : Hid ((Value.slice ao qs.length co).ownBlock ≠ some w.heap.size) := fun e => by have := (ho.lt _ e).2; omega
  have HBX : Hid (b ≠ w.heap.size) := by show b ≠ _; omega
  have d3 := C1.out.cells1
  clear hq ho
  go_enter Tryd.func40, Tryd.ntmps40
  go_wp2_with fail
  rw [← hw1.out]
  refine wp_region_held_drew (S := fun w' => (w'.cell? ⟨w.heap.size, 0, none⟩ = some (.int .i64 p.1) ∧ w'.cell? ⟨w.heap.size, 1, none⟩ = some (.int .i64 p.2.1) ∧ w'.cell? ⟨w.heap.size, 2, none⟩ = some (.int .i64 p.2.2.1) ∧ w'.cell? ⟨w.heap.size, 3, none⟩ = some (.int .i64 p.2.2.2))) (by kernel_rfl) X1.out.cells4 (fun hHeld => ?_)
  refine takeD (i := 0) (v := ?_) (some 4) rfl rfl (by kernel_rfl) (by kernel_rfl) (by kernel_rfl) (fun _ _ _ h => h) (by rfl) hHeld ?_ ?_
  rotate_left
  · intro W hSw
    try dsimp only at hSw
    go_simp
    try with_reducible rfl
  try simp only [Act.put]
  try simp only [List.setIfInBounds_toArray]
  try simp only [List.set_cons_succ]
  try simp only [List.set_cons_zero]
  refine takeD (i := 1) (v := ?_) (some 5) rfl rfl (by kernel_rfl) (by kernel_rfl) (by kernel_rfl) (fun _ _ _ h => h) (by rfl) hHeld ?_ ?_
  rotate_left
  · intro W hSw
    try dsimp only at hSw
    go_simp
    try with_reducible rfl
  try simp only [Act.put]
  try simp only [List.setIfInBounds_toArray]
  try simp only [List.set_cons_succ]
  try simp only [List.set_cons_zero]
  refine takeD (i := 2) (v := ?_) (some 6) rfl rfl (by kernel_rfl) (by kernel_rfl) (by kernel_rfl) (fun _ _ _ h => h) (by rfl) hHeld ?_ ?_
  rotate_left
  · intro W hSw
    try dsimp only at hSw
    go_simp
    try with_reducible rfl
  try simp only [Act.put]
  try simp only [List.setIfInBounds_toArray]
  try simp only [List.set_cons_succ]
  try simp only [List.set_cons_zero]
  refine takeD (i := 3) (v := ?_) (some 7) rfl rfl (by kernel_rfl) (by kernel_rfl) (by kernel_rfl) (fun _ _ _ h => h) (by rfl) hHeld ?_ ?_
  rotate_left
  · intro W hSw
    try dsimp only at hSw
    go_simp
    try with_reducible rfl
  try simp only [Act.put]
  try simp only [List.setIfInBounds_toArray]
  try simp only [List.set_cons_succ]
  try simp only [List.set_cons_zero]
  refine takeD (i := 5) (v := ?_) (some 9) rfl rfl (by kernel_rfl) (by kernel_rfl) (by kernel_rfl) (fun _ _ _ h => h) (by rfl) hHeld ?_ ?_
  rotate_left
  · intro W hSw
    try dsimp only at hSw
    go_simp
    try with_reducible rfl
  try simp only [Act.put]
  try simp only [List.setIfInBounds_toArray]
  try simp only [List.set_cons_succ]
  try simp only [List.set_cons_zero]
  refine wpAnyH_ready (rs := [4, 6]) (by kernel_rfl) (by simp) ?_
  refine AllReadyH.cons rfl (fun K hK => ?_) (AllReadyH.cons rfl (fun K hK => ?_) AllReadyH.nil)
  · go_simp
    
    try dsimp only
    refine hK.out _ _ hHeld (fun hHeld => ?_)
    clear hK K
    refine wpAnyH_ready (rs := [6]) (by kernel_rfl) (by simp) ?_
    refine AllReadyH.cons rfl (fun K hK => ?_) AllReadyH.nil
    go_simp
    obtain ⟨w2, hw2⟩ : ∃ W, Hid (W = (w1.alloc (.cells #[.int .i64 p.1, .int .i64 p.2.1, .int .i64 p.2.2.1, .int .i64 p.2.2.2] 58)).drew) := ⟨_, rfl⟩
    rw [← hw2.out]
    have al2 : Below w1.heap.size w1 w2 := by rw [hw2.out]; exact (alloc_below w1 _).drew
    have C2 := hide_it (C1.out.after al2)
    have X2 := hide_it (X1.out.after al2)
    have P2 : Hid (Words w2 (.slice (some ⟨w1.heap.size, 0, none⟩) 1 1) [p]) := by show Words _ _ _; rw [hw2.out]; exact (words_one w1 p).later (Below.refl _ _).drew (Nat.le_refl _)
    have O2 := hide_it (ownsRow_below O1.out al2 (fun k hk => (O1.out.lt k hk).2))
    have A2 := hide_it al2
    have hlo2 : lo ≤ w2.heap.size := Nat.le_trans hlo1 al2.size
    clear al2
    have d3 := C2.out.cells1
    try dsimp only
    refine hK.out _ _ X2.out.cells4 (fun hHeld => ?_)
    clear hK K
    refine wpAnyH_ready (rs := [7]) (by kernel_rfl) (by simp) ?_
    refine AllReadyH.cons rfl (fun K hK => ?_) AllReadyH.nil
    skip
    refine step_append_words rfl _ _ rfl lo (.slice ao qs.length co) (.slice (some ⟨w1.heap.size, 0, none⟩) 1 1) qs.length (wflat qs) [p] rfl rfl O2.out P2.out (by simp; omega) hlo2 ?_
    intro a3 c3 w3 hown hgrow loc
    have k3 : Kept [58] w2 w3 := Kept.of_row O2.out hgrow (by decide)
    have C3 := hide_it (k3.blk C2.out (by decide))
    have K3 := hide_it k3
    have hown2 : w3.ownsRow lo 58 4 (.slice a3 (qs.length + 1) c3) (qs.length + 1) (wflat (qs ++ [p])) := by simpa [wflat, wflat_append] using hown
    have O3 := hide_it hown2
    have L3 : Hid (Below lo w2 w3) := (Below.refl lo w2).grown hgrow hlo2 (fun j hj => (O2.out.lt j hj).1)
    have X3 := hide_it (box_kept X2.out hgrow HUX.out)
    clear k3 hown hown2 hgrow loc
    have m0 := C3.out.cells1
    have n0 := C3.out.free 0
    try dsimp only
    refine hK.out _ _ X3.out (fun hHeld => ?_)
    clear hK K
    refine takeD (i := 8) (v := ?_) (some 12) rfl rfl (by kernel_rfl) (by kernel_rfl) (by kernel_rfl) (fun _ _ _ h => h) (by rfl) hHeld ?_ ?_
    rotate_left
    · intro W hSw
      try dsimp only at hSw
      go_simp
      try with_reducible rfl
    try simp only [Act.put]
    try simp only [List.setIfInBounds_toArray]
    try simp only [List.set_cons_succ]
    try simp only [List.set_cons_zero]
    refine takeD (i := 9) (v := ?_) (some 13) rfl rfl (by kernel_rfl) (by kernel_rfl) (by kernel_rfl) (fun _ _ _ h => h) (by rfl) hHeld ?_ ?_
    rotate_left
    · intro W hSw
      try dsimp only at hSw
      go_simp
      try with_reducible rfl
    try simp only [Act.put]
    try simp only [List.setIfInBounds_toArray]
    try simp only [List.set_cons_succ]
    try simp only [List.set_cons_zero]
    refine wpAnyH_ready (rs := [10]) (by kernel_rfl) (by simp) ?_
    refine AllReadyH.cons rfl (fun K hK => ?_) AllReadyH.nil
    go_simp
    
    try dsimp only
    refine hK.out _ _ (by exact ⟨by simpa using (box_set (C3.out) X3.out HBX.out).1, (box_set (C3.out) X3.out HBX.out).2.1, (box_set (C3.out) X3.out HBX.out).2.2.1, (box_set (C3.out) X3.out HBX.out).2.2.2⟩) (fun hHeld => ?_)
    clear hK K
    refine wpAnyH_done (by kernel_rfl) ?_ _
    go_wp2
    refine bodyPost_end (v := .tuple #[]) (by simp [results, Tryd.results40, go_sem]) rfl ⟨rfl, _, _, push_end A1.out A2.out K3.out C3.out O3.out L3.out hlo hbl⟩
  · go_simp
    obtain ⟨w2, hw2⟩ : ∃ W, Hid (W = (w1.alloc (.cells #[.int .i64 p.1, .int .i64 p.2.1, .int .i64 p.2.2.1, .int .i64 p.2.2.2] 58)).drew) := ⟨_, rfl⟩
    rw [← hw2.out]
    have al2 : Below w1.heap.size w1 w2 := by rw [hw2.out]; exact (alloc_below w1 _).drew
    have C2 := hide_it (C1.out.after al2)
    have X2 := hide_it (X1.out.after al2)
    have P2 : Hid (Words w2 (.slice (some ⟨w1.heap.size, 0, none⟩) 1 1) [p]) := by show Words _ _ _; rw [hw2.out]; exact (words_one w1 p).later (Below.refl _ _).drew (Nat.le_refl _)
    have O2 := hide_it (ownsRow_below O1.out al2 (fun k hk => (O1.out.lt k hk).2))
    have A2 := hide_it al2
    have hlo2 : lo ≤ w2.heap.size := Nat.le_trans hlo1 al2.size
    clear al2
    have d3 := C2.out.cells1
    try dsimp only
    refine hK.out _ _ X2.out.cells4 (fun hHeld => ?_)
    clear hK K
    refine wpAnyH_ready (rs := [4]) (by kernel_rfl) (by simp) ?_
    refine AllReadyH.cons rfl (fun K hK => ?_) AllReadyH.nil
    go_simp
    
    try dsimp only
    refine hK.out _ _ hHeld (fun hHeld => ?_)
    clear hK K
    refine wpAnyH_ready (rs := [7]) (by kernel_rfl) (by simp) ?_
    refine AllReadyH.cons rfl (fun K hK => ?_) AllReadyH.nil
    skip
    refine step_append_words rfl _ _ rfl lo (.slice ao qs.length co) (.slice (some ⟨w1.heap.size, 0, none⟩) 1 1) qs.length (wflat qs) [p] rfl rfl O2.out P2.out (by simp; omega) hlo2 ?_
    intro a3 c3 w3 hown hgrow loc
    have k3 : Kept [58] w2 w3 := Kept.of_row O2.out hgrow (by decide)
    have C3 := hide_it (k3.blk C2.out (by decide))
    have K3 := hide_it k3
    have hown2 : w3.ownsRow lo 58 4 (.slice a3 (qs.length + 1) c3) (qs.length + 1) (wflat (qs ++ [p])) := by simpa [wflat, wflat_append] using hown
    have O3 := hide_it hown2
    have L3 : Hid (Below lo w2 w3) := (Below.refl lo w2).grown hgrow hlo2 (fun j hj => (O2.out.lt j hj).1)
    have X3 := hide_it (box_kept X2.out hgrow HUX.out)
    clear k3 hown hown2 hgrow loc
    have m0 := C3.out.cells1
    have n0 := C3.out.free 0
    try dsimp only
    refine hK.out _ _ X3.out (fun hHeld => ?_)
    clear hK K
    refine takeD (i := 8) (v := ?_) (some 12) rfl rfl (by kernel_rfl) (by kernel_rfl) (by kernel_rfl) (fun _ _ _ h => h) (by rfl) hHeld ?_ ?_
    rotate_left
    · intro W hSw
      try dsimp only at hSw
      go_simp
      try with_reducible rfl
    try simp only [Act.put]
    try simp only [List.setIfInBounds_toArray]
    try simp only [List.set_cons_succ]
    try simp only [List.set_cons_zero]
    refine takeD (i := 9) (v := ?_) (some 13) rfl rfl (by kernel_rfl) (by kernel_rfl) (by kernel_rfl) (fun _ _ _ h => h) (by rfl) hHeld ?_ ?_
    rotate_left
    · intro W hSw
      try dsimp only at hSw
      go_simp
      try with_reducible rfl
    try simp only [Act.put]
    try simp only [List.setIfInBounds_toArray]
    try simp only [List.set_cons_succ]
    try simp only [List.set_cons_zero]
    refine wpAnyH_ready (rs := [10]) (by kernel_rfl) (by simp) ?_
    refine AllReadyH.cons rfl (fun K hK => ?_) AllReadyH.nil
    go_simp
    
    try dsimp only
    refine hK.out _ _ (by exact ⟨by simpa using (box_set (C3.out) X3.out HBX.out).1, (box_set (C3.out) X3.out HBX.out).2.1, (box_set (C3.out) X3.out HBX.out).2.2.1, (box_set (C3.out) X3.out HBX.out).2.2.2⟩) (fun hHeld => ?_)
    clear hK K
    refine wpAnyH_done (by kernel_rfl) ?_ _
    go_wp2
    refine bodyPost_end (v := .tuple #[]) (by simp [results, Tryd.results40, go_sem]) rfl ⟨rfl, _, _, push_end A1.out A2.out K3.out C3.out O3.out L3.out hlo hbl⟩

set_option maxRecDepth 100000 in
set_option maxHeartbeats 4000000 in
theorem qnext_nil (b : Nat) (u : Value) (w : World) (hq : Blk w b #[u] 55) (hu : Words w u []) :
    Calls Tryd.prog 21 #[.pointer (some ⟨b, 0, none⟩)] w fun e w' => e = .returned (.tuple #[wordV 0 0 0 0, .bool false]) ∧ Below w.heap.size w w' := by
  obtain ⟨au, cu, rfl⟩ := hu.shape
  have c0 := hq.cells1
  have c1 := fun x y => cellAlloc (cellAlloc c0 x) y
  clear hq hu c0
  go_enter Tryd.func21, Tryd.ntmps21
  go_wp2
  refine bodyPost_ret (v := .tuple #[wordV 0 0 0 0, .bool false]) (by simp [results, Tryd.results21, go_sem]) rfl ?_
  exact ⟨rfl, below2 _ _ _⟩

set_option maxRecDepth 100000 in
set_option maxHeartbeats 4000000 in
theorem qnext_cons (b : Nat) (aq : Option Addr) (cq : Nat) (p : Wd) (t : List Wd) (w : World) (hq : Blk w b #[.slice aq (t.length + 1) cq] 55) (hu : Words w (.slice aq (t.length + 1) cq) (p :: t)) (hl : t.length + 1 ≤ cq) :
    Calls Tryd.prog 21 #[.pointer (some ⟨b, 0, none⟩)] w fun e w' => e = .returned (.tuple #[wordV p.1 p.2.1 p.2.2.1 p.2.2.2, .bool true]) ∧ ∃ ao co, Blk w' b #[.slice ao t.length co] 55 ∧ Words w' (.slice ao t.length co) t ∧ (∀ W, Words W (.slice aq (t.length + 1) cq) (p :: t) → Words W (.slice ao t.length co) t) ∧ t.length ≤ co ∧ Kept [55] w w' ∧ Below b w w' := by
  rcases hu with ⟨h0, _⟩ | ⟨b1, off, cap, hvv, _, hc⟩
  · cases h0
  · simp only [Value.slice.injEq] at hvv
    obtain ⟨rfl, -, rfl⟩ := hvv
    have d0 := hc 0 (by simp)
    simp only [Nat.zero_mul, Nat.add_zero, List.getD_cons_zero] at d0
    obtain ⟨e0, e1, e2, e3⟩ := d0
    have c0 := hq.cells1
    have cf := hq.free 0
    have hbl := hq.lt
    have hne : b1 ≠ b := fun e => by
      subst e
      rw [hq.cell] at e1
      simp at e1
    have hb1 : b1 < w.heap.size := World.block_lt_of_cell? _ _ e0
    obtain ⟨n, hn⟩ : ∃ n, t.length + 1 = n := ⟨_, rfl⟩
    have hn' : (p :: t).length = n := hn
    have HQ := hide_it hq
    have HB1 : Hid (b ≠ w.heap.size + 1) := by show b ≠ _; omega
    rw [hn] at HQ c0 hl
    rw [hn'] at hc
    have HN := hide_it hn
    have hlen : ((n : Int) == 0) = false := by simp; omega
    have hn1 : (1 : Int) ≤ (n : Int) := by omega
    have hnN : 0 < n := by omega
    have hn0 : (0 : Int) < (n : Int) := by omega
    have WU : Hid (∀ W, Below w.heap.size w W → Words W (.slice (some ⟨b1, off, none⟩) n cq) (p :: t)) := fun W h => by
      have h0 : Words w (.slice (some ⟨b1, off, none⟩) n cq) (p :: t) := Or.inr ⟨b1, off, cq, by rw [hn'], by simp, by rw [hn']; exact hc⟩
      exact h0.later h (Nat.le_refl _)
    have c1 := fun x y => cellAlloc (cellAlloc c0 x) y
    obtain ⟨w2, hw2⟩ : ∃ W, Hid (W = (w.alloc (.cells #[.int .i64 0, .int .i64 0, .int .i64 0, .int .i64 0] 58)).alloc (.cells #[.int .i64 0, .int .i64 0, .int .i64 0, .int .i64 0] 58)) := ⟨_, rfl⟩
    obtain ⟨wd, hwd⟩ : ∃ W, Hid (W = w2.drew) := ⟨_, rfl⟩
    have LD : Hid (Below w.heap.size w wd) := by show Below _ _ _; rw [hwd.out, hw2.out]; exact (below2 _ _ _).drew
    have CB : Hid (Blk wd b #[.slice (some ⟨b1, off, none⟩) n cq] 55) := HQ.out.after LD.out
    have XB : Hid (Blk wd w.heap.size #[.int .i64 0, .int .i64 0, .int .i64 0, .int .i64 0] 58) := by show Blk _ _ _ _; rw [hwd.out, hw2.out]; exact ((Blk.new _ _ _).alloc _).drew
    have YB : Hid (Blk wd (w.heap.size + 1) #[.int .i64 0, .int .i64 0, .int .i64 0, .int .i64 0] 58) := by show Blk _ _ _ _; rw [hwd.out, hw2.out]; exact (Blk.new2 _ _ _ _).drew
    have d0 := CB.out.cells1
    clear c0 e0 e1 e2 e3 hc hq hn hn' cf
    go_enter Tryd.func21, Tryd.ntmps21
    go_wp2_with fail
    rw [← hw2.out]
    refine wp_region_held_drew (S := fun w' => w'.cell? ⟨b1, off, none⟩ = some (.int .i64 p.1) ∧ w'.cell? ⟨b1, off + 1, none⟩ = some (.int .i64 p.2.1) ∧ w'.cell? ⟨b1, off + 2, none⟩ = some (.int .i64 p.2.2.1) ∧ w'.cell? ⟨b1, off + 3, none⟩ = some (.int .i64 p.2.2.2)) (by kernel_rfl) (by rw [← hwd.out]; exact head_cells (WU.out _ LD.out)) (fun hHeld => ?_)
    rw [← hwd.out] at hHeld ⊢
    refine takeD (i := 0) (v := ?_) (some 12) rfl rfl (by kernel_rfl) (by kernel_rfl) (by kernel_rfl) (fun _ _ _ h => h) (by rfl) hHeld ?_ ?_
    rotate_left
    · intro W hSw
      try dsimp only at hSw
      go_simp
      try with_reducible rfl
    try simp only [Act.put]
    try simp only [List.setIfInBounds_toArray]
    try simp only [List.set_cons_succ]
    try simp only [List.set_cons_zero]
    refine takeD (i := 1) (v := ?_) (some 13) rfl rfl (by kernel_rfl) (by kernel_rfl) (by kernel_rfl) (fun _ _ _ h => h) (by rfl) hHeld ?_ ?_
    rotate_left
    · intro W hSw
      try dsimp only at hSw
      go_simp
      try with_reducible rfl
    try simp only [Act.put]
    try simp only [List.setIfInBounds_toArray]
    try simp only [List.set_cons_succ]
    try simp only [List.set_cons_zero]
    refine takeD (i := 2) (v := ?_) (some 14) rfl rfl (by kernel_rfl) (by kernel_rfl) (by kernel_rfl) (fun _ _ _ h => h) (by rfl) hHeld ?_ ?_
    rotate_left
    · intro W hSw
      try dsimp only at hSw
      go_simp
      try with_reducible rfl
    try simp only [Act.put]
    try simp only [List.setIfInBounds_toArray]
    try simp only [List.set_cons_succ]
    try simp only [List.set_cons_zero]
    refine takeD (i := 3) (v := ?_) (some 15) rfl rfl (by kernel_rfl) (by kernel_rfl) (by kernel_rfl) (fun _ _ _ h => h) (by rfl) hHeld ?_ ?_
    rotate_left
    · intro W hSw
      try dsimp only at hSw
      go_simp
      try with_reducible rfl
    try simp only [Act.put]
    try simp only [List.setIfInBounds_toArray]
    try simp only [List.set_cons_succ]
    try simp only [List.set_cons_zero]
    refine takeD (i := 7) (v := ?_) (some 19) rfl rfl (by kernel_rfl) (by kernel_rfl) (by kernel_rfl) (fun _ _ _ h => h) (by rfl) hHeld ?_ ?_
    rotate_left
    · intro W hSw
      try dsimp only at hSw
      go_simp
      try with_reducible rfl
    try simp only [Act.put]
    try simp only [List.setIfInBounds_toArray]
    try simp only [List.set_cons_succ]
    try simp only [List.set_cons_zero]
    refine takeD (i := 8) (v := ?_) (some 20) rfl rfl (by kernel_rfl) (by kernel_rfl) (by kernel_rfl) (fun _ _ _ h => h) (by rfl) hHeld ?_ ?_
    rotate_left
    · intro W hSw
      try dsimp only at hSw
      go_simp
      try with_reducible rfl
    try simp only [Act.put]
    try simp only [List.setIfInBounds_toArray]
    try simp only [List.set_cons_succ]
    try simp only [List.set_cons_zero]
    refine takeD (i := 9) (v := ?_) (some 21) rfl rfl (by kernel_rfl) (by kernel_rfl) (by kernel_rfl) (fun _ _ _ h => h) (by rfl) hHeld ?_ ?_
    rotate_left
    · intro W hSw
      try dsimp only at hSw
      go_simp
      try with_reducible rfl
    try simp only [Act.put]
    try simp only [List.setIfInBounds_toArray]
    try simp only [List.set_cons_succ]
    try simp only [List.set_cons_zero]
    refine wpAnyH_ready (rs := [4, 10]) (by kernel_rfl) (by simp) ?_
    refine AllReadyH.cons rfl (fun K hK => ?_) (AllReadyH.cons rfl (fun K hK => ?_) AllReadyH.nil)
    · go_simp
      
      try dsimp only
      refine hK.out _ _ hHeld (fun hHeld => ?_)
      clear hK K
      refine takeD (i := 5) (v := ?_) (some 17) rfl rfl (by kernel_rfl) (by kernel_rfl) (by kernel_rfl) (fun _ _ _ h => h) (by rfl) hHeld ?_ ?_
      rotate_left
      · intro W hSw
        try dsimp only at hSw
        go_simp
        try with_reducible rfl
      try simp only [Act.put]
      try simp only [List.setIfInBounds_toArray]
      try simp only [List.set_cons_succ]
      try simp only [List.set_cons_zero]
      refine takeD (i := 6) (v := ?_) (some 18) rfl rfl (by kernel_rfl) (by kernel_rfl) (by kernel_rfl) (fun _ _ _ h => h) (by rfl) hHeld ?_ ?_
      rotate_left
      · intro W hSw
        try dsimp only at hSw
        go_simp
        try with_reducible rfl
      try simp only [Act.put]
      try simp only [List.setIfInBounds_toArray]
      try simp only [List.set_cons_succ]
      try simp only [List.set_cons_zero]
      refine wpAnyH_ready (rs := [10, 12]) (by kernel_rfl) (by simp) ?_
      refine AllReadyH.cons rfl (fun K hK => ?_) (AllReadyH.cons rfl (fun K hK => ?_) AllReadyH.nil)
      · go_simp
        
        try dsimp only
        refine hK.out _ _ hHeld (fun hHeld => ?_)
        clear hK K
        refine takeD (i := 11) (v := ?_) (some 23) rfl rfl (by kernel_rfl) (by kernel_rfl) (by kernel_rfl) (fun _ _ _ h => h) (by rfl) hHeld ?_ ?_
        rotate_left
        · intro W hSw
          try dsimp only at hSw
          go_simp
          try with_reducible rfl
        try simp only [Act.put]
        try simp only [List.setIfInBounds_toArray]
        try simp only [List.set_cons_succ]
        try simp only [List.set_cons_zero]
        refine wpAnyH_ready (rs := [12]) (by kernel_rfl) (by simp) ?_
        refine AllReadyH.cons rfl (fun K hK => ?_) AllReadyH.nil
        go_simp
        have n0 := YB.out.free 0
        have n1 := YB.out.free 1
        have n2 := YB.out.free 2
        have n3 := YB.out.free 3
        obtain ⟨q0, q1, q2, q3⟩ := YB.out.cells4
        go_simp
        obtain ⟨w3, hw3⟩ : ∃ W, Hid (W = ((((wd.setCell ⟨w.heap.size + 1, 0, none⟩ (.int .i64 p.1)).setCell ⟨w.heap.size + 1, 1, none⟩ (.int .i64 p.2.1)).setCell ⟨w.heap.size + 1, 2, none⟩ (.int .i64 p.2.2.1)).setCell ⟨w.heap.size + 1, 3, none⟩ (.int .i64 p.2.2.2))) := ⟨_, rfl⟩
        have C3 : Hid (Blk w3 b #[.slice (some ⟨b1, off, none⟩) n cq] 55) := by show Blk _ _ _ _; rw [hw3.out]; exact other_set4 CB.out HB1.out _ _ _ _
        have X3 : Hid (Blk w3 w.heap.size #[.int .i64 0, .int .i64 0, .int .i64 0, .int .i64 0] 58) := by show Blk _ _ _ _; rw [hw3.out]; exact other_set4 XB.out (by omega) _ _ _ _
        have Y3 : Hid (Blk w3 (w.heap.size + 1) #[.int .i64 p.1, .int .i64 p.2.1, .int .i64 p.2.2.1, .int .i64 p.2.2.2] 58) := by show Blk _ _ _ _; rw [hw3.out]; exact (kept_set4 YB.out _ _ _ _).2
        have L3 : Hid (Below w.heap.size w w3) := by show Below _ _ _; rw [hw3.out]; iterate 4 (refine Below.setCell ?_ (by simp) _)
                                                     exact LD.out
        rw [← hw3.out]
        clear n0 n1 n2 n3 q0 q1 q2 q3 d0
        have d0 := C3.out.cells1
        have d1 := C3.out.free 0
        try dsimp only
        refine hK.out _ _ (head_cells (WU.out _ L3.out)) (fun hHeld => ?_)
        clear hK K
        refine takeD (i := 13) (v := ?_) (some 24) rfl rfl (by kernel_rfl) (by kernel_rfl) (by kernel_rfl) (fun _ _ _ h => h) (by rfl) hHeld ?_ ?_
        rotate_left
        · intro W hSw
          try dsimp only at hSw
          go_simp
          try with_reducible rfl
        try simp only [Act.put]
        try simp only [List.setIfInBounds_toArray]
        try simp only [List.set_cons_succ]
        try simp only [List.set_cons_zero]
        refine takeD (i := 14) (v := ?_) (some 25) rfl rfl (by kernel_rfl) (by kernel_rfl) (by kernel_rfl) (fun _ _ _ h => h) (by rfl) hHeld ?_ ?_
        rotate_left
        · intro W hSw
          try dsimp only at hSw
          go_simp
          try with_reducible rfl
        try simp only [Act.put]
        try simp only [List.setIfInBounds_toArray]
        try simp only [List.set_cons_succ]
        try simp only [List.set_cons_zero]
        refine wpAnyH_ready (rs := [15]) (by kernel_rfl) (by simp) ?_
        refine AllReadyH.cons rfl (fun K hK => ?_) AllReadyH.nil
        go_simp
        obtain ⟨PP, hPP⟩ : ∃ x, Hid ((if cq = 1 then some (⟨b1, off, none⟩ : Addr) else some ⟨b1, off + 4, none⟩) = x) := ⟨_, rfl⟩
        rw [hPP.out]
        have HPB : Hid ((Value.slice PP (n - 1) (cq - 1)).ownBlock = some b1) := by show _ = _; rw [← hPP.out]; split <;> rfl
        obtain ⟨w4, hw4⟩ : ∃ W, Hid (W = w3.setCell ⟨b, 0, none⟩ (.slice PP (n - 1) (cq - 1))) := ⟨_, rfl⟩
        have C4 : Hid (Blk w4 b #[.slice PP (n - 1) (cq - 1)] 55) := by show Blk _ _ _ _; rw [hw4.out]; have := C3.out.set_ 0 (.slice PP (n - 1) (cq - 1)); simpa using this
        have K34 : Hid (Kept [55] w3 w4) := by show Kept _ _ _; rw [hw4.out]; exact Kept.set_ C3.out (by decide) _
        have X4 := hide_it (K34.out.blk X3.out (by decide))
        have Y4 := hide_it (K34.out.blk Y3.out (by decide))
        have H4 : Hid (w4.cell? ⟨b1, off, none⟩ = some (.int .i64 p.1) ∧ w4.cell? ⟨b1, off + 1, none⟩ = some (.int .i64 p.2.1) ∧ w4.cell? ⟨b1, off + 2, none⟩ = some (.int .i64 p.2.2.1) ∧ w4.cell? ⟨b1, off + 3, none⟩ = some (.int .i64 p.2.2.2)) := by
          show _ ∧ _
          have h0 := head_cells (WU.out _ L3.out)
          have e : ∀ i, w4.cell? ⟨b1, i, none⟩ = w3.cell? ⟨b1, i, none⟩ := fun i => by rw [hw4.out]; exact World.cell?_of_block (Below.heap_setCell _ _ _ _ hne)
          rw [e, e, e, e]
          exact h0
        have L4 : Hid (Below b w w4) := by show Below _ _ _; rw [hw4.out]; refine Below.setCell ?_ (Nat.le_refl b) _; exact L3.out.mono (by omega)
        have WT : Hid (Words w4 (.slice PP (n - 1) (cq - 1)) t) := by
          show Words _ _ _
          rw [hw4.out, ← hPP.out]
          exact words_tail (WU.out _ L3.out) HN.out (by omega) hne
        rw [← hw4.out]
        try dsimp only
        refine hK.out _ _ H4.out (fun hHeld => ?_)
        clear hK K
        refine wpAnyH_done (by kernel_rfl) ?_ _
        obtain ⟨y0, y1, y2, y3⟩ := Y4.out.cells4
        obtain ⟨x0, x1, x2, x3⟩ := X4.out.cells4
        have xf0 := X4.out.free 0
        have xf1 := X4.out.free 1
        have xf2 := X4.out.free 2
        have xf3 := X4.out.free 3
        have K24 : Hid (Kept [55] w w4) := (Kept.of_below L3.out).trans K34.out
        have hs4 : w.heap.size < w4.heap.size := X4.out.lt
        go_wp2
        refine bodyPost_ret (v := .tuple #[wordV p.1 p.2.1 p.2.2.1 p.2.2.2, .bool true]) (by simp [results, Tryd.results21, go_sem, *]) rfl ?_
        have hnt : n - 1 = t.length := by have := HN.out; omega
        have hbs : (Value.slice PP (n - 1) (cq - 1)).ownBlock ≠ some w.heap.size := by rw [HPB.out]; intro e; simp at e; omega
        have C5 := other_set4 C4.out (c := b) (b := w.heap.size) (by omega) (.int .i64 p.1) (.int .i64 p.2.1) (.int .i64 p.2.2.1) (.int .i64 p.2.2.2)
        have W5 := (((WT.out.other hbs (i := 0) (.int .i64 p.1)).other hbs (i := 1) (.int .i64 p.2.1)).other hbs (i := 2) (.int .i64 p.2.2.1)).other hbs (i := 3) (.int .i64 p.2.2.2)
        rw [hnt] at C5 W5
        refine ⟨rfl, PP, cq - 1, C5, W5, fun W hW => ?_, by have := HN.out; omega, K24.out.then_below ?_, ?_⟩
        · rw [← hnt, ← hPP.out]
          exact words_tail0 (by rw [← HN.out]; exact hW) HN.out (by omega)
        · iterate 4 (refine Below.setCell ?_ (by simp) _)
          exact Below.refl _ _
        · iterate 4 (refine Below.setCell ?_ (by show b ≤ w.heap.size; omega) _)
          exact L4.out
      · go_simp
        have n0 := YB.out.free 0
        have n1 := YB.out.free 1
        have n2 := YB.out.free 2
        have n3 := YB.out.free 3
        obtain ⟨q0, q1, q2, q3⟩ := YB.out.cells4
        go_simp
        obtain ⟨w3, hw3⟩ : ∃ W, Hid (W = ((((wd.setCell ⟨w.heap.size + 1, 0, none⟩ (.int .i64 p.1)).setCell ⟨w.heap.size + 1, 1, none⟩ (.int .i64 p.2.1)).setCell ⟨w.heap.size + 1, 2, none⟩ (.int .i64 p.2.2.1)).setCell ⟨w.heap.size + 1, 3, none⟩ (.int .i64 p.2.2.2))) := ⟨_, rfl⟩
        have C3 : Hid (Blk w3 b #[.slice (some ⟨b1, off, none⟩) n cq] 55) := by show Blk _ _ _ _; rw [hw3.out]; exact other_set4 CB.out HB1.out _ _ _ _
        have X3 : Hid (Blk w3 w.heap.size #[.int .i64 0, .int .i64 0, .int .i64 0, .int .i64 0] 58) := by show Blk _ _ _ _; rw [hw3.out]; exact other_set4 XB.out (by omega) _ _ _ _
        have Y3 : Hid (Blk w3 (w.heap.size + 1) #[.int .i64 p.1, .int .i64 p.2.1, .int .i64 p.2.2.1, .int .i64 p.2.2.2] 58) := by show Blk _ _ _ _; rw [hw3.out]; exact (kept_set4 YB.out _ _ _ _).2
        have L3 : Hid (Below w.heap.size w w3) := by show Below _ _ _; rw [hw3.out]; iterate 4 (refine Below.setCell ?_ (by simp) _)
                                                     exact LD.out
        rw [← hw3.out]
        clear n0 n1 n2 n3 q0 q1 q2 q3 d0
        have d0 := C3.out.cells1
        have d1 := C3.out.free 0
        try dsimp only
        refine hK.out _ _ (head_cells (WU.out _ L3.out)) (fun hHeld => ?_)
        clear hK K
        refine wpAnyH_ready (rs := [10]) (by kernel_rfl) (by simp) ?_
        refine AllReadyH.cons rfl (fun K hK => ?_) AllReadyH.nil
        go_simp
        
        try dsimp only
        refine hK.out _ _ hHeld (fun hHeld => ?_)
        clear hK K
        refine takeD (i := 11) (v := ?_) (some 23) rfl rfl (by kernel_rfl) (by kernel_rfl) (by kernel_rfl) (fun _ _ _ h => h) (by rfl) hHeld ?_ ?_
        rotate_left
        · intro W hSw
          try dsimp only at hSw
          go_simp
          try with_reducible rfl
        try simp only [Act.put]
        try simp only [List.setIfInBounds_toArray]
        try simp only [List.set_cons_succ]
        try simp only [List.set_cons_zero]
        refine takeD (i := 13) (v := ?_) (some 24) rfl rfl (by kernel_rfl) (by kernel_rfl) (by kernel_rfl) (fun _ _ _ h => h) (by rfl) hHeld ?_ ?_
        rotate_left
        · intro W hSw
          try dsimp only at hSw
          go_simp
          try with_reducible rfl
        try simp only [Act.put]
        try simp only [List.setIfInBounds_toArray]
        try simp only [List.set_cons_succ]
        try simp only [List.set_cons_zero]
        refine takeD (i := 14) (v := ?_) (some 25) rfl rfl (by kernel_rfl) (by kernel_rfl) (by kernel_rfl) (fun _ _ _ h => h) (by rfl) hHeld ?_ ?_
        rotate_left
        · intro W hSw
          try dsimp only at hSw
          go_simp
          try with_reducible rfl
        try simp only [Act.put]
        try simp only [List.setIfInBounds_toArray]
        try simp only [List.set_cons_succ]
        try simp only [List.set_cons_zero]
        refine wpAnyH_ready (rs := [15]) (by kernel_rfl) (by simp) ?_
        refine AllReadyH.cons rfl (fun K hK => ?_) AllReadyH.nil
        go_simp
        obtain ⟨PP, hPP⟩ : ∃ x, Hid ((if cq = 1 then some (⟨b1, off, none⟩ : Addr) else some ⟨b1, off + 4, none⟩) = x) := ⟨_, rfl⟩
        rw [hPP.out]
        have HPB : Hid ((Value.slice PP (n - 1) (cq - 1)).ownBlock = some b1) := by show _ = _; rw [← hPP.out]; split <;> rfl
        obtain ⟨w4, hw4⟩ : ∃ W, Hid (W = w3.setCell ⟨b, 0, none⟩ (.slice PP (n - 1) (cq - 1))) := ⟨_, rfl⟩
        have C4 : Hid (Blk w4 b #[.slice PP (n - 1) (cq - 1)] 55) := by show Blk _ _ _ _; rw [hw4.out]; have := C3.out.set_ 0 (.slice PP (n - 1) (cq - 1)); simpa using this
        have K34 : Hid (Kept [55] w3 w4) := by show Kept _ _ _; rw [hw4.out]; exact Kept.set_ C3.out (by decide) _
        have X4 := hide_it (K34.out.blk X3.out (by decide))
        have Y4 := hide_it (K34.out.blk Y3.out (by decide))
        have H4 : Hid (w4.cell? ⟨b1, off, none⟩ = some (.int .i64 p.1) ∧ w4.cell? ⟨b1, off + 1, none⟩ = some (.int .i64 p.2.1) ∧ w4.cell? ⟨b1, off + 2, none⟩ = some (.int .i64 p.2.2.1) ∧ w4.cell? ⟨b1, off + 3, none⟩ = some (.int .i64 p.2.2.2)) := by
          show _ ∧ _
          have h0 := head_cells (WU.out _ L3.out)
          have e : ∀ i, w4.cell? ⟨b1, i, none⟩ = w3.cell? ⟨b1, i, none⟩ := fun i => by rw [hw4.out]; exact World.cell?_of_block (Below.heap_setCell _ _ _ _ hne)
          rw [e, e, e, e]
          exact h0
        have L4 : Hid (Below b w w4) := by show Below _ _ _; rw [hw4.out]; refine Below.setCell ?_ (Nat.le_refl b) _; exact L3.out.mono (by omega)
        have WT : Hid (Words w4 (.slice PP (n - 1) (cq - 1)) t) := by
          show Words _ _ _
          rw [hw4.out, ← hPP.out]
          exact words_tail (WU.out _ L3.out) HN.out (by omega) hne
        rw [← hw4.out]
        try dsimp only
        refine hK.out _ _ H4.out (fun hHeld => ?_)
        clear hK K
        refine wpAnyH_done (by kernel_rfl) ?_ _
        obtain ⟨y0, y1, y2, y3⟩ := Y4.out.cells4
        obtain ⟨x0, x1, x2, x3⟩ := X4.out.cells4
        have xf0 := X4.out.free 0
        have xf1 := X4.out.free 1
        have xf2 := X4.out.free 2
        have xf3 := X4.out.free 3
        have K24 : Hid (Kept [55] w w4) := (Kept.of_below L3.out).trans K34.out
        have hs4 : w.heap.size < w4.heap.size := X4.out.lt
        go_wp2
        refine bodyPost_ret (v := .tuple #[wordV p.1 p.2.1 p.2.2.1 p.2.2.2, .bool true]) (by simp [results, Tryd.results21, go_sem, *]) rfl ?_
        have hnt : n - 1 = t.length := by have := HN.out; omega
        have hbs : (Value.slice PP (n - 1) (cq - 1)).ownBlock ≠ some w.heap.size := by rw [HPB.out]; intro e; simp at e; omega
        have C5 := other_set4 C4.out (c := b) (b := w.heap.size) (by omega) (.int .i64 p.1) (.int .i64 p.2.1) (.int .i64 p.2.2.1) (.int .i64 p.2.2.2)
        have W5 := (((WT.out.other hbs (i := 0) (.int .i64 p.1)).other hbs (i := 1) (.int .i64 p.2.1)).other hbs (i := 2) (.int .i64 p.2.2.1)).other hbs (i := 3) (.int .i64 p.2.2.2)
        rw [hnt] at C5 W5
        refine ⟨rfl, PP, cq - 1, C5, W5, fun W hW => ?_, by have := HN.out; omega, K24.out.then_below ?_, ?_⟩
        · rw [← hnt, ← hPP.out]
          exact words_tail0 (by rw [← HN.out]; exact hW) HN.out (by omega)
        · iterate 4 (refine Below.setCell ?_ (by simp) _)
          exact Below.refl _ _
        · iterate 4 (refine Below.setCell ?_ (by show b ≤ w.heap.size; omega) _)
          exact L4.out
    · go_simp
      
      try dsimp only
      refine hK.out _ _ hHeld (fun hHeld => ?_)
      clear hK K
      refine takeD (i := 11) (v := ?_) (some 23) rfl rfl (by kernel_rfl) (by kernel_rfl) (by kernel_rfl) (fun _ _ _ h => h) (by rfl) hHeld ?_ ?_
      rotate_left
      · intro W hSw
        try dsimp only at hSw
        go_simp
        try with_reducible rfl
      try simp only [Act.put]
      try simp only [List.setIfInBounds_toArray]
      try simp only [List.set_cons_succ]
      try simp only [List.set_cons_zero]
      refine wpAnyH_ready (rs := [4]) (by kernel_rfl) (by simp) ?_
      refine AllReadyH.cons rfl (fun K hK => ?_) AllReadyH.nil
      go_simp
      
      try dsimp only
      refine hK.out _ _ hHeld (fun hHeld => ?_)
      clear hK K
      refine takeD (i := 5) (v := ?_) (some 17) rfl rfl (by kernel_rfl) (by kernel_rfl) (by kernel_rfl) (fun _ _ _ h => h) (by rfl) hHeld ?_ ?_
      rotate_left
      · intro W hSw
        try dsimp only at hSw
        go_simp
        try with_reducible rfl
      try simp only [Act.put]
      try simp only [List.setIfInBounds_toArray]
      try simp only [List.set_cons_succ]
      try simp only [List.set_cons_zero]
      refine takeD (i := 6) (v := ?_) (some 18) rfl rfl (by kernel_rfl) (by kernel_rfl) (by kernel_rfl) (fun _ _ _ h => h) (by rfl) hHeld ?_ ?_
      rotate_left
      · intro W hSw
        try dsimp only at hSw
        go_simp
        try with_reducible rfl
      try simp only [Act.put]
      try simp only [List.setIfInBounds_toArray]
      try simp only [List.set_cons_succ]
      try simp only [List.set_cons_zero]
      refine wpAnyH_ready (rs := [12]) (by kernel_rfl) (by simp) ?_
      refine AllReadyH.cons rfl (fun K hK => ?_) AllReadyH.nil
      go_simp
      have n0 := YB.out.free 0
      have n1 := YB.out.free 1
      have n2 := YB.out.free 2
      have n3 := YB.out.free 3
      obtain ⟨q0, q1, q2, q3⟩ := YB.out.cells4
      go_simp
      obtain ⟨w3, hw3⟩ : ∃ W, Hid (W = ((((wd.setCell ⟨w.heap.size + 1, 0, none⟩ (.int .i64 p.1)).setCell ⟨w.heap.size + 1, 1, none⟩ (.int .i64 p.2.1)).setCell ⟨w.heap.size + 1, 2, none⟩ (.int .i64 p.2.2.1)).setCell ⟨w.heap.size + 1, 3, none⟩ (.int .i64 p.2.2.2))) := ⟨_, rfl⟩
      have C3 : Hid (Blk w3 b #[.slice (some ⟨b1, off, none⟩) n cq] 55) := by show Blk _ _ _ _; rw [hw3.out]; exact other_set4 CB.out HB1.out _ _ _ _
      have X3 : Hid (Blk w3 w.heap.size #[.int .i64 0, .int .i64 0, .int .i64 0, .int .i64 0] 58) := by show Blk _ _ _ _; rw [hw3.out]; exact other_set4 XB.out (by omega) _ _ _ _
      have Y3 : Hid (Blk w3 (w.heap.size + 1) #[.int .i64 p.1, .int .i64 p.2.1, .int .i64 p.2.2.1, .int .i64 p.2.2.2] 58) := by show Blk _ _ _ _; rw [hw3.out]; exact (kept_set4 YB.out _ _ _ _).2
      have L3 : Hid (Below w.heap.size w w3) := by show Below _ _ _; rw [hw3.out]; iterate 4 (refine Below.setCell ?_ (by simp) _)
                                                   exact LD.out
      rw [← hw3.out]
      clear n0 n1 n2 n3 q0 q1 q2 q3 d0
      have d0 := C3.out.cells1
      have d1 := C3.out.free 0
      try dsimp only
      refine hK.out _ _ (head_cells (WU.out _ L3.out)) (fun hHeld => ?_)
      clear hK K
      refine takeD (i := 13) (v := ?_) (some 24) rfl rfl (by kernel_rfl) (by kernel_rfl) (by kernel_rfl) (fun _ _ _ h => h) (by rfl) hHeld ?_ ?_
      rotate_left
      · intro W hSw
        try dsimp only at hSw
        go_simp
        try with_reducible rfl
      try simp only [Act.put]
      try simp only [List.setIfInBounds_toArray]
      try simp only [List.set_cons_succ]
      try simp only [List.set_cons_zero]
      refine takeD (i := 14) (v := ?_) (some 25) rfl rfl (by kernel_rfl) (by kernel_rfl) (by kernel_rfl) (fun _ _ _ h => h) (by rfl) hHeld ?_ ?_
      rotate_left
      · intro W hSw
        try dsimp only at hSw
        go_simp
        try with_reducible rfl
      try simp only [Act.put]
      try simp only [List.setIfInBounds_toArray]
      try simp only [List.set_cons_succ]
      try simp only [List.set_cons_zero]
      refine wpAnyH_ready (rs := [15]) (by kernel_rfl) (by simp) ?_
      refine AllReadyH.cons rfl (fun K hK => ?_) AllReadyH.nil
      go_simp
      obtain ⟨PP, hPP⟩ : ∃ x, Hid ((if cq = 1 then some (⟨b1, off, none⟩ : Addr) else some ⟨b1, off + 4, none⟩) = x) := ⟨_, rfl⟩
      rw [hPP.out]
      have HPB : Hid ((Value.slice PP (n - 1) (cq - 1)).ownBlock = some b1) := by show _ = _; rw [← hPP.out]; split <;> rfl
      obtain ⟨w4, hw4⟩ : ∃ W, Hid (W = w3.setCell ⟨b, 0, none⟩ (.slice PP (n - 1) (cq - 1))) := ⟨_, rfl⟩
      have C4 : Hid (Blk w4 b #[.slice PP (n - 1) (cq - 1)] 55) := by show Blk _ _ _ _; rw [hw4.out]; have := C3.out.set_ 0 (.slice PP (n - 1) (cq - 1)); simpa using this
      have K34 : Hid (Kept [55] w3 w4) := by show Kept _ _ _; rw [hw4.out]; exact Kept.set_ C3.out (by decide) _
      have X4 := hide_it (K34.out.blk X3.out (by decide))
      have Y4 := hide_it (K34.out.blk Y3.out (by decide))
      have H4 : Hid (w4.cell? ⟨b1, off, none⟩ = some (.int .i64 p.1) ∧ w4.cell? ⟨b1, off + 1, none⟩ = some (.int .i64 p.2.1) ∧ w4.cell? ⟨b1, off + 2, none⟩ = some (.int .i64 p.2.2.1) ∧ w4.cell? ⟨b1, off + 3, none⟩ = some (.int .i64 p.2.2.2)) := by
        show _ ∧ _
        have h0 := head_cells (WU.out _ L3.out)
        have e : ∀ i, w4.cell? ⟨b1, i, none⟩ = w3.cell? ⟨b1, i, none⟩ := fun i => by rw [hw4.out]; exact World.cell?_of_block (Below.heap_setCell _ _ _ _ hne)
        rw [e, e, e, e]
        exact h0
      have L4 : Hid (Below b w w4) := by show Below _ _ _; rw [hw4.out]; refine Below.setCell ?_ (Nat.le_refl b) _; exact L3.out.mono (by omega)
      have WT : Hid (Words w4 (.slice PP (n - 1) (cq - 1)) t) := by
        show Words _ _ _
        rw [hw4.out, ← hPP.out]
        exact words_tail (WU.out _ L3.out) HN.out (by omega) hne
      rw [← hw4.out]
      try dsimp only
      refine hK.out _ _ H4.out (fun hHeld => ?_)
      clear hK K
      refine wpAnyH_done (by kernel_rfl) ?_ _
      obtain ⟨y0, y1, y2, y3⟩ := Y4.out.cells4
      obtain ⟨x0, x1, x2, x3⟩ := X4.out.cells4
      have xf0 := X4.out.free 0
      have xf1 := X4.out.free 1
      have xf2 := X4.out.free 2
      have xf3 := X4.out.free 3
      have K24 : Hid (Kept [55] w w4) := (Kept.of_below L3.out).trans K34.out
      have hs4 : w.heap.size < w4.heap.size := X4.out.lt
      go_wp2
      refine bodyPost_ret (v := .tuple #[wordV p.1 p.2.1 p.2.2.1 p.2.2.2, .bool true]) (by simp [results, Tryd.results21, go_sem, *]) rfl ?_
      have hnt : n - 1 = t.length := by have := HN.out; omega
      have hbs : (Value.slice PP (n - 1) (cq - 1)).ownBlock ≠ some w.heap.size := by rw [HPB.out]; intro e; simp at e; omega
      have C5 := other_set4 C4.out (c := b) (b := w.heap.size) (by omega) (.int .i64 p.1) (.int .i64 p.2.1) (.int .i64 p.2.2.1) (.int .i64 p.2.2.2)
      have W5 := (((WT.out.other hbs (i := 0) (.int .i64 p.1)).other hbs (i := 1) (.int .i64 p.2.1)).other hbs (i := 2) (.int .i64 p.2.2.1)).other hbs (i := 3) (.int .i64 p.2.2.2)
      rw [hnt] at C5 W5
      refine ⟨rfl, PP, cq - 1, C5, W5, fun W hW => ?_, by have := HN.out; omega, K24.out.then_below ?_, ?_⟩
      · rw [← hnt, ← hPP.out]
        exact words_tail0 (by rw [← HN.out]; exact hW) HN.out (by omega)
      · iterate 4 (refine Below.setCell ?_ (by simp) _)
        exact Below.refl _ _
      · iterate 4 (refine Below.setCell ?_ (by show b ≤ w.heap.size; omega) _)
        exact L4.out

end Go.Proofs.YtgknnigjlnfplaaDoor

namespace Go.Proofs.YtgknnigjlnfplaaDoor
open Go.RowKit

def HsR (w w' : World) (e : Ending) (hs : List Int) : Prop := ∃ ao cap, e = .returned (.slice ao hs.length cap) ∧ w'.ownsRow w.heap.size 3 1 (.slice ao hs.length cap) hs.length (hs.map (Value.int .i64)) ∧ Below w.heap.size w w'
set_option maxRecDepth 100000 in
set_option maxHeartbeats 4000000 in
theorem housesOf_row (v : Value) (zs : List Int) (s : Int) (w : World) (hv : Ints w v zs) (hl : zs.length ≤ 3) :
    Calls Tryd.prog 38 #[.agg #[v, .int .i64 s]] w fun e w' => HsR w w' e (wants zs) := by
  obtain ⟨i0, hi, hz0, hz1, hz2⟩ := info_parts info3
  obtain ⟨w0, hw0⟩ : ∃ W, Hid (W = w.alloc (.cells #[v, .int .i64 s] 73)) := ⟨_, rfl⟩
  have B0 : Hid (Below w.heap.size w w0) := by show Below _ _ _; rw [hw0.out]; exact alloc_below _ _
  have X0 : Hid (Blk w0 w.heap.size #[v, .int .i64 s] 73) := by show Blk _ _ _ _; rw [hw0.out]; exact Blk.new _ _ _
  have HI : Hid (∀ W, Below w.heap.size w W → Ints W v zs) := fun W hb => hv.later hb (Nat.le_refl _)
  obtain ⟨av, cv, rfl⟩ := hv.shape
  clear hv
  obtain ⟨x0, x1⟩ := X0.out.cells2
  go_enter Tryd.func38, Tryd.ntmps38
  go_wp2
  rw [← hw0.out]
  clear x0 x1
  go_loopw [3, 9] (fun o i wr => ∃ q : Nat, q ≤ zs.length ∧ i = .int .i64 q ∧ Hid (wr.ownsRow w.heap.size 3 1 o (wantsK zs q).length ((wantsK zs q).map (Value.int .i64))) ∧ Hid (Below w.heap.size w wr)) (fun _ i _ => zs.length - (intOf i).toNat)
  case atStart => exact ⟨0, Nat.zero_le _, rfl, World.ownsRow_nil _ _ _ _, B0⟩
  case round =>
    obtain ⟨q, hq, rfl, HO, HB⟩ := hrel
    have hql := wantsK_len zs q
    by_cases hlt : q < zs.length
    · obtain ⟨b1, off, cap, hvv, hc⟩ := ints_cell (HI.out wr HB.out) (by intro e; rw [e] at hlt; simp at hlt)
      simp only [Value.slice.injEq] at hvv
      obtain ⟨rfl, -, rfl⟩ := hvv
      obtain ⟨z, hz⟩ : ∃ z, zs.getD q 0 = z := ⟨_, rfl⟩
      have c0 := hc q hlt
      rw [hz] at c0
      clear hc
      by_cases hpos : 0 < z
      · have HW : Hid (wantsK zs (q + 1) = wantsK zs q ++ [((q : Nat) : Int) + 1]) := wantsK_yes (by rw [hz]; exact hpos)
        clear hz
        obtain ⟨ao, ca, rfl⟩ := row_shape' HO.out
        have ROW : Hid (∀ o, (wr.alloc o).ownsRow w.heap.size 3 1 (.slice ao (wantsK zs q).length ca) (wantsK zs q).length ((wantsK zs q).map (Value.int .i64))) := fun o => HO.out.alloc o
        obtain ⟨K, hK⟩ : ∃ K, wantsK zs q = K := ⟨_, rfl⟩
        rw [hK] at HW ROW hql ⊢
        have hwr := HB.out.size
        have HKw := hide_it hK
        clear hK HO
        go_wp2_with (at_builtin; refine wpList_append_own _ rfl _ _ 71 rfl w.heap.size 3 i0 (.int .i64 0) 1 8 Tryd.underlying71 hi hz0 hz1 hz2 rfl (by decide) (.slice ao K.length ca) K.length (K.map (Value.int .i64)) rfl (ROW.out _) ⟨wr.heap.size, 0, none⟩ 1 1 [.int .i64 ((q : Int) + 1)] rfl rfl (newI wr _ _) (oneI _) ?c3 ?c4 ?c5 ?_)
        case c3 => unfold maxLen; omega
        case c4 => omega
        case c5 => simp; omega
        intro v' w2 hown hgrow _
        have B2 : Hid (Below w.heap.size w w2) := (HB.out.alloc hwr _).grown hgrow (by simp; omega) (fun j hj => (ROW.out (.cells #[.int .i64 ((q : Int) + 1)] 3)).lt j hj |>.1)
        have O2 : Hid (w2.ownsRow w.heap.size 3 1 v' (wantsK zs (q + 1)).length ((wantsK zs (q + 1)).map (Value.int .i64))) := by show w2.ownsRow _ _ _ _ _ _; rw [HW.out]; simpa using hown
        clear hown hgrow
        go_wp2
        go_roundw
        case rel => exact ⟨q + 1, by omega, by go_num, O2, B2⟩
        case measure => simp [intOf]; omega
      · have HW : Hid (wantsK zs (q + 1) = wantsK zs q) := wantsK_no (by rw [hz]; exact hpos)
        clear hz
        go_wp2
        go_roundw
        case rel => exact ⟨q + 1, by omega, by go_num, by rw [HW.out]; exact HO, HB⟩
        case measure => simp [intOf]; omega
    · have hqe : q = zs.length := by omega
      subst hqe
      obtain ⟨ao, ca, rfl⟩ := row_shape' HO.out
      have HF : Hid (wr.ownsRow w.heap.size 3 1 (.slice ao (wants zs).length ca) (wants zs).length ((wants zs).map (Value.int .i64))) := HO.out
      go_wp2
      go_ret
      exact ⟨ao, ca, rfl, HF.out, HB.out⟩

/-- A trip of a list of the call's own: where it lies, and stays. -/
theorem trip_own {w : World} {lo : Nat} {v : Value} {ts : List T.R} {i : Nat} {t : T.R} (h : T.Made w lo v ts) (hi : ts[i]? = some t) : ∃ g cap uz, v = .slice (some ⟨g, 0, none⟩) ts.length cap ∧ ∀ W, Kept [58, 55] w W → W.cell? ⟨g, i * 2, none⟩ = some uz ∧ W.cell? ⟨g, i * 2 + 1, none⟩ = some (.int .i64 t.2) ∧ Ints W uz t.1 := by
  obtain ⟨ps, rfl, ho⟩ := h
  rw [List.getElem?_map] at hi
  cases hpi : ps[i]? with
  | none => rw [hpi] at hi; cases hi
  | some p =>
    rw [hpi] at hi
    simp at hi
    subst hi
    have hil : i < ps.length := by
      by_cases e : i < ps.length
      · exact e
      · rw [List.getElem?_eq_none (by omega)] at hpi; cases hpi
    rcases ho.1.2 with ⟨_, hn⟩ | ⟨g, cap, cur, hv, _⟩
    · omega
    · refine ⟨g, cap, p.2, by rw [hv]; simp, fun W hk => ?_⟩
      have ho' := hk.town ho (by decide) (by decide)
      subst hv
      obtain ⟨f0, f1⟩ := T.flat_get ps i p hpi
      refine ⟨?_, ?_, ints_of_any (ho'.2.2.2.1 p (List.mem_of_getElem? hpi)).1⟩
      · rw [ho'.1.cellAt _ (by omega)]; exact f0
      · rw [ho'.1.cellAt _ (by omega)]; exact f1
def SyO (w w' : World) (e : Ending) (hs : List Wd) : Prop :=
  ∃ ao co, e = .returned (.agg #[.slice ao hs.length co]) ∧ w'.ownsRow w.heap.size 58 4 (.slice ao hs.length co) hs.length (wflat hs) ∧ Below w.heap.size w w'

set_option maxRecDepth 100000 in
set_option maxHeartbeats 8000000 in
theorem toSay_any (c lo hi : Nat) (up : Bool) (v : Value) (f : Int) (u all forced : Value) (b N : Nat) (ps : List (R × Value)) (rs : List R) (ws : List Wd) (ts fts : List T.R) (w : World)
    (hc : Ck w c lo hi up v f u all forced b N ps rs ws ts fts) (hS : Sound fts) :
    Calls Tryd.prog 20 #[.pointer (some ⟨c, 0, none⟩)] w fun e w' => SyO w w' e (sayD ws fts) := by
  have h6 := hS.fit.1
  obtain ⟨w0, hw0⟩ : ∃ W, Hid (W = (w.alloc (.cells #[.slice none 0 0] 55)).alloc (.cells #[.slice none 0 0] 55)) := ⟨_, rfl⟩
  have B0 : Hid (Below w.heap.size w w0) := by show Below _ _ _; rw [hw0.out]; exact below2 _ _ _
  have Z0 : Hid (Blk w0 w.heap.size #[.slice none 0 0] 55) := by show Blk _ _ _ _; rw [hw0.out]; exact (Blk.new _ _ _).alloc _
  have Q0 : Hid (QuAt w0 (w.heap.size + 1) (w.heap.size + 1) [] none 0) := by
    refine ⟨?_, World.ownsRow_nil _ _ _ _⟩
    show Blk _ _ _ _; rw [hw0.out]; exact Blk.new2 _ _ _ _
  obtain ⟨av, cv, au, cu, rfl, rfl⟩ := (hc.own.at' hc.map).shape
  obtain ⟨aa, ca, rfl⟩ := hc.all.recs.shape
  obtain ⟨af, cf, rfl⟩ := hc.frc.recs.shape
  have HC := hide_it (hc.after B0.out)
  obtain ⟨c0, c1, c2, c3, c4, c5, c6⟩ := HC.out.blk.cells7
  have hs0 : w0.heap.size = w.heap.size + 2 := by rw [hw0.out]; simp
  clear hc
  have c5' : ((w.alloc (.cells #[.slice none 0 0] 55)).alloc (.cells #[.slice none 0 0] 55)).cell? ⟨c, 5, none⟩ = some (.slice af fts.length cf) := by rw [← hw0.out]; exact c5
  clear c0 c1 c2 c3 c4 c5 c6
  go_enter Tryd.func20, Tryd.ntmps20
  go_wp2_with fail
  rw [← hw0.out]
  clear c5'
  go_loopg [15] fts.length (fun g i wr => ∃ (q : Nat) (ao : Option Addr) (co : Nat), q ≤ fts.length ∧ g = fts.length - q ∧ i = .int .i64 q ∧ Hid (QuAt wr (w.heap.size + 1) (w.heap.size + 1) (sayN ws fts q) ao co) ∧ Hid (Kept [58, 55] w0 wr) ∧ Hid (Below (w.heap.size + 1) w0 wr) ∧ Hid (Blk wr w.heap.size #[.slice none 0 0] 55))
  case atStart => exact ⟨0, none, 0, Nat.zero_le _, rfl, rfl, Q0, Kept.refl _ _, Below.refl _ _, Z0⟩
  case round =>
    obtain ⟨q, ao, co, hq, rfl, rfl, HQ, HK, HB, HZ⟩ := hrel
    have hwr : w.heap.size + 2 ≤ wr.heap.size := by have := HB.out.size; omega
    by_cases hlt : q < fts.length
    · obtain ⟨⟨zs, s⟩, hg⟩ : ∃ r, fts[q]? = some r := ⟨_, List.getElem?_eq_getElem hlt⟩
      have hs := hS.st _ (List.mem_of_getElem? hg)
      have hz3 : zs.length = 3 := hS.fit.2 _ (List.mem_of_getElem? hg)
      obtain ⟨bw1, bw2⟩ := wants_bd (zs := zs) (by omega)
      have hmem : Hid (∀ h ∈ wants zs, 1 ≤ h ∧ h ≤ 3) := fun h hh => by
        obtain ⟨i, hi, _, rfl⟩ := wantsK_mem.1 hh
        omega
      obtain ⟨g1, cg, uz, hav, HT⟩ := trip_own HC.out.frc hg
      simp only [Value.slice.injEq] at hav
      obtain ⟨rfl, -, rfl⟩ := hav
      have TC := hide_it HT
      obtain ⟨r0, r1, rI⟩ := HT wr HK.out
      obtain ⟨az, cz, rfl⟩ := rI.shape
      have HN := hide_it (sayN_succ (ws := ws) hg)
      obtain ⟨TA, hTA⟩ : ∃ x, talkA s = x := ⟨_, rfl⟩
      obtain ⟨TB, hTB⟩ : ∃ x, talkB s = x := ⟨_, rfl⟩
      have HTK := hide_it (fun W => talk_any s W)
      rw [hTA, hTB] at HTK
      obtain ⟨w1, hw1⟩ : ∃ W, Hid (W = wr.alloc (.cells #[.slice az zs.length cz, .int .i64 s] 73)) := ⟨_, rfl⟩
      have A1 : Hid (Below wr.heap.size wr w1) := by show Below _ _ _; rw [hw1.out]; exact alloc_below _ _
      have X1 : Hid (Blk w1 wr.heap.size #[.slice az zs.length cz, .int .i64 s] 73) := by show Blk _ _ _ _; rw [hw1.out]; exact Blk.new _ _ _
      have K1 : Hid (Kept [58, 55] w0 w1) := HK.out.trans (Kept.of_below A1.out)
      have L1 : Hid (Below (w.heap.size + 1) w0 w1) := HB.out.trans (A1.out.mono (by omega))
      have HZ3 := hide_it hz3
      clear rI HT hz3
      go_wp2_with fail
      rw [← hw1.out]
      refine (HTK.out _).mono ?_
      rintro e wq ⟨rfl, hwq⟩
      rw [hwq]
      clear hwq r0 r1
      obtain ⟨x0, x1⟩ := X1.out.cells2
      by_cases h0 : TA = 0
      · have HE : Hid (sayN ws fts (q + 1) = sayN ws fts q) := by show _ = _; rw [HN.out]; unfold sayT; rw [if_pos (by simp only; rw [hTA, h0]), List.append_nil]
        subst h0
        clear hTA hTB
        go_wp2
        go_roundg (fts.length - (q + 1))
        case measure => omega
        case rel => exact ⟨q + 1, ao, co, by omega, rfl, by go_num, by rw [HE.out]; exact ⟨HQ.out.1.after A1.out, ownsRow_below HQ.out.2 A1.out (fun k hk => (HQ.out.2.lt k hk).2)⟩, K1, L1, HZ.out.after A1.out⟩
      · have hsA : TA = s := by
          rw [← hTA] at h0 ⊢
          unfold talkA at h0 ⊢
          split
          · omega
          · split
            · omega
            · split
              · omega
              · next h1 h2 h3 => rw [if_neg h1, if_neg h2, if_neg h3] at h0; exact absurd rfl h0
        subst hsA
        have hTB4 : 0 ≤ TB ∧ TB ≤ 10 := by rw [← hTB]; unfold talkB; split <;> (try split) <;> (try split) <;> omega
        have hb0 : (TA == 0) = false := by simpa using h0
        have HF : Hid (sayN ws fts (q + 1) = sayN ws fts q ++ sayK ws ((q : Int) + 1) TA zs (wants zs)) := by show _ = _; rw [HN.out]; unfold sayT; rw [if_neg (by simp only; rw [hTA]; exact h0)]
        have HTB := hide_it hTB
        clear hTA hTB HTK
        have I1 := hide_it (TC.out w1 K1.out).2.2
        have HHS := hide_it (housesOf_row (.slice az zs.length cz) zs TA w1 I1.out (by have := HZ3.out; omega))
        go_wp2_with fail
        clear x0 x1
        refine HHS.out.mono ?_
        rintro e w2 ⟨ah, ch, rfl, hrow, hb⟩
        have A2 := hide_it (A1.out.trans (hb.mono A1.out.size))
        have X2 := hide_it (X1.out.after hb)
        have R2 := hide_it hrow
        have K2 : Hid (Kept [58, 55] w0 w2) := K1.out.trans (Kept.of_below hb)
        have L2 : Hid (Below (w.heap.size + 1) w0 w2) := L1.out.trans (hb.mono (by have := A1.out.size; omega))
        have Q2 : Hid (QuAt w2 (w.heap.size + 1) (w.heap.size + 1) (sayN ws fts q) ao co) := ⟨HQ.out.1.after A2.out, ownsRow_below HQ.out.2 A2.out (fun k hk => (HQ.out.2.lt k hk).2)⟩
        clear hb hrow HHS
        obtain ⟨HS, hHS⟩ : ∃ x, wants zs = x := ⟨_, rfl⟩
        rw [hHS] at hmem R2 HF bw1 bw2 ⊢
        have HWZ := hide_it hHS
        clear hHS
        obtain ⟨NH, hNH⟩ : ∃ x, HS.length = x := ⟨_, rfl⟩
        have HNH := hide_it hNH
        rw [hNH] at bw1 R2 ⊢
        clear hNH
        go_wp2
        go_loopg [31] NH (fun g i wi => ∃ (p : Nat) (ao : Option Addr) (co : Nat), p ≤ NH ∧ g = NH - p ∧ i = .int .i64 p ∧ Hid (QuAt wi (w.heap.size + 1) (w.heap.size + 1) (sayN ws fts q ++ sayK ws ((q : Int) + 1) TA zs (HS.take p)) ao co) ∧ Hid (Kept [58, 55] w2 wi) ∧ Hid (Below (w.heap.size + 1) w2 wi) ∧ Hid (Blk wi w.heap.size #[.slice none 0 0] 55))
        case atStart => exact ⟨0, ao, co, Nat.zero_le _, rfl, rfl, by rw [List.take_zero, sayK_nil, List.append_nil]; exact Q2, Kept.refl _ _, Below.refl _ _, HZ.out.after A2.out⟩
        case round =>
          obtain ⟨p, ao2, co2, hp, rfl, rfl, HQ2, HK2, HB2, HZ2⟩ := hrel
          rename World => wi
          by_cases hp3 : p < NH
          · have HRW : Hid (wi.ownsRow w1.heap.size 3 1 (.slice ah NH ch) NH (HS.map (Value.int .i64))) := HK2.out.row R2.out (by decide)
            have HI : Ints wi (.slice ah HS.length ch) HS := by
              have := HRW.out
              rw [← HNH.out] at this
              exact ints_of_any this
            obtain ⟨bh, oh, cph, hvv, hc⟩ := ints_cell HI (by intro e; have := HNH.out; rw [e] at this; simp at this; omega)
            simp only [Value.slice.injEq] at hvv
            obtain ⟨rfl, -, rfl⟩ := hvv
            have hpl : p < HS.length := by rw [HNH.out]; exact hp3
            obtain ⟨h, hh⟩ : ∃ h, HS.getD p 0 = h := ⟨_, rfl⟩
            have z0 := hc p hpl
            rw [hh] at z0
            have hm : 1 ≤ h ∧ h ≤ 3 := hmem.out h (by rw [← hh, List.getD_eq_getElem?_getD, List.getElem?_eq_getElem hpl]; exact List.getElem_mem _)
            have hTS := take_snocI HS p hpl
            rw [hh] at hTS
            have KK : Hid (Kept [58, 55] w0 wi) := K2.out.trans HK2.out
            have CB := hide_it (KK.out.blk HC.out.blk (by decide))
            obtain ⟨y0, y1, y2, y3, y4, y5, y6⟩ := CB.out.cells7
            have HTL := hide_it (tells_any lo b N ws TB h ((q : Int) + 1) wi (KK.out.bkn HC.out.bk) hTB4 (by omega) (by omega))
            obtain ⟨LL, hLL⟩ : ∃ x, Hid (sayN ws fts q ++ sayK ws ((q : Int) + 1) TA zs (HS.take p) = x) := ⟨_, rfl⟩
            rw [hLL.out] at HQ2
            obtain ⟨bb, hbb⟩ : ∃ x, told ws TB h ((q : Int) + 1) = x := ⟨_, rfl⟩
            rw [hbb] at HTL
            obtain ⟨VV, hVV⟩ : ∃ x, (if TA = 1 then zs.getD (h - 1).toNat 0 else 0) = x := ⟨_, rfl⟩
            have HSX : Hid (sayN ws fts q ++ sayK ws ((q : Int) + 1) TA zs (HS.take (p + 1)) = LL ++ (bif bb then [] else [(TA, h, (q : Int) + 1, VV)])) := by
              show _ = _
              rw [hTS, sayK_snoc, HTB.out, hbb, ← List.append_assoc, hLL.out]
              unfold sayW
              rw [hVV]
              cases bb <;> rfl
            have HWO := hide_it (fun (W : World) (hW : Kept [58, 55] w0 W) => wordOf_any TA h ((q : Int) + 1) (.slice az zs.length cz) zs TA W (TC.out W hW).2.2 HZ3.out hm)
            rw [hVV] at HWO
            have hN2 : LL.length ≤ 1000 := by
              have h1 := sayN_len (ws := ws) hS.fit q (by omega)
              have h2 := sayK_len ws ((q : Int) + 1) TA zs (HS.take p)
              have h3 := List.length_take_le p HS
              have h5 := congrArg List.length hLL.out
              rw [List.length_append] at h5
              omega
            clear hc hbb hTS hVV hh HI
            go_wp2_with fail
            refine HTL.out.mono ?_
            rintro e w3 ⟨rfl, hb3⟩
            have A3 := hide_it hb3
            have K3 : Hid (Kept [58, 55] w0 w3) := KK.out.trans (Kept.of_below hb3)
            clear hb3 z0 y0 y1 y2 y3 y4 y5 y6 HTL
            have hwi : w.heap.size + 2 ≤ wi.heap.size := by have := HB2.out.size; have := L2.out.size; omega
            cases bb
            · have X3 := hide_it ((HK2.out.blk X2.out (by decide)).after A3.out)
              obtain ⟨x0, x1⟩ := X3.out.cells2
              have HW3 := hide_it (HWO.out w3 K3.out)
              go_wp2_with fail
              clear x0 x1
              refine HW3.out.mono ?_
              rintro e w4 ⟨rfl, hb4⟩
              have A4 := hide_it (A3.out.trans (hb4.mono A3.out.size))
              have Q4 : Hid (QuAt w4 (w.heap.size + 1) (w.heap.size + 1) LL ao2 co2) := ⟨HQ2.out.1.after A4.out, ownsRow_below HQ2.out.2 A4.out (fun k hk => (HQ2.out.2.lt k hk).2)⟩
              have hw4 : w.heap.size + 1 ≤ w4.heap.size := by have := A4.out.size; omega
              have HP := hide_it (qpush_any (w.heap.size + 1) (w.heap.size + 1) ao2 co2 LL (TA, h, (q : Int) + 1, VV) w4 Q4.out hw4 (by omega) hN2)
              clear hb4 HW3
              go_wp2_with fail
              refine HP.out.mono ?_
              rintro e w5 ⟨rfl, ao5, co5, q5, k5, l5, z5⟩
              have Q5 := hide_it q5
              have K5 : Hid (Kept [58, 55] w2 w5) := (HK2.out.trans (Kept.of_below A4.out)).trans k5
              have L5 : Hid (Below (w.heap.size + 1) w2 w5) := (HB2.out.trans (A4.out.mono (by omega))).trans l5
              have Z5 := hide_it (z5 w.heap.size _ (by omega) (HZ2.out.after A4.out))
              clear q5 k5 l5 z5 HP
              have HSY : Hid (sayN ws fts q ++ sayK ws ((q : Int) + 1) TA zs (HS.take (p + 1)) = LL ++ [(TA, h, (q : Int) + 1, VV)]) := HSX.out
              go_wp2
              go_roundg (NH - (p + 1))
              case measure => omega
              case rel => exact ⟨p + 1, ao5, co5, by omega, rfl, by go_num, by rw [HSY.out]; exact Q5, K5, L5, Z5⟩
            · have HSY : Hid (sayN ws fts q ++ sayK ws ((q : Int) + 1) TA zs (HS.take (p + 1)) = LL) := HSX.out.trans (List.append_nil _)
              go_wp2
              go_roundg (NH - (p + 1))
              case measure => omega
              case rel => exact ⟨p + 1, ao2, co2, by omega, rfl, by go_num, by rw [HSY.out]; exact ⟨HQ2.out.1.after A3.out, ownsRow_below HQ2.out.2 A3.out (fun k hk => (HQ2.out.2.lt k hk).2)⟩, HK2.out.trans (Kept.of_below A3.out), HB2.out.trans (A3.out.mono (by omega)), HZ2.out.after A3.out⟩
          · have hpe : p = NH := by omega
            subst hpe
            have HX : Hid (sayN ws fts q ++ sayK ws ((q : Int) + 1) TA zs (HS.take HS.length) = sayN ws fts (q + 1)) := by show _ = _; rw [List.take_length, HF.out]
            go_wp2
            go_roundg (fts.length - (q + 1))
            case measure => omega
            case rel => exact ⟨q + 1, ao2, co2, by omega, rfl, by go_num, by rw [← HX.out, HNH.out]; exact HQ2, K2.out.trans HK2.out, L2.out.trans HB2.out, HZ2⟩
    · have hqe : q = fts.length := by omega
      subst hqe
      have q0 := HQ.out.1.cells1
      have z0 := HZ.out.cells1
      have zf := HZ.out.free 0
      have HR : Hid (wr.ownsRow (w.heap.size + 1) 58 4 (.slice ao (sayD ws fts).length co) (sayD ws fts).length (wflat (sayD ws fts))) := HQ.out.2
      obtain ⟨DD, hDD⟩ : ∃ x, Hid (sayN ws fts fts.length = x) := ⟨_, rfl⟩
      rw [hDD.out] at q0
      have HE : Hid (sayD ws fts = DD) := hDD.out
      go_wp2
      refine bodyPost_ret (v := .agg #[.slice ao DD.length co]) (by simp [results, Tryd.results20, go_sem, *]) rfl ?_
      refine ⟨ao, co, by rw [HE.out], ?_, ?_⟩
      · exact ownsRow_base (ownsRow_mid HR.out (Mid.one _) (fun k hk => Or.inr (by have := HR.out.lt k hk; omega))) (by omega)
      · exact Below.setCell (B0.out.trans (HB.out.mono (by omega))) (by simp) _

end Go.Proofs.YtgknnigjlnfplaaDoor

namespace Go.Proofs.YtgknnigjlnfplaaDoor
open Go.RowKit

/-- What the queue's next gives: the first of what waits, and what waits behind it; or nothing. -/
def NxO (w w' : World) (e : Ending) (b : Nat) (a0 : Option Addr) (c0 : Nat) (L : List Wd) : Prop :=
  ∃ (p1 p2 p3 p4 : Int) (x : Bool), e = .returned (.tuple #[wordV p1 p2 p3 p4, .bool x]) ∧ Kept [55] w w' ∧ Below b w w' ∧ ((x = false ∧ L = []) ∨ (x = true ∧ ∃ t ao co, L = (p1, p2, p3, p4) :: t ∧ Blk w' b #[.slice ao t.length co] 55 ∧ (∀ W, Words W (.slice a0 L.length c0) L → Words W (.slice ao t.length co) t) ∧ t.length ≤ co))
theorem qnext_any (b : Nat) (ao : Option Addr) (co : Nat) (L : List Wd) (w : World) (hq : Blk w b #[.slice ao L.length co] 55) (hu : Words w (.slice ao L.length co) L) (hl : L.length ≤ co) :
    Calls Tryd.prog 21 #[.pointer (some ⟨b, 0, none⟩)] w fun e w' => NxO w w' e b ao co L := by
  cases L with
  | nil => exact (qnext_nil b _ w hq hu).mono fun e w' ⟨h1, h2⟩ => ⟨0, 0, 0, 0, false, h1, Kept.of_below h2, h2.mono (Nat.le_of_lt hq.lt), Or.inl ⟨rfl, rfl⟩⟩
  | cons p t => exact (qnext_cons b ao co p t w hq hu hl).mono fun e w' ⟨h1, a', c', h2, _, h3, h4, h5, h6⟩ => ⟨p.1, p.2.1, p.2.2.1, p.2.2.2, true, h1, h5, h6, Or.inr ⟨rfl, t, a', c', rfl, h2, h3, h4⟩⟩

set_option maxRecDepth 100000 in
set_option maxHeartbeats 8000000 in
theorem implDWords_any (up : Bool) (v u : Value) (rs : List R) (f : Int) (ws : List Wd) (a : Addr) (w : World) (hv : DkIn w v u rs ws) (hl : tot rs ≤ 1048576) (hlw : ws.length ≤ 1048576) (ha : ErrAt w a) :
    Calls Tryd.prog 7 #[deskV up v f u] w fun e w' => WsO w w' e (dkWords up rs f ws) := by
  have HC : Hid (∀ W, Below w.heap.size w W → Calls Tryd.prog 19 #[deskV up v f u] W fun e w' => ClOut W w' e up rs f ws) := fun W h =>
    clerkOf_any up v u rs f ws a W (hv.1.later h (Nat.le_refl _)) hl hlw hv.2.1 (ha.later h (Nat.le_refl _))
  obtain ⟨i0, hi, hz0, hz1, hz2⟩ := info_parts infoWord
  obtain ⟨av, cv, au, cu, rfl, rfl⟩ := hv.1.shape
  clear hv ha
  obtain ⟨w1, hw1⟩ : ∃ W, Hid (W = w.alloc (.cells #[.bool up, .slice av rs.length cv, .int .i64 f, .slice au ws.length cu] 35)) := ⟨_, rfl⟩
  have B1 : Hid (Below w.heap.size w w1) := by show Below _ _ _; rw [hw1.out]; exact alloc_below _ _
  go_enter Tryd.func7, Tryd.ntmps7
  go_wp2_with fail
  rw [← hw1.out]
  refine (HC.out _ B1.out).mono ?_
  rintro e w2 ⟨hb, hc⟩
  have B2 := hide_it (B1.out.trans (hb.mono B1.out.size))
  have hs2 : w.heap.size ≤ w1.heap.size := B1.out.size
  clear hb
  rcases hc with ⟨hok, rfl⟩ | ⟨hok, ao, cap, a2, c2, aa, ca, af, cf, b, ps, rfl, hp2, ho2, hma, hmf, hbk⟩
  · have HR : Hid (dkWords up rs f ws = []) := by show _ = _; unfold dkWords; rw [hok]; rfl
    clear hok
    go_wp2
    go_ret
    rw [HR.out]
    exact ⟨none, 0, rfl, World.ownsRow_nil _ _ _ _, B2.out.alloc (by have := B2.out.size; omega) _⟩
  cases up
  · have HR : Hid (dkWords false rs f ws = []) := by show _ = _; unfold dkWords; rw [Bool.and_false]; rfl
    go_wp2
    go_ret
    rw [HR.out]
    exact ⟨none, 0, rfl, World.ownsRow_nil _ _ _ _, B2.out.alloc (by have := B2.out.size; omega) _⟩
  have HR : Hid (dkWords true rs f ws = sayD ws (T.ofO (rs.take f.toNat))) := by show _ = _; unfold dkWords; rw [hok]; rfl
  obtain ⟨w3, hw3⟩ : ∃ W, Hid (W = w2.alloc (.cells #[.bool true, .slice ao rs.length cap, .int .i64 f, .slice a2 ws.length c2, .slice aa (T.ofO rs).length ca, .slice af (T.ofO (rs.take f.toNat)).length cf, .map (some b)] 51)) := ⟨_, rfl⟩
  have al3 : Below w2.heap.size w2 w3 := by rw [hw3.out]; exact alloc_below _ _
  have CX : Hid (Blk w3 (w2.heap.size) #[.bool true, .slice ao rs.length cap, .int .i64 f, .slice a2 ws.length c2, .slice aa (T.ofO rs).length ca, .slice af (T.ofO (rs.take f.toNat)).length cf, .map (some b)] 51) := by show Blk _ _ _ _; rw [hw3.out]; exact Blk.new _ _ _
  have B3 := hide_it (B2.out.trans (al3.mono B2.out.size))
  have CK : Hid (Ck w3 w2.heap.size w1.heap.size w2.heap.size true (.slice ao rs.length cap) f (.slice a2 ws.length c2) (.slice aa (T.ofO rs).length ca) (.slice af (T.ofO (rs.take f.toNat)).length cf) b (2 * ws.length) ps rs ws (T.ofO rs) (T.ofO (rs.take f.toNat))) :=
    ⟨CX.out, hp2, ho2.below al3 (Nat.le_refl _), hma.below al3 (Nat.le_refl _), hmf.below al3 (Nat.le_refl _), hbk.after al3⟩
  have HS := hide_it (toSay_any _ _ _ _ _ _ _ _ _ _ _ _ _ _ _ _ w3 CK.out (ofO_sound (rs.take f.toNat)))
  obtain ⟨DD, hDD⟩ : ∃ x, Hid (sayD ws (T.ofO (rs.take f.toNat)) = x) := ⟨_, rfl⟩
  have hDl : DD.length ≤ 18 := by rw [← hDD.out]; exact sayD_len (T.ofO_fit _)
  rw [hDD.out] at HS HR
  clear hok hp2 ho2 hma hmf hbk al3 CX
  go_wp2_with fail
  rw [← hw3.out]
  refine HS.out.mono ?_
  rintro e w4 ⟨ao4, co4, rfl, hr4, hb4⟩
  have R4 := hide_it hr4
  have B4 := hide_it (B3.out.trans (hb4.mono B3.out.size))
  clear hb4 hr4 HS
  obtain ⟨N, hN⟩ : ∃ x, Hid (DD.length = x) := ⟨_, rfl⟩
  have hDl2 : N ≤ 18 := by rw [← hN.out]; exact hDl
  obtain ⟨w5, hw5⟩ : ∃ W, Hid (W = w4.alloc (.cells #[.slice ao4 DD.length co4] 55)) := ⟨_, rfl⟩
  have A5 : Hid (Below w4.heap.size w4 w5) := by show Below _ _ _; rw [hw5.out]; exact alloc_below _ _
  have Q5 : Hid (Blk w5 w4.heap.size #[.slice ao4 DD.length co4] 55) := by show Blk _ _ _ _; rw [hw5.out]; exact Blk.new _ _ _
  have R5 := hide_it (ownsRow_below R4.out A5.out (fun k hk => (R4.out.lt k hk).2))
  have B5 := hide_it (B4.out.trans (A5.out.mono B4.out.size))
  have hco : DD.length ≤ co4 := by
    rcases R5.out.2 with ⟨h1, h2⟩ | ⟨g, cap, cur, h1, _, _, h2, _⟩
    · omega
    · simp only [Value.slice.injEq] at h1; omega
  have HN := hide_it (qnext_any w4.heap.size ao4 co4 DD w5 Q5.out (words_of_row R5.out) hco)
  rw [hN.out] at hw5
  rw [hN.out]
  clear hDl hco
  go_wp2_with fail
  rw [← hw5.out]
  refine HN.out.mono ?_
  rintro e w6 ⟨p1, p2, p3, p4, x, rfl, hk6, hb6, hx6⟩
  have K6 := hide_it hk6
  have L6 := hide_it hb6
  have X6 := hide_it hx6
  clear hk6 hb6 hx6 HN
  go_wp2_with fail
  have R4w : Hid (Words w4 (.slice ao4 DD.length co4) DD) := words_of_row R4.out
  obtain ⟨w7, hw7⟩ : ∃ W, Hid (W = w6.alloc (.cells #[.int .i64 p1, .int .i64 p2, .int .i64 p3, .int .i64 p4] 58)) := ⟨_, rfl⟩
  have A7 : Hid (Below w6.heap.size w6 w7) := by show Below _ _ _; rw [hw7.out]; exact alloc_below _ _
  have XB7 : Hid (Blk w7 w6.heap.size #[.int .i64 p1, .int .i64 p2, .int .i64 p3, .int .i64 p4] 58) := by show Blk _ _ _ _; rw [hw7.out]; exact Blk.new _ _ _
  have hs45 : w4.heap.size < w5.heap.size := Q5.out.lt
  have hs56 : w5.heap.size ≤ w6.heap.size := K6.out.size
  have L7 : Hid (Below w4.heap.size w5 w7) := L6.out.trans (A7.out.mono (by omega))
  have HX7 : Hid ((x = false ∧ 0 = N) ∨ (x = true ∧ ∃ t ao co, DD.drop 0 = (p1, p2, p3, p4) :: t ∧ Blk w7 w4.heap.size #[.slice ao t.length co] 55 ∧ Words w4 (.slice ao t.length co) t ∧ t.length ≤ co)) := by
    rcases X6.out with ⟨h1, h2⟩ | ⟨h1, t, ao', co', h2, h3, h4, h5⟩
    · exact Or.inl ⟨h1, by rw [← hN.out, h2]; rfl⟩
    · exact Or.inr ⟨h1, t, ao', co', by rw [List.drop_zero]; exact h2, h3.after A7.out, h4 w4 R4w.out, h5⟩
  rw [← hw7.out]
  go_loopg [5, 7, 8] N (fun g o pw mb wr => ∃ (k : Nat) (ao : Option Addr) (co bw : Nat) (x : Bool) (p1 p2 p3 p4 : Int), o = .slice ao k co ∧ pw = .pointer (some ⟨bw, 0, none⟩) ∧ mb = .bool x ∧ g = N - k ∧ k ≤ N ∧ Hid (wr.ownsRow w5.heap.size 58 4 (.slice ao k co) k (wflat (DD.take k))) ∧ Hid (Blk wr bw #[.int .i64 p1, .int .i64 p2, .int .i64 p3, .int .i64 p4] 58) ∧ Hid ((Value.slice ao k co).ownBlock ≠ some bw) ∧ Hid (Below w4.heap.size w5 wr) ∧
    Hid ((x = false ∧ k = N) ∨ (x = true ∧ ∃ t ao co, DD.drop k = (p1, p2, p3, p4) :: t ∧ Blk wr w4.heap.size #[.slice ao t.length co] 55 ∧ Words w4 (.slice ao t.length co) t ∧ t.length ≤ co)))
  case atStart => exact ⟨0, none, 0, w6.heap.size, x, p1, p2, p3, p4, rfl, rfl, rfl, rfl, Nat.zero_le _, World.ownsRow_nil _ _ _ _, XB7, by show Value.ownBlock _ ≠ _; simp [Value.ownBlock], L7, HX7⟩
  case round =>
    clear XB7 HX7 X6
    obtain ⟨k, ao8, co8, bw, x, p1, p2, p3, p4, rfl, rfl, rfl, rfl, hk, HRW, HBW, HNB, HB, HX⟩ := hrel
    have hswr : w5.heap.size ≤ wr.heap.size := HB.out.size
    cases x
    · have hkN : k = N := by
        rcases HX.out with ⟨_, h⟩ | ⟨h, _⟩
        · exact h
        · cases h
      subst hkN
      have hDN : DD.length = k := hN.out
      have HRF : Hid (wr.ownsRow w5.heap.size 58 4 (.slice ao8 k co8) k (wflat DD)) := by
        have := HRW.out
        rw [List.take_of_length_le (by omega)] at this
        exact this
      clear hDN
      go_wp2
      go_ret
      rw [HR.out]
      have hB := B5.out.size
      exact ⟨ao8, co8, by rw [hN.out]; rfl, by rw [hN.out]; exact ownsRow_base HRF.out hB, B5.out.trans (HB.out.mono (by have := B4.out.size; omega))⟩
    · obtain ⟨t, aq, cq, hdr, hqb, hqw, hqc⟩ : ∃ t ao co, DD.drop k = (p1, p2, p3, p4) :: t ∧ Blk wr w4.heap.size #[.slice ao t.length co] 55 ∧ Words w4 (.slice ao t.length co) t ∧ t.length ≤ co := by
        rcases HX.out with ⟨h, _⟩ | ⟨_, h⟩
        · cases h
        · exact h
      have hkl : k < DD.length := by
        by_cases h : k < DD.length
        · exact h
        · rw [List.drop_eq_nil_of_le (by omega)] at hdr; cases hdr
      have hkN : k < N := by rw [← hN.out]; exact hkl
      have hd2 := List.drop_eq_getElem_cons hkl
      rw [hdr] at hd2
      simp only [List.cons.injEq] at hd2
      have HT1 : Hid (DD.take (k + 1) = DD.take k ++ [(p1, p2, p3, p4)]) := by show _ = _; rw [List.take_succ_eq_append_getElem hkl, ← hd2.1]
      have HD1 : Hid (DD.drop (k + 1) = t) := hd2.2.symm
      have QB := hide_it hqb
      have QW := hide_it hqw
      obtain ⟨d0, d1, d2, d3⟩ := HBW.out.cells4
      have ROW : Hid (∀ o, (wr.alloc o).ownsRow w5.heap.size 58 4 (.slice ao8 k co8) k (wflat (DD.take k))) := fun o => HRW.out.alloc o
      clear hd2 hdr hqb hqw hkl HX
      go_wp2_with (at_builtin; refine wpList_append_own _ rfl _ _ 29 rfl w5.heap.size 58 i0 (.agg #[.int .i64 0, .int .i64 0, .int .i64 0, .int .i64 0]) 4 32 Tryd.underlying29 hi hz0 hz1 hz2 rfl (by decide) (.slice ao8 k co8) k (wflat (DD.take k)) rfl (ROW.out _) ⟨wr.heap.size, 0, none⟩ 1 1 [.int .i64 p1, .int .i64 p2, .int .i64 p3, .int .i64 p4] rfl rfl (news4 wr (p1, p2, p3, p4) _) (one4 (p1, p2, p3, p4)) ?c3 ?c4 ?c5 ?_)
      case c3 => unfold maxLen; omega
      case c4 => omega
      case c5 => simp; omega
      intro v' w8 hown hgrow _
      have hown2 : w8.ownsRow w5.heap.size 58 4 v' (k + 1) (wflat (DD.take (k + 1))) := by rw [HT1.out]; simpa [wflat, wflat_append] using hown
      have A8 : Hid (Below wr.heap.size wr (wr.alloc (.cells #[.int .i64 p1, .int .i64 p2, .int .i64 p3, .int .i64 p4] 58))) := alloc_below _ _
      have HBW8 := hide_it (box_kept (HBW.out.after A8.out) hgrow HNB.out)
      have L8 : Hid (Below w4.heap.size w5 w8) := ((HB.out.trans (A8.out.mono (by omega))).grown hgrow (by simp; omega) (fun j hj => by have := ((ROW.out (.cells #[] 58)).lt j hj).1; omega))
      have K8 : Hid (Kept [58] wr w8) := (Kept.of_below A8.out).trans (Kept.of_row (ROW.out _) hgrow (by decide))
      obtain ⟨ao9, co9, rfl⟩ := row_shape' hown2
      have R8 := hide_it hown2
      clear hown hown2 hgrow d0 d1 d2 d3 A8
      obtain ⟨d0, d1, d2, d3⟩ := HBW8.out
      obtain ⟨w9, hw9⟩ : ∃ W, Hid (W = w8.alloc (.cells #[.int .i64 p1, .int .i64 p2, .int .i64 p3, .int .i64 p4] 58)) := ⟨_, rfl⟩
      have A9 : Hid (Below w8.heap.size w8 w9) := by show Below _ _ _; rw [hw9.out]; exact alloc_below _ _
      have X9 : Hid (Blk w9 w8.heap.size #[.int .i64 p1, .int .i64 p2, .int .i64 p3, .int .i64 p4] 58) := by show Blk _ _ _ _; rw [hw9.out]; exact Blk.new _ _ _
      have hs58 : w5.heap.size ≤ w8.heap.size := L8.out.size
      have L9 : Hid (Below w4.heap.size w5 w9) := L8.out.trans (A9.out.mono (by omega))
      have HNX := hide_it (qnext_any w4.heap.size aq cq t w9 ((K8.out.blk QB.out (by decide)).after A9.out) (QW.out.later (A5.out.trans (L9.out)) (Nat.le_refl _)) hqc)
      go_wp2_with fail
      rw [← hw9.out]
      clear d0 d1 d2 d3
      refine HNX.out.mono ?_
      rintro e w10 ⟨q1, q2, q3, q4, y, rfl, k10, l10, x10⟩
      have R10 := hide_it (k10.row (ownsRow_below R8.out A9.out (fun j hj => (R8.out.lt j hj).2)) (by decide))
      have X10 := hide_it (k10.blk X9.out (by decide))
      have L10 : Hid (Below w4.heap.size w5 w10) := L9.out.trans l10
      have XX := hide_it x10
      clear k10 l10 x10 HNX
      obtain ⟨d0, d1, d2, d3⟩ := X10.out.cells4
      have f0 := X10.out.free 0
      have f1 := X10.out.free 1
      have f2 := X10.out.free 2
      have f3 := X10.out.free 3
      obtain ⟨w11, hw11⟩ : ∃ W, Hid (W = (((w10.setCell ⟨w8.heap.size, 0, none⟩ (.int .i64 q1)).setCell ⟨w8.heap.size, 1, none⟩ (.int .i64 q2)).setCell ⟨w8.heap.size, 2, none⟩ (.int .i64 q3)).setCell ⟨w8.heap.size, 3, none⟩ (.int .i64 q4)) := ⟨_, rfl⟩
      have X11 : Hid (Blk w11 w8.heap.size #[.int .i64 q1, .int .i64 q2, .int .i64 q3, .int .i64 q4] 58) := by show Blk _ _ _ _; rw [hw11.out]; exact (kept_set4 X10.out _ _ _ _).2
      have K11 : Hid (Kept [58] w10 w11) := by show Kept _ _ _; rw [hw11.out]; exact (kept_set4 X10.out _ _ _ _).1
      have hnr : ∀ j, (Value.slice ao9 (k + 1) co9).ownBlock = some j → j < w8.heap.size := fun j hj => (R8.out.lt j hj).2
      have R11 : Hid (w11.ownsRow w5.heap.size 58 4 (.slice ao9 (k + 1) co9) (k + 1) (wflat (DD.take (k + 1)))) := by
        show World.ownsRow _ _ _ _ _ _ _
        rw [hw11.out]
        have m := fun j hj => Or.inl (b := w8.heap.size + 1 ≤ j) (hnr j hj)
        exact ownsRow_mid (ownsRow_mid (ownsRow_mid (ownsRow_mid R10.out (Mid.one _) m) (Mid.one _) m) (Mid.one _) m) (Mid.one _) m
      have L11 : Hid (Below w4.heap.size w5 w11) := by
        show Below _ _ _
        rw [hw11.out]
        iterate 4 (refine Below.setCell ?_ (by show w4.heap.size ≤ w8.heap.size; omega) _)
        exact L10.out
      have HX11 : Hid ((y = false ∧ k + 1 = N) ∨ (y = true ∧ ∃ t ao co, DD.drop (k + 1) = (q1, q2, q3, q4) :: t ∧ Blk w11 w4.heap.size #[.slice ao t.length co] 55 ∧ Words w4 (.slice ao t.length co) t ∧ t.length ≤ co)) := by
        rcases XX.out with ⟨h1, h2⟩ | ⟨h1, t', ao', co', h2, h3, h4, h5⟩
        · refine Or.inl ⟨h1, ?_⟩
          have := congrArg List.length HD1.out
          rw [h2, List.length_drop, hN.out] at this
          simp at this
          omega
        · exact Or.inr ⟨h1, t', ao', co', by rw [HD1.out]; exact h2, K11.out.blk h3 (by decide), h4 w4 QW.out, h5⟩
      have HNB11 : Hid ((Value.slice ao9 (k + 1) co9).ownBlock ≠ some w8.heap.size) := fun e => by have := hnr _ e; omega
      clear XX hnr
      go_wp2
      rw [← hw11.out]
      go_roundg (N - (k + 1))
      case measure => omega
      case rel => exact ⟨k + 1, ao9, co9, w8.heap.size, y, q1, q2, q3, q4, rfl, rfl, rfl, rfl, by omega, R11, X11, HNB11, L11, HX11⟩

end Go.Proofs.YtgknnigjlnfplaaDoor
