/- What the last text of this claim stands on, part 4: plain facts and contracts; the last text says what is proved. -/
import Derived.Test.YtkkkdgpbmmjieaaGreatDoorWorldHoldsCardPart3
import Derived.Deep.RegionHeldLaw
import Derived.Laws.AppendOwnNone
import Derived.Maps.AppendAt

namespace Go.Proofs.YtkkkdgpbmmjieaaGreatDoor
open Go.RowKit

theorem Blk.new3 (w : World) (o1 o2 : Obj) (cs : Array Value) (ty : TypeId) : Blk (((w.alloc o1).alloc o2).alloc (.cells cs ty)) (w.heap.size + 1 + 1) cs ty := by
  have h := Blk.new ((w.alloc o1).alloc o2) cs ty
  simpa using h

/-- An object that is cells of one of these types. -/
def Bad (ts : List TypeId) (o : Obj) : Prop := ∃ cs ty fz, o = .cells cs ty fz ∧ ty ∈ ts
/-- All but such objects is as it was. -/
structure Kept (ts : List TypeId) (w w' : World) : Prop where
  os : w'.os = w.os
  tape : w'.tape = w.tape
  output : w'.output = w.output
  size : w.heap.size ≤ w'.heap.size
  keep : ∀ (b : Nat) (o : Obj), w.heap[b]? = some o → ¬ Bad ts o → w'.heap[b]? = some o
theorem Kept.refl (ts : List TypeId) (w : World) : Kept ts w w := ⟨rfl, rfl, rfl, Nat.le_refl _, fun _ _ h _ => h⟩
theorem Kept.trans {ts : List TypeId} {a b c : World} (h : Kept ts a b) (k : Kept ts b c) : Kept ts a c :=
  ⟨k.os.trans h.os, k.tape.trans h.tape, k.output.trans h.output, Nat.le_trans h.size k.size, fun x o hx hb => k.keep x o (h.keep x o hx hb) hb⟩
theorem Kept.of_below {ts : List TypeId} {w w' : World} (h : Below w.heap.size w w') : Kept ts w w' :=
  ⟨h.os, h.tape, h.output, h.size, fun b o hb _ => by rw [h.block b (lt_of_heap hb)]; exact hb⟩
theorem Kept.of_grown {ts : List TypeId} {w w' : World} {row : Option Nat} (h : w.grownBy w' row) (hr : ∀ g, row = some g → ∃ o, w.heap[g]? = some o ∧ Bad ts o) : Kept ts w w' :=
  ⟨h.os, h.tape, h.output, h.size, fun b o hb hn => by
    rw [h.block b (lt_of_heap hb) (fun e => by
      obtain ⟨o', ho, hbad⟩ := hr b e.symm
      rw [hb] at ho
      simp only [Option.some.injEq] at ho
      subst ho
      exact hn hbad)]
    exact hb⟩
theorem Kept.mono {ts ts' : List TypeId} {w w' : World} (h : Kept ts w w') (hs : ∀ t ∈ ts, t ∈ ts') : Kept ts' w w' :=
  ⟨h.os, h.tape, h.output, h.size, fun b o hb hn => h.keep b o hb (fun ⟨cs, ty, fz, e, hm⟩ => hn ⟨cs, ty, fz, e, hs _ hm⟩)⟩
theorem bad_cells {ts : List TypeId} {w : World} {b : Nat} {cs : Array Value} {ty : TypeId} (h : Blk w b cs ty) (hm : ty ∈ ts) : ∃ o, w.heap[b]? = some o ∧ Bad ts o := ⟨_, h, cs, ty, (0, 0), rfl, hm⟩
theorem not_bad {ts : List TypeId} {cs : Array Value} {ty : TypeId} {fz : Nat × Nat} (h : ty ∉ ts) : ¬ Bad ts (.cells cs ty fz) := fun ⟨_, _, _, e, hm⟩ => by
  simp only [Obj.cells.injEq] at e
  rw [← e.2.1] at hm
  exact h hm
theorem Kept.set_ {ts : List TypeId} {w : World} {b i : Nat} {cs : Array Value} {ty : TypeId} (h : Blk w b cs ty) (hm : ty ∈ ts) (x : Value) : Kept ts w (w.setCell ⟨b, i, none⟩ x) :=
  Kept.of_grown (row := some b) ⟨rfl, rfl, rfl, by simp, fun k _ hk => Below.heap_setCell _ _ _ _ (by simp; intro e; exact hk (by rw [e]))⟩ (fun g hg => by
    simp only [Option.some.injEq] at hg; subst hg; exact bad_cells h hm)
/-- Four cells of a block are stored. -/
abbrev set4 (w : World) (b : Nat) (y0 y1 y2 y3 : Value) : World := (((w.setCell ⟨b, 0, none⟩ y0).setCell ⟨b, 1, none⟩ y1).setCell ⟨b, 2, none⟩ y2).setCell ⟨b, 3, none⟩ y3
theorem kept_set4 {w : World} {b : Nat} {x0 x1 x2 x3 : Value} {ty : TypeId} (h : Blk w b #[x0, x1, x2, x3] ty) (y0 y1 y2 y3 : Value) : Kept [ty] w (set4 w b y0 y1 y2 y3) ∧ Blk (set4 w b y0 y1 y2 y3) b #[y0, y1, y2, y3] ty :=
  ⟨(((Kept.set_ h (by simp) _).trans (Kept.set_ (h.set_ 0 y0) (by simp) _)).trans (Kept.set_ ((h.set_ 0 y0).set_ 1 y1) (by simp) _)).trans (Kept.set_ (((h.set_ 0 y0).set_ 1 y1).set_ 2 y2) (by simp) _), (((h.set_ 0 y0).set_ 1 y1).set_ 2 y2).set_ 3 y3⟩
theorem other_set4 {w : World} {b c : Nat} {cs : Array Value} {ty : TypeId} (h : Blk w c cs ty) (hn : c ≠ b) (y0 y1 y2 y3 : Value) : Blk (set4 w b y0 y1 y2 y3) c cs ty := (((h.other hn _).other hn _).other hn _).other hn _
theorem Kept.blk {ts : List TypeId} {w w' : World} {b : Nat} {cs : Array Value} {ty : TypeId} (h : Kept ts w w') (hb : Blk w b cs ty) (hn : ty ∉ ts) : Blk w' b cs ty := h.keep b _ hb (not_bad hn)
theorem Kept.row {ts : List TypeId} {w w' : World} {base : Nat} {e : TypeId} {size n : Nat} {v : Value} {xs : List Value} (h : Kept ts w w') (hr : w.ownsRow base e size v n xs) (hn : e ∉ ts) : w'.ownsRow base e size v n xs := by
  refine ⟨hr.1, ?_⟩
  rcases hr.2 with h1 | ⟨g, cap, cur, h1, h2, h3, h4⟩
  · exact Or.inl h1
  · exact Or.inr ⟨g, cap, cur, h1, h2, h.keep g _ h3 (not_bad hn), h4⟩
/-- A row grows, or turns: its block is of its type. -/
theorem Kept.of_row {ts : List TypeId} {w w' : World} {base : Nat} {e : TypeId} {size n : Nat} {v : Value} {xs : List Value} (hr : w.ownsRow base e size v n xs) (h : w.grownBy w' v.ownBlock) (hm : e ∈ ts) : Kept ts w w' :=
  Kept.of_grown h (fun g hg => by
    rcases hr.2 with ⟨h1, _⟩ | ⟨g', cap, cur, h1, h2, h3, h4⟩
    · rw [h1] at hg; simp [Value.ownBlock] at hg
    · rw [h1] at hg
      simp [Value.ownBlock] at hg
      subst hg
      exact ⟨_, h3, _, _, _, rfl, hm⟩)
theorem Kept.inner {ts : List TypeId} {w w' : World} {lo hi : Nat} {ps : List (R × Value)} (h : Kept ts w w') (hi' : Inner w lo hi ps) (hn : 3 ∉ ts) : Inner w' lo hi ps :=
  ⟨Nat.le_trans hi'.1 h.size, fun p hp => ⟨h.row (hi'.2.1 p hp).1 hn, (hi'.2.1 p hp).2⟩, hi'.2.2⟩
theorem Kept.own {ts : List TypeId} {w w' : World} {lo hi : Nat} {v : Value} {ps : List (R × Value)} (h : Kept ts w w') (ho : OwnRecs w lo hi v ps) (h1 : 161 ∉ ts) (hn : 3 ∉ ts) : OwnRecs w' lo hi v ps :=
  ⟨h.row ho.1 h1, ho.2.1, h.inner ho.2.2 hn⟩
theorem Kept.tinner {ts : List TypeId} {w w' : World} {lo hi : Nat} {ps : List (T.R × Value)} (h : Kept ts w w') (hi' : T.Inner w lo hi ps) (hn : 3 ∉ ts) : T.Inner w' lo hi ps :=
  ⟨Nat.le_trans hi'.1 h.size, fun p hp => ⟨h.row (hi'.2.1 p hp).1 hn, (hi'.2.1 p hp).2⟩, hi'.2.2⟩
theorem Kept.town {ts : List TypeId} {w w' : World} {lo hi : Nat} {v : Value} {ps : List (T.R × Value)} (h : Kept ts w w') (ho : T.OwnRecs w lo hi v ps) (h1 : 194 ∉ ts) (hn : 3 ∉ ts) : T.OwnRecs w' lo hi v ps :=
  ⟨h.row ho.1 h1, ho.2.1, h.tinner ho.2.2 hn⟩
theorem Kept.tmade {ts : List TypeId} {w w' : World} {lo : Nat} {v : Value} {rs : List T.R} (h : Kept ts w w') (ho : T.Made w lo v rs) (h1 : 194 ∉ ts) (hn : 3 ∉ ts) : T.Made w' lo v rs := by
  obtain ⟨ps, hp, o1, o2, o3⟩ := ho
  obtain ⟨q1, q2, q3⟩ := h.town ⟨o1, o2, o3⟩ h1 hn
  exact ⟨ps, hp, q1, fun k hk => Nat.lt_of_lt_of_le (q2 k hk) h.size, ⟨Nat.le_refl _, fun p hp => ⟨(q3.2.1 p hp).1, fun k hk => Nat.lt_of_lt_of_le ((q3.2.1 p hp).2 k hk) h.size⟩, q3.2.2⟩⟩
theorem Kept.bkn {ts : List TypeId} {W W' : World} {lo b N : Nat} {ws : List Wd} (hk : Kept ts W W') (h : BkN W lo b N ws) : BkN W' lo b N ws := by
  have mp : ∀ {B n : Nat} {k : TypeId} {H : Type} {Rr : Value → Option (DataW H × List MemPlace)} {D : DataW H}, W.ownsMap Tryz.prog k Rr B n D → W'.ownsMap Tryz.prog k Rr B n D := fun h => by
    obtain ⟨es, cl, hb, hr⟩ := h
    exact ⟨es, cl, hk.keep _ _ hb (fun ⟨_, _, _, e, _⟩ => by cases e), hr⟩
  obtain ⟨D, h0, h1, h2, h3⟩ := h
  refine ⟨D, h0, mp h1, fun t ht ht6 => ?_, h3⟩
  rcases h2 t ht ht6 with a | ⟨B, S, a1, a2, a3, a4, a5⟩
  · exact Or.inl a
  · exact Or.inr ⟨B, S, a1, a2, a3, mp a4, a5⟩
/-- What turns no block of cells keeps all of them. -/
theorem Cel.tmade {w w' : World} {lo : Nat} {v : Value} {rs : List T.R} (h : Cel w w') (ho : T.Made w lo v rs) : T.Made w' lo v rs := by
  obtain ⟨ps, hp, o1, o2, o3⟩ := ho
  exact ⟨ps, hp, h.row o1, fun k hk => Nat.lt_of_lt_of_le (o2 k hk) h.1, ⟨Nat.le_refl _, fun p hp => ⟨h.row (o3.2.1 p hp).1, fun k hk => Nat.lt_of_lt_of_le ((o3.2.1 p hp).2 k hk) h.1⟩, o3.2.2⟩⟩

/-- All blocks but those of S are as they were. -/
structure Turn (S : Nat → Prop) (w w' : World) : Prop where
  os : w'.os = w.os
  tape : w'.tape = w.tape
  output : w'.output = w.output
  size : w.heap.size ≤ w'.heap.size
  block : ∀ k, k < w.heap.size → ¬ S k → w'.heap[k]? = w.heap[k]?
theorem Turn.refl (S : Nat → Prop) (w : World) : Turn S w w := ⟨rfl, rfl, rfl, Nat.le_refl _, fun _ _ _ => rfl⟩
theorem Turn.trans {S : Nat → Prop} {a b c : World} (h : Turn S a b) (k : Turn S b c) : Turn S a c :=
  ⟨k.os.trans h.os, k.tape.trans h.tape, k.output.trans h.output, Nat.le_trans h.size k.size, fun x hx hn => by rw [k.block x (Nat.lt_of_lt_of_le hx h.size) hn]; exact h.block x hx hn⟩
theorem Turn.of_below {S : Nat → Prop} {w w' : World} (h : Below w.heap.size w w') : Turn S w w' := ⟨h.os, h.tape, h.output, h.size, fun k hk _ => h.block k hk⟩
theorem Turn.of_grown {S : Nat → Prop} {w w' : World} {row : Option Nat} (h : w.grownBy w' row) (hr : ∀ g, row = some g → S g) : Turn S w w' :=
  ⟨h.os, h.tape, h.output, h.size, fun k hk hn => h.block k hk (fun e => hn (hr k e.symm))⟩
theorem Turn.mono {S S' : Nat → Prop} {w w' : World} (h : Turn S w w') (hs : ∀ k, S k → S' k) : Turn S' w w' := ⟨h.os, h.tape, h.output, h.size, fun k hk hn => h.block k hk (fun e => hn (hs k e))⟩
/-- What is new may turn later. -/
theorem Turn.trans' {S S' : Nat → Prop} {a b c : World} (h : Turn S a b) (k : Turn S' b c) (hs : ∀ k, S' k → k < a.heap.size → S k) : Turn S a c :=
  ⟨k.os.trans h.os, k.tape.trans h.tape, k.output.trans h.output, Nat.le_trans h.size k.size, fun x hx hn => by rw [k.block x (Nat.lt_of_lt_of_le hx h.size) (fun e => hn (hs x e hx))]; exact h.block x hx hn⟩
theorem Turn.row {S : Nat → Prop} {w w' : World} {base : Nat} {e : TypeId} {size n : Nat} {v : Value} {xs : List Value} (h : Turn S w w') (hr : w.ownsRow base e size v n xs) (hn : ∀ g, v.ownBlock = some g → ¬ S g) : w'.ownsRow base e size v n xs := by
  refine ⟨hr.1, ?_⟩
  rcases hr.2 with h1 | ⟨g, cap, cur, h1, h2, h3, h4⟩
  · exact Or.inl h1
  · refine Or.inr ⟨g, cap, cur, h1, h2, ?_, h4⟩
    rw [h.block g (lt_of_heap h3) (hn g (by rw [h1]; rfl))]
    exact h3
theorem Turn.blk {S : Nat → Prop} {w w' : World} {b : Nat} {cs : Array Value} {ty : TypeId} (h : Turn S w w') (hb : Blk w b cs ty) (hn : ¬ S b) : Blk w' b cs ty := by
  unfold Blk; rw [h.block b hb.lt hn]; exact hb
theorem Turn.below {S : Nat → Prop} {w w' : World} {lo : Nat} (h : Turn S w w') (hs : ∀ k, S k → lo ≤ k) (hl : lo ≤ w.heap.size) : Below lo w w' := by
  refine (Below.refl lo w).trans ?_
  exact ⟨h.os, h.tape, h.output, h.size, fun k hk => h.block k (by omega) (fun e => by have := hs k e; omega)⟩
/-- A row of records, and their numbers in rows: a list of records. -/
theorem recs_of_rows {w : World} {base : Nat} {v : Value} {ps : List (R × Value)} (h : w.ownsRow base 161 3 v ps.length (flat ps)) (hi : ∀ p ∈ ps, Ints w p.2 p.1.2.2) : Recs w v (ps.map (·.1)) := by
  rcases h.2 with ⟨h1, h2⟩ | ⟨g, cap, cur, h1, h2, h3, h4, h5, h6, h7⟩
  · have : ps = [] := List.length_eq_zero_iff.1 h2
    subst this
    exact Or.inl ⟨rfl, none, 0, h1⟩
  · by_cases hne : ps = []
    · subst hne; exact Or.inl ⟨rfl, _, _, h1⟩
    · refine Or.inr ⟨g, 0, cap, by rw [h1]; simp, by simpa using hne, fun i r hir => ?_⟩
      simp only [List.getElem?_map, Option.map_eq_some_iff] at hir
      obtain ⟨p, hp, rfl⟩ := hir
      obtain ⟨f0, f1, f2⟩ := flat_get ps i p hp
      have cell : ∀ j x, (flat ps)[j]? = some x → w.cell? ⟨g, j, none⟩ = some x := fun j x hx => by
        rw [cell_of_row w _ _ _ _ _ h3]
        rw [← h7, List.getElem?_take] at hx
        split at hx
        · simpa using hx
        · cases hx
      exact ⟨p.2, by simpa using cell _ _ f0, by simpa using cell _ _ f1, by simpa using cell _ _ f2, hi p (List.mem_of_getElem? hp)⟩

end Go.Proofs.YtkkkdgpbmmjieaaGreatDoor

namespace Go.Proofs.YtkkkdgpbmmjieaaGreatDoor
open Go.RowKit

/-- A house as plain data: its number, whether it is up, how many it has, its records, how many of them are forced. -/
abbrev Hd := Int × Bool × Int × List R × Int
/-- Houses, as they lie in a row. -/
def hoflat : List (Hd × Value) → List Value
  | [] => []
  | p :: t => .int .i64 p.1.1 :: .bool p.1.2.1 :: .int .i64 p.1.2.2.1 :: p.2 :: .int .i64 p.1.2.2.2.2 :: hoflat t
theorem hoflat_length (ps : List (Hd × Value)) : (hoflat ps).length = ps.length * 5 := by
  induction ps with
  | nil => rfl
  | cons p t ih => simp only [hoflat, List.length_cons, ih]; omega
theorem hoflat_append (ps qs : List (Hd × Value)) : hoflat (ps ++ qs) = hoflat ps ++ hoflat qs := by
  induction ps with
  | nil => rfl
  | cons p t ih => simp [hoflat, ih]
theorem hoflat_get (ps : List (Hd × Value)) (i : Nat) (p : Hd × Value) (h : ps[i]? = some p) :
    (hoflat ps)[i * 5]? = some (.int .i64 p.1.1) ∧ (hoflat ps)[i * 5 + 1]? = some (.bool p.1.2.1) ∧ (hoflat ps)[i * 5 + 2]? = some (.int .i64 p.1.2.2.1) ∧ (hoflat ps)[i * 5 + 3]? = some p.2 ∧ (hoflat ps)[i * 5 + 4]? = some (.int .i64 p.1.2.2.2.2) := by
  induction ps generalizing i with
  | nil => simp at h
  | cons q t ih =>
    cases i with
    | zero => simp at h; subst h; simp [hoflat]
    | succ i =>
      have := ih i (by simpa using h)
      rw [show (i + 1) * 5 = i * 5 + 5 by omega]
      simpa [hoflat] using this
theorem hoflat_set (ps : List (Hd × Value)) (k : Nat) (p : Hd × Value) (h : k < ps.length) :
    (((((hoflat ps).set (k * 5) (.int .i64 p.1.1)).set (k * 5 + 1) (.bool p.1.2.1)).set (k * 5 + 2) (.int .i64 p.1.2.2.1)).set (k * 5 + 3) p.2).set (k * 5 + 4) (.int .i64 p.1.2.2.2.2) = hoflat (ps.set k p) := by
  induction ps generalizing k with
  | nil => simp at h
  | cons q t ih =>
    cases k with
    | zero => simp [hoflat]
    | succ k =>
      have := ih k (by simpa using h)
      rw [show (k + 1) * 5 = k * 5 + 5 by omega]
      simp only [hoflat, List.set_cons_succ]
      rw [this]

/-- A house lies at this place of a block. -/
def HCells (w : World) (b o : Nat) (h : Hd) (u : Value) : Prop :=
  w.cell? ⟨b, o, none⟩ = some (.int .i64 h.1) ∧ w.cell? ⟨b, o + 1, none⟩ = some (.bool h.2.1) ∧ w.cell? ⟨b, o + 2, none⟩ = some (.int .i64 h.2.2.1) ∧ w.cell? ⟨b, o + 3, none⟩ = some u ∧ w.cell? ⟨b, o + 4, none⟩ = some (.int .i64 h.2.2.2.2) ∧ Recs w u h.2.2.2.1
/-- The value v is a slice of just these houses in the world w. -/
def Houses (w : World) (v : Value) (hs : List Hd) : Prop :=
  (hs = [] ∧ ∃ ao cap, v = .slice ao 0 cap) ∨
  (∃ b off cap, v = .slice (some ⟨b, off, none⟩) hs.length cap ∧ hs ≠ [] ∧ ∀ i h, hs[i]? = some h → ∃ u, HCells w b (off + i * 5) h u)
theorem HCells.later {B : Nat} {w w' : World} {b o : Nat} {h : Hd} {u : Value} (hc : HCells w b o h u) (hb : Below B w w') (hB : w.heap.size ≤ B) : HCells w' b o h u := by
  obtain ⟨h0, h1, h2, h3, h4, h5⟩ := hc
  have hl : b < B := Nat.lt_of_lt_of_le (World.block_lt_of_cell? _ _ h0) hB
  exact ⟨by rw [hb.cell (p := ⟨b, o, none⟩) hl]; exact h0, by rw [hb.cell (p := ⟨b, o + 1, none⟩) hl]; exact h1, by rw [hb.cell (p := ⟨b, o + 2, none⟩) hl]; exact h2, by rw [hb.cell (p := ⟨b, o + 3, none⟩) hl]; exact h3, by rw [hb.cell (p := ⟨b, o + 4, none⟩) hl]; exact h4, h5.later hb hB⟩
theorem Houses.later {B : Nat} {w w' : World} {v : Value} {hs : List Hd} (h : Houses w v hs) (hb : Below B w w') (hB : w.heap.size ≤ B) : Houses w' v hs := by
  rcases h with h | ⟨b, off, cap, h1, h2, h3⟩
  · exact Or.inl h
  · exact Or.inr ⟨b, off, cap, h1, h2, fun i x hx => by obtain ⟨u, hu⟩ := h3 i x hx; exact ⟨u, hu.later hb hB⟩⟩
theorem Houses.shape {w : World} {v : Value} {hs : List Hd} (h : Houses w v hs) : ∃ ao cap, v = .slice ao hs.length cap := by
  rcases h with ⟨rfl, ao, cap, rfl⟩ | ⟨b, off, cap, rfl, _⟩
  · exact ⟨ao, cap, rfl⟩
  · exact ⟨_, _, rfl⟩
/-- Where a house of a list lies. -/
theorem Houses.at_ {w : World} {v : Value} {hs : List Hd} {i : Nat} {h : Hd} (hv : Houses w v hs) (hi : hs[i]? = some h) : ∃ b off cap u, v = .slice (some ⟨b, off, none⟩) hs.length cap ∧ HCells w b (off + i * 5) h u := by
  rcases hv with ⟨rfl, _⟩ | ⟨b, off, cap, h1, _, h3⟩
  · simp at hi
  · obtain ⟨u, hu⟩ := h3 i h hi
    exact ⟨b, off, cap, u, h1, hu⟩

/-- How great the first k houses are; all of them, and how many. -/
def hpre (hs : List Hd) (k : Nat) : Nat := ((hs.take k).map fun h => tot h.2.2.2.1).sum
def htot (hs : List Hd) : Nat := hs.length + hpre hs hs.length
theorem hpre_zero (hs : List Hd) : hpre hs 0 = 0 := by simp [hpre]
theorem hpre_succ (hs : List Hd) (k : Nat) (h : Hd) (hk : hs[k]? = some h) : hpre hs (k + 1) = hpre hs k + tot h.2.2.2.1 := by
  have hl : k < hs.length := by
    by_cases hl : k < hs.length
    · exact hl
    · rw [List.getElem?_eq_none (by omega)] at hk; cases hk
  rw [List.getElem?_eq_getElem hl] at hk
  simp only [Option.some.injEq] at hk
  unfold hpre
  rw [List.take_succ_eq_append_getElem hl, List.map_append, List.sum_append]
  simp [hk]
theorem hpre_le (hs : List Hd) (k : Nat) : hpre hs k ≤ hpre hs hs.length := by
  unfold hpre
  rw [List.take_length]
  conv => rhs; rw [← List.take_append_drop k hs]
  rw [List.map_append, List.sum_append]
  omega
theorem htot_len (hs : List Hd) : hs.length ≤ htot hs := by unfold htot; omega
theorem htot_mem (hs : List Hd) (h : Hd) (hm : h ∈ hs) : tot h.2.2.2.1 ≤ htot hs := by
  obtain ⟨k, hk, he⟩ := List.getElem_of_mem hm
  have h1 := hpre_succ hs k h (by rw [List.getElem?_eq_getElem hk, he])
  have h2 := hpre_le hs (k + 1)
  unfold htot
  omega

set_option maxHeartbeats 2000000 in
theorem szHouses_any (v : Value) (hs : List Hd) (left : Int) (w : World) (hv : Houses w v hs) (hl : (hs.length : Int) ≤ 9223372036854775807) (hrl : ∀ h ∈ hs, (h.2.2.2.1.length : Int) ≤ 9223372036854775807) (hrs : ∀ h ∈ hs, ∀ r ∈ h.2.2.2.1, (r.2.2.length : Int) ≤ 9223372036854775807) (h0 : 0 ≤ left) (h1 : left ≤ 1048576) :
    Calls Tryz.prog 35 #[v, .int .i64 left] w fun e w' => e = .returned (.int .i64 (leftOf left (htot hs))) ∧ Below w.heap.size w w' := by
  have HV : Hid (∀ W, Below w.heap.size w W → Houses W v hs) := fun W h => hv.later h (Nat.le_refl _)
  have HRL := hide_it hrl
  have HRS := hide_it hrs
  obtain ⟨av, cv, rfl⟩ := hv.shape
  clear hv hrl hrs
  by_cases hn : left - (hs.length : Int) < 0
  · rw [leftOf_neg (by unfold htot; omega)]
    go_enter Tryz.func35, Tryz.ntmps35
    go_wp2
    go_ret
    exact ⟨rfl, Below.refl _ _⟩
  · go_enter Tryz.func35, Tryz.ntmps35
    go_wp2
    go_loopw [1, 5] (fun l i wr => ∃ (k : Nat) (L : Int), k ≤ hs.length ∧ i = .int .i64 k ∧ l = .int .i64 L ∧ 0 ≤ L ∧ L ≤ 1048576 ∧ Hid (L = left - hs.length - hpre hs k) ∧ Hid (Below w.heap.size w wr)) (fun _ i _ => hs.length - (intOf i).toNat)
    case atStart => exact ⟨0, _, Nat.zero_le _, rfl, rfl, by omega, by omega, by show _ = _; rw [hpre_zero]; simp, Below.refl _ _⟩
    case round =>
      obtain ⟨k, L, hk, rfl, rfl, hL0, hL1, HD, HB⟩ := hrel
      by_cases hlt : k < hs.length
      · obtain ⟨⟨id, up, room, rs, f⟩, hg⟩ : ∃ h, hs[k]? = some h := ⟨_, List.getElem?_eq_getElem hlt⟩
        obtain ⟨b, off, cap, u, hvv, c0, c1, c2, c3, c4, hR⟩ := (HV.out wr HB.out).at_ hg
        simp only [Value.slice.injEq] at hvv
        obtain ⟨rfl, -, rfl⟩ := hvv
        have HP := hide_it (hpre_succ hs k _ hg)
        have HP2 := hide_it (hpre_le hs (k + 1))
        have hsz := szHouse_any id up room u rs f L wr hR (HRL.out _ (List.mem_of_getElem? hg)) (HRS.out _ (List.mem_of_getElem? hg)) hL0 hL1
        obtain ⟨au, cu, rfl⟩ := hR.shape
        clear hR
        by_cases hn2 : L - (tot rs : Int) < 0
        · rw [leftOf_neg hn2] at hsz
          have HE : Hid (leftOf left (htot hs) = -1) := leftOf_neg (by have := HD.out; have := HP.out; have := HP2.out; simp only at *; unfold htot; omega)
          have HS := hide_it hsz
          clear hsz hn2
          go_wp2_with fail
          refine HS.out.mono ?_
          rintro e w2 ⟨rfl, hb2⟩
          have B2 := hide_it (HB.out.trans (hb2.mono HB.out.size))
          clear hb2
          go_wp2
          go_ret
          exact ⟨by rw [HE.out]; rfl, B2.out⟩
        · rw [leftOf_pos hn2] at hsz
          obtain ⟨L2, hL2⟩ : ∃ x : Int, L - (tot rs : Int) = x := ⟨_, rfl⟩
          rw [hL2] at hsz
          have h20 : 0 ≤ L2 := by omega
          have h21 : L2 ≤ 1048576 := by omega
          have HL2 : Hid (L2 = left - hs.length - hpre hs (k + 1)) := by have := HD.out; have := HP.out; simp only at *; show _ = _; omega
          have HS := hide_it hsz
          clear hsz hn2 hL2
          go_wp2_with fail
          refine HS.out.mono ?_
          rintro e w2 ⟨rfl, hb2⟩
          have B2 := hide_it (HB.out.trans (hb2.mono HB.out.size))
          clear hb2
          go_wp2
          go_roundw
          case rel => exact ⟨k + 1, L2, by omega, by go_num, rfl, h20, h21, HL2, B2⟩
          case measure => simp [intOf]; omega
      · have hke : k = hs.length := by omega
        subst hke
        have HE : Hid (leftOf left (htot hs) = L) := by show _ = _; rw [leftOf_pos (by have := HD.out; unfold htot; omega)]; have := HD.out; unfold htot; omega
        go_wp2
        go_ret
        exact ⟨by rw [HE.out]; rfl, HB.out⟩

/-- The world behind five stores. -/
abbrev store5 (w : World) (g i : Nat) (p : Hd × Value) : World := ((((w.setCell ⟨g, i, none⟩ (.int .i64 p.1.1)).setCell ⟨g, i + 1, none⟩ (.bool p.1.2.1)).setCell ⟨g, i + 2, none⟩ (.int .i64 p.1.2.2.1)).setCell ⟨g, i + 3, none⟩ p.2).setCell ⟨g, i + 4, none⟩ (.int .i64 p.1.2.2.2.2)
theorem stored5 {w : World} {base g n cap : Nat} {ps : List (Hd × Value)} (h : w.ownsRow base 79 5 (.slice (some ⟨g, 0, none⟩) n cap) n (hoflat ps)) (k : Nat) (hk : k < ps.length) (p : Hd × Value) :
    (store5 w g (k * 5) p).ownsRow base 79 5 (.slice (some ⟨g, 0, none⟩) n cap) n (hoflat (ps.set k p)) ∧ w.grownBy (store5 w g (k * 5) p) (some g) := by
  have a1 := h.stored (k * 5) (.int .i64 p.1.1)
  have a2 := a1.1.stored (k * 5 + 1) (.bool p.1.2.1)
  have a3 := a2.1.stored (k * 5 + 2) (.int .i64 p.1.2.2.1)
  have a4 := a3.1.stored (k * 5 + 3) p.2
  have a5 := a4.1.stored (k * 5 + 4) (.int .i64 p.1.2.2.2.2)
  rw [hoflat_set ps k p hk] at a5
  exact ⟨a5.1, grownBy_trans (grownBy_trans (grownBy_trans (grownBy_trans a1.2 a2.2) a3.2) a4.2) a5.2⟩
theorem infoHouse : (Tryz.prog.info? 79).map (fun i => (i.zero, i.size, i.bytes)) = some (some (.agg #[.int .i64 0, .bool false, .int .i64 0, .slice none 0 0, .int .i64 0]), 5, 56) := by kernel_rfl
def zeroHo : Hd × Value := ((0, false, 0, [], 0), .slice none 0 0)
theorem made_five (n : Nat) : (madeCells #[.int .i64 0, .bool false, .int .i64 0, .slice none 0 0, .int .i64 0] (n * 5)).toList = hoflat (List.replicate n zeroHo) := by
  apply List.ext_getElem?
  intro i
  by_cases h : i < n * 5
  · have hq : i / 5 < n := by omega
    obtain ⟨f0, f1, f2, f3, f4⟩ := hoflat_get (List.replicate n zeroHo) (i / 5) zeroHo (by simp [hq])
    have hl : (madeCells #[.int .i64 0, .bool false, .int .i64 0, .slice none 0 0, .int .i64 0] (n * 5)).toList[i]? = some (#[Value.int .i64 0, .bool false, .int .i64 0, .slice none 0 0, .int .i64 0][i % 5]!) := by
      simp [madeCells, h]
    rw [hl]
    rcases (show i % 5 = 0 ∨ i % 5 = 1 ∨ i % 5 = 2 ∨ i % 5 = 3 ∨ i % 5 = 4 by omega) with h0 | h0 | h0 | h0 | h0
    · rw [show i / 5 * 5 = i by omega] at f0; rw [f0, h0]; rfl
    · rw [show i / 5 * 5 + 1 = i by omega] at f1; rw [f1, h0]; rfl
    · rw [show i / 5 * 5 + 2 = i by omega] at f2; rw [f2, h0]; rfl
    · rw [show i / 5 * 5 + 3 = i by omega] at f3; rw [f3, h0]; rfl
    · rw [show i / 5 * 5 + 4 = i by omega] at f4; rw [f4, h0]; rfl
  · rw [List.getElem?_eq_none (by simp [madeCells]; omega), List.getElem?_eq_none (by rw [hoflat_length]; simp; omega)]

/-- A list of houses of the call's own, from lo on: its row, and each house's records. -/
def HMade (w : World) (lo : Nat) (v : Value) (ps : List (Hd × Value)) : Prop :=
  w.ownsRow lo 79 5 v ps.length (hoflat ps) ∧ ∀ p ∈ ps, Made w lo p.2 p.1.2.2.2.1
theorem Made.keptH {w w' : World} {lo : Nat} {v : Value} {rs : List R} (h : Made w lo v rs) (hk : Kept [79] w w') : Made w' lo v rs := by
  obtain ⟨ps, hp, ho⟩ := h
  refine ⟨ps, hp, ?_⟩
  have := hk.own ho (by decide) (by decide)
  exact ⟨this.1, fun k hk' => Nat.lt_of_lt_of_le (this.2.1 k hk') hk.size, this.2.2.mono hk.size (Nat.le_refl _)⟩
theorem HMade.houses {w : World} {lo : Nat} {v : Value} {ps : List (Hd × Value)} (h : HMade w lo v ps) : Houses w v (ps.map (·.1)) := by
  obtain ⟨h1, h2⟩ := h
  by_cases hp : ps = []
  · subst hp
    rcases h1.2 with ⟨hv, _⟩ | ⟨g, cap, cur, hv, _⟩
    · exact Or.inl ⟨rfl, none, 0, hv⟩
    · exact Or.inl ⟨rfl, _, cap, hv⟩
  · rcases h1.2 with ⟨_, hn⟩ | ⟨g, cap, cur, hv, _⟩
    · exact absurd (List.length_eq_zero_iff.1 hn) hp
    · subst hv
      refine Or.inr ⟨g, 0, cap, by simp, by simpa using hp, fun i r hr => ?_⟩
      rw [List.getElem?_map] at hr
      cases hpi : ps[i]? with
      | none => rw [hpi] at hr; cases hr
      | some p =>
        rw [hpi] at hr
        simp at hr
        subst hr
        have hil : i < ps.length := by
          by_cases e : i < ps.length
          · exact e
          · rw [List.getElem?_eq_none (by omega)] at hpi; cases hpi
        obtain ⟨f0, f1, f2, f3, f4⟩ := hoflat_get ps i p hpi
        refine ⟨p.2, ?_, ?_, ?_, ?_, ?_, (h2 p (List.mem_of_getElem? hpi)).recs⟩
        · rw [Nat.zero_add, h1.cellAt _ (by omega)]; exact f0
        · rw [Nat.zero_add, h1.cellAt _ (by omega)]; exact f1
        · rw [Nat.zero_add, h1.cellAt _ (by omega)]; exact f2
        · rw [Nat.zero_add, h1.cellAt _ (by omega)]; exact f3
        · rw [Nat.zero_add, h1.cellAt _ (by omega)]; exact f4

set_option maxHeartbeats 4000000 in
theorem toHouses_any (v : Value) (hs : List Hd) (w : World) (hv : Houses w v hs) (hl : htot hs ≤ 1048576) :
    Calls Tryz.prog 41 #[v] w fun e w' => e = .returned (.slice (some ⟨w.heap.size, 0, none⟩) hs.length hs.length) ∧
      (∃ ps, ps.map (·.1) = hs ∧ HMade w' w.heap.size (.slice (some ⟨w.heap.size, 0, none⟩) hs.length hs.length) ps) ∧ Below w.heap.size w w' := by
  obtain ⟨i0, hi, hz0, hz1, hz2⟩ := info_parts infoHouse
  have hlen := htot_len hs
  have hbytes : i0.bytes * hs.length ≤ 281474976710656 := by rw [hz2]; omega
  have hmax : hs.length ≤ maxLen := by unfold maxLen; omega
  have HV : Hid (∀ W, Below w.heap.size w W → Houses W v hs) := fun W h => hv.later h (Nat.le_refl _)
  have HM : Hid (∀ h ∈ hs, tot h.2.2.2.1 ≤ 1048576) := fun h hh => Nat.le_trans (htot_mem hs h hh) hl
  obtain ⟨av, cv, rfl⟩ := hv.shape
  clear hv
  go_enter Tryz.func41, Tryz.ntmps41
  go_wp2_with (at_make; refine wpList_make_full _ rfl _ _ 39 rfl w.heap.size 79 i0 (.agg #[.int .i64 0, .bool false, .int .i64 0, .slice none 0 0, .int .i64 0]) 5 Tryz.underlying39 hi hz0 hz1 .i64 .i64 _ _ hs.length rfl rfl rfl rfl hbytes hmax (Nat.le_refl _) ?_; intro w1 hown hgrow)
  have hown0 : Hid (w1.ownsRow w.heap.size 79 5 (.slice (some ⟨w.heap.size, 0, none⟩) hs.length hs.length) hs.length (hoflat ([] ++ List.replicate (hs.length - 0) zeroHo))) := by
    have := made_five hs.length
    rw [show (Value.agg #[.int .i64 0, .bool false, .int .i64 0, .slice none 0 0, .int .i64 0]).cells = #[.int .i64 0, .bool false, .int .i64 0, .slice none 0 0, .int .i64 0] from rfl, this] at hown
    exact hown
  have hbel : Below w.heap.size w w1 := (Below.refl _ _).grown hgrow (Nat.le_refl _) (fun k h => by cases h)
  clear hown hgrow
  go_loopw [4] (fun i wr => ∃ (k : Nat) (ps : List (Hd × Value)), k ≤ hs.length ∧ i = .int .i64 k ∧ Hid (ps.map (·.1) = hs.take k) ∧ Hid (wr.ownsRow w.heap.size 79 5 (.slice (some ⟨w.heap.size, 0, none⟩) hs.length hs.length) hs.length (hoflat (ps ++ List.replicate (hs.length - k) zeroHo))) ∧ Hid (∀ p ∈ ps, Made wr w.heap.size p.2 p.1.2.2.2.1) ∧ Hid (Below w.heap.size w wr)) (fun i _ => hs.length - (intOf i).toNat)
  case atStart => exact ⟨0, [], Nat.zero_le _, rfl, rfl, hown0, fun p hp => by simp at hp, hbel⟩
  case round =>
    obtain ⟨k, ps, hk, rfl, HP, HO, HI, HB⟩ := hrel
    have HPL : Hid (ps.length = k) := by
      have := congrArg List.length HP.out
      simp at this
      show _ = _; omega
    by_cases hlt : k < hs.length
    · obtain ⟨⟨id, up, room, rs, f⟩, hg⟩ : ∃ h, hs[k]? = some h := ⟨_, List.getElem?_eq_getElem hlt⟩
      obtain ⟨b, off, cap, u, hvv, c0, c1, c2, c3, c4, hR⟩ := (HV.out wr HB.out).at_ hg
      simp only [Value.slice.injEq] at hvv
      obtain ⟨rfl, -, rfl⟩ := hvv
      have HT := hide_it (toHouse_any id up room u rs f wr hR (HM.out _ (List.mem_of_getElem? hg)))
      obtain ⟨au, cu, rfl⟩ := hR.shape
      have HG := hide_it hg
      have hws : w.heap.size < wr.heap.size := (HO.out.lt w.heap.size rfl).2
      clear hR hg
      go_wp2_with fail
      refine HT.out.mono ?_
      rintro e w2 ⟨ao, cp, rfl, hm, hb2⟩
      have HO2 := hide_it (ownsRow_below HO.out hb2 (fun j hj => by simp [Value.ownBlock] at hj; omega))
      have HB2 : Hid (Below w.heap.size w w2) := HB.out.trans (hb2.mono HB.out.size)
      have HI2 : Hid (∀ p ∈ ps, Made w2 w.heap.size p.2 p.1.2.2.2.1) := fun p hp => (HI.out p hp).below hb2 (Nat.le_refl _)
      have HM2 : Hid (Made w2 w.heap.size (.slice ao rs.length cp) rs) := hm.lo HB.out.size
      have cellEx : ∀ j, j < hs.length * 5 → ∃ x, w2.cell? ⟨w.heap.size, j, none⟩ = some x := fun j hj => by
        have h1 := HO2.out.cellAt j hj
        have h2 : j < (hoflat (ps ++ List.replicate (hs.length - k) zeroHo)).length := by rw [HO2.out.1]; exact hj
        exact ⟨_, by rw [h1, List.getElem?_eq_getElem h2]⟩
      obtain ⟨x0, hx0⟩ := cellEx (k * 5) (by omega)
      obtain ⟨x1, hx1⟩ := cellEx (k * 5 + 1) (by omega)
      obtain ⟨x2, hx2⟩ := cellEx (k * 5 + 2) (by omega)
      obtain ⟨x3, hx3⟩ := cellEx (k * 5 + 3) (by omega)
      obtain ⟨x4, hx4⟩ := cellEx (k * 5 + 4) (by omega)
      have f0 := HO2.out.frozenAt (k * 5)
      have f1 := HO2.out.frozenAt (k * 5 + 1)
      have f2 := HO2.out.frozenAt (k * 5 + 2)
      have f3 := HO2.out.frozenAt (k * 5 + 3)
      have f4 := HO2.out.frozenAt (k * 5 + 4)
      obtain ⟨P, hP⟩ : ∃ P : Hd × Value, Hid (P = ((id, up, room, rs, f), .slice ao rs.length cp)) := ⟨_, rfl⟩
      have SS := stored5 HO2.out k (by have := HPL.out; simp; omega) ((id, up, room, rs, f), .slice ao rs.length cp)
      have KS := hide_it (Kept.of_row (ts := [79]) HO2.out SS.2 (by decide))
      have ST : Hid ((store5 w2 w.heap.size (k * 5) ((id, up, room, rs, f), .slice ao rs.length cp)).ownsRow w.heap.size 79 5 (.slice (some ⟨w.heap.size, 0, none⟩) hs.length hs.length) hs.length (hoflat ((ps ++ [P]) ++ List.replicate (hs.length - (k + 1)) zeroHo))) := by
        have h := SS.1
        have hpl := HPL.out
        rw [List.set_append_right _ _ (by omega), show k - ps.length = 0 by omega, show hs.length - k = (hs.length - (k + 1)) + 1 by omega, List.replicate_succ, List.set_cons_zero] at h
        rw [hP.out, List.append_assoc]
        exact h
      have HI3 : Hid (∀ p ∈ ps ++ [P], Made (store5 w2 w.heap.size (k * 5) ((id, up, room, rs, f), .slice ao rs.length cp)) w.heap.size p.2 p.1.2.2.2.1) := fun p hp => by
        rcases List.mem_append.1 hp with hp | hp
        · exact (HI2.out p hp).keptH KS.out
        · simp at hp; subst hp; rw [hP.out]; exact HM2.out.keptH KS.out
      have HP3 : Hid ((ps ++ [P]).map (·.1) = hs.take (k + 1)) := by
        show _ = _
        rw [List.map_append, HP.out, List.take_succ_eq_append_getElem hlt]
        have := HG.out
        rw [List.getElem?_eq_getElem hlt] at this
        simp only [Option.some.injEq] at this
        rw [this, hP.out]
        rfl
      clear cellEx hb2 hm SS
      go_wp2
      go_roundw
      case rel =>
        refine ⟨k + 1, ps ++ [P], by omega, by go_num, HP3, ST, HI3, ?_⟩
        exact ((((HB2.out.setCell (Nat.le_refl _) _).setCell (Nat.le_refl _) _).setCell (Nat.le_refl _) _).setCell (Nat.le_refl _) _).setCell (Nat.le_refl _) _
      case measure => simp [intOf]; omega
    · have hke : k = hs.length := by omega
      have HP3 : Hid (ps.map (·.1) = hs) := by have := HP.out; rw [hke, List.take_length] at this; exact this
      have hpl : ps.length = hs.length := by have := HPL.out; omega
      have HO3 : Hid (wr.ownsRow w.heap.size 79 5 (.slice (some ⟨w.heap.size, 0, none⟩) hs.length hs.length) ps.length (hoflat ps)) := by
        have := HO.out
        rw [hke, Nat.sub_self] at this
        show World.ownsRow _ _ _ _ _ _ _
        rw [hpl]
        simpa using this
      clear hpl
      go_wp2
      go_ret
      exact ⟨rfl, ⟨ps, HP3.out, HO3.out, HI.out⟩, HB.out⟩

set_option maxHeartbeats 2000000 in
theorem eqHouses_any (v1 v2 : Value) (hs : List Hd) (w : World) (h1 : Houses w v1 hs) (h2 : Houses w v2 hs) (hl : htot hs ≤ 1048576) :
    Calls Tryz.prog 47 #[v1, v2] w fun e w' => e = .returned (.bool true) ∧ Below w.heap.size w w' := by
  have H1 : Hid (∀ W, Below w.heap.size w W → Houses W v1 hs) := fun W h => h1.later h (Nat.le_refl _)
  have H2 : Hid (∀ W, Below w.heap.size w W → Houses W v2 hs) := fun W h => h2.later h (Nat.le_refl _)
  have HM : Hid (∀ h ∈ hs, tot h.2.2.2.1 ≤ 1048576) := fun h hh => Nat.le_trans (htot_mem hs h hh) hl
  have hlen := htot_len hs
  obtain ⟨a1, p1, rfl⟩ := h1.shape
  obtain ⟨a2, p2, rfl⟩ := h2.shape
  clear h1 h2
  go_enter Tryz.func47, Tryz.ntmps47
  go_wp2
  go_loopw [5] (fun i wr => ∃ k : Nat, k ≤ hs.length ∧ i = .int .i64 k ∧ Hid (Below w.heap.size w wr)) (fun i _ => hs.length - (intOf i).toNat)
  case atStart => exact ⟨0, Nat.zero_le _, rfl, Below.refl _ _⟩
  case round =>
    obtain ⟨k, hk, rfl, HB⟩ := hrel
    by_cases hlt : k < hs.length
    · obtain ⟨⟨id, up, room, rs, f⟩, hg⟩ : ∃ h, hs[k]? = some h := ⟨_, List.getElem?_eq_getElem hlt⟩
      obtain ⟨b, off, cap, u, hvv, c0, c1, c2, c3, c4, hR⟩ := (H1.out wr HB.out).at_ hg
      simp only [Value.slice.injEq] at hvv
      obtain ⟨rfl, -, rfl⟩ := hvv
      obtain ⟨b2, off2, cap2, u2, hvv, d0, d1, d2, d3, d4, hR2⟩ := (H2.out wr HB.out).at_ hg
      simp only [Value.slice.injEq] at hvv
      obtain ⟨rfl, -, rfl⟩ := hvv
      have HT := hide_it (fun (W : World) (hW : Below w.heap.size w W) => (show Recs W u rs → Recs W u2 rs → _ from fun a b => eqHouse_any id up room u u2 rs f W a b (HM.out _ (List.mem_of_getElem? hg))))
      have R1 := hide_it (hR.later (Below.refl _ _).drew (Nat.le_refl _))
      have R2 := hide_it (hR2.later (Below.refl _ _).drew (Nat.le_refl _))
      have BD : Hid (Below w.heap.size w wr.drew) := HB.out.drew
      obtain ⟨au, cu, rfl⟩ := hR.shape
      obtain ⟨au2, cu2, rfl⟩ := hR2.shape
      clear hR hR2 hg
      have hli : (k : Int) < (hs.length : Int) := by omega
      go_wp2
      go_region_with (go_at_call 80; refine (HT.out _ BD.out R1.out R2.out).mono ?_; rintro e w2 ⟨rfl, hb2⟩; have HB2 := hide_it (BD.out.trans (hb2.mono BD.out.size)); clear hb2)
      all_goals (try go_wp2)
      all_goals
        go_roundw
        case rel => exact ⟨k + 1, by omega, by go_num, HB2⟩
        case measure => simp [intOf]; omega
    · go_wp2
      go_ret
      exact ⟨rfl, HB.out⟩

end Go.Proofs.YtkkkdgpbmmjieaaGreatDoor

namespace Go.Proofs.YtkkkdgpbmmjieaaGreatDoor
open Go.RowKit

theorem wflat_one (hs : List Wd) : ∀ u ∈ wflat hs, u.oneCell' = true := by
  induction hs with
  | nil => intro u hu; simp [wflat] at hu
  | cons h t ih =>
    intro u hu
    simp only [wflat, List.mem_cons] at hu
    rcases hu with rfl | rfl | rfl | rfl | hu
    · rfl
    · rfl
    · rfl
    · rfl
    · exact ih u hu

theorem wflat_cells {w : World} {b off : Nat} {hs : List Wd} (hc : ∀ k, k < hs.length → w.cell? ⟨b, off + k * 4, none⟩ = some (.int .i64 (hs.getD k (0, 0, 0, 0)).1) ∧ w.cell? ⟨b, off + k * 4 + 1, none⟩ = some (.int .i64 (hs.getD k (0, 0, 0, 0)).2.1) ∧ w.cell? ⟨b, off + k * 4 + 2, none⟩ = some (.int .i64 (hs.getD k (0, 0, 0, 0)).2.2.1) ∧ w.cell? ⟨b, off + k * 4 + 3, none⟩ = some (.int .i64 (hs.getD k (0, 0, 0, 0)).2.2.2)) :
    ∀ j u, (wflat hs)[j]? = some u → w.cell? ((⟨b, off, none⟩ : Addr).add j) = some u := by
  intro j u hj
  have hjl : j < hs.length * 4 := by
    by_cases e : j < hs.length * 4
    · exact e
    · rw [List.getElem?_eq_none (by rw [wflat_length]; omega)] at hj; cases hj
  obtain ⟨f0, f1, f2, f3⟩ := wflat_get hs (j / 4) (by omega)
  obtain ⟨c0, c1, c2, c3⟩ := hc (j / 4) (by omega)
  rw [Go.WideShapes.add_plain]
  rcases (show j = j / 4 * 4 ∨ j = j / 4 * 4 + 1 ∨ j = j / 4 * 4 + 2 ∨ j = j / 4 * 4 + 3 by omega) with e | e | e | e
  · rw [← e] at f0 c0
    rw [c0, ← f0]; exact hj
  · rw [← e] at f1
    rw [show off + j = off + j / 4 * 4 + 1 by omega, c1, ← f1]; exact hj
  · rw [← e] at f2
    rw [show off + j = off + j / 4 * 4 + 2 by omega, c2, ← f2]; exact hj
  · rw [← e] at f3
    rw [show off + j = off + j / 4 * 4 + 3 by omega, c3, ← f3]; exact hj

/-- Words appended to a row of words of the call's own. -/
theorem run_append_words (w : World) (base ty : Nat) (v xv : Value) (n : Nat) (xs : List Value) (hs : List Wd) (hown : w.ownsRow base 82 4 v n xs) (hI : Words w xv hs) (hb : n + hs.length ≤ 4194304) (hbase : base ≤ w.heap.size) :
    ∃ v' w', (Builtin.append_ #[36, 36] ty #[v, xv]).run Tryz.prog w = .ok v' w' ∧ w'.ownsRow base 82 4 v' (n + hs.length) (xs ++ wflat hs) ∧ w.grownBy w' v.ownBlock ∧ (v'.ownBlock = v.ownBlock ∨ v'.ownBlock = some w.heap.size) := by
  obtain ⟨i0, hi, hz0, hz1, hz2⟩ := info_parts infoWord
  rcases hI with ⟨rfl, ao, cap, rfl, hao⟩ | ⟨b, off, cap, rfl, hz, hc⟩
  · cases ao with
    | none =>
      obtain rfl := hao rfl
      exact ⟨v, w, run_append_owned_none w base 36 ty 82 i0 4 Tryz.underlying36 hi v n xs hown, by simpa [wflat] using hown, World.grownBy.refl _ _, Or.inl rfl⟩
    | some a =>
      obtain ⟨v', w', h1, h2, h3, _, h5⟩ := run_append_own_at (P := Tryz.prog) w base 36 ty 82 i0 (.agg #[.int .i64 0, .int .i64 0, .int .i64 0, .int .i64 0]) 4 32 Tryz.underlying36 hi hz0 hz1 hz2 rfl (by decide) v n xs hown a 0 cap [] rfl (fun j u h => by simp at h) (fun u h => by simp at h) (by unfold maxLen; omega) (by simp at hb; omega) hbase
      exact ⟨v', w', h1, by simpa [wflat] using h2, h3, h5⟩
  · obtain ⟨v', w', h1, h2, h3, _, h5⟩ := run_append_own_at (P := Tryz.prog) w base 36 ty 82 i0 (.agg #[.int .i64 0, .int .i64 0, .int .i64 0, .int .i64 0]) 4 32 Tryz.underlying36 hi hz0 hz1 hz2 rfl (by decide) v n xs hown ⟨b, off, none⟩ hs.length cap (wflat hs) (wflat_length hs) (wflat_cells hc) (wflat_one hs) (by unfold maxLen; omega) (by omega) hbase
    exact ⟨v', w', h1, h2, h3, h5⟩

theorem step_append_words {ops : Array Oper} {o : Oper} {a : Act} {w : World} {K : Act → World → Prop} {Q : Exit → Act → World → Prop} {E : Prop} (hgd : o.guard = none) (s x : Operand)
    (ho : o.op = .call { callee := .builtin .append, args := #[s, x], argTypes := #[36, 36] })
    (base : Nat) (v xv : Value) (n : Nat) (xs : List Value) (hs : List Wd) (he : a.eval s = v) (hx : a.eval x = xv) (hown : w.ownsRow base 82 4 v n xs) (hI : Words w xv hs) (hb : n + hs.length ≤ 4194304) (hbase : base ≤ w.heap.size)
    (h : ∀ ao cap w', w'.ownsRow base 82 4 (.slice ao (n + hs.length) cap) (n + hs.length) (xs ++ wflat hs) → w.grownBy w' v.ownBlock → ((Value.slice ao (n + hs.length) cap).ownBlock = v.ownBlock ∨ (Value.slice ao (n + hs.length) cap).ownBlock = some w.heap.size) → K (a.put o.dst (.slice ao (n + hs.length) cap)) w') :
    if Region.wanted o (yielded ops a.tmps) = true then Oper.wp Tryz.prog o a w K Q else E := by
  have hw : Region.wanted o (yielded ops a.tmps) = true := by simp [Region.wanted, hgd]
  rw [if_pos hw]
  obtain ⟨v', w', hrun, r1, r2, r3⟩ := run_append_words w base o.type v xv n xs hs hown hI hb hbase
  obtain ⟨ao, cap, rfl⟩ := row_shape r1
  unfold Oper.wp
  simp [execOp, ho, resolve, invoke, builtin, he, hx, hrun, Result.andThen]
  exact h ao cap w' r1 r2 r3

set_option maxHeartbeats 8000000 in
set_option maxRecDepth 20000 in
theorem copyDesk_any (up : Bool) (v u : Value) (rs : List R) (f : Int) (ws : List Wd) (w : World) (hv : DkAt w v u rs ws) (hl : tot rs ≤ 1048576) (hlw : ws.length ≤ 1048576) :
    Calls Tryz.prog 92 #[deskV up v f u] w fun e w' => DkOut w w' e up rs f ws := by
  have HV : Hid (∀ W, Below w.heap.size w W → DkAt W v u rs ws) := fun W h => hv.later h (Nat.le_refl _)
  have HS : Hid (∀ W, Below w.heap.size w W → Calls Tryz.prog 140 #[v] W fun e w' => ∃ ao cap, e = .returned (.slice ao rs.length cap) ∧ Made w' W.heap.size (.slice ao rs.length cap) rs ∧ Below W.heap.size W w') := fun W h =>
    copyRecs_any v rs W (hv.1.later h (Nat.le_refl _)) hl
  obtain ⟨av, cv, au, cu, rfl, rfl⟩ := hv.shape
  clear hv
  obtain ⟨w0, hw0⟩ : ∃ W, Hid (W = (w.alloc (.cells #[.bool up, .slice av rs.length cv, .int .i64 f, .slice au ws.length cu] 38)).alloc (.cells #[.bool false, .slice none 0 0, .int .i64 0, .slice none 0 0] 38)) := ⟨_, rfl⟩
  have B0 : Hid (Below w.heap.size w w0) := by show Below _ _ _; rw [hw0.out]; exact below2 _ _ _
  have X0 : Hid (Blk w0 w.heap.size #[.bool up, .slice av rs.length cv, .int .i64 f, .slice au ws.length cu] 38) := by show Blk _ _ _ _; rw [hw0.out]; exact (Blk.new _ _ _).alloc _
  have Y0 : Hid (Blk w0 (w.heap.size + 1) #[.bool false, .slice none 0 0, .int .i64 0, .slice none 0 0] 38) := by show Blk _ _ _ _; rw [hw0.out]; exact Blk.new2 _ _ _ _
  have hs0 : w0.heap.size = w.heap.size + 2 := by rw [hw0.out, size2]
  obtain ⟨x0, x1, x2, x3⟩ := X0.out.cells4
  go_enter Tryz.func92, Tryz.ntmps92
  go_wp2_with fail
  rw [← hw0.out]
  go_region_held_law (fun w' => w'.cell? ⟨w.heap.size, 0, none⟩ = some (.bool up) ∧ w'.cell? ⟨w.heap.size, 1, none⟩ = some (.slice av rs.length cv) ∧ w'.cell? ⟨w.heap.size, 2, none⟩ = some (.int .i64 f) ∧ w'.cell? ⟨w.heap.size, 3, none⟩ = some (.slice au ws.length cu)) (go_keep)
    (first
    | (go_at_call 140; refine (HS.out _ B0.out.drew).mono ?_; rintro e w1 ⟨ao, cap, rfl, hm, hb⟩; have hb' := (Below.refl w0.heap.size w0).drew.trans hb; obtain ⟨y0, y1, y2, y3⟩ := (X0.out.after hb').cells4; have M1 := hide_it hm; have L1 := hide_it hb'; have B1 := hide_it (B0.out.trans (hb'.mono B0.out.size)); clear hm hb hb')
    | (refine step_append_words rfl _ _ rfl w1.heap.size (.slice none 0 0) (.slice au ws.length cu) 0 [] ws rfl rfl (World.ownsRow_nil _ _ _ _) (HV.out _ B1.out).2 (by omega) (Nat.le_refl _) ?_; intro a2 c2 w2 hown hgrow hloc; clear hloc; simp only [Nat.zero_add, List.nil_append] at hown; have hb2 := grown_below hgrow; obtain ⟨k0, k1, k2, k3⟩ := (X0.out.after (L1.out.trans (hb2.mono L1.out.size))).cells4; obtain ⟨z0, z1, z2, z3⟩ := (Y0.out.after (L1.out.trans (hb2.mono L1.out.size))).cells4; obtain ⟨zf0, zf1, zf2, zf3⟩ := (Y0.out.after (L1.out.trans (hb2.mono L1.out.size))).free4; have O2 := hide_it hown; have L2 := hide_it hb2; have B2 := hide_it (B1.out.trans (hb2.mono B1.out.size)); have hz2 : w.heap.size + 2 ≤ w2.heap.size := (by have := hb2.size; have := L1.out.size; omega); clear hown hgrow hb2))
  try simp only [Nat.zero_add]
  go_wp2
  refine bodyPost_ret (v := deskV up (.slice ao rs.length cap) f (.slice a2 ws.length c2)) (by simp [results, Tryz.results92, go_sem, *]) rfl ?_
  obtain ⟨ps, hp, ho⟩ := M1.out
  refine ⟨ao, cap, a2, c2, ps, rfl, hp, ?_, ?_⟩
  · refine DkOwn.lo (lo := w0.heap.size) ?_ (by omega)
    repeat (refine DkOwn.setBelow ?_ (by omega) _)
    simpa using (DkOwn.mk_ (by simpa using ho) O2.out L2.out (by have := L1.out.size; omega))
  · repeat (refine Below.setCell ?_ (by first | (simp; done) | (simp; omega)) _)
    exact B2.out

end Go.Proofs.YtkkkdgpbmmjieaaGreatDoor

namespace Go.Proofs.YtkkkdgpbmmjieaaGreatDoor
open Go.RowKit
open Go.Maps

set_option maxHeartbeats 1000000 in
theorem answerOk_any (p : Wd) (n : Int) (w : World) :
    Calls Tryz.prog 158 #[wordV p.1 p.2.1 p.2.2.1 p.2.2.2, .int .i64 n] w fun e w' => e = .returned (.bool (ansOk n p)) ∧ Below w.heap.size w w' := by
  obtain ⟨k, h, t, m⟩ := p
  show Calls Tryz.prog 158 #[wordV k h t m, .int .i64 n] w fun e w' => e = .returned (.bool (Pl.wOk k h t m && decide (4 ≤ k) && decide (t ≤ n))) ∧ Below w.heap.size w w'
  have HW : Hid (∀ W, Calls Tryz.prog 78 #[wordV k h t m] W fun e w' => e = .returned (.bool (Pl.wOk k h t m)) ∧ Below W.heap.size W w') := fun W => implWordOk_any k h t m W
  have X0 : Hid (Blk (w.alloc (.cells #[.int .i64 k, .int .i64 h, .int .i64 t, .int .i64 m] 82)) w.heap.size #[.int .i64 k, .int .i64 h, .int .i64 t, .int .i64 m] 82) := Blk.new _ _ _
  obtain ⟨bb, hbb⟩ : ∃ x, Pl.wOk k h t m = x := ⟨_, rfl⟩
  rw [hbb] at HW ⊢
  clear hbb
  go_enter Tryz.func158, Tryz.ntmps158
  go_wp2_with fail
  refine (HW.out _).mono ?_
  rintro e w1 ⟨rfl, hb⟩
  obtain ⟨c0, c1, c2, c3⟩ := (X0.out.after hb).cells4
  have B1 := hide_it (below_after hb)
  clear hb
  cases bb
  · go_wp2
    go_ret
    exact ⟨rfl, B1.out⟩
  · by_cases h4 : 4 ≤ k
    · by_cases hn : t ≤ n
      · go_wp2
        go_ret
        exact ⟨by simp; omega, B1.out⟩
      · go_wp2
        go_ret
        exact ⟨by simp; omega, B1.out⟩
    · go_wp2
      go_ret
      exact ⟨by simp; omega, B1.out⟩

/-- What comes of words that were told. -/
def BkOut (w w' : World) (e : Ending) (n : Int) (ws : List Wd) : Prop :=
  ((toldOk n ws = true ∧ e = .returned (.tuple #[.map (some w.heap.size), .bool true]) ∧ BkN w' w.heap.size w.heap.size (2 * ws.length) ws) ∨
   (toldOk n ws = false ∧ e = .returned (.tuple #[.map none, .bool false]))) ∧ Below w.heap.size w w'

set_option maxHeartbeats 4000000 in
set_option maxRecDepth 10000 in
theorem bookOf_any (u : Value) (ws : List Wd) (n : Int) (w : World) (hu : Words w u ws) (hl : ws.length ≤ 1048576) :
    Calls Tryz.prog 125 #[u, .int .i64 n] w fun e w' => BkOut w w' e n ws := by
  have HV : Hid (∀ W, Below w.heap.size w W → Words W u ws) := fun W h => hu.later h (Nat.le_refl _)
  obtain ⟨au, cu, rfl⟩ := hu.shape
  clear hu
  obtain ⟨w0, hw0⟩ : ∃ W, Hid (W = w.alloc (.map #[] 0)) := ⟨_, rfl⟩
  have B0 : Hid (Below w.heap.size w w0) := by show Below _ _ _; rw [hw0.out]; exact alloc_below _ _
  have K0 : Hid (BkN w0 w.heap.size w.heap.size 0 []) := by show BkN _ _ _ _ _; rw [hw0.out]; exact BkN.new w
  have hmm := @run_makeMap Tryz.prog
  go_enter Tryz.func125, Tryz.ntmps125
  go_wp2
  rw [← hw0.out]
  clear hmm
  go_loopw [12] (fun i wr => ∃ k : Nat, k ≤ ws.length ∧ i = .int .i64 k ∧ Hid (toldOk n (ws.take k) = true) ∧ Hid (BkN wr w.heap.size w.heap.size (2 * k) (ws.take k)) ∧ Hid (Below w.heap.size w wr)) (fun i _ => ws.length - (intOf i).toNat)
  case atStart => exact ⟨0, Nat.zero_le _, rfl, rfl, K0, B0⟩
  case round =>
    obtain ⟨k, hk, rfl, HT, HK, HB⟩ := hrel
    by_cases hlt : k < ws.length
    · obtain ⟨p, HP⟩ : ∃ p, Hid (ws.getD k (0, 0, 0, 0) = p) := ⟨_, rfl⟩
      rcases HV.out wr HB.out with ⟨h0, _⟩ | ⟨b, off, cap, hvv, _, hcl⟩
      · rw [h0] at hlt; simp at hlt
      simp only [Value.slice.injEq] at hvv
      obtain ⟨rfl, -, rfl⟩ := hvv
      obtain ⟨c0, c1, c2, c3⟩ := hcl k hlt
      rw [HP.out] at c0 c1 c2 c3
      have hbw : b < wr.heap.size := World.block_lt_of_cell? _ _ c0
      have HA : Hid (∀ W, Calls Tryz.prog 158 #[wordV p.1 p.2.1 p.2.2.1 p.2.2.2, .int .i64 n] W fun e w' => e = .returned (.bool (ansOk n p)) ∧ Below W.heap.size W w') := fun W => answerOk_any p n W
      have X0 : Hid (Blk (wr.alloc (.cells #[.int .i64 p.1, .int .i64 p.2.1, .int .i64 p.2.2.1, .int .i64 p.2.2.2] 82)) wr.heap.size #[.int .i64 p.1, .int .i64 p.2.1, .int .i64 p.2.2.1, .int .i64 p.2.2.2] 82) := Blk.new _ _ _
      have hwr := HB.out.size
      clear hcl
      obtain ⟨aa, haa⟩ : ∃ x, ansOk n p = x := ⟨_, rfl⟩
      rw [haa] at HA
      cases aa
      · have HN : Hid (toldOk n ws = false) := toldOk_bad hlt (by rw [HP.out]; exact haa)
        clear haa
        go_wp2_with (go_at_call 158; refine (HA.out _).mono ?_; rintro e w1 ⟨rfl, hb⟩; have B1 := hide_it (HB.out.trans ((below_after hb).mono hwr)); clear hb)
        refine bodyPost_ret (v := .tuple #[.map none, .bool false]) (by simp [results, Tryz.results125, go_sem]) rfl ?_
        exact ⟨Or.inr ⟨HN.out, rfl⟩, B1.out⟩
      · obtain ⟨pk, ph, pt, pm, pn⟩ := ansOk_parts haa
        have HPP : Hid ((0 ≤ p.1 ∧ p.1 ≤ 10) ∧ (0 ≤ p.2.1 ∧ p.2.1 ≤ 10) ∧ (1 ≤ p.2.2.1 ∧ p.2.2.1 ≤ 6)) := ⟨by omega, by omega, pt⟩
        have hte := told_mem (toldOk_all HT.out) haa
        have HAA := hide_it haa
        clear haa pk ph pt pm pn
        go_wp2_with fail
        refine (HA.out _).mono ?_
        rintro e w1 ⟨rfl, hb⟩
        have B1 := hide_it (HB.out.trans ((below_after hb).mono hwr))
        have K1 := hide_it (HK.out.after (below_after hb))
        have X1 := hide_it (X0.out.after hb)
        obtain ⟨d0, d1, d2, d3⟩ := X1.out.cells4
        have hz1 := B1.out.size
        clear hb c0 c1 c2 c3
        obtain ⟨tt, htt⟩ : ∃ x, told (ws.take k) p.1 p.2.1 p.2.2.1 = x := ⟨_, rfl⟩
        rw [htt] at hte
        cases tt
        · have HTk : Hid (toldOk n (ws.take (k + 1)) = true) := toldOk_more hlt HT.out (by rw [HP.out]; exact HAA.out) (by rw [HP.out]; exact hte.symm)
          have HTe : Hid (ws.take (k + 1) = ws.take k ++ [p]) := by show _ = _; rw [wtake ws k hlt, HP.out]
          have C := bookAdd_new w.heap.size w.heap.size (2 * k) (ws.take k) p w1 K1.out (by omega) HPP.out.1 HPP.out.2.1 HPP.out.2.2 htt
          have HC := hide_it C
          clear C htt hte
          go_wp2_with fail
          refine HC.out.mono ?_
          rintro e w2 ⟨rfl, hk2, hb2⟩
          have B2 := hide_it (B1.out.trans hb2)
          have K2 : Hid (BkN w2 w.heap.size w.heap.size (2 * (k + 1)) (ws.take (k + 1))) := by show BkN _ _ _ _ _; rw [HTe.out]; exact hk2
          clear hk2 hb2
          go_wp2
          go_roundw
          case rel => exact ⟨k + 1, by omega, by go_num, HTk, K2, B2⟩
          case measure => simp [intOf]; omega
        · have HN : Hid (toldOk n ws = false) := toldOk_twice hlt (by rw [HP.out]; exact hte.symm)
          have C := bookAdd_old w.heap.size w.heap.size (2 * k) (ws.take k) p w1 K1.out HPP.out.1 HPP.out.2.1 HPP.out.2.2 htt
          have HC := hide_it C
          clear C htt hte
          go_wp2_with fail
          refine HC.out.mono ?_
          rintro e w2 ⟨rfl, hb2⟩
          have B2 := hide_it (B1.out.trans (hb2.mono hz1))
          clear hb2
          go_wp2
          refine bodyPost_ret (v := .tuple #[.map none, .bool false]) (by simp [results, Tryz.results125, go_sem]) rfl ?_
          exact ⟨Or.inr ⟨HN.out, rfl⟩, B2.out⟩
    · have hke : k = ws.length := by omega
      have HT2 : Hid (toldOk n ws = true) := by have := HT.out; rw [hke, List.take_length] at this; exact this
      have HK2 : Hid (BkN wr w.heap.size w.heap.size (2 * ws.length) ws) := by have := HK.out; rw [hke, List.take_length] at this; exact this
      clear hke
      go_wp2
      refine bodyPost_ret (v := .tuple #[.map (some w.heap.size), .bool true]) (by simp [results, Tryz.results125, go_sem]) rfl ?_
      exact ⟨Or.inl ⟨HT2.out, rfl, HK2.out⟩, HB.out⟩

end Go.Proofs.YtkkkdgpbmmjieaaGreatDoor

namespace Go.Proofs.YtkkkdgpbmmjieaaGreatDoor.T
open Go.RowKit

/-- A node: where it lies, what is wanted, its state. -/
abbrev Nd := Nat × (Int × Int × Int) × Int
/-- Its trip. -/
def ndT (n : Nd) : R := ([n.2.1.1, n.2.1.2.1, n.2.1.2.2], n.2.2)
/-- Its cells. -/
def ndV (n : Nd) (nx : Value) : Array Value := #[.int .i64 n.2.1.1, .int .i64 n.2.1.2.1, .int .i64 n.2.1.2.2, .int .i64 n.2.2, nx]
abbrev ptr (b : Nat) : Value := .pointer (some ⟨b, 0, none⟩)
/-- A pointer to the node at a place; nil, if there is none. -/
def at_ (ns : List Nd) (i : Nat) : Value := match ns[i]? with
  | some n => ptr n.1
  | none => .pointer none

theorem at_some {ns : List Nd} {i : Nat} {n : Nd} (h : ns[i]? = some n) : at_ ns i = ptr n.1 := by unfold at_; rw [h]
theorem at_none {ns : List Nd} {i : Nat} (h : ns.length ≤ i) : at_ ns i = .pointer none := by unfold at_; rw [List.getElem?_eq_none h]
theorem at_shape (ns : List Nd) (i : Nat) : ∃ a, at_ ns i = .pointer a := by
  unfold at_
  split
  · exact ⟨_, rfl⟩
  · exact ⟨_, rfl⟩
theorem at_snoc_lt {ns : List Nd} {x : Nd} {i : Nat} (h : i < ns.length) : at_ (ns ++ [x]) i = at_ ns i := by unfold at_; rw [List.getElem?_append_left h]
theorem at_snoc_eq (ns : List Nd) (x : Nd) : at_ (ns ++ [x]) ns.length = ptr x.1 := at_some (by simp)
theorem at_set (ns : List Nd) (k : Nat) (m : Nd) (s : Int) (hk : ns[k]? = some m) (i : Nat) : at_ (ns.set k (m.1, m.2.1, s)) i = at_ ns i := by
  unfold at_
  rw [List.getElem?_set]
  by_cases h : k = i
  · subst h
    have hl : k < ns.length := by
      by_cases e : k < ns.length
      · exact e
      · rw [List.getElem?_eq_none (by omega)] at hk; cases hk
    rw [if_pos rfl, if_pos hl, hk]
  · rw [if_neg h]

/-- The nodes as they lie, one behind the other, from lo on. -/
structure Nodes (w : World) (lo : Nat) (ns : List Nd) : Prop where
  node : ∀ (i : Nat) (n : Nd), ns[i]? = some n → Blk w n.1 (ndV n (at_ ns (i + 1))) 229
  low : ∀ n ∈ ns, lo ≤ n.1
  inj : ∀ (i j : Nat) (a b : Nd), ns[i]? = some a → ns[j]? = some b → a.1 = b.1 → i = j

/-- A chain: its three cells, and its nodes. -/
structure Chain (w : World) (c lo : Nat) (ns : List Nd) : Prop where
  head : Blk w c #[at_ ns 0, at_ ns (ns.length - 1), .int .i64 ns.length] 199
  nodes : Nodes w lo ns
  lowc : lo ≤ c

theorem Nodes.nil (w : World) (lo : Nat) : Nodes w lo [] := ⟨fun i n h => by simp at h, fun n h => by simp at h, fun i j a b h => by simp at h⟩
theorem Nodes.after {w w' : World} {lo : Nat} {ns : List Nd} (h : Nodes w lo ns) (hb : Below w.heap.size w w') : Nodes w' lo ns :=
  ⟨fun i n hn => (h.node i n hn).after hb, h.low, h.inj⟩
theorem Chain.after {w w' : World} {c lo : Nat} {ns : List Nd} (h : Chain w c lo ns) (hb : Below w.heap.size w w') : Chain w' c lo ns :=
  ⟨h.head.after hb, h.nodes.after hb, h.lowc⟩
theorem Chain.new (w : World) : Chain (w.alloc (.cells #[.pointer none, .pointer none, .int .i64 0] 199)) w.heap.size w.heap.size [] :=
  ⟨Blk.new w _ _, Nodes.nil _ _, Nat.le_refl _⟩
theorem len_lt {α : Type} {xs : List α} {i : Nat} {x : α} (h : xs[i]? = some x) : i < xs.length := by
  by_cases e : i < xs.length
  · exact e
  · rw [List.getElem?_eq_none (by omega)] at h; cases h
theorem get_snoc {ns : List Nd} {x n : Nd} {i : Nat} (h : (ns ++ [x])[i]? = some n) : (i < ns.length ∧ ns[i]? = some n) ∨ (i = ns.length ∧ n = x) := by
  by_cases hi : i < ns.length
  · rw [List.getElem?_append_left hi] at h; exact Or.inl ⟨hi, h⟩
  · rw [List.getElem?_append_right (by omega)] at h
    have h0 : i - ns.length = 0 := by
      have := len_lt h
      simp at this; omega
    rw [h0] at h
    simp at h
    exact Or.inr ⟨by omega, h.symm⟩

/-- The first node of a chain. -/
theorem Chain.add0 {w w1 w' : World} {c lo : Nat} {x : Nd} (h : Chain w c lo []) (hx : x.1 = w.heap.size) (hb : Below w.heap.size w w1) (hn : Blk w1 x.1 (ndV x (.pointer none)) 229)
    (h' : w' = ((w1.setCell ⟨c, 0, none⟩ (ptr x.1)).setCell ⟨c, 1, none⟩ (ptr x.1)).setCell ⟨c, 2, none⟩ (.int .i64 1)) : Chain w' c lo [x] ∧ Below lo w w' := by
  have hc1 := h.head.after hb
  have hcx : x.1 ≠ c := hn.ne hc1 (by decide)
  have hlt := h.head.lt
  have hlo := h.lowc
  refine ⟨⟨?_, ⟨fun i n hi => ?_, fun n hi => ?_, fun i j a b hi hj _ => ?_⟩, hlo⟩, ?_⟩
  · rw [h']
    exact ((hc1.set_ 0 _).set_ 1 _).set_ 2 _
  · have hi0 := len_lt hi
    simp at hi0
    subst hi0
    simp at hi
    subst hi
    rw [h', at_none (by simp)]
    exact ((hn.other hcx _).other hcx _).other hcx _
  · simp at hi; subst hi; omega
  · have h1 := len_lt hi; have h2 := len_lt hj; simp at h1 h2; omega
  · rw [h']
    exact (((hb.mono (by omega)).setCell (by simpa using hlo) _).setCell (by simpa using hlo) _).setCell (by simpa using hlo) _

/-- One node more, behind the last one. -/
theorem Chain.add1 {w w1 w' : World} {c lo : Nat} {ns : List Nd} {x m : Nd} (h : Chain w c lo ns) (hm : ns[ns.length - 1]? = some m) (hx : x.1 = w.heap.size) (hb : Below w.heap.size w w1) (hn : Blk w1 x.1 (ndV x (.pointer none)) 229)
    (h' : w' = ((w1.setCell ⟨m.1, 4, none⟩ (ptr x.1)).setCell ⟨c, 1, none⟩ (ptr x.1)).setCell ⟨c, 2, none⟩ (.int .i64 ((ns.length : Int) + 1))) : Chain w' c lo (ns ++ [x]) ∧ Below lo w w' := by
  have hl := len_lt hm
  have hc1 := h.head.after hb
  have hm1 := (h.nodes.node _ m hm).after hb
  have hcx : x.1 ≠ c := hn.ne hc1 (by decide)
  have hcm : m.1 ≠ c := hm1.ne hc1 (by decide)
  have hlt := h.head.lt
  have hlo := h.lowc
  have hmlt := (h.nodes.node _ m hm).lt
  have hmlo := h.nodes.low m (List.mem_of_getElem? hm)
  have hmx : m.1 ≠ x.1 := by omega
  refine ⟨⟨?_, ⟨fun i n hi => ?_, fun n hi => ?_, fun i j a b hi hj hab => ?_⟩, hlo⟩, ?_⟩
  · rw [h']
    have h0 := ((hc1.other (a := ⟨m.1, 4, none⟩) (fun e => hcm e.symm) (ptr x.1)).set_ 1 (ptr x.1)).set_ 2 (.int .i64 ((ns.length : Int) + 1))
    rw [at_snoc_lt (by omega), show (ns ++ [x]).length - 1 = ns.length by simp, at_snoc_eq, show ((ns ++ [x]).length : Int) = (ns.length : Int) + 1 by simp]
    exact h0
  · rw [h']
    rcases get_snoc hi with ⟨hil, hi⟩ | ⟨rfl, rfl⟩
    · have hni := (h.nodes.node i n hi).after hb
      have hnc : n.1 ≠ c := hni.ne hc1 (by decide)
      by_cases hlast : i = ns.length - 1
      · subst hlast
        rw [hm] at hi
        simp at hi
        subst hi
        rw [show ns.length - 1 + 1 = ns.length by omega, at_snoc_eq]
        have h0 := hm1.set_ 4 (ptr x.1)
        exact (h0.other hcm _).other hcm _
      · rw [at_snoc_lt (by omega)]
        have hnm : n.1 ≠ m.1 := fun e => hlast (h.nodes.inj i _ n m hi hm e)
        exact ((hni.other hnm _).other hnc _).other hnc _
    · rw [at_none (by simp)]
      exact ((hn.other (fun e => hmx e.symm) _).other hcx _).other hcx _
  · rcases List.mem_append.1 hi with hi | hi
    · exact h.nodes.low n hi
    · simp at hi; subst hi; omega
  · rcases get_snoc hi with ⟨hil, hi'⟩ | ⟨ei, ea⟩
    · rcases get_snoc hj with ⟨hjl, hj'⟩ | ⟨ej, eb⟩
      · exact h.nodes.inj i j a b hi' hj' hab
      · have := (h.nodes.node i a hi').lt; subst eb; omega
    · rcases get_snoc hj with ⟨hjl, hj'⟩ | ⟨ej, eb⟩
      · have := (h.nodes.node j b hj').lt; subst ea; omega
      · omega
  · rw [h']
    exact (((hb.mono (by omega)).setCell (by simpa using hmlo) _).setCell (by simpa using hlo) _).setCell (by simpa using hlo) _

/-- Another state of one node. -/
theorem Chain.turn {w : World} {c lo : Nat} {ns : List Nd} {k : Nat} {m : Nd} (s : Int) (h : Chain w c lo ns) (hm : ns[k]? = some m) :
    Chain (w.setCell ⟨m.1, 3, none⟩ (.int .i64 s)) c lo (ns.set k (m.1, m.2.1, s)) ∧ Below lo w (w.setCell ⟨m.1, 3, none⟩ (.int .i64 s)) := by
  have hk := len_lt hm
  have hmb := h.nodes.node k m hm
  have hmc : m.1 ≠ c := hmb.ne h.head (by decide)
  have hmlo := h.nodes.low m (List.mem_of_getElem? hm)
  have same : ∀ (i : Nat) (n : Nd), (ns.set k (m.1, m.2.1, s))[i]? = some n → ∃ n', ns[i]? = some n' ∧ n'.1 = n.1 := by
    intro i n hn
    rw [List.getElem?_set] at hn
    by_cases e : k = i
    · subst e
      rw [if_pos rfl, if_pos hk] at hn
      simp at hn
      exact ⟨m, hm, by rw [← hn]⟩
    · rw [if_neg e] at hn; exact ⟨n, hn, rfl⟩
  refine ⟨⟨?_, ⟨fun i n hi => ?_, fun n hn => ?_, fun i j a b hi hj hab => ?_⟩, h.lowc⟩, ?_⟩
  · rw [at_set ns k m s hm, List.length_set, at_set ns k m s hm]
    exact h.head.other (fun e => hmc e.symm) _
  · rw [at_set ns k m s hm]
    rw [List.getElem?_set] at hi
    by_cases e : k = i
    · subst e
      rw [if_pos rfl, if_pos hk] at hi
      simp at hi
      subst hi
      exact hmb.set_ 3 _
    · rw [if_neg e] at hi
      exact (h.nodes.node i n hi).other (fun e' => e (h.nodes.inj k i m n hm hi e'.symm)) _
  · obtain ⟨i, hi, hn'⟩ := List.mem_iff_getElem.1 hn
    obtain ⟨n', h1, h2⟩ := same i n (by rw [List.getElem?_eq_getElem hi, hn'])
    rw [← h2]; exact h.nodes.low n' (List.mem_of_getElem? h1)
  · obtain ⟨a', ha1, ha2⟩ := same i a hi
    obtain ⟨b', hb1, hb2⟩ := same j b hj
    exact h.nodes.inj i j a' b' ha1 hb1 (by rw [ha2, hb2, hab])
  · exact (Below.refl _ _).setCell (by simpa using hmlo) _

theorem Nodes.cells {w : World} {lo : Nat} {ns : List Nd} (h : Nodes w lo ns) {i : Nat} {n : Nd} (hn : ns[i]? = some n) :
    w.cell? ⟨n.1, 0, none⟩ = some (.int .i64 n.2.1.1) ∧ w.cell? ⟨n.1, 1, none⟩ = some (.int .i64 n.2.1.2.1) ∧ w.cell? ⟨n.1, 2, none⟩ = some (.int .i64 n.2.1.2.2) ∧ w.cell? ⟨n.1, 3, none⟩ = some (.int .i64 n.2.2) ∧ w.cell? ⟨n.1, 4, none⟩ = some (at_ ns (i + 1)) :=
  (h.node i n hn).cells5

end Go.Proofs.YtkkkdgpbmmjieaaGreatDoor.T

namespace Go.Proofs.YtkkkdgpbmmjieaaGreatDoor.T
open Go.RowKit

set_option maxHeartbeats 1000000 in
theorem stateBehind_any (s k : Int) (w : World) :
    Calls Tryz.prog 181 #[.int .i64 s, .int .i64 k] w fun e w' => e = .returned (.int .i64 (nextS s k)) ∧ w' = w := by
  by_cases h5 : k = 5
  · subst h5
    by_cases h1 : s = 1
    · subst h1
      go_enter Tryz.func181, Tryz.ntmps181
      go_wp2
      go_ret
      exact ⟨rfl, rfl⟩
    · have HE : Hid (nextS s 5 = 0) := by show _ = _; simp [nextS, h1]
      have e1 : (s == 1) = false := by simp [h1]
      go_enter Tryz.func181, Tryz.ntmps181
      go_wp2
      go_ret
      exact ⟨by rw [HE.out]; rfl, rfl⟩
  by_cases h6 : k = 6
  · subst h6
    by_cases h1 : s = 1
    · subst h1
      go_enter Tryz.func181, Tryz.ntmps181
      go_wp2
      go_ret
      exact ⟨rfl, rfl⟩
    · have HE : Hid (nextS s 6 = 0) := by show _ = _; simp [nextS, h1]
      have e1 : (s == 1) = false := by simp [h1]
      go_enter Tryz.func181, Tryz.ntmps181
      go_wp2
      go_ret
      exact ⟨by rw [HE.out]; rfl, rfl⟩
  by_cases h7 : k = 7
  · subst h7
    by_cases h2 : s = 2
    · subst h2
      go_enter Tryz.func181, Tryz.ntmps181
      go_wp2
      go_ret
      exact ⟨rfl, rfl⟩
    have e2 : (s == 2) = false := by simp [h2]
    by_cases h3 : s = 3
    · subst h3
      go_enter Tryz.func181, Tryz.ntmps181
      go_wp2
      go_ret
      exact ⟨rfl, rfl⟩
    have e3 : (s == 3) = false := by simp [h3]
    have HE : Hid (nextS s 7 = 0) := by show _ = _; simp [nextS, h2, h3]
    go_enter Tryz.func181, Tryz.ntmps181
    go_wp2
    go_ret
    exact ⟨by rw [HE.out]; rfl, rfl⟩
  have HE : Hid (nextS s k = 0) := by show _ = _; simp [nextS, h5, h6, h7]
  have e5 : (k == 5) = false := by simp [h5]
  have e6 : (k == 6) = false := by simp [h6]
  have e7 : (k == 7) = false := by simp [h7]
  go_enter Tryz.func181, Tryz.ntmps181
  go_wp2
  go_ret
  exact ⟨by rw [HE.out]; rfl, rfl⟩

set_option maxHeartbeats 1000000 in
theorem find_any (c lo : Nat) (ns : List Nd) (t : Int) (w : World) (hc : Chain w c lo ns) (hn : ns.length ≤ 6) (ht : 1 ≤ t) :
    Calls Tryz.prog 180 #[ptr c, .int .i64 t] w fun e w' => e = .returned (at_ ns (t - 1).toNat) ∧ w' = w := by
  obtain ⟨h0, h1, h2⟩ := hc.head.cells3
  have HN := hide_it hc.nodes
  clear hc h1 h2
  obtain ⟨a0, ha0⟩ := at_shape ns 0
  have HA0 := hide_it ha0
  rw [ha0] at h0
  clear ha0
  obtain ⟨I, hI⟩ : ∃ I, (t - 1).toNat = I := ⟨_, rfl⟩
  rw [hI]
  have HIq := hide_it hI
  clear hI
  go_enter Tryz.func180, Tryz.ntmps180
  go_wp2
  go_loop [5, 6] (fun q p => ∃ (i : Nat) (a : Option Addr), i ≤ ns.length ∧ q = .int .i64 ((i : Int) + 1) ∧ p = .pointer a ∧ Hid (at_ ns i = .pointer a) ∧ (i : Int) < t) (fun q _ => ns.length + 1 - (intOf q).toNat)
  case atStart => exact ⟨0, a0, Nat.zero_le _, rfl, rfl, HA0, by omega⟩
  case round =>
    obtain ⟨i, a, hi, rfl, rfl, HA, hit⟩ := hrel
    by_cases hlt : i < ns.length
    · obtain ⟨n, hg⟩ : ∃ n, Hid (ns[i]? = some n) := ⟨ns[i], by show _ = _; simp [hlt]⟩
      obtain rfl : a = some ⟨n.1, 0, none⟩ := by
        have := HA.out
        rw [at_some hg.out] at this
        simpa [ptr] using this.symm
      obtain ⟨-, -, -, -, c4⟩ := HN.out.cells hg.out
      obtain ⟨a', ha'⟩ := at_shape ns (i + 1)
      rw [ha'] at c4
      have HA' := hide_it ha'
      clear ha'
      by_cases he : (i : Int) + 1 = t
      · have HE : Hid (at_ ns I = ptr n.1) := by
          show _ = _
          rw [show I = i by have := HIq.out; omega, at_some hg.out]
        go_wp2
        go_ret
        exact ⟨by rw [HE.out]; rfl, rfl⟩
      · go_wp2
        go_round
        case rel => exact ⟨i + 1, a', by omega, by go_num, rfl, HA', by omega⟩
        case measure => simp [intOf]; omega
    · obtain rfl : a = none := by
        have := HA.out
        rw [at_none (by omega)] at this
        simpa using this.symm
      have HE : Hid (at_ ns I = .pointer none) := at_none (by have := HIq.out; omega)
      go_wp2
      go_ret
      exact ⟨by rw [HE.out]; rfl, rfl⟩

/-- A node's cells while what is wanted is put into it. -/
def part (z0 z1 z2 s : Int) (k : Nat) : Array Value := #[.int .i64 (if 0 < k then z0 else 0), .int .i64 (if 1 < k then z1 else 0), .int .i64 (if 2 < k then z2 else 0), .int .i64 s, .pointer none]

theorem list3 {zs : List Int} (h : zs.length = 3) : ∃ z0 z1 z2, zs = [z0, z1, z2] := by
  match zs, h with
  | [a, b, c], _ => exact ⟨a, b, c, rfl⟩

set_option maxHeartbeats 2000000 in
theorem add_any (c lo : Nat) (ns : List Nd) (v : Value) (z0 z1 z2 s : Int) (w : World) (hc : Chain w c lo ns) (hn : ns.length ≤ 6) (hv : Ints w v [z0, z1, z2]) :
    Calls Tryz.prog 202 #[ptr c, v, .int .i64 s] w fun e w' => e = .returned (.tuple #[]) ∧ Chain w' c lo (ns ++ [(w.heap.size, (z0, z1, z2), s)]) ∧ Below lo w w' := by
  rcases hv with ⟨h, _⟩ | ⟨b, off, cap, rfl, _, hcl⟩
  · simp at h
  have b0 := hcl 0 (by simp)
  have b1 := hcl 1 (by simp)
  have b2 := hcl 2 (by simp)
  have hbw : b < w.heap.size := World.block_lt_of_cell? _ _ b0
  simp at b0 b1 b2
  have HC := hide_it hc
  have HB0 := hide_it b0
  have HB1 := hide_it b1
  have HB2 := hide_it b2
  obtain ⟨w0, hw0⟩ : ∃ W, Hid (W = w.alloc (.cells #[.int .i64 0, .int .i64 0, .int .i64 0, .int .i64 s, .pointer none] 229)) := ⟨_, rfl⟩
  have X0 : Hid (Blk w0 w.heap.size (part z0 z1 z2 s 0) 229) := by show Blk _ _ _ _; rw [hw0.out]; exact Blk.new w _ _
  have B0 : Hid (Below w.heap.size w w0) := by show Below _ _ _; rw [hw0.out]; exact alloc_below _ _
  clear hc b0 b1 b2 hcl
  go_enter Tryz.func202, Tryz.ntmps202
  go_wp2
  rw [← hw0.out]
  go_loopw [14] (fun i wr => ∃ k : Nat, k ≤ 3 ∧ i = .int .i64 k ∧ Hid (Blk wr w.heap.size (part z0 z1 z2 s k) 229) ∧ Hid (Below w.heap.size w wr)) (fun i _ => 3 - (intOf i).toNat)
  case atStart => exact ⟨0, by omega, rfl, X0, B0⟩
  case round =>
    obtain ⟨k, hk, rfl, HX, HB⟩ := hrel
    have c0 : wr.cell? ⟨b, off, none⟩ = some (.int .i64 z0) := by rw [HB.out.cell (p := ⟨b, off, none⟩) hbw]; exact HB0.out
    have c1 : wr.cell? ⟨b, off + 1, none⟩ = some (.int .i64 z1) := by rw [HB.out.cell (p := ⟨b, off + 1, none⟩) hbw]; exact HB1.out
    have c2 : wr.cell? ⟨b, off + 2, none⟩ = some (.int .i64 z2) := by rw [HB.out.cell (p := ⟨b, off + 2, none⟩) hbw]; exact HB2.out
    obtain ⟨x0, x1, x2, x3, x4⟩ := HX.out.cells5
    obtain ⟨f0, f1, f2, f3, f4⟩ := HX.out.free5
    rcases (show k = 0 ∨ k = 1 ∨ k = 2 ∨ k = 3 by omega) with rfl | rfl | rfl | rfl
    · go_wp2
      go_roundw
      case rel => exact ⟨1, by omega, rfl, HX.out.set_ 0 _, HB.out.setCell (Nat.le_refl _) _⟩
      case measure => simp [intOf]
    · go_wp2
      go_roundw
      case rel => exact ⟨2, by omega, rfl, HX.out.set_ 1 _, HB.out.setCell (Nat.le_refl _) _⟩
      case measure => simp [intOf]
    · go_wp2
      go_roundw
      case rel => exact ⟨3, by omega, rfl, HX.out.set_ 2 _, HB.out.setCell (Nat.le_refl _) _⟩
      case measure => simp [intOf]
    · clear c0 c1 c2 x0 x1 x2 x3 x4 f0 f1 f2 f3 f4
      have HCr := hide_it (HC.out.after HB.out)
      obtain ⟨d0, d1, d2⟩ := HCr.out.head.cells3
      obtain ⟨e0, e1, e2, -, -⟩ := HCr.out.head.free5
      by_cases hz : ns = []
      · subst hz
        have q0 : wr.cell? ⟨c, 0, none⟩ = some (.pointer none) := d0
        have q1 : wr.cell? ⟨c, 1, none⟩ = some (.pointer none) := d1
        have q2 : wr.cell? ⟨c, 2, none⟩ = some (.int .i64 0) := d2
        clear d0 d1 d2
        go_wp2
        refine bodyPost_end (v := .tuple #[]) (by simp [results, Tryz.results202, go_sem]) rfl ?_
        have := HC.out.add0 (x := (w.heap.size, (z0, z1, z2), s)) rfl HB.out HX.out rfl
        exact ⟨rfl, this.1, this.2⟩
      · have hpos : 0 < ns.length := List.length_pos_iff.2 hz
        obtain ⟨m, hm⟩ : ∃ m, Hid (ns[ns.length - 1]? = some m) := ⟨ns[ns.length - 1], by show _ = _; rw [List.getElem?_eq_getElem (by omega)]⟩
        rw [at_some hm.out] at d1
        have HMn := hide_it (HCr.out.nodes.node _ m hm.out)
        obtain ⟨-, -, -, -, m4⟩ := HMn.out.cells5
        have fm4 := HMn.out.free 4
        have hmc : m.1 ≠ c := HMn.out.ne HCr.out.head (by decide)
        have hcm : c ≠ m.1 := fun e => hmc e.symm
        obtain ⟨a4, ha4⟩ := at_shape ns (ns.length - 1 + 1)
        rw [ha4] at m4
        clear ha4 hz
        go_wp2
        refine bodyPost_end (v := .tuple #[]) (by simp [results, Tryz.results202, go_sem]) rfl ?_
        have := HC.out.add1 (x := (w.heap.size, (z0, z1, z2), s)) hm.out rfl HB.out HX.out rfl
        exact ⟨rfl, this.1, this.2⟩

end Go.Proofs.YtkkkdgpbmmjieaaGreatDoor.T

namespace Go.Proofs.YtkkkdgpbmmjieaaGreatDoor.T
open Go.RowKit

/-- What comes of a chain behind a record. -/
def Took (w w' : World) (e : Ending) (c lo : Nat) (ns : List Nd) (r : Rc) (b : Bool) : Prop :=
  e = .returned (.bool b) ∧ ∃ ns', Chain w' c lo ns' ∧ ns'.map ndT = (if b = true then doL (ns.map ndT) r else ns.map ndT) ∧ Below lo w w'

theorem Took.no {w w' : World} {c lo : Nat} {ns : List Nd} {r : Rc} (hc : Chain w c lo ns) (hb : Below w.heap.size w w') : Took w w' (.returned (.bool false)) c lo ns r false :=
  ⟨rfl, ns, hc.after hb, rfl, hb.mono (by have := hc.head.lt; have := hc.lowc; omega)⟩

theorem doL_begin {rs : List R} {r : Rc} (h4 : r.1 = 4) : doL rs r = rs ++ [(r.2.2, 1)] := by unfold doL; rw [if_pos h4]

set_option maxHeartbeats 2000000 in
theorem begin_yes (c lo : Nat) (ns : List Nd) (u : Value) (zs : List Int) (w : World) (hc : Chain w c lo ns) (hn : ns.length ≤ 6) (hu : Ints w u zs) (h3 : zs.length = 3) :
    Calls Tryz.prog 179 #[ptr c, .agg #[.int .i64 4, .int .i64 ((ns.length : Int) + 1), u]] w fun e w' => Took w w' e c lo ns (4, (ns.length : Int) + 1, zs) true := by
  obtain ⟨z0, z1, z2, rfl⟩ := list3 h3
  have HC := hide_it hc
  have HU : Hid (∀ W, Below w.heap.size w W → Ints W u [z0, z1, z2]) := fun W h => hu.later h (Nat.le_refl _)
  obtain ⟨au, cu, hus⟩ := hu.shape
  have hus' : u = .slice au 3 cu := hus
  subst hus'
  have hlc : lo ≤ w.heap.size := by have := hc.head.lt; have := hc.lowc; omega
  clear hc hu h3 hus
  obtain ⟨w0, hw0⟩ : ∃ W, Hid (W = w.alloc (.cells #[.int .i64 4, .int .i64 ((ns.length : Int) + 1), .slice au 3 cu] 161)) := ⟨_, rfl⟩
  have B0 : Hid (Below w.heap.size w w0) := by show Below _ _ _; rw [hw0.out]; exact alloc_below _ _
  have C0 := hide_it (HC.out.after B0.out)
  have X0 : Hid (Blk w0 w.heap.size #[.int .i64 4, .int .i64 ((ns.length : Int) + 1), .slice au 3 cu] 161) := by show Blk _ _ _ _; rw [hw0.out]; exact Blk.new w _ _
  obtain ⟨x0, x1, x2⟩ := X0.out.cells3
  obtain ⟨-, -, d2⟩ := C0.out.head.cells3
  go_enter Tryz.func179, Tryz.ntmps179
  go_wp2
  rw [← hw0.out]
  go_quiet (fail)
  go_wp2_with fail
  have Bd := hide_it (below_drewN B0.out nq)
  have Cd := hide_it (HC.out.after Bd.out)
  refine (add_any c lo ns _ z0 z1 z2 1 _ Cd.out hn (HU.out _ Bd.out)).mono ?_
  rintro e w1 ⟨rfl, hc1, hb1⟩
  have C1 := hide_it hc1
  have B1 := hide_it ((Bd.out.mono hlc).trans hb1)
  clear hc1 hb1
  go_wp2
  go_ret
  refine ⟨rfl, _, C1.out, ?_, B1.out⟩
  rw [if_pos rfl, doL_begin rfl, List.map_append]
  rfl

set_option maxHeartbeats 2000000 in
theorem begin_no (c lo : Nat) (ns : List Nd) (t : Int) (u : Value) (zs : List Int) (w : World) (hc : Chain w c lo ns) (hn : ns.length ≤ 6) (hu : Ints w u zs) (h3 : zs.length = 3) (ht : ¬ t = (ns.length : Int) + 1) :
    Calls Tryz.prog 179 #[ptr c, .agg #[.int .i64 4, .int .i64 t, u]] w fun e w' => Took w w' e c lo ns (4, t, zs) false := by
  obtain ⟨z0, z1, z2, rfl⟩ := list3 h3
  have HC := hide_it hc
  have HU : Hid (∀ W, Below w.heap.size w W → Ints W u [z0, z1, z2]) := fun W h => hu.later h (Nat.le_refl _)
  obtain ⟨au, cu, hus⟩ := hu.shape
  have hus' : u = .slice au 3 cu := hus
  subst hus'
  have hlc : lo ≤ w.heap.size := by have := hc.head.lt; have := hc.lowc; omega
  clear hc hu h3 hus
  obtain ⟨w0, hw0⟩ : ∃ W, Hid (W = w.alloc (.cells #[.int .i64 4, .int .i64 t, .slice au 3 cu] 161)) := ⟨_, rfl⟩
  have B0 : Hid (Below w.heap.size w w0) := by show Below _ _ _; rw [hw0.out]; exact alloc_below _ _
  have C0 := hide_it (HC.out.after B0.out)
  have X0 : Hid (Blk w0 w.heap.size #[.int .i64 4, .int .i64 t, .slice au 3 cu] 161) := by show Blk _ _ _ _; rw [hw0.out]; exact Blk.new w _ _
  obtain ⟨x0, x1, x2⟩ := X0.out.cells3
  obtain ⟨-, -, d2⟩ := C0.out.head.cells3
  go_enter Tryz.func179, Tryz.ntmps179
  go_wp2
  rw [← hw0.out]
  go_quiet (fail)
  go_wp2
  go_ret
  exact Took.no HC.out (below_drewN B0.out _)

theorem begin_any (c lo : Nat) (ns : List Nd) (t : Int) (u : Value) (zs : List Int) (w : World) (hc : Chain w c lo ns) (hn : ns.length ≤ 6) (hu : Ints w u zs) (h3 : zs.length = 3) :
    Calls Tryz.prog 179 #[ptr c, .agg #[.int .i64 4, .int .i64 t, u]] w fun e w' => Took w w' e c lo ns (4, t, zs) (decide (t = ns.length + 1)) := by
  by_cases ht : t = ns.length + 1
  · have HE : decide (t = (ns.length : Int) + 1) = true := by simp [ht]
    rw [HE]
    subst ht
    exact begin_yes c lo ns u zs w hc hn hu h3
  · have HE : decide (t = (ns.length : Int) + 1) = false := by simp [ht]
    rw [HE]
    exact begin_no c lo ns t u zs w hc hn hu h3 ht

theorem tripAt_nd {ns : List Nd} {t : Int} {n : Nd} (h : ns[(t - 1).toNat]? = some n) : tripAt (ns.map ndT) t = ndT n := tripAt_get (by rw [List.getElem?_map, h]; rfl)

set_option maxHeartbeats 4000000 in
theorem take_any (c lo : Nat) (ns : List Nd) (r : Rc) (u : Value) (a : Addr) (w : World) (hc : Chain w c lo ns) (hn : ns.length ≤ 6) (hu : Ints w u r.2.2) (hrl : r.2.2.length ≤ 1048576) (ha : ErrAt w a) :
    Calls Tryz.prog 156 #[ptr c, .agg #[.int .i64 r.1, .int .i64 r.2.1, u]] w fun e w' => Took w w' e c lo ns r (rOk r && mayL (ns.map ndT) r) := by
  obtain ⟨kd, t, zs⟩ := r
  have HC := hide_it hc
  have HU : Hid (∀ W, Below w.heap.size w W → Ints W u zs) := fun W h => hu.later h (Nat.le_refl _)
  have HAe : Hid (∀ W, Below w.heap.size w W → ErrAt W a) := fun W h => ha.later h (Nat.le_refl _)
  obtain ⟨au, cu, hus⟩ := hu.shape
  dsimp only at hus hrl
  subst hus
  have hlc : lo ≤ w.heap.size := by have := hc.head.lt; have := hc.lowc; omega
  clear hc hu ha
  obtain ⟨w0, hw0⟩ : ∃ W, Hid (W = w.alloc (.cells #[.int .i64 kd, .int .i64 t, .slice au zs.length cu] 161)) := ⟨_, rfl⟩
  have B0 : Hid (Below w.heap.size w w0) := by show Below _ _ _; rw [hw0.out]; exact alloc_below _ _
  have C0 := hide_it (HC.out.after B0.out)
  have X0 : Hid (Blk w0 w.heap.size #[.int .i64 kd, .int .i64 t, .slice au zs.length cu] 161) := by show Blk _ _ _ _; rw [hw0.out]; exact Blk.new w _ _
  have S0 := implOk_any kd t _ zs a w0 (HU.out _ B0.out) hrl (HAe.out _ B0.out)
  cases hok : rOk (kd, t, zs)
  · have hok' : Pl.recOk kd t zs = false := hok
    rw [hok'] at S0
    have HS := hide_it S0
    clear S0 hok hok'
    rw [Bool.false_and]
    go_enter Tryz.func156, Tryz.ntmps156
    go_wp2_with fail
    rw [← hw0.out]
    refine HS.out.mono ?_
    rintro e w1 ⟨rfl, hb1⟩
    have B1 := hide_it (B0.out.trans (hb1.mono B0.out.size))
    clear hb1
    go_wp2
    go_ret
    exact Took.no HC.out B1.out
  obtain ⟨ht1, ht6⟩ := rOk_trip hok
  dsimp only at ht1 ht6
  have hok' : Pl.recOk kd t zs = true := hok
  rw [hok'] at S0
  have HS := hide_it S0
  have HOK := hide_it hok
  clear S0 hok hok'
  obtain ⟨bb, hbb⟩ : ∃ b, mayL (ns.map ndT) (kd, t, zs) = b := ⟨_, rfl⟩
  rw [hbb, Bool.true_and]
  have HBB := hide_it hbb
  clear hbb
  by_cases h4 : kd = 4
  · subst h4
    have hz3 : Hid (zs.length = 3) := manyOk_three (rOk_begin HOK.out rfl)
    have HE : Hid (bb = decide (t = (ns.length : Int) + 1)) := by show _ = _; rw [← HBB.out]; unfold mayL; simp
    go_enter Tryz.func156, Tryz.ntmps156
    go_wp2_with fail
    rw [← hw0.out]
    refine HS.out.mono ?_
    rintro e w1 ⟨rfl, hb1⟩
    have B1 := hide_it (B0.out.trans (hb1.mono B0.out.size))
    have X1 := hide_it (X0.out.after hb1)
    have C1 := hide_it (C0.out.after hb1)
    clear hb1
    obtain ⟨x0, x1, x2⟩ := X1.out.cells3
    go_wp2_with fail
    refine (begin_any c lo ns t _ zs w1 C1.out hn (HU.out _ B1.out) hz3.out).mono ?_
    rintro e w2 ⟨rfl, ns', hc2, hm2, hb2⟩
    rw [← HE.out]
    rw [← HE.out] at hm2
    have C2 := hide_it hc2
    have M2 := hide_it hm2
    have B2 := hide_it ((B1.out.mono hlc).trans hb2)
    clear hc2 hm2 hb2
    go_wp2
    go_ret
    exact ⟨rfl, ns', C2.out, M2.out, B2.out⟩
  cases hg : ns[(t - 1).toNat]? with
  | none =>
    have HAt : Hid (at_ ns (t - 1).toNat = .pointer none) := by show _ = _; unfold at_; rw [hg]
    have HE : Hid (bb = false) := by
      show _ = _; rw [← HBB.out]; unfold mayL; rw [if_neg h4]
      dsimp only
      rw [tripAt_none (by rw [List.getElem?_map, hg]; rfl), nextS_0]; rfl
    rw [HE.out]
    clear hg
    go_enter Tryz.func156, Tryz.ntmps156
    go_wp2_with fail
    rw [← hw0.out]
    refine HS.out.mono ?_
    rintro e w1 ⟨rfl, hb1⟩
    have B1 := hide_it (B0.out.trans (hb1.mono B0.out.size))
    have X1 := hide_it (X0.out.after hb1)
    have C1 := hide_it (C0.out.after hb1)
    clear hb1
    obtain ⟨x0, x1, x2⟩ := X1.out.cells3
    go_wp2_with fail
    have HF := find_any c lo ns t w1 C1.out hn ht1
    rw [HAt.out] at HF
    refine HF.mono ?_
    rintro e w2 ⟨rfl, rfl⟩
    go_wp2
    go_ret
    exact Took.no HC.out B1.out
  | some n =>
    have HG := hide_it hg
    have HAt : Hid (at_ ns (t - 1).toNat = ptr n.1) := by show _ = _; exact at_some hg
    have HE : Hid (bb = decide (nextS n.2.2 kd ≠ 0)) := by
      show _ = _; rw [← HBB.out]; unfold mayL; rw [if_neg h4]
      dsimp only
      rw [tripAt_nd hg]; rfl
    clear hg
    by_cases hz : nextS n.2.2 kd = 0
    · have HQ : Hid (∀ W, Calls Tryz.prog 181 #[.int .i64 n.2.2, .int .i64 kd] W fun e w' => e = .returned (.int .i64 0) ∧ w' = W) := fun W => by
        have := stateBehind_any n.2.2 kd W
        rw [hz] at this; exact this
      have HE2 : Hid (bb = false) := by show _ = _; rw [HE.out, hz]; rfl
      rw [HE2.out]
      clear hz
      go_enter Tryz.func156, Tryz.ntmps156
      go_wp2_with fail
      rw [← hw0.out]
      refine HS.out.mono ?_
      rintro e w1 ⟨rfl, hb1⟩
      have B1 := hide_it (B0.out.trans (hb1.mono B0.out.size))
      have X1 := hide_it (X0.out.after hb1)
      have C1 := hide_it (C0.out.after hb1)
      clear hb1
      obtain ⟨x0, x1, x2⟩ := X1.out.cells3
      obtain ⟨-, -, -, n3, -⟩ := C1.out.nodes.cells HG.out
      go_wp2_with fail
      have HF := find_any c lo ns t w1 C1.out hn ht1
      rw [HAt.out] at HF
      refine HF.mono ?_
      rintro e w2 ⟨rfl, rfl⟩
      go_wp2
      go_quiet ((go_at_call 181; exact Calls.quiet_of_same (HQ.out _)))
      go_wp2
      go_ret
      exact Took.no HC.out (below_drewN B1.out _)
    · have HE2 : Hid (bb = true) := by show _ = _; rw [HE.out]; simp [hz]
      rw [HE2.out]
      obtain ⟨S, hS⟩ : ∃ S, nextS n.2.2 kd = S := ⟨_, rfl⟩
      have HSS := hide_it hS
      rw [hS] at hz
      have HQ : Hid (∀ W, Calls Tryz.prog 181 #[.int .i64 n.2.2, .int .i64 kd] W fun e w' => e = .returned (.int .i64 S) ∧ w' = W) := fun W => by
        have := stateBehind_any n.2.2 kd W
        rw [hS] at this; exact this
      clear hS
      go_enter Tryz.func156, Tryz.ntmps156
      go_wp2_with fail
      rw [← hw0.out]
      refine HS.out.mono ?_
      rintro e w1 ⟨rfl, hb1⟩
      have B1 := hide_it (B0.out.trans (hb1.mono B0.out.size))
      have X1 := hide_it (X0.out.after hb1)
      have C1 := hide_it (C0.out.after hb1)
      clear hb1
      obtain ⟨x0, x1, x2⟩ := X1.out.cells3
      obtain ⟨-, -, -, n3, -⟩ := C1.out.nodes.cells HG.out
      have fn3 := (C1.out.nodes.node _ n HG.out).free 3
      go_wp2_with fail
      have HF := find_any c lo ns t w1 C1.out hn ht1
      rw [HAt.out] at HF
      refine HF.mono ?_
      rintro e w2 ⟨rfl, rfl⟩
      go_wp2
      go_quiet ((go_at_call 181; exact Calls.quiet_of_same (HQ.out _)))
      go_wp2
      go_ret
      have T := (C1.out.after (below_drewN (Below.refl _ _) nq)).turn S HG.out
      refine ⟨rfl, _, T.1, ?_, ((below_drewN B1.out _).mono hlc).trans T.2⟩
      rw [if_pos rfl]
      unfold doL
      rw [if_neg h4]
      dsimp only
      rw [tripAt_nd HG.out, List.map_set]
      show _ = List.set _ _ ((ndT n).1, nextS n.2.2 kd)
      rw [HSS.out]
      rfl

end Go.Proofs.YtkkkdgpbmmjieaaGreatDoor.T

namespace Go.Proofs.YtkkkdgpbmmjieaaGreatDoor.T
open Go.RowKit

/-- One more trip appended to a list of the call's own, as worlds and rows see it. -/
theorem append_step {w3 w4 : World} {W0 hi : Nat} {v v' : Value} {ps : List (R × Value)} {r : R} {u : Value}
    (hrow : w3.ownsRow W0 194 2 v ps.length (flat ps)) (hin : Inner w3 W0 hi ps) (hhi : hi ≤ w3.heap.size)
    (ho : w3.ownsRow W0 3 1 u r.1.length (r.1.map (Value.int .i64))) (hu : ∀ k, u.ownBlock = some k → hi ≤ k ∧ k < w3.heap.size)
    (hown : w4.ownsRow W0 194 2 v' (ps.length + 1) (flat ps ++ [u, .int .i64 r.2])) (hg : w3.grownBy w4 v.ownBlock) :
    w4.ownsRow W0 194 2 v' (ps ++ [(r, u)]).length (flat (ps ++ [(r, u)])) ∧ Inner w4 W0 w4.heap.size (ps ++ [(r, u)]) := by
  refine ⟨?_, ?_⟩
  · rw [flat_append, List.length_append]; exact hown
  · have in3 : Inner w3 W0 w3.heap.size (ps ++ [(r, u)]) := hin.snoc hhi (Nat.le_refl _) ho hu
    have h := in3.kept hg (fun p hp => by
      rcases hrow.2 with ⟨hv, _⟩ | ⟨g, cap, cur, hv, _, hh, _⟩
      · by_cases e : p.2.ownBlock = none
        · exact Or.inl e
        · exact Or.inr (by rw [hv]; simpa [Value.ownBlock] using e)
      · refine Or.inr ?_
        rw [hv]
        exact in3.apart hh (by decide) p hp)
    exact h.mono hg.size (Nat.le_refl _)

theorem news2 (w : World) (u : Value) (k : Int) (ty : TypeId) : ∀ (j : Nat) (x : Value), [u, Value.int .i64 k][j]? = some x → (w.alloc (.cells #[u, .int .i64 k] ty)).cell? ((⟨w.heap.size, 0, none⟩ : Addr).add j) = some x := by
  intro j x hj
  match j, hj with
  | 0, hj => simp at hj; subst hj; simp [Addr.add]
  | 1, hj => simp at hj; subst hj; simp [Addr.add]
theorem one2 (k : Int) (ao : Option Addr) {n c : Nat} : ∀ x ∈ [Value.slice ao n c, .int .i64 k], x.oneCell' = true := by
  intro x hx; simp at hx; rcases hx with rfl | rfl <;> rfl

theorem addBelow {W w5 : World} {lo n cap3 : Nat} {a3 : Option Addr} {xs : List Value} (hr : W.ownsRow lo 194 2 (.slice a3 n cap3) n xs) (hg : W.grownBy w5 (Value.slice a3 n cap3).ownBlock) (hlo : lo ≤ W.heap.size) : Below lo W w5 :=
  (Below.refl _ _).grown hg hlo (fun k hk => (hr.lt k hk).1)
theorem cellBelow {W w5 : World} {lo b o : Nat} {x : Value} (h : W.cell? ⟨b, o, none⟩ = some x) (hb : Below lo W w5) (hlo : b < lo) : w5.cell? ⟨b, o, none⟩ = some x := by
  rw [hb.cell (p := ⟨b, o, none⟩) hlo]; exact h

theorem ints_nd {w : World} {lo : Nat} {ns : List Nd} (h : Nodes w lo ns) {i : Nat} {n : Nd} (hn : ns[i]? = some n) : Ints w (.slice (some ⟨n.1, 0, none⟩) 3 3) (ndT n).1 := by
  obtain ⟨c0, c1, c2, -, -⟩ := h.cells hn
  refine Or.inr ⟨n.1, 0, 3, rfl, by simp [ndT], fun k hk => ?_⟩
  have hk3 : k < 3 := hk
  rcases (show k = 0 ∨ k = 1 ∨ k = 2 by omega) with rfl | rfl | rfl
  · exact c0
  · exact c1
  · exact c2

set_option maxRecDepth 100000 in
set_option maxHeartbeats 4000000 in
theorem trips_any (c lo : Nat) (ns : List Nd) (w : World) (hc : Chain w c lo ns) (hn : ns.length ≤ 6) :
    Calls Tryz.prog 157 #[ptr c] w fun e w' => ∃ ao cap, e = .returned (.slice ao (ns.map ndT).length cap) ∧ Made w' w.heap.size (.slice ao (ns.map ndT).length cap) (ns.map ndT) ∧ Below w.heap.size w w' := by
  obtain ⟨i0, hi, hz0, hz1, hz2⟩ := info_parts infoTrip
  obtain ⟨h0, h1, h2⟩ := hc.head.cells3
  have HC := hide_it hc
  have hcl := hc.head.lt
  clear hc h1
  obtain ⟨a0, ha0⟩ := at_shape ns 0
  have HA0 := hide_it ha0
  rw [ha0] at h0
  clear ha0
  have hbytes : i0.bytes * ns.length ≤ 281474976710656 := by rw [hz2]; omega
  have hmax : ns.length ≤ maxLen := by unfold maxLen; omega
  rw [List.length_map]
  go_enter Tryz.func157, Tryz.ntmps157
  go_wp2_with (at_make; refine wpList_make_own _ rfl _ _ 114 rfl w.heap.size 194 i0 (.agg #[.slice none 0 0, .int .i64 0]) 2 Tryz.underlying114 hi hz0 hz1 .i64 .i64 _ ns.length rfl rfl rfl hbytes hmax (Nat.le_refl _) ?_; intro w1 hown hgrow; have B1 := hide_it ((Below.refl w.heap.size w).grown hgrow (Nat.le_refl _) (fun k h => by cases h)); have O1 := hide_it hown; have C1 := hide_it (HC.out.after B1.out); obtain ⟨d0, -, -⟩ := C1.out.head.cells3; rw [HA0.out] at d0; clear hown hgrow)
  go_loopw [3, 4] (fun vo p wr => ∃ (k : Nat) (ps : List (R × Value)) (a : Option Addr), k ≤ ns.length ∧ p = .pointer a ∧ Hid (at_ ns k = .pointer a) ∧ Hid (ps.map (·.1) = (ns.take k).map ndT) ∧ Hid (wr.ownsRow w.heap.size 194 2 vo ps.length (flat ps)) ∧ Hid (Inner wr w.heap.size wr.heap.size ps) ∧ Hid (Below w.heap.size w wr)) (fun vo _ _ => ns.length - (match vo with | .slice _ n _ => n | _ => 0))
  case atStart => exact ⟨0, [], a0, Nat.zero_le _, rfl, HA0, rfl, O1.out, Inner.nil _ _ _ (Nat.le_refl _), B1⟩
  case round =>
    obtain ⟨k, ps, a, hk, rfl, HA, HP, HO, HN, HB⟩ := hrel
    have HPL : Hid (ps.length = k) := by
      have := congrArg List.length HP.out
      simp at this
      show _ = _; omega
    obtain ⟨av, cv, hvo⟩ := row_shape HO.out
    by_cases hlt : k < ns.length
    · obtain ⟨n, hg⟩ : ∃ n, Hid (ns[k]? = some n) := ⟨ns[k], by show _ = _; simp [hlt]⟩
      obtain rfl : a = some ⟨n.1, 0, none⟩ := by
        have := HA.out
        rw [at_some hg.out] at this
        simpa [ptr] using this.symm
      have Cr := hide_it (HC.out.after HB.out)
      obtain ⟨m0, m1, m2, m3, m4⟩ := Cr.out.nodes.cells hg.out
      have hnlt := (HC.out.nodes.node k n hg.out).lt
      have hwr := HB.out.size
      obtain ⟨a', ha'⟩ := at_shape ns (k + 1)
      rw [ha'] at m4
      have HA' := hide_it ha'
      clear ha'
      have HI : Hid (Ints wr.drew (.slice (some ⟨n.1, 0, none⟩) 3 3) (ndT n).1) := (ints_nd Cr.out.nodes hg.out).later (Below.refl _ _).drew (Nat.le_refl _)
      subst hvo
      go_wp2
      go_region_held_law (fun w' => w'.cell? ⟨n.1, 3, none⟩ = some (.int .i64 n.2.2)) (go_keep)
        (first
          | (refine step_append_lies _ rfl _ _ 114 rfl w.heap.size 194 i0 (.agg #[.slice none 0 0, .int .i64 0]) 2 32 Tryz.underlying114 hi hz0 hz1 hz2 rfl (by decide) (.slice av ps.length cv) ps.length (flat ps) rfl (by exact (ROW4.out _)) ⟨w4.heap.size, 0, none⟩ 1 1 [.slice a4 3 cap4, .int .i64 n.2.2] rfl rfl (by exact news2 _ _ _ _) (by exact one2 _ _) (by decide) (by have := HPL.out; unfold maxLen; omega) (by have := HPL.out; omega) (by have := HZ4.out; simp; omega) _ rfl ?_; intro g5 cap5 w5 hown5 hgrow5 _ _; have O5 := hide_it hown5; have G5 := hide_it hgrow5; have LO5 := hide_it (addBelow (ROW4.out _) hgrow5 (by have := HZ4.out; simp; omega)); have q5 := cellBelow (cellAlloc q3 _) LO5.out hnlt; clear hown5 hgrow5)
          | (refine step_append_ints rfl _ _ rfl wr.heap.size (.slice none 0 0) (.slice (some ⟨n.1, 0, none⟩) 3 3) 0 [] (ndT n).1 rfl rfl (World.ownsRow_nil _ _ _ _) HI.out (by simp [ndT]) (by simp) ?_; intro a4 cap4 w4 hown4 hgrow4; have hb4 := (Below.refl wr.heap.size wr).drew.trans (grown_below hgrow4); have B4 := hide_it hb4; have O4 := hide_it hown4; have HZ4 : Hid (w.heap.size ≤ w4.heap.size) := Nat.le_trans hwr hb4.size; have q3 : w4.cell? ⟨n.1, 3, none⟩ = some (.int .i64 n.2.2) := (by rw [hb4.cell (p := ⟨n.1, 3, none⟩) (by simp; omega)]; exact m3); have ROW4 : Hid (∀ o, (w4.alloc o).ownsRow w.heap.size 194 2 (.slice av ps.length cv) ps.length (flat ps)) := (fun o => (ownsRow_below HO.out hb4 (fun j hj => (HO.out.lt j hj).2)).alloc o); have INN4 : Hid (∀ o, Inner (w4.alloc o) w.heap.size wr.heap.size ps) := (fun o => (HN.out.below hb4 (Nat.le_refl _)).below (alloc_below _ o) hb4.size); have NEW4 : Hid (∀ o, (w4.alloc o).ownsRow w.heap.size 3 1 (.slice a4 3 cap4) (ndT n).1.length ((ndT n).1.map (Value.int .i64))) := (fun o => (ownsRow_base hown4 hwr).alloc o); have NEWB4 : Hid (∀ j, (Value.slice a4 3 cap4).ownBlock = some j → wr.heap.size ≤ j ∧ j < (w4.alloc (.cells #[.slice a4 3 cap4, .int .i64 n.2.2] 194)).heap.size) := (fun j hj => by have h9 := hown4.lt j hj; simp; omega); clear hown4 hgrow4 hb4))
      have ST := append_step (r := ndT n) (ROW4.out (.cells #[.slice a4 3 cap4, .int .i64 n.2.2] 194)) (INN4.out _) (by simp; have := B4.out.size; omega) (NEW4.out _) (NEWB4.out) O5.out G5.out
      have HO5 := hide_it ST.1
      have HN5 := hide_it ST.2
      have HB5 : Hid (Below w.heap.size w w5) := ((HB.out.trans (B4.out.mono hwr)).alloc HZ4.out _).trans LO5.out
      clear ST
      have q4 : w5.cell? ⟨n.1, 4, none⟩ = some (.pointer a') := by rw [LO5.out.cell (p := ⟨n.1, 4, none⟩) hnlt]; exact cellAlloc (by rw [B4.out.cell (p := ⟨n.1, 4, none⟩) (by simp; omega)]; exact m4) _
      go_wp2
      go_roundw
      case rel =>
        refine ⟨k + 1, ps ++ [(ndT n, .slice a4 3 cap4)], a', by omega, rfl, HA', ?_, HO5, HN5, HB5⟩
        show _ = _
        have hkl : k < ns.length := by omega
        have hrk : ns[k] = n := by have := hg.out; rw [List.getElem?_eq_getElem hkl] at this; simpa using this
        rw [List.map_append, HP.out, List.take_succ_eq_append_getElem hkl, hrk, List.map_append]
        rfl
      case measure => have := HPL.out; simp; omega
    · obtain rfl : a = none := by
        have := HA.out
        rw [at_none (by omega)] at this
        simpa using this.symm
      have hke : Hid (k = ns.length) := by show _ = _; omega
      have hpl : ps.length = ns.length := by rw [HPL.out, hke.out]
      rw [hpl] at hvo
      have HD : Hid (Made wr w.heap.size (.slice av ns.length cv) (ns.map ndT)) := by
        refine ⟨ps, by rw [HP.out, hke.out, List.take_length], ?_, fun j hj => ?_, HN.out⟩
        · have := HO.out; rw [hvo] at this; exact this
        · have := HO.out; rw [hvo] at this; exact (this.lt j hj).2
      subst hvo
      clear hpl
      go_wp2
      refine bodyPost_ret (v := .slice av ns.length cv) (by simp [results, Tryz.results157, go_sem]) rfl ⟨av, cv, rfl, HD.out, HB.out⟩

end Go.Proofs.YtkkkdgpbmmjieaaGreatDoor.T

namespace Go.Proofs.YtkkkdgpbmmjieaaGreatDoor.T
open Go.RowKit

/-- A chain as a value. -/
def chV (ns : List Nd) : Value := .agg #[at_ ns 0, at_ ns (ns.length - 1), .int .i64 ns.length]

/-- What comes of trips and a record, as a chain. -/
def ChOut (w w' : World) (e : Ending) (rs : List R) (r : Rc) : Prop :=
  ∃ ns : List Nd, e = .returned (.tuple #[chV ns, .bool (tMay rs r)]) ∧ Nodes w' w.heap.size ns ∧ ns.length ≤ 6 ∧ (tMay rs r = true → ns.map ndT = doL rs r) ∧ Below w.heap.size w w'

theorem Nodes.lo {w : World} {lo lo' : Nat} {ns : List Nd} (h : Nodes w lo ns) (hl : lo' ≤ lo) : Nodes w lo' ns := ⟨h.node, fun n hn => Nat.le_trans hl (h.low n hn), h.inj⟩
theorem Nodes.set {w : World} {lo : Nat} {ns : List Nd} (h : Nodes w lo ns) {b i : Nat} (hb : b < lo) (x : Value) : Nodes (w.setCell ⟨b, i, none⟩ x) lo ns :=
  ⟨fun j n hn => (h.node j n hn).other (by have := h.low n (List.mem_of_getElem? hn); simp; omega) x, h.low, h.inj⟩
theorem Fit.take {rs : List R} {r : R} {k : Nat} (h : Fit rs) (hr : rs[k]? = some r) : ∃ z0 z1 z2, r.1 = [z0, z1, z2] := list3 (h.2 r (List.mem_of_getElem? hr))

set_option maxHeartbeats 4000000 in
theorem behind_any (v : Value) (rs : List R) (r : Rc) (u : Value) (a : Addr) (w : World) (hv : Recs w v rs) (hl : tot rs ≤ 1048576) (hu : Ints w u r.2.2) (hrl : r.2.2.length ≤ 1048576) (ha : ErrAt w a) :
    Calls Tryz.prog 208 #[v, .agg #[.int .i64 r.1, .int .i64 r.2.1, u]] w fun e w' => ChOut w w' e rs r := by
  have HV : Hid (∀ W, Below w.heap.size w W → Recs W v rs) := fun W h => hv.later h (Nat.le_refl _)
  have HU : Hid (∀ W, Below w.heap.size w W → Ints W u r.2.2) := fun W h => hu.later h (Nat.le_refl _)
  have HAe : Hid (∀ W, Below w.heap.size w W → ErrAt W a) := fun W h => ha.later h (Nat.le_refl _)
  obtain ⟨av, cv, hvs⟩ := hv.shape
  obtain ⟨au, cu, hus⟩ := hu.shape
  subst hvs hus
  clear hv hu ha
  obtain ⟨w0, hw0⟩ : ∃ W, Hid (W = (w.alloc (.cells #[.int .i64 r.1, .int .i64 r.2.1, .slice au r.2.2.length cu] 161)).alloc (.cells #[.pointer none, .pointer none, .int .i64 0] 199)) := ⟨_, rfl⟩
  have B0 : Hid (Below w.heap.size w w0) := by show Below _ _ _; rw [hw0.out]; exact below2 _ _ _
  have X0 : Hid (Blk w0 w.heap.size #[.int .i64 r.1, .int .i64 r.2.1, .slice au r.2.2.length cu] 161) := by show Blk _ _ _ _; rw [hw0.out]; exact (Blk.new _ _ _).alloc _
  have Z0 : Hid (Blk w0 (w.heap.size + 1) #[.pointer none, .pointer none, .int .i64 0] 199) := by show Blk _ _ _ _; rw [hw0.out]; exact Blk.new2 _ _ _ _
  have hs0 : Hid (w0.heap.size = w.heap.size + 2) := by show _ = _; rw [hw0.out, size2]
  have S0 := implTripsOk_any _ rs w0 (HV.out _ B0.out) hl
  cases hok : tripsOk rs
  · rw [hok] at S0
    have HS := hide_it S0
    have HT : Hid (tMay rs r = false) := by show _ = _; unfold tMay; rw [hok]; rfl
    clear S0 hok
    go_enter Tryz.func208, Tryz.ntmps208
    go_wp2_with fail
    rw [← hw0.out]
    refine HS.out.mono ?_
    rintro e w1 ⟨rfl, hb1⟩
    have B1 := hide_it (B0.out.trans (hb1.mono B0.out.size))
    have Z1 := hide_it (Z0.out.after hb1)
    obtain ⟨z0, z1, z2⟩ := Z1.out.cells3
    obtain ⟨f0, f1, f2, -, -⟩ := Z1.out.free5
    have hz1 := Z1.out.lt
    clear hb1
    go_wp2
    refine bodyPost_ret (v := .tuple #[.agg #[.pointer none, .pointer none, .int .i64 0], .bool false]) (by simp [results, Tryz.results208, go_sem, z0, z1, z2]) rfl ?_
    refine ⟨[], by rw [HT.out]; rfl, Nodes.nil _ _, by simp, fun h => (by rw [HT.out] at h; cases h), ?_⟩
    exact ((B1.out.setCell (by simp) _).setCell (by simp) _).setCell (by simp) _
  have hfit := fit_ok hok
  have HF := hide_it hfit
  have hn6 := hfit.1
  rw [hok] at S0
  have HS := hide_it S0
  have HT : Hid (tMay rs r = (rOk r && mayL rs r)) := by show _ = _; unfold tMay; rw [hok]; rfl
  clear S0 hok hfit
  go_enter Tryz.func208, Tryz.ntmps208
  go_wp2_with fail
  rw [← hw0.out]
  refine HS.out.mono ?_
  rintro e w1 ⟨rfl, hb1⟩
  have B1 := hide_it (B0.out.trans (hb1.mono B0.out.size))
  have X1 := hide_it (X0.out.after hb1)
  have Z1 := hide_it (Z0.out.after hb1)
  have hs1 : w.heap.size + 2 ≤ w1.heap.size := by have := hb1.size; have := hs0.out; omega
  clear hb1
  obtain ⟨w2, hw2⟩ : ∃ W, Hid (W = w1.alloc (.cells #[.pointer none, .pointer none, .int .i64 0] 199)) := ⟨_, rfl⟩
  have b2 : Below w1.heap.size w1 w2 := by rw [hw2.out]; exact alloc_below _ _
  have C2 : Hid (Chain w2 w1.heap.size w1.heap.size []) := by show Chain _ _ _ _; rw [hw2.out]; exact Chain.new w1
  have B2 := hide_it (B1.out.trans (b2.mono B1.out.size))
  have E2 := hide_it b2
  clear b2
  go_wp2
  rw [← hw2.out]
  go_loopw [16] (fun i wr => ∃ (k : Nat) (ns : List Nd), k ≤ rs.length ∧ i = .int .i64 k ∧ Hid (ns.map ndT = rs.take k) ∧ Hid (Chain wr w1.heap.size w1.heap.size ns) ∧ Hid (Below w1.heap.size w1 wr)) (fun i _ => rs.length - (intOf i).toNat)
  case atStart => exact ⟨0, [], Nat.zero_le _, rfl, rfl, C2, E2⟩
  case round =>
    obtain ⟨k, ns, hk, rfl, HP, HC, HE⟩ := hrel
    have HPL : Hid (ns.length = k) := by
      have := congrArg List.length HP.out
      simp at this
      show _ = _; omega
    have hE := HE.out.size
    have Br := hide_it (B1.out.trans (HE.out.mono B1.out.size))
    by_cases hlt : k < rs.length
    · obtain ⟨q, hq⟩ : ∃ q, Hid (rs[k]? = some q) := ⟨rs[k], by show _ = _; simp [hlt]⟩
      obtain ⟨z0, z1, z2, hz⟩ := HF.out.take hq.out
      rcases HV.out wr Br.out with ⟨h0, _⟩ | ⟨b, off, cap, hvv, _, hcl⟩
      · rw [h0] at hlt; simp at hlt
      simp only [Value.slice.injEq] at hvv
      obtain ⟨rfl, -, rfl⟩ := hvv
      obtain ⟨x, c0, c1, hI⟩ := hcl k q hq.out
      have hbw : b < wr.heap.size := World.block_lt_of_cell? _ _ c0
      rw [hz] at hI
      obtain ⟨ax, cx, hxs⟩ := hI.shape
      have hxs' : x = .slice ax 3 cx := hxs
      subst hxs'
      have HI : Hid (∀ o, Ints (wr.alloc o) (.slice ax 3 cx) [z0, z1, z2]) := fun o => hI.later (alloc_below _ _) (Nat.le_refl _)
      have HCo : Hid (∀ o, Chain (wr.alloc o) w1.heap.size w1.heap.size ns) := fun o => HC.out.after (alloc_below _ _)
      have HZQ := hide_it hz
      clear hI hcl hz hxs
      go_wp2_with fail
      refine (add_any w1.heap.size w1.heap.size ns _ z0 z1 z2 q.2 _ (HCo.out _) (by have := HPL.out; omega) (HI.out _)).mono ?_
      rintro e w3 ⟨rfl, hc3, hb3⟩
      have C3 := hide_it hc3
      have E3 := hide_it ((HE.out.alloc hE _).trans hb3)
      clear hc3 hb3
      go_wp2
      go_roundw
      case rel =>
        refine ⟨k + 1, _, by omega, by go_num, ?_, C3, E3⟩
        show _ = _
        have hkl : k < rs.length := by omega
        have hrk : rs[k] = q := by have := hq.out; rw [List.getElem?_eq_getElem hkl] at this; simpa using this
        rw [List.map_append, HP.out, List.take_succ_eq_append_getElem hkl, hrk]
        show _ ++ [([z0, z1, z2], q.2)] = _
        rw [← HZQ.out]
      case measure => simp [intOf]; omega
    · have HNS : Hid (ns.map ndT = rs) := by
        show _ = _
        have hke : k = rs.length := by omega
        rw [HP.out, hke, List.take_length]
      obtain ⟨x0, x1, x2⟩ := (X1.out.later HE.out (by omega)).cells3
      have Zr := hide_it (Z1.out.later HE.out (by omega))
      go_wp2_with fail
      refine (take_any w1.heap.size w1.heap.size ns r _ a wr HC.out (by have := HPL.out; omega) (HU.out _ Br.out) hrl (HAe.out _ Br.out)).mono ?_
      rintro e w3 ⟨rfl, ns', hc3, hm3, hb3⟩
      rw [HNS.out] at hm3
      rw [HNS.out, ← HT.out]
      rw [← HT.out] at hm3
      have C3 := hide_it hc3
      have M3 := hide_it hm3
      have E3 := hide_it (HE.out.trans hb3)
      have B3 := hide_it (B1.out.trans (E3.out.mono B1.out.size))
      have hlen : Hid (ns'.length ≤ 6) := by
        show _ ≤ _
        have h9 := congrArg List.length hm3
        rw [List.length_map] at h9
        rw [h9]
        split
        · next hb =>
          rw [HT.out] at hb
          simp only [Bool.and_eq_true] at hb
          exact (HF.out.doL hb.1 hb.2).1
        · exact hn6
      have hE3 := E3.out.size
      have Z3 := hide_it (Z1.out.later E3.out (by omega))
      obtain ⟨z0, z1, z2⟩ := Z3.out.cells3
      obtain ⟨f0, f1, f2, -, -⟩ := Z3.out.free5
      obtain ⟨d0, d1, d2⟩ := C3.out.head.cells3
      obtain ⟨p0, hp0⟩ := at_shape ns' 0
      obtain ⟨p1, hp1⟩ := at_shape ns' (ns'.length - 1)
      have HP0 := hide_it hp0
      have HP1 := hide_it hp1
      rw [hp0] at d0
      rw [hp1] at d1
      obtain ⟨bb, hbb⟩ : ∃ x, tMay rs r = x := ⟨_, rfl⟩
      have HBB := hide_it hbb
      rw [hbb]
      clear hc3 hm3 hb3 hp0 hp1 hbb x0 x1 x2
      go_wp2
      refine bodyPost_ret (v := .tuple #[.agg #[.pointer p0, .pointer p1, .int .i64 ns'.length], .bool bb]) (by simp [results, Tryz.results208, go_sem, z0, z1, z2]) rfl ?_
      refine ⟨ns', by unfold chV; rw [HP0.out, HP1.out, HBB.out], ?_, hlen.out, fun h => by have := M3.out; rw [if_pos h] at this; exact this, ?_⟩
      · exact (((C3.out.nodes.set (by omega) _).set (by omega) _).set (by omega) _).lo (by omega)
      · exact ((B3.out.setCell (by simp) _).setCell (by simp) _).setCell (by simp) _

end Go.Proofs.YtkkkdgpbmmjieaaGreatDoor.T

namespace Go.Proofs.YtkkkdgpbmmjieaaGreatDoor.T
open Go.RowKit

/-- Trips and a yes or no come back, the trips in memory of the call's own. -/
def TrOut (w w' : World) (e : Ending) (rs : List R) (b : Bool) : Prop :=
  ∃ ao cap, e = .returned (.tuple #[.slice ao rs.length cap, .bool b]) ∧ Made w' w.heap.size (.slice ao rs.length cap) rs ∧ Below w.heap.size w w'

def doO (rs : List R) (r : Rc) : List R := if tMay rs r = true then doL rs r else []
def ofO (qs : List Rc) : List R := (runT qs).getD []

theorem doO_fit (rs : List R) (r : Rc) : Fit (doO rs r) := by
  unfold doO
  split
  · next h =>
    unfold tMay at h
    simp only [Bool.and_eq_true] at h
    exact (fit_ok h.1).doL h.2.1 h.2.2
  · exact Fit.nil
theorem ofO_fit (qs : List Rc) : Fit (ofO qs) := by
  unfold ofO
  cases h : runT qs with
  | none => exact Fit.nil
  | some rs => exact runT_fit h

set_option maxHeartbeats 2000000 in
theorem implMay_any (v : Value) (rs : List R) (r : Rc) (u : Value) (a : Addr) (w : World) (hv : Recs w v rs) (hl : tot rs ≤ 1048576) (hu : Ints w u r.2.2) (hrl : r.2.2.length ≤ 1048576) (ha : ErrAt w a) :
    Calls Tryz.prog 187 #[v, .agg #[.int .i64 r.1, .int .i64 r.2.1, u]] w fun e w' => e = .returned (.bool (tMay rs r)) ∧ Below w.heap.size w w' := by
  have HS : Hid (∀ o, Calls Tryz.prog 208 #[v, .agg #[.int .i64 r.1, .int .i64 r.2.1, u]] (w.alloc o) fun e w' => ChOut (w.alloc o) w' e rs r) := fun o =>
    behind_any v rs r u a _ (hv.later (alloc_below _ _) (Nat.le_refl _)) hl (hu.later (alloc_below _ _) (Nat.le_refl _)) hrl (ha.later (alloc_below _ _) (Nat.le_refl _))
  obtain ⟨av, cv, hvs⟩ := hv.shape
  obtain ⟨au, cu, hus⟩ := hu.shape
  subst hvs hus
  clear hv hu ha
  obtain ⟨bb, hbb⟩ : ∃ x, tMay rs r = x := ⟨_, rfl⟩
  have HBB := hide_it hbb
  rw [hbb]
  clear hbb
  go_enter Tryz.func187, Tryz.ntmps187
  go_wp2_with fail
  refine (HS.out _).mono ?_
  rintro e w1 ⟨ns, rfl, hn, hl6, hm, hb⟩
  have B1 := hide_it (below_after hb)
  have hz := hb.size
  rw [HBB.out]
  unfold chV
  obtain ⟨p0, hp0⟩ := at_shape ns 0
  obtain ⟨p1, hp1⟩ := at_shape ns (ns.length - 1)
  rw [hp0, hp1]
  clear hn hm hb hp0 hp1
  go_wp2
  go_ret
  exact ⟨rfl, B1.out.alloc (by simp at hz; omega) _⟩

set_option maxHeartbeats 4000000 in
theorem implOf_any (v : Value) (qs : List Rc) (a : Addr) (w : World) (hv : _root_.Go.Proofs.YtkkkdgpbmmjieaaGreatDoor.Recs w v qs) (hl : _root_.Go.Proofs.YtkkkdgpbmmjieaaGreatDoor.tot qs ≤ 1048576) (ha : ErrAt w a) :
    Calls Tryz.prog 124 #[v] w fun e w' => TrOut w w' e (ofO qs) (runT qs).isSome := by
  have hlen := _root_.Go.Proofs.YtkkkdgpbmmjieaaGreatDoor.tot_len qs
  have HM : Hid (∀ r ∈ qs, r.2.2.length ≤ 1048576) := fun r hr => Nat.le_trans (_root_.Go.Proofs.YtkkkdgpbmmjieaaGreatDoor.tot_mem qs r hr) hl
  have HV : Hid (∀ W, Below w.heap.size w W → _root_.Go.Proofs.YtkkkdgpbmmjieaaGreatDoor.Recs W v qs) := fun W h => hv.later h (Nat.le_refl _)
  have HAe : Hid (∀ W, Below w.heap.size w W → ErrAt W a) := fun W h => ha.later h (Nat.le_refl _)
  obtain ⟨av, cv, hvs⟩ := hv.shape
  subst hvs
  clear hv ha
  obtain ⟨w0, hw0⟩ : ∃ W, Hid (W = w.alloc (.cells #[.pointer none, .pointer none, .int .i64 0] 199)) := ⟨_, rfl⟩
  have B0 : Hid (Below w.heap.size w w0) := by show Below _ _ _; rw [hw0.out]; exact alloc_below _ _
  have C0 : Hid (Chain w0 w.heap.size w.heap.size []) := by show Chain _ _ _ _; rw [hw0.out]; exact Chain.new w
  obtain ⟨OO, hOO⟩ : ∃ x, ofO qs = x := ⟨_, rfl⟩
  obtain ⟨BB, hBB⟩ : ∃ x, (runT qs).isSome = x := ⟨_, rfl⟩
  rw [hOO, hBB]
  have HOO := hide_it hOO
  have HBB := hide_it hBB
  clear hOO hBB
  go_enter Tryz.func124, Tryz.ntmps124
  go_wp2
  rw [← hw0.out]
  go_loopw [9] (fun i wr => ∃ (k : Nat) (ns : List Nd), k ≤ qs.length ∧ i = .int .i64 k ∧ Hid (runT (qs.take k) = some (ns.map ndT)) ∧ Hid (Chain wr w.heap.size w.heap.size ns) ∧ Hid (Below w.heap.size w wr)) (fun i _ => qs.length - (intOf i).toNat)
  case atStart => exact ⟨0, [], Nat.zero_le _, rfl, rfl, C0, B0⟩
  case round =>
    obtain ⟨k, ns, hk, rfl, HR, HC, HB⟩ := hrel
    have hfit := runT_fit HR.out
    have hn6 : ns.length ≤ 6 := by have := hfit.1; rw [List.length_map] at this; exact this
    have HF := hide_it hfit
    have hwr := HB.out.size
    clear hfit
    by_cases hlt : k < qs.length
    · obtain ⟨q, hq⟩ : ∃ q, Hid (qs[k]? = some q) := ⟨qs[k], by show _ = _; simp [hlt]⟩
      have hrl : q.2.2.length ≤ 1048576 := HM.out q (List.mem_of_getElem? hq.out)
      rcases HV.out wr HB.out with ⟨h0, _⟩ | ⟨b, off, cap, hvv, _, hcl⟩
      · rw [h0] at hlt; simp at hlt
      simp only [Value.slice.injEq] at hvv
      obtain ⟨rfl, -, rfl⟩ := hvv
      obtain ⟨x, c0, c1, c2, hI⟩ := hcl k q hq.out
      have hbw : b < wr.heap.size := World.block_lt_of_cell? _ _ c0
      obtain ⟨ax, cx, hxs⟩ := hI.shape
      subst hxs
      have HI : Hid (∀ o, Ints (wr.alloc o) (.slice ax q.2.2.length cx) q.2.2) := fun o => hI.later (alloc_below _ _) (Nat.le_refl _)
      have HCo : Hid (∀ o, Chain (wr.alloc o) w.heap.size w.heap.size ns) := fun o => HC.out.after (alloc_below _ _)
      have HAo : Hid (∀ o, ErrAt (wr.alloc o) a) := fun o => HAe.out _ (HB.out.alloc hwr o)
      clear hI hcl
      go_wp2_with fail
      refine (take_any w.heap.size w.heap.size ns q _ a _ (HCo.out _) hn6 (HI.out _) hrl (HAo.out _)).mono ?_
      rintro e w3 ⟨rfl, ns', hc3, hm3, hb3⟩
      have B3 := hide_it ((HB.out.alloc hwr _).trans hb3)
      have C3 := hide_it hc3
      clear hc3 hb3
      obtain ⟨bb, hbb⟩ : ∃ x, (rOk q && mayL (ns.map ndT) q) = x := ⟨_, rfl⟩
      rw [hbb]
      rw [hbb] at hm3
      cases bb
      · have HN : Hid (runT qs = none) := runT_bad hq.out HR.out hbb
        have HO1 : Hid (OO = []) := by show _ = _; rw [← HOO.out]; unfold ofO; rw [HN.out]; rfl
        have HB1 : Hid (BB = false) := by show _ = _; rw [← HBB.out, HN.out]; rfl
        clear hm3 hbb
        go_wp2
        refine bodyPost_ret (v := .tuple #[.slice none 0 0, .bool false]) (by simp [results, Tryz.results124, go_sem]) rfl ?_
        rw [HO1.out, HB1.out]
        exact ⟨none, 0, rfl, Made.none _ _, B3.out⟩
      · have HR3 : Hid (runT (qs.take (k + 1)) = some (ns'.map ndT)) := by
          show _ = _
          rw [runT_good hq.out HR.out hbb, hm3, if_pos rfl]
        clear hm3 hbb
        go_wp2
        go_roundw
        case rel => exact ⟨k + 1, ns', by omega, by go_num, HR3, C3, B3⟩
        case measure => simp [intOf]; omega
    · have HRq : Hid (runT qs = some (ns.map ndT)) := by
        show _ = _
        have hke : k = qs.length := by omega
        have := HR.out
        rw [hke, List.take_length] at this
        exact this
      have HO1 : Hid (OO = ns.map ndT) := by show _ = _; rw [← HOO.out]; unfold ofO; rw [HRq.out]; rfl
      have HB1 : Hid (BB = true) := by show _ = _; rw [← HBB.out, HRq.out]; rfl
      go_wp2_with fail
      refine (trips_any _ _ ns wr HC.out hn6).mono ?_
      rintro e w3 ⟨a3, c3, rfl, hm3, hb3⟩
      rw [← HO1.out] at hm3 ⊢
      have M3 := hide_it hm3
      have B3 := hide_it (HB.out.trans (hb3.mono hwr))
      clear hm3 hb3
      go_wp2
      refine bodyPost_ret (v := .tuple #[.slice a3 OO.length c3, .bool true]) (by simp [results, Tryz.results124, go_sem]) rfl ?_
      rw [HB1.out]
      exact ⟨a3, c3, rfl, M3.out.lo hwr, B3.out⟩

end Go.Proofs.YtkkkdgpbmmjieaaGreatDoor.T

namespace Go.Proofs.YtkkkdgpbmmjieaaGreatDoor
open Go.RowKit

theorem frozenAlloc {w : World} {b o : Nat} (h : w.frozen? ⟨b, o, none⟩ = false) (hb : b < w.heap.size) (x : Obj) : (w.alloc x).frozen? ⟨b, o, none⟩ = false := by
  rw [← h]
  exact ((Below.refl w.heap.size w).alloc (Nat.le_refl _) x).frozen (p := ⟨b, o, none⟩) hb

end Go.Proofs.YtkkkdgpbmmjieaaGreatDoor

namespace Go.Proofs.YtkkkdgpbmmjieaaGreatDoor
open Go.RowKit

/-- How many are left behind a fall. -/
def fallN (n : Nat) (f keep : Int) : Nat := (if keep ≤ 0 then f else if keep < n - f then f + keep else n).toNat

theorem fallN_le {n : Nat} {f keep : Int} (h0 : 0 ≤ f) (h1 : f ≤ n) : fallN n f keep ≤ n := by
  unfold fallN; split
  · omega
  · split <;> omega

theorem fallN_lo {n F : Nat} {keep : Int} (h : keep ≤ 0) : fallN n F keep = F := by unfold fallN; rw [if_pos h]; simp
theorem fallN_mid {n F K : Nat} (h0 : ¬ (K : Int) ≤ 0) (h : (K : Int) ≤ n - F) : fallN n F K = F + K := by
  unfold fallN; rw [if_neg h0]
  by_cases e : (K : Int) < n - F
  · rw [if_pos e]; omega
  · rw [if_neg e]; omega
theorem fallN_all {n F K : Nat} (h0 : ¬ (K : Int) ≤ 0) (h : ¬ (K : Int) ≤ n - F) : fallN n F K = n := by unfold fallN; rw [if_neg h0, if_neg (by omega)]; simp

set_option maxHeartbeats 2000000 in
theorem l1Fall_some (b off n cap : Nat) (f keep : Int) (w : World) (hn : n ≤ cap) (hn2 : n ≤ 1048576) (h0 : 0 ≤ f) (h1 : f ≤ n) :
    Calls Tryz.prog 138 #[.agg #[.slice (some ⟨b, off, none⟩) n cap, .int .i64 f], .int .i64 keep] w fun e w' => e = .returned (.agg #[.slice (some ⟨b, off, none⟩) (fallN n f keep) cap, .int .i64 (fallN n f keep)]) ∧ Below w.heap.size w w' := by
  obtain ⟨F, rfl⟩ := Int.eq_ofNat_of_zero_le h0
  by_cases hk : keep ≤ 0
  · have HN : Hid (fallN n F keep = F) := fallN_lo hk
    go_enter Tryz.func138, Tryz.ntmps138
    go_wp2
    refine bodyPost_ret (v := .agg #[.slice (some ⟨b, off, none⟩) F cap, .int .i64 F]) (by simp [results, Tryz.results138, go_sem]) rfl ⟨by rw [HN.out], below2 w _ _⟩
  · obtain ⟨K, rfl⟩ := Int.eq_ofNat_of_zero_le (show 0 ≤ keep by omega)
    by_cases hlt : (K : Int) ≤ n - F
    · have HN : Hid (fallN n F K = F + K) := fallN_mid hk hlt
      have hle : F + K ≤ n := by omega
      go_enter Tryz.func138, Tryz.ntmps138
      go_wp2
      refine bodyPost_ret (v := .agg #[.slice (some ⟨b, off, none⟩) (F + K) cap, .int .i64 ((F : Int) + K)]) (by simp [results, Tryz.results138, go_sem]) rfl ⟨by rw [HN.out]; simp, below2 w _ _⟩
    · have HN : Hid (fallN n F K = n) := fallN_all hk hlt
      have HE : Hid ((F : Int) + ((n : Int) - F) = n) := by show _ = _; omega
      have HE2 : Hid (F + (n - F) = n) := by show _ = _; omega
      go_enter Tryz.func138, Tryz.ntmps138
      go_wp2
      rw [HE.out, HE2.out]
      refine bodyPost_ret (v := .agg #[.slice (some ⟨b, off, none⟩) n cap, .int .i64 n]) (by simp [results, Tryz.results138, go_sem]) rfl ⟨by rw [HN.out], below2 w _ _⟩

set_option maxHeartbeats 2000000 in
theorem l1Fall_nil (keep : Int) (w : World) :
    Calls Tryz.prog 138 #[.agg #[.slice none 0 0, .int .i64 0], .int .i64 keep] w fun e w' => e = .returned (.agg #[.slice none 0 0, .int .i64 0]) ∧ Below w.heap.size w w' := by
  by_cases hk : keep ≤ 0
  · go_enter Tryz.func138, Tryz.ntmps138
    go_wp2
    refine bodyPost_ret (v := .agg #[.slice none 0 0, .int .i64 0]) (by simp [results, Tryz.results138, go_sem]) rfl ⟨rfl, below2 w _ _⟩
  · go_enter Tryz.func138, Tryz.ntmps138
    go_wp2
    refine bodyPost_ret (v := .agg #[.slice none 0 0, .int .i64 0]) (by simp [results, Tryz.results138, go_sem]) rfl ⟨rfl, below2 w _ _⟩

theorem flat_take (ps : List (R × Value)) (N : Nat) : flat (ps.take N) = (flat ps).take (N * 3) := by
  induction ps generalizing N with
  | nil => simp [flat]
  | cons p t ih =>
    cases N with
    | zero => simp [flat]
    | succ N =>
      rw [show (N + 1) * 3 = N * 3 + 3 by omega]
      simp [flat, ih]

theorem Made.take {w : World} {lo N : Nat} {ao : Option Addr} {cap : Nat} {rs : List R} (h : Made w lo (.slice ao rs.length cap) rs) (hN : N ≤ rs.length) : Made w lo (.slice ao N cap) (rs.take N) := by
  obtain ⟨ps, hp, h1, h2, h3⟩ := h
  have hpl : ps.length = rs.length := by have := congrArg List.length hp; simpa using this
  refine ⟨ps.take N, by rw [List.map_take, hp], ?_, ?_, h3.1, fun p hp => h3.2.1 p (List.mem_of_mem_take hp), fun i j p q hi hj hij => ?_⟩
  · have hl : (ps.take N).length = N := by rw [List.length_take]; omega
    rw [hl, flat_take]
    refine ⟨by rw [List.length_take, h1.1]; rw [hpl]; omega, ?_⟩
    rcases h1.2 with ⟨hv, hn⟩ | ⟨g, cp, cur, hv, hg, hh, hnc, hcm, hcs, htk⟩
    · simp only [Value.slice.injEq] at hv
      obtain ⟨e1, e2, e3⟩ := hv
      exact Or.inl ⟨by rw [e1, e3, show N = 0 by omega], by omega⟩
    · simp only [Value.slice.injEq] at hv
      obtain ⟨e1, e2, e3⟩ := hv
      refine Or.inr ⟨g, cp, cur, by rw [e1, e3], hg, hh, by omega, hcm, hcs, ?_⟩
      rw [← htk, List.take_take, Nat.min_eq_left (by rw [hpl]; omega)]
  · intro k hk
    refine h2 k ?_
    cases ao with
    | none => cases hk
    | some a => exact hk
  · have hi' : i < N ∧ ps[i]? = some p := by
      rw [List.getElem?_take] at hi
      split at hi
      · exact ⟨by assumption, hi⟩
      · cases hi
    have hj' : j < N ∧ ps[j]? = some q := by
      rw [List.getElem?_take] at hj
      split at hj
      · exact ⟨by assumption, hj⟩
      · cases hj
    exact h3.2.2 i j p q hi'.2 hj'.2 hij

theorem Recs.take {w : World} {N cap : Nat} {ao : Option Addr} {rs : List R} (h : Recs w (.slice ao rs.length cap) rs) (hN : N ≤ rs.length) : Recs w (.slice ao N cap) (rs.take N) := by
  have hl : (rs.take N).length = N := by rw [List.length_take]; omega
  by_cases h0 : N = 0
  · subst h0
    exact Or.inl ⟨by simp, ao, cap, rfl⟩
  rcases h with ⟨hz, _⟩ | ⟨b, off, cp, hv, hz, hc⟩
  · rw [hz] at hN; simp at hN; omega
  · simp only [Value.slice.injEq] at hv
    obtain ⟨e1, _, e3⟩ := hv
    refine Or.inr ⟨b, off, cp, by rw [hl, e1, e3], by intro e; rw [e] at hl; simp at hl; omega, fun i r hr => ?_⟩
    rw [List.getElem?_take] at hr
    split at hr
    · exact hc i r hr
    · cases hr

theorem pre_take (rs : List R) (N : Nat) (hN : N ≤ rs.length) : tot (rs.take N) ≤ tot rs := by
  have h1 := pre_le rs N
  have h2 : pre (rs.take N) (rs.take N).length = pre rs N := by unfold pre; rw [List.take_length]
  unfold tot
  rw [h2, List.length_take]; omega

/-- What a fall leaves. -/
def fallR (rs : List R) (f keep : Int) : List R := if logOk rs f then rs.take (fallN rs.length f keep) else []
def fallF (rs : List R) (f keep : Int) : Int := if logOk rs f then fallN rs.length f keep else 0

theorem logOk_f {rs : List R} {f : Int} (h : logOk rs f = true) : 0 ≤ f ∧ f ≤ rs.length ∧ rs.length ≤ 40 := by
  unfold logOk at h
  simp only [Bool.and_eq_true, decide_eq_true_eq] at h
  have := Pl.inB_true h.2.2
  omega

end Go.Proofs.YtkkkdgpbmmjieaaGreatDoor
