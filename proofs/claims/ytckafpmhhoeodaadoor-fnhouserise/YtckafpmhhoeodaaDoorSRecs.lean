/- The draw of records of a house (l71Recs): each may come behind those before it. For readers that picked at most 700000 times. -/
import Derived.Test.YtckafpmhhoeodaaDoorSGood
import Derived.Deep.AppendLies
namespace Go.Proofs.YtckafpmhhoeodaaDoor
open Go.RowKit

/-- What comes out of the draw: a room, and records that a stock of that room takes, in memory of the draw's own. -/
def RecsGot (w w' : World) (e : Ending) (b p : Nat) : Prop :=
  ∃ (room : Int) (o : Value) (ps : List (R × Value)) (hs : List Pl.H) (q : Nat), e = .returned (.tuple #[.int .i64 room, o]) ∧ 0 ≤ room ∧ room ≤ 7 ∧ ps.length ≤ 13 ∧
    w'.ownsRow w.heap.size 73 3 o ps.length (flat ps) ∧ (∀ x ∈ ps, Good w' w.heap.size x) ∧ Pl.sRun room (ps.map (·.1)) Pl.noHolds = some hs ∧ q ≤ p + 60 ∧ Rd w' b q ∧ Mid b (b + 1) w w'

theorem oH_some (hs : List Pl.H) : oH (some hs) = hs := rfl
theorem new_some {room : Int} (h0 : 0 ≤ room) (h7 : room ≤ 7) : newO room = some Pl.noHolds := by simp [newO, Pl.inB_mk h0 (show room ≤ 9 by omega)]

theorem fresh0 (W : World) (lo : Nat) (h : lo ≤ W.heap.size) : Fresh (W.alloc (.cells #[] 3)) lo (.slice (some ⟨W.heap.size, 0, none⟩) 0 0) [] 0 :=
  ⟨W.heap.size, 0, #[], rfl, h, heap_alloc_new W _, fun k hk => absurd hk (by simp)⟩
theorem fresh1 (W : World) (lo : Nat) (x : Int) (h : lo ≤ W.heap.size) : Fresh (W.alloc (.cells #[.int .i64 x] 3)) lo (.slice (some ⟨W.heap.size, 0, none⟩) 1 1) [x] 1 :=
  ⟨W.heap.size, 0, #[.int .i64 x], rfl, h, heap_alloc_new W _, fun k hk => match k, hk with | 0, _ => rfl⟩

/-- A store into the record's own block leaves all else. -/
theorem StS.setX {w W : World} {b q S X i : Nat} {cs : Array Value} {room : Int} {u : Value} {hs : List Pl.H} {o : Value} {ps : List (R × Value)} (h : StS w W b q S room u hs o ps) (hX : W.heap[X]? = some (.cells cs 73 (0, 0))) (hw : w.heap.size ≤ X) (hO : ∀ g, o.ownBlock = some g → g < X) (x : Value) : StS w (W.setCell ⟨X, i, none⟩ x) b q S room u hs o ps := by
  have hl := h.low
  refine ⟨by rw [Below.heap_setCell _ _ _ _ (ne_of_type h.stk hX (by decide))]; exact h.stk, h.new, ?_, ?_, ?_, h.rd.setApart (by omega) _, h.mid.setNew hw _, hl⟩
  · exact ownsRow_setCell_ne h.hol (fun g hg => by obtain ⟨cs, hh⟩ := (rowB_at h.hol g hg).2; exact ne_of_type hh hX (by decide)) _
  · exact ownsRow_setCell_ne h.row (fun g hg => by have := hO g hg; simp; omega) _
  · exact fun p hp => (h.all p hp).keep fun g cs hh => Below.heap_setCell _ _ _ _ (ne_of_type hh hX (by decide))

theorem row_empty (W : World) (base g : Nat) (h : W.heap[g]? = some (.cells #[] 73 (0, 0))) (hb : base ≤ g) : W.ownsRow base 73 3 (.slice (some ⟨g, 0, none⟩) 0 0) 0 [] :=
  ⟨rfl, Or.inr ⟨g, 0, #[], rfl, hb, h, Nat.le_refl _, Nat.zero_le _, rfl, rfl⟩⟩

theorem StS.ob {w W : World} {b q S : Nat} {room : Int} {u : Value} {hs : List Pl.H} {o : Value} {ps : List (R × Value)} (h : StS w W b q S room u hs o ps) : ∀ g, o.ownBlock = some g → g < W.heap.size := fun g hg => by
  obtain ⟨cs, hh⟩ := (rowB_at h.row g hg).2; exact heap_lt hh

set_option maxRecDepth 100000 in
set_option maxHeartbeats 8000000 in
theorem recs_draw (b p : Nat) (w : World) (h : Rd w b p) (hp : p ≤ 700000) :
    Calls Tryd.prog 58 #[.pointer (some ⟨b, 0, none⟩)] w fun e w' => RecsGot w w' e b p := by
  obtain ⟨i0, hi, hz0, hz1, hz2⟩ := info_parts infoRec
  have hblt := h.lt
  have R0 := hide_it h
  clear h
  go_enter Tryd.func58, Tryd.ntmps58
  go_wp2_with fail
  refine (pick_any b p 8 _ R0.out (by omega) (by omega) (by omega)).mono ?_
  rintro e w1 ⟨room, rfl, lr, ur, r1, m1⟩
  have R1 := hide_it r1
  have M1 := hide_it m1
  clear r1 m1
  have HNW : Hid (∀ W, Calls Tryd.prog 54 #[.int .i64 room] W fun e w' => StOut W w' e room Pl.noHolds true) := fun W => by
    have := specNew_any room W
    rw [new_some lr (by omega)] at this
    exact this
  go_wp2_with fail
  refine (HNW.out _).mono ?_
  rintro e w3 ⟨ao, cap, rfl, ho3, hb3⟩
  have e6 : Pl.noHolds.length = 6 := rfl
  rw [e6] at ho3 ⊢
  clear e6
  obtain ⟨G, hG⟩ : ∃ G, Hid (G = w1.heap.size) := ⟨_, rfl⟩
  obtain ⟨S, hS⟩ : ∃ S, Hid (S = w3.heap.size) := ⟨_, rfl⟩
  obtain ⟨w4, hw4⟩ : ∃ W, Hid (W = w3.alloc (.cells #[.int .i64 room, .slice ao 6 cap] 43)) := ⟨_, rfl⟩
  have T4 : Hid (StS w w4 b (p + 1) S room (.slice ao 6 cap) Pl.noHolds (.slice (some ⟨G, 0, none⟩) 0 0) []) := by
    show StS _ _ _ _ _ _ _ _ _ _
    have hs1 : w.heap.size ≤ w1.heap.size := M1.out.size
    have hs3 := hb3.size
    simp at hs3
    have hg3 : w3.heap[G]? = some (.cells #[] 73 (0, 0)) := by rw [hG.out]; exact rowS_later (heap_alloc_new w1 _) hb3 (Nat.le_refl _)
    rw [hw4.out, hS.out]
    have al := alloc_below w3 (.cells #[.int .i64 room, .slice ao 6 cap] 43)
    refine ⟨heap_alloc_new _ _, by omega, ?_, ?_, (fun x hx => (by cases hx)), ?_, ?_, hblt⟩
    · exact ownsRow_below (ownsRow_lower ho3 (by simp; omega)) al (fun k hk => (ho3.lt k hk).2)
    · exact row_empty _ _ _ (rowS_later hg3 al (Nat.le_refl _)) (by rw [hG.out]; exact hs1)
    · exact ((R1.out.alloc _).later hb3 (Nat.le_refl _)).later al (Nat.le_refl _)
    · exact ((M1.out.alloc _).trans (Mid.of_below hb3 (Nat.le_refl _))).alloc _
  clear ho3 hb3 R0 R1 M1 HNW
  go_wp2_with fail
  rw [← hw4.out, ← hG.out, ← hS.out]
  refine (pick_any b (p + 1) 14 _ T4.out.rd (by omega) (by omega) (by omega)).mono ?_
  rintro e w5 ⟨n, rfl, ln, un, r5, m5⟩
  have T5 := hide_it (T4.out.step m5 r5)
  clear r5 m5 T4 hw4 hG hS
  obtain ⟨N, rfl⟩ := Int.eq_ofNat_of_zero_le ln
  go_wp2_with fail
  go_loopw [5, 8] (fun o i W => ∃ (m q : Nat) (u : Value) (hs : List Pl.H) (ps : List (R × Value)), i = .int .i64 m ∧ ps.length + m ≤ 13 ∧ p ≤ q ∧ q + 3 * m ≤ p + 2 + 3 * 13 ∧ Hid (StS w W b q S room u hs o ps) ∧ Hid (Pl.sRun room (ps.map (·.1)) Pl.noHolds = some hs)) (fun _ i _ => (intOf i).toNat)
  case atStart => exact ⟨N, p + 1 + 1, _, _, [], rfl, by simp; omega, by omega, by omega, T5, rfl⟩
  case round =>
    obtain ⟨m, q, u, hs, ps, rfl, hm, hq0, hq1, HS, HR⟩ := hrel
    by_cases hlt : 0 < m
    · have hlen : Hid (hs.length = 6) := by show _ = _; rw [Pl.sRun_len _ HR.out]; rfl
      go_wp2_with fail
      refine (pick_any b q 3 _ HS.out.rd (by omega) (by omega) (by omega)).mono ?_
      rintro e w6 ⟨k0, rfl, lk, uk, r6, m6⟩
      have S6 := hide_it (HS.out.step m6 r6)
      clear r6 m6 HS
      go_wp2_with fail
      refine (pick_any b (q + 1) 6 _ S6.out.rd (by omega) (by omega) (by omega)).mono ?_
      rintro e w7 ⟨t0, rfl, lt, ut, r7, m7⟩
      have S7 := hide_it (S6.out.step m7 r7)
      clear r7 m7 S6
      obtain ⟨Z, hZ⟩ : ∃ Z, Hid (Z = w7.heap.size) := ⟨_, rfl⟩
      have hw7 : w.heap.size ≤ w7.heap.size := S7.out.mid.size
      obtain ⟨au, cu, hus⟩ := row_shape S7.out.hol
      subst hus
      obtain ⟨ao5, co5, ho5⟩ := row_shape S7.out.row
      subst ho5
      have hwX : w.heap.size ≤ (Z + 1) := by rw [hZ.out]; omega
      have OB := hide_it (fun g hg => Nat.lt_trans (S7.out.ob g hg) (show w7.heap.size < (Z + 1) by rw [hZ.out]; omega))
      by_cases hk0 : k0 = 0
      · subst hk0
        obtain ⟨w8, hw8⟩ : ∃ W, Hid (W = (w7.alloc (.cells #[] 3)).alloc (.cells #[.int .i64 1, .int .i64 (1 + t0), .slice (some ⟨Z, 0, none⟩) 0 0] 73)) := ⟨_, rfl⟩
        have S8 : Hid (StS w w8 b (q + 2) S room (.slice au hs.length cu) hs (.slice ao5 ps.length co5) ps) := by show StS _ _ _ _ _ _ _ _ _ _; rw [hw8.out]; exact (S7.out.later (alloc_below _ _)).later (alloc_below _ _)
        have R8 : Hid (w8.heap[Z + 1]? = some (.cells #[.int .i64 1, .int .i64 (1 + t0), .slice (some ⟨Z, 0, none⟩) 0 0] 73 (0, 0))) := by
          show _ = _
          have := heap_alloc_new (w7.alloc (.cells #[] 3)) (.cells #[.int .i64 1, .int .i64 (1 + t0), .slice (some ⟨Z, 0, none⟩) 0 0] 73)
          rw [World.size_alloc] at this
          rw [hw8.out, hZ.out]; rw [hZ.out] at this; exact this
        clear S7
        go_wp2_with fail
        rw [← hZ.out, ← hw8.out]
        refine (pick_any b (q + 2) 3 _ S8.out.rd (by omega) (by omega) (by omega)).mono ?_
        rintro e w11 ⟨z, rfl, lz, uz, r11, m11⟩
        have S11 := hide_it (S8.out.step m11 r11)
        have R11 := hide_it (rowS_mid R8.out m11 (by omega))
        obtain ⟨Y, hY⟩ : ∃ Y, Hid (Y = w11.heap.size) := ⟨_, rfl⟩
        obtain ⟨V, hV⟩ : ∃ W, Hid (W = (w11.setCell ⟨Z + 1, 2, none⟩ (.slice (some ⟨Y, 0, none⟩) 1 1)).alloc (.cells #[.int .i64 (1 + z)] 3)) := ⟨_, rfl⟩
        have SX : Hid (StS w V b (q + 3) S room (.slice au hs.length cu) hs (.slice ao5 ps.length co5) ps) := by show StS _ _ _ _ _ _ _ _ _ _; rw [hV.out]; exact (S11.out.setX R11.out hwX OB.out _).later (alloc_below _ _)
        have RX : Hid (V.heap[Z + 1]? = some (.cells #[.int .i64 1, .int .i64 (1 + t0), .slice (some ⟨Y, 0, none⟩) 1 1] 73 (0, 0))) := by
          show _ = _
          rw [hV.out]
          exact rowS_later (by rw [heap_setCell_same w11 (Z + 1) 2 _ _ _ R11.out]; rfl) (alloc_below _ _) (Nat.le_refl _)
        have FX : Hid (Fresh V w.heap.size (.slice (some ⟨Y, 0, none⟩) 1 1) [1 + z] 1) := by
          show Fresh _ _ _ _ _
          have := fresh1 (w11.setCell ⟨Z + 1, 2, none⟩ (.slice (some ⟨Y, 0, none⟩) 1 1)) w.heap.size (1 + z) (by have := S11.out.mid.size; simp; omega)
          rw [World.size_setCell, ← hY.out] at this
          rw [hV.out]; exact this
        obtain ⟨y0, y1, yf2⟩ : w11.cell? ⟨Z + 1, 0, none⟩ = some (.int .i64 1) ∧ w11.cell? ⟨Z + 1, 1, none⟩ = some (.int .i64 (1 + t0)) ∧ w11.frozen? ⟨Z + 1, 2, none⟩ = false := ⟨by rw [cell_of_row w11 _ _ _ _ _ R11.out]; rfl, by rw [cell_of_row w11 _ _ _ _ _ R11.out]; rfl, frozen_of_row w11 _ _ _ _ R11.out⟩
        have y2 : w11.cell? ⟨Z + 1, 2, none⟩ = some (.slice (some ⟨Z, 0, none⟩) 0 0) := by rw [cell_of_row w11 _ _ _ _ _ R11.out]; rfl
        have yl := heap_lt R11.out
        obtain ⟨s0, s1, sf0, sf1, sl⟩ := S11.out.cells
        have hXS : Z + 1 ≠ S := ne_of_type R11.out S11.out.stk (by decide)
        have hSX : S ≠ Z + 1 := fun e => hXS e.symm
        clear r11 m11 S8 R8 hw8
        have hwV : w.heap.size ≤ V.heap.size := SX.out.mid.size
        have HDO := hide_it (specDo_any room (.slice au hs.length cu) hs (1) (1 + t0) (.slice (some ⟨Y, 0, none⟩) 1 1) ([1 + z]) V (holds_of_row SX.out.hol) (by rw [hlen.out]; omega) FX.out.ints (by simp))
        cases hdo : Pl.sDo room hs (1) (1 + t0) ([1 + z]) with
        | none =>
          rw [hdo] at HDO
          have HDO' : Hid (Calls Tryd.prog 68 #[.agg #[.int .i64 room, .slice au hs.length cu], .agg #[.int .i64 (1), .int .i64 (1 + t0), .slice (some ⟨Y, 0, none⟩) 1 1]] V fun e w' => StOut V w' e 0 [] false) := HDO.out
          clear HDO
          go_wp2_with fail
          rw [← hY.out, ← hV.out]
          refine HDO'.out.mono ?_
          rintro e w9 ⟨a9, c9, rfl, ho9, hb9⟩
          have S9 := hide_it ((SX.out.later hb9).later (alloc_below _ (.cells #[.int .i64 0, .slice a9 0 c9] 43)))
          clear ho9 hb9 s0 s1 sf0 sf1 sl
          go_wp2_with fail
          go_roundw
          case rel => exact ⟨m - 1, _, _, _, ps, by go_num, by omega, by omega, by omega, S9, HR⟩
          case measure => simp [intOf]; omega
        | some hs' =>
          rw [hdo] at HDO
          have HDO' : Hid (Calls Tryd.prog 68 #[.agg #[.int .i64 room, .slice au hs.length cu], .agg #[.int .i64 (1), .int .i64 (1 + t0), .slice (some ⟨Y, 0, none⟩) 1 1]] V fun e w' => StOut V w' e room hs' true) := HDO.out
          have HR' : Hid (Pl.sRun room ((ps ++ [(((1, 1 + t0, [1 + z]) : R), (.slice (some ⟨Y, 0, none⟩) 1 1 : Value))]).map (·.1)) Pl.noHolds = some hs') := by
            show _ = _
            rw [List.map_append, List.map_singleton, Pl.sRun_snoc, HR.out]; exact hdo
          clear HDO hdo
          go_wp2_with fail
          rw [← hY.out, ← hV.out]
          refine HDO'.out.mono ?_
          rintro e w9 ⟨a9, c9, rfl, ho9, hb9⟩
          obtain ⟨L', hL'⟩ : ∃ l, Hid (hs'.length = l) := ⟨_, rfl⟩
          rw [hL'.out] at ho9 ⊢
          have S9 := hide_it (SX.out.later hb9)
          have F9 := hide_it (FX.out.later hb9 (Nat.le_refl _))
          have R9 := hide_it (rowS_later RX.out hb9 (Nat.le_refl _))
          have O9 : Hid (w9.ownsRow w.heap.size 68 2 (.slice a9 L' c9) hs'.length (hflat hs')) := by show World.ownsRow _ _ _ _ _ _ _; rw [hL'.out]; exact ownsRow_lower ho9 hwV
          have S10 := hide_it ((S9.out.setS O9.out).later (alloc_below _ (.cells #[.int .i64 room, .slice a9 L' c9] 43)))
          have F10 : Hid (Fresh (((w9.setCell ⟨S, 0, none⟩ (.int .i64 room)).setCell ⟨S, 1, none⟩ (.slice a9 L' c9)).alloc (.cells #[.int .i64 room, .slice a9 L' c9] 43)) w.heap.size (.slice (some ⟨Y, 0, none⟩) 1 1) ([1 + z]) 1) := by
            show Fresh _ _ _ _ _
            exact ((F9.out.set S9.out.stk (by decide) _).set (heap_setCell_same _ S 0 _ _ _ S9.out.stk) (by decide) _).later (alloc_below _ _) (Nat.le_refl _)
          have hpl : ps.length ≤ 12 := by omega
          have ROW : Hid (∀ o, ((((w9.setCell ⟨S, 0, none⟩ (.int .i64 room)).setCell ⟨S, 1, none⟩ (.slice a9 L' c9)).alloc (.cells #[.int .i64 room, .slice a9 L' c9] 43)).alloc o).ownsRow w.heap.size 73 3 (.slice ao5 ps.length co5) ps.length (flat ps)) := fun o => (S10.out.later (alloc_below _ o)).row
          have hw9s : w.heap.size ≤ w9.heap.size := S9.out.mid.size
          clear ho9 s0 s1 sf0 sf1 sl
          have x0 : w9.cell? ⟨Z + 1, 0, none⟩ = some (.int .i64 (1)) := by rw [cell_of_row w9 _ _ _ _ _ R9.out]; rfl
          have x1 : w9.cell? ⟨Z + 1, 1, none⟩ = some (.int .i64 (1 + t0)) := by rw [cell_of_row w9 _ _ _ _ _ R9.out]; rfl
          have x2 : w9.cell? ⟨Z + 1, 2, none⟩ = some (.slice (some ⟨Y, 0, none⟩) 1 1) := by rw [cell_of_row w9 _ _ _ _ _ R9.out]; rfl
          have xl := heap_lt R9.out
          obtain ⟨s0, s1, sf0, sf1, sl⟩ := S9.out.cells
          clear hb9
          have NEWS : Hid (∀ (j : Nat) (x : Value), [Value.int .i64 (1), .int .i64 (1 + t0), .slice (some ⟨Y, 0, none⟩) 1 1][j]? = some x → ((((w9.setCell ⟨S, 0, none⟩ (.int .i64 room)).setCell ⟨S, 1, none⟩ (.slice a9 L' c9)).alloc (.cells #[.int .i64 room, .slice a9 L' c9] 43)).alloc (.cells #[.int .i64 (1), .int .i64 (1 + t0), .slice (some ⟨Y, 0, none⟩) 1 1] 73)).cell? ((⟨w9.heap.size + 1, 0, none⟩ : Addr).add j) = some x) := by
            have := news3 (((w9.setCell ⟨S, 0, none⟩ (.int .i64 room)).setCell ⟨S, 1, none⟩ (.slice a9 L' c9)).alloc (.cells #[.int .i64 room, .slice a9 L' c9] 43)) (1) (1 + t0) (.slice (some ⟨Y, 0, none⟩) 1 1) 73
            rw [World.size_alloc, World.size_setCell, World.size_setCell] at this
            exact this
          go_wp2_with (at_builtin; refine wpList_append_own _ rfl _ _ 23 rfl w.heap.size 73 i0 (.agg #[.int .i64 0, .int .i64 0, .slice none 0 0]) 3 40 Tryd.underlying23 hi hz0 hz1 hz2 rfl (by decide) (.slice ao5 ps.length co5) ps.length (flat ps) rfl (ROW.out _) ⟨w9.heap.size + 1, 0, none⟩ 1 1 [.int .i64 (1), .int .i64 (1 + t0), .slice (some ⟨Y, 0, none⟩) 1 1] rfl rfl NEWS.out (one3 _ _ _) ?c3 ?c4 ?c5 ?_)
          case c3 => unfold maxLen; omega
          case c4 => omega
          case c5 => simp; omega
          intro v' w12 hown12 hgrow12 _
          have S12 := hide_it ((S10.out.later (alloc_below _ _)).push (r := (1, 1 + t0, [1 + z])) ⟨by simp, Or.inl ⟨1, F10.out.later (alloc_below _ _) (Nat.le_refl _)⟩⟩ hown12 hgrow12)
          clear hown12 hgrow12 ROW S10 F10 NEWS S9 F9 R9 O9 s0 s1 sf0 sf1 x0 x1 x2
          go_wp2_with fail
          go_roundw
          case rel => exact ⟨m - 1, _, _, _, _, by go_num, by simp; omega, by omega, by omega, S12, HR'⟩
          case measure => simp [intOf]; omega
      · obtain ⟨V, hV⟩ : ∃ W, Hid (W = (w7.alloc (.cells #[] 3)).alloc (.cells #[.int .i64 (1 + k0), .int .i64 (1 + t0), .slice (some ⟨Z, 0, none⟩) 0 0] 73)) := ⟨_, rfl⟩
        have SX : Hid (StS w V b (q + 2) S room (.slice au hs.length cu) hs (.slice ao5 ps.length co5) ps) := by show StS _ _ _ _ _ _ _ _ _ _; rw [hV.out]; exact (S7.out.later (alloc_below _ _)).later (alloc_below _ _)
        have RX : Hid (V.heap[Z + 1]? = some (.cells #[.int .i64 (1 + k0), .int .i64 (1 + t0), .slice (some ⟨Z, 0, none⟩) 0 0] 73 (0, 0))) := by
          show _ = _
          have := heap_alloc_new (w7.alloc (.cells #[] 3)) (.cells #[.int .i64 (1 + k0), .int .i64 (1 + t0), .slice (some ⟨Z, 0, none⟩) 0 0] 73)
          rw [World.size_alloc] at this
          rw [hV.out, hZ.out]; rw [hZ.out] at this; exact this
        have FX : Hid (Fresh V w.heap.size (.slice (some ⟨Z, 0, none⟩) 0 0) [] 0) := by
          show Fresh _ _ _ _ _
          rw [hV.out, hZ.out]; exact (fresh0 w7 w.heap.size hw7).later (alloc_below _ _) (Nat.le_refl _)
        have hk1 : ¬ (1 + k0 = 1) := by omega
        obtain ⟨s0, s1, sf0, sf1, sl⟩ := S7.out.cells
        have hXS : Z + 1 ≠ S := ne_of_type RX.out SX.out.stk (by decide)
        have hSX : S ≠ Z + 1 := fun e => hXS e.symm
        clear S7
        have hwV : w.heap.size ≤ V.heap.size := SX.out.mid.size
        have HDO := hide_it (specDo_any room (.slice au hs.length cu) hs (1 + k0) (1 + t0) (.slice (some ⟨Z, 0, none⟩) 0 0) ([]) V (holds_of_row SX.out.hol) (by rw [hlen.out]; omega) FX.out.ints (by simp))
        cases hdo : Pl.sDo room hs (1 + k0) (1 + t0) ([]) with
        | none =>
          rw [hdo] at HDO
          have HDO' : Hid (Calls Tryd.prog 68 #[.agg #[.int .i64 room, .slice au hs.length cu], .agg #[.int .i64 (1 + k0), .int .i64 (1 + t0), .slice (some ⟨Z, 0, none⟩) 0 0]] V fun e w' => StOut V w' e 0 [] false) := HDO.out
          clear HDO
          go_wp2_with fail
          rw [← hZ.out, ← hV.out]
          refine HDO'.out.mono ?_
          rintro e w9 ⟨a9, c9, rfl, ho9, hb9⟩
          have S9 := hide_it ((SX.out.later hb9).later (alloc_below _ (.cells #[.int .i64 0, .slice a9 0 c9] 43)))
          clear ho9 hb9 s0 s1 sf0 sf1 sl
          go_wp2_with fail
          go_roundw
          case rel => exact ⟨m - 1, _, _, _, ps, by go_num, by omega, by omega, by omega, S9, HR⟩
          case measure => simp [intOf]; omega
        | some hs' =>
          rw [hdo] at HDO
          have HDO' : Hid (Calls Tryd.prog 68 #[.agg #[.int .i64 room, .slice au hs.length cu], .agg #[.int .i64 (1 + k0), .int .i64 (1 + t0), .slice (some ⟨Z, 0, none⟩) 0 0]] V fun e w' => StOut V w' e room hs' true) := HDO.out
          have HR' : Hid (Pl.sRun room ((ps ++ [(((1 + k0, 1 + t0, []) : R), (.slice (some ⟨Z, 0, none⟩) 0 0 : Value))]).map (·.1)) Pl.noHolds = some hs') := by
            show _ = _
            rw [List.map_append, List.map_singleton, Pl.sRun_snoc, HR.out]; exact hdo
          clear HDO hdo
          go_wp2_with fail
          rw [← hZ.out, ← hV.out]
          refine HDO'.out.mono ?_
          rintro e w9 ⟨a9, c9, rfl, ho9, hb9⟩
          obtain ⟨L', hL'⟩ : ∃ l, Hid (hs'.length = l) := ⟨_, rfl⟩
          rw [hL'.out] at ho9 ⊢
          have S9 := hide_it (SX.out.later hb9)
          have F9 := hide_it (FX.out.later hb9 (Nat.le_refl _))
          have R9 := hide_it (rowS_later RX.out hb9 (Nat.le_refl _))
          have O9 : Hid (w9.ownsRow w.heap.size 68 2 (.slice a9 L' c9) hs'.length (hflat hs')) := by show World.ownsRow _ _ _ _ _ _ _; rw [hL'.out]; exact ownsRow_lower ho9 hwV
          have S10 := hide_it ((S9.out.setS O9.out).later (alloc_below _ (.cells #[.int .i64 room, .slice a9 L' c9] 43)))
          have F10 : Hid (Fresh (((w9.setCell ⟨S, 0, none⟩ (.int .i64 room)).setCell ⟨S, 1, none⟩ (.slice a9 L' c9)).alloc (.cells #[.int .i64 room, .slice a9 L' c9] 43)) w.heap.size (.slice (some ⟨Z, 0, none⟩) 0 0) ([]) 0) := by
            show Fresh _ _ _ _ _
            exact ((F9.out.set S9.out.stk (by decide) _).set (heap_setCell_same _ S 0 _ _ _ S9.out.stk) (by decide) _).later (alloc_below _ _) (Nat.le_refl _)
          have hpl : ps.length ≤ 12 := by omega
          have ROW : Hid (∀ o, ((((w9.setCell ⟨S, 0, none⟩ (.int .i64 room)).setCell ⟨S, 1, none⟩ (.slice a9 L' c9)).alloc (.cells #[.int .i64 room, .slice a9 L' c9] 43)).alloc o).ownsRow w.heap.size 73 3 (.slice ao5 ps.length co5) ps.length (flat ps)) := fun o => (S10.out.later (alloc_below _ o)).row
          have hw9s : w.heap.size ≤ w9.heap.size := S9.out.mid.size
          clear ho9 s0 s1 sf0 sf1 sl
          have x0 : w9.cell? ⟨Z + 1, 0, none⟩ = some (.int .i64 (1 + k0)) := by rw [cell_of_row w9 _ _ _ _ _ R9.out]; rfl
          have x1 : w9.cell? ⟨Z + 1, 1, none⟩ = some (.int .i64 (1 + t0)) := by rw [cell_of_row w9 _ _ _ _ _ R9.out]; rfl
          have x2 : w9.cell? ⟨Z + 1, 2, none⟩ = some (.slice (some ⟨Z, 0, none⟩) 0 0) := by rw [cell_of_row w9 _ _ _ _ _ R9.out]; rfl
          have xl := heap_lt R9.out
          obtain ⟨s0, s1, sf0, sf1, sl⟩ := S9.out.cells
          clear hb9
          have NEWS : Hid (∀ (j : Nat) (x : Value), [Value.int .i64 (1 + k0), .int .i64 (1 + t0), .slice (some ⟨Z, 0, none⟩) 0 0][j]? = some x → ((((w9.setCell ⟨S, 0, none⟩ (.int .i64 room)).setCell ⟨S, 1, none⟩ (.slice a9 L' c9)).alloc (.cells #[.int .i64 room, .slice a9 L' c9] 43)).alloc (.cells #[.int .i64 (1 + k0), .int .i64 (1 + t0), .slice (some ⟨Z, 0, none⟩) 0 0] 73)).cell? ((⟨w9.heap.size + 1, 0, none⟩ : Addr).add j) = some x) := by
            have := news3 (((w9.setCell ⟨S, 0, none⟩ (.int .i64 room)).setCell ⟨S, 1, none⟩ (.slice a9 L' c9)).alloc (.cells #[.int .i64 room, .slice a9 L' c9] 43)) (1 + k0) (1 + t0) (.slice (some ⟨Z, 0, none⟩) 0 0) 73
            rw [World.size_alloc, World.size_setCell, World.size_setCell] at this
            exact this
          go_wp2_with (at_builtin; refine wpList_append_own _ rfl _ _ 23 rfl w.heap.size 73 i0 (.agg #[.int .i64 0, .int .i64 0, .slice none 0 0]) 3 40 Tryd.underlying23 hi hz0 hz1 hz2 rfl (by decide) (.slice ao5 ps.length co5) ps.length (flat ps) rfl (ROW.out _) ⟨w9.heap.size + 1, 0, none⟩ 1 1 [.int .i64 (1 + k0), .int .i64 (1 + t0), .slice (some ⟨Z, 0, none⟩) 0 0] rfl rfl NEWS.out (one3 _ _ _) ?c3 ?c4 ?c5 ?_)
          case c3 => unfold maxLen; omega
          case c4 => omega
          case c5 => simp; omega
          intro v' w12 hown12 hgrow12 _
          have S12 := hide_it ((S10.out.later (alloc_below _ _)).push (r := (1 + k0, 1 + t0, [])) ⟨by simp, Or.inl ⟨0, F10.out.later (alloc_below _ _) (Nat.le_refl _)⟩⟩ hown12 hgrow12)
          clear hown12 hgrow12 ROW S10 F10 NEWS S9 F9 R9 O9 s0 s1 sf0 sf1 x0 x1 x2
          go_wp2_with fail
          go_roundw
          case rel => exact ⟨m - 1, _, _, _, _, by go_num, by simp; omega, by omega, by omega, S12, HR'⟩
          case measure => simp [intOf]; omega
    · obtain rfl : m = 0 := by omega
      go_wp2
      go_ret2
      exact ⟨room, _, ps, hs, q, rfl, lr, by omega, by omega, HS.out.row, HS.out.all, HR.out, by omega, HS.out.rd, HS.out.mid⟩

end Go.Proofs.YtckafpmhhoeodaaDoor
