/- The contract of the specification's RecRead: the record whose text it is, in memory of the call's own, or that there is none. For every text. -/
import Derived.Test.YtfpjohbcbflnhaaDoorRRRead
import Derived.Test.YtfpjohbcbflnhaaDoorWRCut
import Derived.Test.YtfpjohbcbflnhaaDoorWRDec
import Derived.Deep.RegionHeldLaw
import Derived.Deep.DeepCutAuto
namespace Go.Proofs.YtfpjohbcbflnhaaDoor
open Go.RowKit

theorem cellAllocR {w : World} {b o : Nat} {v : Value} (h : w.cell? ⟨b, o, none⟩ = some v) (x : Obj) : (w.alloc x).cell? ⟨b, o, none⟩ = some v := by
  rw [← h]
  exact ((Below.refl w.heap.size w).alloc (Nat.le_refl _) x).cell (p := ⟨b, o, none⟩) (World.block_lt_of_cell? _ _ h)
theorem rowB_atR {W : World} {base n size : Nat} {e : TypeId} {v : Value} {xs : List Value} (h : W.ownsRow base e size v n xs) (g : Nat) (hg : v.ownBlock = some g) : base ≤ g ∧ ∃ cs, W.heap[g]? = some (.cells cs e (0, 0)) := by
  rcases h.2 with ⟨hv, _⟩ | ⟨g', cap, cur, hv, hb, hh, _⟩
  · rw [hv] at hg; simp [Value.ownBlock] at hg
  · rw [hv] at hg
    simp [Value.ownBlock] at hg
    subst hg
    exact ⟨hb, cur, hh⟩

set_option maxRecDepth 100000 in
set_option maxHeartbeats 4000000 in
theorem specRecRead_any (s : ByteArray) (w : World) :
    Calls Tryd.prog 15 #[.string s] w fun e w' => RdRO s w.heap.size e w' ∧ Below w.heap.size w w' := by
  by_cases hs : 20 < s.size
  · have hsi : (20 : Int) < (s.size : Int) := by omega
    have HR := hide_it (Pl.RdR.long (s := s) (by omega))
    go_enter Tryd.func15, Tryd.ntmps15
    go_wp2
    exact bodyPost_ret (v := .tuple #[.agg #[.int .i64 0, .int .i64 0, .slice none 0 0], .bool false]) (by simp [results, Tryd.results15, go_sem]) rfl ⟨⟨0, 0, [], false, .slice none 0 0, rfl, HR.out, World.ownsRow_nil _ _ _ _⟩, (Below.refl _ _).alloc (Nat.le_refl _) _⟩
  have hsi : ¬ (20 : Int) < (s.size : Int) := by omega
  have hs1 : s.size ≤ 1000 := by omega
  obtain ⟨w0, hw0⟩ : ∃ W, Hid (W = w.alloc (.cells #[.int .i64 0, .int .i64 0, .slice none 0 0] 25)) := ⟨_, rfl⟩
  have B0 : Hid (Below w.heap.size w w0) := by show Below _ _ _; rw [hw0.out]; exact (Below.refl _ _).alloc (Nat.le_refl _) _
  have HC := hide_it (lcut_any s w0 hs1)
  go_enter Tryd.func15, Tryd.ntmps15
  go_wp2_with fail
  rw [← hw0.out]
  refine HC.out.mono ?_
  rintro e w1 ⟨g, cap, n, rfl, hn, ho, hb1⟩
  have B1 := hide_it hb1
  have O1 := hide_it ho
  have N1 := hide_it hn
  clear hb1 ho hn HC
  by_cases h2 : n < 2
  · have HR := hide_it (Pl.RdR.snone (s := s) (by
      have h1 : (Pl.cutB s).length = n := by rw [Pl.cutB, List.length_map, ← N1.out]
      match hq : Pl.cutB s, h1 with
      | [], _ => rfl
      | [_], _ => rfl
      | _ :: _ :: _, h => simp at h; omega))
    have h2i : (n : Int) < 2 := by omega
    obtain ⟨⟨z0, z1, z2⟩, zf⟩ := zeroR hw0.out B1.out
    go_wp2
    exact bodyPost_ret (v := .tuple #[.agg #[.int .i64 0, .int .i64 0, .slice none 0 0], .bool false]) (by simp [results, Tryd.results15, go_sem, z0, z1, z2]) rfl ⟨⟨0, 0, [], false, .slice none 0 0, rfl, HR.out, World.ownsRow_nil _ _ _ _⟩, below3s (B0.out.trans (B1.out.mono B0.out.size)) (Nat.le_refl _) _ _ _⟩
  · have h2i : ¬ (n : Int) < 2 := by omega
    have hlen := N1.out
    obtain ⟨x, b, r, hL⟩ : ∃ x b r, Pl.cut s.data.toList = x :: b :: r := by
      match hq : Pl.cut s.data.toList, hlen with
      | [], h => simp at h; omega
      | [_], h => simp at h; omega
      | x :: b :: r, _ => exact ⟨x, b, r, rfl⟩
    have hrl : r.length + 2 = n := by rw [hlen, hL]; rfl
    have hn22 : n ≤ 1001 := by
      have h1 := (Pl.cut_length s.data.toList).2
      have h3 : s.data.toList.length = s.size := by simp
      rw [hlen]
      omega
    have g0 : w1.cell? ⟨g, 0, none⟩ = some (.string (Pl.bs x)) := by have := O1.out.cellAt 0 (by omega); rw [this, hL]; rfl
    have g1 : w1.cell? ⟨g, 1, none⟩ = some (.string (Pl.bs b)) := by have := O1.out.cellAt 1 (by omega); rw [this, hL]; rfl
    have hgl := (O1.out.lt g rfl).2
    have G0 : Hid (∀ W, Below w1.heap.size w1 W → W.cell? ⟨g, 0, none⟩ = some (.string (Pl.bs x))) := fun W hb => by rw [← g0]; exact hb.cell (p := ⟨g, 0, none⟩) hgl
    have GR : Hid (∀ W, Below w1.heap.size w1 W → ∀ j, j < r.length → W.cell? ⟨g, j + 2, none⟩ = some (.string (Pl.bs (r.getD j [])))) := fun W hb j hj => by
      have h1 : w1.cell? ⟨g, j + 2, none⟩ = some (.string (Pl.bs (r.getD j []))) := by
        have := O1.out.cellAt (j + 2) (by omega)
        rw [this, hL]
        simp [strV, List.getD_eq_getElem?_getD, hj]
      rw [← h1]; exact hb.cell (p := ⟨g, j + 2, none⟩) hgl
    have HSO : Hid (Pl.rsop (Pl.cutB s) = some (Pl.rKind (Pl.bs x), Pl.decB (Pl.bs b), r.map fun y => Pl.decB (Pl.bs y))) := by show _ = _; rw [Pl.cutB, hL]; simp [Pl.rsop]
    obtain ⟨SX, hSX⟩ : ∃ y, Hid (Pl.bs x = y) := ⟨_, rfl⟩
    obtain ⟨SB, hSB⟩ : ∃ y, Hid (Pl.bs b = y) := ⟨_, rfl⟩
    rw [hSX.out] at g0 G0 HSO
    rw [hSB.out] at g1 HSO
    obtain ⟨DB, hDB⟩ : ∃ y, Hid (Pl.decB SB = y) := ⟨_, rfl⟩
    rw [hDB.out] at HSO
    have hn1 : (1 : Int) < (n : Int) := by omega
    have hn0 : (0 : Int) < (n : Int) := by omega
    clear hL hlen N1 O1 hSX hSB
    go_wp2_with fail
    refine (ldec_any SB _).mono ?_
    rintro e wq ⟨rfl, hwq⟩
    rw [hwq, hDB.out]
    clear hwq
    obtain ⟨X, hX⟩ : ∃ X, Hid (X = w1.heap.size + 1) := ⟨_, rfl⟩
    obtain ⟨E, hE⟩ : ∃ E, Hid (E = w1.heap.size) := ⟨_, rfl⟩
    obtain ⟨w2, hw2⟩ : ∃ W, Hid (W = (w1.alloc (.cells #[] 3)).alloc (.cells #[.int .i64 0, .int .i64 DB, .slice (some ⟨w1.heap.size, 0, none⟩) 0 0] 25)) := ⟨_, rfl⟩
    have RX : Hid (w2.heap[X]? = some (.cells #[.int .i64 0, .int .i64 DB, .slice (some ⟨E, 0, none⟩) 0 0] 25 (0, 0))) := by
      show _ = _
      rw [hw2.out, hX.out, hE.out]
      have := heap_alloc_new (w1.alloc (.cells #[] 3)) (.cells #[.int .i64 0, .int .i64 DB, .slice (some ⟨w1.heap.size, 0, none⟩) 0 0] 25)
      simpa using this
    have RE : Hid (w2.heap[E]? = some (.cells #[] 3 (0, 0))) := by
      show _ = _
      rw [hw2.out, hE.out, Below.heap_alloc _ _ _ (by simp)]
      exact heap_alloc_new w1 _
    have BX : Hid (Below w1.heap.size w1 w2) := by show Below _ _ _; rw [hw2.out]; exact below2 _ _ _
    have hXE : X ≠ E := by rw [hX.out, hE.out]; omega
    have hXl : w1.heap.size ≤ X := by rw [hX.out]; omega
    have hEl : w1.heap.size ≤ E := by rw [hE.out]; exact Nat.le_refl _
    go_wp2_with fail
    rw [← hw2.out, ← hX.out, ← hE.out]
    clear hX hE hw2
    refine (rnames_any _).mono ?_
    rintro e w3 ⟨rfl, hn3, hb3⟩
    have RX3 := hide_it ((hb3.block _ (Array.getElem?_eq_some_iff.1 RX.out).1).trans RX.out)
    have RE3 := hide_it ((hb3.block _ (Array.getElem?_eq_some_iff.1 RE.out).1).trans RE.out)
    have N3 := hide_it hn3
    have B3 := hide_it (BX.out.trans (hb3.mono BX.out.size))
    obtain ⟨N, hN⟩ : ∃ N, Hid (w2.heap.size = N) := ⟨_, rfl⟩
    have hXN : X ≠ N := by have := (Array.getElem?_eq_some_iff.1 RX.out).1; rw [hN.out] at this; omega
    rw [hN.out] at N3 ⊢
    clear hb3 hn3 RX RE BX hN
    have hKr := rKind_range SX
    obtain ⟨KA, hKA⟩ : ∃ y, Hid (Pl.rKind SX = y) := ⟨_, rfl⟩
    have KE : Hid (∀ j : Nat, 1 ≤ j → j ≤ 7 → ((Pl.rNm j).toList == SX.toList) = decide (KA = (j : Int))) := fun j h1 h2 => by rw [rKind_eq SX j h1 h2, hKA.out]
    rw [hKA.out] at hKr HSO
    clear hKA
    obtain ⟨VE, hVE⟩ : ∃ v, Hid (v = Value.slice (some ⟨E, 0, none⟩) 0 0) := ⟨_, rfl⟩
    rw [← hVE.out] at RX3 ⊢
    go_wp2_with fail
    go_loopw [7] (fun i wr => ∃ (j : Nat) (kk : Int), 1 ≤ j ∧ j ≤ 8 ∧ i = .int .i64 j ∧ Hid (kk = if KA < (j : Int) then KA else 0) ∧ Hid (wr.heap[X]? = some (.cells #[.int .i64 kk, .int .i64 DB, VE] 25 (0, 0))) ∧ Hid (wr.heap[E]? = some (.cells #[] 3 (0, 0))) ∧ Hid (RNamesIn wr N) ∧ Hid (Below w1.heap.size w1 wr)) (fun i _ => 8 - (intOf i).toNat)
    case atStart => exact ⟨1, 0, by omega, by omega, rfl, by show _ = _; split <;> omega, RX3, RE3, N3, B3⟩
    case round =>
      obtain ⟨j, kk, hj1, hj8, rfl, HK, HX, HEE, HN, HB⟩ := hrel
      by_cases hlt : j < 8
      · have hnm := HN.out j (by omega) (by omega)
        have hg0 := G0.out wr HB.out
        have hke := KE.out j hj1 (by omega)
        have hx0 : wr.cell? ⟨X, 0, none⟩ = some (.int .i64 kk) := by rw [cell_of_row _ _ _ _ _ _ HX.out]; rfl
        have hxf := fun i => frozen_of_row wr X i _ _ HX.out
        have hnt : ((j : Int)).toNat = j := by omega
        rw [hnt] at hnm
        by_cases hk : KA = (j : Int)
        · rw [decide_eq_true hk] at hke
          have HX2 : Hid ((wr.setCell ⟨X, 0, none⟩ (.int .i64 (j : Int))).heap[X]? = some (.cells #[.int .i64 (j : Int), .int .i64 DB, VE] 25 (0, 0))) := by show _ = _; rw [heap_setCell_same _ _ _ _ _ _ HX.out]; rfl
          have HE2 : Hid ((wr.setCell ⟨X, 0, none⟩ (.int .i64 (j : Int))).heap[E]? = some (.cells #[] 3 (0, 0))) := by show _ = _; rw [Below.heap_setCell _ _ _ _ (by simpa using fun e => hXE e.symm)]; exact HEE.out
          have HN2 : Hid (RNamesIn (wr.setCell ⟨X, 0, none⟩ (.int .i64 (j : Int))) N) := fun k h0 h7 => by
            rw [← HN.out k h0 h7]
            have := Below.heap_setCell wr ⟨X, 0, none⟩ (.int .i64 (j : Int)) N (by simpa using fun e => hXN e.symm)
            simp only [World.cell?, this]
          have HB2 := hide_it (HB.out.setCell (p := ⟨X, 0, none⟩) hXl (.int .i64 (j : Int)))
          go_wp2_with fail
          go_quiet (fail)
          go_wp2
          go_roundw
          case rel => exact ⟨j + 1, (j : Int), by omega, by omega, by go_num, by show _ = _; rw [hk, if_pos (by simp; omega)], HX2, HE2, HN2, below_drewN HB2.out _⟩
          case measure => simp [intOf]; omega
        · rw [decide_eq_false hk] at hke
          go_wp2_with fail
          go_quiet (fail)
          go_wp2
          go_roundw
          case rel => exact ⟨j + 1, kk, by omega, by omega, by go_num, by show _ = _; rw [HK.out]; split <;> split <;> first | rfl | (simp at *; omega), HX, HEE, HN, below_drewN HB.out _⟩
          case measure => simp [intOf]; omega
      · obtain rfl : KA = kk := by rw [HK.out, if_pos (by omega)]
        have hj8i : (j : Int) = 8 := by omega
        rw [hj8i]
        clear HN HK hlt hj1 hj8 KE hKr hj8i
        -- REST
        rw [hVE.out] at HX
        go_wp2_with fail
        rw [decide_eq_false (show ¬ (n : Int) < 2 by omega)]
        go_loopw [8] (fun i wr => ∃ (j : Nat) (av : Option Addr) (cv : Nat), j ≤ r.length ∧ i = .int .i64 ((j : Int) + 2) ∧ Hid (wr.heap[X]? = some (.cells #[.int .i64 KA, .int .i64 DB, .slice av j cv] 25 (0, 0))) ∧ Hid (wr.ownsRow w1.heap.size 3 1 (.slice av j cv) j ((r.take j).map fun y => Value.int .i64 (Pl.decB (Pl.bs y)))) ∧ Hid (Below w1.heap.size w1 wr)) (fun i _ => r.length + 2 - (intOf i).toNat)
        case atStart => exact ⟨0, some ⟨E, 0, none⟩, 0, Nat.zero_le _, rfl, HX, ⟨rfl, .inr ⟨E, 0, #[], rfl, hEl, HEE.out, Nat.le_refl _, by decide, rfl, rfl⟩⟩, HB⟩
        clear HX HEE HB
        case round =>
          obtain ⟨j, av, cv, hj, rfl, HX, HO, HB⟩ := hrel
          by_cases hjl : j < r.length
          · obtain ⟨y, hy⟩ : ∃ y, r[j]? = some y := ⟨_, List.getElem?_eq_getElem hjl⟩
            obtain ⟨SY, hSY⟩ : ∃ x, Hid (Pl.bs (r.getD j []) = x) := ⟨_, rfl⟩
            obtain ⟨DY, hDY⟩ : ∃ x, Hid (Pl.decB SY = x) := ⟨_, rfl⟩
            have HTK : Hid (r.take (j + 1) = r.take j ++ [r.getD j []]) := by
              show _ = _
              rw [List.take_succ_eq_append_getElem hjl]
              simp [List.getD_eq_getElem?_getD, hjl]
            have hgy : wr.cell? ⟨g, j + 2, none⟩ = some (.string SY) := (GR.out wr HB.out j hjl).trans (by rw [hSY.out])
            have d2 : wr.cell? ⟨X, 2, none⟩ = some (.slice av j cv) := by rw [cell_of_row _ _ _ _ _ _ HX.out]; rfl
            have hjn : (j : Int) + 2 < (n : Int) := by omega
            have hj0 : (0 : Int) ≤ (j : Int) + 2 := by omega
            have hnt : ((j : Int) + 2).toNat = j + 2 := by omega
            have hr20 : r.length ≤ 1000 := by omega
            go_wp2_with fail
            refine wp_region_held_drew (S := fun w' => w'.cell? ⟨g, j + 2, none⟩ = some (.string SY)) (by kernel_rfl) hgy (fun hHeld => ?_)
            refine takeD (i := 0) (v := ?_) (some 48) rfl rfl (by kernel_rfl) (by kernel_rfl) (by kernel_rfl) (fun _ _ _ h => h) (by rfl) hHeld ?_ ?_
            rotate_left
            · intro W hSw
              try dsimp only at hSw
              go_simp
              try with_reducible rfl
            try simp only [Act.put]
            try simp only [List.setIfInBounds_toArray]
            try simp only [List.set_cons_succ]
            try simp only [List.set_cons_zero]
            refine takeD (i := 2) (v := ?_) (some 50) rfl rfl (by kernel_rfl) (by kernel_rfl) (by kernel_rfl) (fun _ _ _ h => h) (by rfl) hHeld ?_ ?_
            rotate_left
            · intro W hSw
              try dsimp only at hSw
              go_simp
              try with_reducible rfl
            try simp only [Act.put]
            try simp only [List.setIfInBounds_toArray]
            try simp only [List.set_cons_succ]
            try simp only [List.set_cons_zero]
            refine takeD (i := 3) (v := ?_) (some 51) rfl rfl (by kernel_rfl) (by kernel_rfl) (by kernel_rfl) (fun _ _ _ h => h) (by rfl) hHeld ?_ ?_
            rotate_left
            · intro W hSw
              try dsimp only at hSw
              go_simp
              try with_reducible rfl
            try simp only [Act.put]
            try simp only [List.setIfInBounds_toArray]
            try simp only [List.set_cons_succ]
            try simp only [List.set_cons_zero]
            refine takeD (i := 4) (v := ?_) (some 52) rfl rfl (by kernel_rfl) (by kernel_rfl) (by kernel_rfl) (fun _ _ _ h => h) (by rfl) hHeld ?_ ?_
            rotate_left
            · intro W hSw
              try dsimp only at hSw
              go_simp
              try with_reducible rfl
            try simp only [Act.put]
            try simp only [List.setIfInBounds_toArray]
            try simp only [List.set_cons_succ]
            try simp only [List.set_cons_zero]
            refine takeD (i := 5) (v := ?_) (some 53) rfl rfl (by kernel_rfl) (by kernel_rfl) (by kernel_rfl) (fun _ _ _ h => h) (by rfl) hHeld ?_ ?_
            rotate_left
            · intro W hSw
              try dsimp only at hSw
              go_simp
              try with_reducible rfl
            try simp only [Act.put]
            try simp only [List.setIfInBounds_toArray]
            try simp only [List.set_cons_succ]
            try simp only [List.set_cons_zero]
            refine wpAnyH_ready (rs := [1, 6]) (by kernel_rfl) (by simp) ?_
            refine AllReadyH.cons rfl (fun K hK => ?_) (AllReadyH.cons rfl (fun K hK => ?_) AllReadyH.nil)
            · go_simp
              
              try dsimp only
              refine hK.out _ _ hHeld (fun hHeld => ?_)
              clear hK K
              refine wpAnyH_ready (rs := [6]) (by kernel_rfl) (by simp) ?_
              refine AllReadyH.cons rfl (fun K hK => ?_) AllReadyH.nil
              go_simp
              refine (ldec_any SY _).mono ?_
              rintro e wq ⟨rfl, hwq⟩
              rw [hwq, hDY.out]
              clear hwq
              try dsimp only
              refine hK.out _ _ hgy (fun hHeld => ?_)
              clear hK K
              refine wpAnyH_ready (rs := [7]) (by kernel_rfl) (by simp) ?_
              refine AllReadyH.cons rfl (fun K hK => ?_) AllReadyH.nil
              go_simp
              obtain ⟨w4, hw4⟩ : ∃ W, Hid (W = (wr.alloc (.cells #[.int .i64 DY] 3)).drew) := ⟨_, rfl⟩
              rw [← hw4.out]
              have al : Below wr.heap.size wr w4 := by rw [hw4.out]; exact (alloc_below wr _).drew
              have d4 : w4.cell? ⟨X, 2, none⟩ = some (.slice av j cv) := by rw [hw4.out]; exact cellAllocR d2 _
              have gy4 : w4.cell? ⟨g, j + 2, none⟩ = some (.string SY) := by rw [hw4.out]; exact cellAllocR hgy _
              have O4 : Hid (w4.ownsRow w1.heap.size 3 1 (.slice av j cv) j ((r.take j).map fun y => Value.int .i64 (Pl.decB (Pl.bs y)))) := by show World.ownsRow _ _ _ _ _ _ _; rw [hw4.out]; exact HO.out.alloc _
              have P4 : Hid (Ints w4 (.slice (some ⟨wr.heap.size, 0, none⟩) 1 1) [DY]) := by
                show Ints _ _ _
                rw [hw4.out]
                exact .inr ⟨wr.heap.size, 0, 1, rfl, by simp, fun k hk => by
                  obtain rfl : k = 0 := by simpa using hk
                  have h := heap_alloc_new wr (.cells #[.int .i64 DY] 3)
                  have : (wr.alloc (.cells #[.int .i64 DY] 3)).cell? ⟨wr.heap.size, 0, none⟩ = some (.int .i64 DY) := by rw [cell_of_row _ _ _ _ _ _ h]; rfl
                  exact this⟩
              have X4 := hide_it ((al.block _ (Array.getElem?_eq_some_iff.1 HX.out).1).trans HX.out)
              have B4 := hide_it (HB.out.trans (al.mono HB.out.size))
              clear al
              try dsimp only
              refine hK.out _ _ gy4 (fun hHeld => ?_)
              clear hK K
              refine wpAnyH_ready (rs := [8]) (by kernel_rfl) (by simp) ?_
              refine AllReadyH.cons rfl (fun K hK => ?_) AllReadyH.nil
              skip
              refine step_append_ints rfl _ _ rfl w1.heap.size (.slice av j cv) (.slice (some ⟨wr.heap.size, 0, none⟩) 1 1) j ((r.take j).map fun y => Value.int .i64 (Pl.decB (Pl.bs y))) [DY] rfl rfl O4.out P4.out (by simp; omega) B4.out.size ?_
              intro ao5 cap5 w5 hown5 hgrow5
              have hXne : ∀ b, (Value.slice av j cv).ownBlock = some b → b ≠ X := fun b hb e => by
                obtain ⟨_, cs, hcs⟩ := rowB_atR O4.out b hb
                rw [e, X4.out] at hcs
                simp only [Option.some.injEq, Obj.cells.injEq] at hcs
                exact absurd hcs.2.1 (by decide)
              have X5 : Hid (w5.heap[X]? = some (.cells #[.int .i64 KA, .int .i64 DB, .slice av j cv] 25 (0, 0))) := by
                show _ = _
                rw [hgrow5.block X (Array.getElem?_eq_some_iff.1 X4.out).1 (fun e => hXne X e.symm rfl)]
                exact X4.out
              have B5 := hide_it (B4.out.trans (grown_belowN hgrow5 B4.out.size (fun b hb => (O4.out.lt b hb).1)))
              have O5 := hide_it hown5
              have gy5 : w5.cell? ⟨g, j + 2, none⟩ = some (.string SY) := (GR.out w5 B5.out j hjl).trans (by rw [hSY.out])
              have x52 : w5.cell? ⟨X, 2, none⟩ = some (.slice av j cv) := by rw [cell_of_row _ _ _ _ _ _ X5.out]; rfl
              have x5f := fun i => frozen_of_row w5 X i _ _ X5.out
              clear hown5 hgrow5
              try dsimp only
              refine hK.out _ _ gy5 (fun hHeld => ?_)
              clear hK K
              refine takeD (i := 9) (v := ?_) (some 57) rfl rfl (by kernel_rfl) (by kernel_rfl) (by kernel_rfl) (fun _ _ _ h => h) (by rfl) hHeld ?_ ?_
              rotate_left
              · intro W hSw
                try dsimp only at hSw
                go_simp
                try with_reducible rfl
              try simp only [Act.put]
              try simp only [List.setIfInBounds_toArray]
              try simp only [List.set_cons_succ]
              try simp only [List.set_cons_zero]
              refine wpAnyH_ready (rs := [10]) (by kernel_rfl) (by simp) ?_
              refine AllReadyH.cons rfl (fun K hK => ?_) AllReadyH.nil
              go_simp
              
              try dsimp only
              refine hK.out _ _ (by have hgX : g ≠ X := (by omega); rw [← gy5]; have := Below.heap_setCell w5 ⟨X, 2, none⟩ (.slice ao5 (j + 1) cap5) g (by simpa using hgX); simp only [World.cell?, this]) (fun hHeld => ?_)
              clear hK K
              refine wpAnyH_done (by kernel_rfl) ?_ _
              have HX6 : Hid ((w5.setCell ⟨X, 2, none⟩ (.slice ao5 (j + 1) cap5)).heap[X]? = some (.cells #[.int .i64 KA, .int .i64 DB, .slice ao5 (j + 1) cap5] 25 (0, 0))) := by show _ = _; rw [heap_setCell_same _ _ _ _ _ _ X5.out]; rfl
              have HB6 := hide_it (B5.out.setCell (p := ⟨X, 2, none⟩) hXl (.slice ao5 (j + 1) cap5))
              have HO6 : Hid ((w5.setCell ⟨X, 2, none⟩ (.slice ao5 (j + 1) cap5)).ownsRow w1.heap.size 3 1 (.slice ao5 (j + 1) cap5) (j + 1) ((r.take (j + 1)).map fun y => Value.int .i64 (Pl.decB (Pl.bs y)))) := by
                show World.ownsRow _ _ _ _ _ _ _
                refine ownsRow_setCell_other ?_ (fun e => ?_) _
                · have := O5.out
                  rw [HTK.out, List.map_append, List.map_cons, List.map_nil, hSY.out, hDY.out]
                  exact this
                · obtain ⟨_, cs, hcs⟩ := rowB_atR O5.out X (by simpa using e)
                  rw [X5.out] at hcs
                  simp only [Option.some.injEq, Obj.cells.injEq] at hcs
                  exact absurd hcs.2.1 (by decide)
              go_wp2
              go_roundw
              case rel => exact ⟨j + 1, ao5, cap5, by omega, by go_num, HX6, HO6, HB6⟩
              case measure => simp [intOf]; omega
            · go_simp
              refine (ldec_any SY _).mono ?_
              rintro e wq ⟨rfl, hwq⟩
              rw [hwq, hDY.out]
              clear hwq
              try dsimp only
              refine hK.out _ _ hgy (fun hHeld => ?_)
              clear hK K
              refine wpAnyH_ready (rs := [1, 7]) (by kernel_rfl) (by simp) ?_
              refine AllReadyH.cons rfl (fun K hK => ?_) (AllReadyH.cons rfl (fun K hK => ?_) AllReadyH.nil)
              · go_simp
                
                try dsimp only
                refine hK.out _ _ hHeld (fun hHeld => ?_)
                clear hK K
                refine wpAnyH_ready (rs := [7]) (by kernel_rfl) (by simp) ?_
                refine AllReadyH.cons rfl (fun K hK => ?_) AllReadyH.nil
                go_simp
                obtain ⟨w4, hw4⟩ : ∃ W, Hid (W = (wr.alloc (.cells #[.int .i64 DY] 3)).drew) := ⟨_, rfl⟩
                rw [← hw4.out]
                have al : Below wr.heap.size wr w4 := by rw [hw4.out]; exact (alloc_below wr _).drew
                have d4 : w4.cell? ⟨X, 2, none⟩ = some (.slice av j cv) := by rw [hw4.out]; exact cellAllocR d2 _
                have gy4 : w4.cell? ⟨g, j + 2, none⟩ = some (.string SY) := by rw [hw4.out]; exact cellAllocR hgy _
                have O4 : Hid (w4.ownsRow w1.heap.size 3 1 (.slice av j cv) j ((r.take j).map fun y => Value.int .i64 (Pl.decB (Pl.bs y)))) := by show World.ownsRow _ _ _ _ _ _ _; rw [hw4.out]; exact HO.out.alloc _
                have P4 : Hid (Ints w4 (.slice (some ⟨wr.heap.size, 0, none⟩) 1 1) [DY]) := by
                  show Ints _ _ _
                  rw [hw4.out]
                  exact .inr ⟨wr.heap.size, 0, 1, rfl, by simp, fun k hk => by
                    obtain rfl : k = 0 := by simpa using hk
                    have h := heap_alloc_new wr (.cells #[.int .i64 DY] 3)
                    have : (wr.alloc (.cells #[.int .i64 DY] 3)).cell? ⟨wr.heap.size, 0, none⟩ = some (.int .i64 DY) := by rw [cell_of_row _ _ _ _ _ _ h]; rfl
                    exact this⟩
                have X4 := hide_it ((al.block _ (Array.getElem?_eq_some_iff.1 HX.out).1).trans HX.out)
                have B4 := hide_it (HB.out.trans (al.mono HB.out.size))
                clear al
                try dsimp only
                refine hK.out _ _ gy4 (fun hHeld => ?_)
                clear hK K
                refine wpAnyH_ready (rs := [8]) (by kernel_rfl) (by simp) ?_
                refine AllReadyH.cons rfl (fun K hK => ?_) AllReadyH.nil
                skip
                refine step_append_ints rfl _ _ rfl w1.heap.size (.slice av j cv) (.slice (some ⟨wr.heap.size, 0, none⟩) 1 1) j ((r.take j).map fun y => Value.int .i64 (Pl.decB (Pl.bs y))) [DY] rfl rfl O4.out P4.out (by simp; omega) B4.out.size ?_
                intro ao5 cap5 w5 hown5 hgrow5
                have hXne : ∀ b, (Value.slice av j cv).ownBlock = some b → b ≠ X := fun b hb e => by
                  obtain ⟨_, cs, hcs⟩ := rowB_atR O4.out b hb
                  rw [e, X4.out] at hcs
                  simp only [Option.some.injEq, Obj.cells.injEq] at hcs
                  exact absurd hcs.2.1 (by decide)
                have X5 : Hid (w5.heap[X]? = some (.cells #[.int .i64 KA, .int .i64 DB, .slice av j cv] 25 (0, 0))) := by
                  show _ = _
                  rw [hgrow5.block X (Array.getElem?_eq_some_iff.1 X4.out).1 (fun e => hXne X e.symm rfl)]
                  exact X4.out
                have B5 := hide_it (B4.out.trans (grown_belowN hgrow5 B4.out.size (fun b hb => (O4.out.lt b hb).1)))
                have O5 := hide_it hown5
                have gy5 : w5.cell? ⟨g, j + 2, none⟩ = some (.string SY) := (GR.out w5 B5.out j hjl).trans (by rw [hSY.out])
                have x52 : w5.cell? ⟨X, 2, none⟩ = some (.slice av j cv) := by rw [cell_of_row _ _ _ _ _ _ X5.out]; rfl
                have x5f := fun i => frozen_of_row w5 X i _ _ X5.out
                clear hown5 hgrow5
                try dsimp only
                refine hK.out _ _ gy5 (fun hHeld => ?_)
                clear hK K
                refine takeD (i := 9) (v := ?_) (some 57) rfl rfl (by kernel_rfl) (by kernel_rfl) (by kernel_rfl) (fun _ _ _ h => h) (by rfl) hHeld ?_ ?_
                rotate_left
                · intro W hSw
                  try dsimp only at hSw
                  go_simp
                  try with_reducible rfl
                try simp only [Act.put]
                try simp only [List.setIfInBounds_toArray]
                try simp only [List.set_cons_succ]
                try simp only [List.set_cons_zero]
                refine wpAnyH_ready (rs := [10]) (by kernel_rfl) (by simp) ?_
                refine AllReadyH.cons rfl (fun K hK => ?_) AllReadyH.nil
                go_simp
                
                try dsimp only
                refine hK.out _ _ (by have hgX : g ≠ X := (by omega); rw [← gy5]; have := Below.heap_setCell w5 ⟨X, 2, none⟩ (.slice ao5 (j + 1) cap5) g (by simpa using hgX); simp only [World.cell?, this]) (fun hHeld => ?_)
                clear hK K
                refine wpAnyH_done (by kernel_rfl) ?_ _
                have HX6 : Hid ((w5.setCell ⟨X, 2, none⟩ (.slice ao5 (j + 1) cap5)).heap[X]? = some (.cells #[.int .i64 KA, .int .i64 DB, .slice ao5 (j + 1) cap5] 25 (0, 0))) := by show _ = _; rw [heap_setCell_same _ _ _ _ _ _ X5.out]; rfl
                have HB6 := hide_it (B5.out.setCell (p := ⟨X, 2, none⟩) hXl (.slice ao5 (j + 1) cap5))
                have HO6 : Hid ((w5.setCell ⟨X, 2, none⟩ (.slice ao5 (j + 1) cap5)).ownsRow w1.heap.size 3 1 (.slice ao5 (j + 1) cap5) (j + 1) ((r.take (j + 1)).map fun y => Value.int .i64 (Pl.decB (Pl.bs y)))) := by
                  show World.ownsRow _ _ _ _ _ _ _
                  refine ownsRow_setCell_other ?_ (fun e => ?_) _
                  · have := O5.out
                    rw [HTK.out, List.map_append, List.map_cons, List.map_nil, hSY.out, hDY.out]
                    exact this
                  · obtain ⟨_, cs, hcs⟩ := rowB_atR O5.out X (by simpa using e)
                    rw [X5.out] at hcs
                    simp only [Option.some.injEq, Obj.cells.injEq] at hcs
                    exact absurd hcs.2.1 (by decide)
                go_wp2
                go_roundw
                case rel => exact ⟨j + 1, ao5, cap5, by omega, by go_num, HX6, HO6, HB6⟩
                case measure => simp [intOf]; omega
              · go_simp
                obtain ⟨w4, hw4⟩ : ∃ W, Hid (W = (wr.alloc (.cells #[.int .i64 DY] 3)).drew) := ⟨_, rfl⟩
                rw [← hw4.out]
                have al : Below wr.heap.size wr w4 := by rw [hw4.out]; exact (alloc_below wr _).drew
                have d4 : w4.cell? ⟨X, 2, none⟩ = some (.slice av j cv) := by rw [hw4.out]; exact cellAllocR d2 _
                have gy4 : w4.cell? ⟨g, j + 2, none⟩ = some (.string SY) := by rw [hw4.out]; exact cellAllocR hgy _
                have O4 : Hid (w4.ownsRow w1.heap.size 3 1 (.slice av j cv) j ((r.take j).map fun y => Value.int .i64 (Pl.decB (Pl.bs y)))) := by show World.ownsRow _ _ _ _ _ _ _; rw [hw4.out]; exact HO.out.alloc _
                have P4 : Hid (Ints w4 (.slice (some ⟨wr.heap.size, 0, none⟩) 1 1) [DY]) := by
                  show Ints _ _ _
                  rw [hw4.out]
                  exact .inr ⟨wr.heap.size, 0, 1, rfl, by simp, fun k hk => by
                    obtain rfl : k = 0 := by simpa using hk
                    have h := heap_alloc_new wr (.cells #[.int .i64 DY] 3)
                    have : (wr.alloc (.cells #[.int .i64 DY] 3)).cell? ⟨wr.heap.size, 0, none⟩ = some (.int .i64 DY) := by rw [cell_of_row _ _ _ _ _ _ h]; rfl
                    exact this⟩
                have X4 := hide_it ((al.block _ (Array.getElem?_eq_some_iff.1 HX.out).1).trans HX.out)
                have B4 := hide_it (HB.out.trans (al.mono HB.out.size))
                clear al
                try dsimp only
                refine hK.out _ _ gy4 (fun hHeld => ?_)
                clear hK K
                refine wpAnyH_ready (rs := [1]) (by kernel_rfl) (by simp) ?_
                refine AllReadyH.cons rfl (fun K hK => ?_) AllReadyH.nil
                go_simp
                
                try dsimp only
                refine hK.out _ _ hHeld (fun hHeld => ?_)
                clear hK K
                refine wpAnyH_ready (rs := [8]) (by kernel_rfl) (by simp) ?_
                refine AllReadyH.cons rfl (fun K hK => ?_) AllReadyH.nil
                skip
                refine step_append_ints rfl _ _ rfl w1.heap.size (.slice av j cv) (.slice (some ⟨wr.heap.size, 0, none⟩) 1 1) j ((r.take j).map fun y => Value.int .i64 (Pl.decB (Pl.bs y))) [DY] rfl rfl O4.out P4.out (by simp; omega) B4.out.size ?_
                intro ao5 cap5 w5 hown5 hgrow5
                have hXne : ∀ b, (Value.slice av j cv).ownBlock = some b → b ≠ X := fun b hb e => by
                  obtain ⟨_, cs, hcs⟩ := rowB_atR O4.out b hb
                  rw [e, X4.out] at hcs
                  simp only [Option.some.injEq, Obj.cells.injEq] at hcs
                  exact absurd hcs.2.1 (by decide)
                have X5 : Hid (w5.heap[X]? = some (.cells #[.int .i64 KA, .int .i64 DB, .slice av j cv] 25 (0, 0))) := by
                  show _ = _
                  rw [hgrow5.block X (Array.getElem?_eq_some_iff.1 X4.out).1 (fun e => hXne X e.symm rfl)]
                  exact X4.out
                have B5 := hide_it (B4.out.trans (grown_belowN hgrow5 B4.out.size (fun b hb => (O4.out.lt b hb).1)))
                have O5 := hide_it hown5
                have gy5 : w5.cell? ⟨g, j + 2, none⟩ = some (.string SY) := (GR.out w5 B5.out j hjl).trans (by rw [hSY.out])
                have x52 : w5.cell? ⟨X, 2, none⟩ = some (.slice av j cv) := by rw [cell_of_row _ _ _ _ _ _ X5.out]; rfl
                have x5f := fun i => frozen_of_row w5 X i _ _ X5.out
                clear hown5 hgrow5
                try dsimp only
                refine hK.out _ _ gy5 (fun hHeld => ?_)
                clear hK K
                refine takeD (i := 9) (v := ?_) (some 57) rfl rfl (by kernel_rfl) (by kernel_rfl) (by kernel_rfl) (fun _ _ _ h => h) (by rfl) hHeld ?_ ?_
                rotate_left
                · intro W hSw
                  try dsimp only at hSw
                  go_simp
                  try with_reducible rfl
                try simp only [Act.put]
                try simp only [List.setIfInBounds_toArray]
                try simp only [List.set_cons_succ]
                try simp only [List.set_cons_zero]
                refine wpAnyH_ready (rs := [10]) (by kernel_rfl) (by simp) ?_
                refine AllReadyH.cons rfl (fun K hK => ?_) AllReadyH.nil
                go_simp
                
                try dsimp only
                refine hK.out _ _ (by have hgX : g ≠ X := (by omega); rw [← gy5]; have := Below.heap_setCell w5 ⟨X, 2, none⟩ (.slice ao5 (j + 1) cap5) g (by simpa using hgX); simp only [World.cell?, this]) (fun hHeld => ?_)
                clear hK K
                refine wpAnyH_done (by kernel_rfl) ?_ _
                have HX6 : Hid ((w5.setCell ⟨X, 2, none⟩ (.slice ao5 (j + 1) cap5)).heap[X]? = some (.cells #[.int .i64 KA, .int .i64 DB, .slice ao5 (j + 1) cap5] 25 (0, 0))) := by show _ = _; rw [heap_setCell_same _ _ _ _ _ _ X5.out]; rfl
                have HB6 := hide_it (B5.out.setCell (p := ⟨X, 2, none⟩) hXl (.slice ao5 (j + 1) cap5))
                have HO6 : Hid ((w5.setCell ⟨X, 2, none⟩ (.slice ao5 (j + 1) cap5)).ownsRow w1.heap.size 3 1 (.slice ao5 (j + 1) cap5) (j + 1) ((r.take (j + 1)).map fun y => Value.int .i64 (Pl.decB (Pl.bs y)))) := by
                  show World.ownsRow _ _ _ _ _ _ _
                  refine ownsRow_setCell_other ?_ (fun e => ?_) _
                  · have := O5.out
                    rw [HTK.out, List.map_append, List.map_cons, List.map_nil, hSY.out, hDY.out]
                    exact this
                  · obtain ⟨_, cs, hcs⟩ := rowB_atR O5.out X (by simpa using e)
                    rw [X5.out] at hcs
                    simp only [Option.some.injEq, Obj.cells.injEq] at hcs
                    exact absurd hcs.2.1 (by decide)
                go_wp2
                go_roundw
                case rel => exact ⟨j + 1, ao5, cap5, by omega, by go_num, HX6, HO6, HB6⟩
                case measure => simp [intOf]; omega
          · have hjr : j = r.length := by omega
            obtain ⟨zs, hzs⟩ : ∃ zs, Hid (zs = r.map fun y => Pl.decB (Pl.bs y)) := ⟨_, rfl⟩
            have hzl : zs.length = j := by rw [hzs.out, List.length_map, hjr]
            have HOZ : Hid (wr.ownsRow w1.heap.size 3 1 (.slice av j cv) zs.length (zs.map (Value.int .i64))) := by
              show World.ownsRow _ _ _ _ _ _ _
              have h := HO.out
              rw [List.take_of_length_le (by omega)] at h
              rw [hzl, hzs.out, List.map_map]
              exact h
            have HSZ : Hid (Pl.rsop (Pl.cutB s) = some (KA, DB, zs)) := by show _ = _; rw [HSO.out, hzs.out]
            have x0 : wr.cell? ⟨X, 0, none⟩ = some (.int .i64 KA) := by rw [cell_of_row _ _ _ _ _ _ HX.out]; rfl
            have x1 : wr.cell? ⟨X, 1, none⟩ = some (.int .i64 DB) := by rw [cell_of_row _ _ _ _ _ _ HX.out]; rfl
            have x2 : wr.cell? ⟨X, 2, none⟩ = some (.slice av j cv) := by rw [cell_of_row _ _ _ _ _ _ HX.out]; rfl
            have QX := hide_it (show RecAt wr X KA DB (.slice av j cv) from ⟨x0, x1, x2⟩)
            have hIN := ints_of_any HOZ.out
            have hz20 : zs.length ≤ 1048576 := by omega
            have HOK := hide_it (specOk_any KA DB (.slice av j cv) zs wr hIN hz20)
            have HIN := hide_it hIN
            have hnle : (n : Int) ≤ (j : Int) + 2 := by omega
            clear HO HX hIN hzs HSO GR hjr hzl hrl hjl hj
            cases e1 : Pl.recOk KA DB zs
            · rw [e1] at HOK
              have H3 := hide_it (Pl.RdR.spec HSZ.out (.inl e1))
              clear e1
              go_wp2_with fail
              refine HOK.out.mono ?_
              rintro e w7 ⟨rfl, hb7⟩
              have B7 := hide_it (HB.out.trans (hb7.mono HB.out.size))
              have A9 := hide_it (B1.out.trans (B7.out.mono B1.out.size))
              clear hb7 x0 x1 x2
              obtain ⟨⟨z0, z1, z2⟩, zf⟩ := zeroR hw0.out A9.out
              have OW := hide_it (fun W => World.ownsRow_nil W w.heap.size 3 1)
              go_wp2
              exact bodyPost_ret (v := .tuple #[.agg #[.int .i64 0, .int .i64 0, .slice none 0 0], .bool false]) (by simp [results, Tryd.results15, go_sem, z0, z1, z2]) rfl ⟨⟨0, 0, [], false, .slice none 0 0, rfl, H3.out, OW.out _⟩, below3s (B0.out.trans (A9.out.mono B0.out.size)) (Nat.le_refl _) _ _ _⟩
            · rw [e1] at HOK
              obtain ⟨T, hT⟩ : ∃ T, Hid (Pl.rTxt KA DB zs = T) := ⟨_, rfl⟩
              have HT : Hid (∀ W, Below wr.heap.size wr W → Calls Tryd.prog 10 #[.agg #[.int .i64 KA, .int .i64 DB, .slice av j cv]] W fun e w' => e = .returned (.string T) ∧ Below W.heap.size W w') := fun W hb => by
                rw [← hT.out]; exact specRecText_any KA DB _ zs W (HIN.out.later hb (Nat.le_refl _)) hz20
              by_cases hTs : T = s
              · have H3 := hide_it (show Pl.RdR s KA DB zs true from .inl ⟨rfl, e1, hT.out.trans hTs⟩)
                clear e1
                subst hTs
                go_wp2_with fail
                refine HOK.out.mono ?_
                rintro e w7 ⟨rfl, hb7⟩
                have B7 := hide_it (HB.out.trans (hb7.mono HB.out.size))
                have Q7 := hide_it (QX.out.later hb7 (Nat.le_refl _))
                have L7 := hide_it hb7
                clear hb7 x0 x1 x2
                obtain ⟨q0, q1, q2⟩ := Q7.out
                go_wp2_with fail
                refine (HT.out _ L7.out).mono ?_
                rintro e w8 ⟨rfl, hb8⟩
                have B8 := hide_it (B7.out.trans (hb8.mono B7.out.size))
                have Q8 := hide_it (Q7.out.later hb8 (Nat.le_refl _))
                have A9 := hide_it (B1.out.trans (B8.out.mono B1.out.size))
                have OZ8 := hide_it (ownsRow_below HOZ.out (L7.out.trans (hb8.mono L7.out.size)) (fun b hb => (HOZ.out.lt b hb).2))
                clear hb8 q0 q1 q2
                obtain ⟨q0, q1, q2⟩ := Q8.out
                obtain ⟨⟨z0, z1, z2⟩, zf⟩ := zeroR hw0.out A9.out
                have hws : w.heap.size < w1.heap.size := by
                  have h1 := B1.out.size
                  have h2 : w0.heap.size = w.heap.size + 1 := by rw [hw0.out]; simp
                  omega
                have OW : Hid ((((w8.setCell ⟨w.heap.size, 0, none⟩ (.int .i64 KA)).setCell ⟨w.heap.size, 1, none⟩ (.int .i64 DB)).setCell ⟨w.heap.size, 2, none⟩ (.slice av j cv)).ownsRow w.heap.size 3 1 (.slice av j cv) zs.length (zs.map (Value.int .i64))) :=
                  ownsRow_base (ownsRow_setCell_below (ownsRow_setCell_below (ownsRow_setCell_below OZ8.out (by simpa using hws) _) (by simpa using hws) _) (by simpa using hws) _) (by omega)
                go_wp2
                exact bodyPost_ret (v := .tuple #[.agg #[.int .i64 KA, .int .i64 DB, .slice av j cv], .bool true]) (by simp [results, Tryd.results15, go_sem, z0, z1, z2]) rfl ⟨⟨KA, DB, zs, true, .slice av j cv, rfl, H3.out, OW.out⟩, below3s (B0.out.trans (A9.out.mono B0.out.size)) (Nat.le_refl _) _ _ _⟩
              · have H3 := hide_it (Pl.RdR.spec HSZ.out (.inr (by rw [hT.out]; exact hTs)))
                clear e1
                have hne := str_neR hTs
                clear hTs
                go_wp2_with fail
                refine HOK.out.mono ?_
                rintro e w7 ⟨rfl, hb7⟩
                have B7 := hide_it (HB.out.trans (hb7.mono HB.out.size))
                have Q7 := hide_it (QX.out.later hb7 (Nat.le_refl _))
                have L7 := hide_it hb7
                clear hb7 x0 x1 x2
                obtain ⟨q0, q1, q2⟩ := Q7.out
                go_wp2_with fail
                refine (HT.out _ L7.out).mono ?_
                rintro e w8 ⟨rfl, hb8⟩
                have B8 := hide_it (B7.out.trans (hb8.mono B7.out.size))
                have A9 := hide_it (B1.out.trans (B8.out.mono B1.out.size))
                clear hb8 q0 q1 q2
                obtain ⟨⟨z0, z1, z2⟩, zf⟩ := zeroR hw0.out A9.out
                have OW := hide_it (fun W => World.ownsRow_nil W w.heap.size 3 1)
                go_wp2
                exact bodyPost_ret (v := .tuple #[.agg #[.int .i64 0, .int .i64 0, .slice none 0 0], .bool false]) (by simp [results, Tryd.results15, go_sem, z0, z1, z2]) rfl ⟨⟨0, 0, [], false, .slice none 0 0, rfl, H3.out, OW.out _⟩, below3s (B0.out.trans (A9.out.mono B0.out.size)) (Nat.le_refl _) _ _ _⟩

end Go.Proofs.YtfpjohbcbflnhaaDoor
