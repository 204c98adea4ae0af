/- The contract of the specification's WordRead: the word whose text it is, or that there is none. For every text. -/
import Derived.Test.YtleinjblokepmaaDoorWRRead
import Derived.Deep.RegionHeldLaw
import Derived.Deep.DeepCutAuto
namespace Go.Proofs.YtleinjblokepmaaDoor
open Go.RowKit

set_option maxHeartbeats 4000000 in
theorem specRead_any (s : ByteArray) (w : World) :
    Calls Tryd.prog 13 #[.string s] w fun e w' => RdO s e ∧ Below w.heap.size w w' := by
  by_cases hs : 20 < s.size
  · have hsi : (20 : Int) < (s.size : Int) := by omega
    have HR := hidden (Pl.RdW.long (s := s) (by omega))
    go_enter Tryd.func13, Tryd.ntmps13
    go_wp2
    exact bodyPost_ret (v := .tuple #[wordV 0 0 0 0, .bool false]) (by simp [results, Tryd.results13, go_sem]) rfl ⟨⟨0, 0, 0, 0, false, rfl, HR.out⟩, (Below.refl _ _).alloc (Nat.le_refl _) _⟩
  · have hsi : ¬ (20 : Int) < (s.size : Int) := by omega
    have hs1 : s.size ≤ 1000 := by omega
    obtain ⟨w0, hw0⟩ : ∃ W, Hid (W = w.alloc (.cells #[.int .i64 0, .int .i64 0, .int .i64 0, .int .i64 0] 24)) := ⟨_, rfl⟩
    have B0 : Hid (Below w.heap.size w w0) := by show Below _ _ _; rw [hw0.out]; exact (Below.refl _ _).alloc (Nat.le_refl _) _
    have HC := hidden (lcut_any s w0 hs1)
    go_enter Tryd.func13, Tryd.ntmps13
    go_wp2_with fail
    rw [← hw0.out]
    refine HC.out.mono ?_
    rintro e w1 ⟨g, cap, n, rfl, hn, ho, hb1⟩
    have B1 := hidden hb1
    have O1 := hidden ho
    have N1 := hidden hn
    clear hb1 ho hn HC
    by_cases h34 : n < 3 ∨ 4 < n
    · have HR := hidden (Pl.RdW.specLen (s := s) (by rw [Pl.cutB, List.length_map, ← N1.out]; exact h34))
      have hin : Pl.inB (n : Int) 3 4 = false := by rcases h34 with h | h <;> simp [Pl.inB] <;> omega
      clear h34
      go_wp2_with fail
      refine (in_any _ _ _ _).mono ?_
      rintro e w2 ⟨rfl, hw2⟩
      rw [hw2, hin]
      clear hw2
      obtain ⟨⟨z0, z1, z2, z3⟩, zf⟩ := zeroB hw0.out B1.out
      go_wp2
      exact bodyPost_ret (v := .tuple #[wordV 0 0 0 0, .bool false]) (by simp [results, Tryd.results13, go_sem, z0, z1, z2, z3]) rfl ⟨⟨_, _, _, _, false, rfl, HR.out⟩, below4 (B0.out.trans (B1.out.mono B0.out.size)) (Nat.le_refl _) _ _ _ _⟩
    · have hin : Pl.inB (n : Int) 3 4 = true := by simp [Pl.inB]; omega
      go_wp2_with fail
      refine (in_any _ _ _ _).mono ?_
      rintro e w2 ⟨rfl, hw2⟩
      rw [hw2, hin]
      clear hw2 hin
      have hlen := N1.out
      obtain ⟨a, b, c, r, hL, hr⟩ : ∃ a b c r, Pl.cut s.data.toList = a :: b :: c :: r ∧ (n = 3 ∧ r = [] ∨ n = 4 ∧ ∃ d, r = [d]) := by
        match hq : Pl.cut s.data.toList, hlen with
        | [], h => simp at h; omega
        | [_], h => simp at h; omega
        | [_, _], h => simp at h; omega
        | [a, b, c], h => exact ⟨a, b, c, [], rfl, .inl ⟨by simpa using h, rfl⟩⟩
        | [a, b, c, d], h => exact ⟨a, b, c, [d], rfl, .inr ⟨by simpa using h, d, rfl⟩⟩
        | _ :: _ :: _ :: _ :: _ :: _, h => simp at h; omega
      have hn3 : 3 ≤ n := by omega
      have g0 : w1.cell? ⟨g, 0, none⟩ = some (.string (Pl.bs a)) := by have := O1.out.cellAt 0 (by omega); rw [this, hL]; rfl
      have g1 : w1.cell? ⟨g, 1, none⟩ = some (.string (Pl.bs b)) := by have := O1.out.cellAt 1 (by omega); rw [this, hL]; rfl
      have g2 : w1.cell? ⟨g, 2, none⟩ = some (.string (Pl.bs c)) := by have := O1.out.cellAt 2 (by omega); rw [this, hL]; rfl
      have hgl := (O1.out.lt g rfl).2
      have G0 : Hid (∀ W, Below w1.heap.size w1 W → W.cell? ⟨g, 0, none⟩ = some (.string (Pl.bs a))) := fun W hb => by rw [← g0]; exact hb.cell (p := ⟨g, 0, none⟩) hgl
      have G3 : Hid (n = 3 ∧ Pl.sop (Pl.cutB s) = (Pl.wKind (Pl.bs a), Pl.decB (Pl.bs b), Pl.decB (Pl.bs c), 0) ∨ n = 4 ∧ ∃ d, Pl.sop (Pl.cutB s) = (Pl.wKind (Pl.bs a), Pl.decB (Pl.bs b), Pl.decB (Pl.bs c), Pl.decB (Pl.bs d)) ∧ ∀ W, Below w1.heap.size w1 W → W.cell? ⟨g, 3, none⟩ = some (.string (Pl.bs d))) := by
        rcases hr with ⟨rfl, rfl⟩ | ⟨rfl, d, rfl⟩
        · exact .inl ⟨rfl, by rw [Pl.cutB, hL]; rfl⟩
        · refine .inr ⟨rfl, d, by rw [Pl.cutB, hL]; rfl, fun W hb => ?_⟩
          have := O1.out.cellAt 3 (by omega)
          rw [hL] at this
          have h2 : w1.cell? ⟨g, 3, none⟩ = some (.string (Pl.bs d)) := by rw [this]; rfl
          rw [← h2]; exact hb.cell (p := ⟨g, 3, none⟩) hgl
      have hn4 : (n : Int) ≤ 4 := by omega
      have hn3i : (3 : Int) ≤ (n : Int) := by omega
      have hn1 : (1 : Int) < (n : Int) := by omega
      have hn2 : (2 : Int) < (n : Int) := by omega
      have hn0 : (0 : Int) < (n : Int) := by omega
      clear hr hL hlen N1 O1 h34
      obtain ⟨A, hA⟩ : ∃ A, Hid (Pl.bs a = A) := ⟨_, rfl⟩
      obtain ⟨SB, hSB⟩ : ∃ x, Hid (Pl.bs b = x) := ⟨_, rfl⟩
      obtain ⟨SC, hSC⟩ : ∃ x, Hid (Pl.bs c = x) := ⟨_, rfl⟩
      rw [hSB.out] at G3 g1
      rw [hSC.out] at G3 g2
      rw [hA.out] at G0 G3 g0
      clear hSB hSC hA
      obtain ⟨DB, hDB⟩ : ∃ x, Hid (Pl.decB SB = x) := ⟨_, rfl⟩
      obtain ⟨DC, hDC⟩ : ∃ x, Hid (Pl.decB SC = x) := ⟨_, rfl⟩
      rw [hDB.out, hDC.out] at G3
      go_wp2_with fail
      go_cut [5] (fun o W => o = .pointer (some ⟨w1.heap.size, 0, none⟩) ∧ Hid (W = (w1.alloc (.cells #[.int .i64 0, .int .i64 DB, .int .i64 DC, .int .i64 0] 24)).drew))
      case first =>
        go_wp2_with fail
        go_region_held_law (fun w' => w'.cell? ⟨g, 1, none⟩ = some (.string SB) ∧ w'.cell? ⟨g, 2, none⟩ = some (.string SC)) (go_keep)
          ((go_simp; go_at_call 27; refine (ldec_any _ _).mono ?_; rintro e w' ⟨rfl, hww⟩; rw [hww]))
        all_goals
          go_wp2_with fail
          go_meet
          case rel => exact ⟨rfl, by show _ = _; rw [hDB.out, hDC.out]⟩
      case rest =>
        obtain ⟨rfl, hW⟩ := hcut
        have RX : Hid (wc.heap[w1.heap.size]? = some (.cells (qv (0, DB, DC, 0)) 24 (0, 0))) := by show _ = _; rw [hW.out]; exact heap_alloc_new w1 _
        have BC : Hid (Below w1.heap.size w1 wc) := by show Below _ _ _; rw [hW.out]; exact ((Below.refl _ _).alloc (Nat.le_refl _) _).drew
        clear hW
        go_wp2_with fail
        refine (names_any _).mono ?_
        rintro e w2 ⟨rfl, hn2, hb2⟩
        have RX2 := hidden ((hb2.block _ (Array.getElem?_eq_some_iff.1 RX.out).1).trans RX.out)
        have N2 := hidden hn2
        have B2 := hidden (BC.out.trans (hb2.mono BC.out.size))
        obtain ⟨N, hN⟩ : ∃ N, Hid (wc.heap.size = N) := ⟨_, rfl⟩
        have hXN : w1.heap.size ≠ N := by have := (Array.getElem?_eq_some_iff.1 RX.out).1; rw [hN.out] at this; omega
        rw [hN.out] at N2 ⊢
        clear hb2 hn2 RX BC hN
        have hKr := wKind_range A
        obtain ⟨KA, hKA⟩ : ∃ x, Hid (Pl.wKind A = x) := ⟨_, rfl⟩
        have KE : Hid (∀ j : Nat, 1 ≤ j → j ≤ 7 → ((Pl.wNm j).toList == A.toList) = decide (KA = (j : Int))) := fun j h1 h2 => by rw [wKind_eq A j h1 h2, hKA.out]
        rw [hKA.out] at hKr G3
        clear hKA
        go_wp2_with fail
        go_loopw [7] (fun i wr => ∃ (j : Nat) (kk : Int), 1 ≤ j ∧ j ≤ 8 ∧ i = .int .i64 j ∧ Hid (kk = if KA < (j : Int) then KA else 0) ∧ Hid (wr.heap[w1.heap.size]? = some (.cells (qv (kk, DB, DC, 0)) 24 (0, 0))) ∧ Hid (NamesIn wr N) ∧ Hid (Below w1.heap.size w1 wr)) (fun i _ => 8 - (intOf i).toNat)
        case atStart => exact ⟨1, 0, by omega, by omega, rfl, by show _ = _; split <;> omega, RX2, N2, B2⟩
        case round =>
          obtain ⟨j, kk, hj1, hj8, rfl, HK, HX, HN, HB⟩ := hrel
          by_cases hlt : j < 8
          · have hnm := HN.out j (by omega) (by omega)
            have hg0 := G0.out wr HB.out
            have hke := KE.out j hj1 (by omega)
            have hx0 : wr.cell? ⟨w1.heap.size, 0, none⟩ = some (.int .i64 kk) := by rw [cell_of_row _ _ _ _ _ _ HX.out]; rfl
            have hxf := fun i => frozen_of_row wr w1.heap.size i _ _ HX.out
            have hnt : ((j : Int)).toNat = j := by omega
            rw [hnt] at hnm
            by_cases hk : KA = (j : Int)
            · rw [decide_eq_true hk] at hke
              have HX2 : Hid ((wr.setCell ⟨w1.heap.size, 0, none⟩ (.int .i64 (j : Int))).heap[w1.heap.size]? = some (.cells (qv ((j : Int), DB, DC, 0)) 24 (0, 0))) := by show _ = _; rw [heap_setCell_same _ _ _ _ _ _ HX.out]; rfl
              have HN2 : Hid (NamesIn (wr.setCell ⟨w1.heap.size, 0, none⟩ (.int .i64 (j : Int))) N) := fun k h0 h7 => by
                rw [← HN.out k h0 h7]
                have := Below.heap_setCell wr ⟨w1.heap.size, 0, none⟩ (.int .i64 (j : Int)) N (by simpa using fun e => hXN e.symm)
                simp only [World.cell?, this]
              have HB2 := hidden (HB.out.setCell (p := ⟨w1.heap.size, 0, none⟩) (Nat.le_refl _) (.int .i64 (j : Int)))
              go_wp2_with fail
              go_quiet (fail)
              go_wp2
              go_roundw
              case rel => exact ⟨j + 1, (j : Int), by omega, by omega, by go_num, by show _ = _; rw [hk, if_pos (by simp; omega)], HX2, HN2, below_drewN HB2.out _⟩
              case measure => simp [intOf]; omega
            · rw [decide_eq_false hk] at hke
              go_wp2_with fail
              go_quiet (fail)
              go_wp2
              go_roundw
              case rel => exact ⟨j + 1, kk, by omega, by omega, by go_num, by show _ = _; rw [HK.out]; split <;> split <;> first | rfl | (simp at *; omega), HX, HN, below_drewN HB.out _⟩
              case measure => simp [intOf]; omega
          · obtain rfl : j = 8 := by omega
            obtain rfl : KA = kk := by rw [HK.out, if_pos (by simp; omega)]
            have h3 := G3.out
            clear HN HK hlt hj1 hj8 KE hKr G3 g0 g1 g2 hDB hDC
            rcases h3 with ⟨rfl, HS⟩ | ⟨rfl, d, HS, hd⟩
            · have RW := HX
              have BW := HB
              clear HX HB
              obtain ⟨R1, R2⟩ := Pl.RdW.spec HS
              have H1 := hidden R1
              have H2 := hidden R2
              clear R1 R2
              have HOK := hidden (specWordOk_any KA DB DC 0)
              have q0 : wr.cell? ⟨w1.heap.size, 0, none⟩ = some (.int .i64 KA) := by rw [cell_of_row _ _ _ _ _ _ RW.out]; rfl
              have q1 : wr.cell? ⟨w1.heap.size, 1, none⟩ = some (.int .i64 DB) := by rw [cell_of_row _ _ _ _ _ _ RW.out]; rfl
              have q2 : wr.cell? ⟨w1.heap.size, 2, none⟩ = some (.int .i64 DC) := by rw [cell_of_row _ _ _ _ _ _ RW.out]; rfl
              have q3 : wr.cell? ⟨w1.heap.size, 3, none⟩ = some (.int .i64 0) := by rw [cell_of_row _ _ _ _ _ _ RW.out]; rfl
              have QB := hidden (show Quad wr w1.heap.size _ _ _ _ from ⟨q0, q1, q2, q3⟩)
              cases e1 : Pl.wOk KA DB DC 0
              · rw [e1] at HOK
                have H3 := hidden (H2.out (.inl e1))
                clear e1
                go_wp2_with fail
                refine (HOK.out _).mono ?_
                rintro e w7 ⟨rfl, hb7⟩
                have B7 := hidden (BW.out.trans (hb7.mono BW.out.size))
                have A7 := hidden (B1.out.trans (B7.out.mono B1.out.size))
                clear hb7 q0 q1 q2 q3
                obtain ⟨⟨z0, z1, z2, z3⟩, zf⟩ := zeroB hw0.out A7.out
                go_wp2
                exact bodyPost_ret (v := .tuple #[wordV 0 0 0 0, .bool false]) (by simp [results, Tryd.results13, go_sem, z0, z1, z2, z3]) rfl ⟨⟨_, _, _, _, false, rfl, H3.out⟩, below4 (B0.out.trans (A7.out.mono B0.out.size)) (Nat.le_refl _) _ _ _ _⟩
              · rw [e1] at HOK
                have HT := hidden (specText_any KA DB DC 0)
                obtain ⟨T, hT⟩ : ∃ T, Hid (Pl.wTxt KA DB DC 0 = T) := ⟨_, rfl⟩
                rw [hT.out] at HT
                by_cases hTs : T = s
                · have H3 := hidden (H1.out ⟨e1, hT.out.trans hTs⟩)
                  clear e1
                  subst hTs
                  go_wp2_with fail
                  refine (HOK.out _).mono ?_
                  rintro e w7 ⟨rfl, hb7⟩
                  have B7 := hidden (BW.out.trans (hb7.mono BW.out.size))
                  have Q7 := hidden (QB.out.later hb7 (Nat.le_refl _))
                  clear hb7 q0 q1 q2 q3
                  obtain ⟨q0, q1, q2, q3⟩ := Q7.out
                  go_wp2_with fail
                  refine (HT.out _).mono ?_
                  rintro e w8 ⟨rfl, hb8⟩
                  have B8 := hidden (B7.out.trans (hb8.mono B7.out.size))
                  have Q8 := hidden (Q7.out.later hb8 (Nat.le_refl _))
                  have A8 := hidden (B1.out.trans (B8.out.mono B1.out.size))
                  clear hb8 q0 q1 q2 q3
                  obtain ⟨q0, q1, q2, q3⟩ := Q8.out
                  obtain ⟨⟨z0, z1, z2, z3⟩, zf⟩ := zeroB hw0.out A8.out
                  go_wp2
                  exact bodyPost_ret (v := .tuple #[wordV KA DB DC 0, .bool true]) (by simp [results, Tryd.results13, go_sem, z0, z1, z2, z3]) rfl ⟨⟨_, _, _, _, true, rfl, H3.out⟩, below4 (B0.out.trans (A8.out.mono B0.out.size)) (Nat.le_refl _) _ _ _ _⟩
                · have H3 := hidden (H2.out (.inr (by rw [hT.out]; exact hTs)))
                  clear e1
                  have hne := str_ne hTs
                  clear hTs
                  go_wp2_with fail
                  refine (HOK.out _).mono ?_
                  rintro e w7 ⟨rfl, hb7⟩
                  have B7 := hidden (BW.out.trans (hb7.mono BW.out.size))
                  have Q7 := hidden (QB.out.later hb7 (Nat.le_refl _))
                  clear hb7 q0 q1 q2 q3
                  obtain ⟨q0, q1, q2, q3⟩ := Q7.out
                  go_wp2_with fail
                  refine (HT.out _).mono ?_
                  rintro e w8 ⟨rfl, hb8⟩
                  have B8 := hidden (B7.out.trans (hb8.mono B7.out.size))
                  have A8 := hidden (B1.out.trans (B8.out.mono B1.out.size))
                  clear hb8 q0 q1 q2 q3
                  obtain ⟨⟨z0, z1, z2, z3⟩, zf⟩ := zeroB hw0.out A8.out
                  go_wp2
                  exact bodyPost_ret (v := .tuple #[wordV 0 0 0 0, .bool false]) (by simp [results, Tryd.results13, go_sem, z0, z1, z2, z3]) rfl ⟨⟨_, _, _, _, false, rfl, H3.out⟩, below4 (B0.out.trans (A8.out.mono B0.out.size)) (Nat.le_refl _) _ _ _ _⟩
            · have RW0 := HX
              have BW0 := HB
              clear HX HB
              have g3 := hd wr BW0.out
              obtain ⟨DD, hDD⟩ : ∃ x, Hid (Pl.decB (Pl.bs d) = x) := ⟨_, rfl⟩
              rw [hDD.out] at HS
              have RW : Hid ((wr.setCell ⟨w1.heap.size, 3, none⟩ (.int .i64 DD)).heap[w1.heap.size]? = some (.cells (qv (KA, DB, DC, DD)) 24 (0, 0))) := by show _ = _; rw [heap_setCell_same _ _ _ _ _ _ RW0.out]; rfl
              have BW := hidden (BW0.out.setCell (p := ⟨w1.heap.size, 3, none⟩) (Nat.le_refl _) (.int .i64 DD))
              have x3 : wr.cell? ⟨w1.heap.size, 3, none⟩ = some (.int .i64 0) := by rw [cell_of_row _ _ _ _ _ _ RW0.out]; rfl
              have xf := fun i => frozen_of_row wr w1.heap.size i _ _ RW0.out
              clear RW0 BW0 hd
              obtain ⟨SD, hSD⟩ : ∃ x, Hid (Pl.bs d = x) := ⟨_, rfl⟩
              rw [hSD.out] at g3 hDD
              have hdd : Hid (∀ W, Calls Tryd.prog 27 #[.string SD] W fun e w' => e = .returned (.int .i64 DD) ∧ w' = W) := fun W => by rw [← hDD.out]; exact ldec_any SD W
              clear hSD hDD
              go_wp2_with fail
              refine (hdd.out _).mono ?_
              rintro e w6 ⟨rfl, hw6⟩
              rw [hw6]
              clear hw6 hdd
              obtain ⟨R1, R2⟩ := Pl.RdW.spec HS
              have H1 := hidden R1
              have H2 := hidden R2
              clear R1 R2
              have HOK := hidden (specWordOk_any KA DB DC DD)
              have q0 : (wr.setCell ⟨w1.heap.size, 3, none⟩ (.int .i64 DD)).cell? ⟨w1.heap.size, 0, none⟩ = some (.int .i64 KA) := by rw [cell_of_row _ _ _ _ _ _ RW.out]; rfl
              have q1 : (wr.setCell ⟨w1.heap.size, 3, none⟩ (.int .i64 DD)).cell? ⟨w1.heap.size, 1, none⟩ = some (.int .i64 DB) := by rw [cell_of_row _ _ _ _ _ _ RW.out]; rfl
              have q2 : (wr.setCell ⟨w1.heap.size, 3, none⟩ (.int .i64 DD)).cell? ⟨w1.heap.size, 2, none⟩ = some (.int .i64 DC) := by rw [cell_of_row _ _ _ _ _ _ RW.out]; rfl
              have q3 : (wr.setCell ⟨w1.heap.size, 3, none⟩ (.int .i64 DD)).cell? ⟨w1.heap.size, 3, none⟩ = some (.int .i64 DD) := by rw [cell_of_row _ _ _ _ _ _ RW.out]; rfl
              have QB := hidden (show Quad (wr.setCell ⟨w1.heap.size, 3, none⟩ (.int .i64 DD)) w1.heap.size _ _ _ _ from ⟨q0, q1, q2, q3⟩)
              cases e1 : Pl.wOk KA DB DC DD
              · rw [e1] at HOK
                have H3 := hidden (H2.out (.inl e1))
                clear e1
                go_wp2_with fail
                refine (HOK.out _).mono ?_
                rintro e w7 ⟨rfl, hb7⟩
                have B7 := hidden (BW.out.trans (hb7.mono BW.out.size))
                have A7 := hidden (B1.out.trans (B7.out.mono B1.out.size))
                clear hb7 q0 q1 q2 q3
                obtain ⟨⟨z0, z1, z2, z3⟩, zf⟩ := zeroB hw0.out A7.out
                go_wp2
                exact bodyPost_ret (v := .tuple #[wordV 0 0 0 0, .bool false]) (by simp [results, Tryd.results13, go_sem, z0, z1, z2, z3]) rfl ⟨⟨_, _, _, _, false, rfl, H3.out⟩, below4 (B0.out.trans (A7.out.mono B0.out.size)) (Nat.le_refl _) _ _ _ _⟩
              · rw [e1] at HOK
                have HT := hidden (specText_any KA DB DC DD)
                obtain ⟨T, hT⟩ : ∃ T, Hid (Pl.wTxt KA DB DC DD = T) := ⟨_, rfl⟩
                rw [hT.out] at HT
                by_cases hTs : T = s
                · have H3 := hidden (H1.out ⟨e1, hT.out.trans hTs⟩)
                  clear e1
                  subst hTs
                  go_wp2_with fail
                  refine (HOK.out _).mono ?_
                  rintro e w7 ⟨rfl, hb7⟩
                  have B7 := hidden (BW.out.trans (hb7.mono BW.out.size))
                  have Q7 := hidden (QB.out.later hb7 (Nat.le_refl _))
                  clear hb7 q0 q1 q2 q3
                  obtain ⟨q0, q1, q2, q3⟩ := Q7.out
                  go_wp2_with fail
                  refine (HT.out _).mono ?_
                  rintro e w8 ⟨rfl, hb8⟩
                  have B8 := hidden (B7.out.trans (hb8.mono B7.out.size))
                  have Q8 := hidden (Q7.out.later hb8 (Nat.le_refl _))
                  have A8 := hidden (B1.out.trans (B8.out.mono B1.out.size))
                  clear hb8 q0 q1 q2 q3
                  obtain ⟨q0, q1, q2, q3⟩ := Q8.out
                  obtain ⟨⟨z0, z1, z2, z3⟩, zf⟩ := zeroB hw0.out A8.out
                  go_wp2
                  exact bodyPost_ret (v := .tuple #[wordV KA DB DC DD, .bool true]) (by simp [results, Tryd.results13, go_sem, z0, z1, z2, z3]) rfl ⟨⟨_, _, _, _, true, rfl, H3.out⟩, below4 (B0.out.trans (A8.out.mono B0.out.size)) (Nat.le_refl _) _ _ _ _⟩
                · have H3 := hidden (H2.out (.inr (by rw [hT.out]; exact hTs)))
                  clear e1
                  have hne := str_ne hTs
                  clear hTs
                  go_wp2_with fail
                  refine (HOK.out _).mono ?_
                  rintro e w7 ⟨rfl, hb7⟩
                  have B7 := hidden (BW.out.trans (hb7.mono BW.out.size))
                  have Q7 := hidden (QB.out.later hb7 (Nat.le_refl _))
                  clear hb7 q0 q1 q2 q3
                  obtain ⟨q0, q1, q2, q3⟩ := Q7.out
                  go_wp2_with fail
                  refine (HT.out _).mono ?_
                  rintro e w8 ⟨rfl, hb8⟩
                  have B8 := hidden (B7.out.trans (hb8.mono B7.out.size))
                  have A8 := hidden (B1.out.trans (B8.out.mono B1.out.size))
                  clear hb8 q0 q1 q2 q3
                  obtain ⟨⟨z0, z1, z2, z3⟩, zf⟩ := zeroB hw0.out A8.out
                  go_wp2
                  exact bodyPost_ret (v := .tuple #[wordV 0 0 0 0, .bool false]) (by simp [results, Tryd.results13, go_sem, z0, z1, z2, z3]) rfl ⟨⟨_, _, _, _, false, rfl, H3.out⟩, below4 (B0.out.trans (A8.out.mono B0.out.size)) (Nat.le_refl _) _ _ _ _⟩

end Go.Proofs.YtleinjblokepmaaDoor
