/- The law FnRecForm, walked: whatever the code, it answers true, and nothing that was there before has turned. For codes of at most 1048576 bytes, in a world in which the sentinel's variable holds a pointer to an errors.errorString. -/
import Derived.Test.YtfpjohbcbflnhaaDoorELawKinds
import Derived.Test.YtfpjohbcbflnhaaDoorCopy
import Derived.Test.YtfpjohbcbflnhaaDoorESText
import Derived.Test.YtfpjohbcbflnhaaDoorBlk
namespace Go.Proofs.YtfpjohbcbflnhaaDoor
open Go.RowKit

theorem wpList_append_intsF {ops : Array Oper} {rest : List Oper} {o : Oper} {a : Act} {w : World} {Q : Exit → Act → World → Prop} (hgd : o.guard = none) (s x : Operand)
    (ho : o.op = .call { callee := .builtin .append, args := #[s, x], argTypes := #[23, 23] })
    (base : Nat) (v xv : Value) (n : Nat) (xs : List Value) (zs : List Int) (hs : a.eval s = v) (hx : a.eval x = xv) (hown : w.ownsRow base 3 1 v n xs) (hI : Ints w xv zs) (hb : n + zs.length ≤ 16777216) (hbase : base ≤ w.heap.size)
    (h : ∀ ao cap w', w'.ownsRow base 3 1 (.slice ao (n + zs.length) cap) (n + zs.length) (xs ++ zs.map (Value.int .i64)) → w.grownBy w' v.ownBlock → wpList Tryd.prog ops Q rest (a.put o.dst (.slice ao (n + zs.length) cap)) w') :
    wpList Tryd.prog ops Q (o :: rest) a w := by
  refine wpList_plain hgd fun K hK' => ?_
  obtain ⟨v', w', hrun, r1, r2⟩ := run_append_ints w base o.type v xv n xs zs hown hI hb hbase
  obtain ⟨ao, cap, rfl⟩ := row_shape r1
  unfold Oper.wp
  simp [execOp, ho, resolve, invoke, builtin, hs, hx, hrun, Result.andThen]
  exact hK' _ _ (h ao cap w' r1 r2)

theorem lit0F (W : World) (ty : TypeId) (sz : Nat) : (W.alloc (.cells #[] ty)).ownsRow W.heap.size ty sz (.slice (some ⟨W.heap.size, 0, none⟩) 0 0) 0 [] := by
  have h := World.ownsRow_lit (base := W.heap.size) (e := ty) (size := sz) W #[] 0 (by simp) (by unfold maxLen; omega) (by simp)
  exact h
theorem rowB_atF {W : World} {base n size : Nat} {e : TypeId} {v : Value} {xs : List Value} (h : W.ownsRow base e size v n xs) (g : Nat) (hg : v.ownBlock = some g) : base ≤ g ∧ ∃ cs, W.heap[g]? = some (.cells cs e (0, 0)) := by
  rcases h.2 with ⟨hv, _⟩ | ⟨g', cap, cur, hv, hb, hh, _⟩
  · rw [hv] at hg; simp [Value.ownBlock] at hg
  · rw [hv] at hg; simp [Value.ownBlock] at hg; subst hg; exact ⟨hb, cur, hh⟩
theorem cellAllocF {w : World} {b o : Nat} {v : Value} (h : w.cell? ⟨b, o, none⟩ = some v) (x : Obj) : (w.alloc x).cell? ⟨b, o, none⟩ = some v := by
  rw [← h]
  exact ((Below.refl w.heap.size w).alloc (Nat.le_refl _) x).cell (p := ⟨b, o, none⟩) (World.block_lt_of_cell? _ _ h)

theorem Pl.rec_form {k t : Int} {zs : List Int} (h : Pl.recOk k t zs = true) : (1 ≤ k ∧ k ≤ 7) ∧ (k = 1 ∧ zs.length = 1 ∧ 0 < zs.sum ∨ k = 4 ∧ zs.length = 3 ∧ 0 < zs.sum ∨ k ≠ 1 ∧ k ≠ 4 ∧ zs.length = 0) := by
  have ht : Pl.inB t 1 6 = true := by
    cases ht : Pl.inB t 1 6
    · rw [Pl.recOk_t k t zs ht] at h; cases h
    · rfl
  by_cases h1 : k = 1
  · subst h1
    rw [Pl.recOk_1 t zs ht] at h
    simp only [Pl.holdOk, Bool.and_eq_true, beq_iff_eq] at h
    obtain ⟨h2, h3⟩ := h
    match zs, h2 with
    | [z], _ =>
      have := Pl.inB_true h3
      simp at this
      exact ⟨by omega, Or.inl ⟨rfl, rfl, by simp; omega⟩⟩
  by_cases h4 : k = 4
  · subst h4
    rw [Pl.recOk_4 t zs ht] at h
    simp only [Pl.manyOk, Bool.and_eq_true, beq_iff_eq, decide_eq_true_eq] at h
    exact ⟨by omega, Or.inr (Or.inl ⟨rfl, h.1.2, h.2⟩)⟩
  · rw [Pl.recOk_p k t zs ht h1 h4] at h
    simp only [Bool.and_eq_true, beq_iff_eq] at h
    have := Pl.inB_true h.1
    exact ⟨by omega, Or.inr (Or.inr ⟨h1, h4, h.2⟩)⟩
theorem Pl.rec_longer {k t : Int} {zs : List Int} (h : Pl.recOk k t zs = true) : Pl.recOk k t (zs ++ [1]) = false := by
  cases e : Pl.recOk k t (zs ++ [1]) with
  | false => rfl
  | true =>
    obtain ⟨-, h1⟩ := Pl.rec_form h
    obtain ⟨-, h2⟩ := Pl.rec_form e
    rw [List.length_append] at h2
    simp only [List.length_cons, List.length_nil] at h2
    omega
theorem Pl.take_sum (n : Nat) (zs : List Int) (h : ∀ j, j < zs.length → 0 ≤ zs.getD j 0 ∧ zs.getD j 0 ≤ 9) (hn : n ≤ zs.length) : 0 ≤ (zs.take n).sum ∧ (zs.take n).sum ≤ 9 * n := by
  induction n with
  | zero => simp
  | succ n ih =>
    have h1 := ih (by omega)
    have h2 := h n (by omega)
    rw [Pl.sum_snoc zs n (by omega)]
    constructor <;> omega

set_option maxRecDepth 100000 in
set_option maxHeartbeats 4000000 in
theorem lawRecForm_small (vc : Value) (nc : Nat) (a : Addr) (w : World) (hc : CodeAt w vc nc) (hcn : nc ≤ 1048576) (ha : ErrAt w a) :
    Calls Tryd.prog 7 #[vc] w fun e w' => e = .returned (.bool true) ∧ Below w.heap.size w w' := by
  have HA : Hid (∀ W, Below w.heap.size w W → ErrAt W a) := fun W h => ha.later h (Nat.le_refl _)
  have HD := hide_it (drawRec_any vc nc w hc hcn)
  obtain ⟨ac, cc, rfl, _⟩ := hc
  have hci : (nc : Int) ≤ 1048576 := by omega
  clear ha hcn
  go_enter Tryd.func7, Tryd.ntmps7
  go_wp2_with fail
  refine HD.out.mono ?_
  rintro e w1 ⟨k, t, u, zs, rfl, hu, hz4, hb1⟩
  obtain ⟨au, cu, hus⟩ := hu.shape
  subst hus
  have B1 := hide_it hb1
  have U1 := hide_it hu
  clear hb1 hu HD
  obtain ⟨n, hn⟩ : ∃ n, Hid (zs.length = n) := ⟨_, rfl⟩
  have hn4 : n ≤ 4 := by rw [← hn.out]; exact hz4
  clear hz4
  rw [hn.out] at U1 ⊢
  obtain ⟨w2, hw2⟩ : ∃ W, Hid (W = w1.alloc (.cells #[.int .i64 k, .int .i64 t, .slice au n cu] 25)) := ⟨_, rfl⟩
  have al2 := hide_it (show Below w1.heap.size w1 w2 by rw [hw2.out]; exact alloc_below _ _)
  have B2 := hide_it (B1.out.trans (al2.out.mono B1.out.size))
  have U2 := hide_it (U1.out.later al2.out (Nat.le_refl _))
  have Q2 : Hid (RecAt w2 w1.heap.size k t (.slice au n cu)) := by show RecAt _ _ _ _ _; rw [hw2.out]; exact RecAt.new w1 _ _ _ _
  obtain ⟨BB, hBB⟩ : ∃ b, Pl.recOk k t zs = b := ⟨_, rfl⟩
  have HBB := hide_it hBB
  have HIM : Hid (∀ W, Below w2.heap.size w2 W → Calls Tryd.prog 13 #[.agg #[.int .i64 k, .int .i64 t, .slice au n cu]] W fun e w' => e = .returned (.bool BB) ∧ Below W.heap.size W w') := fun W h => by
    rw [← hBB]; exact implOk_any k t _ zs a W (U2.out.later h (Nat.le_refl _)) (by rw [hn.out]; omega) (HA.out _ (B2.out.trans (h.mono B2.out.size)))
  have HSP : Hid (∀ W, Below w2.heap.size w2 W → Calls Tryd.prog 20 #[.agg #[.int .i64 k, .int .i64 t, .slice au n cu]] W fun e w' => e = .returned (.bool BB) ∧ Below W.heap.size W w') := fun W h => by
    rw [← hBB]; exact specOk_any k t _ zs W (U2.out.later h (Nat.le_refl _)) (by rw [hn.out]; omega)
  clear hBB
  go_wp2_with fail
  rw [← hw2.out]
  refine (HIM.out w2 (Below.refl _ _)).mono ?_
  rintro e w3 ⟨rfl, hb3⟩
  have N3 := hide_it hb3
  clear hb3
  obtain ⟨q0, q1, q2⟩ := Q2.out.later N3.out (Nat.le_refl _)
  go_wp2_with fail
  refine (HSP.out w3 N3.out).mono ?_
  rintro e w4 ⟨rfl, hb4⟩
  have N4 := hide_it (N3.out.trans (hb4.mono N3.out.size))
  have Q4 := hide_it (Q2.out.later N4.out (Nat.le_refl _))
  clear hb4 q0 q1 q2
  obtain ⟨q0, q1, q2⟩ := Q4.out
  cases BB
  · go_wp2_with fail
    refine (HSP.out w4 N4.out).mono ?_
    rintro e w5 ⟨rfl, hb5⟩
    have B5 := hide_it (B2.out.trans ((N4.out.trans (hb5.mono N4.out.size)).mono B2.out.size))
    clear hb5
    go_wp2
    go_ret
    exact ⟨rfl, B5.out⟩
  obtain ⟨hk17, hform⟩ := Pl.rec_form HBB.out
  have HL := hidden (Pl.rec_longer HBB.out)
  have HNUM := hidden ((Pl.recOk_nums HBB.out).2.2.2)
  have B4 := hide_it (B2.out.trans (N4.out.mono B2.out.size))
  have U4 := hide_it (U2.out.later N4.out (Nat.le_refl _))
  rw [hn.out] at hform
  clear HIM HSP N3
  obtain ⟨hua, HCU⟩ : Hid (n ≠ 0 → ∃ b off, au = some ⟨b, off, none⟩) ∧ Hid (∀ b off, au = some ⟨b, off, none⟩ → ∀ j, j < n → w4.cell? ⟨b, off + j, none⟩ = some (.int .i64 (zs.getD j 0))) := by
    rcases U4.out with ⟨hz, ao, cap, he, -⟩ | ⟨b, off, cap, he, -, hc⟩
    · subst hz
      have hn0 : n = 0 := hn.out.symm
      exact ⟨fun h => absurd hn0 h, fun b off _ j hj => by omega⟩
    · have he2 : (Value.slice au n cu) = .slice (some ⟨b, off, none⟩) zs.length cap := he
      injection he2 with e1 e2 e3
      refine ⟨fun _ => ⟨b, off, e1⟩, fun b' off' e' j hj => ?_⟩
      rw [e1] at e'
      injection e' with e'
      injection e' with e3 e4
      subst e3 e4
      exact hc j (by omega)
  have hqb := World.block_lt_of_cell? _ _ q0
  go_wp2
  go_loopw [5, 6] (fun s i wr => ∃ j : Nat, j ≤ n ∧ s = .int .i64 (zs.take j).sum ∧ i = .int .i64 j ∧ Hid (Below w4.heap.size w4 wr)) (fun _ i _ => n - (intOf i).toNat)
  case atStart => exact ⟨0, Nat.zero_le _, rfl, rfl, Below.refl _ _⟩
  case round =>
    obtain ⟨j, hj, rfl, rfl, hbe⟩ := hrel
    have Q5 := hide_it (Q4.out.later hbe.out (Nat.le_refl _))
    clear q0 q1 q2
    obtain ⟨q0, q1, q2⟩ := Q5.out
    by_cases hlt : j < n
    · obtain ⟨b, off, rfl⟩ := hua.out (by omega)
      obtain ⟨z, HZ⟩ : ∃ z, Hid (z = zs.getD j 0) := ⟨_, rfl⟩
      have hck : wr.cell? ⟨b, off + j, none⟩ = some (.int .i64 z) := by
        have h0 := HCU.out b off rfl j hlt
        rw [HZ.out, hbe.out.cell (p := ⟨b, off + j, none⟩) (World.block_lt_of_cell? _ _ h0)]; exact h0
      have hji : (j : Int) < (n : Int) := by omega
      have hjl : j < zs.length := by rw [hn.out]; exact hlt
      obtain ⟨S, hS⟩ : ∃ S, Hid ((zs.take j).sum = S) := ⟨_, rfl⟩
      have hSb : 0 ≤ S ∧ S ≤ 36 := by have := Pl.take_sum j zs HNUM.out (by omega); rw [hS.out] at this; omega
      have hzb : 0 ≤ z ∧ z ≤ 9 := by rw [HZ.out]; exact HNUM.out j hjl
      have HS1 : Hid ((zs.take (j + 1)).sum = S + z) := by show _ = _; rw [Pl.sum_snoc zs j hjl, hS.out, HZ.out]
      rw [hS.out]
      clear HCU HZ hjl hS hform HL
      go_wp2
      go_roundw
      case rel => exact ⟨j + 1, by omega, by rw [HS1.out], by go_num, hbe⟩
      case measure => simp [intOf]; omega
    · obtain rfl : j = n := by omega
      obtain ⟨S, hS⟩ : ∃ S, Hid ((zs.take j).sum = S) := ⟨_, rfl⟩
      have hSS : zs.sum = S := by rw [← hS.out, List.take_of_length_le (by rw [hn.out]; omega)]
      rw [hSS] at hform
      rw [hS.out]
      have hwb := World.block_lt_of_cell? _ _ q0
      have hk : k = 1 ∧ (j : Int) = 1 ∧ 0 < S ∨ k = 4 ∧ (j : Int) = 3 ∧ 0 < S ∨ k = 2 ∧ (j : Int) = 0 ∨ k = 3 ∧ (j : Int) = 0 ∨ k = 5 ∧ (j : Int) = 0 ∨ k = 6 ∧ (j : Int) = 0 ∨ k = 7 ∧ (j : Int) = 0 := by omega
      have q0d := fun x y z => cellAllocF (cellAllocF (cellAllocF q0 x) y) z
      have q1d := fun x y z => cellAllocF (cellAllocF (cellAllocF q1 x) y) z
      have q2d := fun x y z => cellAllocF (cellAllocF (cellAllocF q2 x) y) z
      have q0b := fun x y => cellAllocF (cellAllocF q0 x) y
      have q1b := fun x y => cellAllocF (cellAllocF q1 x) y
      have q2b := fun x y => cellAllocF (cellAllocF q2 x) y
      have q0a := fun x => cellAllocF q0 x
      have q1a := fun x => cellAllocF q1 x
      have q2a := fun x => cellAllocF q2 x
      have IR := hide_it (U4.out.later hbe.out (Nat.le_refl _))
      have BR := hide_it (B4.out.trans (hbe.out.mono B4.out.size))
      have L0 : Hid (∀ A B, (((wr.alloc A).alloc B).alloc (.cells #[] 3)).ownsRow (wr.heap.size + 2) 3 1 (.slice (some ⟨wr.heap.size + 2, 0, none⟩) 0 0) 0 []) := fun A B => by
        have h := lit0F ((wr.alloc A).alloc B) 3 1
        simp only [World.size_alloc] at h
        exact h
      have HI3 : Hid (∀ A B C, Ints (((wr.alloc A).alloc B).alloc C) (.slice au j cu) zs) := fun A B C => IR.out.later (below3 wr A B C) (Nat.le_refl _)
      have hjl : j ≤ 4 := hn4
      clear hS hSS hlt hj HCU hua U1 U2 U4 hform
      rcases hk with ⟨rfl, hjM, hp⟩ | ⟨rfl, hjM, hp⟩ | ⟨rfl, hjM⟩ | ⟨rfl, hjM⟩ | ⟨rfl, hjM⟩ | ⟨rfl, hjM⟩ | ⟨rfl, hjM⟩
      · have XB : Hid (∀ A C W, Below (wr.heap.size + 2) (((wr.alloc A).alloc (.cells #[.int .i64 1, .int .i64 t, .slice au j cu] 25)).alloc C) W → Blk W (wr.heap.size + 1) #[.int .i64 1, .int .i64 t, .slice au j cu] 25) := fun A C W hb => by
          have h := (Blk.new (wr.alloc A) #[.int .i64 1, .int .i64 t, .slice au j cu] 25).after (alloc_below _ C)
          simp only [World.size_alloc] at h
          exact h.later hb (by omega)
        go_wp2_with (at_builtin; refine wpList_append_intsF rfl _ _ rfl (wr.heap.size + 2) (.slice (some ⟨wr.heap.size + 2, 0, none⟩) 0 0) (.slice au j cu) 0 [] zs rfl rfl (L0.out _ _) (HI3.out _ _ _) (by rw [hn.out]; omega) (by simp) ?_)
        intro ao cap w5 hown hgrow
        try rw [hn.out] at hown
        try rw [hn.out]
        try simp only [Nat.zero_add, List.nil_append] at hown
        try simp only [Nat.zero_add]
        have hb5 : Below (wr.heap.size + 2) _ w5 := (Below.refl _ _).grown hgrow (by simp) (fun j hj => by simp [Value.ownBlock] at hj; omega)
        have X5 := hide_it (XB.out _ _ _ hb5)
        have S5 : wr.heap.size + 3 ≤ w5.heap.size := by have := hb5.size; simp at this; omega
        have G5 := hide_it ((below3 wr _ _ _).trans (hb5.mono (Nat.le_add_right _ _)))
        have O6 := hide_it (fun o => hown.alloc (o := o))
        have I6 : Hid (Ints (w5.alloc (.cells #[.int .i64 1] 3)) (.slice (some ⟨w5.heap.size, 0, none⟩) 1 1) [1]) := Or.inr ⟨w5.heap.size, 0, 1, rfl, by simp, fun m hm => by
          have h0 : m = 0 := by simp at hm; exact hm
          subst h0
          simp [go_sem]⟩
        clear hown hgrow hb5 L0 HI3 q0d q1d q2d q0b q1b q2b q0a q1a q2a
        go_wp2_with (at_builtin; refine wpList_append_intsF rfl _ _ rfl (wr.heap.size + 2) (.slice ao j cap) (.slice (some ⟨w5.heap.size, 0, none⟩) 1 1) j (zs.map (Value.int .i64)) [1] rfl rfl (O6.out _) I6.out (by simp; omega) (by simp; omega) ?_)
        intro ao7 cap7 w7 hown hgrow
        try simp only [List.length_cons, List.length_nil, Nat.zero_add] at hown
        try simp only [List.length_cons, List.length_nil, Nat.zero_add]
        have hb7 : Below (wr.heap.size + 2) _ w7 := (Below.refl _ _).grown hgrow (by simp; omega) (fun m hm => (rowB_atF (O6.out (.cells #[.int .i64 1] 3)) m hm).1)
        have X7 := hide_it (X5.out.later ((alloc_below w5 _).mono (by omega) |>.trans hb7) (by omega))
        have G7 := hide_it (G5.out.trans (((alloc_below w5 (.cells #[.int .i64 1] 3)).mono (show wr.heap.size ≤ w5.heap.size by omega)).trans (hb7.mono (by omega))))
        have O7 := hide_it hown
        have Q7 := hide_it (Q5.out.later G7.out (Nat.le_refl _))
        have S7 : wr.heap.size + 3 ≤ w7.heap.size := by have := hb7.size; simp at this; omega
        clear hown hgrow hb7 O6 I6 q0 q1 q2
        obtain ⟨q0, q1, q2⟩ := Q7.out
        obtain ⟨x0, x1, x2⟩ := X7.out.cells3
        have z2 := frozen_of_row w7 (wr.heap.size + 1) 2 _ _ X7.out
        have hne : ¬ w1.heap.size = wr.heap.size + 1 := by omega
        have hne2 : ¬ wr.heap.size + 1 = w1.heap.size := by omega
        obtain rfl : j = 1 := by omega
        have hzl : (zs ++ [(1 : Int)]).length = 1 + 1 := by rw [List.length_append, hn.out]; rfl
        obtain ⟨w8, hw8⟩ : ∃ W, Hid (W = w7.setCell ⟨wr.heap.size + 1, 2, none⟩ (.slice ao7 (1 + 1) cap7)) := ⟨_, rfl⟩
        have I8 : Hid (Ints w8 (.slice ao7 (1 + 1) cap7) (zs ++ [1])) := by
          show Ints _ _ _
          rw [hw8.out]
          refine ints_of_any (base := wr.heap.size + 2) ?_
          rw [hzl, List.map_append]
          exact ownsRow_setCell_below O7.out (by simp) _
        have B8 : Hid (Below w.heap.size w w8) := by
          show Below _ _ _
          rw [hw8.out]
          exact (BR.out.trans (G7.out.mono BR.out.size)).setCell (by have := BR.out.size; simp; omega) _
        have HX : Hid (∀ W, Below w8.heap.size w8 W → Calls Tryd.prog 13 #[.agg #[.int .i64 1, .int .i64 t, .slice ao7 (1 + 1) cap7]] W fun e w' => e = .returned (.bool false) ∧ Below W.heap.size W w') := fun W h => by
          rw [← HL.out]; exact implOk_any 1 t _ (zs ++ [1]) a W (I8.out.later h (Nat.le_refl _)) (by rw [hzl]; omega) (HA.out _ (B8.out.trans (h.mono B8.out.size)))
        clear O7 BR
        go_wp2_with fail
        rw [← hw8.out]
        refine (HX.out _ (by first | exact Below.refl _ _ | exact (Below.refl _ _).drew)).mono ?_
        rintro e w9 ⟨rfl, hb9⟩
        have B9 := hide_it (B8.out.trans (hb9.mono B8.out.size))
        clear hb9
        go_wp2
        go_ret
        exact ⟨rfl, B9.out⟩
      · have XB : Hid (∀ A C W, Below (wr.heap.size + 2) (((wr.alloc A).alloc (.cells #[.int .i64 4, .int .i64 t, .slice au j cu] 25)).alloc C) W → Blk W (wr.heap.size + 1) #[.int .i64 4, .int .i64 t, .slice au j cu] 25) := fun A C W hb => by
          have h := (Blk.new (wr.alloc A) #[.int .i64 4, .int .i64 t, .slice au j cu] 25).after (alloc_below _ C)
          simp only [World.size_alloc] at h
          exact h.later hb (by omega)
        go_wp2_with (at_builtin; refine wpList_append_intsF rfl _ _ rfl (wr.heap.size + 2) (.slice (some ⟨wr.heap.size + 2, 0, none⟩) 0 0) (.slice au j cu) 0 [] zs rfl rfl (L0.out _ _) (HI3.out _ _ _) (by rw [hn.out]; omega) (by simp) ?_)
        intro ao cap w5 hown hgrow
        try rw [hn.out] at hown
        try rw [hn.out]
        try simp only [Nat.zero_add, List.nil_append] at hown
        try simp only [Nat.zero_add]
        have hb5 : Below (wr.heap.size + 2) _ w5 := (Below.refl _ _).grown hgrow (by simp) (fun j hj => by simp [Value.ownBlock] at hj; omega)
        have X5 := hide_it (XB.out _ _ _ hb5)
        have S5 : wr.heap.size + 3 ≤ w5.heap.size := by have := hb5.size; simp at this; omega
        have G5 := hide_it ((below3 wr _ _ _).trans (hb5.mono (Nat.le_add_right _ _)))
        have O6 := hide_it (fun o => hown.alloc (o := o))
        have I6 : Hid (Ints (w5.alloc (.cells #[.int .i64 1] 3)) (.slice (some ⟨w5.heap.size, 0, none⟩) 1 1) [1]) := Or.inr ⟨w5.heap.size, 0, 1, rfl, by simp, fun m hm => by
          have h0 : m = 0 := by simp at hm; exact hm
          subst h0
          simp [go_sem]⟩
        clear hown hgrow hb5 L0 HI3 q0d q1d q2d q0b q1b q2b q0a q1a q2a
        go_wp2_with (at_builtin; refine wpList_append_intsF rfl _ _ rfl (wr.heap.size + 2) (.slice ao j cap) (.slice (some ⟨w5.heap.size, 0, none⟩) 1 1) j (zs.map (Value.int .i64)) [1] rfl rfl (O6.out _) I6.out (by simp; omega) (by simp; omega) ?_)
        intro ao7 cap7 w7 hown hgrow
        try simp only [List.length_cons, List.length_nil, Nat.zero_add] at hown
        try simp only [List.length_cons, List.length_nil, Nat.zero_add]
        have hb7 : Below (wr.heap.size + 2) _ w7 := (Below.refl _ _).grown hgrow (by simp; omega) (fun m hm => (rowB_atF (O6.out (.cells #[.int .i64 1] 3)) m hm).1)
        have X7 := hide_it (X5.out.later ((alloc_below w5 _).mono (by omega) |>.trans hb7) (by omega))
        have G7 := hide_it (G5.out.trans (((alloc_below w5 (.cells #[.int .i64 1] 3)).mono (show wr.heap.size ≤ w5.heap.size by omega)).trans (hb7.mono (by omega))))
        have O7 := hide_it hown
        have Q7 := hide_it (Q5.out.later G7.out (Nat.le_refl _))
        have S7 : wr.heap.size + 3 ≤ w7.heap.size := by have := hb7.size; simp at this; omega
        clear hown hgrow hb7 O6 I6 q0 q1 q2
        obtain ⟨q0, q1, q2⟩ := Q7.out
        obtain ⟨x0, x1, x2⟩ := X7.out.cells3
        have z2 := frozen_of_row w7 (wr.heap.size + 1) 2 _ _ X7.out
        have hne : ¬ w1.heap.size = wr.heap.size + 1 := by omega
        have hne2 : ¬ wr.heap.size + 1 = w1.heap.size := by omega
        obtain rfl : j = 3 := by omega
        have hzl : (zs ++ [(1 : Int)]).length = 3 + 1 := by rw [List.length_append, hn.out]; rfl
        obtain ⟨w8, hw8⟩ : ∃ W, Hid (W = w7.setCell ⟨wr.heap.size + 1, 2, none⟩ (.slice ao7 (3 + 1) cap7)) := ⟨_, rfl⟩
        have I8 : Hid (Ints w8 (.slice ao7 (3 + 1) cap7) (zs ++ [1])) := by
          show Ints _ _ _
          rw [hw8.out]
          refine ints_of_any (base := wr.heap.size + 2) ?_
          rw [hzl, List.map_append]
          exact ownsRow_setCell_below O7.out (by simp) _
        have B8 : Hid (Below w.heap.size w w8) := by
          show Below _ _ _
          rw [hw8.out]
          exact (BR.out.trans (G7.out.mono BR.out.size)).setCell (by have := BR.out.size; simp; omega) _
        have HX : Hid (∀ W, Below w8.heap.size w8 W → Calls Tryd.prog 13 #[.agg #[.int .i64 4, .int .i64 t, .slice ao7 (3 + 1) cap7]] W fun e w' => e = .returned (.bool false) ∧ Below W.heap.size W w') := fun W h => by
          rw [← HL.out]; exact implOk_any 4 t _ (zs ++ [1]) a W (I8.out.later h (Nat.le_refl _)) (by rw [hzl]; omega) (HA.out _ (B8.out.trans (h.mono B8.out.size)))
        clear O7 BR
        go_wp2_with fail
        rw [← hw8.out]
        refine (HX.out _ (by first | exact Below.refl _ _ | exact (Below.refl _ _).drew)).mono ?_
        rintro e w9 ⟨rfl, hb9⟩
        have B9 := hide_it (B8.out.trans (hb9.mono B8.out.size))
        clear hb9
        go_wp2
        go_ret
        exact ⟨rfl, B9.out⟩
      · have XB : Hid (∀ A C W, Below (wr.heap.size + 2) (((wr.alloc A).alloc (.cells #[.int .i64 2, .int .i64 t, .slice au j cu] 25)).alloc C) W → Blk W (wr.heap.size + 1) #[.int .i64 2, .int .i64 t, .slice au j cu] 25) := fun A C W hb => by
          have h := (Blk.new (wr.alloc A) #[.int .i64 2, .int .i64 t, .slice au j cu] 25).after (alloc_below _ C)
          simp only [World.size_alloc] at h
          exact h.later hb (by omega)
        go_wp2_with (at_builtin; refine wpList_append_intsF rfl _ _ rfl (wr.heap.size + 2) (.slice (some ⟨wr.heap.size + 2, 0, none⟩) 0 0) (.slice au j cu) 0 [] zs rfl rfl (L0.out _ _) (HI3.out _ _ _) (by rw [hn.out]; omega) (by simp) ?_)
        intro ao cap w5 hown hgrow
        try rw [hn.out] at hown
        try rw [hn.out]
        try simp only [Nat.zero_add, List.nil_append] at hown
        try simp only [Nat.zero_add]
        have hb5 : Below (wr.heap.size + 2) _ w5 := (Below.refl _ _).grown hgrow (by simp) (fun j hj => by simp [Value.ownBlock] at hj; omega)
        have X5 := hide_it (XB.out _ _ _ hb5)
        have S5 : wr.heap.size + 3 ≤ w5.heap.size := by have := hb5.size; simp at this; omega
        have G5 := hide_it ((below3 wr _ _ _).trans (hb5.mono (Nat.le_add_right _ _)))
        have O6 := hide_it (fun o => hown.alloc (o := o))
        have I6 : Hid (Ints (w5.alloc (.cells #[.int .i64 1] 3)) (.slice (some ⟨w5.heap.size, 0, none⟩) 1 1) [1]) := Or.inr ⟨w5.heap.size, 0, 1, rfl, by simp, fun m hm => by
          have h0 : m = 0 := by simp at hm; exact hm
          subst h0
          simp [go_sem]⟩
        clear hown hgrow hb5 L0 HI3 q0d q1d q2d q0b q1b q2b q0a q1a q2a
        go_wp2_with (at_builtin; refine wpList_append_intsF rfl _ _ rfl (wr.heap.size + 2) (.slice ao j cap) (.slice (some ⟨w5.heap.size, 0, none⟩) 1 1) j (zs.map (Value.int .i64)) [1] rfl rfl (O6.out _) I6.out (by simp; omega) (by simp; omega) ?_)
        intro ao7 cap7 w7 hown hgrow
        try simp only [List.length_cons, List.length_nil, Nat.zero_add] at hown
        try simp only [List.length_cons, List.length_nil, Nat.zero_add]
        have hb7 : Below (wr.heap.size + 2) _ w7 := (Below.refl _ _).grown hgrow (by simp; omega) (fun m hm => (rowB_atF (O6.out (.cells #[.int .i64 1] 3)) m hm).1)
        have X7 := hide_it (X5.out.later ((alloc_below w5 _).mono (by omega) |>.trans hb7) (by omega))
        have G7 := hide_it (G5.out.trans (((alloc_below w5 (.cells #[.int .i64 1] 3)).mono (show wr.heap.size ≤ w5.heap.size by omega)).trans (hb7.mono (by omega))))
        have O7 := hide_it hown
        have Q7 := hide_it (Q5.out.later G7.out (Nat.le_refl _))
        have S7 : wr.heap.size + 3 ≤ w7.heap.size := by have := hb7.size; simp at this; omega
        clear hown hgrow hb7 O6 I6 q0 q1 q2
        obtain ⟨q0, q1, q2⟩ := Q7.out
        obtain ⟨x0, x1, x2⟩ := X7.out.cells3
        have z2 := frozen_of_row w7 (wr.heap.size + 1) 2 _ _ X7.out
        have hne : ¬ w1.heap.size = wr.heap.size + 1 := by omega
        have hne2 : ¬ wr.heap.size + 1 = w1.heap.size := by omega
        obtain rfl : j = 0 := by omega
        have hzl : (zs ++ [(1 : Int)]).length = 0 + 1 := by rw [List.length_append, hn.out]; rfl
        obtain ⟨w8, hw8⟩ : ∃ W, Hid (W = w7.setCell ⟨wr.heap.size + 1, 2, none⟩ (.slice ao7 (0 + 1) cap7)) := ⟨_, rfl⟩
        have I8 : Hid (Ints w8 (.slice ao7 (0 + 1) cap7) (zs ++ [1])) := by
          show Ints _ _ _
          rw [hw8.out]
          refine ints_of_any (base := wr.heap.size + 2) ?_
          rw [hzl, List.map_append]
          exact ownsRow_setCell_below O7.out (by simp) _
        have B8 : Hid (Below w.heap.size w w8) := by
          show Below _ _ _
          rw [hw8.out]
          exact (BR.out.trans (G7.out.mono BR.out.size)).setCell (by have := BR.out.size; simp; omega) _
        have HX : Hid (∀ W, Below w8.heap.size w8 W → Calls Tryd.prog 13 #[.agg #[.int .i64 2, .int .i64 t, .slice ao7 (0 + 1) cap7]] W fun e w' => e = .returned (.bool false) ∧ Below W.heap.size W w') := fun W h => by
          rw [← HL.out]; exact implOk_any 2 t _ (zs ++ [1]) a W (I8.out.later h (Nat.le_refl _)) (by rw [hzl]; omega) (HA.out _ (B8.out.trans (h.mono B8.out.size)))
        clear O7 BR
        go_wp2_with fail
        rw [← hw8.out]
        refine (HX.out _ (by first | exact Below.refl _ _ | exact (Below.refl _ _).drew)).mono ?_
        rintro e w9 ⟨rfl, hb9⟩
        have B9 := hide_it (B8.out.trans (hb9.mono B8.out.size))
        clear hb9
        go_wp2
        go_ret
        exact ⟨rfl, B9.out⟩
      · have XB : Hid (∀ A C W, Below (wr.heap.size + 2) (((wr.alloc A).alloc (.cells #[.int .i64 3, .int .i64 t, .slice au j cu] 25)).alloc C) W → Blk W (wr.heap.size + 1) #[.int .i64 3, .int .i64 t, .slice au j cu] 25) := fun A C W hb => by
          have h := (Blk.new (wr.alloc A) #[.int .i64 3, .int .i64 t, .slice au j cu] 25).after (alloc_below _ C)
          simp only [World.size_alloc] at h
          exact h.later hb (by omega)
        go_wp2_with (at_builtin; refine wpList_append_intsF rfl _ _ rfl (wr.heap.size + 2) (.slice (some ⟨wr.heap.size + 2, 0, none⟩) 0 0) (.slice au j cu) 0 [] zs rfl rfl (L0.out _ _) (HI3.out _ _ _) (by rw [hn.out]; omega) (by simp) ?_)
        intro ao cap w5 hown hgrow
        try rw [hn.out] at hown
        try rw [hn.out]
        try simp only [Nat.zero_add, List.nil_append] at hown
        try simp only [Nat.zero_add]
        have hb5 : Below (wr.heap.size + 2) _ w5 := (Below.refl _ _).grown hgrow (by simp) (fun j hj => by simp [Value.ownBlock] at hj; omega)
        have X5 := hide_it (XB.out _ _ _ hb5)
        have S5 : wr.heap.size + 3 ≤ w5.heap.size := by have := hb5.size; simp at this; omega
        have G5 := hide_it ((below3 wr _ _ _).trans (hb5.mono (Nat.le_add_right _ _)))
        have O6 := hide_it (fun o => hown.alloc (o := o))
        have I6 : Hid (Ints (w5.alloc (.cells #[.int .i64 1] 3)) (.slice (some ⟨w5.heap.size, 0, none⟩) 1 1) [1]) := Or.inr ⟨w5.heap.size, 0, 1, rfl, by simp, fun m hm => by
          have h0 : m = 0 := by simp at hm; exact hm
          subst h0
          simp [go_sem]⟩
        clear hown hgrow hb5 L0 HI3 q0d q1d q2d q0b q1b q2b q0a q1a q2a
        go_wp2_with (at_builtin; refine wpList_append_intsF rfl _ _ rfl (wr.heap.size + 2) (.slice ao j cap) (.slice (some ⟨w5.heap.size, 0, none⟩) 1 1) j (zs.map (Value.int .i64)) [1] rfl rfl (O6.out _) I6.out (by simp; omega) (by simp; omega) ?_)
        intro ao7 cap7 w7 hown hgrow
        try simp only [List.length_cons, List.length_nil, Nat.zero_add] at hown
        try simp only [List.length_cons, List.length_nil, Nat.zero_add]
        have hb7 : Below (wr.heap.size + 2) _ w7 := (Below.refl _ _).grown hgrow (by simp; omega) (fun m hm => (rowB_atF (O6.out (.cells #[.int .i64 1] 3)) m hm).1)
        have X7 := hide_it (X5.out.later ((alloc_below w5 _).mono (by omega) |>.trans hb7) (by omega))
        have G7 := hide_it (G5.out.trans (((alloc_below w5 (.cells #[.int .i64 1] 3)).mono (show wr.heap.size ≤ w5.heap.size by omega)).trans (hb7.mono (by omega))))
        have O7 := hide_it hown
        have Q7 := hide_it (Q5.out.later G7.out (Nat.le_refl _))
        have S7 : wr.heap.size + 3 ≤ w7.heap.size := by have := hb7.size; simp at this; omega
        clear hown hgrow hb7 O6 I6 q0 q1 q2
        obtain ⟨q0, q1, q2⟩ := Q7.out
        obtain ⟨x0, x1, x2⟩ := X7.out.cells3
        have z2 := frozen_of_row w7 (wr.heap.size + 1) 2 _ _ X7.out
        have hne : ¬ w1.heap.size = wr.heap.size + 1 := by omega
        have hne2 : ¬ wr.heap.size + 1 = w1.heap.size := by omega
        obtain rfl : j = 0 := by omega
        have hzl : (zs ++ [(1 : Int)]).length = 0 + 1 := by rw [List.length_append, hn.out]; rfl
        obtain ⟨w8, hw8⟩ : ∃ W, Hid (W = w7.setCell ⟨wr.heap.size + 1, 2, none⟩ (.slice ao7 (0 + 1) cap7)) := ⟨_, rfl⟩
        have I8 : Hid (Ints w8 (.slice ao7 (0 + 1) cap7) (zs ++ [1])) := by
          show Ints _ _ _
          rw [hw8.out]
          refine ints_of_any (base := wr.heap.size + 2) ?_
          rw [hzl, List.map_append]
          exact ownsRow_setCell_below O7.out (by simp) _
        have B8 : Hid (Below w.heap.size w w8) := by
          show Below _ _ _
          rw [hw8.out]
          exact (BR.out.trans (G7.out.mono BR.out.size)).setCell (by have := BR.out.size; simp; omega) _
        have HX : Hid (∀ W, Below w8.heap.size w8 W → Calls Tryd.prog 13 #[.agg #[.int .i64 3, .int .i64 t, .slice ao7 (0 + 1) cap7]] W fun e w' => e = .returned (.bool false) ∧ Below W.heap.size W w') := fun W h => by
          rw [← HL.out]; exact implOk_any 3 t _ (zs ++ [1]) a W (I8.out.later h (Nat.le_refl _)) (by rw [hzl]; omega) (HA.out _ (B8.out.trans (h.mono B8.out.size)))
        clear O7 BR
        go_wp2_with fail
        rw [← hw8.out]
        refine (HX.out _ (by first | exact Below.refl _ _ | exact (Below.refl _ _).drew)).mono ?_
        rintro e w9 ⟨rfl, hb9⟩
        have B9 := hide_it (B8.out.trans (hb9.mono B8.out.size))
        clear hb9
        go_wp2
        go_ret
        exact ⟨rfl, B9.out⟩
      · have XB : Hid (∀ A C W, Below (wr.heap.size + 2) (((wr.alloc A).alloc (.cells #[.int .i64 5, .int .i64 t, .slice au j cu] 25)).alloc C) W → Blk W (wr.heap.size + 1) #[.int .i64 5, .int .i64 t, .slice au j cu] 25) := fun A C W hb => by
          have h := (Blk.new (wr.alloc A) #[.int .i64 5, .int .i64 t, .slice au j cu] 25).after (alloc_below _ C)
          simp only [World.size_alloc] at h
          exact h.later hb (by omega)
        go_wp2_with (at_builtin; refine wpList_append_intsF rfl _ _ rfl (wr.heap.size + 2) (.slice (some ⟨wr.heap.size + 2, 0, none⟩) 0 0) (.slice au j cu) 0 [] zs rfl rfl (L0.out _ _) (HI3.out _ _ _) (by rw [hn.out]; omega) (by simp) ?_)
        intro ao cap w5 hown hgrow
        try rw [hn.out] at hown
        try rw [hn.out]
        try simp only [Nat.zero_add, List.nil_append] at hown
        try simp only [Nat.zero_add]
        have hb5 : Below (wr.heap.size + 2) _ w5 := (Below.refl _ _).grown hgrow (by simp) (fun j hj => by simp [Value.ownBlock] at hj; omega)
        have X5 := hide_it (XB.out _ _ _ hb5)
        have S5 : wr.heap.size + 3 ≤ w5.heap.size := by have := hb5.size; simp at this; omega
        have G5 := hide_it ((below3 wr _ _ _).trans (hb5.mono (Nat.le_add_right _ _)))
        have O6 := hide_it (fun o => hown.alloc (o := o))
        have I6 : Hid (Ints (w5.alloc (.cells #[.int .i64 1] 3)) (.slice (some ⟨w5.heap.size, 0, none⟩) 1 1) [1]) := Or.inr ⟨w5.heap.size, 0, 1, rfl, by simp, fun m hm => by
          have h0 : m = 0 := by simp at hm; exact hm
          subst h0
          simp [go_sem]⟩
        clear hown hgrow hb5 L0 HI3 q0d q1d q2d q0b q1b q2b q0a q1a q2a
        go_wp2_with (at_builtin; refine wpList_append_intsF rfl _ _ rfl (wr.heap.size + 2) (.slice ao j cap) (.slice (some ⟨w5.heap.size, 0, none⟩) 1 1) j (zs.map (Value.int .i64)) [1] rfl rfl (O6.out _) I6.out (by simp; omega) (by simp; omega) ?_)
        intro ao7 cap7 w7 hown hgrow
        try simp only [List.length_cons, List.length_nil, Nat.zero_add] at hown
        try simp only [List.length_cons, List.length_nil, Nat.zero_add]
        have hb7 : Below (wr.heap.size + 2) _ w7 := (Below.refl _ _).grown hgrow (by simp; omega) (fun m hm => (rowB_atF (O6.out (.cells #[.int .i64 1] 3)) m hm).1)
        have X7 := hide_it (X5.out.later ((alloc_below w5 _).mono (by omega) |>.trans hb7) (by omega))
        have G7 := hide_it (G5.out.trans (((alloc_below w5 (.cells #[.int .i64 1] 3)).mono (show wr.heap.size ≤ w5.heap.size by omega)).trans (hb7.mono (by omega))))
        have O7 := hide_it hown
        have Q7 := hide_it (Q5.out.later G7.out (Nat.le_refl _))
        have S7 : wr.heap.size + 3 ≤ w7.heap.size := by have := hb7.size; simp at this; omega
        clear hown hgrow hb7 O6 I6 q0 q1 q2
        obtain ⟨q0, q1, q2⟩ := Q7.out
        obtain ⟨x0, x1, x2⟩ := X7.out.cells3
        have z2 := frozen_of_row w7 (wr.heap.size + 1) 2 _ _ X7.out
        have hne : ¬ w1.heap.size = wr.heap.size + 1 := by omega
        have hne2 : ¬ wr.heap.size + 1 = w1.heap.size := by omega
        obtain rfl : j = 0 := by omega
        have hzl : (zs ++ [(1 : Int)]).length = 0 + 1 := by rw [List.length_append, hn.out]; rfl
        obtain ⟨w8, hw8⟩ : ∃ W, Hid (W = w7.setCell ⟨wr.heap.size + 1, 2, none⟩ (.slice ao7 (0 + 1) cap7)) := ⟨_, rfl⟩
        have I8 : Hid (Ints w8 (.slice ao7 (0 + 1) cap7) (zs ++ [1])) := by
          show Ints _ _ _
          rw [hw8.out]
          refine ints_of_any (base := wr.heap.size + 2) ?_
          rw [hzl, List.map_append]
          exact ownsRow_setCell_below O7.out (by simp) _
        have B8 : Hid (Below w.heap.size w w8) := by
          show Below _ _ _
          rw [hw8.out]
          exact (BR.out.trans (G7.out.mono BR.out.size)).setCell (by have := BR.out.size; simp; omega) _
        have HX : Hid (∀ W, Below w8.heap.size w8 W → Calls Tryd.prog 13 #[.agg #[.int .i64 5, .int .i64 t, .slice ao7 (0 + 1) cap7]] W fun e w' => e = .returned (.bool false) ∧ Below W.heap.size W w') := fun W h => by
          rw [← HL.out]; exact implOk_any 5 t _ (zs ++ [1]) a W (I8.out.later h (Nat.le_refl _)) (by rw [hzl]; omega) (HA.out _ (B8.out.trans (h.mono B8.out.size)))
        clear O7 BR
        go_wp2_with fail
        rw [← hw8.out]
        refine (HX.out _ (by first | exact Below.refl _ _ | exact (Below.refl _ _).drew)).mono ?_
        rintro e w9 ⟨rfl, hb9⟩
        have B9 := hide_it (B8.out.trans (hb9.mono B8.out.size))
        clear hb9
        go_wp2
        go_ret
        exact ⟨rfl, B9.out⟩
      · have XB : Hid (∀ A C W, Below (wr.heap.size + 2) (((wr.alloc A).alloc (.cells #[.int .i64 6, .int .i64 t, .slice au j cu] 25)).alloc C) W → Blk W (wr.heap.size + 1) #[.int .i64 6, .int .i64 t, .slice au j cu] 25) := fun A C W hb => by
          have h := (Blk.new (wr.alloc A) #[.int .i64 6, .int .i64 t, .slice au j cu] 25).after (alloc_below _ C)
          simp only [World.size_alloc] at h
          exact h.later hb (by omega)
        go_wp2_with (at_builtin; refine wpList_append_intsF rfl _ _ rfl (wr.heap.size + 2) (.slice (some ⟨wr.heap.size + 2, 0, none⟩) 0 0) (.slice au j cu) 0 [] zs rfl rfl (L0.out _ _) (HI3.out _ _ _) (by rw [hn.out]; omega) (by simp) ?_)
        intro ao cap w5 hown hgrow
        try rw [hn.out] at hown
        try rw [hn.out]
        try simp only [Nat.zero_add, List.nil_append] at hown
        try simp only [Nat.zero_add]
        have hb5 : Below (wr.heap.size + 2) _ w5 := (Below.refl _ _).grown hgrow (by simp) (fun j hj => by simp [Value.ownBlock] at hj; omega)
        have X5 := hide_it (XB.out _ _ _ hb5)
        have S5 : wr.heap.size + 3 ≤ w5.heap.size := by have := hb5.size; simp at this; omega
        have G5 := hide_it ((below3 wr _ _ _).trans (hb5.mono (Nat.le_add_right _ _)))
        have O6 := hide_it (fun o => hown.alloc (o := o))
        have I6 : Hid (Ints (w5.alloc (.cells #[.int .i64 1] 3)) (.slice (some ⟨w5.heap.size, 0, none⟩) 1 1) [1]) := Or.inr ⟨w5.heap.size, 0, 1, rfl, by simp, fun m hm => by
          have h0 : m = 0 := by simp at hm; exact hm
          subst h0
          simp [go_sem]⟩
        clear hown hgrow hb5 L0 HI3 q0d q1d q2d q0b q1b q2b q0a q1a q2a
        go_wp2_with (at_builtin; refine wpList_append_intsF rfl _ _ rfl (wr.heap.size + 2) (.slice ao j cap) (.slice (some ⟨w5.heap.size, 0, none⟩) 1 1) j (zs.map (Value.int .i64)) [1] rfl rfl (O6.out _) I6.out (by simp; omega) (by simp; omega) ?_)
        intro ao7 cap7 w7 hown hgrow
        try simp only [List.length_cons, List.length_nil, Nat.zero_add] at hown
        try simp only [List.length_cons, List.length_nil, Nat.zero_add]
        have hb7 : Below (wr.heap.size + 2) _ w7 := (Below.refl _ _).grown hgrow (by simp; omega) (fun m hm => (rowB_atF (O6.out (.cells #[.int .i64 1] 3)) m hm).1)
        have X7 := hide_it (X5.out.later ((alloc_below w5 _).mono (by omega) |>.trans hb7) (by omega))
        have G7 := hide_it (G5.out.trans (((alloc_below w5 (.cells #[.int .i64 1] 3)).mono (show wr.heap.size ≤ w5.heap.size by omega)).trans (hb7.mono (by omega))))
        have O7 := hide_it hown
        have Q7 := hide_it (Q5.out.later G7.out (Nat.le_refl _))
        have S7 : wr.heap.size + 3 ≤ w7.heap.size := by have := hb7.size; simp at this; omega
        clear hown hgrow hb7 O6 I6 q0 q1 q2
        obtain ⟨q0, q1, q2⟩ := Q7.out
        obtain ⟨x0, x1, x2⟩ := X7.out.cells3
        have z2 := frozen_of_row w7 (wr.heap.size + 1) 2 _ _ X7.out
        have hne : ¬ w1.heap.size = wr.heap.size + 1 := by omega
        have hne2 : ¬ wr.heap.size + 1 = w1.heap.size := by omega
        obtain rfl : j = 0 := by omega
        have hzl : (zs ++ [(1 : Int)]).length = 0 + 1 := by rw [List.length_append, hn.out]; rfl
        obtain ⟨w8, hw8⟩ : ∃ W, Hid (W = w7.setCell ⟨wr.heap.size + 1, 2, none⟩ (.slice ao7 (0 + 1) cap7)) := ⟨_, rfl⟩
        have I8 : Hid (Ints w8 (.slice ao7 (0 + 1) cap7) (zs ++ [1])) := by
          show Ints _ _ _
          rw [hw8.out]
          refine ints_of_any (base := wr.heap.size + 2) ?_
          rw [hzl, List.map_append]
          exact ownsRow_setCell_below O7.out (by simp) _
        have B8 : Hid (Below w.heap.size w w8) := by
          show Below _ _ _
          rw [hw8.out]
          exact (BR.out.trans (G7.out.mono BR.out.size)).setCell (by have := BR.out.size; simp; omega) _
        have HX : Hid (∀ W, Below w8.heap.size w8 W → Calls Tryd.prog 13 #[.agg #[.int .i64 6, .int .i64 t, .slice ao7 (0 + 1) cap7]] W fun e w' => e = .returned (.bool false) ∧ Below W.heap.size W w') := fun W h => by
          rw [← HL.out]; exact implOk_any 6 t _ (zs ++ [1]) a W (I8.out.later h (Nat.le_refl _)) (by rw [hzl]; omega) (HA.out _ (B8.out.trans (h.mono B8.out.size)))
        clear O7 BR
        go_wp2_with fail
        rw [← hw8.out]
        refine (HX.out _ (by first | exact Below.refl _ _ | exact (Below.refl _ _).drew)).mono ?_
        rintro e w9 ⟨rfl, hb9⟩
        have B9 := hide_it (B8.out.trans (hb9.mono B8.out.size))
        clear hb9
        go_wp2
        go_ret
        exact ⟨rfl, B9.out⟩
      · have XB : Hid (∀ A C W, Below (wr.heap.size + 2) (((wr.alloc A).alloc (.cells #[.int .i64 7, .int .i64 t, .slice au j cu] 25)).alloc C) W → Blk W (wr.heap.size + 1) #[.int .i64 7, .int .i64 t, .slice au j cu] 25) := fun A C W hb => by
          have h := (Blk.new (wr.alloc A) #[.int .i64 7, .int .i64 t, .slice au j cu] 25).after (alloc_below _ C)
          simp only [World.size_alloc] at h
          exact h.later hb (by omega)
        go_wp2_with (at_builtin; refine wpList_append_intsF rfl _ _ rfl (wr.heap.size + 2) (.slice (some ⟨wr.heap.size + 2, 0, none⟩) 0 0) (.slice au j cu) 0 [] zs rfl rfl (L0.out _ _) (HI3.out _ _ _) (by rw [hn.out]; omega) (by simp) ?_)
        intro ao cap w5 hown hgrow
        try rw [hn.out] at hown
        try rw [hn.out]
        try simp only [Nat.zero_add, List.nil_append] at hown
        try simp only [Nat.zero_add]
        have hb5 : Below (wr.heap.size + 2) _ w5 := (Below.refl _ _).grown hgrow (by simp) (fun j hj => by simp [Value.ownBlock] at hj; omega)
        have X5 := hide_it (XB.out _ _ _ hb5)
        have S5 : wr.heap.size + 3 ≤ w5.heap.size := by have := hb5.size; simp at this; omega
        have G5 := hide_it ((below3 wr _ _ _).trans (hb5.mono (Nat.le_add_right _ _)))
        have O6 := hide_it (fun o => hown.alloc (o := o))
        have I6 : Hid (Ints (w5.alloc (.cells #[.int .i64 1] 3)) (.slice (some ⟨w5.heap.size, 0, none⟩) 1 1) [1]) := Or.inr ⟨w5.heap.size, 0, 1, rfl, by simp, fun m hm => by
          have h0 : m = 0 := by simp at hm; exact hm
          subst h0
          simp [go_sem]⟩
        clear hown hgrow hb5 L0 HI3 q0d q1d q2d q0b q1b q2b q0a q1a q2a
        go_wp2_with (at_builtin; refine wpList_append_intsF rfl _ _ rfl (wr.heap.size + 2) (.slice ao j cap) (.slice (some ⟨w5.heap.size, 0, none⟩) 1 1) j (zs.map (Value.int .i64)) [1] rfl rfl (O6.out _) I6.out (by simp; omega) (by simp; omega) ?_)
        intro ao7 cap7 w7 hown hgrow
        try simp only [List.length_cons, List.length_nil, Nat.zero_add] at hown
        try simp only [List.length_cons, List.length_nil, Nat.zero_add]
        have hb7 : Below (wr.heap.size + 2) _ w7 := (Below.refl _ _).grown hgrow (by simp; omega) (fun m hm => (rowB_atF (O6.out (.cells #[.int .i64 1] 3)) m hm).1)
        have X7 := hide_it (X5.out.later ((alloc_below w5 _).mono (by omega) |>.trans hb7) (by omega))
        have G7 := hide_it (G5.out.trans (((alloc_below w5 (.cells #[.int .i64 1] 3)).mono (show wr.heap.size ≤ w5.heap.size by omega)).trans (hb7.mono (by omega))))
        have O7 := hide_it hown
        have Q7 := hide_it (Q5.out.later G7.out (Nat.le_refl _))
        have S7 : wr.heap.size + 3 ≤ w7.heap.size := by have := hb7.size; simp at this; omega
        clear hown hgrow hb7 O6 I6 q0 q1 q2
        obtain ⟨q0, q1, q2⟩ := Q7.out
        obtain ⟨x0, x1, x2⟩ := X7.out.cells3
        have z2 := frozen_of_row w7 (wr.heap.size + 1) 2 _ _ X7.out
        have hne : ¬ w1.heap.size = wr.heap.size + 1 := by omega
        have hne2 : ¬ wr.heap.size + 1 = w1.heap.size := by omega
        obtain rfl : j = 0 := by omega
        have hzl : (zs ++ [(1 : Int)]).length = 0 + 1 := by rw [List.length_append, hn.out]; rfl
        obtain ⟨w8, hw8⟩ : ∃ W, Hid (W = w7.setCell ⟨wr.heap.size + 1, 2, none⟩ (.slice ao7 (0 + 1) cap7)) := ⟨_, rfl⟩
        have I8 : Hid (Ints w8 (.slice ao7 (0 + 1) cap7) (zs ++ [1])) := by
          show Ints _ _ _
          rw [hw8.out]
          refine ints_of_any (base := wr.heap.size + 2) ?_
          rw [hzl, List.map_append]
          exact ownsRow_setCell_below O7.out (by simp) _
        have B8 : Hid (Below w.heap.size w w8) := by
          show Below _ _ _
          rw [hw8.out]
          exact (BR.out.trans (G7.out.mono BR.out.size)).setCell (by have := BR.out.size; simp; omega) _
        have HX : Hid (∀ W, Below w8.heap.size w8 W → Calls Tryd.prog 13 #[.agg #[.int .i64 7, .int .i64 t, .slice ao7 (0 + 1) cap7]] W fun e w' => e = .returned (.bool false) ∧ Below W.heap.size W w') := fun W h => by
          rw [← HL.out]; exact implOk_any 7 t _ (zs ++ [1]) a W (I8.out.later h (Nat.le_refl _)) (by rw [hzl]; omega) (HA.out _ (B8.out.trans (h.mono B8.out.size)))
        clear O7 BR
        go_wp2_with fail
        rw [← hw8.out]
        refine (HX.out _ (by first | exact Below.refl _ _ | exact (Below.refl _ _).drew)).mono ?_
        rintro e w9 ⟨rfl, hb9⟩
        have B9 := hide_it (B8.out.trans (hb9.mono B8.out.size))
        clear hb9
        go_wp2
        go_ret
        exact ⟨rfl, B9.out⟩

end Go.Proofs.YtfpjohbcbflnhaaDoor
