/- The contract of the program's readNumbers: the numbers of all pieces, or that one is none. For at most 1000 texts of at most 1000 bytes. -/
import Derived.Test.YtfpjohbcbflnhaaDoorRRSplit
import Derived.Test.YtfpjohbcbflnhaaDoorToLog
import Derived.Laws.AppendOwnNone
namespace Go.Proofs.YtfpjohbcbflnhaaDoor
open Go.RowKit

theorem grown_belowN {w w' : World} {B : Nat} {row : Option Nat} (h : w.grownBy w' row) (hB : B ≤ w.heap.size) (hr : ∀ k, row = some k → B ≤ k) : Below B w w' := (Below.refl B w).grown h hB hr

/-- One number appended to a row of numbers of the call's own. -/
theorem wpList_append_int1 {ops : Array Oper} {rest : List Oper} {o : Oper} {a : Act} {w : World} {Q : Exit → Act → World → Prop} (hgd : o.guard = none) (s x : Operand)
    (ho : o.op = .call { callee := .builtin .append, args := #[s, x], argTypes := #[23, 23] })
    (base : Nat) (v : Value) (b cap0 n : Nat) (t : Int) (xs : List Value) (he : a.eval s = v) (hx : a.eval x = .slice (some ⟨b, 0, none⟩) 1 cap0) (hown : w.ownsRow base 3 1 v n xs) (hc : w.cell? ⟨b, 0, none⟩ = some (.int .i64 t)) (hb : n ≤ 4194304) (hbase : base ≤ w.heap.size)
    (h : ∀ g cap w', w'.ownsRow base 3 1 (.slice (some ⟨g, 0, none⟩) (n + 1) cap) (n + 1) (xs ++ [.int .i64 t]) → w.grownBy w' v.ownBlock → wpList Tryd.prog ops Q rest (a.put o.dst (.slice (some ⟨g, 0, none⟩) (n + 1) cap)) w') :
    wpList Tryd.prog ops Q (o :: rest) a w := by
  refine wpList_plain hgd fun K hK' => ?_
  obtain ⟨i0, hi, hz0, hz1, hz2⟩ := info_parts info3
  obtain ⟨v', w', hrun, r1, r2, _⟩ := run_append_own (P := Tryd.prog) w base 23 o.type 3 i0 (.int .i64 0) 1 8 Tryd.underlying23 hi hz0 hz1 hz2 rfl (by decide) v n xs hown ⟨b, 0, none⟩ 1 cap0 [.int .i64 t] rfl (fun j u hu => by
    match j, hu with
    | 0, hu => simp at hu; subst hu; simpa [Go.WideShapes.add_plain] using hc
    | j + 1, hu => simp at hu) (by simp [Value.oneCell']) (by unfold maxLen; omega) (by omega) hbase
  obtain ⟨g, cap, rfl⟩ : ∃ g cap, v' = .slice (some ⟨g, 0, none⟩) (n + 1) cap := by
    rcases r1.2 with ⟨_, h0⟩ | ⟨g, cap, cur, hv, _⟩
    · omega
    · exact ⟨g, cap, hv⟩
  unfold Oper.wp
  simp [execOp, ho, resolve, invoke, builtin, he, hx, hrun, Result.andThen]
  exact hK' _ _ (h g cap w' r1 r2)

theorem StrsAt.later {B : Nat} {w w' : World} {g off : Nat} {l : List ByteArray} (h : StrsAt w g off l) (hb : Below B w w') (hB : w.heap.size ≤ B) : StrsAt w' g off l := fun j hj => by
  have hlt := World.block_lt_of_cell? _ _ (h j hj)
  simp at hlt
  rw [← h j hj]; exact hb.cell (p := ⟨g, off + j, none⟩) (by simp; omega)

set_option maxRecDepth 100000 in
set_option maxHeartbeats 4000000 in
theorem nums_any (g off cap : Nat) (ps : List ByteArray) (a : Addr) (w : World) (hS : StrsAt w g off ps) (hl : ps.length ≤ 1000) (hz : ∀ p ∈ ps, p.size ≤ 1000) (hE : ErrV w) (ha : ErrAt w a) :
    Calls Tryd.prog 48 #[.slice (some ⟨g, off, none⟩) ps.length cap] w fun e w' =>
      ((∃ v zs, Pl.numsO ps = some zs ∧ e = .returned (.tuple #[v, .nilIface]) ∧ w'.ownsRow w.heap.size 3 1 v zs.length (zs.map (Value.int .i64))) ∨
        (Pl.numsO ps = none ∧ e = .returned (.tuple #[.slice none 0 0, .iface 137 (.pointer (some a))]))) ∧ Below w.heap.size w w' := by
  have HS := hide_it hS
  have HE := hide_it hE
  have HA := hide_it ha
  have HZ := hide_it hz
  clear hS hE ha hz
  obtain ⟨n, hn⟩ : ∃ n, Hid (ps.length = n) := ⟨_, rfl⟩
  rw [hn.out] at hl ⊢
  go_enter Tryd.func48, Tryd.ntmps48
  go_wp2_with fail
  go_loopw [4, 11] (fun vo i wr => ∃ (j : Nat) (zs : List Int) (av : Option Addr) (cv : Nat), j ≤ n ∧ i = .int .i64 j ∧ vo = .slice av j cv ∧ Hid (zs.length = j) ∧ Hid (Pl.numsO (ps.take j) = some zs) ∧ Hid (wr.ownsRow w.heap.size 3 1 (.slice av j cv) j (zs.map (Value.int .i64))) ∧ Hid (Below w.heap.size w wr)) (fun _ i _ => n - (intOf i).toNat)
  case atStart => exact ⟨0, [], none, 0, Nat.zero_le _, rfl, rfl, rfl, rfl, World.ownsRow_nil _ _ _ _, Below.refl _ _⟩
  case round =>
    obtain ⟨j, zs, av, cv, hj, rfl, rfl, HLN, HNS, HO, HB⟩ := hrel
    by_cases hlt : j < n
    · have hjl : j < ps.length := by rw [hn.out]; exact hlt
      obtain ⟨p, hp⟩ : ∃ p, ps[j]? = some p := ⟨_, List.getElem?_eq_getElem hjl⟩
      have hpz : p.size ≤ 1000 := HZ.out p (List.mem_of_getElem? hp)
      have hcell : wr.cell? ⟨g, off + j, none⟩ = some (.string p) := by
        have := (HS.out.later HB.out (Nat.le_refl _)) j hjl
        rw [this]; simp [List.getD_eq_getElem?_getD, hp]
      have HTK : Hid (ps.take (j + 1) = ps.take j ++ [p]) := by
        show _ = _
        rw [List.take_succ_eq_append_getElem hjl]
        have := List.getElem?_eq_getElem hjl
        rw [hp] at this
        rw [← Option.some.inj this]
      have HDR : Hid (ps = ps.take j ++ p :: ps.drop (j + 1)) := by
        show _ = _
        have := List.getElem?_eq_getElem hjl
        rw [hp] at this
        rw [Option.some.inj this, ← List.drop_eq_getElem_cons hjl, List.take_append_drop]
      have AT := hide_it (atoi_any p wr hpz (HE.out.later HB.out (Nat.le_refl _)))
      go_wp2_with fail
      refine AT.out.mono ?_
      rintro e w2 ⟨hat, hb2⟩
      have HO2 := hide_it (ownsRow_below HO.out hb2 (fun k hk => (HO.out.lt k hk).2))
      have HB2 := hide_it (HB.out.trans (hb2.mono HB.out.size))
      clear hb2 AT hcell
      rcases hat with ⟨v, h1, rfl⟩ | ⟨h1, v, t, q, rfl⟩
      · have HV : Hid (Pl.numO p = some v) := by show _ = _; unfold Pl.numO; rw [h1]
        clear h1
        have HO3 : Hid (∀ o, (w2.alloc o).ownsRow w.heap.size 3 1 (.slice av j cv) j (zs.map (Value.int .i64))) := fun o => HO2.out.alloc o
        have hsz := HB2.out.size
        go_wp2_with (at_builtin; refine wpList_append_int1 rfl _ _ rfl w.heap.size (.slice av j cv) w2.heap.size 1 j v (zs.map (Value.int .i64)) rfl rfl (HO3.out _) (by simp) (by omega) (by simp; omega) ?_; intro g2 cap2 w3 hown3 hgrow3; have N3 := hide_it hown3; have G3 := hide_it hgrow3; clear hown3 hgrow3)
        have HB3 := hide_it ((HB2.out.alloc hsz (.cells #[.int .i64 v] 3)).trans (grown_belowN G3.out (by simp; omega) (fun k hk => (HO2.out.lt k hk).1)))
        go_roundw
        case rel => exact ⟨j + 1, zs ++ [v], some ⟨g2, 0, none⟩, cap2, by omega, by go_num, rfl, by show _ = _; rw [List.length_append, HLN.out]; rfl, by show _ = _; rw [HTK.out]; exact Pl.numsO_snoc _ _ _ HNS.out _ HV.out, by show World.ownsRow _ _ _ _ _ _ _; rw [List.map_append]; exact N3.out, HB3.out⟩
        case measure => simp [intOf]; omega
      · have HV : Hid (Pl.numsO ps = none) := by
          show _ = _
          rw [HDR.out]
          exact Pl.numsO_none _ _ (by unfold Pl.numO; split <;> first | rfl | (rename_i v2 hv2; exact absurd hv2 (h1 v2))) _
        clear h1
        have hne : ∀ W, Sem.run Tryd.prog (binOp .neq 42 (.iface t q) .nilIface) W = .ok (.bool true) W := fun _ => by kernel_rfl
        have herr : w2.cell? ⟨0, 0, none⟩ = some (.iface 137 (.pointer (some a))) := HA.out.later HB2.out (Nat.le_refl _)
        go_wp2_with fail
        go_quiet (fail)
        go_wp2
        go_ret2
        exact ⟨.inr ⟨HV.out, rfl⟩, below_drewN HB2.out _⟩
    · obtain rfl : j = n := by omega
      have HV : Hid (Pl.numsO ps = some zs) := by show _ = _; have := HNS.out; rwa [List.take_of_length_le (by rw [hn.out]; exact Nat.le_refl _)] at this
      have HOZ : Hid (wr.ownsRow w.heap.size 3 1 (.slice av j cv) zs.length (zs.map (Value.int .i64))) := by show World.ownsRow _ _ _ _ _ _ _; rw [HLN.out]; exact HO.out
      clear hlt
      go_wp2
      go_ret2
      exact ⟨.inl ⟨_, zs, HV.out, rfl, HOZ.out⟩, HB.out⟩

end Go.Proofs.YtfpjohbcbflnhaaDoor
