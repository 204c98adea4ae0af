/- The contract of the specification's l1Cut at a blank. For texts of at most 1000 bytes. -/
import Derived.Test.YtfpjohbcbflnhaaDoorWRSh
import Derived.Deep.RegionHeldLaw
import Derived.Deep.RegionLawGrows
import Derived.Laws.AppendOwnNone
namespace Go.Proofs.YtfpjohbcbflnhaaDoor
open Go.RowKit

def strV (l : List (List UInt8)) : List Value := l.map fun x => Value.string (Pl.bs x)
theorem strV_length (l : List (List UInt8)) : (strV l).length = l.length := by simp [strV]
theorem strV_app (a b : List (List UInt8)) : strV (a ++ b) = strV a ++ strV b := by simp [strV]

theorem infoS : (Tryd.prog.info? 9).map (fun i => (i.zero, i.size, i.bytes)) = some (some (.string ByteArray.empty), 1, 16) := by kernel_rfl

theorem grown_belowS {w w' : World} {B : Nat} {row : Option Nat} (h : w.grownBy w' row) (hB : B ≤ w.heap.size) (hr : ∀ k, row = some k → B ≤ k) : Below B w w' := (Below.refl B w).grown h hB hr

/-- One text appended to a row of texts of the call's own. -/
theorem wpList_append_str {ops : Array Oper} {rest : List Oper} {o : Oper} {a : Act} {w : World} {Q : Exit → Act → World → Prop} (hgd : o.guard = none) (s x : Operand)
    (ho : o.op = .call { callee := .builtin .append, args := #[s, x], argTypes := #[47, 47] })
    (base : Nat) (v : Value) (b cap0 n : Nat) (t : ByteArray) (xs : List Value) (he : a.eval s = v) (hx : a.eval x = .slice (some ⟨b, 0, none⟩) 1 cap0) (hown : w.ownsRow base 9 1 v n xs) (hc : w.cell? ⟨b, 0, none⟩ = some (.string t)) (hb : n ≤ 4194304) (hbase : base ≤ w.heap.size)
    (h : ∀ g cap w', w'.ownsRow base 9 1 (.slice (some ⟨g, 0, none⟩) (n + 1) cap) (n + 1) (xs ++ [.string t]) → w.grownBy w' v.ownBlock → wpList Tryd.prog ops Q rest (a.put o.dst (.slice (some ⟨g, 0, none⟩) (n + 1) cap)) w') :
    wpList Tryd.prog ops Q (o :: rest) a w := by
  refine wpList_plain hgd fun K hK' => ?_
  obtain ⟨i0, hi, hi2⟩ := Option.map_eq_some_iff.1 infoS
  simp only [Prod.mk.injEq] at hi2
  obtain ⟨v', w', hrun, r1, r2, _⟩ := run_append_own (P := Tryd.prog) w base 47 o.type 9 i0 (.string ByteArray.empty) 1 16 Tryd.underlying47 hi hi2.1 hi2.2.1 hi2.2.2 rfl (by decide) v n xs hown ⟨b, 0, none⟩ 1 cap0 [.string t] rfl (fun j u hu => by
    match j, hu with
    | 0, hu => simp at hu; subst hu; simpa [Go.WideShapes.add_plain] using hc
    | j + 1, hu => simp at hu) (by simp [Value.oneCell']) (by unfold maxLen; omega) (by omega) hbase
  obtain ⟨g, cap, rfl⟩ : ∃ g cap, v' = .slice (some ⟨g, 0, none⟩) (n + 1) cap := by
    rcases r1.2 with ⟨_, h0⟩ | ⟨g, cap, cur, hv, _⟩
    · omega
    · exact ⟨g, cap, hv⟩
  unfold Oper.wp
  simp [execOp, ho, resolve, invoke, builtin, he, hx, hrun, Result.andThen]
  exact hK' _ _ (h g cap w' r1 r2)

theorem cut_piece (l : List UInt8) : ∀ x ∈ Pl.cut l, x.length ≤ l.length := by
  induction l with
  | nil => simp [Pl.cut]
  | cons c r ih =>
    intro x hx
    by_cases h : c = 32
    · subst h
      rw [Pl.cut_blank] at hx
      rcases List.mem_cons.1 hx with rfl | h2
      · simp
      · have := ih x h2; simp; omega
    · obtain ⟨y, t, e⟩ := Pl.cut_cons r
      rw [Pl.cut_other h e] at hx
      rw [e] at ih
      rcases List.mem_cons.1 hx with rfl | h2
      · have := ih y (by simp); simp; omega
      · have := ih x (by simp [h2]); simp; omega

theorem bs_snoc (z : List UInt8) (c : UInt8) : Pl.bs z ++ ⟨#[c]⟩ = Pl.bs (z ++ [c]) := by
  apply ByteArray.ext
  simp [Pl.bs]

theorem take_snoc (s : ByteArray) (j : Nat) (h : j < s.size) : s.data.toList.take (j + 1) = s.data.toList.take j ++ [s[j]] := by
  have hl : j < s.data.toList.length := by simpa using h
  rw [List.take_succ_eq_append_getElem hl]
  simp [ByteArray.getElem_eq_getElem_data]

set_option maxRecDepth 100000 in
set_option maxHeartbeats 4000000 in
theorem lcut_any (s : ByteArray) (w : World) (hs : s.size ≤ 1000) :
    Calls Tryd.prog 33 #[.string s, .int .u8 32] w fun e w' => ∃ g cap n, e = .returned (.slice (some ⟨g, 0, none⟩) n cap) ∧ n = (Pl.cut s.data.toList).length ∧ w'.ownsRow w.heap.size 9 1 (.slice (some ⟨g, 0, none⟩) n cap) n (strV (Pl.cut s.data.toList)) ∧ Below w.heap.size w w' := by
  have O0 : Hid ((w.alloc (.cells #[.string ⟨#[]⟩] 9)).ownsRow w.heap.size 9 1 (.slice (some ⟨w.heap.size, 0, none⟩) 1 1) 1 (strV (Pl.cut (s.data.toList.take 0)))) := by
    show World.ownsRow _ _ _ _ _ _ _
    have := World.ownsRow_lit (base := w.heap.size) (e := 9) (size := 1) w #[.string ⟨#[]⟩] 1 (Nat.le_refl _) (by decide) rfl
    simpa [Pl.cut, strV, Pl.bs] using this
  go_enter Tryd.func33, Tryd.ntmps33
  go_wp2
  go_loopw [5, 6] (fun vo i wr => ∃ (j g n cap : Nat), j ≤ s.size ∧ i = .int .i64 j ∧ vo = .slice (some ⟨g, 0, none⟩) n cap ∧ Hid (n = (Pl.cut (s.data.toList.take j)).length) ∧ n ≤ j + 1 ∧ Hid (wr.ownsRow w.heap.size 9 1 (.slice (some ⟨g, 0, none⟩) n cap) n (strV (Pl.cut (s.data.toList.take j)))) ∧ Hid (Below w.heap.size w wr)) (fun _ i _ => s.size - (intOf i).toNat)
  case atStart => exact ⟨0, w.heap.size, 1, 1, Nat.zero_le _, rfl, rfl, by simp [Pl.cut, Hid], by omega, O0, (Below.refl _ _).alloc (Nat.le_refl _) _⟩
  case round =>
    obtain ⟨j, g, n, cap, hj, rfl, rfl, HN, hn, HO, HB⟩ := hrel
    by_cases hlt : j < s.size
    · by_cases hc : s[j] = 32
      · have hcut : Pl.cut (s.data.toList.take (j + 1)) = Pl.cut (s.data.toList.take j) ++ [[]] := by rw [take_snoc s j hlt, hc, Pl.cut_snoc_blank]
        have hci : (s[j].toNat : Int) = 32 := by rw [hc]; rfl
        have HO2 : Hid (∀ o, (wr.alloc o).ownsRow w.heap.size 9 1 (.slice (some ⟨g, 0, none⟩) n cap) n (strV (Pl.cut (s.data.toList.take j)))) := fun o => HO.out.alloc o
        have hsz := HB.out.size
        go_wp2_with (at_builtin; refine wpList_append_str rfl _ _ rfl w.heap.size (.slice (some ⟨g, 0, none⟩) n cap) wr.heap.size 1 n ⟨#[]⟩ (strV (Pl.cut (s.data.toList.take j))) rfl rfl (HO2.out _) (by simp) (by omega) (by simp; omega) ?_; intro g2 cap2 w2 hown2 hgrow2; have N2 := hidden hown2; have G2 := hidden hgrow2; clear hown2 hgrow2)
        have hb2 : Below w.heap.size w w2 := (HB.out.alloc hsz (.cells #[.string ⟨#[]⟩] 9)).trans ((grown_belowS G2.out (by simp; omega) (fun k hk => (HO.out.lt k hk).1)))
        have HB2 := hidden hb2
        clear hb2
        go_roundw
        case rel => exact ⟨j + 1, g2, n + 1, cap2, by omega, by go_num, rfl, by show _ = _; rw [hcut, List.length_append, ← HN.out]; rfl, by omega, by show World.ownsRow _ _ _ _ _ _ _; rw [hcut, strV_app]; exact N2.out, HB2.out⟩
        case measure => simp [intOf]; omega
      · obtain ⟨a, z, e1, e2⟩ := Pl.cut_snoc_other hc (s.data.toList.take j)
        rw [← take_snoc s j hlt] at e2
        obtain ⟨m, hm⟩ : ∃ m, Hid (a.length = m) := ⟨_, rfl⟩
        obtain rfl : n = m + 1 := by rw [HN.out, e1, ← hm.out]; simp
        have E1 := hidden e1
        have E2 := hidden e2
        clear e1 e2
        have hci : ¬ (s[j].toNat : Int) = 32 := by
          intro h
          apply hc
          exact UInt8.toNat_inj.1 (Int.ofNat.inj h)
        obtain ⟨c, hcc⟩ : ∃ c : UInt8, Hid (s[j] = c) := ⟨s[j], hidden rfl⟩
        rw [hcc.out] at hci
        have hsj : s[j].toNat = c.toNat := by rw [hcc.out]
        have hcell : ∀ o, (wr.alloc o).cell? ⟨g, m, none⟩ = some (.string (Pl.bs z)) := fun o => by
          have := (HO.out.alloc o).cellAt m (by omega)
          rw [this, E1.out, strV_app, ← hm.out]
          simp [strV]
        have hcell0 : wr.cell? ⟨g, m, none⟩ = some (.string (Pl.bs z)) := by
          have := HO.out.cellAt m (by omega)
          rw [this, E1.out, strV_app, ← hm.out]
          simp [strV]
        have hfr : ∀ o, (wr.alloc o).frozen? ⟨g, m, none⟩ = false := fun o => (HO.out.alloc o).frozenAt m
        have hsz := HB.out.size
        have hgl : g < wr.heap.size := (HO.out.lt g rfl).2
        have hcv : Sem.run Tryd.prog (convert 22 9 (.slice (some ⟨wr.heap.size, 0, none⟩) 1 1)) (wr.alloc (.cells #[.int .u8 c.toNat] 5)).drew = .ok (.string ⟨#[c]⟩) (wr.alloc (.cells #[.int .u8 c.toNat] 5)).drew := by
          have := conv1 wr.drew c.toNat
          have e : strOfNums [(c.toNat : Int)] = ⟨#[c]⟩ := by simp [strOfNums]
          rw [e] at this
          exact this
        have hzs : (Pl.bs z).size ≤ 1000 := by
          have := cut_piece (s.data.toList.take j) z (by rw [E1.out]; simp)
          have h2 : (s.data.toList.take j).length ≤ s.size := by simp; omega
          have h3 : (Pl.bs z).size = z.length := by simp [Pl.bs, ByteArray.size]
          omega
        have hw1 : IntKind.i64.wrap (m : Int) = (m : Int) := by simp [IntKind.wrap, IntKind.bits, IntKind.signed]; omega
        have hw2 : IntKind.i64.wrap ((m : Int) + 1 - 1) = (m : Int) := by simp [IntKind.wrap, IntKind.bits, IntKind.signed]; omega
        have hw3 : (m : Int) < (m : Int) + 1 := by omega
        have hz1 : ¬ 9223372036854775807 < (Pl.bs z).size + 1 := by omega
        have NEW : Hid (((wr.setCell ⟨g, m, none⟩ (.string (Pl.bs z ++ ⟨#[c]⟩))).alloc (.cells #[.int .u8 c.toNat] 5)).drew.ownsRow w.heap.size 9 1 (.slice (some ⟨g, 0, none⟩) (m + 1) cap) (m + 1) (strV (Pl.cut (s.data.toList.take (j + 1))))) := by
          have h := (HO.out.stored m (.string (Pl.bs z ++ ⟨#[c]⟩))).1
          rw [E1.out, strV_app, show strV [z] = [Value.string (Pl.bs z)] from rfl, List.set_append_right _ _ (by rw [strV_length, hm.out]; omega)] at h
          rw [strV_length, hm.out, Nat.sub_self, List.set_cons_zero, bs_snoc] at h
          show World.ownsRow _ _ _ _ _ _ _
          rw [E2.out, strV_app, hcc.out, bs_snoc]
          exact h.alloc _
        have LEN : Hid (m + 1 = (Pl.cut (s.data.toList.take (j + 1))).length) := by show _ = _; rw [E2.out, List.length_append, hm.out]; rfl
        have NB : Hid (Below w.heap.size w ((wr.setCell ⟨g, m, none⟩ (.string (Pl.bs z ++ ⟨#[c]⟩))).alloc (.cells #[.int .u8 c.toNat] 5)).drew) :=
          ((HB.out.setCell (p := ⟨g, m, none⟩) (HO.out.lt g rfl).1 _).alloc (by simpa using hsz) _).drew
        go_wp2_with fail
        go_region_law (fail)
        all_goals
          go_wp2
          go_roundw
          · exact ⟨j + 1, g, m + 1, cap, by omega, by go_num, rfl, LEN, by omega, NEW, NB⟩
          · simp [intOf]; omega
    · have hje : j = s.size := by omega
      have HF : Hid ((Pl.cut (s.data.toList.take j)) = Pl.cut s.data.toList) := by show _ = _; rw [List.take_of_length_le (by simp; omega)]
      rw [HF.out] at HN HO
      have hle : ¬ (j : Int) < (s.size : Int) := by omega
      obtain ⟨L, hL⟩ : ∃ L, Hid (Pl.cut s.data.toList = L) := ⟨_, rfl⟩
      go_wp2
      go_ret
      exact ⟨g, cap, n, rfl, HN.out, HO.out, HB.out⟩

end Go.Proofs.YtfpjohbcbflnhaaDoor
