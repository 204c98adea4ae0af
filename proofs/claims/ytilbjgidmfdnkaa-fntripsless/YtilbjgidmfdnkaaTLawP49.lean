/- A beginning of trips is trips (promise 49): the draw of trips (DrawTripsOk), and the law FnTripsLess walked. For codes of at most 1048576 bytes. -/
import Derived.Test.YtilbjgidmfdnkaaDTripList
import Derived.Test.YtilbjgidmfdnkaaTOnce
namespace Go.Proofs.Ytilbjgidmfdnkaa
open Go.RowKit

theorem T.tripsOk_take {rs : List T.R} {n : Nat} (h : T.tripsOk rs = true) : T.tripsOk (rs.take n) = true := by
  obtain ⟨ha, hl⟩ := T.tripsOk_all h
  refine T.tripsOk_mk ?_ (by rw [List.length_take]; omega)
  rw [List.all_eq_true] at ha ⊢
  exact fun x hx => ha x (List.mem_of_mem_take hx)
theorem T.tripsOk_bad1 (rs : List T.R) : T.tripsOk (rs ++ [([0, 0, 0], 1)]) = false := by
  refine T.tripsOk_bad ?_
  rw [List.all_append]
  have : [(([0, 0, 0], 1) : T.R)].all T.tOk = false := by decide
  rw [this]; simp
theorem T.tripsOk_bad2 (rs : List T.R) : T.tripsOk (rs ++ [([1, 0, 0], 0)]) = false := by
  refine T.tripsOk_bad ?_
  rw [List.all_append]
  have : [(([1, 0, 0], 0) : T.R)].all T.tOk = false := by decide
  rw [this]; simp

theorem row_capT {w : World} {base : Nat} {e : TypeId} {size : Nat} {v : Value} {n : Nat} {xs : List Value} (h : w.ownsRow base e size v n xs) : ∃ oa oc, v = .slice oa n oc ∧ n ≤ oc := by
  rcases h.2 with ⟨hv, hn⟩ | ⟨g, cap, cur, hv, _, _, hc, _⟩
  · exact ⟨none, 0, by rw [hv, hn], by omega⟩
  · exact ⟨_, cap, hv, hc⟩

/-- What comes out of the draw: trips in rows of its own. -/
def OkGot (w w' : World) (e : Ending) : Prop :=
  ∃ (b q : Nat) (w1 : World) (oa : Option Addr) (oc : Nat) (ps : List (T.R × Value)), e = .returned (.slice oa ps.length oc) ∧ ps.length ≤ oc ∧ ps.length ≤ 8 ∧ TrS w1 w' b q (.slice oa ps.length oc) ps ∧ w.heap.size ≤ w1.heap.size ∧ Below w.heap.size w w'

set_option maxRecDepth 100000 in
set_option maxHeartbeats 4000000 in
theorem drawTOk_any (v : Value) (n : Nat) (w : World) (hv : CodeAt w v n) (hn : n ≤ 1048576) :
    Calls Try.prog 4 #[v] w fun e w' => OkGot w w' e := by
  obtain ⟨i0, hi, hz0, hz1, hz2⟩ := info_parts T.infoTrip
  have HO := hide_it (open_any v n w hv hn)
  obtain ⟨ao, cap, rfl, _⟩ := hv
  go_enter Try.func4, Try.ntmps4
  go_wp2_with fail
  refine HO.out.mono ?_
  rintro e w1 ⟨rfl, hr1, hs1, hb1⟩
  obtain ⟨b, hbb⟩ : ∃ b, Hid (b = w.heap.size) := ⟨_, rfl⟩
  rw [← hbb.out] at hr1 ⊢
  have hb1' : b < w1.heap.size := by rw [hbb.out, hs1]; omega
  have R1 := hide_it hr1
  have B1 := hide_it hb1
  clear hr1 hb1 hs1
  have hBl : Hid (∀ W, Mid b (b + 1) w1 W → Below w.heap.size w W) := fun W hm => B1.out.trans (hm.below (by rw [hbb.out]; omega) B1.out.size)
  go_wp2_with fail
  refine (list_draw b 0 _ R1.out (by omega)).mono ?_
  rintro e w2 ⟨o, ps, q, rfl, hps, hq, hT⟩
  have S2 := hide_it hT
  obtain ⟨oa, oc, hos, hoc⟩ := row_capT hT.row
  subst hos
  clear hT
  go_wp2_with fail
  refine (pick_any b q 4 _ S2.out.rd (by omega) (by omega) (by omega)).mono ?_
  rintro e w3 ⟨y, rfl, ly, uy, r3, m3⟩
  have S3 := hide_it (S2.out.step m3 r3)
  clear r3 m3
  by_cases hy0 : y = 0
  · subst hy0
    go_wp2_with fail
    refine (many_draw b (q + 1) _ S3.out.rd (by omega)).mono ?_
    rintro e w4 ⟨u, zs, q4, rfl, hzl, hF, hqa, hqb, r4, m4⟩
    have S4 := hide_it (S3.out.step m4 r4)
    have F4 := hide_it (hF.mono S3.out.mid.size)
    obtain ⟨g, off, hu⟩ : ∃ g off, u = .slice (some ⟨g, off, none⟩) zs.length zs.length := by obtain ⟨g, off, cs, h, _⟩ := hF; exact ⟨g, off, h⟩
    subst hu
    clear hF r4 m4
    go_wp2_with fail
    refine (pick_any b q4 8 _ S4.out.rd (by omega) (by omega) (by omega)).mono ?_
    rintro e w5 ⟨z, rfl, lz, uz, r5, m5⟩
    have S5 := hide_it (S4.out.step m5 r5)
    have F5 := hide_it (F4.out.mid S4.out.rd m5)
    have hw5 := S5.out.mid.size
    have ROW : Hid (∀ x, (w5.alloc x).ownsRow w1.heap.size 28 2 (.slice oa ps.length oc) ps.length (T.flat ps)) := fun x => S5.out.row.alloc x
    clear r5 m5
    go_wp2_with (at_builtin; refine wpList_append_own _ rfl _ _ 23 rfl w1.heap.size 28 i0 (.agg #[.slice none 0 0, .int .i64 0]) 2 32 Try.underlying23 hi hz0 hz1 hz2 rfl (by decide) (.slice oa ps.length oc) ps.length (T.flat ps) rfl (ROW.out _) ⟨w5.heap.size, 0, none⟩ 1 1 [.slice (some ⟨g, off, none⟩) zs.length zs.length, .int .i64 z] rfl rfl (T.news2 _ _ _ _) (T.one2 _ _) ?c3 ?c4 ?c5 ?_)
    case c3 => unfold maxLen; omega
    case c4 => omega
    case c5 => simp; omega
    intro v' w6 hown6 hgrow6 _
    have S6 := hide_it ((S5.out.later (alloc_below _ _)).push (r := (zs, z)) ⟨by show zs.length ≤ 4; omega, Or.inl ⟨_, F5.out.later (alloc_below _ _) (Nat.le_refl _)⟩⟩ hown6 hgrow6)
    obtain ⟨a6, c6, hv6, hc6⟩ := row_capT hown6
    subst hv6
    clear hown6 hgrow6 ROW
    have HL6 : Hid ((ps ++ [((zs, z), Value.slice (some ⟨g, off, none⟩) zs.length zs.length)]).length = ps.length + 1) := by show _ = _; simp
    go_wp2
    go_ret
    refine ⟨b, q4 + 1, w1, a6, c6, _, by rw [HL6.out]; rfl, by rw [HL6.out]; exact hc6, by rw [HL6.out]; omega, ?_, B1.out.size, hBl.out _ S6.out.mid⟩
    rw [HL6.out]
    exact S6.out
  · go_wp2
    go_ret
    exact ⟨b, q + 1, w1, oa, oc, ps, rfl, hoc, by omega, S3.out, B1.out.size, hBl.out _ S3.out.mid⟩

theorem T.Recs.cutL {w : World} {N cap : Nat} {ao : Option Addr} {rs : List T.R} (h : T.Recs w (.slice ao rs.length cap) rs) (hN : N ≤ rs.length) : T.Recs w (.slice ao N cap) (rs.take N) := by
  have hl : (rs.take N).length = N := by rw [List.length_take]; omega
  by_cases h0 : N = 0
  · subst h0
    exact Or.inl ⟨by simp, ao, cap, rfl⟩
  rcases h with ⟨hz, _⟩ | ⟨b, off, cp, hv, hz, hc⟩
  · rw [hz] at hN; simp at hN; omega
  · simp only [Value.slice.injEq] at hv
    obtain ⟨e1, _, e3⟩ := hv
    refine Or.inr ⟨b, off, cp, by rw [hl, e1, e3], by intro e; rw [e] at hl; simp at hl; omega, fun i r hr => ?_⟩
    rw [List.getElem?_take] at hr
    split at hr
    · exact hc i r hr
    · cases hr

theorem T.flat_take (ps : List (T.R × Value)) (N : Nat) : (T.flat ps).take (N * 2) = T.flat (ps.take N) := by
  induction ps generalizing N with
  | nil => simp [T.flat]
  | cons p t ih =>
    cases N with
    | zero => simp [T.flat]
    | succ N =>
      rw [show (N + 1) * 2 = N * 2 + 2 by omega]
      simp [T.flat, ih]
theorem T.flat_cells {W : World} {lo : Nat} (ps : List (T.R × Value)) (h : ∀ p ∈ ps, TGood W lo p) : ∀ x ∈ T.flat ps, x.oneCell' = true := by
  induction ps with
  | nil => intro x hx; simp [T.flat] at hx
  | cons p t ih =>
    intro x hx
    simp only [T.flat, List.mem_cons] at hx
    rcases hx with rfl | rfl | hx
    · obtain ⟨ao, cap, e⟩ := (Good.ints (h p (by simp))).shape
      have e' : p.2 = .slice ao p.1.1.length cap := e
      rw [e']; rfl
    · rfl
    · exact ih (fun q hq => h q (by simp [hq])) x hx

theorem less_out {w1 w2 w4 wB wC : World} {b q oc N : Nat} {oa : Option Addr} {ps : List (T.R × Value)} {v1 v2 : Value} {a0 a1 a2 s : Int} {box : Obj} (S2 : TrS w1 w2 b q (.slice oa ps.length oc) ps) (E4 : Below w2.heap.size w2 w4)
    (h1 : wB.ownsRow w4.heap.size 28 2 v1 N (T.flat (ps.take N))) (hB : Below w4.heap.size w4 wB)
    (h2 : wC.ownsRow w4.heap.size 28 2 v2 (N + 1) (T.flat (ps.take N) ++ [.slice (some ⟨wB.heap.size, 0, none⟩) 3 3, .int .i64 s]))
    (hg : ((wB.alloc (.cells #[.int .i64 a0, .int .i64 a1, .int .i64 a2] 3)).alloc box).grownBy wC v1.ownBlock) (hN : N ≤ ps.length) :
    T.Recs wC v2 ((ps.map (·.1)).take N ++ [([a0, a1, a2], s)]) ∧ Below w4.heap.size w4 wC := by
  have hs := hB.size
  have hE := E4.size
  have hm := S2.mid.size
  have hCB : Below w4.heap.size ((wB.alloc (.cells #[.int .i64 a0, .int .i64 a1, .int .i64 a2] 3)).alloc box) wC := (Below.refl _ _).grown hg (by simp; omega) (fun k hk => (h1.lt k hk).1)
  have hC : Below w4.heap.size w4 wC := ((hB.alloc (by omega) _).alloc (by simp; omega) _).trans hCB
  have hC2 : Below w2.heap.size w2 wC := E4.trans (hC.mono hE)
  refine ⟨?_, hC⟩
  have hrow3 : Row3 wC wB.heap.size a0 a1 a2 := by
    have h := ((Row3.new wB a0 a1 a2).later (alloc_below _ box) (Nat.le_refl _))
    unfold Row3 at h ⊢
    rw [hg.block wB.heap.size (by simp; omega) (fun e => by have := (h1.lt _ e.symm).2; omega)]
    exact h
  have hl : (ps.take N).length = N := by rw [List.length_take]; omega
  have hrow : wC.ownsRow w4.heap.size 28 2 v2 (ps.take N ++ [((([a0, a1, a2], s) : T.R), Value.slice (some ⟨wB.heap.size, 0, none⟩) 3 3)]).length (T.flat (ps.take N ++ [(([a0, a1, a2], s), .slice (some ⟨wB.heap.size, 0, none⟩) 3 3)])) := by
    rw [T.flat_append, List.length_append, hl]
    exact h2
  have := trips_rows (lo := 0) hrow (fun p hp => ?_)
  · rw [List.map_append, List.map_take] at this
    exact this
  · rcases List.mem_append.1 hp with hp | hp
    · have h0 := S2.all p (List.mem_of_mem_take hp)
      have hk : Good wC w1.heap.size ((0, 0, p.1.1), p.2) := Good.keep h0 fun g cs hh => hC2.block g (heap_lt hh)
      obtain ⟨k1, k2⟩ := hk
      refine ⟨k1, ?_⟩
      rcases k2 with ⟨cp, k2⟩ | k2
      · exact Or.inl ⟨cp, k2.mono (Nat.zero_le _)⟩
      · exact Or.inr k2
    · simp at hp
      subst hp
      exact ⟨by simp, Or.inl ⟨3, hrow3.fresh (Nat.zero_le _)⟩⟩

set_option maxRecDepth 100000 in
set_option maxHeartbeats 4000000 in
theorem lawP49_small (vc : Value) (nc : Nat) (am : Option Addr) (nm cm : Nat) (w : World) (hc : CodeAt w vc nc) (hcn : nc ≤ 1048576) (hmn : nm ≤ 1048576) :
    Calls Try.prog 3 #[vc, .slice am nm cm] w fun e w' => e = .returned (.bool true) ∧ Below w.heap.size w w' := by
  obtain ⟨i0, hi, hz0, hz1, hz2⟩ := info_parts T.infoTrip
  have HO := hide_it (drawTOk_any vc nc w hc hcn)
  obtain ⟨ao, cap, rfl, _⟩ := hc
  have hni : ¬ (1048576 : Int) < (nc : Int) := by omega
  have hmi : ¬ (1048576 : Int) < (nm : Int) := by omega
  go_enter Try.func3, Try.ntmps3
  go_wp2_with fail
  refine HO.out.mono ?_
  rintro e w2 ⟨b, q, w1, oa, oc, ps, rfl, hoc, hp8, hT, hw1, hb2⟩
  have S2 := hide_it hT
  have B2 := hide_it hb2
  obtain ⟨hRR, hTT⟩ := hT.out (by omega)
  have HR : Hid (∀ W, Below w2.heap.size w2 W → T.Recs W (.slice oa (ps.map (·.1)).length oc) (ps.map (·.1))) := fun W h => by rw [List.length_map]; exact hRR.later h (Nat.le_refl _)
  obtain ⟨BB, hBB⟩ : ∃ x, T.tripsOk (ps.map (·.1)) = x := ⟨_, rfl⟩
  have HBB := hide_it hBB
  have HIM : Hid (∀ W, Below w2.heap.size w2 W → Calls Try.prog 5 #[.slice oa ps.length oc] W fun e w' => e = .returned (.bool BB) ∧ Below W.heap.size W w') := fun W h => by
    have := T.implTripsOk_any _ (ps.map (·.1)) W (hRR.later h (Nat.le_refl _)) (by omega)
    rw [hBB] at this; exact this
  have HSP : Hid (∀ W, Below w2.heap.size w2 W → Calls Try.prog 6 #[.slice oa ps.length oc] W fun e w' => e = .returned (.bool BB) ∧ Below W.heap.size W w') := fun W h => by
    have := T.specTripsOk_any _ (ps.map (·.1)) W (hRR.later h (Nat.le_refl _)) (by omega)
    rw [hBB] at this; exact this
  clear hT hb2 hRR hBB
  go_wp2_with fail
  refine (HIM.out w2 (Below.refl _ _)).mono ?_
  rintro e w3 ⟨rfl, hb3⟩
  have E3 := hide_it hb3
  clear hb3
  go_wp2_with fail
  refine (HSP.out w3 E3.out).mono ?_
  rintro e w4 ⟨rfl, hb4⟩
  have E4 := hide_it (E3.out.trans (hb4.mono E3.out.size))
  clear hb4
  cases BB
  · go_wp2_with fail
    refine (HSP.out w4 E4.out).mono ?_
    rintro e w5 ⟨rfl, hb5⟩
    have B5 := hide_it (B2.out.trans ((E4.out.trans (hb5.mono E4.out.size)).mono B2.out.size))
    clear hb5
    go_wp2
    go_ret
    exact ⟨by simp, B5.out⟩
  by_cases hz : ¬ 0 < ps.length
  · have hz0' : ((ps.length : Int) == 0) = true := by rw [show ps.length = 0 by omega]; rfl
    clear hz
    go_wp2_with fail
    refine (HSP.out w4 E4.out).mono ?_
    rintro e w5 ⟨rfl, hb5⟩
    have B5 := hide_it (B2.out.trans ((E4.out.trans (hb5.mono E4.out.size)).mono B2.out.size))
    clear hb5
    go_wp2
    go_ret
    exact ⟨by simp, B5.out⟩
  have hpos : 0 < ps.length := by omega
  have hzf : ((ps.length : Int) == 0) = false := beq_false_of_ne (by omega)
  have hzn : ¬ (ps.length : Int) = 0 := by omega
  obtain ⟨N, hN⟩ : ∃ N : Nat, nm % ps.length = N := ⟨_, rfl⟩
  have hNl : N < ps.length := by rw [← hN]; exact Nat.mod_lt nm hpos
  have hNt : Int.tmod (nm : Int) (ps.length : Int) = (N : Int) := by rw [← hN]; exact (Int.ofNat_tmod _ _).symm
  have hNc : (N : Int) ≤ (oc : Int) := by omega
  clear hN hz
  obtain ⟨g, hga⟩ : ∃ g, oa = some ⟨g, 0, none⟩ := by
    rcases S2.out.row.2 with ⟨hv, hn⟩ | ⟨g, cp, cur, hv, _⟩
    · omega
    · simp at hv; exact ⟨g, hv.1⟩
  subst hga
  have ONE : Hid (∀ x ∈ T.flat (ps.take N), x.oneCell' = true) := T.flat_cells (W := w2) (lo := w1.heap.size) _ (fun p hp => S2.out.all p (List.mem_of_mem_take hp))
  have NW : Hid (∀ W, Below w2.heap.size w2 W → ∀ (j : Nat) (x : Value), (T.flat (ps.take N))[j]? = some x → W.cell? ((⟨g, 0, none⟩ : Addr).add j) = some x) := fun W h j x hj => by
    have hlt : j < N * 2 := by
      have := T.len_lt hj
      rw [T.flat_length, List.length_take] at this
      omega
    rw [Go.WideShapes.add_plain, Nat.zero_add, h.cell (p := ⟨g, j, none⟩) (S2.out.row.lt g rfl).2, S2.out.row.cellAt j (by omega)]
    rw [← T.flat_take, List.getElem?_take, if_pos hlt] at hj
    exact hj
  have xE := E4
  go_wp2_with (first
    | (at_builtin; refine wpList_append_own _ rfl _ _ 23 rfl wxC.heap.size 28 i0 (.agg #[.slice none 0 0, .int .i64 0]) 2 32 Try.underlying23 hi hz0 hz1 hz2 rfl (by decide) (.slice ay N cy) N (T.flat (ps.take N)) rfl (by exact (ROWy.out _ _)) ⟨wyB.heap.size + 1, 0, none⟩ 1 1 [.slice (some ⟨wyB.heap.size, 0, none⟩) 3 3, .int .i64 0] rfl rfl (by exact NWSy.out) (by exact (T.one2 _ _)) (by unfold maxLen; omega) (by omega) (by simp; omega) ?_; intro vy2 wyC howny2 hgrowy2 _; have OUTy := hide_it (less_out S2.out yE.out Oy.out HyB.out howny2 hgrowy2 (by omega)); obtain ⟨ay2, cy2, hvy2⟩ := row_shape howny2; subst hvy2; clear howny2 hgrowy2)
    | (at_builtin; refine wpList_append_own _ rfl _ _ 23 rfl wxC.heap.size 28 i0 (.agg #[.slice none 0 0, .int .i64 0]) 2 32 Try.underlying23 hi hz0 hz1 hz2 rfl (by decide) (.slice (some ⟨wxC.heap.size, 0, none⟩) 0 0) 0 [] rfl (by exact (T.lit0 wxC _ _)) ⟨g, 0, none⟩ N oc (T.flat (ps.take N)) rfl (by rw [T.flat_length, List.length_take]; omega) (by exact (NW.out _ (by exact (yE.out.alloc yE.out.size _)))) (by exact ONE.out) (by unfold maxLen; omega) (by omega) (by simp) ?_; intro vy wyB howny hgrowy _; simp only [Nat.zero_add, List.nil_append] at howny; have Oy := hide_it howny; have HyB : Hid (Below wxC.heap.size wxC wyB) := ((alloc_below wxC _).trans ((Below.refl _ _).grown hgrowy (by simp) (fun k hk => by simp [Value.ownBlock] at hk; omega))); have ROWy : Hid (∀ o1 o2, ((wyB.alloc o1).alloc o2).ownsRow wxC.heap.size 28 2 vy N (T.flat (ps.take N))) := (fun o1 o2 => (howny.alloc o1).alloc o2); obtain ⟨ay, cy, hvy⟩ := row_shape howny; subst hvy; have hzy := HyB.out.size; have NWSy : Hid (∀ (j : Nat) (x : Value), [Value.slice (some ⟨wyB.heap.size, 0, none⟩) 3 3, .int .i64 0][j]? = some x → ((wyB.alloc (.cells #[.int .i64 1, .int .i64 0, .int .i64 0] 3)).alloc (.cells #[.slice (some ⟨wyB.heap.size, 0, none⟩) 3 3, .int .i64 0] 28)).cell? ((⟨wyB.heap.size + 1, 0, none⟩ : Addr).add j) = some x) := (by have h := T.news2 (wyB.alloc (.cells #[.int .i64 1, .int .i64 0, .int .i64 0] 3)) (.slice (some ⟨wyB.heap.size, 0, none⟩) 3 3) 0 28; rw [size1] at h; exact h); clear howny hgrowy)
    | (at_builtin; refine wpList_append_own _ rfl _ _ 23 rfl w4.heap.size 28 i0 (.agg #[.slice none 0 0, .int .i64 0]) 2 32 Try.underlying23 hi hz0 hz1 hz2 rfl (by decide) (.slice ax N cx) N (T.flat (ps.take N)) rfl (by exact (ROWx.out _ _)) ⟨wxB.heap.size + 1, 0, none⟩ 1 1 [.slice (some ⟨wxB.heap.size, 0, none⟩) 3 3, .int .i64 1] rfl rfl (by exact NWSx.out) (by exact (T.one2 _ _)) (by unfold maxLen; omega) (by omega) (by simp; omega) ?_; intro vx2 wxC hownx2 hgrowx2 _; have OUTx := hide_it (less_out S2.out xE.out Ox.out HxB.out hownx2 hgrowx2 (by omega)); obtain ⟨ax2, cx2, hvx2⟩ := row_shape hownx2; subst hvx2; have yE : Hid (Below w2.heap.size w2 wxC) := (E4.out.trans (OUTx.out.2.mono E4.out.size)); clear hownx2 hgrowx2)
    | (at_builtin; refine wpList_append_own _ rfl _ _ 23 rfl w4.heap.size 28 i0 (.agg #[.slice none 0 0, .int .i64 0]) 2 32 Try.underlying23 hi hz0 hz1 hz2 rfl (by decide) (.slice (some ⟨w4.heap.size, 0, none⟩) 0 0) 0 [] rfl (by exact (T.lit0 w4 _ _)) ⟨g, 0, none⟩ N oc (T.flat (ps.take N)) rfl (by rw [T.flat_length, List.length_take]; omega) (by exact (NW.out _ (by exact (xE.out.alloc xE.out.size _)))) (by exact ONE.out) (by unfold maxLen; omega) (by omega) (by simp) ?_; intro vx wxB hownx hgrowx _; simp only [Nat.zero_add, List.nil_append] at hownx; have Ox := hide_it hownx; have HxB : Hid (Below w4.heap.size w4 wxB) := ((alloc_below w4 _).trans ((Below.refl _ _).grown hgrowx (by simp) (fun k hk => by simp [Value.ownBlock] at hk; omega))); have ROWx : Hid (∀ o1 o2, ((wxB.alloc o1).alloc o2).ownsRow w4.heap.size 28 2 vx N (T.flat (ps.take N))) := (fun o1 o2 => (hownx.alloc o1).alloc o2); obtain ⟨ax, cx, hvx⟩ := row_shape hownx; subst hvx; have hzx := HxB.out.size; have NWSx : Hid (∀ (j : Nat) (x : Value), [Value.slice (some ⟨wxB.heap.size, 0, none⟩) 3 3, .int .i64 1][j]? = some x → ((wxB.alloc (.cells #[.int .i64 0, .int .i64 0, .int .i64 0] 3)).alloc (.cells #[.slice (some ⟨wxB.heap.size, 0, none⟩) 3 3, .int .i64 1] 28)).cell? ((⟨wxB.heap.size + 1, 0, none⟩ : Addr).add j) = some x) := (by have h := T.news2 (wxB.alloc (.cells #[.int .i64 0, .int .i64 0, .int .i64 0] 3)) (.slice (some ⟨wxB.heap.size, 0, none⟩) 3 3) 1 28; rw [size1] at h; exact h); clear hownx hgrowx))
  have zE := hide_it (yE.out.trans (OUTy.out.2.mono yE.out.size))
  have HTK := hide_it (T.tripsOk_take (n := N) HBB.out)
  have hfit := T.fit_ok HTK.out
  have hFt := hfit.tot
  have fitA : ∀ (zs : List Int) (s : Int), zs.length = 3 → T.tot ((ps.map (·.1)).take N ++ [(zs, s)]) ≤ 1048576 := fun zs s hz => by
    have : T.tot ((ps.map (·.1)).take N ++ [(zs, s)]) ≤ 7 + 3 * 7 := by
      have hl := hfit.1
      have h3 := hfit.2
      have key : ∀ l : List T.R, (∀ r ∈ l, r.1.length = 3) → (l.map fun r : T.R => r.1.length).sum = 3 * l.length := by
        intro l
        induction l with
        | nil => intro _; rfl
        | cons a t ih =>
          intro h
          have h1 := ih (fun r hr => h r (by simp [hr]))
          have h2 := h a (by simp)
          simp only [List.map_cons, List.sum_cons, List.length_cons, h1, h2]
          omega
      unfold T.tot T.pre
      rw [List.take_length, key _ (fun r hr => by
        rcases List.mem_append.1 hr with hr | hr
        · exact h3 r hr
        · simp at hr; subst hr; exact hz)]
      simp at hl ⊢
      omega
    omega
  have H1 : Hid (Calls Try.prog 5 #[.slice (some ⟨g, 0, none⟩) N oc] wyC fun e w' => e = .returned (.bool true) ∧ Below wyC.heap.size wyC w') := by
    have := T.implTripsOk_any _ _ wyC ((HR.out wyC zE.out).cutL (N := N) (by rw [List.length_map]; omega)) hFt
    rw [HTK.out] at this; exact this
  have H2 : Hid (∀ W, Below wyC.heap.size wyC W → Calls Try.prog 5 #[.slice ax2 (N + 1) cx2] W fun e w' => e = .returned (.bool false) ∧ Below W.heap.size W w') := fun W h => by
    have := T.implTripsOk_any _ _ W (OUTx.out.1.later (OUTy.out.2.trans (h.mono OUTy.out.2.size)) (Nat.le_refl _)) (fitA _ _ rfl)
    rw [T.tripsOk_bad1] at this; exact this
  have H3 : Hid (∀ W, Below wyC.heap.size wyC W → Calls Try.prog 5 #[.slice ay2 (N + 1) cy2] W fun e w' => e = .returned (.bool false) ∧ Below W.heap.size W w') := fun W h => by
    have := T.implTripsOk_any _ _ W (OUTy.out.1.later h (Nat.le_refl _)) (fitA _ _ rfl)
    rw [T.tripsOk_bad2] at this; exact this
  clear fitA hfit
  refine H1.out.mono ?_
  rintro e w6 ⟨rfl, hb6⟩
  have F6 := hide_it hb6
  clear hb6
  go_wp2_with fail
  refine (H2.out w6 F6.out).mono ?_
  rintro e w7 ⟨rfl, hb7⟩
  have F7 := hide_it (F6.out.trans (hb7.mono F6.out.size))
  clear hb7
  go_wp2_with fail
  refine (H3.out w7 F7.out).mono ?_
  rintro e w8 ⟨rfl, hb8⟩
  have B8 := hide_it (B2.out.trans ((zE.out.trans ((F7.out.trans (hb8.mono F7.out.size)).mono zE.out.size)).mono B2.out.size))
  clear hb8
  go_wp2
  go_ret
  exact ⟨rfl, B8.out⟩

end Go.Proofs.Ytilbjgidmfdnkaa
