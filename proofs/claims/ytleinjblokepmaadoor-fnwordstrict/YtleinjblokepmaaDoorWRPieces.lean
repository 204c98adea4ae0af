/- The contract of the program's iterator over the pieces of a text: it hands each piece with its place, and stops where a round says so. For texts of at most 1000 bytes. -/
import Derived.RangeFuncNested
import Derived.RangeFuncBound
import Derived.RangeFuncCalls
import Derived.RangeFuncLeaves
import Derived.RangeFuncMany
import Derived.Shelf.Abstract
import Derived.Shelf.RegionOpen
import Derived.WalkKit
import Derived.OwnWalkIn
import Derived.TacticsInMore
import Derived.LoopNIn
import Derived.LoopIn
import Derived.RegionIn
import Derived.Test.YtleinjblokepmaaDoorWRSh
namespace Go.Proofs.YtleinjblokepmaaDoor
open Go.RowKit Go.Shelf
attribute [local go_sem] Oper.semAt_some

/-- A piece of at most 1000 bytes. -/
def cl (b : ByteArray) : ByteArray := if b.size ≤ 1000 then b else ⟨#[]⟩
theorem cl_of {b : ByteArray} (h : b.size ≤ 1000) : cl b = b := by unfold cl; rw [if_pos h]
theorem cl_size (b : ByteArray) : (cl b).size ≤ 1000 := by
  unfold cl
  split
  · assumption
  · exact Nat.zero_le _
abbrev encP (x : Int × ByteArray) : Array Value := #[.int .i64 x.1, .string (cl x.2)]
/-- Pieces with their places. -/
def enumP : Nat → List ByteArray → List (Int × ByteArray)
  | _, [] => []
  | k, s :: r => ((k : Int), s) :: enumP (k + 1) r
theorem enumP_length (k : Nat) (l : List ByteArray) : (enumP k l).length = l.length := by
  induction l generalizing k with
  | nil => rfl
  | cons s r ih => simp [enumP, ih]
theorem enumP_app (k : Nat) (a b : List ByteArray) : enumP k (a ++ b) = enumP k a ++ enumP (k + a.length) b := by
  induction a generalizing k with
  | nil => simp [enumP]
  | cons s r ih => simp [enumP, ih, Nat.add_assoc, Nat.add_comm 1]

/-- How far the iterator still has to go. -/
def pcM (r m : Value) : Nat := match m, r with | .bool true, .string s => s.size + 1 | _, _ => 0

theorem below_grown {w w' : World} (h : Below w.heap.size w w') : w.grownBy w' none := ⟨h.os, h.tape, h.output, h.size, fun k hk _ => h.block k hk⟩

set_option maxRecDepth 100000 in
set_option maxHeartbeats 4000000 in
theorem pieces_stops (n : Nat) (hn : 1 ≤ n) (s : ByteArray) (hs : s.size ≤ 1000) (B : Nat) (w : World) (hB : B < w.heap.size) (hc : w.cell? ⟨B, 0, none⟩ = some (.string s)) :
    SeqStopsA Fence.wide n Tryd.prog 33 #[.pointer (some ⟨B, 0, none⟩)] encP (fun xs => xs = enumP 0 (Pl.cutB s)) (fun pre => pre <+: enumP 0 (Pl.cutB s)) (Pl.cutB s).length w := fun l J Jx W hW hJ hJx hY h0 => by
  have hcW : W.cell? ⟨B, 0, none⟩ = some (.string s) := by rw [← hc]; exact hW.cell (p := ⟨B, 0, none⟩) hB
  have hmx : Tryd.prog.follows .mixedOrders = true := by kernel_rfl
  refine callsIn_of_wp Tryd.func33 rfl trivial ?_ rfl
  simp only [Tryd.ntmps33, List.size_toArray, List.length_cons, List.length_nil, Nat.reduceAdd, Nat.reduceSub, Array.replicate_succ, Array.replicate_zero, List.push_toArray, List.append_toArray, List.nil_append, List.cons_append]
  gi_wp2
  gi_region_o
  gi_wp2
  gi_loopw [3, 4, 5, 6] (fun p r m a wr => ∃ (i : Nat) (done : List ByteArray) (b : Bool) (x y : ByteArray), p = .string x ∧ r = .string y ∧ m = .bool b ∧ a = .int .i64 i ∧ done.length = i ∧ y.size ≤ s.size ∧ (if b = true then Pl.cutB s = done ++ Pl.cutB y else Pl.cutB s = done) ∧ J (enumP 0 done) wr)
    (fun _ r m _ _ => pcM r m)
  case atStart => exact ⟨0, [], true, ⟨#[]⟩, s, rfl, rfl, rfl, rfl, rfl, Nat.le_refl _, rfl, hJ _ _ _ none h0 (below_grown (Below.refl _ _).drew) (fun r e => by cases e)⟩
  case round =>
    obtain ⟨i, done, b, x, y, rfl, rfl, rfl, rfl, hl, hy, hcut, hJs⟩ := hrel
    cases b
    · have HC : Hid (Pl.cutB s = done) := hidden (by simpa using hcut)
      clear hcut
      gi_wp2
      go_end0
      exact ⟨⟨_, rfl⟩, .inl ⟨enumP 0 done, by rw [HC.out], hJs⟩⟩
    · have HC : Hid (Pl.cutB s = done ++ Pl.cutB y) := hidden (by simpa using hcut)
      clear hcut
      gi_wp2_with fail
      refine ⟨trivial, ?_⟩
      refine (callsIn_wide.2 (cut_any y wr (by omega))).mono ?_
      rintro e w2 ⟨hco, hb2⟩
      have hJ2 : J (enumP 0 done) w2 := hJ _ _ _ none hJs (below_grown hb2) (fun r e => by cases e)
      have hyn : 0 < (Pl.cutB y).length := by have := (Pl.cut_length y.data.toList).1; simp [Pl.cutB]; omega
      have hil : i ≤ 1000 := by
        have h1 := (Pl.cut_length s.data.toList).2
        have h2 : (Pl.cutB s).length ≤ s.size + 1 := by simpa [Pl.cutB] using h1
        rw [HC.out, List.length_append] at h2
        omega
      clear hJs hb2
      rcases hco with ⟨hy1, rfl⟩ | ⟨p, r, hy1, hy2, hy3, rfl⟩
      · have H1 := hidden hy1
        clear hy1
        have HE : Hid (enumP 0 (done ++ [y]) = enumP 0 done ++ [((i : Int), y)]) := by show _ = _; rw [enumP_app, hl, Nat.zero_add]; rfl
        have HP : Hid (enumP 0 done ++ [((i : Int), y)] <+: enumP 0 (Pl.cutB s)) := by show _ <+: _; rw [← HE.out, HC.out, H1.out]; exact List.prefix_refl _
        obtain ⟨fn, tmps, assign, body, hyy, hR⟩ := hY (enumP 0 done) ((i : Int), y) w2 hJ2 (by rw [enumP_length, HC.out]; simp; omega)
        dsimp only [encP] at hyy
        rw [cl_of (b := y) (by omega)] at hyy
        gi_wp2
        refine hR.mono ?_
        rintro e W3 (⟨rfl, hJ3, _⟩ | ⟨rfl, hx3⟩)
        · gi_wp2
          go_roundw
          case rel => exact ⟨i + 1, done ++ [y], false, y, ⟨#[]⟩, rfl, rfl, rfl, by go_num, by simp [hl], Nat.zero_le _, by simp [HC.out, H1.out], by rw [HE.out]; exact hJ3⟩
          case measure => simp [pcM]
        · gi_wp2
          refine bodyPost_ret (results_none rfl _ _ _) rfl ?_
          exact ⟨⟨_, rfl⟩, .inr ⟨_, HP.out, hx3⟩⟩
      · have H1 := hidden hy1
        clear hy1
        have HE : Hid (enumP 0 (done ++ [p]) = enumP 0 done ++ [((i : Int), p)]) := by show _ = _; rw [enumP_app, hl, Nat.zero_add]; rfl
        have HP : Hid (enumP 0 done ++ [((i : Int), p)] <+: enumP 0 (Pl.cutB s)) := by
          show _ <+: _
          have e2 : Pl.cutB s = (done ++ [p]) ++ Pl.cutB r := by rw [HC.out, H1.out]; simp
          rw [← HE.out, e2, enumP_app 0 (done ++ [p]) (Pl.cutB r)]
          exact List.prefix_append _ _
        obtain ⟨fn, tmps, assign, body, hyy, hR⟩ := hY (enumP 0 done) ((i : Int), p) w2 hJ2 (by rw [enumP_length, HC.out]; simp; omega)
        dsimp only [encP] at hyy
        rw [cl_of (b := p) (by omega)] at hyy
        gi_wp2
        refine hR.mono ?_
        rintro e W3 (⟨rfl, hJ3, _⟩ | ⟨rfl, hx3⟩)
        · gi_wp2
          go_roundw
          case rel => exact ⟨i + 1, done ++ [p], true, p, r, rfl, rfl, rfl, by go_num, by simp [hl], by omega, by simp [HC.out, H1.out], by rw [HE.out]; exact hJ3⟩
          case measure => simp [pcM]; omega
        · gi_wp2
          refine bodyPost_ret (results_none rfl _ _ _) rfl ?_
          exact ⟨⟨_, rfl⟩, .inr ⟨_, HP.out, hx3⟩⟩

end Go.Proofs.YtleinjblokepmaaDoor
