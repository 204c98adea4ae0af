/- Contracts of the library's functions that a reader of words calls: strings.Cut at a blank, strconv.Atoi; and pieceNumber. For texts of at most 1000 bytes. -/
import Derived.Test.YtfpjohbcbflnhaaDoorWRPure
import Derived.Test.YtfpjohbcbflnhaaDoorWText
import Derived.Test.YtfpjohbcbflnhaaDoorShelf
import Derived.Shelf.RegionOpenPlain
import Derived.Lib.CutLaws
namespace Go.Proofs.YtfpjohbcbflnhaaDoor
open Go.RowKit

theorem index_any (s : ByteArray) (w : World) :
    Calls Tryd.prog 67 #[.string s, .string ⟨#[32]⟩] w fun e w' => e = .returned (.int .i64 (Lib.indexByte s.data.toList 32)) ∧ w' = w :=
  Any.stringslite_Index_one Tryd.lays219 s 32 w

/-- What strings.Cut gives at a blank. -/
def cutA (s : ByteArray) : ByteArray := ((Pl.cutB s).headD ⟨#[]⟩)
def CutOut (s : ByteArray) (e : Ending) : Prop :=
  (Pl.cutB s = [s] ∧ e = .returned (.tuple #[.string s, .string ⟨#[]⟩, .bool false])) ∨
  ∃ a r, Pl.cutB s = a :: Pl.cutB r ∧ r.size < s.size ∧ a.size ≤ s.size ∧ e = .returned (.tuple #[.string a, .string r, .bool true])

theorem cutB_none {s : ByteArray} (h : Lib.indexByte s.data.toList 32 = -1) : Pl.cutB s = [s] := by
  unfold Pl.cutB; rw [Pl.cut_none _ h]; simp [Pl.bs_data]
theorem extract_list (s : ByteArray) (a b : Nat) : (s.extract a b).data.toList = (s.data.toList.take b).drop a := by
  simp [ByteArray.data_extract, Array.toList_extract, List.extract, List.drop_take]
theorem cutB_at {s : ByteArray} {i : Nat} (h : Lib.indexByte s.data.toList 32 = (i : Int)) : i < s.size ∧ Pl.cutB s = s.extract 0 i :: Pl.cutB (s.extract (i + 1) s.size) := by
  obtain ⟨h1, h2⟩ := Pl.cut_at _ i h
  have hsz : s.data.toList.length = s.size := by simp
  rw [hsz] at h1
  refine ⟨h1, ?_⟩
  have e1 : Pl.bs (s.data.toList.take i) = s.extract 0 i := by
    rw [← Pl.bs_data (s.extract 0 i), extract_list]; simp
  have e2 : (s.extract (i + 1) s.size).data.toList = s.data.toList.drop (i + 1) := by
    rw [extract_list, ← hsz, List.take_length]
  unfold Pl.cutB
  rw [h2, e2]
  simp [e1]

/-- The two sentinels of strconv hold what they like, but no nonsense. -/
def ErrV (w : World) : Prop := (∃ te pe, w.cell? ⟨4, 0, none⟩ = some (.iface te pe)) ∧ ∃ te pe, w.cell? ⟨5, 0, none⟩ = some (.iface te pe)
theorem ErrV.later {B : Nat} {w w' : World} (h : ErrV w) (hb : Below B w w') (hB : w.heap.size ≤ B) : ErrV w' := by
  obtain ⟨⟨t1, p1, h1⟩, ⟨t2, p2, h2⟩⟩ := h
  have l1 := World.block_lt_of_cell? _ _ h1
  have l2 := World.block_lt_of_cell? _ _ h2
  simp at l1 l2
  exact ⟨⟨t1, p1, by rw [← h1]; exact hb.cell (p := ⟨4, 0, none⟩) (by simp; omega)⟩, ⟨t2, p2, by rw [← h2]; exact hb.cell (p := ⟨5, 0, none⟩) (by simp; omega)⟩⟩

/-- strconv.Atoi: a number, and no error; or some number, and some error. -/
theorem atoi_any (s : ByteArray) (w : World) (hs : s.size ≤ 1000) (hE : ErrV w) :
    Calls Tryd.prog 53 #[.string s] w fun e w' => ((∃ v, Lib.atoiAll s.data.toList = .ok v ∧ e = .returned (.tuple #[.int .i64 v, .nilIface])) ∨
      ((∀ v, Lib.atoiAll s.data.toList ≠ .ok v) ∧ ∃ v t p, e = .returned (.tuple #[.int .i64 v, .iface t p]))) ∧ Below w.heap.size w w' := by
  obtain ⟨⟨t1, p1, h1⟩, ⟨t2, p2, h2⟩⟩ := hE
  cases h : Lib.atoiAll s.data.toList with
  | ok v =>
    refine (Any.strconv_Atoi_ok Tryd.laysC172 s (by omega) v h w).mono ?_
    rintro e w' ⟨rfl, hw⟩
    refine ⟨.inl ⟨v, rfl, rfl⟩, ?_⟩
    rcases hw with rfl | ⟨t, rfl⟩
    · exact Below.refl _ _
    · exact Lib.bytesWorld_below _ _ _
  | «syntax» =>
    refine (Any.strconv_Atoi_syntax Tryd.laysC172 s (by omega) h _ w h1 (.inr ⟨_, _, rfl⟩)).mono ?_
    rintro e w' ⟨N, rfl, _, _, hb⟩
    exact ⟨.inr ⟨fun v hv => (by cases hv), _, _, _, rfl⟩, hb⟩
  | range =>
    refine (Any.strconv_Atoi_range Tryd.laysC172 s (by omega) h _ w h2 (.inr ⟨_, _, rfl⟩)).mono ?_
    rintro e w' ⟨N, rfl, _, _, hb⟩
    exact ⟨.inr ⟨fun v hv => (by cases hv), _, _, _, rfl⟩, hb⟩

end Go.Proofs.YtfpjohbcbflnhaaDoor
