/- What every law of records that read shares: closed facts of the program, what the listed variable gives, and the world of the witness. No conditions. -/
import Derived.Test.YtfpjohbcbflnhaaDoorCards
import Derived.Test.YtfpjohbcbflnhaaDoorTie
import Derived.Test.YtfpjohbcbflnhaaDoorRRRead
import Derived.Test.YtfpjohbcbflnhaaDoorEIn
import Derived.ProofKit
import Derived.LaidMore
import Derived.Lay
import Derived.LaidSub
import Derived.OpenVars
import Derived.OpenShut
import Derived.Stop.Joined
import Derived.Stop.LaidErr
import Derived.Lib.SmallJoins
import Derived.Lib.LaidU8
namespace Go.Proofs.YtfpjohbcbflnhaaDoor
open Go.ChangeShapes Go.WideShapes Go.ChangeAt Go.WideMaps Go.WideElems Go.RowKit

theorem own : ownKnob Tryd.prog.godebug = none := by kernel_rfl
theorem laidOut : laidOutB Tryd.prog = true := by kernel_rfl
theorem gErr : Tryd.prog.globalNamed "loop.example/concierge/impl.errNoRec" = some 0 := by kernel_rfl
theorem gErrType : (Tryd.prog.globals[0]?).map (·.type) = some 42 := by kernel_rfl
theorem cellsErrS : Tryd.prog.cellsOf 139 = 1 := by kernel_rfl
theorem cellsString : Tryd.prog.cellsOf 9 = 1 := by kernel_rfl
theorem cellsInt : Tryd.prog.cellsOf 3 = 1 := by kernel_rfl
theorem star : "*" ++ "errors.errorString" = "*errors.errorString" := by decide
theorem rowErr (u : TypeId) (h : Tryd.prog.typeName? 3 u = some "*errors.errorString") : u = 137 :=
  typeName_ptr_named (nm := "errors.errorString") (by rw [star]; kernel_rfl) (by kernel_rfl) (by decide) u (by rw [star]; exact h)

theorem gKinds : Tryd.prog.globalNamed "loop.example/concierge/impl.kindWords" = some 1 := by kernel_rfl
theorem gKindsType : (Tryd.prog.globals[1]?).map (·.type) = some 71 := by kernel_rfl

/-- What the list gives: the variable holds the names of the kinds. -/
theorem of_laidK {W : World} {l : List (String × DataW Unit)} (hp : (l.all fun x => x.2.handleName?.isNone) = true) (hm : ("loop.example/concierge/impl.kindWords", Rows.laid_loop_example_concierge_impl_kindWords) ∈ l) (h : laidMetH Tryd.prog l W) : Kinds8 W := by
  rw [MakeChecks.laidMetH_plain _ _ _ hp] at h
  obtain ⟨g, t, cs, fuel, p, h1, h2, h3, h4⟩ := Lib.laidMet.reads h (n := "loop.example/concierge/impl.kindWords") (d := Rows.laid_loop_example_concierge_impl_kindWords) hm
  obtain rfl : g = 1 := (Option.some.inj (gKinds.symm.trans h1)).symm
  obtain rfl : t = 71 := (Option.some.inj (gKindsType.symm.trans h2)).symm
  have each : ∀ (i : Nat) (bs : List UInt8), i < 8 → ([[], [104, 111, 108, 100], [99, 108, 111, 115, 101], [117, 110, 100, 111], [98, 101, 103, 105, 110], [121, 101, 115], [110, 111], [101, 110, 100]] : List (List UInt8))[i]? = some bs → W.cell? ⟨1, i, none⟩ = some (.string ⟨bs.toArray⟩) := fun i bs hi hb => by
    obtain ⟨fuel', d, q, hd, ht⟩ := Lib.array_elem (ds := [.lit (.string []), .lit (.string [104, 111, 108, 100]), .lit (.string [99, 108, 111, 115, 101]), .lit (.string [117, 110, 100, 111]), .lit (.string [98, 101, 103, 105, 110]), .lit (.string [121, 101, 115]), .lit (.string [110, 111]), .lit (.string [101, 110, 100])]) Tryd.underlying71 h4 i hi
    obtain ⟨s, hcs, hx, _⟩ := DataW.trod_string Tryd.underlying9 ht
    rw [cellsString, Nat.mul_one] at hcs
    have hd2 : d = .lit (.string bs) := by
      have : (([[], [104, 111, 108, 100], [99, 108, 111, 115, 101], [117, 110, 100, 111], [98, 101, 103, 105, 110], [121, 101, 115], [110, 111], [101, 110, 100]] : List (List UInt8)).map (fun b => (DataW.lit (.string b) : DataW Unit)))[i]? = some d := hd
      rw [List.getElem?_map, hb] at this
      exact (Option.some.inj this).symm
    have hsb : s.data.toList = bs := by
      have := congrArg Prod.fst hx
      rw [hd2] at this
      simpa using this.symm
    have hc : cs[i]? = some (.string s) := by
      have := congrArg (·[0]?) hcs
      simpa [List.getElem?_take, List.getElem?_drop] using this
    have hv := World.var?_cell gKinds h3 i
    rw [hc] at hv
    rw [hv, ← hsb]
  intro j hj
  match j, hj with
  | 0, _ => exact each 0 _ (by omega) rfl
  | 1, _ => exact each 1 _ (by omega) rfl
  | 2, _ => exact each 2 _ (by omega) rfl
  | 3, _ => exact each 3 _ (by omega) rfl
  | 4, _ => exact each 4 _ (by omega) rfl
  | 5, _ => exact each 5 _ (by omega) rfl
  | 6, _ => exact each 6 _ (by omega) rfl
  | 7, _ => exact each 7 _ (by omega) rfl
  | j + 8, hj => omega


/-- What the list gives: the sentinel's variable holds a pointer to an errors.errorString. -/
theorem of_laidE {W : World} {l : List (String × DataW Unit)} (hp : (l.all fun x => x.2.handleName?.isNone) = true) (hf : (l.filter fun x => x.1 == "loop.example/concierge/impl.errNoRec") = [("loop.example/concierge/impl.errNoRec", Rows.laid_loop_example_concierge_impl_errNoRec)]) (h : laidMetH Tryd.prog l W) : ∃ a, ErrAt W a := by
  rw [MakeChecks.laidMetH_plain _ _ _ hp] at h
  have h2 := laidMet.filter (fun x => x.1 == "loop.example/concierge/impl.errNoRec") h
  rw [hf] at h2
  obtain ⟨a, s, hv, hc, _, _⟩ := laid_sentinel (r := []) h2 gErr gErrType Tryd.underlying42 rowErr Tryd.underlying137 Tryd.underlying139 rfl rfl Tryd.underlying9 cellsErrS cellsString
  refine ⟨a, ?_⟩
  unfold ErrAt
  simpa using World.var?_cell gErr hv 0

theorem gSyn : Tryd.prog.globalNamed "strconv.ErrSyntax" = some 4 := by kernel_rfl
theorem gSynType : (Tryd.prog.globals[4]?).map (·.type) = some 42 := by kernel_rfl
theorem gRan : Tryd.prog.globalNamed "strconv.ErrRange" = some 5 := by kernel_rfl
theorem gRanType : (Tryd.prog.globals[5]?).map (·.type) = some 42 := by kernel_rfl

/-- What the list gives: strconv's two sentinels hold some errors. -/
theorem of_laidV {W : World} {l : List (String × DataW Unit)} (hp : (l.all fun x => x.2.handleName?.isNone) = true)
    (hf : (l.filter fun x => x.1 == "strconv.ErrSyntax") = [("strconv.ErrSyntax", Rows.laid_strconv_ErrSyntax)]) (hg : (l.filter fun x => x.1 == "strconv.ErrRange") = [("strconv.ErrRange", Rows.laid_strconv_ErrRange)]) (h : laidMetH Tryd.prog l W) : ErrV W := by
  rw [MakeChecks.laidMetH_plain _ _ _ hp] at h
  have h2 := laidMet.filter (fun x => x.1 == "strconv.ErrSyntax") h
  have h3 := laidMet.filter (fun x => x.1 == "strconv.ErrRange") h
  rw [hf] at h2
  rw [hg] at h3
  obtain ⟨a, s, hv, -, -, -⟩ := laid_sentinel (r := []) h2 gSyn gSynType Tryd.underlying42 rowErr Tryd.underlying137 Tryd.underlying139 rfl rfl Tryd.underlying9 cellsErrS cellsString
  obtain ⟨b, s', hv', -, -, -⟩ := laid_sentinel (r := []) h3 gRan gRanType Tryd.underlying42 rowErr Tryd.underlying137 Tryd.underlying139 rfl rfl Tryd.underlying9 cellsErrS cellsString
  exact ⟨⟨_, _, by simpa using World.var?_cell gSyn hv 0⟩, ⟨_, _, by simpa using World.var?_cell gRan hv' 0⟩⟩

end Go.Proofs.YtfpjohbcbflnhaaDoor
