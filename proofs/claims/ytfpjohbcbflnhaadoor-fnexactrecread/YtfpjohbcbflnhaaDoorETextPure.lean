/- The plain mathematics of the texts of records: nothing of the program is met here. No conditions. -/
import Derived.Test.YtfpjohbcbflnhaaDoorWTextPure
namespace Go.Proofs.YtfpjohbcbflnhaaDoor
namespace Pl

/-- The name of a kind of records. -/
def rNm (k : Int) : ByteArray :=
  if k = 1 then ⟨#[104, 111, 108, 100]⟩ else if k = 2 then ⟨#[99, 108, 111, 115, 101]⟩ else if k = 3 then ⟨#[117, 110, 100, 111]⟩ else if k = 4 then ⟨#[98, 101, 103, 105, 110]⟩
  else if k = 5 then ⟨#[121, 101, 115]⟩ else if k = 6 then ⟨#[110, 111]⟩ else if k = 7 then ⟨#[101, 110, 100]⟩ else ⟨#[]⟩
def rHead (k t : Int) : ByteArray := rNm k ++ sp ++ dg t
def rTail (b : ByteArray) (zs : List Int) : ByteArray := zs.foldl (fun a z => a ++ sp ++ dg z) b
def rTxt (k t : Int) (zs : List Int) : ByteArray := if recOk k t zs = true then rTail (rHead k t) zs else ⟨#[]⟩

theorem rTxt_no {k t : Int} {zs : List Int} (e : recOk k t zs = false) : rTxt k t zs = ⟨#[]⟩ := by simp [rTxt, e]
theorem rTxt_yes {k t : Int} {zs : List Int} (e : recOk k t zs = true) : rTxt k t zs = rTail (rHead k t) zs := by simp [rTxt, e]
theorem rnS1 : (rNm 1).size = 4 := by decide
theorem rnS2 : (rNm 2).size = 5 := by decide
theorem rnS3 : (rNm 3).size = 4 := by decide
theorem rnS4 : (rNm 4).size = 5 := by decide
theorem rnS5 : (rNm 5).size = 3 := by decide
theorem rnS6 : (rNm 6).size = 2 := by decide
theorem rnS7 : (rNm 7).size = 3 := by decide
theorem rnS9 (k : Int) : (rNm k).size ≤ 9 := by
  unfold rNm; repeat (split; exact (by decide))
  decide

end Pl
end Go.Proofs.YtfpjohbcbflnhaaDoor
