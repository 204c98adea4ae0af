/- The plain mathematics of the texts of words: names, figures, and how a text is put together; nothing of the program is met here. No conditions. -/
import Derived.Test.YtfpjohbcbflnhaaDoorWPure
namespace Go.Proofs.YtfpjohbcbflnhaaDoor
namespace Pl

/-- A figure's text. -/
def dg (n : Int) : ByteArray := ⟨#[UInt8.ofNat (48 + n.toNat)]⟩
def sp : ByteArray := ⟨#[32]⟩
/-- The name of a kind of words. -/
def wNm (k : Int) : ByteArray :=
  if k = 1 then ⟨#[104, 111, 108, 100]⟩ else if k = 2 then ⟨#[99, 108, 111, 115, 101]⟩ else if k = 3 then ⟨#[117, 110, 100, 111]⟩ else if k = 4 then ⟨#[104, 101, 108, 100]⟩
  else if k = 5 then ⟨#[102, 117, 108, 108]⟩ else if k = 6 then ⟨#[99, 108, 111, 115, 101, 100]⟩ else if k = 7 then ⟨#[117, 110, 100, 111, 110, 101]⟩ else ⟨#[]⟩
/-- The text of a word of any kind but a hold. -/
def wHead (k h t : Int) : ByteArray := wNm k ++ sp ++ dg h ++ sp ++ dg t
def wFull (k h t m : Int) : ByteArray := if k = 1 then wHead k h t ++ sp ++ dg m else wHead k h t
def wTxt (k h t m : Int) : ByteArray := if wOk k h t m = true then wFull k h t m else ⟨#[]⟩

theorem wTxt_no {k h t m : Int} (e : wOk k h t m = false) : wTxt k h t m = ⟨#[]⟩ := by simp [wTxt, e]
theorem wTxt_yes {k h t m : Int} (e : wOk k h t m = true) : wTxt k h t m = wFull k h t m := by simp [wTxt, e]
theorem nmS1 : (wNm 1).size = 4 := by decide
theorem nmS2 : (wNm 2).size = 5 := by decide
theorem nmS3 : (wNm 3).size = 4 := by decide
theorem nmS4 : (wNm 4).size = 4 := by decide
theorem nmS5 : (wNm 5).size = 4 := by decide
theorem nmS6 : (wNm 6).size = 6 := by decide
theorem nmS7 : (wNm 7).size = 6 := by decide
theorem nmS9 (k : Int) : (wNm k).size ≤ 9 := by
  unfold wNm; repeat (split; exact (by decide))
  decide
theorem dgS (n : Int) : (dg n).size = 1 := rfl
theorem seven {k : Int} (h : 1 ≤ k ∧ k ≤ 7) : k = 1 ∨ k = 2 ∨ k = 3 ∨ k = 4 ∨ k = 5 ∨ k = 6 ∨ k = 7 := by omega
theorem ten {k : Int} (h0 : 0 ≤ k) (h9 : k ≤ 9) : k = 0 ∨ k = 1 ∨ k = 2 ∨ k = 3 ∨ k = 4 ∨ k = 5 ∨ k = 6 ∨ k = 7 ∨ k = 8 ∨ k = 9 := by omega

end Pl
end Go.Proofs.YtfpjohbcbflnhaaDoor
