/- Layer 11: kinds of blocks: the table of shapes, fields, how many, whether a number is one. -/
import Derived.Test.YtogmbfhefblbjaaMore
import Derived.Lib.Hide
import Derived.Handy
import Derived.WalkKit
import Derived.WalkSpells
import Derived.WalkLawsBesides
namespace Go.Proofs.Ytogmbfhefblbjaa
open Go.RowKit
set_option linter.unusedSimpArgs false
set_option linter.unusedVariables false
def bShapesV : List Value := [.string ⟨#[84, 79, 78]⟩, .int .i64 4, .int .i64 2, .string ⟨#[84, 79, 70]⟩, .int .i64 4, .int .i64 2, .string ⟨#[84, 80]⟩, .int .i64 4, .int .i64 2, .string ⟨#[67, 84, 85]⟩, .int .i64 5, .int .i64 3, .string ⟨#[67, 84, 68]⟩, .int .i64 5, .int .i64 3, .string ⟨#[67, 84, 85, 68]⟩, .int .i64 8, .int .i64 5, .string ⟨#[82, 95, 84, 82, 73, 71]⟩, .int .i64 2, .int .i64 1, .string ⟨#[70, 95, 84, 82, 73, 71]⟩, .int .i64 2, .int .i64 1]
def fTm : List (List UInt8 × Int) := [([73, 78], 1), ([80, 84], 6), ([81], 1), ([69, 84], 6)]
def fCtu : List (List UInt8 × Int) := [([67, 85], 1), ([82], 1), ([80, 86], 2), ([81], 1), ([67, 86], 2)]
def fCtd : List (List UInt8 × Int) := [([67, 68], 1), ([76, 68], 1), ([80, 86], 2), ([81], 1), ([67, 86], 2)]
def fCud : List (List UInt8 × Int) := [([67, 85], 1), ([67, 68], 1), ([82], 1), ([76, 68], 1), ([80, 86], 2), ([81, 85], 1), ([81, 68], 1), ([67, 86], 2)]
def fEdg : List (List UInt8 × Int) := [([67, 76, 75], 1), ([81], 1)]
/-- a kind's fields -/
def bF (k : Int) : List (List UInt8 × Int) := if k = 1 ∨ k = 2 ∨ k = 3 then fTm else if k = 4 then fCtu else if k = 5 then fCtd else if k = 6 then fCud else if k = 7 ∨ k = 8 then fEdg else []
def bI (k : Int) : Int := if k = 1 ∨ k = 2 ∨ k = 3 then 2 else if k = 4 ∨ k = 5 then 3 else if k = 6 then 5 else if k = 7 ∨ k = 8 then 1 else 0
def bN (k : Int) : ByteArray := if k = 1 then ⟨#[84, 79, 78]⟩ else if k = 2 then ⟨#[84, 79, 70]⟩ else if k = 3 then ⟨#[84, 80]⟩ else if k = 4 then ⟨#[67, 84, 85]⟩ else if k = 5 then ⟨#[67, 84, 68]⟩ else if k = 6 then ⟨#[67, 84, 85, 68]⟩ else if k = 7 then ⟨#[82, 95, 84, 82, 73, 71]⟩ else if k = 8 then ⟨#[70, 95, 84, 82, 73, 71]⟩ else ⟨#[]⟩
def bRight (k : Int) : Bool := decide (1 ≤ k ∧ k ≤ 8)
theorem bRight_no {k : Int} (h : ¬ (1 ≤ k ∧ k ≤ 8)) : bRight k = false := decide_eq_false h
theorem bRight_yes {k : Int} (h : 1 ≤ k ∧ k ≤ 8) : bRight k = true := decide_eq_true h
theorem k8 {k : Int} (h : 1 ≤ k ∧ k ≤ 8) : k = 1 ∨ k = 2 ∨ k = 3 ∨ k = 4 ∨ k = 5 ∨ k = 6 ∨ k = 7 ∨ k = 8 := by omega
theorem bF_no {k : Int} (h : ¬ (1 ≤ k ∧ k ≤ 8)) : bF k = [] := by
  unfold bF; rw [if_neg (by omega), if_neg (by omega), if_neg (by omega), if_neg (by omega), if_neg (by omega)]
theorem bI_no {k : Int} (h : ¬ (1 ≤ k ∧ k ≤ 8)) : bI k = 0 := by
  unfold bI; rw [if_neg (by omega), if_neg (by omega), if_neg (by omega), if_neg (by omega)]
theorem bN_no {k : Int} (h : ¬ (1 ≤ k ∧ k ≤ 8)) : bN k = ⟨#[]⟩ := by
  unfold bN; rw [if_neg (by omega), if_neg (by omega), if_neg (by omega), if_neg (by omega), if_neg (by omega), if_neg (by omega), if_neg (by omega), if_neg (by omega)]
def fldS (k i : Int) : ByteArray := if i < 0 then ⟨#[]⟩ else ⟨((bF k).getD i.toNat ([], 0)).1.toArray⟩
def fldT (k i : Int) : Int := if i < 0 then 0 else ((bF k).getD i.toNat ([], 0)).2
theorem fld_no {k i : Int} (h : ¬ (0 ≤ i ∧ i < (bF k).length)) : fldS k i = ⟨#[]⟩ ∧ fldT k i = 0 := by
  unfold fldS fldT
  by_cases hi : i < 0
  · rw [if_pos hi, if_pos hi]; exact ⟨rfl, rfl⟩
  · rw [if_neg hi, if_neg hi]
    have : (bF k).getD i.toNat ([], 0) = ([], 0) := by simp [List.getD]; rw [List.getElem?_eq_none (by omega)]; rfl
    rw [this]; exact ⟨rfl, rfl⟩
theorem block_Right (k : Int) (w : World) : Calls Try.prog 50 #[.int .i64 k] w fun e w' => e = .returned (.bool (bRight k)) ∧ w = w' := by
  by_cases h1 : 1 ≤ k
  · by_cases h2 : k ≤ 8
    · go_enter Try.func50, Try.ntmps50
      go_wp2
      go_ret
      exact ⟨by rw [bRight_yes ⟨h1, h2⟩]; rfl, rfl⟩
    · go_enter Try.func50, Try.ntmps50
      go_wp2
      go_ret
      exact ⟨by rw [bRight_no (by omega)]; rfl, rfl⟩
  · go_enter Try.func50, Try.ntmps50
    go_wp2
    go_ret
    exact ⟨by rw [bRight_no (by omega)]; rfl, rfl⟩
end Go.Proofs.Ytogmbfhefblbjaa
