/- Layer 11: kinds of blocks: the table of shapes, fields, how many, whether a number is one. -/
import Derived.Test.YtefejcofmopjfaaGreatDoorMore
import Derived.Lib.Hide
import Derived.Handy
import Derived.WalkKit
import Derived.WalkSpells
import Derived.WalkLawsBesides
namespace Go.Proofs.YtefejcofmopjfaaGreatDoor
open Go.RowKit
set_option linter.unusedSimpArgs false
set_option linter.unusedVariables false
def bShapesV : List Value := [.string ⟨#[84, 79, 78]⟩, .int .i64 4, .int .i64 2, .string ⟨#[84, 79, 70]⟩, .int .i64 4, .int .i64 2, .string ⟨#[84, 80]⟩, .int .i64 4, .int .i64 2, .string ⟨#[67, 84, 85]⟩, .int .i64 5, .int .i64 3, .string ⟨#[67, 84, 68]⟩, .int .i64 5, .int .i64 3, .string ⟨#[67, 84, 85, 68]⟩, .int .i64 8, .int .i64 5, .string ⟨#[82, 95, 84, 82, 73, 71]⟩, .int .i64 2, .int .i64 1, .string ⟨#[70, 95, 84, 82, 73, 71]⟩, .int .i64 2, .int .i64 1]
structure BSh (w : World) : Prop where
  sh : ∀ i : Nat, w.cell? ⟨3, i, none⟩ = bShapesV[i]?
  big0 : 3 < w.heap.size
theorem BSh.below {w w' : World} (h : BSh w) (hb : Below w.heap.size w w') : BSh w' :=
  ⟨fun i => (hb.cell h.big0).trans (h.sh i), Nat.lt_of_lt_of_le h.big0 hb.size⟩
def fTm : List (List UInt8 × Int) := [([73, 78], 1), ([80, 84], 6), ([81], 1), ([69, 84], 6)]
def fCtu : List (List UInt8 × Int) := [([67, 85], 1), ([82], 1), ([80, 86], 2), ([81], 1), ([67, 86], 2)]
def fCtd : List (List UInt8 × Int) := [([67, 68], 1), ([76, 68], 1), ([80, 86], 2), ([81], 1), ([67, 86], 2)]
def fCud : List (List UInt8 × Int) := [([67, 85], 1), ([67, 68], 1), ([82], 1), ([76, 68], 1), ([80, 86], 2), ([81, 85], 1), ([81, 68], 1), ([67, 86], 2)]
def fEdg : List (List UInt8 × Int) := [([67, 76, 75], 1), ([81], 1)]
/-- a kind's fields -/
def bF (k : Int) : List (List UInt8 × Int) := if k = 1 ∨ k = 2 ∨ k = 3 then fTm else if k = 4 then fCtu else if k = 5 then fCtd else if k = 6 then fCud else if k = 7 ∨ k = 8 then fEdg else []
def bI (k : Int) : Int := if k = 1 ∨ k = 2 ∨ k = 3 then 2 else if k = 4 ∨ k = 5 then 3 else if k = 6 then 5 else if k = 7 ∨ k = 8 then 1 else 0
def bN (k : Int) : ByteArray := if k = 1 then ⟨#[84, 79, 78]⟩ else if k = 2 then ⟨#[84, 79, 70]⟩ else if k = 3 then ⟨#[84, 80]⟩ else if k = 4 then ⟨#[67, 84, 85]⟩ else if k = 5 then ⟨#[67, 84, 68]⟩ else if k = 6 then ⟨#[67, 84, 85, 68]⟩ else if k = 7 then ⟨#[82, 95, 84, 82, 73, 71]⟩ else if k = 8 then ⟨#[70, 95, 84, 82, 73, 71]⟩ else ⟨#[]⟩
def bRight (k : Int) : Bool := decide (1 ≤ k ∧ k ≤ 8)
theorem bRight_no {k : Int} (h : ¬ (1 ≤ k ∧ k ≤ 8)) : bRight k = false := decide_eq_false h
theorem bRight_yes {k : Int} (h : 1 ≤ k ∧ k ≤ 8) : bRight k = true := decide_eq_true h
theorem k8 {k : Int} (h : 1 ≤ k ∧ k ≤ 8) : k = 1 ∨ k = 2 ∨ k = 3 ∨ k = 4 ∨ k = 5 ∨ k = 6 ∨ k = 7 ∨ k = 8 := by omega
theorem bF_no {k : Int} (h : ¬ (1 ≤ k ∧ k ≤ 8)) : bF k = [] := by
  unfold bF; rw [if_neg (by omega), if_neg (by omega), if_neg (by omega), if_neg (by omega), if_neg (by omega)]
theorem bI_no {k : Int} (h : ¬ (1 ≤ k ∧ k ≤ 8)) : bI k = 0 := by
  unfold bI; rw [if_neg (by omega), if_neg (by omega), if_neg (by omega), if_neg (by omega)]
theorem bN_no {k : Int} (h : ¬ (1 ≤ k ∧ k ≤ 8)) : bN k = ⟨#[]⟩ := by
  unfold bN; rw [if_neg (by omega), if_neg (by omega), if_neg (by omega), if_neg (by omega), if_neg (by omega), if_neg (by omega), if_neg (by omega), if_neg (by omega)]
def fldS (k i : Int) : ByteArray := if i < 0 then ⟨#[]⟩ else ⟨((bF k).getD i.toNat ([], 0)).1.toArray⟩
def fldT (k i : Int) : Int := if i < 0 then 0 else ((bF k).getD i.toNat ([], 0)).2
theorem fld_no {k i : Int} (h : ¬ (0 ≤ i ∧ i < (bF k).length)) : fldS k i = ⟨#[]⟩ ∧ fldT k i = 0 := by
  unfold fldS fldT
  by_cases hi : i < 0
  · rw [if_pos hi, if_pos hi]; exact ⟨rfl, rfl⟩
  · rw [if_neg hi, if_neg hi]
    have : (bF k).getD i.toNat ([], 0) = ([], 0) := by simp [List.getD]; rw [List.getElem?_eq_none (by omega)]; rfl
    rw [this]; exact ⟨rfl, rfl⟩
theorem block_Right (k : Int) (w : World) : Calls Tryz.prog 93 #[.int .i64 k] w fun e w' => e = .returned (.bool (bRight k)) ∧ w = w' := by
  by_cases h1 : 1 ≤ k
  · by_cases h2 : k ≤ 8
    · go_enter Tryz.func93, Tryz.ntmps93
      go_wp2
      go_ret
      exact ⟨by rw [bRight_yes ⟨h1, h2⟩]; rfl, rfl⟩
    · go_enter Tryz.func93, Tryz.ntmps93
      go_wp2
      go_ret
      exact ⟨by rw [bRight_no (by omega)]; rfl, rfl⟩
  · go_enter Tryz.func93, Tryz.ntmps93
    go_wp2
    go_ret
    exact ⟨by rw [bRight_no (by omega)]; rfl, rfl⟩
theorem block_FieldsS (k : Int) (w : World) (hT : BSh w) : Calls Tryz.prog 135 #[.int .i64 k] w fun e w' => e = .returned (.int .i64 ((bF k).length : Int)) ∧ w = w' := by
  by_cases h : 1 ≤ k ∧ k ≤ 8
  · have hr := bRight_yes h
    rcases k8 h with h | h | h | h | h | h | h | h
    · subst h
      have c : w.cell? ⟨3, 1, none⟩ = some (.int .i64 4) := hT.sh 1
      clear hT
      go_enter Tryz.func135, Tryz.ntmps135
      go_wp2_with fail
      refine (block_Right _ _).mono ?_; rintro e w' ⟨rfl, rfl⟩
      go_wp2_with fail
      go_ret
      exact ⟨rfl, rfl⟩
    · subst h
      have c : w.cell? ⟨3, 4, none⟩ = some (.int .i64 4) := hT.sh 4
      clear hT
      go_enter Tryz.func135, Tryz.ntmps135
      go_wp2_with fail
      refine (block_Right _ _).mono ?_; rintro e w' ⟨rfl, rfl⟩
      go_wp2_with fail
      go_ret
      exact ⟨rfl, rfl⟩
    · subst h
      have c : w.cell? ⟨3, 7, none⟩ = some (.int .i64 4) := hT.sh 7
      clear hT
      go_enter Tryz.func135, Tryz.ntmps135
      go_wp2_with fail
      refine (block_Right _ _).mono ?_; rintro e w' ⟨rfl, rfl⟩
      go_wp2_with fail
      go_ret
      exact ⟨rfl, rfl⟩
    · subst h
      have c : w.cell? ⟨3, 10, none⟩ = some (.int .i64 5) := hT.sh 10
      clear hT
      go_enter Tryz.func135, Tryz.ntmps135
      go_wp2_with fail
      refine (block_Right _ _).mono ?_; rintro e w' ⟨rfl, rfl⟩
      go_wp2_with fail
      go_ret
      exact ⟨rfl, rfl⟩
    · subst h
      have c : w.cell? ⟨3, 13, none⟩ = some (.int .i64 5) := hT.sh 13
      clear hT
      go_enter Tryz.func135, Tryz.ntmps135
      go_wp2_with fail
      refine (block_Right _ _).mono ?_; rintro e w' ⟨rfl, rfl⟩
      go_wp2_with fail
      go_ret
      exact ⟨rfl, rfl⟩
    · subst h
      have c : w.cell? ⟨3, 16, none⟩ = some (.int .i64 8) := hT.sh 16
      clear hT
      go_enter Tryz.func135, Tryz.ntmps135
      go_wp2_with fail
      refine (block_Right _ _).mono ?_; rintro e w' ⟨rfl, rfl⟩
      go_wp2_with fail
      go_ret
      exact ⟨rfl, rfl⟩
    · subst h
      have c : w.cell? ⟨3, 19, none⟩ = some (.int .i64 2) := hT.sh 19
      clear hT
      go_enter Tryz.func135, Tryz.ntmps135
      go_wp2_with fail
      refine (block_Right _ _).mono ?_; rintro e w' ⟨rfl, rfl⟩
      go_wp2_with fail
      go_ret
      exact ⟨rfl, rfl⟩
    · subst h
      have c : w.cell? ⟨3, 22, none⟩ = some (.int .i64 2) := hT.sh 22
      clear hT
      go_enter Tryz.func135, Tryz.ntmps135
      go_wp2_with fail
      refine (block_Right _ _).mono ?_; rintro e w' ⟨rfl, rfl⟩
      go_wp2_with fail
      go_ret
      exact ⟨rfl, rfl⟩
  · have hr := bRight_no h
    go_enter Tryz.func135, Tryz.ntmps135
    go_wp2_with fail
    refine (block_Right _ _).mono ?_; rintro e w' ⟨rfl, rfl⟩
    go_wp2_with fail
    go_ret
    exact ⟨by rw [bF_no h]; rfl, rfl⟩
theorem block_InputsS (k : Int) (w : World) (hT : BSh w) : Calls Tryz.prog 134 #[.int .i64 k] w fun e w' => e = .returned (.int .i64 (bI k)) ∧ w = w' := by
  by_cases h : 1 ≤ k ∧ k ≤ 8
  · have hr := bRight_yes h
    rcases k8 h with h | h | h | h | h | h | h | h
    · subst h
      have c : w.cell? ⟨3, 2, none⟩ = some (.int .i64 2) := hT.sh 2
      clear hT
      go_enter Tryz.func134, Tryz.ntmps134
      go_wp2_with fail
      refine (block_Right _ _).mono ?_; rintro e w' ⟨rfl, rfl⟩
      go_wp2_with fail
      go_ret
      exact ⟨rfl, rfl⟩
    · subst h
      have c : w.cell? ⟨3, 5, none⟩ = some (.int .i64 2) := hT.sh 5
      clear hT
      go_enter Tryz.func134, Tryz.ntmps134
      go_wp2_with fail
      refine (block_Right _ _).mono ?_; rintro e w' ⟨rfl, rfl⟩
      go_wp2_with fail
      go_ret
      exact ⟨rfl, rfl⟩
    · subst h
      have c : w.cell? ⟨3, 8, none⟩ = some (.int .i64 2) := hT.sh 8
      clear hT
      go_enter Tryz.func134, Tryz.ntmps134
      go_wp2_with fail
      refine (block_Right _ _).mono ?_; rintro e w' ⟨rfl, rfl⟩
      go_wp2_with fail
      go_ret
      exact ⟨rfl, rfl⟩
    · subst h
      have c : w.cell? ⟨3, 11, none⟩ = some (.int .i64 3) := hT.sh 11
      clear hT
      go_enter Tryz.func134, Tryz.ntmps134
      go_wp2_with fail
      refine (block_Right _ _).mono ?_; rintro e w' ⟨rfl, rfl⟩
      go_wp2_with fail
      go_ret
      exact ⟨rfl, rfl⟩
    · subst h
      have c : w.cell? ⟨3, 14, none⟩ = some (.int .i64 3) := hT.sh 14
      clear hT
      go_enter Tryz.func134, Tryz.ntmps134
      go_wp2_with fail
      refine (block_Right _ _).mono ?_; rintro e w' ⟨rfl, rfl⟩
      go_wp2_with fail
      go_ret
      exact ⟨rfl, rfl⟩
    · subst h
      have c : w.cell? ⟨3, 17, none⟩ = some (.int .i64 5) := hT.sh 17
      clear hT
      go_enter Tryz.func134, Tryz.ntmps134
      go_wp2_with fail
      refine (block_Right _ _).mono ?_; rintro e w' ⟨rfl, rfl⟩
      go_wp2_with fail
      go_ret
      exact ⟨rfl, rfl⟩
    · subst h
      have c : w.cell? ⟨3, 20, none⟩ = some (.int .i64 1) := hT.sh 20
      clear hT
      go_enter Tryz.func134, Tryz.ntmps134
      go_wp2_with fail
      refine (block_Right _ _).mono ?_; rintro e w' ⟨rfl, rfl⟩
      go_wp2_with fail
      go_ret
      exact ⟨rfl, rfl⟩
    · subst h
      have c : w.cell? ⟨3, 23, none⟩ = some (.int .i64 1) := hT.sh 23
      clear hT
      go_enter Tryz.func134, Tryz.ntmps134
      go_wp2_with fail
      refine (block_Right _ _).mono ?_; rintro e w' ⟨rfl, rfl⟩
      go_wp2_with fail
      go_ret
      exact ⟨rfl, rfl⟩
  · have hr := bRight_no h
    go_enter Tryz.func134, Tryz.ntmps134
    go_wp2_with fail
    refine (block_Right _ _).mono ?_; rintro e w' ⟨rfl, rfl⟩
    go_wp2_with fail
    go_ret
    exact ⟨by rw [bI_no h]; rfl, rfl⟩
def nmV (k : Int) : Array Value := ((bF k).map fun x => Value.string ⟨x.1.toArray⟩).toArray
def tyV (k : Int) : Array Value := ((bF k).map fun x => Value.int .i64 x.2).toArray
theorem ref11_Fields (k : Int) (h : 1 ≤ k ∧ k ≤ 8) (w : World) : Calls Tryz.prog 64 #[.int .i64 k] w fun e w' => e = .returned (.tuple #[.slice (some ⟨w.heap.size, 0, none⟩) (bF k).length (bF k).length, .slice (some ⟨w.heap.size + 1, 0, none⟩) (bF k).length (bF k).length, .int .i64 (bI k)]) ∧ w' = (w.alloc (.cells (nmV k) 9)).alloc (.cells (tyV k) 3) := by
  rcases k8 h with h | h | h | h | h | h | h | h
  all_goals
    subst h
    go_enter Tryz.func64, Tryz.ntmps64
    go_wp2
    go_returns
    exact ⟨rfl, rfl⟩
theorem ref11_Fields_no (k : Int) (h : ¬ (1 ≤ k ∧ k ≤ 8)) (w : World) : Calls Tryz.prog 64 #[.int .i64 k] w fun e w' => e = .returned (.tuple #[.slice none 0 0, .slice none 0 0, .int .i64 0]) ∧ w' = w := by
  have e4 : ((k : Int) == 4) = false := beq_eq_false_iff_ne.2 (by omega)
  have e5 : ((k : Int) == 5) = false := beq_eq_false_iff_ne.2 (by omega)
  have e6 : ((k : Int) == 6) = false := beq_eq_false_iff_ne.2 (by omega)
  have e7 : ((k : Int) == 7) = false := beq_eq_false_iff_ne.2 (by omega)
  have e8 : ((k : Int) == 8) = false := beq_eq_false_iff_ne.2 (by omega)
  by_cases h1 : 1 ≤ k
  · have h3 : 8 < k := by omega
    clear h
    go_enter Tryz.func64, Tryz.ntmps64
    go_wp2
    go_returns
    exact ⟨rfl, rfl⟩
  · clear h
    go_enter Tryz.func64, Tryz.ntmps64
    go_wp2
    go_returns
    exact ⟨rfl, rfl⟩
end Go.Proofs.YtefejcofmopjfaaGreatDoor
