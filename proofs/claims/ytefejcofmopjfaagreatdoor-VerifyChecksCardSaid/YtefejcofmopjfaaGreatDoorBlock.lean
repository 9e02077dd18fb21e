/- Layer 11: the tables of block, and the contracts of its small functions. -/
import Derived.Test.YtefejcofmopjfaaGreatDoorBlockC
import Derived.Test.YtefejcofmopjfaaGreatDoorMore
import Derived.WalkKit
import Derived.WalkSpells
import Derived.WalkLawsBesides
namespace Go.Proofs.YtefejcofmopjfaaGreatDoor
open Go.RowKit
set_option linter.unusedSimpArgs false
set_option linter.unusedVariables false
def rowsV : List Value := [.string ⟨#[73, 78]⟩, .int .i64 1, .string ⟨#[80, 84]⟩, .int .i64 6, .string ⟨#[81]⟩, .int .i64 1, .string ⟨#[69, 84]⟩, .int .i64 6, .string ⟨#[]⟩, .int .i64 0, .string ⟨#[]⟩, .int .i64 0, .string ⟨#[]⟩, .int .i64 0, .string ⟨#[]⟩, .int .i64 0, .string ⟨#[67, 85]⟩, .int .i64 1, .string ⟨#[82]⟩, .int .i64 1, .string ⟨#[80, 86]⟩, .int .i64 2, .string ⟨#[81]⟩, .int .i64 1, .string ⟨#[67, 86]⟩, .int .i64 2, .string ⟨#[]⟩, .int .i64 0, .string ⟨#[]⟩, .int .i64 0, .string ⟨#[]⟩, .int .i64 0, .string ⟨#[67, 68]⟩, .int .i64 1, .string ⟨#[76, 68]⟩, .int .i64 1, .string ⟨#[80, 86]⟩, .int .i64 2, .string ⟨#[81]⟩, .int .i64 1, .string ⟨#[67, 86]⟩, .int .i64 2, .string ⟨#[]⟩, .int .i64 0, .string ⟨#[]⟩, .int .i64 0, .string ⟨#[]⟩, .int .i64 0, .string ⟨#[67, 85]⟩, .int .i64 1, .string ⟨#[67, 68]⟩, .int .i64 1, .string ⟨#[82]⟩, .int .i64 1, .string ⟨#[76, 68]⟩, .int .i64 1, .string ⟨#[80, 86]⟩, .int .i64 2, .string ⟨#[81, 85]⟩, .int .i64 1, .string ⟨#[81, 68]⟩, .int .i64 1, .string ⟨#[67, 86]⟩, .int .i64 2, .string ⟨#[67, 76, 75]⟩, .int .i64 1, .string ⟨#[81]⟩, .int .i64 1, .string ⟨#[]⟩, .int .i64 0, .string ⟨#[]⟩, .int .i64 0, .string ⟨#[]⟩, .int .i64 0, .string ⟨#[]⟩, .int .i64 0, .string ⟨#[]⟩, .int .i64 0, .string ⟨#[]⟩, .int .i64 0]
structure BTab (w : World) : Prop where
  sh : ∀ i : Nat, w.cell? ⟨3, i, none⟩ = bShapesV[i]?
  rw : ∀ i : Nat, w.cell? ⟨4, i, none⟩ = rowsV[i]?
  big0 : 3 < w.heap.size
  big1 : 4 < w.heap.size
theorem BTab.below {w w' : World} (h : BTab w) (hb : Below w.heap.size w w') : BTab w' :=
  ⟨fun i => (hb.cell h.big0).trans (h.sh i), fun i => (hb.cell h.big1).trans (h.rw i), Nat.lt_of_lt_of_le h.big0 hb.size, Nat.lt_of_lt_of_le h.big1 hb.size⟩
theorem BTab.bs {w : World} (h : BTab w) : BSh w := ⟨h.sh, h.big0⟩
theorem block_Fields (k : Int) (w : World) (hT : BTab w) : Calls Tryz.prog 135 #[.int .i64 k] w fun e w' => e = .returned (.int .i64 ((bF k).length : Int)) ∧ w = w' := block_FieldsS k w hT.bs
theorem block_Inputs (k : Int) (w : World) (hT : BTab w) : Calls Tryz.prog 134 #[.int .i64 k] w fun e w' => e = .returned (.int .i64 (bI k)) ∧ w = w' := block_InputsS k w hT.bs
def bR (k : Int) : Int := if k = 1 ∨ k = 2 ∨ k = 3 then 0 else if k = 4 then 1 else if k = 5 then 2 else if k = 6 then 3 else 4
theorem block_row (k : Int) (h : 1 ≤ k ∧ k ≤ 8) (w : World) : Calls Tryz.prog 147 #[.int .i64 k] w fun e w' => e = .returned (.int .i64 (bR k)) ∧ w = w' := by
  rcases k8 h with h | h | h | h | h | h | h | h
  all_goals
    subst h
    go_enter Tryz.func147, Tryz.ntmps147
    go_wp2
    go_ret
    exact ⟨rfl, rfl⟩
end Go.Proofs.YtefejcofmopjfaaGreatDoor
