/- Layer 18: what is there, by what an operation has. -/
import Derived.Test.YtefejcofmopjfaaGreatDoorRefsTwo
namespace Go.Proofs.YtefejcofmopjfaaGreatDoor
open Go.RowKit
set_option linter.unusedSimpArgs false
set_option linter.unusedVariables false
theorem thereP_1 {p : Pr} {x : Un} {o a b : Int} (h : oA o = 1) : thereP p x o a b = decide (a < p.consts.length) := by unfold thereP; rw [if_pos h]
theorem thereP_2 {p : Pr} {x : Un} {o a b : Int} (h : oA o = 2) : thereP p x o a b = varP p o a := by unfold thereP; rw [if_neg (by omega), if_pos h]
theorem thereP_3 {p : Pr} {x : Un} {o a b : Int} (h : oA o = 3) : thereP p x o a b = decide (a < slotsN x) := by unfold thereP; rw [if_neg (by omega), if_neg (by omega), if_pos h]
theorem thereP_7 {p : Pr} {x : Un} {o a b : Int} (h : oA o = 7) : thereP p x o a b = decide (0 < a ∧ a < p.units.length) := by unfold thereP; rw [if_neg (by omega), if_neg (by omega), if_neg (by omega), if_pos h]
theorem thereP_8 {p : Pr} {x : Un} {o a b : Int} (h : oA o = 8) : thereP p x o a b = decide (a < p.blocks.length ∧ (oB o = 9 → b < reachN o (kindAt p a))) := by unfold thereP; rw [if_neg (by omega), if_neg (by omega), if_neg (by omega), if_neg (by omega), if_pos h]
theorem thereP_n {p : Pr} {x : Un} {o a b : Int} (h1 : oA o ≠ 1) (h2 : oA o ≠ 2) (h3 : oA o ≠ 3) (h7 : oA o ≠ 7) (h8 : oA o ≠ 8) : thereP p x o a b = true := by unfold thereP; rw [if_neg h1, if_neg h2, if_neg h3, if_neg h7, if_neg h8]
end Go.Proofs.YtefejcofmopjfaaGreatDoor
