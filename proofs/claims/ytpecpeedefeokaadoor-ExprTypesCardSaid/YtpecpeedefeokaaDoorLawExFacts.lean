/- Layer 26: what the rows' lists give. -/
import Derived.Test.YtpecpeedefeokaaDoorLawElevenFacts
import Derived.Test.YtpecpeedefeokaaDoorAlu
namespace Go.Proofs.YtpecpeedefeokaaDoor
open Go.RowKit
theorem aGoes_of {W : World} {rest : List (String × DataW Unit)} (h : laidMet Tryd.prog (("ladderback/alu.goes", Rows.laid_ladderback_alu_goes) :: rest) W) : AGoes W := by
  have c := laid_cells (g := 2) (n := 18) (t := 81) (e := 3) (by kernel_rfl) (by kernel_rfl) Tryd.underlying81 (Or.inl ⟨_, Tryd.underlying3⟩) (by kernel_rfl) (by kernel_rfl) h
  exact ⟨fun i _ => by rw [c i, ← List.getElem?_map]; rfl, big_of_cell (c 0)⟩
theorem exTab_of {W : World} {rest : List (String × DataW Unit)} (h : laidMet Tryd.prog (("ladderback/alu.goes", Rows.laid_ladderback_alu_goes) :: ("ladderback/block.shapes", Rows.laid_ladderback_block_shapes) :: ("ladderback/block.rows", Rows.laid_ladderback_block_rows) :: rest) W) : AGoes W ∧ BTab W :=
  ⟨aGoes_of h, bTab_of (laidMet_head_tail h)⟩
end Go.Proofs.YtpecpeedefeokaaDoor
