/- Layer 7: what the rows' lists give. -/
import Derived.Test.YthikfdhgkpakpaaDoorLaid
import Derived.Test.YthikfdhgkpakpaaDoorAlu
namespace Go.Proofs.YthikfdhgkpakpaaDoor
open Go.RowKit
theorem kSizes_of {W : World} {rest : List (String × DataW Unit)} (h : laidMet Tryd.prog (("ladderback/kind.sizes", Rows.laid_ladderback_kind_sizes) :: rest) W) : KSizes W := by
  have c := laid_cells (g := 1) (n := 6) (t := 42) (e := 3) (by kernel_rfl) (by kernel_rfl) Tryd.underlying42 (Or.inl ⟨_, Tryd.underlying3⟩) (by kernel_rfl) (by kernel_rfl) h
  exact ⟨c 0, c 1, c 2, c 3, c 4, c 5, big_of_cell (c 0)⟩
theorem aGoes_of {W : World} {rest : List (String × DataW Unit)} (h : laidMet Tryd.prog (("ladderback/alu.goes", Rows.laid_ladderback_alu_goes) :: rest) W) : AGoes W := by
  have c := laid_cells (g := 0) (n := 18) (t := 38) (e := 3) (by kernel_rfl) (by kernel_rfl) Tryd.underlying38 (Or.inl ⟨_, Tryd.underlying3⟩) (by kernel_rfl) (by kernel_rfl) h
  exact ⟨fun i _ => by rw [c i, ← List.getElem?_map]; rfl, big_of_cell (c 0)⟩
theorem laidMet_of_H {l : List (String × DataW Unit)} {W : World} (h : laidMetH Tryd.prog l W) (hp : (l.all fun x => x.2.handleName?.isNone) = true) : laidMet Tryd.prog l W := (Go.MakeChecks.laidMetH_plain _ _ _ hp) ▸ h
end Go.Proofs.YthikfdhgkpakpaaDoor
