/- Layer 1: what the rows' lists give. -/
import Derived.Test.YtddemhpmdmhdcaaDoorLaid
import Derived.Test.YtddemhpmdmhdcaaDoorKind
namespace Go.Proofs.YtddemhpmdmhdcaaDoor
open Go.RowKit
theorem kNames_of {W : World} {rest : List (String × DataW Unit)} (h : laidMet Tryd.prog (("ladderback/kind.names", Rows.laid_ladderback_kind_names) :: rest) W) : KNames W := by
  have c := laid_cells (g := 0) (n := 6) (t := 48) (e := 9) (by kernel_rfl) (by kernel_rfl) Tryd.underlying48 (Or.inr (Or.inl Tryd.underlying9)) (by kernel_rfl) (by kernel_rfl) h
  exact ⟨c 0, c 1, c 2, c 3, c 4, c 5, big_of_cell (c 0)⟩
theorem laidMet_of_H {l : List (String × DataW Unit)} {W : World} (h : laidMetH Tryd.prog l W) (hp : (l.all fun x => x.2.handleName?.isNone) = true) : laidMet Tryd.prog l W := (Go.MakeChecks.laidMetH_plain _ _ _ hp) ▸ h
end Go.Proofs.YtddemhpmdmhdcaaDoor
