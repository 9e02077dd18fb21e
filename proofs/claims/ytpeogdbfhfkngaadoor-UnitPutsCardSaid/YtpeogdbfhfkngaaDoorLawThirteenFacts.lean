/- Layer 13: what the rows' lists give. -/
import Derived.Test.YtpeogdbfhfkngaaDoorLaidFlat
import Derived.Test.YtpeogdbfhfkngaaDoorOp
namespace Go.Proofs.YtpeogdbfhfkngaaDoor
open Go.RowKit
theorem laidMet_of_H {l : List (String × DataW Unit)} {W : World} (h : laidMetH Tryd.prog l W) (hp : (l.all fun x => x.2.handleName?.isNone) = true) : laidMet Tryd.prog l W := (Go.MakeChecks.laidMetH_plain _ _ _ hp) ▸ h
theorem sTab_of {W : World} {rest : List (String × DataW Unit)} (h : laidMet Tryd.prog (("ladderback/op.shapes", Rows.laid_ladderback_op_shapes) :: rest) W) : STab W := by
  have d := laid_flat (g := 0) (t := 76) (q := 3) (by kernel_rfl) (by kernel_rfl) (flatAt_array (n := 38) (m := 2) Tryd.underlying76 (flatAt_array (n := 2) (m := 1) Tryd.underlying75 (flatAt_int Tryd.underlying3) (by kernel_rfl) (by kernel_rfl)) (by kernel_rfl) (by kernel_rfl)) h
  have ed : flatF 3 (Rows.laid_ladderback_op_shapes : DataW Unit) = shapesV := by kernel_rfl
  rw [ed] at d
  exact ⟨d, big_of_cell (d 0)⟩
end Go.Proofs.YtpeogdbfhfkngaaDoor
