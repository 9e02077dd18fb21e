/- Layer 12: what the rows' lists give. -/
import Derived.Test.YtmjhjcfjgefdiaaDoorLaidFlat
import Derived.Test.YtmjhjcfjgefdiaaDoorOp
namespace Go.Proofs.YtmjhjcfjgefdiaaDoor
open Go.RowKit
theorem laidMet_of_H {l : List (String × DataW Unit)} {W : World} (h : laidMetH Tryd.prog l W) (hp : (l.all fun x => x.2.handleName?.isNone) = true) : laidMet Tryd.prog l W := (Go.MakeChecks.laidMetH_plain _ _ _ hp) ▸ h
theorem oTab_of {W : World} {rest : List (String × DataW Unit)} (h : laidMet Tryd.prog (("ladderback/op.words", Rows.laid_ladderback_op_words) :: ("ladderback/op.shapes", Rows.laid_ladderback_op_shapes) :: rest) W) : OTab W := by
  have c := laid_flat (g := 1) (t := 42) (q := 2) (by kernel_rfl) (by kernel_rfl) (flatAt_array (n := 38) (m := 1) Tryd.underlying42 (flatAt_string Tryd.underlying9) (by kernel_rfl) (by kernel_rfl)) h
  have d := laid_flat (g := 0) (t := 40) (q := 3) (by kernel_rfl) (by kernel_rfl) (flatAt_array (n := 38) (m := 2) Tryd.underlying40 (flatAt_array (n := 2) (m := 1) Tryd.underlying39 (flatAt_int Tryd.underlying3) (by kernel_rfl) (by kernel_rfl)) (by kernel_rfl) (by kernel_rfl)) (laidMet_head_tail h)
  have ec : flatF 2 (Rows.laid_ladderback_op_words : DataW Unit) = wordsV := by kernel_rfl
  have ed : flatF 3 (Rows.laid_ladderback_op_shapes : DataW Unit) = shapesV := by kernel_rfl
  rw [ec] at c
  rw [ed] at d
  exact ⟨c, d, big_of_cell (c 0), big_of_cell (d 0)⟩
end Go.Proofs.YtmjhjcfjgefdiaaDoor
