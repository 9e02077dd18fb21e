/- Layer 13: what the rows' lists give. -/
import Derived.Test.YtaeaiaamhgcmbaaDoorLaidFlat
import Derived.Test.YtaeaiaamhgcmbaaDoorOp
namespace Go.Proofs.YtaeaiaamhgcmbaaDoor
open Go.RowKit
theorem laidMet_of_H {l : List (String × DataW Unit)} {W : World} (h : laidMetH Tryd.prog l W) (hp : (l.all fun x => x.2.handleName?.isNone) = true) : laidMet Tryd.prog l W := (Go.MakeChecks.laidMetH_plain _ _ _ hp) ▸ h
theorem sTab_of {W : World} {rest : List (String × DataW Unit)} (h : laidMet Tryd.prog (("ladderback/op.shapes", Rows.laid_ladderback_op_shapes) :: rest) W) : STab W := by
  have d := laid_flat (g := 0) (t := 56) (q := 3) (by kernel_rfl) (by kernel_rfl) (flatAt_array (n := 38) (m := 2) Tryd.underlying56 (flatAt_array (n := 2) (m := 1) Tryd.underlying55 (flatAt_int Tryd.underlying3) (by kernel_rfl) (by kernel_rfl)) (by kernel_rfl) (by kernel_rfl)) h
  have ed : flatF 3 (Rows.laid_ladderback_op_shapes : DataW Unit) = shapesV := by kernel_rfl
  rw [ed] at d
  exact ⟨d, big_of_cell (d 0)⟩
theorem oTab_of {W : World} {rest : List (String × DataW Unit)} (h : laidMet Tryd.prog (("ladderback/op.words", Rows.laid_ladderback_op_words) :: ("ladderback/op.shapes", Rows.laid_ladderback_op_shapes) :: rest) W) : OTab W := by
  have c := laid_flat (g := 1) (t := 58) (q := 2) (by kernel_rfl) (by kernel_rfl) (flatAt_array (n := 38) (m := 1) Tryd.underlying58 (flatAt_string Tryd.underlying9) (by kernel_rfl) (by kernel_rfl)) h
  have ec : flatF 2 (Rows.laid_ladderback_op_words : DataW Unit) = wordsV := by kernel_rfl
  rw [ec] at c
  have d := sTab_of (laidMet_head_tail h)
  exact ⟨c, d.sh, big_of_cell (c 0), d.big1⟩
end Go.Proofs.YtaeaiaamhgcmbaaDoor
