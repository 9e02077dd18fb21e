/- Layer 6: what the rows' lists give. -/
import Derived.Test.YtochjlllfbmhpaaDoorBitA
import Derived.Test.YtochjlllfbmhpaaDoorLaidFlat
namespace Go.Proofs.YtochjlllfbmhpaaDoor
open Go.RowKit
theorem laidMet_of_H {l : List (String × DataW Unit)} {W : World} (h : laidMetH Tryd.prog l W) (hp : (l.all fun x => x.2.handleName?.isNone) = true) : laidMet Tryd.prog l W := (Go.MakeChecks.laidMetH_plain _ _ _ hp) ▸ h
theorem db_of {W : World} {rest : List (String × DataW Unit)} (h : laidMet Tryd.prog (("math/bits.deBruijn64tab", Rows.laid_math_bits_deBruijn64tab) :: rest) W) : DB W := by
  have d := laid_flat (g := 0) (t := 49) (q := 2) (by kernel_rfl) (by kernel_rfl) (flatAt_array (n := 64) (m := 1) Tryd.underlying49 (flatAt_int Tryd.underlying5) (by kernel_rfl) (by kernel_rfl)) h
  have ed : flatF 2 (Rows.laid_math_bits_deBruijn64tab : DataW Unit) = Lib.deBruijn64tab.map fun (n : Nat) => Value.int .u8 (n : Int) := by kernel_rfl
  rw [ed] at d
  intro j hj
  have hl : Lib.deBruijn64tab.length = 64 := rfl
  rw [d j]
  simp [List.getD, hl, hj]
end Go.Proofs.YtochjlllfbmhpaaDoor
