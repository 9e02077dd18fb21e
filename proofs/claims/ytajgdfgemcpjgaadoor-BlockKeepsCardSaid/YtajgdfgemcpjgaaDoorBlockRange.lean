/- Layer 11: what is set lies in an integer's range. -/
import Derived.Test.YtajgdfgemcpjgaaDoorBlockS
namespace Go.Proofs.YtajgdfgemcpjgaaDoor
open Go.RowKit
theorem kWrap_rg (t : Int) {v : Int} (h : -9223372036854775808 ≤ v ∧ v ≤ 9223372036854775807) : -9223372036854775808 ≤ kWrap t v ∧ kWrap t v ≤ 9223372036854775807 := by
  by_cases ht : 1 ≤ t ∧ t ≤ 6
  · obtain rfl | rfl | rfl | rfl | rfl | rfl : t = 1 ∨ t = 2 ∨ t = 3 ∨ t = 4 ∨ t = 5 ∨ t = 6 := by omega
    · rw [kWrap_1]; split <;> omega
    · rw [kWrap_2]; omega
    · rw [kWrap_3]; omega
    · rw [kWrap_4]; omega
    · rw [kWrap_5]; omega
    · rw [kWrap_6]; exact h
  · rw [kWrap_no ht]; omega
theorem sj_rg {k i v j x : Int} (h : -9223372036854775808 ≤ v ∧ v ≤ 9223372036854775807) (hx : -9223372036854775808 ≤ x ∧ x ≤ 9223372036854775807) : -9223372036854775808 ≤ sj k i v j x ∧ sj k i v j x ≤ 9223372036854775807 := by
  unfold sj; split
  · exact kWrap_rg _ h
  · exact hx
end Go.Proofs.YtajgdfgemcpjgaaDoor
