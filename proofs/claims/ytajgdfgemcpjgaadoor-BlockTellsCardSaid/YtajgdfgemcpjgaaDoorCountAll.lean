/- Layer 9: the answer's Step, whole. -/
import Derived.Test.YtajgdfgemcpjgaaDoorCountRefS4
import Derived.Test.YtajgdfgemcpjgaaDoorCountRefS5
import Derived.Test.YtajgdfgemcpjgaaDoorCountRefS6
import Derived.Test.YtajgdfgemcpjgaaDoorInst
import Derived.Deep.RegionHeld3
namespace Go.Proofs.YtajgdfgemcpjgaaDoor
open Go.RowKit
set_option linter.unusedSimpArgs false
set_option linter.unusedVariables false
set_option maxRecDepth 100000 in
set_option maxHeartbeats 1000000 in
theorem ref09_Step (k x0 x1 x2 x3 x4 x5 x6 x7 x8 x9 : Int) (w : World) (hb : ∀ x ∈ [x4, x7], -9223372036854775808 ≤ x ∧ x ≤ 9223372036854775807) : Calls Tryd.prog 33 #[.int .i64 k, .agg #[.int .i64 x0, .int .i64 x1, .int .i64 x2, .int .i64 x3, .int .i64 x4, .int .i64 x5, .int .i64 x6, .int .i64 x7, .int .i64 x8, .int .i64 x9]] w
    fun e w' => e = .returned (ctStep k x0 x1 x2 x3 x4 x5 x6 x7 x8 x9) ∧ Below w.heap.size w w' := by
  have b4 := hb x4 (by simp)
  have bb7 := hb x7 (by simp)
  by_cases h4 : k = 4
  · subst h4; exact ref09_Step4 x0 x1 x2 x3 x4 x5 x6 x7 x8 x9 w b4
  by_cases h5 : k = 5
  · subst h5; exact ref09_Step5 x0 x1 x2 x3 x4 x5 x6 x7 x8 x9 w b4
  by_cases h6 : k = 6
  · subst h6; exact ref09_Step6 x0 x1 x2 x3 x4 x5 x6 x7 x8 x9 w bb7
  have HV := Lib.hid (show ctStep k x0 x1 x2 x3 x4 x5 x6 x7 x8 x9 = .agg #[.int .i64 x0, .int .i64 x1, .int .i64 x2, .int .i64 x3, .int .i64 x4, .int .i64 x5, .int .i64 x6, .int .i64 x7, .int .i64 x8, .int .i64 x9] by unfold ctStep; rw [if_neg h4, if_neg h5, if_neg h6])
  have e4 : ((k : Int) == 4) = false := by simpa using h4
  have e5 : ((k : Int) == 5) = false := by simpa using h5
  have e6 : ((k : Int) == 6) = false := by simpa using h6
  clear hb h4 h5 h6
  go_enter Tryd.func33, Tryd.ntmps33
  go_wp2_with fail
  go_returns
  exact ⟨by rw [HV.out], by (repeat' (first | (with_reducible exact Below.refl _ _) | (with_reducible assumption) | (with_reducible refine below_drewN ?_ _) | (with_reducible refine Below.alloc ?_ ?_ _) | (with_reducible refine Below.drew ?_) | (with_reducible refine Below.setCell ?_ ?_ _) | go_size))⟩
end Go.Proofs.YtajgdfgemcpjgaaDoor
