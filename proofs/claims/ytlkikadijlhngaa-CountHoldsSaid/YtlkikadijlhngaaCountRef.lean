/- Contracts of count's answer (layer 9). -/
import Derived.Test.YtlkikadijlhngaaCountStep
namespace Go.Proofs.Ytlkikadijlhngaa
open Go.RowKit
set_option linter.unusedSimpArgs false
set_option linter.unusedVariables false
theorem ref09_bit (b : Bool) (w : World) : Calls Try.prog 13 #[.bool b] w fun e w' => e = .returned (.int .i64 (bnum b)) ∧ w = w' := by
  cases b
  · go_enter Try.func13, Try.ntmps13; go_wp2; go_ret; exact ⟨rfl, rfl⟩
  · go_enter Try.func13, Try.ntmps13; go_wp2; go_ret; exact ⟨rfl, rfl⟩
theorem ref09_up (n : Int) (w : World) (hl : -9223372036854775808 ≤ n) : Calls Try.prog 15 #[.int .i64 n] w fun e w' => e = .returned (.int .i64 (ctMore n)) ∧ w = w' := by
  by_cases h : n < 32767
  · have H := Lib.hid (show ctMore n = n + 1 by unfold ctMore; rw [if_pos h])
    go_enter Try.func15, Try.ntmps15; go_wp2; go_ret; exact ⟨by rw [H.out] <;> rfl, rfl⟩
  · have H := Lib.hid (show ctMore n = n by unfold ctMore; rw [if_neg h])
    go_enter Try.func15, Try.ntmps15; go_wp2; go_ret; exact ⟨by rw [H.out] <;> rfl, rfl⟩
theorem ref09_down (n : Int) (w : World) (hl : n ≤ 9223372036854775807) : Calls Try.prog 16 #[.int .i64 n] w fun e w' => e = .returned (.int .i64 (ctLess n)) ∧ w = w' := by
  by_cases h : n > -32768
  · have H := Lib.hid (show ctLess n = n - 1 by unfold ctLess; rw [if_pos h])
    go_enter Try.func16, Try.ntmps16; go_wp2; go_ret; exact ⟨by rw [H.out] <;> rfl, rfl⟩
  · have H := Lib.hid (show ctLess n = n by unfold ctLess; rw [if_neg h])
    have h2 : n ≤ -32768 := by omega
    go_enter Try.func16, Try.ntmps16; go_wp2; go_ret; exact ⟨by rw [H.out] <;> rfl, rfl⟩
theorem ref09_rises05 (x0 x1 x2 x3 x4 x5 x6 x7 x8 x9 : Int) (w : World) (r : Bool) (hr : rb x0 x5 = r) : Calls Try.prog 14 #[.agg #[.int .i64 x0, .int .i64 x1, .int .i64 x2, .int .i64 x3, .int .i64 x4, .int .i64 x5, .int .i64 x6, .int .i64 x7, .int .i64 x8, .int .i64 x9], .int .i64 0, .int .i64 5] w fun e w' => e = .returned (.bool r) ∧ w' = w.alloc (.cells #[.int .i64 x0, .int .i64 x1, .int .i64 x2, .int .i64 x3, .int .i64 x4, .int .i64 x5, .int .i64 x6, .int .i64 x7, .int .i64 x8, .int .i64 x9] 24) := by
  have H := Lib.hid hr
  clear hr
  rcases (show ((x0 : Int) != 0) = true ∨ ((x0 : Int) != 0) = false by cases (x0 != 0) <;> simp) with e0 | e0
  all_goals
    go_enter Try.func14, Try.ntmps14
    go_wp2
    go_ret
    exact ⟨by rw [← H.out]; unfold rb; rw [e0]; rfl, rfl⟩
theorem ref09_rises08 (x0 x1 x2 x3 x4 x5 x6 x7 x8 x9 : Int) (w : World) (r : Bool) (hr : rb x0 x8 = r) : Calls Try.prog 14 #[.agg #[.int .i64 x0, .int .i64 x1, .int .i64 x2, .int .i64 x3, .int .i64 x4, .int .i64 x5, .int .i64 x6, .int .i64 x7, .int .i64 x8, .int .i64 x9], .int .i64 0, .int .i64 8] w fun e w' => e = .returned (.bool r) ∧ w' = w.alloc (.cells #[.int .i64 x0, .int .i64 x1, .int .i64 x2, .int .i64 x3, .int .i64 x4, .int .i64 x5, .int .i64 x6, .int .i64 x7, .int .i64 x8, .int .i64 x9] 24) := by
  have H := Lib.hid hr
  clear hr
  rcases (show ((x0 : Int) != 0) = true ∨ ((x0 : Int) != 0) = false by cases (x0 != 0) <;> simp) with e0 | e0
  all_goals
    go_enter Try.func14, Try.ntmps14
    go_wp2
    go_ret
    exact ⟨by rw [← H.out]; unfold rb; rw [e0]; rfl, rfl⟩
theorem ref09_rises19 (x0 x1 x2 x3 x4 x5 x6 x7 x8 x9 : Int) (w : World) (r : Bool) (hr : rb x1 x9 = r) : Calls Try.prog 14 #[.agg #[.int .i64 x0, .int .i64 x1, .int .i64 x2, .int .i64 x3, .int .i64 x4, .int .i64 x5, .int .i64 x6, .int .i64 x7, .int .i64 x8, .int .i64 x9], .int .i64 1, .int .i64 9] w fun e w' => e = .returned (.bool r) ∧ w' = w.alloc (.cells #[.int .i64 x0, .int .i64 x1, .int .i64 x2, .int .i64 x3, .int .i64 x4, .int .i64 x5, .int .i64 x6, .int .i64 x7, .int .i64 x8, .int .i64 x9] 24) := by
  have H := Lib.hid hr
  clear hr
  rcases (show ((x1 : Int) != 0) = true ∨ ((x1 : Int) != 0) = false by cases (x1 != 0) <;> simp) with e0 | e0
  all_goals
    go_enter Try.func14, Try.ntmps14
    go_wp2
    go_ret
    exact ⟨by rw [← H.out]; unfold rb; rw [e0]; rfl, rfl⟩
end Go.Proofs.Ytlkikadijlhngaa
