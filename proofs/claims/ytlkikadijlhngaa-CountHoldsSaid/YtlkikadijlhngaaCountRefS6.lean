/- Contracts of count's answer (layer 9): Step. -/
import Derived.Test.YtlkikadijlhngaaCountRef
namespace Go.Proofs.Ytlkikadijlhngaa
open Go.RowKit
set_option linter.unusedSimpArgs false
set_option linter.unusedVariables false
set_option maxRecDepth 100000 in
set_option maxHeartbeats 4000000 in
theorem ref09_Step6 (x0 x1 x2 x3 x4 x5 x6 x7 x8 x9 : Int) (w : World) (bb7 : -9223372036854775808 ≤ x7 ∧ x7 ≤ 9223372036854775807) : Calls Try.prog 7 #[.int .i64 6, .agg #[.int .i64 x0, .int .i64 x1, .int .i64 x2, .int .i64 x3, .int .i64 x4, .int .i64 x5, .int .i64 x6, .int .i64 x7, .int .i64 x8, .int .i64 x9]] w
    fun e w' => e = .returned (.agg #[.int .i64 x0, .int .i64 x1, .int .i64 x2, .int .i64 x3, .int .i64 x4, .int .i64 (bnum (decide (x4 ≤ b7 x0 x1 x2 x3 x4 x7 x8 x9))), .int .i64 (bnum (decide (b7 x0 x1 x2 x3 x4 x7 x8 x9 ≤ 0))), .int .i64 (b7 x0 x1 x2 x3 x4 x7 x8 x9), .int .i64 (bnum (x0 != 0)), .int .i64 (bnum (x1 != 0))]) ∧ Below w.heap.size w w' := by
  have cases6 : (∃ z c d, b7 x0 x1 x2 x3 x4 x7 x8 x9 = z ∧ rb x0 x8 = c ∧ rb x1 x9 = d ∧ ((x2 != 0) = true ∧ z = 0 ∨ (x2 != 0) = false ∧ (x3 != 0) = true ∧ z = x4 ∨ (x2 != 0) = false ∧ (x3 != 0) = false ∧ c = true ∧ d = false ∧ z = ctMore x7 ∨ (x2 != 0) = false ∧ (x3 != 0) = false ∧ c = false ∧ d = true ∧ z = ctLess x7 ∨ (x2 != 0) = false ∧ (x3 != 0) = false ∧ c = true ∧ d = true ∧ x7 = z ∨ (x2 != 0) = false ∧ (x3 != 0) = false ∧ c = false ∧ d = false ∧ x7 = z)) := by
    refine ⟨_, _, _, rfl, rfl, rfl, ?_⟩
    unfold b7
    by_cases h2 : x2 = 0 <;> by_cases h3 : x3 = 0 <;> cases hr : rb x0 x8 <;> cases hs : rb x1 x9 <;> simp [h2, h3]
  obtain ⟨z, c, d, hz, hc, hd, hw⟩ := cases6
  rw [hz]
  clear hz
  have Hc := Lib.hid hc
  have Hd := Lib.hid hd
  clear hc hd
  rcases hw with ⟨h2, rfl⟩ | ⟨h2, h3, rfl⟩ | ⟨h2, h3, rfl, rfl, rfl⟩ | ⟨h2, h3, rfl, rfl, rfl⟩ | ⟨h2, h3, rfl, rfl, rfl⟩ | ⟨h2, h3, rfl, rfl, rfl⟩
  all_goals
    go_enter Try.func7, Try.ntmps7
    go_wp2_with (first | (go_at_call 13; refine (ref09_bit _ _).mono ?_; rintro e w' ⟨rfl, rfl⟩) | (go_at_call 15; refine (ref09_up _ _ bb7.1).mono ?_; rintro e w' ⟨rfl, rfl⟩) | (go_at_call 16; refine (ref09_down _ _ bb7.2).mono ?_; rintro e w' ⟨rfl, rfl⟩) | (go_at_call_of 14 (Value.int .i64 0); refine (ref09_rises08 x0 x1 x2 x3 x4 x5 x6 x7 x8 x9 _ _ Hc.out).mono ?_; rintro e w' ⟨rfl, rfl⟩) | (go_at_call_of 14 (Value.int .i64 1); refine (ref09_rises19 x0 x1 x2 x3 x4 x5 x6 x7 x8 x9 _ _ Hd.out).mono ?_; rintro e w' ⟨rfl, rfl⟩) | fail)
    go_wp2_with fail
    refine bodyPost_ret (by simp [results, Try.results7, go_sem, more_cell, more_size, more_frozen]; try rfl) rfl ?_
    exact ⟨by first | rfl | (simp; done), by (repeat' (first | (with_reducible exact Below.refl _ _) | (with_reducible assumption) | (with_reducible refine below_drewN ?_ _) | (with_reducible refine Below.alloc ?_ ?_ _) | (with_reducible refine Below.drew ?_) | (with_reducible refine Below.setCell ?_ ?_ _) | go_size))⟩
end Go.Proofs.Ytlkikadijlhngaa
