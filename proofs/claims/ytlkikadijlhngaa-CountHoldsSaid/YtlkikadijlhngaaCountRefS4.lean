/- Contracts of count's answer (layer 9): Step. -/
import Derived.Test.YtlkikadijlhngaaCountRef
namespace Go.Proofs.Ytlkikadijlhngaa
open Go.RowKit
set_option linter.unusedSimpArgs false
set_option linter.unusedVariables false
set_option maxRecDepth 100000 in
set_option maxHeartbeats 4000000 in
theorem ref09_Step4 (x0 x1 x2 x3 x4 x5 x6 x7 x8 x9 : Int) (w : World) (bb4 : -9223372036854775808 ≤ x4 ∧ x4 ≤ 9223372036854775807) : Calls Try.prog 7 #[.int .i64 4, .agg #[.int .i64 x0, .int .i64 x1, .int .i64 x2, .int .i64 x3, .int .i64 x4, .int .i64 x5, .int .i64 x6, .int .i64 x7, .int .i64 x8, .int .i64 x9]] w
    fun e w' => e = .returned (.agg #[.int .i64 x0, .int .i64 x1, .int .i64 x2, .int .i64 (bnum (decide (x2 ≤ u4 x0 x1 x4 x5))), .int .i64 (u4 x0 x1 x4 x5), .int .i64 (bnum (x0 != 0)), .int .i64 x6, .int .i64 x7, .int .i64 x8, .int .i64 x9]) ∧ Below w.heap.size w w' := by
  have cases3 : (∃ z, u4 x0 x1 x4 x5 = z ∧ ((x1 != 0) = true ∧ z = 0 ∨ (x1 != 0) = false ∧ rb x0 x5 = true ∧ z = ctMore x4 ∨ (x1 != 0) = false ∧ rb x0 x5 = false ∧ x4 = z)) := by
    refine ⟨_, rfl, ?_⟩
    unfold u4
    by_cases h1 : x1 = 0 <;> cases hr : rb x0 x5 <;> simp [h1]
  obtain ⟨z, hz, hw⟩ := cases3
  rw [hz]
  clear hz
  obtain ⟨g, hg⟩ : ∃ g, decide (x2 ≤ z) = g := ⟨_, rfl⟩
  rw [hg]
  obtain ⟨r, hr⟩ : ∃ r, rb x0 x5 = r := ⟨_, rfl⟩
  rw [hr] at hw
  have Hr := Lib.hid hr
  clear hr
  rcases hw with ⟨hc, rfl⟩ | ⟨hc, rfl, rfl⟩ | ⟨hc, rfl, rfl⟩
  all_goals cases g
  all_goals
    go_enter Try.func7, Try.ntmps7
    go_wp2_with (first | (go_at_call 13; refine (ref09_bit _ _).mono ?_; rintro e w' ⟨rfl, rfl⟩) | (go_at_call 15; refine (ref09_up _ _ bb4.1).mono ?_; rintro e w' ⟨rfl, rfl⟩) | (go_at_call 16; refine (ref09_down _ _ bb4.2).mono ?_; rintro e w' ⟨rfl, rfl⟩) | (go_at_call_of 14 (Value.int .i64 0); refine (ref09_rises05 x0 x1 x2 x3 x4 x5 x6 x7 x8 x9 _ _ Hr.out).mono ?_; rintro e w' ⟨rfl, rfl⟩) | fail)
    go_wp2_with fail
    refine bodyPost_ret (by simp [results, Try.results7, go_sem, more_cell, more_size, more_frozen]; try rfl) rfl ?_
    exact ⟨by first | rfl | (simp; done), by (repeat' (first | (with_reducible exact Below.refl _ _) | (with_reducible assumption) | (with_reducible refine below_drewN ?_ _) | (with_reducible refine Below.alloc ?_ ?_ _) | (with_reducible refine Below.drew ?_) | (with_reducible refine Below.setCell ?_ ?_ _) | go_size))⟩
end Go.Proofs.Ytlkikadijlhngaa
