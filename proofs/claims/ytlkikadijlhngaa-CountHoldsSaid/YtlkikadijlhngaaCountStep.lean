/- Contracts of count (layer 9): Step, and its answer's. -/
import Derived.Test.YtlkikadijlhngaaCountBoth
import Derived.Test.YtlkikadijlhngaaMore
namespace Go.Proofs.Ytlkikadijlhngaa
open Go.RowKit
set_option linter.unusedSimpArgs false
set_option linter.unusedVariables false
def ctStep (k x0 x1 x2 x3 x4 x5 x6 x7 x8 x9 : Int) : Value :=
  if k = 4 then .agg #[.int .i64 x0, .int .i64 x1, .int .i64 x2, .int .i64 (bnum (decide (x2 ≤ u4 x0 x1 x4 x5))), .int .i64 (u4 x0 x1 x4 x5), .int .i64 (bnum (x0 != 0)), .int .i64 x6, .int .i64 x7, .int .i64 x8, .int .i64 x9] else if k = 5 then .agg #[.int .i64 x0, .int .i64 x1, .int .i64 x2, .int .i64 (bnum (decide (d4 x0 x1 x2 x4 x5 ≤ 0))), .int .i64 (d4 x0 x1 x2 x4 x5), .int .i64 (bnum (x0 != 0)), .int .i64 x6, .int .i64 x7, .int .i64 x8, .int .i64 x9] else if k = 6 then .agg #[.int .i64 x0, .int .i64 x1, .int .i64 x2, .int .i64 x3, .int .i64 x4, .int .i64 (bnum (decide (x4 ≤ b7 x0 x1 x2 x3 x4 x7 x8 x9))), .int .i64 (bnum (decide (b7 x0 x1 x2 x3 x4 x7 x8 x9 ≤ 0))), .int .i64 (b7 x0 x1 x2 x3 x4 x7 x8 x9), .int .i64 (bnum (x0 != 0)), .int .i64 (bnum (x1 != 0))] else .agg #[.int .i64 x0, .int .i64 x1, .int .i64 x2, .int .i64 x3, .int .i64 x4, .int .i64 x5, .int .i64 x6, .int .i64 x7, .int .i64 x8, .int .i64 x9]
set_option maxHeartbeats 1000000 in
theorem count_Step (k x0 x1 x2 x3 x4 x5 x6 x7 x8 x9 : Int) (w : World) (hb : ∀ x ∈ [x4, x7], -9223372036854775808 ≤ x ∧ x ≤ 9223372036854775807) : Calls Try.prog 6 #[.int .i64 k, .agg #[.int .i64 x0, .int .i64 x1, .int .i64 x2, .int .i64 x3, .int .i64 x4, .int .i64 x5, .int .i64 x6, .int .i64 x7, .int .i64 x8, .int .i64 x9]] w
    fun e w' => e = .returned (ctStep k x0 x1 x2 x3 x4 x5 x6 x7 x8 x9) ∧ Below w.heap.size w w' := by
  have b4 := hb x4 (by simp)
  have b7' := hb x7 (by simp)
  clear hb
  have mc := @more_cell
  have mf := @more_frozen
  have ms := @more_set
  have mz := @more_size
  have hk : k = 4 ∨ k = 5 ∨ k = 6 ∨ (k ≠ 4 ∧ k ≠ 5 ∧ k ≠ 6) := by omega
  rcases hk with rfl | rfl | rfl | ⟨h4, h5, h6⟩
  · have HV := Lib.hid (show ctStep 4 x0 x1 x2 x3 x4 x5 x6 x7 x8 x9 = .agg #[.int .i64 x0, .int .i64 x1, .int .i64 x2, .int .i64 (bnum (decide (x2 ≤ u4 x0 x1 x4 x5))), .int .i64 (u4 x0 x1 x4 x5), .int .i64 (bnum (x0 != 0)), .int .i64 x6, .int .i64 x7, .int .i64 x8, .int .i64 x9] from rfl)
    go_enter Try.func6, Try.ntmps6
    go_wp2_with fail
    refine (count_up x0 x1 x2 x3 x4 x5 x6 x7 x8 x9 _ b4).mono ?_; rintro e w1 ⟨rfl, hb⟩
    obtain ⟨l, d, rfl⟩ := more_of hb
    clear hb
    go_wp2_with fail
    refine bodyPost_ret (by simp [results, Try.results6, go_sem, more_cell, more_size, more_frozen]; try rfl) rfl ?_
    exact ⟨by rw [HV.out], by (repeat' (first | (with_reducible exact Below.refl _ _) | (with_reducible assumption) | (with_reducible refine more_below ?_ ?_ _ _) | (with_reducible refine below_drewN ?_ _) | (with_reducible refine Below.alloc ?_ ?_ _) | (with_reducible refine Below.drew ?_) | (with_reducible refine Below.setCell ?_ ?_ _) | (simp only [World.size_alloc, World.size_setCell, World.size_drew, more_size, World.heap_drewN]; omega) | go_size))⟩
  · have HV := Lib.hid (show ctStep 5 x0 x1 x2 x3 x4 x5 x6 x7 x8 x9 = .agg #[.int .i64 x0, .int .i64 x1, .int .i64 x2, .int .i64 (bnum (decide (d4 x0 x1 x2 x4 x5 ≤ 0))), .int .i64 (d4 x0 x1 x2 x4 x5), .int .i64 (bnum (x0 != 0)), .int .i64 x6, .int .i64 x7, .int .i64 x8, .int .i64 x9] from rfl)
    go_enter Try.func6, Try.ntmps6
    go_wp2_with fail
    refine (count_down x0 x1 x2 x3 x4 x5 x6 x7 x8 x9 _ b4).mono ?_; rintro e w1 ⟨rfl, hb⟩
    obtain ⟨l, d, rfl⟩ := more_of hb
    clear hb
    go_wp2_with fail
    refine bodyPost_ret (by simp [results, Try.results6, go_sem, more_cell, more_size, more_frozen]; try rfl) rfl ?_
    exact ⟨by rw [HV.out], by (repeat' (first | (with_reducible exact Below.refl _ _) | (with_reducible assumption) | (with_reducible refine more_below ?_ ?_ _ _) | (with_reducible refine below_drewN ?_ _) | (with_reducible refine Below.alloc ?_ ?_ _) | (with_reducible refine Below.drew ?_) | (with_reducible refine Below.setCell ?_ ?_ _) | (simp only [World.size_alloc, World.size_setCell, World.size_drew, more_size, World.heap_drewN]; omega) | go_size))⟩
  · have HV := Lib.hid (show ctStep 6 x0 x1 x2 x3 x4 x5 x6 x7 x8 x9 = .agg #[.int .i64 x0, .int .i64 x1, .int .i64 x2, .int .i64 x3, .int .i64 x4, .int .i64 (bnum (decide (x4 ≤ b7 x0 x1 x2 x3 x4 x7 x8 x9))), .int .i64 (bnum (decide (b7 x0 x1 x2 x3 x4 x7 x8 x9 ≤ 0))), .int .i64 (b7 x0 x1 x2 x3 x4 x7 x8 x9), .int .i64 (bnum (x0 != 0)), .int .i64 (bnum (x1 != 0))] from rfl)
    go_enter Try.func6, Try.ntmps6
    go_wp2_with fail
    refine (count_both x0 x1 x2 x3 x4 x5 x6 x7 x8 x9 _ b7').mono ?_; rintro e w1 ⟨rfl, hb⟩
    obtain ⟨l, d, rfl⟩ := more_of hb
    clear hb
    go_wp2_with fail
    refine bodyPost_ret (by simp [results, Try.results6, go_sem, more_cell, more_size, more_frozen]; try rfl) rfl ?_
    exact ⟨by rw [HV.out], by (repeat' (first | (with_reducible exact Below.refl _ _) | (with_reducible assumption) | (with_reducible refine more_below ?_ ?_ _ _) | (with_reducible refine below_drewN ?_ _) | (with_reducible refine Below.alloc ?_ ?_ _) | (with_reducible refine Below.drew ?_) | (with_reducible refine Below.setCell ?_ ?_ _) | (simp only [World.size_alloc, World.size_setCell, World.size_drew, more_size, World.heap_drewN]; omega) | go_size))⟩
  · have HV := Lib.hid (show ctStep k x0 x1 x2 x3 x4 x5 x6 x7 x8 x9 = .agg #[.int .i64 x0, .int .i64 x1, .int .i64 x2, .int .i64 x3, .int .i64 x4, .int .i64 x5, .int .i64 x6, .int .i64 x7, .int .i64 x8, .int .i64 x9] by unfold ctStep; rw [if_neg h4, if_neg h5, if_neg h6])
    have e4 : ((k : Int) == 4) = false := by simpa using h4
    have e5 : ((k : Int) == 5) = false := by simpa using h5
    have e6 : ((k : Int) == 6) = false := by simpa using h6
    go_enter Try.func6, Try.ntmps6
    go_wp2_with fail
    go_returns
    exact ⟨by rw [HV.out], by (repeat' (first | (with_reducible exact Below.refl _ _) | (with_reducible assumption) | (with_reducible refine below_drewN ?_ _) | (with_reducible refine Below.alloc ?_ ?_ _) | (with_reducible refine Below.drew ?_) | (with_reducible refine Below.setCell ?_ ?_ _) | go_size))⟩
end Go.Proofs.Ytlkikadijlhngaa
