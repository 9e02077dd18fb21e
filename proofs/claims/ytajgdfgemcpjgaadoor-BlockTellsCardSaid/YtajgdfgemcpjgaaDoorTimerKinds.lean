/- Contracts of timer (layer 8): its three kinds. -/
import Derived.Test.YtajgdfgemcpjgaaDoorTimer
import Derived.Test.YtajgdfgemcpjgaaDoorMoreB
namespace Go.Proofs.YtajgdfgemcpjgaaDoor
open Go.RowKit
set_option linter.unusedSimpArgs false
set_option linter.unusedVariables false
def tm1 (now x0 x1 x2 x3 x4 x5 x6 x7 x8 x9 : Int) : Value :=
  if x0 = 0 then .agg #[.int .i64 x0, .int .i64 x1, .int .i64 (0), .int .i64 (0), .int .i64 (0), .int .i64 x5, .int .i64 x6, .int .i64 x7, .int .i64 x8, .int .i64 x9] else
  if x0 ≠ 0 ∧ x4 = 1 ∧ tDue now x5 x1 = true then .agg #[.int .i64 x0, .int .i64 x1, .int .i64 (1), .int .i64 (tEt now x5 x1), .int .i64 x4, .int .i64 x5, .int .i64 x6, .int .i64 x7, .int .i64 x8, .int .i64 x9] else
  if x0 ≠ 0 ∧ x4 = 1 ∧ tDue now x5 x1 = false then .agg #[.int .i64 x0, .int .i64 x1, .int .i64 (0), .int .i64 (tEt now x5 x1), .int .i64 x4, .int .i64 x5, .int .i64 x6, .int .i64 x7, .int .i64 x8, .int .i64 x9] else
  if x0 ≠ 0 ∧ x4 ≠ 1 ∧ tDue now now x1 = true then .agg #[.int .i64 x0, .int .i64 x1, .int .i64 (1), .int .i64 (tEt now now x1), .int .i64 (1), .int .i64 (now), .int .i64 x6, .int .i64 x7, .int .i64 x8, .int .i64 x9] else
  .agg #[.int .i64 x0, .int .i64 x1, .int .i64 (0), .int .i64 (tEt now now x1), .int .i64 (1), .int .i64 (now), .int .i64 x6, .int .i64 x7, .int .i64 x8, .int .i64 x9]
def tm2 (now x0 x1 x2 x3 x4 x5 x6 x7 x8 x9 : Int) : Value :=
  if x0 ≠ 0 then .agg #[.int .i64 x0, .int .i64 x1, .int .i64 (1), .int .i64 (0), .int .i64 (1), .int .i64 x5, .int .i64 x6, .int .i64 x7, .int .i64 x8, .int .i64 x9] else
  if x0 = 0 ∧ x4 = 1 ∧ tDue now now x1 = true then .agg #[.int .i64 x0, .int .i64 x1, .int .i64 (0), .int .i64 (tEt now now x1), .int .i64 (3), .int .i64 (now), .int .i64 x6, .int .i64 x7, .int .i64 x8, .int .i64 x9] else
  if x0 = 0 ∧ x4 = 1 ∧ tDue now now x1 = false then .agg #[.int .i64 x0, .int .i64 x1, .int .i64 x2, .int .i64 (tEt now now x1), .int .i64 (2), .int .i64 (now), .int .i64 x6, .int .i64 x7, .int .i64 x8, .int .i64 x9] else
  if x0 = 0 ∧ x4 ≠ 1 ∧ x4 = 2 ∧ tDue now x5 x1 = true then .agg #[.int .i64 x0, .int .i64 x1, .int .i64 (0), .int .i64 (tEt now x5 x1), .int .i64 (3), .int .i64 x5, .int .i64 x6, .int .i64 x7, .int .i64 x8, .int .i64 x9] else
  if x0 = 0 ∧ x4 ≠ 1 ∧ x4 = 2 ∧ tDue now x5 x1 = false then .agg #[.int .i64 x0, .int .i64 x1, .int .i64 x2, .int .i64 (tEt now x5 x1), .int .i64 x4, .int .i64 x5, .int .i64 x6, .int .i64 x7, .int .i64 x8, .int .i64 x9] else
  .agg #[.int .i64 x0, .int .i64 x1, .int .i64 x2, .int .i64 x3, .int .i64 x4, .int .i64 x5, .int .i64 x6, .int .i64 x7, .int .i64 x8, .int .i64 x9]
def tm3 (now x0 x1 x2 x3 x4 x5 x6 x7 x8 x9 : Int) : Value :=
  if x4 = 1 ∧ x0 = 0 ∧ tDue now x5 x1 = true then .agg #[.int .i64 x0, .int .i64 x1, .int .i64 (0), .int .i64 (0), .int .i64 (0), .int .i64 x5, .int .i64 x6, .int .i64 x7, .int .i64 x8, .int .i64 x9] else
  if x4 = 1 ∧ x0 ≠ 0 ∧ tDue now x5 x1 = true then .agg #[.int .i64 x0, .int .i64 x1, .int .i64 (0), .int .i64 (tEt now x5 x1), .int .i64 (2), .int .i64 x5, .int .i64 x6, .int .i64 x7, .int .i64 x8, .int .i64 x9] else
  if x4 = 1 ∧ x0 = 0 ∧ tDue now x5 x1 = false then .agg #[.int .i64 x0, .int .i64 x1, .int .i64 (1), .int .i64 (tEt now x5 x1), .int .i64 x4, .int .i64 x5, .int .i64 x6, .int .i64 x7, .int .i64 x8, .int .i64 x9] else
  if x4 = 1 ∧ x0 ≠ 0 ∧ tDue now x5 x1 = false then .agg #[.int .i64 x0, .int .i64 x1, .int .i64 (1), .int .i64 (tEt now x5 x1), .int .i64 x4, .int .i64 x5, .int .i64 x6, .int .i64 x7, .int .i64 x8, .int .i64 x9] else
  if x4 ≠ 1 ∧ x4 = 2 ∧ x0 = 0 then .agg #[.int .i64 x0, .int .i64 x1, .int .i64 x2, .int .i64 (0), .int .i64 (0), .int .i64 x5, .int .i64 x6, .int .i64 x7, .int .i64 x8, .int .i64 x9] else
  if x4 ≠ 1 ∧ x4 = 2 ∧ x0 ≠ 0 then .agg #[.int .i64 x0, .int .i64 x1, .int .i64 x2, .int .i64 x3, .int .i64 x4, .int .i64 x5, .int .i64 x6, .int .i64 x7, .int .i64 x8, .int .i64 x9] else
  if x4 ≠ 1 ∧ x4 ≠ 2 ∧ x0 = 0 then .agg #[.int .i64 x0, .int .i64 x1, .int .i64 x2, .int .i64 x3, .int .i64 x4, .int .i64 x5, .int .i64 x6, .int .i64 x7, .int .i64 x8, .int .i64 x9] else
  if x4 ≠ 1 ∧ x4 ≠ 2 ∧ x0 ≠ 0 ∧ tDue now now x1 = true then .agg #[.int .i64 x0, .int .i64 x1, .int .i64 (0), .int .i64 (tEt now now x1), .int .i64 (2), .int .i64 (now), .int .i64 x6, .int .i64 x7, .int .i64 x8, .int .i64 x9] else
  .agg #[.int .i64 x0, .int .i64 x1, .int .i64 (1), .int .i64 (tEt now now x1), .int .i64 (1), .int .i64 (now), .int .i64 x6, .int .i64 x7, .int .i64 x8, .int .i64 x9]
def tmStep (k now x0 x1 x2 x3 x4 x5 x6 x7 x8 x9 : Int) : Value := if k = 1 then tm1 now x0 x1 x2 x3 x4 x5 x6 x7 x8 x9 else if k = 2 then tm2 now x0 x1 x2 x3 x4 x5 x6 x7 x8 x9 else if k = 3 then tm3 now x0 x1 x2 x3 x4 x5 x6 x7 x8 x9 else .agg #[.int .i64 x0, .int .i64 x1, .int .i64 x2, .int .i64 x3, .int .i64 x4, .int .i64 x5, .int .i64 x6, .int .i64 x7, .int .i64 x8, .int .i64 x9]
theorem tm1_cases (now x0 x1 x2 x3 x4 x5 x6 x7 x8 x9 : Int) : (x0 = 0 ∧ tm1 now x0 x1 x2 x3 x4 x5 x6 x7 x8 x9 = .agg #[.int .i64 x0, .int .i64 x1, .int .i64 (0), .int .i64 (0), .int .i64 (0), .int .i64 x5, .int .i64 x6, .int .i64 x7, .int .i64 x8, .int .i64 x9]) ∨ (x0 ≠ 0 ∧ x4 = 1 ∧ tDue now x5 x1 = true ∧ tm1 now x0 x1 x2 x3 x4 x5 x6 x7 x8 x9 = .agg #[.int .i64 x0, .int .i64 x1, .int .i64 (1), .int .i64 (tEt now x5 x1), .int .i64 x4, .int .i64 x5, .int .i64 x6, .int .i64 x7, .int .i64 x8, .int .i64 x9]) ∨ (x0 ≠ 0 ∧ x4 = 1 ∧ tDue now x5 x1 = false ∧ tm1 now x0 x1 x2 x3 x4 x5 x6 x7 x8 x9 = .agg #[.int .i64 x0, .int .i64 x1, .int .i64 (0), .int .i64 (tEt now x5 x1), .int .i64 x4, .int .i64 x5, .int .i64 x6, .int .i64 x7, .int .i64 x8, .int .i64 x9]) ∨ (x0 ≠ 0 ∧ x4 ≠ 1 ∧ tDue now now x1 = true ∧ tm1 now x0 x1 x2 x3 x4 x5 x6 x7 x8 x9 = .agg #[.int .i64 x0, .int .i64 x1, .int .i64 (1), .int .i64 (tEt now now x1), .int .i64 (1), .int .i64 (now), .int .i64 x6, .int .i64 x7, .int .i64 x8, .int .i64 x9]) ∨ (x0 ≠ 0 ∧ x4 ≠ 1 ∧ tDue now now x1 = false ∧ tm1 now x0 x1 x2 x3 x4 x5 x6 x7 x8 x9 = .agg #[.int .i64 x0, .int .i64 x1, .int .i64 (0), .int .i64 (tEt now now x1), .int .i64 (1), .int .i64 (now), .int .i64 x6, .int .i64 x7, .int .i64 x8, .int .i64 x9]) := by
  by_cases h0 : x0 = 0 <;> by_cases h1 : x4 = 1 <;> by_cases h2 : x4 = 2 <;> cases e1 : tDue now now x1 <;> cases e2 : tDue now x5 x1 <;> first | (exfalso; omega) | simp [tm1, h0, h1, h2, e1, e2]
theorem tm2_cases (now x0 x1 x2 x3 x4 x5 x6 x7 x8 x9 : Int) : (x0 ≠ 0 ∧ tm2 now x0 x1 x2 x3 x4 x5 x6 x7 x8 x9 = .agg #[.int .i64 x0, .int .i64 x1, .int .i64 (1), .int .i64 (0), .int .i64 (1), .int .i64 x5, .int .i64 x6, .int .i64 x7, .int .i64 x8, .int .i64 x9]) ∨ (x0 = 0 ∧ x4 = 1 ∧ tDue now now x1 = true ∧ tm2 now x0 x1 x2 x3 x4 x5 x6 x7 x8 x9 = .agg #[.int .i64 x0, .int .i64 x1, .int .i64 (0), .int .i64 (tEt now now x1), .int .i64 (3), .int .i64 (now), .int .i64 x6, .int .i64 x7, .int .i64 x8, .int .i64 x9]) ∨ (x0 = 0 ∧ x4 = 1 ∧ tDue now now x1 = false ∧ tm2 now x0 x1 x2 x3 x4 x5 x6 x7 x8 x9 = .agg #[.int .i64 x0, .int .i64 x1, .int .i64 x2, .int .i64 (tEt now now x1), .int .i64 (2), .int .i64 (now), .int .i64 x6, .int .i64 x7, .int .i64 x8, .int .i64 x9]) ∨ (x0 = 0 ∧ x4 ≠ 1 ∧ x4 = 2 ∧ tDue now x5 x1 = true ∧ tm2 now x0 x1 x2 x3 x4 x5 x6 x7 x8 x9 = .agg #[.int .i64 x0, .int .i64 x1, .int .i64 (0), .int .i64 (tEt now x5 x1), .int .i64 (3), .int .i64 x5, .int .i64 x6, .int .i64 x7, .int .i64 x8, .int .i64 x9]) ∨ (x0 = 0 ∧ x4 ≠ 1 ∧ x4 = 2 ∧ tDue now x5 x1 = false ∧ tm2 now x0 x1 x2 x3 x4 x5 x6 x7 x8 x9 = .agg #[.int .i64 x0, .int .i64 x1, .int .i64 x2, .int .i64 (tEt now x5 x1), .int .i64 x4, .int .i64 x5, .int .i64 x6, .int .i64 x7, .int .i64 x8, .int .i64 x9]) ∨ (x0 = 0 ∧ x4 ≠ 1 ∧ x4 ≠ 2 ∧ tm2 now x0 x1 x2 x3 x4 x5 x6 x7 x8 x9 = .agg #[.int .i64 x0, .int .i64 x1, .int .i64 x2, .int .i64 x3, .int .i64 x4, .int .i64 x5, .int .i64 x6, .int .i64 x7, .int .i64 x8, .int .i64 x9]) := by
  by_cases h0 : x0 = 0 <;> by_cases h1 : x4 = 1 <;> by_cases h2 : x4 = 2 <;> cases e1 : tDue now now x1 <;> cases e2 : tDue now x5 x1 <;> first | (exfalso; omega) | simp [tm2, h0, h1, h2, e1, e2]
theorem tm3_cases (now x0 x1 x2 x3 x4 x5 x6 x7 x8 x9 : Int) : (x4 = 1 ∧ x0 = 0 ∧ tDue now x5 x1 = true ∧ tm3 now x0 x1 x2 x3 x4 x5 x6 x7 x8 x9 = .agg #[.int .i64 x0, .int .i64 x1, .int .i64 (0), .int .i64 (0), .int .i64 (0), .int .i64 x5, .int .i64 x6, .int .i64 x7, .int .i64 x8, .int .i64 x9]) ∨ (x4 = 1 ∧ x0 ≠ 0 ∧ tDue now x5 x1 = true ∧ tm3 now x0 x1 x2 x3 x4 x5 x6 x7 x8 x9 = .agg #[.int .i64 x0, .int .i64 x1, .int .i64 (0), .int .i64 (tEt now x5 x1), .int .i64 (2), .int .i64 x5, .int .i64 x6, .int .i64 x7, .int .i64 x8, .int .i64 x9]) ∨ (x4 = 1 ∧ x0 = 0 ∧ tDue now x5 x1 = false ∧ tm3 now x0 x1 x2 x3 x4 x5 x6 x7 x8 x9 = .agg #[.int .i64 x0, .int .i64 x1, .int .i64 (1), .int .i64 (tEt now x5 x1), .int .i64 x4, .int .i64 x5, .int .i64 x6, .int .i64 x7, .int .i64 x8, .int .i64 x9]) ∨ (x4 = 1 ∧ x0 ≠ 0 ∧ tDue now x5 x1 = false ∧ tm3 now x0 x1 x2 x3 x4 x5 x6 x7 x8 x9 = .agg #[.int .i64 x0, .int .i64 x1, .int .i64 (1), .int .i64 (tEt now x5 x1), .int .i64 x4, .int .i64 x5, .int .i64 x6, .int .i64 x7, .int .i64 x8, .int .i64 x9]) ∨ (x4 ≠ 1 ∧ x4 = 2 ∧ x0 = 0 ∧ tm3 now x0 x1 x2 x3 x4 x5 x6 x7 x8 x9 = .agg #[.int .i64 x0, .int .i64 x1, .int .i64 x2, .int .i64 (0), .int .i64 (0), .int .i64 x5, .int .i64 x6, .int .i64 x7, .int .i64 x8, .int .i64 x9]) ∨ (x4 ≠ 1 ∧ x4 = 2 ∧ x0 ≠ 0 ∧ tm3 now x0 x1 x2 x3 x4 x5 x6 x7 x8 x9 = .agg #[.int .i64 x0, .int .i64 x1, .int .i64 x2, .int .i64 x3, .int .i64 x4, .int .i64 x5, .int .i64 x6, .int .i64 x7, .int .i64 x8, .int .i64 x9]) ∨ (x4 ≠ 1 ∧ x4 ≠ 2 ∧ x0 = 0 ∧ tm3 now x0 x1 x2 x3 x4 x5 x6 x7 x8 x9 = .agg #[.int .i64 x0, .int .i64 x1, .int .i64 x2, .int .i64 x3, .int .i64 x4, .int .i64 x5, .int .i64 x6, .int .i64 x7, .int .i64 x8, .int .i64 x9]) ∨ (x4 ≠ 1 ∧ x4 ≠ 2 ∧ x0 ≠ 0 ∧ tDue now now x1 = true ∧ tm3 now x0 x1 x2 x3 x4 x5 x6 x7 x8 x9 = .agg #[.int .i64 x0, .int .i64 x1, .int .i64 (0), .int .i64 (tEt now now x1), .int .i64 (2), .int .i64 (now), .int .i64 x6, .int .i64 x7, .int .i64 x8, .int .i64 x9]) ∨ (x4 ≠ 1 ∧ x4 ≠ 2 ∧ x0 ≠ 0 ∧ tDue now now x1 = false ∧ tm3 now x0 x1 x2 x3 x4 x5 x6 x7 x8 x9 = .agg #[.int .i64 x0, .int .i64 x1, .int .i64 (1), .int .i64 (tEt now now x1), .int .i64 (1), .int .i64 (now), .int .i64 x6, .int .i64 x7, .int .i64 x8, .int .i64 x9]) := by
  by_cases h0 : x0 = 0 <;> by_cases h1 : x4 = 1 <;> by_cases h2 : x4 = 2 <;> cases e1 : tDue now now x1 <;> cases e2 : tDue now x5 x1 <;> first | (exfalso; omega) | simp [tm3, h0, h1, h2, e1, e2]
set_option maxRecDepth 100000 in
set_option maxHeartbeats 2000000 in
theorem timer_onDelay (now x0 x1 x2 x3 x4 x5 x6 x7 x8 x9 : Int) (w : World) : Calls Tryd.prog 38 #[.agg #[.int .i64 x0, .int .i64 x1, .int .i64 x2, .int .i64 x3, .int .i64 x4, .int .i64 x5, .int .i64 x6, .int .i64 x7, .int .i64 x8, .int .i64 x9], .int .i64 now] w
    fun e w' => e = .returned (tm1 now x0 x1 x2 x3 x4 x5 x6 x7 x8 x9) ∧ Below w.heap.size w w' := by
  have p4 := drewN_set
  rcases tm1_cases now x0 x1 x2 x3 x4 x5 x6 x7 x8 x9 with ⟨c0, hv⟩ | ⟨c0, c1, hd, hv⟩ | ⟨c0, c1, hd, hv⟩ | ⟨c0, c1, hd, hv⟩ | ⟨c0, c1, hd, hv⟩
  · have Hv := Lib.hid hv
    clear hv
    have e0 : ((x0 : Int) == 0) = true := by simpa using c0
    have f0 : ((x0 : Int) != 0) = false := by simpa using c0
    clear c0
    go_enter Tryd.func38, Tryd.ntmps38
    go_wp2_with fail
    go_wp2_with fail
    refine bodyPost_ret (by simp [results, Tryd.results38, go_sem, more_cell, more_size, more_frozen]; try rfl) rfl ?_
    exact ⟨by rw [Hv.out], by (repeat' (first | (with_reducible exact Below.refl _ _) | (with_reducible assumption) | (with_reducible refine more_below ?_ ?_ _ _) | (with_reducible refine below_drewN ?_ _) | (with_reducible refine Below.alloc ?_ ?_ _) | (with_reducible refine Below.drew ?_) | (with_reducible refine Below.setCell ?_ ?_ _) | (simp only [World.size_alloc, World.size_setCell, World.size_drew, more_size, World.heap_drewN]; omega) | go_size))⟩
  · have Hv := Lib.hid hv
    clear hv
    have Hd := Lib.hid hd
    clear hd
    have e0 : ((x0 : Int) == 0) = false := by simpa using c0
    have f0 : ((x0 : Int) != 0) = true := by simpa using c0
    have e1 : ((x4 : Int) == 1) = true := by simpa using c1
    have f1 : ((x4 : Int) != 1) = false := by simpa using c1
    have g1 : ((x4 : Int) == 2) = false := by rw [c1]; rfl
    have gg1 : ((x4 : Int) != 2) = true := by rw [c1]; rfl
    clear c0 c1
    go_enter Tryd.func38, Tryd.ntmps38
    go_wp2_with (first | (go_at_call 52; refine (timer_tell w.heap.size now x5 x1 x3 _ (by go_cell) (by go_cell) (by go_cell) (by go_simp)).mono ?_; rintro e w' ⟨rfl, n, rfl⟩; rw [Hd.out]) | fail)
    go_wp2_with fail
    refine bodyPost_ret (by simp [results, Tryd.results38, go_sem, more_cell, more_size, more_frozen]; try rfl) rfl ?_
    exact ⟨by rw [Hv.out], by (repeat' (first | (with_reducible exact Below.refl _ _) | (with_reducible assumption) | (with_reducible refine more_below ?_ ?_ _ _) | (with_reducible refine below_drewN ?_ _) | (with_reducible refine Below.alloc ?_ ?_ _) | (with_reducible refine Below.drew ?_) | (with_reducible refine Below.setCell ?_ ?_ _) | (simp only [World.size_alloc, World.size_setCell, World.size_drew, more_size, World.heap_drewN]; omega) | go_size))⟩
  · have Hv := Lib.hid hv
    clear hv
    have Hd := Lib.hid hd
    clear hd
    have e0 : ((x0 : Int) == 0) = false := by simpa using c0
    have f0 : ((x0 : Int) != 0) = true := by simpa using c0
    have e1 : ((x4 : Int) == 1) = true := by simpa using c1
    have f1 : ((x4 : Int) != 1) = false := by simpa using c1
    have g1 : ((x4 : Int) == 2) = false := by rw [c1]; rfl
    have gg1 : ((x4 : Int) != 2) = true := by rw [c1]; rfl
    clear c0 c1
    go_enter Tryd.func38, Tryd.ntmps38
    go_wp2_with (first | (go_at_call 52; refine (timer_tell w.heap.size now x5 x1 x3 _ (by go_cell) (by go_cell) (by go_cell) (by go_simp)).mono ?_; rintro e w' ⟨rfl, n, rfl⟩; rw [Hd.out]) | fail)
    go_wp2_with fail
    refine bodyPost_ret (by simp [results, Tryd.results38, go_sem, more_cell, more_size, more_frozen]; try rfl) rfl ?_
    exact ⟨by rw [Hv.out], by (repeat' (first | (with_reducible exact Below.refl _ _) | (with_reducible assumption) | (with_reducible refine more_below ?_ ?_ _ _) | (with_reducible refine below_drewN ?_ _) | (with_reducible refine Below.alloc ?_ ?_ _) | (with_reducible refine Below.drew ?_) | (with_reducible refine Below.setCell ?_ ?_ _) | (simp only [World.size_alloc, World.size_setCell, World.size_drew, more_size, World.heap_drewN]; omega) | go_size))⟩
  · have Hv := Lib.hid hv
    clear hv
    have Hd := Lib.hid hd
    clear hd
    have e0 : ((x0 : Int) == 0) = false := by simpa using c0
    have f0 : ((x0 : Int) != 0) = true := by simpa using c0
    have e1 : ((x4 : Int) == 1) = false := by simpa using c1
    have f1 : ((x4 : Int) != 1) = true := by simpa using c1
    clear c0 c1
    go_enter Tryd.func38, Tryd.ntmps38
    go_wp2_with (first | (go_at_call 52; refine (timer_tell w.heap.size now now x1 x3 _ (by go_cell) (by go_cell) (by go_cell) (by go_simp)).mono ?_; rintro e w' ⟨rfl, n, rfl⟩; rw [Hd.out]) | fail)
    go_wp2_with fail
    refine bodyPost_ret (by simp [results, Tryd.results38, go_sem, more_cell, more_size, more_frozen]; try rfl) rfl ?_
    exact ⟨by rw [Hv.out], by (repeat' (first | (with_reducible exact Below.refl _ _) | (with_reducible assumption) | (with_reducible refine more_below ?_ ?_ _ _) | (with_reducible refine below_drewN ?_ _) | (with_reducible refine Below.alloc ?_ ?_ _) | (with_reducible refine Below.drew ?_) | (with_reducible refine Below.setCell ?_ ?_ _) | (simp only [World.size_alloc, World.size_setCell, World.size_drew, more_size, World.heap_drewN]; omega) | go_size))⟩
  · have Hv := Lib.hid hv
    clear hv
    have Hd := Lib.hid hd
    clear hd
    have e0 : ((x0 : Int) == 0) = false := by simpa using c0
    have f0 : ((x0 : Int) != 0) = true := by simpa using c0
    have e1 : ((x4 : Int) == 1) = false := by simpa using c1
    have f1 : ((x4 : Int) != 1) = true := by simpa using c1
    clear c0 c1
    go_enter Tryd.func38, Tryd.ntmps38
    go_wp2_with (first | (go_at_call 52; refine (timer_tell w.heap.size now now x1 x3 _ (by go_cell) (by go_cell) (by go_cell) (by go_simp)).mono ?_; rintro e w' ⟨rfl, n, rfl⟩; rw [Hd.out]) | fail)
    go_wp2_with fail
    refine bodyPost_ret (by simp [results, Tryd.results38, go_sem, more_cell, more_size, more_frozen]; try rfl) rfl ?_
    exact ⟨by rw [Hv.out], by (repeat' (first | (with_reducible exact Below.refl _ _) | (with_reducible assumption) | (with_reducible refine more_below ?_ ?_ _ _) | (with_reducible refine below_drewN ?_ _) | (with_reducible refine Below.alloc ?_ ?_ _) | (with_reducible refine Below.drew ?_) | (with_reducible refine Below.setCell ?_ ?_ _) | (simp only [World.size_alloc, World.size_setCell, World.size_drew, more_size, World.heap_drewN]; omega) | go_size))⟩
set_option maxRecDepth 100000 in
set_option maxHeartbeats 2000000 in
theorem timer_offDelay (now x0 x1 x2 x3 x4 x5 x6 x7 x8 x9 : Int) (w : World) : Calls Tryd.prog 39 #[.agg #[.int .i64 x0, .int .i64 x1, .int .i64 x2, .int .i64 x3, .int .i64 x4, .int .i64 x5, .int .i64 x6, .int .i64 x7, .int .i64 x8, .int .i64 x9], .int .i64 now] w
    fun e w' => e = .returned (tm2 now x0 x1 x2 x3 x4 x5 x6 x7 x8 x9) ∧ Below w.heap.size w w' := by
  have p4 := drewN_set
  rcases tm2_cases now x0 x1 x2 x3 x4 x5 x6 x7 x8 x9 with ⟨c0, hv⟩ | ⟨c0, c1, hd, hv⟩ | ⟨c0, c1, hd, hv⟩ | ⟨c0, c1, c2, hd, hv⟩ | ⟨c0, c1, c2, hd, hv⟩ | ⟨c0, c1, c2, hv⟩
  · have Hv := Lib.hid hv
    clear hv
    have e0 : ((x0 : Int) == 0) = false := by simpa using c0
    have f0 : ((x0 : Int) != 0) = true := by simpa using c0
    clear c0
    go_enter Tryd.func39, Tryd.ntmps39
    go_wp2_with fail
    go_wp2_with fail
    refine bodyPost_ret (by simp [results, Tryd.results39, go_sem, more_cell, more_size, more_frozen]; try rfl) rfl ?_
    exact ⟨by rw [Hv.out], by (repeat' (first | (with_reducible exact Below.refl _ _) | (with_reducible assumption) | (with_reducible refine more_below ?_ ?_ _ _) | (with_reducible refine below_drewN ?_ _) | (with_reducible refine Below.alloc ?_ ?_ _) | (with_reducible refine Below.drew ?_) | (with_reducible refine Below.setCell ?_ ?_ _) | (simp only [World.size_alloc, World.size_setCell, World.size_drew, more_size, World.heap_drewN]; omega) | go_size))⟩
  · have Hv := Lib.hid hv
    clear hv
    have Hd := Lib.hid hd
    clear hd
    have e0 : ((x0 : Int) == 0) = true := by simpa using c0
    have f0 : ((x0 : Int) != 0) = false := by simpa using c0
    have e1 : ((x4 : Int) == 1) = true := by simpa using c1
    have f1 : ((x4 : Int) != 1) = false := by simpa using c1
    have g1 : ((x4 : Int) == 2) = false := by rw [c1]; rfl
    have gg1 : ((x4 : Int) != 2) = true := by rw [c1]; rfl
    clear c0 c1
    go_enter Tryd.func39, Tryd.ntmps39
    go_wp2_with (first | (go_at_call 52; refine (timer_tell w.heap.size now now x1 x3 _ (by go_cell) (by go_cell) (by go_cell) (by go_simp)).mono ?_; rintro e w' ⟨rfl, n, rfl⟩; rw [Hd.out]) | fail)
    go_wp2_with fail
    refine bodyPost_ret (by simp [results, Tryd.results39, go_sem, more_cell, more_size, more_frozen]; try rfl) rfl ?_
    exact ⟨by rw [Hv.out], by (repeat' (first | (with_reducible exact Below.refl _ _) | (with_reducible assumption) | (with_reducible refine more_below ?_ ?_ _ _) | (with_reducible refine below_drewN ?_ _) | (with_reducible refine Below.alloc ?_ ?_ _) | (with_reducible refine Below.drew ?_) | (with_reducible refine Below.setCell ?_ ?_ _) | (simp only [World.size_alloc, World.size_setCell, World.size_drew, more_size, World.heap_drewN]; omega) | go_size))⟩
  · have Hv := Lib.hid hv
    clear hv
    have Hd := Lib.hid hd
    clear hd
    have e0 : ((x0 : Int) == 0) = true := by simpa using c0
    have f0 : ((x0 : Int) != 0) = false := by simpa using c0
    have e1 : ((x4 : Int) == 1) = true := by simpa using c1
    have f1 : ((x4 : Int) != 1) = false := by simpa using c1
    have g1 : ((x4 : Int) == 2) = false := by rw [c1]; rfl
    have gg1 : ((x4 : Int) != 2) = true := by rw [c1]; rfl
    clear c0 c1
    go_enter Tryd.func39, Tryd.ntmps39
    go_wp2_with (first | (go_at_call 52; refine (timer_tell w.heap.size now now x1 x3 _ (by go_cell) (by go_cell) (by go_cell) (by go_simp)).mono ?_; rintro e w' ⟨rfl, n, rfl⟩; rw [Hd.out]) | fail)
    go_wp2_with fail
    refine bodyPost_ret (by simp [results, Tryd.results39, go_sem, more_cell, more_size, more_frozen]; try rfl) rfl ?_
    exact ⟨by rw [Hv.out], by (repeat' (first | (with_reducible exact Below.refl _ _) | (with_reducible assumption) | (with_reducible refine more_below ?_ ?_ _ _) | (with_reducible refine below_drewN ?_ _) | (with_reducible refine Below.alloc ?_ ?_ _) | (with_reducible refine Below.drew ?_) | (with_reducible refine Below.setCell ?_ ?_ _) | (simp only [World.size_alloc, World.size_setCell, World.size_drew, more_size, World.heap_drewN]; omega) | go_size))⟩
  · have Hv := Lib.hid hv
    clear hv
    have Hd := Lib.hid hd
    clear hd
    have e0 : ((x0 : Int) == 0) = true := by simpa using c0
    have f0 : ((x0 : Int) != 0) = false := by simpa using c0
    have e1 : ((x4 : Int) == 1) = false := by simpa using c1
    have f1 : ((x4 : Int) != 1) = true := by simpa using c1
    have e2 : ((x4 : Int) == 2) = true := by simpa using c2
    have f2 : ((x4 : Int) != 2) = false := by simpa using c2
    have g2 : ((x4 : Int) == 1) = false := by rw [c2]; rfl
    have gg2 : ((x4 : Int) != 1) = true := by rw [c2]; rfl
    clear c0 c1 c2
    go_enter Tryd.func39, Tryd.ntmps39
    go_wp2_with (first | (go_at_call 52; refine (timer_tell w.heap.size now x5 x1 x3 _ (by go_cell) (by go_cell) (by go_cell) (by go_simp)).mono ?_; rintro e w' ⟨rfl, n, rfl⟩; rw [Hd.out]) | fail)
    go_wp2_with fail
    refine bodyPost_ret (by simp [results, Tryd.results39, go_sem, more_cell, more_size, more_frozen]; try rfl) rfl ?_
    exact ⟨by rw [Hv.out], by (repeat' (first | (with_reducible exact Below.refl _ _) | (with_reducible assumption) | (with_reducible refine more_below ?_ ?_ _ _) | (with_reducible refine below_drewN ?_ _) | (with_reducible refine Below.alloc ?_ ?_ _) | (with_reducible refine Below.drew ?_) | (with_reducible refine Below.setCell ?_ ?_ _) | (simp only [World.size_alloc, World.size_setCell, World.size_drew, more_size, World.heap_drewN]; omega) | go_size))⟩
  · have Hv := Lib.hid hv
    clear hv
    have Hd := Lib.hid hd
    clear hd
    have e0 : ((x0 : Int) == 0) = true := by simpa using c0
    have f0 : ((x0 : Int) != 0) = false := by simpa using c0
    have e1 : ((x4 : Int) == 1) = false := by simpa using c1
    have f1 : ((x4 : Int) != 1) = true := by simpa using c1
    have e2 : ((x4 : Int) == 2) = true := by simpa using c2
    have f2 : ((x4 : Int) != 2) = false := by simpa using c2
    have g2 : ((x4 : Int) == 1) = false := by rw [c2]; rfl
    have gg2 : ((x4 : Int) != 1) = true := by rw [c2]; rfl
    clear c0 c1 c2
    go_enter Tryd.func39, Tryd.ntmps39
    go_wp2_with (first | (go_at_call 52; refine (timer_tell w.heap.size now x5 x1 x3 _ (by go_cell) (by go_cell) (by go_cell) (by go_simp)).mono ?_; rintro e w' ⟨rfl, n, rfl⟩; rw [Hd.out]) | fail)
    go_wp2_with fail
    refine bodyPost_ret (by simp [results, Tryd.results39, go_sem, more_cell, more_size, more_frozen]; try rfl) rfl ?_
    exact ⟨by rw [Hv.out], by (repeat' (first | (with_reducible exact Below.refl _ _) | (with_reducible assumption) | (with_reducible refine more_below ?_ ?_ _ _) | (with_reducible refine below_drewN ?_ _) | (with_reducible refine Below.alloc ?_ ?_ _) | (with_reducible refine Below.drew ?_) | (with_reducible refine Below.setCell ?_ ?_ _) | (simp only [World.size_alloc, World.size_setCell, World.size_drew, more_size, World.heap_drewN]; omega) | go_size))⟩
  · have Hv := Lib.hid hv
    clear hv
    have e0 : ((x0 : Int) == 0) = true := by simpa using c0
    have f0 : ((x0 : Int) != 0) = false := by simpa using c0
    have e1 : ((x4 : Int) == 1) = false := by simpa using c1
    have f1 : ((x4 : Int) != 1) = true := by simpa using c1
    have e2 : ((x4 : Int) == 2) = false := by simpa using c2
    have f2 : ((x4 : Int) != 2) = true := by simpa using c2
    clear c0 c1 c2
    go_enter Tryd.func39, Tryd.ntmps39
    go_wp2_with fail
    go_wp2_with fail
    refine bodyPost_ret (by simp [results, Tryd.results39, go_sem, more_cell, more_size, more_frozen]; try rfl) rfl ?_
    exact ⟨by rw [Hv.out], by (repeat' (first | (with_reducible exact Below.refl _ _) | (with_reducible assumption) | (with_reducible refine more_below ?_ ?_ _ _) | (with_reducible refine below_drewN ?_ _) | (with_reducible refine Below.alloc ?_ ?_ _) | (with_reducible refine Below.drew ?_) | (with_reducible refine Below.setCell ?_ ?_ _) | (simp only [World.size_alloc, World.size_setCell, World.size_drew, more_size, World.heap_drewN]; omega) | go_size))⟩
set_option maxRecDepth 100000 in
set_option maxHeartbeats 2000000 in
theorem timer_pulse (now x0 x1 x2 x3 x4 x5 x6 x7 x8 x9 : Int) (w : World) : Calls Tryd.prog 40 #[.agg #[.int .i64 x0, .int .i64 x1, .int .i64 x2, .int .i64 x3, .int .i64 x4, .int .i64 x5, .int .i64 x6, .int .i64 x7, .int .i64 x8, .int .i64 x9], .int .i64 now] w
    fun e w' => e = .returned (tm3 now x0 x1 x2 x3 x4 x5 x6 x7 x8 x9) ∧ Below w.heap.size w w' := by
  have p4 := drewN_set
  rcases tm3_cases now x0 x1 x2 x3 x4 x5 x6 x7 x8 x9 with ⟨c0, c1, hd, hv⟩ | ⟨c0, c1, hd, hv⟩ | ⟨c0, c1, hd, hv⟩ | ⟨c0, c1, hd, hv⟩ | ⟨c0, c1, c2, hv⟩ | ⟨c0, c1, c2, hv⟩ | ⟨c0, c1, c2, hv⟩ | ⟨c0, c1, c2, hd, hv⟩ | ⟨c0, c1, c2, hd, hv⟩
  · have Hv := Lib.hid hv
    clear hv
    have Hd := Lib.hid hd
    clear hd
    have e0 : ((x4 : Int) == 1) = true := by simpa using c0
    have f0 : ((x4 : Int) != 1) = false := by simpa using c0
    have e1 : ((x0 : Int) == 0) = true := by simpa using c1
    have f1 : ((x0 : Int) != 0) = false := by simpa using c1
    have g0 : ((x4 : Int) == 2) = false := by rw [c0]; rfl
    have gg0 : ((x4 : Int) != 2) = true := by rw [c0]; rfl
    clear c0 c1
    go_enter Tryd.func40, Tryd.ntmps40
    go_wp2_with (first | (go_at_call 52; refine (timer_tell w.heap.size now x5 x1 x3 _ (by go_cell) (by go_cell) (by go_cell) (by go_simp)).mono ?_; rintro e w' ⟨rfl, n, rfl⟩; rw [Hd.out]) | fail)
    go_wp2_with fail
    refine bodyPost_ret (by simp [results, Tryd.results40, go_sem, more_cell, more_size, more_frozen]; try rfl) rfl ?_
    exact ⟨by rw [Hv.out], by (repeat' (first | (with_reducible exact Below.refl _ _) | (with_reducible assumption) | (with_reducible refine more_below ?_ ?_ _ _) | (with_reducible refine below_drewN ?_ _) | (with_reducible refine Below.alloc ?_ ?_ _) | (with_reducible refine Below.drew ?_) | (with_reducible refine Below.setCell ?_ ?_ _) | (simp only [World.size_alloc, World.size_setCell, World.size_drew, more_size, World.heap_drewN]; omega) | go_size))⟩
  · have Hv := Lib.hid hv
    clear hv
    have Hd := Lib.hid hd
    clear hd
    have e0 : ((x4 : Int) == 1) = true := by simpa using c0
    have f0 : ((x4 : Int) != 1) = false := by simpa using c0
    have e1 : ((x0 : Int) == 0) = false := by simpa using c1
    have f1 : ((x0 : Int) != 0) = true := by simpa using c1
    have g0 : ((x4 : Int) == 2) = false := by rw [c0]; rfl
    have gg0 : ((x4 : Int) != 2) = true := by rw [c0]; rfl
    clear c0 c1
    go_enter Tryd.func40, Tryd.ntmps40
    go_wp2_with (first | (go_at_call 52; refine (timer_tell w.heap.size now x5 x1 x3 _ (by go_cell) (by go_cell) (by go_cell) (by go_simp)).mono ?_; rintro e w' ⟨rfl, n, rfl⟩; rw [Hd.out]) | fail)
    go_wp2_with fail
    refine bodyPost_ret (by simp [results, Tryd.results40, go_sem, more_cell, more_size, more_frozen]; try rfl) rfl ?_
    exact ⟨by rw [Hv.out], by (repeat' (first | (with_reducible exact Below.refl _ _) | (with_reducible assumption) | (with_reducible refine more_below ?_ ?_ _ _) | (with_reducible refine below_drewN ?_ _) | (with_reducible refine Below.alloc ?_ ?_ _) | (with_reducible refine Below.drew ?_) | (with_reducible refine Below.setCell ?_ ?_ _) | (simp only [World.size_alloc, World.size_setCell, World.size_drew, more_size, World.heap_drewN]; omega) | go_size))⟩
  · have Hv := Lib.hid hv
    clear hv
    have Hd := Lib.hid hd
    clear hd
    have e0 : ((x4 : Int) == 1) = true := by simpa using c0
    have f0 : ((x4 : Int) != 1) = false := by simpa using c0
    have e1 : ((x0 : Int) == 0) = true := by simpa using c1
    have f1 : ((x0 : Int) != 0) = false := by simpa using c1
    have g0 : ((x4 : Int) == 2) = false := by rw [c0]; rfl
    have gg0 : ((x4 : Int) != 2) = true := by rw [c0]; rfl
    clear c0 c1
    go_enter Tryd.func40, Tryd.ntmps40
    go_wp2_with (first | (go_at_call 52; refine (timer_tell w.heap.size now x5 x1 x3 _ (by go_cell) (by go_cell) (by go_cell) (by go_simp)).mono ?_; rintro e w' ⟨rfl, n, rfl⟩; rw [Hd.out]) | fail)
    go_wp2_with fail
    refine bodyPost_ret (by simp [results, Tryd.results40, go_sem, more_cell, more_size, more_frozen]; try rfl) rfl ?_
    exact ⟨by rw [Hv.out], by (repeat' (first | (with_reducible exact Below.refl _ _) | (with_reducible assumption) | (with_reducible refine more_below ?_ ?_ _ _) | (with_reducible refine below_drewN ?_ _) | (with_reducible refine Below.alloc ?_ ?_ _) | (with_reducible refine Below.drew ?_) | (with_reducible refine Below.setCell ?_ ?_ _) | (simp only [World.size_alloc, World.size_setCell, World.size_drew, more_size, World.heap_drewN]; omega) | go_size))⟩
  · have Hv := Lib.hid hv
    clear hv
    have Hd := Lib.hid hd
    clear hd
    have e0 : ((x4 : Int) == 1) = true := by simpa using c0
    have f0 : ((x4 : Int) != 1) = false := by simpa using c0
    have e1 : ((x0 : Int) == 0) = false := by simpa using c1
    have f1 : ((x0 : Int) != 0) = true := by simpa using c1
    have g0 : ((x4 : Int) == 2) = false := by rw [c0]; rfl
    have gg0 : ((x4 : Int) != 2) = true := by rw [c0]; rfl
    clear c0 c1
    go_enter Tryd.func40, Tryd.ntmps40
    go_wp2_with (first | (go_at_call 52; refine (timer_tell w.heap.size now x5 x1 x3 _ (by go_cell) (by go_cell) (by go_cell) (by go_simp)).mono ?_; rintro e w' ⟨rfl, n, rfl⟩; rw [Hd.out]) | fail)
    go_wp2_with fail
    refine bodyPost_ret (by simp [results, Tryd.results40, go_sem, more_cell, more_size, more_frozen]; try rfl) rfl ?_
    exact ⟨by rw [Hv.out], by (repeat' (first | (with_reducible exact Below.refl _ _) | (with_reducible assumption) | (with_reducible refine more_below ?_ ?_ _ _) | (with_reducible refine below_drewN ?_ _) | (with_reducible refine Below.alloc ?_ ?_ _) | (with_reducible refine Below.drew ?_) | (with_reducible refine Below.setCell ?_ ?_ _) | (simp only [World.size_alloc, World.size_setCell, World.size_drew, more_size, World.heap_drewN]; omega) | go_size))⟩
  · have Hv := Lib.hid hv
    clear hv
    have e0 : ((x4 : Int) == 1) = false := by simpa using c0
    have f0 : ((x4 : Int) != 1) = true := by simpa using c0
    have e1 : ((x4 : Int) == 2) = true := by simpa using c1
    have f1 : ((x4 : Int) != 2) = false := by simpa using c1
    have e2 : ((x0 : Int) == 0) = true := by simpa using c2
    have f2 : ((x0 : Int) != 0) = false := by simpa using c2
    have g1 : ((x4 : Int) == 1) = false := by rw [c1]; rfl
    have gg1 : ((x4 : Int) != 1) = true := by rw [c1]; rfl
    clear c0 c1 c2
    go_enter Tryd.func40, Tryd.ntmps40
    go_wp2_with fail
    go_wp2_with fail
    refine bodyPost_ret (by simp [results, Tryd.results40, go_sem, more_cell, more_size, more_frozen]; try rfl) rfl ?_
    exact ⟨by rw [Hv.out], by (repeat' (first | (with_reducible exact Below.refl _ _) | (with_reducible assumption) | (with_reducible refine more_below ?_ ?_ _ _) | (with_reducible refine below_drewN ?_ _) | (with_reducible refine Below.alloc ?_ ?_ _) | (with_reducible refine Below.drew ?_) | (with_reducible refine Below.setCell ?_ ?_ _) | (simp only [World.size_alloc, World.size_setCell, World.size_drew, more_size, World.heap_drewN]; omega) | go_size))⟩
  · have Hv := Lib.hid hv
    clear hv
    have e0 : ((x4 : Int) == 1) = false := by simpa using c0
    have f0 : ((x4 : Int) != 1) = true := by simpa using c0
    have e1 : ((x4 : Int) == 2) = true := by simpa using c1
    have f1 : ((x4 : Int) != 2) = false := by simpa using c1
    have e2 : ((x0 : Int) == 0) = false := by simpa using c2
    have f2 : ((x0 : Int) != 0) = true := by simpa using c2
    have g1 : ((x4 : Int) == 1) = false := by rw [c1]; rfl
    have gg1 : ((x4 : Int) != 1) = true := by rw [c1]; rfl
    clear c0 c1 c2
    go_enter Tryd.func40, Tryd.ntmps40
    go_wp2_with fail
    go_wp2_with fail
    refine bodyPost_ret (by simp [results, Tryd.results40, go_sem, more_cell, more_size, more_frozen]; try rfl) rfl ?_
    exact ⟨by rw [Hv.out], by (repeat' (first | (with_reducible exact Below.refl _ _) | (with_reducible assumption) | (with_reducible refine more_below ?_ ?_ _ _) | (with_reducible refine below_drewN ?_ _) | (with_reducible refine Below.alloc ?_ ?_ _) | (with_reducible refine Below.drew ?_) | (with_reducible refine Below.setCell ?_ ?_ _) | (simp only [World.size_alloc, World.size_setCell, World.size_drew, more_size, World.heap_drewN]; omega) | go_size))⟩
  · have Hv := Lib.hid hv
    clear hv
    have e0 : ((x4 : Int) == 1) = false := by simpa using c0
    have f0 : ((x4 : Int) != 1) = true := by simpa using c0
    have e1 : ((x4 : Int) == 2) = false := by simpa using c1
    have f1 : ((x4 : Int) != 2) = true := by simpa using c1
    have e2 : ((x0 : Int) == 0) = true := by simpa using c2
    have f2 : ((x0 : Int) != 0) = false := by simpa using c2
    clear c0 c1 c2
    go_enter Tryd.func40, Tryd.ntmps40
    go_wp2_with fail
    go_wp2_with fail
    refine bodyPost_ret (by simp [results, Tryd.results40, go_sem, more_cell, more_size, more_frozen]; try rfl) rfl ?_
    exact ⟨by rw [Hv.out], by (repeat' (first | (with_reducible exact Below.refl _ _) | (with_reducible assumption) | (with_reducible refine more_below ?_ ?_ _ _) | (with_reducible refine below_drewN ?_ _) | (with_reducible refine Below.alloc ?_ ?_ _) | (with_reducible refine Below.drew ?_) | (with_reducible refine Below.setCell ?_ ?_ _) | (simp only [World.size_alloc, World.size_setCell, World.size_drew, more_size, World.heap_drewN]; omega) | go_size))⟩
  · have Hv := Lib.hid hv
    clear hv
    have Hd := Lib.hid hd
    clear hd
    have e0 : ((x4 : Int) == 1) = false := by simpa using c0
    have f0 : ((x4 : Int) != 1) = true := by simpa using c0
    have e1 : ((x4 : Int) == 2) = false := by simpa using c1
    have f1 : ((x4 : Int) != 2) = true := by simpa using c1
    have e2 : ((x0 : Int) == 0) = false := by simpa using c2
    have f2 : ((x0 : Int) != 0) = true := by simpa using c2
    clear c0 c1 c2
    go_enter Tryd.func40, Tryd.ntmps40
    go_wp2_with (first | (go_at_call 52; refine (timer_tell w.heap.size now now x1 x3 _ (by go_cell) (by go_cell) (by go_cell) (by go_simp)).mono ?_; rintro e w' ⟨rfl, n, rfl⟩; rw [Hd.out]) | fail)
    go_wp2_with fail
    refine bodyPost_ret (by simp [results, Tryd.results40, go_sem, more_cell, more_size, more_frozen]; try rfl) rfl ?_
    exact ⟨by rw [Hv.out], by (repeat' (first | (with_reducible exact Below.refl _ _) | (with_reducible assumption) | (with_reducible refine more_below ?_ ?_ _ _) | (with_reducible refine below_drewN ?_ _) | (with_reducible refine Below.alloc ?_ ?_ _) | (with_reducible refine Below.drew ?_) | (with_reducible refine Below.setCell ?_ ?_ _) | (simp only [World.size_alloc, World.size_setCell, World.size_drew, more_size, World.heap_drewN]; omega) | go_size))⟩
  · have Hv := Lib.hid hv
    clear hv
    have Hd := Lib.hid hd
    clear hd
    have e0 : ((x4 : Int) == 1) = false := by simpa using c0
    have f0 : ((x4 : Int) != 1) = true := by simpa using c0
    have e1 : ((x4 : Int) == 2) = false := by simpa using c1
    have f1 : ((x4 : Int) != 2) = true := by simpa using c1
    have e2 : ((x0 : Int) == 0) = false := by simpa using c2
    have f2 : ((x0 : Int) != 0) = true := by simpa using c2
    clear c0 c1 c2
    go_enter Tryd.func40, Tryd.ntmps40
    go_wp2_with (first | (go_at_call 52; refine (timer_tell w.heap.size now now x1 x3 _ (by go_cell) (by go_cell) (by go_cell) (by go_simp)).mono ?_; rintro e w' ⟨rfl, n, rfl⟩; rw [Hd.out]) | fail)
    go_wp2_with fail
    refine bodyPost_ret (by simp [results, Tryd.results40, go_sem, more_cell, more_size, more_frozen]; try rfl) rfl ?_
    exact ⟨by rw [Hv.out], by (repeat' (first | (with_reducible exact Below.refl _ _) | (with_reducible assumption) | (with_reducible refine more_below ?_ ?_ _ _) | (with_reducible refine below_drewN ?_ _) | (with_reducible refine Below.alloc ?_ ?_ _) | (with_reducible refine Below.drew ?_) | (with_reducible refine Below.setCell ?_ ?_ _) | (simp only [World.size_alloc, World.size_setCell, World.size_drew, more_size, World.heap_drewN]; omega) | go_size))⟩
end Go.Proofs.YtajgdfgemcpjgaaDoor
