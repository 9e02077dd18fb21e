/- Layer 8: Step, and its answer's. -/
import Derived.Test.YtajgdfgemcpjgaaDoorTimerRefA
import Derived.Test.YtajgdfgemcpjgaaDoorTimerRefB
import Derived.Test.YtajgdfgemcpjgaaDoorTimerRefC
namespace Go.Proofs.YtajgdfgemcpjgaaDoor
open Go.RowKit
set_option linter.unusedSimpArgs false
set_option linter.unusedVariables false
theorem tm1_agg (now x0 x1 x2 x3 x4 x5 x6 x7 x8 x9 : Int) : ∃ y0 y1 y2 y3 y4 y5 y6 y7 y8 y9, tm1 now x0 x1 x2 x3 x4 x5 x6 x7 x8 x9 = .agg #[.int .i64 y0, .int .i64 y1, .int .i64 y2, .int .i64 y3, .int .i64 y4, .int .i64 y5, .int .i64 y6, .int .i64 y7, .int .i64 y8, .int .i64 y9] := by
  rcases tm1_cases now x0 x1 x2 x3 x4 x5 x6 x7 x8 x9 with ⟨_, h⟩ | ⟨_, _, _, h⟩ | ⟨_, _, _, h⟩ | ⟨_, _, _, h⟩ | ⟨_, _, _, h⟩
  all_goals exact ⟨_, _, _, _, _, _, _, _, _, _, h⟩
theorem tm2_agg (now x0 x1 x2 x3 x4 x5 x6 x7 x8 x9 : Int) : ∃ y0 y1 y2 y3 y4 y5 y6 y7 y8 y9, tm2 now x0 x1 x2 x3 x4 x5 x6 x7 x8 x9 = .agg #[.int .i64 y0, .int .i64 y1, .int .i64 y2, .int .i64 y3, .int .i64 y4, .int .i64 y5, .int .i64 y6, .int .i64 y7, .int .i64 y8, .int .i64 y9] := by
  rcases tm2_cases now x0 x1 x2 x3 x4 x5 x6 x7 x8 x9 with ⟨_, h⟩ | ⟨_, _, _, h⟩ | ⟨_, _, _, h⟩ | ⟨_, _, _, _, h⟩ | ⟨_, _, _, _, h⟩ | ⟨_, _, _, h⟩
  all_goals exact ⟨_, _, _, _, _, _, _, _, _, _, h⟩
theorem tm3_agg (now x0 x1 x2 x3 x4 x5 x6 x7 x8 x9 : Int) : ∃ y0 y1 y2 y3 y4 y5 y6 y7 y8 y9, tm3 now x0 x1 x2 x3 x4 x5 x6 x7 x8 x9 = .agg #[.int .i64 y0, .int .i64 y1, .int .i64 y2, .int .i64 y3, .int .i64 y4, .int .i64 y5, .int .i64 y6, .int .i64 y7, .int .i64 y8, .int .i64 y9] := by
  rcases tm3_cases now x0 x1 x2 x3 x4 x5 x6 x7 x8 x9 with ⟨_, _, _, h⟩ | ⟨_, _, _, h⟩ | ⟨_, _, _, h⟩ | ⟨_, _, _, h⟩ | ⟨_, _, _, h⟩ | ⟨_, _, _, h⟩ | ⟨_, _, _, h⟩ | ⟨_, _, _, _, h⟩ | ⟨_, _, _, _, h⟩
  all_goals exact ⟨_, _, _, _, _, _, _, _, _, _, h⟩
theorem tmStep_agg (k now x0 x1 x2 x3 x4 x5 x6 x7 x8 x9 : Int) : ∃ y0 y1 y2 y3 y4 y5 y6 y7 y8 y9, tmStep k now x0 x1 x2 x3 x4 x5 x6 x7 x8 x9 = .agg #[.int .i64 y0, .int .i64 y1, .int .i64 y2, .int .i64 y3, .int .i64 y4, .int .i64 y5, .int .i64 y6, .int .i64 y7, .int .i64 y8, .int .i64 y9] := by
  unfold tmStep
  split
  · exact tm1_agg now x0 x1 x2 x3 x4 x5 x6 x7 x8 x9
  split
  · exact tm2_agg now x0 x1 x2 x3 x4 x5 x6 x7 x8 x9
  split
  · exact tm3_agg now x0 x1 x2 x3 x4 x5 x6 x7 x8 x9
  · exact ⟨_, _, _, _, _, _, _, _, _, _, rfl⟩
set_option maxRecDepth 100000 in
set_option maxHeartbeats 2000000 in
theorem timer_Step (k now x0 x1 x2 x3 x4 x5 x6 x7 x8 x9 : Int) (w : World) : Calls Tryd.prog 27 #[.int .i64 k, .agg #[.int .i64 x0, .int .i64 x1, .int .i64 x2, .int .i64 x3, .int .i64 x4, .int .i64 x5, .int .i64 x6, .int .i64 x7, .int .i64 x8, .int .i64 x9], .int .i64 now] w
    fun e w' => e = .returned (tmStep k now x0 x1 x2 x3 x4 x5 x6 x7 x8 x9) ∧ Below w.heap.size w w' := by
  have mc := @more_cell
  have mf := @more_frozen
  have ms := @more_set
  have mz := @more_size
  by_cases h1 : k = 1
  · subst h1
    obtain ⟨y0, y1, y2, y3, y4, y5, y6, y7, y8, y9, hy⟩ := tm1_agg now x0 x1 x2 x3 x4 x5 x6 x7 x8 x9
    have Hy := Lib.hid hy
    have HV := Lib.hid (show tmStep 1 now x0 x1 x2 x3 x4 x5 x6 x7 x8 x9 = .agg #[.int .i64 y0, .int .i64 y1, .int .i64 y2, .int .i64 y3, .int .i64 y4, .int .i64 y5, .int .i64 y6, .int .i64 y7, .int .i64 y8, .int .i64 y9] from hy)
    clear hy
    go_enter Tryd.func27, Tryd.ntmps27
    go_wp2_with fail
    refine (timer_onDelay now x0 x1 x2 x3 x4 x5 x6 x7 x8 x9 _).mono ?_; rintro e w1 ⟨rfl, hb⟩
    rw [Hy.out]
    obtain ⟨l, d, rfl⟩ := more_of hb
    clear hb
    go_wp2_with fail
    refine bodyPost_ret (by simp [results, Tryd.results27, go_sem, more_cell, more_size, more_frozen]; try rfl) rfl ?_
    exact ⟨by rw [HV.out], by (repeat' (first | (with_reducible exact Below.refl _ _) | (with_reducible assumption) | (with_reducible refine more_below ?_ ?_ _ _) | (with_reducible refine below_drewN ?_ _) | (with_reducible refine Below.alloc ?_ ?_ _) | (with_reducible refine Below.drew ?_) | (with_reducible refine Below.setCell ?_ ?_ _) | (simp only [World.size_alloc, World.size_setCell, World.size_drew, more_size, World.heap_drewN]; omega) | go_size))⟩
  by_cases h2 : k = 2
  · subst h2
    obtain ⟨y0, y1, y2, y3, y4, y5, y6, y7, y8, y9, hy⟩ := tm2_agg now x0 x1 x2 x3 x4 x5 x6 x7 x8 x9
    have Hy := Lib.hid hy
    have HV := Lib.hid (show tmStep 2 now x0 x1 x2 x3 x4 x5 x6 x7 x8 x9 = .agg #[.int .i64 y0, .int .i64 y1, .int .i64 y2, .int .i64 y3, .int .i64 y4, .int .i64 y5, .int .i64 y6, .int .i64 y7, .int .i64 y8, .int .i64 y9] from hy)
    clear hy
    go_enter Tryd.func27, Tryd.ntmps27
    go_wp2_with fail
    refine (timer_offDelay now x0 x1 x2 x3 x4 x5 x6 x7 x8 x9 _).mono ?_; rintro e w1 ⟨rfl, hb⟩
    rw [Hy.out]
    obtain ⟨l, d, rfl⟩ := more_of hb
    clear hb
    go_wp2_with fail
    refine bodyPost_ret (by simp [results, Tryd.results27, go_sem, more_cell, more_size, more_frozen]; try rfl) rfl ?_
    exact ⟨by rw [HV.out], by (repeat' (first | (with_reducible exact Below.refl _ _) | (with_reducible assumption) | (with_reducible refine more_below ?_ ?_ _ _) | (with_reducible refine below_drewN ?_ _) | (with_reducible refine Below.alloc ?_ ?_ _) | (with_reducible refine Below.drew ?_) | (with_reducible refine Below.setCell ?_ ?_ _) | (simp only [World.size_alloc, World.size_setCell, World.size_drew, more_size, World.heap_drewN]; omega) | go_size))⟩
  by_cases h3 : k = 3
  · subst h3
    obtain ⟨y0, y1, y2, y3, y4, y5, y6, y7, y8, y9, hy⟩ := tm3_agg now x0 x1 x2 x3 x4 x5 x6 x7 x8 x9
    have Hy := Lib.hid hy
    have HV := Lib.hid (show tmStep 3 now x0 x1 x2 x3 x4 x5 x6 x7 x8 x9 = .agg #[.int .i64 y0, .int .i64 y1, .int .i64 y2, .int .i64 y3, .int .i64 y4, .int .i64 y5, .int .i64 y6, .int .i64 y7, .int .i64 y8, .int .i64 y9] from hy)
    clear hy
    go_enter Tryd.func27, Tryd.ntmps27
    go_wp2_with fail
    refine (timer_pulse now x0 x1 x2 x3 x4 x5 x6 x7 x8 x9 _).mono ?_; rintro e w1 ⟨rfl, hb⟩
    rw [Hy.out]
    obtain ⟨l, d, rfl⟩ := more_of hb
    clear hb
    go_wp2_with fail
    refine bodyPost_ret (by simp [results, Tryd.results27, go_sem, more_cell, more_size, more_frozen]; try rfl) rfl ?_
    exact ⟨by rw [HV.out], by (repeat' (first | (with_reducible exact Below.refl _ _) | (with_reducible assumption) | (with_reducible refine more_below ?_ ?_ _ _) | (with_reducible refine below_drewN ?_ _) | (with_reducible refine Below.alloc ?_ ?_ _) | (with_reducible refine Below.drew ?_) | (with_reducible refine Below.setCell ?_ ?_ _) | (simp only [World.size_alloc, World.size_setCell, World.size_drew, more_size, World.heap_drewN]; omega) | go_size))⟩
  have HV := Lib.hid (show tmStep k now x0 x1 x2 x3 x4 x5 x6 x7 x8 x9 = .agg #[.int .i64 x0, .int .i64 x1, .int .i64 x2, .int .i64 x3, .int .i64 x4, .int .i64 x5, .int .i64 x6, .int .i64 x7, .int .i64 x8, .int .i64 x9] by unfold tmStep; rw [if_neg h1, if_neg h2, if_neg h3])
  have e4 : ((k : Int) == 1) = false := by simpa using h1
  have e5 : ((k : Int) == 2) = false := by simpa using h2
  have e6 : ((k : Int) == 3) = false := by simpa using h3
  clear h1 h2 h3
  go_enter Tryd.func27, Tryd.ntmps27
  go_wp2_with fail
  go_returns
  exact ⟨by rw [HV.out], by (repeat' (first | (with_reducible exact Below.refl _ _) | (with_reducible assumption) | (with_reducible refine below_drewN ?_ _) | (with_reducible refine Below.alloc ?_ ?_ _) | (with_reducible refine Below.drew ?_) | (with_reducible refine Below.setCell ?_ ?_ _) | go_size))⟩
set_option maxRecDepth 100000 in
set_option maxHeartbeats 2000000 in
theorem ref08_Step (k now x0 x1 x2 x3 x4 x5 x6 x7 x8 x9 : Int) (w : World) : Calls Tryd.prog 32 #[.int .i64 k, .agg #[.int .i64 x0, .int .i64 x1, .int .i64 x2, .int .i64 x3, .int .i64 x4, .int .i64 x5, .int .i64 x6, .int .i64 x7, .int .i64 x8, .int .i64 x9], .int .i64 now] w
    fun e w' => e = .returned (tmStep k now x0 x1 x2 x3 x4 x5 x6 x7 x8 x9) ∧ Below w.heap.size w w' := by
  have mc := @more_cell
  have mf := @more_frozen
  have ms := @more_set
  have mz := @more_size
  by_cases h1 : k = 1
  · subst h1; exact ref08_Step1 now x0 x1 x2 x3 x4 x5 x6 x7 x8 x9 w
  by_cases h2 : k = 2
  · subst h2; exact ref08_Step2 now x0 x1 x2 x3 x4 x5 x6 x7 x8 x9 w
  by_cases h3 : k = 3
  · subst h3
    obtain ⟨y0, y1, y2, y3, y4, y5, y6, y7, y8, y9, hy⟩ := tm3_agg now x0 x1 x2 x3 x4 x5 x6 x7 x8 x9
    have Hy := Lib.hid hy
    have HV := Lib.hid (show tmStep 3 now x0 x1 x2 x3 x4 x5 x6 x7 x8 x9 = .agg #[.int .i64 y0, .int .i64 y1, .int .i64 y2, .int .i64 y3, .int .i64 y4, .int .i64 y5, .int .i64 y6, .int .i64 y7, .int .i64 y8, .int .i64 y9] from hy)
    clear hy
    go_enter Tryd.func32, Tryd.ntmps32
    go_wp2_with fail
    refine (ref08_Pulse now x0 x1 x2 x3 x4 x5 x6 x7 x8 x9 _).mono ?_; rintro e w1 ⟨rfl, hb⟩
    rw [Hy.out]
    obtain ⟨l, d, rfl⟩ := more_of hb
    clear hb
    go_wp2_with fail
    refine bodyPost_ret (by simp [results, Tryd.results32, go_sem, more_cell, more_size, more_frozen]; try rfl) rfl ?_
    exact ⟨by rw [HV.out], by (repeat' (first | (with_reducible exact Below.refl _ _) | (with_reducible assumption) | (with_reducible refine more_below ?_ ?_ _ _) | (with_reducible refine below_drewN ?_ _) | (with_reducible refine Below.alloc ?_ ?_ _) | (with_reducible refine Below.drew ?_) | (with_reducible refine Below.setCell ?_ ?_ _) | (simp only [World.size_alloc, World.size_setCell, World.size_drew, more_size, World.heap_drewN]; omega) | go_size))⟩
  have HV := Lib.hid (show tmStep k now x0 x1 x2 x3 x4 x5 x6 x7 x8 x9 = .agg #[.int .i64 x0, .int .i64 x1, .int .i64 x2, .int .i64 x3, .int .i64 x4, .int .i64 x5, .int .i64 x6, .int .i64 x7, .int .i64 x8, .int .i64 x9] by unfold tmStep; rw [if_neg h1, if_neg h2, if_neg h3])
  have e4 : ((k : Int) == 1) = false := by simpa using h1
  have e5 : ((k : Int) == 2) = false := by simpa using h2
  have e6 : ((k : Int) == 3) = false := by simpa using h3
  clear h1 h2 h3
  go_enter Tryd.func32, Tryd.ntmps32
  go_wp2_with fail
  go_returns
  exact ⟨by rw [HV.out], by (repeat' (first | (with_reducible exact Below.refl _ _) | (with_reducible assumption) | (with_reducible refine below_drewN ?_ _) | (with_reducible refine Below.alloc ?_ ?_ _) | (with_reducible refine Below.drew ?_) | (with_reducible refine Below.setCell ?_ ?_ _) | go_size))⟩
end Go.Proofs.YtajgdfgemcpjgaaDoor
