/- Contracts of timer's answer (layer 8): ref08.Pulse. -/
import Derived.Test.YtajgdfgemcpjgaaDoorTimerRef
namespace Go.Proofs.YtajgdfgemcpjgaaDoor
open Go.RowKit
set_option linter.unusedSimpArgs false
set_option linter.unusedVariables false
set_option maxRecDepth 100000 in
set_option maxHeartbeats 4000000 in
theorem ref08_Pulse (now x0 x1 x2 x3 x4 x5 x6 x7 x8 x9 : Int) (w : World) : Calls Tryd.prog 47 #[.agg #[.int .i64 x0, .int .i64 x1, .int .i64 x2, .int .i64 x3, .int .i64 x4, .int .i64 x5, .int .i64 x6, .int .i64 x7, .int .i64 x8, .int .i64 x9], .bool (x0 != 0), .int .i64 now] w
    fun e w' => e = .returned (tm3 now x0 x1 x2 x3 x4 x5 x6 x7 x8 x9) ∧ Below w.heap.size w w' := by
  have p4 := drewN_set
  rcases tm3_cases now x0 x1 x2 x3 x4 x5 x6 x7 x8 x9 with ⟨c0, c1, hd, hv⟩ | ⟨c0, c1, hd, hv⟩ | ⟨c0, c1, hd, hv⟩ | ⟨c0, c1, hd, hv⟩ | ⟨c0, c1, c2, hv⟩ | ⟨c0, c1, c2, hv⟩ | ⟨c0, c1, c2, hv⟩ | ⟨c0, c1, c2, hd, hv⟩ | ⟨c0, c1, c2, hd, hv⟩
  · have Hv := Lib.hid hv
    clear hv
    replace hd : decide (tMost x1 ≤ tLong now x5) = true := hd
    have e0 : ((x4 : Int) == 1) = true := by simpa using c0
    have f0 : ((x4 : Int) != 1) = false := by simpa using c0
    have e1 : ((x0 : Int) == 0) = true := by simpa using c1
    have f1 : ((x0 : Int) != 0) = false := by simpa using c1
    have g0 : ((x4 : Int) == 2) = false := by rw [c0]; rfl
    have gg0 : ((x4 : Int) != 2) = true := by rw [c0]; rfl
    clear c0 c1
    go_enter Tryd.func47, Tryd.ntmps47
    go_wp2_with (first | (go_at_call 44; refine (ref08_told _ _ _ _ _ _ _ _ _ _ now _).mono ?_; rintro e w' ⟨rfl, o1, o2, o3, o4, n, rfl⟩) | fail)
    go_region_with (first | (go_at_call 45; refine (ref08_long _ _ _ _ _ _ _ _ _ _ now _).mono ?_; rintro e w' ⟨rfl, n, rfl⟩) | (go_at_call 46; refine (ref08_pt _ _ _ _ _ _ _ _ _ _ _).mono ?_; rintro e w' ⟨rfl, rfl⟩))
    all_goals
      go_wp2_with fail
      refine bodyPost_ret (by simp [results, Tryd.results47, go_sem, more_cell, more_size, more_frozen]; try rfl) rfl ?_
      exact ⟨by rw [Hv.out], by (repeat' (first | (with_reducible exact Below.refl _ _) | (with_reducible assumption) | (with_reducible refine more_below ?_ ?_ _ _) | (with_reducible refine below_drewN ?_ _) | (with_reducible refine Below.alloc ?_ ?_ _) | (with_reducible refine Below.drew ?_) | (with_reducible refine Below.setCell ?_ ?_ _) | (simp only [World.size_alloc, World.size_setCell, World.size_drew, more_size, World.heap_drewN]; omega) | go_size))⟩
  · have Hv := Lib.hid hv
    clear hv
    replace hd : decide (tMost x1 ≤ tLong now x5) = true := hd
    have e0 : ((x4 : Int) == 1) = true := by simpa using c0
    have f0 : ((x4 : Int) != 1) = false := by simpa using c0
    have e1 : ((x0 : Int) == 0) = false := by simpa using c1
    have f1 : ((x0 : Int) != 0) = true := by simpa using c1
    have g0 : ((x4 : Int) == 2) = false := by rw [c0]; rfl
    have gg0 : ((x4 : Int) != 2) = true := by rw [c0]; rfl
    clear c0 c1
    go_enter Tryd.func47, Tryd.ntmps47
    go_wp2_with (first | (go_at_call 44; refine (ref08_told _ _ _ _ _ _ _ _ _ _ now _).mono ?_; rintro e w' ⟨rfl, o1, o2, o3, o4, n, rfl⟩) | fail)
    go_region_with (first | (go_at_call 45; refine (ref08_long _ _ _ _ _ _ _ _ _ _ now _).mono ?_; rintro e w' ⟨rfl, n, rfl⟩) | (go_at_call 46; refine (ref08_pt _ _ _ _ _ _ _ _ _ _ _).mono ?_; rintro e w' ⟨rfl, rfl⟩))
    all_goals
      go_wp2_with fail
      refine bodyPost_ret (by simp [results, Tryd.results47, go_sem, more_cell, more_size, more_frozen]; try rfl) rfl ?_
      exact ⟨by rw [Hv.out], by (repeat' (first | (with_reducible exact Below.refl _ _) | (with_reducible assumption) | (with_reducible refine more_below ?_ ?_ _ _) | (with_reducible refine below_drewN ?_ _) | (with_reducible refine Below.alloc ?_ ?_ _) | (with_reducible refine Below.drew ?_) | (with_reducible refine Below.setCell ?_ ?_ _) | (simp only [World.size_alloc, World.size_setCell, World.size_drew, more_size, World.heap_drewN]; omega) | go_size))⟩
  · have Hv := Lib.hid hv
    clear hv
    replace hd : decide (tMost x1 ≤ tLong now x5) = false := hd
    have e0 : ((x4 : Int) == 1) = true := by simpa using c0
    have f0 : ((x4 : Int) != 1) = false := by simpa using c0
    have e1 : ((x0 : Int) == 0) = true := by simpa using c1
    have f1 : ((x0 : Int) != 0) = false := by simpa using c1
    have g0 : ((x4 : Int) == 2) = false := by rw [c0]; rfl
    have gg0 : ((x4 : Int) != 2) = true := by rw [c0]; rfl
    clear c0 c1
    go_enter Tryd.func47, Tryd.ntmps47
    go_wp2_with (first | (go_at_call 44; refine (ref08_told _ _ _ _ _ _ _ _ _ _ now _).mono ?_; rintro e w' ⟨rfl, o1, o2, o3, o4, n, rfl⟩) | fail)
    go_region_with (first | (go_at_call 45; refine (ref08_long _ _ _ _ _ _ _ _ _ _ now _).mono ?_; rintro e w' ⟨rfl, n, rfl⟩) | (go_at_call 46; refine (ref08_pt _ _ _ _ _ _ _ _ _ _ _).mono ?_; rintro e w' ⟨rfl, rfl⟩))
    all_goals
      go_wp2_with fail
      refine bodyPost_ret (by simp [results, Tryd.results47, go_sem, more_cell, more_size, more_frozen]; try rfl) rfl ?_
      exact ⟨by rw [Hv.out], by (repeat' (first | (with_reducible exact Below.refl _ _) | (with_reducible assumption) | (with_reducible refine more_below ?_ ?_ _ _) | (with_reducible refine below_drewN ?_ _) | (with_reducible refine Below.alloc ?_ ?_ _) | (with_reducible refine Below.drew ?_) | (with_reducible refine Below.setCell ?_ ?_ _) | (simp only [World.size_alloc, World.size_setCell, World.size_drew, more_size, World.heap_drewN]; omega) | go_size))⟩
  · have Hv := Lib.hid hv
    clear hv
    replace hd : decide (tMost x1 ≤ tLong now x5) = false := hd
    have e0 : ((x4 : Int) == 1) = true := by simpa using c0
    have f0 : ((x4 : Int) != 1) = false := by simpa using c0
    have e1 : ((x0 : Int) == 0) = false := by simpa using c1
    have f1 : ((x0 : Int) != 0) = true := by simpa using c1
    have g0 : ((x4 : Int) == 2) = false := by rw [c0]; rfl
    have gg0 : ((x4 : Int) != 2) = true := by rw [c0]; rfl
    clear c0 c1
    go_enter Tryd.func47, Tryd.ntmps47
    go_wp2_with (first | (go_at_call 44; refine (ref08_told _ _ _ _ _ _ _ _ _ _ now _).mono ?_; rintro e w' ⟨rfl, o1, o2, o3, o4, n, rfl⟩) | fail)
    go_region_with (first | (go_at_call 45; refine (ref08_long _ _ _ _ _ _ _ _ _ _ now _).mono ?_; rintro e w' ⟨rfl, n, rfl⟩) | (go_at_call 46; refine (ref08_pt _ _ _ _ _ _ _ _ _ _ _).mono ?_; rintro e w' ⟨rfl, rfl⟩))
    all_goals
      go_wp2_with fail
      refine bodyPost_ret (by simp [results, Tryd.results47, go_sem, more_cell, more_size, more_frozen]; try rfl) rfl ?_
      exact ⟨by rw [Hv.out], by (repeat' (first | (with_reducible exact Below.refl _ _) | (with_reducible assumption) | (with_reducible refine more_below ?_ ?_ _ _) | (with_reducible refine below_drewN ?_ _) | (with_reducible refine Below.alloc ?_ ?_ _) | (with_reducible refine Below.drew ?_) | (with_reducible refine Below.setCell ?_ ?_ _) | (simp only [World.size_alloc, World.size_setCell, World.size_drew, more_size, World.heap_drewN]; omega) | go_size))⟩
  · have Hv := Lib.hid hv
    clear hv
    have e0 : ((x4 : Int) == 1) = false := by simpa using c0
    have f0 : ((x4 : Int) != 1) = true := by simpa using c0
    have e1 : ((x4 : Int) == 2) = true := by simpa using c1
    have f1 : ((x4 : Int) != 2) = false := by simpa using c1
    have e2 : ((x0 : Int) == 0) = true := by simpa using c2
    have f2 : ((x0 : Int) != 0) = false := by simpa using c2
    have g1 : ((x4 : Int) == 1) = false := by rw [c1]; rfl
    have gg1 : ((x4 : Int) != 1) = true := by rw [c1]; rfl
    clear c0 c1 c2
    go_enter Tryd.func47, Tryd.ntmps47
    go_wp2_with (first | (go_at_call 44; refine (ref08_told _ _ _ _ _ _ _ _ _ _ now _).mono ?_; rintro e w' ⟨rfl, o1, o2, o3, o4, n, rfl⟩) | fail)
    go_wp2_with fail
    refine bodyPost_ret (by simp [results, Tryd.results47, go_sem, more_cell, more_size, more_frozen]; try rfl) rfl ?_
    exact ⟨by rw [Hv.out], by (repeat' (first | (with_reducible exact Below.refl _ _) | (with_reducible assumption) | (with_reducible refine more_below ?_ ?_ _ _) | (with_reducible refine below_drewN ?_ _) | (with_reducible refine Below.alloc ?_ ?_ _) | (with_reducible refine Below.drew ?_) | (with_reducible refine Below.setCell ?_ ?_ _) | (simp only [World.size_alloc, World.size_setCell, World.size_drew, more_size, World.heap_drewN]; omega) | go_size))⟩
  · have Hv := Lib.hid hv
    clear hv
    have e0 : ((x4 : Int) == 1) = false := by simpa using c0
    have f0 : ((x4 : Int) != 1) = true := by simpa using c0
    have e1 : ((x4 : Int) == 2) = true := by simpa using c1
    have f1 : ((x4 : Int) != 2) = false := by simpa using c1
    have e2 : ((x0 : Int) == 0) = false := by simpa using c2
    have f2 : ((x0 : Int) != 0) = true := by simpa using c2
    have g1 : ((x4 : Int) == 1) = false := by rw [c1]; rfl
    have gg1 : ((x4 : Int) != 1) = true := by rw [c1]; rfl
    clear c0 c1 c2
    go_enter Tryd.func47, Tryd.ntmps47
    go_wp2_with (first | (go_at_call 44; refine (ref08_told _ _ _ _ _ _ _ _ _ _ now _).mono ?_; rintro e w' ⟨rfl, o1, o2, o3, o4, n, rfl⟩) | fail)
    go_wp2_with fail
    refine bodyPost_ret (by simp [results, Tryd.results47, go_sem, more_cell, more_size, more_frozen]; try rfl) rfl ?_
    exact ⟨by rw [Hv.out], by (repeat' (first | (with_reducible exact Below.refl _ _) | (with_reducible assumption) | (with_reducible refine more_below ?_ ?_ _ _) | (with_reducible refine below_drewN ?_ _) | (with_reducible refine Below.alloc ?_ ?_ _) | (with_reducible refine Below.drew ?_) | (with_reducible refine Below.setCell ?_ ?_ _) | (simp only [World.size_alloc, World.size_setCell, World.size_drew, more_size, World.heap_drewN]; omega) | go_size))⟩
  · have Hv := Lib.hid hv
    clear hv
    have e0 : ((x4 : Int) == 1) = false := by simpa using c0
    have f0 : ((x4 : Int) != 1) = true := by simpa using c0
    have e1 : ((x4 : Int) == 2) = false := by simpa using c1
    have f1 : ((x4 : Int) != 2) = true := by simpa using c1
    have e2 : ((x0 : Int) == 0) = true := by simpa using c2
    have f2 : ((x0 : Int) != 0) = false := by simpa using c2
    clear c0 c1 c2
    go_enter Tryd.func47, Tryd.ntmps47
    go_wp2_with (first | (go_at_call 44; refine (ref08_told _ _ _ _ _ _ _ _ _ _ now _).mono ?_; rintro e w' ⟨rfl, o1, o2, o3, o4, n, rfl⟩) | fail)
    go_wp2_with fail
    refine bodyPost_ret (by simp [results, Tryd.results47, go_sem, more_cell, more_size, more_frozen]; try rfl) rfl ?_
    exact ⟨by rw [Hv.out], by (repeat' (first | (with_reducible exact Below.refl _ _) | (with_reducible assumption) | (with_reducible refine more_below ?_ ?_ _ _) | (with_reducible refine below_drewN ?_ _) | (with_reducible refine Below.alloc ?_ ?_ _) | (with_reducible refine Below.drew ?_) | (with_reducible refine Below.setCell ?_ ?_ _) | (simp only [World.size_alloc, World.size_setCell, World.size_drew, more_size, World.heap_drewN]; omega) | go_size))⟩
  · have Hv := Lib.hid hv
    clear hv
    replace hd : decide (tMost x1 ≤ tLong now now) = true := hd
    have e0 : ((x4 : Int) == 1) = false := by simpa using c0
    have f0 : ((x4 : Int) != 1) = true := by simpa using c0
    have e1 : ((x4 : Int) == 2) = false := by simpa using c1
    have f1 : ((x4 : Int) != 2) = true := by simpa using c1
    have e2 : ((x0 : Int) == 0) = false := by simpa using c2
    have f2 : ((x0 : Int) != 0) = true := by simpa using c2
    clear c0 c1 c2
    go_enter Tryd.func47, Tryd.ntmps47
    go_wp2_with (first | (go_at_call 44; refine (ref08_told _ _ _ _ _ _ _ _ _ _ now _).mono ?_; rintro e w' ⟨rfl, o1, o2, o3, o4, n, rfl⟩) | fail)
    go_region_with (first | (go_at_call 45; refine (ref08_long _ _ _ _ _ _ _ _ _ _ now _).mono ?_; rintro e w' ⟨rfl, n, rfl⟩) | (go_at_call 46; refine (ref08_pt _ _ _ _ _ _ _ _ _ _ _).mono ?_; rintro e w' ⟨rfl, rfl⟩))
    all_goals
      go_wp2_with fail
      refine bodyPost_ret (by simp [results, Tryd.results47, go_sem, more_cell, more_size, more_frozen]; try rfl) rfl ?_
      exact ⟨by rw [Hv.out], by (repeat' (first | (with_reducible exact Below.refl _ _) | (with_reducible assumption) | (with_reducible refine more_below ?_ ?_ _ _) | (with_reducible refine below_drewN ?_ _) | (with_reducible refine Below.alloc ?_ ?_ _) | (with_reducible refine Below.drew ?_) | (with_reducible refine Below.setCell ?_ ?_ _) | (simp only [World.size_alloc, World.size_setCell, World.size_drew, more_size, World.heap_drewN]; omega) | go_size))⟩
  · have Hv := Lib.hid hv
    clear hv
    replace hd : decide (tMost x1 ≤ tLong now now) = false := hd
    have e0 : ((x4 : Int) == 1) = false := by simpa using c0
    have f0 : ((x4 : Int) != 1) = true := by simpa using c0
    have e1 : ((x4 : Int) == 2) = false := by simpa using c1
    have f1 : ((x4 : Int) != 2) = true := by simpa using c1
    have e2 : ((x0 : Int) == 0) = false := by simpa using c2
    have f2 : ((x0 : Int) != 0) = true := by simpa using c2
    clear c0 c1 c2
    go_enter Tryd.func47, Tryd.ntmps47
    go_wp2_with (first | (go_at_call 44; refine (ref08_told _ _ _ _ _ _ _ _ _ _ now _).mono ?_; rintro e w' ⟨rfl, o1, o2, o3, o4, n, rfl⟩) | fail)
    go_region_with (first | (go_at_call 45; refine (ref08_long _ _ _ _ _ _ _ _ _ _ now _).mono ?_; rintro e w' ⟨rfl, n, rfl⟩) | (go_at_call 46; refine (ref08_pt _ _ _ _ _ _ _ _ _ _ _).mono ?_; rintro e w' ⟨rfl, rfl⟩))
    all_goals
      go_wp2_with fail
      refine bodyPost_ret (by simp [results, Tryd.results47, go_sem, more_cell, more_size, more_frozen]; try rfl) rfl ?_
      exact ⟨by rw [Hv.out], by (repeat' (first | (with_reducible exact Below.refl _ _) | (with_reducible assumption) | (with_reducible refine more_below ?_ ?_ _ _) | (with_reducible refine below_drewN ?_ _) | (with_reducible refine Below.alloc ?_ ?_ _) | (with_reducible refine Below.drew ?_) | (with_reducible refine Below.setCell ?_ ?_ _) | (simp only [World.size_alloc, World.size_setCell, World.size_drew, more_size, World.heap_drewN]; omega) | go_size))⟩
end Go.Proofs.YtajgdfgemcpjgaaDoor
