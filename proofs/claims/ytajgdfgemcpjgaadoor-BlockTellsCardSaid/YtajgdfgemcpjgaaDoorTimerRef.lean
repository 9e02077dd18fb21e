/- Contracts of timer's answer (layer 8). -/
import Derived.Test.YtajgdfgemcpjgaaDoorTimerKinds
namespace Go.Proofs.YtajgdfgemcpjgaaDoor
open Go.RowKit
set_option linter.unusedSimpArgs false
set_option linter.unusedVariables false
set_option maxHeartbeats 1000000 in
theorem ref08_long (x0 x1 x2 x3 x4 x5 x6 x7 x8 x9 now : Int) (w : World) : Calls Tryd.prog 45 #[.agg #[.int .i64 x0, .int .i64 x1, .int .i64 x2, .int .i64 x3, .int .i64 x4, .int .i64 x5, .int .i64 x6, .int .i64 x7, .int .i64 x8, .int .i64 x9], .int .i64 now] w fun e w' => e = .returned (.int .i64 (tLong now x5)) ∧ ∃ n, w' = (w.alloc (.cells #[.int .i64 x0, .int .i64 x1, .int .i64 x2, .int .i64 x3, .int .i64 x4, .int .i64 x5, .int .i64 x6, .int .i64 x7, .int .i64 x8, .int .i64 x9] 38)).drewN n := by
  obtain ⟨bu1, bu2⟩ := tNear_bd now
  obtain ⟨bv1, bv2⟩ := tNear_bd x5
  have hE : ∀ z, hld z 1099511627776 = tNear z := fun _ => rfl
  have hw := IntWalk.i64_in (tNear now - tNear x5) (by omega)
  by_cases hq : tNear now - tNear x5 < 0
  · have Ht := Lib.hid (show tLong now x5 = 0 by unfold tLong; omega)
    go_enter Tryd.func45, Tryd.ntmps45
    go_wp2_with fail
    go_region_with ((go_at_call 57; refine (ref08_held _ _ _).mono ?_; rintro e w' ⟨rfl, rfl⟩; rw [hE]))
    all_goals
      clear hw
      go_wp2_with fail
      go_ret
      exact ⟨by rw [Ht.out] <;> rfl, 1, rfl⟩
  · have Ht := Lib.hid (show tLong now x5 = tNear now - tNear x5 by unfold tLong; omega)
    go_enter Tryd.func45, Tryd.ntmps45
    go_wp2_with fail
    go_region_with ((go_at_call 57; refine (ref08_held _ _ _).mono ?_; rintro e w' ⟨rfl, rfl⟩; rw [hE]))
    all_goals
      clear hw
      go_wp2_with fail
      go_ret
      exact ⟨by rw [Ht.out] <;> rfl, 1, rfl⟩
theorem ref08_pt (x0 x1 x2 x3 x4 x5 x6 x7 x8 x9 : Int) (w : World) : Calls Tryd.prog 46 #[.agg #[.int .i64 x0, .int .i64 x1, .int .i64 x2, .int .i64 x3, .int .i64 x4, .int .i64 x5, .int .i64 x6, .int .i64 x7, .int .i64 x8, .int .i64 x9]] w fun e w' => e = .returned (.int .i64 (tMost x1)) ∧ w' = w.alloc (.cells #[.int .i64 x0, .int .i64 x1, .int .i64 x2, .int .i64 x3, .int .i64 x4, .int .i64 x5, .int .i64 x6, .int .i64 x7, .int .i64 x8, .int .i64 x9] 38) := by
  by_cases hq : x1 < 0
  · have Ht := Lib.hid (show tMost x1 = 0 by unfold tMost; omega)
    go_enter Tryd.func46, Tryd.ntmps46
    go_wp2_with fail
    go_ret
    exact ⟨by rw [Ht.out] <;> rfl, rfl⟩
  · have Ht := Lib.hid (show tMost x1 = x1 by unfold tMost; omega)
    go_enter Tryd.func46, Tryd.ntmps46
    go_wp2_with fail
    go_ret
    exact ⟨by rw [Ht.out] <;> rfl, rfl⟩
set_option maxHeartbeats 2000000 in
theorem ref08_told (x0 x1 x2 x3 x4 x5 x6 x7 x8 x9 now : Int) (w : World) : Calls Tryd.prog 44 #[.agg #[.int .i64 x0, .int .i64 x1, .int .i64 x2, .int .i64 x3, .int .i64 x4, .int .i64 x5, .int .i64 x6, .int .i64 x7, .int .i64 x8, .int .i64 x9], .int .i64 now] w fun e w' => e = .returned (.agg #[.int .i64 x0, .int .i64 x1, .int .i64 x2, .int .i64 (tEt now x5 x1), .int .i64 x4, .int .i64 x5, .int .i64 x6, .int .i64 x7, .int .i64 x8, .int .i64 x9]) ∧ ∃ o1 o2 o3 o4 n, w' = ((((w.alloc o1).alloc o2).alloc o3).alloc o4).drewN n := by
  have p4 := drewN_set
  have hE : hld (tLong now x5) (tMost x1) = tEt now x5 x1 := rfl
  go_enter Tryd.func44, Tryd.ntmps44
  go_wp2_with fail
  go_region_with (first | (go_at_call 45; refine (ref08_long x0 x1 x2 x3 x4 x5 x6 x7 x8 x9 now _).mono ?_; rintro e w' ⟨rfl, n, rfl⟩) | (go_at_call 46; refine (ref08_pt x0 x1 x2 x3 x4 x5 x6 x7 x8 x9 _).mono ?_; rintro e w' ⟨rfl, rfl⟩) | (go_at_call 57; refine (ref08_held _ _ _).mono ?_; rintro e w' ⟨rfl, rfl⟩; rw [hE]))
  all_goals
    go_wp2_with fail
    go_returns
    exact ⟨rfl, _, _, _, _, _, rfl⟩
end Go.Proofs.YtajgdfgemcpjgaaDoor
