/- Layer 11: Run, and the answer's. -/
import Derived.Test.YtajgdfgemcpjgaaDoorBlockF
import Derived.Test.YtajgdfgemcpjgaaDoorTimerStep
import Derived.Test.YtajgdfgemcpjgaaDoorCountAll
import Derived.Test.YtajgdfgemcpjgaaDoorTrig
namespace Go.Proofs.YtajgdfgemcpjgaaDoor
open Go.RowKit
set_option linter.unusedSimpArgs false
set_option linter.unusedVariables false
theorem ctStep_agg (k x0 x1 x2 x3 x4 x5 x6 x7 x8 x9 : Int) : ∃ y0 y1 y2 y3 y4 y5 y6 y7 y8 y9, ctStep k x0 x1 x2 x3 x4 x5 x6 x7 x8 x9 = .agg #[.int .i64 y0, .int .i64 y1, .int .i64 y2, .int .i64 y3, .int .i64 y4, .int .i64 y5, .int .i64 y6, .int .i64 y7, .int .i64 y8, .int .i64 y9] := by
  unfold ctStep
  split
  · exact ⟨_, _, _, _, _, _, _, _, _, _, rfl⟩
  split
  · exact ⟨_, _, _, _, _, _, _, _, _, _, rfl⟩
  split
  · exact ⟨_, _, _, _, _, _, _, _, _, _, rfl⟩
  · exact ⟨_, _, _, _, _, _, _, _, _, _, rfl⟩
def tgStep (k x0 x1 x2 x3 x4 x5 x6 x7 x8 x9 : Int) : Value := .agg #[.int .i64 x0, .int .i64 (tgA k x0 x1 x2), .int .i64 (tgB k x0 x2), .int .i64 x3, .int .i64 x4, .int .i64 x5, .int .i64 x6, .int .i64 x7, .int .i64 x8, .int .i64 x9]
/-- what an instance is behind a run -/
def bRun (k now x0 x1 x2 x3 x4 x5 x6 x7 x8 x9 : Int) : Value := if 1 ≤ k ∧ k ≤ 3 then tmStep k now x0 x1 x2 x3 x4 x5 x6 x7 x8 x9 else if 4 ≤ k ∧ k ≤ 6 then ctStep k x0 x1 x2 x3 x4 x5 x6 x7 x8 x9 else tgStep k x0 x1 x2 x3 x4 x5 x6 x7 x8 x9
theorem bRun_t {k : Int} (h : 1 ≤ k ∧ k ≤ 3) (now x0 x1 x2 x3 x4 x5 x6 x7 x8 x9 : Int) : bRun k now x0 x1 x2 x3 x4 x5 x6 x7 x8 x9 = tmStep k now x0 x1 x2 x3 x4 x5 x6 x7 x8 x9 := if_pos h
theorem bRun_c {k : Int} (h : 4 ≤ k ∧ k ≤ 6) (now x0 x1 x2 x3 x4 x5 x6 x7 x8 x9 : Int) : bRun k now x0 x1 x2 x3 x4 x5 x6 x7 x8 x9 = ctStep k x0 x1 x2 x3 x4 x5 x6 x7 x8 x9 := by unfold bRun; rw [if_neg (by omega), if_pos h]
theorem bRun_g {k : Int} (h : ¬ (1 ≤ k ∧ k ≤ 6)) (now x0 x1 x2 x3 x4 x5 x6 x7 x8 x9 : Int) : bRun k now x0 x1 x2 x3 x4 x5 x6 x7 x8 x9 = tgStep k x0 x1 x2 x3 x4 x5 x6 x7 x8 x9 := by unfold bRun; rw [if_neg (by omega), if_neg (by omega)]
theorem tgStep_no {k : Int} (h : ¬ (k = 7 ∨ k = 8)) (x0 x1 x2 x3 x4 x5 x6 x7 x8 x9 : Int) : tgStep k x0 x1 x2 x3 x4 x5 x6 x7 x8 x9 = .agg #[.int .i64 x0, .int .i64 x1, .int .i64 x2, .int .i64 x3, .int .i64 x4, .int .i64 x5, .int .i64 x6, .int .i64 x7, .int .i64 x8, .int .i64 x9] := by
  have hi : ¬ tgIs k = true := by simp [tgIs]; omega
  unfold tgStep tgA tgB; rw [if_neg hi, if_neg hi]
theorem bRun_agg (k now x0 x1 x2 x3 x4 x5 x6 x7 x8 x9 : Int) : ∃ y0 y1 y2 y3 y4 y5 y6 y7 y8 y9, bRun k now x0 x1 x2 x3 x4 x5 x6 x7 x8 x9 = .agg #[.int .i64 y0, .int .i64 y1, .int .i64 y2, .int .i64 y3, .int .i64 y4, .int .i64 y5, .int .i64 y6, .int .i64 y7, .int .i64 y8, .int .i64 y9] := by
  unfold bRun
  split
  · exact tmStep_agg k now x0 x1 x2 x3 x4 x5 x6 x7 x8 x9
  split
  · exact ctStep_agg k x0 x1 x2 x3 x4 x5 x6 x7 x8 x9
  · exact ⟨_, _, _, _, _, _, _, _, _, _, rfl⟩
set_option maxHeartbeats 4000000 in
theorem block_Run (k now x0 x1 x2 x3 x4 x5 x6 x7 x8 x9 : Int) (w : World) (hb : ∀ x ∈ [x4, x7], -9223372036854775808 ≤ x ∧ x ≤ 9223372036854775807) : Calls Tryd.prog 21 #[.int .i64 k, .agg #[.int .i64 x0, .int .i64 x1, .int .i64 x2, .int .i64 x3, .int .i64 x4, .int .i64 x5, .int .i64 x6, .int .i64 x7, .int .i64 x8, .int .i64 x9], .int .i64 now] w fun e w' => e = .returned (bRun k now x0 x1 x2 x3 x4 x5 x6 x7 x8 x9) ∧ Below w.heap.size w w' := by
  have mc := @more_cell
  have mf := @more_frozen
  have ms := @more_set
  have md := more_drewN
  have md1 := more_drew
  have mcp := @cell_past
  have HB := Lib.hid hb
  clear hb
  have i1 : tmIs k = decide (1 ≤ k ∧ k ≤ 3) := by unfold tmIs; congr 1; apply propext; omega
  have i2 : ctIs k = decide (4 ≤ k ∧ k ≤ 6) := by unfold ctIs; congr 1; apply propext; omega
  have i3 : tgIs k = decide (7 ≤ k ∧ k ≤ 8) := by unfold tgIs; congr 1; apply propext; omega
  by_cases h1 : 1 ≤ k ∧ k ≤ 3
  · have HR := Lib.hid (bRun_t h1 now x0 x1 x2 x3 x4 x5 x6 x7 x8 x9)
    obtain ⟨y0, y1, y2, y3, y4, y5, y6, y7, y8, y9, hy⟩ := tmStep_agg k now x0 x1 x2 x3 x4 x5 x6 x7 x8 x9
    have HY := Lib.hid hy
    clear hy
    go_enter Tryd.func21, Tryd.ntmps21
    go_wp2_with (first | (go_at_call 27; refine (timer_Step k now x0 x1 x2 x3 x4 x5 x6 x7 x8 x9 _).mono ?_; rintro e w1 ⟨rfl, hb⟩; rw [HY.out]; obtain ⟨l, d, rfl⟩ := more_of hb; clear hb) | (go_at_call 26; refine (timer_Is _ _).mono ?_; rintro e w' ⟨rfl, rfl⟩) | (go_at_call 28; refine (count_Is _ _).mono ?_; rintro e w' ⟨rfl, rfl⟩) | (go_at_call 30; refine (trig_Is _ _).mono ?_; rintro e w' ⟨rfl, rfl⟩))
    refine bodyPost_ret (by simp [results, Tryd.results21, go_sem, more_cell, more_size, more_frozen]; try rfl) rfl ?_
    exact ⟨by rw [HR.out, HY.out], by (repeat' (first | (with_reducible exact Below.refl _ _) | (with_reducible assumption) | (with_reducible refine more_below ?_ ?_ _ _) | (with_reducible refine below_drewN ?_ _) | (with_reducible refine Below.alloc ?_ ?_ _) | (with_reducible refine Below.drew ?_) | (with_reducible refine Below.setCell ?_ ?_ _) | (simp only [World.size_alloc, World.size_setCell, World.size_drew, more_size, World.heap_drewN]; omega) | go_size))⟩
  by_cases h2 : 4 ≤ k ∧ k ≤ 6
  · have HR := Lib.hid (bRun_c h2 now x0 x1 x2 x3 x4 x5 x6 x7 x8 x9)
    clear h1
    obtain ⟨y0, y1, y2, y3, y4, y5, y6, y7, y8, y9, hy⟩ := ctStep_agg k x0 x1 x2 x3 x4 x5 x6 x7 x8 x9
    have HY := Lib.hid hy
    clear hy
    go_enter Tryd.func21, Tryd.ntmps21
    go_wp2_with (first | (go_at_call 29; refine (count_Step k x0 x1 x2 x3 x4 x5 x6 x7 x8 x9 _ HB.out).mono ?_; rintro e w1 ⟨rfl, hb⟩; rw [HY.out]; obtain ⟨l, d, rfl⟩ := more_of hb; clear hb) | (go_at_call 26; refine (timer_Is _ _).mono ?_; rintro e w' ⟨rfl, rfl⟩) | (go_at_call 28; refine (count_Is _ _).mono ?_; rintro e w' ⟨rfl, rfl⟩) | (go_at_call 30; refine (trig_Is _ _).mono ?_; rintro e w' ⟨rfl, rfl⟩))
    refine bodyPost_ret (by simp [results, Tryd.results21, go_sem, more_cell, more_size, more_frozen]; try rfl) rfl ?_
    exact ⟨by rw [HR.out, HY.out], by (repeat' (first | (with_reducible exact Below.refl _ _) | (with_reducible assumption) | (with_reducible refine more_below ?_ ?_ _ _) | (with_reducible refine below_drewN ?_ _) | (with_reducible refine Below.alloc ?_ ?_ _) | (with_reducible refine Below.drew ?_) | (with_reducible refine Below.setCell ?_ ?_ _) | (simp only [World.size_alloc, World.size_setCell, World.size_drew, more_size, World.heap_drewN]; omega) | go_size))⟩
  have HR := Lib.hid (bRun_g (k := k) (by omega) now x0 x1 x2 x3 x4 x5 x6 x7 x8 x9)
  by_cases h3 : k = 7 ∨ k = 8
  · rcases h3 with h3 | h3
    all_goals
      subst h3
      clear h1 h2
      go_enter Tryd.func21, Tryd.ntmps21
      go_wp2_with (first | (go_at_call 31; refine (trig_Step _ x0 x1 x2 x3 x4 x5 x6 x7 x8 x9 _).mono ?_; rintro e w1 ⟨rfl, hb⟩; obtain ⟨l, d, rfl⟩ := more_of hb; clear hb) | (go_at_call 26; refine (timer_Is _ _).mono ?_; rintro e w' ⟨rfl, rfl⟩) | (go_at_call 28; refine (count_Is _ _).mono ?_; rintro e w' ⟨rfl, rfl⟩) | (go_at_call 30; refine (trig_Is _ _).mono ?_; rintro e w' ⟨rfl, rfl⟩))
      refine bodyPost_ret (by simp [results, Tryd.results21, go_sem, more_cell, more_size, more_frozen]; try rfl) rfl ?_
      exact ⟨by rw [HR.out]; rfl, by (repeat' (first | (with_reducible exact Below.refl _ _) | (with_reducible assumption) | (with_reducible refine more_below ?_ ?_ _ _) | (with_reducible refine below_drewN ?_ _) | (with_reducible refine Below.alloc ?_ ?_ _) | (with_reducible refine Below.drew ?_) | (with_reducible refine Below.setCell ?_ ?_ _) | (simp only [World.size_alloc, World.size_setCell, World.size_drew, more_size, World.heap_drewN]; omega) | go_size))⟩
  · have HN := Lib.hid (tgStep_no h3 x0 x1 x2 x3 x4 x5 x6 x7 x8 x9)
    by_cases h4 : 1 ≤ k
    · have h5 : 8 < k := by omega
      clear h1 h2 h3
      go_enter Tryd.func21, Tryd.ntmps21
      go_wp2_with (first | (go_at_call 26; refine (timer_Is _ _).mono ?_; rintro e w' ⟨rfl, rfl⟩) | (go_at_call 28; refine (count_Is _ _).mono ?_; rintro e w' ⟨rfl, rfl⟩) | (go_at_call 30; refine (trig_Is _ _).mono ?_; rintro e w' ⟨rfl, rfl⟩))
      refine bodyPost_ret (by simp [results, Tryd.results21, go_sem, more_cell, more_size, more_frozen]; try rfl) rfl ?_
      exact ⟨by rw [HR.out, HN.out], by (repeat' (first | (with_reducible exact Below.refl _ _) | (with_reducible assumption) | (with_reducible refine more_below ?_ ?_ _ _) | (with_reducible refine below_drewN ?_ _) | (with_reducible refine Below.alloc ?_ ?_ _) | (with_reducible refine Below.drew ?_) | (with_reducible refine Below.setCell ?_ ?_ _) | (simp only [World.size_alloc, World.size_setCell, World.size_drew, more_size, World.heap_drewN]; omega) | go_size))⟩
    · clear h1 h2 h3
      go_enter Tryd.func21, Tryd.ntmps21
      go_wp2_with (first | (go_at_call 26; refine (timer_Is _ _).mono ?_; rintro e w' ⟨rfl, rfl⟩) | (go_at_call 28; refine (count_Is _ _).mono ?_; rintro e w' ⟨rfl, rfl⟩) | (go_at_call 30; refine (trig_Is _ _).mono ?_; rintro e w' ⟨rfl, rfl⟩))
      refine bodyPost_ret (by simp [results, Tryd.results21, go_sem, more_cell, more_size, more_frozen]; try rfl) rfl ?_
      exact ⟨by rw [HR.out, HN.out], by (repeat' (first | (with_reducible exact Below.refl _ _) | (with_reducible assumption) | (with_reducible refine more_below ?_ ?_ _ _) | (with_reducible refine below_drewN ?_ _) | (with_reducible refine Below.alloc ?_ ?_ _) | (with_reducible refine Below.drew ?_) | (with_reducible refine Below.setCell ?_ ?_ _) | (simp only [World.size_alloc, World.size_setCell, World.size_drew, more_size, World.heap_drewN]; omega) | go_size))⟩
set_option maxHeartbeats 4000000 in
theorem ref11_Run (k now x0 x1 x2 x3 x4 x5 x6 x7 x8 x9 : Int) (w : World) (hb : ∀ x ∈ [x4, x7], -9223372036854775808 ≤ x ∧ x ≤ 9223372036854775807) : Calls Tryd.prog 22 #[.int .i64 k, .agg #[.int .i64 x0, .int .i64 x1, .int .i64 x2, .int .i64 x3, .int .i64 x4, .int .i64 x5, .int .i64 x6, .int .i64 x7, .int .i64 x8, .int .i64 x9], .int .i64 now] w fun e w' => e = .returned (bRun k now x0 x1 x2 x3 x4 x5 x6 x7 x8 x9) ∧ Below w.heap.size w w' := by
  have mc := @more_cell
  have mf := @more_frozen
  have ms := @more_set
  have md := more_drewN
  have md1 := more_drew
  have mcp := @cell_past
  have HB := Lib.hid hb
  clear hb
  have i1 : tmIs k = decide (1 ≤ k ∧ k ≤ 3) := by unfold tmIs; congr 1; apply propext; omega
  have i2 : ctIs k = decide (4 ≤ k ∧ k ≤ 6) := by unfold ctIs; congr 1; apply propext; omega
  have i3 : tgIs k = decide (7 ≤ k ∧ k ≤ 8) := by unfold tgIs; congr 1; apply propext; omega
  by_cases h1 : 1 ≤ k ∧ k ≤ 3
  · have HR := Lib.hid (bRun_t h1 now x0 x1 x2 x3 x4 x5 x6 x7 x8 x9)
    obtain ⟨y0, y1, y2, y3, y4, y5, y6, y7, y8, y9, hy⟩ := tmStep_agg k now x0 x1 x2 x3 x4 x5 x6 x7 x8 x9
    have HY := Lib.hid hy
    clear hy
    go_enter Tryd.func22, Tryd.ntmps22
    go_wp2_with (go_at_call 32; refine (ref08_Step k now x0 x1 x2 x3 x4 x5 x6 x7 x8 x9 _).mono ?_; rintro e w1 ⟨rfl, hb⟩; rw [HY.out]; obtain ⟨l, d, rfl⟩ := more_of hb; clear hb)
    refine bodyPost_ret (by simp [results, Tryd.results22, go_sem, more_cell, more_size, more_frozen]; try rfl) rfl ?_
    exact ⟨by rw [HR.out, HY.out], by (repeat' (first | (with_reducible exact Below.refl _ _) | (with_reducible assumption) | (with_reducible refine more_below ?_ ?_ _ _) | (with_reducible refine below_drewN ?_ _) | (with_reducible refine Below.alloc ?_ ?_ _) | (with_reducible refine Below.drew ?_) | (with_reducible refine Below.setCell ?_ ?_ _) | (simp only [World.size_alloc, World.size_setCell, World.size_drew, more_size, World.heap_drewN]; omega) | go_size))⟩
  by_cases h2 : 4 ≤ k ∧ k ≤ 6
  · have HR := Lib.hid (bRun_c h2 now x0 x1 x2 x3 x4 x5 x6 x7 x8 x9)
    clear h1
    obtain ⟨y0, y1, y2, y3, y4, y5, y6, y7, y8, y9, hy⟩ := ctStep_agg k x0 x1 x2 x3 x4 x5 x6 x7 x8 x9
    have HY := Lib.hid hy
    clear hy
    go_enter Tryd.func22, Tryd.ntmps22
    go_wp2_with (go_at_call 33; refine (ref09_Step k x0 x1 x2 x3 x4 x5 x6 x7 x8 x9 _ HB.out).mono ?_; rintro e w1 ⟨rfl, hb⟩; rw [HY.out]; obtain ⟨l, d, rfl⟩ := more_of hb; clear hb)
    refine bodyPost_ret (by simp [results, Tryd.results22, go_sem, more_cell, more_size, more_frozen]; try rfl) rfl ?_
    exact ⟨by rw [HR.out, HY.out], by (repeat' (first | (with_reducible exact Below.refl _ _) | (with_reducible assumption) | (with_reducible refine more_below ?_ ?_ _ _) | (with_reducible refine below_drewN ?_ _) | (with_reducible refine Below.alloc ?_ ?_ _) | (with_reducible refine Below.drew ?_) | (with_reducible refine Below.setCell ?_ ?_ _) | (simp only [World.size_alloc, World.size_setCell, World.size_drew, more_size, World.heap_drewN]; omega) | go_size))⟩
  have HR := Lib.hid (bRun_g (k := k) (by omega) now x0 x1 x2 x3 x4 x5 x6 x7 x8 x9)
  by_cases h4 : 1 ≤ k
  · have h5 : 6 < k := by omega
    clear h1 h2
    go_enter Tryd.func22, Tryd.ntmps22
    go_wp2_with (go_at_call 34; refine (ref10_Step _ x0 x1 x2 x3 x4 x5 x6 x7 x8 x9 _).mono ?_; rintro e w1 ⟨rfl, hb⟩; obtain ⟨l, d, rfl⟩ := more_of hb; clear hb)
    refine bodyPost_ret (by simp [results, Tryd.results22, go_sem, more_cell, more_size, more_frozen]; try rfl) rfl ?_
    exact ⟨by rw [HR.out]; rfl, by (repeat' (first | (with_reducible exact Below.refl _ _) | (with_reducible assumption) | (with_reducible refine more_below ?_ ?_ _ _) | (with_reducible refine below_drewN ?_ _) | (with_reducible refine Below.alloc ?_ ?_ _) | (with_reducible refine Below.drew ?_) | (with_reducible refine Below.setCell ?_ ?_ _) | (simp only [World.size_alloc, World.size_setCell, World.size_drew, more_size, World.heap_drewN]; omega) | go_size))⟩
  · clear h1 h2
    go_enter Tryd.func22, Tryd.ntmps22
    go_wp2_with (go_at_call 34; refine (ref10_Step _ x0 x1 x2 x3 x4 x5 x6 x7 x8 x9 _).mono ?_; rintro e w1 ⟨rfl, hb⟩; obtain ⟨l, d, rfl⟩ := more_of hb; clear hb)
    refine bodyPost_ret (by simp [results, Tryd.results22, go_sem, more_cell, more_size, more_frozen]; try rfl) rfl ?_
    exact ⟨by rw [HR.out]; rfl, by (repeat' (first | (with_reducible exact Below.refl _ _) | (with_reducible assumption) | (with_reducible refine more_below ?_ ?_ _ _) | (with_reducible refine below_drewN ?_ _) | (with_reducible refine Below.alloc ?_ ?_ _) | (with_reducible refine Below.drew ?_) | (with_reducible refine Below.setCell ?_ ?_ _) | (simp only [World.size_alloc, World.size_setCell, World.size_drew, more_size, World.heap_drewN]; omega) | go_size))⟩
end Go.Proofs.YtajgdfgemcpjgaaDoor
