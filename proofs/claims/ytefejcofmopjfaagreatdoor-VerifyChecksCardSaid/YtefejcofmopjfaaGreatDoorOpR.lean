/- Layer 12: whether an instruction is right. -/
import Derived.Test.YtefejcofmopjfaaGreatDoorOp
namespace Go.Proofs.YtefejcofmopjfaaGreatDoor
open Go.RowKit
set_option linter.unusedSimpArgs false
set_option linter.unusedVariables false
def oFit (a n : Int) : Bool := if a = 0 then n == 0 else decide (0 ≤ n ∧ n ≤ 65535)
theorem oFit_0 {a : Int} (h : a = 0) (n : Int) : oFit a n = (n == 0) := if_pos h
theorem oFit_yes {a n : Int} (h : ¬ a = 0) (hn : 0 ≤ n ∧ n ≤ 65535) : oFit a n = true := by unfold oFit; rw [if_neg h]; exact decide_eq_true hn
theorem oFit_no {a n : Int} (h : ¬ a = 0) (hn : ¬ (0 ≤ n ∧ n ≤ 65535)) : oFit a n = false := by unfold oFit; rw [if_neg h]; exact decide_eq_false hn
def oRight (o a b : Int) : Bool := oIs o && oFit (oA o) a && oFit (oB o) b
theorem op_fits (a n : Int) (w : World) : Calls Tryz.prog 112 #[.int .i64 a, .int .i64 n] w fun e w' => e = .returned (.bool (oFit a n)) ∧ w = w' := by
  by_cases ha : a = 0
  · have HF := Lib.hid (oFit_0 ha n)
    subst ha
    go_enter Tryz.func112, Tryz.ntmps112
    go_wp2
    go_ret
    exact ⟨by rw [HF.out]; rfl, rfl⟩
  · have hz : ((a : Int) == 0) = false := beq_eq_false_iff_ne.2 ha
    by_cases h0 : 0 ≤ n
    · by_cases h1 : n ≤ 65535
      · have HF := Lib.hid (oFit_yes ha ⟨h0, h1⟩)
        clear ha
        go_enter Tryz.func112, Tryz.ntmps112
        go_wp2
        go_ret
        exact ⟨by rw [HF.out]; rfl, rfl⟩
      · have HF := Lib.hid (oFit_no ha (fun h => h1 h.2))
        clear ha
        go_enter Tryz.func112, Tryz.ntmps112
        go_wp2
        go_ret
        exact ⟨by rw [HF.out]; rfl, rfl⟩
    · have HF := Lib.hid (oFit_no ha (fun h => h0 h.1))
      clear ha
      go_enter Tryz.func112, Tryz.ntmps112
      go_wp2
      go_ret
      exact ⟨by rw [HF.out]; rfl, rfl⟩
theorem ref12_may (n a : Int) (w : World) : Calls Tryz.prog 88 #[.int .i64 n, .int .i64 a] w fun e w' => e = .returned (.bool (oFit a n)) ∧ w = w' := by
  by_cases hn : n = 0
  · have HF : Hid (oFit a n = true) := Lib.hid (by
      by_cases ha : a = 0
      · rw [oFit_0 ha, hn]; rfl
      · exact oFit_yes ha (by omega))
    subst hn
    go_enter Tryz.func88, Tryz.ntmps88
    go_wp2
    go_ret
    exact ⟨by rw [HF.out]; rfl, rfl⟩
  · have hz : ((n : Int) == 0) = false := beq_eq_false_iff_ne.2 hn
    by_cases ha : a = 0
    · have HF : Hid (oFit a n = false) := Lib.hid (by rw [oFit_0 ha, hz])
      subst ha
      clear hn
      go_enter Tryz.func88, Tryz.ntmps88
      go_wp2
      go_ret
      exact ⟨by rw [HF.out]; rfl, rfl⟩
    · have hza : ((a : Int) == 0) = false := beq_eq_false_iff_ne.2 ha
      have hzb : ((a : Int) != 0) = true := by rw [bne, hza]; rfl
      by_cases h0 : 0 < n
      · by_cases h1 : n < 65536
        · have HF := Lib.hid (oFit_yes ha (n := n) (by omega))
          clear ha hn
          go_enter Tryz.func88, Tryz.ntmps88
          go_wp2
          go_ret
          exact ⟨by rw [HF.out]; rfl, rfl⟩
        · have HF := Lib.hid (oFit_no ha (n := n) (by omega))
          clear ha hn
          go_enter Tryz.func88, Tryz.ntmps88
          go_wp2
          go_ret
          exact ⟨by rw [HF.out]; rfl, rfl⟩
      · have HF := Lib.hid (oFit_no ha (n := n) (by omega))
        clear ha hn
        go_enter Tryz.func88, Tryz.ntmps88
        go_wp2
        go_ret
        exact ⟨by rw [HF.out]; rfl, rfl⟩
set_option maxHeartbeats 2000000 in
theorem op_RightS (o a b : Int) (w : World) (hT : STab w) : Calls Tryz.prog 98 #[.agg #[.int .i64 o, .int .i64 a, .int .i64 b]] w fun e w' => e = .returned (.bool (oRight o a b)) ∧ Below w.heap.size w w' := by
  have HR := Lib.hid (show oRight o a b = (oIs o && oFit (oA o) a && oFit (oB o) b) from rfl)
  have hS := @op_ShapeS o
  have hI := @op_Is o
  have hA := @op_fits (oA o) a
  have hB := @op_fits (oB o) b
  generalize oA o = x at *
  generalize oB o = y at *
  generalize oIs o = i at *
  generalize oFit x a = p at *
  generalize oFit y b = q at *
  cases i <;> cases p <;> cases q
  all_goals
    go_enter Tryz.func98, Tryz.ntmps98
    go_wp2_with fail
    refine (hS _ (hT.below (by (repeat' (first | (with_reducible exact Below.refl _ _) | (with_reducible assumption) | (with_reducible refine below_drewN ?_ _) | (with_reducible refine Below.alloc ?_ ?_ _) | (with_reducible refine Below.drew ?_) | (with_reducible refine Below.setCell ?_ ?_ _) | go_size))))).mono ?_; rintro e w1 ⟨rfl, m, rfl⟩
    go_wp2_with fail
    refine (hI _).mono ?_; rintro e w' ⟨rfl, rfl⟩
    go_wp2_with fail
    try (refine (hA _).mono ?_; rintro e w' ⟨rfl, rfl⟩; go_wp2_with fail)
    try (refine (hB _).mono ?_; rintro e w' ⟨rfl, rfl⟩; go_wp2_with fail)
    go_ret
    exact ⟨by rw [HR.out]; rfl, by (repeat' (first | (with_reducible exact Below.refl _ _) | (with_reducible assumption) | (with_reducible refine below_drewN ?_ _) | (with_reducible refine Below.alloc ?_ ?_ _) | (with_reducible refine Below.drew ?_) | (with_reducible refine Below.setCell ?_ ?_ _) | go_size))⟩
end Go.Proofs.YtefejcofmopjfaaGreatDoor
