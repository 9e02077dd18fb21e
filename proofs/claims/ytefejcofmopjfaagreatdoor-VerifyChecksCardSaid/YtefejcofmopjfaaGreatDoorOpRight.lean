/- Layer 12: the answer's Right. -/
import Derived.Test.YtefejcofmopjfaaGreatDoorOpR
namespace Go.Proofs.YtefejcofmopjfaaGreatDoor
open Go.RowKit
set_option linter.unusedSimpArgs false
set_option linter.unusedVariables false
set_option maxHeartbeats 2000000 in
theorem ref12_Right (o a b : Int) (w : World) : Calls Tryz.prog 61 #[.agg #[.int .i64 o, .int .i64 a, .int .i64 b]] w fun e w' => e = .returned (.bool (oRight o a b)) ∧ Below w.heap.size w w' := by
  have mc := @more_cell
  have HR := Lib.hid (show oRight o a b = (oIs o && oFit (oA o) a && oFit (oB o) b) from rfl)
  have HY := Lib.hid (@oIs_yes o)
  have HN := Lib.hid (@oIs_no o)
  have hS := @ref12_Shape o
  have hA := @ref12_may a (oA o)
  have hB := @ref12_may b (oB o)
  generalize oA o = x at *
  generalize oB o = y at *
  generalize oFit x a = p at *
  generalize oFit y b = q at *
  by_cases h0 : 0 ≤ o
  · by_cases h1 : o ≤ 37
    · have hi := Lib.hid (HY.out ⟨h0, h1⟩)
      cases p <;> cases q
      all_goals
        go_enter Tryz.func61, Tryz.ntmps61
        go_wp2_with fail
        refine (hS _).mono ?_; rintro e w1 ⟨rfl, hb⟩
        obtain ⟨l, d, rfl⟩ := more_of hb
        clear hb
        go_wp2_with fail
        try (refine (hA _).mono ?_; rintro e w' ⟨rfl, rfl⟩; go_wp2_with fail)
        try (refine (hB _).mono ?_; rintro e w' ⟨rfl, rfl⟩; go_wp2_with fail)
        go_ret
        exact ⟨by rw [HR.out, hi.out]; rfl, by (repeat' (first | (with_reducible exact Below.refl _ _) | (with_reducible assumption) | (with_reducible refine more_below ?_ ?_ _ _) | (with_reducible refine below_drewN ?_ _) | (with_reducible refine Below.alloc ?_ ?_ _) | (with_reducible refine Below.drew ?_) | (with_reducible refine Below.setCell ?_ ?_ _) | (simp only [World.size_alloc, World.size_setCell, World.size_drew, more_size, World.heap_drewN]; omega) | go_size))⟩
    · have hi := Lib.hid (HN.out (fun h => h1 h.2))
      go_enter Tryz.func61, Tryz.ntmps61
      go_wp2_with fail
      refine (hS _).mono ?_; rintro e w1 ⟨rfl, hb⟩
      obtain ⟨l, d, rfl⟩ := more_of hb
      clear hb
      go_wp2_with fail
      go_ret
      exact ⟨by rw [HR.out, hi.out]; rfl, by (repeat' (first | (with_reducible exact Below.refl _ _) | (with_reducible assumption) | (with_reducible refine more_below ?_ ?_ _ _) | (with_reducible refine below_drewN ?_ _) | (with_reducible refine Below.alloc ?_ ?_ _) | (with_reducible refine Below.drew ?_) | (with_reducible refine Below.setCell ?_ ?_ _) | (simp only [World.size_alloc, World.size_setCell, World.size_drew, more_size, World.heap_drewN]; omega) | go_size))⟩
  · have hi := Lib.hid (HN.out (fun h => h0 h.1))
    go_enter Tryz.func61, Tryz.ntmps61
    go_wp2_with fail
    refine (hS _).mono ?_; rintro e w1 ⟨rfl, hb⟩
    obtain ⟨l, d, rfl⟩ := more_of hb
    clear hb
    go_wp2_with fail
    go_ret
    exact ⟨by rw [HR.out, hi.out]; rfl, by (repeat' (first | (with_reducible exact Below.refl _ _) | (with_reducible assumption) | (with_reducible refine more_below ?_ ?_ _ _) | (with_reducible refine below_drewN ?_ _) | (with_reducible refine Below.alloc ?_ ?_ _) | (with_reducible refine Below.drew ?_) | (with_reducible refine Below.setCell ?_ ?_ _) | (simp only [World.size_alloc, World.size_setCell, World.size_drew, more_size, World.heap_drewN]; omega) | go_size))⟩
end Go.Proofs.YtefejcofmopjfaaGreatDoor
