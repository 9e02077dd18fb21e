/- Whether a program's lists are short. -/
import Derived.Test.YtefejcofmopjfaaGreatDoorPgm
import Derived.Test.YtefejcofmopjfaaGreatDoorMoreB
import Derived.Test.YtefejcofmopjfaaGreatDoorRowTwo
import Derived.LoopTactic
import Derived.OwnWalk
import Derived.WalkKit
import Derived.WalkSpells
import Derived.WalkLawsBesides
import Derived.Deep.QuietTactic
import Derived.BigQuiet
import Derived.WalkSmall
import Derived.IntWalk
namespace Go.Proofs.YtefejcofmopjfaaGreatDoor
open Go.RowKit
set_option linter.unusedSimpArgs false
set_option linter.unusedVariables false
set_option maxHeartbeats 2000000 in
theorem law15_Few (a b c : Value) (x : Un) (w : World) (h : UnAt w a b c x) : Calls Tryz.prog 10 #[.agg #[.string ⟨x.name.toArray⟩, a, .int .i64 x.result, b, c]] w fun e w' => e = .returned (.bool (fewU x)) ∧ Below w.heap.size w w' := by
  have l1 := h.ps.len
  have l2 := h.ls.len
  have l3 := h.cs.len
  have l0 : x.name.length ≤ 9223372036854775807 := h.ns
  obtain ⟨sa, ca, rfl⟩ := row_get h.ps
  obtain ⟨sb, cb, rfl⟩ := row_get h.ls
  obtain ⟨sc, cc, rfl⟩ := row_get h.cs
  have cp := @cell_past
  have HD := Lib.hid (show fewU x = decide (x.name.length ≤ 300 ∧ x.params.length ≤ 20 ∧ x.locals.length ≤ 1100 ∧ x.code.length ≤ 300) from rfl)
  clear h
  have hsz : (⟨x.name.toArray⟩ : ByteArray).size = x.name.length := by simp [ByteArray.size]
  generalize (⟨x.name.toArray⟩ : ByteArray) = nm at *
  generalize x.name.length = n0 at *
  generalize x.params.length = n1 at *
  generalize x.locals.length = n2 at *
  generalize x.code.length = n3 at *
  by_cases h0 : n0 ≤ 300
  · have q0 : ((n0 : Int) ≤ 300) = True := eq_true (by omega)
    by_cases h1 : n1 ≤ 20
    · have q1 : ((n1 : Int) ≤ 20) = True := eq_true (by omega)
      by_cases h2 : n2 ≤ 1100
      · have q2 : ((n2 : Int) ≤ 1100) = True := eq_true (by omega)
        by_cases h3 : n3 ≤ 300
        · have q3 : ((n3 : Int) ≤ 300) = True := eq_true (by omega)
          have hs := Lib.hid (HD.out.trans (decide_eq_true ⟨h0, h1, h2, h3⟩))
          clear h0 h1 h2 h3
          go_enter Tryz.func10, Tryz.ntmps10
          go_wp2_with fail
          go_ret
          exact ⟨by rw [hs.out]; rfl, by (repeat' (first | (with_reducible exact Below.refl _ _) | (with_reducible assumption) | (with_reducible refine below_drewN ?_ _) | (with_reducible refine Below.alloc ?_ ?_ _) | (with_reducible refine Below.drew ?_) | (with_reducible refine Below.setCell ?_ ?_ _) | go_size))⟩
        · have q3 : ((n3 : Int) ≤ 300) = False := eq_false (by omega)
          have hs := Lib.hid (HD.out.trans (decide_eq_false (fun g => h3 g.2.2.2)))
          clear h0 h1 h2 h3
          go_enter Tryz.func10, Tryz.ntmps10
          go_wp2_with fail
          go_ret
          exact ⟨by rw [hs.out]; rfl, by (repeat' (first | (with_reducible exact Below.refl _ _) | (with_reducible assumption) | (with_reducible refine below_drewN ?_ _) | (with_reducible refine Below.alloc ?_ ?_ _) | (with_reducible refine Below.drew ?_) | (with_reducible refine Below.setCell ?_ ?_ _) | go_size))⟩
      · have q2 : ((n2 : Int) ≤ 1100) = False := eq_false (by omega)
        have hs := Lib.hid (HD.out.trans (decide_eq_false (fun g => h2 g.2.2.1)))
        clear h0 h1 h2
        go_enter Tryz.func10, Tryz.ntmps10
        go_wp2_with fail
        go_ret
        exact ⟨by rw [hs.out]; rfl, by (repeat' (first | (with_reducible exact Below.refl _ _) | (with_reducible assumption) | (with_reducible refine below_drewN ?_ _) | (with_reducible refine Below.alloc ?_ ?_ _) | (with_reducible refine Below.drew ?_) | (with_reducible refine Below.setCell ?_ ?_ _) | go_size))⟩
    · have q1 : ((n1 : Int) ≤ 20) = False := eq_false (by omega)
      have hs := Lib.hid (HD.out.trans (decide_eq_false (fun g => h1 g.2.1)))
      clear h0 h1
      go_enter Tryz.func10, Tryz.ntmps10
      go_wp2_with fail
      go_ret
      exact ⟨by rw [hs.out]; rfl, by (repeat' (first | (with_reducible exact Below.refl _ _) | (with_reducible assumption) | (with_reducible refine below_drewN ?_ _) | (with_reducible refine Below.alloc ?_ ?_ _) | (with_reducible refine Below.drew ?_) | (with_reducible refine Below.setCell ?_ ?_ _) | go_size))⟩
  · have q0 : ((n0 : Int) ≤ 300) = False := eq_false (by omega)
    have hs := Lib.hid (HD.out.trans (decide_eq_false (fun g => h0 g.1)))
    clear h0
    go_enter Tryz.func10, Tryz.ntmps10
    go_wp2_with fail
    go_ret
    exact ⟨by rw [hs.out]; rfl, by (repeat' (first | (with_reducible exact Below.refl _ _) | (with_reducible assumption) | (with_reducible refine below_drewN ?_ _) | (with_reducible refine Below.alloc ?_ ?_ _) | (with_reducible refine Below.drew ?_) | (with_reducible refine Below.setCell ?_ ?_ _) | go_size))⟩
end Go.Proofs.YtefejcofmopjfaaGreatDoor
