/- Layer 19: what operations on variables, on types take, and leave. -/
import Derived.Test.YtefejcofmopjfaaGreatDoorStack
namespace Go.Proofs.YtefejcofmopjfaaGreatDoor
open Go.RowKit
set_option linter.unusedSimpArgs false
set_option linter.unusedVariables false
def tkV (o t : Int) : List Int := if o = 2 ∨ o = 4 then [] else if o = 6 then [2] else if o = 7 then [2, t] else [t]
def lvV (o t : Int) : List Int := if o = 2 ∨ o = 4 ∨ o = 6 then [t] else []
set_option maxHeartbeats 4000000 in
theorem stack_ofVariable (o t : Int) (w : World) (ho : 2 ≤ o ∧ o ≤ 7) (ht : I64 t) : Calls Tryz.prog 119 #[.int .i64 o, .int .i64 t] w fun e w' => ∃ r1 r2, e = .returned (.tuple #[r1, r2]) ∧ RowR 1 intR w' r1 (tkV o t) ∧ RowR 1 intR w' r2 (lvV o t) ∧ Below w.heap.size w w' := by
  have cp := @cell_past
  have hp1 := fun (W : World) (z : Int) (hz : I64 z) => stack_put (.slice none 0 0) (.slice (some ⟨W.heap.size, 0, none⟩) 1 1) [] [z] (W.alloc (.cells #[.int .i64 z] 3)) row_none (row_cells1 (by rw [cell_at rfl]; rfl) hz) (by simp) (by simp)
  have hp2 := fun (W : World) (z y : Int) (hz : I64 z) (hy : I64 y) => stack_put (.slice none 0 0) (.slice (some ⟨W.heap.size, 0, none⟩) 2 2) [] [z, y] (W.alloc (.cells #[.int .i64 z, .int .i64 y] 3)) row_none (row_cells2 (by rw [cell_at rfl]; rfl) (by rw [cell_at rfl]; rfl) hz hy) (by simp) (by simp)
  simp only [List.nil_append] at hp1 hp2
  have HP1 := Lib.hid hp1
  have HP2 := Lib.hid hp2
  have HT := Lib.hid ht
  clear hp1 hp2 ht
  obtain rfl | rfl | rfl | rfl | rfl | rfl : o = 2 ∨ o = 3 ∨ o = 4 ∨ o = 5 ∨ o = 6 ∨ o = 7 := by omega
  · go_enter Tryz.func119, Tryz.ntmps119
    go_wp2_with fail
    refine (HP1.out _ t HT.out).mono ?_; rintro e w1 ⟨r, rfl, hr, hb⟩
    have hb1 : Below w.heap.size w w1 := Below.trans (by (repeat' (first | (with_reducible exact Below.refl _ _) | (with_reducible assumption) | (with_reducible refine below_drewN ?_ _) | (with_reducible refine Below.alloc ?_ ?_ _) | (with_reducible refine Below.drew ?_) | (with_reducible refine Below.setCell ?_ ?_ _) | go_size))) (hb.mono (by simp))
    obtain ⟨ra, rc, rfl⟩ := row_get hr
    have Hr := Lib.hid hr
    clear hr hb
    go_wp2_with fail
    go_returns
    exact ⟨_, _, rfl, row_none, Hr.out, hb1⟩
  · go_enter Tryz.func119, Tryz.ntmps119
    go_wp2_with fail
    refine (HP1.out _ t HT.out).mono ?_; rintro e w1 ⟨r, rfl, hr, hb⟩
    have hb1 : Below w.heap.size w w1 := Below.trans (by (repeat' (first | (with_reducible exact Below.refl _ _) | (with_reducible assumption) | (with_reducible refine below_drewN ?_ _) | (with_reducible refine Below.alloc ?_ ?_ _) | (with_reducible refine Below.drew ?_) | (with_reducible refine Below.setCell ?_ ?_ _) | go_size))) (hb.mono (by simp))
    obtain ⟨ra, rc, rfl⟩ := row_get hr
    have Hr := Lib.hid hr
    clear hr hb
    go_wp2_with fail
    go_returns
    exact ⟨_, _, rfl, Hr.out, row_none, hb1⟩
  · go_enter Tryz.func119, Tryz.ntmps119
    go_wp2_with fail
    refine (HP1.out _ t HT.out).mono ?_; rintro e w1 ⟨r, rfl, hr, hb⟩
    have hb1 : Below w.heap.size w w1 := Below.trans (by (repeat' (first | (with_reducible exact Below.refl _ _) | (with_reducible assumption) | (with_reducible refine below_drewN ?_ _) | (with_reducible refine Below.alloc ?_ ?_ _) | (with_reducible refine Below.drew ?_) | (with_reducible refine Below.setCell ?_ ?_ _) | go_size))) (hb.mono (by simp))
    obtain ⟨ra, rc, rfl⟩ := row_get hr
    have Hr := Lib.hid hr
    clear hr hb
    go_wp2_with fail
    go_returns
    exact ⟨_, _, rfl, row_none, Hr.out, hb1⟩
  · go_enter Tryz.func119, Tryz.ntmps119
    go_wp2_with fail
    refine (HP1.out _ t HT.out).mono ?_; rintro e w1 ⟨r, rfl, hr, hb⟩
    have hb1 : Below w.heap.size w w1 := Below.trans (by (repeat' (first | (with_reducible exact Below.refl _ _) | (with_reducible assumption) | (with_reducible refine below_drewN ?_ _) | (with_reducible refine Below.alloc ?_ ?_ _) | (with_reducible refine Below.drew ?_) | (with_reducible refine Below.setCell ?_ ?_ _) | go_size))) (hb.mono (by simp))
    obtain ⟨ra, rc, rfl⟩ := row_get hr
    have Hr := Lib.hid hr
    clear hr hb
    go_wp2_with fail
    go_returns
    exact ⟨_, _, rfl, Hr.out, row_none, hb1⟩
  · go_enter Tryz.func119, Tryz.ntmps119
    go_wp2_with fail
    refine (HP1.out _ 2 I64_2).mono ?_; rintro e w1 ⟨r, rfl, hr, hb⟩
    have hb1 : Below w.heap.size w w1 := Below.trans (by (repeat' (first | (with_reducible exact Below.refl _ _) | (with_reducible assumption) | (with_reducible refine below_drewN ?_ _) | (with_reducible refine Below.alloc ?_ ?_ _) | (with_reducible refine Below.drew ?_) | (with_reducible refine Below.setCell ?_ ?_ _) | go_size))) (hb.mono (by simp))
    obtain ⟨ra, rc, rfl⟩ := row_get hr
    have Hr := Lib.hid hr
    clear hr hb
    go_wp2_with fail
    refine (HP1.out _ t HT.out).mono ?_; rintro e w2 ⟨r2, rfl, hr2, hb2⟩
    have hb12 : Below w1.heap.size w1 w2 := Below.trans (by (repeat' (first | (with_reducible exact Below.refl _ _) | (with_reducible assumption) | (with_reducible refine below_drewN ?_ _) | (with_reducible refine Below.alloc ?_ ?_ _) | (with_reducible refine Below.drew ?_) | (with_reducible refine Below.setCell ?_ ?_ _) | go_size))) (hb2.mono (by simp))
    obtain ⟨ra2, rc2, rfl⟩ := row_get hr2
    have Hr2 := Lib.hid hr2
    clear hr2 hb2
    go_wp2_with fail
    go_returns
    exact ⟨_, _, rfl, Hr.out.below intR_stable hb12, Hr2.out, hb1.trans (hb12.mono hb1.size)⟩
  · go_enter Tryz.func119, Tryz.ntmps119
    go_wp2_with fail
    refine (HP2.out _ 2 t I64_2 HT.out).mono ?_; rintro e w1 ⟨r, rfl, hr, hb⟩
    have hb1 : Below w.heap.size w w1 := Below.trans (by (repeat' (first | (with_reducible exact Below.refl _ _) | (with_reducible assumption) | (with_reducible refine below_drewN ?_ _) | (with_reducible refine Below.alloc ?_ ?_ _) | (with_reducible refine Below.drew ?_) | (with_reducible refine Below.setCell ?_ ?_ _) | go_size))) (hb.mono (by simp))
    obtain ⟨ra, rc, rfl⟩ := row_get hr
    have Hr := Lib.hid hr
    clear hr hb
    go_wp2_with fail
    go_returns
    exact ⟨_, _, rfl, Hr.out, row_none, hb1⟩
def tkT (o a : Int) : List Int := if o = 26 then [a] else if o = 18 ∨ o = 19 then [a, 2] else if aBinary o = false then [a] else [a, a]
def lvT (o a b : Int) : List Int := if o = 26 then [b] else if o = 18 ∨ o = 19 then [a] else if aBinary o = false then [a] else [aResult o a]
end Go.Proofs.YtefejcofmopjfaaGreatDoor
