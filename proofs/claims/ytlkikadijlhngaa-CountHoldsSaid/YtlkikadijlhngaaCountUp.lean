/- Contracts of count (layer 9): up, down, both, Step. -/
import Derived.Test.YtlkikadijlhngaaCount
namespace Go.Proofs.Ytlkikadijlhngaa
open Go.RowKit
def rb (x y : Int) : Bool := x != 0 && y == 0
def u4 (x0 x1 x4 x5 : Int) : Int := if x1 ≠ 0 then 0 else if rb x0 x5 = true then ctMore x4 else x4
def d4 (x0 x1 x2 x4 x5 : Int) : Int := if x1 ≠ 0 then x2 else if rb x0 x5 = true then ctLess x4 else x4
def b7 (x0 x1 x2 x3 x4 x7 x8 x9 : Int) : Int := if x2 ≠ 0 then 0 else if x3 ≠ 0 then x4 else if rb x0 x8 = true ∧ rb x1 x9 = false then ctMore x7 else if rb x1 x9 = true ∧ rb x0 x8 = false then ctLess x7 else x7
theorem drewN_set (W : World) (q : Nat) (x : Addr) (v : Value) : (W.drewN q).setCell x v = (W.setCell x v).drewN q := by
  simp only [World.setCell, World.heap_drewN]
  split <;> rfl
theorem makeFunc_run (fn : Fn) (first cap : Array Value) (w : World) : (Instr.makeFunc fn first cap).run Try.prog w = .ok (.func fn first cap) w := rfl
set_option maxHeartbeats 1000000 in
theorem count_up (x0 x1 x2 x3 x4 x5 x6 x7 x8 x9 : Int) (w : World) (hx4 : -9223372036854775808 ≤ x4 ∧ x4 ≤ 9223372036854775807) : Calls Try.prog 10 #[.agg #[.int .i64 x0, .int .i64 x1, .int .i64 x2, .int .i64 x3, .int .i64 x4, .int .i64 x5, .int .i64 x6, .int .i64 x7, .int .i64 x8, .int .i64 x9]] w
    fun e w' => e = .returned (.agg #[.int .i64 x0, .int .i64 x1, .int .i64 x2, .int .i64 (bnum (decide (u4 x0 x1 x4 x5 ≥ x2))), .int .i64 (u4 x0 x1 x4 x5), .int .i64 (bnum (x0 != 0)), .int .i64 x6, .int .i64 x7, .int .i64 x8, .int .i64 x9]) ∧ Below w.heap.size w w' := by
  obtain ⟨g1, g2⟩ := hx4
  have hmf := makeFunc_run
  have p4 := drewN_set
  have cases3 : (∃ z, u4 x0 x1 x4 x5 = z ∧ ((x1 != 0) = true ∧ z = 0 ∨ (x1 != 0) = false ∧ rb x0 x5 = true ∧ z = ctMore x4 ∨ (x1 != 0) = false ∧ rb x0 x5 = false ∧ z = x4)) := by
    refine ⟨_, rfl, ?_⟩
    unfold u4
    by_cases h1 : x1 = 0 <;> cases hr : rb x0 x5 <;> simp [h1]
  obtain ⟨z, hz, hw⟩ := cases3
  rw [hz]
  clear hz
  obtain ⟨r, hr⟩ : ∃ r, rb x0 x5 = r := ⟨_, rfl⟩
  rw [hr] at hw
  have Hr := Lib.hid (show (x0 != 0 && x5 == 0) = r from hr)
  clear hr
  rcases hw with ⟨hc, rfl⟩ | ⟨hc, rfl, rfl⟩ | ⟨hc, rfl, rfl⟩
  all_goals
    go_enter Try.func10, Try.ntmps10
    go_wp2_with (first | (go_at_call 17; go_in) | (go_at_call 21; refine (count_rises _ w.heap.size 0 5 _ _ rfl rfl x0 x5 _ (by omega) (by omega) (by go_cell) (by go_cell) (by go_cell) (by go_simp)).mono ?_; rintro e w' ⟨rfl, n, rfl⟩; rw [Hr.out]) | (go_at_call 19; refine (count_number _ _).mono ?_; rintro e w' ⟨rfl, rfl⟩) | (go_at_call 18; refine (count_more _ _ g1).mono ?_; rintro e w' ⟨rfl, rfl⟩) | fail)
    go_wp2_with fail
    go_returns
    exact ⟨rfl, by (repeat' (first | (with_reducible exact Below.refl _ _) | (with_reducible assumption) | (with_reducible refine below_drewN ?_ _) | (with_reducible refine Below.alloc ?_ ?_ _) | (with_reducible refine Below.drew ?_) | (with_reducible refine Below.setCell ?_ ?_ _) | go_size))⟩
set_option maxHeartbeats 1000000 in
theorem count_down (x0 x1 x2 x3 x4 x5 x6 x7 x8 x9 : Int) (w : World) (hx4 : -9223372036854775808 ≤ x4 ∧ x4 ≤ 9223372036854775807) : Calls Try.prog 11 #[.agg #[.int .i64 x0, .int .i64 x1, .int .i64 x2, .int .i64 x3, .int .i64 x4, .int .i64 x5, .int .i64 x6, .int .i64 x7, .int .i64 x8, .int .i64 x9]] w
    fun e w' => e = .returned (.agg #[.int .i64 x0, .int .i64 x1, .int .i64 x2, .int .i64 (bnum (decide (d4 x0 x1 x2 x4 x5 ≤ 0))), .int .i64 (d4 x0 x1 x2 x4 x5), .int .i64 (bnum (x0 != 0)), .int .i64 x6, .int .i64 x7, .int .i64 x8, .int .i64 x9]) ∧ Below w.heap.size w w' := by
  obtain ⟨g1, g2⟩ := hx4
  have hmf := makeFunc_run
  have p4 := drewN_set
  have cases3 : (∃ z, d4 x0 x1 x2 x4 x5 = z ∧ ((x1 != 0) = true ∧ z = x2 ∨ (x1 != 0) = false ∧ rb x0 x5 = true ∧ z = ctLess x4 ∨ (x1 != 0) = false ∧ rb x0 x5 = false ∧ z = x4)) := by
    refine ⟨_, rfl, ?_⟩
    unfold d4
    by_cases h1 : x1 = 0 <;> cases hr : rb x0 x5 <;> simp [h1]
  obtain ⟨z, hz, hw⟩ := cases3
  rw [hz]
  clear hz
  obtain ⟨r, hr⟩ : ∃ r, rb x0 x5 = r := ⟨_, rfl⟩
  rw [hr] at hw
  have Hr := Lib.hid (show (x0 != 0 && x5 == 0) = r from hr)
  clear hr
  rcases hw with ⟨hc, rfl⟩ | ⟨hc, rfl, rfl⟩ | ⟨hc, rfl, rfl⟩
  all_goals
    go_enter Try.func11, Try.ntmps11
    go_wp2_with (first | (go_at_call 17; go_in) | (go_at_call 21; refine (count_rises _ w.heap.size 0 5 _ _ rfl rfl x0 x5 _ (by omega) (by omega) (by go_cell) (by go_cell) (by go_cell) (by go_simp)).mono ?_; rintro e w' ⟨rfl, n, rfl⟩; rw [Hr.out]) | (go_at_call 19; refine (count_number _ _).mono ?_; rintro e w' ⟨rfl, rfl⟩) | (go_at_call 20; refine (count_less _ _ g2).mono ?_; rintro e w' ⟨rfl, rfl⟩) | fail)
    go_wp2_with fail
    go_returns
    exact ⟨rfl, by (repeat' (first | (with_reducible exact Below.refl _ _) | (with_reducible assumption) | (with_reducible refine below_drewN ?_ _) | (with_reducible refine Below.alloc ?_ ?_ _) | (with_reducible refine Below.drew ?_) | (with_reducible refine Below.setCell ?_ ?_ _) | go_size))⟩
end Go.Proofs.Ytlkikadijlhngaa
