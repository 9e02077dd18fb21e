/- Contracts of count (layer 9): both. -/
import Derived.Test.YtlkikadijlhngaaCountUp
import Derived.Deep.DeepCutAuto
import Derived.Deep.CutBlock
namespace Go.Proofs.Ytlkikadijlhngaa
open Go.RowKit
set_option maxHeartbeats 4000000 in
theorem count_both (x0 x1 x2 x3 x4 x5 x6 x7 x8 x9 : Int) (w : World) (hx7 : -9223372036854775808 ≤ x7 ∧ x7 ≤ 9223372036854775807) : Calls Try.prog 12 #[.agg #[.int .i64 x0, .int .i64 x1, .int .i64 x2, .int .i64 x3, .int .i64 x4, .int .i64 x5, .int .i64 x6, .int .i64 x7, .int .i64 x8, .int .i64 x9]] w
    fun e w' => e = .returned (.agg #[.int .i64 x0, .int .i64 x1, .int .i64 x2, .int .i64 x3, .int .i64 x4, .int .i64 (bnum (decide (b7 x0 x1 x2 x3 x4 x7 x8 x9 ≥ x4))), .int .i64 (bnum (decide (b7 x0 x1 x2 x3 x4 x7 x8 x9 ≤ 0))), .int .i64 (b7 x0 x1 x2 x3 x4 x7 x8 x9), .int .i64 (bnum (x0 != 0)), .int .i64 (bnum (x1 != 0))]) ∧ Below w.heap.size w w' := by
  obtain ⟨g1, g2⟩ := hx7
  have hmf := makeFunc_run
  have p4 := drewN_set
  have cases6 : (∃ z c d, b7 x0 x1 x2 x3 x4 x7 x8 x9 = z ∧ rb x0 x8 = c ∧ rb x1 x9 = d ∧ ((x2 != 0) = true ∧ z = 0 ∨ (x2 != 0) = false ∧ (x3 != 0) = true ∧ z = x4 ∨ (x2 != 0) = false ∧ (x3 != 0) = false ∧ c = true ∧ d = false ∧ z = ctMore x7 ∨ (x2 != 0) = false ∧ (x3 != 0) = false ∧ c = false ∧ d = true ∧ z = ctLess x7 ∨ (x2 != 0) = false ∧ (x3 != 0) = false ∧ c = true ∧ d = true ∧ z = x7 ∨ (x2 != 0) = false ∧ (x3 != 0) = false ∧ c = false ∧ d = false ∧ z = x7)) := by
    refine ⟨_, _, _, rfl, rfl, rfl, ?_⟩
    unfold b7
    by_cases h2 : x2 = 0 <;> by_cases h3 : x3 = 0 <;> cases hr : rb x0 x8 <;> cases hs : rb x1 x9 <;> simp [h2, h3]
  obtain ⟨z, c, d, hz, hc, hd, hw⟩ := cases6
  rw [hz]
  clear hz
  have Hc := Lib.hid (show (x0 != 0 && x8 == 0) = c from hc)
  have Hd := Lib.hid (show (x1 != 0 && x9 == 0) = d from hd)
  clear hc hd
  go_enter Try.func12, Try.ntmps12
  go_upto_block 0 with (first | (go_at_call 17; go_in) | (go_at_call_of 21 (Value.int .i64 0); refine (count_rises _ w.heap.size 0 8 _ _ rfl rfl x0 x8 _ (by omega) (by omega) (by go_cell) (by go_cell) (by go_cell) (by go_simp)).mono ?_; rintro e w' ⟨rfl, n, rfl⟩; rw [Hc.out]) | (go_at_call_of 21 (Value.int .i64 1); refine (count_rises _ w.heap.size 1 9 _ _ rfl rfl x1 x9 _ (by omega) (by omega) (by go_cell) (by go_cell) (by go_cell) (by go_simp)).mono ?_; rintro e w' ⟨rfl, n, rfl⟩; rw [Hd.out]) | fail)
  go_cut [1, 2] (fun s1 s2 wx => ∃ n x5' x6', s1 = .pointer (some ⟨w.heap.size, 0, none⟩) ∧ s2 = .pointer (some ⟨w.heap.size + 1, 0, none⟩) ∧ wx = (((w.alloc (.cells #[.int .i64 x0, .int .i64 x1, .int .i64 x2, .int .i64 x3, .int .i64 x4, .int .i64 x5, .int .i64 x6, .int .i64 z, .int .i64 (bnum (x0 != 0)), .int .i64 (bnum (x1 != 0))] 24)).alloc (.cells #[.int .i64 0, .int .i64 0, .int .i64 0, .int .i64 0, .int .i64 0, .int .i64 0, .int .i64 0, .int .i64 0, .int .i64 0, .int .i64 0] 24)).alloc (.cells #[.pointer (some ⟨w.heap.size, 0, none⟩)] 39)).drewN n ∧ x5' = x5 ∧ x6' = x6)
  case first =>
    rcases hw with ⟨h2, rfl⟩ | ⟨h2, h3, rfl⟩ | ⟨h2, h3, rfl, rfl, rfl⟩ | ⟨h2, h3, rfl, rfl, rfl⟩ | ⟨h2, h3, rfl, rfl, rfl⟩ | ⟨h2, h3, rfl, rfl, rfl⟩
    all_goals
      go_wp2_with (first | (go_at_call 18; refine (count_more _ _ g1).mono ?_; rintro e w' ⟨rfl, rfl⟩) | (go_at_call 20; refine (count_less _ _ g2).mono ?_; rintro e w' ⟨rfl, rfl⟩) | fail)
      go_wp2_with fail
      go_meet
      exact ⟨_, _, _, rfl, rfl, rfl, rfl, rfl⟩
  case rest =>
    obtain ⟨n, x5', x6', rfl, rfl, rfl, rfl, rfl⟩ := hcut
    go_wp2_with fail
    go_region_with ((go_at_call 19; refine (count_number _ _).mono ?_; rintro e w' ⟨rfl, rfl⟩))
    all_goals
      go_wp2_with fail
      go_returns
      exact ⟨rfl, by (repeat' (first | (with_reducible exact Below.refl _ _) | (with_reducible assumption) | (with_reducible refine below_drewN ?_ _) | (with_reducible refine Below.alloc ?_ ?_ _) | (with_reducible refine Below.drew ?_) | (with_reducible refine Below.setCell ?_ ?_ _) | go_size))⟩
end Go.Proofs.Ytlkikadijlhngaa
