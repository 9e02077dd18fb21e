/- Layer 5: the answer's numbers from 0 to 99 as texts. -/
import Derived.Test.YthammifbpdoggaaDoorIdItoa
namespace Go.Proofs.YthammifbpdoggaaDoor
open Go.RowKit
set_option linter.unusedSimpArgs false
set_option linter.unusedVariables false
theorem ten_digit : ∀ k : Fin 10, (⟨#[48, 49, 50, 51, 52, 53, 54, 55, 56, 57]⟩ : ByteArray).extract k.val (k.val + 1) = ⟨#[UInt8.ofNat (48 + k.val)]⟩ := by decide
theorem ten_slice {k : Nat} (h : k < 10) (w : World) : (Instr.slice 9 (.string ⟨#[48, 49, 50, 51, 52, 53, 54, 55, 56, 57]⟩) (some (.int .i64 (k : Int))) (some (.int .i64 ((k : Int) + 1))) none).run Tryd.prog w = .ok (.string ⟨#[UInt8.ofNat (48 + k)]⟩) w := by
  rw [run_slice_string w 9 _ .i64 .i64 _ _ Tryd.underlying9 (by omega) (by omega) (by show (k : Int) + 1 ≤ 10; omega), show ((k : Int)).toNat = k by omega, show ((k : Int) + 1).toNat = k + 1 by omega, ten_digit ⟨k, h⟩]
theorem ref04_Digits (i : Nat) (h : i < 100) (w : World) : Calls Tryd.prog 26 #[.int .u64 i] w fun e w' => e = .returned (.string ⟨(Lib.decDigits i).toArray⟩) ∧ w' = w := by
  by_cases h1 : i < 10
  · have q1 : (10 ≤ (i : Int)) = False := eq_false (by omega)
    have q1' : (10 ≤ i) = False := eq_false (by omega)
    have hs := fun W => ten_slice h1 W
    have HD := Lib.hid (Lib.decDigits_one h1)
    generalize UInt8.ofNat (48 + i) = d at *
    go_enter Tryd.func26, Tryd.ntmps26
    go_wp2_with fail
    refine wp_loop_rounds 1 ?_
    rw [rounds_succ]
    go_wp2_with fail
    go_returns
    exact ⟨by rw [HD.out]; rfl, rfl⟩
  · obtain ⟨a, b, ha, hb, hi⟩ : ∃ a b, a < 10 ∧ b < 10 ∧ i = 10 * a + b := ⟨i / 10, i % 10, by omega, by omega, by omega⟩
    have q1 : (10 ≤ (i : Int)) = True := eq_true (by omega)
    have q1' : (10 ≤ i) = True := eq_true (by omega)
    have q2 : (10 ≤ (a : Int)) = False := eq_false (by omega)
    have q2' : (10 ≤ a) = False := eq_false (by omega)
    have e1 : Int.tmod (i : Int) 10 = b := by rw [Int.tmod_eq_emod_of_nonneg (by omega)]; omega
    have e2 : Int.tdiv (i : Int) 10 = a := by rw [Int.tdiv_eq_ediv_of_nonneg (by omega)]; omega
    have hs1 := fun W => ten_slice ha W
    have hs2 := fun W => ten_slice hb W
    have HD := Lib.hid (show Lib.decDigits i = [UInt8.ofNat (48 + a), UInt8.ofNat (48 + b)] by rw [Lib.decDigits_two h1 h, show i / 10 = a by omega, show i % 10 = b by omega])
    generalize UInt8.ofNat (48 + a) = d1 at *
    generalize UInt8.ofNat (48 + b) = d2 at *
    clear hi h1
    go_enter Tryd.func26, Tryd.ntmps26
    go_wp2_with fail
    refine wp_loop_rounds 2 ?_
    rw [rounds_succ]
    go_wp2_with fail
    rw [rounds_succ]
    go_wp2_with fail
    go_returns
    exact ⟨by rw [HD.out]; rfl, rfl⟩
theorem ref04_Print (i : Nat) (h : i < 100) (w : World) : Calls Tryd.prog 23 #[.int .i64 i] w fun e w' => e = .returned (.string ⟨(Lib.decDigits i).toArray⟩) ∧ w' = w := by
  have hd := ref04_Digits i h w
  go_enter Tryd.func23, Tryd.ntmps23
  go_wp2_with fail
  refine hd.mono ?_; rintro e w2 ⟨rfl, rfl⟩
  go_wp2_with fail
  go_ret
  exact ⟨rfl, rfl⟩
end Go.Proofs.YthammifbpdoggaaDoor
