/- Layer 14: the reference's parts. -/
import Derived.Test.YtdpcfcflcfjmjaaTabA
namespace Go.Proofs.Ytdpcfcflcfjmjaa
open Go.RowKit
set_option linter.unusedSimpArgs false
set_option linter.unusedVariables false
theorem ref14_small (z : Int) (w : World) : Calls Try.prog 28 #[.int .i64 z] w fun e w' => e = .returned (.bool (fitB z)) ∧ w = w' := by
  by_cases h0 : 0 ≤ z
  · have q0 : (0 ≤ z) = True := eq_true h0
    by_cases h1 : z < 256
    · have q1 : (z < 256) = True := eq_true h1
      have hs := Lib.hid (fitB_yes h0 (show z ≤ 255 by omega))
      clear h0 h1
      go_enter Try.func28, Try.ntmps28
      go_wp2_with fail
      go_ret
      exact ⟨by rw [hs.out]; rfl, rfl⟩
    · have q1 : (z < 256) = False := eq_false h1
      have hs := Lib.hid (show fitB z = false from decide_eq_false (fun g => h1 (by omega)))
      clear h0 h1
      go_enter Try.func28, Try.ntmps28
      go_wp2_with fail
      go_ret
      exact ⟨by rw [hs.out]; rfl, rfl⟩
  · have q0 : (0 ≤ z) = False := eq_false h0
    have hs := Lib.hid (show fitB z = false from decide_eq_false (fun g => h0 g.1))
    clear h0
    go_enter Try.func28, Try.ntmps28
    go_wp2_with fail
    go_ret
    exact ⟨by rw [hs.out]; rfl, rfl⟩
end Go.Proofs.Ytdpcfcflcfjmjaa
