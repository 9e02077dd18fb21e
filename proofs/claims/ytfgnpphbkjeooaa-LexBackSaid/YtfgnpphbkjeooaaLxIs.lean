/- Layer 47: which bytes a word has. -/
import Derived.Test.YtfgnpphbkjeooaaLxA
import Derived.Test.YtfgnpphbkjeooaaSeq
import Derived.Test.YtfgnpphbkjeooaaMoreB
import Derived.LoopTactic
import Derived.OwnWalk
import Derived.WalkKit
import Derived.WalkSpells
import Derived.WalkLawsBesides
import Derived.Deep.QuietTactic
import Derived.BigQuiet
import Derived.WalkSmall
import Derived.IntWalk
namespace Go.Proofs.Ytfgnpphbkjeooaa
open Go.RowKit
set_option linter.unusedSimpArgs false
set_option linter.unusedVariables false
set_option maxHeartbeats 2000000 in
theorem lex_isWord (c : UInt8) (w : World) : Calls Try.prog 21 #[.int .u8 (c.toNat : Int)] w fun e w' => e = .returned (.bool (LX.wordC c)) ∧ w' = w := by
  obtain ⟨n, hn⟩ : ∃ n, c.toNat = n := ⟨_, rfl⟩
  have HD := Lib.hid (show LX.wordC c = decide (97 ≤ n ∧ n ≤ 122 ∨ 65 ≤ n ∧ n ≤ 90 ∨ 48 ≤ n ∧ n ≤ 57 ∨ n = 95 ∨ n = 35) by unfold LX.wordC; rw [hn])
  rw [hn]
  clear hn
  rcases Classical.em (97 ≤ n ∧ n ≤ 122) with h | h
  · have g97 : (97 ≤ (n : Int)) = True := eq_true (by omega)
    have g97n : (97 ≤ n) = True := eq_true (by omega)
    have l122 : ((n : Int) ≤ 122) = True := eq_true (by omega)
    have l122n : (n ≤ 122) = True := eq_true (by omega)
    have hs := Lib.hid (HD.out.trans (decide_eq_true (by omega)))
    clear HD
    clear h
    go_enter Try.func21, Try.ntmps21
    go_wp2_with fail
    go_ret
    exact ⟨by rw [hs.out]; rfl, rfl⟩
  have h0 := h
  clear h
  rcases Classical.em (122 < n) with h | h
  · have g97 : (97 ≤ (n : Int)) = True := eq_true (by omega)
    have g97n : (97 ≤ n) = True := eq_true (by omega)
    have g65 : (65 ≤ (n : Int)) = True := eq_true (by omega)
    have g65n : (65 ≤ n) = True := eq_true (by omega)
    have g48 : (48 ≤ (n : Int)) = True := eq_true (by omega)
    have g48n : (48 ≤ n) = True := eq_true (by omega)
    have l122 : ((n : Int) ≤ 122) = False := eq_false (by omega)
    have l122n : (n ≤ 122) = False := eq_false (by omega)
    have l90 : ((n : Int) ≤ 90) = False := eq_false (by omega)
    have l90n : (n ≤ 90) = False := eq_false (by omega)
    have l57 : ((n : Int) ≤ 57) = False := eq_false (by omega)
    have l57n : (n ≤ 57) = False := eq_false (by omega)
    have e95 : ((n : Int) == 95) = false := by simp; omega
    have e95n : (n == 95) = false := by simp; omega
    have e35 : ((n : Int) == 35) = false := by simp; omega
    have e35n : (n == 35) = false := by simp; omega
    have hs := Lib.hid (HD.out.trans (decide_eq_false (by omega)))
    clear HD
    clear h0 h
    go_enter Try.func21, Try.ntmps21
    go_wp2_with fail
    go_ret
    exact ⟨by rw [hs.out]; rfl, rfl⟩
  have h1 := h
  clear h
  rcases Classical.em (65 ≤ n ∧ n ≤ 90) with h | h
  · have g97 : (97 ≤ (n : Int)) = False := eq_false (by omega)
    have g97n : (97 ≤ n) = False := eq_false (by omega)
    have g65 : (65 ≤ (n : Int)) = True := eq_true (by omega)
    have g65n : (65 ≤ n) = True := eq_true (by omega)
    have l90 : ((n : Int) ≤ 90) = True := eq_true (by omega)
    have l90n : (n ≤ 90) = True := eq_true (by omega)
    have hs := Lib.hid (HD.out.trans (decide_eq_true (by omega)))
    clear HD
    clear h0 h1 h
    go_enter Try.func21, Try.ntmps21
    go_wp2_with fail
    go_ret
    exact ⟨by rw [hs.out]; rfl, rfl⟩
  have h2 := h
  clear h
  rcases Classical.em (n = 95) with h | h
  · have g97 : (97 ≤ (n : Int)) = False := eq_false (by omega)
    have g97n : (97 ≤ n) = False := eq_false (by omega)
    have g65 : (65 ≤ (n : Int)) = True := eq_true (by omega)
    have g65n : (65 ≤ n) = True := eq_true (by omega)
    have g48 : (48 ≤ (n : Int)) = True := eq_true (by omega)
    have g48n : (48 ≤ n) = True := eq_true (by omega)
    have l90 : ((n : Int) ≤ 90) = False := eq_false (by omega)
    have l90n : (n ≤ 90) = False := eq_false (by omega)
    have l57 : ((n : Int) ≤ 57) = False := eq_false (by omega)
    have l57n : (n ≤ 57) = False := eq_false (by omega)
    have e95 : ((n : Int) == 95) = true := by simp; omega
    have e95n : (n == 95) = true := by simp; omega
    have hs := Lib.hid (HD.out.trans (decide_eq_true (by omega)))
    clear HD
    clear h0 h1 h2 h
    go_enter Try.func21, Try.ntmps21
    go_wp2_with fail
    go_ret
    exact ⟨by rw [hs.out]; rfl, rfl⟩
  have h3 := h
  clear h
  rcases Classical.em (90 < n) with h | h
  · have g97 : (97 ≤ (n : Int)) = False := eq_false (by omega)
    have g97n : (97 ≤ n) = False := eq_false (by omega)
    have g65 : (65 ≤ (n : Int)) = True := eq_true (by omega)
    have g65n : (65 ≤ n) = True := eq_true (by omega)
    have g48 : (48 ≤ (n : Int)) = True := eq_true (by omega)
    have g48n : (48 ≤ n) = True := eq_true (by omega)
    have l90 : ((n : Int) ≤ 90) = False := eq_false (by omega)
    have l90n : (n ≤ 90) = False := eq_false (by omega)
    have l57 : ((n : Int) ≤ 57) = False := eq_false (by omega)
    have l57n : (n ≤ 57) = False := eq_false (by omega)
    have e95 : ((n : Int) == 95) = false := by simp; omega
    have e95n : (n == 95) = false := by simp; omega
    have e35 : ((n : Int) == 35) = false := by simp; omega
    have e35n : (n == 35) = false := by simp; omega
    have hs := Lib.hid (HD.out.trans (decide_eq_false (by omega)))
    clear HD
    clear h0 h1 h2 h3 h
    go_enter Try.func21, Try.ntmps21
    go_wp2_with fail
    go_ret
    exact ⟨by rw [hs.out]; rfl, rfl⟩
  have h4 := h
  clear h
  rcases Classical.em (48 ≤ n ∧ n ≤ 57) with h | h
  · have g97 : (97 ≤ (n : Int)) = False := eq_false (by omega)
    have g97n : (97 ≤ n) = False := eq_false (by omega)
    have g65 : (65 ≤ (n : Int)) = False := eq_false (by omega)
    have g65n : (65 ≤ n) = False := eq_false (by omega)
    have g48 : (48 ≤ (n : Int)) = True := eq_true (by omega)
    have g48n : (48 ≤ n) = True := eq_true (by omega)
    have l57 : ((n : Int) ≤ 57) = True := eq_true (by omega)
    have l57n : (n ≤ 57) = True := eq_true (by omega)
    have hs := Lib.hid (HD.out.trans (decide_eq_true (by omega)))
    clear HD
    clear h0 h1 h2 h3 h4 h
    go_enter Try.func21, Try.ntmps21
    go_wp2_with fail
    go_ret
    exact ⟨by rw [hs.out]; rfl, rfl⟩
  have h5 := h
  clear h
  rcases Classical.em (57 < n) with h | h
  · have g97 : (97 ≤ (n : Int)) = False := eq_false (by omega)
    have g97n : (97 ≤ n) = False := eq_false (by omega)
    have g65 : (65 ≤ (n : Int)) = False := eq_false (by omega)
    have g65n : (65 ≤ n) = False := eq_false (by omega)
    have g48 : (48 ≤ (n : Int)) = True := eq_true (by omega)
    have g48n : (48 ≤ n) = True := eq_true (by omega)
    have l57 : ((n : Int) ≤ 57) = False := eq_false (by omega)
    have l57n : (n ≤ 57) = False := eq_false (by omega)
    have e95 : ((n : Int) == 95) = false := by simp; omega
    have e95n : (n == 95) = false := by simp; omega
    have e35 : ((n : Int) == 35) = false := by simp; omega
    have e35n : (n == 35) = false := by simp; omega
    have hs := Lib.hid (HD.out.trans (decide_eq_false (by omega)))
    clear HD
    clear h0 h1 h2 h3 h4 h5 h
    go_enter Try.func21, Try.ntmps21
    go_wp2_with fail
    go_ret
    exact ⟨by rw [hs.out]; rfl, rfl⟩
  have h6 := h
  clear h
  rcases Classical.em (n = 35) with h | h
  · have g97 : (97 ≤ (n : Int)) = False := eq_false (by omega)
    have g97n : (97 ≤ n) = False := eq_false (by omega)
    have g65 : (65 ≤ (n : Int)) = False := eq_false (by omega)
    have g65n : (65 ≤ n) = False := eq_false (by omega)
    have g48 : (48 ≤ (n : Int)) = False := eq_false (by omega)
    have g48n : (48 ≤ n) = False := eq_false (by omega)
    have e95 : ((n : Int) == 95) = false := by simp; omega
    have e95n : (n == 95) = false := by simp; omega
    have e35 : ((n : Int) == 35) = true := by simp; omega
    have e35n : (n == 35) = true := by simp; omega
    have hs := Lib.hid (HD.out.trans (decide_eq_true (by omega)))
    clear HD
    clear h0 h1 h2 h3 h4 h5 h6 h
    go_enter Try.func21, Try.ntmps21
    go_wp2_with fail
    go_ret
    exact ⟨by rw [hs.out]; rfl, rfl⟩
  have h7 := h
  clear h
  have g97 : (97 ≤ (n : Int)) = False := eq_false (by omega)
  have g97n : (97 ≤ n) = False := eq_false (by omega)
  have g65 : (65 ≤ (n : Int)) = False := eq_false (by omega)
  have g65n : (65 ≤ n) = False := eq_false (by omega)
  have g48 : (48 ≤ (n : Int)) = False := eq_false (by omega)
  have g48n : (48 ≤ n) = False := eq_false (by omega)
  have e95 : ((n : Int) == 95) = false := by simp; omega
  have e95n : (n == 95) = false := by simp; omega
  have e35 : ((n : Int) == 35) = false := by simp; omega
  have e35n : (n == 35) = false := by simp; omega
  have hs := Lib.hid (HD.out.trans (decide_eq_false (by omega)))
  clear HD
  clear h0 h1 h2 h3 h4 h5 h6 h7
  go_enter Try.func21, Try.ntmps21
  go_wp2_with fail
  go_ret
  exact ⟨by rw [hs.out]; rfl, rfl⟩
end Go.Proofs.Ytfgnpphbkjeooaa
