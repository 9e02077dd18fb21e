/- Layer 14: the law's awake. -/
import Derived.Test.YtdpcfcflcfjmjaaTabE
import Derived.Test.YtdpcfcflcfjmjaaLawThree
import Derived.Lib.SlBytesConst
namespace Go.Proofs.Ytdpcfcflcfjmjaa
open Go.RowKit
set_option linter.unusedSimpArgs false
set_option linter.unusedVariables false
theorem law14_awake (w : World) : Calls Try.prog 6 #[] w fun e w' => e = .returned (.bool true) ∧ Below w.heap.size w w' := by
  have hok : okBs [⟨[97], 1⟩] = true := by decide
  have hP : putL 2 1 ++ blksL [⟨[97], 1⟩] = [1, 0, 1, 97, 1] := by decide +kernel
  have hR : RowR 2 blkR (w.alloc (.cells #[.string ⟨#[97]⟩, .int .i64 1] 42)) (.slice (some ⟨w.heap.size, 0, none⟩) 1 1) [⟨[97], 1⟩] := by
    refine Or.inr ⟨w.heap.size, 0, 1, rfl, by simp, by simp, by unfold maxLen; omega, by simp, fun i x hx => ?_⟩
    have hi : i = 0 := by
      by_cases hi : i = 0
      · exact hi
      · rw [List.getElem?_eq_none (by simp; omega)] at hx; cases hx
    subst hi
    obtain rfl : (⟨[97], 1⟩ : Bk) = x := by simpa using hx
    refine ⟨[.string ⟨#[97]⟩, .int .i64 1], rfl, fun j u hu => ?_, rfl, by simp [sz], (show I64 1 by unfold I64; omega)⟩
    have := Boxed.new w [.string ⟨#[97]⟩, .int .i64 1] 42 (Below.refl _ _) j u hu
    simpa using this
  have HR := Lib.hid (tab_PutBlocks _ _ _ hR (by intro x hx; simp at hx; rw [hx]; simp))
  clear hR
  go_enter Try.func6, Try.ntmps6
  go_wp2_with fail
  refine HR.out.mono ?_; rintro e w1 ⟨r, rfl, h1, h2, h3⟩
  rw [hok]
  have hO := h1 hok
  have hcv := conv_owns (P := Try.prog) (src := 23) (dst := 9) (e := 5) Try.underlying23 Try.underlying5 Try.underlying9 hO
  rw [show ([⟨[97], 1⟩] : List Bk).length = 1 from rfl] at hcv
  rw [show ((1 : Nat) : Int) = 1 from rfl, hP] at hcv
  clear hO h1 h2
  have hz := h3.size
  simp only [World.size_alloc] at hz h3
  go_wp2_with fail
  go_returns
  exact ⟨rfl, ((Below.refl _ _).alloc (Nat.le_refl _) _).trans (h3.mono (by omega))⟩
end Go.Proofs.Ytdpcfcflcfjmjaa
