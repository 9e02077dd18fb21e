/- Layer 4: the contracts of Literal. -/
import Derived.Test.YtmjhjcfjgefdiaaDoorNumRefParse
namespace Go.Proofs.YtmjhjcfjgefdiaaDoor
open Go.RowKit
set_option linter.unusedSimpArgs false
set_option linter.unusedVariables false
def litS (t v : Int) : ByteArray := ⟨(lit t v).toArray⟩
theorem litS_6 {v : Int} (h : kIn 6 v = true) : litS 6 v = ⟨#[84, 35]⟩ ++ prS v ++ ⟨#[109, 115]⟩ := by
  unfold litS; rw [lit_6 h]
  unfold prS
  rw [show (⟨#[84, 35]⟩ : ByteArray) = ⟨[84, 35].toArray⟩ from rfl, show (⟨#[109, 115]⟩ : ByteArray) = ⟨[109, 115].toArray⟩ from rfl, ba_app, ba_app]
theorem litS_m {t v : Int} (h : kIn t v = true) (h1 : t ≠ 1) (h6 : t ≠ 6) : litS t v = kName t ++ ⟨#[35]⟩ ++ prS v := by
  unfold litS; rw [lit_m h h1 h6]
  unfold prS nm
  rw [show kName t = ⟨(kName t).data.toList.toArray⟩ from by simp, show (⟨#[35]⟩ : ByteArray) = ⟨[35].toArray⟩ from rfl, ba_app, ba_app]
theorem litS_no {t v : Int} (h : kIn t v = false) : litS t v = ⟨#[]⟩ := by unfold litS; rw [lit_no h]
theorem prS_size {n : Int} (h : -9223372036854775808 ≤ n ∧ n ≤ 9223372036854775807) : (prS n).size ≤ 20 := by
  rw [show (prS n).size = (pr n).length from List.size_toArray]; exact pr_len h
end Go.Proofs.YtmjhjcfjgefdiaaDoor
