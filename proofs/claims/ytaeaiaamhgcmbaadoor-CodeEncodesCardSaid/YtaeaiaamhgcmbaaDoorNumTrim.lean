/- Layer 4: a sign ahead of a text. -/
import Derived.Test.YtaeaiaamhgcmbaaDoorNumPrint
namespace Go.Proofs.YtaeaiaamhgcmbaaDoor
open Go.RowKit
set_option linter.unusedSimpArgs false
set_option linter.unusedVariables false
theorem ex_head (c : UInt8) (t : List UInt8) : ByteArray.extract ⟨(c :: t).toArray⟩ 0 1 = ⟨#[c]⟩ := by
  apply ByteArray.ext
  simp
theorem ex_tail (c : UInt8) (t : List UInt8) : ByteArray.extract ⟨(c :: t).toArray⟩ 1 (t.length + 1) = ⟨t.toArray⟩ := by
  apply ByteArray.ext
  simp
theorem body_cons (c : UInt8) (t : List UInt8) : body (c :: t) = if c = 45 then t else c :: t := by simp [body]
theorem isNeg_cons (c : UInt8) (t : List UInt8) : isNeg (c :: t) = (c == 45) := by simp [isNeg]
end Go.Proofs.YtaeaiaamhgcmbaaDoor
