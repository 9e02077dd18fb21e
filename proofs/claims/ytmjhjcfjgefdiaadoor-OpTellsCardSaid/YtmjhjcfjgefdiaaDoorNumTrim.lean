/- Layer 4: a sign ahead of a text. -/
import Derived.Test.YtmjhjcfjgefdiaaDoorNumPrint
namespace Go.Proofs.YtmjhjcfjgefdiaaDoor
open Go.RowKit
set_option linter.unusedSimpArgs false
set_option linter.unusedVariables false
theorem ex_head (c : UInt8) (t : List UInt8) : ByteArray.extract ⟨(c :: t).toArray⟩ 0 1 = ⟨#[c]⟩ := by
  apply ByteArray.ext
  simp
theorem ex_tail (c : UInt8) (t : List UInt8) : ByteArray.extract ⟨(c :: t).toArray⟩ 1 (t.length + 1) = ⟨t.toArray⟩ := by
  apply ByteArray.ext
  simp
theorem body_cons (c : UInt8) (t : List UInt8) : body (c :: t) = if c = 45 then t else c :: t := by simp [body]
theorem isNeg_cons (c : UInt8) (t : List UInt8) : isNeg (c :: t) = (c == 45) := by simp [isNeg]
theorem strings_HasPrefix (l : List UInt8) (w : World) : Calls Tryd.prog 30 #[.string ⟨l.toArray⟩, .string ⟨#[45]⟩] w fun e w' => e = .returned (.bool (isNeg l)) ∧ w = w' := by
  cases l with
  | nil =>
    go_enter Tryd.func30, Tryd.ntmps30
    go_wp2
    go_ret
    exact ⟨rfl, rfl⟩
  | cons c t =>
    have h1 := ex_head c t
    go_enter Tryd.func30, Tryd.ntmps30
    go_wp2
    go_ret
    exact ⟨by rw [isNeg_cons]; rfl, rfl⟩
theorem strings_TrimPrefix (l : List UInt8) (w : World) : Calls Tryd.prog 29 #[.string ⟨l.toArray⟩, .string ⟨#[45]⟩] w fun e w' => e = .returned (.string ⟨(body l).toArray⟩) ∧ w = w' := by
  cases l with
  | nil =>
    go_enter Tryd.func29, Tryd.ntmps29
    go_wp2
    go_ret
    exact ⟨rfl, rfl⟩
  | cons c t =>
    have h1 := ex_head c t
    have h2 := ex_tail c t
    by_cases hc : c = 45
    · subst hc
      go_enter Tryd.func29, Tryd.ntmps29
      go_wp2
      go_ret
      exact ⟨rfl, rfl⟩
    · have hb : (c == 45) = false := by simpa using hc
      have he : body (c :: t) = c :: t := by rw [body_cons, if_neg hc]
      have He := Lib.hid he
      clear he
      go_enter Tryd.func29, Tryd.ntmps29
      go_wp2
      go_ret
      exact ⟨by rw [He.out]; rfl, rfl⟩
end Go.Proofs.YtmjhjcfjgefdiaaDoor
