/- Layer 4: the contract of the answer's Parse. -/
import Derived.Test.YtaeaiaamhgcmbaaDoorNumParse
namespace Go.Proofs.YtaeaiaamhgcmbaaDoor
open Go.RowKit
set_option linter.unusedSimpArgs false
set_option linter.unusedVariables false
def bd (l : List UInt8) (k : Nat) : List UInt8 := if isNeg l then (l.take k).tail else l.take k
theorem bd_all (l : List UInt8) {k : Nat} (h : k = l.length) : bd l k = body l := by
  subst h
  unfold bd body isNeg
  rw [List.take_length]
  by_cases hh : l.head? = some 45
  · rw [if_pos (by simpa using hh), if_pos hh]
  · rw [if_neg (by simpa using hh), if_neg hh]
theorem bd_step {l : List UInt8} {k : Nat} (hk : k < l.length) (h : isNeg l = true → 0 < k) : bd l (k + 1) = bd l k ++ [l.getD k 0] := by
  unfold bd
  rw [take_step hk]
  by_cases hn : isNeg l = true
  · rw [if_pos hn, if_pos hn]
    have h0 := h hn
    cases l with
    | nil => simp at hk
    | cons c t => cases k with
      | zero => omega
      | succ k => simp
  · rw [if_neg hn, if_neg hn]
theorem bd_zero (l : List UInt8) : bd l 0 = [] := by unfold bd; split <;> simp
theorem bd_one (l : List UInt8) (h : isNeg l = true) : bd l 1 = [] := by
  unfold bd; rw [if_pos h]
  cases l <;> simp
theorem mem_body {l : List UInt8} {k : Nat} (hk : k < l.length) (h : isNeg l = true → 0 < k) : l.getD k 0 ∈ body l := by
  have h1 : l.getD k 0 ∈ bd l (k + 1) := by rw [bd_step hk h]; simp
  rw [← bd_all l rfl]
  unfold bd at *
  split at h1
  · rename_i hn
    rw [if_pos hn, List.take_length]
    cases l with
    | nil => simp at hk
    | cons c t =>
      simp at h1 ⊢
      exact List.mem_of_mem_take h1
  · rename_i hn
    rw [if_neg hn, List.take_length]
    exact List.mem_of_mem_take h1
theorem pr_long {l : List UInt8} (h : 20 < l.length) {n : Int} (hn : -9223372036854775808 ≤ n ∧ n ≤ 9223372036854775807) : (pr n == l) = false := by
  rw [beq_eq_false_iff_ne]
  intro he
  have := pr_len hn
  rw [he] at this; omega
theorem idx_at {P : Program} {t : TypeId} (ht : P.underlying t = some .string) {l : List UInt8} {k : Nat} (W : World) (h : k < l.length) : (Instr.index t (.string ⟨l.toArray⟩) (.int .i64 k)).run P W = .ok (.int .u8 ((l.getD k 0).toNat : Int)) W := by
  have h2 : 0 ≤ (k : Int) ∧ (k : Int) < ((⟨l.toArray⟩ : ByteArray).size : Int) := ⟨by omega, by rw [show (⟨l.toArray⟩ : ByteArray).size = l.length from List.size_toArray]; omega⟩
  rw [run_index_string W t _ _ _ ht, dif_pos h2]
  have h3 : (⟨l.toArray⟩ : ByteArray)[(k : Int).toNat]'(by have := h2.2; omega) = l.getD k 0 := by
    show l.toArray[(k : Int).toNat]'_ = _
    simp [List.getD, h]
  rw [h3]
theorem wrap64_rg (x : Int) : -9223372036854775808 ≤ wrap64 x ∧ wrap64 x ≤ 9223372036854775807 := by unfold wrap64; omega
end Go.Proofs.YtaeaiaamhgcmbaaDoor
