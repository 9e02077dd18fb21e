/- Layer 30, plain: finding leaders and ends. -/
import Derived.Test.YtckcgaggdeaagaaFlB
namespace Go.Proofs.Ytckcgaggdeaagaa
namespace FL
set_option linter.unusedSimpArgs false
set_option linter.unusedVariables false
structure LeadK (L : List In3) (M F : Nat → Bool) (k : Nat) : Prop where
  zero : F 0 = true
  on : ∀ q, q < k → M q = true → brB (opA L q) = true → ∀ t : Nat, (t : Int) ∈ goesP L q → F t = true
  back : ∀ t, t < L.length → F t = true → t = 0 ∨ ∃ q, q < L.length ∧ M q = true ∧ brB (opA L q) = true ∧ (t : Int) ∈ goesP L q
theorem LeadK.start (L : List In3) (M : Nat → Bool) : LeadK L M only0 0 := ⟨rfl, fun q h => by omega, fun t _ hm => Or.inl (of_decide_eq_true hm)⟩
theorem LeadK.pass {L : List In3} {M F : Nat → Bool} {k : Nat} (h : LeadK L M F k) (hn : M k = false ∨ brB (opA L k) = false) : LeadK L M F (k + 1) :=
  ⟨h.zero, fun q hq hm hb t ht => by
    by_cases e : q = k
    · subst e; rcases hn with hn | hn
      · rw [hn] at hm; cases hm
      · rw [hn] at hb; cases hb
    · exact h.on q (by omega) hm hb t ht, h.back⟩
theorem LeadK.fin {L : List In3} {M F : Nat → Bool} (h : LeadK L M F L.length) : Lead L M F := ⟨h.zero, h.on, h.back⟩
structure LeadI (L : List In3) (M F : Nat → Bool) (k j : Nat) : Prop where
  base : LeadK L M F k
  here : k < L.length ∧ M k = true ∧ brB (opA L k) = true
  part : ∀ t : Nat, (t : Int) ∈ (goesP L k).take j → F t = true
theorem LeadK.open {L : List In3} {M F : Nat → Bool} {k : Nat} (h : LeadK L M F k) (hk : k < L.length) (hm : M k = true) (hb : brB (opA L k) = true) : LeadI L M F k 0 := ⟨h, ⟨hk, hm, hb⟩, fun t ht => by simp at ht⟩
theorem LeadI.mark {L : List In3} {M F : Nat → Bool} {k j u : Nat} (h : LeadI L M F k j) (hz : (goesP L k)[j]? = some (u : Int)) : LeadI L M (upF F u) k (j + 1) := by
  refine ⟨⟨up_mono h.base.zero, fun q hq hm hb t ht => up_mono (h.base.on q hq hm hb t ht), fun t ht hf => ?_⟩, h.here, fun t ht => ?_⟩
  · rcases up_or hf with rfl | hf
    · exact Or.inr ⟨k, h.here.1, h.here.2.1, h.here.2.2, List.mem_of_getElem? hz⟩
    · exact h.base.back t ht hf
  · rw [take_snoc hz, List.mem_append, List.mem_singleton] at ht
    rcases ht with ht | ht
    · exact up_mono (h.part t ht)
    · have := Int.ofNat.inj ht
      subst this; exact up_same _ _
theorem LeadI.fin {L : List In3} {M F : Nat → Bool} {k j : Nat} (h : LeadI L M F k j) (hj : (goesP L k).length ≤ j) : LeadK L M F (k + 1) :=
  ⟨h.base.zero, fun q hq hm hb t ht => by
    by_cases e : q = k
    · subst e; exact h.part t (by rw [List.take_of_length_le hj]; exact ht)
    · exact h.base.on q (by omega) hm hb t ht, h.base.back⟩
/-- the end of the block that begins at f -/
def endF (L : List In3) (F : Nat → Bool) (f : Nat) : Nat := match (List.range L.length).find? (fun p => decide (f ≤ p) && stopB L F p) with
  | some p => p + 1
  | none => L.length
theorem endF_eq {L : List In3} {F : Nat → Bool} {f p : Nat} (hp : p < L.length) (hf : f ≤ p) (hs : stopB L F p = true) (hno : ∀ q, f ≤ q → q < p → stopB L F q = false) : endF L F f = p + 1 := by
  have h : (List.range L.length).find? (fun p => decide (f ≤ p) && stopB L F p) = some p := by
    rw [List.find?_range_eq_some]
    refine ⟨by simp [hf, hs], List.mem_range.2 hp, fun q hq => ?_⟩
    by_cases hfq : f ≤ q
    · simp [hno q hfq hq]
    · simp [hfq]
  unfold endF
  rw [h]
theorem endF_is {L : List In3} {M F : Nat → Bool} (hM : Met L M) {f : Nat} (hf : f < L.length) (hm : M f = true) : IsEnd L F f (endF L F f) := by
  cases h : (List.range L.length).find? (fun p => decide (f ≤ p) && stopB L F p) with
  | none =>
    exfalso
    have hall := List.find?_eq_none.1 h
    have hgo : ∀ d, f + d < L.length ∧ M (f + d) = true := by
      intro d
      induction d with
      | zero => exact ⟨hf, hm⟩
      | succ d ih =>
        have h1 := hall (f + d) (List.mem_range.2 ih.1)
        have h2 : stopB L F (f + d) = false := by
          cases hs : stopB L F (f + d)
          · rfl
          · exact absurd (by simp [hs]) h1
        unfold stopB at h2
        rw [Bool.or_eq_false_iff] at h2
        have := next_in hM ih.1 ih.2 h2.1
        rwa [show f + (d + 1) = f + d + 1 by omega]
    have := (hgo L.length).1
    omega
  | some p =>
    obtain ⟨h1, h2, h3⟩ := List.find?_range_eq_some.1 h
    have h2 := List.mem_range.1 h2
    rw [Bool.and_eq_true] at h1
    have h4 := of_decide_eq_true h1.1
    have e : endF L F f = p + 1 := by unfold endF; rw [h]
    rw [e]
    refine ⟨by omega, by omega, by rw [Nat.add_sub_cancel]; exact h1.2, fun q hq hlt => ?_⟩
    have := h3 q (by omega)
    rw [Bool.not_eq_true', Bool.and_eq_false_iff] at this
    rcases this with h | h
    · exact absurd hq (of_decide_eq_false h)
    · exact h
theorem opA_get {L : List In3} {k : Nat} {x : In3} (h : L[k]? = some x) : opA L k = x.1 := by unfold opA; simp [List.getD, h]
end FL
end Go.Proofs.Ytckcgaggdeaagaa
