/- Layer 30, plain: the search for what is met. -/
import Derived.Test.YtckcgaggdeaagaaFlA
namespace Go.Proofs.Ytckcgaggdeaagaa
namespace FL
set_option linter.unusedSimpArgs false
set_option linter.unusedVariables false
def upF (M : Nat → Bool) (t : Nat) : Nat → Bool := fun i => if i = t then true else M i
theorem up_same (M : Nat → Bool) (t : Nat) : upF M t t = true := by simp [upF]
theorem up_mono {M : Nat → Bool} {t i : Nat} (h : M i = true) : upF M t i = true := by unfold upF; split <;> simp [h]
theorem up_or {M : Nat → Bool} {t i : Nat} (h : upF M t i = true) : i = t ∨ M i = true := by
  unfold upF at h
  split at h
  · rename_i e; exact Or.inl e
  · exact Or.inr h
def unm (n : Nat) (M : Nat → Bool) : Nat := ((List.range n).filter fun i => !M i).length
theorem unm_succ (n : Nat) (M : Nat → Bool) : unm (n + 1) M = unm n M + (if M n = true then 0 else 1) := by
  unfold unm
  rw [List.range_succ, List.filter_append, List.length_append]
  cases h : M n <;> simp [h]
theorem unm_far {M : Nat → Bool} {t : Nat} : ∀ n, n ≤ t → unm n (upF M t) = unm n M
  | 0, _ => rfl
  | n + 1, h => by
    rw [unm_succ, unm_succ, unm_far n (by omega)]
    have : upF M t n = M n := by unfold upF; rw [if_neg (by omega)]
    rw [this]
theorem unm_up {M : Nat → Bool} {t : Nat} (hm : M t = false) : ∀ n, t < n → unm n (upF M t) + 1 = unm n M
  | 0, h => by omega
  | n + 1, h => by
    rw [unm_succ, unm_succ]
    by_cases e : t = n
    · subst e
      rw [unm_far t (Nat.le_refl _), up_same, hm]
      simp
    · have := unm_up hm n (by omega)
      have e2 : upF M t n = M n := by unfold upF; rw [if_neg (by omega)]
      rw [e2]
      omega
theorem unm_le (n : Nat) (M : Nat → Bool) : unm n M ≤ n := by
  unfold unm
  have h := List.length_filter_le (fun i => !M i) (List.range n)
  rwa [List.length_range] at h
/-- amid the places to which one goes on from t -/
structure SrchI (L : List In3) (M : Nat → Bool) (W : List Nat) (t j : Nat) : Prop where
  zero : M 0 = true
  rch : ∀ t, M t = true → Rc L t
  back : ∀ t, t < L.length → M t = true → t = 0 ∨ ∃ q, q < L.length ∧ M q = true ∧ ((t : Nat) : Int) ∈ goesP L q
  wt : ∀ t ∈ W, t < L.length ∧ M t = true
  ht : t < L.length ∧ M t = true
  done : ∀ q, q < L.length → M q = true → q ∉ W → q ≠ t → ∀ z ∈ goesP L q, ∃ t : Nat, z = (t : Int) ∧ t < L.length ∧ M t = true
  part : ∀ z ∈ (goesP L t).take j, ∃ t : Nat, z = (t : Int) ∧ t < L.length ∧ M t = true
theorem Srch.pop {L : List In3} {M : Nat → Bool} {W : List Nat} {t : Nat} (h : Srch L M (t :: W)) : SrchI L M W t 0 :=
  ⟨h.zero, h.rch, h.back, fun u hu => h.wt u (List.mem_cons_of_mem _ hu), h.wt t (by simp), fun q hq hm hn hne => h.done q hq hm (by simp [hn, hne]), by simp⟩
theorem SrchI.fin {L : List In3} {M : Nat → Bool} {W : List Nat} {t j : Nat} (h : SrchI L M W t j) (hj : (goesP L t).length ≤ j) : Srch L M W :=
  ⟨h.zero, h.rch, h.back, h.wt, fun q hq hm hn z hz => by
    by_cases e : q = t
    · subst e; exact h.part z (by rw [List.take_of_length_le hj]; exact hz)
    · exact h.done q hq hm hn e z hz⟩
theorem SrchI.skip {L : List In3} {M : Nat → Bool} {W : List Nat} {t j u : Nat} (h : SrchI L M W t j) (hz : (goesP L t)[j]? = some (u : Int)) (hu : u < L.length) (hm : M u = true) : SrchI L M W t (j + 1) :=
  ⟨h.zero, h.rch, h.back, h.wt, h.ht, h.done, fun z hz' => by
    rw [take_snoc hz, List.mem_append, List.mem_singleton] at hz'
    rcases hz' with hz' | rfl
    · exact h.part z hz'
    · exact ⟨u, rfl, hu, hm⟩⟩
theorem SrchI.mark {L : List In3} {M : Nat → Bool} {W : List Nat} {t j u : Nat} (h : SrchI L M W t j) (hz : (goesP L t)[j]? = some (u : Int)) (hu : u < L.length) (hm : M u = false) : SrchI L (upF M u) (u :: W) t (j + 1) := by
  have up : ∀ z : Int, (∃ t : Nat, z = (t : Int) ∧ t < L.length ∧ M t = true) → ∃ t : Nat, z = (t : Int) ∧ t < L.length ∧ upF M u t = true := fun z ⟨x, h1, h2, h3⟩ => ⟨x, h1, h2, up_mono h3⟩
  have hru : Rc L u := .on (h.rch _ h.ht.2) h.ht.1 hu (List.mem_of_getElem? hz)
  refine ⟨up_mono h.zero, fun x hx => ?_, fun x hx hmx => ?_, fun x hx => ?_, ⟨h.ht.1, up_mono h.ht.2⟩, fun q hq hmq hn hne z hzq => ?_, fun z hz' => ?_⟩
  · rcases up_or hx with rfl | hx
    · exact hru
    · exact h.rch x hx
  · rcases up_or hmx with rfl | hmx
    · exact Or.inr ⟨t, h.ht.1, up_mono h.ht.2, List.mem_of_getElem? hz⟩
    · rcases h.back x hx hmx with h0 | ⟨q, h1, h2, h3⟩
      · exact Or.inl h0
      · exact Or.inr ⟨q, h1, up_mono h2, h3⟩
  · rcases List.mem_cons.1 hx with rfl | hx
    · exact ⟨hu, up_same _ _⟩
    · exact ⟨(h.wt x hx).1, up_mono (h.wt x hx).2⟩
  · rcases up_or hmq with rfl | hmq
    · exact absurd (List.mem_cons_self ..) hn
    · exact up z (h.done q hq hmq (fun hh => hn (List.mem_cons_of_mem _ hh)) hne z hzq)
  · rw [take_snoc hz, List.mem_append, List.mem_singleton] at hz'
    rcases hz' with hz' | rfl
    · exact up z (h.part z hz')
    · exact ⟨u, rfl, hu, up_same _ _⟩
def only0 : Nat → Bool := fun i => decide (i = 0)
theorem Srch.start {L : List In3} (h : 0 < L.length) : Srch L only0 [0] :=
  ⟨rfl, fun t hm => by rw [of_decide_eq_true hm]; exact .zero, fun t _ hm => Or.inl (of_decide_eq_true hm), fun t ht => by rw [List.mem_singleton] at ht; subst ht; exact ⟨h, rfl⟩, fun q _ hm hn => absurd (by have := of_decide_eq_true hm; simp [this]) hn⟩
end FL
end Go.Proofs.Ytckcgaggdeaagaa
