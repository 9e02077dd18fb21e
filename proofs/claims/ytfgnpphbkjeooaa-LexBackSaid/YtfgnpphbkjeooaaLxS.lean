/- Layer 47, plain: where a sign ends, by its bytes. -/
import Derived.Test.YtfgnpphbkjeooaaLxA
namespace Go.Proofs.Ytfgnpphbkjeooaa
namespace LX
set_option linter.unusedSimpArgs false
set_option linter.unusedVariables false
/-- two bytes that make one sign -/
def two (c d : UInt8) : Prop := c = 58 ∧ d = 61 ∨ c = 60 ∧ d = 61 ∨ c = 62 ∧ d = 61 ∨ c = 60 ∧ d = 62
theorem pairB_iff (l : List UInt8) (k : Nat) : pairB l k = true ↔ k + 2 ≤ l.length ∧ two (l.getD k 0) (l.getD (k + 1) 0) := by
  unfold pairB two
  generalize l.getD k 0 = c
  generalize l.getD (k + 1) 0 = d
  constructor
  · intro h
    simp only [Bool.and_eq_true, decide_eq_true_eq, Bool.or_eq_true] at h
    obtain ⟨h1, _, _, h4⟩ := h
    refine ⟨h1, ?_⟩
    rcases h4 with ((h | h) | h) | h
    · exact Or.inl h
    · exact Or.inr (Or.inl h)
    · exact Or.inr (Or.inr (Or.inl h))
    · exact Or.inr (Or.inr (Or.inr h))
  · rintro ⟨h1, h⟩
    rw [decide_eq_true h1, Bool.true_and]
    rcases h with ⟨rfl, rfl⟩ | ⟨rfl, rfl⟩ | ⟨rfl, rfl⟩ | ⟨rfl, rfl⟩ <;> rfl
theorem two_sign {c d : UInt8} (h : two c d) : signs.contains c = true := by
  rcases h with ⟨rfl, _⟩ | ⟨rfl, _⟩ | ⟨rfl, _⟩ | ⟨rfl, _⟩ <;> rfl
theorem signE_none {l : List UInt8} {k : Nat} (h : signs.contains (l.getD k 0) = false) : signE l k = k := by
  unfold signE
  rw [if_neg (by intro h2; rw [two_sign ((pairB_iff l k).1 h2).2] at h; cases h), if_neg (by rw [h]; simp)]
theorem signE_one {l : List UInt8} {k : Nat} (h : signs.contains (l.getD k 0) = true) (hn : ¬ (k + 1 < l.length ∧ two (l.getD k 0) (l.getD (k + 1) 0))) : signE l k = k + 1 := by
  unfold signE
  rw [if_neg (by intro h2; have h3 := (pairB_iff l k).1 h2; exact hn ⟨by omega, h3.2⟩), if_pos h]
theorem signE_two {l : List UInt8} {k : Nat} (hk : k + 1 < l.length) (h : two (l.getD k 0) (l.getD (k + 1) 0)) : signE l k = k + 2 := by
  unfold signE
  rw [if_pos ((pairB_iff l k).2 ⟨by omega, h⟩)]
theorem goB_self0 (l : List UInt8) (k : Nat) : goB l k k = wordC (l.getD k 0) := by
  unfold goB
  rw [show decide (k < k) = false from decide_eq_false (Nat.lt_irrefl k), Bool.and_false, Bool.false_and, Bool.or_false]
theorem wordE_none {l : List UInt8} {k : Nat} (hk : k < l.length) (h : wordC (l.getD k 0) = false) : wordE l k = k :=
  wordE_end (Nat.le_refl _) (Nat.le_of_lt hk) (fun ⟨_, h2⟩ => by rw [goB_self0, h] at h2; cases h2) fun i h1 h2 => by omega
end LX
end Go.Proofs.Ytfgnpphbkjeooaa
