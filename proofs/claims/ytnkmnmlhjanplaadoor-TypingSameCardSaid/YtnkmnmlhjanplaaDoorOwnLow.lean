/- Rows of the call's own: with a lower bound; as what is appended. -/
import Derived.Test.YtnkmnmlhjanplaaDoorOwn
namespace Go.Proofs.YtnkmnmlhjanplaaDoor
open Go.RowKit
set_option linter.unusedSimpArgs false
set_option linter.unusedVariables false
theorem own_low {w : World} {B C : Nat} {e : TypeId} {q n : Nat} {v : Value} {xs : List Value} (h : w.ownsRow C e q v n xs) (hB : B ≤ C) : w.ownsRow B e q v n xs := by
  obtain ⟨hl, h⟩ := h
  refine ⟨hl, ?_⟩
  rcases h with h | ⟨g, cap, cur, h0, h1, h2⟩
  · exact Or.inl h
  · exact Or.inr ⟨g, cap, cur, h0, by omega, h2⟩
theorem src_own {w : World} {B : Nat} {e : TypeId} {n : Nat} {v : Value} {xs : List Value} (h : w.ownsRow B e 1 v n xs) : Src w v n xs := by
  obtain ⟨hl, h⟩ := h
  rcases h with ⟨rfl, h0⟩ | ⟨g, cap, cur, rfl, hb, hg, h1, h2, h3, h4⟩
  · subst h0; exact Or.inl ⟨rfl, rfl, List.length_eq_zero_iff.1 (by simpa using hl)⟩
  · refine Or.inr ⟨_, cap, rfl, fun j u hu => ?_⟩
    have hj : j < n := by
      by_cases hj : j < n
      · exact hj
      · rw [List.getElem?_eq_none (by omega)] at hu; cases hu
    rw [← h4, List.getElem?_take, if_pos (by omega)] at hu
    rw [add_at]
    unfold World.cell?
    rw [show (⟨g, 0 + j, none⟩ : Addr).block = g from rfl, hg]
    simpa using hu
end Go.Proofs.YtnkmnmlhjanplaaDoor
