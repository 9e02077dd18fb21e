/- Layer 31: what is told of any graph, gathered. -/
import Derived.Test.YtemihfcenmhieaaDmAw
import Derived.Test.YtemihfcenmhieaaDmRefJ
import Derived.Test.YtemihfcenmhieaaDmRefO
import Derived.Test.YtemihfcenmhieaaInts
namespace Go.Proofs.Ytemihfcenmhieaa
open Go.RowKit
set_option linter.unusedSimpArgs false
set_option linter.unusedVariables false
open DM (rowN okN orun restF gI Fine rkF prF settleF bestF)
/-- all that is told of a graph: its order, and its nearest dominators -/
structure Told (next : List (List Int)) (d : List Nat) (DF : List Int) : Prop where
  ord : ∃ K, (next.length = 0 ∧ d = []) ∨ (0 < next.length ∧ orun next K [(0, 0)] ((List.replicate next.length false).set 0 true) [] = some d)
  rst : ∃ f m, (next.length = 0 ∧ d = []) ∨ (0 < next.length ∧ restF next f 0 0 ((List.replicate next.length false).set 0 true) [] = some (m, d))
  set : ∃ K N, settleF (prF next d.reverse (List.replicate next.length [])) (rkF d.reverse 0 (List.replicate next.length 0)) N d.reverse K (List.replicate next.length (-1)) = some DF
  len : d.length ≤ next.length
  lt : ∀ x ∈ d, x < next.length
  best : DF = bestL next next.length
  tree : 0 < next.length → DF.length = next.length ∧ Fine DF ∧ d.reverse.Nodup ∧ DM.Tree (DM.Eg next) (· ∈ d.reverse) (DM.dOf DF) ∧ (∀ v, v ∈ d.reverse ↔ ∃ l, DM.Way (DM.Eg next) l v) ∧
      (∀ x v, v ∈ d.reverse → DM.Anc (DM.dOf DF) x v → x ∈ d.reverse ∧ (d.reverse.idxOf x < d.reverse.idxOf v ∨ x = v)) ∧ ∃ tl, d.reverse = 0 :: tl
theorem told (next : List (List Int)) : ∃ d DF, Told next d DF := by
  by_cases h0 : 0 < next.length
  · obtain ⟨K, f, m, new, h1, h2, h3⟩ := DM.order_all next h0
    obtain ⟨K2, DF, g1, g2, g3, g4, g5, g6, g7, g8, g9, g10⟩ := DM.idom_all next new m h0 h3
    have hr : (new ++ [0]).reverse = 0 :: new.reverse := by simp
    refine ⟨new ++ [0], DF, ⟨K, .inr ⟨h0, h1⟩⟩, ⟨f, m, .inr ⟨h0, h2⟩⟩, ⟨K2, 2 * next.length, by rw [hr]; exact g1⟩, ?_, ?_, ?_, fun _ => ⟨g2, g3, by rw [hr]; exact g6, by rw [hr]; exact g8, by rw [hr]; exact g9, by rw [hr]; exact g10, new.reverse, hr⟩⟩
    · have := g4; simp at this ⊢; omega
    · intro x hx
      exact g5 x (by rw [← hr, List.mem_reverse]; exact hx)
    · apply List.ext_getElem?
      intro i
      unfold bestL
      rw [List.getElem?_map]
      by_cases hi : i < next.length
      · have h := g7 i hi
        unfold gI at h
        rw [List.getD_eq_getElem?_getD, List.getElem?_eq_getElem (by rw [g2]; exact hi)] at h
        rw [List.getElem?_eq_getElem (by rw [g2]; exact hi), List.getElem?_range hi]
        exact congrArg some h
      · rw [List.getElem?_eq_none (by rw [g2]; omega), List.getElem?_eq_none (by simp; omega)]; rfl
  · have hn : next = [] := List.length_eq_zero_iff.1 (by omega)
    subst hn
    exact ⟨[], [], ⟨0, .inl ⟨rfl, rfl⟩⟩, ⟨0, [], .inl ⟨rfl, rfl⟩⟩, ⟨1, 0, rfl⟩, Nat.le_refl _, by simp, rfl, fun h => absurd h h0⟩
theorem few31_le {next : List (List Int)} {k : Nat} (h : few31 next (k : Int) = true) : next.length ≤ k ∧ ∀ l ∈ next, l.length ≤ 40 := by
  unfold few31 at h
  rw [Bool.and_eq_true, decide_eq_true_iff, List.all_eq_true] at h
  exact ⟨by have := h.1; omega, fun l hl => of_decide_eq_true (h.2 l hl)⟩
theorem eqI_self (L : List Int) : decide (L = L) = true := decide_eq_true rfl
end Go.Proofs.Ytemihfcenmhieaa
