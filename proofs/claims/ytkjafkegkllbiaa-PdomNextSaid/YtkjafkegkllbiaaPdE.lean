/- Nearest postdominators: what is told of the graph turned about. Plain. -/
import Derived.Test.YtkjafkegkllbiaaPdB
namespace Go.Proofs.Ytkjafkegkllbiaa
set_option linter.unusedSimpArgs false
set_option linter.unusedVariables false
namespace DM
def nearP (next : List (List Int)) : List Int := (List.range next.length).map fun i => bestP next i (next.length + 1)
theorem near_len (next : List (List Int)) : (nearP next).length = next.length := by simp [nearP]
theorem turned_told (next : List (List Int)) : ∃ K d K2 N2 DF, 0 < (turnF next).length ∧ orun (turnF next) K [(0, 0)] ((List.replicate (turnF next).length false).set 0 true) [] = some d ∧
    d.length ≤ (turnF next).length ∧ (∀ x ∈ d, x < (turnF next).length) ∧
    settleF (prF (turnF next) d.reverse (List.replicate (turnF next).length [])) (rkF d.reverse 0 (List.replicate (turnF next).length 0)) N2 d.reverse K2 (List.replicate (turnF next).length (-1)) = some DF ∧
    DF.length = next.length + 1 ∧ nearP next = (DF.drop 1).map (upN next.length) := by
  have hlen := turn_len next
  have h0 : 0 < (turnF next).length := by omega
  obtain ⟨K, f, m, new, h1, h2, h3⟩ := order_all (turnF next) h0
  obtain ⟨K2, DF, g1, g2, g3, g4, g5, g6, g7, g8, g9, g10⟩ := idom_all (turnF next) new m h0 h3
  have hr : (new ++ [0]).reverse = 0 :: new.reverse := by simp
  refine ⟨K, new ++ [0], K2, 2 * (turnF next).length, DF, h0, h1, ?_, ?_, by rw [hr]; exact g1, by rw [g2, hlen], ?_⟩
  · have := g4; simp at this ⊢; omega
  · intro x hx
    exact g5 x (by rw [← hr, List.mem_reverse]; exact hx)
  · apply List.ext_getElem?
    intro i
    unfold nearP
    rw [List.getElem?_map, List.getElem?_map, List.getElem?_drop]
    by_cases hi : i < next.length
    · have h := g7 (1 + i) (by omega)
      unfold gI at h
      rw [List.getD_eq_getElem?_getD, List.getElem?_eq_getElem (by rw [g2]; omega)] at h
      rw [List.getElem?_range hi, List.getElem?_eq_getElem (l := DF) (by rw [g2]; omega)]
      have hs := near_spec g9 (fun v hv => g5 v hv) g8 (fun x v hv ha => ⟨(g10 x v hv ha).1, fun hb => by
        have h1 := g10 x v hv ha
        have h2 := (g10 v x h1.1 hb).2
        rcases h1.2 with h | h
        · rcases h2 with h' | h'
          · omega
          · exact h'.symm
        · exact h⟩) i hi
      rw [Nat.add_comm i 1, ← h] at hs
      exact congrArg some hs
    · rw [List.getElem?_eq_none (by simp; omega), List.getElem?_eq_none (by rw [g2]; omega)]; rfl
end DM
end Go.Proofs.Ytkjafkegkllbiaa
