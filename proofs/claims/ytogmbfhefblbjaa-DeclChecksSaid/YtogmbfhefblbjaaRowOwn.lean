/- Rows of the call's own, as what they read as: elements of q cells each. -/
import Derived.Test.YtogmbfhefblbjaaOwn
namespace Go.Proofs.Ytogmbfhefblbjaa
open Go.RowKit
set_option linter.unusedSimpArgs false
set_option linter.unusedVariables false
theorem flat_len {α : Type} {enc : α → List Value} {q : Nat} (h : ∀ x, (enc x).length = q) : ∀ L : List α, (L.flatMap enc).length = L.length * q
  | [] => by simp
  | x :: t => by
    rw [List.flatMap_cons, List.length_append, h x, flat_len h t, List.length_cons, Nat.succ_mul]; omega
theorem flat_get {α : Type} {enc : α → List Value} {q : Nat} (h : ∀ x, (enc x).length = q) : ∀ (L : List α) (i j : Nat) (x : α), L[i]? = some x → j < q → (L.flatMap enc)[i * q + j]? = (enc x)[j]?
  | [], i, j, x, hx, _ => by simp at hx
  | y :: t, i, j, x, hx, hj => by
    rw [List.flatMap_cons]
    cases i with
    | zero =>
      obtain rfl : y = x := by simpa using hx
      rw [Nat.zero_mul, Nat.zero_add, List.getElem?_append_left (by rw [h]; exact hj)]
    | succ i =>
      rw [List.getElem?_append_right (by rw [h, Nat.succ_mul]; omega), h, ← flat_get h t i j x (by simpa using hx) hj]
      congr 1
      rw [Nat.succ_mul]; omega
theorem row_owned {α : Type} {enc : α → List Value} {q : Nat} {R : Rep α} {w : World} {B : Nat} {e : TypeId} {v : Value} {L : List α} (h : ∀ x, (enc x).length = q) (hv : w.ownsRow B e q v L.length (L.flatMap enc)) (hR : ∀ x ∈ L, R w (enc x) x) : RowR q R w v L := by
  obtain ⟨hl, hv⟩ := hv
  rcases hv with ⟨rfl, h0⟩ | ⟨g, cap, cur, rfl, hb, hg, h1, h2, h3, h4⟩
  · exact Or.inl ⟨none, 0, rfl, List.length_eq_zero_iff.1 h0, fun _ => rfl⟩
  · by_cases h0 : L.length = 0
    · exact Or.inl ⟨_, cap, by rw [h0], List.length_eq_zero_iff.1 h0, fun h => by cases h⟩
    · have hlt : g < w.heap.size := by
        by_cases hgl : g < w.heap.size
        · exact hgl
        · rw [Array.getElem?_eq_none (Nat.le_of_not_lt hgl)] at hg; cases hg
      refine Or.inr ⟨g, 0, cap, rfl, by omega, h1, h2, hlt, fun i x hx => ?_⟩
      refine ⟨enc x, h x, fun j u hu => ?_, hR x (List.mem_of_getElem? hx)⟩
      have hj : j < q := by rw [← h x]; exact lt_of_get hu
      have hi := lt_of_get hx
      have h5 := flat_get h L i j x hx hj
      have hij : i * q + j < L.length * q := by
        have : (i + 1) * q ≤ L.length * q := Nat.mul_le_mul_right q hi
        rw [Nat.succ_mul] at this
        omega
      rw [hu, ← h4, List.getElem?_take, if_pos hij] at h5
      unfold World.cell?
      rw [hg]
      simp only [Nat.zero_add]
      simpa using h5
end Go.Proofs.Ytogmbfhefblbjaa
