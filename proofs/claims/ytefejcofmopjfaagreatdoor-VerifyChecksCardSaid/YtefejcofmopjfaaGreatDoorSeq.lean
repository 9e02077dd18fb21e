/- Slices of elements of q cells each: forms, elements. -/
import Derived.Test.YtefejcofmopjfaaGreatDoorRep
namespace Go.Proofs.YtefejcofmopjfaaGreatDoor
open Go.RowKit
set_option linter.unusedSimpArgs false
set_option linter.unusedVariables false
theorem row_get {α : Type} {q : Nat} {R : Rep α} {w : World} {v : Value} {L : List α} (hv : RowR q R w v L) : ∃ a cap, v = .slice a L.length cap := by
  rcases hv with ⟨a, cap, rfl, rfl, _⟩ | ⟨b, off, cap, h1, _⟩
  · exact ⟨a, cap, rfl⟩
  · exact ⟨_, cap, h1⟩
theorem take_snoc {α : Type} {L : List α} {k : Nat} {x : α} (hx : L[k]? = some x) : L.take (k + 1) = L.take k ++ [x] := by
  rw [List.take_add_one, hx]; rfl
theorem lt_of_get {α : Type} {L : List α} {n : Nat} {a : α} (h : L[n]? = some a) : n < L.length := by
  by_cases g : n < L.length
  · exact g
  · rw [List.getElem?_eq_none (by omega)] at h; cases h
theorem get_some {α : Type} {L : List α} {n : Nat} (h : n < L.length) : ∃ a, L[n]? = some a := ⟨L[n], by simp [h]⟩
/-- the cells of a slice's elements -/
theorem row_at {α : Type} {q : Nat} {R : Rep α} {w : World} {a : Option Addr} {n cap : Nat} {L : List α} (hv : RowR q R w (.slice a n cap) L) {k : Nat} (hk : k < L.length) :
    ∃ b off, a = some ⟨b, off, none⟩ ∧ b < w.heap.size ∧ ∀ i x, L[i]? = some x → ∃ C : List Value, C.length = q ∧ (∀ j u, C[j]? = some u → w.cell? ⟨b, off + i * q + j, none⟩ = some u) ∧ R w C x := by
  rcases hv with ⟨a, cap, h, rfl, _⟩ | ⟨b, off, cap, h1, _, _, _, h5, h6⟩
  · simp at hk
  · have e : a = some ⟨b, off, none⟩ := by injection h1
    exact ⟨b, off, e, h5, h6⟩
end Go.Proofs.YtefejcofmopjfaaGreatDoor
