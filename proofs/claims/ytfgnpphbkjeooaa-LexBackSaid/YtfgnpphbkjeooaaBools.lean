/- Rows of truths. -/
import Derived.Test.YtfgnpphbkjeooaaOwn
import Derived.Test.YtfgnpphbkjeooaaObj
namespace Go.Proofs.Ytfgnpphbkjeooaa
open Go.RowKit
set_option linter.unusedSimpArgs false
set_option linter.unusedVariables false
def boolR : Rep Bool := fun _ cs z => cs = [.bool z]
theorem boolR_stable : Stable boolR := fun _ _ _ _ h _ => h
def bV1 (l : List Bool) : List Value := l.map Value.bool
theorem bV1_len (l : List Bool) : (bV1 l).length = l.length := by simp [bV1]
theorem bV1_one (l : List Bool) : ∀ u ∈ bV1 l, u.oneCell' = true := by
  intro u hu
  obtain ⟨z, _, rfl⟩ := List.mem_map.1 hu
  rfl
theorem bools_at {w : World} {a : Option Addr} {n cap : Nat} {L : List Bool} (hv : RowR 1 boolR w (.slice a n cap) L) {k : Nat} (hk : k < L.length) : ∃ b off, a = some ⟨b, off, none⟩ ∧ b < w.heap.size ∧ n ≤ cap ∧ cap ≤ 9223372036854775807 ∧ ∀ i, i < L.length → w.cell? ⟨b, off + i, none⟩ = some (.bool (L.getD i false)) := by
  rcases hv with ⟨a, cap, h, rfl, _⟩ | ⟨b, off, cap, h1, _, h3, h4, h5, h6⟩
  · simp at hk
  · have e : a = some ⟨b, off, none⟩ ∧ n = L.length := by injection h1 with h1 h2; exact ⟨h1, h2⟩
    have ec : ‹Nat› = ‹Nat› := rfl
    injection h1 with _ _ hc
    refine ⟨b, off, e.1, h5, by rw [e.2, hc]; exact h3, by rw [hc]; exact h4, fun i hi => ?_⟩
    obtain ⟨C, g1, g2, g3⟩ := h6 i L[i] (by simp [hi])
    rw [show C = [.bool L[i]] from g3] at g2
    have := g2 0 _ rfl
    simpa [List.getD, hi] using this
theorem bools_of_owns {w : World} {B : Nat} {e : TypeId} {v : Value} {l : List Bool} (h : w.ownsRow B e 1 v l.length (bV1 l)) : RowR 1 boolR w v l := by
  obtain ⟨_, h⟩ := h
  rcases h with ⟨rfl, h0⟩ | ⟨g, cap, cur, rfl, hb, hg, h1, h2, h3, h4⟩
  · exact Or.inl ⟨none, 0, rfl, List.length_eq_zero_iff.1 h0, fun _ => rfl⟩
  · by_cases h0 : l.length = 0
    · exact Or.inl ⟨_, cap, by rw [h0], List.length_eq_zero_iff.1 h0, fun h => by cases h⟩
    · have hlt : g < w.heap.size := by
        by_cases hgl : g < w.heap.size
        · exact hgl
        · rw [Array.getElem?_eq_none (Nat.le_of_not_lt hgl)] at hg; cases hg
      refine Or.inr ⟨g, 0, cap, rfl, by omega, h1, h2, hlt, fun i x hx => ?_⟩
      refine ⟨[.bool x], rfl, fun j u hu => ?_, rfl⟩
      have hj : j < 1 := lt_of_get hu
      obtain rfl : j = 0 := by omega
      obtain rfl : Value.bool x = u := by simpa using hu
      have hi : i < l.length := lt_of_get hx
      have h5 : (bV1 l)[i]? = some (.bool x) := by simp [bV1, hx]
      rw [← h4, List.getElem?_take, if_pos (by omega)] at h5
      unfold World.cell?
      rw [hg]
      simpa using h5
theorem src_bools {w : World} {u : Value} {l : List Bool} (h : RowR 1 boolR w u l) : Src w u l.length (bV1 l) := by
  rcases h with ⟨a, cap, rfl, rfl, hc⟩ | ⟨b, off, cap, rfl, h2, h3, h4, h5, h6⟩
  · cases a with
    | none => rw [hc rfl]; exact Or.inl ⟨rfl, rfl, rfl⟩
    | some ad => exact Or.inr ⟨ad, cap, rfl, fun j u hu => by simp [bV1] at hu⟩
  · refine Or.inr ⟨⟨b, off, none⟩, cap, rfl, fun j u hu => ?_⟩
    rw [add_at]
    have hj : j < l.length := by have := lt_of_get hu; rwa [bV1_len] at this
    obtain ⟨C, g1, g2, g3⟩ := h6 j l[j] (by simp [hj])
    rw [show C = [.bool l[j]] from g3] at g2
    have h7 := g2 0 _ rfl
    have h8 : u = .bool l[j] := by simpa [bV1, hj] using hu.symm
    rw [h8]
    simpa using h7
theorem bV1_set (l : List Bool) (k : Nat) (b : Bool) : (bV1 l).set k (.bool b) = bV1 (l.set k b) := by simp [bV1, List.map_set]
theorem made_false (m : Nat) : madeCells (Value.bool false).cells m = (bV1 (List.replicate m false)).toArray := by
  apply Array.ext_getElem?
  intro i
  by_cases h : i < m
  · simp [madeCells, Value.cells, h, Nat.mod_one, bV1, List.getElem?_replicate]
  · simp [madeCells, Value.cells, h, bV1, List.getElem?_replicate]
end Go.Proofs.Ytfgnpphbkjeooaa
