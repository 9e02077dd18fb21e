/- Values of nested types as plain lists: what cells read as, and slices of such. -/
import Derived.Test.YtefejcofmopjfaaGreatDoorRow
namespace Go.Proofs.YtefejcofmopjfaaGreatDoor
open Go.RowKit
set_option linter.unusedSimpArgs false
set_option linter.unusedVariables false
abbrev Rep (α : Type) := World → List Value → α → Prop
def Stable {α : Type} (R : Rep α) : Prop := ∀ w w' cs x, R w cs x → Below w.heap.size w w' → R w' cs x
/-- v is a slice of elements of q cells each, that read as L's -/
def RowR {α : Type} (q : Nat) (R : Rep α) (w : World) (v : Value) (L : List α) : Prop :=
  (∃ a cap, v = .slice a 0 cap ∧ L = [] ∧ (a = none → cap = 0)) ∨ ∃ b off cap, v = .slice (some ⟨b, off, none⟩) L.length cap ∧ 0 < L.length ∧ L.length ≤ cap ∧ cap ≤ maxLen ∧ b < w.heap.size ∧
    ∀ i x, L[i]? = some x → ∃ C : List Value, C.length = q ∧ (∀ j u, C[j]? = some u → w.cell? ⟨b, off + i * q + j, none⟩ = some u) ∧ R w C x
def sliceR {α : Type} (q : Nat) (R : Rep α) : Rep (List α) := fun w cs L => ∃ v, cs = [v] ∧ RowR q R w v L
theorem RowR.below {α : Type} {q : Nat} {R : Rep α} (hR : Stable R) {w w' : World} {v : Value} {L : List α} (h : RowR q R w v L) (hb : Below w.heap.size w w') : RowR q R w' v L := by
  rcases h with h | ⟨b, off, cap, h1, h2, h3, h4, h5, h6⟩
  · exact Or.inl h
  · refine Or.inr ⟨b, off, cap, h1, h2, h3, h4, Nat.lt_of_lt_of_le h5 hb.size, fun i x hx => ?_⟩
    obtain ⟨C, g1, g2, g3⟩ := h6 i x hx
    exact ⟨C, g1, fun j u hu => (hb.cell (p := ⟨b, off + i * q + j, none⟩) h5).trans (g2 j u hu), hR _ _ _ _ g3 hb⟩
theorem sliceR_stable {α : Type} {q : Nat} {R : Rep α} (hR : Stable R) : Stable (sliceR q R) := fun w w' cs L ⟨v, h1, h2⟩ hb => ⟨v, h1, h2.below hR hb⟩
theorem RowR.len_le {α : Type} {q : Nat} {R : Rep α} {w : World} {v : Value} {L : List α} (h : RowR q R w v L) : L.length ≤ 140737488355328 ∨ L.length ≤ 9223372036854775807 := by
  rcases h with ⟨_, _, _, rfl, _⟩ | ⟨b, off, cap, h1, h2, h3, h4, h5, h6⟩
  · exact Or.inl (by simp)
  · refine Or.inr ?_; unfold maxLen at h4; omega
theorem RowR.len {α : Type} {q : Nat} {R : Rep α} {w : World} {v : Value} {L : List α} (h : RowR q R w v L) : L.length ≤ 9223372036854775807 := by
  rcases h.len_le with h | h <;> omega
def I64 (z : Int) : Prop := -9223372036854775808 ≤ z ∧ z ≤ 9223372036854775807
def intR : Rep Int := fun _ cs z => cs = [.int .i64 z] ∧ I64 z
theorem intR_stable : Stable intR := fun _ _ _ _ h _ => h
def strR : Rep (List UInt8) := fun _ cs s => cs = [.string ⟨s.toArray⟩] ∧ s.length ≤ 9223372036854775807
theorem strR_stable : Stable strR := fun _ _ _ _ h _ => h
/-- one element's cell, of a slice whose elements have one -/
theorem RowR.ints {w : World} {v : Value} {L : List Int} (h : RowR 1 intR w v L) : RowAt w v L.length (intV L) := by
  rcases h with ⟨a, cap, rfl, rfl, h⟩ | ⟨b, off, cap, h1, h2, h3, h4, h5, h6⟩
  · exact Or.inl ⟨a, cap, rfl, rfl, h⟩
  · refine Or.inr ⟨b, off, cap, h1, h2, h3, h4, h5, fun i hi => ?_⟩
    obtain ⟨C, g1, g2, g3, _⟩ := h6 i L[i] (by simp [hi])
    subst g3
    have := g2 0 _ rfl
    simpa [intV, List.getD, hi] using this
abbrev Ins := Int × Int × Int
def insR : Rep Ins := fun _ cs x => cs = [.int .i64 x.1, .int .i64 x.2.1, .int .i64 x.2.2] ∧ I64 x.1 ∧ I64 x.2.1 ∧ I64 x.2.2
theorem insR_stable : Stable insR := fun _ _ _ _ h _ => h
/-- the cells of a slice of instructions -/
theorem ins_cells {w : World} {b off : Nat} {L : List Ins} (h : ∀ i x, L[i]? = some x → ∃ C : List Value, C.length = 3 ∧ (∀ j u, C[j]? = some u → w.cell? ⟨b, off + i * 3 + j, none⟩ = some u) ∧ insR w C x) {i : Nat} {x : Ins} (hx : L[i]? = some x) :
    w.cell? ⟨b, off + i * 3, none⟩ = some (.int .i64 x.1) ∧ w.cell? ⟨b, off + i * 3 + 1, none⟩ = some (.int .i64 x.2.1) ∧ w.cell? ⟨b, off + i * 3 + 2, none⟩ = some (.int .i64 x.2.2) ∧ I64 x.1 ∧ I64 x.2.1 ∧ I64 x.2.2 := by
  obtain ⟨C, g1, g2, g3, g4⟩ := h i x hx
  subst g3
  exact ⟨g2 0 _ rfl, g2 1 _ rfl, g2 2 _ rfl, g4⟩
def insV (L : List Ins) : List Value := L.flatMap fun x => [.int .i64 x.1, .int .i64 x.2.1, .int .i64 x.2.2]
theorem insV_len (L : List Ins) : (insV L).length = L.length * 3 := by
  induction L with
  | nil => rfl
  | cons x t ih =>
    show (_ ++ insV t).length = _
    rw [List.length_append, ih]; simp; omega
theorem insV_snoc (L : List Ins) (x : Ins) : insV (L ++ [x]) = insV L ++ [.int .i64 x.1, .int .i64 x.2.1, .int .i64 x.2.2] := by simp [insV]
theorem insV_get (L : List Ins) : ∀ (i j : Nat) (x : Ins), L[i]? = some x → j < 3 → (insV L)[i * 3 + j]? = [Value.int .i64 x.1, .int .i64 x.2.1, .int .i64 x.2.2][j]? := by
  induction L with
  | nil => intro i j x h; simp at h
  | cons y t ih =>
    intro i j x h hj
    have e : insV (y :: t) = [Value.int .i64 y.1, .int .i64 y.2.1, .int .i64 y.2.2] ++ insV t := rfl
    rw [e]
    cases i with
    | zero =>
      obtain rfl : y = x := by simpa using h
      rw [Nat.zero_mul, Nat.zero_add, List.getElem?_append_left (by simpa using hj)]
    | succ i =>
      rw [List.getElem?_append_right (by simp; omega)]
      have := ih i j x (by simpa using h) hj
      rw [← this]
      congr 1
      simp; omega
/-- a slice of the call's own, as a row of instructions -/
theorem RowR.ins_owned {w : World} {base : Nat} {e : TypeId} {v : Value} {L : List Ins} (h : w.ownsRow base e 3 v L.length (insV L)) (hL : ∀ x ∈ L, I64 x.1 ∧ I64 x.2.1 ∧ I64 x.2.2) : RowR 3 insR w v L := by
  obtain ⟨hl, h⟩ := h
  rcases h with ⟨rfl, h0⟩ | ⟨g, cap, cur, rfl, hb, hg, h1, h2, h3, h4⟩
  · exact Or.inl ⟨none, 0, rfl, List.length_eq_zero_iff.1 h0, fun _ => rfl⟩
  · by_cases h0 : L.length = 0
    · exact Or.inl ⟨_, cap, by rw [h0], List.length_eq_zero_iff.1 h0, fun h => by cases h⟩
    · have hlt : g < w.heap.size := by
        by_cases hgl : g < w.heap.size
        · exact hgl
        · rw [Array.getElem?_eq_none (Nat.le_of_not_lt hgl)] at hg; cases hg
      refine Or.inr ⟨g, 0, cap, rfl, by omega, h1, h2, hlt, fun i x hx => ?_⟩
      refine ⟨[.int .i64 x.1, .int .i64 x.2.1, .int .i64 x.2.2], rfl, fun j u hu => ?_, rfl, hL x (List.mem_of_getElem? hx)⟩
      have hj : j < 3 := by
        by_cases hj : j < 3
        · exact hj
        · rw [List.getElem?_eq_none (by simp; omega)] at hu; cases hu
      have hi : i < L.length := by
        by_cases hi : i < L.length
        · exact hi
        · rw [List.getElem?_eq_none (by omega)] at hx; cases hx
      have h5 := insV_get L i j x hx hj
      rw [hu, ← h4, List.getElem?_take, if_pos (by omega)] at h5
      unfold World.cell?
      rw [hg]
      simp only [Nat.zero_add]
      simpa using h5
theorem owns_below {w w' : World} {base : Nat} {e : TypeId} {q : Nat} {v : Value} {n : Nat} {xs : List Value} (h : w.ownsRow base e q v n xs) (hb : Below w.heap.size w w') : w'.ownsRow base e q v n xs := by
  obtain ⟨hl, h⟩ := h
  refine ⟨hl, ?_⟩
  rcases h with h | ⟨g, cap, cur, h0, h1, hg, h2⟩
  · exact Or.inl h
  · have hlt : g < w.heap.size := by
      by_cases hgl : g < w.heap.size
      · exact hgl
      · rw [Array.getElem?_eq_none (Nat.le_of_not_lt hgl)] at hg; cases hg
    exact Or.inr ⟨g, cap, cur, h0, h1, (hb.block g hlt).trans hg, h2⟩
end Go.Proofs.YtefejcofmopjfaaGreatDoor
