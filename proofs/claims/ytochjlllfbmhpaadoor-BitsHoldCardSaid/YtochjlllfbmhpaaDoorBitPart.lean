/- Sets: words that are changed one by one. Plain. -/
import Derived.Test.YtochjlllfbmhpaaDoorBitW
namespace Go.Proofs.YtochjlllfbmhpaaDoor
open Go.RowKit
set_option linter.unusedSimpArgs false
set_option linter.unusedVariables false
/-- the first k words changed -/
def partW (f : Nat → Nat → Nat) (a b : List Nat) (k : Nat) : List Nat := (List.range a.length).map fun i => if i < k then f (a.getD i 0) (b.getD i 0) else a.getD i 0
theorem partW_len (f : Nat → Nat → Nat) (a b : List Nat) (k : Nat) : (partW f a b k).length = a.length := by simp [partW]
theorem partW_get (f : Nat → Nat → Nat) (a b : List Nat) (k i : Nat) (h : i < a.length) : (partW f a b k).getD i 0 = if i < k then f (a.getD i 0) (b.getD i 0) else a.getD i 0 := by
  simp [partW, h, List.getD]
theorem nat_ext {a b : List Nat} (hl : a.length = b.length) (h : ∀ i, i < a.length → a.getD i 0 = b.getD i 0) : a = b := by
  apply List.ext_getElem?
  intro i
  by_cases hi : i < a.length
  · have hi' : i < b.length := by omega
    have e := h i hi
    simp only [List.getD, List.getElem?_eq_getElem hi, List.getElem?_eq_getElem hi', Option.getD_some] at e ⊢
    rw [e]
  · rw [List.getElem?_eq_none (by omega), List.getElem?_eq_none (by omega)]
theorem partW_zero (f : Nat → Nat → Nat) (a b : List Nat) : partW f a b 0 = a := nat_ext (partW_len _ _ _ _) fun i hi => by
  rw [partW_len] at hi
  rw [partW_get _ _ _ _ _ hi, if_neg (by omega)]
theorem partW_set (f : Nat → Nat → Nat) (a b : List Nat) (k : Nat) (hk : k < a.length) : (partW f a b k).set k (f (a.getD k 0) (b.getD k 0)) = partW f a b (k + 1) := nat_ext (by simp [partW_len]) fun i hi => by
  rw [List.length_set, partW_len] at hi
  rw [set_getD _ _ _ _ (by rw [partW_len]; exact hk), partW_get _ _ _ _ _ hi, partW_get _ _ _ _ _ hi]
  by_cases h : i = k
  · subst h; simp
  · rw [if_neg h]
    by_cases h2 : i < k
    · rw [if_pos h2, if_pos (by omega)]
    · rw [if_neg h2, if_neg (by omega)]
theorem partW_end (f : Nat → Nat → Nat) (a b : List Nat) (k : Nat) (h : ∀ i, k ≤ i → i < a.length → f (a.getD i 0) (b.getD i 0) = a.getD i 0) : partW f a b k = mapW f a b := nat_ext (by simp [partW_len, mapW]) fun i hi => by
  rw [partW_len] at hi
  rw [partW_get _ _ _ _ _ hi, mapW_get, if_pos hi]
  by_cases h2 : i < k
  · rw [if_pos h2]
  · rw [if_neg h2, h i (by omega) hi]
theorem fin_box {w W2 : World} {g p : Nat} {ws : List Nat} {x0 x1 z0 z1 : Value} {T : TypeId} (hg : W2.heap[g]? = some (.cells (uV ws) 45)) (h1 : W2.heap[p]? = some (.cells #[x0, x1] T)) (hb : Below w.heap.size w W2) (h0 : w.heap.size ≤ g ∧ w.heap.size ≤ p) (hne : ¬ g = p) :
    ∃ W, W = ((W2.setCell ⟨p, 0, none⟩ z0).setCell ⟨p, 1, none⟩ z1) ∧ W.cell? ⟨p, 0, none⟩ = some z0 ∧ W.cell? ⟨p, 1, none⟩ = some z1 ∧ W.heap[g]? = some (.cells (uV ws) 45) ∧ Below w.heap.size w W := by
  refine ⟨_, rfl, ?_⟩
  have e2 := obj_self (i := 1) (x := z1) (obj_self (i := 0) (x := z0) h1)
  refine ⟨obj_cell e2 (i := 0) rfl, obj_cell e2 (i := 1) rfl, ?_, (((hb.setCell h0.2 _).setCell h0.2 _))⟩
  rw [get_set (show (⟨p, 1, none⟩ : Addr).block ≠ g from fun e => hne e.symm), get_set (show (⟨p, 0, none⟩ : Addr).block ≠ g from fun e => hne e.symm)]
  exact hg
theorem grown_set {w w1 : World} {g q : Nat} {v : Value} (h : w.grownBy w1 (some g)) : w.grownBy (w1.setCell ⟨g, q, none⟩ v) (some g) :=
  ⟨h.os, h.tape, h.output, by rw [World.size_setCell]; exact h.size, fun k hk hne => by
    rw [get_set (show (⟨g, q, none⟩ : Addr).block ≠ k from fun e => hne (by rw [show g = k from e]))]
    exact h.block k hk hne⟩
theorem grown_drew {w w1 : World} {ob : Option Nat} (h : w.grownBy w1 ob) : w.grownBy w1.drew ob := ⟨h.os, h.tape, h.output, h.size, h.block⟩
end Go.Proofs.YtochjlllfbmhpaaDoor
