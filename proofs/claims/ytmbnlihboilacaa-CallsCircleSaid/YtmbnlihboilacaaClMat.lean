/- A square of truths of the call's own. -/
import Derived.Test.YtmbnlihboilacaaGridOwn
import Derived.Test.YtmbnlihboilacaaClB
namespace Go.Proofs.Ytmbnlihboilacaa
open Go.RowKit
set_option linter.unusedSimpArgs false
set_option linter.unusedVariables false
open CL (upM)
def rowL (n : Nat) (f : Nat → Bool) : List Bool := (List.range n).map f
def ptrL (n k : Nat) (G : Nat → Nat) : List Value := (List.range n).map fun i => if i < k then .slice (some ⟨G i, 0, none⟩) n n else .slice none 0 0
structure MSt (B n k : Nat) (w wr : World) (G : Nat → Nat) (M : Nat → Nat → Bool) : Prop where
  hb : Below B w wr
  ho : wr.ownsRow B 34 1 (.slice (some ⟨B, 0, none⟩) n n) n (ptrL n k G)
  hr : ∀ i, i < k → wr.ownsRow (B + 1) 4 1 (.slice (some ⟨G i, 0, none⟩) n n) n (bV1 (rowL n (M i)))
  hi : ∀ i j, i < k → j < k → i ≠ j → G i ≠ G j
  hs : B + 1 ≤ wr.heap.size
theorem MSt.below {B n k : Nat} {w wr w2 : World} {G : Nat → Nat} {M : Nat → Nat → Bool} (h : MSt B n k w wr G M) (hB : Below wr.heap.size wr w2) : MSt B n k w w2 G M :=
  ⟨h.hb.trans (hB.mono (by have := h.hs; omega)), owns_below h.ho hB, fun i hi => owns_below (h.hr i hi) hB, h.hi, Nat.le_trans h.hs hB.size⟩
theorem MSt.ptr {B n k : Nat} {w wr : World} {G : Nat → Nat} {M : Nat → Nat → Bool} (h : MSt B n k w wr G M) {i : Nat} (hi : i < k) (hn : i < n) : wr.cell? ⟨B, i, none⟩ = some (.slice (some ⟨G i, 0, none⟩) n n) := by
  rw [h.ho.cellAt i (by omega)]
  simp [ptrL, hn, hi]
theorem MSt.cell {B n k : Nat} {w wr : World} {G : Nat → Nat} {M : Nat → Nat → Bool} (h : MSt B n k w wr G M) {i j : Nat} (hi : i < k) (hj : j < n) : wr.cell? ⟨G i, j, none⟩ = some (.bool (M i j)) ∧ wr.frozen? ⟨G i, j, none⟩ = false := by
  refine ⟨?_, (h.hr i hi).frozenAt j⟩
  rw [owns_bool_at (h.hr i hi) hj false]
  simp [rowL, List.getD, hj]
theorem MSt.gt {B n k : Nat} {w wr : World} {G : Nat → Nat} {M : Nat → Nat → Bool} (h : MSt B n k w wr G M) {i : Nat} (hi : i < k) : B < G i ∧ G i < wr.heap.size := by
  have := owns_lt (h.hr i hi) (g := G i) rfl
  omega
theorem MSt.put {B n k : Nat} {w wr : World} {G : Nat → Nat} {M : Nat → Nat → Bool} (h : MSt B n k w wr G M) {u c : Nat} (hu : u < k) (hc : c < n) (x : Bool) : MSt B n k w (wr.setCell ⟨G u, c, none⟩ (.bool x)) G (upM M u c x) := by
  have hg := h.gt hu
  refine ⟨h.hb.setCell (p := ⟨G u, c, none⟩) (by show B ≤ G u; omega) _, owns_set h.ho (ob_ne (m := 0) (d := 0) (by omega)), fun i hi => ?_, h.hi, by simpa using h.hs⟩
  by_cases e : i = u
  · subst e
    have h2 := ((h.hr i hi).stored c (.bool x)).1
    rw [bV1_set] at h2
    have e2 : (rowL n (M i)).set c x = rowL n (upM M i c x i) := by
      apply List.ext_getElem?
      intro j
      rw [List.getElem?_set]
      unfold rowL upM
      by_cases ej : c = j
      · subst ej; simp [hc]
      · have ej' : ¬ j = c := fun h => ej h.symm
        by_cases hj : j < n <;> simp [ej, ej', hj]
    rw [e2] at h2
    exact h2
  · have h2 := owns_set (o := c) (x := .bool x) (h.hr i hi) (ob_ne (m := 0) (d := 0) (h.hi i u hi hu e))
    have e2 : rowL n (upM M u c x i) = rowL n (M i) := by
      unfold rowL upM
      simp [e]
    rw [e2]
    exact h2
theorem MSt.congr {B n k : Nat} {w wr : World} {G : Nat → Nat} {M M' : Nat → Nat → Bool} (h : MSt B n k w wr G M) (hM : ∀ i j, i < k → j < n → M i j = M' i j) : MSt B n k w wr G M' := by
  refine ⟨h.hb, h.ho, fun i hi => ?_, h.hi, h.hs⟩
  have e : rowL n (M i) = rowL n (M' i) := List.map_congr_left fun j hj => hM i j hi (List.mem_range.1 hj)
  rw [← e]
  exact h.hr i hi
/-- one row more, of false -/
theorem MSt.row {B n k : Nat} {w wr : World} {G : Nat → Nat} {M : Nat → Nat → Bool} {Z : Array Value} (h : MSt B n k w wr G M) (hk : k < n) (hZ : Z = (bV1 (List.replicate n false)).toArray) (hn : n ≤ 1000) :
    MSt B n (k + 1) w ((wr.alloc (.cells Z 4)).setCell ⟨B, k, none⟩ (.slice (some ⟨wr.heap.size, 0, none⟩) n n)) (fun i => if i = k then wr.heap.size else G i) (fun i j => if i = k then false else M i j) := by
  have hba := (Below.refl wr.heap.size wr).alloc (Nat.le_refl _) (.cells Z 4)
  have ho := owns_below h.ho hba
  have hs := h.hs
  have k1 := owns_arr wr Z 4 1 n (by rw [hZ]; simp [bV1]) (by unfold maxLen; omega)
  have e1 : Z.toList = bV1 (rowL n (fun _ => false)) := by
    rw [hZ]
    have : List.replicate n false = rowL n (fun _ => false) := by
      apply List.ext_getElem?
      intro i
      by_cases hi : i < n <;> simp [rowL, hi]
    rw [← this]
  rw [e1] at k1
  refine ⟨(h.hb.trans (hba.mono (by omega))).setCell (p := ⟨B, k, none⟩) (Nat.le_refl _) _, ?_, fun i hi => ?_, fun i j hi hj hij => ?_, by simp; omega⟩
  · have h2 := (ho.stored k (.slice (some ⟨wr.heap.size, 0, none⟩) n n)).1
    have e2 : (ptrL n k G).set k (.slice (some ⟨wr.heap.size, 0, none⟩) n n) = ptrL n (k + 1) (fun i => if i = k then wr.heap.size else G i) := by
      apply List.ext_getElem?
      intro i
      rw [List.getElem?_set]
      unfold ptrL
      by_cases ei : k = i
      · subst ei; simp [hk]
      · have ei' : ¬ i = k := fun h => ei h.symm
        simp only [ei, if_false, List.getElem?_map]
        by_cases hin : i < n
        · simp only [List.getElem?_range hin, Option.map_some]
          by_cases hik : i < k
          · simp [hik, ei', show i < k + 1 by omega]
          · simp [hik, show ¬ i < k + 1 by omega]
        · simp [List.getElem?_eq_none (show (List.range n).length ≤ i by simpa using hin)]
    rw [e2] at h2
    exact h2
  · by_cases e : i = k
    · subst e
      rw [if_pos rfl]
      have h2 := owns_set (g := B) (o := i) (x := .slice (some ⟨wr.heap.size, 0, none⟩) n n) (own_low k1 (by omega : B + 1 ≤ wr.heap.size)) (ob_ne (m := 0) (d := 0) (by omega))
      simpa using h2
    · rw [if_neg e]
      have h2 := owns_set (g := B) (o := k) (x := .slice (some ⟨wr.heap.size, 0, none⟩) n n) (owns_below (h.hr i (by omega)) hba) (ob_ne (m := 0) (d := 0) (by have := h.gt (i := i) (by omega); omega))
      simpa [e] using h2
  · show (if i = k then wr.heap.size else G i) ≠ (if j = k then wr.heap.size else G j)
    by_cases e1 : i = k
    · by_cases e2 : j = k
      · omega
      · rw [if_pos e1, if_neg e2]; have := h.gt (i := j) (by omega); omega
    · by_cases e2 : j = k
      · rw [if_neg e1, if_pos e2]; have := h.gt (i := i) (by omega); omega
      · rw [if_neg e1, if_neg e2]; exact h.hi i j (by omega) (by omega) hij
end Go.Proofs.Ytmbnlihboilacaa
