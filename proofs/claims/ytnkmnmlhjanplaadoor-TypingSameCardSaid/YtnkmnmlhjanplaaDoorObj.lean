/- Blocks of memory, by what lies in them; rows of the call's own that are written. -/
import Derived.Test.YtnkmnmlhjanplaaDoorOwnLow
namespace Go.Proofs.YtnkmnmlhjanplaaDoor
open Go.RowKit
set_option linter.unusedSimpArgs false
set_option linter.unusedVariables false
theorem owns_put {w : World} {B : Nat} {e : TypeId} {n : Nat} {v : Value} {xs : List Value} (h : w.ownsRow B e 1 v n xs) {k : Nat} (hk : k < n) {x : Value} :
    ∃ g cap, v = .slice (some ⟨g, 0, none⟩) n cap ∧ B ≤ g ∧ g < w.heap.size ∧ (∃ u, xs[k]? = some u ∧ w.cell? ⟨g, k, none⟩ = some u) ∧ w.frozen? ⟨g, k, none⟩ = false ∧ (w.setCell ⟨g, k, none⟩ x).ownsRow B e 1 v n (xs.set k x) := by
  obtain ⟨hl, h⟩ := h
  rcases h with ⟨rfl, h0⟩ | ⟨g, cap, cur, rfl, hb, hg, h1, h2, h3, h4⟩
  · subst h0; simp at hl; omega
  · have hlt : g < w.heap.size := by
      by_cases hgl : g < w.heap.size
      · exact hgl
      · rw [Array.getElem?_eq_none (Nat.le_of_not_lt hgl)] at hg; cases hg
    obtain ⟨u, hu⟩ : ∃ u, xs[k]? = some u := get_some (by omega)
    have hcell : cur[k]? = some u := by
      have h5 := hu
      rw [← h4, List.getElem?_take, if_pos (by omega)] at h5
      simpa using h5
    refine ⟨g, cap, rfl, hb, hlt, ⟨u, hu, ?_⟩, ?_, ?_⟩
    · unfold World.cell?
      rw [show (⟨g, k, none⟩ : Addr).block = g from rfl, hg]
      simpa using hcell
    · unfold World.frozen?
      rw [show (⟨g, k, none⟩ : Addr).block = g from rfl, hg]
      simp
    · refine ⟨by simpa using hl, Or.inr ⟨g, cap, cur.setIfInBounds k x, rfl, hb, ?_, h1, h2, by simpa using h3, ?_⟩⟩
      · unfold World.setCell
        show (w.heap.modify g _)[g]? = _
        rw [Array.getElem?_modify, if_pos rfl, hg]
        rfl
      · rw [← h4]
        apply List.ext_getElem?
        intro i
        rw [List.getElem?_take, List.getElem?_set, List.getElem?_take]
        by_cases hi : i < n * 1
        · rw [if_pos hi]
          by_cases hki : k = i
          · subst hki
            have : k < cur.size := by omega
            have h0 : k < (cur.setIfInBounds k x).toList.length := by simp; omega
            simp [this, hk]; try omega
          · simp only [Array.toList_setIfInBounds, List.getElem?_set, if_neg hki]
            rw [if_pos hi]
        · rw [if_neg hi, if_neg (by omega : ¬ k = i), if_neg hi]
theorem owns_arr (w : World) (Z : Array Value) (e : TypeId) (q m : Nat) (hZ : Z.size = m * q) (hm : m ≤ maxLen) : (w.alloc (.cells Z e)).ownsRow w.heap.size e q (.slice (some ⟨w.heap.size, 0, none⟩) m m) m Z.toList := by
  refine ⟨by simp [hZ], Or.inr ⟨w.heap.size, m, Z, rfl, Nat.le_refl _, ?_, Nat.le_refl _, hm, hZ, by rw [List.take_of_length_le (by simp [hZ])]⟩⟩
  show (w.heap.push _)[w.heap.size]? = _
  simp
/-- a block of another type stays as it is, whatever is written into a row of the call's own -/
theorem obj_set {w : World} {B : Nat} {e t : TypeId} {q n p : Nat} {v : Value} {xs A : _} {g o : Nat} {x : Value} (hp : w.heap[p]? = some (.cells A t)) (h : w.ownsRow B e q v n xs) (hg : v.ownBlock = some g) (he : t ≠ e) : (w.setCell ⟨g, o, none⟩ x).heap[p]? = some (.cells A t) := by
  have hne : g ≠ p := by
    intro hgp
    subst hgp
    rcases h.2 with ⟨h0, _⟩ | ⟨b, cap, cur, h0, _, h1, _⟩
    · rw [h0] at hg; simp [Value.ownBlock] at hg
    · rw [h0] at hg
      have e1 : b = g := by simpa [Value.ownBlock] using hg
      subst e1
      rw [hp] at h1
      simp at h1
      exact he h1.2
  rw [← hp]
  unfold World.setCell
  show (w.heap.modify g _)[p]? = _
  rw [Array.getElem?_modify, if_neg hne]
theorem obj_cell {w : World} {p : Nat} {A : Array Value} {t : TypeId} (hp : w.heap[p]? = some (.cells A t)) {i : Nat} {u : Value} (hu : A[i]? = some u) : w.cell? ⟨p, i, none⟩ = some u := by
  unfold World.cell?
  rw [show (⟨p, i, none⟩ : Addr).block = p from rfl, hp]
  simpa using hu
theorem heap_push (w : World) (o : Obj) : (w.alloc o).heap = w.heap.push o := rfl
theorem get_last {w : World} {o : Obj} {g : Nat} (h : g = w.heap.size) : (w.alloc o).heap[g]? = some o := by
  subst h
  show (w.heap.push o)[w.heap.size]? = _
  simp
theorem get_past {w : World} {o : Obj} {g : Nat} (h : g < w.heap.size) : (w.alloc o).heap[g]? = w.heap[g]? := by
  show (w.heap.push o)[g]? = _
  rw [Array.getElem?_push, if_neg (by omega)]
theorem obj_below {B : Nat} {w w' : World} {p : Nat} {o : Obj} (hp : w.heap[p]? = some o) (hb : Below B w w') (h : p < B) : w'.heap[p]? = some o := (hb.block p h).trans hp
theorem obj_frozen {w : World} {p : Nat} {A : Array Value} {t : TypeId} (hp : w.heap[p]? = some (.cells A t)) (i : Nat) : w.frozen? ⟨p, i, none⟩ = false := by
  unfold World.frozen?
  rw [show (⟨p, i, none⟩ : Addr).block = p from rfl, hp]
  simp
theorem obj_self {w : World} {p i : Nat} {A : Array Value} {t : TypeId} {x : Value} (hp : w.heap[p]? = some (.cells A t)) : (w.setCell ⟨p, i, none⟩ x).heap[p]? = some (.cells (A.setIfInBounds i x) t) := by
  unfold World.setCell
  show (w.heap.modify p _)[p]? = _
  rw [Array.getElem?_modify, if_pos rfl, hp]
  rfl
theorem get_set {w : World} {a : Addr} {x : Value} {g : Nat} (h : a.block ≠ g) : (w.setCell a x).heap[g]? = w.heap[g]? := by
  unfold World.setCell
  show (w.heap.modify a.block _)[g]? = _
  rw [Array.getElem?_modify, if_neg h]
theorem drew_heap (w : World) : w.drew.heap = w.heap := rfl
end Go.Proofs.YtnkmnmlhjanplaaDoor
