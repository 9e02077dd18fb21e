/- Rows that are made, rows of rows of the call's own. -/
import Derived.Test.YtfgnpphbkjeooaaGrid
import Derived.Test.YtfgnpphbkjeooaaAppBlk
namespace Go.Proofs.Ytfgnpphbkjeooaa
open Go.RowKit
set_option linter.unusedSimpArgs false
set_option linter.unusedVariables false
theorem own_owns {w : World} {B : Nat} {e : TypeId} {q n m : Nat} {v : Value} {xs ys : List Value} (h : w.ownsRow B e q v n xs) (h1 : n = m) (h2 : xs = ys) : w.ownsRow B e q v m ys := by subst h1 h2; exact h
theorem madeI (m : Nat) : madeCells (Value.int .i64 0).cells m = (iV (List.replicate m 0)).toArray := by
  apply Array.ext_getElem?
  intro i
  by_cases h : i < m
  · simp [madeCells, Value.cells, h, Nat.mod_one, iV, List.getElem?_replicate]
  · simp [madeCells, Value.cells, h, iV, List.getElem?_replicate]
theorem madeS (m : Nat) : madeCells (Value.slice none 0 0).cells m = (List.replicate m (Value.slice none 0 0)).toArray := by
  apply Array.ext_getElem?
  intro i
  by_cases h : i < m
  · simp [madeCells, Value.cells, h, Nat.mod_one, List.getElem?_replicate]
  · simp [madeCells, Value.cells, h, List.getElem?_replicate]
theorem ob_ne {n m c d : Nat} {g h : Nat} (k : g ≠ h) : (Value.slice (some ⟨g, 0, none⟩) n c).ownBlock ≠ some h := by simpa [Value.ownBlock] using k
theorem set_get {w : World} {g o k : Nat} {x : Value} {q : Obj} (h : w.heap[k]? = some q) (hne : g ≠ k) : (w.setCell ⟨g, o, none⟩ x).heap[k]? = some q := by rw [get_set (a := ⟨g, o, none⟩) hne]; exact h
theorem rows_set {B : Nat} {e : TypeId} {w : World} {U : List Value} {L : List (List Int)} {g o : Nat} {x : Value} (h : OwnRows B e w U L) (hg : g < B) : OwnRows B e (w.setCell ⟨g, o, none⟩ x) U L :=
  ⟨h.len, fun i u l hu hl => owns_set (h.row i u l hu hl) (fun hg' => by have := (owns_lt (h.row i u l hu hl) hg').1; omega), h.apart⟩
theorem new_cells (w : World) (C : List Value) (t : TypeId) : ∀ (j : Nat) (u : Value), C[j]? = some u → (w.alloc (.cells C.toArray t)).cell? ((⟨w.heap.size, 0, none⟩ : Addr).add j) = some u := by
  rcases src_new w C t with ⟨h, _⟩ | ⟨ad, c, h, hc⟩
  · cases h
  · cases h; exact hc
/-- rows of the call's own, read as a grid -/
theorem grid_own {w : World} {B : Nat} {e : TypeId} {o : Value} {next : List (List Int)} {U : List Value} (h : w.ownsRow B e 1 o next.length U) (hr : ∀ (i : Nat) (u : Value) (l : List Int), U[i]? = some u → next[i]? = some l → RowR 1 intR w u l) : RowR 1 gridR w o next := by
  have hUl := h.1
  rcases h.2 with ⟨rfl, h0⟩ | ⟨g, cap, cur, rfl, hbg, hg, hnc, hcm, hcs, htake⟩
  · exact Or.inl ⟨none, 0, rfl, List.eq_nil_of_length_eq_zero h0, fun _ => rfl⟩
  · by_cases h0 : next.length = 0
    · exact Or.inl ⟨some ⟨g, 0, none⟩, cap, by rw [h0], List.eq_nil_of_length_eq_zero h0, fun h => by cases h⟩
    refine Or.inr ⟨g, 0, cap, rfl, by omega, hnc, hcm, heap_lt hg, fun i l hl => ?_⟩
    obtain ⟨u, hu⟩ := get_some (L := U) (n := i) (by have := lt_of_get hl; omega)
    have hc := h.cellAt i (by have := lt_of_get hl; omega)
    rw [hu] at hc
    refine ⟨[u], rfl, fun j x hx => ?_, u, rfl, hr i u l hu hl⟩
    cases j with
    | zero => cases hx; simpa using hc
    | succ j => simp at hx
theorem own_at {w : World} {B : Nat} {e : TypeId} {a : Option Addr} {n c q : Nat} {l : List Int} (h : w.ownsRow B e 1 (.slice a n c) n (iV l)) (hq : q < n) {z : Int} (hz : l[q]? = some z) : ∃ g, a = some ⟨g, 0, none⟩ ∧ w.cell? ⟨g, q, none⟩ = some (.int .i64 z) ∧ n ≤ c ∧ c ≤ 9223372036854775807 ∧ w.frozen? ⟨g, q, none⟩ = false := by
  rcases h.2 with ⟨h1, h0⟩ | ⟨g, cap, cur, h1, _, _, h2, h3, _⟩
  · omega
  · cases h1
    refine ⟨g, rfl, ?_, h2, h3, h.frozenAt q⟩
    rw [h.cellAt q (by omega)]
    simp [iV, hz]
theorem new_cellsE (w : World) (C : List Value) (t : TypeId) {b : Nat} (hb : w.heap.size = b) : ∀ (j : Nat) (u : Value), C[j]? = some u → (w.alloc (.cells C.toArray t)).cell? ((⟨b, 0, none⟩ : Addr).add j) = some u := by subst hb; exact new_cells w C t
end Go.Proofs.Ytfgnpphbkjeooaa
