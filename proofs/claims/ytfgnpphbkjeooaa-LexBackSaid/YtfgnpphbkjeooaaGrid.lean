/- Slices of slices of integers, read. -/
import Derived.Test.YtfgnpphbkjeooaaOwn
import Derived.Test.YtfgnpphbkjeooaaBools
import Derived.Test.YtfgnpphbkjeooaaKeep
import Derived.Test.YtfgnpphbkjeooaaHeap
namespace Go.Proofs.Ytfgnpphbkjeooaa
open Go.RowKit
set_option linter.unusedSimpArgs false
set_option linter.unusedVariables false
abbrev gridR : Rep (List Int) := sliceR 1 intR
theorem gridR_stable : Stable gridR := sliceR_stable intR_stable
/-- the k-th row -/
theorem grid_at {w : World} {a : Option Addr} {n cap : Nat} {L : List (List Int)} (hv : RowR 1 gridR w (.slice a n cap) L) {k : Nat} {l : List Int} (hl : L[k]? = some l) :
    ∃ b off s sc, a = some ⟨b, off, none⟩ ∧ b < w.heap.size ∧ n ≤ cap ∧ cap ≤ 9223372036854775807 ∧ w.cell? ⟨b, off + k, none⟩ = some (.slice s l.length sc) ∧ RowR 1 intR w (.slice s l.length sc) l := by
  rcases hv with ⟨_, _, _, rfl, _⟩ | ⟨b, off, cap, h1, h2, h3, h4, h5, h6⟩
  · simp at hl
  · injection h1 with h1 h1' h1''
    subst h1 h1' h1''
    obtain ⟨C, g1, g2, v, rfl, r⟩ := h6 k l hl
    obtain ⟨s, sc, rfl⟩ := row_get r
    exact ⟨b, off, s, sc, rfl, h5, h3, h4, by simpa using g2 0 _ rfl, r⟩
/-- the k-th number -/
theorem int_at {w : World} {a : Option Addr} {n cap : Nat} {L : List Int} (hv : RowR 1 intR w (.slice a n cap) L) {k : Nat} (hk : k < L.length) :
    ∃ b off, a = some ⟨b, off, none⟩ ∧ b < w.heap.size ∧ n ≤ cap ∧ cap ≤ 9223372036854775807 ∧ w.cell? ⟨b, off + k, none⟩ = some (.int .i64 (L.getD k 0)) ∧ I64 (L.getD k 0) := by
  rcases hv with ⟨_, _, _, rfl, _⟩ | ⟨b, off, cap, h1, h2, h3, h4, h5, h6⟩
  · simp at hk
  · injection h1 with h1 h1' h1''
    subst h1 h1' h1''
    obtain ⟨C, g1, g2, g3, g4⟩ := h6 k L[k] (by simp [hk])
    subst g3
    have e : L.getD k 0 = L[k] := by simp [List.getD, hk]
    rw [e]
    exact ⟨b, off, rfl, h5, h3, h4, by simpa using g2 0 _ rfl, g4⟩
/-- numbers that are places -/
def nI (l : List Nat) : List Int := l.map Int.ofNat
theorem nI_len (l : List Nat) : (nI l).length = l.length := by simp [nI]
theorem nI_app (a b : List Nat) : nI (a ++ b) = nI a ++ nI b := by simp [nI]
theorem nI_rev (a : List Nat) : nI a.reverse = (nI a).reverse := by simp [nI]
/-- a row of truths of the call's own, read -/
theorem owns_bool_at {w : World} {B g n cap : Nat} {e : TypeId} {L : List Bool} (h : w.ownsRow B e 1 (.slice (some ⟨g, 0, none⟩) n cap) n (bV1 L)) {j : Nat} (hj : j < n) (d : Bool) : w.cell? ⟨g, j, none⟩ = some (.bool (L.getD j d)) := by
  have hl := h.1
  rw [bV1_len, Nat.mul_one] at hl
  rw [h.cellAt j (by omega), List.getD_eq_getElem?_getD]
  unfold bV1
  rw [List.getElem?_map, List.getElem?_eq_getElem (by omega)]; rfl
theorem owns_ne {w : World} {B C : Nat} {e f : TypeId} {q p n m : Nat} {v : Value} {g c : Nat} {xs ys : List Value} (h : w.ownsRow B e q v n xs) (k : w.ownsRow C f p (.slice (some ⟨g, 0, none⟩) m c) m ys) (hef : e ≠ f) : v.ownBlock ≠ some g := fun hv => owns_type h k hef hv rfl
end Go.Proofs.Ytfgnpphbkjeooaa
