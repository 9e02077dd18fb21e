/- What a block that was made for a value holds. -/
import Derived.Test.YtefejcofmopjfaaGreatDoorKeep
import Derived.Test.YtefejcofmopjfaaGreatDoorMoreB
namespace Go.Proofs.YtefejcofmopjfaaGreatDoor
open Go.RowKit
def Boxed (W : World) (g : Nat) (L : List Value) : Prop := ∀ i u, L[i]? = some u → W.cell? ⟨g, i, none⟩ = some u
theorem Boxed.new (W : World) (L : List Value) (t : TypeId) {W' : World} (h : Below (W.heap.size + 1) (W.alloc (.cells L.toArray t)) W') : Boxed W' W.heap.size L := fun i u hu =>
  (h.cell (p := ⟨W.heap.size, i, none⟩) (by show W.heap.size < _; omega)).trans (by rw [cell_at rfl]; simpa using hu)
theorem Boxed.keep {W W' : World} {g : Nat} {L : List Value} (c : Boxed W g L) (hb : g < W.heap.size) (h : Below W.heap.size W W') : Boxed W' g L := fun i u hu => (h.cell (p := ⟨g, i, none⟩) hb).trans (c i u hu)
/-- two boxes, one behind the other -/
theorem boxed2 (w : World) (L M : List Value) (t u : TypeId) {W' : World} (h : Below (w.heap.size + 2) ((w.alloc (.cells L.toArray t)).alloc (.cells M.toArray u)) W') : Boxed W' w.heap.size L ∧ Boxed W' (w.heap.size + 1) M ∧ w.heap.size + 1 < W'.heap.size ∧ Below w.heap.size w W' := by
  have e : (w.alloc (.cells L.toArray t)).heap.size = w.heap.size + 1 := by simp
  have hb : Below w.heap.size w ((w.alloc (.cells L.toArray t)).alloc (.cells M.toArray u)) := Below.alloc (Below.alloc (Below.refl _ _) (by omega) _) (by simp) _
  refine ⟨?_, ?_, by have := h.size; simp at this; omega, hb.trans (h.mono (by omega))⟩
  · exact Boxed.new w L t (Below.trans (Below.alloc (Below.refl _ _) (by simp) _) (h.mono (by omega)))
  · have := Boxed.new (w.alloc (.cells L.toArray t)) M u (W' := W') (by rw [e]; exact h)
    rw [e] at this; exact this
end Go.Proofs.YtefejcofmopjfaaGreatDoor
