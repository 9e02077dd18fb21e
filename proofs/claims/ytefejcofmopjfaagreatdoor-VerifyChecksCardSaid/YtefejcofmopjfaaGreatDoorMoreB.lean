/- A block that was just made, by its number. -/
import Derived.Test.YtefejcofmopjfaaGreatDoorMore
namespace Go.Proofs.YtefejcofmopjfaaGreatDoor
open Go.RowKit
theorem cell_at {W : World} {C : Array Value} {t : TypeId} {fr : Nat × Nat} {b i : Nat} (h : b = W.heap.size) : (W.alloc (.cells C t fr)).cell? ⟨b, i, none⟩ = C[i]? := by
  subst h
  have e : (W.alloc (.cells C t fr)).heap[W.heap.size]? = some (.cells C t fr) := by show (W.heap.push _)[W.heap.size]? = _; simp
  unfold World.cell?
  rw [e]
  simp
theorem frozen_at {W : World} {C : Array Value} {t : TypeId} {b i : Nat} (h : b = W.heap.size) : (W.alloc (.cells C t (0, 0))).frozen? ⟨b, i, none⟩ = false := by
  subst h
  have e : (W.alloc (.cells C t (0, 0))).heap[W.heap.size]? = some (.cells C t (0, 0)) := by show (W.heap.push _)[W.heap.size]? = _; simp
  unfold World.frozen?
  rw [e]
  simp
theorem cell_past {W : World} {o : Obj} {b i : Nat} (h : b < W.heap.size) : (W.alloc o).cell? ⟨b, i, none⟩ = W.cell? ⟨b, i, none⟩ := by
  have e : (W.alloc o).heap[b]? = W.heap[b]? := by show (W.heap.push _)[b]? = _; rw [Array.getElem?_push]; rw [if_neg (by omega)]
  unfold World.cell?
  rw [show (⟨b, i, none⟩ : Addr).block = b from rfl, e]
theorem frozen_past {W : World} {o : Obj} {b i : Nat} (h : b < W.heap.size) : (W.alloc o).frozen? ⟨b, i, none⟩ = W.frozen? ⟨b, i, none⟩ := by
  have e : (W.alloc o).heap[b]? = W.heap[b]? := by show (W.heap.push _)[b]? = _; rw [Array.getElem?_push]; rw [if_neg (by omega)]
  unfold World.frozen?
  rw [show (⟨b, i, none⟩ : Addr).block = b from rfl, e]
theorem blt {W w1 : World} (hb : Below W.heap.size W w1) : ∀ b, b < W.heap.size → b < w1.heap.size := fun _ h => Nat.lt_of_lt_of_le h hb.size
theorem bcell {W w1 : World} (hb : Below W.heap.size W w1) : (∀ b o, b < W.heap.size → w1.cell? ⟨b, o, none⟩ = W.cell? ⟨b, o, none⟩) ∧ (∀ b o, b < W.heap.size → w1.frozen? ⟨b, o, none⟩ = W.frozen? ⟨b, o, none⟩) :=
  ⟨fun b o h => hb.cell (p := ⟨b, o, none⟩) h, fun b o h => hb.frozen (p := ⟨b, o, none⟩) h⟩
end Go.Proofs.YtefejcofmopjfaaGreatDoor
