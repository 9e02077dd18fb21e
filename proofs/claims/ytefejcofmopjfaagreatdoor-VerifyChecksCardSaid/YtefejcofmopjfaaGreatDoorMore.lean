/- What a call that only makes memory leaves: the world ahead of it, with more blocks behind. Stores into older blocks move inside. -/
import Derived.Test.YtefejcofmopjfaaGreatDoorRow
import Derived.WalkSmall
namespace Go.Proofs.YtefejcofmopjfaaGreatDoor
open Go.RowKit
def wmore (w : World) (l : Array Obj) (d : Nat) : World := { w with heap := w.heap ++ l, drawn := d }
theorem more_of {w w1 : World} (h : Below w.heap.size w w1) : ∃ l d, w1 = wmore w l d := by
  refine ⟨w1.heap.extract w.heap.size w1.heap.size, w1.drawn, ?_⟩
  have hh : w1.heap = w.heap ++ w1.heap.extract w.heap.size w1.heap.size := by
    apply Array.ext_getElem?
    intro i
    by_cases hi : i < w.heap.size
    · rw [Array.getElem?_append_left hi]; exact h.block i hi
    · have h1 := h.size
      rw [Array.getElem?_append_right (by omega), Array.getElem?_extract]
      by_cases h2 : i < w1.heap.size
      · rw [if_pos (by omega)]; congr 1; omega
      · rw [if_neg (by omega), Array.getElem?_eq_none (by omega)]
  cases w1
  simp only [wmore] at *
  rw [← hh]
  cases h.os; cases h.tape; cases h.output
  rfl
theorem more_size (w : World) (l : Array Obj) (d : Nat) : (wmore w l d).heap.size = w.heap.size + l.size := by simp [wmore]
theorem more_get (w : World) (l : Array Obj) (d : Nat) {b : Nat} (h : b < w.heap.size) : (wmore w l d).heap[b]? = w.heap[b]? := by
  show (w.heap ++ l)[b]? = _; exact Array.getElem?_append_left h
theorem more_cell (w : World) (l : Array Obj) (d : Nat) {b o : Nat} (h : b < w.heap.size) : (wmore w l d).cell? ⟨b, o, none⟩ = w.cell? ⟨b, o, none⟩ := by
  unfold World.cell?; rw [show (⟨b, o, none⟩ : Addr).block = b from rfl, more_get w l d h]
theorem more_frozen (w : World) (l : Array Obj) (d : Nat) {b o : Nat} (h : b < w.heap.size) : (wmore w l d).frozen? ⟨b, o, none⟩ = w.frozen? ⟨b, o, none⟩ := by
  unfold World.frozen?; rw [show (⟨b, o, none⟩ : Addr).block = b from rfl, more_get w l d h]
theorem more_set (w : World) (l : Array Obj) (d : Nat) {b o : Nat} (v : Value) (h : b < w.heap.size) : (wmore w l d).setCell ⟨b, o, none⟩ v = wmore (w.setCell ⟨b, o, none⟩ v) l d := by
  have hm : ∀ f : Obj → Obj, (w.heap ++ l).modify b f = w.heap.modify b f ++ l := by
    intro f
    apply Array.ext_getElem?
    intro i
    by_cases hi : i < w.heap.size
    · rw [Array.getElem?_append_left (by simpa using hi), Array.getElem?_modify, Array.getElem?_modify, Array.getElem?_append_left hi]
    · rw [Array.getElem?_append_right (by simp; omega), Array.getElem?_modify, if_neg (by omega), Array.getElem?_append_right (by omega), Array.size_modify]
  unfold World.setCell wmore
  rw [show (⟨b, o, none⟩ : Addr).block = b from rfl]
  simp only [hm]
theorem more_below {B : Nat} {v w : World} (h : Below B v w) (hB : B ≤ w.heap.size) (l : Array Obj) (d : Nat) : Below B v (wmore w l d) :=
  h.trans ⟨rfl, rfl, rfl, by rw [more_size]; omega, fun k hk => more_get w l d (by omega)⟩
theorem set_size (w : World) (a : Addr) (v : Value) : (w.setCell a v).heap.size = w.heap.size := by
  simp [World.setCell]
theorem more_drewN (w : World) (l : Array Obj) (d n : Nat) : (wmore w l d).drewN n = wmore w l (d + n) := rfl
theorem more_drew (w : World) (l : Array Obj) (d : Nat) : (wmore w l d).drew = wmore w l (d + 1) := rfl
end Go.Proofs.YtefejcofmopjfaaGreatDoor
