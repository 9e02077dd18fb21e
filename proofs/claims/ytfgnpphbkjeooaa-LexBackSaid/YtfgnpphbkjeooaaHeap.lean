/- A block's number is below the heap's size. -/
import Derived.Test.YtfgnpphbkjeooaaObj
namespace Go.Proofs.Ytfgnpphbkjeooaa
open Go.RowKit
theorem heap_lt {w : World} {g : Nat} {o : Obj} (h : w.heap[g]? = some o) : g < w.heap.size := by
  by_cases hl : g < w.heap.size
  · exact hl
  · rw [Array.getElem?_eq_none (Nat.le_of_not_lt hl)] at h; cases h
end Go.Proofs.Ytfgnpphbkjeooaa
