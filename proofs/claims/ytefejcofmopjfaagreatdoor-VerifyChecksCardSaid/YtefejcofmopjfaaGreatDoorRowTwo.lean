/- Slices whose elements have two cells. -/
import Derived.Test.YtefejcofmopjfaaGreatDoorMoreB
namespace Go.Proofs.YtefejcofmopjfaaGreatDoor
open Go.RowKit
/-- v is a slice of n elements of two cells each: f i and g i -/
def Row2At (w : World) (v : Value) (n : Nat) (f g : Nat → Value) : Prop :=
  (∃ a cap, v = .slice a 0 cap ∧ n = 0) ∨ ∃ b off cap, v = .slice (some ⟨b, off, none⟩) n cap ∧ 0 < n ∧ n ≤ cap ∧ cap ≤ maxLen ∧ b < w.heap.size ∧ ∀ i, i < n → w.cell? ⟨b, off + i * 2, none⟩ = some (f i) ∧ w.cell? ⟨b, off + i * 2 + 1, none⟩ = some (g i)
theorem more_more (w : World) (l l2 : Array Obj) (d d2 : Nat) : wmore (wmore w l d) l2 d2 = wmore w (l ++ l2) d2 := by simp [wmore, Array.append_assoc]
theorem more_start (w : World) : w = wmore w #[] w.drawn := by simp [wmore]
end Go.Proofs.YtefejcofmopjfaaGreatDoor
