/- Cells of older blocks, in later worlds. -/
import Derived.Test.YtefejcofmopjfaaGreatDoorRow
namespace Go.Proofs.YtefejcofmopjfaaGreatDoor
open Go.RowKit
theorem cellB {a b : World} (k : Below a.heap.size a b) {g o : Nat} {v : Value} (hc : a.cell? ⟨g, o, none⟩ = some v) (hp : g < a.heap.size) : b.cell? ⟨g, o, none⟩ = some v := (k.cell (p := ⟨g, o, none⟩) hp).trans hc
end Go.Proofs.YtefejcofmopjfaaGreatDoor
