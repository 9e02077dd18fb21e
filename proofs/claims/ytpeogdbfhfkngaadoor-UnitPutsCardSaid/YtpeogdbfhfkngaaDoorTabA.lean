/- Layer 14: numbers that fit a byte, and their bytes. -/
import Derived.Test.YtpeogdbfhfkngaaDoorOwn
import Derived.Test.YtpeogdbfhfkngaaDoorOctetPut
import Derived.Test.YtpeogdbfhfkngaaDoorMoreB
import Derived.LoopTactic
import Derived.OwnWalk
import Derived.WalkKit
import Derived.WalkSpells
import Derived.WalkLawsBesides
import Derived.Deep.QuietTactic
import Derived.BigQuiet
import Derived.WalkSmall
import Derived.IntWalk
namespace Go.Proofs.YtpeogdbfhfkngaaDoor
open Go.RowKit
set_option linter.unusedSimpArgs false
set_option linter.unusedVariables false
def fitB (z : Int) : Bool := decide (0 ≤ z ∧ z ≤ 255)
theorem fitB_yes {z : Int} (h0 : 0 ≤ z) (h1 : z ≤ 255) : fitB z = true := decide_eq_true ⟨h0, h1⟩
theorem all_snoc {L : List Int} {k : Nat} {x : Int} {p : Int → Bool} (h : (L.take k).all p = true) (hx : L[k]? = some x) (hp : p x = true) : (L.take (k + 1)).all p = true := by
  rw [take_snoc hx, List.all_append, h]; simp [hp]
theorem ownsRow_none' (w : World) (B : Nat) (e : TypeId) (q : Nat) : w.ownsRow B e q (.slice none 0 0) 0 [] := ⟨by simp, Or.inl ⟨rfl, rfl⟩⟩
theorem all_not {L : List Int} {k : Nat} {x : Int} {p : Int → Bool} (hx : L[k]? = some x) (hp : p x = false) : L.all p = false := by
  rw [List.all_eq_false]; exact ⟨x, List.mem_of_getElem? hx, by simp [hp]⟩
-- bytes
def byteO (z : Int) : UInt8 := UInt8.ofNat (z % 256).toNat
theorem byteO_val (z : Int) : ((byteO z).toNat : Int) = z % 256 := by
  unfold byteO
  rw [UInt8.toNat_ofNat']
  omega
theorem bytesO_snoc {L : List Int} {k : Nat} {x : Int} (hx : L[k]? = some x) : bytesV ((L.take (k + 1)).map byteO) = bytesV ((L.take k).map byteO) ++ [.int .u8 (x % 256)] := by
  rw [take_snoc hx, List.map_append, ← byteO_val]; simp [bytesV]
end Go.Proofs.YtpeogdbfhfkngaaDoor
