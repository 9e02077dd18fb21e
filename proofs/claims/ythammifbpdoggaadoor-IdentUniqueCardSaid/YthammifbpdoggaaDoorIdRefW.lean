/- Layer 5: the answer's words. -/
import Derived.Test.YthammifbpdoggaaDoorIdTaken
namespace Go.Proofs.YthammifbpdoggaaDoor
open Go.RowKit
set_option linter.unusedSimpArgs false
set_option linter.unusedVariables false
theorem range_alloc (w : World) (A : Array Value) (t : TypeId) (L : List Value) (h : A.toList = L) : (w.alloc (.cells A t)).rangeAt w.heap.size 0 L := by
  intro j v hv
  rw [World.cell?_alloc_at _ _ _ _ rfl, Nat.zero_add]
  subst h
  simpa using hv
set_option maxHeartbeats 2000000 in
theorem ref05_words (w : World) : Calls Tryd.prog 20 #[] w fun e w' => e = .returned (.slice (some ⟨w.heap.size, 0, none⟩) 40 40) ∧ w'.rangeAt w.heap.size 0 idWordsV ∧ Below w.heap.size w w' := by
  go_enter Tryd.func20, Tryd.ntmps20
  go_wp2_with fail
  go_ret
  exact ⟨rfl, range_alloc _ _ _ _ (by rfl), (Below.refl _ _).alloc (Nat.le_refl _) _⟩
end Go.Proofs.YthammifbpdoggaaDoor
