/- Arguments opened: a slice of texts. -/
import Derived.Test.YthammifbpdoggaaDoorOpen
import Derived.SliceStrings
namespace Go.Proofs.YthammifbpdoggaaDoor
open Go.ChangeShapes Go.WideShapes Go.ChangeAt Go.RowKit
section
variable {H : Type} {enc : TypeId × Value → H} {P : Program} {W : World} {r : Reach} {b0 : Nat} {t e : TypeId} {v : Value} {d : DataW H} {ps : List MemPlace}
theorem open_texts (ht : P.underlying t = some (.slice e)) (he : P.underlying e = some .string) (hc : P.cellsOf e = 1) (hval : Value.okWide P W r b0 t v) (h : DataW.Trod enc P W 0 (fun _ => true) true t v d ps) :
    ∃ L : List (List UInt8), RowAt W v L.length (fun i => .string ⟨(L.getD i []).toArray⟩) := by
  obtain ⟨a0, len, cap, rfl⟩ := okWide_slice ht hval
  obtain ⟨fuel, hf⟩ := h
  rcases ChangeShapes.open_strings ht he hc hf with ⟨hcs, hx⟩ | ⟨a, len', cap', ss, hcs, _, hl, hm, hz, hx, hcell, hwz⟩
  · simp [Value.cells] at hcs
    obtain ⟨rfl, rfl, rfl⟩ := hcs
    exact ⟨[], Or.inl ⟨_, _, rfl, rfl, fun _ => rfl⟩⟩
  · simp [Value.cells] at hcs
    obtain ⟨rfl, rfl, rfl⟩ := hcs
    simp only [if_true] at hz
    refine ⟨(ss.take len).map fun s => s.data.toList, ?_⟩
    have hlen : ((ss.take len).map fun s => s.data.toList).length = len := by simp; omega
    have := rowAt_of (f := fun i => .string ⟨(((ss.take len).map fun s => s.data.toList).getD i []).toArray⟩) hl hm (fun i hi => by
      rw [hcell i (by omega)]
      have h1 : i < ss.length := by omega
      simp [List.getD, hi, h1])
    rw [hlen]
    exact this
end
end Go.Proofs.YthammifbpdoggaaDoor
