/- An argument of type []api.Unit. -/
import Derived.Test.YtmbnlihboilacaaOpenUnit
namespace Go.Proofs.Ytmbnlihboilacaa
open Go.ChangeShapes Go.WideShapes Go.ChangeAt Go.RowKit
theorem open_units {H : Type} {enc : TypeId × Value → H} {W : World} {r : Reach} {b0 : Nat} {v : Value} {d : DataW H} {ps : List MemPlace} {sp : Nat → Bool} {held : Bool}
    (hval : Value.okWide Try.prog W r b0 22 v) (h : DataW.Trod enc Try.prog W 0 sp held 22 v d ps) : ∃ L, RowR 5 unitR W v L := by
  obtain ⟨a0, len, cap, rfl⟩ := okWide_slice Try.underlying22 hval
  obtain ⟨fuel, hf⟩ := h
  obtain ⟨L, v', hv, hr⟩ := (opens_slice (P := Try.prog) Try.underlying22 (by kernel_rfl) (by omega) opens_unit).2 enc W sp held fuel _ _ hf
  simp [Value.cells] at hv
  subst hv
  exact ⟨L, hr⟩
end Go.Proofs.Ytmbnlihboilacaa
