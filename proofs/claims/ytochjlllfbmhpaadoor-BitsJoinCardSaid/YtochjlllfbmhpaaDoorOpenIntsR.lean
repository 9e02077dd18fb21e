/- An argument of type []int, as a row. -/
import Derived.Test.YtochjlllfbmhpaaDoorRepOpen
namespace Go.Proofs.YtochjlllfbmhpaaDoor
open Go.ChangeShapes Go.WideShapes Go.ChangeAt Go.RowKit
theorem open_ints {H : Type} {enc : TypeId × Value → H} {W : World} {r : Reach} {b0 : Nat} {v : Value} {d : DataW H} {ps : List MemPlace} {sp : Nat → Bool} {held : Bool}
    (hval : Value.okWide Tryd.prog W r b0 22 v) (h : DataW.Trod enc Tryd.prog W 0 sp held 22 v d ps) : ∃ L, RowR 1 intR W v L := by
  obtain ⟨a0, len, cap, rfl⟩ := okWide_slice Tryd.underlying22 hval
  obtain ⟨fuel, hf⟩ := h
  obtain ⟨L, v', hv, hr⟩ := (opens_slice (P := Tryd.prog) Tryd.underlying22 (by kernel_rfl) (by omega) (opens_int Tryd.underlying3 (by kernel_rfl))).2 enc W sp held fuel _ _ hf
  simp [Value.cells] at hv
  subst hv
  exact ⟨L, hr⟩
end Go.Proofs.YtochjlllfbmhpaaDoor
