/- An argument of type [2]int, opened. -/
import Derived.Test.YtochjlllfbmhpaaDoorBase
import Derived.Test.YtochjlllfbmhpaaDoorRep
namespace Go.Proofs.YtochjlllfbmhpaaDoor
open Go.ChangeShapes Go.WideShapes Go.ChangeAt Go.RowKit
theorem open_two {H : Type} {enc : TypeId × Value → H} {W : World} {r : Reach} {b0 : Nat} {v : Value} {d : DataW H} {ps : List MemPlace} {sp : Nat → Bool} {held : Bool}
    (hval : Value.okWide Tryd.prog W r b0 37 v) (h : DataW.Trod enc Tryd.prog W 0 sp held 37 v d ps) :
    ∃ x0 x1 : Int, v = .agg #[.int .i64 x0, .int .i64 x1] ∧ (I64 x0 ∧ I64 x1) := by
  have hc : Tryd.prog.cellsOf 3 = 1 := by kernel_rfl
  have hci : Tryd.prog.cellsOf 37 = 2 := by kernel_rfl
  simp only [Value.okWide, Tryd.underlying37] at hval
  obtain ⟨cs, rfl, hsz, _⟩ := hval
  rw [hci] at hsz
  obtain ⟨fuel, hf⟩ := h
  obtain ⟨es, m, rfl, _, hel, hen, heall⟩ := DataW.trod_array Tryd.underlying37 hf
  have key : ∀ i, i < 2 → ∃ z, cs[i]? = some (.int .i64 z) ∧ I64 z := by
    intro i hi
    have h1 := heall i hi
    rw [hc, Nat.mul_one] at h1
    obtain ⟨b, hb⟩ : ∃ b, es[i]? = some b := ⟨es[i], by simp [hen, hi]⟩
    rw [hb] at h1
    obtain ⟨z, hz, _, hw⟩ := DataW.trod_int Tryd.underlying3 h1
    refine ⟨z, ?_, bounds_i64 hw⟩
    have := congrArg (·[0]?) hz
    simpa [List.getElem?_take, List.getElem?_drop, Value.cells] using this
  obtain ⟨x0, e0, w0⟩ := key 0 (by omega)
  obtain ⟨x1, e1, w1⟩ := key 1 (by omega)
  refine ⟨x0, x1, ?_, w0, w1⟩
  congr 1
  apply Array.ext_getElem?
  intro i
  by_cases hi : i < 2
  · obtain rfl | rfl : i = 0 ∨ i = 1 := by omega
    all_goals first | exact e0 | exact e1
  · rw [Array.getElem?_eq_none (by omega), Array.getElem?_eq_none (by simp; omega)]
end Go.Proofs.YtochjlllfbmhpaaDoor
