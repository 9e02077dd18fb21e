/- An argument of type api.Inst, opened. -/
import Derived.Test.YtlkikadijlhngaaBase
namespace Go.Proofs.Ytlkikadijlhngaa
open Go.ChangeShapes Go.WideShapes Go.ChangeAt Go.RowKit
def I64 (z : Int) : Prop := -9223372036854775808 ≤ z ∧ z ≤ 9223372036854775807
theorem open_inst {H : Type} {enc : TypeId × Value → H} {W : World} {r : Reach} {b0 : Nat} {v : Value} {d : DataW H} {ps : List MemPlace} {sp : Nat → Bool} {held : Bool}
    (hval : Value.okWide Try.prog W r b0 24 v) (h : DataW.Trod enc Try.prog W 0 sp held 24 v d ps) :
    ∃ x0 x1 x2 x3 x4 x5 x6 x7 x8 x9 : Int, v = .agg #[.int .i64 x0, .int .i64 x1, .int .i64 x2, .int .i64 x3, .int .i64 x4, .int .i64 x5, .int .i64 x6, .int .i64 x7, .int .i64 x8, .int .i64 x9] ∧ (I64 x0 ∧ I64 x1 ∧ I64 x2 ∧ I64 x3 ∧ I64 x4 ∧ I64 x5 ∧ I64 x6 ∧ I64 x7 ∧ I64 x8 ∧ I64 x9) := by
  have hu : Try.prog.underlying 24 = some (.struct (Try.prog.fieldsOf 24)) := by kernel_rfl
  have hc : Try.prog.cellsOf 3 = 1 := by kernel_rfl
  have hc10 : Try.prog.cellsOf 22 = 10 := by kernel_rfl
  have hci : Try.prog.cellsOf 24 = 10 := by kernel_rfl
  obtain ⟨f0, hfs, ht, ho⟩ : ∃ f0, (Try.prog.fieldsOf 24)[0]? = some f0 ∧ f0.type = 22 ∧ f0.offset = 0 := ⟨(Try.prog.fieldsOf 24)[0]!, by kernel_rfl, by kernel_rfl, by kernel_rfl⟩
  obtain ⟨cs, rfl, hsz⟩ := okWide_struct hu hval
  rw [hci] at hsz
  obtain ⟨fuel, hf⟩ := h
  obtain ⟨xs, n, rfl, hx, hl, hlen, hall⟩ := DataW.trod_struct hu hf
  have h0 := hall 0 f0 hfs
  rw [ht, ho, hc10] at h0
  have hcl : (Value.agg cs).cells.toList.length = 10 := by simpa [Value.cells] using hsz
  have htake : ((Value.agg cs).cells.toList.drop 0).take 10 = cs.toList := by
    simp only [List.drop_zero]
    exact List.take_of_length_le (by simp [Value.cells, hsz])
  rw [htake] at h0
  obtain ⟨y, hy⟩ : ∃ y, xs[0]? = some y := by
    have : 0 < xs.length := by rw [hlen]; exact of_decide_eq_true (by kernel_rfl)
    exact ⟨xs[0], by simp [this]⟩
  rw [hy] at h0
  obtain ⟨es, m, rfl, _, hel, hen, heall⟩ := DataW.trod_array Try.underlying22 h0
  have key : ∀ i, i < 10 → ∃ z, cs[i]? = some (.int .i64 z) ∧ I64 z := by
    intro i hi
    have h1 := heall i hi
    rw [hc, Nat.mul_one] at h1
    obtain ⟨b, hb⟩ : ∃ b, es[i]? = some b := ⟨es[i], by simp [hen, hi]⟩
    rw [hb] at h1
    obtain ⟨z, hz, _, hw⟩ := DataW.trod_int Try.underlying3 h1
    refine ⟨z, ?_, bounds_i64 hw⟩
    have := congrArg (·[0]?) hz
    simpa [List.getElem?_take, List.getElem?_drop] using this
  obtain ⟨x0, e0, w0⟩ := key 0 (by omega)
  obtain ⟨x1, e1, w1⟩ := key 1 (by omega)
  obtain ⟨x2, e2, w2⟩ := key 2 (by omega)
  obtain ⟨x3, e3, w3⟩ := key 3 (by omega)
  obtain ⟨x4, e4, w4⟩ := key 4 (by omega)
  obtain ⟨x5, e5, w5⟩ := key 5 (by omega)
  obtain ⟨x6, e6, w6⟩ := key 6 (by omega)
  obtain ⟨x7, e7, w7⟩ := key 7 (by omega)
  obtain ⟨x8, e8, w8⟩ := key 8 (by omega)
  obtain ⟨x9, e9, w9⟩ := key 9 (by omega)
  refine ⟨x0, x1, x2, x3, x4, x5, x6, x7, x8, x9, ?_, w0, w1, w2, w3, w4, w5, w6, w7, w8, w9⟩
  congr 1
  apply Array.ext_getElem?
  intro i
  by_cases hi : i < 10
  · obtain rfl | rfl | rfl | rfl | rfl | rfl | rfl | rfl | rfl | rfl : i = 0 ∨ i = 1 ∨ i = 2 ∨ i = 3 ∨ i = 4 ∨ i = 5 ∨ i = 6 ∨ i = 7 ∨ i = 8 ∨ i = 9 := by omega
    all_goals first | exact e0 | exact e1 | exact e2 | exact e3 | exact e4 | exact e5 | exact e6 | exact e7 | exact e8 | exact e9
  · rw [Array.getElem?_eq_none (by omega), Array.getElem?_eq_none (by simp; omega)]
end Go.Proofs.Ytlkikadijlhngaa
