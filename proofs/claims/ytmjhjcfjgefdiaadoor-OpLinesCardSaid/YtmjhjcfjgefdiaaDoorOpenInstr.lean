/- An argument of type api.Instr, opened. -/
import Derived.Test.YtmjhjcfjgefdiaaDoorBase
namespace Go.Proofs.YtmjhjcfjgefdiaaDoor
open Go.ChangeShapes Go.WideShapes Go.ChangeAt Go.RowKit
set_option linter.unusedSimpArgs false
set_option linter.unusedVariables false
/-- three cells that read as an instruction -/
theorem trod_instr {H : Type} {enc : TypeId × Value → H} {W : World} {sp : Nat → Bool} {held : Bool} {fuel : Nat} {cs : List Value} {x : DataW H × List MemPlace} {b : Nat}
    (h : DataW.trod enc Tryd.prog W b sp held fuel 23 cs = some x) :
    ∃ x0 x1 x2 : Int, cs = [.int .i64 x0, .int .i64 x1, .int .i64 x2] ∧ (-9223372036854775808 ≤ x0 ∧ x0 ≤ 9223372036854775807) ∧ (-9223372036854775808 ≤ x1 ∧ x1 ≤ 9223372036854775807) ∧ (-9223372036854775808 ≤ x2 ∧ x2 ≤ 9223372036854775807) := by
  have hu : Tryd.prog.underlying 23 = some (.struct (Tryd.prog.fieldsOf 23)) := by kernel_rfl
  have hc : Tryd.prog.cellsOf 3 = 1 := by kernel_rfl
  have hci : Tryd.prog.cellsOf 23 = 3 := by kernel_rfl
  obtain ⟨xs, n, rfl, hx, hl, hlen, hall⟩ := DataW.trod_struct hu h
  rw [hci] at hl
  have hsz : (Tryd.prog.fieldsOf 23).size = 3 := by kernel_rfl
  have key : ∀ i, i < 3 → ((Tryd.prog.fieldsOf 23)[i]?.map fun f => (f.type, f.offset)) = some (3, i) → ∃ z, cs[i]? = some (.int .i64 z) ∧ (-9223372036854775808 ≤ z ∧ z ≤ 9223372036854775807) := by
    intro i hi hf
    obtain ⟨f, hf0, hf1⟩ := Option.map_eq_some_iff.1 hf
    have h1 := hall i f hf0
    have ht : f.type = 3 := congrArg Prod.fst hf1
    have ho : f.offset = i := congrArg Prod.snd hf1
    rw [ht, ho, hc] at h1
    obtain ⟨b, hb⟩ : ∃ b, xs[i]? = some b := ⟨xs[i]'(by omega), by simp [hlen, hsz, hi]⟩
    rw [hb] at h1
    obtain ⟨z, hz, _, hw⟩ := DataW.trod_int Tryd.underlying3 h1
    refine ⟨z, ?_, bounds_i64 hw⟩
    have := congrArg (·[0]?) hz
    simpa [List.getElem?_take, List.getElem?_drop] using this
  obtain ⟨x0, e0, w0⟩ := key 0 (by omega) (by kernel_rfl)
  obtain ⟨x1, e1, w1⟩ := key 1 (by omega) (by kernel_rfl)
  obtain ⟨x2, e2, w2⟩ := key 2 (by omega) (by kernel_rfl)
  refine ⟨x0, x1, x2, ?_, w0, w1, w2⟩
  apply List.ext_getElem?
  intro i
  by_cases hi : i < 3
  · obtain rfl | rfl | rfl : i = 0 ∨ i = 1 ∨ i = 2 := by omega
    all_goals first | exact e0 | exact e1 | exact e2
  · rw [List.getElem?_eq_none (by omega), List.getElem?_eq_none (by simp; omega)]
theorem open_instr {H : Type} {enc : TypeId × Value → H} {W : World} {r : Reach} {b0 : Nat} {v : Value} {d : DataW H} {ps : List MemPlace} {sp : Nat → Bool} {held : Bool}
    (hval : Value.okWide Tryd.prog W r b0 23 v) (h : DataW.Trod enc Tryd.prog W 0 sp held 23 v d ps) :
    ∃ x0 x1 x2 : Int, v = .agg #[.int .i64 x0, .int .i64 x1, .int .i64 x2] ∧ (-9223372036854775808 ≤ x0 ∧ x0 ≤ 9223372036854775807) ∧ (-9223372036854775808 ≤ x1 ∧ x1 ≤ 9223372036854775807) ∧ (-9223372036854775808 ≤ x2 ∧ x2 ≤ 9223372036854775807) := by
  have hu : Tryd.prog.underlying 23 = some (.struct (Tryd.prog.fieldsOf 23)) := by kernel_rfl
  obtain ⟨cs, rfl, hsz⟩ := okWide_struct hu hval
  obtain ⟨fuel, hf⟩ := h
  obtain ⟨x0, x1, x2, hcs, w0, w1, w2⟩ := trod_instr hf
  refine ⟨x0, x1, x2, ?_, w0, w1, w2⟩
  have : cs.toList = [.int .i64 x0, .int .i64 x1, .int .i64 x2] := hcs
  congr 1
  apply Array.toList_inj.1
  exact this
end Go.Proofs.YtmjhjcfjgefdiaaDoor
