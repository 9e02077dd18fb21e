/- An argument of type api.Instr, opened; its numbers' bounds. -/
import Derived.Test.YtjlpmepnapaonaaDoorRepOpen
namespace Go.Proofs.YtjlpmepnapaonaaDoor
open Go.ChangeShapes Go.WideShapes Go.ChangeAt Go.RowKit
theorem open_insR {H : Type} {enc : TypeId × Value → H} {W : World} {r : Reach} {b0 : Nat} {v : Value} {d : DataW H} {ps : List MemPlace} {sp : Nat → Bool} {held : Bool}
    (hval : Value.okWide Tryd.prog W r b0 35 v) (h : DataW.Trod enc Tryd.prog W 0 sp held 35 v d ps) :
    ∃ (o a b : Int), v = .agg #[.int .i64 o, .int .i64 a, .int .i64 b] ∧ I64 o ∧ I64 a ∧ I64 b := by
  have hu : Tryd.prog.underlying 35 = some (.struct (Tryd.prog.fieldsOf 35)) := by kernel_rfl
  obtain ⟨cs, rfl, hsz⟩ := okWide_struct hu hval
  obtain ⟨fuel, hf⟩ := h
  obtain ⟨x, h0, h1, h2, h3⟩ := opens_ins.2 enc W sp held fuel _ _ hf
  obtain ⟨l⟩ := cs
  simp only [Value.cells] at h0
  subst h0
  exact ⟨_, _, _, rfl, h1, h2, h3⟩
end Go.Proofs.YtjlpmepnapaonaaDoor
