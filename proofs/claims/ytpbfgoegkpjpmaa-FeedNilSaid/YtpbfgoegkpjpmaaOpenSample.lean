/- An argument of type feed.Sample, opened. -/
import Derived.Test.YtpbfgoegkpjpmaaRepOpen
import Derived.Test.YtpbfgoegkpjpmaaBase
namespace Go.Proofs.Ytpbfgoegkpjpmaa
open Go.ChangeShapes Go.WideShapes Go.ChangeAt Go.RowKit
theorem open_sample {H : Type} {enc : TypeId × Value → H} {W : World} {r : Reach} {b0 : Nat} {v : Value} {d : DataW H} {ps : List MemPlace} {sp : Nat → Bool} {held : Bool}
    (hval : Value.okWide Try.prog W r b0 30 v) (h : DataW.Trod enc Try.prog W 0 sp held 30 v d ps) :
    ∃ (a : Value) (L : List Int) (n : Int), v = .agg #[a, .int .i64 n] ∧ RowR 1 intR W a L ∧ I64 n := by
  have hu : Try.prog.underlying 30 = some (.struct (Try.prog.fieldsOf 30)) := by kernel_rfl
  have hi := opens_int (P := Try.prog) Try.underlying3 (by kernel_rfl)
  have hv := opens_slice (P := Try.prog) Try.underlying28 (by kernel_rfl) (by omega) hi
  obtain ⟨cs, rfl, hsz⟩ := okWide_struct hu hval
  have hl : cs.toList.length = 2 := by
    have : Try.prog.cellsOf 30 = 2 := by kernel_rfl
    rw [this] at hsz; simpa using hsz
  obtain ⟨fuel, hf⟩ := h
  obtain ⟨V, h0⟩ := opens_field hu hf 0 28 0 1 (by kernel_rfl) hv
  obtain ⟨n, h1, w1⟩ := opens_field hu hf 1 3 1 1 (by kernel_rfl) hi
  obtain ⟨l⟩ := cs
  simp only [Value.cells] at h0 h1 hl
  match l, hl with
  | [x, y], _ =>
    simp at h0 h1
    subst h1
    obtain ⟨v0, e0, r0⟩ := h0
    simp at e0
    subst e0
    exact ⟨_, V, n, rfl, r0, w1⟩
end Go.Proofs.Ytpbfgoegkpjpmaa
