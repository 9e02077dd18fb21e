/- An argument of an instruction with a stack, opened. -/
import Derived.Test.YtjkblhopdjgkiaaDoorOpenPr
namespace Go.Proofs.YtjkblhopdjgkiaaDoor
open Go.ChangeShapes Go.WideShapes Go.ChangeAt Go.RowKit
theorem open_ask {H : Type} {enc : TypeId × Value → H} {W : World} {r : Reach} {b0 : Nat} {v : Value} {d : DataW H} {ps : List MemPlace} {sp : Nat → Bool} {held : Bool}
    (hval : Value.okWide Tryd.prog W r b0 39 v) (h : DataW.Trod enc Tryd.prog W 0 sp held 39 v d ps) :
    ∃ (o a b : Int) (u : Value) (st : List Int), v = .agg #[.int .i64 o, .int .i64 a, .int .i64 b, u] ∧ I64 a ∧ I64 b ∧ RowR 1 intR W u st := by
  have hu : Tryd.prog.underlying 39 = some (.struct (Tryd.prog.fieldsOf 39)) := by kernel_rfl
  have hi := opens_int (P := Tryd.prog) Tryd.underlying3 (by kernel_rfl)
  have hv := opens_slice (P := Tryd.prog) Tryd.underlying32 (by kernel_rfl) (by omega) hi
  obtain ⟨cs, rfl, hsz⟩ := okWide_struct hu hval
  have hl : cs.toList.length = 4 := by
    have : Tryd.prog.cellsOf 39 = 4 := by kernel_rfl
    rw [this] at hsz; simpa using hsz
  obtain ⟨fuel, hf⟩ := h
  obtain ⟨I, h0, w0, w1, w2⟩ := opens_field hu hf 0 29 0 3 (by kernel_rfl) opens_ins
  obtain ⟨L, h1⟩ := opens_field hu hf 1 32 3 1 (by kernel_rfl) hv
  obtain ⟨l⟩ := cs
  simp only [Value.cells] at h0 h1 hl
  match l, hl with
  | [x, y, z, t], _ =>
    simp at h0 h1
    obtain ⟨e0, e1, e2⟩ := h0
    obtain ⟨v1, f1, r1⟩ := h1
    simp at f1
    subst e0 e1 e2 f1
    exact ⟨_, _, _, _, L, rfl, w1, w2, r1⟩
theorem open_ints {H : Type} {enc : TypeId × Value → H} {W : World} {r : Reach} {b0 : Nat} {v : Value} {d : DataW H} {ps : List MemPlace} {sp : Nat → Bool} {held : Bool}
    (hval : Value.okWide Tryd.prog W r b0 32 v) (h : DataW.Trod enc Tryd.prog W 0 sp held 32 v d ps) : ∃ L, RowR 1 intR W v L := by
  obtain ⟨a0, len, cap, rfl⟩ := okWide_slice Tryd.underlying32 hval
  obtain ⟨fuel, hf⟩ := h
  obtain ⟨L, v', hv, hr⟩ := (opens_slice (P := Tryd.prog) Tryd.underlying32 (by kernel_rfl) (by omega) (opens_int Tryd.underlying3 (by kernel_rfl))).2 enc W sp held fuel _ _ hf
  simp [Value.cells] at hv
  subst hv
  exact ⟨L, hr⟩
end Go.Proofs.YtjkblhopdjgkiaaDoor
