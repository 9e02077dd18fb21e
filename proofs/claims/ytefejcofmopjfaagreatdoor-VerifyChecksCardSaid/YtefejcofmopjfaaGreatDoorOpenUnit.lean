/- An argument of type api.Unit, opened. -/
import Derived.Test.YtefejcofmopjfaaGreatDoorRepOpen
import Derived.Test.YtefejcofmopjfaaGreatDoorPgm
import Derived.Test.YtefejcofmopjfaaGreatDoorBase
namespace Go.Proofs.YtefejcofmopjfaaGreatDoor
open Go.ChangeShapes Go.WideShapes Go.ChangeAt Go.RowKit
set_option maxRecDepth 100000 in
theorem opens_unit : Opens Tryz.prog 38 5 unitR := ⟨by kernel_rfl, fun enc W sp held fuel cs x h => by
  have hu : Tryz.prog.underlying 38 = some (.struct (Tryz.prog.fieldsOf 38)) := by kernel_rfl
  have hi := opens_int (P := Tryz.prog) Tryz.underlying3 (by kernel_rfl)
  have hs := opens_string (P := Tryz.prog) Tryz.underlying9 (by kernel_rfl)
  have hn := opens_slice (P := Tryz.prog) Tryz.underlying35 (by kernel_rfl) (by omega) hi
  have hc := opens_slice (P := Tryz.prog) Tryz.underlying36 (by kernel_rfl) (by omega) opens_ins
  have hl : cs.length = 5 := by
    obtain ⟨xs, n, _, _, hl, _, _⟩ := DataW.trod_struct hu h
    exact hl.trans (by kernel_rfl)
  obtain ⟨o, h0, w0⟩ := opens_field hu h 0 9 0 1 (by kernel_rfl) hs
  obtain ⟨a, v1, h1, w1⟩ := opens_field hu h 1 35 1 1 (by kernel_rfl) hn
  obtain ⟨b, h2, w2⟩ := opens_field hu h 2 3 2 1 (by kernel_rfl) hi
  obtain ⟨c, v3, h3, w3⟩ := opens_field hu h 3 35 3 1 (by kernel_rfl) hn
  obtain ⟨d, v4, h4, w4⟩ := opens_field hu h 4 36 4 1 (by kernel_rfl) hc
  refine ⟨⟨o, a, b, c, d⟩, v1, v3, v4, ?_, w1, w3, w4, w0, w2⟩
  match cs, hl with
  | [x, y, z, t, u], _ =>
    simp at h0 h1 h2 h3 h4
    rw [h0, h1, h2, h3, h4]⟩
set_option maxRecDepth 100000 in
theorem open_unit {H : Type} {enc : TypeId × Value → H} {W : World} {r : Reach} {b0 : Nat} {v : Value} {d : DataW H} {ps : List MemPlace} {sp : Nat → Bool} {held : Bool}
    (hval : Value.okWide Tryz.prog W r b0 38 v) (h : DataW.Trod enc Tryz.prog W 0 sp held 38 v d ps) :
    ∃ (a b c : Value) (x : Un), v = .agg #[.string ⟨x.name.toArray⟩, a, .int .i64 x.result, b, c] ∧ UnAt W a b c x := by
  have hu : Tryz.prog.underlying 38 = some (.struct (Tryz.prog.fieldsOf 38)) := by kernel_rfl
  obtain ⟨cs, rfl, hsz⟩ := okWide_struct hu hval
  obtain ⟨fuel, hf⟩ := h
  obtain ⟨x, a, b, c, h0, h1⟩ := opens_unit.2 enc W sp held fuel _ _ hf
  obtain ⟨l⟩ := cs
  simp only [Value.cells] at h0
  subst h0
  exact ⟨a, b, c, x, rfl, h1⟩
end Go.Proofs.YtefejcofmopjfaaGreatDoor
