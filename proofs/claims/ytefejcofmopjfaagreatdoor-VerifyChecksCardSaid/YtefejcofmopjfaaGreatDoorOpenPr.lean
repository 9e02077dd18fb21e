/- An argument of type api.Prog, opened. -/
import Derived.Test.YtefejcofmopjfaaGreatDoorRepOpen
import Derived.Test.YtefejcofmopjfaaGreatDoorPgm
import Derived.Test.YtefejcofmopjfaaGreatDoorBase
import Derived.Test.YtefejcofmopjfaaGreatDoorOpenUnit
namespace Go.Proofs.YtefejcofmopjfaaGreatDoor
open Go.ChangeShapes Go.WideShapes Go.ChangeAt Go.RowKit
set_option maxRecDepth 100000 in
theorem opens_const : Opens Tryz.prog 34 2 constR := ⟨by kernel_rfl, fun enc W sp held fuel cs x h => by
  have hu : Tryz.prog.underlying 34 = some (.struct (Tryz.prog.fieldsOf 34)) := by kernel_rfl
  have hi := opens_int (P := Tryz.prog) Tryz.underlying3 (by kernel_rfl)
  have hl : cs.length = 2 := by
    obtain ⟨xs, n, _, _, hl, _, _⟩ := DataW.trod_struct hu h
    exact hl.trans (by kernel_rfl)
  obtain ⟨o, h0, w0⟩ := opens_field hu h 0 3 0 1 (by kernel_rfl) hi
  obtain ⟨a, h1, w1⟩ := opens_field hu h 1 3 1 1 (by kernel_rfl) hi
  refine ⟨(o, a), ?_, w0, w1⟩
  match cs, hl with
  | [x, y], _ =>
    simp at h0 h1
    rw [h0, h1]⟩
set_option maxRecDepth 100000 in
theorem opens_blk : Opens Tryz.prog 44 2 blkR := ⟨by kernel_rfl, fun enc W sp held fuel cs x h => by
  have hu : Tryz.prog.underlying 44 = some (.struct (Tryz.prog.fieldsOf 44)) := by kernel_rfl
  have hi := opens_int (P := Tryz.prog) Tryz.underlying3 (by kernel_rfl)
  have hs := opens_string (P := Tryz.prog) Tryz.underlying9 (by kernel_rfl)
  have hl : cs.length = 2 := by
    obtain ⟨xs, n, _, _, hl, _, _⟩ := DataW.trod_struct hu h
    exact hl.trans (by kernel_rfl)
  obtain ⟨o, h0, w0⟩ := opens_field hu h 0 9 0 1 (by kernel_rfl) hs
  obtain ⟨a, h1, w1⟩ := opens_field hu h 1 3 1 1 (by kernel_rfl) hi
  refine ⟨⟨o, a⟩, ?_, w0, w1⟩
  match cs, hl with
  | [x, y], _ =>
    simp at h0 h1
    rw [h0, h1]⟩
set_option maxRecDepth 100000 in
theorem opens_var : Opens Tryz.prog 42 5 varR := ⟨by kernel_rfl, fun enc W sp held fuel cs x h => by
  have hu : Tryz.prog.underlying 42 = some (.struct (Tryz.prog.fieldsOf 42)) := by kernel_rfl
  have hi := opens_int (P := Tryz.prog) Tryz.underlying3 (by kernel_rfl)
  have hs := opens_string (P := Tryz.prog) Tryz.underlying9 (by kernel_rfl)
  have hl : cs.length = 5 := by
    obtain ⟨xs, n, _, _, hl, _, _⟩ := DataW.trod_struct hu h
    exact hl.trans (by kernel_rfl)
  obtain ⟨o, h0, w0⟩ := opens_field hu h 0 9 0 1 (by kernel_rfl) hs
  obtain ⟨a, h1, w1⟩ := opens_field hu h 1 3 1 1 (by kernel_rfl) hi
  obtain ⟨b, h2, w2⟩ := opens_field hu h 2 3 2 1 (by kernel_rfl) hi
  obtain ⟨c, h3, w3⟩ := opens_field hu h 3 3 3 1 (by kernel_rfl) hi
  obtain ⟨d, h4, w4⟩ := opens_field hu h 4 3 4 1 (by kernel_rfl) hi
  refine ⟨⟨o, a, b, c, d⟩, ?_, w0, w1, w2, w3, w4⟩
  match cs, hl with
  | [x, y, z, t, u], _ =>
    simp at h0 h1 h2 h3 h4
    rw [h0, h1, h2, h3, h4]⟩
set_option maxRecDepth 100000 in
theorem open_prog {H : Type} {enc : TypeId × Value → H} {W : World} {r : Reach} {b0 : Nat} {v : Value} {d : DataW H} {ps : List MemPlace} {sp : Nat → Bool} {held : Bool}
    (hval : Value.okWide Tryz.prog W r b0 27 v) (h : DataW.Trod enc Tryz.prog W 0 sp held 27 v d ps) :
    ∃ (a b c e : Value) (p : Pr), v = .agg #[a, b, c, e] ∧ PrAt W a b c e p := by
  have hu : Tryz.prog.underlying 27 = some (.struct (Tryz.prog.fieldsOf 27)) := by kernel_rfl
  have hA := opens_slice (P := Tryz.prog) Tryz.underlying22 (by kernel_rfl) (by omega) opens_const
  have hB := opens_slice (P := Tryz.prog) Tryz.underlying23 (by kernel_rfl) (by omega) opens_var
  have hC := opens_slice (P := Tryz.prog) Tryz.underlying24 (by kernel_rfl) (by omega) opens_blk
  have hE := opens_slice (P := Tryz.prog) Tryz.underlying25 (by kernel_rfl) (by omega) opens_unit
  obtain ⟨cs, rfl, hsz⟩ := okWide_struct hu hval
  have hl : cs.toList.length = 4 := by
    have : Tryz.prog.cellsOf 27 = 4 := by kernel_rfl
    rw [this] at hsz; simpa using hsz
  obtain ⟨fuel, hf⟩ := h
  obtain ⟨A0, h0⟩ := opens_field hu hf 0 22 0 1 (by kernel_rfl) hA
  obtain ⟨A1, h1⟩ := opens_field hu hf 1 23 1 1 (by kernel_rfl) hB
  obtain ⟨A2, h2⟩ := opens_field hu hf 2 24 2 1 (by kernel_rfl) hC
  obtain ⟨A3, h3⟩ := opens_field hu hf 3 25 3 1 (by kernel_rfl) hE
  obtain ⟨l⟩ := cs
  simp only [Value.cells] at h0 h1 h2 h3 hl
  match l, hl with
  | [x, y, z, t], _ =>
    simp at h0 h1 h2 h3
    obtain ⟨v0, e0, r0⟩ := h0
    obtain ⟨v1, e1, r1⟩ := h1
    obtain ⟨v2, e2, r2⟩ := h2
    obtain ⟨v3, e3, r3⟩ := h3
    simp at e0 e1 e2 e3
    subst e0 e1 e2 e3
    exact ⟨_, _, _, _, ⟨A0, A1, A2, A3⟩, rfl, r0, r1, r2, r3⟩
end Go.Proofs.YtefejcofmopjfaaGreatDoor
