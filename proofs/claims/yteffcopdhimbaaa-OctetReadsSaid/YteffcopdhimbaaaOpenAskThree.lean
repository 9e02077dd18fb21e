/- Arguments: what readers are asked, opened. -/
import Derived.Test.YteffcopdhimbaaaRepOpen
import Derived.Test.YteffcopdhimbaaaPgm
import Derived.Test.YteffcopdhimbaaaBase
namespace Go.Proofs.Yteffcopdhimbaaa
open Go.ChangeShapes Go.WideShapes Go.ChangeAt Go.RowKit
theorem opens_ask3 : Opens Try.prog 34 2 constR := ⟨by kernel_rfl, fun enc W sp held fuel cs x h => by
  have hu : Try.prog.underlying 34 = some (.struct (Try.prog.fieldsOf 34)) := by kernel_rfl
  have hi := opens_int (P := Try.prog) Try.underlying3 (by kernel_rfl)
  have hl : cs.length = 2 := by
    obtain ⟨xs, n, _, _, hl, _, _⟩ := DataW.trod_struct hu h
    exact hl.trans (by kernel_rfl)
  obtain ⟨o, h0, w0⟩ := opens_field hu h 0 3 0 1 (by kernel_rfl) hi
  obtain ⟨a, h1, w1⟩ := opens_field hu h 1 3 1 1 (by kernel_rfl) hi
  refine ⟨(o, a), ?_, w0, w1⟩
  match cs, hl with
  | [x, y], _ =>
    simp at h0 h1
    rw [h0, h1]⟩
theorem open_asks3 {H : Type} {enc : TypeId × Value → H} {W : World} {r : Reach} {b0 : Nat} {v : Value} {d : DataW H} {ps : List MemPlace} {sp : Nat → Bool} {held : Bool}
    (hval : Value.okWide Try.prog W r b0 27 v) (h : DataW.Trod enc Try.prog W 0 sp held 27 v d ps) : ∃ L, RowR 2 constR W v L := by
  obtain ⟨a0, len, cap, rfl⟩ := okWide_slice Try.underlying27 hval
  obtain ⟨fuel, hf⟩ := h
  obtain ⟨L, v', hv, hr⟩ := (opens_slice Try.underlying27 (by kernel_rfl) (by omega) opens_ask3).2 enc W sp held fuel _ _ hf
  simp [Value.cells] at hv
  subst hv
  exact ⟨L, hr⟩
end Go.Proofs.Yteffcopdhimbaaa
