/- An argument of type []law51.Step, opened. -/
import Derived.Test.YtpbfgoegkpjpmaaRepOpen
import Derived.Test.YtpbfgoegkpjpmaaBase
import Derived.Test.YtpbfgoegkpjpmaaFeedPl
namespace Go.Proofs.Ytpbfgoegkpjpmaa
open Go.ChangeShapes Go.WideShapes Go.ChangeAt Go.RowKit
set_option linter.unusedSimpArgs false
set_option linter.unusedVariables false
theorem opens_u64 {P : Program} {t : TypeId} (ht : P.underlying t = some (.int .u64)) (hq : P.cellsOf t = 1) : Opens P t 1 (fun _ cs (z : Int) => cs = [.int .u64 z] ∧ 0 ≤ z ∧ z ≤ 18446744073709551615) := ⟨hq, fun enc W sp held fuel cs x h => by
  obtain ⟨z, rfl, _, hw⟩ := DataW.trod_int ht h
  exact ⟨z, rfl, bounds_u64 hw⟩⟩
theorem opens_step : Opens Try.prog 33 3 stepR := ⟨by kernel_rfl, fun enc W sp held fuel cs x h => by
  have hu : Try.prog.underlying 33 = some (.struct (Try.prog.fieldsOf 33)) := by kernel_rfl
  have hus : Try.prog.underlying 30 = some (.struct (Try.prog.fieldsOf 30)) := by kernel_rfl
  have hi := opens_int (P := Try.prog) Try.underlying3 (by kernel_rfl)
  have hk := opens_u64 (P := Try.prog) Try.underlying31 (by kernel_rfl)
  have hv := opens_slice (P := Try.prog) Try.underlying28 (by kernel_rfl) (by omega) hi
  have hS : Opens Try.prog 30 2 (fun w cs (s : List Int × Int) => ∃ a, cs = [a, .int .i64 s.2] ∧ RowR 1 intR w a s.1 ∧ I64 s.2) := ⟨by kernel_rfl, fun enc W sp held fuel cs x h => by
    have hl : cs.length = 2 := by
      obtain ⟨xs, n, _, _, hl, _, _⟩ := DataW.trod_struct hus h
      exact hl.trans (by kernel_rfl)
    obtain ⟨V, h0⟩ := opens_field hus h 0 28 0 1 (by kernel_rfl) hv
    obtain ⟨n, h1, w1⟩ := opens_field hus h 1 3 1 1 (by kernel_rfl) hi
    match cs, hl with
    | [x, y], _ =>
      simp at h0 h1
      subst h1
      obtain ⟨v0, e0, r0⟩ := h0
      simp at e0
      subst e0
      exact ⟨(V, n), _, rfl, r0, w1⟩⟩
  have hl : cs.length = 3 := by
    obtain ⟨xs, n, _, _, hl, _, _⟩ := DataW.trod_struct hu h
    exact hl.trans (by kernel_rfl)
  obtain ⟨k, h0, w0⟩ := opens_field hu h 0 31 0 1 (by kernel_rfl) hk
  obtain ⟨s, a, h1, r1, w1⟩ := opens_field hu h 1 30 1 2 (by kernel_rfl) hS
  match cs, hl with
  | [x, y, z], _ =>
    simp at h0 h1
    obtain ⟨rfl, rfl⟩ := h1
    subst h0
    exact ⟨⟨k, s.1, s.2⟩, _, rfl, r1, w0.1, w0.2, w1⟩⟩
theorem open_steps {H : Type} {enc : TypeId × Value → H} {W : World} {r : Reach} {b0 : Nat} {v : Value} {d : DataW H} {ps : List MemPlace} {sp : Nat → Bool} {held : Bool}
    (hval : Value.okWide Try.prog W r b0 22 v) (h : DataW.Trod enc Try.prog W 0 sp held 22 v d ps) : ∃ L, RowR 3 stepR W v L := by
  obtain ⟨a0, len, cap, rfl⟩ := okWide_slice Try.underlying22 hval
  obtain ⟨fuel, hf⟩ := h
  obtain ⟨L, v', hv, hr⟩ := (opens_slice (P := Try.prog) Try.underlying22 (by kernel_rfl) (by omega) opens_step).2 enc W sp held fuel _ _ hf
  simp [Value.cells] at hv
  subst hv
  exact ⟨L, hr⟩
end Go.Proofs.Ytpbfgoegkpjpmaa
