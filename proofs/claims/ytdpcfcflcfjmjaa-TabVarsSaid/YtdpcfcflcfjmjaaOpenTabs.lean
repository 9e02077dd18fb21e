/- Arguments: tables, opened. -/
import Derived.Test.YtdpcfcflcfjmjaaRepOpen
import Derived.Test.YtdpcfcflcfjmjaaPgm
import Derived.Test.YtdpcfcflcfjmjaaBase
namespace Go.Proofs.Ytdpcfcflcfjmjaa
open Go.ChangeShapes Go.WideShapes Go.ChangeAt Go.RowKit
theorem opens_const : Opens Try.prog 50 2 constR := ⟨by kernel_rfl, fun enc W sp held fuel cs x h => by
  have hu : Try.prog.underlying 50 = some (.struct (Try.prog.fieldsOf 50)) := by kernel_rfl
  have hi := opens_int (P := Try.prog) Try.underlying3 (by kernel_rfl)
  have hl : cs.length = 2 := by
    obtain ⟨xs, n, _, _, hl, _, _⟩ := DataW.trod_struct hu h
    exact hl.trans (by kernel_rfl)
  obtain ⟨o, h0, w0⟩ := opens_field hu h 0 3 0 1 (by kernel_rfl) hi
  obtain ⟨a, h1, w1⟩ := opens_field hu h 1 3 1 1 (by kernel_rfl) hi
  refine ⟨(o, a), ?_, w0, w1⟩
  match cs, hl with
  | [x, y], _ =>
    simp at h0 h1
    rw [h0, h1]⟩
theorem opens_blk : Opens Try.prog 42 2 blkR := ⟨by kernel_rfl, fun enc W sp held fuel cs x h => by
  have hu : Try.prog.underlying 42 = some (.struct (Try.prog.fieldsOf 42)) := by kernel_rfl
  have hi := opens_int (P := Try.prog) Try.underlying3 (by kernel_rfl)
  have hs := opens_string (P := Try.prog) Try.underlying9 (by kernel_rfl)
  have hl : cs.length = 2 := by
    obtain ⟨xs, n, _, _, hl, _, _⟩ := DataW.trod_struct hu h
    exact hl.trans (by kernel_rfl)
  obtain ⟨o, h0, w0⟩ := opens_field hu h 0 9 0 1 (by kernel_rfl) hs
  obtain ⟨a, h1, w1⟩ := opens_field hu h 1 3 1 1 (by kernel_rfl) hi
  refine ⟨⟨o, a⟩, ?_, w0, w1⟩
  match cs, hl with
  | [x, y], _ =>
    simp at h0 h1
    rw [h0, h1]⟩
theorem opens_var : Opens Try.prog 34 5 varR := ⟨by kernel_rfl, fun enc W sp held fuel cs x h => by
  have hu : Try.prog.underlying 34 = some (.struct (Try.prog.fieldsOf 34)) := by kernel_rfl
  have hi := opens_int (P := Try.prog) Try.underlying3 (by kernel_rfl)
  have hs := opens_string (P := Try.prog) Try.underlying9 (by kernel_rfl)
  have hl : cs.length = 5 := by
    obtain ⟨xs, n, _, _, hl, _, _⟩ := DataW.trod_struct hu h
    exact hl.trans (by kernel_rfl)
  obtain ⟨o, h0, w0⟩ := opens_field hu h 0 9 0 1 (by kernel_rfl) hs
  obtain ⟨a, h1, w1⟩ := opens_field hu h 1 3 1 1 (by kernel_rfl) hi
  obtain ⟨b, h2, w2⟩ := opens_field hu h 2 3 2 1 (by kernel_rfl) hi
  obtain ⟨c, h3, w3⟩ := opens_field hu h 3 3 3 1 (by kernel_rfl) hi
  obtain ⟨d, h4, w4⟩ := opens_field hu h 4 3 4 1 (by kernel_rfl) hi
  refine ⟨⟨o, a, b, c, d⟩, ?_, w0, w1, w2, w3, w4⟩
  match cs, hl with
  | [x, y, z, t, u], _ =>
    simp at h0 h1 h2 h3 h4
    rw [h0, h1, h2, h3, h4]⟩
theorem open_consts {H : Type} {enc : TypeId × Value → H} {W : World} {r : Reach} {b0 : Nat} {v : Value} {d : DataW H} {ps : List MemPlace} {sp : Nat → Bool} {held : Bool}
    (hval : Value.okWide Try.prog W r b0 22 v) (h : DataW.Trod enc Try.prog W 0 sp held 22 v d ps) : ∃ L, RowR 2 constR W v L := by
  obtain ⟨a0, len, cap, rfl⟩ := okWide_slice Try.underlying22 hval
  obtain ⟨fuel, hf⟩ := h
  obtain ⟨L, v', hv, hr⟩ := (opens_slice Try.underlying22 (by kernel_rfl) (by omega) opens_const).2 enc W sp held fuel _ _ hf
  simp [Value.cells] at hv
  subst hv
  exact ⟨L, hr⟩
theorem open_blks {H : Type} {enc : TypeId × Value → H} {W : World} {r : Reach} {b0 : Nat} {v : Value} {d : DataW H} {ps : List MemPlace} {sp : Nat → Bool} {held : Bool}
    (hval : Value.okWide Try.prog W r b0 40 v) (h : DataW.Trod enc Try.prog W 0 sp held 40 v d ps) : ∃ L, RowR 2 blkR W v L := by
  obtain ⟨a0, len, cap, rfl⟩ := okWide_slice Try.underlying40 hval
  obtain ⟨fuel, hf⟩ := h
  obtain ⟨L, v', hv, hr⟩ := (opens_slice Try.underlying40 (by kernel_rfl) (by omega) opens_blk).2 enc W sp held fuel _ _ hf
  simp [Value.cells] at hv
  subst hv
  exact ⟨L, hr⟩
theorem open_vars {H : Type} {enc : TypeId × Value → H} {W : World} {r : Reach} {b0 : Nat} {v : Value} {d : DataW H} {ps : List MemPlace} {sp : Nat → Bool} {held : Bool}
    (hval : Value.okWide Try.prog W r b0 32 v) (h : DataW.Trod enc Try.prog W 0 sp held 32 v d ps) : ∃ L, RowR 5 varR W v L := by
  obtain ⟨a0, len, cap, rfl⟩ := okWide_slice Try.underlying32 hval
  obtain ⟨fuel, hf⟩ := h
  obtain ⟨L, v', hv, hr⟩ := (opens_slice Try.underlying32 (by kernel_rfl) (by omega) opens_var).2 enc W sp held fuel _ _ hf
  simp [Value.cells] at hv
  subst hv
  exact ⟨L, hr⟩
end Go.Proofs.Ytdpcfcflcfjmjaa
