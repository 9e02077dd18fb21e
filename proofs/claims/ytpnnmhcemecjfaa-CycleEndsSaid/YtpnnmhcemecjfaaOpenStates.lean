/- An argument of type [2]api.State, opened. -/
import Derived.Test.YtpnnmhcemecjfaaOpenState
namespace Go.Proofs.Ytpnnmhcemecjfaa
open Go.ChangeShapes Go.WideShapes Go.ChangeAt Go.RowKit
set_option linter.unusedSimpArgs false
set_option linter.unusedVariables false
def stR : Rep St := fun w cs s => ∃ a b : Value, cs = [a, b, .int .i64 s.now, .int .i64 s.fault] ∧ StAt w a b s
theorem opens_st : Opens Try.prog 31 4 stR := ⟨by kernel_rfl, fun enc W sp held fuel cs x h => by
  have hu : Try.prog.underlying 31 = some (.struct (Try.prog.fieldsOf 31)) := by kernel_rfl
  have hi := opens_int (P := Try.prog) Try.underlying3 (by kernel_rfl)
  have hv := opens_slice (P := Try.prog) Try.underlying28 (by kernel_rfl) (by omega) (opens_slice Try.underlying32 (by kernel_rfl) (by omega) hi)
  have hb := opens_slice (P := Try.prog) Try.underlying29 (by kernel_rfl) (by omega) opens_inst
  have hl : cs.length = 4 := by
    obtain ⟨xs, n, _, _, hl, _, _⟩ := DataW.trod_struct hu h
    exact hl.trans (by kernel_rfl)
  obtain ⟨V, h0⟩ := opens_field hu h 0 28 0 1 (by kernel_rfl) hv
  obtain ⟨B, h1⟩ := opens_field hu h 1 29 1 1 (by kernel_rfl) hb
  obtain ⟨n, h2, w2⟩ := opens_field hu h 2 3 2 1 (by kernel_rfl) hi
  obtain ⟨m, h3, w3⟩ := opens_field hu h 3 3 3 1 (by kernel_rfl) hi
  match cs, hl with
  | [x, y, z, t], _ =>
    simp at h0 h1 h2 h3
    subst h2 h3
    obtain ⟨v0, e0, r0⟩ := h0
    obtain ⟨v1, e1, r1⟩ := h1
    simp at e0 e1
    subst e0 e1
    exact ⟨⟨V, B, n, m⟩, _, _, rfl, r0, r1, w2, w3⟩⟩
theorem open_states {H : Type} {enc : TypeId × Value → H} {W : World} {r : Reach} {b0 : Nat} {v : Value} {d : DataW H} {ps : List MemPlace} {sp : Nat → Bool} {held : Bool}
    (hval : Value.okWide Try.prog W r b0 40 v) (h : DataW.Trod enc Try.prog W 0 sp held 40 v d ps) :
    ∃ (a b : Value) (s : St) (a' b' : Value) (s' : St), v = .agg #[a, b, .int .i64 s.now, .int .i64 s.fault, a', b', .int .i64 s'.now, .int .i64 s'.fault] ∧ StAt W a b s ∧ StAt W a' b' s' := by
  have hc : Try.prog.cellsOf 31 = 4 := by kernel_rfl
  have hci : Try.prog.cellsOf 40 = 8 := by kernel_rfl
  simp only [Value.okWide, Try.underlying40] at hval
  obtain ⟨cs, rfl, hsz, _⟩ := hval
  rw [hci] at hsz
  obtain ⟨fuel, hf⟩ := h
  obtain ⟨es, m, rfl, _, hel, hen, heall⟩ := DataW.trod_array Try.underlying40 hf
  have key : ∀ i, i < 2 → ∃ s, stR W (((Value.agg cs).cells.toList.drop (i * 4)).take 4) s := by
    intro i hi
    have h1 := heall i hi
    rw [hc] at h1
    obtain ⟨b, hb⟩ : ∃ b, es[i]? = some b := ⟨es[i], by simp [hen, hi]⟩
    rw [hb] at h1
    exact opens_st.2 enc W sp held m _ _ h1
  obtain ⟨s, a, b, e0, h0⟩ := key 0 (by omega)
  obtain ⟨s', a', b', e1, h1⟩ := key 1 (by omega)
  obtain ⟨l⟩ := cs
  have hl : l.length = 8 := by simpa using hsz
  simp only [Value.cells] at e0 e1
  match l, hl with
  | [x0, x1, x2, x3, x4, x5, x6, x7], _ =>
    simp at e0 e1
    obtain ⟨rfl, rfl, rfl, rfl⟩ := e0
    obtain ⟨rfl, rfl, rfl, rfl⟩ := e1
    exact ⟨_, _, s, _, _, s', rfl, h0, h1⟩
end Go.Proofs.Ytpnnmhcemecjfaa
