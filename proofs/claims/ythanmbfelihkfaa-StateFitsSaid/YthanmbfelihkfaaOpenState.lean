/- An argument of type api.State, opened. -/
import Derived.Test.YthanmbfelihkfaaRepOpen
import Derived.Test.YthanmbfelihkfaaStRep
import Derived.Test.YthanmbfelihkfaaBase
namespace Go.Proofs.Ythanmbfelihkfaa
open Go.ChangeShapes Go.WideShapes Go.ChangeAt Go.RowKit
theorem opens_inst : Opens Try.prog 62 10 instR := ⟨by kernel_rfl, fun enc W sp held fuel cs x h => by
  have hu : Try.prog.underlying 62 = some (.struct (Try.prog.fieldsOf 62)) := by kernel_rfl
  have hc : Try.prog.cellsOf 3 = 1 := by kernel_rfl
  have hc10 : Try.prog.cellsOf 60 = 10 := by kernel_rfl
  obtain ⟨f0, hfs, ht, ho⟩ : ∃ f0, (Try.prog.fieldsOf 62)[0]? = some f0 ∧ f0.type = 60 ∧ f0.offset = 0 := ⟨(Try.prog.fieldsOf 62)[0]!, by kernel_rfl, by kernel_rfl, by kernel_rfl⟩
  obtain ⟨xs, n, rfl, hx, hl, hlen, hall⟩ := DataW.trod_struct hu h
  have hcl : cs.length = 10 := hl.trans (by kernel_rfl)
  have h0 := hall 0 f0 hfs
  rw [ht, ho, hc10] at h0
  have htake : (cs.drop 0).take 10 = cs := by
    simp only [List.drop_zero]
    exact List.take_of_length_le (by omega)
  rw [htake] at h0
  obtain ⟨y, hy⟩ : ∃ y, xs[0]? = some y := by
    have : 0 < xs.length := by rw [hlen]; exact of_decide_eq_true (by kernel_rfl)
    exact ⟨xs[0], by simp [this]⟩
  rw [hy] at h0
  obtain ⟨es, m, rfl, _, hel, hen, heall⟩ := DataW.trod_array Try.underlying60 h0
  have key : ∀ i, i < 10 → ∃ z, cs[i]? = some (.int .i64 z) ∧ I64 z := by
    intro i hi
    have h1 := heall i hi
    rw [hc, Nat.mul_one] at h1
    obtain ⟨b, hb⟩ : ∃ b, es[i]? = some b := ⟨es[i], by simp [hen, hi]⟩
    rw [hb] at h1
    obtain ⟨z, hz, _, hw⟩ := DataW.trod_int Try.underlying3 h1
    refine ⟨z, ?_, bounds_i64 hw⟩
    have := congrArg (·[0]?) hz
    simpa [List.getElem?_take, List.getElem?_drop] using this
  obtain ⟨L, hL, hLL⟩ := choose_list 10 key
  refine ⟨L, ?_, hL, fun z hz => ?_⟩
  · apply List.ext_getElem?
    intro i
    by_cases hi : i < 10
    · have h2 : L[i]? = some (L[i]'(by omega)) := by simp [show i < L.length by omega]
      rw [(hLL i _ h2).1, List.getElem?_map, h2]; rfl
    · rw [List.getElem?_eq_none (by omega), List.getElem?_eq_none (by simp; omega)]
  · obtain ⟨i, hi, rfl⟩ := List.getElem_of_mem hz
    exact (hLL i _ (by simp [hi])).2⟩
theorem open_state {H : Type} {enc : TypeId × Value → H} {W : World} {r : Reach} {b0 : Nat} {v : Value} {d : DataW H} {ps : List MemPlace} {sp : Nat → Bool} {held : Bool}
    (hval : Value.okWide Try.prog W r b0 31 v) (h : DataW.Trod enc Try.prog W 0 sp held 31 v d ps) :
    ∃ (a b : Value) (s : St), v = .agg #[a, b, .int .i64 s.now, .int .i64 s.fault] ∧ StAt W a b s := by
  have hu : Try.prog.underlying 31 = some (.struct (Try.prog.fieldsOf 31)) := by kernel_rfl
  have hi := opens_int (P := Try.prog) Try.underlying3 (by kernel_rfl)
  have hv := opens_slice (P := Try.prog) Try.underlying28 (by kernel_rfl) (by omega) (opens_slice Try.underlying45 (by kernel_rfl) (by omega) hi)
  have hb := opens_slice (P := Try.prog) Try.underlying29 (by kernel_rfl) (by omega) opens_inst
  obtain ⟨cs, rfl, hsz⟩ := okWide_struct hu hval
  have hl : cs.toList.length = 4 := by
    have : Try.prog.cellsOf 31 = 4 := by kernel_rfl
    rw [this] at hsz; simpa using hsz
  obtain ⟨fuel, hf⟩ := h
  obtain ⟨V, h0⟩ := opens_field hu hf 0 28 0 1 (by kernel_rfl) hv
  obtain ⟨B, h1⟩ := opens_field hu hf 1 29 1 1 (by kernel_rfl) hb
  obtain ⟨n, h2, w2⟩ := opens_field hu hf 2 3 2 1 (by kernel_rfl) hi
  obtain ⟨m, h3, w3⟩ := opens_field hu hf 3 3 3 1 (by kernel_rfl) hi
  obtain ⟨l⟩ := cs
  simp only [Value.cells] at h0 h1 h2 h3 hl
  match l, hl with
  | [x, y, z, t], _ =>
    simp at h0 h1 h2 h3
    subst h2 h3
    obtain ⟨v0, e0, r0⟩ := h0
    obtain ⟨v1, e1, r1⟩ := h1
    simp at e0 e1
    subst e0 e1
    exact ⟨_, _, ⟨V, B, n, m⟩, rfl, r0, r1, w2, w3⟩
end Go.Proofs.Ythanmbfelihkfaa
