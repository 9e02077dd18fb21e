/- Arguments of nested types, opened. -/
import Derived.Test.YtefejcofmopjfaaGreatDoorBase
import Derived.Test.YtefejcofmopjfaaGreatDoorRep
import Derived.Deep.Slices
import Derived.ChangeSame
namespace Go.Proofs.YtefejcofmopjfaaGreatDoor
open Go.ChangeShapes Go.WideShapes Go.ChangeAt Go.RowKit Go.Deep
set_option linter.unusedSimpArgs false
set_option linter.unusedVariables false
def Opens {α : Type} (P : Program) (t : TypeId) (q : Nat) (R : Rep α) : Prop := P.cellsOf t = q ∧ ∀ {H : Type} (enc : TypeId × Value → H) (W : World) (sp : Nat → Bool) (held : Bool) (fuel : Nat) (cs : List Value) (x : DataW H × List MemPlace),
  DataW.trod enc P W 0 sp held fuel t cs = some x → ∃ a, R W cs a
set_option maxRecDepth 100000 in
theorem opens_int {P : Program} {t : TypeId} (ht : P.underlying t = some (.int .i64)) (hq : P.cellsOf t = 1) : Opens P t 1 intR := ⟨hq, fun enc W sp held fuel cs x h => by
  obtain ⟨z, rfl, _, hw⟩ := DataW.trod_int ht h
  exact ⟨z, rfl, bounds_i64 hw⟩⟩
set_option maxRecDepth 100000 in
theorem opens_string {P : Program} {t : TypeId} (ht : P.underlying t = some .string) (hq : P.cellsOf t = 1) : Opens P t 1 strR := ⟨hq, fun enc W sp held fuel cs x h => by
  obtain ⟨s, hs, hx, hw⟩ := DataW.trod_string ht h
  refine ⟨s.data.toList, by simpa using hs, ?_⟩
  have e : s.data.toList.length = s.size := by simp
  unfold maxLen at hw
  omega⟩
set_option maxRecDepth 100000 in
theorem choose_list {α : Type} {p : Nat → α → Prop} : ∀ n, (∀ i, i < n → ∃ a, p i a) → ∃ L : List α, L.length = n ∧ ∀ i x, L[i]? = some x → p i x := by
  intro n
  induction n with
  | zero => intro _; exact ⟨[], rfl, fun i x h => by simp at h⟩
  | succ n ih =>
    intro h
    obtain ⟨L, h1, h2⟩ := ih (fun i hi => h i (by omega))
    obtain ⟨a, ha⟩ := h n (by omega)
    refine ⟨L ++ [a], by simp [h1], fun i x hx => ?_⟩
    by_cases hi : i < n
    · rw [List.getElem?_append_left (by omega)] at hx
      exact h2 i x hx
    · have hin : i = n := by
        by_cases he : i = n
        · exact he
        · rw [List.getElem?_eq_none (by simp; omega)] at hx; cases hx
      subst hin
      rw [List.getElem?_append_right (by omega), h1] at hx
      simp at hx
      rw [← hx]
      exact ha
set_option maxRecDepth 100000 in
theorem opens_slice {P : Program} {t e : TypeId} {q : Nat} {α : Type} {R : Rep α} (ht : P.underlying t = some (.slice e)) (hq1 : P.cellsOf t = 1) (hq0 : 0 < q) (he : Opens P e q R) : Opens P t 1 (sliceR q R) := ⟨hq1, fun enc W sp held fuel cs x h => by
  obtain ⟨hq, he⟩ := he
  rcases open_slice ht h with ⟨rfl, hx⟩ | ⟨a, len, cap, m, k, D, Pl, rfl, _, hl, hm, hmm, hx, hi⟩
  · exact ⟨[], _, rfl, Or.inl ⟨_, _, rfl, rfl, fun _ => rfl⟩⟩
  · have hlm : len ≤ m := by rw [hmm]; split <;> omega
    have key : ∀ i, i < len → ∃ y : α, ∃ C : List Value, C.length = q ∧ (∀ j u, C[j]? = some u → W.cell? ((a.add (i * q)).add j) = some u) ∧ R W C y := by
      intro i hin
      obtain ⟨cs', hc, ht'⟩ := hi i (by omega)
      rw [hq] at hc
      obtain ⟨_, hcl, hat⟩ := World.cells?_some hc
      obtain ⟨y, hy⟩ := he enc W sp held k cs' _ ht'
      refine ⟨y, cs', hcl, fun j u hu => ?_, hy⟩
      have hj : j < q := by
        by_cases hj : j < q
        · exact hj
        · rw [List.getElem?_eq_none (by omega)] at hu; cases hu
      rw [hat j hj, hu]
    obtain ⟨L, hL, hLL⟩ := choose_list len key
    refine ⟨L, _, rfl, ?_⟩
    by_cases h0 : len = 0
    · subst h0
      exact Or.inl ⟨_, _, rfl, List.length_eq_zero_iff.1 hL, fun h => by cases h⟩
    obtain ⟨b, off, spot⟩ := a
    obtain ⟨C0, g1, g2, _⟩ := hLL 0 (L[0]'(by omega)) (by simp [show 0 < L.length by omega])
    have hz := g2 0 (C0[0]'(by omega)) (by simp [show 0 < C0.length by omega])
    have hspot : spot = none := by
      have := World.cell?_spot hz
      simpa [Addr.add] using this
    subst hspot
    have hblk := World.block_lt_of_cell? W _ hz
    have adr : ∀ j, (⟨b, off, none⟩ : Addr).add j = ⟨b, off + j, none⟩ := by
      intro j; unfold Addr.add; by_cases hj : j = 0 <;> simp [hj]
    rw [← hL]
    refine Or.inr ⟨b, off, cap, rfl, by omega, by omega, hm, by simpa [add_add, adr] using hblk, fun i x hx => ?_⟩
    obtain ⟨C, g1, g2, g3⟩ := hLL i x hx
    refine ⟨C, g1, fun j u hu => ?_, g3⟩
    have := g2 j u hu
    rw [add_add, adr] at this
    rw [show off + i * q + j = off + (i * q + j) by omega]
    exact this⟩
set_option maxRecDepth 100000 in
/-- the cells of a struct's field -/
theorem opens_field {H : Type} {P : Program} {t : TypeId} {fs : Array Field} {enc : TypeId × Value → H} {W : World} {sp : Nat → Bool} {held : Bool} {fuel : Nat} {cs : List Value} {x : DataW H × List MemPlace} (ht : P.underlying t = some (.struct fs))
    (h : DataW.trod enc P W 0 sp held fuel t cs = some x) (i : Nat) (u : TypeId) (o q : Nat) {α : Type} {R : Rep α} (hf : (fs[i]?.map fun f => (f.type, f.offset)) = some (u, o)) (hu : Opens P u q R) : ∃ a, R W ((cs.drop o).take q) a := by
  obtain ⟨xs, n, rfl, hx, hl, hlen, hall⟩ := DataW.trod_struct ht h
  obtain ⟨f, hf0, hf1⟩ := Option.map_eq_some_iff.1 hf
  have h1 := hall i f hf0
  have ht : f.type = u := congrArg Prod.fst hf1
  have ho : f.offset = o := congrArg Prod.snd hf1
  rw [ht, ho, hu.1] at h1
  have hi : i < fs.size := by
    by_cases hi : i < fs.size
    · exact hi
    · rw [Array.getElem?_eq_none (by omega)] at hf0; cases hf0
  obtain ⟨b, hb⟩ : ∃ b, xs[i]? = some b := ⟨xs[i]'(by omega), by simp [hlen, hi]⟩
  rw [hb] at h1
  exact hu.2 enc W sp held n _ _ h1
set_option maxRecDepth 100000 in
theorem opens_ins : Opens Tryz.prog 40 3 insR := ⟨by kernel_rfl, fun enc W sp held fuel cs x h => by
  have hu : Tryz.prog.underlying 40 = some (.struct (Tryz.prog.fieldsOf 40)) := by kernel_rfl
  have hi := opens_int (P := Tryz.prog) Tryz.underlying3 (by kernel_rfl)
  have hl : cs.length = 3 := by
    obtain ⟨xs, n, _, _, hl, _, _⟩ := DataW.trod_struct hu h
    exact hl.trans (by kernel_rfl)
  obtain ⟨o, h0, w0⟩ := opens_field hu h 0 3 0 1 (by kernel_rfl) hi
  obtain ⟨a, h1, w1⟩ := opens_field hu h 1 3 1 1 (by kernel_rfl) hi
  obtain ⟨b, h2, w2⟩ := opens_field hu h 2 3 2 1 (by kernel_rfl) hi
  refine ⟨(o, a, b), ?_, w0, w1, w2⟩
  match cs, hl with
  | [x, y, z], _ =>
    simp at h0 h1 h2
    rw [h0, h1, h2]⟩
set_option maxRecDepth 100000 in
theorem open_code {H : Type} {enc : TypeId × Value → H} {W : World} {r : Reach} {b0 : Nat} {v : Value} {d : DataW H} {ps : List MemPlace} {sp : Nat → Bool} {held : Bool}
    (hval : Value.okWide Tryz.prog W r b0 36 v) (h : DataW.Trod enc Tryz.prog W 0 sp held 36 v d ps) : ∃ L, RowR 3 insR W v L := by
  obtain ⟨a0, len, cap, rfl⟩ := okWide_slice Tryz.underlying36 hval
  obtain ⟨fuel, hf⟩ := h
  obtain ⟨L, v', hv, hr⟩ := (opens_slice Tryz.underlying36 (by kernel_rfl) (by omega) opens_ins).2 enc W sp held fuel _ _ hf
  simp [Value.cells] at hv
  subst hv
  exact ⟨L, hr⟩
end Go.Proofs.YtefejcofmopjfaaGreatDoor
