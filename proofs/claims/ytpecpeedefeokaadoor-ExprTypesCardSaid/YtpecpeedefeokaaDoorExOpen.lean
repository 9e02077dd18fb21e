/- An argument of type api.Expr, opened. -/
import Derived.Test.YtpecpeedefeokaaDoorRepOpen
import Derived.Test.YtpecpeedefeokaaDoorEx
import Derived.ChangeArms
namespace Go.Proofs.YtpecpeedefeokaaDoor
open Go.ChangeShapes Go.WideShapes Go.ChangeAt Go.RowKit Go.Deep
set_option linter.unusedSimpArgs false
set_option linter.unusedVariables false
/-- as Opens, for readings of less than N steps -/
def OpensN {α : Type} (P : Program) (t : TypeId) (q : Nat) (R : Rep α) (N : Nat) : Prop := P.cellsOf t = q ∧ ∀ {H : Type} (enc : TypeId × Value → H) (W : World) (sp : Nat → Bool) (held : Bool) (fuel : Nat) (cs : List Value) (x : DataW H × List MemPlace),
  fuel < N → DataW.trod enc P W 0 sp held fuel t cs = some x → ∃ a, R W cs a
theorem OpensN.all {α : Type} {P : Program} {t : TypeId} {q : Nat} {R : Rep α} (h : ∀ N, OpensN P t q R N) : Opens P t q R := ⟨(h 0).1, fun enc W sp held fuel cs x hx => (h (fuel + 1)).2 enc W sp held fuel cs x (Nat.lt_succ_self _) hx⟩
theorem Opens.at {α : Type} {P : Program} {t : TypeId} {q : Nat} {R : Rep α} (h : Opens P t q R) (N : Nat) : OpensN P t q R N := ⟨h.1, fun enc W sp held fuel cs x _ hx => h.2 enc W sp held fuel cs x hx⟩
set_option maxRecDepth 100000 in
theorem opensN_slice {P : Program} {t e : TypeId} {q N : Nat} {α : Type} {R : Rep α} (ht : P.underlying t = some (.slice e)) (hq1 : P.cellsOf t = 1) (hq0 : 0 < q) (he : OpensN P e q R N) : OpensN P t 1 (sliceR q R) (N + 1) := ⟨hq1, fun enc W sp held fuel cs x hfu h => by
  obtain ⟨hq, he⟩ := he
  rcases DataW.trod_slice ht h with ⟨rfl, hx⟩ | ⟨a, len, cap, elems, rest, n, hn, rfl, _, _, hl, hm, hel, hget, _, _⟩
  · exact ⟨[], _, rfl, Or.inl ⟨_, _, rfl, rfl, fun _ => rfl⟩⟩
  · have key : ∀ i, i < len → ∃ y : α, ∃ C : List Value, C.length = q ∧ (∀ j u, C[j]? = some u → W.cell? ((a.add (i * q)).add j) = some u) ∧ R W C y := by
      intro i hin
      have h1 := hget i hin
      rw [hq, List.getElem?_eq_getElem (by omega)] at h1
      obtain ⟨cs', hc, ht'⟩ := Option.bind_eq_some_iff.1 h1
      obtain ⟨_, hcl, hat⟩ := World.cells?_some hc
      obtain ⟨y, hy⟩ := he enc W sp held n cs' _ (by omega) ht'
      refine ⟨y, cs', hcl, fun j u hu => ?_, hy⟩
      have hj : j < q := by
        by_cases hj : j < q
        · exact hj
        · rw [List.getElem?_eq_none (by omega)] at hu; cases hu
      rw [hat j hj, hu]
    obtain ⟨L, hL, hLL⟩ := choose_list len key
    refine ⟨L, _, rfl, ?_⟩
    by_cases h0 : len = 0
    · subst h0
      exact Or.inl ⟨_, _, rfl, List.length_eq_zero_iff.1 hL, fun h => by cases h⟩
    obtain ⟨b, off, spot⟩ := a
    obtain ⟨C0, g1, g2, _⟩ := hLL 0 (L[0]'(by omega)) (by simp [show 0 < L.length by omega])
    have hz := g2 0 (C0[0]'(by omega)) (by simp [show 0 < C0.length by omega])
    have hspot : spot = none := by
      have := World.cell?_spot hz
      simpa [Addr.add] using this
    subst hspot
    have hblk := World.block_lt_of_cell? W _ hz
    have adr : ∀ j, (⟨b, off, none⟩ : Addr).add j = ⟨b, off + j, none⟩ := by
      intro j; unfold Addr.add; by_cases hj : j = 0 <;> simp [hj]
    rw [← hL]
    refine Or.inr ⟨b, off, cap, rfl, by omega, by omega, hm, by simpa [add_add, adr] using hblk, fun i x hx => ?_⟩
    obtain ⟨C, g1, g2, g3⟩ := hLL i x hx
    refine ⟨C, g1, fun j u hu => ?_, g3⟩
    have := g2 j u hu
    rw [add_add, adr] at this
    rw [show off + i * q + j = off + (i * q + j) by omega]
    exact this⟩
set_option maxRecDepth 100000 in
/-- the cells of a struct's field -/
theorem opensN_field {H : Type} {P : Program} {t : TypeId} {fs : Array Field} {enc : TypeId × Value → H} {W : World} {sp : Nat → Bool} {held : Bool} {fuel N : Nat} {cs : List Value} {x : DataW H × List MemPlace} (ht : P.underlying t = some (.struct fs))
    (h : DataW.trod enc P W 0 sp held fuel t cs = some x) (hfu : fuel < N + 1) (i : Nat) (u : TypeId) (o q : Nat) {α : Type} {R : Rep α} (hf : (fs[i]?.map fun f => (f.type, f.offset)) = some (u, o)) (hu : OpensN P u q R N) : ∃ a, R W ((cs.drop o).take q) a := by
  obtain ⟨xs, n, rfl, hx, hl, hlen, hall⟩ := DataW.trod_struct ht h
  obtain ⟨f, hf0, hf1⟩ := Option.map_eq_some_iff.1 hf
  have h1 := hall i f hf0
  have ht : f.type = u := congrArg Prod.fst hf1
  have ho : f.offset = o := congrArg Prod.snd hf1
  rw [ht, ho, hu.1] at h1
  have hi : i < fs.size := by
    by_cases hi : i < fs.size
    · exact hi
    · rw [Array.getElem?_eq_none (by omega)] at hf0; cases hf0
  obtain ⟨b, hb⟩ : ∃ b, xs[i]? = some b := ⟨xs[i]'(by omega), by simp [hlen, hi]⟩
  rw [hb] at h1
  exact hu.2 enc W sp held n _ _ (by omega) h1
set_option maxRecDepth 100000 in
theorem opensN_ex (N : Nat) : OpensN Tryd.prog 30 5 exR N := by
  induction N with
  | zero => exact ⟨by kernel_rfl, fun enc W sp held fuel cs x h => by omega⟩
  | succ N ih =>
    refine ⟨by kernel_rfl, fun enc W sp held fuel cs x hfu h => ?_⟩
    have hu : Tryd.prog.underlying 30 = some (.struct (Tryd.prog.fieldsOf 30)) := by kernel_rfl
    have hi := (opens_int (P := Tryd.prog) Tryd.underlying3 (by kernel_rfl)).at N
    have hs : OpensN Tryd.prog 28 1 (sliceR 5 exR) N := by
      have := opensN_slice Tryd.underlying28 (by kernel_rfl) (by omega) ih
      exact ⟨this.1, fun enc W sp held fuel cs x h => this.2 enc W sp held fuel cs x (by omega)⟩
    have hl : cs.length = 5 := by
      obtain ⟨xs, n, _, _, hl, _, _⟩ := DataW.trod_struct hu h
      exact hl.trans (by kernel_rfl)
    obtain ⟨o, h0, w0⟩ := opensN_field hu h hfu 0 3 0 1 (by kernel_rfl) hi
    obtain ⟨a, h1, w1⟩ := opensN_field hu h hfu 1 3 1 1 (by kernel_rfl) hi
    obtain ⟨b, h2, w2⟩ := opensN_field hu h hfu 2 3 2 1 (by kernel_rfl) hi
    obtain ⟨c, h3, w3⟩ := opensN_field hu h hfu 3 3 3 1 (by kernel_rfl) hi
    obtain ⟨L, v, h4, w4⟩ := opensN_field hu h hfu 4 28 4 1 (by kernel_rfl) hs
    refine ⟨⟨o, a, b, c, L⟩, exR_eq.2 ⟨v, ?_, ⟨w0, w1, w2, w3⟩, w4⟩⟩
    match cs, hl with
    | [x, y, z, t, u], _ =>
      simp at h0 h1 h2 h3 h4
      rw [h0, h1, h2, h3, h4]
set_option maxRecDepth 100000 in
theorem open_expr {H : Type} {enc : TypeId × Value → H} {W : World} {r : Reach} {b0 : Nat} {v : Value} {d : DataW H} {ps : List MemPlace} {sp : Nat → Bool} {held : Bool}
    (hval : Value.okWide Tryd.prog W r b0 30 v) (h : DataW.Trod enc Tryd.prog W 0 sp held 30 v d ps) : ∃ e, ExV W v e := by
  have hu : Tryd.prog.underlying 30 = some (.struct (Tryd.prog.fieldsOf 30)) := by kernel_rfl
  obtain ⟨cs, rfl, hsz⟩ := okWide_struct hu hval
  obtain ⟨fuel, hf⟩ := h
  obtain ⟨e, he⟩ := (opensN_ex (fuel + 1)).2 enc W sp held fuel _ _ (Nat.lt_succ_self _) hf
  have := exV_of he
  rw [show (Value.agg cs).cells = cs from rfl] at this
  exact ⟨e, this⟩
end Go.Proofs.YtpecpeedefeokaaDoor
