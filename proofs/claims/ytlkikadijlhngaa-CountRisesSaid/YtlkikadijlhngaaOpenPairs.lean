/- An argument that is a slice of pairs of truths, opened. -/
import Derived.Test.YtlkikadijlhngaaBase
import Derived.Test.YtlkikadijlhngaaRowTwo
import Derived.Deep.Slices
import Derived.ChangeSame
namespace Go.Proofs.Ytlkikadijlhngaa
open Go.ChangeShapes Go.WideShapes Go.ChangeAt Go.RowKit Go.Deep
section
variable {H : Type} {enc : TypeId × Value → H} {P : Program} {W : World} {r : Reach} {b0 : Nat} {t e : TypeId} {v : Value} {d : DataW H} {ps : List MemPlace}
theorem open_pair_rows {u : TypeId} (ht : P.underlying t = some (.slice e)) (he : P.underlying e = some (.array 2 u)) (h2 : P.cellsOf e = 2) (h1 : P.cellsOf u = 1)
    (hval : Value.okWide P W r b0 t v) (h : DataW.Trod enc P W 0 (fun _ => true) true t v d ps) :
    ∃ (n : Nat) (V0 V1 : Nat → Value), Row2At W v n V0 V1 ∧ ∀ i, i < n → (∃ y m, DataW.trod enc P W 0 (fun _ => true) true m u [V0 i] = some y) ∧ (∃ y m, DataW.trod enc P W 0 (fun _ => true) true m u [V1 i] = some y) := by
  obtain ⟨a0, len, cap, rfl⟩ := okWide_slice ht hval
  obtain ⟨fuel, hf⟩ := h
  rcases open_slice ht hf with ⟨hcs, hx⟩ | ⟨a, len', cap', m, k, D, Pl, hcs, _, hl, hm, hmm, hx, hi⟩
  · simp [Value.cells] at hcs
    obtain ⟨rfl, rfl, rfl⟩ := hcs
    exact ⟨0, fun _ => undef, fun _ => undef, Or.inl ⟨_, _, rfl, rfl⟩, fun i h => by omega⟩
  · simp [Value.cells] at hcs
    obtain ⟨rfl, rfl, rfl⟩ := hcs
    simp only [if_true] at hmm
    have key : ∀ i, i < len → ∃ c0 c1, W.cell? (a.add (i * 2)) = some c0 ∧ W.cell? (a.add (i * 2 + 1)) = some c1 ∧ (∃ y m, DataW.trod enc P W 0 (fun _ => true) true m u [c0] = some y) ∧ (∃ y m, DataW.trod enc P W 0 (fun _ => true) true m u [c1] = some y) := by
      intro i hin
      obtain ⟨cs', hc, ht'⟩ := hi i (by omega)
      rw [h2] at hc
      obtain ⟨es, m', hxx, _, hel, hen, heall⟩ := DataW.trod_array he ht'
      obtain ⟨_, hcl, hat⟩ := World.cells?_some hc
      have q0 := heall 0 (by omega)
      have q1 := heall 1 (by omega)
      rw [h1] at q0 q1
      have e0 : cs' = [cs'[0]'(by omega), cs'[1]'(by omega)] := by
        match cs', hcl with
        | [_, _], _ => rfl
      have hz0 := hat 0 (by omega)
      have hz1 := hat 1 (by omega)
      rw [Deep.add_add] at hz1 hz0
      generalize cs'[0]'(by omega) = c0 at e0
      generalize cs'[1]'(by omega) = c1 at e0
      subst e0
      refine ⟨c0, c1, by simpa using hz0, by simpa using hz1, ?_, ?_⟩
      · have hl0 : 0 < es.length := by omega
        exact ⟨es[0], m', by simpa [hl0] using q0⟩
      · have hl1 : 1 < es.length := by omega
        exact ⟨es[1], m', by simpa [hl1] using q1⟩
    by_cases h0 : len = 0
    · subst h0
      exact ⟨0, fun _ => undef, fun _ => undef, Or.inl ⟨_, _, rfl, rfl⟩, fun i h => by omega⟩
    obtain ⟨b, off, spot⟩ := a
    obtain ⟨_, _, hz, _⟩ := key 0 (by omega)
    have hspot : spot = none := by simpa [Addr.add] using World.cell?_spot hz
    subst hspot
    have hblk := World.block_lt_of_cell? W _ hz
    have adr : ∀ j, (⟨b, off, none⟩ : Addr).add j = ⟨b, off + j, none⟩ := by
      intro j; unfold Addr.add; by_cases hj : j = 0 <;> simp [hj]
    refine ⟨len, fun i => ((W.cell? ⟨b, off + i * 2, none⟩).getD undef), fun i => ((W.cell? ⟨b, off + i * 2 + 1, none⟩).getD undef), Or.inr ⟨b, off, cap, rfl, by omega, hl, hm, by simpa [adr] using hblk, fun i hin => ?_⟩, fun i hin => ?_⟩
    · obtain ⟨c0, c1, e0, e1, _, _⟩ := key i hin
      rw [adr] at e0 e1
      rw [show off + (i * 2 + 1) = off + i * 2 + 1 by omega] at e1
      refine ⟨?_, ?_⟩
      · show _ = some ((W.cell? ⟨b, off + i * 2, none⟩).getD undef); rw [e0]; rfl
      · show _ = some ((W.cell? ⟨b, off + i * 2 + 1, none⟩).getD undef); rw [e1]; rfl
    · obtain ⟨c0, c1, e0, e1, g0, g1⟩ := key i hin
      rw [adr] at e0 e1
      rw [show off + (i * 2 + 1) = off + i * 2 + 1 by omega] at e1
      simp only [e0, e1, Option.getD_some]
      exact ⟨g0, g1⟩
theorem Row2At.congr {w : World} {v : Value} {n : Nat} {f g f' g' : Nat → Value} (h : Row2At w v n f g) (hf : ∀ i, i < n → f i = f' i) (hg : ∀ i, i < n → g i = g' i) : Row2At w v n f' g' := by
  rcases h with h | ⟨b, off, cap, h1, h2, h3, h4, h5, h6⟩
  · exact Or.inl h
  · exact Or.inr ⟨b, off, cap, h1, h2, h3, h4, h5, fun i hi => ⟨(h6 i hi).1.trans (congrArg some (hf i hi)), (h6 i hi).2.trans (congrArg some (hg i hi))⟩⟩
end
theorem open_pairs {H : Type} {enc : TypeId × Value → H} {W : World} {r : Reach} {b0 : Nat} {v : Value} {d : DataW H} {ps : List MemPlace}
    (hval : Value.okWide Try.prog W r b0 29 v) (h : DataW.Trod enc Try.prog W 0 (fun _ => true) true 29 v d ps) :
    ∃ (n : Nat) (F G : Nat → Bool), Row2At W v n (fun i => .bool (F i)) (fun i => .bool (G i)) := by
  obtain ⟨n, V0, V1, hr, hy⟩ := open_pair_rows (u := 4) Try.underlying29 Try.underlying30 (by kernel_rfl) (by kernel_rfl) hval h
  have k0 : ∀ i, i < n → ∃ z, V0 i = .bool z := by
    intro i hi
    obtain ⟨⟨y, m, hyy⟩, _⟩ := hy i hi
    obtain ⟨z, hz, _⟩ := DataW.trod_bool Try.underlying4 hyy
    exact ⟨z, by simpa using hz⟩
  have k1 : ∀ i, i < n → ∃ z, V1 i = .bool z := by
    intro i hi
    obtain ⟨_, ⟨y, m, hyy⟩⟩ := hy i hi
    obtain ⟨z, hz, _⟩ := DataW.trod_bool Try.underlying4 hyy
    exact ⟨z, by simpa using hz⟩
  refine ⟨n, fun i => match V0 i with | .bool z => z | _ => false, fun i => match V1 i with | .bool z => z | _ => false, hr.congr (fun i hi => ?_) (fun i hi => ?_)⟩
  · obtain ⟨z, hz⟩ := k0 i hi; simp [hz]
  · obtain ⟨z, hz⟩ := k1 i hi; simp [hz]
end Go.Proofs.Ytlkikadijlhngaa
