/- An argument that is a slice of structs of two fields of one cell each, opened. -/
import Derived.Test.YtpgmjjjfacfibaaBase
import Derived.Test.YtpgmjjjfacfibaaRowTwo
import Derived.Deep.Slices
import Derived.ChangeSame
namespace Go.Proofs.Ytpgmjjjfacfibaa
open Go.ChangeShapes Go.WideShapes Go.ChangeAt Go.RowKit Go.Deep
section
variable {H : Type} {enc : TypeId × Value → H} {P : Program} {W : World} {r : Reach} {b0 : Nat} {t e : TypeId} {v : Value} {d : DataW H} {ps : List MemPlace}
theorem open_two_rows {fs : Array Field} {f0 f1 : Field} (ht : P.underlying t = some (.slice e)) (he : P.underlying e = some (.struct fs)) (h2 : P.cellsOf e = 2)
    (h00 : fs[0]? = some f0) (h01 : f0.offset = 0) (h02 : P.cellsOf f0.type = 1) (h10 : fs[1]? = some f1) (h11 : f1.offset = 1) (h12 : P.cellsOf f1.type = 1)
    (hval : Value.okWide P W r b0 t v) (h : DataW.Trod enc P W 0 (fun _ => true) true t v d ps) :
    ∃ (n : Nat) (V0 V1 : Nat → Value), Row2At W v n V0 V1 ∧ ∀ i, i < n → (∃ y m, DataW.trod enc P W 0 (fun _ => true) true m f0.type [V0 i] = some y) ∧ (∃ y m, DataW.trod enc P W 0 (fun _ => true) true m f1.type [V1 i] = some y) := by
  obtain ⟨a0, len, cap, rfl⟩ := okWide_slice ht hval
  obtain ⟨fuel, hf⟩ := h
  rcases open_slice ht hf with ⟨hcs, hx⟩ | ⟨a, len', cap', m, k, D, Pl, hcs, _, hl, hm, hmm, hx, hi⟩
  · simp [Value.cells] at hcs
    obtain ⟨rfl, rfl, rfl⟩ := hcs
    exact ⟨0, fun _ => undef, fun _ => undef, Or.inl ⟨_, _, rfl, rfl⟩, fun i h => by omega⟩
  · simp [Value.cells] at hcs
    obtain ⟨rfl, rfl, rfl⟩ := hcs
    simp only [if_true] at hmm
    have key : ∀ i, i < len → ∃ c0 c1, W.cell? (a.add (i * 2)) = some c0 ∧ W.cell? (a.add (i * 2 + 1)) = some c1 ∧ (∃ y m, DataW.trod enc P W 0 (fun _ => true) true m f0.type [c0] = some y) ∧ (∃ y m, DataW.trod enc P W 0 (fun _ => true) true m f1.type [c1] = some y) := by
      intro i hin
      obtain ⟨cs', hc, ht'⟩ := hi i (by omega)
      rw [h2] at hc
      obtain ⟨ys, n', hn', hy, hlen, hyl, hg⟩ := DataW.trod_struct he ht'
      obtain ⟨_, hcl, hat⟩ := World.cells?_some hc
      have q0 := hg 0 f0 h00
      have q1 := hg 1 f1 h10
      rw [h01, h02] at q0
      rw [h11, h12] at q1
      have e0 : cs' = [cs'[0]'(by omega), cs'[1]'(by omega)] := by
        match cs', hcl with
        | [_, _], _ => rfl
      have hz0 := hat 0 (by omega)
      have hz1 := hat 1 (by omega)
      rw [Deep.add_add] at hz1 hz0
      generalize cs'[0]'(by omega) = c0 at e0
      generalize cs'[1]'(by omega) = c1 at e0
      subst e0
      refine ⟨c0, c1, by simpa using hz0, by simpa using hz1, ?_, ?_⟩
      · have hl0 : 0 < ys.length := by rw [hyl]; have := (Array.getElem?_eq_some_iff.1 h00).1; omega
        exact ⟨ys[0], n', by simpa [hl0] using q0⟩
      · have hl1 : 1 < ys.length := by rw [hyl]; have := (Array.getElem?_eq_some_iff.1 h10).1; omega
        exact ⟨ys[1], n', by simpa [hl1] using q1⟩
    by_cases h0 : len = 0
    · subst h0
      exact ⟨0, fun _ => undef, fun _ => undef, Or.inl ⟨_, _, rfl, rfl⟩, fun i h => by omega⟩
    obtain ⟨b, off, spot⟩ := a
    obtain ⟨_, _, hz, _⟩ := key 0 (by omega)
    have hspot : spot = none := by simpa [Addr.add] using World.cell?_spot hz
    subst hspot
    have hblk := World.block_lt_of_cell? W _ hz
    have adr : ∀ j, (⟨b, off, none⟩ : Addr).add j = ⟨b, off + j, none⟩ := by
      intro j; unfold Addr.add; by_cases hj : j = 0 <;> simp [hj]
    refine ⟨len, fun i => ((W.cell? ⟨b, off + i * 2, none⟩).getD undef), fun i => ((W.cell? ⟨b, off + i * 2 + 1, none⟩).getD undef), Or.inr ⟨b, off, cap, rfl, by omega, hl, hm, by simpa [adr] using hblk, fun i hin => ?_⟩, fun i hin => ?_⟩
    · obtain ⟨c0, c1, e0, e1, _, _⟩ := key i hin
      rw [adr] at e0 e1
      rw [show off + (i * 2 + 1) = off + i * 2 + 1 by omega] at e1
      refine ⟨?_, ?_⟩
      · show _ = some ((W.cell? ⟨b, off + i * 2, none⟩).getD undef); rw [e0]; rfl
      · show _ = some ((W.cell? ⟨b, off + i * 2 + 1, none⟩).getD undef); rw [e1]; rfl
    · obtain ⟨c0, c1, e0, e1, g0, g1⟩ := key i hin
      rw [adr] at e0 e1
      rw [show off + (i * 2 + 1) = off + i * 2 + 1 by omega] at e1
      simp only [e0, e1, Option.getD_some]
      exact ⟨g0, g1⟩
theorem Row2At.congr {w : World} {v : Value} {n : Nat} {f g f' g' : Nat → Value} (h : Row2At w v n f g) (hf : ∀ i, i < n → f i = f' i) (hg : ∀ i, i < n → g i = g' i) : Row2At w v n f' g' := by
  rcases h with h | ⟨b, off, cap, h1, h2, h3, h4, h5, h6⟩
  · exact Or.inl h
  · exact Or.inr ⟨b, off, cap, h1, h2, h3, h4, h5, fun i hi => ⟨(h6 i hi).1.trans (congrArg some (hf i hi)), (h6 i hi).2.trans (congrArg some (hg i hi))⟩⟩
end
theorem open_calls {H : Type} {enc : TypeId × Value → H} {W : World} {r : Reach} {b0 : Nat} {v : Value} {d : DataW H} {ps : List MemPlace}
    (hval : Value.okWide Try.prog W r b0 29 v) (h : DataW.Trod enc Try.prog W 0 (fun _ => true) true 29 v d ps) :
    ∃ (n : Nat) (F : Nat → Int) (G : Nat → Bool), Row2At W v n (fun i => .int .u8 (F i)) (fun i => .bool (G i)) ∧ ∀ i, i < n → 0 ≤ F i ∧ F i ≤ 255 := by
  have hu : Try.prog.underlying 31 = some (.struct (Try.prog.fieldsOf 31)) := by kernel_rfl
  obtain ⟨f0, a1, a2, a3⟩ : ∃ f0, (Try.prog.fieldsOf 31)[0]? = some f0 ∧ f0.type = 5 ∧ f0.offset = 0 := ⟨(Try.prog.fieldsOf 31)[0]!, by kernel_rfl, by kernel_rfl, by kernel_rfl⟩
  obtain ⟨f1, c1, c2, c3⟩ : ∃ f1, (Try.prog.fieldsOf 31)[1]? = some f1 ∧ f1.type = 4 ∧ f1.offset = 1 := ⟨(Try.prog.fieldsOf 31)[1]!, by kernel_rfl, by kernel_rfl, by kernel_rfl⟩
  obtain ⟨n, V0, V1, hr, hy⟩ := open_two_rows Try.underlying29 hu (by kernel_rfl) a1 a3 (by rw [a2]; kernel_rfl) c1 c3 (by rw [c2]; kernel_rfl) hval h
  have k0 : ∀ i, i < n → ∃ z, V0 i = .int .u8 z ∧ 0 ≤ z ∧ z ≤ 255 := by
    intro i hi
    obtain ⟨⟨y, m, hyy⟩, _⟩ := hy i hi
    rw [a2] at hyy
    obtain ⟨z, hz, _, hw⟩ := DataW.trod_int Try.underlying5 hyy
    have hb := bounds_u8 hw
    exact ⟨z, by simpa using hz, hb.1, by omega⟩
  have k1 : ∀ i, i < n → ∃ z, V1 i = .bool z := by
    intro i hi
    obtain ⟨_, ⟨y, m, hyy⟩⟩ := hy i hi
    rw [c2] at hyy
    obtain ⟨z, hz, _⟩ := DataW.trod_bool Try.underlying4 hyy
    exact ⟨z, by simpa using hz⟩
  refine ⟨n, fun i => match V0 i with | .int _ z => z | _ => 0, fun i => match V1 i with | .bool z => z | _ => false, hr.congr (fun i hi => ?_) (fun i hi => ?_), fun i hi => ?_⟩
  · obtain ⟨z, hz, _⟩ := k0 i hi; simp [hz]
  · obtain ⟨z, hz⟩ := k1 i hi; simp [hz]
  · obtain ⟨z, hz, h1, h2⟩ := k0 i hi; simp only [hz]; exact ⟨h1, h2⟩
end Go.Proofs.Ytpgmjjjfacfibaa
