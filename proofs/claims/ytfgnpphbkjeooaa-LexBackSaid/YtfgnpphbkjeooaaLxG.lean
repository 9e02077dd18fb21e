/- Layer 47, plain: what the tokens of a text are. -/
import Derived.Test.YtfgnpphbkjeooaaLxJ
namespace Go.Proofs.Ytfgnpphbkjeooaa
namespace LX
set_option linter.unusedSimpArgs false
set_option linter.unusedVariables false
theorem drop_cut (l : List UInt8) {a b : Nat} (h : a ≤ b) : l.drop a = cut l a b ++ l.drop b := by
  unfold cut
  rw [show l.drop b = (l.drop a).drop (b - a) by rw [List.drop_drop, show a + (b - a) = b by omega], List.take_append_drop]
theorem cut_len (l : List UInt8) {a b : Nat} (h : a ≤ b) (hb : b ≤ l.length) : (cut l a b).length = b - a := by
  unfold cut
  rw [List.length_take, List.length_drop]; omega
theorem runF_all (l : List UInt8) (b : Nat) : ∀ f k i, k ≤ i → i < runF l b f k → goB l b i = true
  | 0, k, i, h1, h2 => by unfold runF at h2; omega
  | f + 1, k, i, h1, h2 => by
    unfold runF at h2
    split at h2
    · rename_i h
      by_cases e : i = k
      · subst e; exact h.2
      · exact runF_all l b f (k + 1) i (by omega) h2
    · omega
theorem word_good (l : List UInt8) (k : Nat) (hk : k < l.length) (h : ¬ wordE l k = k) : Wd (cut l k (wordE l k)) := by
  have h1 : k ≤ wordE l k := runF_ge l k _ k
  have h2 : wordE l k ≤ l.length := runF_le l k _ k (Nat.le_of_lt hk)
  have hl := cut_len l h1 h2
  refine ⟨fun h0 => by rw [h0] at hl; simp at hl; omega, fun i hi => ?_⟩
  rw [← goB_cut (drop_cut l h1) hi]
  exact runF_all l k _ k _ (by omega) (by show k + i < wordE l k; omega)
theorem cut_two (l : List UInt8) (k : Nat) (h : k + 1 < l.length) : cut l k (k + 2) = [l.getD k 0, l.getD (k + 1) 0] := by
  unfold cut
  rw [List.drop_eq_getElem_cons (show k < l.length by omega), List.drop_eq_getElem_cons h, show k + 2 - k = 2 by omega]
  show [l[k], l[k + 1]] = _
  simp [List.getD, h, show k < l.length by omega]
theorem cut_one0 (l : List UInt8) (k : Nat) (h : k < l.length) : cut l k (k + 1) = [l.getD k 0] := by
  unfold cut
  rw [List.drop_eq_getElem_cons h, show k + 1 - k = 1 by omega]
  show [l[k]] = _
  simp [List.getD, h]
theorem sign_good (l : List UInt8) (k : Nat) (hk : k < l.length) (h : ¬ signE l k = k) : Sg (cut l k (signE l k)) ∧ k < signE l k ∧ signE l k ≤ l.length := by
  by_cases hs : signs.contains (l.getD k 0) = true
  · by_cases h2 : k + 1 < l.length ∧ two (l.getD k 0) (l.getD (k + 1) 0)
    · rw [signE_two h2.1 h2.2, cut_two l k h2.1]
      exact ⟨Or.inr ⟨_, _, rfl, h2.2⟩, by omega, by omega⟩
    · rw [signE_one hs h2, cut_one0 l k hk]
      exact ⟨Or.inl ⟨_, rfl, hs⟩, by omega, by omega⟩
  · exact absurd (signE_none (by simpa using hs)) h
/-- the texts' lengths together -/
def sumL (L : List Tk) : Nat := (L.map fun x => x.text.length).sum
theorem sumL_app (A B : List Tk) : sumL (A ++ B) = sumL A + sumL B := by simp [sumL]
def Lines : Nat → List Tk → Prop
  | _, [] => True
  | ln, x :: r => ln ≤ x.line ∧ Lines x.line r
theorem Lines.low : ∀ {L : List Tk} {a b : Nat}, a ≤ b → Lines b L → Lines a L
  | [], _, _, _, _ => trivial
  | _ :: _, _, _, h, h2 => ⟨Nat.le_trans h h2.1, h2.2⟩
/-- what is told of a text is right, in order, and no longer than the text -/
theorem T_good (l : List UInt8) : ∀ (f k ln : Nat) (out R : List Tk) (z : Nat), T l f k ln out = (some R, z) → ∃ L, R = out ++ L ∧ (∀ x ∈ L, Good x) ∧ Lines ln L ∧ sumL L ≤ l.length - k
  | 0, k, ln, out, R, z, h => by
    have h : (some out, 0) = (some R, z) := h
    cases h
    exact ⟨[], by simp, fun x hx => absurd hx List.not_mem_nil, trivial, Nat.zero_le _⟩
  | f + 1, k, ln, out, R, z, h => by
    unfold T at h
    split at h
    · rename_i hk
      split at h
      · obtain ⟨L, h1, h2, h3, h4⟩ := T_good l f _ _ out R z h
        refine ⟨L, h1, h2, h3.low (by split <;> omega), by omega⟩
      · split at h
        · split at h
          · cases h
          · rename_i hw hs
            obtain ⟨L, h1, h2, h3, h4⟩ := T_good l f _ _ _ R z h
            obtain ⟨g1, g2, g3⟩ := sign_good l k hk hs
            refine ⟨⟨2, ln, cut l k (signE l k)⟩ :: L, by rw [h1]; simp, ?_, ⟨Nat.le_refl _, h3⟩, ?_⟩
            · intro x hx
              rcases List.mem_cons.1 hx with rfl | hx
              · exact Or.inr ⟨rfl, g1⟩
              · exact h2 x hx
            · show sumL ([_] ++ L) ≤ _
              rw [sumL_app]
              have : sumL [(⟨2, ln, cut l k (signE l k)⟩ : Tk)] = signE l k - k := by
                show (List.map _ _).sum = _
                simp [cut_len l (Nat.le_of_lt g2) g3]
              omega
        · rename_i hw
          obtain ⟨L, h1, h2, h3, h4⟩ := T_good l f _ _ _ R z h
          have g2 : k ≤ wordE l k := runF_ge l k _ k
          have g3 : wordE l k ≤ l.length := runF_le l k _ k (Nat.le_of_lt hk)
          refine ⟨⟨1, ln, cut l k (wordE l k)⟩ :: L, by rw [h1]; simp, ?_, ⟨Nat.le_refl _, h3⟩, ?_⟩
          · intro x hx
            rcases List.mem_cons.1 hx with rfl | hx
            · exact Or.inl ⟨rfl, word_good l k hk hw⟩
            · exact h2 x hx
          · show sumL ([_] ++ L) ≤ _
            rw [sumL_app]
            have : sumL [(⟨1, ln, cut l k (wordE l k)⟩ : Tk)] = wordE l k - k := by
              show (List.map _ _).sum = _
              simp [cut_len l g2 g3]
            omega
    · cases h
      exact ⟨[], by simp, fun x hx => absurd hx List.not_mem_nil, trivial, Nat.zero_le _⟩
theorem Good.pos {x : Tk} (h : Good x) : 0 < x.text.length := by
  rcases h with ⟨_, h1⟩ | ⟨_, h1⟩
  · exact List.length_pos_iff.2 h1.1
  · rcases h1 with ⟨c, h, _⟩ | ⟨c, d, h, _⟩ <;> rw [h] <;> simp
theorem len_sum : ∀ L : List Tk, (∀ x ∈ L, Good x) → L.length ≤ sumL L
  | [], _ => Nat.zero_le _
  | x :: L, h => by
    have h1 := len_sum L fun y hy => h y (List.mem_cons_of_mem _ hy)
    have h2 := (h x (List.mem_cons_self ..)).pos
    show L.length + 1 ≤ sumL ([x] ++ L)
    rw [sumL_app]
    have : sumL [x] = x.text.length := by simp [sumL]
    omega
theorem J_len (L : List Tk) : (J L).length ≤ sumL L + L.length := by
  unfold J
  rw [List.length_drop]
  have : (F L).length = sumL L + L.length := by
    induction L with
    | nil => rfl
    | cons x r ih =>
      show ((32 :: x.text) ++ F r).length = sumL ([x] ++ r) + (r.length + 1)
      rw [List.length_append, ih, sumL_app]
      have : sumL [x] = x.text.length := by simp [sumL]
      simp; omega
  omega
end LX
end Go.Proofs.Ytfgnpphbkjeooaa
