/- Nearest postdominators: what is told is the document's. Plain. -/
import Derived.Test.YtkjafkegkllbiaaPdA
namespace Go.Proofs.Ytkjafkegkllbiaa
set_option linter.unusedSimpArgs false
set_option linter.unusedVariables false
namespace DM
def bestP (next : List (List Int)) (i : Nat) : Nat → Int
  | 0 => -1
  | a + 1 =>
    if a ≠ i ∧ thrF next a i = true ∧ (bestP next i a < 0 ∨ bestP next i a = (next.length : Int) ∨ (a ≠ next.length ∧ thrF next (bestP next i a).toNat a = true)) then (a : Int) else bestP next i a
/-- what is told of what is told of the graph turned about -/
def upN (n : Nat) (up : Int) : Int := if up < 0 then -1 else if up = 0 then (n : Int) else up - 1
theorem near_spec {next : List (List Int)} {R : Nat → Prop} {d : Nat → Option Nat} (hR : ∀ v, R v ↔ ∃ l, Way (Eg (turnF next)) l v) (hlt : ∀ v, R v → v < (turnF next).length) (T : Tree (Eg (turnF next)) R d)
    (hanti : ∀ x v, R v → Anc d x v → R x ∧ (Anc d v x → x = v)) (i : Nat) (hi : i < next.length) : bestP next i (next.length + 1) = upN next.length (bestF (turnF next) (i + 1) (turnF next).length) := by
  have hlen := turn_len next
  have hphi : phi next.length i = i + 1 := by unfold phi; rw [if_neg (by omega)]
  have hthr : ∀ a k, k ≤ next.length → (thrF next a k = true ↔ R (phi next.length k) ∧ Anc d (phi next.length a) (phi next.length k)) := fun a k hk => by
    rw [thr_iff hk, ← hR]
    constructor
    · rintro ⟨h1, h2⟩; exact ⟨h1, (T.dom _ h1 _).1 h2⟩
    · rintro ⟨h1, h2⟩; exact ⟨h1, (T.dom _ h1 _).2 h2⟩
  rcases best_spec hR hlt T hanti (i + 1) (by omega) with ⟨e, hRb, he, hbe⟩ | ⟨hno, hbe⟩
  · rw [hbe]
    have hstrict : ∀ a, (a ≠ i ∧ thrF next a i = true) ↔ Anc d (phi next.length a) e := fun a => by
      rw [hthr a i (by omega), hphi]
      constructor
      · rintro ⟨h1, _, h2⟩
        rcases h2.cases' he with h | h
        · exact absurd (phi_inj (h.trans hphi.symm)) h1
        · exact h
      · intro h
        refine ⟨?_, hRb, .up he h⟩
        rintro rfl
        rw [hphi] at h
        exact T.total _ e hRb he h
    have hRe : R e := (hanti e _ hRb (.up he .self)).1
    by_cases he0 : e = 0
    · subst he0
      have hz : ∀ a, Anc d (phi next.length a) 0 → a = next.length := fun a h => by
        have := h.cases_none T.zero
        unfold phi at this
        split at this
        · assumption
        · omega
      have key : ∀ k, k ≤ next.length → bestP next i k = -1 := by
        intro k
        induction k with
        | zero => exact fun _ => rfl
        | succ k ih =>
          intro hk
          unfold bestP
          rw [if_neg, ih (by omega)]
          rintro ⟨h1, h2, _⟩
          have := hz k ((hstrict k).1 ⟨h1, h2⟩)
          omega
      have hn : next.length ≠ i ∧ thrF next next.length i = true := (hstrict next.length).2 (by unfold phi; rw [if_pos rfl]; exact .self)
      unfold bestP
      rw [if_pos ⟨hn.1, hn.2, .inl (by rw [key _ (Nat.le_refl _)]; omega)⟩]
      unfold upN
      simp
    · have hel := hlt e hRe
      obtain ⟨e', rfl⟩ : ∃ e', e = e' + 1 := ⟨e - 1, by omega⟩
      have he'n : e' < next.length := by omega
      have hphe : phi next.length e' = e' + 1 := by unfold phi; rw [if_neg (by omega)]
      have key : ∀ k, k ≤ next.length → (bestP next i k = -1 ∧ ∀ a, a < k → ¬ Anc d (phi next.length a) (e' + 1)) ∨ ∃ c : Nat, c < k ∧ bestP next i k = (c : Int) ∧ Anc d (phi next.length c) (e' + 1) ∧ ∀ a, a < k → Anc d (phi next.length a) (e' + 1) → Anc d (phi next.length a) (phi next.length c) := by
        intro k
        induction k with
        | zero => exact fun _ => .inl ⟨rfl, fun a h => by omega⟩
        | succ k ih =>
          intro hk
          have ih := ih (by omega)
          unfold bestP
          by_cases hs : k ≠ i ∧ thrF next k i = true
          · have hke := (hstrict k).1 hs
            have hRk := (hanti _ _ hRe hke).1
            rcases ih with ⟨h1, h2⟩ | ⟨c, c1, c2, c3, c4⟩
            · rw [h1, if_pos ⟨hs.1, hs.2, .inl (by omega)⟩]
              refine .inr ⟨k, by omega, rfl, hke, fun a ha hae => ?_⟩
              by_cases hak : a = k
              · subst hak; exact .self
              · exact absurd hae (h2 a (by omega))
            · rw [c2]
              by_cases hck : thrF next c k = true
              · rw [if_pos ⟨hs.1, hs.2, .inr (.inr ⟨by omega, by simpa using hck⟩)⟩]
                refine .inr ⟨k, by omega, rfl, hke, fun a ha hae => ?_⟩
                by_cases hak : a = k
                · subst hak; exact .self
                · exact (c4 a (by omega) hae).trans ((hthr c k (by omega)).1 hck).2
              · rw [if_neg (fun h => by rcases h.2.2 with h | h | h; omega; omega; exact hck (by simpa using h.2))]
                refine .inr ⟨c, by omega, rfl, c3, fun a ha hae => ?_⟩
                by_cases hak : a = k
                · subst hak
                  rcases c3.total hae with h | h
                  · exact absurd ((hthr c a (by omega)).2 ⟨hRk, h⟩) hck
                  · exact h
                · exact c4 a (by omega) hae
          · rw [if_neg (fun h => hs ⟨h.1, h.2.1⟩)]
            have hnk : ¬ Anc d (phi next.length k) (e' + 1) := fun h => hs ((hstrict k).2 h)
            rcases ih with ⟨h1, h2⟩ | ⟨c, c1, c2, c3, c4⟩
            · refine .inl ⟨h1, fun a ha hae => ?_⟩
              by_cases hak : a = k
              · subst hak; exact hnk hae
              · exact h2 a (by omega) hae
            · refine .inr ⟨c, by omega, c2, c3, fun a ha hae => ?_⟩
              by_cases hak : a = k
              · subst hak; exact absurd hae hnk
              · exact c4 a (by omega) hae
      rcases key _ (Nat.le_refl _) with ⟨_, h2⟩ | ⟨c, c1, c2, c3, c4⟩
      · exact absurd (by rw [hphe]; exact .self) (h2 e' he'n)
      · have h5 := c4 e' he'n (by rw [hphe]; exact .self)
        rw [hphe] at h5
        have h6 := (hanti _ _ hRe c3).2 h5
        have hce : c = e' := phi_inj (h6.trans hphe.symm)
        subst hce
        unfold bestP
        rw [c2, if_neg (fun h => by rcases h.2.2 with h | h | h; omega; omega; exact h.1 rfl)]
        unfold upN
        rw [if_neg (by omega), if_neg (by omega)]
        omega
  · rw [hbe]
    have hno' : ¬ R (i + 1) := by
      intro hRb
      rcases hno with h | h
      · exact h hRb
      · obtain ⟨e, he, _⟩ := T.has (i + 1) hRb (by omega)
        rw [h] at he; cases he
    have key : ∀ k, bestP next i k = -1 := by
      intro k
      induction k with
      | zero => rfl
      | succ k ih =>
        unfold bestP
        rw [if_neg, ih]
        rintro ⟨_, h2, _⟩
        exact hno' (by have := ((hthr k i (by omega)).1 h2).1; rwa [hphi] at this)
    rw [key]
    rfl
end DM
end Go.Proofs.Ytkjafkegkllbiaa
