/- What the next places meet is the nearest postdominator. Plain. -/
import Derived.Test.YtkjafkegkllbiaaPdE
namespace Go.Proofs.Ytkjafkegkllbiaa
set_option linter.unusedSimpArgs false
set_option linter.unusedVariables false
namespace DM
/-- the way up by the nearest ones, as long as there are places -/
def upF (NP : List Int) : Nat → Int → Option (List Int)
  | 0, _ => none
  | k + 1, t => if t < (NP.length : Int) then (if 0 ≤ t then (upF NP k (NP.getD t.toNat 0)).map (t :: ·) else none) else some [t]
def unphi (n e : Nat) : Nat := if e = 0 then n else e - 1
theorem phi_unphi {n e : Nat} (h : e ≤ n) : phi n (unphi n e) = e := by
  unfold phi unphi
  by_cases h0 : e = 0
  · rw [if_pos h0, if_pos rfl, h0]
  · rw [if_neg h0, if_neg (by omega)]; omega
theorem unphi_le {n e : Nat} (h : e ≤ n) : unphi n e ≤ n := by
  unfold unphi; split <;> omega
section
variable {next : List (List Int)} {R : Nat → Prop} {d : Nat → Option Nat}
theorem near_of (hR : ∀ v, R v ↔ ∃ l, Way (Eg (turnF next)) l v) (hlt : ∀ v, R v → v < (turnF next).length) (T : Tree (Eg (turnF next)) R d)
    (hanti : ∀ x v, R v → Anc d x v → R x ∧ (Anc d v x → x = v)) {i : Nat} (hi : i < next.length) :
    (∃ e, R (i + 1) ∧ d (i + 1) = some e ∧ R e ∧ (nearP next).getD i 0 = (unphi next.length e : Int)) ∨ (¬ R (i + 1) ∧ (nearP next).getD i 0 = -1) := by
  have hlen := turn_len next
  have hg : (nearP next).getD i 0 = bestP next i (next.length + 1) := by
    unfold nearP
    rw [List.getD_eq_getElem?_getD, List.getElem?_map, List.getElem?_range hi]; rfl
  rw [hg, near_spec hR hlt T hanti i hi]
  rcases best_spec hR hlt T hanti (i + 1) (by omega) with ⟨e, hRb, he, hbe⟩ | ⟨hno, hbe⟩
  · left
    refine ⟨e, hRb, he, (hanti e _ hRb (.up he .self)).1, ?_⟩
    rw [hbe]
    unfold upN unphi
    rw [if_neg (by omega)]
    by_cases h0 : e = 0
    · subst h0; simp
    · rw [if_neg (by omega), if_neg h0]; omega
  · right
    constructor
    · intro hRb
      rcases hno with h | h
      · exact h hRb
      · obtain ⟨e, he, _⟩ := T.has (i + 1) hRb (by omega)
        rw [h] at he; cases he
    · rw [hbe]; rfl
theorem up_spec (hR : ∀ v, R v ↔ ∃ l, Way (Eg (turnF next)) l v) (hlt : ∀ v, R v → v < (turnF next).length) (T : Tree (Eg (turnF next)) R d)
    (hanti : ∀ x v, R v → Anc d x v → R x ∧ (Anc d v x → x = v)) {v : Nat} (h : Anc d 0 v) : R v → ∀ t, t ≤ next.length → v = phi next.length t →
    ∃ k L, upF (nearP next) k (t : Int) = some L ∧ (∀ x ∈ L, ∃ a : Nat, x = (a : Int) ∧ a ≤ next.length) ∧ (∀ a : Nat, a ≤ next.length → ((a : Int) ∈ L ↔ Anc d (phi next.length a) v)) ∧ L.Nodup ∧
      ∀ (p : Int → Bool) (e : Nat), e ≤ next.length → (∀ a : Nat, a ≤ next.length → (p (a : Int) = true ↔ Anc d (phi next.length a) e)) → R e → Anc d e v → L.find? p = some ((unphi next.length e : Nat) : Int) := by
  have hnl := near_len next
  have hlen := turn_len next
  induction h with
  | self =>
    intro hRv t ht hv
    have htn : t = next.length := by unfold phi at hv; split at hv <;> omega
    subst htn
    refine ⟨1, [(next.length : Int)], ?_, fun x hx => ⟨next.length, by simpa using hx, Nat.le_refl _⟩, fun a ha => ?_, by simp, fun p e he hp hRe hev => ?_⟩
    · unfold upF
      rw [if_neg (by rw [hnl]; omega)]
    · constructor
      · intro hm
        have : a = next.length := by have : (a : Int) = next.length := by simpa using hm
                                     omega
        subst this
        rw [← hv]; exact .self
      · intro hm
        have h1 := hm.cases_none T.zero
        have : a = next.length := by unfold phi at h1; split at h1 <;> omega
        subst this; simp
    · have h0 := hev.cases_none T.zero
      subst h0
      have : p ((next.length : Nat) : Int) = true := (hp next.length (Nat.le_refl _)).2 (by unfold phi; rw [if_pos rfl]; exact .self)
      rw [List.find?_cons, this]
      unfold unphi; rw [if_pos rfl]
  | @up v e' he h ih =>
    intro hRv t ht hv
    have hv0 : v ≠ 0 := by rintro rfl; rw [T.zero] at he; cases he
    have htn : t < next.length := by
      by_cases hh : t = next.length
      · subst hh; unfold phi at hv; rw [if_pos rfl] at hv; exact absurd hv hv0
      · omega
    have hvt : v = t + 1 := by unfold phi at hv; rw [if_neg (by omega)] at hv; exact hv
    subst hvt
    obtain ⟨e2, he2, hRe', hnear⟩ : ∃ e2, d (t + 1) = some e2 ∧ R e2 ∧ (nearP next).getD t 0 = (unphi next.length e2 : Int) := by
      rcases near_of hR hlt T hanti htn with ⟨e2, _, h1, h2, h3⟩ | ⟨hno, _⟩
      · exact ⟨e2, h1, h2, h3⟩
      · exact absurd hRv hno
    rw [he] at he2; cases he2
    have hle : e' ≤ next.length := by have := hlt _ hRe'; omega
    obtain ⟨k, L, h1, h2, h3, h4, h5⟩ := ih hRe' (unphi next.length e') (unphi_le hle) (phi_unphi hle).symm
    have hmem : ∀ a : Nat, a ≤ next.length → ((a : Int) ∈ (t : Int) :: L ↔ Anc d (phi next.length a) (t + 1)) := fun a ha => by
      rw [List.mem_cons, h3 a ha]
      constructor
      · rintro (h | h)
        · have : a = t := by omega
          subst this
          rw [← hv]; exact .self
        · exact .up he h
      · intro h
        rcases h.cases' he with h | h
        · left
          have : a = t := phi_inj (h.trans hv)
          omega
        · exact .inr h
    refine ⟨k + 1, (t : Int) :: L, ?_, fun x hx => ?_, hmem, ?_, fun p e hle2 hp hRe hev => ?_⟩
    · unfold upF
      rw [if_pos (by rw [hnl]; omega), if_pos (by omega), Int.toNat_natCast, hnear, h1]; rfl
    · rcases List.mem_cons.1 hx with rfl | hx
      · exact ⟨t, rfl, ht⟩
      · exact h2 x hx
    · refine List.nodup_cons.2 ⟨fun hm => ?_, h4⟩
      have := (h3 t ht).1 hm
      rw [← hv] at this
      exact T.total _ e' hRv he this
    · by_cases hpt : p (t : Int) = true
      · have h6 := (hp t ht).1 hpt
        rw [← hv] at h6
        have h7 := (hanti e (t + 1) hRv hev).2 h6
        subst h7
        rw [List.find?_cons, hpt]
        unfold unphi; rw [if_neg (by omega)]; simp
      · have hne : e ≠ t + 1 := by
          rintro rfl
          exact hpt ((hp t ht).2 (by rw [← hv]; exact .self))
        have h6 : Anc d e e' := by
          rcases hev.cases' he with h | h
          · exact absurd h hne
          · exact h
        rw [List.find?_cons]
        simp only [Bool.not_eq_true] at hpt
        rw [hpt]
        exact h5 p e hle2 hp hRe h6
end
end DM
end Go.Proofs.Ytkjafkegkllbiaa
