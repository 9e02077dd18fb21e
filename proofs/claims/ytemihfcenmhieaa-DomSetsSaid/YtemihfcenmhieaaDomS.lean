/- Sets of dominators: what the order makes them. Plain. -/
import Derived.Test.YtemihfcenmhieaaDomE
import Derived.Test.YtemihfcenmhieaaDmUp
import Derived.Test.YtemihfcenmhieaaBitPure
namespace Go.Proofs.Ytemihfcenmhieaa
set_option linter.unusedSimpArgs false
set_option linter.unusedVariables false
open DM
/-- the sets behind so many of the order -/
def setsF (D : List Int) : List Nat → List (List Bool) → List (List Bool)
  | [], S => S
  | v :: l, S => setsF D l (S.set v (withB (if v = 0 then S.getD 0 [] else S.getD (gI D v).toNat []) (v : Int)))
theorem getD_setS {S : List (List Bool)} {t v : Nat} {x : List Bool} : (S.set t x).getD v [] = if t = v ∧ v < S.length then x else S.getD v [] := by
  rw [List.getD_eq_getElem?_getD, List.getD_eq_getElem?_getD, List.getElem?_set]
  by_cases h : t = v
  · subst h
    by_cases h2 : t < S.length
    · simp [h2]
    · simp [h2]
  · simp [h]
theorem setsF_len {D : List Int} : ∀ {l : List Nat} {S : List (List Bool)}, (setsF D l S).length = S.length
  | [], _ => rfl
  | v :: l, S => by unfold setsF; rw [setsF_len, List.length_set]
/-- what a set has -/
def Has (D : List Int) (n : Nat) (S : List (List Bool)) (R : Nat → Prop) : Prop :=
  S.length = n ∧ (∀ v, v < n → (S.getD v []).length = n) ∧ (∀ v, v < n → ∀ a, a < n → ((S.getD v []).getD a false = true ↔ R v ∧ Anc (dOf D) a v))
theorem sets_spec {next : List (List Int)} {D : List Int} {order : List Nat} (hD : D.length = next.length) (hlt : ∀ v ∈ order, v < next.length) (hnd : order.Nodup) (T : Tree (Eg next) (· ∈ order) (dOf D))
    (hr : ∀ x v, v ∈ order → Anc (dOf D) x v → x ∈ order ∧ (order.idxOf x < order.idxOf v ∨ x = v)) : ∀ (l A : List Nat) (S : List (List Bool)), order = A ++ l → Has D next.length S (· ∈ A) → Has D next.length (setsF D l S) (· ∈ order) := by
  intro l
  induction l with
  | nil => intro A S ho hS; simp at ho; subst ho; exact hS
  | cons v l ih =>
    intro A S ho hS
    have hv : v ∈ order := by rw [ho]; simp
    have hvn := hlt v hv
    have hvA : v ∉ A := fun hx => by
      rw [ho] at hnd
      exact (List.nodup_append.1 hnd).2.2 v hx v (by simp) rfl
    have hidx := nodup_mid ho hnd
    unfold setsF
    refine ih (A ++ [v]) _ (by rw [ho]; simp) ⟨by rw [List.length_set]; exact hS.1, ?_, ?_⟩
    · intro u hu
      rw [getD_setS]
      split
      · rw [withB_len]
        split
        · exact hS.2.1 0 (by omega)
        · rename_i h0
          obtain ⟨e, he, hRe⟩ := T.has v hv h0
          obtain ⟨g1, g2, _⟩ := dOf_some he
          rw [g1, Int.toNat_natCast]
          exact hS.2.1 e (by omega)
      · exact hS.2.1 u hu
    · intro u hu a ha
      rw [getD_setS]
      by_cases huv : v = u
      · subst huv
        rw [if_pos ⟨rfl, by rw [hS.1]; exact hu⟩]
        have key : ∀ X : List Bool, X.length = next.length → ((withB X (v : Int)).getD a false = true ↔ a = v ∨ X.getD a false = true) := by
          intro X hX
          unfold withB
          rw [if_pos (by omega), Int.toNat_natCast, set_getB _ _ _ _ (by omega)]
          by_cases hav : a = v
          · simp [hav]
          · simp [hav]
        by_cases h0 : v = 0
        · subst h0
          rw [if_pos rfl, key _ (hS.2.1 0 hu), hS.2.2 0 hu a ha]
          constructor
          · rintro (rfl | ⟨h, _⟩)
            · exact ⟨by simp, .self⟩
            · exact absurd h hvA
          · rintro ⟨_, h⟩
            exact .inl (h.cases_none T.zero)
        · rw [if_neg h0]
          obtain ⟨e, he, hRe⟩ := T.has v hv h0
          obtain ⟨g1, g2, _⟩ := dOf_some he
          rw [g1, Int.toNat_natCast, key _ (hS.2.1 e (by omega)), hS.2.2 e (by omega) a ha]
          have heA : e ∈ A := by
            have h1 := hr e v hv (.up he .self)
            rcases h1.2 with h1 | h1
            · rw [hidx] at h1
              rw [ho] at hRe
              rcases List.mem_append.1 hRe with h | h
              · exact h
              · exfalso
                have : e ∉ A := fun hx => by rw [ho] at hnd; exact (List.nodup_append.1 hnd).2.2 e hx e h rfl
                rw [ho, List.idxOf_append, if_neg this] at h1
                omega
            · subst h1; exact absurd .self (T.total e e hv he)
          constructor
          · rintro (rfl | ⟨_, h⟩)
            · exact ⟨by simp, .self⟩
            · exact ⟨by simp, .up he h⟩
          · rintro ⟨_, h⟩
            rcases h.cases' he with h | h
            · exact .inl h
            · exact .inr ⟨heA, h⟩
      · rw [if_neg (fun h => huv h.1), hS.2.2 u hu a ha]
        simp only [List.mem_append, List.mem_singleton]
        constructor
        · rintro ⟨h, k⟩; exact ⟨.inl h, k⟩
        · rintro ⟨h | h, k⟩
          · exact ⟨h, k⟩
          · exact absurd h.symm huv
theorem has_start {D : List Int} {n : Nat} : Has D n (List.replicate n (List.replicate n false)) (· ∈ ([] : List Nat)) := by
  have e : ∀ v, v < n → (List.replicate n (List.replicate n false)).getD v [] = List.replicate n false := fun v hv => by rw [List.getD_eq_getElem?_getD, List.getElem?_replicate, if_pos hv]; rfl
  refine ⟨by simp, fun v hv => by rw [e v hv]; simp, fun v hv a ha => ?_⟩
  rw [e v hv]
  simp [List.getD, List.getElem?_replicate, ha]
/-- going up by the list tells dominators -/
theorem hit_anc {D : List Int} {R : Nat → Prop} {rk : Nat → Nat} (hz : gI D 0 = -1) (hd : ∀ v, R v → v ≠ 0 → ∃ e, dOf D v = some e ∧ R e ∧ rk e < rk v) (h0 : dOf D 0 = none) (hlt : ∀ v, R v → v < D.length) (a : Nat) : ∀ (k v : Nat), R v → rk v < k → (hitB D (a : Int) (k + 1) (v : Int) = true ↔ Anc (dOf D) a v) := by
  intro k
  induction k with
  | zero => intro v _ h; omega
  | succ k ih =>
    intro v hv hk
    unfold hitB
    by_cases hav : a = v
    · subst hav
      simp only [if_true]
      exact ⟨fun _ => .self, fun _ => trivial⟩
    · rw [if_neg (by omega), if_pos (show okN D.length (v : Int) = true from decide_eq_true (by have := hlt v hv; omega)), Int.toNat_natCast]
      by_cases hv0 : v = 0
      · subst hv0
        rw [hz]
        constructor
        · intro h
          unfold hitB at h
          rw [if_neg (by omega), if_neg (by intro h; have := of_decide_eq_true h; omega)] at h
          cases h
        · intro h; exact absurd (h.cases_none h0) hav
      · obtain ⟨e, he, hRe, hre⟩ := hd v hv hv0
        rw [(dOf_some he).1, ih e hRe (by omega)]
        exact ⟨fun h => .up he h, fun h => (h.cases' he).resolve_left hav⟩
end Go.Proofs.Ytemihfcenmhieaa
