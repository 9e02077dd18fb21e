/- Nearest dominators of any graph: ranks, who comes ahead, and what is told. Plain. -/
import Derived.Test.YtkjafkegkllbiaaDomD
namespace Go.Proofs.Ytkjafkegkllbiaa
set_option linter.unusedSimpArgs false
set_option linter.unusedVariables false
namespace DM
/-- ranks: how far behind each stands -/
def rkF : List Nat → Nat → List Int → List Int
  | [], _, r => r
  | a :: l, i, r => rkF l (i + 1) (r.set a (i : Int))
/-- one comes ahead of all those of its row -/
def prF1 (n a : Nat) : List Int → List (List Nat) → List (List Nat)
  | [], P => P
  | t :: ts, P => prF1 n a ts (if okN n t = true then P.set t.toNat (P.getD t.toNat [] ++ [a]) else P)
def prF (next : List (List Int)) : List Nat → List (List Nat) → List (List Nat)
  | [], P => P
  | a :: l, P => prF next l (prF1 next.length a (rowN next a) P)
theorem rkF_len : ∀ {l : List Nat} {i : Nat} {r : List Int}, (rkF l i r).length = r.length
  | [], _, _ => rfl
  | a :: l, i, r => by unfold rkF; rw [rkF_len, List.length_set]
theorem rkF_out : ∀ {l : List Nat} {i : Nat} {r : List Int} {v : Nat}, v ∉ l → gI (rkF l i r) v = gI r v
  | [], _, _, _, _ => rfl
  | a :: l, i, r, v, h => by
    unfold rkF
    rw [rkF_out (fun hh => h (by simp [hh])), gI_set, if_neg (fun hh => h (by simp [hh.1]))]
theorem rkF_in : ∀ {l : List Nat} {i : Nat} {r : List Int} {v : Nat}, l.Nodup → (∀ x ∈ l, x < r.length) → v ∈ l → gI (rkF l i r) v = ((i + l.idxOf v : Nat) : Int)
  | [], _, _, _, _, _, h => by cases h
  | a :: l, i, r, v, hn, hl, h => by
    have hn' := List.nodup_cons.1 hn
    unfold rkF
    by_cases hva : v = a
    · subst hva
      rw [rkF_out hn'.1, gI_set, if_pos ⟨rfl, hl v (by simp)⟩]
      simp
    · have hv : v ∈ l := by
        rcases List.mem_cons.1 h with h | h
        · exact absurd h hva
        · exact h
      rw [rkF_in hn'.2 (fun x hx => by rw [List.length_set]; exact hl x (by simp [hx])) hv, List.idxOf_cons]
      have : (a == v) = false := by simpa using fun hh => hva hh.symm
      rw [this]
      simp only [cond_false]
      congr 1; omega
theorem pr1_len {n a : Nat} : ∀ {l : List Int} {P : List (List Nat)}, (prF1 n a l P).length = P.length
  | [], _ => rfl
  | t :: ts, P => by unfold prF1; rw [pr1_len]; split <;> simp
theorem getD_setP {P : List (List Nat)} {t v : Nat} {x : List Nat} : (P.set t x).getD v [] = if t = v ∧ v < P.length then x else P.getD v [] := by
  rw [List.getD_eq_getElem?_getD, List.getD_eq_getElem?_getD, List.getElem?_set]
  by_cases h : t = v
  · subst h
    by_cases h2 : t < P.length
    · simp [h2]
    · simp [h2]
  · simp [h]
theorem pr1_mem {n a : Nat} : ∀ {l : List Int} {P : List (List Nat)} {v p : Nat}, P.length = n → (p ∈ (prF1 n a l P).getD v [] ↔ p ∈ P.getD v [] ∨ (p = a ∧ (v : Int) ∈ l ∧ v < n))
  | [], P, v, p, _ => by simp [prF1]
  | t :: ts, P, v, p, hP => by
    unfold prF1
    rw [pr1_mem (by split <;> simp [hP])]
    by_cases ht : okN n t = true
    · obtain ⟨h1, h2⟩ := okN_cast ht
      rw [if_pos ht, getD_setP, hP]
      by_cases hv : t.toNat = v ∧ v < n
      · obtain ⟨hv1, hv2⟩ := hv
        rw [if_pos ⟨hv1, hv2⟩, hv1]
        have ht' : t = (v : Int) := by omega
        subst ht'
        simp only [List.mem_append, List.mem_cons, List.not_mem_nil, or_false, true_or, true_and]
        constructor
        · rintro ((h | h) | ⟨h, _, _⟩)
          · exact .inl h
          · exact .inr ⟨h, hv2⟩
          · exact .inr ⟨h, hv2⟩
        · rintro (h | ⟨h, _⟩)
          · exact .inl (.inl h)
          · exact .inl (.inr h)
      · rw [if_neg hv]
        constructor
        · rintro (h | ⟨h, h3, h4⟩)
          · exact .inl h
          · exact .inr ⟨h, by simp [h3], h4⟩
        · rintro (h | ⟨h, h3, h4⟩)
          · exact .inl h
          · rcases List.mem_cons.1 h3 with h3 | h3
            · exact absurd ⟨by omega, h4⟩ hv
            · exact .inr ⟨h, h3, h4⟩
    · rw [if_neg ht]
      constructor
      · rintro (h | ⟨h, h3, h4⟩)
        · exact .inl h
        · exact .inr ⟨h, by simp [h3], h4⟩
      · rintro (h | ⟨h, h3, h4⟩)
        · exact .inl h
        · rcases List.mem_cons.1 h3 with h3 | h3
          · exact absurd (decide_eq_true (by omega)) ht
          · exact .inr ⟨h, h3, h4⟩
theorem pr_len {next : List (List Int)} : ∀ {l : List Nat} {P : List (List Nat)}, (prF next l P).length = P.length
  | [], _ => rfl
  | a :: l, P => by unfold prF; rw [pr_len, pr1_len]
theorem pr_mem {next : List (List Int)} : ∀ {l : List Nat} {P : List (List Nat)} {v p : Nat}, P.length = next.length → (p ∈ (prF next l P).getD v [] ↔ p ∈ P.getD v [] ∨ (p ∈ l ∧ Eg next p v))
  | [], P, v, p, _ => by simp [prF]
  | a :: l, P, v, p, hP => by
    unfold prF
    rw [pr_mem (by rw [pr1_len, hP]), pr1_mem hP]
    unfold Eg
    constructor
    · rintro ((h | ⟨rfl, h1, h2⟩) | ⟨h, h1⟩)
      · exact .inl h
      · exact .inr ⟨by simp, h1, h2⟩
      · exact .inr ⟨by simp [h], h1⟩
    · rintro (h | ⟨h, h1⟩)
      · exact .inl (.inl h)
      · rcases List.mem_cons.1 h with rfl | h
        · exact .inl (.inr ⟨rfl, h1⟩)
        · exact .inr ⟨h, h1⟩
theorem nodup_le : ∀ (n : Nat) (l : List Nat), l.Nodup → (∀ x ∈ l, x < n) → l.length ≤ n
  | 0, l, _, h => by
    cases l with
    | nil => simp
    | cons a l => exact absurd (h a (by simp)) (by omega)
  | n + 1, l, hn, h => by
    have h1 := nodup_le n (l.erase n) (hn.erase n) (fun x hx => by
      have h2 := (List.Nodup.mem_erase_iff hn).1 hx
      have := h x h2.2
      have := h2.1
      omega)
    rw [List.length_erase] at h1
    split at h1 <;> omega
/-- the order, however it is told -/
theorem order_all (next : List (List Int)) (hn : 0 < next.length) : ∃ K f m new, orun next K [(0, 0)] ((List.replicate next.length false).set 0 true) [] = some (new ++ [0]) ∧
    restF next f 0 0 ((List.replicate next.length false).set 0 true) [] = some (m, new ++ [0]) ∧ Rst next 0 0 ((List.replicate next.length false).set 0 true) m new := by
  obtain ⟨f, m, d, h, _⟩ := rest_some (next := next) _ ((List.replicate next.length false).set 0 true) rfl _ 0 0 [] rfl
  obtain ⟨new, hd, hr⟩ := rest_rst h
  simp only [List.nil_append] at hd
  subst hd
  obtain ⟨K, hK⟩ := rest_run h (Nat.zero_le _) (S := []) (K := 0) (r := new ++ [0]) (by simp [orun])
  exact ⟨K, f, m, new, hK, h, hr⟩
/-- nearest dominators, of any graph that isn't empty -/
theorem idom_all (next : List (List Int)) (new : List Nat) (m : List Bool) (hn : 0 < next.length) (r : Rst next 0 0 ((List.replicate next.length false).set 0 true) m new) :
    ∃ K DF, settleF (prF next (0 :: new.reverse) (List.replicate next.length [])) (rkF (0 :: new.reverse) 0 (List.replicate next.length 0)) (2 * next.length) (0 :: new.reverse) K (List.replicate next.length (-1)) = some DF ∧
      DF.length = next.length ∧ Fine DF ∧ (0 :: new.reverse).length ≤ next.length ∧ (∀ v ∈ 0 :: new.reverse, v < next.length) ∧ (0 :: new.reverse).Nodup ∧
      (∀ b, b < next.length → gI DF b = bestF next b next.length) ∧ Tree (Eg next) (· ∈ 0 :: new.reverse) (dOf DF) ∧ (∀ v, v ∈ 0 :: new.reverse ↔ ∃ l, Way (Eg next) l v) ∧
      (∀ x v, v ∈ 0 :: new.reverse → Anc (dOf DF) x v → x ∈ 0 :: new.reverse ∧ ((0 :: new.reverse).idxOf x < (0 :: new.reverse).idxOf v ∨ x = v)) := by
  obtain ⟨hnd, hlt, q, G⟩ := order_gr hn r
  generalize ho : 0 :: new.reverse = order at *
  have hsub : order.length ≤ next.length := nodup_le _ _ hnd hlt
  have hD0 : (List.replicate next.length (-1 : Int)).length = next.length := by simp
  have hgD : ∀ v, v < next.length → gI (List.replicate next.length (-1 : Int)) v = -1 := fun v hv => by
    unfold gI; rw [List.getD_eq_getElem?_getD, List.getElem?_replicate, if_pos hv]; rfl
  have hfine : Fine (List.replicate next.length (-1 : Int)) := fun v hv => .inl (hgD v (by simpa using hv))
  have hnone : ∀ v, dOf (List.replicate next.length (-1 : Int)) v = none := fun v => by
    unfold dOf
    rw [if_neg]
    rintro ⟨h1, h2⟩
    rw [hgD v (by simpa using h2)] at h1
    have := of_decide_eq_true h1
    omega
  have hidx : ∀ v ∈ order, order.idxOf v < order.length := fun v hv => List.idxOf_lt_length_of_mem hv
  have O : Ok (Eg next) (· ∈ order) (order.idxOf ·) q (List.replicate next.length (-1)) (rkF order 0 (List.replicate next.length 0)) (2 * next.length) :=
    ⟨G, hfine, fun v hv => by rw [hD0]; exact hlt v hv, fun v hv => by rw [rkF_in hnd (fun x hx => by simpa using hlt x hx) hv]; simp, fun v hv => by have := hidx v hv; omega⟩
  obtain ⟨K, DF, h1, h2, h3, h4, h5⟩ := settle_spec (P := prF next order (List.replicate next.length [])) (fun v => Iff.rfl) (fun A v B hh => nodup_mid hh hnd) hidx
    (fun v hv p => by
      rw [pr_mem (by simp)]
      constructor
      · rintro (h | h)
        · rw [List.getD_eq_getElem?_getD, List.getElem?_replicate] at h
          split at h <;> cases h
        · exact h
      · exact fun h => .inr h) _ _ O (Inv.zero G hnone) (Nat.le_refl _)
  have hlen : DF.length = next.length := by rw [h3, hD0]
  have hway := way_R G
  have hanc : ∀ x v, v ∈ order → Anc (dOf DF) x v → x ∈ order ∧ (order.idxOf x < order.idxOf v ∨ x = v) := by
    intro x v hv h
    induction h with
    | self => exact ⟨hv, .inr rfl⟩
    | @up v w e k ih =>
      have hv0 : v ≠ 0 := by rintro rfl; rw [h2.zero] at e; cases e
      obtain ⟨e', he', hR'⟩ := h2.has v hv hv0
      rw [e] at he'
      cases he'
      obtain ⟨i1, i2⟩ := ih hR'
      refine ⟨i1, .inl ?_⟩
      have hdm : Dm (Eg next) w v := (h2.dom v hv w).2 (.up e .self)
      have hwq : order.idxOf w < order.idxOf v := by
        have hne : w ≠ v := by rintro rfl; exact h2.total w w hv e .self
        have hq := dm_step hdm hne (G.qE v hv hv0)
        have hql := G.ql v hv hv0
        have : ∀ N x, order.idxOf x ≤ N → x ∈ order → Dm (Eg next) w x → order.idxOf w ≤ order.idxOf x := by
          intro N
          induction N with
          | zero =>
            intro x hx hxo hd
            have : x = 0 := G.inj x 0 hxo G.zero (by have := G.rk0; omega)
            subst this
            rw [dm_zero hd]; exact Nat.le_refl _
          | succ N ihN =>
            intro x hx hxo hd
            by_cases hwx : w = x
            · rw [hwx]; exact Nat.le_refl _
            · have hx0 : x ≠ 0 := by rintro rfl; exact hwx (dm_zero hd)
              have h6 := G.ql x hxo hx0
              have := ihN (q x) (by omega) (G.qR x hxo hx0) (dm_step hd hwx (G.qE x hxo hx0))
              omega
        have := this _ (q v) (Nat.le_refl _) (G.qR v hv hv0) hq
        omega
      rcases i2 with i2 | rfl
      · omega
      · exact hwq
  refine ⟨K, DF, h1, hlen, h4, hsub, hlt, hnd, fun b hb => ?_, h2, hway, hanc⟩
  have hb2 := best_spec (R := (· ∈ order)) hway hlt h2 (fun x v hv h => ⟨(hanc x v hv h).1, fun k => by
    have h6 := (hanc x v hv h).2
    have h7 := (hanc v x (hanc x v hv h).1 k).2
    rcases h6 with h6 | h6
    · rcases h7 with h7 | h7
      · omega
      · exact h7.symm
    · exact h6⟩) b hb
  rcases hb2 with ⟨e, _, he, hbe⟩ | ⟨hno, hbe⟩
  · rw [hbe]; exact (dOf_some he).1
  · rw [hbe]
    rcases hno with hno | hno
    · rw [h5 b hno]; exact hgD b hb
    · exact dOf_none hno h4 (by rw [hlen]; exact hb)
end DM
end Go.Proofs.Ytkjafkegkllbiaa
