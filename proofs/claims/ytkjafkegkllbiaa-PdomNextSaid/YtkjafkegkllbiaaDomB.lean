/- Places in their order: the walk by a list of places, and by calls of itself. Plain. -/
import Derived.Test.YtkjafkegkllbiaaDomA
namespace Go.Proofs.Ytkjafkegkllbiaa
set_option linter.unusedSimpArgs false
set_option linter.unusedVariables false
namespace DM
def gI (L : List Int) (i : Nat) : Int := L.getD i 0
def rowN (next : List (List Int)) (a : Nat) : List Int := next.getD a []
def okN (n : Nat) (t : Int) : Bool := decide (0 ≤ t ∧ t < (n : Int))
/-- one step goes from u to v -/
def Eg (next : List (List Int)) (u v : Nat) : Prop := (v : Int) ∈ rowN next u ∧ v < next.length
def orun (next : List (List Int)) : Nat → List (Nat × Nat) → List Bool → List Nat → Option (List Nat)
  | _, [], _, out => some out
  | 0, _ :: _, _, _ => none
  | k + 1, (a, i) :: S, met, out =>
    if i = (rowN next a).length then orun next k S met (out ++ [a])
    else if okN next.length ((rowN next a).getD i 0) = true ∧ met.getD ((rowN next a).getD i 0).toNat true = false then
      orun next k ((((rowN next a).getD i 0).toNat, 0) :: (a, i + 1) :: S) (met.set ((rowN next a).getD i 0).toNat true) out
    else orun next k ((a, i + 1) :: S) met out
def restF (next : List (List Int)) : Nat → Nat → Nat → List Bool → List Nat → Option (List Bool × List Nat)
  | 0, _, _, _, _ => none
  | f + 1, i, k, met, done =>
    if (rowN next i).length ≤ k then some (met, done ++ [i])
    else if okN next.length ((rowN next i).getD k 0) = true ∧ met.getD ((rowN next i).getD k 0).toNat true = false then
      match restF next f ((rowN next i).getD k 0).toNat 0 (met.set ((rowN next i).getD k 0).toNat true) done with
      | none => none
      | some (m, d) => restF next f i (k + 1) m d
    else restF next f i (k + 1) met done
theorem rest_more {next : List (List Int)} : ∀ {f g : Nat} {i k : Nat} {met : List Bool} {done : List Nat} {r : List Bool × List Nat}, restF next f i k met done = some r → f ≤ g → restF next g i k met done = some r
  | 0, _, _, _, _, _, _, h, _ => by simp [restF] at h
  | f + 1, 0, _, _, _, _, _, _, hg => by omega
  | f + 1, g + 1, i, k, met, done, r, h, hg => by
    unfold restF at h ⊢
    split at h
    · rename_i h1; rw [if_pos h1]; exact h
    · rename_i h1
      rw [if_neg h1]
      split at h
      · rename_i h2
        rw [if_pos h2]
        split at h
        · cases h
        · rename_i m d h3
          rw [rest_more h3 (by omega)]
          exact rest_more h (by omega)
      · rename_i h2
        rw [if_neg h2]
        exact rest_more h (by omega)
theorem count_set {l : List Bool} : ∀ {t : Nat}, l.getD t true = false → (l.set t true).count false + 1 = l.count false := by
  induction l with
  | nil => intro t h; simp at h
  | cons a l ih =>
    intro t h
    cases t with
    | zero =>
      simp at h
      subst h
      simp
    | succ t =>
      have := ih (t := t) (by simpa using h)
      rw [List.set_cons_succ, List.count_cons, List.count_cons]
      omega
theorem rest_some {next : List (List Int)} (u : Nat) : ∀ (met : List Bool), met.count false = u → ∀ (j i k : Nat) (done : List Nat), (rowN next i).length - k = j → ∃ f m d, restF next f i k met done = some (m, d) ∧ m.count false ≤ u := by
  induction u using Nat.strongRecOn with
  | _ u ihu =>
    intro met hmet j
    induction j with
    | zero =>
      intro i k done hj
      exact ⟨1, met, done ++ [i], by unfold restF; rw [if_pos (by omega)], by omega⟩
    | succ j ihj =>
      intro i k done hj
      by_cases hv : okN next.length ((rowN next i).getD k 0) = true ∧ met.getD ((rowN next i).getD k 0).toNat true = false
      · have hc := count_set hv.2
        obtain ⟨f1, m1, d1, h1, c1⟩ := ihu (u - 1) (by omega) (met.set ((rowN next i).getD k 0).toNat true) (by omega) _ ((rowN next i).getD k 0).toNat 0 done rfl
        obtain ⟨f2, m2, d2, h2, c2⟩ := ihu (m1.count false) (by omega) m1 rfl _ i (k + 1) d1 rfl
        refine ⟨max f1 f2 + 1, m2, d2, ?_, by omega⟩
        unfold restF
        rw [if_neg (by omega), if_pos hv, rest_more h1 (Nat.le_max_left _ _)]
        exact rest_more h2 (Nat.le_max_right _ _)
      · obtain ⟨f2, m2, d2, h2, c2⟩ := ihj i (k + 1) done (by omega)
        refine ⟨f2 + 1, m2, d2, ?_, by omega⟩
        unfold restF
        rw [if_neg (by omega), if_neg hv]
        exact h2
theorem rest_run {next : List (List Int)} : ∀ {f : Nat} {i k : Nat} {met : List Bool} {done : List Nat} {m : List Bool} {d : List Nat}, restF next f i k met done = some (m, d) → k ≤ (rowN next i).length →
    ∀ {S K r}, orun next K S m d = some r → ∃ K', orun next K' ((i, k) :: S) met done = some r
  | 0, _, _, _, _, _, _, h, _, _, _, _, _ => by simp [restF] at h
  | f + 1, i, k, met, done, m, d, h, hk, S, K, r, hr => by
    unfold restF at h
    split at h
    · rename_i h1
      cases h
      exact ⟨K + 1, by unfold orun; rw [if_pos (by omega)]; exact hr⟩
    · rename_i h1
      split at h
      · rename_i h2
        split at h
        · cases h
        · rename_i m1 d1 h3
          obtain ⟨K1, hK1⟩ := rest_run h (by omega) hr
          obtain ⟨K2, hK2⟩ := rest_run h3 (by omega) hK1
          exact ⟨K2 + 1, by unfold orun; rw [if_neg (by omega), if_pos h2]; exact hK2⟩
      · rename_i h2
        obtain ⟨K1, hK1⟩ := rest_run h (by omega) hr
        exact ⟨K1 + 1, by unfold orun; rw [if_neg (by omega), if_neg h2]; exact hK1⟩
/-- what a place and what is behind it add -/
structure Rst (next : List (List Int)) (i k : Nat) (met : List Bool) (m : List Bool) (new : List Nat) : Prop where
  nd : new.Nodup
  un : ∀ x ∈ new, x < next.length ∧ met.getD x true = false
  mt : ∀ x, m.getD x true = true ↔ met.getD x true = true ∨ x ∈ new
  par : ∀ x ∈ new, ∃ A B p, new ++ [i] = A ++ x :: B ∧ p ∈ B ∧ Eg next p x
  cl : ∀ x ∈ new, ∀ y, Eg next x y → m.getD y true = true
  own : ∀ j, k ≤ j → j < (rowN next i).length → okN next.length ((rowN next i).getD j 0) = true → m.getD ((rowN next i).getD j 0).toNat true = true
  len : m.length = met.length
theorem getD_set_true {l : List Bool} {t x : Nat} : (l.set t true).getD x true = true ↔ l.getD x true = true ∨ x = t := by
  rw [List.getD_eq_getElem?_getD, List.getD_eq_getElem?_getD, List.getElem?_set]
  by_cases h : t = x
  · subst h
    simp
    by_cases h2 : t < l.length
    · simp [h2]
    · simp [h2]
  · simp [h]
    intro h'; exact absurd h'.symm h
theorem okN_cast {n : Nat} {t : Int} (h : okN n t = true) : ((t.toNat : Nat) : Int) = t ∧ t.toNat < n := by
  have := of_decide_eq_true h
  omega
theorem rest_rst {next : List (List Int)} : ∀ {f : Nat} {i k : Nat} {met : List Bool} {done : List Nat} {m : List Bool} {d : List Nat}, restF next f i k met done = some (m, d) → ∃ new, d = done ++ new ++ [i] ∧ Rst next i k met m new
  | 0, _, _, _, _, _, _, h => by simp [restF] at h
  | f + 1, i, k, met, done, m, d, h => by
    unfold restF at h
    split at h
    · rename_i h1
      cases h
      exact ⟨[], by simp, ⟨List.nodup_nil, by simp, by simp, by simp, by simp, fun j h2 h3 => by omega, rfl⟩⟩
    · rename_i h1
      have hget : (rowN next i).getD k 0 ∈ rowN next i := by
        rw [List.getD_eq_getElem?_getD, List.getElem?_eq_getElem (by omega)]
        exact List.getElem_mem _
      split at h
      · rename_i h2
        split at h
        · cases h
        · rename_i m1 d1 h3
          obtain ⟨n1, rfl, r1⟩ := rest_rst h3
          obtain ⟨n2, rfl, r2⟩ := rest_rst h
          obtain ⟨ht, htn⟩ := okN_cast h2.1
          generalize hT : ((rowN next i).getD k 0).toNat = t at *
          have hE : Eg next i t := ⟨by rw [ht]; exact hget, htn⟩
          have hm1 : ∀ x, m1.getD x true = true ↔ met.getD x true = true ∨ x = t ∨ x ∈ n1 := fun x => by rw [r1.mt, getD_set_true, or_assoc]
          refine ⟨n1 ++ [t] ++ n2, by simp, ?_⟩
          have hnt : t ∉ n1 := fun hx => by
            have := (r1.un t hx).2
            have h4 : (met.set t true).getD t true = true := getD_set_true.2 (.inr rfl)
            rw [h4] at this; cases this
          have hn1 : ∀ x ∈ n1, met.getD x true = false := fun x hx => by
            have := (r1.un x hx).2
            cases hh : met.getD x true with
            | false => rfl
            | true => rw [getD_set_true.2 (.inl hh)] at this; cases this
          have hn2 : ∀ x ∈ n2, met.getD x true = false ∧ x ≠ t ∧ x ∉ n1 := fun x hx => by
            have := (r2.un x hx).2
            refine ⟨?_, ?_, ?_⟩
            · cases hh : met.getD x true with
              | false => rfl
              | true => rw [(hm1 x).2 (.inl hh)] at this; cases this
            · intro hh; rw [(hm1 x).2 (.inr (.inl hh))] at this; cases this
            · intro hh; rw [(hm1 x).2 (.inr (.inr hh))] at this; cases this
          have hmm : ∀ x, m1.getD x true = true → m.getD x true = true := fun x hx => (r2.mt x).2 (.inl hx)
          refine ⟨?_, ?_, ?_, ?_, ?_, ?_, ?_⟩
          · rw [List.append_assoc]
            refine List.nodup_append.2 ⟨r1.nd, ?_, ?_⟩
            · rw [List.singleton_append, List.nodup_cons]
              exact ⟨fun h => (hn2 t h).2.1 rfl, r2.nd⟩
            · intro a ha b hb hab
              subst hab
              rcases List.mem_append.1 hb with hb | hb
              · rw [List.mem_singleton] at hb; subst hb; exact hnt ha
              · exact (hn2 a hb).2.2 ha
          · intro x hx
            rcases List.mem_append.1 hx with hx | hx
            · rcases List.mem_append.1 hx with hx | hx
              · exact ⟨(r1.un x hx).1, hn1 x hx⟩
              · rw [List.mem_singleton] at hx; subst hx; exact ⟨htn, h2.2⟩
            · exact ⟨(r2.un x hx).1, (hn2 x hx).1⟩
          · intro x
            rw [r2.mt, hm1]
            simp only [List.mem_append, List.mem_singleton]
            constructor
            · rintro ((h | h | h) | h)
              · exact .inl h
              · exact .inr (.inl (.inr h))
              · exact .inr (.inl (.inl h))
              · exact .inr (.inr h)
            · rintro (h | (h | h) | h)
              · exact .inl (.inl h)
              · exact .inl (.inr (.inr h))
              · exact .inl (.inr (.inl h))
              · exact .inr h
          · intro x hx
            rcases List.mem_append.1 hx with hx | hx
            · rcases List.mem_append.1 hx with hx | hx
              · obtain ⟨A, B, p, e1, e2, e3⟩ := r1.par x hx
                exact ⟨A, B ++ n2 ++ [i], p, by rw [e1]; simp, by simp [e2], e3⟩
              · rw [List.mem_singleton] at hx; subst hx
                exact ⟨n1, n2 ++ [i], i, by simp, by simp, hE⟩
            · obtain ⟨A, B, p, e1, e2, e3⟩ := r2.par x hx
              exact ⟨n1 ++ [t] ++ A, B, p, by rw [List.append_assoc, e1]; simp, e2, e3⟩
          · intro x hx y hy
            rcases List.mem_append.1 hx with hx | hx
            · rcases List.mem_append.1 hx with hx | hx
              · exact hmm _ (r1.cl x hx y hy)
              · rw [List.mem_singleton] at hx; subst hx
                obtain ⟨j, hj, hjy⟩ := List.getElem_of_mem hy.1
                have hgd : (rowN next x).getD j 0 = (y : Int) := by rw [List.getD_eq_getElem?_getD, List.getElem?_eq_getElem hj]; exact hjy
                have := r1.own j (by omega) hj (by rw [hgd]; exact decide_eq_true (by have := hy.2; omega))
                rw [hgd] at this
                exact hmm _ this
            · exact r2.cl x hx y hy
          · intro j hj hl ho
            by_cases hjk : j = k
            · subst hjk
              rw [hT]
              exact hmm t ((hm1 t).2 (.inr (.inl rfl)))
            · exact r2.own j (by omega) hl ho
          · rw [r2.len, r1.len, List.length_set]
      · rename_i h2
        obtain ⟨n2, rfl, r2⟩ := rest_rst h
        refine ⟨n2, rfl, { r2 with own := fun j hj hl ho => ?_ }⟩
        by_cases hjk : j = k
        · subst hjk
          refine (r2.mt _).2 (.inl ?_)
          cases hh : met.getD ((rowN next i).getD j 0).toNat true with
          | true => rfl
          | false => exact absurd ⟨ho, hh⟩ h2
        · exact r2.own j (by omega) hl ho
end DM
namespace DM
theorem nodup_mid {A B : List Nat} {x : Nat} {l : List Nat} (h : l = A ++ x :: B) (hn : l.Nodup) : l.idxOf x = A.length := by
  subst h
  have : x ∉ A := fun hx => (List.nodup_append.1 hn).2.2 x hx x (by simp) rfl
  rw [List.idxOf_append, if_neg this]
  simp
/-- the places in their order: a graph -/
theorem order_gr {next : List (List Int)} {m : List Bool} {new : List Nat} (hn : 0 < next.length) (r : Rst next 0 0 ((List.replicate next.length false).set 0 true) m new) :
    (0 :: new.reverse).Nodup ∧ (∀ x ∈ 0 :: new.reverse, x < next.length) ∧ ∃ q, Gr (Eg next) (· ∈ 0 :: new.reverse) ((0 :: new.reverse).idxOf ·) q := by
  have h0 : 0 ∉ new := fun h => by
    have := (r.un 0 h).2
    rw [getD_set_true.2 (.inr rfl)] at this
    cases this
  have hnd : (0 :: new.reverse).Nodup := List.nodup_cons.2 ⟨by simpa using h0, by unfold List.Nodup at *; rw [List.pairwise_reverse]; exact r.nd.imp (fun h => Ne.symm h)⟩
  have hmt : ∀ x, m.getD x true = true → x < next.length → x ∈ 0 :: new.reverse := fun x hx hl => by
    rcases (r.mt x).1 hx with h | h
    · rcases getD_set_true.1 h with h | h
      · rw [List.getD_eq_getElem?_getD, List.getElem?_replicate, if_pos hl] at h
        cases h
      · subst h; simp
    · simp [h]
  refine ⟨hnd, fun x hx => ?_, ?_⟩
  · rcases List.mem_cons.1 hx with rfl | hx
    · exact hn
    · exact (r.un x (by simpa using hx)).1
  have hpar : ∀ x, ∃ p, x ∈ new → p ∈ 0 :: new.reverse ∧ Eg next p x ∧ (0 :: new.reverse).idxOf p < (0 :: new.reverse).idxOf x := by
    intro x
    by_cases hx : x ∈ new
    · obtain ⟨A, B, p, e1, e2, e3⟩ := r.par x hx
      refine ⟨p, fun _ => ?_⟩
      have e4 : 0 :: new.reverse = B.reverse ++ x :: A.reverse := by
        have := congrArg List.reverse e1
        simpa using this
      obtain ⟨C, D, rfl⟩ := List.append_of_mem e2
      have e5 : 0 :: new.reverse = D.reverse ++ p :: (C.reverse ++ x :: A.reverse) := by rw [e4]; simp
      refine ⟨by rw [e5]; simp, e3, ?_⟩
      rw [nodup_mid e4 hnd, nodup_mid e5 hnd]
      simp
    · exact ⟨0, fun h => absurd h hx⟩
  refine ⟨fun x => Classical.choose (hpar x), ⟨by simp, by simp, ?_, ?_, ?_, ?_, ?_⟩⟩
  · intro u v hu hv h
    have h1 := List.getElem_idxOf (List.idxOf_lt_length_of_mem hu)
    have h2 := List.getElem_idxOf (List.idxOf_lt_length_of_mem hv)
    simp only [h] at h1
    exact h1.symm.trans h2
  · intro u v hu he
    refine hmt v ?_ he.2
    rcases List.mem_cons.1 hu with rfl | hu
    · obtain ⟨j, hj, hjy⟩ := List.getElem_of_mem he.1
      have hgd : (rowN next 0).getD j 0 = (v : Int) := by rw [List.getD_eq_getElem?_getD, List.getElem?_eq_getElem hj]; exact hjy
      have := r.own j (by omega) hj (by rw [hgd]; exact decide_eq_true (by have := he.2; omega))
      rw [hgd] at this
      exact this
    · exact r.cl u (by simpa using hu) v he
  all_goals
    intro v hv h0
    have hv' : v ∈ new := by
      rcases List.mem_cons.1 hv with h | h
      · exact absurd h h0
      · simpa using h
    have := Classical.choose_spec (hpar v) hv'
    first | exact this.1 | exact this.2.1 | exact this.2.2
end DM
end Go.Proofs.Ytkjafkegkllbiaa
