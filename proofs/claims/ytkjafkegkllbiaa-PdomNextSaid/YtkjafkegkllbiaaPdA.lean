/- Postdominators: the graph turned about, and the document's ways to the end. Plain. -/
import Derived.Test.YtkjafkegkllbiaaDomE
namespace Go.Proofs.Ytkjafkegkllbiaa
set_option linter.unusedSimpArgs false
set_option linter.unusedVariables false
namespace DM
/-- v is reached from s, where w is let be -/
inductive Rch (next : List (List Int)) (w : Int) (s : Nat) : Nat → Prop
  | base (h : (s : Int) ≠ w) : Rch next w s s
  | step {u v : Nat} (h : Rch next w s u) (e : Eg next u v) (hw : (v : Int) ≠ w) : Rch next w s v
theorem Rch.ne {next : List (List Int)} {w : Int} {s v : Nat} (h : Rch next w s v) : (v : Int) ≠ w := by
  cases h with
  | base h => exact h
  | step _ _ h => exact h
theorem Rch.ahead {next : List (List Int)} {w : Int} {s t v : Nat} (h : Rch next w t v) (e : Eg next s t) (hs : (s : Int) ≠ w) : Rch next w s v := by
  induction h with
  | base h => exact .step (.base hs) e h
  | step _ e2 hw ih => exact .step ih e2 hw
def reachG (next : List (List Int)) (s : Nat) (w : Int) : List Bool :=
  if next.length ≤ s ∨ (s : Int) = w then List.replicate next.length false else roundsF next w next.length ((List.replicate next.length false).set s true)
section
variable {next : List (List Int)} {w : Int} {Q : Nat → Prop}
theorem sweep_q (hQ : ∀ u v, Q u → Eg next u v → (v : Int) ≠ w → Q v) : ∀ {k : Nat} {o : List Bool}, o.length = next.length → (∀ v, o.getD v false = true → Q v) → ∀ v, (sweepF next w k o).getD v false = true → Q v
  | 0, o, _, h, v, hv => h v hv
  | k + 1, o, hl, h, v, hv => by
    have ih := sweep_q hQ (k := k) hl h
    unfold sweepF at hv
    simp only at hv
    split at hv
    · rename_i hk
      rcases (mark_iff (by rw [sweep_len, hl])).1 hv with h1 | ⟨h1, h2, h3⟩
      · exact ih v h1
      · exact hQ k v (ih k hk) ⟨h1, h2⟩ h3
    · exact ih v hv
theorem rounds_q (hQ : ∀ u v, Q u → Eg next u v → (v : Int) ≠ w → Q v) {o : List Bool} (hl : o.length = next.length) (h : ∀ v, o.getD v false = true → Q v) : ∀ {k : Nat}, ∀ v, (roundsF next w k o).getD v false = true → Q v
  | 0, v, hv => h v hv
  | k + 1, v, hv => by
    unfold roundsF at hv
    exact sweep_q hQ (by rw [rounds_len, hl]) (rounds_q hQ hl h (k := k)) v hv
end
theorem reachG_iff {next : List (List Int)} {w : Int} {s : Nat} (hs : s < next.length) (v : Nat) : (reachG next s w).getD v false = true ↔ Rch next w s v := by
  unfold reachG
  by_cases h0 : (s : Int) = w
  · rw [if_pos (.inr h0)]
    constructor
    · intro h
      rw [List.getD_eq_getElem?_getD, List.getElem?_replicate] at h
      split at h <;> cases h
    · intro h
      exfalso
      have : (s : Int) ≠ w := by
        clear hs
        induction h with
        | base h => exact h
        | step _ _ _ ih => exact ih
      exact this h0
  · rw [if_neg (by rintro (h | h); omega; exact h0 h)]
    have hl : ((List.replicate next.length false).set s true).length = next.length := by simp
    have hst : ∀ v, ((List.replicate next.length false).set s true).getD v false = true ↔ v = s := fun v => by
      rw [getD_set_f, List.length_replicate, List.getD_eq_getElem?_getD, List.getElem?_replicate]
      constructor
      · rintro (h | h)
        · split at h <;> cases h
        · exact h.1
      · intro h; exact .inr ⟨h, hs⟩
    constructor
    · exact rounds_q (Q := Rch next w s) (fun u v h e hw => .step h e hw) hl (fun v hv => by rw [(hst v).1 hv]; exact .base h0) v
    · intro h
      have hcl : Closed next w (roundsF next w next.length ((List.replicate next.length false).set s true)) := by
        rcases rounds_closed hl (k := next.length) (w := w) with h | h
        · exact h
        · exfalso
          have h1 : 1 ≤ ((List.replicate next.length false).set s true).count true := by
            refine List.one_le_count_iff.2 ?_
            have := (hst s).2 rfl
            rw [List.getD_eq_getElem?_getD] at this
            cases hg : ((List.replicate next.length false).set s true)[s]? with
            | none => rw [hg] at this; cases this
            | some b => rw [hg] at this; have : b = true := this; subst this; exact List.mem_of_getElem? hg
          have h2 := List.count_le_length (a := true) (l := roundsF next w next.length ((List.replicate next.length false).set s true))
          rw [rounds_len, hl] at h2
          omega
      induction h with
      | base h => exact rounds_mono ((hst s).2 rfl)
      | @step u v hu e hw ih =>
        refine hcl u ?_ ih v e hw
        rw [List.getD_eq_getElem?_getD] at ih
        by_cases hul : u < next.length
        · exact hul
        · rw [List.getElem?_eq_none (by rw [rounds_len, hl]; omega)] at ih; cases ih
/-- who is in whose list, as it is gathered: none twice in a row -/
def fp1 (n f : Nat) : List Int → List (List Nat) → List (List Nat)
  | [], P => P
  | t :: ts, P => fp1 n f ts (if okN n t = true ∧ ¬ (P.getD t.toNat []).getLast? = some f then P.set t.toNat (P.getD t.toNat [] ++ [f]) else P)
def fpF (n : Nat) : Nat → List (List Int) → List (List Nat) → List (List Nat)
  | _, [], P => P
  | f, l :: ls, P => fpF n (f + 1) ls (fp1 n f l P)
theorem fp1_len {n f : Nat} : ∀ {l : List Int} {P : List (List Nat)}, (fp1 n f l P).length = P.length
  | [], _ => rfl
  | t :: ts, P => by unfold fp1; rw [fp1_len]; split <;> simp
theorem fpF_len {n : Nat} : ∀ {ls : List (List Int)} {f : Nat} {P : List (List Nat)}, (fpF n f ls P).length = P.length
  | [], _, _ => rfl
  | l :: ls, f, P => by unfold fpF; rw [fpF_len, fp1_len]
theorem fp1_mem {n f : Nat} : ∀ {l : List Int} {P : List (List Nat)} {v p : Nat}, P.length = n → (p ∈ (fp1 n f l P).getD v [] ↔ p ∈ P.getD v [] ∨ (p = f ∧ (v : Int) ∈ l ∧ v < n))
  | [], P, v, p, _ => by simp [fp1]
  | t :: ts, P, v, p, hP => by
    unfold fp1
    rw [fp1_mem (by split <;> simp [hP])]
    by_cases ht : okN n t = true ∧ ¬ (P.getD t.toNat []).getLast? = some f
    · obtain ⟨h1, h2⟩ := okN_cast ht.1
      rw [if_pos ht, getD_setP, hP]
      by_cases hv : t.toNat = v ∧ v < n
      · obtain ⟨hv1, hv2⟩ := hv
        rw [if_pos ⟨hv1, hv2⟩, hv1]
        have ht' : t = (v : Int) := by omega
        subst ht'
        simp only [List.mem_append, List.mem_cons, List.not_mem_nil, or_false, true_or, true_and]
        constructor
        · rintro ((h | h) | ⟨h, _, _⟩)
          · exact .inl h
          · exact .inr ⟨h, hv2⟩
          · exact .inr ⟨h, hv2⟩
        · rintro (h | ⟨h, _⟩)
          · exact .inl (.inl h)
          · exact .inl (.inr h)
      · rw [if_neg hv]
        constructor
        · rintro (h | ⟨h, h3, h4⟩)
          · exact .inl h
          · exact .inr ⟨h, by simp [h3], h4⟩
        · rintro (h | ⟨h, h3, h4⟩)
          · exact .inl h
          · rcases List.mem_cons.1 h3 with h3 | h3
            · exact absurd ⟨by omega, h4⟩ hv
            · exact .inr ⟨h, h3, h4⟩
    · rw [if_neg ht]
      constructor
      · rintro (h | ⟨h, h3, h4⟩)
        · exact .inl h
        · exact .inr ⟨h, by simp [h3], h4⟩
      · rintro (h | ⟨h, h3, h4⟩)
        · exact .inl h
        · rcases List.mem_cons.1 h3 with h3 | h3
          · left
            have hok : okN n t = true := decide_eq_true (by omega)
            have hl : (P.getD t.toNat []).getLast? = some f := Classical.byContradiction fun hh => ht ⟨hok, hh⟩
            rw [← h3, Int.toNat_natCast] at hl
            rw [h]
            exact List.mem_of_getLast? hl
          · exact .inr ⟨h, h3, h4⟩
theorem fpF_mem {n : Nat} : ∀ {ls : List (List Int)} {f : Nat} {P : List (List Nat)} {v p : Nat}, P.length = n → (p ∈ (fpF n f ls P).getD v [] ↔ p ∈ P.getD v [] ∨ (f ≤ p ∧ p < f + ls.length ∧ (v : Int) ∈ ls.getD (p - f) [] ∧ v < n))
  | [], f, P, v, p, _ => by
    simp [fpF]
    try omega
  | l :: ls, f, P, v, p, hP => by
    unfold fpF
    rw [fpF_mem (by rw [fp1_len, hP]), fp1_mem hP]
    constructor
    · rintro ((h | ⟨rfl, h2, h3⟩) | ⟨h1, h2, h3, h4⟩)
      · exact .inl h
      · exact .inr ⟨Nat.le_refl _, by simp, by simpa using h2, h3⟩
      · refine .inr ⟨by omega, by simp; omega, ?_, h4⟩
        rw [show p - f = (p - (f + 1)) + 1 by omega]
        simpa using h3
    · rintro (h | ⟨h1, h2, h3, h4⟩)
      · exact .inl (.inl h)
      · by_cases hpf : p = f
        · subst hpf
          exact .inl (.inr ⟨rfl, by simpa using h3, h4⟩)
        · refine .inr ⟨by omega, by simp at h2; omega, ?_, h4⟩
          rw [show p - f = (p - (f + 1)) + 1 by omega] at h3
          simpa using h3
/-- goes a place on to none? -/
def lastB (next : List (List Int)) (i : Nat) : Bool := !(rowN next i).any (okN next.length)
def ends0 (next : List (List Int)) : List Int := ((List.range next.length).filter (lastB next)).map fun i => ((i + 1 : Nat) : Int)
/-- the graph turned about -/
def turnF (next : List (List Int)) : List (List Int) := ends0 next :: (fpF next.length 0 next (List.replicate next.length [])).map fun l => l.map fun p => ((p + 1 : Nat) : Int)
theorem turn_len (next : List (List Int)) : (turnF next).length = next.length + 1 := by unfold turnF; simp [fpF_len]
theorem preds_mem {next : List (List Int)} {v p : Nat} : p ∈ (fpF next.length 0 next (List.replicate next.length [])).getD v [] ↔ p < next.length ∧ Eg next p v := by
  rw [fpF_mem (by simp)]
  unfold Eg rowN
  constructor
  · rintro (h | ⟨_, h2, h3, h4⟩)
    · rw [List.getD_eq_getElem?_getD, List.getElem?_replicate] at h
      split at h <;> cases h
    · exact ⟨by omega, by simpa using h3, h4⟩
  · rintro ⟨h1, h2, h3⟩
    exact .inr ⟨by omega, by omega, by simpa using h2, h3⟩
theorem turn_zero {next : List (List Int)} {v : Nat} : Eg (turnF next) 0 v ↔ ∃ i, v = i + 1 ∧ i < next.length ∧ lastB next i = true := by
  unfold Eg
  rw [turn_len]
  have : rowN (turnF next) 0 = ends0 next := rfl
  rw [this]
  unfold ends0
  constructor
  · rintro ⟨h, h2⟩
    obtain ⟨i, hi, e⟩ := List.mem_map.1 h
    obtain ⟨h3, h4⟩ := List.mem_filter.1 hi
    exact ⟨i, by omega, List.mem_range.1 h3, h4⟩
  · rintro ⟨i, rfl, h1, h2⟩
    exact ⟨List.mem_map.2 ⟨i, List.mem_filter.2 ⟨List.mem_range.2 h1, h2⟩, rfl⟩, by omega⟩
theorem turn_succ {next : List (List Int)} {k v : Nat} : Eg (turnF next) (k + 1) v ↔ ∃ p, v = p + 1 ∧ p < next.length ∧ Eg next p k := by
  unfold Eg
  rw [turn_len]
  have hrow : rowN (turnF next) (k + 1) = ((fpF next.length 0 next (List.replicate next.length [])).getD k []).map fun p => ((p + 1 : Nat) : Int) := by
    unfold rowN turnF
    rw [List.getD_eq_getElem?_getD, List.getD_eq_getElem?_getD, List.getElem?_cons_succ, List.getElem?_map]
    cases (fpF next.length 0 next (List.replicate next.length []))[k]? <;> rfl
  rw [hrow]
  constructor
  · rintro ⟨h, h2⟩
    obtain ⟨p, hp, e⟩ := List.mem_map.1 h
    have := preds_mem.1 hp
    exact ⟨p, by omega, this.1, this.2⟩
  · rintro ⟨p, rfl, h1, h2⟩
    exact ⟨List.mem_map.2 ⟨p, preds_mem.2 ⟨h1, h2⟩, rfl⟩, by omega⟩
/-- with the end as a place more -/
def endRow (n : Nat) (l : List Int) : List Int := if (l.filter (okN n)).isEmpty then [(n : Int)] else l.filter (okN n)
def endF (next : List (List Int)) : List (List Int) := next.map (endRow next.length) ++ [[]]
theorem end_len (next : List (List Int)) : (endF next).length = next.length + 1 := by unfold endF; simp
theorem end_edge {next : List (List Int)} {u v : Nat} : Eg (endF next) u v ↔ u < next.length ∧ (Eg next u v ∨ (lastB next u = true ∧ v = next.length)) := by
  unfold Eg
  rw [end_len]
  by_cases hu : u < next.length
  · have hrow : rowN (endF next) u = endRow next.length (rowN next u) := by
      unfold rowN endF
      rw [List.getD_eq_getElem?_getD, List.getElem?_append_left (by simpa using hu), List.getElem?_map, List.getElem?_eq_getElem hu, List.getD_eq_getElem?_getD, List.getElem?_eq_getElem hu]
      rfl
    rw [hrow]
    unfold endRow lastB
    by_cases he : ((rowN next u).filter (okN next.length)).isEmpty = true
    · have hn : ∀ x ∈ rowN next u, okN next.length x = false := fun x hx => by
        cases hh : okN next.length x with
        | false => rfl
        | true =>
          have : x ∈ (rowN next u).filter (okN next.length) := List.mem_filter.2 ⟨hx, hh⟩
          rw [List.isEmpty_iff.1 he] at this; cases this
      rw [if_pos he]
      have hany : (rowN next u).any (okN next.length) = false := List.any_eq_false.2 fun x hx => by rw [hn x hx]; simp
      rw [hany]
      simp only [List.mem_singleton, Bool.not_false, true_and]
      constructor
      · rintro ⟨h1, h2⟩; exact ⟨hu, .inr (by omega)⟩
      · rintro ⟨_, ⟨h1, h2⟩ | h1⟩
        · exact absurd (hn _ h1) (by rw [show okN next.length (v : Int) = true from decide_eq_true (by omega)]; simp)
        · exact ⟨by omega, by omega⟩
    · rw [if_neg he]
      have hany : (rowN next u).any (okN next.length) = true := by
        cases hf : (rowN next u).filter (okN next.length) with
        | nil => rw [hf] at he; exact absurd rfl he
        | cons x t =>
          have : x ∈ (rowN next u).filter (okN next.length) := by rw [hf]; simp
          have := List.mem_filter.1 this
          exact List.any_eq_true.2 ⟨x, this.1, this.2⟩
      rw [hany]
      simp only [Bool.not_true, Bool.false_eq_true, false_and, or_false]
      constructor
      · rintro ⟨h1, _⟩
        have := List.mem_filter.1 h1
        have h3 := of_decide_eq_true this.2
        exact ⟨hu, this.1, by omega⟩
      · rintro ⟨_, h1, h2⟩
        exact ⟨List.mem_filter.2 ⟨h1, decide_eq_true (by omega)⟩, by omega⟩
  · constructor
    · rintro ⟨h, _⟩
      exfalso
      unfold rowN endF at h
      rw [List.getD_eq_getElem?_getD, List.getElem?_append_right (by simp; omega)] at h
      cases hx : ([[]] : List (List Int))[u - (next.map (endRow next.length)).length]? with
      | none => rw [hx] at h; cases h
      | some l =>
        rw [hx] at h
        have := List.mem_of_getElem? hx
        rw [List.mem_singleton] at this
        subst this
        cases h
    · rintro ⟨h, _⟩; exact absurd h hu
/-- a place, in the graph turned about -/
def phi (n a : Nat) : Nat := if a = n then 0 else a + 1
theorem phi_inj {n a b : Nat} (h : phi n a = phi n b) : a = b := by
  unfold phi at h
  split at h <;> split at h <;> omega
theorem back_edge {next : List (List Int)} {u v : Nat} (h : Eg (endF next) u v) : Eg (turnF next) (phi next.length v) (phi next.length u) := by
  obtain ⟨hu, hh⟩ := end_edge.1 h
  clear h
  have e : phi next.length u = u + 1 := by unfold phi; rw [if_neg (by omega)]
  rw [e]
  rcases hh with h | ⟨h, rfl⟩
  · have e2 : phi next.length v = v + 1 := by unfold phi; rw [if_neg (by have := h.2; omega)]
    rw [e2]
    exact turn_succ.2 ⟨u, rfl, hu, h⟩
  · have e2 : phi next.length next.length = 0 := by unfold phi; rw [if_pos rfl]
    rw [e2]
    exact turn_zero.2 ⟨u, rfl, hu, h⟩
theorem edge_back {next : List (List Int)} {x y : Nat} (h : Eg (turnF next) y x) (hy : y ≤ next.length) : ∃ u v, x = phi next.length u ∧ y = phi next.length v ∧ u < next.length ∧ v ≤ next.length ∧ Eg (endF next) u v := by
  cases y with
  | zero =>
    obtain ⟨i, rfl, h1, h2⟩ := turn_zero.1 h
    exact ⟨i, next.length, by unfold phi; rw [if_neg (by omega)], by unfold phi; rw [if_pos rfl], h1, Nat.le_refl _, end_edge.2 ⟨h1, .inr ⟨h2, rfl⟩⟩⟩
  | succ k =>
    obtain ⟨p, rfl, h1, h2⟩ := turn_succ.1 h
    exact ⟨p, k, by unfold phi; rw [if_neg (by omega)], by unfold phi; rw [if_neg (by omega)], h1, by omega, end_edge.2 ⟨h1, .inl h2⟩⟩
theorem to_way {next : List (List Int)} {w : Int} {s v : Nat} (h : Rch (endF next) w s v) : (∃ l, Way (Eg (turnF next)) l (phi next.length v) ∧ ∀ y ∈ l, ∀ a, y = phi next.length a → (a : Int) ≠ w) → ∃ l, Way (Eg (turnF next)) l (phi next.length s) ∧ ∀ y ∈ l, ∀ a, y = phi next.length a → (a : Int) ≠ w := by
  induction h with
  | base _ => exact id
  | @step u v hu e hw ih =>
    rintro ⟨l, h1, h2⟩
    refine ih ⟨phi next.length u :: l, .on h1 (back_edge e), fun y hy a ha => ?_⟩
    rcases List.mem_cons.1 hy with rfl | hy
    · rw [← phi_inj ha]; exact hu.ne
    · exact h2 y hy a ha
theorem way_le {next : List (List Int)} {l : List Nat} {v : Nat} (h : Way (Eg (turnF next)) l v) : v ≤ next.length := by
  cases h with
  | start => omega
  | on _ e => have := e.2; rw [turn_len] at this; omega
theorem of_way {next : List (List Int)} {w : Int} {l : List Nat} {x : Nat} (h : Way (Eg (turnF next)) l x) : (∀ y ∈ l, ∀ a, y = phi next.length a → (a : Int) ≠ w) → ∀ s, s ≤ next.length → x = phi next.length s → Rch (endF next) w s next.length := by
  induction h with
  | start =>
    intro hl s _ hs
    have hsn : s = next.length := by unfold phi at hs; split at hs <;> omega
    subst hsn
    exact .base (hl 0 (by simp) _ hs)
  | @on l u v h e ih =>
    intro hl s hsn hs
    obtain ⟨a, b, h1, h2, h3, h4, h5⟩ := edge_back e (way_le h)
    have : s = a := phi_inj (hs.symm.trans h1)
    subst this
    exact (ih (fun y hy => hl y (by simp [hy])) b h4 h2).ahead h5 (hl v (by simp) _ hs)
/-- each way to the end goes through a -/
def thrF (next : List (List Int)) (a i : Nat) : Bool := (reachG (endF next) i (-1)).getD next.length false && !(reachG (endF next) i (a : Int)).getD next.length false
theorem rch_way {next : List (List Int)} {w : Int} {i : Nat} (hi : i ≤ next.length) : Rch (endF next) w i next.length ↔ ∃ l, Way (Eg (turnF next)) l (phi next.length i) ∧ ∀ y ∈ l, ∀ a, y = phi next.length a → (a : Int) ≠ w := by
  constructor
  · intro h
    refine to_way h ⟨[0], ?_, fun y hy a ha => ?_⟩
    · have : phi next.length next.length = 0 := by unfold phi; rw [if_pos rfl]
      rw [this]; exact .start
    · rw [List.mem_singleton] at hy
      subst hy
      have han : a = next.length := by unfold phi at ha; split at ha <;> omega
      subst han
      exact h.ne
  · rintro ⟨l, h1, h2⟩
    exact of_way h1 h2 i hi rfl
theorem thr_iff {next : List (List Int)} {a i : Nat} (hi : i ≤ next.length) : thrF next a i = true ↔ (∃ l, Way (Eg (turnF next)) l (phi next.length i)) ∧ Dm (Eg (turnF next)) (phi next.length a) (phi next.length i) := by
  unfold thrF
  have hlen : i < (endF next).length := by rw [end_len]; omega
  rw [Bool.and_eq_true, reachG_iff hlen, rch_way hi]
  constructor
  · rintro ⟨⟨l, h1, _⟩, h2⟩
    refine ⟨⟨l, h1⟩, fun l hl => Classical.byContradiction fun hx => ?_⟩
    have : (reachG (endF next) i (a : Int)).getD next.length false = true := (reachG_iff hlen _).2 ((rch_way hi).2 ⟨l, hl, fun y hy b hb => fun hba => hx (by
      have : b = a := by omega
      subst this; rw [← hb]; exact hy)⟩)
    rw [this] at h2; cases h2
  · rintro ⟨⟨l, h1⟩, h2⟩
    refine ⟨⟨l, h1, fun y _ b _ => by omega⟩, ?_⟩
    cases hh : (reachG (endF next) i (a : Int)).getD next.length false with
    | false => rfl
    | true =>
      obtain ⟨l, h3, h4⟩ := (rch_way hi).1 ((reachG_iff hlen _).1 hh)
      exact absurd rfl (h4 _ (h2 l h3) a rfl)
end DM
end Go.Proofs.Ytkjafkegkllbiaa
