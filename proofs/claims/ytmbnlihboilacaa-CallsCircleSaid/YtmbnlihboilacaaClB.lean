/- Layer 21, plain: ways by calls, as they are found by taking in one place after another; an order is there just where there is no circle. -/
import Derived.Test.YtmbnlihboilacaaClA
namespace Go.Proofs.Ytmbnlihboilacaa
namespace CL
set_option linter.unusedSimpArgs false
set_option linter.unusedVariables false
/-- ways of one call or more, among the first n -/
inductive TG (E : Nat → Nat → Bool) (n : Nat) : Nat → Nat → Prop
  | one {i j : Nat} (h : E i j = true) (hj : j < n) : TG E n i j
  | more {i k j : Nat} (h : E i k = true) (hk : k < n) (t : TG E n k j) : TG E n i j
theorem TG.trans {E : Nat → Nat → Bool} {n i k j : Nat} (h : TG E n i k) (t : TG E n k j) : TG E n i j := by
  induction h with
  | one h hj => exact .more h hj t
  | more h hk _ ih => exact .more h hk (ih t)
/-- ways whose places between are among the first k -/
def Wk (E : Nat → Nat → Bool) : Nat → Nat → Nat → Prop
  | 0, i, j => E i j = true
  | k + 1, i, j => Wk E k i j ∨ (Wk E k i k ∧ Wk E k k j)
theorem Wk.join {E : Nat → Nat → Bool} : ∀ {k a b c : Nat}, b < k → Wk E k a b → Wk E k b c → Wk E k a c
  | 0, _, _, _, h, _, _ => by omega
  | k + 1, a, b, c, hb, h1, h2 => by
    have tl : ∀ {x : Nat}, Wk E (k + 1) x k → Wk E k x k := fun h => h.elim id (fun h => h.1)
    have hd : ∀ {x : Nat}, Wk E (k + 1) k x → Wk E k k x := fun h => h.elim id (fun h => h.2)
    by_cases e : b = k
    · subst e
      exact Or.inr ⟨tl h1, hd h2⟩
    · have hb' : b < k := by omega
      rcases h1 with h1 | ⟨h1, h1'⟩
      · rcases h2 with h2 | ⟨h2, h2'⟩
        · exact Or.inl (Wk.join hb' h1 h2)
        · exact Or.inr ⟨Wk.join hb' h1 h2, h2'⟩
      · rcases h2 with h2 | ⟨h2, h2'⟩
        · exact Or.inr ⟨h1, Wk.join hb' h1' h2⟩
        · exact Or.inr ⟨h1, h2'⟩
theorem Wk.of_E {E : Nat → Nat → Bool} {i j : Nat} (h : E i j = true) : ∀ k, Wk E k i j
  | 0 => h
  | k + 1 => Or.inl (Wk.of_E h k)
theorem TG.wk {E : Nat → Nat → Bool} {n i j : Nat} (h : TG E n i j) : Wk E n i j := by
  induction h with
  | one h _ => exact Wk.of_E h n
  | more h hk _ ih => exact Wk.join hk (Wk.of_E h n) ih
/-- what is known of the ways ahead of a step -/
structure Inv (E : Nat → Nat → Bool) (n k u c : Nat) (M : Nat → Nat → Bool) : Prop where
  snd : ∀ i j, i < n → j < n → M i j = true → TG E n i j
  old : ∀ i j, i < n → j < n → Wk E k i j → M i j = true
  new : ∀ i j, i < n → j < n → (i < u ∨ (i = u ∧ j < c)) → Wk E (k + 1) i j → M i j = true
def upM (M : Nat → Nat → Bool) (u c : Nat) (x : Bool) : Nat → Nat → Bool := fun i j => if i = u ∧ j = c then x else M i j
def wX (M : Nat → Nat → Bool) (k u c : Nat) : Bool := M u c || (M u k && M k c)
theorem Inv.start {E : Nat → Nat → Bool} {n : Nat} {M : Nat → Nat → Bool} (h : ∀ i j, i < n → j < n → M i j = E i j) : Inv E n 0 0 0 M :=
  ⟨fun i j hi hj hM => .one (by rw [← h i j hi hj]; exact hM) hj, fun i j hi hj hw => by rw [h i j hi hj]; exact hw, fun i j _ _ h _ => by omega⟩
theorem Inv.step {E : Nat → Nat → Bool} {n k u c : Nat} {M : Nat → Nat → Bool} (h : Inv E n k u c M) (hk : k < n) (hu : u < n) (hc : c < n) : Inv E n k u (c + 1) (upM M u c (wX M k u c)) := by
  refine ⟨fun i j hi hj hM => ?_, fun i j hi hj hw => ?_, fun i j hi hj hlt hw => ?_⟩
  · unfold upM at hM
    split at hM
    · rename_i e
      obtain ⟨rfl, rfl⟩ := e
      unfold wX at hM
      rw [Bool.or_eq_true, Bool.and_eq_true] at hM
      rcases hM with hM | ⟨h1, h2⟩
      · exact h.snd _ _ hi hj hM
      · exact (h.snd _ _ hi hk h1).trans (h.snd _ _ hk hj h2)
    · exact h.snd i j hi hj hM
  · have h1 := h.old i j hi hj hw
    unfold upM
    split
    · rename_i e
      obtain ⟨rfl, rfl⟩ := e
      unfold wX; rw [h1]; rfl
    · exact h1
  · unfold upM
    split
    · rename_i e
      obtain ⟨rfl, rfl⟩ := e
      unfold wX
      rcases hw with hw | ⟨h1, h2⟩
      · rw [h.old _ _ hi hj hw]; rfl
      · rw [h.old _ _ hi hk h1, h.old _ _ hk hj h2]; simp
    · rename_i e
      exact h.new i j hi hj (by omega) hw
theorem Inv.row {E : Nat → Nat → Bool} {n k u : Nat} {M : Nat → Nat → Bool} (h : Inv E n k u n M) : Inv E n k (u + 1) 0 M :=
  ⟨h.snd, h.old, fun i j hi hj hlt hw => h.new i j hi hj (by omega) hw⟩
theorem Inv.next {E : Nat → Nat → Bool} {n k : Nat} {M : Nat → Nat → Bool} (h : Inv E n k n 0 M) : Inv E n (k + 1) 0 0 M :=
  ⟨h.snd, fun i j hi hj hw => h.new i j hi hj (Or.inl hi) hw, fun i j _ _ hlt _ => by omega⟩
theorem Inv.fin {E : Nat → Nat → Bool} {n : Nat} {M : Nat → Nat → Bool} (h : Inv E n n 0 0 M) {i j : Nat} (hi : i < n) (hj : j < n) : M i j = true ↔ TG E n i j :=
  ⟨h.snd i j hi hj, fun t => h.old i j hi hj t.wk⟩
/-- whom one calls -/
def Ec (C : List (List Nat)) (u c : Nat) : Bool := (C.getD u []).contains c
theorem good_tg {C : List (List Nat)} {o : List Nat} (h : Good C o) {n u c : Nat} (t : TG (Ec C) n u c) : ∀ i (hi : i < o.length), o[i] = u → c ∈ o.take i := by
  induction t with
  | one he _ =>
    intro i hi e
    refine h.ahead i hi _ ?_
    rw [e]; simpa [Ec] using he
  | more he _ _ ih =>
    intro i hi e
    have hm := h.ahead i hi _ (by rw [e]; simpa [Ec] using he)
    obtain ⟨j, hj, hje⟩ := List.getElem_of_mem hm
    rw [List.length_take] at hj
    rw [List.getElem_take] at hje
    have h2 := ih j (by omega) hje
    exact List.take_subset_take_left _ (by omega) h2
theorem good_apart {C : List (List Nat)} {o : List Nat} (h : Good C o) {n i k : Nat} (hik : i ≤ k) (hk : k < o.length) : ¬ TG (Ec C) n (o[i]'(by omega)) o[k] := by
  intro t
  have hm := good_tg h t i (by omega) rfl
  obtain ⟨j, hj, hje⟩ := List.getElem_of_mem hm
  rw [List.length_take] at hj
  rw [List.getElem_take] at hje
  exact List.pairwise_iff_getElem.1 h.nd j k (by omega) hk (by omega) hje
theorem stuck_circle {C : List (List Nat)} (hC : ∀ l ∈ C, ∀ x ∈ l, x < C.length) {S : List Nat} (h : Good C S) (hl : S.length < C.length) (hr : readyF C S = none) : ∃ u, u < C.length ∧ TG (Ec C) C.length u u := by
  have hnx : ∀ u, u < C.length → u ∉ S → ∃ v, v < C.length ∧ v ∉ S ∧ Ec C u v = true := by
    intro u hu hs
    have h1 := List.find?_eq_none.1 hr u (List.mem_range.2 hu)
    have h2 : (C.getD u []).all (fun v => S.contains v) = false := by
      cases h3 : (C.getD u []).all (fun v => S.contains v)
      · rfl
      · exact absurd (by simp [rdy, hs]; simpa using h3) h1
    rw [List.all_eq_false] at h2
    obtain ⟨v, hv, hvs⟩ := h2
    have hcu : C.getD u [] = C[u] := by simp [List.getD, hu]
    refine ⟨v, hC _ (List.getElem_mem hu) v (by rw [← hcu]; exact hv), by simpa using hvs, by simpa [Ec] using hv⟩
  obtain ⟨u0, hu0, hs0⟩ : ∃ u, u < C.length ∧ u ∉ S := by
    apply Classical.byContradiction
    intro hall
    have := List.Nodup.length_le_of_subset (List.nodup_range (n := C.length)) (l₂ := S) (fun x hx => Classical.byContradiction fun hn => hall ⟨x, List.mem_range.1 hx, hn⟩)
    rw [List.length_range] at this
    omega
  have hpick : ∃ f : Nat → Nat, ∀ u, u < C.length → u ∉ S → f u < C.length ∧ f u ∉ S ∧ Ec C u (f u) = true := by
    refine ⟨fun u => if hh : u < C.length ∧ u ∉ S then Classical.choose (hnx u hh.1 hh.2) else 0, fun u h1 h2 => ?_⟩
    simp only [h1, h2, not_false_eq_true, and_self, dite_true]
    exact Classical.choose_spec (hnx u h1 h2)
  obtain ⟨f, hf⟩ := hpick
  let s : Nat → Nat := fun k => Nat.rec u0 (fun _ x => f x) k
  have hs : ∀ k, s k < C.length ∧ s k ∉ S := by
    intro k
    induction k with
    | zero => exact ⟨hu0, hs0⟩
    | succ k ih => exact ⟨(hf _ ih.1 ih.2).1, (hf _ ih.1 ih.2).2.1⟩
  have he : ∀ k, Ec C (s k) (s (k + 1)) = true := fun k => (hf _ (hs k).1 (hs k).2).2.2
  have hway : ∀ d i, TG (Ec C) C.length (s i) (s (i + (d + 1))) := by
    intro d
    induction d with
    | zero => intro i; exact .one (he i) (hs (i + 1)).1
    | succ d ih =>
      intro i
      refine .more (he i) (hs (i + 1)).1 ?_
      have := ih (i + 1)
      rwa [show i + 1 + (d + 1) = i + (d + 1 + 1) by omega] at this
  have hdup : ¬ ((List.range (C.length + 1)).map s).Nodup := by
    intro hn
    have := List.Nodup.length_le_of_subset hn (l₂ := List.range C.length) (fun x hx => by
      obtain ⟨k, _, rfl⟩ := List.mem_map.1 hx
      exact List.mem_range.2 (hs k).1)
    simp at this
    omega
  have : ∃ i j, i < j ∧ s i = s j := by
    apply Classical.byContradiction
    intro hno
    refine hdup (List.pairwise_iff_getElem.2 fun i j hi hj hij => ?_)
    simp only [List.getElem_map, List.getElem_range]
    exact fun e => hno ⟨i, j, hij, e⟩
  obtain ⟨i, j, hij, e⟩ := this
  refine ⟨s i, (hs i).1, ?_⟩
  have := hway (j - i - 1) i
  rwa [show i + (j - i - 1 + 1) = j by omega, ← e] at this
theorem circle_iff {C : List (List Nat)} (hC : ∀ l ∈ C, ∀ x ∈ l, x < C.length) : (ordF C C.length []).isSome = true ↔ ¬ ∃ u, u < C.length ∧ TG (Ec C) C.length u u := by
  cases h : ordF C C.length [] with
  | none =>
    obtain ⟨S, h1, h2, h3⟩ := ordF_none (Good.nil C) (by simp) h
    constructor
    · intro h; cases h
    · intro h'; exact absurd (stuck_circle hC h1 h2 h3) h'
  | some o =>
    obtain ⟨hg, hl⟩ := ordF_good (Good.nil C) h
    refine ⟨fun _ => ?_, fun _ => rfl⟩
    rintro ⟨u, hu, t⟩
    have hm : u ∈ o := by
      apply Classical.byContradiction
      intro hn
      have := List.Nodup.length_le_of_subset (l₁ := u :: o) (l₂ := List.range C.length) (List.nodup_cons.2 ⟨hn, hg.nd⟩) (fun x hx => by
        rcases List.mem_cons.1 hx with rfl | hx
        · exact List.mem_range.2 hu
        · exact List.mem_range.2 (hg.lt x hx))
      simp at this hl
      omega
    obtain ⟨i, hi, e⟩ := List.getElem_of_mem hm
    exact good_apart hg (Nat.le_refl i) hi (by rw [e]; exact t)
end CL
end Go.Proofs.Ytmbnlihboilacaa
