/- The document's dominators: what is reached without a place. Plain. -/
import Derived.Test.YtkjafkegkllbiaaDomC
namespace Go.Proofs.Ytkjafkegkllbiaa
set_option linter.unusedSimpArgs false
set_option linter.unusedVariables false
namespace DM
/-- a way that lets w be -/
def Free (next : List (List Int)) (w : Int) (v : Nat) : Prop := ∃ l, Way (Eg next) l v ∧ ∀ x ∈ l, (x : Int) ≠ w
def markF (n : Nat) (w : Int) : List Int → List Bool → List Bool
  | [], o => o
  | t :: ts, o => markF n w ts (if okN n t = true ∧ t ≠ w then o.set t.toNat true else o)
def sweepF (next : List (List Int)) (w : Int) : Nat → List Bool → List Bool
  | 0, o => o
  | k + 1, o => let p := sweepF next w k o; if p.getD k false = true then markF next.length w (rowN next k) p else p
def roundsF (next : List (List Int)) (w : Int) : Nat → List Bool → List Bool
  | 0, o => o
  | k + 1, o => sweepF next w next.length (roundsF next w k o)
def reachF (next : List (List Int)) (w : Int) : List Bool :=
  if next.length = 0 ∨ w = 0 then List.replicate next.length false else roundsF next w next.length ((List.replicate next.length false).set 0 true)
theorem mark_len {n : Nat} {w : Int} : ∀ {l : List Int} {o : List Bool}, (markF n w l o).length = o.length
  | [], o => rfl
  | t :: ts, o => by unfold markF; rw [mark_len]; split <;> simp
theorem mark_mono {n : Nat} {w : Int} : ∀ {l : List Int} {o : List Bool} {v : Nat}, o.getD v false = true → (markF n w l o).getD v false = true
  | [], o, v, h => h
  | t :: ts, o, v, h => by
    unfold markF
    refine mark_mono ?_
    split
    · rw [List.getD_eq_getElem?_getD] at h ⊢
      rw [List.getElem?_set]
      split
      · rename_i h1
        split
        · rfl
        · rename_i h2; rw [List.getElem?_eq_none (by omega)] at h; cases h
      · exact h
    · exact h
theorem getD_set_f {o : List Bool} {t v : Nat} : (o.set t true).getD v false = true ↔ o.getD v false = true ∨ (v = t ∧ t < o.length) := by
  rw [List.getD_eq_getElem?_getD, List.getD_eq_getElem?_getD, List.getElem?_set]
  by_cases h : t = v
  · subst h
    by_cases h2 : t < o.length
    · simp [h2]
    · simp [h2]
  · simp [h]
    intro h'; exact absurd h'.symm h
theorem mark_iff {n : Nat} {w : Int} : ∀ {l : List Int} {o : List Bool} {v : Nat}, o.length = n → ((markF n w l o).getD v false = true ↔ o.getD v false = true ∨ ((v : Int) ∈ l ∧ v < n ∧ (v : Int) ≠ w))
  | [], o, v, h => by simp [markF]
  | t :: ts, o, v, h => by
    unfold markF
    rw [mark_iff (by split <;> simp [h])]
    by_cases ht : okN n t = true ∧ t ≠ w
    · rw [if_pos ht, getD_set_f, h]
      have hc := okN_cast ht.1
      constructor
      · rintro ((h1 | ⟨h1, h2⟩) | ⟨h1, h2⟩)
        · exact .inl h1
        · subst h1; exact .inr ⟨by rw [hc.1]; simp, h2, by rw [hc.1]; exact ht.2⟩
        · exact .inr ⟨by simp [h1], h2⟩
      · rintro (h1 | ⟨h1, h2⟩)
        · exact .inl (.inl h1)
        · rcases List.mem_cons.1 h1 with h1 | h1
          · exact .inl (.inr ⟨by rw [← h1]; simp, hc.2⟩)
          · exact .inr ⟨h1, h2⟩
    · rw [if_neg ht]
      constructor
      · rintro (h1 | ⟨h1, h2⟩)
        · exact .inl h1
        · exact .inr ⟨by simp [h1], h2⟩
      · rintro (h1 | ⟨h1, h2⟩)
        · exact .inl h1
        · rcases List.mem_cons.1 h1 with h1 | h1
          · exact absurd ⟨by rw [← h1]; exact decide_eq_true (by omega), by rw [← h1]; exact h2.2⟩ ht
          · exact .inr ⟨h1, h2⟩
section
variable {next : List (List Int)} {w : Int}
theorem sweep_len : ∀ {k : Nat} {o : List Bool}, (sweepF next w k o).length = o.length
  | 0, o => rfl
  | k + 1, o => by
    unfold sweepF
    simp only
    split
    · rw [mark_len, sweep_len]
    · rw [sweep_len]
theorem sweep_mono : ∀ {k : Nat} {o : List Bool} {v : Nat}, o.getD v false = true → (sweepF next w k o).getD v false = true
  | 0, o, v, h => h
  | k + 1, o, v, h => by
    unfold sweepF
    simp only
    split
    · exact mark_mono (sweep_mono h)
    · exact sweep_mono h
theorem sweep_sound (hw : w ≠ 0) : ∀ {k : Nat} {o : List Bool}, o.length = next.length → (∀ v, o.getD v false = true → Free next w v) → ∀ v, (sweepF next w k o).getD v false = true → Free next w v
  | 0, o, _, h, v, hv => h v hv
  | k + 1, o, hl, h, v, hv => by
    have ih := sweep_sound hw (k := k) hl h
    unfold sweepF at hv
    simp only at hv
    split at hv
    · rename_i hk
      rcases (mark_iff (by rw [sweep_len, hl])).1 hv with h1 | ⟨h1, h2, h3⟩
      · exact ih v h1
      · obtain ⟨l, l1, l2⟩ := ih k hk
        exact ⟨v :: l, .on l1 ⟨h1, h2⟩, fun x hx => by
          rcases List.mem_cons.1 hx with rfl | hx
          · exact h3
          · exact l2 x hx⟩
    · exact ih v hv
/-- what nothing more comes to is closed -/
def Closed (next : List (List Int)) (w : Int) (o : List Bool) : Prop := ∀ u, u < next.length → o.getD u false = true → ∀ v, Eg next u v → (v : Int) ≠ w → o.getD v false = true
theorem sweep_mark {k u v : Nat} {o : List Bool} (hl : o.length = next.length) (hu : u < k) (h : o.getD u false = true) (he : Eg next u v) (hv : (v : Int) ≠ w) : (sweepF next w k o).getD v false = true := by
  induction k with
  | zero => omega
  | succ k ih =>
    unfold sweepF
    simp only
    by_cases huk : u = k
    · subst huk
      rw [if_pos (sweep_mono h)]
      exact (mark_iff (by rw [sweep_len, hl])).2 (.inr ⟨he.1, he.2, hv⟩)
    · have := ih (by omega)
      split
      · exact mark_mono this
      · exact this
theorem count_le {a b : List Bool} (hl : a.length = b.length) (h : ∀ v, a.getD v false = true → b.getD v false = true) : a.count true ≤ b.count true ∧ (a.count true = b.count true → a = b) := by
  induction a generalizing b with
  | nil => cases b with
    | nil => simp
    | cons => simp at hl
  | cons x a ih => cases b with
    | nil => simp at hl
    | cons y b =>
      have h1 := ih (b := b) (by simpa using hl) (fun v hv => by have := h (v + 1) (by simpa using hv); simpa using this)
      have h0 := h 0
      simp at h0
      rw [List.count_cons, List.count_cons]
      cases x <;> cases y <;> simp at h0 ⊢
      · exact ⟨h1.1, h1.2⟩
      · exact ⟨by omega, by omega⟩
      · exact ⟨h1.1, h1.2⟩
theorem rounds_len : ∀ {k : Nat} {o : List Bool}, (roundsF next w k o).length = o.length
  | 0, o => rfl
  | k + 1, o => by unfold roundsF; rw [sweep_len, rounds_len]
theorem rounds_mono : ∀ {k : Nat} {o : List Bool} {v : Nat}, o.getD v false = true → (roundsF next w k o).getD v false = true
  | 0, o, v, h => h
  | k + 1, o, v, h => by unfold roundsF; exact sweep_mono (rounds_mono h)
theorem rounds_sound (hw : w ≠ 0) {o : List Bool} (hl : o.length = next.length) (h : ∀ v, o.getD v false = true → Free next w v) : ∀ {k : Nat}, ∀ v, (roundsF next w k o).getD v false = true → Free next w v
  | 0, v, hv => h v hv
  | k + 1, v, hv => by
    unfold roundsF at hv
    exact sweep_sound hw (by rw [rounds_len, hl]) (rounds_sound hw hl h (k := k)) v hv
theorem rounds_closed {o : List Bool} (hl : o.length = next.length) : ∀ {k : Nat}, Closed next w (roundsF next w k o) ∨ o.count true + k ≤ (roundsF next w k o).count true
  | 0 => .inr (by simp [roundsF])
  | k + 1 => by
    have hlk : (roundsF next w k o).length = next.length := by rw [rounds_len, hl]
    have hc := count_le (a := roundsF next w k o) (b := sweepF next w next.length (roundsF next w k o)) (by rw [sweep_len]) (fun v hv => sweep_mono hv)
    unfold roundsF
    by_cases heq : roundsF next w k o = sweepF next w next.length (roundsF next w k o)
    · refine .inl fun u hu h v he hv => ?_
      rw [← heq] at h
      exact sweep_mark hlk hu h he hv
    · rcases rounds_closed hl (k := k) with h | h
      · exfalso
        apply heq
        have hsub : ∀ v, (sweepF next w next.length (roundsF next w k o)).getD v false = true → (roundsF next w k o).getD v false = true := by
          have : ∀ j, ∀ v, (sweepF next w j (roundsF next w k o)).getD v false = true → (roundsF next w k o).getD v false = true := by
            intro j
            induction j with
            | zero => exact fun v hv => hv
            | succ j ih =>
              intro v hv
              unfold sweepF at hv
              simp only at hv
              split at hv
              · rename_i hj
                rcases (mark_iff (by rw [sweep_len, hlk])).1 hv with h1 | ⟨h1, h2, h3⟩
                · exact ih v h1
                · refine h j ?_ (ih j hj) v ⟨h1, h2⟩ h3
                  have := ih j hj
                  rw [List.getD_eq_getElem?_getD] at this
                  by_cases hjl : j < next.length
                  · exact hjl
                  · rw [List.getElem?_eq_none (by omega)] at this; cases this
              · exact ih v hv
          exact this _
        have hc' := count_le (a := sweepF next w next.length (roundsF next w k o)) (b := roundsF next w k o) (by rw [sweep_len]) hsub
        exact hc.2 (by omega)
      · refine .inr ?_
        have : (roundsF next w k o).count true ≠ (sweepF next w next.length (roundsF next w k o)).count true := fun h => heq (hc.2 h)
        omega
theorem reach_iff (v : Nat) : (reachF next w).getD v false = true ↔ 0 < next.length ∧ Free next w v := by
  unfold reachF
  by_cases h0 : next.length = 0 ∨ w = 0
  · rw [if_pos h0]
    constructor
    · intro h
      rw [List.getD_eq_getElem?_getD, List.getElem?_replicate] at h
      split at h <;> cases h
    · rintro ⟨h1, l, l1, l2⟩
      rcases h0 with h0 | h0
      · omega
      · have : (0 : Nat) ∈ l := by
          clear l2
          induction l1 with
          | start => simp
          | on _ _ ih => exact List.mem_cons_of_mem _ ih
        exact absurd h0.symm (l2 0 this)
  · rw [if_neg h0]
    have hn : 0 < next.length := by omega
    have hw : w ≠ 0 := fun h => h0 (.inr h)
    have hl : ((List.replicate next.length false).set 0 true).length = next.length := by simp
    have hst : ∀ v, ((List.replicate next.length false).set 0 true).getD v false = true ↔ v = 0 := fun v => by
      rw [getD_set_f, List.length_replicate, List.getD_eq_getElem?_getD, List.getElem?_replicate]
      constructor
      · rintro (h | h)
        · split at h <;> cases h
        · exact h.1
      · intro h; exact .inr ⟨h, hn⟩
    constructor
    · intro h
      refine ⟨hn, rounds_sound hw hl (fun v hv => ?_) v h⟩
      rw [(hst v).1 hv]
      exact ⟨[0], .start, fun x hx => by rw [List.mem_singleton] at hx; subst hx; exact fun h => hw h.symm⟩
    · rintro ⟨_, l, l1, l2⟩
      have hcl : Closed next w (roundsF next w next.length ((List.replicate next.length false).set 0 true)) := by
        rcases rounds_closed hl (k := next.length) (w := w) with h | h
        · exact h
        · exfalso
          have h1 : 1 ≤ ((List.replicate next.length false).set 0 true).count true := by
            refine List.one_le_count_iff.2 ?_
            have := (hst 0).2 rfl
            rw [List.getD_eq_getElem?_getD] at this
            cases hg : ((List.replicate next.length false).set 0 true)[0]? with
            | none => rw [hg] at this; cases this
            | some b => rw [hg] at this; have : b = true := this; subst this; exact List.mem_of_getElem? hg
          have h2 := List.count_le_length (a := true) (l := roundsF next w next.length ((List.replicate next.length false).set 0 true))
          rw [rounds_len, hl] at h2
          omega
      induction l1 with
      | start => exact rounds_mono ((hst 0).2 rfl)
      | @on l u v k e ih =>
        have hu := ih (fun x hx => l2 x (List.mem_cons_of_mem _ hx))
        refine hcl u ?_ hu v e (l2 v (by simp))
        rw [List.getD_eq_getElem?_getD] at hu
        by_cases hul : u < next.length
        · exact hul
        · rw [List.getElem?_eq_none (by rw [rounds_len, hl]; omega)] at hu; cases hu
end
def domF (next : List (List Int)) (a b : Nat) : Bool := decide (b < next.length ∧ a < next.length) && (reachF next (-1)).getD b false && !(reachF next (a : Int)).getD b false
theorem free_all {next : List (List Int)} {v : Nat} : Free next (-1) v ↔ ∃ l, Way (Eg next) l v := by
  constructor
  · rintro ⟨l, h, _⟩; exact ⟨l, h⟩
  · rintro ⟨l, h⟩; exact ⟨l, h, fun x _ => by omega⟩
theorem dom_iff {next : List (List Int)} {a b : Nat} : domF next a b = true ↔ b < next.length ∧ a < next.length ∧ (∃ l, Way (Eg next) l b) ∧ Dm (Eg next) a b := by
  unfold domF
  rw [Bool.and_eq_true, Bool.and_eq_true, decide_eq_true_iff, reach_iff, free_all]
  constructor
  · rintro ⟨⟨⟨h1, h2⟩, h3⟩, h4⟩
    refine ⟨h1, h2, h3.2, fun l hl => ?_⟩
    apply Classical.byContradiction
    intro hx
    have : (reachF next (a : Int)).getD b false = true := (reach_iff b).2 ⟨by omega, l, hl, fun x hx' h => hx ((show x = a by omega) ▸ hx')⟩
    rw [this] at h4
    cases h4
  · rintro ⟨h1, h2, h3, h4⟩
    refine ⟨⟨⟨h1, h2⟩, by omega, h3⟩, ?_⟩
    cases h : (reachF next (a : Int)).getD b false with
    | false => rfl
    | true =>
      obtain ⟨_, l, l1, l2⟩ := (reach_iff b).1 h
      exact absurd rfl (l2 a (h4 l l1))
/-- the nearest one, as the document finds it -/
def bestF (next : List (List Int)) (b : Nat) : Nat → Int
  | 0 => -1
  | a + 1 =>
    if a ≠ b ∧ domF next a b = true ∧ (bestF next b a < 0 ∨ domF next (bestF next b a).toNat a = true) then (a : Int) else bestF next b a
theorem way_R {next : List (List Int)} {R : Nat → Prop} {rk q : Nat → Nat} (G : Gr (Eg next) R rk q) (v : Nat) : R v ↔ ∃ l, Way (Eg next) l v := by
  constructor
  · have h : ∀ N v, rk v ≤ N → R v → ∃ l, Way (Eg next) l v := by
      intro N
      induction N with
      | zero => intro v hr hv; rw [G.inj v 0 hv G.zero (by rw [G.rk0]; omega)]; exact ⟨_, .start⟩
      | succ N ih =>
        intro v hr hv
        by_cases h0 : v = 0
        · subst h0; exact ⟨_, .start⟩
        · obtain ⟨l, hl⟩ := ih (q v) (by have := G.ql v hv h0; omega) (G.qR v hv h0)
          exact ⟨_, .on hl (G.qE v hv h0)⟩
    exact h _ v (Nat.le_refl _)
  · rintro ⟨l, hl⟩
    exact hl.inR G
theorem best_spec {next : List (List Int)} {R : Nat → Prop} {d : Nat → Option Nat} (hR : ∀ v, R v ↔ ∃ l, Way (Eg next) l v) (hlt : ∀ v, R v → v < next.length) (T : Tree (Eg next) R d)
    (hanti : ∀ x v, R v → Anc d x v → R x ∧ (Anc d v x → x = v)) (b : Nat) (hb : b < next.length) :
    (∃ e : Nat, R b ∧ d b = some e ∧ bestF next b next.length = (e : Int)) ∨ ((¬ R b ∨ d b = none) ∧ bestF next b next.length = -1) := by
  have hdom : ∀ a v, R v → a < next.length → (domF next a v = true ↔ Anc d a v) := fun a v hv ha => by
    rw [dom_iff, ← T.dom v hv a]
    exact ⟨fun h => h.2.2.2, fun h => ⟨hlt v hv, ha, (hR v).1 hv, h⟩⟩
  by_cases hRb : R b
  · cases hd : d b with
    | none =>
      refine .inr ⟨.inr rfl, ?_⟩
      have h0 : b = 0 := by
        apply Classical.byContradiction
        intro h0
        obtain ⟨e, he, _⟩ := T.has b hRb h0
        rw [hd] at he; cases he
      have : ∀ k, k ≤ next.length → bestF next b k = -1 := by
        intro k
        induction k with
        | zero => exact fun _ => rfl
        | succ k ih =>
          intro hk
          unfold bestF
          rw [if_neg, ih (by omega)]
          rintro ⟨h1, h2, _⟩
          exact h1 (((hdom k b hRb (by omega)).1 h2).cases_none hd)
      exact this _ (Nat.le_refl _)
    | some e =>
      refine .inl ⟨e, hRb, rfl, ?_⟩
      have hstrict : ∀ a, a < next.length → ((a ≠ b ∧ domF next a b = true) ↔ Anc d a e) := fun a ha => by
        rw [hdom a b hRb ha]
        constructor
        · rintro ⟨h1, h2⟩
          rcases h2.cases' hd with h | h
          · exact absurd h h1
          · exact h
        · intro h
          refine ⟨?_, .up hd h⟩
          rintro rfl
          exact T.total a e hRb hd h
      have hRe : R e := (hanti e b hRb (.up hd .self)).1
      have key : ∀ k, k ≤ next.length → (bestF next b k = -1 ∧ ∀ a, a < k → ¬ Anc d a e) ∨ ∃ c : Nat, c < k ∧ bestF next b k = (c : Int) ∧ Anc d c e ∧ ∀ a, a < k → Anc d a e → Anc d a c := by
        intro k
        induction k with
        | zero => exact fun _ => .inl ⟨rfl, fun a h => by omega⟩
        | succ k ih =>
          intro hk
          have ih := ih (by omega)
          unfold bestF
          by_cases hs : k ≠ b ∧ domF next k b = true
          · have hke := (hstrict k (by omega)).1 hs
            have hRk := (hanti k e hRe hke).1
            rcases ih with ⟨h1, h2⟩ | ⟨c, c1, c2, c3, c4⟩
            · rw [h1, if_pos ⟨hs.1, hs.2, .inl (by omega)⟩]
              refine .inr ⟨k, by omega, rfl, hke, fun a ha hae => ?_⟩
              by_cases hak : a = k
              · subst hak; exact .self
              · exact absurd hae (h2 a (by omega))
            · rw [c2]
              by_cases hck : domF next c k = true
              · rw [if_pos ⟨hs.1, hs.2, .inr (by simpa using hck)⟩]
                refine .inr ⟨k, by omega, rfl, hke, fun a ha hae => ?_⟩
                by_cases hak : a = k
                · subst hak; exact .self
                · exact (c4 a (by omega) hae).trans ((hdom c k hRk (by omega)).1 hck)
              · rw [if_neg (fun h => by rcases h.2.2 with h | h; omega; exact hck (by simpa using h))]
                refine .inr ⟨c, by omega, rfl, c3, fun a ha hae => ?_⟩
                by_cases hak : a = k
                · subst hak
                  rcases c3.total hae with h | h
                  · exact absurd ((hdom c a hRk (by omega)).2 h) hck
                  · exact h
                · exact c4 a (by omega) hae
          · rw [if_neg (fun h => hs ⟨h.1, h.2.1⟩)]
            have hnk : ¬ Anc d k e := fun h => hs ((hstrict k (by omega)).2 h)
            rcases ih with ⟨h1, h2⟩ | ⟨c, c1, c2, c3, c4⟩
            · refine .inl ⟨h1, fun a ha hae => ?_⟩
              by_cases hak : a = k
              · subst hak; exact hnk hae
              · exact h2 a (by omega) hae
            · refine .inr ⟨c, by omega, c2, c3, fun a ha hae => ?_⟩
              by_cases hak : a = k
              · subst hak; exact absurd hae hnk
              · exact c4 a (by omega) hae
      rcases key _ (Nat.le_refl _) with ⟨_, h2⟩ | ⟨c, c1, c2, c3, c4⟩
      · exact absurd .self (h2 e (hlt e hRe))
      · rw [c2]
        have := c4 e (hlt e hRe) .self
        rw [(hanti c e hRe c3).2 this]
  · refine .inr ⟨.inl hRb, ?_⟩
    have : ∀ k, bestF next b k = -1 := by
      intro k
      induction k with
      | zero => rfl
      | succ k ih =>
        unfold bestF
        rw [if_neg, ih]
        rintro ⟨_, h2, _⟩
        exact hRb ((hR b).2 (dom_iff.1 h2).2.2.1)
    exact this _
end DM
end Go.Proofs.Ytkjafkegkllbiaa
