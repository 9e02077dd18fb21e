/- Nearest dominators by taking together: what holds while it goes on, and where nothing changes. Plain. -/
namespace Go.Proofs.Ytkjafkegkllbiaa
set_option linter.unusedSimpArgs false
set_option linter.unusedVariables false
namespace DM
/-- x is v, or above it -/
inductive Anc (d : Nat → Option Nat) (x : Nat) : Nat → Prop
  | self : Anc d x x
  | up {v w : Nat} (h : d v = some w) (k : Anc d x w) : Anc d x v
theorem Anc.trans {d : Nat → Option Nat} {x y z : Nat} (h : Anc d x y) (k : Anc d y z) : Anc d x z := by
  induction k with
  | self => exact h
  | up e _ ih => exact .up e ih
theorem Anc.cases' {d : Nat → Option Nat} {x v w : Nat} (h : Anc d x v) (e : d v = some w) : x = v ∨ Anc d x w := by
  cases h with
  | self => exact .inl rfl
  | up e' k => rw [e] at e'; cases e'; exact .inr k
theorem Anc.cases_none {d : Nat → Option Nat} {x v : Nat} (h : Anc d x v) (e : d v = none) : x = v := by
  cases h with
  | self => rfl
  | up e' k => rw [e] at e'; cases e'
theorem Anc.total {d : Nat → Option Nat} {x y v : Nat} (h : Anc d x v) (k : Anc d y v) : Anc d x y ∨ Anc d y x := by
  induction h with
  | self => exact .inr k
  | up e h ih =>
    rcases k.cases' e with rfl | k
    · exact .inl (.up e h)
    · exact ih k
/-- a way from 0 -/
inductive Way (E : Nat → Nat → Prop) : List Nat → Nat → Prop
  | start : Way E [0] 0
  | on {l : List Nat} {u v : Nat} (h : Way E l u) (e : E u v) : Way E (v :: l) v
/-- every way to v goes through x -/
def Dm (E : Nat → Nat → Prop) (x v : Nat) : Prop := ∀ l, Way E l v → x ∈ l
structure Gr (E : Nat → Nat → Prop) (R : Nat → Prop) (rk q : Nat → Nat) : Prop where
  zero : R 0
  rk0 : rk 0 = 0
  inj : ∀ u v, R u → R v → rk u = rk v → u = v
  on : ∀ u v, R u → E u v → R v
  qR : ∀ v, R v → v ≠ 0 → R (q v)
  qE : ∀ v, R v → v ≠ 0 → E (q v) v
  ql : ∀ v, R v → v ≠ 0 → rk (q v) < rk v
def Stl (d : Nat → Option Nat) (v : Nat) : Prop := v = 0 ∨ ∃ e, d v = some e
def qf (q : Nat → Nat) (v : Nat) : Option Nat := if v = 0 then none else some (q v)
structure Inv (E : Nat → Nat → Prop) (R : Nat → Prop) (rk q : Nat → Nat) (d : Nat → Option Nat) (i : Nat) : Prop where
  d0 : d 0 = none
  dR : ∀ v e, d v = some e → R v ∧ R e ∧ Stl d e
  hE : ∀ v e, d v = some e → Anc (qf q) e (q v)
  hD : ∀ v, R v → Stl d v → ∀ x, Dm E x v → Anc d x v
  hB : ∀ v e, d v = some e → ∀ x, (∀ p, R p → E p v → Stl d p → Anc d x p) → Anc d x e
  hC : ∀ v e, d v = some e → ∀ x, Anc d x e → (i ≤ rk x ∨ rk v < i) → Anc d x (q v)
  hQ : ∀ v, R v → rk v < i → Stl d v
  hS : ∀ v w, R v → R w → Stl d v → rk w < rk v → Stl d w
variable {E : Nat → Nat → Prop} {R : Nat → Prop} {rk q : Nat → Nat} {d : Nat → Option Nat} {i : Nat}
theorem qanc_rk (G : Gr E R rk q) {x v : Nat} (h : Anc (qf q) x v) : R v → R x ∧ (x = v ∨ rk x < rk v) := by
  induction h with
  | self => exact fun h => ⟨h, .inl rfl⟩
  | @up v w e k ih =>
    intro hv
    unfold qf at e
    split at e
    · cases e
    · rename_i h0
      cases e
      have := ih (G.qR v hv h0)
      have h2 := G.ql v hv h0
      refine ⟨this.1, .inr ?_⟩
      rcases this.2 with rfl | h
      · exact h2
      · omega
theorem Inv.nz (I : Inv E R rk q d i) {v e : Nat} (h : d v = some e) : v ≠ 0 := by rintro rfl; rw [I.d0] at h; cases h
theorem Inv.lt (G : Gr E R rk q) (I : Inv E R rk q d i) {v e : Nat} (h : d v = some e) : rk e < rk v := by
  have hv := (I.dR v e h).1
  have h0 := I.nz h
  have := (qanc_rk G (I.hE v e h) (G.qR v hv h0)).2
  have h2 := G.ql v hv h0
  rcases this with rfl | h
  · exact h2
  · omega
theorem Inv.anc (G : Gr E R rk q) (I : Inv E R rk q d i) {x v : Nat} (h : Anc d x v) : R v → Stl d v → R x ∧ Stl d x ∧ (x = v ∨ rk x < rk v) := by
  induction h with
  | self => exact fun h k => ⟨h, k, .inl rfl⟩
  | @up v w e k ih =>
    intro hv hs
    have h1 := I.dR v w e
    have h2 := ih h1.2.1 h1.2.2
    have h3 := I.lt G e
    refine ⟨h2.1, h2.2.1, .inr ?_⟩
    rcases h2.2.2 with rfl | h
    · exact h3
    · omega
theorem Inv.qanc (G : Gr E R rk q) (I : Inv E R rk q d i) {x v : Nat} (h : Anc d x v) : Anc (qf q) x v := by
  induction h with
  | self => exact .self
  | @up v w e k ih =>
    have h0 := I.nz e
    exact ih.trans ((I.hE v w e).trans (.up (w := q v) (by unfold qf; simp [h0]) (.self)))
theorem Inv.anti (G : Gr E R rk q) (I : Inv E R rk q d i) {x v : Nat} (hv : R v) (hs : Stl d v) (h : Anc d x v) (k : Anc d v x) : x = v := by
  have h1 := I.anc G h hv hs
  rcases h1.2.2 with h | h
  · exact h
  · rcases (I.anc G k h1.1 h1.2.1).2.2 with h2 | h2
    · exact h2.symm
    · omega
def upd (d : Nat → Option Nat) (u f : Nat) : Nat → Option Nat := fun v => if v = u then some f else d v
theorem upd_self (u f : Nat) : upd d u f u = some f := by simp [upd]
theorem upd_ne {u f v : Nat} (h : v ≠ u) : upd d u f v = d v := by simp [upd, h]
theorem upd_free {u f x v : Nat} (h : ¬ Anc d u v) : Anc (upd d u f) x v ↔ Anc d x v := by
  constructor
  · intro k
    induction k with
    | self => exact .self
    | @up v w e k ih =>
      have hne : v ≠ u := fun hh => h (by rw [hh]; exact .self)
      rw [upd_ne hne] at e
      exact .up e (ih (fun hh => h (.up e hh)))
  · intro k
    induction k with
    | self => exact .self
    | @up v w e k ih =>
      have hne : v ≠ u := fun hh => h (by rw [hh]; exact .self)
      exact .up ((upd_ne hne).trans e) (ih (fun hh => h (.up e hh)))
/-- below u all is as it was -/
theorem upd_low (G : Gr E R rk q) (I : Inv E R rk q d i) {u f x v : Nat} (hv : R v) (hs : Stl d v) (h : Anc d x v) (hux : Anc d u x) : Anc (upd d u f) x v := by
  induction h with
  | self => exact .self
  | @up v w e k ih =>
    have h1 := I.dR v w e
    have hne : v ≠ u := by
      rintro rfl
      have h3 := I.anc G k h1.2.1 h1.2.2
      have h4 := I.anc G hux h3.1 h3.2.1
      have h5 := I.lt G e
      rcases h3.2.2 with rfl | h3'
      · rcases h4.2.2 with h4 | h4
        · subst h4; omega
        · omega
      · rcases h4.2.2 with h4 | h4
        · subst h4; omega
        · omega
    exact .up ((upd_ne hne).trans e) (ih h1.2.1 h1.2.2)
structure Upd (E : Nat → Nat → Prop) (R : Nat → Prop) (d : Nat → Option Nat) (u f : Nat) : Prop where
  all : ∀ x, Anc d x f ↔ ∀ p, R p → E p u → Stl d p → Anc d x p
section
variable (G : Gr E R rk q) (I : Inv E R rk q d i) {u f : Nat} (hu : R u) (hi : rk u = i) (h0 : u ≠ 0) (F : Upd E R d u f)
include G I hu hi h0 F
theorem up_q : R (q u) ∧ Stl d (q u) ∧ Anc d f (q u) := by
  have h1 := G.qR u hu h0
  have h2 := I.hQ (q u) h1 (by have := G.ql u hu h0; omega)
  exact ⟨h1, h2, (F.all f).1 (.self) _ h1 (G.qE u hu h0) h2⟩
theorem up_f : R f ∧ Stl d f ∧ rk f < rk u := by
  obtain ⟨h1, h2, h3⟩ := up_q G I hu hi h0 F
  have h4 := I.anc G h3 h1 h2
  have h5 := G.ql u hu h0
  refine ⟨h4.1, h4.2.1, ?_⟩
  rcases h4.2.2 with rfl | h
  · exact h5
  · omega
theorem up_notf : ¬ Anc d u f := by
  intro h
  obtain ⟨h1, h2, h3⟩ := up_f G I hu hi h0 F
  rcases (I.anc G h h1 h2).2.2 with h | h
  · subst h; omega
  · omega
theorem up_u {x : Nat} : Anc (upd d u f) x u ↔ x = u ∨ Anc d x f := by
  constructor
  · intro h
    rcases h.cases' (upd_self u f) with h | h
    · exact .inl h
    · exact .inr ((upd_free (up_notf G I hu hi h0 F)).1 h)
  · rintro (rfl | h)
    · exact .self
    · exact .up (upd_self u f) ((upd_free (up_notf G I hu hi h0 F)).2 h)
theorem up_old {e : Nat} (he : d u = some e) : Anc d f e := by
  have _k := And.intro G.zero (And.intro hu (And.intro hi h0))
  exact I.hB u e he f fun p hp hE hs => (F.all f).1 (.self) p hp hE hs
theorem up_shrink {x v : Nat} (h : Anc (upd d u f) x v) : R v → Stl d v → Anc d x v := by
  induction h with
  | self => exact fun _ _ => .self
  | @up v w e k ih =>
    intro hv hs
    by_cases hvu : v = u
    · subst hvu
      rw [upd_self] at e
      cases e
      obtain ⟨h1, h2, h3⟩ := up_f G I hu hi h0 F
      rcases hs with h | ⟨e, he⟩
      · exact absurd h h0
      · exact (ih h1 h2).trans ((up_old G I hu hi h0 F he).trans (.up he (.self)))
    · rw [upd_ne hvu] at e
      have h1 := I.dR v w e
      exact .up e (ih h1.2.1 h1.2.2)
/-- what is above v behind it, where u is above v -/
theorem up_split {x v : Nat} (hv : R v) (hs : Stl d v) (huv : Anc d u v) : Anc (upd d u f) x v ↔ (Anc d x v ∧ Anc d u x) ∨ Anc d x f := by
  have hlow : Anc (upd d u f) u v := upd_low G I hv hs huv (.self)
  constructor
  · intro h
    rcases h.total hlow with h1 | h1
    · rcases (up_u G I hu hi h0 F).1 h1 with rfl | h2
      · exact .inl ⟨huv, .self⟩
      · exact .inr h2
    · have h2 := up_shrink G I hu hi h0 F h hv hs
      have h3 := I.anc G h2 hv hs
      exact .inl ⟨h2, up_shrink G I hu hi h0 F h1 h3.1 h3.2.1⟩
  · rintro (⟨h1, h2⟩ | h1)
    · exact upd_low G I hv hs h1 h2
    · exact ((up_u G I hu hi h0 F).2 (.inr h1)).trans hlow
theorem upd_stl {v : Nat} (h : Stl d v) : Stl (upd d u f) v := by
  have _k := And.intro G.zero (And.intro hu (And.intro hi (And.intro h0 (And.intro I.d0 F.all))))
  rcases h with h | ⟨e, he⟩
  · exact .inl h
  · by_cases hv : v = u
    · subst hv; exact .inr ⟨f, upd_self _ _⟩
    · exact .inr ⟨e, (upd_ne hv).trans he⟩
theorem stl_upd {v : Nat} (h : Stl (upd d u f) v) (hv : v ≠ u) : Stl d v := by
  have _k := And.intro G.zero (And.intro hu (And.intro hi (And.intro h0 (And.intro I.d0 F.all))))
  rcases h with h | ⟨e, he⟩
  · exact .inl h
  · rw [upd_ne hv] at he; exact .inr ⟨e, he⟩
end
theorem Way.inR (G : Gr E R rk q) {l : List Nat} {v : Nat} (h : Way E l v) : R v := by
  induction h with
  | start => exact G.zero
  | on _ e ih => exact G.on _ _ ih e
/-- on from u by q to v, by places that are no lower than u -/
theorem way_q (G : Gr E R rk q) {u v : Nat} (h : Anc (qf q) u v) : R v → ∀ l, Way E l u → ∃ m, Way E (m ++ l) v ∧ ∀ x ∈ m, rk u ≤ rk x := by
  induction h with
  | self => exact fun _ l hl => ⟨[], hl, by simp⟩
  | @up v w e k ih =>
    intro hv l hl
    unfold qf at e
    split at e
    · cases e
    · rename_i h0
      cases e
      obtain ⟨m, h1, h2⟩ := ih (G.qR v hv h0) l hl
      refine ⟨v :: m, .on h1 (G.qE v hv h0), fun x hx => ?_⟩
      rcases List.mem_cons.1 hx with rfl | hx
      · have h3 := (qanc_rk G k (G.qR x hv h0)).2
        have h4 := G.ql x hv h0
        rcases h3 with h3 | h3
        · subst h3; omega
        · omega
      · exact h2 x hx
theorem dm_step {x p v : Nat} (h : Dm E x v) (hx : x ≠ v) (e : E p v) : Dm E x p := fun l hl => by
  have := h _ (.on hl e)
  rcases List.mem_cons.1 this with h | h
  · exact absurd h hx
  · exact h
theorem dm_zero {x : Nat} (h : Dm E x 0) : x = 0 := by simpa using h _ .start
section
variable (G : Gr E R rk q) (I : Inv E R rk q d i) {u f : Nat} (hu : R u) (hi : rk u = i) (h0 : u ≠ 0) (F : Upd E R d u f)
include G I hu hi h0 F
theorem up_D : ∀ v, R v → Stl (upd d u f) v → ∀ x, Dm E x v → Anc (upd d u f) x v := by
  have hcase : ∀ x, Dm E x u → Anc (upd d u f) x u := fun x hx => by
    by_cases hxu : x = u
    · subst hxu; exact .self
    · exact (up_u G I hu hi h0 F).2 (.inr ((F.all x).2 fun p hp hE hs => I.hD p hp hs x (dm_step hx hxu hE)))
  intro v hv hs x hx
  by_cases hvu : v = u
  · subst hvu; exact hcase x hx
  have hs' := stl_upd G I hu hi h0 F hs hvu
  have h1 := I.hD v hv hs' x hx
  by_cases huv : Anc d u v
  · rcases huv.total h1 with h2 | h2
    · exact upd_low G I hv hs' h1 h2
    · by_cases hxu : x = u
      · subst hxu; exact upd_low G I hv hs' h1 (.self)
      · have h3 := I.anc G huv hv hs'
        have h4 : rk x < rk u := by
          rcases (I.anc G h2 h3.1 h3.2.1).2.2 with h | h
          · exact absurd h hxu
          · exact h
        have h5 : Dm E x u := fun l hl => by
          obtain ⟨m, hm1, hm2⟩ := way_q G (I.qanc G huv) hv l hl
          rcases List.mem_append.1 (hx _ hm1) with h | h
          · have := hm2 x h; omega
          · exact h
        exact (hcase x h5).trans (upd_low G I hv hs' huv (.self))
  · exact (upd_free huv).2 h1
theorem up_B : ∀ v e, upd d u f v = some e → ∀ x, (∀ p, R p → E p v → Stl (upd d u f) p → Anc (upd d u f) x p) → Anc (upd d u f) x e := by
  intro v e he x hx
  have hx' : ∀ p, R p → E p v → Stl d p → Anc d x p := fun p hp hE hs => up_shrink G I hu hi h0 F (hx p hp hE (upd_stl G I hu hi h0 F hs)) hp hs
  by_cases hvu : v = u
  · subst hvu
    rw [upd_self] at he
    cases he
    exact (upd_free (up_notf G I hu hi h0 F)).2 ((F.all x).2 hx')
  rw [upd_ne hvu] at he
  have h1 := I.hB v e he x hx'
  have hR := I.dR v e he
  by_cases hue : Anc d u e
  · rcases hue.total h1 with h2 | h2
    · exact upd_low G I hR.2.1 hR.2.2 h1 h2
    · by_cases hxu : x = u
      · subst hxu; exact upd_low G I hR.2.1 hR.2.2 h1 (.self)
      · have hv0 := I.nz he
        have h3 := I.hC v e he u hue (.inl (by omega))
        have hqR := G.qR v hR.1 hv0
        have hqS : Stl d (q v) := I.hS v (q v) hR.1 hqR (.inr ⟨e, he⟩) (G.ql v hR.1 hv0)
        have h4 := hx (q v) hqR (G.qE v hR.1 hv0) (upd_stl G I hu hi h0 F hqS)
        rcases (up_split G I hu hi h0 F hqR hqS h3).1 h4 with ⟨_, h5⟩ | h5
        · have hxs := I.anc G h1 hR.2.1 hR.2.2
          exact absurd (I.anti G hxs.1 hxs.2.1 h5 h2).symm hxu
        · exact (up_split G I hu hi h0 F hR.2.1 hR.2.2 hue).2 (.inr h5)
  · exact (upd_free hue).2 h1
theorem up_C : ∀ v e, upd d u f v = some e → ∀ x, Anc (upd d u f) x e → (i + 1 ≤ rk x ∨ rk v < i + 1) → Anc (upd d u f) x (q v) := by
  intro v e he x hx hc
  by_cases hvu : v = u
  · subst hvu
    rw [upd_self] at he
    cases he
    obtain ⟨h1, h2, h3⟩ := up_q G I hu hi h0 F
    have h4 := (upd_free (up_notf G I hu hi h0 F)).1 hx
    refine (upd_free ?_).2 (h4.trans h3)
    intro h
    have := (I.anc G h h1 h2).2.2
    have h5 := G.ql v hu h0
    rcases this with h | h
    · rw [← h] at h5; omega
    · omega
  rw [upd_ne hvu] at he
  have hR := I.dR v e he
  have hv0 := I.nz he
  have hqR := G.qR v hR.1 hv0
  have hqS : Stl d (q v) := I.hS v (q v) hR.1 hqR (.inr ⟨e, he⟩) (G.ql v hR.1 hv0)
  have h1 := up_shrink G I hu hi h0 F hx hR.2.1 hR.2.2
  have hnv : rk v ≠ i := fun h => hvu (G.inj v u hR.1 hu (by omega))
  have h2 := I.hC v e he x h1 (by omega)
  by_cases hq : Anc d u (q v)
  · refine (up_split G I hu hi h0 F hqR hqS hq).2 (.inl ⟨h2, ?_⟩)
    rcases hq.total h2 with h | h
    · exact h
    · have h3 := I.anc G hq hqR hqS
      have h4 := (I.anc G h h3.1 h3.2.1).2.2
      have h5 := G.ql v hR.1 hv0
      rcases hc with hc | hc
      · rcases h4 with h4 | h4
        · subst h4; omega
        · omega
      · rcases h3.2.2 with h6 | h6
        · rw [← h6] at h5; omega
        · omega
  · exact (upd_free hq).2 h2
theorem Inv.step : Inv E R rk q (upd d u f) (i + 1) where
  d0 := by rw [upd_ne (fun h => h0 h.symm)]; exact I.d0
  dR := fun v e he => by
    by_cases hvu : v = u
    · subst hvu
      rw [upd_self] at he
      cases he
      obtain ⟨h1, h2, _⟩ := up_f G I hu hi h0 F
      exact ⟨hu, h1, upd_stl G I hu hi h0 F h2⟩
    · rw [upd_ne hvu] at he
      have := I.dR v e he
      exact ⟨this.1, this.2.1, upd_stl G I hu hi h0 F this.2.2⟩
  hE := fun v e he => by
    by_cases hvu : v = u
    · subst hvu
      rw [upd_self] at he
      cases he
      exact I.qanc G (up_q G I hu hi h0 F).2.2
    · rw [upd_ne hvu] at he; exact I.hE v e he
  hD := up_D G I hu hi h0 F
  hB := up_B G I hu hi h0 F
  hC := up_C G I hu hi h0 F
  hQ := fun v hv h => by
    by_cases hvu : v = u
    · subst hvu; exact .inr ⟨f, upd_self _ _⟩
    · have hnv : rk v ≠ i := fun h => hvu (G.inj v u hv hu (by omega))
      exact upd_stl G I hu hi h0 F (I.hQ v hv (by omega))
  hS := fun v w hv hw hs hl => by
    by_cases hvu : v = u
    · subst hvu; exact upd_stl G I hu hi h0 F (I.hQ w hw (by omega))
    · exact upd_stl G I hu hi h0 F (I.hS v w hv hw (stl_upd G I hu hi h0 F hs hvu) hl)
end
theorem upd_same {u f : Nat} (h : d u = some f) : upd d u f = d := by
  funext v
  unfold upd
  split
  · rename_i h'; rw [h', h]
  · rfl
/-- a new pass -/
theorem Inv.pass (G : Gr E R rk q) (I : Inv E R rk q d i) (hi : ∀ v, R v → rk v < i) (h1 : 1 ≤ i) : Inv E R rk q d 1 :=
  { I with
    hC := fun v e he x hx _ => I.hC v e he x hx (.inr (hi v (I.dR v e he).1))
    hQ := fun v hv h => .inl (G.inj v 0 hv G.zero (by rw [G.rk0]; omega)) }
theorem Inv.zero (G : Gr E R rk q) (h : ∀ v, d v = none) : Inv E R rk q d 1 where
  d0 := h 0
  dR := fun v e he => by rw [h] at he; cases he
  hE := fun v e he => by rw [h] at he; cases he
  hD := fun v _ hs x hx => by
    rcases hs with rfl | ⟨e, he⟩
    · rw [dm_zero hx]; exact .self
    · rw [h] at he; cases he
  hB := fun v e he => by rw [h] at he; cases he
  hC := fun v e he => by rw [h] at he; cases he
  hQ := fun v hv hl => .inl (G.inj v 0 hv G.zero (by rw [G.rk0]; omega))
  hS := fun v w hv hw hs hl => by
    rcases hs with rfl | ⟨e, he⟩
    · rw [G.rk0] at hl; omega
    · rw [h] at he; cases he
/-- where nothing changes -/
structure Tree (E : Nat → Nat → Prop) (R : Nat → Prop) (d : Nat → Option Nat) : Prop where
  zero : d 0 = none
  has : ∀ v, R v → v ≠ 0 → ∃ e, d v = some e ∧ R e
  dom : ∀ v, R v → ∀ x, Dm E x v ↔ Anc d x v
  total : ∀ v e, R v → d v = some e → ¬ Anc d v e
theorem Inv.fin (G : Gr E R rk q) (I : Inv E R rk q d i) (hF : ∀ u, R u → u ≠ 0 → ∃ f, d u = some f ∧ Upd E R d u f) : Tree E R d := by
  have hst : ∀ v, R v → Stl d v := fun v hv => by
    by_cases h0 : v = 0
    · exact .inl h0
    · obtain ⟨f, hf, _⟩ := hF v hv h0; exact .inr ⟨f, hf⟩
  have hway : ∀ l v, Way E l v → ∀ x, Anc d x v → x ∈ l := by
    intro l v hw
    induction hw with
    | start => intro x hx; rw [hx.cases_none I.d0]; simp
    | @on l u v h e ih =>
      intro x hx
      have hRu := Way.inR G h
      have hRv := G.on _ _ hRu e
      by_cases h0 : v = 0
      · subst h0; rw [hx.cases_none I.d0]; simp
      obtain ⟨f, hf, hU⟩ := hF v hRv h0
      rcases hx.cases' hf with rfl | hx
      · simp
      · exact List.mem_cons_of_mem _ (ih x ((hU.all x).1 hx u hRu e (hst u hRu)))
  refine ⟨I.d0, fun v hv h0 => ?_, fun v hv x => ⟨I.hD v hv (hst v hv) x, fun h l hl => hway l v hl x h⟩, fun v e hv he h => ?_⟩
  · obtain ⟨f, hf, _⟩ := hF v hv h0
    exact ⟨f, hf, (I.dR v f hf).2.1⟩
  · have h1 := I.dR v e he
    have h2 := I.lt G he
    rcases (I.anc G h h1.2.1 h1.2.2).2.2 with h | h
    · subst h; omega
    · omega
end DM
end Go.Proofs.Ytkjafkegkllbiaa
