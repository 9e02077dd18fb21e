/- Nearest dominators by lists of numbers: they are told. Plain. -/
import Derived.Test.YtkjafkegkllbiaaDomB
namespace Go.Proofs.Ytkjafkegkllbiaa
set_option linter.unusedSimpArgs false
set_option linter.unusedVariables false
namespace DM
def dOf (D : List Int) (v : Nat) : Option Nat := if okN D.length (gI D v) = true ∧ v < D.length then some (gI D v).toNat else none
def meetF (rk D : List Int) : Nat → Nat → Nat → Option Nat
  | 0, a, b => if a = b then some a else none
  | k + 1, a, b =>
    if a = b then some a
    else if gI rk b < gI rk a then (if okN D.length (gI D a) = true then meetF rk D k (gI D a).toNat b else none)
    else (if okN D.length (gI D b) = true then meetF rk D k a (gI D b).toNat else none)
def foundF (rk D : List Int) (N : Nat) : List Nat → Int → Option Int
  | [], f => some f
  | p :: ps, f =>
    if p ≠ 0 ∧ gI D p < 0 then foundF rk D N ps f
    else if f < 0 then foundF rk D N ps (p : Int)
    else match meetF rk D N f.toNat p with
      | none => none
      | some c => foundF rk D N ps (c : Int)
def passF (P : List (List Nat)) (rk : List Int) (N : Nat) : List Nat → List Int → Bool → Option (List Int × Bool)
  | [], D, c => some (D, c)
  | v :: vs, D, c =>
    if v = 0 then passF P rk N vs D c
    else match foundF rk D N (P.getD v []) (-1) with
      | none => none
      | some f => if gI D v = f then passF P rk N vs D c else passF P rk N vs (D.set v f) true
def settleF (P : List (List Nat)) (rk : List Int) (N : Nat) (order : List Nat) : Nat → List Int → Option (List Int)
  | 0, _ => none
  | k + 1, D =>
    match passF P rk N order D false with
    | none => none
    | some (D', false) => some D'
    | some (D', true) => settleF P rk N order k D'
theorem dOf_some {D : List Int} {v e : Nat} (h : dOf D v = some e) : gI D v = (e : Int) ∧ e < D.length ∧ v < D.length ∧ okN D.length (gI D v) = true := by
  unfold dOf at h
  split at h
  · rename_i h'
    cases h
    have := okN_cast h'.1
    exact ⟨this.1.symm, this.2, h'.2, h'.1⟩
  · cases h
/-- a list of nearest ones, as it may be: -1, or a place -/
def Fine (D : List Int) : Prop := ∀ v, v < D.length → gI D v = -1 ∨ okN D.length (gI D v) = true
theorem dOf_none {D : List Int} {v : Nat} (h : dOf D v = none) (hF : Fine D) (hv : v < D.length) : gI D v = -1 := by
  unfold dOf at h
  rcases hF v hv with h1 | h1
  · exact h1
  · rw [if_pos ⟨h1, hv⟩] at h; cases h
theorem gI_set {D : List Int} {u v : Nat} {f : Int} : gI (D.set u f) v = if u = v ∧ v < D.length then f else gI D v := by
  unfold gI
  rw [List.getD_eq_getElem?_getD, List.getD_eq_getElem?_getD, List.getElem?_set]
  by_cases h : u = v
  · subst h
    by_cases h2 : u < D.length
    · simp [h2]
    · simp [h2]
  · simp [h]
theorem dOf_set {D : List Int} {u f : Nat} (hu : u < D.length) (hf : f < D.length) : dOf (D.set u (f : Int)) = upd (dOf D) u f := by
  funext v
  unfold dOf upd
  rw [List.length_set, gI_set]
  by_cases h : v = u
  · subst h
    have : okN D.length (f : Int) = true := decide_eq_true (by omega)
    simp [hu, this]
  · have h' : ¬ (u = v ∧ v < D.length) := fun hh => h hh.1.symm
    rw [if_neg h', if_neg h]
theorem fine_set {D : List Int} {u f : Nat} (hF : Fine D) (hf : f < D.length) : Fine (D.set u (f : Int)) := by
  intro v hv
  rw [List.length_set] at hv ⊢
  rw [gI_set]
  split
  · exact .inr (decide_eq_true (by omega))
  · exact hF v hv
section
variable {E : Nat → Nat → Prop} {R : Nat → Prop} {rk q : Nat → Nat} {i : Nat} {D rkL : List Int}
structure Ok (E : Nat → Nat → Prop) (R : Nat → Prop) (rk q : Nat → Nat) (D rkL : List Int) (N : Nat) : Prop where
  G : Gr E R rk q
  fine : Fine D
  lt : ∀ v, R v → v < D.length
  hrk : ∀ v, R v → gI rkL v = (rk v : Int)
  hN : ∀ v, R v → 2 * rk v ≤ N
theorem meet_spec {N0 : Nat} (O : Ok E R rk q D rkL N0) (I : Inv E R rk q (dOf D) i) : ∀ (N a b : Nat), R a → R b → Stl (dOf D) a → Stl (dOf D) b → rk a + rk b ≤ N →
    ∃ c, meetF rkL D N a b = some c ∧ R c ∧ Stl (dOf D) c ∧ ∀ x, Anc (dOf D) x c ↔ Anc (dOf D) x a ∧ Anc (dOf D) x b := by
  intro N
  have key : ∀ a b, R a → R b → Stl (dOf D) a → Stl (dOf D) b → rk b < rk a → ∃ e, dOf D a = some e ∧ R e ∧ Stl (dOf D) e ∧ rk e < rk a ∧ (∀ x, Anc (dOf D) x a ∧ Anc (dOf D) x b ↔ Anc (dOf D) x e ∧ Anc (dOf D) x b) := by
    intro a b ha hb sa sb hl
    rcases sa with rfl | ⟨e, he⟩
    · rw [O.G.rk0] at hl; omega
    · have h1 := I.dR a e he
      refine ⟨e, he, h1.2.1, h1.2.2, I.lt O.G he, fun x => ⟨fun ⟨h, k⟩ => ?_, fun ⟨h, k⟩ => ⟨.up he h, k⟩⟩⟩
      rcases h.cases' he with rfl | h
      · rcases (I.anc O.G k hb sb).2.2 with h | h
        · subst h; omega
        · omega
      · exact ⟨h, k⟩
  induction N with
  | zero =>
    intro a b ha hb sa sb hr
    have : a = b := O.G.inj a b ha hb (by omega)
    subst this
    exact ⟨a, by simp [meetF], ha, sa, fun x => by simp⟩
  | succ N ih =>
    intro a b ha hb sa sb hr
    by_cases hab : a = b
    · subst hab
      exact ⟨a, by simp [meetF], ha, sa, fun x => by simp⟩
    · unfold meetF
      rw [if_neg hab, O.hrk a ha, O.hrk b hb]
      by_cases hl : rk b < rk a
      · obtain ⟨e, he, h1, h2, h3, h4⟩ := key a b ha hb sa sb hl
        obtain ⟨g1, g2, g3, g4⟩ := dOf_some he
        rw [if_pos (by omega), if_pos g4, g1]
        obtain ⟨c, c1, c2, c3, c4⟩ := ih e b h1 hb h2 sb (by omega)
        exact ⟨c, by simpa using c1, c2, c3, fun x => (c4 x).trans (h4 x).symm⟩
      · have hne : rk a ≠ rk b := fun h => hab (O.G.inj a b ha hb h)
        obtain ⟨e, he, h1, h2, h3, h4⟩ := key b a hb ha sb sa (by omega)
        obtain ⟨g1, g2, g3, g4⟩ := dOf_some he
        rw [if_neg (by omega), if_pos g4, g1]
        obtain ⟨c, c1, c2, c3, c4⟩ := ih a e ha h1 sa h2 (by omega)
        refine ⟨c, by simpa using c1, c2, c3, fun x => (c4 x).trans ?_⟩
        rw [and_comm, ← h4 x, and_comm]
/-- what was found of some of those ahead -/
def FSt (E : Nat → Nat → Prop) (R : Nat → Prop) (d : Nat → Option Nat) (X : Nat → Prop) (f : Int) : Prop :=
  (f = -1 ∧ ∀ p, X p → ¬ Stl d p) ∨ ∃ c : Nat, f = (c : Int) ∧ R c ∧ Stl d c ∧ ∀ x, Anc d x c ↔ ∀ p, X p → Stl d p → Anc d x p
theorem found_spec {N : Nat} (O : Ok E R rk q D rkL N) (I : Inv E R rk q (dOf D) i) : ∀ (ps : List Nat) (X : Nat → Prop) (f : Int), (∀ p ∈ ps, R p) → FSt E R (dOf D) X f →
    ∃ g, foundF rkL D N ps f = some g ∧ FSt E R (dOf D) (fun p => X p ∨ p ∈ ps) g := by
  intro ps
  induction ps with
  | nil =>
    intro X f _ h
    refine ⟨f, rfl, ?_⟩
    have : (fun p => X p ∨ p ∈ ([] : List Nat)) = X := by funext p; simp
    rw [this]; exact h
  | cons p ps ih =>
    intro X f hR h
    have hp := hR p (by simp)
    have hXe : (fun y => X y ∨ y ∈ p :: ps) = (fun y => (X y ∨ y = p) ∨ y ∈ ps) := by
      funext y; simp [or_assoc]
    rw [hXe]
    unfold foundF
    by_cases hs : Stl (dOf D) p
    · have hns : ¬ (p ≠ 0 ∧ gI D p < 0) := by
        rintro ⟨h1, h2⟩
        rcases hs with h | ⟨e, he⟩
        · exact h1 h
        · have := (dOf_some he).1; omega
      rw [if_neg hns]
      rcases h with ⟨rfl, h⟩ | ⟨c, rfl, hc1, hc2, hc3⟩
      · rw [if_pos (by omega)]
        refine ih (fun y => X y ∨ y = p) (p : Int) (fun y hy => hR y (by simp [hy])) (.inr ⟨p, rfl, hp, hs, fun x => ⟨fun hx y hy hsy => ?_, fun hx => hx p (.inr rfl) hs⟩⟩)
        rcases hy with hy | rfl
        · exact absurd hsy (h y hy)
        · exact hx
      · rw [if_neg (by omega)]
        have h1 := O.hN c hc1
        have h2 := O.hN p hp
        obtain ⟨g, g1, g2, g3, g4⟩ := meet_spec O I N c p hc1 hp hc2 hs (by omega)
        rw [show ((c : Int)).toNat = c from by simp, g1]
        refine ih (fun y => X y ∨ y = p) (g : Int) (fun y hy => hR y (by simp [hy])) (.inr ⟨g, rfl, g2, g3, fun x => ?_⟩)
        rw [g4, hc3]
        constructor
        · rintro ⟨a, b⟩ y (hy | rfl) hsy
          · exact a y hy hsy
          · exact b
        · intro a
          exact ⟨fun y hy hsy => a y (.inl hy) hsy, a p (.inr rfl) hs⟩
    · have h0 : p ≠ 0 := fun h => hs (.inl h)
      have hneg : gI D p < 0 := by
        have : dOf D p = none := by
          cases hd : dOf D p with
          | none => rfl
          | some e => exact absurd (.inr ⟨e, hd⟩) hs
        have := dOf_none this O.fine (O.lt p hp)
        omega
      rw [if_pos ⟨h0, hneg⟩]
      refine ih (fun y => X y ∨ y = p) f (fun y hy => hR y (by simp [hy])) ?_
      rcases h with ⟨rfl, h⟩ | ⟨c, rfl, hc1, hc2, hc3⟩
      · exact .inl ⟨rfl, fun y hy => by rcases hy with hy | rfl; exact h y hy; exact hs⟩
      · refine .inr ⟨c, rfl, hc1, hc2, fun x => ?_⟩
        rw [hc3]
        constructor
        · rintro a y (hy | rfl) hsy
          · exact a y hy hsy
          · exact absurd hsy hs
        · intro a y hy hsy
          exact a y (.inl hy) hsy
/-- how much is left to be done -/
def muN (rk : Nat → Nat) (n : Nat) (d : Nat → Option Nat) (l : List Nat) : Nat := (l.map fun v => match d v with | none => n | some e => rk e).sum
theorem sum_map_le {f g : Nat → Nat} : ∀ {l : List Nat}, (∀ x ∈ l, f x ≤ g x) → (l.map f).sum ≤ (l.map g).sum
  | [], _ => by simp
  | a :: l, h => by
    have h1 := h a (by simp)
    have h2 := sum_map_le (l := l) (fun x hx => h x (by simp [hx]))
    simp; omega
theorem sum_map_lt {f g : Nat → Nat} : ∀ {l : List Nat} {u : Nat}, (∀ x ∈ l, f x ≤ g x) → u ∈ l → f u < g u → (l.map f).sum < (l.map g).sum
  | [], _, _, h, _ => by simp at h
  | a :: l, u, h, hu, hl => by
    have h1 := h a (by simp)
    rcases List.mem_cons.1 hu with rfl | hu
    · have h2 := sum_map_le (l := l) (fun x hx => h x (by simp [hx]))
      simp; omega
    · have h2 := sum_map_lt (l := l) (fun x hx => h x (by simp [hx])) hu hl
      simp; omega
theorem pass_spec {N : Nat} {order : List Nat} {P : List (List Nat)} (hR : ∀ v, R v ↔ v ∈ order) (hrk : ∀ A v B, order = A ++ v :: B → rk v = A.length) (hlen : ∀ v, R v → rk v < order.length)
    (hP : ∀ v, R v → ∀ p, p ∈ P.getD v [] ↔ R p ∧ E p v) :
    ∀ (vs A : List Nat) (D : List Int) (c : Bool), order = A ++ vs → Ok E R rk q D rkL N → Inv E R rk q (dOf D) (max 1 A.length) →
    ∃ D' c', passF P rkL N vs D c = some (D', c') ∧ Ok E R rk q D' rkL N ∧ D'.length = D.length ∧ Inv E R rk q (dOf D') (max 1 order.length) ∧ (∀ v, ¬ R v → gI D' v = gI D v) ∧
      ((D' = D ∧ c' = c ∧ ∀ u ∈ vs, u ≠ 0 → ∃ f, dOf D u = some f ∧ Upd E R (dOf D) u f) ∨ (c' = true ∧ muN rk order.length (dOf D') order < muN rk order.length (dOf D) order)) := by
  intro vs
  induction vs with
  | nil =>
    intro A D c ho O I
    simp at ho
    subst ho
    exact ⟨D, c, rfl, O, rfl, I, fun _ _ => rfl, .inl ⟨rfl, rfl, by simp⟩⟩
  | cons v vs ih =>
    intro A D c ho O I
    have hrv := hrk A v vs ho
    have hv : R v := (hR v).2 (by rw [ho]; simp)
    have ho' : order = (A ++ [v]) ++ vs := by rw [ho]; simp
    unfold passF
    by_cases h0 : v = 0
    · rw [if_pos h0]
      have hA : A.length = 0 := by rw [← hrv, h0, O.G.rk0]
      obtain ⟨D', c', e1, e2, e3, e4, e5, e6⟩ := ih (A ++ [v]) D c ho' O (by
        have : max 1 (A ++ [v]).length = max 1 A.length := by simp [hA]
        rw [this]; exact I)
      refine ⟨D', c', e1, e2, e3, e4, e5, ?_⟩
      rcases e6 with ⟨rfl, rfl, h⟩ | h
      · refine .inl ⟨rfl, rfl, fun u hu hu0 => ?_⟩
        rcases List.mem_cons.1 hu with rfl | hu
        · exact absurd h0 hu0
        · exact h u hu hu0
      · exact .inr h
    · rw [if_neg h0]
      have hA : 1 ≤ A.length := by
        rw [← hrv]
        have : rk v ≠ 0 := fun h => h0 (O.G.inj v 0 hv O.G.zero (by rw [O.G.rk0]; exact h))
        omega
      have hmax : max 1 A.length = A.length := by omega
      rw [hmax] at I
      obtain ⟨g, g1, g2⟩ := found_spec O I (P.getD v []) (fun _ => False) (-1) (fun p hp => ((hP v hv p).1 hp).1) (.inl ⟨rfl, fun _ h => h.elim⟩)
      rw [g1]
      have hqs : Stl (dOf D) (q v) := I.hQ (q v) (O.G.qR v hv h0) (by have := O.G.ql v hv h0; omega)
      have hqm : q v ∈ P.getD v [] := (hP v hv _).2 ⟨O.G.qR v hv h0, O.G.qE v hv h0⟩
      rcases g2 with ⟨_, h⟩ | ⟨f, rfl, hf1, hf2, hf3⟩
      · exact absurd hqs (h _ (.inr hqm))
      have F : Upd E R (dOf D) v f := ⟨fun x => by
        rw [hf3]
        constructor
        · intro a p hp hE hs
          exact a p (.inr ((hP v hv p).2 ⟨hp, hE⟩)) hs
        · rintro a p (h | h) hs
          · exact h.elim
          · have := (hP v hv p).1 h; exact a p this.1 this.2 hs⟩
      have hvl := O.lt v hv
      have hfl := O.lt f hf1
      have hi1 : max 1 (A ++ [v]).length = A.length + 1 := by simp
      have I' := I.step O.G hv hrv h0 F
      by_cases hsame : gI D v = (f : Int)
      · simp only [if_pos hsame]
        have hd : dOf D v = some f := by
          unfold dOf
          rw [hsame, if_pos ⟨decide_eq_true (by omega), hvl⟩]; simp
        rw [upd_same hd] at I'
        obtain ⟨D', c', e1, e2, e3, e4, e5, e6⟩ := ih (A ++ [v]) D c ho' O (by rw [hi1]; exact I')
        refine ⟨D', c', e1, e2, e3, e4, e5, ?_⟩
        rcases e6 with ⟨rfl, rfl, h⟩ | h
        · refine .inl ⟨rfl, rfl, fun u hu hu0 => ?_⟩
          rcases List.mem_cons.1 hu with rfl | hu
          · exact ⟨f, hd, F⟩
          · exact h u hu hu0
        · exact .inr h
      · simp only [if_neg hsame]
        have hset := dOf_set (D := D) (u := v) (f := f) hvl hfl
        rw [← hset] at I'
        have O' : Ok E R rk q (D.set v (f : Int)) rkL N := ⟨O.G, fine_set O.fine hfl, fun u hu => by rw [List.length_set]; exact O.lt u hu, O.hrk, O.hN⟩
        obtain ⟨D', c', e1, e2, e3, e4, e5, e6⟩ := ih (A ++ [v]) (D.set v (f : Int)) true ho' O' (by rw [hi1]; exact I')
        have hlt : muN rk order.length (dOf (D.set v (f : Int))) order < muN rk order.length (dOf D) order := by
          rw [hset]
          unfold muN
          refine sum_map_lt (u := v) (fun x hx => ?_) ((hR v).1 hv) ?_
          · by_cases hxv : x = v
            · subst hxv
              rw [upd_self]
              cases hd : dOf D x with
              | none => exact Nat.le_of_lt (hlen f hf1)
              | some e =>
                have := up_old O.G I hv hrv h0 F hd
                have h3 := I.dR x e hd
                rcases (I.anc O.G this h3.2.1 h3.2.2).2.2 with h | h
                · subst h; exact Nat.le_refl _
                · exact Nat.le_of_lt h
            · rw [upd_ne hxv]; exact Nat.le_refl _
          · rw [upd_self]
            cases hd : dOf D v with
            | none => exact hlen f hf1
            | some e =>
              have := up_old O.G I hv hrv h0 F hd
              have h3 := I.dR v e hd
              rcases (I.anc O.G this h3.2.1 h3.2.2).2.2 with h | h
              · exact absurd ((dOf_some hd).1.trans (by rw [h])) hsame
              · exact h
        refine ⟨D', c', e1, e2, by rw [e3, List.length_set], e4, fun u hu => ?_, .inr ?_⟩
        · rw [e5 u hu, gI_set]
          have : ¬ (v = u ∧ u < D.length) := fun h => hu (h.1 ▸ hv)
          rw [if_neg this]
        · rcases e6 with ⟨rfl, rfl, h⟩ | ⟨h1, h2⟩
          · exact ⟨rfl, hlt⟩
          · exact ⟨h1, by omega⟩
theorem settle_spec {N : Nat} {order : List Nat} {P : List (List Nat)} (hR : ∀ v, R v ↔ v ∈ order) (hrk : ∀ A v B, order = A ++ v :: B → rk v = A.length) (hlen : ∀ v, R v → rk v < order.length)
    (hP : ∀ v, R v → ∀ p, p ∈ P.getD v [] ↔ R p ∧ E p v) (mu : Nat) : ∀ D, Ok E R rk q D rkL N → Inv E R rk q (dOf D) 1 → muN rk order.length (dOf D) order ≤ mu →
    ∃ K DF, settleF P rkL N order K D = some DF ∧ Tree E R (dOf DF) ∧ DF.length = D.length ∧ Fine DF ∧ (∀ v, ¬ R v → gI DF v = gI D v) := by
  induction mu using Nat.strongRecOn with
  | _ mu ih =>
    intro D O I hmu
    obtain ⟨D', c', e1, e2, e3, e4, e5, e6⟩ := pass_spec hR hrk hlen hP order [] D false (by simp) O (by simpa using I)
    rcases e6 with ⟨rfl, rfl, h⟩ | ⟨rfl, h⟩
    · refine ⟨1, D', by simp [settleF, e1], I.fin O.G fun u hu h0 => h u ((hR u).1 hu) h0, rfl, O.fine, fun _ _ => rfl⟩
    · have hpos : 1 ≤ order.length := by have := hlen 0 O.G.zero; omega
      obtain ⟨K, DF, k1, k2, k3, k4, k5⟩ := ih _ (by omega) D' e2 (e4.pass O.G (fun v hv => by have := hlen v hv; omega) (by omega)) (Nat.le_refl _)
      exact ⟨K + 1, DF, by simp [settleF, e1, k1], k2, by rw [k3, e3], k4, fun v hv => by rw [k5 v hv, e5 v hv]⟩
end
end DM
end Go.Proofs.Ytkjafkegkllbiaa
