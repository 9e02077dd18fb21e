/- What the next places meet. Plain. -/
import Derived.Test.YtkjafkegkllbiaaPdF
namespace Go.Proofs.Ytkjafkegkllbiaa
set_option linter.unusedSimpArgs false
set_option linter.unusedVariables false
namespace DM
theorem way_cut {E : Nat → Nat → Prop} {l : List Nat} {v : Nat} (h : Way E l v) : ∀ x ∈ l, ∃ l2, Way E l2 x ∧ l2.length ≤ l.length := by
  induction h with
  | start => intro x hx; have : x = 0 := by simpa using hx
             subst this; exact ⟨[0], .start, Nat.le_refl _⟩
  | @on l u v h e ih =>
    intro x hx
    rcases List.mem_cons.1 hx with rfl | hx
    · exact ⟨x :: l, .on h e, Nat.le_refl _⟩
    · obtain ⟨l2, h1, h2⟩ := ih x hx
      exact ⟨l2, h1, by simp; omega⟩
section
variable {next : List (List Int)} {R : Nat → Prop} {d : Nat → Option Nat}
/-- the places that the next ones share are those above the nearest one -/
theorem common_iff (hR : ∀ v, R v ↔ ∃ l, Way (Eg (turnF next)) l v) (T : Tree (Eg (turnF next)) R d) {i e : Nat} (hi : i < next.length) {outs : List Nat} (ho : ∀ b, b ∈ outs ↔ Eg next i b) (hne : outs ≠ []) (hRo : ∀ b ∈ outs, R (b + 1)) (hRi : R (i + 1)) (he : d (i + 1) = some e) (hRe : R e) (x : Nat) :
    (∀ b ∈ outs, Anc d x (b + 1)) ↔ Anc d x e := by
  have hedge : ∀ b ∈ outs, Eg (turnF next) (b + 1) (i + 1) := fun b hb => turn_succ.2 ⟨i, rfl, hi, (ho b).1 hb⟩
  have hpred : ∀ u, Eg (turnF next) u (i + 1) → ∃ b ∈ outs, u = b + 1 := by
    intro u hu
    cases u with
    | zero =>
      obtain ⟨i', e', _, h2⟩ := turn_zero.1 hu
      have : i' = i := by omega
      subst this
      exfalso
      obtain ⟨b, hb⟩ : ∃ b, b ∈ outs := by
        cases outs with
        | nil => exact absurd rfl hne
        | cons b t => exact ⟨b, by simp⟩
      have hE := (ho b).1 hb
      unfold lastB at h2
      have : (rowN next i').any (okN next.length) = true := List.any_eq_true.2 ⟨(b : Int), hE.1, decide_eq_true (by have := hE.2; omega)⟩
      rw [this] at h2; cases h2
    | succ k =>
      obtain ⟨p, e', _, h2⟩ := turn_succ.1 hu
      have : p = i := by omega
      subst this
      exact ⟨k, (ho k).2 h2, rfl⟩
  constructor
  · intro h
    have hdm : Anc d x (i + 1) := by
      refine (T.dom _ hRi x).1 (fun l hl => ?_)
      cases hl with
      | on h1 e1 =>
        obtain ⟨b, hb, rfl⟩ := hpred _ e1
        exact List.mem_cons_of_mem _ ((T.dom _ (hRo b hb) x).2 (h b hb) _ h1)
    rcases hdm.cases' he with hx | hx
    · exfalso
      subst hx
      have key : ∀ m l, l.length ≤ m → ¬ Way (Eg (turnF next)) l (i + 1) := by
        intro m
        induction m with
        | zero =>
          intro l hl hw
          cases hw with
          | on h1 e1 => simp at hl
        | succ m ih =>
          intro l hl hw
          cases hw with
          | on h1 e1 =>
            obtain ⟨b, hb, rfl⟩ := hpred _ e1
            obtain ⟨l2, g1, g2⟩ := way_cut h1 _ ((T.dom _ (hRo b hb) (i + 1)).2 (h b hb) _ h1)
            exact ih l2 (by simp at hl; omega) g1
      obtain ⟨l, hl⟩ := (hR _).1 hRi
      exact key _ l (Nat.le_refl _) hl
    · exact hx
  · intro h b hb
    refine (T.dom _ (hRo b hb) x).1 (fun l hl => ?_)
    have h1 := (T.dom _ hRi x).2 (.up he h) _ (.on hl (hedge b hb))
    rcases List.mem_cons.1 h1 with rfl | h1
    · exact absurd h (T.total _ e hRi he)
    · exact h1
end
/-- of the ways up, the first place of the first that lies on all -/
def metF (Ls : List (List Int)) : Int := ((Ls.headD []).find? fun x => Ls.all fun L => decide (x ∈ L)).getD (-1)
theorem turned_tree (next : List (List Int)) : ∃ (R : Nat → Prop) (d : Nat → Option Nat), (∀ v, R v ↔ ∃ l, Way (Eg (turnF next)) l v) ∧ (∀ v, R v → v < (turnF next).length) ∧ Tree (Eg (turnF next)) R d ∧ ∀ x v, R v → Anc d x v → R x ∧ (Anc d v x → x = v) := by
  have hlen := turn_len next
  have h0 : 0 < (turnF next).length := by omega
  obtain ⟨K, f, m, new, h1, h2, h3⟩ := order_all (turnF next) h0
  obtain ⟨K2, DF, g1, g2, g3, g4, g5, g6, g7, g8, g9, g10⟩ := idom_all (turnF next) new m h0 h3
  refine ⟨_, _, g9, fun v hv => g5 v hv, g8, fun x v hv ha => ⟨(g10 x v hv ha).1, fun hb => ?_⟩⟩
  have h1 := g10 x v hv ha
  have h2 := (g10 v x h1.1 hb).2
  rcases h1.2 with h | h
  · rcases h2 with h' | h'
    · omega
    · exact h'.symm
  · exact h
theorem up_mono {NP : List Int} : ∀ {k : Nat} {t : Int} {L : List Int}, upF NP k t = some L → ∀ {m : Nat}, k ≤ m → upF NP m t = some L
  | 0, _, _, h, _, _ => by cases h
  | k + 1, t, L, h, m, hm => by
    obtain ⟨m', rfl⟩ : ∃ m', m = m' + 1 := ⟨m - 1, by omega⟩
    unfold upF at h ⊢
    by_cases h1 : t < (NP.length : Int)
    · rw [if_pos h1] at h ⊢
      by_cases h2 : 0 ≤ t
      · rw [if_pos h2] at h ⊢
        cases h3 : upF NP k (NP.getD t.toNat 0) with
        | none => rw [h3] at h; cases h
        | some L' => rw [h3] at h; rw [up_mono h3 (by omega)]; exact h
      · rw [if_neg h2] at h; cases h
    · rw [if_neg h1] at h ⊢; exact h
/-- all that the program's meeting needs -/
theorem metP_spec (next : List (List Int)) (i : Nat) (hi : i < next.length) (outs : List Nat) (ho : ∀ b, b ∈ outs ↔ Eg next i b) (hne : outs ≠ []) (hend : ∀ b ∈ outs, 0 ≤ (nearP next).getD b 0) :
    ∃ K, (∀ b ∈ outs, ∃ L, upF (nearP next) K (b : Int) = some L ∧ L.Nodup ∧ ∀ x ∈ L, ∃ a : Nat, x = (a : Int) ∧ a ≤ next.length) ∧ metF (outs.map fun b : Nat => (upF (nearP next) K (b : Int)).getD []) = (nearP next).getD i 0 := by
  obtain ⟨R, d, hR, hlt, T, hanti⟩ := turned_tree next
  have hbn : ∀ b ∈ outs, b < next.length := fun b hb => ((ho b).1 hb).2
  have hRo : ∀ b ∈ outs, R (b + 1) := fun b hb => by
    rcases near_of hR hlt T hanti (hbn b hb) with ⟨_, h, _⟩ | ⟨_, h⟩
    · exact h
    · have := hend b hb; omega
  obtain ⟨b0, hb0⟩ : ∃ b, b ∈ outs := by
    cases outs with
    | nil => exact absurd rfl hne
    | cons b t => exact ⟨b, by simp⟩
  have hRi : R (i + 1) := by
    obtain ⟨l, hl⟩ := (hR _).1 (hRo b0 hb0)
    exact (hR _).2 ⟨_, .on hl (turn_succ.2 ⟨i, rfl, hi, (ho b0).1 hb0⟩)⟩
  obtain ⟨e, he, hRe, hnear⟩ : ∃ e, d (i + 1) = some e ∧ R e ∧ (nearP next).getD i 0 = (unphi next.length e : Int) := by
    rcases near_of hR hlt T hanti hi with ⟨e2, _, h1, h2, h3⟩ | ⟨hno, _⟩
    · exact ⟨e2, h1, h2, h3⟩
    · exact absurd hRi hno
  have hcom := common_iff hR T hi ho hne hRo hRi he hRe
  have hle : e ≤ next.length := by have := hlt _ hRe; have := turn_len next; omega
  have h0v : ∀ v, R v → Anc d 0 v := fun v hv => (T.dom v hv 0).1 (fun l hl => by
    clear hv
    induction hl with
    | start => simp
    | on _ _ ih => exact List.mem_cons_of_mem _ ih)
  have hphi : ∀ b ∈ outs, b + 1 = phi next.length b := fun b hb => by unfold phi; rw [if_neg (by have := hbn b hb; omega)]
  have hall : ∀ os : List Nat, (∀ b ∈ os, b ∈ outs) → ∃ K, ∀ b ∈ os, ∃ L, upF (nearP next) K (b : Int) = some L ∧ (∀ x ∈ L, ∃ a : Nat, x = (a : Int) ∧ a ≤ next.length) ∧ (∀ a : Nat, a ≤ next.length → ((a : Int) ∈ L ↔ Anc d (phi next.length a) (b + 1))) ∧ L.Nodup ∧
      ∀ (p : Int → Bool) (e : Nat), e ≤ next.length → (∀ a : Nat, a ≤ next.length → (p (a : Int) = true ↔ Anc d (phi next.length a) e)) → R e → Anc d e (b + 1) → L.find? p = some ((unphi next.length e : Nat) : Int) := by
    intro os
    induction os with
    | nil => exact fun _ => ⟨0, fun b hb => by cases hb⟩
    | cons b t ih =>
      intro hs
      obtain ⟨K, hK⟩ := ih (fun b hb => hs b (by simp [hb]))
      have hb := hs b (by simp)
      obtain ⟨k, L, h1, h2⟩ := up_spec hR hlt T hanti (h0v _ (hRo b hb)) (hRo b hb) b (by have := hbn b hb; omega) (hphi b hb)
      refine ⟨K + k, fun c hc => ?_⟩
      rcases List.mem_cons.1 hc with rfl | hc
      · exact ⟨L, up_mono h1 (by omega), h2⟩
      · obtain ⟨L', g1, g2⟩ := hK c hc
        exact ⟨L', up_mono g1 (by omega), g2⟩
  obtain ⟨K, hK⟩ := hall outs (fun b hb => hb)
  refine ⟨K, fun b hb => ?_, ?_⟩
  · obtain ⟨L, h1, h2, _, h4, _⟩ := hK b hb
    exact ⟨L, h1, h4, h2⟩
  · cases outs with
    | nil => exact absurd rfl hne
    | cons c t =>
      obtain ⟨L, h1, h2, h3, h4, h5⟩ := hK c (by simp)
      unfold metF
      rw [List.map_cons, List.headD_cons, h1]
      have := h5 (fun x => (L :: t.map fun b : Nat => (upF (nearP next) K (b : Int)).getD []).all fun L => decide (x ∈ L)) e hle (fun a ha => by
        rw [← hcom, List.all_eq_true]
        constructor
        · intro h b hb
          obtain ⟨L', g1, _, g3, _⟩ := hK b hb
          refine (g3 a ha).1 (of_decide_eq_true (h L' ?_))
          rcases List.mem_cons.1 hb with rfl | hb
          · rw [h1] at g1; cases g1; simp
          · exact List.mem_cons_of_mem _ (List.mem_map.2 ⟨b, hb, by rw [g1]; rfl⟩)
        · intro h L' hL'
          refine decide_eq_true ?_
          rcases List.mem_cons.1 hL' with rfl | hL'
          · exact (h3 a ha).2 (h c (by simp))
          · obtain ⟨b, hb, rfl⟩ := List.mem_map.1 hL'
            obtain ⟨L2, g1, _, g3, _⟩ := hK b (by simp [hb])
            rw [g1]
            exact (g3 a ha).2 (h b (by simp [hb]))) hRe ((hcom e).2 .self c (by simp))
      simp only [Option.getD_some]
      rw [this, hnear]; rfl
end DM
end Go.Proofs.Ytkjafkegkllbiaa
