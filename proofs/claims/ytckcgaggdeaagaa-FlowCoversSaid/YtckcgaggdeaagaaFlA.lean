/- Layer 30, plain: where code goes on, what is met, leaders, blocks. -/
import Derived.Test.YtckcgaggdeaagaaSeq
namespace Go.Proofs.Ytckcgaggdeaagaa
namespace FL
set_option linter.unusedSimpArgs false
set_option linter.unusedVariables false
abbrev In3 := Int × Int × Int
def opA (L : List In3) (k : Nat) : Int := (L.getD k (0, 0, 0)).1
def aA (L : List In3) (k : Nat) : Int := (L.getD k (0, 0, 0)).2.1
def goesP (L : List In3) (pc : Nat) : List Int :=
  if opA L pc = 30 then [aA L pc] else if opA L pc = 31 then [(pc : Int) + 1, aA L pc]
  else if opA L pc = 32 then ((List.range (aA L pc).toNat).map fun k => aA L (pc + 1 + k)) ++ [(pc : Int) + 1 + (aA L pc).toNat]
  else if opA L pc = 34 then [] else [(pc : Int) + 1]
def brB (o : Int) : Bool := decide (30 ≤ o ∧ o ≤ 32)
def farB (o : Int) : Bool := brB o || decide (o = 34)
theorem goes_near {L : List In3} {pc : Nat} (h : farB (opA L pc) = false) : goesP L pc = [(pc : Int) + 1] := by
  unfold farB brB at h
  simp at h
  unfold goesP
  rw [if_neg (by omega), if_neg (by omega), if_neg (by omega), if_neg h.2]
theorem goes_34 {L : List In3} {pc : Nat} (h : opA L pc = 34) : goesP L pc = [] := by
  unfold goesP
  rw [if_neg (by omega), if_neg (by omega), if_neg (by omega), if_pos h]
/-- what is met: the first, what a met one goes on to, and nothing else -/
structure Met (L : List In3) (M : Nat → Bool) : Prop where
  zero : M 0 = true
  on : ∀ pc, pc < L.length → M pc = true → ∀ z ∈ goesP L pc, ∃ t : Nat, z = (t : Int) ∧ t < L.length ∧ M t = true
  back : ∀ t, t < L.length → M t = true → t = 0 ∨ ∃ q, q < L.length ∧ M q = true ∧ ((t : Nat) : Int) ∈ goesP L q
/-- leaders -/
structure Lead (L : List In3) (M F : Nat → Bool) : Prop where
  zero : F 0 = true
  on : ∀ q, q < L.length → M q = true → brB (opA L q) = true → ∀ t : Nat, (t : Int) ∈ goesP L q → F t = true
  back : ∀ t, t < L.length → F t = true → t = 0 ∨ ∃ q, q < L.length ∧ M q = true ∧ brB (opA L q) = true ∧ (t : Int) ∈ goesP L q
theorem Lead.met {L : List In3} {M F : Nat → Bool} (hM : Met L M) (hF : Lead L M F) {t : Nat} (ht : t < L.length) (h : F t = true) : M t = true := by
  rcases hF.back t ht h with rfl | ⟨q, hq, hm, _, hg⟩
  · exact hM.zero
  · obtain ⟨u, hu, _, hm2⟩ := hM.on q hq hm _ hg
    have : t = u := by omega
    rw [this]; exact hm2
/-- where the block ends that begins at a place: the first place behind it that is a leader, or behind a far one -/
def stopB (L : List In3) (F : Nat → Bool) (p : Nat) : Bool := farB (opA L p) || F (p + 1)
structure IsEnd (L : List In3) (F : Nat → Bool) (f e : Nat) : Prop where
  lt : f < e
  le : e ≤ L.length
  stop : stopB L F (e - 1) = true
  go : ∀ p, f ≤ p → p + 1 < e → stopB L F p = false
theorem IsEnd.met {L : List In3} {M F : Nat → Bool} {f e : Nat} (h : IsEnd L F f e) (hM : Met L M) (hf : M f = true) : ∀ d, f + d < e → M (f + d) = true
  | 0, _ => hf
  | d + 1, hd => by
    have h1 := h.met hM hf d (by omega)
    have h2 := h.go (f + d) (by omega) (by omega)
    unfold stopB at h2
    rw [Bool.or_eq_false_iff] at h2
    have h3 := hM.on (f + d) (by have := h.le; omega) h1 ((f + d : Nat) + 1 : Int) (by rw [goes_near h2.1]; simp)
    obtain ⟨t, ht, _, hm⟩ := h3
    have : t = f + (d + 1) := by omega
    rw [← this]; exact hm
theorem IsEnd.one {L : List In3} {M F : Nat → Bool} {f e f' e' p : Nat} (h : IsEnd L F f e) (h' : IsEnd L F f' e') (hf' : F f' = true) (hlt : f < f') (h1 : f' ≤ p) (h2 : p < e) : False := by
  have := h.go (f' - 1) (by omega) (by omega)
  unfold stopB at this
  rw [Bool.or_eq_false_iff, show f' - 1 + 1 = f' by omega, hf'] at this
  exact absurd this.2 (by simp)
/-- the blocks' beginnings, with their ends -/
def blks (n : Nat) (F : Nat → Bool) (E : Nat → Nat) : List (Nat × Nat) := ((List.range n).filter F).map fun f => (f, E f)
theorem blks_succ (n : Nat) (F : Nat → Bool) (E : Nat → Nat) : blks (n + 1) F E = if F n = true then blks n F E ++ [(n, E n)] else blks n F E := by
  unfold blks
  rw [List.range_succ, List.filter_append, List.map_append]
  by_cases h : F n = true <;> simp [h]
theorem blks_len (n : Nat) (F : Nat → Bool) (E : Nat → Nat) : (blks n F E).length ≤ n := by
  unfold blks
  rw [List.length_map]
  have h := List.length_filter_le F (List.range n)
  rwa [List.length_range] at h
def inB (b : Nat × Nat) (p : Nat) : Bool := decide (b.1 ≤ p ∧ p < b.2)
def cnt (l : List (Nat × Nat)) (p : Nat) : Nat := (l.filter fun b => inB b p).length
theorem cnt_snoc (l : List (Nat × Nat)) (b : Nat × Nat) (p : Nat) : cnt (l ++ [b]) p = if inB b p = true then cnt l p + 1 else cnt l p := by
  unfold cnt
  rw [List.filter_append]
  by_cases h : inB b p = true <;> simp [h]
theorem blks_mem {n : Nat} {F : Nat → Bool} {E : Nat → Nat} {b : Nat × Nat} : b ∈ blks n F E ↔ ∃ f, f < n ∧ F f = true ∧ b = (f, E f) := by
  unfold blks
  rw [List.mem_map]
  constructor
  · rintro ⟨f, hf, rfl⟩
    rw [List.mem_filter, List.mem_range] at hf
    exact ⟨f, hf.1, hf.2, rfl⟩
  · rintro ⟨f, h1, h2, rfl⟩
    exact ⟨f, by rw [List.mem_filter, List.mem_range]; exact ⟨h1, h2⟩, rfl⟩
/-- each place is in one block at most -/
theorem cnt_le {L : List In3} {F : Nat → Bool} {E : Nat → Nat} (hE : ∀ f, f < L.length → F f = true → IsEnd L F f (E f)) (p : Nat) : ∀ n, n ≤ L.length → cnt (blks n F E) p ≤ 1 ∧ (cnt (blks n F E) p = 1 → ∃ f, f < n ∧ F f = true ∧ f ≤ p ∧ p < E f)
  | 0, _ => by simp [cnt, blks]
  | n + 1, hn => by
    obtain ⟨h1, h2⟩ := cnt_le hE p n (by omega)
    rw [blks_succ]
    by_cases hF : F n = true
    · rw [if_pos hF, cnt_snoc]
      by_cases hi : inB (n, E n) p = true
      · rw [if_pos hi]
        have hi' := of_decide_eq_true hi
        have h0 : cnt (blks n F E) p = 0 := by
          by_cases h : cnt (blks n F E) p = 1
          · obtain ⟨f, hf, hFf, h3, h4⟩ := h2 h
            exact absurd (IsEnd.one (M := F) (hE f (by omega) hFf) (hE n (by omega) hF) hF hf hi'.1 h4) id
          · omega
        refine ⟨by omega, fun _ => ⟨n, by omega, hF, hi'.1, hi'.2⟩⟩
      · rw [if_neg hi]
        exact ⟨h1, fun h => by obtain ⟨f, hf, h3⟩ := h2 h; exact ⟨f, by omega, h3⟩⟩
    · rw [if_neg hF]
      exact ⟨h1, fun h => by obtain ⟨f, hf, h3⟩ := h2 h; exact ⟨f, by omega, h3⟩⟩
theorem cnt_pos {l : List (Nat × Nat)} {b : Nat × Nat} {p : Nat} (hb : b ∈ l) (h : inB b p = true) : 1 ≤ cnt l p := by
  unfold cnt
  exact List.length_pos_of_mem (List.mem_filter.2 ⟨hb, h⟩)
theorem covered {L : List In3} {M F : Nat → Bool} {E : Nat → Nat} (hM : Met L M) (hF : Lead L M F) (hE : ∀ f, f < L.length → F f = true → IsEnd L F f (E f)) : ∀ p, p < L.length → M p = true → ∃ f, f < L.length ∧ F f = true ∧ f ≤ p ∧ p < E f := by
  intro p
  induction p using Nat.strongRecOn with
  | _ p ih =>
    intro hp hm
    by_cases hf : F p = true
    · exact ⟨p, hp, hf, Nat.le_refl _, (hE p hp hf).lt⟩
    · rcases hM.back p hp hm with rfl | ⟨q, hq, hmq, hg⟩
      · exact absurd hF.zero hf
      · have hnb : brB (opA L q) = false := by
          cases h : brB (opA L q)
          · rfl
          · exact absurd (hF.on q hq hmq h p hg) hf
        have h34 : opA L q ≠ 34 := fun h => by rw [goes_34 h] at hg; cases hg
        have hfar : farB (opA L q) = false := by unfold farB; rw [hnb]; simpa using h34
        rw [goes_near hfar] at hg
        have hpq : p = q + 1 := by have := List.mem_singleton.1 hg; omega
        subst hpq
        obtain ⟨f, h1, h2, h3, h4⟩ := ih q (by omega) hq hmq
        refine ⟨f, h1, h2, by omega, ?_⟩
        apply Classical.byContradiction
        intro hn
        have he : E f = q + 1 := by omega
        have := (hE f h1 h2).stop
        rw [he, Nat.add_sub_cancel] at this
        unfold stopB at this
        rw [hfar, Bool.false_or] at this
        exact hf this
theorem counted {L : List In3} {M F : Nat → Bool} {E : Nat → Nat} (hM : Met L M) (hF : Lead L M F) (hE : ∀ f, f < L.length → F f = true → IsEnd L F f (E f)) {p : Nat} (hp : p < L.length) : cnt (blks L.length F E) p ≤ 1 ∧ M p = decide (cnt (blks L.length F E) p = 1) := by
  obtain ⟨h1, h2⟩ := cnt_le hE p L.length (Nat.le_refl _)
  refine ⟨h1, ?_⟩
  cases hm : M p
  · refine (decide_eq_false fun h => ?_).symm
    obtain ⟨f, hf, hFf, h3, h4⟩ := h2 h
    have := (hE f hf hFf).met hM (Lead.met hM hF hf hFf) (p - f) (by omega)
    rw [show f + (p - f) = p by omega, hm] at this
    cases this
  · refine (decide_eq_true ?_).symm
    obtain ⟨f, hf, hFf, h3, h4⟩ := covered hM hF hE p hp hm
    have := cnt_pos (l := blks L.length F E) (b := (f, E f)) (p := p) (blks_mem.2 ⟨f, hf, hFf, rfl⟩) (decide_eq_true ⟨h3, h4⟩)
    omega
/-- a met one that isn't far has one behind it -/
theorem next_in {L : List In3} {M : Nat → Bool} (hM : Met L M) {p : Nat} (hp : p < L.length) (hm : M p = true) (h : farB (opA L p) = false) : p + 1 < L.length ∧ M (p + 1) = true := by
  obtain ⟨t, ht, hlt, hmt⟩ := hM.on p hp hm ((p : Int) + 1) (by rw [goes_near h]; simp)
  have : t = p + 1 := by omega
  subst this
  exact ⟨hlt, hmt⟩
/-- what is reached from the first place -/
inductive Rc (L : List In3) : Nat → Prop
  | zero : Rc L 0
  | on {q t : Nat} (h : Rc L q) (hq : q < L.length) (ht : t < L.length) (hg : (t : Int) ∈ goesP L q) : Rc L t
theorem Met.all {L : List In3} {M : Nat → Bool} (h : Met L M) {t : Nat} (r : Rc L t) : M t = true := by
  induction r with
  | zero => exact h.zero
  | on r hq ht hg ih =>
    obtain ⟨u, hu, _, hm⟩ := h.on _ hq ih _ hg
    have := Int.ofNat.inj hu
    subst this
    exact hm
/-- all to which one goes on is there -/
def Whole (L : List In3) : Prop := ∀ q, q < L.length → Rc L q → ∀ z ∈ goesP L q, 0 ≤ z ∧ z < (L.length : Int)
theorem Met.whole {L : List In3} {M : Nat → Bool} (h : Met L M) : Whole L := fun q hq hr z hz => by
  obtain ⟨t, rfl, ht, _⟩ := h.on q hq (h.all hr) z hz
  omega
noncomputable def rcB (L : List In3) (t : Nat) : Bool := @decide (Rc L t) (Classical.propDecidable _)
theorem Met.same {L : List In3} {M : Nat → Bool} (h : Met L M) (hr : ∀ t, M t = true → Rc L t) (t : Nat) : M t = rcB L t := by
  unfold rcB
  cases hm : M t
  · exact (@decide_eq_false _ (Classical.propDecidable _) fun r => by rw [h.all r] at hm; cases hm).symm
  · exact (@decide_eq_true _ (Classical.propDecidable _) (hr t hm)).symm
/-- the search's state -/
structure Srch (L : List In3) (M : Nat → Bool) (W : List Nat) : Prop where
  zero : M 0 = true
  rch : ∀ t, M t = true → Rc L t
  back : ∀ t, t < L.length → M t = true → t = 0 ∨ ∃ q, q < L.length ∧ M q = true ∧ ((t : Nat) : Int) ∈ goesP L q
  wt : ∀ t ∈ W, t < L.length ∧ M t = true
  done : ∀ q, q < L.length → M q = true → q ∉ W → ∀ z ∈ goesP L q, ∃ t : Nat, z = (t : Int) ∧ t < L.length ∧ M t = true
theorem Srch.fin {L : List In3} {M : Nat → Bool} (h : Srch L M []) : Met L M := ⟨h.zero, fun pc hp hm => h.done pc hp hm (by simp), h.back⟩
end FL
end Go.Proofs.Ytckcgaggdeaagaa
