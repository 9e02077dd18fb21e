/- A region that draws its order, by facts that stay: a condition on what has been carried out, the frame and the world; one goal for each operation, whatever the order. -/
import Derived.Test.YtochjlllfbmhpaaDoorRow
import Derived.Deep.RegionHeld3
namespace Go.Proofs.YtochjlllfbmhpaaDoor
open Go.RowKit
set_option linter.unusedSimpArgs false
set_option linter.unusedVariables false
section
variable {P : Program} {ops : Array Oper} {Q : Exit → Act → World → Prop} {S : Array Bool → Act → World → Prop}
def openN : Nat → Array Bool → Nat
  | 0, _ => 0
  | k + 1, L => openN k L + (if L.getD k true then 0 else 1)
theorem openN_le : ∀ (k : Nat) (L : Array Bool), openN k L ≤ k
  | 0, _ => Nat.le_refl _
  | k + 1, L => by have := openN_le k L; show openN k L + _ ≤ _; split <;> omega
theorem getD_set_self (L : Array Bool) (i : Nat) : (L.setIfInBounds i true).getD i true = true := by
  rcases Nat.lt_or_ge i L.size with h | h
  · simp [h]
  · simp [Array.getElem?_eq_none h]
theorem openN_past {i : Nat} {L : Array Bool} : ∀ k : Nat, k ≤ i → openN k (L.setIfInBounds i true) = openN k L
  | 0, _ => rfl
  | k + 1, h => by
    show openN k _ + _ = openN k L + _
    rw [openN_past k (by omega), getD_set_ne true (by omega)]
theorem openN_set {i : Nat} {L : Array Bool} (hL : L.getD i true = false) : ∀ k : Nat, i < k → openN k (L.setIfInBounds i true) + 1 = openN k L
  | 0, h => by omega
  | k + 1, h => by
    show openN k _ + _ + 1 = openN k L + _
    by_cases hik : i = k
    · subst hik
      rw [openN_past i (Nat.le_refl _), getD_set_self, hL]; simp
    · have := openN_set hL k (by omega)
      rw [getD_set_ne true hik]; omega
theorem openN_zero {L : Array Bool} : ∀ k : Nat, openN k L = 0 → ∀ j, j < k → L.getD j true = true
  | 0, _, j, hj => by omega
  | k + 1, h, j, hj => by
    have h' : openN k L + (if L.getD k true then 0 else 1) = 0 := h
    by_cases hjk : j = k
    · subst hjk
      cases hq : L.getD j true
      · rw [hq] at h'; simp at h'
      · rfl
    · exact openN_zero k (by omega) j (by omega)
/-- does each number wait for smaller ones alone? -/
def ordered (ops : Array Oper) : Bool := (List.range ops.size).all fun i => match ops[i]? with
  | some o => o.after.all fun e => !Region.binds .any e || decide (e.on < i)
  | none => true
theorem ordered_spec (h : ordered ops = true) {i : Nat} {o : Oper} (ho : ops[i]? = some o) : ∀ e ∈ o.after, Region.binds .any e = true → e.on < i := by
  intro e he hb
  have hlt : i < ops.size := (Array.getElem?_eq_some_iff.1 ho).1
  have := List.all_eq_true.1 h i (List.mem_range.2 hlt)
  rw [ho] at this
  have := Array.all_eq_true_iff_forall_mem.1 this e he
  rw [hb] at this
  simpa using this
theorem getD_two {L : Array Bool} {j : Nat} (h : j < L.size) : L.getD j true = L.getD j false := by simp [h]
theorem ready_nil (ho : ordered ops = true) {L : Array Bool} (hL : L.size = ops.size) (h : Region.ready .any ops L = []) : ∀ j, j < ops.size → L.getD j false = true := by
  intro j
  induction j using Nat.strongRecOn with
  | ind j ih =>
    intro hj
    cases hq : L.getD j false
    · exfalso
      have hm : j ∈ Region.ready .any ops L := mem_ready.2 ⟨by rw [getD_two (by omega)]; exact hq, ops[j], Array.getElem?_eq_some_iff.2 ⟨hj, rfl⟩, fun e he hb => by
        have hlt := ordered_spec ho (Array.getElem?_eq_some_iff.2 ⟨hj, rfl⟩) e he hb
        exact ih _ hlt (by omega)⟩
      rw [h] at hm
      cases hm
    · rfl
/-- what number i waits for -/
def waitsOf (ops : Array Oper) (i : Nat) : List Nat := match ops[i]? with
  | some o => (o.after.toList.filter (Region.binds .any)).map (·.on)
  | none => []
/-- what is listed has all listed that it waits for -/
def Closed (ops : Array Oper) (L : Array Bool) : Prop := ∀ j, L.getD j false = true → ∀ k ∈ waitsOf ops j, L.getD k false = true
theorem Closed.step {L : Array Bool} (hC : Closed ops L) {j k : Nat} (h : L.getD j false = true) (hk : (waitsOf ops j).contains k = true) : L.getD k false = true := hC j h k (by simpa using hk)
theorem getD_no {L : Array Bool} {i : Nat} (h0 : L.getD i true = false) (h : L.getD i false = true) : False := by
  rcases Nat.lt_or_ge i L.size with h' | h'
  · rw [getD_two h', h] at h0; cases h0
  · simp [h'] at h
/-- number i, wherever it comes -/
def StepAt (P : Program) (ops : Array Oper) (Q : Exit → Act → World → Prop) (S : Array Bool → Act → World → Prop) (i : Nat) : Prop :=
  ∀ L b v, Closed ops L → L.getD i true = false → (∀ j ∈ waitsOf ops i, L.getD j false = true) → S L b v → wpOp P ops Q i (fun b' v' => S (L.setIfInBounds i true) b' v') b v
theorem StepAt.mk {i : Nat} {o : Oper} {ws : List Nat} (ho : ops[i]? = some o) (hw : waitsOf ops i = ws)
    (h : ∀ L b v, Closed ops L → L.getD i true = false → (∀ j ∈ ws, L.getD j false = true) → S L b v → ∀ K : Act → World → Prop, Shut (∀ b' v', S (L.setIfInBounds i true) b' v' → K b' v') →
      if Region.wanted o (yielded ops b.tmps) = true then Oper.wp P o b v K Q else K (b.put o.dst undef) v) : StepAt P ops Q S i :=
  fun L b v hC h0 hj hS => wpOp_step ho fun K hK => h L b v hC h0 (hw ▸ hj) hS K hK
def AllSteps (P : Program) (ops : Array Oper) (Q : Exit → Act → World → Prop) (S : Array Bool → Act → World → Prop) (n : Nat) : Prop := ∀ i, i < n → StepAt P ops Q S i
theorem AllSteps.zero : AllSteps P ops Q S 0 := fun _ h => by omega
theorem AllSteps.succ {n : Nat} (h : AllSteps P ops Q S n) (hn : StepAt P ops Q S n) : AllSteps P ops Q S (n + 1) := fun i hi => by
  by_cases hin : i = n
  · exact hin ▸ hn
  · exact h i (by omega)
theorem any_facts (ho : ordered ops = true) (hs : AllSteps P ops Q S ops.size) (he : ∀ L b v, (∀ j, j < ops.size → L.getD j false = true) → S L b v → Q .normal b v) :
    ∀ (n : Nat) (L : Array Bool) (b : Act) (v : World), L.size = ops.size → Closed ops L → openN ops.size L ≤ n → S L b v → wpAny P .any ops Q n L b v := by
  have nil_of : ∀ L : Array Bool, openN ops.size L = 0 → Region.ready .any ops L = [] := by
    intro L h0
    rw [List.eq_nil_iff_forall_not_mem]
    intro j hj
    obtain ⟨h1, o, h2, _⟩ := mem_ready.1 hj
    rw [openN_zero _ h0 j (Array.getElem?_eq_some_iff.1 h2).1] at h1
    cases h1
  intro n
  induction n with
  | zero =>
    intro L b v hL hC h0 hS
    have hr := nil_of L (by omega)
    exact ⟨hr, he L b v (ready_nil ho hL hr) hS⟩
  | succ n ih =>
    intro L b v hL hC h0 hS
    refine ⟨fun hr => he L b v (ready_nil ho hL hr) hS, fun i hi => ?_⟩
    obtain ⟨h1, o, h2, h3⟩ := mem_ready.1 hi
    have hlt := (Array.getElem?_eq_some_iff.1 h2).1
    have hw : ∀ j ∈ waitsOf ops i, L.getD j false = true := by
      intro j hj
      unfold waitsOf at hj
      rw [h2] at hj
      obtain ⟨e, he1, rfl⟩ := List.mem_map.1 hj
      obtain ⟨he2, he3⟩ := List.mem_filter.1 he1
      exact h3 e (by simpa using he2) he3
    refine wpOp_mono (fun b' v' h' => ih _ b' v' (by simpa using hL) (fun j hj k hk => ?_) (by have := openN_set h1 ops.size hlt; omega) h') (hs i hlt L b v hC h1 hw hS)
    by_cases hij : i = j
    · subst hij; exact getD_set_true (hw k hk)
    · rw [getD_set_ne false hij] at hj; exact getD_set_true (hC j hj k hk)
theorem getD_open {L : Array Bool} {i : Nat} (h0 : L.getD i true = false) : L.getD i false = false := by
  rcases Nat.lt_or_ge i L.size with h' | h'
  · rw [← getD_two h']; exact h0
  · simp [h'] at h0
theorem getD_set_done {L : Array Bool} {i : Nat} (h0 : L.getD i true = false) : (L.setIfInBounds i true).getD i false = true := by
  rcases Nat.lt_or_ge i L.size with h' | h'
  · simp [h']
  · simp [h'] at h0
theorem wp_region_facts {id n : Nat} {a : Act} {w : World} (S : Array Bool → Act → World → Prop) (hm : P.follows .mixedOrders = true) (ho : ordered ops = true) (hn : ops.size = n)
    (h0 : S (Array.replicate n false) a w.drew) (hs : AllSteps P ops Q S n) (he : ∀ L b v, (∀ j, j < n → L.getD j false = true) → S L b v → Q .normal b v) : (Code.region id ops true).wp P Q a w := by
  subst hn
  exact wp_region_any hm (any_facts ho hs he _ _ _ _ (by simp) (fun j hj => by by_cases h : j < ops.size <;> simp [Array.getD, h] at hj) (openN_le _ _) h0)
/-- a fact of number j, behind number i -/
theorem flag_ne {L : Array Bool} {i j : Nat} {F : Prop} (h : i ≠ j) (hF : L.getD j false = true → F) : (L.setIfInBounds i true).getD j false = true → F := by
  rw [getD_set_ne false h]; exact hF
theorem flag_new {n j : Nat} {F : Prop} : (Array.replicate n false).getD j false = true → F := by
  intro h
  by_cases hj : j < n <;> simp [Array.getD, hj] at h
end
end Go.Proofs.YtochjlllfbmhpaaDoor
