/- Merged texts: VcP, VcA, VcQ, VcR, VcEnt, VcStep, StackRefLN, ClRef, ClRefO, VcChk, LawVfCh. -/
import Derived.Test.YtefejcofmopjfaaGreatDoorMg2
import Derived.Test.YtefejcofmopjfaaGreatDoorMg1
import Derived.Test.YtefejcofmopjfaaGreatDoorMg3
import Derived.Test.YtefejcofmopjfaaGreatDoorMg0
import Derived.Test.YtefejcofmopjfaaGreatDoorKeep
import Derived.Test.YtefejcofmopjfaaGreatDoorBoxed
import Derived.LoopTactic
import Derived.BigRegion
import Derived.BigQuiet
import Derived.Test.YtefejcofmopjfaaGreatDoorOwn
import Derived.Deep.QuietTactic
import Derived.Test.YtefejcofmopjfaaGreatDoorStackRefT
import Derived.Test.YtefejcofmopjfaaGreatDoorMg4
/- Layer 22, plain: the answer's step of a stack. -/
namespace Go.Proofs.YtefejcofmopjfaaGreatDoor
open Go.RowKit
set_option linter.unusedSimpArgs false
set_option linter.unusedVariables false
def fitsR (tk top : List Int) : Bool := (List.range tk.length).all fun k => (tk.getD k 0 == 0 || tk.getD k 0 == top.getD k 0)
def lvAt (o : Int) (top : List Int) (k : Nat) (t : Int) : Int := if o = 27 then top.getD 0 0 else if o = 29 then top.getD (1 - k) 0 else t
def lvR (o : Int) (lv top : List Int) : List Int := lv.mapIdx (lvAt o top)
theorem lvR_len (o : Int) (lv top : List Int) : (lvR o lv top).length = lv.length := by simp [lvR]
theorem lvR_get {o : Int} {lv top : List Int} {k : Nat} {t : Int} (h : lv[k]? = some t) : (lvR o lv top)[k]? = some (lvAt o top k t) := by simp [lvR, h]
theorem getD_I64 {l : List Int} (h : ∀ z ∈ l, I64 z) (k : Nat) : I64 (l.getD k 0) := by
  rw [List.getD_eq_getElem?_getD]
  cases hx : l[k]? with
  | none => show I64 0; unfold I64; omega
  | some x => exact h x (List.mem_of_getElem? hx)
theorem lvR_I64 {o : Int} {lv top : List Int} (h1 : ∀ z ∈ lv, I64 z) (h2 : ∀ z ∈ top, I64 z) : ∀ z ∈ lvR o lv top, I64 z := by
  intro z hz
  obtain ⟨k, hk, rfl⟩ := List.mem_iff_getElem.1 hz
  rw [lvR_len] at hk
  have e := lvR_get (o := o) (top := top) (List.getElem?_eq_getElem hk)
  rw [List.getElem?_eq_getElem (by rw [lvR_len]; exact hk)] at e
  rw [Option.some.inj e]
  unfold lvAt
  split
  · exact getD_I64 h2 0
  · split
    · exact getD_I64 h2 _
    · exact h1 _ (List.getElem_mem ..)
def stpER (o : Int) (tk lv st : List Int) : Int :=
  if st.length < tk.length ∨ (o = 34 ∧ 0 < st.length) then 9 else if fitsR tk (st.drop (lowN tk st)) = false then 10 else if 32 < lowN tk st + lv.length then 9 else 0
def stpSR (o : Int) (tk lv st : List Int) : List Int := if stpER o tk lv st = 0 then st.take (lowN tk st) ++ lvR o lv (st.drop (lowN tk st)) else []
theorem stpR_9 {o : Int} {tk lv st : List Int} (h : st.length < tk.length ∨ (o = 34 ∧ 0 < st.length)) : stpER o tk lv st = 9 ∧ stpSR o tk lv st = [] := by
  have e : stpER o tk lv st = 9 := if_pos h
  exact ⟨e, by unfold stpSR; rw [e]; rfl⟩
theorem stpR_10 {o : Int} {tk lv st : List Int} (h : ¬ (st.length < tk.length ∨ (o = 34 ∧ 0 < st.length))) (h2 : fitsR tk (st.drop (lowN tk st)) = false) : stpER o tk lv st = 10 ∧ stpSR o tk lv st = [] := by
  have e : stpER o tk lv st = 10 := by unfold stpER; rw [if_neg h, if_pos h2]
  exact ⟨e, by unfold stpSR; rw [e]; rfl⟩
theorem stpR_32 {o : Int} {tk lv st : List Int} (h : ¬ (st.length < tk.length ∨ (o = 34 ∧ 0 < st.length))) (h2 : fitsR tk (st.drop (lowN tk st)) = true) (h3 : 32 < lowN tk st + lv.length) : stpER o tk lv st = 9 ∧ stpSR o tk lv st = [] := by
  have e : stpER o tk lv st = 9 := by unfold stpER; rw [if_neg h, if_neg (by rw [h2]; simp), if_pos h3]
  exact ⟨e, by unfold stpSR; rw [e]; rfl⟩
theorem stpR_0 {o : Int} {tk lv st : List Int} (h : ¬ (st.length < tk.length ∨ (o = 34 ∧ 0 < st.length))) (h2 : fitsR tk (st.drop (lowN tk st)) = true) (h3 : ¬ 32 < lowN tk st + lv.length) : stpER o tk lv st = 0 ∧ stpSR o tk lv st = st.take (lowN tk st) ++ lvR o lv (st.drop (lowN tk st)) := by
  have e : stpER o tk lv st = 0 := by unfold stpER; rw [if_neg h, if_neg (by rw [h2]; simp), if_neg h3]
  exact ⟨e, by unfold stpSR; rw [if_pos e]⟩
theorem fitsR_no {tk top : List Int} {k : Nat} {t y : Int} (ht : tk[k]? = some t) (hy : top[k]? = some y) (h0 : t ≠ 0) (h2 : t ≠ y) : fitsR tk top = false := by
  cases h : fitsR tk top with
  | false => rfl
  | true =>
    have := List.all_eq_true.1 h k (List.mem_range.2 (lt_of_get ht))
    simp [List.getD, ht, hy, h0, h2] at this
theorem fitsR_yes {tk top : List Int} (h : ∀ k, k < tk.length → tk.getD k 0 = 0 ∨ tk.getD k 0 = top.getD k 0) : fitsR tk top = true := by
  refine List.all_eq_true.2 fun k hk => ?_
  simp only [Bool.or_eq_true, beq_iff_eq]
  exact h k (List.mem_range.1 hk)
/-- stacks in which no type is 0 -/
def NoZ (st : List Int) : Prop := ∀ x ∈ st, x ≠ 0
theorem fits_same {tk top : List Int} (hl : tk.length = top.length) (hz : NoZ top) : fitsT tk top = fitsR tk top := by
  unfold fitsT fitsR
  rw [Bool.eq_iff_iff, List.all_eq_true, List.all_eq_true]
  have hk : ∀ k, k < tk.length → top.getD k 0 ≠ 0 := fun k hk => by
    rw [List.getD_eq_getElem?_getD, List.getElem?_eq_getElem (by omega)]
    exact hz _ (List.getElem_mem ..)
  refine ⟨fun h k hm => ?_, fun h k hm => ?_⟩
  · have h1 := h k hm
    have h2 := hk k (List.mem_range.1 hm)
    simp only [Bool.or_eq_true, beq_iff_eq] at h1 ⊢
    rcases h1 with (h1 | h1) | h1
    · exact Or.inl h1
    · exact absurd h1 h2
    · exact Or.inr h1
  · have h1 := h k hm
    simp only [Bool.or_eq_true, beq_iff_eq] at h1 ⊢
    rcases h1 with h1 | h1
    · exact Or.inl (Or.inl h1)
    · exact Or.inr h1
theorem lv_same {o : Int} {lv top : List Int} (h27 : o = 27 ∨ o = 29 → lv.length = 2) : lvS o lv top = lvR o lv top := by
  unfold lvS lvR
  by_cases h1 : o = 27
  · have hl := h27 (Or.inl h1)
    obtain ⟨a, b, rfl⟩ : ∃ a b, lv = [a, b] := by
      match lv, hl with
      | [a, b], _ => exact ⟨a, b, rfl⟩
    simp [h1, lvAt]
  · rw [if_neg h1]
    by_cases h2 : o = 29
    · have hl := h27 (Or.inr h2)
      obtain ⟨a, b, rfl⟩ : ∃ a b, lv = [a, b] := by
        match lv, hl with
        | [a, b], _ => exact ⟨a, b, rfl⟩
      simp [h2, lvAt]
    · rw [if_neg h2]
      have : lvAt o top = fun _ t => t := by funext k t; unfold lvAt; rw [if_neg h1, if_neg h2]
      rw [this]
      exact (List.ext_getElem? fun i => by simp).symm
theorem stp_same {o : Int} {tk lv st : List Int} (hz : NoZ st) (h27 : o = 27 ∨ o = 29 → lv.length = 2) : stpE o tk lv st = stpER o tk lv st ∧ stpS o tk lv st = stpSR o tk lv st := by
  have hl := lv_same (o := o) (lv := lv) (top := st.drop (lowN tk st)) h27
  have e : stpE o tk lv st = stpER o tk lv st := by
    by_cases h : st.length < tk.length ∨ (o = 34 ∧ 0 < st.length)
    · rw [(stp_9 h).1, (stpR_9 h).1]
    · have hf := fits_same (tk := tk) (top := st.drop (lowN tk st)) (by unfold lowN; rw [List.length_drop]; omega) (fun x hx => hz x (List.mem_of_mem_drop hx))
      cases h2 : fitsR tk (st.drop (lowN tk st)) with
      | false => rw [(stp_10 h (hf.trans h2)).1, (stpR_10 h h2).1]
      | true =>
        by_cases h3 : 32 < lowN tk st + lv.length
        · rw [(stp_32 h (hf.trans h2) (by rw [hl, lvR_len]; exact h3)).1, (stpR_32 h h2 h3).1]
        · rw [(stp_0 h (hf.trans h2) (by rw [hl, lvR_len]; exact h3)).1, (stpR_0 h h2 h3).1]
  refine ⟨e, ?_⟩
  unfold stpS stpSR
  rw [e, hl]
def stepER (p : Pr) (u o a b : Int) (st : List Int) : Int := if oneP p u o a b = 0 then stpER o (takesL p (unAt p u) o a b) (leavesL p (unAt p u) o a b) st else oneP p u o a b
def stepSR (p : Pr) (u o a b : Int) (st : List Int) : List Int := if oneP p u o a b = 0 then stpSR o (takesL p (unAt p u) o a b) (leavesL p (unAt p u) o a b) st else []
theorem lv_two {p : Pr} {x : Un} {o a b : Int} (h : o = 27 ∨ o = 29) : (leavesL p x o a b).length = 2 := by rcases h with rfl | rfl <;> rfl
theorem step_same {p : Pr} {u o a b : Int} {st : List Int} (hz : NoZ st) : stepE p u o a b st = stepER p u o a b st ∧ stepS p u o a b st = stepSR p u o a b st := by
  obtain ⟨h1, h2⟩ := stp_same (o := o) (tk := takesL p (unAt p u) o a b) (lv := leavesL p (unAt p u) o a b) hz lv_two
  unfold stepE stepER stepS stepSR
  rw [h1, h2]
  exact ⟨rfl, rfl⟩
theorem stepSR_len (p : Pr) (u o a b : Int) (st : List Int) : (stepSR p u o a b st).length ≤ 32 := by
  unfold stepSR
  split
  · unfold stpSR
    split
    · rename_i h
      unfold stpER at h
      split at h
      · cases h
      · split at h
        · cases h
        · split at h
          · cases h
          · rename_i h3
            rw [List.length_append, List.length_take, lvR_len]
            omega
    · simp
  · simp
end Go.Proofs.YtefejcofmopjfaaGreatDoor

/- Layer 22, plain: the answer's going over a unit (the least place that waits, told by what is done) tells what the program's does (a queue). -/
namespace Go.Proofs.YtefejcofmopjfaaGreatDoor
namespace TY
set_option linter.unusedSimpArgs false
set_option linter.unusedVariables false
-- the queue: its order
theorem bsF_spec {q : List Nat} {pc : Nat} (hs : q.Pairwise (· > ·)) : ∀ (f i j : Nat), j - i ≤ f → i ≤ j → j ≤ q.length → (∀ k, k < i → pc < q.getD k 0) → (∀ k, j ≤ k → k < q.length → q.getD k 0 ≤ pc) →
    (∀ k, k < bsF q pc f i j → pc < q.getD k 0) ∧ (∀ k, bsF q pc f i j ≤ k → k < q.length → q.getD k 0 ≤ pc)
  | 0, i, j, h, hij, hj, h1, h2 => by
    obtain rfl : i = j := by omega
    exact ⟨h1, h2⟩
  | f + 1, i, j, h, hij, hj, h1, h2 => by
    have hmono : ∀ a b, a < b → b < q.length → q.getD b 0 < q.getD a 0 := fun a b hab hb => by
      have := (List.pairwise_iff_getElem.1 hs) a b (by omega) hb hab
      rw [List.getD_eq_getElem?_getD, List.getD_eq_getElem?_getD, List.getElem?_eq_getElem hb, List.getElem?_eq_getElem (by omega)]
      simpa using this
    unfold bsF
    by_cases hlt : i < j
    · rw [if_pos hlt]
      by_cases hm : pc < q.getD ((i + j) / 2) 0
      · rw [if_pos hm]
        refine bsF_spec hs f _ _ (by omega) (by omega) hj (fun k hk => ?_) h2
        by_cases hk2 : k = (i + j) / 2
        · rw [hk2]; exact hm
        · exact Nat.lt_trans hm (hmono k _ (by omega) (by omega))
      · rw [if_neg hm]
        refine bsF_spec hs f _ _ (by omega) (by omega) (by omega) h1 (fun k hk hl => ?_)
        by_cases hk2 : k = (i + j) / 2
        · rw [hk2]; omega
        · have := hmono ((i + j) / 2) k (by omega) hl
          omega
    · rw [if_neg hlt]
      obtain rfl : i = j := by omega
      exact ⟨h1, h2⟩
theorem insQ_sorted {q : List Nat} {pc : Nat} (hs : q.Pairwise (· > ·)) (hn : pc ∉ q) : (insQ q pc).Pairwise (· > ·) := by
  obtain ⟨h1, h2⟩ := bsF_spec (pc := pc) hs q.length 0 q.length (by omega) (by omega) (Nat.le_refl _) (fun k hk => by omega) (fun k hk hl => by omega)
  have hp : bsF q pc q.length 0 q.length = posF q pc := rfl
  rw [hp] at h1 h2
  unfold insQ
  have ha : ∀ x ∈ q.take (posF q pc), pc < x := fun x hx => by
    obtain ⟨k, hk, rfl⟩ := List.mem_iff_getElem.1 hx
    rw [List.length_take] at hk
    have := h1 k (by omega)
    rw [List.getD_eq_getElem?_getD, List.getElem?_eq_getElem (by omega)] at this
    simpa using this
  have hb : ∀ x ∈ q.drop (posF q pc), x < pc := fun x hx => by
    have hxq := List.mem_of_mem_drop hx
    obtain ⟨k, hk, rfl⟩ := List.mem_iff_getElem.1 hx
    rw [List.length_drop] at hk
    have := h2 (posF q pc + k) (by omega) (by omega)
    rw [List.getD_eq_getElem?_getD, List.getElem?_eq_getElem (by omega)] at this
    simp only [Option.getD_some] at this
    have hne : (q.drop (posF q pc))[k] ≠ pc := fun e => hn (e ▸ hxq)
    rw [List.getElem_drop] at hne ⊢
    omega
  rw [List.pairwise_append]
  refine ⟨hs.sublist (List.take_sublist _ _), List.pairwise_cons.2 ⟨fun x hx => hb x hx, hs.sublist (List.drop_sublist _ _)⟩, fun x hx y hy => ?_⟩
  rcases List.mem_cons.1 hy with rfl | hy
  · exact ha x hx
  · exact Nat.lt_trans (hb y hy) (ha x hx)
-- the answer's
def waitsP (R D : List Bool) (k : Nat) : Bool := R.getD k false && !D.getD k false
/-- the least of the first places that waits, or what was found behind them -/
def atF (R D : List Bool) : Nat → Int → Int
  | 0, a => a
  | i + 1, a => atF R D i (if waitsP R D i = true then (i : Int) else a)
theorem atF_none {R D : List Bool} : ∀ (n : Nat) (a : Int), (∀ k, k < n → waitsP R D k = false) → atF R D n a = a
  | 0, a, _ => rfl
  | n + 1, a, h => by
    unfold atF
    rw [if_neg (by rw [h n (by omega)]; simp)]
    exact atF_none n a fun k hk => h k (by omega)
theorem atF_some {R D : List Bool} : ∀ (n : Nat) (a : Int) (k : Nat), k < n → waitsP R D k = true → (∀ j, j < k → waitsP R D j = false) → atF R D n a = k
  | 0, a, k, h, _, _ => by omega
  | n + 1, a, k, h, h1, h2 => by
    unfold atF
    by_cases hk : k = n
    · subst hk
      rw [if_pos h1]
      exact atF_none _ _ h2
    · exact atF_some n _ k (by omega) h1 h2
def mayN (may : Nat → Nat → Bool) (pc n : Nat) : List Int := ((List.range n).filter (may pc)).map Int.ofNat
def rvisF (E : Env) (may : Nat → Nat → Bool) (pc : Nat) (s : WS) : Int × WS :=
  if ¬ E.se pc (s.stacks.getD pc []) = 0 then (E.se pc (s.stacks.getD pc []), s) else if may pc E.n = true then (11, s) else goF (E.ss pc (s.stacks.getD pc [])) (mayN may pc E.n) s
def popF (s : WS) : WS := ⟨s.stacks, s.reached, s.waits.dropLast⟩
def rentF (E : Env) (may : Nat → Nat → Bool) : Nat → WS → List Bool → Int × Int
  | 0, _, _ => (0, 0)
  | f + 1, s, D => if atF s.reached D E.n (-1) < 0 then (0, 0) else
      if ¬ (rvisF E may (atF s.reached D E.n (-1)).toNat (popF s)).1 = 0 then (atF s.reached D E.n (-1), (rvisF E may (atF s.reached D E.n (-1)).toNat (popF s)).1)
      else rentF E may f (rvisF E may (atF s.reached D E.n (-1)).toNat (popF s)).2 (D.set (atF s.reached D E.n (-1)).toNat true)
/-- what waits is what is reached and not done -/
structure Wt (n : Nat) (s : WS) (D : List Bool) : Prop where
  dl : D.length = n
  sub : ∀ k, D.getD k false = true → s.reached.getD k false = true
  mem : ∀ k, k ∈ s.waits ↔ waitsP s.reached D k = true
  srt : s.waits.Pairwise (· > ·)
theorem reach_wt {n : Nat} {s : WS} {D : List Bool} {k : Nat} (h : Wt n s D) (hf : Fit n s) (hk : k < n) (st : List Int) (hr : s.reached.getD k false = false) : Wt n (reachF k st s) D := by
  have hD : D.getD k false = false := by
    cases hd : D.getD k false with
    | false => rfl
    | true => rw [h.sub k hd] at hr; cases hr
  have hks : (reachF k st s).reached.getD k false = true := getD_set_same (by rw [hf.lr]; exact hk)
  refine ⟨h.dl, fun j hj => ?_, fun j => ?_, insQ_sorted h.srt fun hm => ?_⟩
  · by_cases e : k = j
    · subst e; exact hks
    · show (s.reached.set k true).getD j false = true
      rw [getD_set_other e]; exact h.sub j hj
  · show j ∈ insQ s.waits k ↔ _
    rw [insQ_mem, h.mem]
    by_cases e : k = j
    · subst e
      unfold waitsP
      rw [hks, hD]
      simp
    · unfold waitsP
      rw [show (reachF k st s).reached.getD j false = s.reached.getD j false from getD_set_other e]
      exact ⟨fun x => x.resolve_left (fun y => e y.symm), Or.inr⟩
  · have := (h.mem k).1 hm
    unfold waitsP at this
    rw [hr] at this
    simp at this
theorem go_wt {n : Nat} {D : List Bool} (st : List Int) : ∀ (l : List Int) (s : WS), Fit n s → Wt n s D → (∀ z ∈ l, inB n z) → Wt n (goF st l s).2 D
  | [], s, _, h, _ => h
  | z :: r, s, hf, h, hl => by
    have hz := hl z (List.mem_cons_self ..)
    have hr := fun y hy => hl y (List.mem_cons_of_mem _ hy)
    have hzn : z.toNat < n := by unfold inB at hz; omega
    unfold goF
    split
    · rename_i h1
      exact go_wt st r _ (reach_fit hf hzn st h1).1 (reach_wt h hf hzn st h1) hr
    · split
      · exact h
      · split
        · exact h
        · exact go_wt st r s hf h hr
/-- stacks of a kind stay of it -/
theorem go_ok {Ok : List Int → Prop} {st : List Int} (h0 : Ok st) : ∀ (l : List Int) (s : WS), (∀ x ∈ s.stacks, Ok x) → ∀ x ∈ (goF st l s).2.stacks, Ok x
  | [], s, h => h
  | z :: r, s, h => by
    unfold goF
    split
    · refine go_ok h0 r _ fun x hx => ?_
      rcases List.mem_or_eq_of_mem_set hx with hx | rfl
      · exact h x hx
      · exact h0
    · split
      · exact h
      · split
        · exact h
        · exact go_ok h0 r s h
def left (D : List Bool) : Nat := un D
structure Sim (E E' : Env) (may : Nat → Nat → Bool) (Ok : List Int → Prop) : Prop where
  n : E'.n = E.n
  nil : Ok []
  beh : ∀ pc, pc < E.n → if may pc E.n = true then ¬ ∀ z ∈ E.beh pc, inB E.n z else (∀ z ∈ E.beh pc, inB E.n z) ∧ E.beh pc = mayN may pc E.n
  se : ∀ pc st, pc < E.n → Ok st → E'.se pc st = E.se pc st
  ss : ∀ pc st, pc < E.n → Ok st → E.se pc st = 0 → E'.ss pc st = E.ss pc st ∧ Ok (E.ss pc st)
theorem vis_same {E E' : Env} {may : Nat → Nat → Bool} {Ok : List Int → Prop} (h : Sim E E' may Ok) {pc : Nat} (hp : pc < E.n) {s : WS} (hk : Ok (s.stacks.getD pc [])) : rvisF E' may pc s = visitF E pc s := by
  unfold rvisF visitF
  rw [h.n, h.se pc _ hp hk]
  by_cases h1 : ¬ E.se pc (s.stacks.getD pc []) = 0
  · rw [if_pos h1, if_pos h1]
  · rw [if_neg h1, if_neg h1, (h.ss pc _ hp hk (Classical.not_not.1 h1)).1]
    have hb := h.beh pc hp
    by_cases h2 : may pc E.n = true
    · rw [if_pos h2] at hb
      rw [if_pos h2, if_pos hb]
    · rw [if_neg h2] at hb
      rw [if_neg h2, if_neg (fun x => x hb.1), hb.2]
theorem sim_told {E E' : Env} {may : Nat → Nat → Bool} {Ok : List Int → Prop} (h : Sim E E' may Ok) : ∀ (f g : Nat) (s : WS) (D : List Bool) (r : Int × Int × WS), Fit E.n s → Wt E.n s D → (∀ x ∈ s.stacks, Ok x) → left D ≤ g → entF E f s = some r → rentF E' may g s D = (r.1, r.2.1)
  | 0, g, s, D, r, _, _, _, _, he => by cases he
  | f + 1, g, s, D, r, hf, hw, hk, hg, he => by
    unfold entF at he
    by_cases h0 : s.waits = []
    · rw [if_pos h0] at he
      obtain rfl := Option.some.inj he
      cases g with
      | zero => rfl
      | succ g =>
        have hA : atF s.reached D E.n (-1) = -1 := atF_none _ _ fun k _ => by
          cases hx : waitsP s.reached D k with
          | false => rfl
          | true => have := (hw.mem k).2 hx; rw [h0] at this; exact absurd this List.not_mem_nil
        unfold rentF
        rw [h.n, hA]
        rfl
    · rw [if_neg h0] at he
      obtain ⟨a, b, ws⟩ := s
      simp only at h0 he
      obtain ⟨q, pc, hqp⟩ : ∃ q pc, ws = q ++ [pc] := ⟨ws.dropLast, ws.getLast h0, (List.dropLast_concat_getLast h0).symm⟩
      subst hqp
      have hl : lastF (q ++ [pc]) = pc := by simp [lastF]
      simp only [hl, List.dropLast_concat] at he
      have hpn : pc < E.n := hf.wl pc (by simp)
      have hpw : waitsP b D pc = true := (hw.mem pc).1 (by simp)
      have hA : atF b D E.n (-1) = (pc : Int) := atF_some _ _ pc hpn hpw fun j hj => by
        cases hx : waitsP b D j with
        | false => rfl
        | true =>
          have hm := (hw.mem j).2 hx
          have hs := hw.srt
          simp only at hm hs
          rw [List.pairwise_append] at hs
          rcases List.mem_append.1 hm with hm | hm
          · have := hs.2.2 j hm pc (by simp); omega
          · have := List.mem_singleton.1 hm; omega
      have hDpc : D.getD pc false = false := by
        unfold waitsP at hpw
        cases hd : D.getD pc false with
        | false => rfl
        | true => rw [hd] at hpw; simp at hpw
      have hget : D[pc]? = some false := by
        rw [List.getD_eq_getElem?_getD, List.getElem?_eq_getElem (by rw [hw.dl]; exact hpn)] at hDpc
        rw [List.getElem?_eq_getElem (by rw [hw.dl]; exact hpn)]
        simpa using hDpc
      have hun := un_set D pc hget
      cases g with
      | zero => unfold left at hg; omega
      | succ g =>
        have hkp : Ok (a.getD pc []) := by
          rw [List.getD_eq_getElem?_getD]
          cases hx : a[pc]? with
          | none => exact h.nil
          | some x => exact hk x (List.mem_of_getElem? hx)
        have hv := vis_same h hpn (s := ⟨a, b, q⟩) hkp
        unfold rentF
        simp only [h.n, hA, popF, List.dropLast_concat]
        rw [if_neg (by omega)]
        simp only [Int.toNat_natCast]
        rw [hv]
        by_cases h1 : ¬ (visitF E pc ⟨a, b, q⟩).1 = 0
        · rw [if_pos h1] at he
          rw [if_pos h1]
          obtain rfl := Option.some.inj he
          rfl
        · rw [if_neg h1] at he
          rw [if_neg h1]
          have hq : Fit E.n ⟨a, b, q⟩ := ⟨hf.ls, hf.lr, fun x hx => hf.wl x (List.mem_append_left _ hx), fun x hx => hf.wr x (List.mem_append_left _ hx), by have := hf.cnt; simp at this ⊢; omega⟩
          have hsrt := hw.srt
          simp only at hsrt
          rw [List.pairwise_append] at hsrt
          have hwq : Wt E.n ⟨a, b, q⟩ (D.set pc true) := by
            refine ⟨by rw [List.length_set]; exact hw.dl, fun k hk2 => ?_, fun k => ?_, hsrt.1⟩
            · by_cases e : pc = k
              · subst e; exact hf.wr pc (by simp)
              · rw [getD_set_other e] at hk2; exact hw.sub k hk2
            · by_cases e : pc = k
              · subst e
                unfold waitsP
                rw [getD_set_same (by rw [hw.dl]; exact hpn)]
                simp only [Bool.not_true, Bool.and_false, Bool.false_eq_true, iff_false]
                intro hm
                have := hsrt.2.2 pc hm pc (by simp)
                omega
              · have hm := hw.mem k
                simp only [List.mem_append, List.mem_singleton] at hm
                unfold waitsP at hm ⊢
                rw [getD_set_other e]
                rw [← hm]
                exact ⟨Or.inl, fun x => x.resolve_right fun y => e y.symm⟩
          have hz : E.se pc (a.getD pc []) = 0 ∧ (∀ z ∈ E.beh pc, inB E.n z) ∧ visitF E pc ⟨a, b, q⟩ = goF (E.ss pc (a.getD pc [])) (E.beh pc) ⟨a, b, q⟩ := by
            unfold visitF at h1 ⊢
            by_cases c1 : ¬ E.se pc (a.getD pc []) = 0
            · rw [if_pos c1] at h1; exact absurd h1 (fun x => x c1)
            · rw [if_neg c1] at h1 ⊢
              by_cases c2 : ¬ ∀ z ∈ E.beh pc, inB E.n z
              · rw [if_pos c2] at h1; simp at h1
              · rw [if_neg c2]; exact ⟨Classical.not_not.1 c1, Classical.not_not.1 c2, rfl⟩
          rw [hz.2.2] at he ⊢
          refine sim_told h f g _ _ r (go_told _ _ _ hq hz.2.1).1 (go_wt _ _ _ hq hwq hz.2.1) (go_ok (h.ss pc _ hpn hkp hz.1).2 _ _ hk) ?_ he
          unfold left at hg ⊢
          omega
theorem start_wt (n : Nat) : Wt n (start n) (List.replicate n false) := by
  have hno : ∀ k, (List.replicate n false).getD k false = false := fun k => by
    simp [List.getD, List.getElem?_replicate]
    split <;> rfl
  have h0 : Wt n ⟨List.replicate n [], List.replicate n false, []⟩ (List.replicate n false) := ⟨by simp, fun k hk => (by rw [hno k] at hk; cases hk), fun k => (by unfold waitsP; rw [hno k]; simp), List.Pairwise.nil⟩
  unfold start
  split
  · rename_i hn
    exact reach_wt h0 ⟨by simp, by simp, fun x hx => absurd hx List.not_mem_nil, fun x hx => absurd hx List.not_mem_nil, by simp [un_none]⟩ hn [] (hno 0)
  · exact h0
end TY
end Go.Proofs.YtefejcofmopjfaaGreatDoor

/- Layer 22, plain: in a program whose declarations are right no stack has a type 0: the answer's typing of a unit is the program's. -/
namespace Go.Proofs.YtefejcofmopjfaaGreatDoor
open Go.RowKit
set_option linter.unusedSimpArgs false
set_option linter.unusedVariables false
theorem kRight_nz {t : Int} (h : kRight t = true) : t ≠ 0 := by
  have := of_decide_eq_true h
  omega
structure Decl (p : Pr) : Prop where
  cs : ∀ x ∈ p.consts, x.1 ≠ 0
  vs : ∀ x ∈ p.vars, x.t ≠ 0
  us : ∀ x ∈ p.units, ∀ t ∈ slotsL x, t ≠ 0
theorem decl_of {p : Pr} (h : checkE p = 0) : Decl p := by
  have hz := firstE_zero h
  have h3 := allE_zero (hz (allE (p.consts.all fun x => kIn x.1 x.2)) (by simp))
  have h4 : tablesE p.vars p.blocks = 0 := hz _ (by simp)
  have h5 : firstE (unitsL p.units) = 0 := hz _ (by simp)
  have h6 := firstE_zero h5
  obtain ⟨_, _, hv, _⟩ := tablesE_zero h4
  rw [List.all_eq_true] at h3 hv
  refine ⟨fun x hx => ?_, fun x hx => ?_, fun x hx t ht => ?_⟩
  · have := h3 x hx
    unfold kIn at this
    rw [Bool.and_eq_true] at this
    exact kRight_nz this.1
  · have := hv x hx
    unfold goodV at this
    rw [Bool.and_eq_true] at this
    exact kRight_nz this.1
  · obtain ⟨k, hk⟩ := List.mem_iff_getElem?.1 hx
    have hu := h6 _ (List.mem_of_getElem? (unitsL_at hk))
    unfold unitE at hu
    split at hu
    · rename_i h0
      have hh := firstE_zero h0
      have ha := allE_zero (hh (allE ((headS x.params x.locals x.result).all kRight)) (by simp))
      rw [List.all_eq_true] at ha
      refine kRight_nz (ha t ?_)
      unfold slotsL at ht
      unfold headS
      exact ht
    · rename_i h0; exact absurd hu h0
theorem slotAt_mem {x : Un} {n : Int} (h0 : 0 ≤ n) (h : n < slotsN x) : slotAt x n ∈ slotsL x := by
  have hl := slotsL_len x
  unfold slotAt
  rw [List.getD_eq_getElem?_getD, List.getElem?_eq_getElem (by omega)]
  exact List.getElem_mem ..
theorem fldT_nz {k b : Int} (h0 : 0 ≤ b) (h : b < ((bF k).length : Int)) : fldT k b ≠ 0 := by
  have hk : 1 ≤ k ∧ k ≤ 8 := by
    by_cases hk : 1 ≤ k ∧ k ≤ 8
    · exact hk
    · rw [bF_no hk] at h; simp at h; omega
  obtain ⟨n, rfl⟩ := Int.eq_ofNat_of_zero_le h0
  have hn : n < (bF k).length := by omega
  unfold fldT
  rw [if_neg (by omega)]
  simp only [Int.toNat_natCast]
  have hall : ∀ y ∈ bF k, y.2 ≠ 0 := by
    rcases k8 hk with rfl | rfl | rfl | rfl | rfl | rfl | rfl | rfl <;> decide
  rw [List.getD_eq_getElem?_getD, List.getElem?_eq_getElem hn]
  exact hall _ (List.getElem_mem ..)
theorem leaves_nz {p : Pr} {u o a b : Int} (hd : Decl p) (h : oneP p u o a b = 0) (h27 : o ≠ 27) (h29 : o ≠ 29) : NoZ (leavesL p (unAt p u) o a b) := by
  obtain ⟨hu, ho, ha, hb, hty, hth⟩ := oneP_parts h
  have hx : unAt p u ∈ p.units := by
    unfold unAt
    rw [List.getD_eq_getElem?_getD, List.getElem?_eq_getElem (by omega)]
    exact List.getElem_mem ..
  intro t ht
  unfold leavesL at ht
  by_cases h1 : o = 1
  · rw [if_pos h1] at ht
    rw [List.mem_singleton] at ht
    subst h1
    rw [thereP_1 (by decide)] at hth
    have := of_decide_eq_true hth
    rw [ht]
    unfold cAt
    rw [List.getD_eq_getElem?_getD, List.getElem?_eq_getElem (by omega)]
    exact hd.cs _ (List.getElem_mem ..)
  rw [if_neg h1] at ht
  by_cases h2 : o = 2 ∨ o = 3 ∨ o = 6 ∨ o = 7
  · rw [if_pos h2] at ht
    have ht2 : t = tAt p a := by
      unfold lvV at ht
      split at ht
      · exact List.mem_singleton.1 ht
      · exact absurd ht List.not_mem_nil
    rw [thereP_2 (by rcases h2 with rfl | rfl | rfl | rfl <;> decide)] at hth
    have := (of_decide_eq_true hth).1
    rw [ht2]
    unfold tAt
    rw [List.getD_eq_getElem?_getD, List.getElem?_eq_getElem (by omega)]
    exact hd.vs _ (List.getElem_mem ..)
  rw [if_neg h2] at ht
  by_cases h4 : o = 4 ∨ o = 5
  · rw [if_pos h4] at ht
    have ht2 : t = slotAt (unAt p u) a := by
      unfold lvV at ht
      split at ht
      · exact List.mem_singleton.1 ht
      · exact absurd ht List.not_mem_nil
    rw [thereP_3 (by rcases h4 with rfl | rfl <;> decide)] at hth
    rw [ht2]
    exact hd.us _ hx _ (slotAt_mem ha (of_decide_eq_true hth))
  rw [if_neg h4] at ht
  by_cases h8 : 8 ≤ o ∧ o ≤ 26
  · rw [if_pos h8] at ht
    unfold lvT at ht
    by_cases h26 : o = 26
    · rw [if_pos h26, List.mem_singleton] at ht
      unfold typedP at hty
      rw [if_pos h26, Bool.and_eq_true] at hty
      rw [ht]
      exact kRight_nz hty.2
    · rw [if_neg h26] at ht
      have hg : aGoes o a = true := by rw [← typedP_m (b := b) (by omega)]; exact hty
      have ha1 : a ≠ 0 := by
        unfold aGoes at hg
        have := (of_decide_eq_true hg).1
        omega
      by_cases h18 : o = 18 ∨ o = 19
      · rw [if_pos h18, List.mem_singleton] at ht; rw [ht]; exact ha1
      · rw [if_neg h18] at ht
        by_cases hbn : aBinary o = false
        · rw [if_pos hbn, List.mem_singleton] at ht; rw [ht]; exact ha1
        · rw [if_neg hbn, List.mem_singleton] at ht
          rw [ht]
          unfold aResult
          rw [if_pos hg]
          split
          · decide
          · exact ha1
  rw [if_neg h8, if_neg (by omega)] at ht
  by_cases h33 : o = 33
  · rw [if_pos h33] at ht
    split at ht
    · exact absurd ht List.not_mem_nil
    · rename_i h0
      rw [List.mem_singleton.1 ht]; exact h0
  rw [if_neg h33] at ht
  unfold lvB at ht
  split at ht
  · rename_i h37
    subst h37
    rw [List.mem_singleton] at ht
    rw [thereP_8 (by decide)] at hth
    have := (of_decide_eq_true hth).2 (by decide)
    rw [ht]
    have h3 : reachN 37 (kindAt p a) = ((bF (kindAt p a)).length : Int) := if_neg (by decide)
    exact fldT_nz hb (by omega)
  · exact absurd ht List.not_mem_nil
theorem step_nz {p : Pr} {u o a b : Int} {st : List Int} (hd : Decl p) (hz : NoZ st) : NoZ (stepS p u o a b st) := by
  unfold stepS
  split
  · rename_i h
    unfold stpS
    split
    · rename_i h0
      intro x hx
      rcases List.mem_append.1 hx with hx | hx
      · exact hz x (List.mem_of_mem_take hx)
      · have hne : ¬ (st.length < (takesL p (unAt p u) o a b).length ∨ (o = 34 ∧ 0 < st.length)) := fun q => by rw [(stp_9 q).1] at h0; exact absurd h0 (by decide)
        have htop : ∀ k, k < (takesL p (unAt p u) o a b).length → (st.drop (lowN (takesL p (unAt p u) o a b) st)).getD k 0 ≠ 0 := fun k hk => by
          rw [List.getD_eq_getElem?_getD, List.getElem?_eq_getElem (by rw [List.length_drop]; unfold lowN; omega)]
          exact hz _ (List.mem_of_mem_drop (List.getElem_mem ..))
        unfold lvS at hx
        by_cases h1 : o = 27
        · have hl : (takesL p (unAt p u) o a b).length = 1 := by subst h1; rfl
          rw [if_pos h1] at hx
          have h0' := htop 0 (by omega)
          simp only [List.mem_cons, List.not_mem_nil, or_false, or_self] at hx
          rw [hx]; exact h0'
        · rw [if_neg h1] at hx
          by_cases h2 : o = 29
          · have hl : (takesL p (unAt p u) o a b).length = 2 := by subst h2; rfl
            rw [if_pos h2] at hx
            have h0' := htop 0 (by omega)
            have h1' := htop 1 (by omega)
            simp only [List.mem_cons, List.not_mem_nil, or_false] at hx
            rcases hx with hx | hx
            · rw [hx]; exact h1'
            · rw [hx]; exact h0'
          · rw [if_neg h2] at hx
            exact leaves_nz hd h h1 h2 x hx
    · intro x hx; exact absurd hx List.not_mem_nil
  · intro x hx; exact absurd hx List.not_mem_nil
/-- the answer's own going over a unit -/
def tyR (p : Pr) (u : Int) (L : List Ins) : TY.Env := ⟨L.length, fun pc st => stepER p u (L.getD pc (0, 0, 0)).1 (L.getD pc (0, 0, 0)).2.1 (L.getD pc (0, 0, 0)).2.2 st, fun pc st => stepSR p u (L.getD pc (0, 0, 0)).1 (L.getD pc (0, 0, 0)).2.1 (L.getD pc (0, 0, 0)).2.2 st, fun _ => []⟩
def mayE (L : List Ins) (pc t : Nat) : Bool := mayP (L.getD pc (0, 0, 0)) pc t
def entR (p : Pr) (u : Int) : Int × Int :=
  if (chkP p u).2 ≠ 0 then chkP p u else TY.rentF (tyR p u (unAt p u).code) (mayE (unAt p u).code) (unAt p u).code.length (TY.start (unAt p u).code.length) (List.replicate (unAt p u).code.length false)
theorem beh_may {x : Ins} {k n : Nat} (hk : k < n) (hn : n ≤ 300) (hA : 0 ≤ x.2.1 ∧ x.2.1 ≤ 65535) (h32 : x.1 = 32 → x.2.1 ≤ 300) (hj : x.1 = 30 ∨ x.1 = 31 → x.2.1 < n) :
    if mayP x k n = true then ¬ ∀ z ∈ behL x k, TY.inB n z else (∀ z ∈ behL x k, TY.inB n z) ∧ behL x k = mayL x k n := by
  rw [← may_beh x k (by omega) hA h32]
  have hsplit : ∀ z, z ∈ mayL x k 70000 ↔ ∃ t : Nat, t < 70000 ∧ mayP x k t = true ∧ z = (t : Int) := fun z => by
    unfold mayL
    rw [List.mem_map]
    constructor
    · rintro ⟨t, ht, rfl⟩
      have h1 := List.mem_filter.1 ht
      exact ⟨t, List.mem_range.1 h1.1, h1.2, rfl⟩
    · rintro ⟨t, h1, h2, rfl⟩
      exact ⟨t, List.mem_filter.2 ⟨List.mem_range.2 h1, h2⟩, rfl⟩
  by_cases hm : mayP x k n = true
  · rw [if_pos hm]
    intro hall
    have := hall (n : Int) ((hsplit _).2 ⟨n, by omega, hm, rfl⟩)
    unfold TY.inB at this
    omega
  · rw [if_neg hm]
    have hno : ∀ t : Nat, n ≤ t → mayP x k t = false := fun t ht => by
      cases hp : mayP x k t with
      | false => rfl
      | true =>
        exfalso
        apply hm
        unfold mayP at hp ⊢
        by_cases c30 : x.1 = 30
        · rw [if_pos c30] at hp
          have h1 := of_decide_eq_true hp
          have h2 := hj (Or.inl c30)
          omega
        rw [if_neg c30] at hp ⊢
        by_cases c31 : x.1 = 31
        · rw [if_pos c31] at hp ⊢
          have h1 := of_decide_eq_true hp
          have h2 := hj (Or.inr c31)
          exact decide_eq_true (by omega)
        rw [if_neg c31] at hp ⊢
        by_cases c32 : x.1 = 32
        · rw [if_pos c32] at hp ⊢
          have h1 := of_decide_eq_true hp
          exact decide_eq_true (by omega)
        rw [if_neg c32] at hp ⊢
        by_cases c34 : x.1 = 34
        · rw [if_pos c34] at hp; cases hp
        rw [if_neg c34] at hp ⊢
        have h1 := of_decide_eq_true hp
        exact decide_eq_true (by omega)
    refine ⟨fun z hz => ?_, ?_⟩
    · obtain ⟨t, h1, h2, rfl⟩ := (hsplit z).1 hz
      unfold TY.inB
      by_cases ht : n ≤ t
      · rw [hno t ht] at h2; cases h2
      · omega
    · have : ∀ d, mayL x k (n + d) = mayL x k n := fun d => by
        induction d with
        | zero => rfl
        | succ d ih => rw [show n + (d + 1) = (n + d) + 1 by omega, mayL_succ, ih, hno (n + d) (by omega)]; simp
      have h7 := this (70000 - n)
      rw [show n + (70000 - n) = 70000 by omega] at h7
      exact h7
theorem ent_same {p : Pr} {u : Int} (hd : Decl p) (hn : (unAt p u).code.length ≤ 300) (hc : (chkP p u).2 = 0) : entT p u = entR p u := by
  obtain ⟨hu, hok⟩ := chk_ok hc
  have hz := (chk_zero hc).2
  unfold entT entR
  rw [if_neg (fun x => x hc), if_neg (fun x => x hc)]
  generalize hL : (unAt p u).code = L at *
  obtain ⟨h1, h2, h3⟩ := TY.start_told (tyE p u L)
  obtain ⟨r, hr, _⟩ := TY.ent_told (tyE p u L) (L.length + 1) (TY.start L.length) h1 h2 (by have : (tyE p u L).n = L.length := rfl; rw [this] at h3; omega)
  rw [hr]
  have hS : TY.Sim (tyE p u L) (tyR p u L) (mayE L) NoZ := by
    refine ⟨rfl, fun x hx => absurd hx List.not_mem_nil, fun pc hpc => ?_, fun pc st hpc hst => (step_same hst).1.symm, fun pc st hpc hst h0 => ⟨(step_same hst).2.symm, step_nz hd hst⟩⟩
    have hpc' : pc < L.length := hpc
    obtain ⟨x, hx⟩ := get_some hpc'
    have hg : L.getD pc (0, 0, 0) = x := by rw [List.getD_eq_getElem?_getD, hx]; rfl
    obtain ⟨hA, h32⟩ := hok pc x hx
    have hj : x.1 = 30 ∨ x.1 = 31 → x.2.1 < L.length := fun hj => by
      have he := hz pc hpc'
      by_cases h1 : oneP p u x.1 x.2.1 x.2.2 = 0
      · rw [errAt_jump hx h1, jumpP_j hj] at he
        split at he
        · assumption
        · cases he
      · exact absurd ((errAt_one hx h1).symm.trans he) h1
    have := beh_may hpc' hn hA (fun q => Int.le_trans (h32 q) (by omega)) hj
    show if mayP (L.getD pc (0, 0, 0)) pc L.length = true then ¬ ∀ z ∈ behL (L.getD pc (0, 0, 0)) pc, TY.inB L.length z else (∀ z ∈ behL (L.getD pc (0, 0, 0)) pc, TY.inB L.length z) ∧ behL (L.getD pc (0, 0, 0)) pc = mayL (L.getD pc (0, 0, 0)) pc L.length
    rw [hg]
    exact this
  have hst0 : ∀ x ∈ (TY.start L.length).stacks, NoZ x := by
    intro x hx
    have : x = [] := by
      unfold TY.start at hx
      split at hx
      · rcases List.mem_or_eq_of_mem_set hx with hx | hx
        · exact (List.mem_replicate.1 hx).2
        · exact hx
      · exact (List.mem_replicate.1 hx).2
    rw [this]
    intro y hy; exact absurd hy List.not_mem_nil
  have := TY.sim_told hS (L.length + 1) L.length (TY.start L.length) (List.replicate L.length false) r h1 (TY.start_wt L.length) hst0 (by unfold TY.left; rw [TY.un_none]; exact Nat.le_refl _) hr
  rw [this]
  by_cases h0 : r.2.1 ≠ 0
  · simp only [if_pos h0]
  · simp only [if_neg h0]
    have h0 : r.2.1 = 0 := Classical.not_not.1 h0
    obtain ⟨r', hr', hz'⟩ := TY.ent_told (tyE p u L) (L.length + 1) (TY.start L.length) h1 h2 (by have : (tyE p u L).n = L.length := rfl; rw [this] at h3; omega)
    rw [hr] at hr'
    obtain rfl := Option.some.inj hr'
    rw [(hz' h0).1, h0]
end Go.Proofs.YtefejcofmopjfaaGreatDoor

/- Layer 22: what the answer's typing of a unit keeps (ref20.Entries): rows of the call's own, as they are in the heap. -/
namespace Go.Proofs.YtefejcofmopjfaaGreatDoor
open Go.RowKit
set_option linter.unusedSimpArgs false
set_option linter.unusedVariables false
theorem cell_obj {w : World} {p : Nat} {A : Array Value} {t : TypeId} (hp : w.heap[p]? = some (.cells A t)) (i : Nat) : w.cell? ⟨p, i, none⟩ = A[i]? := by
  unfold World.cell?
  rw [show (⟨p, i, none⟩ : Addr).block = p from rfl, hp]
  rfl
/-- a row of numbers stays when a block that holds no number changes -/
theorem row_other {w : World} {v : Value} {l : List Int} (h : RowR 1 intR w v l) {g o : Nat} {x : Value} (hg : ∀ j z, w.cell? ⟨g, j, none⟩ ≠ some (.int .i64 z)) : RowR 1 intR (w.setCell ⟨g, o, none⟩ x) v l := by
  rcases h with h | ⟨b, off, cap, h1, h2, h3, h4, h5, h6⟩
  · exact Or.inl h
  · refine Or.inr ⟨b, off, cap, h1, h2, h3, h4, by simpa using h5, fun i x' hx => ?_⟩
    obtain ⟨C, g1, g2, g3, g4⟩ := h6 i x' hx
    refine ⟨C, g1, fun j u hu => ?_, g3, g4⟩
    have hne : g ≠ b := by
      rintro rfl
      subst g3
      exact hg _ _ (g2 0 _ rfl)
    rw [← g2 j u hu]
    exact World.cell?_of_block (get_set (a := ⟨g, o, none⟩) hne)
structure RAt (B gS gR gD n : Nat) (U : List Value) (s : WS) (D : List Bool) (w : World) : Prop where
  oS : w.heap[gS]? = some (.cells U.toArray 35)
  oR : w.heap[gR]? = some (.cells (bV1 s.reached).toArray 4)
  oD : w.heap[gD]? = some (.cells (bV1 D).toArray 4)
  ul : U.length = n
  sl : s.stacks.length = n
  rl : s.reached.length = n
  dl : D.length = n
  rows : ∀ k v, U[k]? = some v → RowR 1 intR w v (s.stacks.getD k [])
  short : ∀ st ∈ s.stacks, st.length ≤ 32
  bg : B ≤ gS ∧ B ≤ gR ∧ B ≤ gD
  ne : gS ≠ gR ∧ gS ≠ gD ∧ gR ≠ gD
theorem RAt.below {B gS gR gD n : Nat} {U : List Value} {s : WS} {D : List Bool} {w w' : World} (h : RAt B gS gR gD n U s D w) (hb : Below w.heap.size w w') : RAt B gS gR gD n U s D w' :=
  ⟨obj_below h.oS hb (heap_lt h.oS), obj_below h.oR hb (heap_lt h.oR), obj_below h.oD hb (heap_lt h.oD), h.ul, h.sl, h.rl, h.dl, fun k v hv => (h.rows k v hv).below intR_stable hb, h.short, h.bg, h.ne⟩
theorem RAt.pop {B gS gR gD n : Nat} {U : List Value} {s : WS} {D : List Bool} {w : World} (h : RAt B gS gR gD n U s D w) : RAt B gS gR gD n U (TY.popF s) D w :=
  ⟨h.oS, h.oR, h.oD, h.ul, h.sl, h.rl, h.dl, h.rows, h.short, h.bg, h.ne⟩
theorem bools_noint {w : World} {g : Nat} {l : List Bool} {t : TypeId} (h : w.heap[g]? = some (.cells (bV1 l).toArray t)) : ∀ j z, w.cell? ⟨g, j, none⟩ ≠ some (.int .i64 z) := by
  intro j z hz
  rw [cell_obj h] at hz
  simp [bV1] at hz
theorem RAt.slices {B gS gR gD n : Nat} {U : List Value} {s : WS} {D : List Bool} {w : World} (h : RAt B gS gR gD n U s D w) : ∀ j z, w.cell? ⟨gS, j, none⟩ ≠ some (.int .i64 z) := by
  intro j z hz
  rw [cell_obj h.oS] at hz
  obtain ⟨a, c, e⟩ := row_get (h.rows j _ (by simpa using hz))
  cases e
theorem RAt.done {B gS gR gD n : Nat} {U : List Value} {s : WS} {D : List Bool} {w : World} (h : RAt B gS gR gD n U s D w) (k : Nat) : RAt B gS gR gD n U s (D.set k true) (w.setCell ⟨gD, k, none⟩ (.bool true)) := by
  obtain ⟨h1, h2, h3⟩ := h.ne
  refine ⟨set_get h.oS (Ne.symm h2), set_get h.oR (Ne.symm h3), ?_, h.ul, h.sl, h.rl, by rw [List.length_set]; exact h.dl, fun k v hv => row_other (h.rows k v hv) (bools_noint h.oD), h.short, h.bg, h.ne⟩
  rw [obj_self h.oD]
  congr 2
  rw [← bV1_set]
  simp
theorem RAt.mark {B gS gR gD n : Nat} {U : List Value} {s : WS} {D : List Bool} {w : World} (h : RAt B gS gR gD n U s D w) (k : Nat) : RAt B gS gR gD n U ⟨s.stacks, s.reached.set k true, s.waits⟩ D (w.setCell ⟨gR, k, none⟩ (.bool true)) := by
  obtain ⟨h1, h2, h3⟩ := h.ne
  refine ⟨set_get h.oS (Ne.symm h1), ?_, set_get h.oD h3, h.ul, h.sl, by rw [List.length_set]; exact h.rl, h.dl, fun k v hv => row_other (h.rows k v hv) (bools_noint h.oR), h.short, h.bg, h.ne⟩
  rw [obj_self h.oR]
  congr 2
  rw [← bV1_set]
  simp
theorem RAt.reach {B gS gR gD n : Nat} {U : List Value} {s : WS} {D : List Bool} {w : World} (h : RAt B gS gR gD n U s D w) {k : Nat} (hk : k < n) {v : Value} {st : List Int} (hv : RowR 1 intR w v st) (hl : st.length ≤ 32) :
    RAt B gS gR gD n (U.set k v) (reachF k st s) D ((w.setCell ⟨gR, k, none⟩ (.bool true)).setCell ⟨gS, k, none⟩ v) := by
  have h' := h.mark k
  have hv' : RowR 1 intR (w.setCell ⟨gR, k, none⟩ (.bool true)) v st := row_other hv (bools_noint h.oR)
  obtain ⟨h1, h2, h3⟩ := h.ne
  refine ⟨?_, set_get h'.oR h1, set_get h'.oD h2, by rw [List.length_set]; exact h.ul, by show (s.stacks.set k st).length = n; rw [List.length_set]; exact h.sl, h'.rl, h.dl, fun j u hu => ?_, fun x hx => ?_, h.bg, h.ne⟩
  · rw [obj_self h'.oS]
    congr 2
    simp
  · refine row_other ?_ h'.slices
    show RowR 1 intR _ u ((s.stacks.set k st).getD j [])
    by_cases e : k = j
    · subst e
      rw [TY.getD_set_same (by rw [h.sl]; exact hk)]
      have : u = v := by
        rw [List.getElem?_set, if_pos rfl, if_pos (by rw [h.ul]; exact hk)] at hu
        exact (Option.some.inj hu).symm
      rw [this]; exact hv'
    · rw [TY.getD_set_other e]
      rw [List.getElem?_set, if_neg e] at hu
      exact h'.rows j u hu
  · rcases List.mem_or_eq_of_mem_set hx with hx | rfl
    · exact h.short x hx
    · exact hl
theorem RAt.atR {B gS gR gD n : Nat} {U : List Value} {s : WS} {D : List Bool} {w : World} (h : RAt B gS gR gD n U s D w) {k : Nat} (hk : k < n) : w.cell? ⟨gR, k, none⟩ = some (.bool (s.reached.getD k false)) := by
  rw [cell_obj h.oR, List.getElem?_toArray]
  unfold bV1
  rw [List.getElem?_map, List.getD_eq_getElem?_getD, List.getElem?_eq_getElem (by rw [h.rl]; exact hk)]
  rfl
theorem RAt.atD {B gS gR gD n : Nat} {U : List Value} {s : WS} {D : List Bool} {w : World} (h : RAt B gS gR gD n U s D w) {k : Nat} (hk : k < n) : w.cell? ⟨gD, k, none⟩ = some (.bool (D.getD k false)) := by
  rw [cell_obj h.oD, List.getElem?_toArray]
  unfold bV1
  rw [List.getElem?_map, List.getD_eq_getElem?_getD, List.getElem?_eq_getElem (by rw [h.dl]; exact hk)]
  rfl
theorem RAt.atS {B gS gR gD n : Nat} {U : List Value} {s : WS} {D : List Bool} {w : World} (h : RAt B gS gR gD n U s D w) {k : Nat} (hk : k < n) : ∃ a c, w.cell? ⟨gS, k, none⟩ = some (.slice a (s.stacks.getD k []).length c) ∧ RowR 1 intR w (.slice a (s.stacks.getD k []).length c) (s.stacks.getD k []) ∧ (s.stacks.getD k []).length ≤ 32 := by
  obtain ⟨v, hv⟩ := get_some (L := U) (n := k) (by rw [h.ul]; exact hk)
  have hr := h.rows k v hv
  obtain ⟨a, c, rfl⟩ := row_get hr
  refine ⟨a, c, by rw [cell_obj h.oS, List.getElem?_toArray]; exact hv, hr, ?_⟩
  rw [List.getD_eq_getElem?_getD, List.getElem?_eq_getElem (by rw [h.sl]; exact hk)]
  exact h.short _ (List.getElem_mem ..)
theorem RAt.start {B gS gR gD n : Nat} {w : World} (hS : w.heap[gS]? = some (.cells (madeCells (Value.slice none 0 0).cells n) 35)) (hR : w.heap[gR]? = some (.cells (madeCells (Value.bool false).cells n) 4)) (hD : w.heap[gD]? = some (.cells (madeCells (Value.bool false).cells n) 4)) (bg : B ≤ gS ∧ B ≤ gR ∧ B ≤ gD) (ne : gS ≠ gR ∧ gS ≠ gD ∧ gR ≠ gD) :
    RAt B gS gR gD n (List.replicate n (.slice none 0 0)) ⟨List.replicate n [], List.replicate n false, []⟩ (List.replicate n false) w := by
  rw [madeS] at hS
  rw [made_false] at hR hD
  refine ⟨hS, hR, hD, by simp, by simp, by simp, by simp, fun k v hv => ?_, fun st hst => ?_, bg, ne⟩
  · have hk := lt_of_get hv
    rw [List.length_replicate] at hk
    rw [List.getElem?_replicate, if_pos hk] at hv
    rw [← Option.some.inj hv]
    have : (List.replicate n ([] : List Int)).getD k [] = [] := by simp [List.getD, List.getElem?_replicate, hk]
    rw [this]
    exact row_none
  · rw [(List.mem_replicate.1 hst).2]; simp
/-- what there is ahead of the first turn -/
theorem RAt.first {B gS gR gD n : Nat} {w : World} (hn : 0 < n) (h : RAt B gS gR gD n (List.replicate n (.slice none 0 0)) ⟨List.replicate n [], List.replicate n false, []⟩ (List.replicate n false) w) :
    RAt B gS gR gD n (List.replicate n (.slice none 0 0)) (TY.start n) (List.replicate n false) (w.setCell ⟨gR, 0, none⟩ (.bool true)) := by
  have h' := h.mark 0
  have e : TY.start n = reachF 0 [] ⟨List.replicate n [], List.replicate n false, []⟩ := if_pos hn
  rw [e]
  have e2 : (List.replicate n ([] : List Int)).set 0 [] = List.replicate n [] := by
    apply List.ext_getElem?
    intro i
    rw [List.getElem?_set]
    by_cases hi : 0 = i
    · subst hi; simp [List.getElem?_replicate, hn]
    · rw [if_neg hi]
  have e3 : (reachF 0 [] ⟨List.replicate n [], List.replicate n false, []⟩).stacks = List.replicate n [] := e2
  exact ⟨h'.oS, h'.oR, h'.oD, h'.ul, by rw [e3]; exact h'.sl, h'.rl, h'.dl, fun k v hv => by rw [e3]; exact h'.rows k v hv, by rw [e3]; exact h'.short, h'.bg, h'.ne⟩
theorem RAt.first0 {B gS gR gD : Nat} {w : World} (h : RAt B gS gR gD 0 (List.replicate 0 (.slice none 0 0)) ⟨List.replicate 0 [], List.replicate 0 false, []⟩ (List.replicate 0 false) w) :
    RAt B gS gR gD 0 (List.replicate 0 (.slice none 0 0)) (TY.start 0) (List.replicate 0 false) w := h
namespace TY
/-- the places to which one may come, from one on -/
def mayFr (may : Nat → Nat → Bool) (pc : Nat) : Nat → Nat → List Int
  | _, 0 => []
  | t, k + 1 => if may pc t = true then (t : Int) :: mayFr may pc (t + 1) k else mayFr may pc (t + 1) k
theorem mayFr_all (may : Nat → Nat → Bool) (pc : Nat) : ∀ (k t : Nat), mayFr may pc t k = ((List.range' t k).filter (may pc)).map Int.ofNat
  | 0, t => rfl
  | k + 1, t => by
    unfold mayFr
    rw [List.range'_succ, List.filter_cons, mayFr_all may pc k (t + 1)]
    by_cases h : may pc t = true
    · rw [if_pos h, if_pos h]; rfl
    · rw [if_neg h, if_neg h]
theorem mayN_fr (may : Nat → Nat → Bool) (pc n : Nat) : mayN may pc n = mayFr may pc 0 n := by
  rw [mayFr_all, mayN, List.range_eq_range']
theorem mayFr_yes {may : Nat → Nat → Bool} {pc t n : Nat} (h : t < n) (hm : may pc t = true) : mayFr may pc t (n - t) = (t : Int) :: mayFr may pc (t + 1) (n - (t + 1)) := by
  rw [show n - t = (n - (t + 1)) + 1 by omega]
  exact if_pos hm
theorem mayFr_no {may : Nat → Nat → Bool} {pc t n : Nat} (h : t < n) (hm : may pc t = false) : mayFr may pc t (n - t) = mayFr may pc (t + 1) (n - (t + 1)) := by
  rw [show n - t = (n - (t + 1)) + 1 by omega]
  exact if_neg (by rw [hm]; simp)
theorem atF_range {R D : List Bool} : ∀ (n : Nat) (a : Int), atF R D n a = a ∨ ∃ k, k < n ∧ atF R D n a = (k : Int)
  | 0, a => Or.inl rfl
  | n + 1, a => by
    unfold atF
    rcases atF_range n (if waitsP R D n = true then (n : Int) else a) with h | ⟨k, hk, h⟩
    · rw [h]
      by_cases hw : waitsP R D n = true
      · rw [if_pos hw]; exact Or.inr ⟨n, by omega, rfl⟩
      · rw [if_neg hw]; exact Or.inl rfl
    · exact Or.inr ⟨k, by omega, h⟩
end TY
end Go.Proofs.YtefejcofmopjfaaGreatDoor

/- Layer 22: the answer's typing of a unit (ref20.Entries): the walk, by what Check and Step tell. -/
namespace Go.Proofs.YtefejcofmopjfaaGreatDoor
open Go.RowKit
set_option linter.unusedSimpArgs false
set_option linter.unusedVariables false
namespace TY
theorem rentF_stop {E : Env} {may : Nat → Nat → Bool} {f : Nat} {s : WS} {D : List Bool} (h : atF s.reached D E.n (-1) = -1) : rentF E may f s D = (0, 0) := by
  cases f with
  | zero => rfl
  | succ f => unfold rentF; rw [h]; rfl
theorem rentF_go {E : Env} {may : Nat → Nat → Bool} {f : Nat} {s : WS} {D : List Bool} {pc : Nat} (h : atF s.reached D E.n (-1) = (pc : Int)) : rentF E may (f + 1) s D =
    if ¬ (rvisF E may pc (popF s)).1 = 0 then ((pc : Int), (rvisF E may pc (popF s)).1) else rentF E may f (rvisF E may pc (popF s)).2 (D.set pc true) := by
  show (if atF s.reached D E.n (-1) < 0 then (0, 0) else _) = _
  rw [h, if_neg (by omega), Int.toNat_natCast]
theorem rvisF_is {E : Env} {may : Nat → Nat → Bool} {pc : Nat} {s : WS} : rvisF E may pc s = if ¬ E.se pc (s.stacks.getD pc []) = 0 then (E.se pc (s.stacks.getD pc []), s) else if may pc E.n = true then (11, s) else goF (E.ss pc (s.stacks.getD pc [])) (mayFr may pc 0 E.n) s := by
  unfold rvisF
  rw [mayN_fr]
end TY
set_option maxRecDepth 100000 in
set_option maxHeartbeats 8000000 in
theorem ref20_Entries_of (cv pv bv uv : Value) (p : Pr) (u : Int) (w : World) (hP : PrAt w cv pv bv uv p) (hf : fewP p = true)
    (hCh : ∀ W, Below w.heap.size w W → Calls Tryz.prog 27 #[.agg #[cv, pv, bv, uv], .int .i64 u] W fun e w' => e = .returned (.tuple #[.int .i64 (chkP p u).1, .int .i64 (chkP p u).2]) ∧ Below W.heap.size W w')
    (hSt : ∀ (W : World) (o a b : Int) (v : Value) (st : List Int), Below w.heap.size w W → I64 a → I64 b → RowR 1 intR W v st → st.length ≤ 100 → Calls Tryz.prog 28 #[.agg #[cv, pv, bv, uv], .int .i64 u, .agg #[.int .i64 o, .int .i64 a, .int .i64 b], v] W fun e w' => ∃ r, e = .returned (.tuple #[r, .int .i64 (stepER p u o a b st)]) ∧ RowR 1 intR w' r (stepSR p u o a b st) ∧ Below W.heap.size W w') :
    Calls Tryz.prog 14 #[.agg #[cv, pv, bv, uv], .int .i64 u] w fun e w' => ∃ a b, e = .returned (.tuple #[a, b, .int .i64 (entR p u).1, .int .i64 (entR p u).2]) ∧ Below w.heap.size w w' := by
  have HCh := Lib.hid hCh
  have HSt := Lib.hid hSt
  obtain ⟨W1, hW1⟩ : ∃ W1, W1 = w.alloc (.cells #[cv, pv, bv, uv] 27) := ⟨_, rfl⟩
  have hb1 : Below w.heap.size w W1 := by rw [hW1]; exact (Below.refl _ _).alloc (Nat.le_refl _) _
  have hbx : W1.heap[w.heap.size]? = some (.cells #[cv, pv, bv, uv] 27 (0, 0)) := by rw [hW1]; exact get_last rfl
  have HW1 := Lib.hid hW1
  have Hb1 := Lib.hid hb1
  have Hbx := Lib.hid hbx
  clear hCh hSt
  by_cases hchk : (chkP p u).2 = 0
  case neg =>
    have HE := Lib.hid (show entR p u = ((chkP p u).1, (chkP p u).2) from if_pos hchk)
    have hqq : ((chkP p u).2 != 0) = true := by simpa using hchk
    generalize (chkP p u).1 = c1 at *
    generalize (chkP p u).2 = c2 at *
    clear hP hW1 hb1 hbx hchk HSt
    go_enter Tryz.func14, Tryz.ntmps14
    go_wp2_with fail
    rw [← HW1.out]
    refine (HCh.out _ Hb1.out).mono ?_; rintro e w1 ⟨rfl, hb2⟩
    have HB2 := Lib.hid (Hb1.out.trans (hb2.mono Hb1.out.size))
    clear hb2
    go_wp2_with fail
    go_returns
    exact ⟨_, _, by rw [HE.out], HB2.out⟩
  obtain ⟨hu, hOk⟩ := chk_ok hchk
  have hER : entR p u = TY.rentF (tyR p u (unAt p u).code) (mayE (unAt p u).code) (unAt p u).code.length (TY.start (unAt p u).code.length) (List.replicate (unAt p u).code.length false) := if_neg (fun x => x hchk)
  obtain ⟨i, rfl⟩ := Int.eq_ofNat_of_zero_le hu.1
  obtain ⟨y, hy⟩ := get_some (L := p.units) (n := i) (by omega)
  have huy : unAt p i = y := by unfold unAt; simp [List.getD, hy]
  have hy300 := (fewU_is ((fewP_is hf).2.2.2 y (List.mem_of_getElem? hy))).2.2.2
  obtain ⟨s3, t3, rfl⟩ := row_get hP.us
  obtain ⟨b3, off3, rfl, hbw3, hc3⟩ := unit_at hP.us (k := i) (lt_of_get hy)
  obtain ⟨u1, u3, u4, c0, c1, c2, c3, c4, hU⟩ := hc3 i y hy
  have hcode := hU.cs
  obtain ⟨sc, tc, rfl⟩ := row_get hcode
  rw [huy] at hOk hER
  obtain ⟨i2, hi2, hz2, hsize2, hby2⟩ : ∃ i, Tryz.prog.info? 35 = some i ∧ i.zero = some (.slice none 0 0) ∧ i.size = 1 ∧ i.bytes = 24 := ⟨(Tryz.prog.info? 35).get!, by kernel_rfl, by kernel_rfl, by kernel_rfl, by kernel_rfl⟩
  obtain ⟨i3, hi3, hz3, hsize3, hby3⟩ : ∃ i, Tryz.prog.info? 4 = some i ∧ i.zero = some (.bool false) ∧ i.size = 1 ∧ i.bytes = 1 := ⟨(Tryz.prog.info? 4).get!, by kernel_rfl, by kernel_rfl, by kernel_rfl, by kernel_rfl⟩
  have hmS := fun W => run_make W 54 35 i2 _ Tryz.underlying54 hi2 hz2 .i64 .i64 ((y.code.length : Nat) : Int) ((y.code.length : Nat) : Int) (by omega) (by omega) (by rw [hby2]; omega) (by omega)
  rw [hsize2, Nat.mul_one, Int.toNat_natCast] at hmS
  have hmR := fun W => run_make W 55 4 i3 _ Tryz.underlying55 hi3 hz3 .i64 .i64 ((y.code.length : Nat) : Int) ((y.code.length : Nat) : Int) (by omega) (by omega) (by rw [hby3]; omega) (by omega)
  rw [hsize3, Nat.mul_one, Int.toNat_natCast] at hmR
  obtain ⟨n, hn⟩ : ∃ n, y.code.length = n := ⟨_, rfl⟩
  obtain ⟨L, hL⟩ : ∃ L, y.code = L := ⟨_, rfl⟩
  rw [hL] at hOk hER hcode hn
  have HN := Lib.hid hn
  have HCo := Lib.hid hcode
  have HOk := Lib.hid hOk
  have HP := Lib.hid hP
  have c4 := cellB hb1 c4 hbw3
  have zb3 : b3 < W1.heap.size := Nat.lt_of_lt_of_le hbw3 hb1.size
  have e0 : W1.cell? ⟨w.heap.size, 0, none⟩ = some cv := obj_cell hbx rfl
  have e1 : W1.cell? ⟨w.heap.size, 1, none⟩ = some pv := obj_cell hbx rfl
  have e2 : W1.cell? ⟨w.heap.size, 2, none⟩ = some bv := obj_cell hbx rfl
  have e3 : W1.cell? ⟨w.heap.size, 3, none⟩ = some (.slice (some ⟨b3, off3, none⟩) p.units.length t3) := obj_cell hbx rfl
  have zb : w.heap.size < W1.heap.size := heap_lt hbx
  obtain ⟨MS, hMS⟩ : ∃ Z, madeCells (Value.slice none 0 0).cells y.code.length = Z := ⟨_, rfl⟩
  obtain ⟨MR, hMR⟩ : ∃ Z, madeCells (Value.bool false).cells y.code.length = Z := ⟨_, rfl⟩
  have HMS := Lib.hid (And.intro hMS hMR)
  rw [hMS] at hmS
  rw [hMR] at hmR
  have q1 : ((i : Int) < (p.units.length : Int)) = True := eq_true hu.2
  have q1' : (i < p.units.length) = True := eq_true (by omega)
  rw [hL, hn] at hmS hmR c4 hy300 HMS
  rw [hn] at HCo hER
  obtain ⟨n3, hn3⟩ : ∃ n, p.units.length = n := ⟨_, rfl⟩
  rw [hn3] at e3 q1 q1' HCh HSt HW1 Hbx ⊢
  rw [hchk] at HCh
  obtain ⟨r1, r2, hr⟩ : ∃ r1 r2, entR p i = (r1, r2) := ⟨_, _, rfl⟩
  rw [hr] at hER ⊢
  have hSE := Lib.hid (show ∀ pc x st, L[pc]? = some x → (tyR p i L).se pc st = stepER p i x.1 x.2.1 x.2.2 st ∧ (tyR p i L).ss pc st = stepSR p i x.1 x.2.1 x.2.2 st ∧ ∀ q, mayE L pc q = mayP x pc q from fun pc x st hx => by
    have hg : L.getD pc (0, 0, 0) = x := by rw [List.getD_eq_getElem?_getD, hx]; rfl
    refine ⟨?_, ?_, fun q => ?_⟩
    · show stepER p i (L.getD pc (0, 0, 0)).1 _ _ st = _; rw [hg]
    · show stepSR p i (L.getD pc (0, 0, 0)).1 _ _ st = _; rw [hg]
    · show mayP (L.getD pc (0, 0, 0)) pc q = _; rw [hg])
  have HEn := Lib.hid (show (tyR p i L).n = n from hn)
  generalize tyR p i L = E at *
  generalize mayE L = may at *
  have HER := Lib.hid hER
  clear hP hW1 hb1 hbx hchk hc3 hU hcode hOk hu hy huy c0 c1 c2 c3 hMS hMR hL hn hn3 hER hr
  generalize (chkP p i).1 = z1 at *
  go_enter Tryz.func14, Tryz.ntmps14
  go_wp2_with fail
  rw [← HW1.out]
  refine (HCh.out _ Hb1.out).mono ?_; rintro e w1 ⟨rfl, hb2⟩
  have e0 := cellB hb2 e0 zb
  have e1 := cellB hb2 e1 zb
  have e2 := cellB hb2 e2 zb
  have e3 := cellB hb2 e3 zb
  have c4 := cellB hb2 c4 zb3
  have Hw1 := Lib.hid (Hb1.out.trans (hb2.mono Hb1.out.size))
  have zb1 : w.heap.size < w1.heap.size := Nat.lt_of_lt_of_le zb hb2.size
  have HE := Lib.hid (And.intro e0 (And.intro e1 (And.intro e2 e3)))
  clear hb2 e0 e1 e2
  go_upto_region 8 with fail
  generalize hW5 : ((w1.alloc (.cells MS 35)).alloc (.cells MR 4)).alloc (.cells MR 4) = W5
  have hs0 : Below w1.heap.size w1 W5 := by rw [← hW5]; exact (((Below.refl _ _).alloc (Nat.le_refl _) _).alloc (by simp) _).alloc (by simp; omega) _
  have HRA := Lib.hid (show RAt w1.heap.size w1.heap.size (w1.heap.size + 1) (w1.heap.size + 1 + 1) n (List.replicate n (.slice none 0 0)) ⟨List.replicate n [], List.replicate n false, []⟩ (List.replicate n false) W5 from by
    rw [← HMS.out.1, ← HMS.out.2] at hW5
    refine RAt.start ?_ ?_ ?_ ⟨Nat.le_refl _, by omega, by omega⟩ ⟨by omega, by omega, by omega⟩
    · rw [← hW5]; exact (get_past (by simp; omega)).trans ((get_past (by simp)).trans (get_last rfl))
    · rw [← hW5]; exact (get_past (by simp)).trans (get_last (by simp))
    · rw [← hW5]; exact get_last (by simp))
  have HB5 := Lib.hid hs0
  clear hs0 hW5 hmS hmR hi2 hz2 hsize2 hby2 hi3 hz3 hsize3 hby3
  obtain ⟨gS, hgS⟩ : ∃ g, w1.heap.size = g := ⟨_, rfl⟩
  obtain ⟨gR, hgR⟩ : ∃ g, w1.heap.size + 1 = g := ⟨_, rfl⟩
  obtain ⟨gD, hgD⟩ : ∃ g, gR + 1 = g := ⟨_, rfl⟩
  have HGB := Lib.hid (show w1.heap.size ≤ gS ∧ w1.heap.size ≤ gR ∧ w1.heap.size ≤ gD by omega)
  have HRA := Lib.hid (show RAt w1.heap.size gS gR gD n (List.replicate n (.slice none 0 0)) ⟨List.replicate n [], List.replicate n false, []⟩ (List.replicate n false) W5 by have := HRA.out; rw [hgR, hgD] at this; rw [← hgS]; exact this)
  rw [hgR, hgD]
  try rw [show (Value.slice (some ⟨w1.heap.size, 0, none⟩) n n) = Value.slice (some ⟨gS, 0, none⟩) n n by rw [hgS]]
  clear hgS hgR hgD
  by_cases hn0 : n = 0
  · subst hn0
    have HZ := Lib.hid (show (r1, r2) = (0, 0) from HER.out)
    go_wp2_with fail
    go_loopw [14] (fun jj wr => jj = .int .i64 0 ∧ wr = W5) (fun _ _ => 0)
    case atStart => exact ⟨rfl, rfl⟩
    case round =>
      obtain ⟨rfl, rfl⟩ := hrel
      go_wp2_with fail
      go_returns
      exact ⟨_, _, by rw [(Prod.mk.inj HZ.out).1, (Prod.mk.inj HZ.out).2], Hw1.out.trans (HB5.out.mono Hw1.out.size)⟩
  have q8 : (0 < (n : Int)) = True := eq_true (by omega)
  have q8' : (0 < n) = True := eq_true (by omega)
  have cz : W5.cell? ⟨gR, 0, none⟩ = some (.bool false) := by
    have e : (List.replicate n false).getD 0 false = false := by
      simp [List.getD, List.getElem?_replicate]
      split <;> rfl
    have h0 := HRA.out.atR (k := 0) (by omega)
    rw [h0]
    show some (Value.bool ((List.replicate n false).getD 0 false)) = _
    rw [e]
  have fz := obj_frozen HRA.out.oR 0
  have HR6 := Lib.hid (RAt.first (by omega) HRA.out)
  have HB6 := Lib.hid (Below.setCell HB5.out (p := ⟨gR, 0, none⟩) HGB.out.2.1 (.bool true))
  go_wp2_with fail
  clear cz fz
  generalize hW6 : W5.setCell ⟨gR, 0, none⟩ (.bool true) = W6 at *
  clear hW6 HRA HB5 q8 q8' hn0
  have mixed : Tryz.prog.follows .mixedOrders = true := by kernel_rfl
  go_loopw [14, 15, 16] (fun jj a15 a16 wr => ∃ (t : Nat) (U : List Value) (s : WS) (D : List Bool), t ≤ n ∧ jj = .int .i64 t ∧ Hid (RAt w1.heap.size gS gR gD n U s D wr) ∧ Hid (Below w1.heap.size w1 wr) ∧ Hid ((r1, r2) = TY.rentF E may (n - t) s D)) (fun jj _ _ _ => n - (intOf jj).toNat)
  case atStart => exact ⟨0, _, _, _, Nat.zero_le _, rfl, HR6, HB6, HER⟩
  case round =>
    obtain ⟨t, U, s, D, ht, rfl, HR, HB, HF⟩ := hrel
    by_cases hlt : t < n
    · have r1' : ((t : Int) < (n : Int)) = True := eq_true (by omega)
      have hwt : IntKind.i64.wrap ((t : Int) + 1) = (t : Int) + 1 := IntWalk.i64_in _ (by omega)
      have hwt' : wrap64 ((t : Int) + 1) = (t : Int) + 1 := by unfold wrap64; omega
      have hwn : IntKind.i64.wrap ((n : Int) - 1) = (n : Int) - 1 := IntWalk.i64_in _ (by omega)
      have hwn' : wrap64 ((n : Int) - 1) = (n : Int) - 1 := by unfold wrap64; omega
      obtain ⟨A, hA⟩ : ∃ A, TY.atF s.reached D n (-1) = A := ⟨_, rfl⟩
      have HA := Lib.hid hA
      clear hA
      go_wp2_with fail
      go_loopw [15, 16] (fun aa ii wr' => ∃ (i : Nat) (a : Int), i ≤ n ∧ aa = .int .i64 a ∧ ii = .int .i64 ((i : Int) - 1) ∧ Hid (TY.atF s.reached D i a = A) ∧ wr' = wr) (fun _ ii _ => (intOf ii + 1).toNat)
      case atStart => exact ⟨n, -1, Nat.le_refl _, rfl, rfl, HA, rfl⟩
      case round =>
        obtain ⟨i, a, hi, rfl, rfl, Hat, rfl⟩ := hrel
        cases i with
        | succ j =>
          have ej : (((j + 1 : Nat) : Int) - 1) = (j : Int) := by omega
          rw [ej]
          have r2' : ((0 : Int) ≤ (j : Int)) = True := eq_true (by omega)
          have r3' : ((j : Int) < (n : Int)) = True := eq_true (by omega)
          have r3'' : (j < n) = True := eq_true (by omega)
          have hwj : IntKind.i64.wrap ((j : Int) - 1) = (j : Int) - 1 := IntWalk.i64_in _ (by omega)
          have hwj' : wrap64 ((j : Int) - 1) = (j : Int) - 1 := by unfold wrap64; omega
          have cR := HR.out.atR (k := j) (by omega)
          have cD := HR.out.atD (k := j) (by omega)
          have HU := Lib.hid (show TY.atF s.reached D j (if (s.reached.getD j false && !D.getD j false) = true then (j : Int) else a) = A from Hat.out)
          have hjn : j ≤ n := by omega
          clear ej Hat hi
          generalize s.reached.getD j false = x1 at *
          generalize D.getD j false = x2 at *
          cases x1
          · have HU2 := Lib.hid (show TY.atF s.reached D j a = A from HU.out)
            clear HU
            go_wp2_with fail
            go_roundw
            case rel => exact ⟨j, a, hjn, rfl, rfl, HU2, by first | trivial | rfl⟩
            case measure => first | (simp [intOf]; done) | (simp [intOf]; omega)
          · cases x2
            · have HU2 := Lib.hid (show TY.atF s.reached D j j = A from HU.out)
              clear HU
              go_wp2_with fail
              go_roundw
              case rel => exact ⟨j, j, hjn, rfl, rfl, HU2, by first | trivial | rfl⟩
              case measure => first | (simp [intOf]; done) | (simp [intOf]; omega)
            · have HU2 := Lib.hid (show TY.atF s.reached D j a = A from HU.out)
              clear HU
              go_wp2_with fail
              go_roundw
              case rel => exact ⟨j, a, hjn, rfl, rfl, HU2, by first | trivial | rfl⟩
              case measure => first | (simp [intOf]; done) | (simp [intOf]; omega)
        | zero =>
          rw [show (((0 : Nat) : Int) - 1) = -1 from rfl]
          have hAa : a = A := Hat.out
          rcases TY.atF_range (R := s.reached) (D := D) n (-1) with hno | ⟨pc, hpc, hyes⟩
          · obtain rfl : a = -1 := by rw [hAa, ← HA.out]; exact hno
            have HZ := Lib.hid (show (r1, r2) = (0, 0) by rw [HF.out]; exact TY.rentF_stop (by rw [HEn.out]; exact hno))
            clear hno hAa
            go_wp2_with fail
            go_returns
            exact ⟨_, _, by rw [(Prod.mk.inj HZ.out).1, (Prod.mk.inj HZ.out).2], Hw1.out.trans (HB.out.mono Hw1.out.size)⟩
          · obtain rfl : a = (pc : Int) := by rw [hAa, ← HA.out]; exact hyes
            have hpcL : pc < L.length := by rw [HN.out]; exact hpc
            obtain ⟨x, hx⟩ := get_some hpcL
            have HV := Lib.hid (show (r1, r2) = (if ¬ (TY.rvisF E may pc (TY.popF s)).1 = 0 then ((pc : Int), (TY.rvisF E may pc (TY.popF s)).1) else TY.rentF E may (n - (t + 1)) (TY.rvisF E may pc (TY.popF s)).2 (D.set pc true)) by
              rw [HF.out, show n - t = (n - (t + 1)) + 1 by omega]; exact TY.rentF_go (by rw [HEn.out]; exact hyes))
            obtain ⟨st, hst⟩ : ∃ st, s.stacks.getD pc [] = st := ⟨_, rfl⟩
            obtain ⟨E1, hE1⟩ : ∃ e, stepER p i x.1 x.2.1 x.2.2 st = e := ⟨_, rfl⟩
            obtain ⟨ST, hST⟩ : ∃ e, stepSR p i x.1 x.2.1 x.2.2 st = e := ⟨_, rfl⟩
            obtain ⟨s1, hs1⟩ : ∃ s1, TY.popF s = s1 := ⟨_, rfl⟩
            obtain ⟨x1, x2, x3⟩ := hSE.out pc x st hx
            have HVis := Lib.hid (show TY.rvisF E may pc s1 = if ¬ E1 = 0 then (E1, s1) else if mayP x pc n = true then (11, s1) else TY.goF ST (TY.mayFr may pc 0 n) s1 by
              rw [TY.rvisF_is, HEn.out]
              rw [show s1.stacks.getD pc [] = st by rw [← hs1]; exact hst]
              rw [x1, x2, x3, hE1, hST])
            have HMy := Lib.hid x3
            have HS32 := Lib.hid (show ST.length ≤ 32 by rw [← hST]; exact stepSR_len p i _ _ _ st)
            rw [hs1] at HV
            obtain ⟨D2, hD2⟩ : ∃ D2, D.set pc true = D2 := ⟨_, rfl⟩
            have fD := obj_frozen HR.out.oD pc
            have cD := HR.out.atD hpc
            have HR2 := Lib.hid (show RAt w1.heap.size gS gR gD n U s1 D2 (wr.setCell ⟨gD, pc, none⟩ (.bool true)) by rw [← hs1, ← hD2]; exact (HR.out.done pc).pop)
            have HB2 := Lib.hid (Below.setCell HB.out (p := ⟨gD, pc, none⟩) HGB.out.2.2 (.bool true))
            rw [hD2] at HV
            have hst1 : s1.stacks.getD pc [] = st := by rw [← hs1]; exact hst
            have r5 : ((pc : Int) < (n : Int)) = True := eq_true (by omega)
            have r5' : (pc < n) = True := eq_true hpc
            have r6 : ((pc : Int) < 0) = False := eq_false (by omega)
            clear hst hs1 hD2 x1 x2 x3 hyes hAa HF HA HR HB
            go_upto_region 21 with fail
            generalize hW : wr.setCell ⟨gD, pc, none⟩ (.bool true) = W at *
            clear hW cD fD
            obtain ⟨bc, oc, rfl, hbc, hcc⟩ := bh_at HCo.out (k := pc) hpcL
            obtain ⟨k0', k1', k2', i0, i1', i2'⟩ := hcc pc x hx
            have zw : Below w.heap.size w W := Hw1.out.trans (HB2.out.mono Hw1.out.size)
            have k0 := (zw.cell (p := ⟨bc, oc + pc * 3, none⟩) hbc).trans k0'
            have k1 := (zw.cell (p := ⟨bc, oc + pc * 3 + 1, none⟩) hbc).trans k1'
            have k2 := (zw.cell (p := ⟨bc, oc + pc * 3 + 2, none⟩) hbc).trans k2'
            have zcW : bc < W.heap.size := Nat.lt_of_lt_of_le hbc zw.size
            have e0 := (HB2.out.cell (p := ⟨w.heap.size, 0, none⟩) zb1).trans HE.out.1
            have e1 := (HB2.out.cell (p := ⟨w.heap.size, 1, none⟩) zb1).trans HE.out.2.1
            have e2 := (HB2.out.cell (p := ⟨w.heap.size, 2, none⟩) zb1).trans HE.out.2.2.1
            have e3' := (HB2.out.cell (p := ⟨w.heap.size, 3, none⟩) zb1).trans HE.out.2.2.2
            have zbW : w.heap.size < W.heap.size := Nat.lt_of_lt_of_le zb1 HB2.out.size
            obtain ⟨va, vc, s0, hrow, hs32⟩ := HR2.out.atS (k := pc) hpc
            rw [hst1] at s0 hrow hs32
            have zS : gS < W.heap.size := heap_lt HR2.out.oS
            have HStp := Lib.hid (fun W' (hb : Below W.heap.size W W') => HSt.out W' x.1 x.2.1 x.2.2 (.slice va st.length vc) st (zw.trans (hb.mono zw.size)) i1' i2' (hrow.below intR_stable hb) (by omega))
            have HMay2 := Lib.hid (fun W' (q : Nat) (hb : Below w.heap.size w W') (hq : q ≤ n) => ref20_May (.slice (some ⟨bc, oc, none⟩) n tc) L pc q x W' (HCo.out.below insR_stable hb) hx (by omega) (by omega) (HOk.out pc x hx).1)
            rw [hE1, hST] at HStp
            have Hzw := Lib.hid zw
            obtain ⟨xo, xa, xb⟩ := x
            simp only at k0 k1 k2 HStp
            clear hE1 hST hcc k0' k1' k2' i0 i1' i2' hrow hs32 hst1 zw hx hbc
            refine wp_region_held_drew (S := (fun w' => Below W.heap.size W w')) (by kernel_rfl) ?_ (fun hHeld => ?_)
            · (try dsimp only); first | assumption | exact Below.alloc hHeld hHeld.size _ | exact (Below.refl _ _).drew | exact Below.drew (Below.refl _ _) | exact Below_drewN _ _ _ | exact Below.refl _ _ | (trace_state; fail)
            refine wpAnyH_take (i := 0) (oi := { dst := some 81, op := Op.load 27 (Operand.tmp 2), type := 27, pos := _, after := #[], guard := none }) (v := ?_) rfl (by kernel_rfl) (by kernel_rfl) (by kernel_rfl) (fun _ _ _ h => h) (Or.inl ⟨by rfl, ?_⟩) (by assumption) ?_
            rotate_left
            · intro wt hSw; (try dsimp only at hSw); have e0 := cellB hSw e0 zbW; have e1 := cellB hSw e1 zbW; have e2 := cellB hSw e2 zbW; have e3' := cellB hSw e3' zbW; have k0 := cellB hSw k0 zcW; have k1 := cellB hSw k1 zcW; have k2 := cellB hSw k2 zcW; have s0 := cellB hSw s0 zS; first | (go_simp; done) | (go_simp; with_reducible rfl) | (trace_state; fail)
            try simp only [Act.put, List.setIfInBounds_toArray, List.set_cons_zero, List.set_cons_succ]
            refine wpAnyH_take (i := 1) (oi := { dst := some 82, op := Op.move (Operand.tmp 1), type := 3, pos := _, after := #[], guard := none }) (v := ?_) rfl (by kernel_rfl) (by kernel_rfl) (by kernel_rfl) (fun _ _ _ h => h) (Or.inl ⟨by rfl, ?_⟩) (by assumption) ?_
            rotate_left
            · intro wt hSw; (try dsimp only at hSw); have e0 := cellB hSw e0 zbW; have e1 := cellB hSw e1 zbW; have e2 := cellB hSw e2 zbW; have e3' := cellB hSw e3' zbW; have k0 := cellB hSw k0 zcW; have k1 := cellB hSw k1 zcW; have k2 := cellB hSw k2 zcW; have s0 := cellB hSw s0 zS; first | (go_simp; done) | (go_simp; with_reducible rfl) | (trace_state; fail)
            try simp only [Act.put, List.setIfInBounds_toArray, List.set_cons_zero, List.set_cons_succ]
            refine wpAnyH_take (i := 2) (oi := { dst := some 83, op := Op.move (Operand.tmp 10), type := 36, pos := _, after := #[], guard := none }) (v := ?_) rfl (by kernel_rfl) (by kernel_rfl) (by kernel_rfl) (fun _ _ _ h => h) (Or.inl ⟨by rfl, ?_⟩) (by assumption) ?_
            rotate_left
            · intro wt hSw; (try dsimp only at hSw); have e0 := cellB hSw e0 zbW; have e1 := cellB hSw e1 zbW; have e2 := cellB hSw e2 zbW; have e3' := cellB hSw e3' zbW; have k0 := cellB hSw k0 zcW; have k1 := cellB hSw k1 zcW; have k2 := cellB hSw k2 zcW; have s0 := cellB hSw s0 zS; first | (go_simp; done) | (go_simp; with_reducible rfl) | (trace_state; fail)
            try simp only [Act.put, List.setIfInBounds_toArray, List.set_cons_zero, List.set_cons_succ]
            refine wpAnyH_take (i := 3) (oi := { dst := some 84, op := Op.move (Operand.tmp 15), type := 3, pos := _, after := #[], guard := none }) (v := ?_) rfl (by kernel_rfl) (by kernel_rfl) (by kernel_rfl) (fun _ _ _ h => h) (Or.inl ⟨by rfl, ?_⟩) (by assumption) ?_
            rotate_left
            · intro wt hSw; (try dsimp only at hSw); have e0 := cellB hSw e0 zbW; have e1 := cellB hSw e1 zbW; have e2 := cellB hSw e2 zbW; have e3' := cellB hSw e3' zbW; have k0 := cellB hSw k0 zcW; have k1 := cellB hSw k1 zcW; have k2 := cellB hSw k2 zcW; have s0 := cellB hSw s0 zS; first | (go_simp; done) | (go_simp; with_reducible rfl) | (trace_state; fail)
            try simp only [Act.put, List.setIfInBounds_toArray, List.set_cons_zero, List.set_cons_succ]
            refine wpAnyH_take (i := 4) (oi := { dst := some 85, op := Op.indexAddr 36 (Operand.tmp 83) (Operand.tmp 84), type := 0, pos := _, after := #[{ on := 2, ground := Ground.data }, { on := 3, ground := Ground.data }], guard := none }) (v := ?_) rfl (by kernel_rfl) (by kernel_rfl) (by kernel_rfl) (fun _ _ _ h => h) (Or.inl ⟨by rfl, ?_⟩) (by assumption) ?_
            rotate_left
            · intro wt hSw; (try dsimp only at hSw); have e0 := cellB hSw e0 zbW; have e1 := cellB hSw e1 zbW; have e2 := cellB hSw e2 zbW; have e3' := cellB hSw e3' zbW; have k0 := cellB hSw k0 zcW; have k1 := cellB hSw k1 zcW; have k2 := cellB hSw k2 zcW; have s0 := cellB hSw s0 zS; first | (go_simp; done) | (go_simp; with_reducible rfl) | (trace_state; fail)
            try simp only [Act.put, List.setIfInBounds_toArray, List.set_cons_zero, List.set_cons_succ]
            refine wpAnyH_take (i := 5) (oi := { dst := some 86, op := Op.load 40 (Operand.tmp 85), type := 40, pos := _, after := #[{ on := 4, ground := Ground.data }], guard := none }) (v := ?_) rfl (by kernel_rfl) (by kernel_rfl) (by kernel_rfl) (fun _ _ _ h => h) (Or.inl ⟨by rfl, ?_⟩) (by assumption) ?_
            rotate_left
            · intro wt hSw; (try dsimp only at hSw); have e0 := cellB hSw e0 zbW; have e1 := cellB hSw e1 zbW; have e2 := cellB hSw e2 zbW; have e3' := cellB hSw e3' zbW; have k0 := cellB hSw k0 zcW; have k1 := cellB hSw k1 zcW; have k2 := cellB hSw k2 zcW; have s0 := cellB hSw s0 zS; first | (go_simp; done) | (go_simp; with_reducible rfl) | (trace_state; fail)
            try simp only [Act.put, List.setIfInBounds_toArray, List.set_cons_zero, List.set_cons_succ]
            refine wpAnyH_take (i := 6) (oi := { dst := some 87, op := Op.move (Operand.tmp 11), type := 54, pos := _, after := #[], guard := none }) (v := ?_) rfl (by kernel_rfl) (by kernel_rfl) (by kernel_rfl) (fun _ _ _ h => h) (Or.inl ⟨by rfl, ?_⟩) (by assumption) ?_
            rotate_left
            · intro wt hSw; (try dsimp only at hSw); have e0 := cellB hSw e0 zbW; have e1 := cellB hSw e1 zbW; have e2 := cellB hSw e2 zbW; have e3' := cellB hSw e3' zbW; have k0 := cellB hSw k0 zcW; have k1 := cellB hSw k1 zcW; have k2 := cellB hSw k2 zcW; have s0 := cellB hSw s0 zS; first | (go_simp; done) | (go_simp; with_reducible rfl) | (trace_state; fail)
            try simp only [Act.put, List.setIfInBounds_toArray, List.set_cons_zero, List.set_cons_succ]
            refine wpAnyH_take (i := 7) (oi := { dst := some 88, op := Op.move (Operand.tmp 15), type := 3, pos := _, after := #[], guard := none }) (v := ?_) rfl (by kernel_rfl) (by kernel_rfl) (by kernel_rfl) (fun _ _ _ h => h) (Or.inl ⟨by rfl, ?_⟩) (by assumption) ?_
            rotate_left
            · intro wt hSw; (try dsimp only at hSw); have e0 := cellB hSw e0 zbW; have e1 := cellB hSw e1 zbW; have e2 := cellB hSw e2 zbW; have e3' := cellB hSw e3' zbW; have k0 := cellB hSw k0 zcW; have k1 := cellB hSw k1 zcW; have k2 := cellB hSw k2 zcW; have s0 := cellB hSw s0 zS; first | (go_simp; done) | (go_simp; with_reducible rfl) | (trace_state; fail)
            try simp only [Act.put, List.setIfInBounds_toArray, List.set_cons_zero, List.set_cons_succ]
            refine wpAnyH_take (i := 8) (oi := { dst := some 89, op := Op.indexAddr 54 (Operand.tmp 87) (Operand.tmp 88), type := 0, pos := _, after := #[{ on := 6, ground := Ground.data }, { on := 7, ground := Ground.data }], guard := none }) (v := ?_) rfl (by kernel_rfl) (by kernel_rfl) (by kernel_rfl) (fun _ _ _ h => h) (Or.inl ⟨by rfl, ?_⟩) (by assumption) ?_
            rotate_left
            · intro wt hSw; (try dsimp only at hSw); have e0 := cellB hSw e0 zbW; have e1 := cellB hSw e1 zbW; have e2 := cellB hSw e2 zbW; have e3' := cellB hSw e3' zbW; have k0 := cellB hSw k0 zcW; have k1 := cellB hSw k1 zcW; have k2 := cellB hSw k2 zcW; have s0 := cellB hSw s0 zS; first | (go_simp; done) | (go_simp; with_reducible rfl) | (trace_state; fail)
            try simp only [Act.put, List.setIfInBounds_toArray, List.set_cons_zero, List.set_cons_succ]
            refine wpAnyH_take (i := 9) (oi := { dst := some 90, op := Op.load 35 (Operand.tmp 89), type := 35, pos := _, after := #[{ on := 8, ground := Ground.data }], guard := none }) (v := ?_) rfl (by kernel_rfl) (by kernel_rfl) (by kernel_rfl) (fun _ _ _ h => h) (Or.inl ⟨by rfl, ?_⟩) (by assumption) ?_
            rotate_left
            · intro wt hSw; (try dsimp only at hSw); have e0 := cellB hSw e0 zbW; have e1 := cellB hSw e1 zbW; have e2 := cellB hSw e2 zbW; have e3' := cellB hSw e3' zbW; have k0 := cellB hSw k0 zcW; have k1 := cellB hSw k1 zcW; have k2 := cellB hSw k2 zcW; have s0 := cellB hSw s0 zS; first | (go_simp; done) | (go_simp; with_reducible rfl) | (trace_state; fail)
            try simp only [Act.put, List.setIfInBounds_toArray, List.set_cons_zero, List.set_cons_succ]
            refine wpAnyH_ready (rs := [10]) (by kernel_rfl) (by simp) ?_
            refine AllReadyH.cons (o := { dst := some 91, op := Op.call { callee := Callee.value (Operand.func 28), args := #[Operand.tmp 81, Operand.tmp 82, Operand.tmp 86, Operand.tmp 90], argTypes := #[27, 3, 40, 35] }, type := 78, pos := _, after := #[{ on := 0, ground := Ground.data }, { on := 1, ground := Ground.data }, { on := 5, ground := Ground.data }, { on := 9, ground := Ground.data }], guard := none }) rfl (fun K hK => ?_) AllReadyH.nil
            go_simp
            refine (HStp.out _ hHeld).mono ?_; rintro e v1 ⟨r, rfl, hr, hb1⟩; have hHeld := hHeld.trans (hb1.mono hHeld.size); have Hr := Lib.hid hr; have HHv := Lib.hid hHeld; clear hb1 hr
            go_wp2_with fail
            refine hK.out _ _ ?_ (fun hHeld => ?_)
            · (try dsimp only); first | assumption | exact Below.alloc hHeld hHeld.size _ | exact (Below.refl _ _).drew | exact Below.drew (Below.refl _ _) | exact Below_drewN _ _ _ | exact Below.refl _ _ | (trace_state; fail)
            clear hK K
            try simp only [Act.put, List.setIfInBounds_toArray, List.set_cons_zero, List.set_cons_succ]
            refine wpAnyH_take (i := 11) (oi := { dst := some 80, op := Op.move (Operand.tmp 91), type := 78, pos := _, after := #[{ on := 10, ground := Ground.data }], guard := none }) (v := ?_) rfl (by kernel_rfl) (by kernel_rfl) (by kernel_rfl) (fun _ _ _ h => h) (Or.inl ⟨by rfl, ?_⟩) (by assumption) ?_
            rotate_left
            · intro wt hSw; (try dsimp only at hSw); have e0 := cellB hSw e0 zbW; have e1 := cellB hSw e1 zbW; have e2 := cellB hSw e2 zbW; have e3' := cellB hSw e3' zbW; have k0 := cellB hSw k0 zcW; have k1 := cellB hSw k1 zcW; have k2 := cellB hSw k2 zcW; have s0 := cellB hSw s0 zS; first | (go_simp; done) | (go_simp; with_reducible rfl) | (trace_state; fail)
            try simp only [Act.put, List.setIfInBounds_toArray, List.set_cons_zero, List.set_cons_succ]
            refine wpAnyH_take (i := 12) (oi := { dst := some 92, op := Op.extract (Operand.tmp 80) 0, type := 35, pos := _, after := #[{ on := 11, ground := Ground.data }], guard := none }) (v := ?_) rfl (by kernel_rfl) (by kernel_rfl) (by kernel_rfl) (fun _ _ _ h => h) (Or.inl ⟨by rfl, ?_⟩) (by assumption) ?_
            rotate_left
            · intro wt hSw; (try dsimp only at hSw); have e0 := cellB hSw e0 zbW; have e1 := cellB hSw e1 zbW; have e2 := cellB hSw e2 zbW; have e3' := cellB hSw e3' zbW; have k0 := cellB hSw k0 zcW; have k1 := cellB hSw k1 zcW; have k2 := cellB hSw k2 zcW; have s0 := cellB hSw s0 zS; first | (go_simp; done) | (go_simp; with_reducible rfl) | (trace_state; fail)
            try simp only [Act.put, List.setIfInBounds_toArray, List.set_cons_zero, List.set_cons_succ]
            refine wpAnyH_take (i := 13) (oi := { dst := some 93, op := Op.extract (Operand.tmp 80) 1, type := 30, pos := _, after := #[{ on := 11, ground := Ground.data }, { on := 14, ground := Ground.gcOnly Departure.lateStores }], guard := none }) (v := ?_) rfl (by kernel_rfl) (by kernel_rfl) (by kernel_rfl) (fun _ _ _ h => h) (Or.inl ⟨by rfl, ?_⟩) (by assumption) ?_
            rotate_left
            · intro wt hSw; (try dsimp only at hSw); have e0 := cellB hSw e0 zbW; have e1 := cellB hSw e1 zbW; have e2 := cellB hSw e2 zbW; have e3' := cellB hSw e3' zbW; have k0 := cellB hSw k0 zcW; have k1 := cellB hSw k1 zcW; have k2 := cellB hSw k2 zcW; have s0 := cellB hSw s0 zS; first | (go_simp; done) | (go_simp; with_reducible rfl) | (trace_state; fail)
            try simp only [Act.put, List.setIfInBounds_toArray, List.set_cons_zero, List.set_cons_succ]
            refine wpAnyH_take (i := 14) (oi := { dst := some 17, op := Op.assign (Operand.tmp 92), type := 35, pos := _, after := #[{ on := 12, ground := Ground.data }, { on := 10, ground := Ground.chain }, { on := 0, ground := Ground.phase }, { on := 1, ground := Ground.phase }, { on := 2, ground := Ground.phase }, { on := 3, ground := Ground.phase }, { on := 4, ground := Ground.phase }, { on := 5, ground := Ground.phase }, { on := 6, ground := Ground.phase }, { on := 7, ground := Ground.phase }, { on := 8, ground := Ground.phase }, { on := 9, ground := Ground.phase }, { on := 10, ground := Ground.phase }, { on := 11, ground := Ground.phase }, { on := 12, ground := Ground.phase }, { on := 13, ground := Ground.textOnly Departure.lateStores }], guard := none }) (v := ?_) rfl (by kernel_rfl) (by kernel_rfl) (by kernel_rfl) (fun _ _ _ h => h) (Or.inl ⟨by rfl, ?_⟩) (by assumption) ?_
            rotate_left
            · intro wt hSw; (try dsimp only at hSw); have e0 := cellB hSw e0 zbW; have e1 := cellB hSw e1 zbW; have e2 := cellB hSw e2 zbW; have e3' := cellB hSw e3' zbW; have k0 := cellB hSw k0 zcW; have k1 := cellB hSw k1 zcW; have k2 := cellB hSw k2 zcW; have s0 := cellB hSw s0 zS; first | (go_simp; done) | (go_simp; with_reducible rfl) | (trace_state; fail)
            try simp only [Act.put, List.setIfInBounds_toArray, List.set_cons_zero, List.set_cons_succ]
            refine wpAnyH_take (i := 15) (oi := { dst := some 18, op := Op.assign (Operand.tmp 93), type := 30, pos := _, after := #[{ on := 13, ground := Ground.data }, { on := 14, ground := Ground.chain }, { on := 0, ground := Ground.phase }, { on := 1, ground := Ground.phase }, { on := 2, ground := Ground.phase }, { on := 3, ground := Ground.phase }, { on := 4, ground := Ground.phase }, { on := 5, ground := Ground.phase }, { on := 6, ground := Ground.phase }, { on := 7, ground := Ground.phase }, { on := 8, ground := Ground.phase }, { on := 9, ground := Ground.phase }, { on := 10, ground := Ground.phase }, { on := 11, ground := Ground.phase }, { on := 12, ground := Ground.phase }, { on := 13, ground := Ground.phase }, { on := 14, ground := Ground.phase }], guard := none }) (v := ?_) rfl (by kernel_rfl) (by kernel_rfl) (by kernel_rfl) (fun _ _ _ h => h) (Or.inl ⟨by rfl, ?_⟩) (by assumption) ?_
            rotate_left
            · intro wt hSw; (try dsimp only at hSw); have e0 := cellB hSw e0 zbW; have e1 := cellB hSw e1 zbW; have e2 := cellB hSw e2 zbW; have e3' := cellB hSw e3' zbW; have k0 := cellB hSw k0 zcW; have k1 := cellB hSw k1 zcW; have k2 := cellB hSw k2 zcW; have s0 := cellB hSw s0 zS; first | (go_simp; done) | (go_simp; with_reducible rfl) | (trace_state; fail)
            try simp only [Act.put, List.setIfInBounds_toArray, List.set_cons_zero, List.set_cons_succ]
            refine wpAnyH_done (by kernel_rfl) ?_ _
            obtain ⟨nst, hnst⟩ : ∃ m, ST.length = m := ⟨_, rfl⟩
            have HNst := Lib.hid hnst
            obtain ⟨ra, rc, rfl⟩ := row_get Hr.out
            rw [hnst]
            have Hr2 := Lib.hid (show RowR 1 intR v1 (.slice ra nst rc) ST by have := Hr.out; rw [hnst] at this; exact this)
            have HRv := Lib.hid (HR2.out.below HHv.out)
            have HBv := Lib.hid (HB2.out.trans (HHv.out.mono HB2.out.size))
            have HWv := Lib.hid (Hw1.out.trans (HBv.out.mono Hw1.out.size))
            clear hnst Hr e0 e1 e2 e3' k0 k1 k2 s0 HStp HR2 HB2
            by_cases hE : E1 = 0
            case neg =>
              have q2 : (E1 != 0) = true := by simpa using hE
              have HZ := Lib.hid (show (r1, r2) = ((pc : Int), E1) by rw [HV.out, HVis.out, if_pos hE]; exact if_pos hE)
              clear hE
              go_wp2_with fail
              go_returns
              exact ⟨_, _, by rw [(Prod.mk.inj HZ.out).1, (Prod.mk.inj HZ.out).2], HWv.out⟩
            subst hE
            have HVis2 := Lib.hid (show TY.rvisF E may pc s1 = if mayP (xo, xa, xb) pc n = true then (11, s1) else TY.goF ST (TY.mayFr may pc 0 n) s1 from HVis.out.trans (if_neg (by simp)))
            clear HVis
            go_wp2_with fail
            refine (HMay2.out _ n HWv.out (Nat.le_refl _)).mono ?_; rintro e v2 ⟨rfl, hb2⟩
            have HRv2 := Lib.hid (HRv.out.below hb2)
            have HBv2 := Lib.hid (HBv.out.trans (hb2.mono HBv.out.size))
            have HWv2 := Lib.hid (Hw1.out.trans (HBv2.out.mono Hw1.out.size))
            have HHv2 := Lib.hid (HHv.out.trans (hb2.mono HHv.out.size))
            have Hr3 := Lib.hid (Hr2.out.below intR_stable hb2)
            clear hb2 HRv HBv HWv Hr2
            by_cases hm : mayP (xo, xa, xb) pc n = true
            · have HZ := Lib.hid (show (r1, r2) = ((pc : Int), 11) by rw [HV.out, HVis2.out, if_pos hm]; exact if_pos (by simp))
              rw [hm]
              clear hm
              go_wp2_with fail
              go_returns
              exact ⟨_, _, by rw [(Prod.mk.inj HZ.out).1, (Prod.mk.inj HZ.out).2], HWv2.out⟩
            have hm2 : mayP (xo, xa, xb) pc n = false := by simpa using hm
            obtain ⟨G, hG⟩ : ∃ G, TY.goF ST (TY.mayFr may pc 0 n) s1 = G := ⟨_, rfl⟩
            have HZ := Lib.hid (show (r1, r2) = (if ¬ G.1 = 0 then ((pc : Int), G.1) else TY.rentF E may (n - (t + 1)) G.2 D2) by rw [HV.out, HVis2.out, if_neg hm, hG])
            have HG := Lib.hid hG
            rw [hm2]
            clear hm hm2 hG HV HVis2
            go_wp2_with fail
            go_loopw [19] (fun tt wq => ∃ (q : Nat) (U' : List Value) (s' : WS), q ≤ n ∧ tt = .int .i64 q ∧ Hid (RAt w1.heap.size gS gR gD n U' s' D2 wq) ∧ Hid (Below w1.heap.size w1 wq) ∧ Hid (Below W.heap.size W wq → True) ∧ Hid (Below w.heap.size w wq) ∧ Hid (RowR 1 intR wq (.slice ra nst rc) ST) ∧ Hid (TY.goF ST (TY.mayFr may pc q (n - q)) s' = G)) (fun tt _ => n - (intOf tt).toNat)
            case atStart => exact ⟨0, _, _, Nat.zero_le _, rfl, HRv2, HBv2, Lib.hid (fun _ => trivial), HWv2, Hr3, HG⟩
            case round =>
              obtain ⟨q, U', s', hq, rfl, HR', HB', _, HW', Hr', HG'⟩ := hrel
              by_cases hlq : q < n
              · have r7 : ((q : Int) < (n : Int)) = True := eq_true (by omega)
                have r7' : (q < n) = True := eq_true hlq
                go_wp2_with fail
                refine (HMay2.out _ q HW'.out (by omega)).mono ?_; rintro e v3 ⟨rfl, hb3⟩
                have HR3 := Lib.hid (HR'.out.below hb3)
                have HB3 := Lib.hid (HB'.out.trans (hb3.mono HB'.out.size))
                have HW3 := Lib.hid (HW'.out.trans (hb3.mono HW'.out.size))
                have Hr4 := Lib.hid (Hr'.out.below intR_stable hb3)
                clear hb3 HR' HB' HW' Hr'
                by_cases hm : mayP (xo, xa, xb) pc q = true
                case neg =>
                  have hm2 : mayP (xo, xa, xb) pc q = false := by simpa using hm
                  have HG3 := Lib.hid (show TY.goF ST (TY.mayFr may pc (q + 1) (n - (q + 1))) s' = G by rw [← TY.mayFr_no hlq (by rw [HMy.out]; exact hm2)]; exact HG'.out)
                  rw [hm2]
                  clear hm hm2
                  go_wp2_with fail
                  go_roundw
                  case rel => exact ⟨q + 1, U', s', by omega, by simp, HR3, HB3, Lib.hid (fun _ => trivial), HW3, Hr4, HG3⟩
                  case measure => first | (simp [intOf]; done) | (simp [intOf]; omega)
                have HG3 := Lib.hid (show (if s'.reached.getD q false = false then TY.goF ST (TY.mayFr may pc (q + 1) (n - (q + 1))) (reachF q ST s') else if ¬ (s'.stacks.getD q []).length = ST.length then (9, s') else if ¬ s'.stacks.getD q [] = ST then (10, s') else TY.goF ST (TY.mayFr may pc (q + 1) (n - (q + 1))) s') = G by
                  have := HG'.out
                  rw [TY.mayFr_yes hlq (by rw [HMy.out]; exact hm)] at this
                  exact this)
                rw [hm]
                clear hm HG'
                have cR := HR3.out.atR (k := q) hlq
                have fR := obj_frozen HR3.out.oR q
                obtain ⟨ea, ec, cS, hrow, hs32⟩ := HR3.out.atS (k := q) hlq
                by_cases hre : s'.reached.getD q false = false
                · have HG4 := Lib.hid ((if_pos hre).symm.trans HG3.out)
                  have hS0 := HR3.out.slices
                  have HR5 := Lib.hid (HR3.out.reach hlq Hr4.out (by rw [HNst.out] at HS32; exact HNst.out ▸ HS32.out))
                  have cS' : (v3.setCell ⟨gR, q, none⟩ (.bool true)).cell? ⟨gS, q, none⟩ = some (.slice ea (s'.stacks.getD q []).length ec) := (World.cell?_of_block (get_set (a := ⟨gR, q, none⟩) (Ne.symm HR3.out.ne.1))).trans cS
                  have fS' := obj_frozen (HR3.out.mark q).oS q
                  have HB5 := Lib.hid (Below.setCell (Below.setCell HB3.out (p := ⟨gR, q, none⟩) HGB.out.2.1 (.bool true)) (p := ⟨gS, q, none⟩) HGB.out.1 (.slice ra nst rc))
                  have HW5 := Lib.hid (Hw1.out.trans (HB5.out.mono Hw1.out.size))
                  have Hr5 := Lib.hid (show RowR 1 intR ((v3.setCell ⟨gR, q, none⟩ (.bool true)).setCell ⟨gS, q, none⟩ (.slice ra nst rc)) (.slice ra nst rc) ST from row_other (row_other Hr4.out (bools_noint HR3.out.oR)) (HR3.out.mark q).slices)
                  rw [hre] at cR
                  clear hre hrow hs32 hS0 HG3
                  generalize s'.stacks.getD q [] = so at *
                  generalize so.length = nso at *
                  go_wp2_with fail
                  go_roundw
                  case rel => exact ⟨q + 1, _, _, by omega, by simp, HR5, HB5, Lib.hid (fun _ => trivial), HW5, Hr5, HG4⟩
                  case measure => first | (simp [intOf]; done) | (simp [intOf]; omega)
                · have hre2 : s'.reached.getD q false = true := by simpa using hre
                  have HG4 := Lib.hid ((if_neg hre).symm.trans HG3.out)
                  have HInts := Lib.hid (fun d => ref15_Ints _ _ _ _ (v3.drewN d) (hrow.below intR_stable (Below_drewN _ v3 d)) (Hr4.out.below intR_stable (Below_drewN _ v3 d)))
                  rw [hre2] at cR
                  clear hre hre2 HG3
                  have HIn := Lib.hid (ref15_Ints _ _ _ _ v3 hrow Hr4.out)
                  generalize hso : s'.stacks.getD q [] = so at *
                  obtain ⟨nso, hnso⟩ : ∃ m, so.length = m := ⟨_, rfl⟩
                  rw [hnso] at cS HIn HG4
                  rw [HNst.out] at HG4
                  clear hrow HInts
                  by_cases hln : nso = nst
                  case neg =>
                    have HZ2 := Lib.hid (show (r1, r2) = ((pc : Int), 9) by rw [HZ.out, ← HG4.out, if_pos hln]; exact if_pos (by simp))
                    have q9 : ((nso : Int) != (nst : Int)) = true := by have h9 : ¬ (nso : Int) = (nst : Int) := (by omega); simpa using h9
                    have q9' : (nso != nst) = true := by simpa using hln
                    clear hln
                    go_wp2_with fail
                    go_returns
                    exact ⟨_, _, by rw [(Prod.mk.inj HZ2.out).1, (Prod.mk.inj HZ2.out).2], HW3.out⟩
                  have HG5 := Lib.hid (show (if ¬ so = ST then (10, s') else TY.goF ST (TY.mayFr may pc (q + 1) (n - (q + 1))) s') = G from (if_neg (fun h => h hln)).symm.trans HG4.out)
                  subst hln
                  go_wp2_with fail
                  refine HIn.out.mono ?_; rintro e v4 ⟨rfl, d4, rfl⟩
                  by_cases heq : so = ST
                  · have hd : decide (so = ST) = true := decide_eq_true heq
                    have HG6 := Lib.hid ((if_neg (fun h => h heq)).symm.trans HG5.out)
                    have hB4 := Below_drewN v3.heap.size v3 d4
                    have HR5 := Lib.hid (HR3.out.below hB4)
                    have HB5 := Lib.hid (HB3.out.trans (hB4.mono HB3.out.size))
                    have HW5 := Lib.hid (HW3.out.trans (hB4.mono HW3.out.size))
                    have Hr5 := Lib.hid (Hr4.out.below intR_stable hB4)
                    rw [hd]
                    clear hd heq hB4 hso
                    go_wp2_with fail
                    go_roundw
                    case rel => exact ⟨q + 1, U', s', by omega, by simp, HR5, HB5, Lib.hid (fun _ => trivial), HW5, Hr5, HG6⟩
                    case measure => first | (simp [intOf]; done) | (simp [intOf]; omega)
                  · have hd : decide (so = ST) = false := decide_eq_false heq
                    have HZ2 := Lib.hid (show (r1, r2) = ((pc : Int), 10) by rw [HZ.out, ← HG5.out, if_pos heq]; exact if_pos (by simp))
                    have HW5 := Lib.hid (HW3.out.trans ((Below_drewN v3.heap.size v3 d4).mono HW3.out.size))
                    rw [hd]
                    clear hd heq hso
                    go_wp2_with fail
                    go_returns
                    exact ⟨_, _, by rw [(Prod.mk.inj HZ2.out).1, (Prod.mk.inj HZ2.out).2], HW5.out⟩
              · obtain rfl : q = n := by omega
                have r7 : ((q : Int) < (q : Int)) = False := eq_false (by omega)
                have HG3 := Lib.hid (show (0, s') = G by have := HG'.out; rw [Nat.sub_self] at this; exact this)
                have HF2 := Lib.hid (show (r1, r2) = TY.rentF E may (q - (t + 1)) s' D2 by rw [HZ.out, ← HG3.out]; exact if_neg (by simp))
                go_wp2_with fail
                go_roundw
                case rel => exact ⟨t + 1, U', s', D2, by omega, by simp, HR', HB', HF2⟩
                case measure => first | (simp [intOf]; done) | (simp [intOf]; omega)
    · obtain rfl : t = n := by omega
      have r1' : ((t : Int) < (t : Int)) = False := eq_false (by omega)
      have HZ := Lib.hid (show (r1, r2) = (0, 0) by rw [HF.out, Nat.sub_self]; rfl)
      go_wp2_with fail
      go_returns
      exact ⟨_, _, by rw [(Prod.mk.inj HZ.out).1, (Prod.mk.inj HZ.out).2], Hw1.out.trans (HB.out.mono Hw1.out.size)⟩
end Go.Proofs.YtefejcofmopjfaaGreatDoor

/- Layer 22: the answer's step of a stack (ref19.Step): by what One, Takes and Leaves tell. -/
namespace Go.Proofs.YtefejcofmopjfaaGreatDoor
open Go.RowKit
set_option linter.unusedSimpArgs false
set_option linter.unusedVariables false
theorem new_apart {w w4 : World} {lv : Value} {e : TypeId} {B n : Nat} {v : Value} {xs : List Value} (hN : NewIn w lv) (hO : w.ownsRow B e 1 v n xs) : ∀ g, v.ownBlock = some g → ∀ a m c, lv = .slice (some a) m c → a.block ≠ g := by
  intro g hg a m c h
  have h1 := hN a m c h
  have h2 := (owns_lt hO hg).2
  omega
/-- what is left lies apart from what is being made -/
def LvAt (wr : World) (ya : Option Addr) (o : Value) (lv : List Int) : Prop := ∀ j z, lv[j]? = some z → ∃ b off, ya = some ⟨b, off, none⟩ ∧ wr.cell? ⟨b, off + j, none⟩ = some (.int .i64 z) ∧ I64 z ∧ b < wr.heap.size ∧ ∀ g, o.ownBlock = some g → g ≠ b
theorem LvAt.first {w3 w4 : World} {ya : Option Addr} {n c : Nat} {o : Value} {lv : List Int} {e : TypeId} {B q : Nat} {xs : List Value} (h : RowR 1 intR w4 (.slice ya n c) lv) (hN : NewIn w3 (.slice ya n c)) (hO : w3.ownsRow B e 1 o q xs) : LvAt w4 ya o lv := by
  intro j z hz
  obtain ⟨b, off, hy, hb, hc⟩ := ints_at h (lt_of_get hz)
  obtain ⟨h1, h2⟩ := hc j z hz
  exact ⟨b, off, hy, h1, h2, hb, fun g hg => Ne.symm (new_apart (w4 := w4) hN hO g hg ⟨b, off, none⟩ n c (by rw [hy]))⟩
theorem LvAt.next {wr w5 : World} {C : Obj} {ya : Option Addr} {o v5 : Value} {lv : List Int} (h : LvAt wr ya o lv) (hg : (wr.alloc C).grownBy w5 o.ownBlock) (hN : Near (wr.alloc C) o v5) : LvAt w5 ya v5 lv := by
  intro j z hz
  obtain ⟨b, off, hy, hc, hI, hb, hne⟩ := h j z hz
  have hb1 : b < (wr.alloc C).heap.size := by simp; omega
  have hc1 : (wr.alloc C).cell? ⟨b, off + j, none⟩ = some (.int .i64 z) := ((Below.refl wr.heap.size wr).alloc (Nat.le_refl _) C).cell (p := ⟨b, off + j, none⟩) hb |>.trans hc
  refine ⟨b, off, hy, (World.cell?_of_block (hg.block b hb1 fun x => hne b x.symm rfl)).trans hc1, hI, Nat.lt_of_lt_of_le hb1 hg.size, fun g hv => ?_⟩
  rcases hN with hN | ⟨g', hN, hge⟩
  · exact hne g (by rw [← hN]; exact hv)
  · rw [hN] at hv
    have := Option.some.inj hv
    omega
theorem LvAt.drew {wr : World} {ya : Option Addr} {o : Value} {lv : List Int} (d : Nat) (h : LvAt wr ya o lv) : LvAt (wr.drewN d) ya o lv := by
  intro j z hz
  obtain ⟨b, off, hy, hc, hI, hb, hne⟩ := h j z hz
  exact ⟨b, off, hy, (World.cell?_of_block (by rw [World.heap_drewN])).trans hc, hI, by rw [World.heap_drewN]; exact hb, hne⟩
set_option maxRecDepth 100000 in
set_option maxHeartbeats 8000000 in
theorem ref19_Step_of (pc pv pb pu : Value) (u o a b : Int) (v : Value) (st : List Int) (e1 : Int) (tk lv : List Int) (w : World)
    (hO : ∀ W, Below w.heap.size w W → Calls Tryz.prog 40 #[.agg #[pc, pv, pb, pu], .int .i64 u, .agg #[.int .i64 o, .int .i64 a, .int .i64 b]] W fun e w' => e = .returned (.int .i64 e1) ∧ Below W.heap.size W w')
    (hE : e1 = 0 → ∀ W, Below w.heap.size w W → Calls Tryz.prog 42 #[.agg #[pc, pv, pb, pu], .int .i64 u, .agg #[.int .i64 o, .int .i64 a, .int .i64 b]] W fun e w' => ∃ r, e = .returned r ∧ RowR 1 intR w' r tk ∧ Below W.heap.size W w')
    (hL : e1 = 0 → ∀ W, Below w.heap.size w W → Calls Tryz.prog 43 #[.agg #[pc, pv, pb, pu], .int .i64 u, .agg #[.int .i64 o, .int .i64 a, .int .i64 b]] W fun e w' => ∃ r, e = .returned r ∧ RowR 1 intR w' r lv ∧ Below W.heap.size W w' ∧ NewIn W r)
    (hst : RowR 1 intR w v st) (hsl : st.length ≤ 100) (b1 : tk.length ≤ 300) (b2 : lv.length ≤ 2) (h27 : o = 27 → tk.length = 1) (h29 : o = 29 → tk.length = 2) :
    Calls Tryz.prog 28 #[.agg #[pc, pv, pb, pu], .int .i64 u, .agg #[.int .i64 o, .int .i64 a, .int .i64 b], v] w fun e w' => ∃ r, e = .returned (.tuple #[r, .int .i64 (if e1 = 0 then stpER o tk lv st else e1)]) ∧ RowR 1 intR w' r (if e1 = 0 then stpSR o tk lv st else []) ∧ Below w.heap.size w w' ∧ NewIn w r := by
  have cp := @cell_past
  obtain ⟨i1, hi, hz, hsize, hby⟩ : ∃ i, Tryz.prog.info? 3 = some i ∧ i.zero = some (.int .i64 0) ∧ i.size = 1 ∧ i.bytes = 8 := ⟨(Tryz.prog.info? 3).get!, by kernel_rfl, by kernel_rfl, by kernel_rfl, by kernel_rfl⟩
  have HO := Lib.hid hO
  obtain ⟨W0, hW0⟩ : ∃ W0, W0 = (w.alloc (.cells #[pc, pv, pb, pu] 27)).alloc (.cells #[.int .i64 o, .int .i64 a, .int .i64 b] 40) := ⟨_, rfl⟩
  obtain ⟨k1, k2, k3, k4⟩ := boxed2 w [pc, pv, pb, pu] [.int .i64 o, .int .i64 a, .int .i64 b] 27 40 (W' := W0) (by rw [hW0]; exact Below.refl _ _)
  have HW0 := Lib.hid hW0
  clear hW0
  have K1 := Lib.hid k1
  have K2 := Lib.hid k2
  have z1 : w.heap.size < W0.heap.size := by omega
  clear k1 k2 hO
  obtain ⟨sa, ca, rfl⟩ := row_get hst
  have HST := Lib.hid hst
  clear hst
  by_cases h1 : e1 = 0
  case neg =>
    have q : (e1 != 0) = true := by simpa using h1
    rw [if_neg h1, if_neg h1]
    clear hE hL h1
    generalize st.length = n at *
    go_enter Tryz.func28, Tryz.ntmps28
    go_wp2_with fail
    refine (HO.out _ (by (repeat' (first | (with_reducible exact Below.refl _ _) | (with_reducible assumption) | (with_reducible refine below_drewN ?_ _) | (with_reducible refine Below.alloc ?_ ?_ _) | (with_reducible refine Below.drew ?_) | (with_reducible refine Below.setCell ?_ ?_ _) | go_size)))).mono ?_; rintro e w1 ⟨rfl, hb1⟩
    rw [← HW0.out] at hb1
    go_wp2_with fail
    go_returns
    exact ⟨_, rfl, row_none, k4.trans (hb1.mono k4.size), new_none _ _ _⟩
  subst h1
  rw [if_pos rfl, if_pos rfl]
  have HE := Lib.hid (hE rfl)
  have HLv := Lib.hid (hL rfl)
  have H27 := Lib.hid h27
  have H29 := Lib.hid h29
  clear hE hL h27 h29
  obtain ⟨n, hn⟩ : ∃ n, st.length = n := ⟨_, rfl⟩
  obtain ⟨m, hm⟩ : ∃ m, tk.length = m := ⟨_, rfl⟩
  have HN := Lib.hid (show st.length = n ∧ tk.length = m from ⟨hn, hm⟩)
  rw [hn] at hsl
  rw [hm] at b1
  by_cases hlow : n < m
  · have hs := Lib.hid (stpR_9 (o := o) (tk := tk) (lv := lv) (st := st) (Or.inl (by omega)))
    rw [hn] at HST ⊢
    clear hn
    have r1 : ((n : Int) - (m : Int) < 0) = True := eq_true (by omega)
    have r2 : ((n : Int) < (m : Int)) = True := eq_true (by omega)
    go_enter Tryz.func28, Tryz.ntmps28
    go_wp2_with fail
    refine (HO.out _ (by (repeat' (first | (with_reducible exact Below.refl _ _) | (with_reducible assumption) | (with_reducible refine below_drewN ?_ _) | (with_reducible refine Below.alloc ?_ ?_ _) | (with_reducible refine Below.drew ?_) | (with_reducible refine Below.setCell ?_ ?_ _) | go_size)))).mono ?_; rintro e w1 ⟨rfl, hb1⟩
    rw [← HW0.out] at hb1
    have hb1w := k4.trans (hb1.mono k4.size)
    have e00 := (K1.out.keep z1 hb1) 0 _ rfl
    have e01 := (K1.out.keep z1 hb1) 1 _ rfl
    have e02 := (K1.out.keep z1 hb1) 2 _ rfl
    have e03 := (K1.out.keep z1 hb1) 3 _ rfl
    have e20 := (K2.out.keep k3 hb1) 0 _ rfl
    have e21 := (K2.out.keep k3 hb1) 1 _ rfl
    have e22 := (K2.out.keep k3 hb1) 2 _ rfl
    go_wp2_with fail
    refine (HE.out _ hb1w).mono ?_; rintro e w2 ⟨x1, rfl, hx1, hb2⟩
    obtain ⟨xa, xc, rfl⟩ := row_get hx1
    rw [hm]
    clear hm hx1
    go_wp2_with fail
    go_returns
    exact ⟨_, by rw [hs.out.1]; rfl, by rw [hs.out.2]; exact row_none, hb1w.trans (hb2.mono hb1w.size), new_none _ _ _⟩
  have r1 : ((n : Int) - (m : Int) < 0) = False := eq_false (by omega)
  have r2 : ((n : Int) < (m : Int)) = False := eq_false (by omega)
  by_cases h34 : o = 34 ∧ 0 < n
  · obtain ⟨rfl, hn0⟩ := h34
    have hs := Lib.hid (stpR_9 (o := 34) (tk := tk) (lv := lv) (st := st) (Or.inr ⟨rfl, by omega⟩))
    have r3 : (0 < (n : Int)) = True := eq_true (by omega)
    rw [hn] at HST ⊢
    clear hn
    go_enter Tryz.func28, Tryz.ntmps28
    go_wp2_with fail
    refine (HO.out _ (by (repeat' (first | (with_reducible exact Below.refl _ _) | (with_reducible assumption) | (with_reducible refine below_drewN ?_ _) | (with_reducible refine Below.alloc ?_ ?_ _) | (with_reducible refine Below.drew ?_) | (with_reducible refine Below.setCell ?_ ?_ _) | go_size)))).mono ?_; rintro e w1 ⟨rfl, hb1⟩
    rw [← HW0.out] at hb1
    have hb1w := k4.trans (hb1.mono k4.size)
    have e00 := (K1.out.keep z1 hb1) 0 _ rfl
    have e01 := (K1.out.keep z1 hb1) 1 _ rfl
    have e02 := (K1.out.keep z1 hb1) 2 _ rfl
    have e03 := (K1.out.keep z1 hb1) 3 _ rfl
    have e20 := (K2.out.keep k3 hb1) 0 _ rfl
    have e21 := (K2.out.keep k3 hb1) 1 _ rfl
    have e22 := (K2.out.keep k3 hb1) 2 _ rfl
    go_wp2_with fail
    refine (HE.out _ hb1w).mono ?_; rintro e w2 ⟨x1, rfl, hx1, hb2⟩
    obtain ⟨xa, xc, rfl⟩ := row_get hx1
    rw [hm]
    have E20 := (K2.out.keep k3 (hb1.trans (hb2.mono hb1.size))) 0 _ rfl
    clear hm hx1
    go_wp2_with fail
    go_returns
    exact ⟨_, by rw [hs.out.1]; rfl, by rw [hs.out.2]; exact row_none, hb1w.trans (hb2.mono hb1w.size), new_none _ _ _⟩
  have HNot := Lib.hid (show ¬ (st.length < tk.length ∨ (o = 34 ∧ 0 < st.length)) by rw [hn, hm]; intro q; rcases q with q | q; exact hlow q; exact h34 q)
  have hlN : lowN tk st = n - m := by unfold lowN; rw [hn, hm]
  have hdr := row_drop (by rw [hn] at HST; exact HST.out) (k := n - m) (by omega)
  have htr := row_take (by rw [hn] at HST; exact HST.out) (k := n - m) (by omega)
  have hsd : ∀ W, (Instr.slice 35 (.slice sa n ca) (some (.int .i64 ((n : Int) - (m : Int)))) none none).run Tryz.prog W = .ok (sliced sa (n - m) n ca 1) W := fun W => by
    rw [run_slice_l W 35 sa n ca (by kernel_rfl) .i64 ((n : Int) - m) (by omega) (by omega)]
    rw [run_sizeOf W (show Tryz.prog.info? (Tryz.prog.elem 35) = some ((Tryz.prog.info? (Tryz.prog.elem 35)).get!) by kernel_rfl)]
    rw [show Tryz.prog.cellsOf (Tryz.prog.elem 35) = 1 by kernel_rfl, show ((n : Int) - (m : Int)).toNat = n - m by omega]
    rfl
  have hst : ∀ W, (Instr.slice 35 (.slice sa n ca) none (some (.int .i64 ((n : Int) - (m : Int)))) none).run Tryz.prog W = .ok (sliced sa 0 (n - m) ca 1) W := fun W => by
    have hcap : n ≤ ca := by
      rcases HST.out with ⟨a', c', e1, e2, _⟩ | ⟨b', o', c', e1, _, e3, _⟩
      · injection e1 with e1 e4 e5; omega
      · injection e1 with e1 e4 e5; omega
    rw [run_slice_h W 35 sa n ca (by kernel_rfl) .i64 ((n : Int) - m) (by omega) (by omega)]
    rw [run_sizeOf W (show Tryz.prog.info? (Tryz.prog.elem 35) = some ((Tryz.prog.info? (Tryz.prog.elem 35)).get!) by kernel_rfl)]
    rw [show Tryz.prog.cellsOf (Tryz.prog.elem 35) = 1 by kernel_rfl, show ((n : Int) - (m : Int)).toNat = n - m by omega]
    rfl
  generalize sliced sa (n - m) n ca 1 = sd at *
  generalize sliced sa 0 (n - m) ca 1 = stt at *
  obtain ⟨da, dc, rfl⟩ := row_get hdr
  obtain ⟨ta, tc, rfl⟩ := row_get htr
  have hdl : (st.drop (n - m)).length = m := by rw [List.length_drop, hn]; omega
  have htl : (st.take (n - m)).length = n - m := by rw [List.length_take, hn]; omega
  have hsrc := src_ints htr
  rw [hdl] at hdr hsd
  rw [htl] at htr hst hsrc
  rw [hn] at HST ⊢
  have HDr := Lib.hid hdr
  have HTs := Lib.hid hsrc
  generalize hDD : st.drop (n - m) = dd at *
  generalize hTT : st.take (n - m) = tt at *
  have HDT := Lib.hid (show st.drop (lowN tk st) = dd ∧ st.take (lowN tk st) = tt by rw [hlN]; exact ⟨hDD, hTT⟩)
  have HDL := Lib.hid (show dd.length = m ∧ tt.length = n - m from ⟨hdl, htl⟩)
  have H10 := Lib.hid (fun hh => stpR_10 (lv := lv) HNot.out hh)
  have H32 := Lib.hid (fun hh hh2 => stpR_32 (lv := lv) HNot.out hh hh2)
  have H0 := Lib.hid (fun hh hh2 => stpR_0 (lv := lv) HNot.out hh hh2)
  rw [HDT.out.1] at H10 H32 H0
  rw [HDT.out.2] at H0
  rw [hlN] at H32 H0
  have HDI := Lib.hid (And.intro (row_ints hdr) (fun z hz => row_ints HST.out z (List.mem_of_mem_take (by rw [hTT]; exact hz) : z ∈ st)))
  have hmn : m ≤ n := by omega
  clear hlow hdr htr hlN hDD hTT hdl htl hn HNot hsrc
  obtain ⟨lo, hlo⟩ : ∃ lo, n - m = lo := ⟨_, rfl⟩
  have HLo := Lib.hid hlo
  rw [hlo] at hst HTs HDL H32 H0
  have hwl : (n : Int) - (m : Int) = (lo : Int) := by omega
  have blo : lo ≤ 100 := by omega
  rw [hwl] at hst hsd
  have s1 : (o == 34) = false ∨ ((o == 34) = true ∧ (0 < (n : Int)) = False ∧ (0 < n) = False) := by
    by_cases g0 : o = 34
    · right; exact ⟨by simpa using g0, eq_false (fun g => h34 ⟨g0, by omega⟩), eq_false (fun g => h34 ⟨g0, by omega⟩)⟩
    · left; simpa using g0
  obtain ⟨q, hq⟩ : ∃ q, lv.length = q := ⟨_, rfl⟩
  have HQ := Lib.hid hq
  rw [hq] at b2 H32 H0
  clear h34 hlo hq
  have HF27 := Lib.hid (fun (h : o = 27) => (by have := H27.out h; have := HN.out.2; omega : m = 1))
  have HF29 := Lib.hid (fun (h : o = 29) => (by have := H29.out h; have := HN.out.2; omega : m = 2))
  have HAll := Lib.hid (fun hh => fitsR_yes (tk := tk) (top := dd) hh)
  rcases s1 with s1 | ⟨s1, s2, s2'⟩
  all_goals
    go_enter Tryz.func28, Tryz.ntmps28
    go_wp2_with fail
    refine (HO.out _ (by (repeat' (first | (with_reducible exact Below.refl _ _) | (with_reducible assumption) | (with_reducible refine below_drewN ?_ _) | (with_reducible refine Below.alloc ?_ ?_ _) | (with_reducible refine Below.drew ?_) | (with_reducible refine Below.setCell ?_ ?_ _) | go_size)))).mono ?_; rintro e w1 ⟨rfl, hb1⟩
    rw [← HW0.out] at hb1
    have hb1w := k4.trans (hb1.mono k4.size)
    have e00 := (K1.out.keep z1 hb1) 0 _ rfl
    have e01 := (K1.out.keep z1 hb1) 1 _ rfl
    have e02 := (K1.out.keep z1 hb1) 2 _ rfl
    have e03 := (K1.out.keep z1 hb1) 3 _ rfl
    have e20 := (K2.out.keep k3 hb1) 0 _ rfl
    have e21 := (K2.out.keep k3 hb1) 1 _ rfl
    have e22 := (K2.out.keep k3 hb1) 2 _ rfl
    go_wp2_with fail
    refine (HE.out _ hb1w).mono ?_; rintro e w2 ⟨x1, rfl, hx1, hb2⟩
    have hB12 := hb1.trans (hb2.mono hb1.size)
    have hB2 := k4.trans (hB12.mono k4.size)
    obtain ⟨xa, xc, rfl⟩ := row_get hx1
    rw [hm] at hx1 ⊢
    have HX1 := Lib.hid hx1
    have HB12 := Lib.hid hB12
    have HB2 := Lib.hid hB2
    have z2 : w.heap.size ≤ w2.heap.size := hB2.size
    have z3 : w.heap.size + 1 < w2.heap.size := Nat.lt_of_lt_of_le k3 hB12.size
    clear e00 e01 e02 e03 e20 e21 e22 hx1 hb1 hb1w hb2 hB12 hm
    have E20 := (K2.out.keep k3 HB12.out) 0 _ rfl
    go_wp2_with (first | (at_builtin; go_loud (refine wpList_append_src rfl (.tmp 44) (.tmp 51) 35 rfl w2.heap.size 3 i1 (.int .i64 0) 1 8 Tryz.underlying35 hi hz hsize hby rfl (by omega) _ 0 [] rfl (owns_empty w2 3 1 (Nat.le_refl _)) _ lo (iV tt) rfl (HTs.out.below (HB2.out.alloc z2 _)) (by rw [iV_len, HDL.out.2]; omega) (iV_one _) (by unfold maxLen; omega) (by omega) (by simp) ?_; intro v3 w3 hO3 hG3; have HB3 := Lib.hid (grown3 (B := w2.heap.size) (w0 := w2) (by (repeat' (first | (with_reducible exact Below.refl _ _) | (with_reducible assumption) | (with_reducible refine below_drewN ?_ _) | (with_reducible refine Below.alloc ?_ ?_ _) | (with_reducible refine Below.drew ?_) | (with_reducible refine Below.setCell ?_ ?_ _) | go_size))) (by simp) (owns_empty w2 3 1 (Nat.le_refl _)) hG3); have HO3 := Lib.hid (own_eq2 hO3 (Nat.zero_add lo) (List.nil_append (iV tt))); clear hO3 hG3 hB2)) | fail)
    have HB03 := Lib.hid (HB12.out.trans (HB3.out.mono HB12.out.size))
    have HBw3 := Lib.hid (HB2.out.trans (HB3.out.mono HB2.out.size))
    clear E20 hst hsd cp
    have mixed : Tryz.prog.follows .mixedOrders = true := by kernel_rfl
    go_loopw [14] (fun jj wr => ∃ k : Nat, k ≤ m ∧ jj = .int .i64 k ∧ Hid (∀ j, j < k → tk.getD j 0 = 0 ∨ tk.getD j 0 = dd.getD j 0) ∧ Hid (Below w3.heap.size w3 wr)) (fun jj _ => m - (intOf jj).toNat)
    case atStart => exact ⟨0, by omega, rfl, Lib.hid (fun j hj => by omega), Lib.hid (Below.refl _ _)⟩
    case round =>
      obtain ⟨k, hk, rfl, hall, HBr⟩ := hrel
      by_cases hlt : k < m
      · obtain ⟨t, ht⟩ := get_some (L := tk) (n := k) (by have := HN.out.2; omega)
        obtain ⟨y, hy⟩ := get_some (L := dd) (n := k) (by have := HDL.out.1; omega)
        obtain ⟨bx, ox, rfl, hbx, hcx⟩ := ints_at HX1.out (lt_of_get ht)
        have hB2r := HB3.out.trans (HBr.out.mono HB3.out.size)
        have g0 := (hB2r.cell (p := ⟨bx, ox + k, none⟩) hbx).trans (hcx k t ht).1
        have z0 : bx < wr.heap.size := Nat.lt_of_lt_of_le hbx hB2r.size
        obtain ⟨by', oy, rfl, hby', hcy⟩ := ints_at HDr.out (lt_of_get hy)
        have hBwr := HBw3.out.trans (HBr.out.mono HBw3.out.size)
        have g1 := (hBwr.cell (p := ⟨by', oy + k, none⟩) hby').trans (hcy k y hy).1
        have z1' : by' < wr.heap.size := Nat.lt_of_lt_of_le hby' hBwr.size
        have HBwr := Lib.hid hBwr
        have HK1 := Lib.hid (show (t = 0 ∨ t = y) → ∀ j, j < k + 1 → tk.getD j 0 = 0 ∨ tk.getD j 0 = dd.getD j 0 by
          intro hh j hj
          by_cases hjk : j = k
          · subst hjk; simpa [List.getD, ht, hy] using hh
          · exact hall.out j (by omega))
        have HNo := Lib.hid (fun a1 a2 => H10.out (fitsR_no ht hy a1 a2))
        have r3 : ((k : Int) < (m : Int)) = True := eq_true (by omega)
        have r3' : (k < m) = True := eq_true hlt
        clear hcx hcy ht hy hbx hby' hB2r hBwr
        by_cases c1 : t = 0
        · have f1 : (t != 0) = false := by simp [c1]
          have hs := Lib.hid (HK1.out (Or.inl c1))
          clear c1
          go_wp2_with fail
          go_quiet (fail)
          have HBn := Lib.hid (fun nq => (HBr.out.trans ((Below_drewN _ wr nq).mono HBr.out.size) : Below w3.heap.size w3 (wr.drewN nq)))
          go_wp2_with fail
          go_roundw
          case rel => exact ⟨k + 1, by omega, by simp, hs, Lib.hid (HBn.out _)⟩
          case measure => first | (simp [intOf]; done) | (simp [intOf]; omega)
        · have f1 : (t != 0) = true := by simpa using c1
          by_cases c3 : t = y
          · have f3 : (t != y) = false := by simp [c3]
            have hs := Lib.hid (HK1.out (Or.inr c3))
            clear c1 c3
            go_wp2_with fail
            go_quiet (fail)
            have HBn := Lib.hid (fun nq => (HBr.out.trans ((Below_drewN _ wr nq).mono HBr.out.size) : Below w3.heap.size w3 (wr.drewN nq)))
            go_wp2_with fail
            go_roundw
            case rel => exact ⟨k + 1, by omega, by simp, hs, Lib.hid (HBn.out _)⟩
            case measure => first | (simp [intOf]; done) | (simp [intOf]; omega)
          · have f3 : (t != y) = true := by simpa using c3
            have hs := Lib.hid (HNo.out c1 c3)
            clear c1 c3
            go_wp2_with fail
            go_quiet (fail)
            have HBn := Lib.hid (fun nq => (HBwr.out.trans ((Below_drewN _ wr nq).mono HBwr.out.size) : Below w.heap.size w (wr.drewN nq)))
            go_wp2_with fail
            go_returns
            exact ⟨_, by rw [hs.out.1]; rfl, by rw [hs.out.2]; exact row_none, HBn.out _, new_none _ _ _⟩
      · obtain rfl : k = m := by omega
        have r3 : ((k : Int) < (k : Int)) = False := eq_false (by omega)
        have hfits := Lib.hid (HAll.out (fun j hj => hall.out j (by have := HN.out.2; omega)))
        have H32 := Lib.hid (fun hh => H32.out hfits.out hh)
        have H0 := Lib.hid (fun hh => H0.out hfits.out hh)
        have HW3 := HBr
        obtain ⟨W3, hW3⟩ : ∃ W3, wr = W3 := ⟨_, rfl⟩
        rw [hW3] at HW3 ⊢
        clear HBr hW3
        have HB3 := Lib.hid (HB3.out.trans (HW3.out.mono HB3.out.size))
        have HO3 := Lib.hid (owns_below HO3.out HW3.out)
        have HB03 := Lib.hid (HB03.out.trans (HW3.out.mono HB03.out.size))
        have HBw3 := Lib.hid (HBw3.out.trans (HW3.out.mono HBw3.out.size))
        have e00 := (K1.out.keep z1 HB03.out) 0 _ rfl
        have e01 := (K1.out.keep z1 HB03.out) 1 _ rfl
        have e02 := (K1.out.keep z1 HB03.out) 2 _ rfl
        have e03 := (K1.out.keep z1 HB03.out) 3 _ rfl
        have e20 := (K2.out.keep k3 HB03.out) 0 _ rfl
        have e21 := (K2.out.keep k3 HB03.out) 1 _ rfl
        have e22 := (K2.out.keep k3 HB03.out) 2 _ rfl
        clear hall hlt
        go_wp2_with fail
        refine (HLv.out _ HBw3.out).mono ?_; rintro e w4 ⟨x2, rfl, hx2, hb4, hN4⟩
        obtain ⟨ya, yc, rfl⟩ := row_get hx2
        rw [HQ.out] at hx2 hN4 ⊢
        have HLI := Lib.hid (lvR_I64 (o := o) (row_ints hx2) HDI.out.1)
        have HL4 := Lib.hid (LvAt.first hx2 hN4 HO3.out)
        have HO4 := Lib.hid (owns_lift HO3.out hb4 rfl)
        have HB4 := Lib.hid (HB3.out.trans (hb4.mono HB3.out.size))
        clear hx2 hN4 hb4 e00 e01 e02 e03 e20 e21 e22
        go_wp2_with fail
        go_loopw [12, 16] (fun o' jj wr => ∃ j : Nat, j ≤ q ∧ jj = .int .i64 j ∧ Hid (wr.ownsRow w2.heap.size 3 1 o' (lo + j) (iV (tt ++ (lvR o lv dd).take j))) ∧ Hid (Below w2.heap.size w2 wr) ∧ Hid (LvAt wr ya o' lv)) (fun _ jj _ => q - (intOf jj).toNat)
        case atStart => exact ⟨0, by omega, rfl, Lib.hid (by simpa using HO4.out), HB4, HL4⟩
        case round =>
          obtain ⟨j, hj, rfl, HO', HB', HL'⟩ := hrel
          have z5 : w2.heap.size ≤ wr.heap.size := HB'.out.size
          by_cases hlt : j < q
          · obtain ⟨t, ht⟩ := get_some (L := lv) (n := j) (by have := HQ.out; omega)
            obtain ⟨lb, lf, rfl, g0, hI, hlb, _⟩ := HL'.out j t ht
            have r4 : ((j : Int) < (q : Int)) = True := eq_true (by omega)
            have E20 := (K2.out.keep k3 (HB12.out.trans (HB'.out.mono HB12.out.size))) 0 _ rfl
            have HBB := Lib.hid (HB2.out.trans (HB'.out.mono HB2.out.size))
            have Hx := Lib.hid (lvR_get (o := o) (top := dd) ht)
            have HJ := Lib.hid (And.intro hj hlt)
            clear hj ht
            by_cases d27 : o = 27
            · have q27 : (o == 27) = true := by simp [d27]
              have q29 : (o == 29) = false := by simp [d27]
              obtain ⟨y, hy⟩ := get_some (L := dd) (n := 0) (by have := HDL.out.1; have := HF27.out d27; omega)
              obtain ⟨by', oy, rfl, hby', hcy⟩ := ints_at HDr.out (lt_of_get hy)
              have g1 : wr.cell? ⟨by', oy, none⟩ = some (.int .i64 y) := (HBB.out.cell (p := ⟨by', oy + 0, none⟩) hby').trans (hcy 0 y hy).1
              have r5 : (0 < (k : Int)) = True := eq_true (by have := HF27.out d27; omega)
              have r6 : (0 < k) = True := eq_true (by have := HF27.out d27; omega)
              have HX := Lib.hid (show lvAt o dd j t = y by unfold lvAt; rw [if_pos d27]; simp [List.getD, hy])
              rw [HX.out] at Hx
              clear hcy hy d27
              go_wp2_with (first | (at_builtin; go_loud (refine wpList_append_near rfl (.tmp 110) (.tmp 112) 35 rfl w2.heap.size 3 i1 (.int .i64 0) 1 8 Tryz.underlying35 hi hz hsize hby rfl (by omega) _ (lo + j) _ rfl (owns_below HO'.out ((Below.refl _ _).alloc (Nat.le_refl _) _)) ⟨wr.heap.size, 0, none⟩ 1 1 [.int .i64 y] rfl rfl (by intro i u hu; rw [add_at, Nat.zero_add]; exact cell_new wr _ 3 (0, 0) i (by simpa using hu)) (by intro u hu; simp at hu; rw [hu]; rfl) (by unfold maxLen; have := HJ.out; omega) (by have := HJ.out; omega) (by simp; omega) ?_; intro v5 w5 hO5 hG5 hN5; have HO5 := Lib.hid hO5; have HL5 := Lib.hid (LvAt.next HL'.out hG5 hN5); have HB5 := Lib.hid (grown3 (HB'.out.alloc z5 _) (by simp; omega) (owns_below HO'.out ((Below.refl _ _).alloc (Nat.le_refl _) _)) hG5); clear hO5 hG5 hN5)) | fail)
              go_roundw
              case rel => exact ⟨j + 1, by have := HJ.out; omega, by simp, Lib.hid (own_eq2 HO5.out (by omega) (by rw [List.take_add_one, Hx.out]; simp [iV])), HB5, HL5⟩
              case measure => have := HJ.out; simp [intOf]; omega
            have q27 : (o == 27) = false := by simpa using d27
            by_cases d29 : o = 29
            · have q29 : (o == 29) = true := by simp [d29]
              obtain ⟨kk, hkk⟩ : ∃ kk, 1 - j = kk := ⟨_, rfl⟩
              obtain ⟨y, hy⟩ := get_some (L := dd) (n := kk) (by have := HDL.out.1; have := HF29.out d29; omega)
              obtain ⟨by', oy, rfl, hby', hcy⟩ := ints_at HDr.out (lt_of_get hy)
              have g1 := (HBB.out.cell (p := ⟨by', oy + kk, none⟩) hby').trans (hcy kk y hy).1
              have hj1 : (1 : Int) - (j : Int) = (kk : Int) := by have := HJ.out; omega
              have hw1 : wrap64 ((1 : Int) - (j : Int)) = (kk : Int) := by rw [hj1]; unfold wrap64; omega
              have hw2 : IntKind.i64.wrap ((1 : Int) - (j : Int)) = (kk : Int) := by rw [hj1]; exact IntWalk.i64_in _ (by omega)
              have r5 : ((kk : Int) < (k : Int)) = True := eq_true (by have := HF29.out d29; omega)
              have HX := Lib.hid (show lvAt o dd j t = y by unfold lvAt; rw [if_neg (by simpa using q27), if_pos d29, hkk]; simp [List.getD, hy])
              rw [HX.out] at Hx
              clear hcy hy d29 d27 hkk
              go_wp2_with (first | (at_builtin; go_loud (refine wpList_append_near rfl (.tmp 110) (.tmp 112) 35 rfl w2.heap.size 3 i1 (.int .i64 0) 1 8 Tryz.underlying35 hi hz hsize hby rfl (by omega) _ (lo + j) _ rfl (owns_below HO'.out ((Below.refl _ _).alloc (Nat.le_refl _) _)) ⟨wr.heap.size, 0, none⟩ 1 1 [.int .i64 y] rfl rfl (by intro i u hu; rw [add_at, Nat.zero_add]; exact cell_new wr _ 3 (0, 0) i (by simpa using hu)) (by intro u hu; simp at hu; rw [hu]; rfl) (by unfold maxLen; have := HJ.out; omega) (by have := HJ.out; omega) (by simp; omega) ?_; intro v5 w5 hO5 hG5 hN5; have HO5 := Lib.hid hO5; have HL5 := Lib.hid (LvAt.next HL'.out hG5 hN5); have HB5 := Lib.hid (grown3 (HB'.out.alloc z5 _) (by simp; omega) (owns_below HO'.out ((Below.refl _ _).alloc (Nat.le_refl _) _)) hG5); clear hO5 hG5 hN5)) | fail)
              go_roundw
              case rel => exact ⟨j + 1, by have := HJ.out; omega, by simp, Lib.hid (own_eq2 HO5.out (by omega) (by rw [List.take_add_one, Hx.out]; simp [iV])), HB5, HL5⟩
              case measure => have := HJ.out; simp [intOf]; omega
            have q29 : (o == 29) = false := by simpa using d29
            have HX := Lib.hid (show lvAt o dd j t = t by unfold lvAt; rw [if_neg d27, if_neg d29])
            rw [HX.out] at Hx
            clear d27 d29
            go_wp2_with (first | (at_builtin; go_loud (refine wpList_append_near rfl (.tmp 110) (.tmp 112) 35 rfl w2.heap.size 3 i1 (.int .i64 0) 1 8 Tryz.underlying35 hi hz hsize hby rfl (by omega) _ (lo + j) _ rfl (owns_below HO'.out ((Below.refl _ _).alloc (Nat.le_refl _) _)) ⟨wr.heap.size, 0, none⟩ 1 1 [.int .i64 t] rfl rfl (by intro i u hu; rw [add_at, Nat.zero_add]; exact cell_new wr _ 3 (0, 0) i (by simpa using hu)) (by intro u hu; simp at hu; rw [hu]; rfl) (by unfold maxLen; have := HJ.out; omega) (by have := HJ.out; omega) (by simp; omega) ?_; intro v5 w5 hO5 hG5 hN5; have HO5 := Lib.hid hO5; have HL5 := Lib.hid (LvAt.next HL'.out hG5 hN5); have HB5 := Lib.hid (grown3 (HB'.out.alloc z5 _) (by simp; omega) (owns_below HO'.out ((Below.refl _ _).alloc (Nat.le_refl _) _)) hG5); clear hO5 hG5 hN5)) | fail)
            go_roundw
            case rel => exact ⟨j + 1, by have := HJ.out; omega, by simp, Lib.hid (own_eq2 HO5.out (by omega) (by rw [List.take_add_one, Hx.out]; simp [iV])), HB5, HL5⟩
            case measure => have := HJ.out; simp [intOf]; omega
          · obtain rfl : j = q := by omega
            have r4 : ((j : Int) < (j : Int)) = False := eq_false (by omega)
            obtain ⟨oa, oc, rfl⟩ := owns_form HO'.out
            have HBB := Lib.hid (HB2.out.trans (HB'.out.mono HB2.out.size))
            have hlen : (tt ++ (lvR o lv dd).take j).length = lo + j := by rw [List.length_append, List.length_take, lvR_len, HDL.out.2, HQ.out]; omega
            have hful : (lvR o lv dd).take j = lvR o lv dd := List.take_of_length_le (by rw [lvR_len, HQ.out]; exact Nat.le_refl _)
            by_cases c32 : 32 < lo + j
            · have r5 : (32 < ((lo + j : Nat) : Int)) = True := eq_true (by omega)
              have r6 : (32 < (lo : Int) + (j : Int)) = True := eq_true (by omega)
              have hs := Lib.hid (H32.out c32)
              clear hlen hful c32
              go_wp2_with fail
              go_returns
              exact ⟨_, by rw [hs.out.1]; rfl, by rw [hs.out.2]; exact row_none, HBB.out, new_none _ _ _⟩
            · have r5 : (32 < ((lo + j : Nat) : Int)) = False := eq_false (by omega)
              have r6 : (32 < (lo : Int) + (j : Int)) = False := eq_false (by omega)
              have hs := Lib.hid (H0.out c32)
              have HRow := Lib.hid (row_of_owns (l := tt ++ (lvR o lv dd).take j) (own_eq2 HO'.out hlen.symm rfl) (by
                intro z hz
                rcases List.mem_append.1 hz with hz | hz
                · exact HDI.out.2 z hz
                · exact HLI.out z (List.mem_of_mem_take hz)))
              rw [hful] at HRow
              have HNw := Lib.hid (show NewIn w (.slice oa (lo + j) oc) from fun a n' c hh => Nat.le_trans z2 (new_of HO'.out a n' c hh))
              clear hlen hful c32
              go_wp2_with fail
              go_returns
              exact ⟨_, by rw [hs.out.1]; rfl, by rw [hs.out.2]; exact HRow.out, HBB.out, HNw.out⟩
end Go.Proofs.YtefejcofmopjfaaGreatDoor

/- Layer 19: what an instruction leaves, by the answer: in new blocks. -/
namespace Go.Proofs.YtefejcofmopjfaaGreatDoor
open Go.RowKit
set_option linter.unusedSimpArgs false
set_option linter.unusedVariables false
set_option maxRecDepth 100000 in
set_option maxHeartbeats 8000000 in
theorem ref19_LeavesN (pc pv pb pu : Value) (p : Pr) (u o a b : Int) (w : World) (h : PrAt w pc pv pb pu p) (hf : fewP p = true) (h1 : oneP p u o a b = 0) (hia : I64 a) (hib : I64 b) :
    Calls Tryz.prog 43 #[.agg #[pc, pv, pb, pu], .int .i64 u, .agg #[.int .i64 o, .int .i64 a, .int .i64 b]] w fun e w' => ∃ r, e = .returned r ∧ RowR 1 intR w' r (leavesL p (unAt p u) o a b) ∧ Below w.heap.size w w' ∧ NewIn w r := by
  have cp := @cell_past
  obtain ⟨⟨f0, f1, f2, f3⟩, _, _, f4⟩ := fewP_is hf
  obtain ⟨hu, ho, ha, hb0, hty, hth⟩ := oneP_parts h1
  have HTy := Lib.hid hty
  clear h1 hty
  have hcs := h.cs
  have hv := h.vs
  have hbk := h.bs
  have hun := h.us
  obtain ⟨s0, t0, rfl⟩ := row_get h.cs
  obtain ⟨s1, t1, rfl⟩ := row_get h.vs
  obtain ⟨s2, t2, rfl⟩ := row_get h.bs
  obtain ⟨s3, t3, rfl⟩ := row_get h.us
  clear h
  obtain ⟨i, rfl⟩ := Int.eq_ofNat_of_zero_le hu.1
  obtain ⟨ka, rfl⟩ := Int.eq_ofNat_of_zero_le ha
  obtain ⟨x, hx⟩ := get_some (L := p.units) (n := i) (by omega)
  have hux : unAt p i = x := by unfold unAt; simp [List.getD, hx]
  rw [hux] at hth ⊢
  have hxf := f4 x (List.mem_of_getElem? hx)
  have HTh := Lib.hid hth
  have HX := Lib.hid hx
  have HIA := Lib.hid hia
  have HIB := Lib.hid hib
  have r0 : ((i : Int) < (p.units.length : Int)) = True := eq_true hu.2
  clear hth hux hx hia hib
  by_cases dd : o = 0 ∨ o = 3 ∨ o = 5 ∨ o = 7 ∨ o = 28 ∨ o = 30 ∨ o = 31 ∨ o = 32 ∨ o = 34 ∨ o = 35 ∨ o = 36
  · have hs : leavesL p x o ka b = [] := by rcases dd with rfl | rfl | rfl | rfl | rfl | rfl | rfl | rfl | rfl | rfl | rfl <;> rfl
    rw [hs]
    rcases dd with rfl | rfl | rfl | rfl | rfl | rfl | rfl | rfl | rfl | rfl | rfl
    all_goals
      clear hcs hv hbk hun f4 hxf hs
      generalize p.consts.length = n0 at *
      generalize p.vars.length = n1 at *
      generalize p.blocks.length = n2 at *
      generalize p.units.length = n3 at *
      go_enter Tryz.func43, Tryz.ntmps43
      go_wp2_with fail
      go_returns
      exact ⟨_, rfl, row_none, by (repeat' (first | (with_reducible exact Below.refl _ _) | (with_reducible assumption) | (with_reducible refine below_drewN ?_ _) | (with_reducible refine Below.alloc ?_ ?_ _) | (with_reducible refine Below.drew ?_) | (with_reducible refine Below.setCell ?_ ?_ _) | go_size)), new_none _ _ _⟩
  have dn0 := dd
  clear dd
  by_cases dd : o = 26
  · have hs : leavesL p x o ka b = [b] := by subst dd; rfl
    rw [hs]
    subst dd
    all_goals
      clear hcs hv hbk hun f4 hxf hs
      generalize p.consts.length = n0 at *
      generalize p.vars.length = n1 at *
      generalize p.blocks.length = n2 at *
      generalize p.units.length = n3 at *
      go_enter Tryz.func43, Tryz.ntmps43
      go_wp2_with fail
      go_returns
      exact ⟨_, rfl, row_cells1 (by first | (go_cell; done) | (simp [go_sem]; done)) HIB.out, by (repeat' (first | (with_reducible exact Below.refl _ _) | (with_reducible assumption) | (with_reducible refine below_drewN ?_ _) | (with_reducible refine Below.alloc ?_ ?_ _) | (with_reducible refine Below.drew ?_) | (with_reducible refine Below.setCell ?_ ?_ _) | go_size)), by refine new_at ?_; first | exact Nat.le_refl _ | omega | (have hBs := hB.size; simp; omega) | (simp; done) | (simp; omega) | go_size⟩
  have dn26 := dd
  clear dd
  by_cases dd : o = 27 ∨ o = 29
  · have hs : leavesL p x o ka b = [0, 0] := by rcases dd with rfl | rfl <;> rfl
    rw [hs]
    rcases dd with rfl | rfl
    all_goals
      clear hcs hv hbk hun f4 hxf hs
      generalize p.consts.length = n0 at *
      generalize p.vars.length = n1 at *
      generalize p.blocks.length = n2 at *
      generalize p.units.length = n3 at *
      go_enter Tryz.func43, Tryz.ntmps43
      go_wp2_with fail
      go_returns
      exact ⟨_, rfl, row_cells2 (by first | (go_cell; done) | (simp [go_sem]; done)) (by first | (go_cell; done) | (simp [go_sem]; done)) I64_0 I64_0, by (repeat' (first | (with_reducible exact Below.refl _ _) | (with_reducible assumption) | (with_reducible refine below_drewN ?_ _) | (with_reducible refine Below.alloc ?_ ?_ _) | (with_reducible refine Below.drew ?_) | (with_reducible refine Below.setCell ?_ ?_ _) | go_size)), by refine new_at ?_; first | exact Nat.le_refl _ | omega | (have hBs := hB.size; simp; omega) | (simp; done) | (simp; omega) | go_size⟩
  have dn27 := dd
  clear dd
  by_cases d1 : o = 1
  · subst d1
    have g1 : ka < p.consts.length := by have := HTh.out; rw [thereP_1 (show oA 1 = 1 by decide)] at this; have := of_decide_eq_true this; omega
    obtain ⟨y, hy⟩ := get_some g1
    have hcy : cAt p ka = y.1 := by unfold cAt; simp [List.getD, hy]
    rw [show leavesL p x 1 ka b = [cAt p ka] from rfl, hcy]
    obtain ⟨bb, off, rfl, hbw, hc⟩ := const_at hcs (k := ka) g1
    obtain ⟨cc, _, hyI, _⟩ := hc ka y hy
    have r1 : ((ka : Int) < (p.consts.length : Int)) = True := eq_true (by omega)
    have HyI := Lib.hid hyI
    generalize y.1 = yv at *
    clear hc hy hcy hcs hv hbk hun g1 hyI f4 hxf
    generalize p.consts.length = n0 at *
    generalize p.vars.length = n1 at *
    generalize p.blocks.length = n2 at *
    generalize p.units.length = n3 at *
    go_enter Tryz.func43, Tryz.ntmps43
    go_wp2_with fail
    go_returns
    exact ⟨_, rfl, row_cells1 (by first | (go_cell; done) | (simp [go_sem]; done)) HyI.out, by (repeat' (first | (with_reducible exact Below.refl _ _) | (with_reducible assumption) | (with_reducible refine below_drewN ?_ _) | (with_reducible refine Below.alloc ?_ ?_ _) | (with_reducible refine Below.drew ?_) | (with_reducible refine Below.setCell ?_ ?_ _) | go_size)), by refine new_at ?_; first | exact Nat.le_refl _ | omega | (have hBs := hB.size; simp; omega) | (simp; done) | (simp; omega) | go_size⟩
  by_cases dv : o = 2 ∨ o = 6
  · have h2 : oA o = 2 := by rcases dv with rfl | rfl <;> decide
    have g1 : ka < p.vars.length := by have := HTh.out; rw [thereP_2 h2] at this; have := (of_decide_eq_true this).1; omega
    obtain ⟨y, hy⟩ := get_some g1
    have hcy : tAt p ka = y.t := by unfold tAt; simp [List.getD, hy]
    obtain ⟨bb, off, rfl, hbw, hc⟩ := var_at hv (k := ka) g1
    obtain ⟨_, cc, _, _, _, _, hyI, _⟩ := hc ka y hy
    have r1 : ((ka : Int) < (p.vars.length : Int)) = True := eq_true (by omega)
    have HyI := Lib.hid hyI
    have hs : leavesL p x o ka b = [tAt p ka] := by rcases dv with rfl | rfl <;> rfl
    rw [hs, hcy]
    generalize y.t = yv at *
    clear hc hy hcy hcs hv hbk hun g1 hyI f4 hxf h2 hs
    rcases dv with rfl | rfl
    all_goals
      generalize p.consts.length = n0 at *
      generalize p.vars.length = n1 at *
      generalize p.blocks.length = n2 at *
      generalize p.units.length = n3 at *
      go_enter Tryz.func43, Tryz.ntmps43
      go_wp2_with fail
      go_returns
      exact ⟨_, rfl, row_cells1 (by first | (go_cell; done) | (simp [go_sem]; done)) HyI.out, by (repeat' (first | (with_reducible exact Below.refl _ _) | (with_reducible assumption) | (with_reducible refine below_drewN ?_ _) | (with_reducible refine Below.alloc ?_ ?_ _) | (with_reducible refine Below.drew ?_) | (with_reducible refine Below.setCell ?_ ?_ _) | go_size)), by refine new_at ?_; first | exact Nat.le_refl _ | omega | (have hBs := hB.size; simp; omega) | (simp; done) | (simp; omega) | go_size⟩
  by_cases ds : o = 4
  · subst ds
    rw [show leavesL p x 4 ka b = [slotAt x ka] from rfl]
    have g1 : (ka : Int) < slotsN x := by have := HTh.out; rw [thereP_3 (by decide)] at this; exact of_decide_eq_true this
    obtain ⟨b3, off3, rfl, hbw3, hc3⟩ := unit_at hun (k := i) (lt_of_get HX.out)
    obtain ⟨u1, u3, u4, c0, cc1, cc2, c3, c4, hU⟩ := hc3 i x HX.out
    obtain ⟨su1, cu1, rfl⟩ := row_get hU.ps
    obtain ⟨su3, cu3, rfl⟩ := row_get hU.ls
    obtain ⟨su4, cu4, rfl⟩ := row_get hU.cs
    have HS := Lib.hid (fun W (hb : Below w.heap.size w W) => ref15_Slots _ _ _ x W (hU.below hb) hxf)
    have HyI := Lib.hid (slotAt_I64 hU ka)
    have hsl := slotsL_len x
    have hget : (slotsL x)[ka]? = some (slotAt x ka) := by
      obtain ⟨z, hz⟩ := get_some (L := slotsL x) (n := ka) (by omega)
      rw [hz]; unfold slotAt; simp [List.getD, hz]
    have Hget := Lib.hid hget
    have hslN := Lib.hid hsl
    have hsnb : slotsN x ≤ 2000 := by rw [← hsl]; obtain ⟨_, j1, j2, _⟩ := fewU_is hxf; unfold slotsL; simp; split <;> simp <;> omega
    generalize slotAt x ka = sv at *
    generalize slotsN x = sn at *
    have r1 : ((ka : Int) < (sn : Int)) = True := eq_true g1
    generalize x.params.length = np at *
    generalize x.locals.length = nlc at *
    generalize x.code.length = ncd at *
    generalize (⟨x.name.toArray⟩ : ByteArray) = nm at *
    generalize x.result = rs at *
    clear hc3 hun hcs hv hbk hU hsl hget f4 hxf
    generalize p.consts.length = n0 at *
    generalize p.vars.length = n1 at *
    generalize p.blocks.length = n2 at *
    generalize p.units.length = n3 at *
    go_enter Tryz.func43, Tryz.ntmps43
    go_wp2_with fail
    go_region_with (first | (go_at_call 63; refine (HS.out _ (by first | assumption | (repeat' (first | (with_reducible exact Below.refl _ _) | (with_reducible assumption) | (with_reducible refine below_drewN ?_ _) | (with_reducible refine Below.alloc ?_ ?_ _) | (with_reducible refine Below.drew ?_) | (with_reducible refine Below.setCell ?_ ?_ _) | go_size)))).mono ?_; rintro e w1 ⟨r, rfl, hr, hb⟩; have hB : Below w.heap.size w w1 := Below.trans (by (repeat' (first | (with_reducible exact Below.refl _ _) | (with_reducible assumption) | (with_reducible refine below_drewN ?_ _) | (with_reducible refine Below.alloc ?_ ?_ _) | (with_reducible refine Below.drew ?_) | (with_reducible refine Below.setCell ?_ ?_ _) | go_size))) (hb.mono (by first | omega | (simp <;> omega))); obtain ⟨hc, hf⟩ := bcell hb; have hlt := blt hb; have hz := hb.size; (try simp only [World.size_alloc, World.size_drew, World.size_setCell, World.heap_drewN] at hz hc hf hlt); obtain ⟨ra, rc, rfl⟩ := row_get hr; rw [hslN.out] at hr ⊢; obtain ⟨b4, off4, rfl, hb4, hc4⟩ := ints_at hr (lt_of_get Hget.out); have hcell := (hc4 ka sv Hget.out).1; clear hr hb hc4))
    all_goals
      go_wp2_with fail
      go_returns
      exact ⟨_, rfl, row_cells1 (by first | (go_cell; done) | (simp [go_sem]; done)) HyI.out, (by first | (repeat' (first | (with_reducible exact Below.refl _ _) | (with_reducible assumption) | (with_reducible refine below_drewN ?_ _) | (with_reducible refine Below.alloc ?_ ?_ _) | (with_reducible refine Below.drew ?_) | (with_reducible refine Below.setCell ?_ ?_ _) | go_size)) | (refine hB.trans ?_; exact (show Below w1.heap.size w1 _ by (repeat' (first | (with_reducible exact Below.refl _ _) | (with_reducible assumption) | (with_reducible refine below_drewN ?_ _) | (with_reducible refine Below.alloc ?_ ?_ _) | (with_reducible refine Below.drew ?_) | (with_reducible refine Below.setCell ?_ ?_ _) | go_size))).mono hB.size)), by refine new_at ?_; first | exact Nat.le_refl _ | omega | (have hBs := hB.size; simp; omega) | (simp; done) | (simp; omega) | go_size⟩
  by_cases d37 : o = 37
  · subst d37
    have g1 : (ka : Int) < p.blocks.length ∧ b < reachN 37 (kindAt p ka) := by have := HTh.out; rw [thereP_8 (by decide)] at this; have := of_decide_eq_true this; exact ⟨this.1, this.2 (by decide)⟩
    obtain ⟨y, hy⟩ := get_some (L := p.blocks) (n := ka) (by omega)
    have hky : kindAt p ka = y.kind := by unfold kindAt; simp [List.getD, hy]
    rw [hky] at g1
    obtain ⟨b2, off2, rfl, hbw2, hc2⟩ := blk_at hbk (k := ka) (lt_of_get hy)
    obtain ⟨_, cc, _, _⟩ := hc2 ka y hy
    rw [show leavesL p x 37 ka b = [fldT (kindAt p ka) b] from rfl, hky]
    have r1 : ((ka : Int) < (p.blocks.length : Int)) = True := eq_true g1.1
    generalize y.kind = kk at *
    have g2 : b < ((bF kk).length : Int) := by have h3 : reachN 37 kk = ((bF kk).length : Int) := if_neg (by decide); rw [h3] at g1; omega
    have hk : 1 ≤ kk ∧ kk ≤ 8 := by
      by_cases hk : 1 ≤ kk ∧ kk ≤ 8
      · exact hk
      · rw [bF_no hk] at g2; simp at g2; omega
    have HF := Lib.hid (fun W => ref11_Fields kk hk W)
    have Hty := Lib.hid (tyV_at hb0 g2)
    have HyI := Lib.hid (fldT_I64 kk b)
    obtain ⟨kb, rfl⟩ := Int.eq_ofNat_of_zero_le hb0
    simp only [Int.toNat_natCast] at Hty
    have r2 : ((kb : Int) < ((bF kk).length : Int)) = True := eq_true g2
    have hblen : (bF kk).length ≤ 8 := by unfold bF; repeat' split
                                          all_goals decide
    generalize fldT kk (kb : Int) = ft at *
    generalize (bF kk).length = fl at *
    generalize bI kk = il at *
    generalize nmV kk = nmv at *
    have hty' := Hty.out
    generalize tyV kk = tyv at *
    clear hc2 hy hky hcs hv hbk hun g1 g2 hk hb0 f4 hxf
    generalize p.consts.length = n0 at *
    generalize p.vars.length = n1 at *
    generalize p.blocks.length = n2 at *
    generalize p.units.length = n3 at *
    go_enter Tryz.func43, Tryz.ntmps43
    go_wp2_with fail
    refine (HF.out _).mono ?_; rintro e w2 ⟨rfl, rfl⟩
    go_wp2_with fail
    go_returns
    exact ⟨_, rfl, row_cells1 (by first | (go_cell; done) | (simp [go_sem]; done)) HyI.out, by (repeat' (first | (with_reducible exact Below.refl _ _) | (with_reducible assumption) | (with_reducible refine below_drewN ?_ _) | (with_reducible refine Below.alloc ?_ ?_ _) | (with_reducible refine Below.drew ?_) | (with_reducible refine Below.setCell ?_ ?_ _) | go_size)), by refine new_at ?_; first | exact Nat.le_refl _ | omega | (have hBs := hB.size; simp; omega) | (simp; done) | (simp; omega) | go_size⟩
  by_cases d33 : o = 33
  · subst d33
    have g1 : ka < p.units.length := by have := HTh.out; rw [thereP_7 (show oA 33 = 7 by decide)] at this; have := (of_decide_eq_true this).2; omega
    obtain ⟨y, hy⟩ := get_some g1
    have huy : unAt p ka = y := by unfold unAt; simp [List.getD, hy]
    have r1 : ((ka : Int) < (p.units.length : Int)) = True := eq_true (by omega)
    obtain ⟨b3, off3, rfl, hbw3, hc3⟩ := unit_at hun (k := ka) g1
    obtain ⟨u1, u3, u4, c0, cc1, cc2, c3, c4, hU⟩ := hc3 ka y hy
    rw [show leavesL p x 33 ka b = if (unAt p ka).result = 0 then [] else [(unAt p ka).result] from rfl, huy]
    have HrI := Lib.hid hU.r64
    generalize y.result = rs at *
    clear hc3 hcs hv hbk hun g1 f4 hxf hU hy huy
    generalize p.consts.length = n0 at *
    generalize p.vars.length = n1 at *
    generalize p.blocks.length = n2 at *
    generalize p.units.length = n3 at *
    by_cases h0 : rs = 0
    · rw [if_pos h0]
      have q0 : (rs != 0) = false := by simp [h0]
      clear h0
      go_enter Tryz.func43, Tryz.ntmps43
      go_wp2_with fail
      go_returns
      exact ⟨_, rfl, row_none, by (repeat' (first | (with_reducible exact Below.refl _ _) | (with_reducible assumption) | (with_reducible refine below_drewN ?_ _) | (with_reducible refine Below.alloc ?_ ?_ _) | (with_reducible refine Below.drew ?_) | (with_reducible refine Below.setCell ?_ ?_ _) | go_size)), new_none _ _ _⟩
    · rw [if_neg h0]
      have q0 : (rs != 0) = true := by simpa using h0
      clear h0
      go_enter Tryz.func43, Tryz.ntmps43
      go_wp2_with fail
      go_returns
      exact ⟨_, rfl, row_cells1 (by first | (go_cell; done) | (simp [go_sem]; done)) HrI.out, by (repeat' (first | (with_reducible exact Below.refl _ _) | (with_reducible assumption) | (with_reducible refine below_drewN ?_ _) | (with_reducible refine Below.alloc ?_ ?_ _) | (with_reducible refine Below.drew ?_) | (with_reducible refine Below.setCell ?_ ?_ _) | go_size)), by refine new_at ?_; first | exact Nat.le_refl _ | omega | (have hBs := hB.size; simp; omega) | (simp; done) | (simp; omega) | go_size⟩
  have dm : 8 ≤ o ∧ o ≤ 25 := by omega
  have hg : aGoes o ka = true := by rw [← typedP_m (b := b) dm]; exact HTy.out
  have har : o < 20 → aResult o ka = (ka : Int) := fun h20 => by unfold aResult; rw [if_pos hg, if_neg (by omega)]
  have hs : leavesL p x o ka b = [aResult o ka] := by
    unfold leavesL lvT
    rw [if_neg (by omega), if_neg (by omega), if_neg (by omega), if_pos (by omega), if_neg (by omega)]
    by_cases h1 : o = 18 ∨ o = 19
    · rw [if_pos h1, har (by omega)]
    · rw [if_neg h1]
      by_cases h2 : aBinary o = false
      · rw [if_pos h2, har (by have h3 : ¬ (8 ≤ o ∧ o ≤ 25 ∧ o ≠ 13 ∧ o ≠ 17) := of_decide_eq_false h2; omega)]
      · rw [if_neg h2]
  rw [hs]
  have HRs := Lib.hid (fun W => ref07_Result o ka W)
  have HRI := Lib.hid (aResult_I64 (o := o) HIA.out)
  generalize aResult o (ka : Int) = rs at *
  have r8 : (8 ≤ o) = True := eq_true dm.1
  have r9 : (o ≤ 25) = True := eq_true dm.2
  have v1 : (o == 1) = false := beq_eq_false_iff_ne.2 (by omega)
  have v2 : (o == 2) = false := beq_eq_false_iff_ne.2 (by omega)
  have v6 : (o == 6) = false := beq_eq_false_iff_ne.2 (by omega)
  have v4 : (o == 4) = false := beq_eq_false_iff_ne.2 (by omega)
  have v26 : (o == 26) = false := beq_eq_false_iff_ne.2 (by omega)
  have v27 : (o == 27) = false := beq_eq_false_iff_ne.2 (by omega)
  have v29 : (o == 29) = false := beq_eq_false_iff_ne.2 (by omega)
  have v33 : (o == 33) = false := beq_eq_false_iff_ne.2 (by omega)
  have v37 : (o == 37) = false := beq_eq_false_iff_ne.2 (by omega)
  clear hcs hv hbk hun f4 hxf hs dm ho dn0 dn26 dn27 dv ds d37 d33 d1 hg har
  generalize p.consts.length = n0 at *
  generalize p.vars.length = n1 at *
  generalize p.blocks.length = n2 at *
  generalize p.units.length = n3 at *
  go_enter Tryz.func43, Tryz.ntmps43
  go_wp2_with fail
  refine (HRs.out _).mono ?_; rintro e w' ⟨rfl, rfl⟩
  go_wp2_with fail
  go_returns
  exact ⟨_, rfl, row_cells1 (by first | (go_cell; done) | (simp [go_sem]; done)) HRI.out, by (repeat' (first | (with_reducible exact Below.refl _ _) | (with_reducible assumption) | (with_reducible refine below_drewN ?_ _) | (with_reducible refine Below.alloc ?_ ?_ _) | (with_reducible refine Below.drew ?_) | (with_reducible refine Below.setCell ?_ ?_ _) | go_size)), by refine new_at ?_; first | exact Nat.le_refl _ | omega | (have hBs := hB.size; simp; omega) | (simp; done) | (simp; omega) | go_size⟩
end Go.Proofs.YtefejcofmopjfaaGreatDoor

/- The document's: whether one unit calls another; whom a unit calls. -/
namespace Go.Proofs.YtefejcofmopjfaaGreatDoor
open Go.RowKit
set_option linter.unusedSimpArgs false
set_option linter.unusedVariables false
open CL (cls ofN)
theorem cls_take {cs : List Ins} {k : Nat} {y : Ins} {c : Int} (hy : cs[k]? = some y) : cls (cs.take (k + 1)) c = (cls (cs.take k) c || (decide (y.1 = 33) && decide (y.2.1 = c))) := by
  rw [take_snoc hy]
  unfold cls
  rw [List.any_append]
  simp
theorem cls_hit {cs : List Ins} {k : Nat} {y : Ins} {c : Int} (hy : cs[k]? = some y) (h1 : y.1 = 33) (h2 : y.2.1 = c) : cls cs c = true := CL.cls_iff.2 ⟨y, List.mem_of_getElem? hy, h1, h2⟩
set_option maxRecDepth 100000 in
set_option maxHeartbeats 4000000 in
theorem ref21_Calls (v : Value) (L : List Un) (u : Nat) (x : Un) (c : Int) (w : World) (hv : RowR 5 unitR w v L) (hx : L[u]? = some x) :
    Calls Tryz.prog 31 #[v, .int .i64 (u : Int), .int .i64 c] w fun r w' => r = .returned (.bool (cls x.code c)) ∧ w' = w := by
  have hn63 := hv.len
  have HV := Lib.hid hv
  obtain ⟨ad, cap, rfl⟩ := row_get hv
  have hu := lt_of_get hx
  obtain ⟨n, hN⟩ : ∃ n, L.length = n := ⟨_, rfl⟩
  have HN := Lib.hid hN
  rw [hN] at hn63 HV hu ⊢
  have q2 : ((u : Int) < (n : Int)) = True := eq_true (by omega)
  have q2' : (u < n) = True := eq_true hu
  obtain ⟨b, off, rfl, hb, hcell⟩ := unit_at HV.out (k := u) (by rw [HN.out]; exact hu)
  obtain ⟨u1, u3, u4, _, _, _, _, c4, hun⟩ := hcell u x hx
  have HX := Lib.hid hun.cs
  have hc63 := hun.cs.len
  obtain ⟨ca, cc, rfl⟩ := row_get hun.cs
  generalize hcs : x.code = cs at *
  obtain ⟨C, hC⟩ : ∃ C, cs.length = C := ⟨_, rfl⟩
  have HCl := Lib.hid hC
  rw [hC] at c4 HX hc63
  obtain ⟨Z, hZ⟩ : ∃ Z, cls cs c = Z := ⟨_, rfl⟩
  rw [hZ]
  have HZ := Lib.hid hZ
  clear hcs hC hcell hun hx HV hv hN hZ
  go_enter Tryz.func31, Tryz.ntmps31
  go_wp2_with fail
  go_loopw [7] (fun jj wr => ∃ k : Nat, k ≤ C ∧ jj = .int .i64 k ∧ Hid (cls (cs.take k) c = false) ∧ wr = w) (fun jj _ => C - (intOf jj).toNat)
  case atStart => exact ⟨0, by omega, rfl, Lib.hid rfl, rfl⟩
  case round =>
    obtain ⟨k, hk, rfl, hT, hwr⟩ := hrel
    have hwr := hwr.symm
    subst hwr
    by_cases hlt : k < C
    case neg =>
      obtain rfl : k = C := by omega
      have qk : ((k : Int) < (k : Int)) = False := eq_false (by omega)
      have qk' : (k < k) = False := eq_false (by omega)
      have HE := Lib.hid (show Z = false by have h := hT.out; rw [List.take_of_length_le (by rw [HCl.out]; exact Nat.le_refl _)] at h; rw [← HZ.out]; exact h)
      clear hT hlt hk
      go_wp2_with fail
      go_ret
      exact ⟨by rw [HE.out]; rfl, rfl⟩
    have qk : ((k : Int) < (C : Int)) = True := eq_true (by omega)
    have qk' : (k < C) = True := eq_true hlt
    have hk62 : k ≤ 9223372036854775806 := by omega
    have HK := Lib.hid hlt
    obtain ⟨y, hy⟩ := get_some (L := cs) (n := k) (by rw [HCl.out]; exact hlt)
    obtain ⟨b2, off2, hse, hb2, hcell⟩ := row_at HX.out (k := k) (by rw [HCl.out]; exact hlt)
    cases hse
    obtain ⟨d0, d1, d2, g0, g1, g2⟩ := ins_cells hcell hy
    have HTk := Lib.hid (show cls (cs.take (k + 1)) c = (cls (cs.take k) c || (decide (y.1 = 33) && decide (y.2.1 = c))) from cls_take hy)
    have HHit := Lib.hid (show y.1 = 33 → y.2.1 = c → Z = true from fun h1 h2 => by rw [← HZ.out]; exact cls_hit hy h1 h2)
    obtain ⟨y0, y1, y2⟩ := y
    simp only at d0 d1 d2 HTk HHit
    have HT := hT
    clear hcell hy hT hlt hk g0 g1 g2
    by_cases e1 : y0 = 33
    case neg =>
      have q3 : (y0 == 33) = false := by simpa using e1
      have HTk := Lib.hid (show cls (cs.take (k + 1)) c = false by rw [HTk.out, HT.out]; simp [e1])
      clear e1
      go_wp2_with fail
      go_roundw
      case rel => exact ⟨k + 1, by have := HK.out; omega, by simp, HTk, by simp⟩
      case measure => have := HK.out; first | (simp [intOf]; done) | (simp [intOf]; omega)
    have q3 : (y0 == 33) = true := by simpa using e1
    by_cases e2 : y1 = c
    case neg =>
      have q4 : (y1 == c) = false := by simpa using e2
      have HTk := Lib.hid (show cls (cs.take (k + 1)) c = false by rw [HTk.out, HT.out]; simp [e2])
      clear e1 e2
      go_wp2_with fail
      go_roundw
      case rel => exact ⟨k + 1, by have := HK.out; omega, by simp, HTk, by simp⟩
      case measure => have := HK.out; first | (simp [intOf]; done) | (simp [intOf]; omega)
    have q4 : (y1 == c) = true := by simpa using e2
    have HE := Lib.hid (HHit.out e1 e2)
    clear e1 e2
    go_wp2_with fail
    go_ret
    exact ⟨by rw [HE.out]; rfl, rfl⟩
/-- those that are called among the first k -/
def ofK (cs : List Ins) (k : Nat) : List Nat := (List.range k).filter fun c => cls cs (c : Int)
theorem ofK_len (cs : List Ins) (k : Nat) : (ofK cs k).length ≤ k := by
  unfold ofK
  have h := List.length_filter_le (fun c : Nat => cls cs (c : Int)) (List.range k)
  rwa [List.length_range] at h
theorem ofK_succ (cs : List Ins) (k : Nat) : ofK cs (k + 1) = if cls cs (k : Int) = true then ofK cs k ++ [k] else ofK cs k := by
  unfold ofK
  rw [List.range_succ, List.filter_append]
  by_cases h : cls cs (k : Int) = true <;> simp [h]
end Go.Proofs.YtefejcofmopjfaaGreatDoor

/- The document's order. -/
namespace Go.Proofs.YtefejcofmopjfaaGreatDoor
open Go.RowKit
set_option linter.unusedSimpArgs false
set_option linter.unusedVariables false
open CL (ordF readyF rdy cls ofN)
def plc (n : Nat) (out : List Nat) : List Bool := (List.range n).map fun c => out.contains c
theorem plc_len (n : Nat) (out : List Nat) : (plc n out).length = n := by simp [plc]
theorem plc_at {n : Nat} {out : List Nat} {c : Nat} (h : c < n) (d : Bool) : (plc n out).getD c d = out.contains c := by simp [plc, List.getD, h]
theorem plc_set {n : Nat} {out : List Nat} {u : Nat} (h : u < n) : (plc n out).set u true = plc n (out ++ [u]) := by
  apply List.ext_getElem?
  intro i
  rw [List.getElem?_set]
  unfold plc
  by_cases e : u = i
  · subst e; simp [h]
  · rw [if_neg e]
    simp only [List.getElem?_map]
    by_cases hi : i < n
    · have : ¬ i = u := fun h => e h.symm
      simp [hi, this]
    · simp [hi]
structure RSt (B n : Nat) (w wr : World) (o : Value) (m : Nat) (out : List Nat) : Prop where
  hb : Below B w wr
  hp : wr.ownsRow B 4 1 (.slice (some ⟨B, 0, none⟩) n n) n (bV1 (plc n out))
  ho : wr.ownsRow (B + 1) 3 1 o m (iV (nI out))
  hs : B + 1 ≤ wr.heap.size
theorem rdy_all {C : List (List Nat)} {out : List Nat} {u n : Nat} {cs : List Ins} (h : C.getD u [] = ofN n cs) : rdy C out u = (!out.contains u && (ofK cs n).all fun c => out.contains c) := by
  unfold rdy
  rw [h]
  rfl
theorem ofK_all {cs : List Ins} {out : List Nat} (k : Nat) : (ofK cs (k + 1)).all (fun c => out.contains c) = ((ofK cs k).all (fun c => out.contains c) && (!cls cs (k : Int) || out.contains k)) := by
  rw [ofK_succ]
  cases h : cls cs (k : Int) <;> simp
set_option maxRecDepth 100000 in
set_option maxHeartbeats 8000000 in
theorem ref21_Order (v : Value) (L : List Un) (w : World) (hv : RowR 5 unitR w v L) (hn : L.length ≤ 100) :
    Calls Tryz.prog 15 #[v] w fun r w' => ∃ u ok, r = .returned (.tuple #[u, .bool ok]) ∧ ok = (ordF (calledF L) L.length []).isSome ∧ w'.ownsRow w.heap.size 3 1 u (orI (ordF (calledF L) L.length [])).length (iV (nI (orI (ordF (calledF L) L.length [])))) ∧ Below w.heap.size w w' := by
  obtain ⟨i, hi, hz, hsize, hby⟩ : ∃ i, Tryz.prog.info? 3 = some i ∧ i.zero = some (.int .i64 0) ∧ i.size = 1 ∧ i.bytes = 8 := ⟨(Tryz.prog.info? 3).get!, by kernel_rfl, by kernel_rfl, by kernel_rfl, by kernel_rfl⟩
  obtain ⟨i3, hi3, hz3, hsize3, hby3⟩ : ∃ i, Tryz.prog.info? 4 = some i ∧ i.zero = some (.bool false) ∧ i.size = 1 ∧ i.bytes = 1 := ⟨(Tryz.prog.info? 4).get!, by kernel_rfl, by kernel_rfl, by kernel_rfl, by kernel_rfl⟩
  obtain ⟨ad, cap, rfl⟩ := row_get hv
  have HCa := Lib.hid (fun (W : World) (h : Below w.heap.size w W) (u : Nat) (x : Un) (hx : L[u]? = some x) (c : Int) => ref21_Calls _ L u x c W (hv.below unitR_stable h) hx)
  obtain ⟨CF, hCF⟩ : ∃ CF, calledF L = CF := ⟨_, rfl⟩
  have HCA := Lib.hid (fun (k : Nat) (x : Un) (hx : L[k]? = some x) => by have h := calledF_at hx; rw [hCF] at h; exact h)
  have HCL := Lib.hid (show CF.length = L.length by rw [← hCF]; exact calledF_len L)
  obtain ⟨n, hN⟩ : ∃ n, L.length = n := ⟨_, rfl⟩
  have HN := Lib.hid hN
  rw [hCF]
  rw [hN] at hn HCa HCA HCL ⊢
  obtain ⟨R, hR⟩ : ∃ R, ordF CF n [] = R := ⟨_, rfl⟩
  rw [hR]
  have HR := Lib.hid hR
  clear hv hN hCF hR
  have hmp := fun W => run_make W 55 4 i3 _ Tryz.underlying55 hi3 hz3 .i64 .i64 (n : Int) (n : Int) (by omega) (by omega) (by rw [hby3]; omega) (by omega)
  rw [hsize3, Nat.mul_one, made_false, Int.toNat_natCast] at hmp
  have hn63 : n ≤ 9223372036854775807 := by omega
  obtain ⟨ZP, hZP⟩ : ∃ Z, (bV1 (List.replicate n false)).toArray = Z := ⟨_, rfl⟩
  rw [hZP] at hmp
  obtain ⟨s, hs⟩ : ∃ s, w.heap.size = s := ⟨_, rfl⟩
  have HSz := Lib.hid hs
  have HP0 := Lib.hid (show RSt s n w (w.alloc (.cells ZP 4)) (.slice none 0 0) 0 [] by
    subst hs
    have k1 := owns_arr w ZP 4 1 n (by rw [← hZP]; simp [bV1]) (by unfold maxLen; omega)
    rw [← hZP] at k1 ⊢
    have e : List.replicate n false = plc n [] := by
      apply List.ext_getElem?
      intro i
      by_cases hi : i < n <;> simp [plc, hi]
    rw [e] at k1 ⊢
    exact ⟨by (repeat' (first | (with_reducible exact Below.refl _ _) | (with_reducible assumption) | (with_reducible refine below_drewN ?_ _) | (with_reducible refine Below.alloc ?_ ?_ _) | (with_reducible refine Below.drew ?_) | (with_reducible refine Below.setCell ?_ ?_ _) | go_size)), k1, World.ownsRow_nil _ _ _ _, by simp⟩)
  clear hZP hi3 hz3 hsize3 hby3
  go_enter Tryz.func15, Tryz.ntmps15
  go_wp2_with fail
  obtain ⟨W0, hW0⟩ : ∃ W, W = w.alloc (.cells ZP 4) := ⟨_, rfl⟩
  rw [← hW0] at HP0 ⊢
  clear hmp hW0 hs
  go_loopw [5] (fun oo wr => ∃ (m oc : Nat) (oa : Option Addr) (out : List Nat), oo = .slice oa m oc ∧ Hid (out.length = m ∧ m ≤ n ∧ ordF CF (n - m) out = R) ∧ Hid (RSt s n w wr (.slice oa m oc) m out)) (fun oo _ => n - (match oo with | .slice _ m _ => m | _ => 0))
  case atStart => exact ⟨0, 0, none, [], rfl, Lib.hid ⟨rfl, Nat.zero_le _, HR.out⟩, HP0⟩
  case round =>
    obtain ⟨m, oc, oa, out, rfl, hT, hQ⟩ := hrel
    by_cases hlt : m < n
    case neg =>
      have hm : n = m := by have := hT.out.2.1; omega
      subst hm
      have q2 : ((n : Int) < (n : Int)) = False := eq_false (by omega)
      have q2' : (n < n) = False := eq_false (by omega)
      have HRe := Lib.hid (show R = some out by have h := hT.out.2.2; rw [Nat.sub_self] at h; exact h.symm)
      have HQQ := hQ
      have HT := hT
      clear hQ hT hlt
      go_wp2_with fail
      go_returns
      refine ⟨_, true, rfl, by rw [HRe.out]; rfl, ?_, by rw [HSz.out]; exact HQQ.out.hb⟩
      rw [HRe.out]
      exact own_eq2 (own_low HQQ.out.ho (by have := HSz.out; omega)) HT.out.1.symm rfl
    have q2 : ((m : Int) < (n : Int)) = True := eq_true (by omega)
    have q2' : (m < n) = True := eq_true hlt
    have HK := Lib.hid hlt
    have HStep := Lib.hid (show ordF CF (n - m) out = match readyF CF out with | none => none | some u => ordF CF (n - (m + 1)) (out ++ [u]) by rw [show n - m = (n - (m + 1)) + 1 by omega]; rfl)
    have HRd := Lib.hid (show readyF CF out = (List.range n).find? (rdy CF out) by unfold readyF; rw [HCL.out])
    have HT := hT
    have HQQ := hQ
    clear hT hQ hlt
    rename World => W1
    go_wp2_with fail
    go_loopw [6, 7] (fun nx uu wr => ∃ (j : Nat) (F : Option Nat), j ≤ n ∧ uu = .int .i64 ((j : Int) - 1) ∧ nx = .int .i64 (optI F) ∧ Hid (F = ((List.range n).drop j).find? (rdy CF out)) ∧ wr = W1) (fun _ uu _ => (intOf uu + 1).toNat)
    case atStart => exact ⟨n, none, Nat.le_refl _, rfl, rfl, Lib.hid (by rw [List.drop_of_length_le (by simp)]; rfl), rfl⟩
    case round =>
      obtain ⟨j, F, hj, rfl, rfl, hF, hwr⟩ := hrel
      subst hwr
      rename World => W1
      by_cases hj0 : j = 0
      case pos =>
        subst hj0
        have q3 : ((0 : Int) ≤ ((0 : Nat) : Int) - 1) = False := eq_false (by omega)
        have HFe := Lib.hid (show F = readyF CF out by rw [hF.out, HRd.out]; rfl)
        clear hF hj
        cases F with
        | none =>
          have HE := Lib.hid (show R = none by have h := HT.out.2.2; rw [HStep.out, ← HFe.out] at h; exact h.symm)
          have qm : optI none = -1 := rfl
          rw [qm]
          go_wp2_with fail
          go_returns
          refine ⟨_, false, rfl, by rw [HE.out]; rfl, by rw [HE.out]; exact World.ownsRow_nil _ _ _ _, by rw [HSz.out]; exact HQQ.out.hb⟩
        | some u =>
          have HE := Lib.hid (show ordF CF (n - (m + 1)) (out ++ [u]) = R by have h := HT.out.2.2; rw [HStep.out, ← HFe.out] at h; exact h)
          have hu := (CL.ready_some HFe.out.symm).1
          rw [HCL.out] at hu
          have qm : optI (some u) = (u : Int) := rfl
          rw [qm]
          have q4 : ((u : Int) < 0) = False := eq_false (by omega)
          have q5 : ((u : Int) < (n : Int)) = True := eq_true (by omega)
          have q5' : (u < n) = True := eq_true hu
          have fu := HQQ.out.hp.frozenAt u
          have cu := owns_bool_at HQQ.out.hp hu false
          rw [plc_at hu] at cu
          have HP2 := Lib.hid (show (W1.setCell ⟨s, u, none⟩ (.bool true)).ownsRow s 4 1 (.slice (some ⟨s, 0, none⟩) n n) n (bV1 (plc n (out ++ [u]))) by
            have h := (HQQ.out.hp.stored u (.bool true)).1
            rw [bV1_set, plc_set hu] at h
            exact h)
          have HO2 := Lib.hid (show (W1.setCell ⟨s, u, none⟩ (.bool true)).ownsRow (s + 1) 3 1 (.slice oa m oc) m (iV (nI out)) from owns_set HQQ.out.ho (fun hg => by have := (owns_lt HQQ.out.ho hg).1; omega))
          have HB2 := Lib.hid (HQQ.out.hb.setCell (p := ⟨s, u, none⟩) (Nat.le_refl _) (.bool true))
          have HS2 := Lib.hid (show s + 1 ≤ (W1.setCell ⟨s, u, none⟩ (.bool true)).heap.size by simpa using HQQ.out.hs)
          obtain ⟨W2, hW2⟩ : ∃ W2, W2 = W1.setCell ⟨s, u, none⟩ (.bool true) := ⟨_, rfl⟩
          rw [← hW2] at HP2 HO2 HB2 HS2
          have HW2 := Lib.hid hW2
          clear hu hW2
          go_wp2_with (first | (at_builtin; rw [← HW2.out]; go_loud (refine wpList_append_src rfl (.tmp 54) (.tmp 56) 35 rfl (s + 1) 3 i (.int .i64 0) 1 8 Tryz.underlying35 hi hz hsize hby rfl (by omega) _ m _ rfl (owns_below HO2.out ((Below.refl _ _).alloc (Nat.le_refl _) _)) _ 1 [.int .i64 (u : Int)] rfl (src_newE _ _ _ (by rw [HW2.out]; simp)) rfl (by intro u hu; simp at hu; rw [hu]; rfl) (by have := HK.out; unfold maxLen; omega) (by have := HK.out; omega) (by have := HS2.out; simp; omega) ?_; intro v4 w4 hO4 hG4; have HQ4 := Lib.hid (show RSt s n w w4 v4 (m + 1) (out ++ [u]) from ⟨grown3 (HB2.out.alloc (by have := HS2.out; omega) _) (by have := HS2.out; simp; omega) (own_low (owns_below HO2.out ((Below.refl _ _).alloc (Nat.le_refl _) _)) (Nat.le_succ _)) hG4, owns_grown (owns_below HP2.out ((Below.refl _ _).alloc (Nat.le_refl _) _)) hG4 (fun g hg he => by have h1 := (owns_lt HO2.out he).1; have h2 : s = g := Option.some.inj hg; omega), by rw [nI_app, iV_app]; exact hO4, Nat.le_trans HS2.out (Nat.le_trans (by simp) hG4.size)⟩); have hf4 := owns_form hO4; clear hO4 hG4)) | fail)
          obtain ⟨ua, uc, rfl⟩ := hf4
          go_roundw
          case rel => exact ⟨m + 1, uc, ua, out ++ [u], rfl, Lib.hid ⟨by rw [List.length_append, HT.out.1]; rfl, by have := HK.out; omega, HE.out⟩, HQ4⟩
          case measure => have := HK.out; show n - (m + 1) < n - m; omega
      obtain ⟨u, rfl⟩ : ∃ u, j = u + 1 := ⟨j - 1, by omega⟩
      have hu : u < n := by omega
      have hju : (((u + 1 : Nat) : Int) - 1) = (u : Int) := by omega
      rw [hju]
      have q3 : ((0 : Int) ≤ (u : Int)) = True := eq_true (by omega)
      have q5 : ((u : Int) < (n : Int)) = True := eq_true (by omega)
      have q5' : (u < n) = True := eq_true hu
      have hwd : wrap64 ((u : Int) - 1) = (u : Int) - 1 := by unfold wrap64; omega
      have HU := Lib.hid hu
      obtain ⟨x, hx⟩ := get_some (L := L) (n := u) (by rw [HN.out]; exact hu)
      have HCx := Lib.hid (fun c => HCa.out W1 (by rw [HSz.out]; exact HQQ.out.hb) u x hx c)
      have hCu := HCA.out u x hx
      have HRu := Lib.hid (rdy_all (out := out) (show CF.getD u [] = ofN n x.code by simp [List.getD, hCu]))
      have HFu := Lib.hid (show ((List.range n).drop u).find? (rdy CF out) = if rdy CF out u = true then some u else F by
        rw [List.drop_eq_getElem_cons (by simpa using hu), List.find?_cons]
        have e : (List.range n)[u]'(by simpa using hu) = u := by simp
        rw [e, ← hF.out]
        cases rdy CF out u <;> rfl)
      have cu := owns_bool_at HQQ.out.hp hu false
      rw [plc_at hu] at cu
      have HCb := Lib.hid (fun c (hc : c < n) => by have h := owns_bool_at HQQ.out.hp hc false; rw [plc_at hc] at h; exact h)
      generalize x.code = cs at *
      generalize rdy CF out u = ru at *
      generalize out.contains u = ou at *
      clear hF hj hj0 hu hju hx hCu
      go_wp2_with fail
      go_loopw [8, 9] (fun rr cc wr => ∃ (k : Nat), k ≤ n ∧ cc = .int .i64 k ∧ rr = .bool (!ou && (ofK cs k).all fun c => out.contains c) ∧ wr = W1) (fun _ cc _ => n - (intOf cc).toNat)
      case atStart => exact ⟨0, Nat.zero_le _, rfl, by simp [ofK], rfl⟩
      case round =>
        obtain ⟨k, hk, rfl, rfl, hwr⟩ := hrel
        subst hwr
        rename World => W1
        by_cases hlt : k < n
        case neg =>
          obtain rfl : n = k := by omega
          have q6 : ((n : Int) < (n : Int)) = False := eq_false (by omega)
          have q6' : (n < n) = False := eq_false (by omega)
          rw [← HRu.out]
          clear hlt hk
          cases ru
          · have HFx := Lib.hid (show ((List.range n).drop u).find? (rdy CF out) = F from HFu.out)
            go_wp2_with fail
            go_roundw
            case rel => exact ⟨u, F, by have := HU.out; omega, by rw [hwd], rfl, Lib.hid HFx.out.symm, by simp⟩
            case measure => first | (simp [intOf]; done) | (simp [intOf]; omega)
          · have HFx := Lib.hid (show ((List.range n).drop u).find? (rdy CF out) = some u from HFu.out)
            go_wp2_with fail
            go_roundw
            case rel => exact ⟨u, some u, by have := HU.out; omega, by rw [hwd], rfl, Lib.hid HFx.out.symm, by simp⟩
            case measure => first | (simp [intOf]; done) | (simp [intOf]; omega)
        have q6 : ((k : Int) < (n : Int)) = True := eq_true (by omega)
        have q6' : (k < n) = True := eq_true hlt
        have hk62 : k ≤ 9223372036854775806 := by omega
        have HKk := Lib.hid hlt
        have ck := HCb.out k hlt
        have HC := Lib.hid (HCx.out (k : Int))
        have HAl := Lib.hid (ofK_all (cs := cs) (out := out) k)
        generalize out.contains k = ok at *
        generalize (ofK cs k).all (fun c => out.contains c) = a1 at *
        clear hlt hk
        go_wp2_with fail
        refine HC.out.mono ?_; rintro r w2 ⟨rfl, rfl⟩
        cases hcl : cls cs (k : Int)
        · have HA2 := Lib.hid (show (!ou && (ofK cs (k + 1)).all fun c => out.contains c) = (!ou && a1) by rw [HAl.out, hcl]; simp)
          clear hcl
          go_wp2_with fail
          go_roundw
          case rel => exact ⟨k + 1, by have := HKk.out; omega, by simp, by rw [HA2.out], by simp⟩
          case measure => have := HKk.out; first | (simp [intOf]; done) | (simp [intOf]; omega)
        · cases ok
          · have HA2 := Lib.hid (show (!ou && (ofK cs (k + 1)).all fun c => out.contains c) = false by rw [HAl.out, hcl]; simp)
            clear hcl
            go_wp2_with fail
            go_roundw
            case rel => exact ⟨k + 1, by have := HKk.out; omega, by simp, by rw [HA2.out], by simp⟩
            case measure => have := HKk.out; first | (simp [intOf]; done) | (simp [intOf]; omega)
          · have HA2 := Lib.hid (show (!ou && (ofK cs (k + 1)).all fun c => out.contains c) = (!ou && a1) by rw [HAl.out, hcl]; simp)
            clear hcl
            go_wp2_with fail
            go_roundw
            case rel => exact ⟨k + 1, by have := HKk.out; omega, by simp, by rw [HA2.out], by simp⟩
            case measure => have := HKk.out; first | (simp [intOf]; done) | (simp [intOf]; omega)
end Go.Proofs.YtefejcofmopjfaaGreatDoor

/- Layer 22: the answer's verify.Check and Right (ref22): by what is declared, typed, called. -/
namespace Go.Proofs.YtefejcofmopjfaaGreatDoor
open Go.RowKit
open CL (ordF)
set_option linter.unusedSimpArgs false
set_option linter.unusedVariables false
theorem ref19_Step (pc pv pb pu : Value) (p : Pr) (u o a b : Int) (v : Value) (st : List Int) (w : World) (h : PrAt w pc pv pb pu p) (hf : fewP p = true) (hia : I64 a) (hib : I64 b) (hst : RowR 1 intR w v st) (hsl : st.length ≤ 100) :
    Calls Tryz.prog 28 #[.agg #[pc, pv, pb, pu], .int .i64 u, .agg #[.int .i64 o, .int .i64 a, .int .i64 b], v] w fun e w' => ∃ r, e = .returned (.tuple #[r, .int .i64 (stepER p u o a b st)]) ∧ RowR 1 intR w' r (stepSR p u o a b st) ∧ Below w.heap.size w w' ∧ NewIn w r := by
  obtain ⟨b1, b2⟩ := tk_small (p := p) (x := unAt p u) (o := o) (a := a) (b := b) (few_wide hf)
  exact ref19_Step_of pc pv pb pu u o a b v st (oneP p u o a b) (takesL p (unAt p u) o a b) (leavesL p (unAt p u) o a b) w
    (fun W hb => ref18_One pc pv pb pu p u o a b W (h.below hb) hf)
    (fun h1 W hb => ref19_Takes pc pv pb pu p u o a b W (h.below hb) hf h1 hia hib)
    (fun h1 W hb => ref19_LeavesN pc pv pb pu p u o a b W (h.below hb) hf h1 hia hib) hst hsl b1 b2
    (fun hh => by subst hh; rfl) (fun hh => by subst hh; rfl)
theorem ref20_Entries (cv pv bv uv : Value) (p : Pr) (u : Int) (w : World) (hP : PrAt w cv pv bv uv p) (hT : TabR w) (hf : fewP p = true) :
    Calls Tryz.prog 14 #[.agg #[cv, pv, bv, uv], .int .i64 u] w fun e w' => ∃ a b, e = .returned (.tuple #[a, b, .int .i64 (entR p u).1, .int .i64 (entR p u).2]) ∧ Below w.heap.size w w' :=
  ref20_Entries_of cv pv bv uv p u w hP hf (fun W hb => ref18_Check cv pv bv uv p u W (hP.below hb) (hT.below hb) hf)
    (fun W o a b v st hb hia hib hr hl => (ref19_Step cv pv bv uv p u o a b v st W (hP.below hb) hf hia hib hr hl).mono fun e w' ⟨r, h1, h2, h3, _⟩ => ⟨r, h1, h2, h3⟩)
/-- what the answer tells: the unit, the place, the error -/
def chkR (p : Pr) : Int × Int × Int := findA (findF (checkE p) (typedT (fun k => entR p k) p.units.length) (ordF (callsF p.units) p.units.length []).isSome)
set_option maxRecDepth 100000 in
set_option maxHeartbeats 4000000 in
theorem ref22_Check_of (cv pv bv : Value) (s3 : Option Addr) (n t3 : Nat) (w : World) (ce : Int) (F : Nat → Int × Int) (ok : Bool) (z : Int × Int × Int) (hn : n ≤ 100)
    (hz : z = findA (findF ce (typedT F n) ok))
    (hC : ∀ W, Below w.heap.size w W → Calls Tryz.prog 13 #[.agg #[cv, pv, bv, .slice s3 n t3]] W fun e w' => e = .returned (.int .i64 ce) ∧ Below W.heap.size W w')
    (hE : ∀ (k : Nat) W, Below w.heap.size w W → Calls Tryz.prog 14 #[.agg #[cv, pv, bv, .slice s3 n t3], .int .i64 k] W fun e w' => ∃ a b, e = .returned (.tuple #[a, b, .int .i64 (F k).1, .int .i64 (F k).2]) ∧ Below W.heap.size W w')
    (hO : ∀ W, Below w.heap.size w W → Calls Tryz.prog 15 #[.slice s3 n t3] W fun e w' => ∃ u, e = .returned (.tuple #[u, .bool ok]) ∧ Below W.heap.size W w') :
    Calls Tryz.prog 8 #[.agg #[cv, pv, bv, .slice s3 n t3]] w fun e w' => e = .returned (.tuple #[.int .i64 z.1, .int .i64 z.2.1, .int .i64 z.2.2]) ∧ Below w.heap.size w w' := by
  obtain ⟨W1, hW1⟩ : ∃ W1, W1 = w.alloc (.cells #[cv, pv, bv, .slice s3 n t3] 27) := ⟨_, rfl⟩
  have hb1 : Below w.heap.size w W1 := by rw [hW1]; exact (Below.refl _ _).alloc (Nat.le_refl _) _
  have hbx : W1.heap[w.heap.size]? = some (.cells #[cv, pv, bv, .slice s3 n t3] 27 (0, 0)) := by rw [hW1]; exact get_last rfl
  have HW1 := Lib.hid hW1
  have Hb1 := Lib.hid hb1
  have e0 : W1.cell? ⟨w.heap.size, 0, none⟩ = some cv := obj_cell hbx rfl
  have e1 : W1.cell? ⟨w.heap.size, 1, none⟩ = some pv := obj_cell hbx rfl
  have e2 : W1.cell? ⟨w.heap.size, 2, none⟩ = some bv := obj_cell hbx rfl
  have e3 : W1.cell? ⟨w.heap.size, 3, none⟩ = some (.slice s3 n t3) := obj_cell hbx rfl
  have zb : w.heap.size < W1.heap.size := heap_lt hbx
  have HE0 := Lib.hid (And.intro e0 (And.intro e1 (And.intro e2 e3)))
  have HC := Lib.hid hC
  have HEn := Lib.hid hE
  have HO := Lib.hid hO
  clear hW1 hb1 hbx e0 e1 e2 e3 hC hE hO
  by_cases h0 : ce = 0
  case neg =>
    have HZ := Lib.hid (show z = (-1, -1, ce) by rw [hz]; unfold findF; rw [if_neg h0]; rfl)
    have q1 : (ce != 0) = true := by simpa using h0
    clear hz h0
    go_enter Tryz.func8, Tryz.ntmps8
    go_wp2_with fail
    rw [← HW1.out]
    refine (HC.out _ Hb1.out).mono ?_; rintro e w1 ⟨rfl, hb2⟩
    have HB2 := Lib.hid (Hb1.out.trans (hb2.mono Hb1.out.size))
    clear hb2
    go_wp2_with fail
    go_returns
    exact ⟨by rw [HZ.out]; rfl, HB2.out⟩
  subst h0
  have HZ := Lib.hid hz
  clear hz
  go_enter Tryz.func8, Tryz.ntmps8
  go_wp2_with fail
  rw [← HW1.out]
  refine (HC.out _ Hb1.out).mono ?_; rintro e w1 ⟨rfl, hb2⟩
  have HB1 := Lib.hid hb2
  clear hb2
  go_wp2_with fail
  go_loopw [6] (fun jj wr => ∃ k : Nat, k ≤ n ∧ jj = .int .i64 k ∧ Hid (∀ j, j < k → (F j).2 = 0) ∧ Hid (Below W1.heap.size W1 wr)) (fun jj _ => n - (intOf jj).toNat)
  case atStart => exact ⟨0, Nat.zero_le _, rfl, Lib.hid (fun j hj => by omega), HB1⟩
  case round =>
    obtain ⟨k, hk, rfl, hall, HB⟩ := hrel
    have e0 := (HB.out.cell (p := ⟨w.heap.size, 0, none⟩) zb).trans HE0.out.1
    have e1 := (HB.out.cell (p := ⟨w.heap.size, 1, none⟩) zb).trans HE0.out.2.1
    have e2 := (HB.out.cell (p := ⟨w.heap.size, 2, none⟩) zb).trans HE0.out.2.2.1
    have e3 := (HB.out.cell (p := ⟨w.heap.size, 3, none⟩) zb).trans HE0.out.2.2.2
    have HBw := Lib.hid (Hb1.out.trans (HB.out.mono Hb1.out.size))
    by_cases hlt : k < n
    · have r1 : ((k : Int) < (n : Int)) = True := eq_true (by omega)
      go_wp2_with fail
      refine (HEn.out k _ HBw.out).mono ?_; rintro e w2 ⟨va, vb, rfl, hb3⟩
      have HB3 := Lib.hid (HB.out.trans (hb3.mono HB.out.size))
      have HBw3 := Lib.hid (Hb1.out.trans (HB3.out.mono Hb1.out.size))
      clear hb3 e0 e1 e2 e3
      by_cases hf : (F k).2 = 0
      · have q2 : ((F k).2 != 0) = false := by simp [hf]
        have hs := Lib.hid (show ∀ j, j < k + 1 → (F j).2 = 0 from fun j hj => by
          by_cases hjk : j = k
          · rw [hjk]; exact hf
          · exact hall.out j (by omega))
        generalize (F k).1 = f1 at *
        generalize (F k).2 = f2 at *
        clear hf
        go_wp2_with fail
        go_roundw
        case rel => exact ⟨k + 1, by omega, by simp, hs, HB3⟩
        case measure => first | (simp [intOf]; done) | (simp [intOf]; omega)
      · have q2 : ((F k).2 != 0) = true := by simpa using hf
        have HZ2 := Lib.hid (show z = ((k : Int), (F k).1, (F k).2) by
          rw [HZ.out, typedT_some hlt hall.out hf]; rfl)
        generalize (F k).1 = f1 at *
        generalize (F k).2 = f2 at *
        clear hf
        go_wp2_with fail
        go_returns
        exact ⟨by rw [HZ2.out]; rfl, HBw3.out⟩
    · obtain rfl : k = n := by omega
      have r1 : ((k : Int) < (k : Int)) = False := eq_false (by omega)
      have HZ2 := Lib.hid (show z = if ok then (-1, -1, 0) else (-1, -1, 12) by
        rw [HZ.out, typedT_none hall.out]
        cases ok <;> rfl)
      go_wp2_with fail
      refine (HO.out _ HBw.out).mono ?_; rintro e w2 ⟨va, rfl, hb3⟩
      have HB3 := Lib.hid (HBw.out.trans (hb3.mono HBw.out.size))
      clear hb3
      cases ok
      · go_wp2_with fail
        go_returns
        exact ⟨by rw [HZ2.out]; rfl, HB3.out⟩
      · go_wp2_with fail
        go_returns
        exact ⟨by rw [HZ2.out]; rfl, HB3.out⟩
theorem ref22_Check (cv pv bv uv : Value) (p : Pr) (w : World) (hP : PrAt w cv pv bv uv p) (hT : TabR w) (hf : fewP p = true) :
    Calls Tryz.prog 8 #[.agg #[cv, pv, bv, uv]] w fun e w' => e = .returned (.tuple #[.int .i64 (chkR p).1, .int .i64 (chkR p).2.1, .int .i64 (chkR p).2.2]) ∧ Below w.heap.size w w' := by
  obtain ⟨⟨f0, f1, f2, f3⟩, _, _, f4⟩ := fewP_is hf
  have hus := hP.us
  obtain ⟨s3, t3, rfl⟩ := row_get hP.us
  refine ref22_Check_of cv pv bv s3 p.units.length t3 w (checkE p) (fun k => entR p k) (ordF (callsF p.units) p.units.length []).isSome (chkR p) (by omega) rfl (fun W hb => ref17_Check _ _ _ _ p W (hP.below hb) hf) (fun k W hb => ref20_Entries _ _ _ _ p k W (hP.below hb) (hT.below hb) hf) (fun W hb => ?_)
  refine (ref21_Order _ p.units W (hP.below hb).us (by omega)).mono ?_
  rintro e w' ⟨u, ok, rfl, rfl, _, hb3⟩
  exact ⟨u, rfl, hb3⟩
end Go.Proofs.YtefejcofmopjfaaGreatDoor

/- The law VerifyChecks: the program and the answer tell the same. -/
namespace Go.Proofs.YtefejcofmopjfaaGreatDoor
open Go.RowKit
open CL (ordF)
set_option linter.unusedSimpArgs false
set_option linter.unusedVariables false
theorem ent_all {p : Pr} (hf : fewP p = true) (h0 : checkE p = 0) (k : Nat) : entT p k = entR p k := by
  by_cases hc : (chkP p k).2 = 0
  · refine ent_same (decl_of h0) ?_ hc
    unfold unAt
    rw [List.getD_eq_getElem?_getD]
    cases hx : p.units[(k : Int).toNat]? with
    | none => simp
    | some y => exact (fewU_is ((fewP_is hf).2.2.2 y (List.mem_of_getElem? hx))).2.2.2
  · unfold entT entR
    rw [if_pos hc, if_pos hc]
theorem chk_same {p : Pr} (hf : fewP p = true) : chkR p = findA (findF (checkE p) (typT p) (ordT p)) := by
  unfold chkR typT ordT
  by_cases h0 : checkE p = 0
  · rw [show (fun k : Nat => entR p k) = (fun k : Nat => entT p k) from funext fun k => (ent_all hf h0 k).symm]
  · unfold findF
    rw [if_neg h0, if_neg h0]
set_option maxRecDepth 100000 in
set_option maxHeartbeats 4000000 in
theorem verifyChecks_walk (cv pv bv uv : Value) (p : Pr) (w : World) (hP : PrAt w cv pv bv uv p) (hT : TabR w) (hBt : BTab w) (hG : ErrT w) :
    Calls Tryz.prog 3 #[.agg #[cv, pv, bv, uv]] w fun e w' => e = .returned (.bool true) ∧ Below w.heap.size w w' := by
  have HF := Lib.hid (fun W (hb : Below w.heap.size w W) => law16_Few cv pv bv uv p W (hP.below hb))
  have HA := Lib.hid (fun W (hb : Below w.heap.size w W) => law22_awake W (hT.below hb) (hBt.below hb) (hG.below hb))
  obtain ⟨W1, hW1⟩ : ∃ W1, W1 = w.alloc (.cells #[cv, pv, bv, uv] 27) := ⟨_, rfl⟩
  have hb1 : Below w.heap.size w W1 := by rw [hW1]; exact (Below.refl _ _).alloc (Nat.le_refl _) _
  have hbx : W1.heap[w.heap.size]? = some (.cells #[cv, pv, bv, uv] 27 (0, 0)) := by rw [hW1]; exact get_last rfl
  have HW1 := Lib.hid hW1
  have Hb1 := Lib.hid hb1
  have e0 : W1.cell? ⟨w.heap.size, 0, none⟩ = some cv := obj_cell hbx rfl
  have e1 : W1.cell? ⟨w.heap.size, 1, none⟩ = some pv := obj_cell hbx rfl
  have e2 : W1.cell? ⟨w.heap.size, 2, none⟩ = some bv := obj_cell hbx rfl
  have e3 : W1.cell? ⟨w.heap.size, 3, none⟩ = some uv := obj_cell hbx rfl
  have zb : w.heap.size < W1.heap.size := heap_lt hbx
  have HE0 := Lib.hid (And.intro e0 (And.intro e1 (And.intro e2 e3)))
  clear hW1 hb1 hbx e0 e1 e2 e3
  cases hf : fewP p
  · rw [hf] at HF
    clear hf hP hT hBt hG
    go_enter Tryz.func3, Tryz.ntmps3
    go_wp2_with fail
    rw [← HW1.out]
    refine (HF.out _ Hb1.out).mono ?_; rintro e w1 ⟨rfl, hb2⟩
    have HB2 := Lib.hid (Hb1.out.trans (hb2.mono Hb1.out.size))
    clear hb2
    go_wp2_with fail
    refine (HA.out _ HB2.out).mono ?_; rintro e w2 ⟨rfl, hb3⟩
    go_wp2_with fail
    go_ret
    exact ⟨rfl, HB2.out.trans (hb3.mono HB2.out.size)⟩
  rw [hf] at HF
  have HV := Lib.hid (fun W (hb : Below w.heap.size w W) => verify_Check _ _ _ _ p W (hP.below hb) (hT.below hb) (hBt.below hb) (hG.below hb) (few_wide hf))
  have HR := Lib.hid (fun W (hb : Below w.heap.size w W) => ref22_Check _ _ _ _ p W (hP.below hb) (hT.below hb) hf)
  have HRt := Lib.hid (fun W (hb : Below w.heap.size w W) => verify_Right _ _ _ _ p W (hP.below hb) (hT.below hb) (hBt.below hb) (hG.below hb) (few_wide hf))
  rw [chk_same hf] at HR
  unfold vR at HRt
  clear hf hP hT hBt hG
  generalize findA (findF (checkE p) (typT p) (ordT p)) = Z at *
  obtain ⟨z1, z2, z3⟩ := Z
  simp only at HV HR HRt
  have q1 : (z1 == z1) = true := by simp
  have q2 : (z2 == z2) = true := by simp
  have q3 : (z3 == z3) = true := by simp
  go_enter Tryz.func3, Tryz.ntmps3
  go_wp2_with fail
  rw [← HW1.out]
  refine (HF.out _ Hb1.out).mono ?_; rintro e w1 ⟨rfl, hb2⟩
  have HB2 := Lib.hid hb2
  have HBw2 := Lib.hid (Hb1.out.trans (hb2.mono Hb1.out.size))
  have e0 := (HB2.out.cell (p := ⟨w.heap.size, 0, none⟩) zb).trans HE0.out.1
  have e1 := (HB2.out.cell (p := ⟨w.heap.size, 1, none⟩) zb).trans HE0.out.2.1
  have e2 := (HB2.out.cell (p := ⟨w.heap.size, 2, none⟩) zb).trans HE0.out.2.2.1
  have e3 := (HB2.out.cell (p := ⟨w.heap.size, 3, none⟩) zb).trans HE0.out.2.2.2
  clear hb2
  go_wp2_with fail
  refine (HV.out _ HBw2.out).mono ?_; rintro e w2 ⟨rfl, hb3⟩
  have HB3 := Lib.hid (HB2.out.trans (hb3.mono HB2.out.size))
  have HBw3 := Lib.hid (Hb1.out.trans (HB3.out.mono Hb1.out.size))
  clear hb3 e0 e1 e2 e3
  have e0 := (HB3.out.cell (p := ⟨w.heap.size, 0, none⟩) zb).trans HE0.out.1
  have e1 := (HB3.out.cell (p := ⟨w.heap.size, 1, none⟩) zb).trans HE0.out.2.1
  have e2 := (HB3.out.cell (p := ⟨w.heap.size, 2, none⟩) zb).trans HE0.out.2.2.1
  have e3 := (HB3.out.cell (p := ⟨w.heap.size, 3, none⟩) zb).trans HE0.out.2.2.2
  go_wp2_with fail
  refine (HR.out _ HBw3.out).mono ?_; rintro e w3 ⟨rfl, hb4⟩
  have HB4 := Lib.hid (HB3.out.trans (hb4.mono HB3.out.size))
  have HBw4 := Lib.hid (Hb1.out.trans (HB4.out.mono Hb1.out.size))
  clear hb4 e0 e1 e2 e3
  have e0 := (HB4.out.cell (p := ⟨w.heap.size, 0, none⟩) zb).trans HE0.out.1
  have e1 := (HB4.out.cell (p := ⟨w.heap.size, 1, none⟩) zb).trans HE0.out.2.1
  have e2 := (HB4.out.cell (p := ⟨w.heap.size, 2, none⟩) zb).trans HE0.out.2.2.1
  have e3 := (HB4.out.cell (p := ⟨w.heap.size, 3, none⟩) zb).trans HE0.out.2.2.2
  go_wp2_with fail
  refine (HRt.out _ HBw4.out).mono ?_; rintro e w4 ⟨rfl, hb5⟩
  have HBw5 := Lib.hid (HBw4.out.trans (hb5.mono HBw4.out.size))
  clear hb5 e0 e1 e2 e3
  by_cases h0 : z3 = 0
  · have hd : decide (z3 = 0) = true := decide_eq_true h0
    have q4 : (z3 == 0) = true := by simpa using h0
    rw [hd]
    clear h0
    go_wp2_with fail
    refine (HA.out _ HBw5.out).mono ?_; rintro e w5 ⟨rfl, hb6⟩
    go_wp2_with fail
    go_ret
    exact ⟨rfl, HBw5.out.trans (hb6.mono HBw5.out.size)⟩
  · have hd : decide (z3 = 0) = false := decide_eq_false h0
    have q4 : (z3 == 0) = false := by simpa using h0
    rw [hd]
    clear h0
    go_wp2_with fail
    refine (HA.out _ HBw5.out).mono ?_; rintro e w5 ⟨rfl, hb6⟩
    go_wp2_with fail
    go_ret
    exact ⟨rfl, HBw5.out.trans (hb6.mono HBw5.out.size)⟩
end Go.Proofs.YtefejcofmopjfaaGreatDoor
