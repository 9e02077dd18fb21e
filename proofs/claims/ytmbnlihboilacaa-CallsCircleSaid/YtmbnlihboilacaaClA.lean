/- Layer 21, plain: whom units call, in which order they stand, how deep they call; circles. -/
import Derived.Lib.SlicesCompact
namespace Go.Proofs.Ytmbnlihboilacaa
namespace CL
set_option linter.unusedSimpArgs false
set_option linter.unusedVariables false
/-- a code calls c -/
def cls (cs : List (Int × Int × Int)) (c : Int) : Bool := cs.any fun i => decide (i.1 = 33) && decide (i.2.1 = c)
/-- the calls that are told, in the code's order -/
def tg (n : Nat) (cs : List (Int × Int × Int)) : List Int := (cs.filter fun i => decide (i.1 = 33) && decide (0 ≤ i.2.1) && decide (i.2.1 < (n : Int))).map fun i => i.2.1
/-- those that are called, ascending -/
def ofN (n : Nat) (cs : List (Int × Int × Int)) : List Nat := (List.range n).filter fun c => cls cs (c : Int)
def srt (l : List Int) : List Int := l.mergeSort fun x y => decide (x ≤ y)
theorem srt_perm (l : List Int) : (srt l).Perm l := List.mergeSort_perm l _
theorem srt_len (l : List Int) : (srt l).length = l.length := (srt_perm l).length_eq
theorem srt_mem {l : List Int} {x : Int} : x ∈ srt l ↔ x ∈ l := (srt_perm l).mem_iff
theorem srt_sorted (l : List Int) : (srt l).Pairwise (· ≤ ·) := by
  have := List.pairwise_mergeSort (le := fun x y : Int => decide (x ≤ y)) (fun a b c h1 h2 => by simp at *; omega) (fun a b => by simp; omega) l
  exact this.imp (fun h => by simpa using h)
/-- what is kept of a sorted list rises -/
theorem upTo_spec (d : Array Int) (hs : d.toList.Pairwise (· ≤ ·)) : ∀ m, m ≤ d.size → (Lib.compactUpTo d m).Pairwise (· < ·) ∧ (∀ x, x ∈ Lib.compactUpTo d m ↔ ∃ j, j < m ∧ d[j]! = x) := by
  intro m
  induction m with
  | zero => intro _; exact ⟨by simp [Lib.compactUpTo], fun x => by simp [Lib.compactUpTo]⟩
  | succ m ih =>
    intro hm
    obtain ⟨h1, h2⟩ := ih (by omega)
    have hle : ∀ i j, i ≤ j → j < d.size → d[i]! ≤ d[j]! := by
      intro i j hij hj
      by_cases e : i = j
      · subst e; exact Int.le_refl _
      · have := List.pairwise_iff_getElem.1 hs i j (by simp; omega) (by simpa using hj) (by omega)
        rw [getElem!_pos d i (by omega), getElem!_pos d j hj]
        simpa using this
    rw [Lib.compactUpTo_succ]
    by_cases hk : Lib.keeps d m = true
    · rw [if_pos hk]
      have hk' : m = 0 ∨ d[m]! ≠ d[m - 1]! := by simpa [Lib.keeps] using hk
      refine ⟨List.pairwise_append.2 ⟨h1, by simp, fun a ha b hb => ?_⟩, fun x => ?_⟩
      · rw [List.mem_singleton] at hb
        subst hb
        obtain ⟨j, hj, rfl⟩ := (h2 a).1 ha
        rcases hk' with h0 | hne
        · omega
        · have e1 := hle j (m - 1) (by omega) (by omega)
          have e2 := hle (m - 1) m (by omega) (by omega)
          omega
      · rw [List.mem_append, h2, List.mem_singleton]
        constructor
        · rintro (⟨j, hj, rfl⟩ | rfl)
          · exact ⟨j, by omega, rfl⟩
          · exact ⟨m, by omega, rfl⟩
        · rintro ⟨j, hj, rfl⟩
          by_cases e : j = m
          · subst e; exact Or.inr rfl
          · exact Or.inl ⟨j, by omega, rfl⟩
    · rw [if_neg hk, List.append_nil]
      have hk' : ¬ (m = 0 ∨ d[m]! ≠ d[m - 1]!) := by simpa [Lib.keeps] using hk
      refine ⟨h1, fun x => ?_⟩
      rw [h2]
      constructor
      · rintro ⟨j, hj, rfl⟩; exact ⟨j, by omega, rfl⟩
      · rintro ⟨j, hj, rfl⟩
        by_cases e : j = m
        · subst e
          have hm0 : ¬ j = 0 := fun h => hk' (Or.inl h)
          have he : d[j]! = d[j - 1]! := Classical.byContradiction fun h => hk' (Or.inr h)
          exact ⟨j - 1, by omega, he.symm⟩
        · exact ⟨j, by omega, rfl⟩
theorem compact_spec {l : List Int} (hs : l.Pairwise (· ≤ ·)) : (Lib.compact l).Pairwise (· < ·) ∧ ∀ x, x ∈ Lib.compact l ↔ x ∈ l := by
  obtain ⟨h1, h2⟩ := upTo_spec l.toArray (by simpa using hs) l.length (by simp)
  refine ⟨h1, fun x => ?_⟩
  show x ∈ Lib.compactUpTo _ _ ↔ _
  rw [h2, List.mem_iff_getElem]
  constructor
  · rintro ⟨j, hj, h⟩; exact ⟨j, hj, by rw [getElem!_pos _ j (by simpa using hj)] at h; simpa using h⟩
  · rintro ⟨j, hj, h⟩; exact ⟨j, hj, by rw [getElem!_pos _ j (by simpa using hj)]; simpa using h⟩
/-- two rising lists of the same are one -/
theorem rise_eq : ∀ {a b : List Int}, a.Pairwise (· < ·) → b.Pairwise (· < ·) → (∀ x, x ∈ a ↔ x ∈ b) → a = b
  | [], b, _, _, h => by
    cases b with
    | nil => rfl
    | cons y t => exact absurd ((h y).2 (by simp)) (by simp)
  | x :: s, b, ha, hb, h => by
    cases b with
    | nil => exact absurd ((h x).1 (by simp)) (by simp)
    | cons y t =>
      rw [List.pairwise_cons] at ha hb
      have hxy : x = y := by
        have h1 := (h x).1 (by simp)
        have h2 := (h y).2 (by simp)
        rw [List.mem_cons] at h1 h2
        rcases h1 with h1 | h1
        · exact h1
        · rcases h2 with h2 | h2
          · exact h2.symm
          · have := hb.1 x h1; have := ha.1 y h2; omega
      subst hxy
      congr 1
      refine rise_eq ha.2 hb.2 fun z => ?_
      have hz := h z
      rw [List.mem_cons, List.mem_cons] at hz
      constructor
      · intro hm
        rcases hz.1 (Or.inr hm) with rfl | hm'
        · exact absurd (ha.1 z hm) (by omega)
        · exact hm'
      · intro hm
        rcases hz.2 (Or.inr hm) with rfl | hm'
        · exact absurd (hb.1 z hm) (by omega)
        · exact hm'
theorem cls_iff {cs : List (Int × Int × Int)} {c : Int} : cls cs c = true ↔ ∃ i ∈ cs, i.1 = 33 ∧ i.2.1 = c := by simp [cls]
theorem of_eq (n : Nat) (cs : List (Int × Int × Int)) : Lib.compact (srt (tg n cs)) = (ofN n cs).map Int.ofNat := by
  obtain ⟨h1, h2⟩ := compact_spec (srt_sorted (tg n cs))
  refine rise_eq h1 ?_ fun x => ?_
  · rw [List.pairwise_map]
    have : (ofN n cs).Pairwise (· < ·) := List.pairwise_lt_range.filter _
    exact this.imp (fun h => by show (Int.ofNat _) < Int.ofNat _; simp; omega)
  · rw [h2, srt_mem]
    unfold tg ofN
    rw [List.mem_map, List.mem_map]
    constructor
    · rintro ⟨i, hi, rfl⟩
      rw [List.mem_filter] at hi
      simp only [Bool.and_eq_true, decide_eq_true_eq] at hi
      refine ⟨i.2.1.toNat, ?_, by simp; omega⟩
      rw [List.mem_filter, List.mem_range]
      refine ⟨by omega, cls_iff.2 ⟨i, hi.1, hi.2.1.1, by omega⟩⟩
    · rintro ⟨c, hc, rfl⟩
      rw [List.mem_filter, List.mem_range] at hc
      obtain ⟨i, hi, h3, h4⟩ := cls_iff.1 hc.2
      refine ⟨i, ?_, h4⟩
      rw [List.mem_filter]
      simp only [Bool.and_eq_true, decide_eq_true_eq]
      exact ⟨hi, ⟨h3, by omega⟩, by omega⟩
theorem tg_len (n : Nat) (cs : List (Int × Int × Int)) : (tg n cs).length ≤ cs.length := by
  unfold tg
  rw [List.length_map]
  exact List.length_filter_le _ _
theorem tg_snoc (n : Nat) (cs : List (Int × Int × Int)) (i : Int × Int × Int) : tg n (cs ++ [i]) = if i.1 = 33 ∧ 0 ≤ i.2.1 ∧ i.2.1 < (n : Int) then tg n cs ++ [i.2.1] else tg n cs := by
  unfold tg
  rw [List.filter_append, List.map_append]
  by_cases h : i.1 = 33 ∧ 0 ≤ i.2.1 ∧ i.2.1 < (n : Int)
  · rw [if_pos h]; congr 1; simp [h]
  · rw [if_neg h]
    have : (decide (i.1 = 33) && decide (0 ≤ i.2.1) && decide (i.2.1 < (n : Int))) = false := by
      simp only [Bool.and_eq_false_iff, decide_eq_false_iff_not]
      by_cases h1 : i.1 = 33
      · by_cases h2 : 0 ≤ i.2.1
        · exact Or.inr (fun h3 => h ⟨h1, h2, h3⟩)
        · exact Or.inl (Or.inr h2)
      · exact Or.inl (Or.inl h1)
    simp [this]
theorem ofN_lt {n : Nat} {cs : List (Int × Int × Int)} {c : Nat} (h : c ∈ ofN n cs) : c < n := by
  unfold ofN at h
  rw [List.mem_filter, List.mem_range] at h
  exact h.1
theorem ofN_len (n : Nat) (cs : List (Int × Int × Int)) : (ofN n cs).length ≤ n := by
  unfold ofN
  have h := List.length_filter_le (fun c : Nat => cls cs (c : Int)) (List.range n)
  rwa [List.length_range] at h
/-- u may be put next -/
def rdy (C : List (List Nat)) (out : List Nat) (u : Nat) : Bool := !out.contains u && (C.getD u []).all fun v => out.contains v
def readyF (C : List (List Nat)) (out : List Nat) : Option Nat := (List.range C.length).find? (rdy C out)
/-- the order from some that are put on -/
def ordF (C : List (List Nat)) : Nat → List Nat → Option (List Nat)
  | 0, out => some out
  | k + 1, out => match readyF C out with
    | none => none
    | some u => ordF C k (out ++ [u])
theorem ready_some {C : List (List Nat)} {out : List Nat} {u : Nat} (h : readyF C out = some u) : u < C.length ∧ u ∉ out ∧ ∀ v ∈ C.getD u [], v ∈ out := by
  obtain ⟨h1, h2, _⟩ := List.find?_range_eq_some.1 h
  rw [rdy, Bool.and_eq_true, List.all_eq_true] at h1
  refine ⟨List.mem_range.1 h2, ?_, fun v hv => by have := h1.2 v hv; simpa using this⟩
  have := h1.1
  simpa using this
/-- right as far as it goes: each once, behind all that it calls -/
structure Good (C : List (List Nat)) (out : List Nat) : Prop where
  nd : out.Nodup
  lt : ∀ u ∈ out, u < C.length
  ahead : ∀ i (h : i < out.length), ∀ v ∈ C.getD out[i] [], v ∈ out.take i
theorem Good.nil (C : List (List Nat)) : Good C [] := ⟨by simp, by simp, fun i h => by simp at h⟩
theorem Good.step {C : List (List Nat)} {out : List Nat} {u : Nat} (h : Good C out) (hu : readyF C out = some u) : Good C (out ++ [u]) := by
  obtain ⟨h1, h2, h3⟩ := ready_some hu
  refine ⟨?_, ?_, ?_⟩
  · rw [List.nodup_append]
    refine ⟨h.nd, by simp, fun a ha b hb => ?_⟩
    rw [List.mem_singleton] at hb; subst hb
    rintro rfl; exact h2 ha
  · intro v hv
    rw [List.mem_append, List.mem_singleton] at hv
    rcases hv with hv | rfl
    · exact h.lt v hv
    · exact h1
  · intro i hi v hv
    rw [List.length_append, List.length_singleton] at hi
    by_cases e : i < out.length
    · rw [List.getElem_append_left e] at hv
      rw [List.take_append_of_le_length (by omega)]
      exact h.ahead i e v hv
    · obtain rfl : i = out.length := by omega
      rw [List.getElem_append_right (by omega)] at hv
      simp only [Nat.sub_self, List.getElem_cons_zero] at hv
      rw [List.take_append_of_le_length (by omega), List.take_of_length_le (by omega)]
      exact h3 v hv
theorem ordF_good {C : List (List Nat)} : ∀ {k : Nat} {out r : List Nat}, Good C out → ordF C k out = some r → Good C r ∧ r.length = out.length + k
  | 0, out, r, h, hr => by
    have e : out = r := by simpa [ordF] using hr
    subst e; exact ⟨h, by omega⟩
  | k + 1, out, r, h, hr => by
    unfold ordF at hr
    split at hr
    · cases hr
    · rename_i u hu
      obtain ⟨h1, h2⟩ := ordF_good (h.step hu) hr
      refine ⟨h1, ?_⟩
      rw [h2, List.length_append, List.length_singleton]; omega
/-- stuck: some that isn't put calls one that isn't put -/
theorem ordF_none {C : List (List Nat)} : ∀ {k : Nat} {out : List Nat}, Good C out → out.length + k = C.length → ordF C k out = none → ∃ S : List Nat, Good C S ∧ S.length < C.length ∧ readyF C S = none
  | 0, out, h, _, hr => by simp [ordF] at hr
  | k + 1, out, h, hl, hr => by
    unfold ordF at hr
    split at hr
    · rename_i hu; exact ⟨out, h, by omega, hu⟩
    · rename_i u hu
      exact ordF_none (h.step hu) (by rw [List.length_append, List.length_singleton]; omega) hr
/-- how deep one calls, where those that it calls are known -/
def topD (D : List Nat) (l : List Nat) : Nat := l.foldl (fun m v => max m (D.getD v 0)) 0
def depF (C : List (List Nat)) (D : List Nat) (l : List Nat) : List Nat := l.foldl (fun D u => D.set u (topD D (C.getD u []) + 1)) D
theorem depF_len (C : List (List Nat)) : ∀ (l D : List Nat), (depF C D l).length = D.length
  | [], D => rfl
  | u :: t, D => by
    show (depF C (D.set u _) t).length = _
    rw [depF_len C t, List.length_set]
theorem depF_snoc (C : List (List Nat)) (D l : List Nat) (u : Nat) : depF C D (l ++ [u]) = (depF C D l).set u (topD (depF C D l) (C.getD u []) + 1) := by
  unfold depF
  rw [List.foldl_append]
  rfl
theorem depF_other (C : List (List Nat)) {v : Nat} : ∀ (l D : List Nat), v ∉ l → (depF C D l).getD v 0 = D.getD v 0
  | [], D, _ => rfl
  | u :: t, D, h => by
    show (depF C (D.set u _) t).getD v 0 = _
    rw [depF_other C t _ (fun hv => h (List.mem_cons_of_mem _ hv))]
    have : ¬ u = v := fun e => h (by rw [e]; simp)
    simp [List.getD, List.getElem?_set, this]
theorem topD_snoc (D l : List Nat) (v : Nat) : topD D (l ++ [v]) = max (topD D l) (D.getD v 0) := by
  unfold topD
  rw [List.foldl_append]
  rfl
end CL
end Go.Proofs.Ytmbnlihboilacaa
