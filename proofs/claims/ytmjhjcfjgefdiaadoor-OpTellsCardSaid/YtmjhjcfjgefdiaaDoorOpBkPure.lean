/- Layer 12: an instruction comes back from its line: numbers and texts alone. -/
import Derived.Test.YtmjhjcfjgefdiaaDoorOpM
import Derived.Test.YtmjhjcfjgefdiaaDoorNumCut
import Derived.Test.YtmjhjcfjgefdiaaDoorNumParse
namespace Go.Proofs.YtmjhjcfjgefdiaaDoor
open Go.RowKit
set_option linter.unusedSimpArgs false
set_option linter.unusedVariables false
/-- which word a text is: its number, or 0; and whether it is one -/
def oFi (l : List UInt8) : Int := (((wL.findIdx? (· == l)).getD 0 : Nat) : Int)
def oFb (l : List UInt8) : Bool := (wL.findIdx? (· == l)).isSome
theorem wL_len : wL.length = 38 := rfl
theorem oFi_hit {l : List UInt8} {k : Nat} (hk : k < 38) (h : wL.getD k [] = l) (hb : ∀ j, j < k → wL.getD j [] ≠ l) : oFi l = k ∧ oFb l = true := by
  have e : wL.findIdx? (· == l) = some k := by
    rw [List.findIdx?_eq_some_iff_getElem]
    refine ⟨by rw [wL_len]; exact hk, ?_, fun j hj => ?_⟩
    · have : wL[k]'(by rw [wL_len]; exact hk) = l := by rw [← h]; simp only [List.getD, List.getElem?_eq_getElem (show k < wL.length by rw [wL_len]; exact hk)]; rfl
      simp [this]
    · have h1 := hb j hj
      have : wL[j]'(by rw [wL_len]; omega) = wL.getD j [] := by simp only [List.getD, List.getElem?_eq_getElem (show j < wL.length by rw [wL_len]; omega)]; rfl
      rw [this]
      simpa using h1
  unfold oFi oFb
  rw [e]
  exact ⟨rfl, rfl⟩
theorem oFi_end {l : List UInt8} (hb : ∀ j, j < 38 → wL.getD j [] ≠ l) : oFi l = 0 ∧ oFb l = false := by
  have e : wL.findIdx? (· == l) = none := by
    rw [List.findIdx?_eq_none_iff]
    intro x hx
    obtain ⟨j, hj, rfl⟩ := List.getElem_of_mem hx
    have h1 := hb j (by rw [wL_len] at hj; exact hj)
    have : wL[j] = wL.getD j [] := by simp [List.getD, hj]
    rw [this]
    simpa using h1
  unfold oFi oFb
  rw [e]
  exact ⟨rfl, rfl⟩
theorem oFi_range (l : List UInt8) : 0 ≤ oFi l ∧ oFi l ≤ 37 := by
  by_cases h : ∃ k, k < 38 ∧ wL.getD k [] = l
  · obtain ⟨k, hk, h⟩ := h
    unfold oFi
    cases e : wL.findIdx? (· == l) with
    | none => simp
    | some q =>
      have := (List.findIdx?_eq_some_iff_getElem.1 e).1
      rw [wL_len] at this
      simp; omega
  · rw [(oFi_end (fun j hj he => h ⟨j, hj, he⟩)).1]; decide
def oWl (o : Int) : List UInt8 := (oW o).data.toList
theorem oWl_all {o : Int} (h : 0 ≤ o ∧ o ≤ 37) : oFi (oWl o) = o ∧ (32 : UInt8) ∉ oWl o ∧ oWl o ≠ [] ∧ (oB o ≠ 0 → oA o ≠ 0) := by
  have hall : ∀ n : Fin 38, oFi (oWl (n.1 : Int)) = n.1 ∧ (32 : UInt8) ∉ oWl (n.1 : Int) ∧ oWl (n.1 : Int) ≠ [] ∧ (oB (n.1 : Int) ≠ 0 → oA (n.1 : Int) ≠ 0) := by decide +kernel
  have := hall ⟨o.toNat, by omega⟩
  have e : ((o.toNat : Nat) : Int) = o := by omega
  simp only [e] at this
  exact this
theorem pr_no32 {n : Int} (h : 0 ≤ n) : (32 : UInt8) ∉ pr n := by
  rw [pr_pos (by omega)]
  intro hm
  have := (dig_all _ _ hm).1
  revert this; decide
/-- what is read of a line -/
def rdO (l : List UInt8) : Int := oFi (cA 32 l)
def rdA (l : List UInt8) : Int := gn (cA 32 (cB 32 l))
def rdB (l : List UInt8) : Int := gn (cB 32 (cB 32 l))
def oLl (o a b : Int) : List UInt8 := (oLine o a b).data.toList
def okR (l : List UInt8) : Bool := !(l == []) && (oLl (rdO l) (rdA l) (rdB l) == l)
theorem cut_app {a b : List UInt8} {c : UInt8} (h : c ∉ a) : cA c (a ++ c :: b) = a ∧ cB c (a ++ c :: b) = b := by
  induction a with
  | nil => simp [cA, cB]
  | cons x t ih =>
    have hx : (x != c) = true := by
      simp only [bne_iff_ne, ne_eq]; intro e; exact h (by simp [e])
    obtain ⟨h1, h2⟩ := ih (fun e => h (by simp [e]))
    simp only [cA, cB, List.cons_append, List.takeWhile_cons, List.dropWhile_cons, hx, if_true] at *
    exact ⟨by rw [h1], h2⟩
theorem oFit_z {a n : Int} (h : oFit a n = true) (ha : a = 0) : n = 0 := by
  rw [oFit_0 ha] at h; simpa using h
theorem oFit_r {a n : Int} (h : oFit a n = true) (ha : ¬ a = 0) : 0 ≤ n ∧ n ≤ 65535 := by
  unfold oFit at h; rw [if_neg ha] at h; simpa using h
theorem prS_data (n : Int) : (prS n).data.toList = pr n := by simp [prS]
theorem oRight_split {o a b : Int} (h : oRight o a b = true) : (0 ≤ o ∧ o ≤ 37) ∧ oFit (oA o) a = true ∧ oFit (oB o) b = true := by
  unfold oRight at h
  simp only [Bool.and_eq_true] at h
  refine ⟨?_, h.1.2, h.2⟩
  have := h.1.1
  unfold oIs at this
  simpa using this
/-- the line, by lists -/
theorem oLl_right {o a b : Int} (h : oRight o a b = true) : oLl o a b = oWl o ++ ((if oA o = 0 then [] else 32 :: pr a) ++ (if oB o = 0 then [] else 32 :: pr b)) := by
  unfold oLl oLine
  rw [if_pos h]
  unfold oPart oWl
  by_cases ha : oA o = 0 <;> by_cases hb : oB o = 0 <;> simp [ha, hb, prS, List.append_assoc]
theorem oLl_no {o a b : Int} (h : oRight o a b = false) : oLl o a b = [] := by
  unfold oLl; rw [oLine_no h]
theorem cA_no {c : UInt8} {l : List UInt8} (h : c ∉ l) : cA c l = l ∧ cB c l = [] := ⟨(cut_out h).1, (cut_out h).2.1⟩
theorem gn_in {n : Int} (h : 0 ≤ n ∧ n ≤ 65535) : gn (pr n) = n := gn_pr (by omega)
theorem rd_line {o a b : Int} (h : oRight o a b = true) : rdO (oLl o a b) = o ∧ rdA (oLl o a b) = a ∧ rdB (oLl o a b) = b ∧ oLl o a b ≠ [] := by
  obtain ⟨ho, ha, hb⟩ := oRight_split h
  obtain ⟨w1, w2, w3, w4⟩ := oWl_all ho
  have e := oLl_right h
  unfold rdO rdA rdB
  have hne : oLl o a b ≠ [] := by rw [e]; simp [w3]
  by_cases h1 : oA o = 0
  · have h2 : oB o = 0 := by
      by_cases h2 : oB o = 0
      · exact h2
      · exact absurd h1 (w4 h2)
    rw [if_pos h1, if_pos h2] at e
    simp only [List.append_nil] at e
    rw [e, (cA_no w2).1, (cA_no w2).2, w1, oFit_z ha h1, oFit_z hb h2]
    exact ⟨rfl, by simp [cA, gn_nil], by simp [cB, gn_nil], w3⟩
  · have ra := oFit_r ha h1
    rw [if_neg h1] at e
    by_cases h2 : oB o = 0
    · rw [if_pos h2] at e
      rw [List.append_nil] at e
      obtain ⟨c1, c2⟩ := cut_app (b := pr a) w2
      rw [e, c1, c2, w1, (cA_no (pr_no32 ra.1)).1, (cA_no (pr_no32 ra.1)).2, gn_in ra, gn_nil, oFit_z hb h2]
      exact ⟨rfl, rfl, rfl, by rw [← e]; exact hne⟩
    · have rb := oFit_r hb h2
      rw [if_neg h2] at e
      have e' : oLl o a b = oWl o ++ 32 :: (pr a ++ 32 :: pr b) := by rw [e]; simp
      obtain ⟨c1, c2⟩ := cut_app (b := pr a ++ 32 :: pr b) w2
      obtain ⟨c3, c4⟩ := cut_app (b := pr b) (pr_no32 ra.1)
      rw [e', c1, c2, c3, c4, w1, gn_in ra, gn_in rb]
      exact ⟨rfl, rfl, rfl, by rw [← e']; exact hne⟩
theorem okR_line {o a b : Int} : okR (oLl o a b) = oRight o a b := by
  cases h : oRight o a b
  · rw [oLl_no h]; rfl
  · obtain ⟨h1, h2, h3, h4⟩ := rd_line h
    unfold okR
    rw [h1, h2, h3]
    simp [h4]
end Go.Proofs.YtmjhjcfjgefdiaaDoor
