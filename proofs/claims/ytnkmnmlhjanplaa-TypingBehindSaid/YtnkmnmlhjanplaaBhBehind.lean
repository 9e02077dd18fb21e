/- Layer 20: where one may come: the program's; both tell the same. -/
import Derived.Test.YtnkmnmlhjanplaaBhMay
namespace Go.Proofs.Ytnkmnmlhjanplaa
open Go.RowKit
set_option linter.unusedSimpArgs false
set_option linter.unusedVariables false
def two (a b : Int) : List Int := if (if b < a then b else a) = (if b < a then a else b) then [if b < a then b else a] else [if b < a then b else a, if b < a then a else b]
def behL (x : Ins) (k : Nat) : List Int := if x.1 = 30 then [x.2.1] else if x.1 = 31 then two (k + 1) x.2.1 else if x.1 = 32 then (List.range (x.2.1.toNat + 1)).map (fun (j : Nat) => (k : Int) + 1 + (j : Int)) else if x.1 = 34 then [] else [(k : Int) + 1]
theorem bh_below {B : Nat} {w0 wa w2 : World} {g : Nat} (hb : Below B w0 wa) (hs : B ≤ wa.heap.size) (hg : wa.grownBy w2 (some g)) (hB : B ≤ g) : Below B w0 w2 :=
  hb.trans ⟨hg.os, hg.tape, hg.output, hg.size, fun k hk => hg.block k (by omega) (fun h => by have := Option.some.inj h; omega)⟩
-- plain: filters of a range
theorem filt_one (p : Nat → Bool) (a : Nat) (h : ∀ t, p t = decide (t = a)) : ∀ n, (List.range n).filter p = if a < n then [a] else []
  | 0 => by simp
  | n + 1 => by
    rw [List.range_succ, List.filter_append, filt_one p a h n]
    by_cases h1 : n = a
    · subst h1; simp [h]
    · have h2 : p n = false := by rw [h]; exact decide_eq_false h1
      rw [show [n].filter p = [] by simp [h2]]
      by_cases h3 : a < n
      · rw [if_pos h3, if_pos (show a < n + 1 by omega)]; simp
      · rw [if_neg h3, if_neg (show ¬ a < n + 1 by omega)]; simp
theorem filt_two (p : Nat → Bool) (a b : Nat) (hab : a < b) (h : ∀ t, p t = decide (t = a ∨ t = b)) : ∀ n, (List.range n).filter p = (if a < n then [a] else []) ++ (if b < n then [b] else [])
  | 0 => by simp
  | n + 1 => by
    rw [List.range_succ, List.filter_append, filt_two p a b hab h n]
    by_cases h1 : n = a
    · subst h1
      have h2 : p n = true := by rw [h]; simp
      rw [show [n].filter p = [n] by simp [h2]]
      rw [if_neg (show ¬ n < n by omega), if_neg (show ¬ b < n by omega), if_pos (show n < n + 1 by omega), if_neg (show ¬ b < n + 1 by omega)]; rfl
    · by_cases h3 : n = b
      · subst h3
        have h2 : p n = true := by rw [h]; simp
        rw [show [n].filter p = [n] by simp [h2]]
        rw [if_pos hab, if_neg (show ¬ n < n by omega), if_pos (show a < n + 1 by omega), if_pos (show n < n + 1 by omega)]; rfl
      · have h2 : p n = false := by rw [h]; exact decide_eq_false (by omega)
        rw [show [n].filter p = [] by simp [h2]]
        by_cases h4 : a < n
        · by_cases h5 : b < n
          · rw [if_pos h4, if_pos h5, if_pos (show a < n + 1 by omega), if_pos (show b < n + 1 by omega)]; simp
          · rw [if_pos h4, if_neg h5, if_pos (show a < n + 1 by omega), if_neg (show ¬ b < n + 1 by omega)]; simp
        · rw [if_neg h4, if_neg (show ¬ b < n by omega), if_neg (show ¬ a < n + 1 by omega), if_neg (show ¬ b < n + 1 by omega)]; simp
theorem filt_run (p : Nat → Bool) (lo : Nat) (m : Nat) (h : ∀ t, p t = decide (lo ≤ t ∧ t < lo + m)) : ∀ n, (List.range n).filter p = (List.range (min m (n - lo))).map (lo + ·)
  | 0 => by simp
  | n + 1 => by
    rw [List.range_succ, List.filter_append, filt_run p lo m h n]
    by_cases h1 : lo ≤ n ∧ n < lo + m
    · have h2 : p n = true := by rw [h]; exact decide_eq_true h1
      rw [show [n].filter p = [n] by simp [h2]]
      rw [show min m (n + 1 - lo) = min m (n - lo) + 1 by omega, List.range_succ, List.map_append]
      simp; omega
    · have h2 : p n = false := by rw [h]; exact decide_eq_false h1
      rw [show [n].filter p = [] by simp [h2]]
      rw [show min m (n + 1 - lo) = min m (n - lo) by omega]; simp
theorem may_beh (x : Ins) (k : Nat) (hk : k ≤ 300) (hA : 0 ≤ x.2.1 ∧ x.2.1 ≤ 65535) (h32 : x.1 = 32 → x.2.1 ≤ 300) : mayL x k 70000 = behL x k := by
  obtain ⟨o, A, bb⟩ := x
  dsimp only at hA h32
  obtain ⟨a, rfl⟩ : ∃ a : Nat, A = a := ⟨A.toNat, by omega⟩
  unfold mayL behL
  dsimp only
  by_cases h30 : o = 30
  · rw [if_pos h30, filt_one _ a (fun t => by unfold mayP; rw [if_pos h30]; exact decide_eq_decide.2 (by dsimp only; omega)), if_pos (by omega)]; rfl
  rw [if_neg h30]
  by_cases h31 : o = 31
  · rw [if_pos h31]
    have hp : ∀ t, mayP (o, (a : Int), bb) k t = decide (t = k + 1 ∨ t = a) := fun t => by
      unfold mayP; rw [if_neg h30, if_pos h31]; exact decide_eq_decide.2 (by dsimp only; omega)
    unfold two
    by_cases h1 : a = k + 1
    · rw [filt_one _ a (fun t => by rw [hp]; exact decide_eq_decide.2 (by omega)), if_pos (by omega)]
      rw [if_neg (show ¬ (a : Int) < (k : Int) + 1 by omega), if_neg (show ¬ (a : Int) < (k : Int) + 1 by omega), if_pos (by omega)]
      subst h1; simp
    · by_cases h2 : a < k + 1
      · rw [filt_two _ a (k + 1) h2 (fun t => by rw [hp]; exact decide_eq_decide.2 (by omega)), if_pos (by omega), if_pos (by omega)]
        rw [if_pos (show (a : Int) < (k : Int) + 1 by omega), if_pos (show (a : Int) < (k : Int) + 1 by omega), if_neg (by omega)]
        simp
      · rw [filt_two _ (k + 1) a (by omega) (fun t => by rw [hp]), if_pos (by omega), if_pos (by omega)]
        rw [if_neg (show ¬ (a : Int) < (k : Int) + 1 by omega), if_neg (show ¬ (a : Int) < (k : Int) + 1 by omega), if_neg (by omega)]
        simp
  rw [if_neg h31]
  by_cases h3 : o = 32
  · have ha := h32 h3
    rw [if_pos h3, filt_run _ (k + 1) (a + 1) (fun t => by unfold mayP; rw [if_neg h30, if_neg h31, if_pos h3]; exact decide_eq_decide.2 (by dsimp only; omega))]
    rw [show min (a + 1) (70000 - (k + 1)) = a + 1 by omega, show (a : Int).toNat + 1 = a + 1 by omega, List.map_map]
    refine List.map_congr_left (fun j _ => ?_)
    show ((k + 1 + j : Nat) : Int) = _
    omega
  rw [if_neg h3]
  by_cases h34 : o = 34
  · rw [if_pos h34]
    have : (List.range 70000).filter (mayP (o, (a : Int), bb) k) = [] := List.filter_eq_nil_iff.2 (fun t _ => by unfold mayP; rw [if_neg h30, if_neg h31, if_neg h3, if_pos h34]; simp)
    rw [this]; rfl
  · rw [if_neg h34, filt_one _ (k + 1) (fun t => by unfold mayP; rw [if_neg h30, if_neg h31, if_neg h3, if_neg h34]; exact decide_eq_decide.2 (by omega)), if_pos (by omega)]
    simp
end Go.Proofs.Ytnkmnmlhjanplaa
