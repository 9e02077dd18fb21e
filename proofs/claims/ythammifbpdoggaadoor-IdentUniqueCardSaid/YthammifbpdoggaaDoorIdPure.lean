/- Layer 5: names, as plain functions of lists of bytes. -/
import Derived.Test.YthammifbpdoggaaDoorRow
namespace Go.Proofs.YthammifbpdoggaaDoor
open Go.RowKit
set_option linter.unusedSimpArgs false
set_option linter.unusedVariables false
def smallC (c : UInt8) : Bool := decide (97 ≤ c.toNat ∧ c.toNat ≤ 122)
def digitC (c : UInt8) : Bool := decide (48 ≤ c.toNat ∧ c.toNat ≤ 57)
def signC (c : UInt8) : Bool := smallC c || digitC c || c == 95
def wordsL : List (List UInt8) := [[97, 110, 100], [98, 101, 103, 105, 110], [98, 111, 111, 108], [99, 97, 115, 101], [99, 111, 110, 116, 105, 110, 117, 101], [100, 105, 110, 116], [100, 111], [100, 119, 111, 114, 100], [101, 108, 115, 101], [101, 120, 105, 116], [102, 98], [102, 111, 114], [102, 117, 110, 99, 116, 105, 111, 110], [105, 102], [105, 110], [105, 110, 112, 117, 116], [105, 110, 116], [108, 111, 99, 97, 108], [108, 111, 111, 112], [109, 101, 109], [109, 111, 100], [110, 111, 116], [111, 102], [111, 114], [111, 117, 116], [112, 114, 111, 103, 114, 97, 109], [112, 114, 111, 106, 101, 99, 116], [114, 101, 97, 108], [114, 101, 112, 101, 97, 116], [114, 101, 116, 117, 114, 110], [114, 117, 110, 103], [115, 104, 108], [115, 104, 114], [116, 104, 101, 110], [116, 105, 109, 101], [117, 110, 116, 105, 108], [118, 97, 114], [119, 104, 105, 108, 101], [119, 111, 114, 100], [120, 111, 114]]
def aloneL : List (List UInt8) := [[115], [114], [116, 114, 117, 101], [102, 97, 108, 115, 101]]
def endL : List UInt8 := [101, 110, 100, 95]
def slotB (l : List UInt8) : Bool := decide (2 ≤ l.length) && ((l.getD 0 0 == 112 || l.getD 0 0 == 108) && l.tail.all digitC)
def takenB (l : List UInt8) : Bool := aloneL.any (fun w => l == w) || (wordsL.any (fun w => l == w || l == endL ++ w) || slotB l)
def rightB (l : List UInt8) : Bool := decide (1 ≤ l.length ∧ l.length ≤ 16) && (smallC (l.getD 0 0) && (l.all signC && !takenB l))
def upperC (c : UInt8) : Bool := decide (65 ≤ c.toNat ∧ c.toNat ≤ 90)
def cleanC (c : UInt8) : UInt8 := if upperC c then c + 32 else if signC c then c else 95
def cleanL (l : List UInt8) : List UInt8 := if rightB l then l else [118, 95] ++ (l.take 12).map cleanC
def trimL (l : List UInt8) : List UInt8 := if l.take 4 = endL then l.drop 4 else l
theorem words_end : ∀ w ∈ wordsL, w.take 4 ≠ endL := by decide
theorem words_v : ∀ w ∈ wordsL, w.take 2 ≠ [118, 95] ∧ (endL ++ w).take 2 ≠ [118, 95] := by decide
theorem alone_v : ∀ w ∈ aloneL, w.take 2 ≠ [118, 95] := by decide
/-- the program's look at the words is the answer's -/
theorem trim_word (l w : List UInt8) (hw : w ∈ wordsL) : (trimL l == w) = (l == w || l == endL ++ w) := by
  unfold trimL
  by_cases h : l.take 4 = endL
  · rw [if_pos h]
    have hl : l = endL ++ l.drop 4 := by
      have := List.take_append_drop 4 l
      rw [h] at this
      exact this.symm
    have h1 : (l == w) = false := by
      rw [beq_eq_false_iff_ne]
      intro e
      exact words_end w hw (e ▸ h)
    rw [h1, Bool.false_or]
    by_cases h2 : l.drop 4 = w
    · rw [h2]
      rw [h2] at hl
      rw [← hl]
      simp
    · have h3 : ¬ l = endL ++ w := by
        intro e
        apply h2
        rw [e]
        rfl
      rw [beq_eq_false_iff_ne.2 h2, beq_eq_false_iff_ne.2 h3]
  · rw [if_neg h]
    have h3 : ¬ l = endL ++ w := by
      intro e
      apply h
      rw [e]
      rfl
    rw [beq_eq_false_iff_ne.2 h3, Bool.or_false]
theorem taken_trim (l : List UInt8) : takenB l = (aloneL.any (fun w => l == w) || (wordsL.any (fun w => trimL l == w) || slotB l)) := by
  unfold takenB
  congr 2
  rw [Bool.eq_iff_iff, List.any_eq_true, List.any_eq_true]
  constructor
  · rintro ⟨w, hw, h⟩
    exact ⟨w, hw, by rw [trim_word l w hw]; exact h⟩
  · rintro ⟨w, hw, h⟩
    exact ⟨w, hw, by rw [← trim_word l w hw]; exact h⟩
theorem upper_sign (c : UInt8) (h : upperC c = true) : smallC (c + 32) = true ∧ (c + 32).toNat = c.toNat + 32 := by
  have h1 : 65 ≤ c.toNat ∧ c.toNat ≤ 90 := of_decide_eq_true h
  have h2 : (c + 32).toNat = c.toNat + 32 := by
    rw [UInt8.toNat_add]
    show (c.toNat + 32) % 256 = _
    omega
  exact ⟨decide_eq_true (by rw [h2]; omega), h2⟩
theorem clean_sign (c : UInt8) : signC (cleanC c) = true := by
  unfold cleanC
  by_cases h : upperC c = true
  · rw [if_pos h]
    unfold signC
    rw [(upper_sign c h).1]
    rfl
  · rw [if_neg h]
    by_cases h2 : signC c = true
    · rw [if_pos h2]; exact h2
    · rw [if_neg h2]; decide
theorem right_of_v (m : List UInt8) (hm : m.length ≤ 12) (hs : m.all signC = true) : rightB ([118, 95] ++ m) = true := by
  unfold rightB
  have h1 : ([118, 95] ++ m).length = 2 + m.length := by simp; omega
  have ht : takenB ([118, 95] ++ m) = false := by
    unfold takenB
    have ha : aloneL.any (fun w => [118, 95] ++ m == w) = false := by
      rw [List.any_eq_false]
      intro w hw e
      have e := eq_of_beq e
      exact alone_v w hw (by rw [← e]; rfl)
    have hb : wordsL.any (fun w => [118, 95] ++ m == w || [118, 95] ++ m == endL ++ w) = false := by
      rw [List.any_eq_false]
      intro w hw e
      obtain ⟨k1, k2⟩ := words_v w hw
      rcases Bool.or_eq_true_iff.1 e with e | e
      · have e := eq_of_beq e
        exact k1 (by rw [← e]; rfl)
      · have e := eq_of_beq e
        exact k2 (by rw [← e]; rfl)
    have hc : slotB ([118, 95] ++ m) = false := by
      unfold slotB
      have : (([118, 95] ++ m).getD 0 0 == 112 || ([118, 95] ++ m).getD 0 0 == 108) = false := rfl
      rw [this]
      simp
    rw [ha, hb, hc]
    rfl
  have hh : smallC (([118, 95] ++ m).getD 0 0) = true := by show smallC 118 = true; decide
  rw [ht, decide_eq_true (by rw [h1]; omega), hh]
  rw [List.all_append, hs]
  rfl
theorem right_clean (l : List UInt8) : rightB (cleanL l) = true := by
  unfold cleanL
  by_cases h : rightB l = true
  · rw [if_pos h]; exact h
  · rw [if_neg h]
    refine right_of_v _ (by simp; omega) ?_
    rw [List.all_eq_true]
    intro c hc
    obtain ⟨d, _, rfl⟩ := List.mem_map.1 hc
    exact clean_sign d
theorem clean_clean (l : List UInt8) : cleanL (cleanL l) = cleanL l := by
  have h := right_clean l
  generalize cleanL l = m at *
  unfold cleanL
  rw [if_pos h]
theorem clean_len (l : List UInt8) : (cleanL l).length ≤ 16 := by
  have h := right_clean l
  unfold rightB at h
  have := (Bool.and_eq_true_iff.1 h).1
  exact (of_decide_eq_true this).2
end Go.Proofs.YthammifbpdoggaaDoor
