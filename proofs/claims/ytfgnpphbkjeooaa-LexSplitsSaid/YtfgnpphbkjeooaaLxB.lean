/- Layer 47, plain: the reference's loop, byte by byte. -/
import Derived.Test.YtfgnpphbkjeooaaLxA
namespace Go.Proofs.Ytfgnpphbkjeooaa
namespace LX
set_option linter.unusedSimpArgs false
set_option linter.unusedVariables false
/-- how far the loop has come: with no word open, or with one that began at b -/
inductive At (l : List UInt8) (R : Option (List Tk) × Nat) (k ln : Nat) : Bool → List Tk → Prop where
  | shut (f : Nat) (out : List Tk) (h : T l f k ln out = R) (hf : l.length - k ≤ f) : At l R k ln false out
  | word (f b : Nat) (out : List Tk) (h : T l f b ln out = R) (hf : l.length - b ≤ f) (hb : b < k) (hg : ∀ i, b ≤ i → i < k → goB l b i = true) : At l R k ln true (out ++ [⟨1, ln, cut l b k⟩])
theorem goB_self (l : List UInt8) (k : Nat) : goB l k k = wordC (l.getD k 0) := by
  unfold goB
  rw [show decide (k < k) = false from decide_eq_false (Nat.lt_irrefl k), Bool.and_false, Bool.false_and, Bool.or_false]
theorem goB_on {l : List UInt8} {b k : Nat} (h : b < k) : goB l b k = (wordC (l.getD k 0) || (decide (l.getD k 0 = 45) && decide (l.getD (k - 1) 0 = 35))) := by
  unfold goB
  rw [decide_eq_true h, Bool.and_true]
theorem cut_one (l : List UInt8) (k : Nat) (h : k < l.length) : cut l k (k + 1) = [l.getD k 0] := by
  unfold cut
  rw [List.drop_eq_getElem_cons h, show k + 1 - k = 1 by omega]
  show [l[k]] = _
  simp [List.getD, h]
theorem cut_more (l : List UInt8) (b k : Nat) (hb : b ≤ k) (h : k < l.length) : cut l b (k + 1) = cut l b k ++ [l.getD k 0] := by
  unfold cut
  rw [show k + 1 - b = (k - b) + 1 by omega, List.take_add_one]
  congr 1
  rw [List.getElem?_drop, show b + (k - b) = k by omega, List.getElem?_eq_getElem h]
  simp [List.getD, h]
/-- the word that is open ends here -/
theorem At.close {l : List UInt8} {R : Option (List Tk) × Nat} {k ln : Nat} {o : Bool} {out : List Tk} (h : At l R k ln o out) (hk : k ≤ l.length) (hs : o = true → ¬ (k < l.length ∧ (wordC (l.getD k 0) || (decide (l.getD k 0 = 45) && decide (l.getD (k - 1) 0 = 35))) = true)) :
    ∃ f, T l f k ln out = R ∧ l.length - k ≤ f := by
  cases h with
  | shut f out h hf => exact ⟨f, h, hf⟩
  | word f b out h hf hb hg =>
    obtain ⟨f, rfl⟩ : ∃ g, f = g + 1 := ⟨f - 1, by omega⟩
    have he : wordE l b = k := wordE_end (Nat.le_of_lt hb) hk (fun ⟨h1, h2⟩ => hs rfl ⟨h1, by rw [← goB_on hb]; exact h2⟩) hg
    have hw : wordC (l.getD b 0) = true := by rw [← goB_self]; exact hg b (Nat.le_refl _) hb
    have hbl : blanks.contains (l.getD b 0) = false := by
      generalize l.getD b 0 = c at hw ⊢
      cases hc : blanks.contains c
      · rfl
      · rw [List.contains_eq_mem] at hc
        have hc := of_decide_eq_true hc
        simp only [blanks, List.mem_cons, List.not_mem_nil, or_false] at hc
        rcases hc with rfl | rfl | rfl | rfl <;> exact absurd hw (by decide)
    refine ⟨f, ?_, by omega⟩
    unfold T at h
    rw [if_pos (by omega), if_neg (by rw [hbl]; simp), if_neg (by omega), he] at h
    exact h
/-- one byte more of a word -/
theorem At.more {l : List UInt8} {R : Option (List Tk) × Nat} {k ln : Nat} {out : List Tk} (h : At l R k ln true out) (hk : k < l.length) (hg : (wordC (l.getD k 0) || (decide (l.getD k 0 = 45) && decide (l.getD (k - 1) 0 = 35))) = true) :
    ∃ o2 x, out = o2 ++ [x] ∧ At l R (k + 1) ln true (o2 ++ [⟨1, ln, x.text ++ [l.getD k 0]⟩]) ∧ x.kind = 1 ∧ x.line = ln ∧ x.text.length ≤ l.length := by
  cases h with
  | word f b out h hf hb hgo =>
    refine ⟨out, _, rfl, ?_, rfl, rfl, by unfold cut; rw [List.length_take, List.length_drop]; omega⟩
    rw [← cut_more l b k (Nat.le_of_lt hb) hk]
    exact .word f b out h hf (by omega) fun i h1 h2 => by
      by_cases e : i = k
      · subst e; rw [goB_on hb]; exact hg
      · exact hgo i h1 (by omega)
theorem At.begin {l : List UInt8} {R : Option (List Tk) × Nat} {k ln : Nat} {out : List Tk} (h : At l R k ln false out) (hk : k < l.length) (hg : wordC (l.getD k 0) = true) :
    At l R (k + 1) ln true (out ++ [⟨1, ln, [l.getD k 0]⟩]) := by
  cases h with
  | shut f out h hf =>
    rw [← cut_one l k hk]
    exact .word f k out h hf (by omega) fun i h1 h2 => by
      obtain rfl : i = k := by omega
      rw [goB_self]; exact hg
end LX
end Go.Proofs.Ytfgnpphbkjeooaa
