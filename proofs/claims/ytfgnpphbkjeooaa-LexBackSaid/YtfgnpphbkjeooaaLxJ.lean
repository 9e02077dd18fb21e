/- Layer 47, plain: what the tokens are made of, and that what is joined of them is split as it was. -/
import Derived.Test.YtfgnpphbkjeooaaLxS
namespace Go.Proofs.Ytfgnpphbkjeooaa
namespace LX
set_option linter.unusedSimpArgs false
set_option linter.unusedVariables false
/-- a token's text: a word, or a sign -/
def Wd (t : List UInt8) : Prop := t ≠ [] ∧ ∀ i, i < t.length → goB t 0 i = true
def Sg (t : List UInt8) : Prop := (∃ c, t = [c] ∧ signs.contains c = true) ∨ ∃ c d, t = [c, d] ∧ two c d
def Good (x : Tk) : Prop := x.kind = 1 ∧ Wd x.text ∨ x.kind = 2 ∧ Sg x.text
theorem sign_word {c : UInt8} (h : signs.contains c = true) : wordC c = false ∧ blanks.contains c = false := by
  rw [List.contains_eq_mem] at h
  have h := of_decide_eq_true h
  simp only [signs, List.mem_cons, List.not_mem_nil, or_false] at h
  rcases h with rfl | rfl | rfl | rfl | rfl | rfl | rfl | rfl | rfl | rfl | rfl | rfl | rfl | rfl | rfl | rfl | rfl <;> decide
theorem word_blank {c : UInt8} (h : wordC c = true) : blanks.contains c = false := by
  cases hc : blanks.contains c
  · rfl
  · rw [List.contains_eq_mem] at hc
    have hc := of_decide_eq_true hc
    simp only [blanks, List.mem_cons, List.not_mem_nil, or_false] at hc
    rcases hc with rfl | rfl | rfl | rfl <;> exact absurd h (by decide)
theorem getD_app {l t r : List UInt8} {p i : Nat} (h : l.drop p = t ++ r) (hi : i < t.length) : l.getD (p + i) 0 = t.getD i 0 := by
  have h1 : (l.drop p)[i]? = l[p + i]? := by rw [List.getElem?_drop]
  rw [h, List.getElem?_append_left hi] at h1
  rw [List.getD_eq_getElem?_getD, List.getD_eq_getElem?_getD, h1]
theorem getD_end {l t r : List UInt8} {p : Nat} (h : l.drop p = t ++ r) : l.getD (p + t.length) 0 = r.getD 0 0 := by
  have h1 : (l.drop p)[t.length]? = l[p + t.length]? := by rw [List.getElem?_drop]
  rw [h, List.getElem?_append_right (Nat.le_refl _), Nat.sub_self] at h1
  rw [List.getD_eq_getElem?_getD, List.getD_eq_getElem?_getD, h1]
theorem goB_cut {l t r : List UInt8} {p i : Nat} (h : l.drop p = t ++ r) (hi : i < t.length) : goB l p (p + i) = goB t 0 i := by
  unfold goB
  rw [getD_app h hi]
  by_cases h0 : i = 0
  · subst h0; simp
  · have h1 := getD_app h (show i - 1 < t.length by omega)
    rw [show p + i - 1 = p + (i - 1) by omega, h1, decide_eq_true (show p < p + i by omega), decide_eq_true (show 0 < i by omega)]
theorem len_drop {l t r : List UInt8} {p : Nat} (h : l.drop p = t ++ r) (ht : t ≠ []) : p + t.length + r.length = l.length ∧ 0 < t.length := by
  have h1 := congrArg List.length h
  rw [List.length_drop, List.length_append] at h1
  have h2 : 0 < t.length := List.length_pos_iff.2 ht
  omega
theorem cut_drop {l t r : List UInt8} {p : Nat} (h : l.drop p = t ++ r) : cut l p (p + t.length) = t := by
  unfold cut
  rw [h, show p + t.length - p = t.length by omega, List.take_left]
theorem T_succ (l : List UInt8) (f k line : Nat) (out : List Tk) (hk : k < l.length) : T l (f + 1) k line out = (if blanks.contains (l.getD k 0) = true then T l f (k + 1) (if l.getD k 0 = 10 then line + 1 else line) out
      else if wordE l k = k then
        if signE l k = k then (none, line) else T l f (signE l k) line (out ++ [⟨2, line, cut l k (signE l k)⟩])
      else T l f (wordE l k) line (out ++ [⟨1, line, cut l k (wordE l k)⟩])) := by
  show (if k < l.length then _ else _) = _
  rw [if_pos hk]
/-- one step: a token at a place, with the end, or a blank, behind it -/
theorem T_one (l : List UInt8) (f p ln : Nat) (out : List Tk) (x : Tk) (r : List UInt8) (hx : Good x) (h : l.drop p = x.text ++ r) (hr : r = [] ∨ ∃ s, r = 32 :: s) : T l (f + 1) p ln out = T l f (p + x.text.length) ln (out ++ [⟨x.kind, ln, x.text⟩]) := by
  obtain ⟨kd, li, t⟩ := x
  simp only [Good] at hx h ⊢
  have ht : t ≠ [] := by
    rcases hx with ⟨_, h1⟩ | ⟨_, h1⟩
    · exact h1.1
    · rcases h1 with ⟨c, rfl, _⟩ | ⟨c, d, rfl, _⟩ <;> simp
  obtain ⟨hlen, hpos⟩ := len_drop h ht
  have hp : p < l.length := by omega
  have hc : l.getD p 0 = t.getD 0 0 := by have := getD_app h hpos; rwa [Nat.add_zero] at this
  have hend : r.getD 0 0 = 32 ∨ p + t.length = l.length := by
    rcases hr with rfl | ⟨s, rfl⟩
    · right; simpa using hlen
    · left; rfl
  have hcut := cut_drop h
  rw [T_succ l f p ln out hp]
  rcases hx with ⟨rfl, hw⟩ | ⟨rfl, hs⟩
  · have hw0 : wordC (l.getD p 0) = true := by rw [← goB_self0]; have := goB_cut h hpos; rw [Nat.add_zero] at this; rw [this]; exact hw.2 0 hpos
    have he : wordE l p = p + t.length := by
      refine wordE_end (by omega) (by omega) ?_ ?_
      · rintro ⟨h1, h2⟩
        have h3 := getD_end h
        rcases hend with h4 | h4
        · unfold goB at h2
          rw [h3, h4] at h2
          rw [show wordC 32 = false by decide, show decide ((32 : UInt8) = 45) = false by decide] at h2
          cases h2
        · omega
      · intro i h1 h2
        have := goB_cut h (show i - p < t.length by omega)
        rw [show p + (i - p) = i by omega] at this
        rw [this]
        exact hw.2 _ (by omega)
    rw [word_blank hw0, if_neg (by simp), if_neg (by omega), he, hcut]
  · have hc0 : signs.contains (l.getD p 0) = true := by
      rw [hc]
      rcases hs with ⟨c, rfl, h1⟩ | ⟨c, d, rfl, h1⟩
      · exact h1
      · exact two_sign h1
    have he : signE l p = p + t.length := by
      rcases hs with ⟨c, rfl, h1⟩ | ⟨c, d, rfl, h1⟩
      · refine signE_one hc0 ?_
        rintro ⟨h2, h3⟩
        have h4 := getD_end h
        rcases hend with h5 | h5
        · rw [show [c].length = 1 from rfl] at h4
          rw [h4, h5] at h3
          rcases h3 with ⟨_, h⟩ | ⟨_, h⟩ | ⟨_, h⟩ | ⟨_, h⟩ <;> exact absurd h (by decide)
        · simp at h5; omega
      · refine signE_two (by simp at hlen; omega) ?_
        have h2 := getD_app h (show 1 < [c, d].length by simp)
        rw [h2, hc]
        exact h1
    have hw := sign_word hc0
    rw [hw.2, if_neg (by simp), if_pos (wordE_none hp hw.1), he, if_neg (by omega), hcut]
theorem T_blank (l : List UInt8) (f p ln : Nat) (out : List Tk) (hp : p < l.length) (h : l.getD p 0 = 32) : T l (f + 1) p ln out = T l f (p + 1) ln out := by
  show (if p < l.length then _ else _) = _
  rw [if_pos hp, h, if_pos (by decide), if_neg (by decide)]
theorem T_over (l : List UInt8) (f p ln : Nat) (out : List Tk) (hp : l.length ≤ p) : T l f p ln out = (some out, 0) := by
  cases f with
  | zero => rfl
  | succ f => show (if p < l.length then _ else _) = _; rw [if_neg (by omega)]
/-- a token alone -/
theorem T_alone (x : Tk) (hx : Good x) : T x.text x.text.length 0 1 [] = (some [⟨x.kind, 1, x.text⟩], 0) := by
  have ht : x.text ≠ [] := by
    rcases hx with ⟨_, h1⟩ | ⟨_, h1⟩
    · exact h1.1
    · rcases h1 with ⟨c, h, _⟩ | ⟨c, d, h, _⟩ <;> rw [h] <;> simp
  obtain ⟨f, hf⟩ : ∃ f, x.text.length = f + 1 := ⟨x.text.length - 1, by have := List.length_pos_iff.2 ht; omega⟩
  have h1 := T_one x.text f 0 1 [] x [] hx (by simp) (Or.inl rfl)
  rw [hf, h1]
  exact T_over _ _ _ _ _ (by omega)
/-- texts with a blank ahead of each -/
def F (L : List Tk) : List UInt8 := L.flatMap fun x => 32 :: x.text
def J (L : List Tk) : List UInt8 := (F L).drop 1
theorem F_form (L : List Tk) : F L = [] ∨ ∃ s, F L = 32 :: s := by
  cases L with
  | nil => exact Or.inl rfl
  | cons x r => exact Or.inr ⟨x.text ++ F r, rfl⟩
theorem J_snoc (L : List Tk) (x : Tk) : J (L ++ [x]) = if L = [] then x.text else J L ++ 32 :: x.text := by
  unfold J F
  cases L with
  | nil => simp
  | cons y r => simp
theorem T_rest (l : List UInt8) : ∀ (L : List Tk) (f p : Nat) (out : List Tk), (∀ x ∈ L, Good x) → l.drop p = F L → l.length - p ≤ f → T l f p 1 out = (some (out ++ L.map fun x => ⟨x.kind, 1, x.text⟩), 0)
  | [], f, p, out, _, h, _ => by
    rw [T_over l f p 1 out (List.drop_eq_nil_iff.1 h)]
    simp
  | x :: L, f, p, out, hL, h, hf => by
    have h0 : l.drop p = [32] ++ (x.text ++ F L) := h
    obtain ⟨hl1, _⟩ := len_drop h0 (by simp)
    have hp : l.getD p 0 = 32 := getD_app h0 (show 0 < [32].length by simp)
    have h1 : l.drop (p + 1) = x.text ++ F L := by rw [← List.drop_drop, h0]; rfl
    have hx := hL x (List.mem_cons_self ..)
    have ht : x.text ≠ [] := by
      rcases hx with ⟨_, h1⟩ | ⟨_, h1⟩
      · exact h1.1
      · rcases h1 with ⟨c, h, _⟩ | ⟨c, d, h, _⟩ <;> rw [h] <;> simp
    obtain ⟨hl2, hl3⟩ := len_drop h1 ht
    obtain ⟨f, rfl⟩ : ∃ g, f = g + 2 := ⟨f - 2, by simp at hl1; omega⟩
    rw [T_blank l (f + 1) p 1 out (by simp at hl1; omega) hp, T_one l f (p + 1) 1 out x (F L) hx h1 (F_form L)]
    rw [T_rest l L f (p + 1 + x.text.length) _ (fun y hy => hL y (List.mem_cons_of_mem _ hy)) (by rw [← List.drop_drop, h1, List.drop_left]) (by omega)]
    simp
theorem T_joined (L : List Tk) (hL : ∀ x ∈ L, Good x) : T (J L) (J L).length 0 1 [] = (some (L.map fun x => ⟨x.kind, 1, x.text⟩), 0) := by
  cases L with
  | nil => rfl
  | cons x r =>
    have hx := hL x (List.mem_cons_self ..)
    have ht : x.text ≠ [] := by
      rcases hx with ⟨_, h1⟩ | ⟨_, h1⟩
      · exact h1.1
      · rcases h1 with ⟨c, h, _⟩ | ⟨c, d, h, _⟩ <;> rw [h] <;> simp
    have h1 : (J (x :: r)).drop 0 = x.text ++ F r := rfl
    obtain ⟨hl2, hl3⟩ := len_drop h1 ht
    obtain ⟨f, hf⟩ : ∃ f, (J (x :: r)).length = f + 1 := ⟨(J (x :: r)).length - 1, by omega⟩
    have h2 := T_one (J (x :: r)) f 0 1 [] x (F r) hx h1 (F_form r)
    have h3 := T_rest (J (x :: r)) r f (0 + x.text.length) ([] ++ [⟨x.kind, 1, x.text⟩]) (fun y hy => hL y (List.mem_cons_of_mem _ hy)) (by rw [← List.drop_drop, h1, List.drop_left]) (by omega)
    rw [hf, h2, h3]
    simp
end LX
end Go.Proofs.Ytfgnpphbkjeooaa
