/- Layer 47, plain: words and signs. -/
namespace Go.Proofs.Ytfgnpphbkjeooaa
namespace LX
set_option linter.unusedSimpArgs false
set_option linter.unusedVariables false
def wordC (c : UInt8) : Bool := decide (97 ≤ c.toNat ∧ c.toNat ≤ 122 ∨ 65 ≤ c.toNat ∧ c.toNat ≤ 90 ∨ 48 ≤ c.toNat ∧ c.toNat ≤ 57 ∨ c.toNat = 95 ∨ c.toNat = 35)
def blanks : List UInt8 := [32, 9, 13, 10]
def signs : List UInt8 := [40, 41, 91, 93, 123, 125, 44, 59, 58, 46, 43, 45, 42, 47, 61, 60, 62]
def pairs : List UInt8 := [58, 61, 32, 60, 61, 32, 62, 61, 32, 60, 62]
/-- may the byte at a place stand in a word that begins at b? -/
def goB (l : List UInt8) (b k : Nat) : Bool := wordC (l.getD k 0) || (decide (l.getD k 0 = 45) && decide (b < k) && decide (l.getD (k - 1) 0 = 35))
def runF (l : List UInt8) (b : Nat) : Nat → Nat → Nat
  | 0, k => k
  | f + 1, k => if k < l.length ∧ goB l b k = true then runF l b f (k + 1) else k
def wordE (l : List UInt8) (b : Nat) : Nat := runF l b (l.length - b) b
theorem runF_ge (l : List UInt8) (b : Nat) : ∀ f k, k ≤ runF l b f k
  | 0, k => Nat.le_refl k
  | f + 1, k => by
    unfold runF
    split
    · have := runF_ge l b f (k + 1); omega
    · exact Nat.le_refl k
theorem runF_le (l : List UInt8) (b : Nat) : ∀ f k, k ≤ l.length → runF l b f k ≤ l.length
  | 0, k, h => h
  | f + 1, k, h => by
    unfold runF
    split
    · rename_i h2; exact runF_le l b f (k + 1) h2.1
    · exact h
/-- what goes on till k, and not there, ends at k -/
theorem runF_end (l : List UInt8) (b e : Nat) (hstop : ¬ (e < l.length ∧ goB l b e = true)) : ∀ f k, k ≤ e → e - k ≤ f → (∀ i, k ≤ i → i < e → i < l.length ∧ goB l b i = true) → runF l b f k = e
  | 0, k, hk, hf, _ => by show k = e; omega
  | f + 1, k, hk, hf, h => by
    unfold runF
    by_cases hke : k = e
    · subst hke; rw [if_neg hstop]
    · rw [if_pos (h k (Nat.le_refl _) (by omega))]
      exact runF_end l b e hstop f (k + 1) (by omega) (by omega) fun i h1 h2 => h i (by omega) h2
theorem wordE_end {l : List UInt8} {b e : Nat} (hbe : b ≤ e) (hel : e ≤ l.length) (hstop : ¬ (e < l.length ∧ goB l b e = true)) (h : ∀ i, b ≤ i → i < e → goB l b i = true) : wordE l b = e :=
  runF_end l b e hstop _ b hbe (by omega) fun i h1 h2 => ⟨by omega, h i h1 h2⟩
def pairB (l : List UInt8) (k : Nat) : Bool :=
  decide (k + 2 ≤ l.length) && (!blanks.contains (l.getD k 0) && (!blanks.contains (l.getD (k + 1) 0) && (decide (l.getD k 0 = 58 ∧ l.getD (k + 1) 0 = 61) || decide (l.getD k 0 = 60 ∧ l.getD (k + 1) 0 = 61) || decide (l.getD k 0 = 62 ∧ l.getD (k + 1) 0 = 61) || decide (l.getD k 0 = 60 ∧ l.getD (k + 1) 0 = 62))))
def signE (l : List UInt8) (k : Nat) : Nat := if pairB l k = true then k + 2 else if signs.contains (l.getD k 0) = true then k + 1 else k
/-- a token: its kind, its line, its text -/
structure Tk where
  kind : Nat
  line : Nat
  text : List UInt8
def cut (l : List UInt8) (a b : Nat) : List UInt8 := (l.drop a).take (b - a)
/-- the tokens from a place on; none: the line where there is something else -/
def T (l : List UInt8) : Nat → Nat → Nat → List Tk → Option (List Tk) × Nat
  | 0, _, _, out => (some out, 0)
  | f + 1, k, line, out =>
    if k < l.length then
      if blanks.contains (l.getD k 0) = true then T l f (k + 1) (if l.getD k 0 = 10 then line + 1 else line) out
      else if wordE l k = k then
        if signE l k = k then (none, line) else T l f (signE l k) line (out ++ [⟨2, line, cut l k (signE l k)⟩])
      else T l f (wordE l k) line (out ++ [⟨1, line, cut l k (wordE l k)⟩])
    else (some out, 0)
end LX
end Go.Proofs.Ytfgnpphbkjeooaa
