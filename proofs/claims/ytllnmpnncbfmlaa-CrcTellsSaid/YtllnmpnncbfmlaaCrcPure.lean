/- Layer 2, plain mathematics: four steps bit by bit are one step by the table. -/
import Derived.Test.YtllnmpnncbfmlaaProg
namespace Go.Proofs.Ytllnmpnncbfmlaa
def bsP : Nat := 3988292384
def bs (s : Nat) : Nat := if s % 2 = 1 then s / 2 ^^^ bsP else s / 2
def bsN : Nat → Nat → Nat
  | 0, s => s
  | n + 1, s => bs (bsN n s)
def bsT (i : Nat) : Nat := bsN 4 i
theorem bsP_lt : bsP < 2 ^ 32 := by decide
theorem bs_lt {s : Nat} (h : s < 4294967296) : bs s < 4294967296 := by
  unfold bs
  split
  · exact Nat.xor_lt_two_pow (n := 32) (by omega) bsP_lt
  · omega
theorem bsN_lt {s : Nat} (h : s < 4294967296) : ∀ n, bsN n s < 4294967296
  | 0 => h
  | n + 1 => bs_lt (bsN_lt h n)
theorem bsT_lt {s : Nat} (h : s < 4294967296) : bsT s < 4294967296 := bsN_lt h 4
theorem xor_mod_two (a b : Nat) : (a ^^^ b) % 2 = (a % 2 + b % 2) % 2 := by
  have := Nat.testBit_xor a b 0
  simp only [Nat.testBit_zero] at this
  have ha : a % 2 = 0 ∨ a % 2 = 1 := by omega
  have hb : b % 2 = 0 ∨ b % 2 = 1 := by omega
  have hx : (a ^^^ b) % 2 = 0 ∨ (a ^^^ b) % 2 = 1 := by omega
  rcases ha with ha | ha <;> rcases hb with hb | hb <;> rcases hx with hx | hx <;> simp [ha, hb, hx] at this ⊢
theorem bs_xor (a b : Nat) : bs (a ^^^ b) = bs a ^^^ bs b := by
  have hd : (a ^^^ b) / 2 = a / 2 ^^^ b / 2 := Nat.xor_div_two
  have hm := xor_mod_two a b
  unfold bs
  have ha : a % 2 = 0 ∨ a % 2 = 1 := by omega
  have hb : b % 2 = 0 ∨ b % 2 = 1 := by omega
  rcases ha with ha | ha <;> rcases hb with hb | hb <;> simp only [ha, hb, hm, hd] <;> simp
  · rw [Nat.xor_assoc]
  · rw [Nat.xor_assoc, Nat.xor_comm (b / 2) bsP, ← Nat.xor_assoc]
  · rw [Nat.xor_assoc, Nat.xor_comm bsP, Nat.xor_assoc, Nat.xor_self, Nat.xor_zero]
theorem bsN_xor (a b : Nat) : ∀ n, bsN n (a ^^^ b) = bsN n a ^^^ bsN n b
  | 0 => rfl
  | n + 1 => by show bs _ = bs _ ^^^ bs _; rw [bsN_xor a b n, bs_xor]
theorem bs_double (a : Nat) : bs (2 * a) = a := by unfold bs; rw [if_neg (by omega)]; omega
theorem split16 (s : Nat) : s = 16 * (s / 16) ^^^ s % 16 := by
  apply Nat.eq_of_testBit_eq
  intro i
  rw [Nat.testBit_xor]
  have h1 : (16 * (s / 16)).testBit i = (decide (4 ≤ i) && s.testBit i) := by
    rw [show 16 * (s / 16) = 2 ^ 4 * (s / 2 ^ 4) by omega, Nat.testBit_two_pow_mul, Nat.testBit_div_two_pow]
    by_cases h : 4 ≤ i
    · simp [h, show i - 4 + 4 = i by omega]
    · simp [h]
  have h2 : (s % 16).testBit i = (decide (i < 4) && s.testBit i) := by
    rw [show s % 16 = s % 2 ^ 4 by rfl, Nat.testBit_mod_two_pow]
  rw [h1, h2]
  by_cases h : 4 ≤ i
  · simp [h, show ¬ i < 4 by omega]
  · simp [h, show i < 4 by omega]
theorem bsN_four (s : Nat) : bsN 4 s = s / 16 ^^^ bsT (s % 16) := by
  have h := congrArg (bsN 4) (split16 s)
  rw [h, bsN_xor]
  have : bsN 4 (16 * (s / 16)) = s / 16 := by
    show bs (bs (bs (bs (16 * (s / 16))))) = _
    rw [show 16 * (s / 16) = 2 * (8 * (s / 16)) by omega, bs_double, show 8 * (s / 16) = 2 * (4 * (s / 16)) by omega, bs_double,
      show 4 * (s / 16) = 2 * (2 * (s / 16)) by omega, bs_double, bs_double]
  rw [this]; rfl
/-- what one byte makes of a state -/
def crcB (s c : Nat) : Nat := bsN 8 (s ^^^ c)
theorem crcB_two (s c : Nat) : crcB s c = (let x := s ^^^ c; let z := x / 16 ^^^ bsT (x % 16); z / 16 ^^^ bsT (z % 16)) := by
  show bsN 4 (bsN 4 (s ^^^ c)) = _
  rw [bsN_four (s ^^^ c), bsN_four]
theorem and15 (x : Nat) : x &&& 15 = x % 16 := Nat.and_two_pow_sub_one_eq_mod x 4
theorem and1 (x : Nat) : x &&& 1 = x % 2 := Nat.and_one_is_mod x
theorem crcB_lt {s c : Nat} (h : s < 4294967296) (hc : c < 256) : crcB s c < 4294967296 :=
  bsN_lt (Nat.xor_lt_two_pow (n := 32) h (by omega)) 8
def crcO (s : Nat) (l : List UInt8) : Nat := l.foldl (fun s c => crcB s c.toNat) s
theorem crcO_lt (l : List UInt8) : ∀ {s : Nat}, s < 4294967296 → crcO s l < 4294967296 := by
  induction l with
  | nil => intro s h; exact h
  | cons c l ih => intro s h; exact ih (crcB_lt h c.toNat_lt)
theorem crcO_append (s : Nat) (a b : List UInt8) : crcO s (a ++ b) = crcO (crcO s a) b := List.foldl_append ..
/-- a byte is told from another one -/
theorem bs_inj {a b : Nat} (ha : a < 4294967296) (hb : b < 4294967296) (h : bs a = bs b) : a = b := by
  have key : ∀ d, d < 4294967296 → bs d = 0 → d = 0 := by
    intro d hd h0
    unfold bs at h0
    split at h0
    · have h1 : d / 2 = bsP := by
        have := congrArg (· ^^^ bsP) h0
        simpa [Nat.xor_assoc] using this
      unfold bsP at h1; omega
    · omega
  have h0 : bs (a ^^^ b) = 0 := by rw [bs_xor, h, Nat.xor_self]
  have := key _ (Nat.xor_lt_two_pow (n := 32) ha hb) h0
  have h1 := congrArg (· ^^^ b) this
  simpa [Nat.xor_assoc] using h1
theorem bsN_inj {a b : Nat} (ha : a < 4294967296) (hb : b < 4294967296) : ∀ n, bsN n a = bsN n b → a = b
  | 0, h => h
  | n + 1, h => bsN_inj ha hb n (bs_inj (bsN_lt ha n) (bsN_lt hb n) h)
theorem xor_inj {a b c : Nat} (h : a ^^^ c = b ^^^ c) : a = b := by
  have h1 := congrArg (· ^^^ c) h
  simpa [Nat.xor_assoc] using h1
theorem crcB_inj {a b c : Nat} (ha : a < 4294967296) (hb : b < 4294967296) (hc : c < 256) (h : crcB a c = crcB b c) : a = b :=
  xor_inj (bsN_inj (Nat.xor_lt_two_pow (n := 32) ha (by omega)) (Nat.xor_lt_two_pow (n := 32) hb (by omega)) 8 h)
theorem crcO_inj (l : List UInt8) : ∀ {a b : Nat}, a < 4294967296 → b < 4294967296 → crcO a l = crcO b l → a = b := by
  induction l with
  | nil => intro a b _ _ h; exact h
  | cons c l ih => intro a b ha hb h; exact crcB_inj ha hb c.toNat_lt (ih (crcB_lt ha c.toNat_lt) (crcB_lt hb c.toNat_lt) h)
theorem crcB_inj' {s c d : Nat} (hs : s < 4294967296) (hc : c < 256) (hd : d < 256) (h : crcB s c = crcB s d) : c = d := by
  have := bsN_inj (Nat.xor_lt_two_pow (n := 32) hs (by omega)) (Nat.xor_lt_two_pow (n := 32) hs (by omega)) 8 h
  rw [Nat.xor_comm s c, Nat.xor_comm s d] at this
  exact xor_inj this
/-- OF TWO TEXTS THAT DIFFER IN ONE BYTE THE SUMS DIFFER. -/
theorem crcO_set (l : List UInt8) (at_ : Nat) (h : at_ < l.length) (c : UInt8) (hc : l[at_] ≠ c) {s : Nat} (hs : s < 4294967296) : crcO s (l.set at_ c) ≠ crcO s l := by
  intro he
  have e1 : l.set at_ c = l.take at_ ++ c :: l.drop (at_ + 1) := by
    rw [List.set_eq_take_append_cons_drop, if_pos h]
  have e2 : l = l.take at_ ++ l[at_] :: l.drop (at_ + 1) := by
    rw [List.getElem_cons_drop, List.take_append_drop]
  rw [e1, e2] at he
  simp only [crcO_append] at he
  have hq := crcO_lt (l.take at_) hs
  simp only [← e2] at he
  have he' : crcO (crcB (crcO s (l.take at_)) c.toNat) (l.drop (at_ + 1)) = crcO (crcB (crcO s (l.take at_)) l[at_].toNat) (l.drop (at_ + 1)) := he
  have h1 := crcO_inj _ (crcB_lt hq c.toNat_lt) (crcB_lt hq l[at_].toNat_lt) he'
  have h2 := crcB_inj' hq c.toNat_lt l[at_].toNat_lt h1
  exact hc (UInt8.toNat_inj.1 h2.symm)
end Go.Proofs.Ytllnmpnncbfmlaa
