/- Layer 7: what the operations' laws rest on. -/
import Derived.Test.YthikfdhgkpakpaaDoorAluRefBin
import Derived.Test.YthikfdhgkpakpaaDoorAluUn
namespace Go.Proofs.YthikfdhgkpakpaaDoor
open Go.RowKit
theorem kIn_of {t v : Int} (h : 1 ≤ t ∧ t ≤ 6) (e : kWrap t v = v) : kIn t v = true := by rw [kIn_yes h, e]; exact beq_self_eq_true _
theorem kWrap_twice (t v : Int) : kWrap t (kWrap t v) = kWrap t v := by
  by_cases h : 1 ≤ t ∧ t ≤ 6
  · obtain rfl | rfl | rfl | rfl | rfl | rfl : t = 1 ∨ t = 2 ∨ t = 3 ∨ t = 4 ∨ t = 5 ∨ t = 6 := by omega
    · rw [kWrap_1, kWrap_1]; repeat' split
      all_goals omega
    · rw [kWrap_2, kWrap_2]; omega
    · rw [kWrap_3, kWrap_3]; omega
    · rw [kWrap_4, kWrap_4]; omega
    · rw [kWrap_5, kWrap_5]; omega
    · rfl
  · rw [kWrap_no h, kWrap_no h]
theorem kIn_wrap {t : Int} (h : 1 ≤ t ∧ t ≤ 6) (v : Int) : kIn t (kWrap t v) = true := kIn_of h (kWrap_twice t v)
theorem aBin_go {op t a b : Int} (h1 : aBinary op = true) (h2 : aGoes op t = true) (h3 : kIn t a = true) (h4 : kIn t b = true) (h5 : op ≠ 18 ∧ op ≠ 19) (h6 : (op = 11 ∨ op = 12) → b ≠ 0) (h7 : op < 20) :
    aBin op t a b = (kWrap t (aReck op (kBits t) a b), 0, true) := by
  unfold aBin
  rw [if_neg (show ¬ (op = 18 ∨ op = 19) by omega), h1, h2, h3, h4, if_pos (show (true && true && true && true) = true from rfl), if_neg (fun h => h6 h.1 h.2), if_neg (by omega)]
theorem wrap64_mod (z : Int) : wrap64 z = (z + 9223372036854775808) % 18446744073709551616 - 9223372036854775808 := by
  unfold wrap64; omega
theorem law_div {t A B : Int} (hg : aGoes 11 t = true) (hA : kIn t A = true) (hB : kIn t B = true) (h0 : B ≠ 0) :
    ∃ q m p, aBin 11 t A B = (q, 0, true) ∧ aBin 12 t A B = (m, 0, true) ∧ aBin 10 t q B = (p, 0, true) ∧ aBin 8 t p m = (A, 0, true) := by
  have ht := aGoes_div (Or.inl rfl) hg
  have h1 : 1 ≤ t ∧ t ≤ 6 := by omega
  have g12 : aGoes 12 t = true := by rcases ht with rfl | rfl <;> decide
  have g10 : aGoes 10 t = true := by rcases ht with rfl | rfl <;> decide
  have g8 : aGoes 8 t = true := by rcases ht with rfl | rfl <;> decide
  refine ⟨_, _, _, aBin_go rfl hg hA hB (by omega) (fun _ => h0) (by omega), aBin_go rfl g12 hA hB (by omega) (fun _ => h0) (by omega), aBin_go rfl g10 (kIn_wrap h1 _) hB (by omega) (by omega) (by omega), ?_⟩
  rw [aBin_go rfl g8 (kIn_wrap h1 _) (kIn_wrap h1 _) (by omega) (by omega) (by omega)]
  have hb := kIn_bd hA (by omega)
  have e1 : ∀ k, aReck 11 k A B = wrap64 (A.tdiv B) := fun k => by unfold aReck; simp
  have e2 : ∀ k, aReck 12 k A B = A.tmod B := fun k => by unfold aReck; simp
  have e3 : ∀ k a b, aReck 10 k a b = wrap64 (a * b) := fun k a b => by unfold aReck; simp
  have e4 : ∀ k a b, aReck 8 k a b = wrap64 (a + b) := fun k a b => by unfold aReck; simp
  rw [e1, e2, e3, e4]
  have hbd : -2147483648 ≤ A ∧ A ≤ 2147483647 := by
    rcases ht with rfl | rfl
    · have : -32768 ≤ A ∧ A ≤ 32767 := hb; omega
    · exact hb
  obtain ⟨f1, f2, f3, _, _⟩ := rem_facts A B hbd
  rw [IntWalk.wrap64_in (A.tdiv B) (by omega)]
  generalize A.tdiv B = x at *
  generalize A.tmod B = m at *
  rcases ht with rfl | rfl
  · have hb : -32768 ≤ A ∧ A ≤ 32767 := hb
    rw [kWrap_2 x, kWrap_2 m, kWrap_2, kWrap_2, wrap64_mod, wrap64_mod]
    obtain ⟨j, hj⟩ : ∃ j, (x + 32768) % 65536 - 32768 = x + 65536 * j := ⟨-((x + 32768) / 65536), by omega⟩
    rw [hj, Int.add_mul, Int.mul_assoc, f1]
    generalize j * B = J
    congr 1
    omega
  · have hb : -2147483648 ≤ A ∧ A ≤ 2147483647 := hb
    rw [kWrap_3 x, kWrap_3 m, kWrap_3, kWrap_3, wrap64_mod, wrap64_mod]
    obtain ⟨j, hj⟩ : ∃ j, (x + 2147483648) % 4294967296 - 2147483648 = x + 4294967296 * j := ⟨-((x + 2147483648) / 4294967296), by omega⟩
    rw [hj, Int.add_mul, Int.mul_assoc, f1]
    generalize j * B = J
    congr 1
    omega
theorem aBin_cmp {op t a b : Int} (h1 : aBinary op = true) (h5 : op = 20 ∨ op = 21 ∨ op = 22 ∨ op = 23 ∨ op = 24 ∨ op = 25) :
    aBin op t a b = if (aGoes op t && kIn t a && kIn t b) = true then (aNum (aHolds op a b), 0, true) else (0, 0, false) := by
  unfold aBin
  rw [if_neg (show ¬ (op = 18 ∨ op = 19) by omega), h1, if_neg (show ¬ ((op = 11 ∨ op = 12) ∧ b = 0) by omega), if_pos (show 20 ≤ op by omega)]
  simp only [Bool.true_and]
theorem goes_like (t : Int) : aGoes 21 t = aGoes 20 t ∧ aGoes 25 t = aGoes 22 t ∧ aGoes 23 t = aGoes 24 t := by
  by_cases h : 1 ≤ t ∧ t ≤ 6
  · obtain rfl | rfl | rfl | rfl | rfl | rfl : t = 1 ∨ t = 2 ∨ t = 3 ∨ t = 4 ∨ t = 5 ∨ t = 6 := by omega
    all_goals decide
  · simp only [aGoes_t h, and_self]
theorem law_cmp (op u t A B : Int) (h : (op = 20 ∧ u = 21) ∨ (op = 22 ∧ u = 25) ∨ (op = 24 ∧ u = 23)) :
    ∃ x y f g p q, aBin op t A B = (x, f, p) ∧ aBin u t A B = (y, g, q) ∧ (p = false ∨ (p = true ∧ ((x = 1 ∧ y = 0) ∨ (x = 0 ∧ y = 1)))) := by
  have hu : aGoes u t = aGoes op t := by
    obtain ⟨a, b, c⟩ := goes_like t
    rcases h with ⟨rfl, rfl⟩ | ⟨rfl, rfl⟩ | ⟨rfl, rfl⟩ <;> assumption
  have hh : aHolds u A B = !aHolds op A B := by
    rcases h with ⟨rfl, rfl⟩ | ⟨rfl, rfl⟩ | ⟨rfl, rfl⟩
    · show (A != B) = !(A == B); rfl
    · show decide (B ≤ A) = !decide (A < B)
      rw [← decide_not]; exact decide_eq_decide.mpr (by omega)
    · show decide (A ≤ B) = !decide (B < A)
      rw [← decide_not]; exact decide_eq_decide.mpr (by omega)
  have b1 : aBinary op = true := by rcases h with ⟨rfl, rfl⟩ | ⟨rfl, rfl⟩ | ⟨rfl, rfl⟩ <;> rfl
  have b2 : aBinary u = true := by rcases h with ⟨rfl, rfl⟩ | ⟨rfl, rfl⟩ | ⟨rfl, rfl⟩ <;> rfl
  rw [aBin_cmp b1 (by omega), aBin_cmp b2 (by omega), hu, hh]
  by_cases hc : (aGoes op t && kIn t A && kIn t B) = true
  · rw [if_pos hc, if_pos hc]
    refine ⟨_, _, _, _, _, _, rfl, rfl, Or.inr ⟨rfl, ?_⟩⟩
    cases aHolds op A B
    · exact Or.inr ⟨rfl, rfl⟩
    · exact Or.inl ⟨rfl, rfl⟩
  · rw [if_neg hc, if_neg hc]
    exact ⟨_, _, _, _, _, _, rfl, rfl, Or.inl rfl⟩
theorem morgan (n A B : Nat) (hA : A < 2 ^ n) (hB : B < 2 ^ n) : (2 ^ n - (A + 1)) ||| (2 ^ n - (B + 1)) = 2 ^ n - ((A &&& B) + 1) := by
  apply Nat.eq_of_testBit_eq
  intro i
  rw [Nat.testBit_or, Nat.testBit_two_pow_sub_succ hA, Nat.testBit_two_pow_sub_succ hB, Nat.testBit_two_pow_sub_succ (Nat.and_lt_two_pow _ hB), Nat.testBit_and]
  cases decide (i < n) <;> cases A.testBit i <;> cases B.testBit i <;> rfl
theorem law_not {t A B : Int} (hg : aGoes 14 t = true) (hA : kIn t A = true) (hB : kIn t B = true) :
    ∃ c n x y, aBin 14 t A B = (c, 0, true) ∧ aUn 17 t c = (n, true) ∧ aUn 17 t A = (x, true) ∧ aUn 17 t B = (y, true) ∧ aBin 15 t x y = (n, 0, true) := by
  have ht := aGoes_bit (Or.inl rfl) hg
  have h1 : 1 ≤ t ∧ t ≤ 6 := by omega
  have h5 : 1 ≤ t ∧ t ≤ 5 := by omega
  have g15 : aGoes 15 t = true := by rcases ht with rfl | rfl | rfl <;> decide
  have g17 : aGoes 17 t = true := by rcases ht with rfl | rfl | rfl <;> decide
  have un : ∀ a, kIn t a = true → aUn 17 t a = (kHigh t - a, true) := by
    intro a ha
    unfold aUn
    rw [if_pos ⟨Or.inr rfl, g17, ha⟩, if_neg (by omega)]
  have hl : kLow t = 0 := by rcases ht with rfl | rfl | rfl <;> rfl
  obtain ⟨n, hn⟩ : ∃ n : Nat, kHigh t = ((2 ^ n - 1 : Nat) : Int) := by
    rcases ht with rfl | rfl | rfl
    · exact ⟨1, by decide⟩
    · exact ⟨16, by decide⟩
    · exact ⟨32, by decide⟩
  have iny : ∀ a, 0 ≤ a → a ≤ kHigh t → kIn t a = true := by
    intro a l h
    rw [kIn_yes h1, kWrap_in h5, hl]
    exact decide_eq_true ⟨l, h⟩
  have hp : 0 < 2 ^ n := Nat.two_pow_pos n
  obtain ⟨a1, a2⟩ := kIn_bd hA h5
  obtain ⟨b1, b2⟩ := kIn_bd hB h5
  rw [hl] at a1 b1
  obtain ⟨A', rfl⟩ : ∃ k : Nat, A = k := ⟨A.toNat, by omega⟩
  obtain ⟨B', rfl⟩ : ∃ k : Nat, B = k := ⟨B.toNat, by omega⟩
  have e14 := aBin_go (op := 14) rfl hg hA hB (by omega) (by omega) (by omega)
  rw [bits_wrap 14 t (Or.inl rfl) ht A' B' a2 b2, show fN 14 A' B' = A' &&& B' from rfl] at e14
  have hlt : A' &&& B' < 2 ^ n := Nat.and_lt_two_pow _ (by omega)
  refine ⟨_, _, _, _, e14, un _ (iny _ (by omega) (by omega)), un _ hA, un _ hB, ?_⟩
  rw [aBin_go rfl g15 (iny _ (by omega) (by omega)) (iny _ (by omega) (by omega)) (by omega) (by omega) (by omega)]
  rw [show kHigh t - (A' : Int) = ((2 ^ n - (A' + 1) : Nat) : Int) by omega, show kHigh t - (B' : Int) = ((2 ^ n - (B' + 1) : Nat) : Int) by omega]
  rw [bits_wrap 15 t (Or.inr (Or.inl rfl)) ht _ _ (by omega) (by omega), show ∀ a b, fN 15 a b = a ||| b from fun _ _ => rfl, morgan n A' B' (by omega) (by omega)]
  congr 1
  omega
end Go.Proofs.YthikfdhgkpakpaaDoor
