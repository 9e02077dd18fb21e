/- Contract of the answer's Bin (layer 7). -/
import Derived.Test.YthikfdhgkpakpaaDoorAluRef
import Derived.Test.YthikfdhgkpakpaaDoorAluUn
import Derived.Test.YthikfdhgkpakpaaDoorAluBin
namespace Go.Proofs.YthikfdhgkpakpaaDoor
open Go.RowKit
theorem aGoes_div {op t : Int} (ho : op = 11 ∨ op = 12) (h : aGoes op t = true) : t = 2 ∨ t = 3 := by unfold aGoes at h; have := of_decide_eq_true h; omega
theorem aGoes_bit {op t : Int} (ho : op = 14 ∨ op = 15 ∨ op = 16) (h : aGoes op t = true) : t = 1 ∨ t = 4 ∨ t = 5 := by unfold aGoes at h; have := of_decide_eq_true h; omega
theorem aGoes_sh {op t : Int} (ho : op = 18 ∨ op = 19) (h : aGoes op t = true) : t = 4 ∨ t = 5 := by unfold aGoes at h; have := of_decide_eq_true h; omega
theorem rem_facts (a b : Int) (ha : -2147483648 ≤ a ∧ a ≤ 2147483647) : a.tdiv b * b = a - a.tmod b ∧ -2147483648 ≤ a.tdiv b ∧ a.tdiv b ≤ 2147483648 ∧ (0 ≤ a → 0 ≤ a.tmod b ∧ a.tmod b ≤ a) ∧ (a ≤ 0 → a ≤ a.tmod b ∧ a.tmod b ≤ 0) := by
  have h1 := Int.tmod_add_mul_tdiv a b
  rw [Int.mul_comm] at h1
  have h2 := Int.natAbs_tdiv_le_natAbs a b
  have h3 : (a.tmod b).natAbs ≤ a.natAbs := by rw [Int.natAbs_tmod]; exact Nat.mod_le _ _
  have h4 : 0 ≤ a → 0 ≤ a.tmod b := Int.tmod_nonneg b
  have h5 : a ≤ 0 → a.tmod b ≤ 0 := by
    intro h
    have := Int.tmod_nonneg b (show 0 ≤ -a by omega)
    rw [Int.neg_tmod] at this; omega
  refine ⟨by omega, by omega, by omega, fun h => ⟨h4 h, by omega⟩, fun h => ⟨by omega, h5 h⟩⟩
theorem rem_val (t a b : Int) (ht : t = 2 ∨ t = 3) (ha : kIn t a = true) : wrap64 (a - wrap64 (wrap64 (a.tdiv b) * b)) = kWrap t (a.tmod b) := by
  have hb := kIn_bd ha (by omega)
  have hb2 : -2147483648 ≤ a ∧ a ≤ 2147483647 := by
    rcases ht with rfl | rfl
    · have : -32768 ≤ a ∧ a ≤ 32767 := hb; omega
    · have : -2147483648 ≤ a ∧ a ≤ 2147483647 := hb; omega
  obtain ⟨h1, h2, h3, h4, h5⟩ := rem_facts a b hb2
  rw [IntWalk.wrap64_in (a.tdiv b) (by omega), h1, IntWalk.wrap64_in (a - a.tmod b) (by omega), show a - (a - a.tmod b) = a.tmod b by omega, IntWalk.wrap64_in (a.tmod b) (by omega)]
  rcases ht with rfl | rfl
  · have : -32768 ≤ a ∧ a ≤ 32767 := hb; rw [kWrap_2]; omega
  · rw [kWrap_3]; omega
theorem ofInt_64 (a : Nat) (ha : a < 4294967296) : (BitVec.ofInt 64 (a : Int)).toNat = a := by
  rw [BitVec.ofInt_natCast, BitVec.toNat_ofNat]; exact Nat.mod_eq_of_lt (by omega)
theorem bits_val (op : Int) (hop : op = 14 ∨ op = 15 ∨ op = 16) (A B : Nat) (hA : A < 4294967296) (hB : B < 4294967296) (k : Int) : aReck op k A B = ((fN op A B : Nat) : Int) := by
  have hF := fN_lt (op := op) hA hB
  rcases hop with rfl | rfl | rfl
  · show IntKind.i64.wrap ((BitVec.ofInt 64 (A : Int) &&& BitVec.ofInt 64 (B : Int)).toNat : Int) = ((A &&& B : Nat) : Int)
    have hF' : A &&& B < 4294967296 := hF
    rw [BitVec.toNat_and, ofInt_64 A hA, ofInt_64 B hB, IntKind.wrap_i64]; omega
  · show IntKind.i64.wrap ((BitVec.ofInt 64 (A : Int) ||| BitVec.ofInt 64 (B : Int)).toNat : Int) = ((A ||| B : Nat) : Int)
    have hF' : A ||| B < 4294967296 := hF
    rw [BitVec.toNat_or, ofInt_64 A hA, ofInt_64 B hB, IntKind.wrap_i64]; omega
  · show IntKind.i64.wrap ((BitVec.ofInt 64 (A : Int) ^^^ BitVec.ofInt 64 (B : Int)).toNat : Int) = ((A ^^^ B : Nat) : Int)
    have hF' : A ^^^ B < 4294967296 := hF
    rw [BitVec.toNat_xor, ofInt_64 A hA, ofInt_64 B hB, IntKind.wrap_i64]; omega
theorem fN_lt16 {op : Int} {a b : Nat} (ha : a < 65536) (hb : b < 65536) : fN op a b < 65536 := by
  unfold fN
  repeat' split
  · exact Nat.and_lt_two_pow (n := 16) _ hb
  · exact Nat.or_lt_two_pow (n := 16) ha hb
  · exact Nat.xor_lt_two_pow (n := 16) ha hb
theorem fN_lt1 {op : Int} {a b : Nat} (ha : a < 2) (hb : b < 2) : fN op a b < 2 := by
  unfold fN
  repeat' split
  · exact Nat.and_lt_two_pow (n := 1) _ hb
  · exact Nat.or_lt_two_pow (n := 1) ha hb
  · exact Nat.xor_lt_two_pow (n := 1) ha hb
theorem bits_wrap (op t : Int) (hop : op = 14 ∨ op = 15 ∨ op = 16) (ht : t = 1 ∨ t = 4 ∨ t = 5) (A B : Nat) (hA : (A : Int) ≤ kHigh t) (hB : (B : Int) ≤ kHigh t) (k : Int) : kWrap t (aReck op k A B) = ((fN op A B : Nat) : Int) := by
  rcases ht with rfl | rfl | rfl
  · have h1 : (A : Int) ≤ 1 := hA
    have h2 : (B : Int) ≤ 1 := hB
    rw [bits_val op hop A B (by omega) (by omega), kWrap_1]
    have := fN_lt1 (op := op) (a := A) (b := B) (by omega) (by omega)
    by_cases h0 : ((fN op A B : Nat) : Int) = 0
    · rw [if_pos h0, h0]
    · rw [if_neg h0]; omega
  · have h1 : (A : Int) ≤ 65535 := hA
    have h2 : (B : Int) ≤ 65535 := hB
    rw [bits_val op hop A B (by omega) (by omega), kWrap_4]
    have := fN_lt16 (op := op) (a := A) (b := B) (by omega) (by omega)
    omega
  · have h1 : (A : Int) ≤ 4294967295 := hA
    have h2 : (B : Int) ≤ 4294967295 := hB
    rw [bits_val op hop A B (by omega) (by omega), kWrap_5]
    have := fN_lt (op := op) (a := A) (b := B) (by omega) (by omega)
    omega
theorem sh_zero (A n k : Nat) (h : k ≤ n) : A * 2 ^ n % 2 ^ k = 0 := by
  rw [show n = k + (n - k) by omega, Nat.pow_add, Nat.mul_comm A, Nat.mul_assoc]
  exact Nat.mul_mod_right _ _
theorem aReck_18 (k a b : Int) : aReck 18 k a b = wrap64 (a * 2 ^ aSh b k) := by unfold aReck; simp
theorem aReck_19 (k a b : Int) : aReck 19 k a b = a / 2 ^ aSh b k := by unfold aReck; simp
theorem shN_18' (m : Int) (A k : Nat) : shN 18 m A k = A * 2 ^ k % m.toNat := by unfold shN; simp
theorem shN_19' (m : Int) (A k : Nat) : shN 19 m A k = A / 2 ^ k := by unfold shN; simp
theorem sh_key (op t b : Int) (hop : op = 18 ∨ op = 19) (A K : Nat) (m : Int) (hm : m = ((2 ^ K : Nat) : Int)) (hK : K ≤ 32) (hw : ∀ v, kWrap t v = v % m) (hwm : ∀ z : Int, wrap64 z % m = z % m) (hAm : A < 2 ^ K) :
    kWrap t (aReck op K A b) = ((shN op m A (shK b) : Nat) : Int) := by
  rw [hw]
  have hmn : m.toNat = 2 ^ K := by rw [hm, Int.toNat_natCast]
  have hcase : (aSh b K = shK b ∧ aSh b K ≤ K) ∨ (aSh b K = K ∧ K ≤ shK b) := by unfold aSh shK; omega
  rcases hop with rfl | rfl
  · rw [aReck_18, shN_18', hwm, hmn, hm]
    have e : ((A : Int) * 2 ^ aSh b K) % ((2 ^ K : Nat) : Int) = ((A * 2 ^ aSh b K % 2 ^ K : Nat) : Int) := by
      rw [Int.natCast_emod, Int.natCast_mul, Int.natCast_pow]; simp
    rw [e]
    rcases hcase with ⟨h, _⟩ | ⟨h1, h2⟩
    · rw [h]
    · rw [sh_zero A (shK b) K h2, sh_zero A (aSh b K) K (by omega)]
  · rw [aReck_19, shN_19']
    have e : ((A : Int) / 2 ^ aSh b K) = ((A / 2 ^ aSh b K : Nat) : Int) := by
      rw [Int.natCast_ediv, Int.natCast_pow]; simp
    rw [e]
    have h1 := Nat.div_le_self A (2 ^ aSh b K)
    have hlt : ((A / 2 ^ aSh b K : Nat) : Int) < m := by rw [hm]; exact Int.ofNat_lt.2 (Nat.lt_of_le_of_lt h1 hAm)
    rw [Int.emod_eq_of_lt (Int.natCast_nonneg _) hlt]
    rcases hcase with ⟨h, _⟩ | ⟨h1, h2⟩
    · rw [h]
    · rw [h1, Nat.div_eq_of_lt hAm, Nat.div_eq_of_lt (Nat.lt_of_lt_of_le hAm (Nat.pow_le_pow_right (by omega) h2))]
theorem two16 : (65536 : Int) = ((2 ^ 16 : Nat) : Int) := by decide
theorem two32 : (4294967296 : Int) = ((2 ^ 32 : Nat) : Int) := by decide
theorem sh_wrap (op t b : Int) (hop : op = 18 ∨ op = 19) (ht : t = 4 ∨ t = 5) (A : Nat) (hA : (A : Int) ≤ kHigh t) : kWrap t (aReck op (kBits t) A b) = ((shN op (kHigh t + 1) A (shK b) : Nat) : Int) := by
  rcases ht with rfl | rfl
  · have h1 : (A : Int) ≤ 65535 := hA
    have hb : kBits 4 = ((16 : Nat) : Int) := rfl
    have hh : kHigh 4 + 1 = 65536 := rfl
    rw [hb, hh]
    exact sh_key op 4 b hop A 16 65536 two16 (by omega) kWrap_4 (fun z => by unfold wrap64; omega) (by omega)
  · have h1 : (A : Int) ≤ 4294967295 := hA
    have hb : kBits 5 = ((32 : Nat) : Int) := rfl
    have hh : kHigh 5 + 1 = 4294967296 := rfl
    rw [hb, hh]
    exact sh_key op 5 b hop A 32 4294967296 two32 (by omega) kWrap_5 (fun z => by unfold wrap64; omega) (by omega)
set_option maxHeartbeats 2000000 in
theorem ref07_Bin (op t a b : Int) (w : World) : Calls Tryd.prog 7 #[.int .i64 op, .int .i64 t, .int .i64 a, .int .i64 b] w fun e w' => e = .returned (.tuple #[.int .i64 (aBin op t a b).1, .int .i64 (aBin op t a b).2.1, .bool (aBin op t a b).2.2]) ∧ w = w' := by
  obtain ⟨u, hu⟩ : ∃ u, u = if op = 18 ∨ op = 19 then 2 else t := ⟨_, rfl⟩
  obtain ⟨r, hA⟩ : ∃ r, aBin op t a b = r := ⟨_, rfl⟩
  rw [hA]
  unfold aBin at hA
  rw [← hu] at hA
  have Hw1 := Lib.hid (show -9223372036854775808 ≤ wrap64 (a + b) ∧ wrap64 (a + b) ≤ 9223372036854775807 by unfold wrap64; omega)
  have Hw2 := Lib.hid (show -9223372036854775808 ≤ wrap64 (a - b) ∧ wrap64 (a - b) ≤ 9223372036854775807 by unfold wrap64; omega)
  have Hw3 := Lib.hid (show -9223372036854775808 ≤ wrap64 (a * b) ∧ wrap64 (a * b) ≤ 9223372036854775807 by unfold wrap64; omega)
  have Hw4 := Lib.hid (show -9223372036854775808 ≤ wrap64 (a.tdiv b) ∧ wrap64 (a.tdiv b) ≤ 9223372036854775807 by unfold wrap64; omega)
  have ho : (op = 18 ∨ op = 19) ∧ u = 2 ∨ (op ≠ 18 ∧ op ≠ 19) ∧ u = t := by
    by_cases h : op = 18 ∨ op = 19
    · rw [if_pos h] at hu; exact Or.inl ⟨h, hu⟩
    · rw [if_neg h] at hu; exact Or.inr ⟨by omega, hu⟩
  clear hu
  cases hb : aBinary op with
  | false =>
    rw [hb] at hA
    simp only [Bool.false_and, Bool.false_eq_true, if_false] at hA
    subst hA
    rcases ho with ⟨rfl | rfl, rfl⟩ | ⟨⟨h1, h2⟩, rfl⟩
    · exact absurd hb (by decide)
    · exact absurd hb (by decide)
    have e18 : ((op : Int) == 18) = false := by simpa using h1
    have e19 : ((op : Int) == 19) = false := by simpa using h2
    clear h1 h2
    go_enter Tryd.func7, Tryd.ntmps7
    go_wp2_with (go_at_call 11; refine (ref07_Binary _ _).mono ?_; rintro e w' ⟨rfl, rfl⟩)
    go_ret3
    exact ⟨rfl, rfl⟩
  | true =>
  cases hgo : aGoes op t with
  | false =>
    rw [hb, hgo] at hA
    simp only [Bool.true_and, Bool.false_and, Bool.false_eq_true, if_false] at hA
    subst hA
    rcases ho with ⟨rfl | rfl, rfl⟩ | ⟨⟨h1, h2⟩, rfl⟩
    all_goals (try have e18 : ((op : Int) == 18) = false := by simpa using h1)
    all_goals (try have e19 : ((op : Int) == 19) = false := by simpa using h2)
    all_goals (try clear h1 h2)
    all_goals
      go_enter Tryd.func7, Tryd.ntmps7
      go_wp2_with (first | (go_at_call 11; refine (ref07_Binary _ _).mono ?_; rintro e w' ⟨rfl, rfl⟩) | (go_at_call 9; refine (ref07_Goes _ _ _).mono ?_; rintro e w' ⟨rfl, rfl⟩))
      go_ret3
      exact ⟨rfl, rfl⟩
  | true =>
  cases hia : kIn t a with
  | false =>
    rw [hb, hgo, hia] at hA
    simp only [Bool.true_and, Bool.false_and, Bool.false_eq_true, if_false] at hA
    subst hA
    rcases ho with ⟨rfl | rfl, rfl⟩ | ⟨⟨h1, h2⟩, rfl⟩
    all_goals (try have e18 : ((op : Int) == 18) = false := by simpa using h1)
    all_goals (try have e19 : ((op : Int) == 19) = false := by simpa using h2)
    all_goals (try clear h1 h2)
    all_goals
      go_enter Tryd.func7, Tryd.ntmps7
      go_wp2_with (first | (go_at_call 11; refine (ref07_Binary _ _).mono ?_; rintro e w' ⟨rfl, rfl⟩) | (go_at_call 9; refine (ref07_Goes _ _ _).mono ?_; rintro e w' ⟨rfl, rfl⟩) | (go_at_call 25; refine (ref01_In _ _ _).mono ?_; rintro e w' ⟨rfl, rfl⟩))
      go_ret3
      exact ⟨rfl, rfl⟩
  | true =>
  cases hib : kIn u b with
  | false =>
    rw [hb, hgo, hia, hib] at hA
    simp only [Bool.true_and, Bool.false_eq_true, if_false] at hA
    subst hA
    rcases ho with ⟨rfl | rfl, rfl⟩ | ⟨⟨h1, h2⟩, rfl⟩
    all_goals (try have e18 : ((op : Int) == 18) = false := by simpa using h1)
    all_goals (try have e19 : ((op : Int) == 19) = false := by simpa using h2)
    all_goals (try clear h1 h2)
    all_goals
      go_enter Tryd.func7, Tryd.ntmps7
      go_wp2_with fail
      refine (ref07_Binary _ _).mono ?_; rintro e w' ⟨rfl, rfl⟩
      go_wp2_with fail
      refine (ref07_Goes _ _ _).mono ?_; rintro e w' ⟨rfl, rfl⟩
      go_wp2_with fail
      refine (ref01_In _ _ _).mono ?_; rintro e w' ⟨rfl, rfl⟩
      go_wp2_with fail
      refine (ref01_In _ _ _).mono ?_; rintro e w' ⟨rfl, rfl⟩
      go_wp2_with fail
      go_ret3
      exact ⟨rfl, rfl⟩
  | true =>
  rw [hb, hgo, hia, hib] at hA
  simp only [Bool.true_and, if_true] at hA
  have hops := aGoes_ops hgo
  have hbin : op ≠ 13 ∧ op ≠ 17 := by unfold aBinary at hb; have := of_decide_eq_true hb; omega
  have hall : op = 8 ∨ op = 9 ∨ op = 10 ∨ (op = 11 ∨ op = 12) ∨ (op = 14 ∨ op = 15 ∨ op = 16) ∨ (op = 18 ∨ op = 19) ∨ (op = 20 ∨ op = 21 ∨ op = 22 ∨ op = 23 ∨ op = 24 ∨ op = 25) := by omega
  clear hops hbin
  rcases hall with rfl | rfl | rfl | hdiv | hbits | hsh | hcmp
  · rcases ho with ⟨h18, rfl⟩ | ⟨_, rfl⟩
    · omega
    rw [if_neg (by omega), if_neg (by omega)] at hA
    subst hA
    go_enter Tryd.func7, Tryd.ntmps7
    go_wp2_with fail
    refine (ref07_Binary _ _).mono ?_; rintro e w' ⟨rfl, rfl⟩
    go_wp2_with fail
    refine (ref07_Goes _ _ _).mono ?_; rintro e w' ⟨rfl, rfl⟩
    go_wp2_with fail
    refine (ref01_In _ _ _).mono ?_; rintro e w' ⟨rfl, rfl⟩
    go_wp2_with fail
    refine (ref01_In _ _ _).mono ?_; rintro e w' ⟨rfl, rfl⟩
    go_wp2_with fail
    refine (ref01_Wrap _ _ Hw1.out _).mono ?_; rintro e w' ⟨rfl, rfl⟩
    go_wp2_with fail
    go_ret3
    exact ⟨rfl, rfl⟩
  · rcases ho with ⟨h18, rfl⟩ | ⟨_, rfl⟩
    · omega
    rw [if_neg (by omega), if_neg (by omega)] at hA
    subst hA
    go_enter Tryd.func7, Tryd.ntmps7
    go_wp2_with fail
    refine (ref07_Binary _ _).mono ?_; rintro e w' ⟨rfl, rfl⟩
    go_wp2_with fail
    refine (ref07_Goes _ _ _).mono ?_; rintro e w' ⟨rfl, rfl⟩
    go_wp2_with fail
    refine (ref01_In _ _ _).mono ?_; rintro e w' ⟨rfl, rfl⟩
    go_wp2_with fail
    refine (ref01_In _ _ _).mono ?_; rintro e w' ⟨rfl, rfl⟩
    go_wp2_with fail
    refine (ref01_Wrap _ _ Hw2.out _).mono ?_; rintro e w' ⟨rfl, rfl⟩
    go_wp2_with fail
    go_ret3
    exact ⟨rfl, rfl⟩
  · rcases ho with ⟨h18, rfl⟩ | ⟨_, rfl⟩
    · omega
    rw [if_neg (by omega), if_neg (by omega)] at hA
    subst hA
    go_enter Tryd.func7, Tryd.ntmps7
    go_wp2_with fail
    refine (ref07_Binary _ _).mono ?_; rintro e w' ⟨rfl, rfl⟩
    go_wp2_with fail
    refine (ref07_Goes _ _ _).mono ?_; rintro e w' ⟨rfl, rfl⟩
    go_wp2_with fail
    refine (ref01_In _ _ _).mono ?_; rintro e w' ⟨rfl, rfl⟩
    go_wp2_with fail
    refine (ref01_In _ _ _).mono ?_; rintro e w' ⟨rfl, rfl⟩
    go_wp2_with fail
    refine (ref01_Wrap _ _ Hw3.out _).mono ?_; rintro e w' ⟨rfl, rfl⟩
    go_wp2_with fail
    go_ret3
    exact ⟨rfl, rfl⟩
  · rcases ho with ⟨h18, rfl⟩ | ⟨_, rfl⟩
    · omega
    have ht := aGoes_div hdiv hgo
    by_cases hz : b = 0
    · rw [if_pos ⟨hdiv, hz⟩] at hA
      subst hA
      subst hz
      rcases hdiv with rfl | rfl
      all_goals
        go_enter Tryd.func7, Tryd.ntmps7
        go_wp2_with fail
        refine (ref07_Binary _ _).mono ?_; rintro e w' ⟨rfl, rfl⟩
        go_wp2_with fail
        refine (ref07_Goes _ _ _).mono ?_; rintro e w' ⟨rfl, rfl⟩
        go_wp2_with fail
        refine (ref01_In _ _ _).mono ?_; rintro e w' ⟨rfl, rfl⟩
        go_wp2_with fail
        refine (ref01_In _ _ _).mono ?_; rintro e w' ⟨rfl, rfl⟩
        go_wp2_with fail
        go_ret3
        exact ⟨rfl, rfl⟩
    have ez : ((b : Int) == 0) = false := by simpa using hz
    rw [if_neg (fun h => hz h.2), if_neg (by omega)] at hA
    subst hA
    have Hrem := Lib.hid (rem_val u a b ht hia)
    rcases hdiv with rfl | rfl
    · clear ht
      go_enter Tryd.func7, Tryd.ntmps7
      go_wp2_with fail
      refine (ref07_Binary _ _).mono ?_; rintro e w' ⟨rfl, rfl⟩
      go_wp2_with fail
      refine (ref07_Goes _ _ _).mono ?_; rintro e w' ⟨rfl, rfl⟩
      go_wp2_with fail
      refine (ref01_In _ _ _).mono ?_; rintro e w' ⟨rfl, rfl⟩
      go_wp2_with fail
      refine (ref01_In _ _ _).mono ?_; rintro e w' ⟨rfl, rfl⟩
      go_wp2_with fail
      refine (ref01_Wrap _ _ Hw4.out _).mono ?_; rintro e w' ⟨rfl, rfl⟩
      go_wp2_with fail
      go_ret3
      exact ⟨rfl, rfl⟩
    · clear ht
      go_enter Tryd.func7, Tryd.ntmps7
      go_wp2_with fail
      refine (ref07_Binary _ _).mono ?_; rintro e w' ⟨rfl, rfl⟩
      go_wp2_with fail
      refine (ref07_Goes _ _ _).mono ?_; rintro e w' ⟨rfl, rfl⟩
      go_wp2_with fail
      refine (ref01_In _ _ _).mono ?_; rintro e w' ⟨rfl, rfl⟩
      go_wp2_with fail
      refine (ref01_In _ _ _).mono ?_; rintro e w' ⟨rfl, rfl⟩
      go_wp2_with fail
      go_ret3
      exact ⟨by first | (rw [Hrem.out]; rfl) | (show _ = Ending.returned (.tuple #[.int .i64 (kWrap u (a.tmod b)), .int .i64 0, .bool true]); rw [← Hrem.out]; first | rfl | (simp; done)), rfl⟩
  · rcases ho with ⟨h18, rfl⟩ | ⟨_, rfl⟩
    · omega
    have ht := aGoes_bit hbits hgo
    rw [if_neg (by omega), if_neg (by omega)] at hA
    subst hA
    have h1 := kIn_bd hia (by omega)
    have h2 := kIn_bd hib (by omega)
    have hlo : kLow u = 0 := by rcases ht with rfl | rfl | rfl <;> rfl
    have hhi : kHigh u ≤ 4294967295 := by rcases ht with rfl | rfl | rfl <;> decide
    obtain ⟨A, rfl⟩ : ∃ A : Nat, a = A := ⟨a.toNat, by omega⟩
    obtain ⟨B, rfl⟩ : ∃ B : Nat, b = B := ⟨b.toNat, by omega⟩
    have Hv := Lib.hid (bits_wrap op u hbits ht A B h1.2 h2.2 (kBits u))
    have hA' : A < 4294967296 := by omega
    have hB' : B < 4294967296 := by omega
    rw [Hv.out]
    clear h1 h2 hlo hhi ht
    have Hb := Lib.hid hbits
    rcases hbits with rfl | rfl | rfl
    all_goals
      go_enter Tryd.func7, Tryd.ntmps7
      go_wp2_with fail
      refine (ref07_Binary _ _).mono ?_; rintro e w' ⟨rfl, rfl⟩
      go_wp2_with fail
      refine (ref07_Goes _ _ _).mono ?_; rintro e w' ⟨rfl, rfl⟩
      go_wp2_with fail
      refine (ref01_In _ _ _).mono ?_; rintro e w' ⟨rfl, rfl⟩
      go_wp2_with fail
      refine (ref01_In _ _ _).mono ?_; rintro e w' ⟨rfl, rfl⟩
      go_wp2_with fail
      refine (ref07_bits _ (by omega) A B hA' hB' _).mono ?_; rintro e w' ⟨rfl, rfl⟩
      go_wp2_with fail
      go_ret3
      exact ⟨rfl, rfl⟩
  · rcases ho with ⟨_, rfl⟩ | ⟨h18, rfl⟩
    · have ht := aGoes_sh hsh hgo
      rw [if_neg (by omega), if_neg (by omega)] at hA
      subst hA
      have h1 := kIn_bd hia (by omega)
      have hlo : kLow t = 0 := by rcases ht with rfl | rfl <;> rfl
      obtain ⟨A, rfl⟩ : ∃ A : Nat, a = A := ⟨a.toNat, by omega⟩
      have hA' := h1.2
      have Hv := Lib.hid (sh_wrap op t b hsh ht A h1.2)
      rw [Hv.out]
      have Ht := Lib.hid ht
      have HA := Lib.hid hA'
      clear h1 hlo ht hA'
      rcases hsh with rfl | rfl
      all_goals
        go_enter Tryd.func7, Tryd.ntmps7
        go_wp2_with fail
        refine (ref07_Binary _ _).mono ?_; rintro e w' ⟨rfl, rfl⟩
        go_wp2_with fail
        refine (ref07_Goes _ _ _).mono ?_; rintro e w' ⟨rfl, rfl⟩
        go_wp2_with fail
        refine (ref01_In _ _ _).mono ?_; rintro e w' ⟨rfl, rfl⟩
        go_wp2_with fail
        refine (ref01_In _ _ _).mono ?_; rintro e w' ⟨rfl, rfl⟩
        go_wp2_with fail
        refine (ref07_shift _ _ b (by omega) Ht.out A HA.out _).mono ?_; rintro e w' ⟨rfl, rfl⟩
        go_wp2_with fail
        go_ret3
        exact ⟨rfl, rfl⟩
    · omega
  · rcases ho with ⟨h18, rfl⟩ | ⟨_, rfl⟩
    · omega
    rw [if_neg (by omega), if_pos (by omega)] at hA
    subst hA
    rcases hcmp with rfl | rfl | rfl | rfl | rfl | rfl
    all_goals
      cases hh : aHolds _ a b
      all_goals
        go_enter Tryd.func7, Tryd.ntmps7
        go_wp2_with fail
        refine (ref07_Binary _ _).mono ?_; rintro e w' ⟨rfl, rfl⟩
        go_wp2_with fail
        refine (ref07_Goes _ _ _).mono ?_; rintro e w' ⟨rfl, rfl⟩
        go_wp2_with fail
        refine (ref01_In _ _ _).mono ?_; rintro e w' ⟨rfl, rfl⟩
        go_wp2_with fail
        refine (ref01_In _ _ _).mono ?_; rintro e w' ⟨rfl, rfl⟩
        go_wp2_with fail
        refine (ref07_so _ _ _ (by omega) _).mono ?_; rintro e w' ⟨rfl, rfl⟩
        go_wp2_with fail
        go_ret3
        exact ⟨rfl, rfl⟩
end Go.Proofs.YthikfdhgkpakpaaDoor
