/- Contracts of the answer of layer 7: bits, shift, so. -/
import Derived.Test.YthikfdhgkpakpaaDoorAluMore
namespace Go.Proofs.YthikfdhgkpakpaaDoor
open Go.RowKit
def fN (op : Int) (a b : Nat) : Nat := if op = 14 then a &&& b else if op = 15 then a ||| b else a ^^^ b
theorem fN_zero (op : Int) : fN op 0 0 = 0 := by unfold fN; repeat' split <;> simp
def fB (op : Int) (p q : Nat) : Nat := if op = 14 then p * q else if op = 15 then (p + q + 1) / 2 else (p + q) % 2
theorem bit_mod (f : Bool → Bool → Bool) (g : Nat → Nat → Nat) (hg : ∀ a b i, (g a b).testBit i = f (a.testBit i) (b.testBit i)) (a b : Nat) : g a b % 2 = if f (decide (a % 2 = 1)) (decide (b % 2 = 1)) = true then 1 else 0 := by
  have h := hg a b 0
  simp only [Nat.testBit_zero] at h
  by_cases hx : g a b % 2 = 1
  · rw [hx] at h; rw [← h]; simp [hx]
  · rw [← h]; simp [hx]; omega
theorem bit_div (f : Bool → Bool → Bool) (g : Nat → Nat → Nat) (hg : ∀ a b i, (g a b).testBit i = f (a.testBit i) (b.testBit i)) (a b : Nat) : g a b / 2 = g (a / 2) (b / 2) := by
  apply Nat.eq_of_testBit_eq
  intro i
  rw [hg, Nat.testBit_div_two, Nat.testBit_div_two, Nat.testBit_div_two, hg]
theorem fN_step (op : Int) (hop : op = 14 ∨ op = 15 ∨ op = 16) (a b : Nat) : fN op a b = fB op (a % 2) (b % 2) + 2 * fN op (a / 2) (b / 2) := by
  have ha : a % 2 = 0 ∨ a % 2 = 1 := by omega
  have hb : b % 2 = 0 ∨ b % 2 = 1 := by omega
  rcases hop with rfl | rfl | rfl
  · have h1 := bit_mod (· && ·) (· &&& ·) (fun a b i => Nat.testBit_and a b i) a b
    have h2 := bit_div (· && ·) (· &&& ·) (fun a b i => Nat.testBit_and a b i) a b
    show a &&& b = a % 2 * (b % 2) + 2 * (a / 2 &&& b / 2)
    rw [← h2]
    clear h2
    generalize a &&& b = c at *
    rcases ha with ha | ha <;> rcases hb with hb | hb <;> simp [ha, hb] at h1 ⊢ <;> omega
  · have h1 := bit_mod (· || ·) (· ||| ·) (fun a b i => Nat.testBit_or a b i) a b
    have h2 := bit_div (· || ·) (· ||| ·) (fun a b i => Nat.testBit_or a b i) a b
    show a ||| b = (a % 2 + b % 2 + 1) / 2 + 2 * (a / 2 ||| b / 2)
    rw [← h2]
    clear h2
    generalize a ||| b = c at *
    rcases ha with ha | ha <;> rcases hb with hb | hb <;> simp [ha, hb] at h1 ⊢ <;> omega
  · have h1 := bit_mod (fun x y => x != y) (· ^^^ ·) (fun a b i => by rw [Nat.testBit_xor]) a b
    have h2 := bit_div (fun x y => x != y) (· ^^^ ·) (fun a b i => by rw [Nat.testBit_xor]) a b
    show a ^^^ b = (a % 2 + b % 2) % 2 + 2 * (a / 2 ^^^ b / 2)
    rw [← h2]
    clear h2
    generalize a ^^^ b = c at *
    rcases ha with ha | ha <;> rcases hb with hb | hb <;> simp [ha, hb] at h1 ⊢ <;> omega
theorem fN_lt {op : Int} {a b : Nat} (ha : a < 4294967296) (hb : b < 4294967296) : fN op a b < 4294967296 := by
  unfold fN
  repeat' split
  · exact Nat.and_lt_two_pow (n := 32) _ hb
  · exact Nat.or_lt_two_pow (n := 32) ha hb
  · exact Nat.xor_lt_two_pow (n := 32) ha hb
set_option maxHeartbeats 1000000 in
theorem ref07_bits (op : Int) (hop : op = 14 ∨ op = 15 ∨ op = 16) (A B : Nat) (hA : A < 4294967296) (hB : B < 4294967296) (w : World) :
    Calls Tryd.prog 27 #[.int .i64 op, .int .i64 (A : Int), .int .i64 (B : Int)] w fun e w' => e = .returned (.int .i64 ((fN op A B : Nat) : Int)) ∧ w = w' := by
  have hF := fN_lt (op := op) hA hB
  obtain ⟨F, hFe⟩ : ∃ F, fN op A B = F := ⟨_, rfl⟩
  rw [hFe] at hF ⊢
  have HFe := Lib.hid hFe
  clear hFe
  go_enter Tryd.func27, Tryd.ntmps27
  go_wp2
  go_loop [1, 2, 7, 8, 9] (fun a b o p i => ∃ k x y o' p' : Nat, k ≤ 32 ∧ i = .int .i64 k ∧ a = .int .i64 x ∧ b = .int .i64 y ∧ o = .int .i64 o' ∧ p = .int .i64 p' ∧ p' = 2 ^ k ∧ x < 2 ^ (32 - k) ∧ y < 2 ^ (32 - k) ∧ o' + p' * fN op x y = F) (fun _ _ _ _ i => 32 - (intOf i).toNat)
  case atStart => exact ⟨0, A, B, 0, 1, by omega, rfl, rfl, rfl, rfl, rfl, rfl, hA, hB, by rw [Nat.one_mul, Nat.zero_add]; exact HFe.out⟩
  case round =>
    obtain ⟨k, x, y, o, p, hk, rfl, rfl, rfl, rfl, rfl, hp, hx, hy, ho⟩ := hrel
    by_cases hlt : k < 32
    · have hpl : p ≤ 4294967296 := by rw [hp]; exact Nat.pow_le_pow_right (n := 2) (by omega) hk
      have hxl : x < 4294967296 := Nat.lt_of_lt_of_le hx (Nat.pow_le_pow_right (n := 2) (i := 32 - k) (j := 32) (by omega) (by omega))
      have hyl : y < 4294967296 := Nat.lt_of_lt_of_le hy (Nat.pow_le_pow_right (n := 2) (i := 32 - k) (j := 32) (by omega) (by omega))
      have hol : o ≤ F := by omega
      have hstep := fN_step op hop x y
      have hx2 : x / 2 < 2 ^ (32 - (k + 1)) := by
        have : 2 ^ (32 - k) = 2 * 2 ^ (32 - (k + 1)) := by rw [← Nat.pow_succ']; congr 1; omega
        omega
      have hy2 : y / 2 < 2 ^ (32 - (k + 1)) := by
        have : 2 ^ (32 - k) = 2 * 2 ^ (32 - (k + 1)) := by rw [← Nat.pow_succ']; congr 1; omega
        omega
      have hnext : ∀ q : Nat, fB op (x % 2) (y % 2) = q → o + q * p + 2 * p * fN op (x / 2) (y / 2) = F := by
        intro q hq
        rw [hstep, hq] at ho
        rw [← ho, Nat.mul_add, Nat.mul_comm q p, Nat.mul_comm 2 p, Nat.mul_assoc]
        omega
      have hp2 : 2 * p = 2 ^ (k + 1) := by rw [hp, Nat.pow_succ]; omega
      have Hp2 := Lib.hid hp2
      have Hnext := Lib.hid hnext
      have Hx2 := Lib.hid hx2
      have Hy2 := Lib.hid hy2
      clear hp hx hy ho hstep hx2 hy2 hnext hp2
      have hpx : x % 2 = 0 ∨ x % 2 = 1 := by omega
      have hpy : y % 2 = 0 ∨ y % 2 = 1 := by omega
      rcases hop with rfl | rfl | rfl
      all_goals rcases hpx with hpx | hpx
      all_goals rcases hpy with hpy | hpy
      all_goals
        have ex : ((x : Int) % 2) = ((x % 2 : Nat) : Int) := by omega
        have ey : ((y : Int) % 2) = ((y % 2 : Nat) : Int) := by omega
        rw [hpx] at ex
        rw [hpy] at ey
        have Hpx := Lib.hid hpx
        have Hpy := Lib.hid hpy
        clear hpx hpy
        go_wp2
        go_round
      all_goals first
        | (case rel => exact ⟨k + 1, x / 2, y / 2, o, 2 * p, by omega, by go_num, by go_num, by go_num, by go_num, by go_num, Hp2.out, Hx2.out, Hy2.out, by have := Hnext.out 0 (by rw [Hpx.out, Hpy.out]; rfl); omega⟩)
        | (case rel => exact ⟨k + 1, x / 2, y / 2, o + p, 2 * p, by omega, by go_num, by go_num, by go_num, by go_num, by go_num, Hp2.out, Hx2.out, Hy2.out, by have := Hnext.out 1 (by rw [Hpx.out, Hpy.out]; rfl); omega⟩)
        | (case measure => simp [intOf]; omega)
    · obtain rfl : k = 32 := by omega
      have hx0 : x = 0 := by simp at hx; omega
      have hy0 : y = 0 := by simp at hy; omega
      subst hx0
      subst hy0
      rw [fN_zero] at ho
      have ho' : o = F := by omega
      subst ho'
      clear hp hx hy ho
      go_wp2
      go_ret
      exact ⟨rfl, rfl⟩
def shN (op m : Int) (A k : Nat) : Nat := if op = 18 then A * 2 ^ k % m.toNat else A / 2 ^ k
theorem shN_zero (op m : Int) (A : Nat) (h : op = 18 → (A : Int) < m) : shN op m A 0 = A := by
  unfold shN
  split
  · rename_i h'; rw [Nat.pow_zero, Nat.mul_one]; exact Nat.mod_eq_of_lt (by have := h h'; omega)
  · simp
theorem shN_18 (m : Int) (A k : Nat) : shN 18 m A (k + 1) = 2 * shN 18 m A k % m.toNat := by
  show A * 2 ^ (k + 1) % m.toNat = 2 * (A * 2 ^ k % m.toNat) % m.toNat
  rw [Nat.mul_mod 2 (A * 2 ^ k % m.toNat), Nat.mod_mod, ← Nat.mul_mod]
  congr 1
  rw [Nat.pow_succ, ← Nat.mul_assoc, Nat.mul_comm]
theorem shN_19 (m : Int) (A k : Nat) : shN 19 m A (k + 1) = shN 19 m A k / 2 := by
  show A / 2 ^ (k + 1) = A / 2 ^ k / 2
  rw [Nat.div_div_eq_div_mul, Nat.pow_succ]
theorem shN_lt {op m : Int} {A : Nat} (hm : op = 18 → (A : Int) < m) (hA : A < 4294967296) (k : Nat) (hm2 : m ≤ 4294967296) : shN op m A k < 4294967296 := by
  unfold shN
  split
  · rename_i h'
    have := hm h'
    have h1 := Nat.mod_lt (A * 2 ^ k) (show 0 < m.toNat by omega)
    omega
  · exact Nat.lt_of_le_of_lt (Nat.div_le_self _ _) hA
def shK (b : Int) : Nat := (min (max b 0) 40).toNat
theorem ref07_shift (op t b : Int) (hop : op = 18 ∨ op = 19) (ht : t = 4 ∨ t = 5) (A : Nat) (hA : (A : Int) ≤ kHigh t) (w : World) :
    Calls Tryd.prog 28 #[.int .i64 op, .int .i64 t, .int .i64 (A : Int), .int .i64 b] w fun e w' => e = .returned (.int .i64 ((shN op (kHigh t + 1) A (shK b) : Nat) : Int)) ∧ w = w' := by
  have hh : kHigh t = 65535 ∨ kHigh t = 4294967295 := by rcases ht with rfl | rfl; exact Or.inl rfl; exact Or.inr rfl
  have hAl : A < 4294967296 := by omega
  have hz := shN_zero op (kHigh t + 1) A (fun _ => by omega)
  have hl := fun k => shN_lt (op := op) (m := kHigh t + 1) (fun _ => by omega) hAl k (by omega)
  have Hz := Lib.hid hz
  have Hl := Lib.hid hl
  clear hz hl
  by_cases hb : b ≤ 0
  · have hk := Lib.hid (show shK b = 0 by unfold shK; omega)
    clear hop ht hh
    go_enter Tryd.func28, Tryd.ntmps28
    go_wp2
    refine wp_loop_rounds 1 ?_
    rw [rounds_succ]
    go_wp2
    go_ret
    exact ⟨ret_i64 (by rw [hk.out, Hz.out]), rfl⟩
  · have hkb : (shK b : Int) ≤ b ∧ shK b ≤ 40 ∧ (shK b = 40 ∨ (shK b : Int) = b) := by unfold shK; omega
    obtain ⟨n, hne⟩ : ∃ n, shK b = n := ⟨_, rfl⟩
    rw [hne] at hkb ⊢
    clear hne
    obtain ⟨hk1, hk2, hk3⟩ := hkb
    have h31 := u32_xor_nat
    clear h31
    go_enter Tryd.func28, Tryd.ntmps28
    go_wp2
    go_loop [2, 9] (fun a i => ∃ k : Nat, k ≤ n ∧ i = .int .i64 k ∧ a = .int .i64 ((shN op (kHigh t + 1) A k : Nat) : Int)) (fun _ i => 40 - (intOf i).toNat)
    case atStart => exact ⟨0, by omega, rfl, by rw [Hz.out]⟩
    case round =>
      obtain ⟨k, hk, rfl, rfl⟩ := hrel
      by_cases hlt : k < n
      · have hkb : (k : Int) < b := by omega
        have hk40 : k < 40 := by omega
        have hs := Hl.out k
        rcases hop with rfl | rfl
        · have H18 := Lib.hid (shN_18 (kHigh t + 1) A k)
          generalize shN 18 (kHigh t + 1) A k = s at *
          obtain ⟨m, hm⟩ : ∃ m : Int, kHigh t = m := ⟨_, rfl⟩
          have Hm := Lib.hid hm
          rw [hm] at hh
          have hm1 : 1 ≤ m + 1 := by omega
          have hm2 : 0 ≤ m := by omega
          have hm3 : m ≤ 4294967295 := by omega
          clear hm hh ht
          go_wp2_with fail
          refine (ref01_High _ _).mono ?_; rintro e w' ⟨rfl, rfl⟩
          rw [Hm.out]
          go_wp2_with fail
          go_round
          case rel => exact ⟨k + 1, by omega, by go_num, by rw [H18.out, Hm.out]; congr 1; rw [Int.natCast_emod]; congr 1; omega⟩
          case measure => simp [intOf]; omega
        · have H19 := Lib.hid (shN_19 (kHigh t + 1) A k)
          generalize shN 19 (kHigh t + 1) A k = s at *
          clear hh ht
          go_wp2_with fail
          go_round
          case rel => exact ⟨k + 1, by omega, by go_num, by rw [H19.out]; rfl⟩
          case measure => simp [intOf]; omega
      · obtain rfl : k = n := by omega
        clear hop ht hh
        rcases hk3 with h40 | hkb
        · subst h40
          go_wp2_with fail
          all_goals (go_ret; exact ⟨rfl, rfl⟩)
        · have hge : ¬ ((k : Int) < b) := by omega
          go_wp2_with fail
          go_ret; exact ⟨rfl, rfl⟩
theorem ref07_so (op a b : Int) (hop : op = 20 ∨ op = 21 ∨ op = 22 ∨ op = 23 ∨ op = 24 ∨ op = 25) (w : World) : Calls Tryd.prog 29 #[.int .i64 op, .int .i64 a, .int .i64 b] w fun e w' => e = .returned (.bool (aHolds op a b)) ∧ w = w' := by
  rcases hop with rfl | rfl | rfl | rfl | rfl | rfl
  · by_cases h : a = b
    · subst h; go_enter Tryd.func29, Tryd.ntmps29; go_wp2; go_ret; exact ⟨by simp [aHolds], rfl⟩
    · have e : ((a : Int) == b) = false := by simpa using h
      go_enter Tryd.func29, Tryd.ntmps29; go_wp2; go_ret; exact ⟨by simp [aHolds, h], rfl⟩
  · by_cases h : a = b
    · subst h; go_enter Tryd.func29, Tryd.ntmps29; go_wp2; go_ret; exact ⟨by simp [aHolds], rfl⟩
    · have e : ((a : Int) != b) = true := by simpa using h
      go_enter Tryd.func29, Tryd.ntmps29; go_wp2; go_ret; exact ⟨by simp [aHolds, h], rfl⟩
  · by_cases h : a < b
    all_goals (go_enter Tryd.func29, Tryd.ntmps29; go_wp2; go_ret; exact ⟨by simp [aHolds]; try omega, rfl⟩)
  · by_cases h : a ≤ b
    all_goals (go_enter Tryd.func29, Tryd.ntmps29; go_wp2; go_ret; exact ⟨by simp [aHolds]; try omega, rfl⟩)
  · by_cases h : b < a
    all_goals (go_enter Tryd.func29, Tryd.ntmps29; go_wp2; go_ret; exact ⟨by simp [aHolds]; try omega, rfl⟩)
  · by_cases h : b ≤ a
    all_goals (go_enter Tryd.func29, Tryd.ntmps29; go_wp2; go_ret; exact ⟨by simp [aHolds]; try omega, rfl⟩)
end Go.Proofs.YthikfdhgkpakpaaDoor
