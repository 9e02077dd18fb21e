/- How many bits are on: eight bytes at once. Plain. -/
import Derived.Test.YtemihfcenmhieaaBitPure
namespace Go.Proofs.Ytemihfcenmhieaa
open Go.RowKit
set_option linter.unusedSimpArgs false
set_option linter.unusedVariables false
def ofBytes : List Nat → Nat
  | [] => 0
  | a :: l => a + 256 * ofBytes l
def maskN (c : Nat) : Nat → Nat
  | 0 => 0
  | n + 1 => c + 256 * maskN c n
theorem and_cons {a c : Nat} (ha : a < 256) (hc : c < 256) (b d : Nat) : (a + 256 * b) &&& (c + 256 * d) = (a &&& c) + 256 * (b &&& d) := by
  apply Nat.eq_of_testBit_eq
  intro j
  have hac : a &&& c < 2 ^ 8 := Nat.and_lt_two_pow _ hc
  rw [Nat.testBit_and, Nat.add_comm a, Nat.add_comm c, Nat.add_comm (a &&& c), show (256 : Nat) = 2 ^ 8 from rfl, Nat.testBit_two_pow_mul_add _ ha, Nat.testBit_two_pow_mul_add _ hc, Nat.testBit_two_pow_mul_add _ hac]
  by_cases h : j < 8
  · simp [h, Nat.testBit_and]
  · simp [h, Nat.testBit_and]
def s1 (a : Nat) : Nat := (a / 2 &&& 85) + (a &&& 85)
def s2 (a : Nat) : Nat := (a / 4 &&& 51) + (a &&& 51)
def s3 (a : Nat) : Nat := (a / 16 + a) &&& 15
theorem d1 : ∀ a : Fin 256, ∀ t : Fin 2, (a.val / 2 + 128 * t.val) &&& 85 = a.val / 2 &&& 85 := by decide +kernel
theorem d2 : ∀ a : Fin 256, ∀ t : Fin 4, (a.val / 4 + 64 * t.val) &&& 51 = a.val / 4 &&& 51 := by decide +kernel
theorem d3 : ∀ a : Fin 80, ∀ t : Fin 8, (a.val / 16 + 16 * t.val + a.val) &&& 15 = (a.val / 16 + a.val) &&& 15 := by decide +kernel
theorem e1 : ∀ a : Fin 256, s1 a.val < 256 := by decide +kernel
theorem e2 : ∀ a : Fin 256, s2 (s1 a.val) < 80 ∧ s2 (s1 a.val) % 16 < 8 := by decide +kernel
theorem e3 : ∀ a : Fin 256, s3 (s2 (s1 a.val)) = popN 8 a.val ∧ popN 8 a.val ≤ 8 := by decide +kernel
theorem S1 : ∀ (l : List Nat), (∀ a ∈ l, a < 256) → (ofBytes l / 2 &&& maskN 85 l.length) + (ofBytes l &&& maskN 85 l.length) = ofBytes (l.map s1) := by
  intro l
  induction l with
  | nil => intro _; rfl
  | cons a l ih =>
    intro h
    have ha : a < 256 := h a (by simp)
    have ih := ih fun x hx => h x (by simp [hx])
    show ((a + 256 * ofBytes l) / 2 &&& (85 + 256 * maskN 85 l.length)) + ((a + 256 * ofBytes l) &&& (85 + 256 * maskN 85 l.length)) = s1 a + 256 * ofBytes (l.map s1)
    generalize ofBytes l = b at ih ⊢
    have hd : (a + 256 * b) / 2 = (a / 2 + 128 * (b % 2)) + 256 * (b / 2) := by omega
    rw [hd, and_cons (by omega) (by omega), and_cons ha (by omega), ← ih]
    have := d1 ⟨a, ha⟩ ⟨b % 2, by omega⟩
    simp only at this
    rw [this]
    unfold s1
    omega
theorem S2 : ∀ (l : List Nat), (∀ a ∈ l, a < 256) → (ofBytes l / 4 &&& maskN 51 l.length) + (ofBytes l &&& maskN 51 l.length) = ofBytes (l.map s2) := by
  intro l
  induction l with
  | nil => intro _; rfl
  | cons a l ih =>
    intro h
    have ha : a < 256 := h a (by simp)
    have ih := ih fun x hx => h x (by simp [hx])
    show ((a + 256 * ofBytes l) / 4 &&& (51 + 256 * maskN 51 l.length)) + ((a + 256 * ofBytes l) &&& (51 + 256 * maskN 51 l.length)) = s2 a + 256 * ofBytes (l.map s2)
    generalize ofBytes l = b at ih ⊢
    have hd : (a + 256 * b) / 4 = (a / 4 + 64 * (b % 4)) + 256 * (b / 4) := by omega
    rw [hd, and_cons (by omega) (by omega), and_cons ha (by omega), ← ih]
    have := d2 ⟨a, ha⟩ ⟨b % 4, by omega⟩
    simp only at this
    rw [this]
    unfold s2
    omega
theorem S3 : ∀ (l : List Nat), (∀ a ∈ l, a < 80 ∧ a % 16 < 8) → (ofBytes l / 16 + ofBytes l) &&& maskN 15 l.length = ofBytes (l.map s3) ∧ ofBytes l % 16 < 8 := by
  intro l
  induction l with
  | nil => intro _; exact ⟨rfl, by decide⟩
  | cons a l ih =>
    intro h
    have ha := h a (by simp)
    obtain ⟨ih, ihm⟩ := ih fun x hx => h x (by simp [hx])
    refine ⟨?_, by show (a + 256 * ofBytes l) % 16 < 8; omega⟩
    show ((a + 256 * ofBytes l) / 16 + (a + 256 * ofBytes l)) &&& (15 + 256 * maskN 15 l.length) = s3 a + 256 * ofBytes (l.map s3)
    generalize ofBytes l = b at ih ihm ⊢
    have hd : (a + 256 * b) / 16 + (a + 256 * b) = (a / 16 + 16 * (b % 16) + a) + 256 * (b / 16 + b) := by omega
    rw [hd, and_cons (by omega) (by omega), ← ih]
    have := d3 ⟨a, ha.1⟩ ⟨b % 16, by omega⟩
    simp only at this
    rw [this]
    unfold s3
    omega
def bytes8 (x : Nat) : List Nat := [x % 256, x / 256 % 256, x / 65536 % 256, x / 16777216 % 256, x / 4294967296 % 256, x / 1099511627776 % 256, x / 281474976710656 % 256, x / 72057594037927936 % 256]
theorem bytes8_of (x : Nat) (h : x < 18446744073709551616) : ofBytes (bytes8 x) = x := by
  simp only [bytes8, ofBytes]; omega
theorem bytes8_lt (x : Nat) : ∀ a ∈ bytes8 x, a < 256 := by
  intro a ha
  simp only [bytes8, List.mem_cons, List.not_mem_nil, or_false] at ha
  omega
theorem pop_bytes (x : Nat) : popN 64 x = ((bytes8 x).map (popN 8)).sum := by
  have e : ∀ y, popN 8 (y % 256) = popN 8 y := fun y => (popN_mod 8 y).symm
  simp only [bytes8, List.map, List.sum_cons, List.sum_nil, e]
  rw [popN_add 8 56, popN_add 8 48, popN_add 8 40, popN_add 8 32, popN_add 8 24, popN_add 8 16, popN_add 8 8]
  simp only [Nat.div_div_eq_div_mul, Nat.reducePow, Nat.reduceMul]
  omega
theorem drop1 (a : Nat) (l : List Nat) (h : a < 256) : ofBytes (a :: l) / 256 = ofBytes l := by simp only [ofBytes]; omega
theorem drop2 (a b : Nat) (l : List Nat) (h : a < 256) (g : b < 256) : ofBytes (a :: b :: l) / 65536 = ofBytes l := by simp only [ofBytes]; omega
theorem drop4 (a b c d : Nat) (l : List Nat) (h : a < 256) (g : b < 256) (h' : c < 256) (g' : d < 256) : ofBytes (a :: b :: c :: d :: l) / 4294967296 = ofBytes l := by simp only [ofBytes]; omega
set_option maxHeartbeats 1000000 in
theorem popc_fold (c0 c1 c2 c3 c4 c5 c6 c7 x4 x5 x6 : Nat) (h0 : c0 ≤ 8) (h1 : c1 ≤ 8) (h2 : c2 ≤ 8) (h3 : c3 ≤ 8) (h4 : c4 ≤ 8) (h5 : c5 ≤ 8) (h6 : c6 ≤ 8) (h7 : c7 ≤ 8)
    (e4 : x4 = ofBytes [c0, c1, c2, c3, c4, c5, c6, c7] + ofBytes [c0, c1, c2, c3, c4, c5, c6, c7] / 256) (e5 : x5 = x4 + x4 / 65536) (e6 : x6 = x5 + x5 / 4294967296) :
    x4 < 18446744073709551616 ∧ x5 < 18446744073709551616 ∧ x6 < 18446744073709551616 ∧ x6 % 128 = c0 + (c1 + (c2 + (c3 + (c4 + (c5 + (c6 + c7)))))) := by
  have g4 : x4 = ofBytes [c0 + c1, c1 + c2, c2 + c3, c3 + c4, c4 + c5, c5 + c6, c6 + c7, c7] := by
    rw [e4, drop1 _ _ (by omega)]; simp only [ofBytes]; omega
  clear e4
  have g5 : x5 = ofBytes [c0 + c1 + (c2 + c3), c1 + c2 + (c3 + c4), c2 + c3 + (c4 + c5), c3 + c4 + (c5 + c6), c4 + c5 + (c6 + c7), c5 + c6 + c7, c6 + c7, c7] := by
    rw [e5, g4, drop2 _ _ _ (by omega) (by omega)]; simp only [ofBytes]; omega
  clear e5
  have g6 : x6 = ofBytes [c0 + c1 + (c2 + c3) + (c4 + c5 + (c6 + c7)), c1 + c2 + (c3 + c4) + (c5 + c6 + c7), c2 + c3 + (c4 + c5) + (c6 + c7), c3 + c4 + (c5 + c6) + c7, c4 + c5 + (c6 + c7), c5 + c6 + c7, c6 + c7, c7] := by
    rw [e6, g5, drop4 _ _ _ _ _ (by omega) (by omega) (by omega) (by omega)]; simp only [ofBytes]; omega
  clear e6
  refine ⟨?_, ?_, ?_, ?_⟩
  · rw [g4]; simp only [ofBytes]; omega
  · rw [g5]; simp only [ofBytes]; omega
  · rw [g6]; simp only [ofBytes]; omega
  · rw [g6]; unfold ofBytes; generalize ofBytes _ = R; omega
set_option maxHeartbeats 1000000 in
/-- what OnesCount64 does, step by step -/
theorem pop_steps (x : Nat) (h : x < 18446744073709551616) : ∃ x1 x2 x3 x4 x5 x6 : Nat,
    (x / 2 &&& 6148914691236517205) + (x &&& 6148914691236517205) = x1 ∧ x1 < 18446744073709551616 ∧
    (x1 / 4 &&& 3689348814741910323) + (x1 &&& 3689348814741910323) = x2 ∧ x2 < 18446744073709551616 ∧
    x2 / 16 + x2 < 18446744073709551616 ∧ (x2 / 16 + x2) &&& 1085102592571150095 = x3 ∧ x3 < 18446744073709551616 ∧
    x3 + x3 / 256 = x4 ∧ x4 < 18446744073709551616 ∧ x4 + x4 / 65536 = x5 ∧ x5 < 18446744073709551616 ∧ x5 + x5 / 4294967296 = x6 ∧ x6 < 18446744073709551616 ∧ x6 % 128 = popN 64 x ∧ popN 64 x ≤ 64 := by
  have hb := bytes8_of x h
  have hlt := bytes8_lt x
  have hp := pop_bytes x
  obtain ⟨b0, b1, b2, b3, b4, b5, b6, b7, hl⟩ : ∃ b0 b1 b2 b3 b4 b5 b6 b7, bytes8 x = [b0, b1, b2, b3, b4, b5, b6, b7] := ⟨_, _, _, _, _, _, _, _, rfl⟩
  rw [hl] at hb hlt hp
  have q : ∀ b ∈ [b0, b1, b2, b3, b4, b5, b6, b7], s1 b < 256 ∧ (s2 (s1 b) < 80 ∧ s2 (s1 b) % 16 < 8) ∧ s3 (s2 (s1 b)) = popN 8 b ∧ popN 8 b ≤ 8 := fun b hm =>
    ⟨e1 ⟨b, hlt b hm⟩, e2 ⟨b, hlt b hm⟩, e3 ⟨b, hlt b hm⟩⟩
  have k1 := S1 [b0, b1, b2, b3, b4, b5, b6, b7] hlt
  have k2 := S2 ([b0, b1, b2, b3, b4, b5, b6, b7].map s1) (by intro a ha; obtain ⟨b, hm, rfl⟩ := List.mem_map.1 ha; exact (q b hm).1)
  have k3 := (S3 (([b0, b1, b2, b3, b4, b5, b6, b7].map s1).map s2) (by intro a ha; obtain ⟨c, hc, rfl⟩ := List.mem_map.1 ha; obtain ⟨b, hm, rfl⟩ := List.mem_map.1 hc; exact (q b hm).2.1)).1
  rw [hb] at k1
  simp only [List.length_map, List.length_cons, List.length_nil, Nat.zero_add, Nat.reduceAdd] at k1 k2 k3
  rw [show maskN 85 8 = 6148914691236517205 from rfl] at k1
  rw [show maskN 51 8 = 3689348814741910323 from rfl] at k2
  rw [show maskN 15 8 = 1085102592571150095 from rfl] at k3
  have r0 := q b0 (by simp); have r1 := q b1 (by simp); have r2 := q b2 (by simp); have r3 := q b3 (by simp)
  have r4 := q b4 (by simp); have r5 := q b5 (by simp); have r6 := q b6 (by simp); have r7 := q b7 (by simp)
  have k4 : ofBytes ((([b0, b1, b2, b3, b4, b5, b6, b7].map s1).map s2).map s3) = ofBytes [popN 8 b0, popN 8 b1, popN 8 b2, popN 8 b3, popN 8 b4, popN 8 b5, popN 8 b6, popN 8 b7] := by
    simp only [List.map, r0.2.2.1, r1.2.2.1, r2.2.2.1, r3.2.2.1, r4.2.2.1, r5.2.2.1, r6.2.2.1, r7.2.2.1]
  rw [k4] at k3
  obtain ⟨f4, f5, f6, f7⟩ := popc_fold (popN 8 b0) (popN 8 b1) (popN 8 b2) (popN 8 b3) (popN 8 b4) (popN 8 b5) (popN 8 b6) (popN 8 b7) _ _ _ r0.2.2.2 r1.2.2.2 r2.2.2.2 r3.2.2.2 r4.2.2.2 r5.2.2.2 r6.2.2.2 r7.2.2.2 rfl rfl rfl
  have hp' : popN 64 x = popN 8 b0 + (popN 8 b1 + (popN 8 b2 + (popN 8 b3 + (popN 8 b4 + (popN 8 b5 + (popN 8 b6 + popN 8 b7)))))) := by
    rw [hp]; simp only [List.map, List.sum_cons, List.sum_nil, Nat.add_zero]
  have g1 : ofBytes ([b0, b1, b2, b3, b4, b5, b6, b7].map s1) < 18446744073709551616 := by
    simp only [List.map, ofBytes]; omega
  have g2 : ofBytes (([b0, b1, b2, b3, b4, b5, b6, b7].map s1).map s2) < 5 * 3689348814741910323 := by
    simp only [List.map, ofBytes]; omega
  have g3 : ofBytes [popN 8 b0, popN 8 b1, popN 8 b2, popN 8 b3, popN 8 b4, popN 8 b5, popN 8 b6, popN 8 b7] < 18446744073709551616 := by
    simp only [ofBytes]; omega
  have g2' : ofBytes (([b0, b1, b2, b3, b4, b5, b6, b7].map s1).map s2) / 16 + ofBytes (([b0, b1, b2, b3, b4, b5, b6, b7].map s1).map s2) < 18446744073709551616 := by
    simp only [List.map, ofBytes]; omega
  refine ⟨_, _, _, _, _, _, k1, g1, k2, by omega, g2', k3, g3, rfl, f4, rfl, f5, rfl, f6, by rw [hp', f7], by rw [hp']; omega⟩
end Go.Proofs.Ytemihfcenmhieaa
