/- Layer 13: instructions and their bytes: numbers and lists alone. -/
import Derived.Test.YtpeogdbfhfkngaaDoorOctetPut
import Derived.Test.YtpeogdbfhfkngaaDoorOpR
import Derived.Test.YtpeogdbfhfkngaaDoorRep
namespace Go.Proofs.YtpeogdbfhfkngaaDoor
open Go.RowKit
set_option linter.unusedSimpArgs false
set_option linter.unusedVariables false

def rI (x : Ins) : Bool := oRight x.1 x.2.1 x.2.2
def encI (x : Ins) : List UInt8 := byteAt x.1 0 :: (putL 2 x.2.1 ++ putL 2 x.2.2)
def enc (L : List Ins) : List UInt8 := L.flatMap encI
theorem encI_len (x : Ins) : (encI x).length = 5 := by simp [encI, putL_len]
theorem enc_snoc (L : List Ins) (x : Ins) : enc (L ++ [x]) = enc L ++ encI x := by simp [enc]
theorem enc_len (L : List Ins) : (enc L).length = 5 * L.length := by
  induction L with
  | nil => rfl
  | cons x t ih =>
    show (encI x ++ enc t).length = _
    rw [List.length_append, encI_len, ih, List.length_cons]; omega
theorem putL_2 (n : Int) : putL 2 n = [byteAt n 0, byteAt n 1] := by simp [putL, List.range_succ]
theorem encI_bytes (x : Ins) : encI x = [byteAt x.1 0, byteAt x.2.1 0, byteAt x.2.1 1, byteAt x.2.2 0, byteAt x.2.2 1] := by simp [encI, putL_2]
/-- the i-th instruction of bytes -/
def insAt (B : List UInt8) (i : Nat) : Ins := ((B.getD (5 * i) 0).toNat, (B.getD (5 * i + 1) 0).toNat + 256 * (B.getD (5 * i + 2) 0).toNat, (B.getD (5 * i + 3) 0).toNat + 256 * (B.getD (5 * i + 4) 0).toNat)
def oReal (n : Int) : Bool := decide (48 ≤ n ∧ n ≤ 55)
def errAt (B : List UInt8) (i : Nat) : Int := if B.length < 5 * i + 5 then 1 else if oReal (insAt B i).1 then 6 else if rI (insAt B i) then 0 else 7
def decL (B : List UInt8) (k : Nat) : List Ins := (List.range k).map (insAt B)
theorem decL_succ (B : List UInt8) (k : Nat) : decL B (k + 1) = decL B k ++ [insAt B k] := by simp [decL, List.range_succ]
theorem decL_len (B : List UInt8) (k : Nat) : (decL B k).length = k := by simp [decL]
def Good (B : List UInt8) (k : Nat) : Prop := ∀ j, j < k → 5 * j < B.length ∧ errAt B j = 0
/-- what bytes are read as -/
def DecR (B : List UInt8) (L : List Ins) (a e : Int) : Prop :=
  (∃ k : Nat, Good B k ∧ 5 * k < B.length ∧ errAt B k = e ∧ e ≠ 0 ∧ L = [] ∧ a = k) ∨ (∃ k : Nat, Good B k ∧ B.length ≤ 5 * k ∧ L = decL B k ∧ a = 0 ∧ e = 0)
theorem Good.succ {B : List UInt8} {k : Nat} (h : Good B k) (h1 : 5 * k < B.length) (h2 : errAt B k = 0) : Good B (k + 1) := fun j hj => by
  rcases (show j < k ∨ j = k by omega) with h3 | rfl
  · exact h j h3
  · exact ⟨h1, h2⟩
theorem DecR.unique {B : List UInt8} {L M : List Ins} {a b e f : Int} (h : DecR B L a e) (g : DecR B M b f) : L = M ∧ a = b ∧ e = f := by
  rcases h with ⟨k, h1, h2, h3, h4, h5, h6⟩ | ⟨k, h1, h2, h3, h4, h5⟩ <;> rcases g with ⟨m, g1, g2, g3, g4, g5, g6⟩ | ⟨m, g1, g2, g3, g4, g5⟩
  · have hk : k = m := by
      rcases Nat.lt_trichotomy k m with h | h | h
      · exact absurd (g1 k h).2 (by rw [h3]; exact h4)
      · exact h
      · exact absurd (h1 m h).2 (by rw [g3]; exact g4)
    subst hk
    exact ⟨by rw [h5, g5], by rw [h6, g6], by rw [← h3, ← g3]⟩
  · exfalso
    have : k < m := by omega
    exact absurd (g1 k this).2 (by rw [h3]; exact h4)
  · exfalso
    have : m < k := by omega
    exact absurd (h1 m this).2 (by rw [g3]; exact g4)
  · have hk : k = m := by
      rcases Nat.lt_trichotomy k m with h | h | h
      · have := (g1 k h).1; omega
      · exact h
      · have := (h1 m h).1; omega
    subst hk
    exact ⟨by rw [h3, g3], by rw [h4, g4], by rw [h5, g5]⟩
theorem byteAt_0 {n : Int} (h : 0 ≤ n ∧ n ≤ 65535) : ((byteAt n 0).toNat : Int) = n % 256 := by rw [byteAt_val]; simp
theorem byteAt_1 {n : Int} (h : 0 ≤ n ∧ n ≤ 65535) : ((byteAt n 1).toNat : Int) = n / 256 := by rw [byteAt_val]; simp; omega
theorem oFit_in {a n : Int} (h : oFit a n = true) : 0 ≤ n ∧ n ≤ 65535 := by
  by_cases ha : a = 0
  · rw [oFit_0 ha] at h; have : n = 0 := by simpa using h
    omega
  · unfold oFit at h; rw [if_neg ha] at h; simpa using h
theorem rI_in {x : Ins} (h : rI x = true) : (0 ≤ x.1 ∧ x.1 ≤ 37) ∧ (0 ≤ x.2.1 ∧ x.2.1 ≤ 65535) ∧ (0 ≤ x.2.2 ∧ x.2.2 ≤ 65535) := by
  unfold rI oRight at h
  simp only [Bool.and_eq_true] at h
  refine ⟨?_, oFit_in h.1.2, oFit_in h.2⟩
  have := h.1.1
  unfold oIs at this
  simpa using this
theorem enc_get (L : List Ins) : ∀ (i j : Nat), i < L.length → j < 5 → (enc L).getD (5 * i + j) 0 = (encI (L.getD i (0, 0, 0))).getD j 0 := by
  induction L with
  | nil => intro i j h; simp at h
  | cons x t ih =>
    intro i j h hj
    have e : enc (x :: t) = encI x ++ enc t := rfl
    rw [e]
    cases i with
    | zero =>
      simp only [List.getD, Nat.mul_zero, Nat.zero_add]
      rw [List.getElem?_append_left (by rw [encI_len]; exact hj)]
      rfl
    | succ i =>
      simp only [List.getD]
      rw [List.getElem?_append_right (by rw [encI_len]; omega), encI_len]
      have := ih i j (by simpa using h) hj
      simp only [List.getD] at this
      rw [show 5 * (i + 1) + j - 5 = 5 * i + j by omega, this]
      rfl
theorem enc_ins {L : List Ins} {i : Nat} (hi : i < L.length) (h : rI (L.getD i (0, 0, 0)) = true) : insAt (enc L) i = L.getD i (0, 0, 0) := by
  obtain ⟨h0, h1, h2⟩ := rI_in h
  have q0 := enc_get L i 0 hi (by omega)
  have q1 := enc_get L i 1 hi (by omega)
  have q2 := enc_get L i 2 hi (by omega)
  have q3 := enc_get L i 3 hi (by omega)
  have q4 := enc_get L i 4 hi (by omega)
  rw [encI_bytes] at q0 q1 q2 q3 q4
  unfold insAt
  rw [Nat.add_zero] at q0
  rw [q0, q1, q2, q3, q4]
  generalize L.getD i (0, 0, 0) = x at *
  obtain ⟨o, a, b⟩ := x
  simp only at h0 h1 h2 ⊢
  simp only [List.getD, List.getElem?_cons_zero, List.getElem?_cons_succ, Option.getD_some]
  rw [byteAt_0 (n := o) (by omega), byteAt_0 h1, byteAt_1 h1, byteAt_0 h2, byteAt_1 h2]
  congr 1
  · omega
  · congr 1 <;> omega
theorem enc_good {L : List Ins} (h : L.all rI = true) : ∀ k, k ≤ L.length → Good (enc L) k := by
  intro k hk j hj
  have hl := enc_len L
  have hr : rI (L.getD j (0, 0, 0)) = true := by
    rw [List.all_eq_true] at h
    have : L.getD j (0, 0, 0) = L[j]'(by omega) := by simp [List.getD, show j < L.length by omega]
    rw [this]
    exact h _ (List.getElem_mem _)
  have he := enc_ins (by omega) hr
  refine ⟨by omega, ?_⟩
  unfold errAt
  rw [if_neg (by omega), he]
  have hn : oReal (L.getD j (0, 0, 0)).1 = false := decide_eq_false (by have := (rI_in hr).1; omega)
  rw [hn, hr]
  simp
theorem enc_dec {L : List Ins} (h : L.all rI = true) : DecR (enc L) L 0 0 := by
  refine Or.inr ⟨L.length, enc_good h _ (Nat.le_refl _), by rw [enc_len]; exact Nat.le_refl _, ?_, rfl, rfl⟩
  apply List.ext_getElem?
  intro i
  by_cases hi : i < L.length
  · have hr : rI (L.getD i (0, 0, 0)) = true := by
      rw [List.all_eq_true] at h
      have : L.getD i (0, 0, 0) = L[i] := by simp [List.getD, hi]
      rw [this]
      exact h _ (List.getElem_mem _)
    have := enc_ins hi hr
    simp only [decL, List.getElem?_map, List.getElem?_range hi, Option.map_some, this]
    simp [List.getD, hi]
  · rw [List.getElem?_eq_none (by omega), List.getElem?_eq_none (by rw [decL_len]; omega)]
theorem byteAt_of (c : UInt8) : byteAt (c.toNat : Int) 0 = c := by
  apply UInt8.toNat_inj.1
  have h := byteAt_val (c.toNat : Int) 0
  have := c.toNat_lt
  simp at h
  omega
theorem byteAt_lo (c d : UInt8) : byteAt ((c.toNat : Int) + 256 * d.toNat) 0 = c ∧ byteAt ((c.toNat : Int) + 256 * d.toNat) 1 = d := by
  have h1 := c.toNat_lt
  have h2 := d.toNat_lt
  constructor
  · apply UInt8.toNat_inj.1
    have h := byteAt_val ((c.toNat : Int) + 256 * d.toNat) 0
    simp at h
    omega
  · apply UInt8.toNat_inj.1
    have h := byteAt_val ((c.toNat : Int) + 256 * d.toNat) 1
    simp at h
    omega
theorem encI_ins {B : List UInt8} {i : Nat} (h : 5 * i + 5 ≤ B.length) : encI (insAt B i) = (B.drop (5 * i)).take 5 := by
  rw [encI_bytes]
  unfold insAt
  simp only
  rw [byteAt_of, (byteAt_lo _ _).1, (byteAt_lo _ _).2, (byteAt_lo _ _).1, (byteAt_lo _ _).2]
  apply List.ext_getElem?
  intro j
  rw [List.getElem?_take]
  by_cases hj : j < 5
  · rw [if_pos hj, List.getElem?_drop]
    have : ∀ q, q < B.length → B[q]? = some (B.getD q 0) := fun q hq => by simp [List.getD, hq]
    rw [this _ (by omega)]
    obtain rfl | rfl | rfl | rfl | rfl : j = 0 ∨ j = 1 ∨ j = 2 ∨ j = 3 ∨ j = 4 := by omega
    all_goals rfl
  · rw [if_neg hj, List.getElem?_eq_none (by simp; omega)]
theorem dec_enc {B : List UInt8} : ∀ k, Good B k → enc (decL B k) = B.take (5 * k) ∧ (decL B k).all rI = true := by
  intro k
  induction k with
  | zero => intro _; simp [decL, enc]
  | succ k ih =>
    intro h
    obtain ⟨h1, h2⟩ := ih (fun j hj => h j (by omega))
    obtain ⟨h3, h4⟩ := h k (by omega)
    have h5 : 5 * k + 5 ≤ B.length := by
      unfold errAt at h4
      by_cases hs : B.length < 5 * k + 5
      · rw [if_pos hs] at h4; omega
      · omega
    have h6 : rI (insAt B k) = true := by
      unfold errAt at h4
      rw [if_neg (by omega)] at h4
      cases hr : rI (insAt B k)
      · rw [hr] at h4
        split at h4 <;> simp at h4
      · rfl
    rw [decL_succ, enc_snoc, h1, encI_ins h5]
    constructor
    · rw [show 5 * (k + 1) = 5 * k + 5 by omega, List.take_add]
    · rw [List.all_append, h2]; simp [h6]
/-- what was read is put as it was -/
theorem DecR.back {B : List UInt8} {L : List Ins} {a e : Int} (h : DecR B L a e) : (e ≠ 0 ∧ L = []) ∨ (e = 0 ∧ L.all rI = true ∧ enc L = B) := by
  rcases h with ⟨k, h1, h2, h3, h4, h5, h6⟩ | ⟨k, h1, h2, h3, h4, h5⟩
  · exact Or.inl ⟨h4, h5⟩
  · obtain ⟨q1, q2⟩ := dec_enc k h1
    subst h3
    refine Or.inr ⟨h5, q2, ?_⟩
    rw [q1, List.take_of_length_le h2]
end Go.Proofs.YtpeogdbfhfkngaaDoor
