/- Sets of places as words: each place is a bit. Plain. -/
import Derived.Test.YtemihfcenmhieaaSeq
import Derived.Lib.TrailingZeros
namespace Go.Proofs.Ytemihfcenmhieaa
open Go.RowKit
set_option linter.unusedSimpArgs false
set_option linter.unusedVariables false
/-- the words of a set of places -/
def Wds (x : List Bool) (ws : List Nat) : Prop := ws.length = (x.length + 63) / 64 ∧ ∀ k j, (ws.getD k 0).testBit j = (decide (j < 64) && x.getD (64 * k + j) false)
theorem Wds.lt {x : List Bool} {ws : List Nat} (h : Wds x ws) (k : Nat) : ws.getD k 0 < 2 ^ 64 :=
  Nat.lt_pow_two_of_testBit _ fun i hi => by rw [h.2]; simp; omega
theorem word_lt {x : List Bool} {ws : List Nat} (h : Wds x ws) (k : Nat) : ws.getD k 0 < 18446744073709551616 := h.lt k
theorem getD_ge {x : List Bool} {i : Nat} (h : x.length ≤ i) : x.getD i false = false := by simp [List.getD, h]
theorem Wds.same {x y : List Bool} {ws vs : List Nat} (h : Wds x ws) (g : Wds y vs) (hl : x.length = y.length) : x = y ↔ ws = vs := by
  constructor
  · rintro rfl
    apply List.ext_getElem?
    intro k
    have e : ws.getD k 0 = vs.getD k 0 := Nat.eq_of_testBit_eq fun j => by rw [h.2, g.2]
    by_cases hk : k < ws.length
    · have hk' : k < vs.length := by rw [g.1, ← h.1]; exact hk
      simp only [List.getD, List.getElem?_eq_getElem hk, List.getElem?_eq_getElem hk', Option.getD_some] at e ⊢
      rw [e]
    · have hk' : ¬ k < vs.length := by rw [g.1, ← h.1]; exact hk
      rw [List.getElem?_eq_none (by omega), List.getElem?_eq_none (by omega)]
  · rintro rfl
    apply List.ext_getElem?
    intro i
    by_cases hi : i < x.length
    · have hi' : i < y.length := by omega
      have e : x.getD i false = y.getD i false := by
        have h1 := h.2 (i / 64) (i % 64)
        have h2 := g.2 (i / 64) (i % 64)
        rw [show 64 * (i / 64) + i % 64 = i by omega] at h1 h2
        have h3 : i % 64 < 64 := by omega
        simp only [h3, decide_true, Bool.true_and] at h1 h2
        rw [← h1, ← h2]
      simp only [List.getD, List.getElem?_eq_getElem hi, List.getElem?_eq_getElem hi', Option.getD_some] at e ⊢
      rw [e]
    · rw [List.getElem?_eq_none (by omega), List.getElem?_eq_none (by omega)]
/-- as many places as asked -/
def clampR (r : Int) : Nat := if r < 0 then 0 else if 65536 < r then 65536 else r.toNat
def resize (x : List Bool) (n : Nat) : List Bool := (List.range n).map fun i => x.getD i false
theorem resize_len (x : List Bool) (n : Nat) : (resize x n).length = n := by simp [resize]
theorem resize_get (x : List Bool) (n i : Nat) : (resize x n).getD i false = (decide (i < n) && x.getD i false) := by
  by_cases h : i < n
  · simp [resize, h, List.getD]
  · simp [resize, h, List.getD]
theorem list_ext {x y : List Bool} (hl : x.length = y.length) (h : ∀ i, x.getD i false = y.getD i false) : x = y := by
  apply List.ext_getElem?
  intro i
  by_cases hi : i < x.length
  · have hi' : i < y.length := by omega
    have e := h i
    simp only [List.getD, List.getElem?_eq_getElem hi, List.getElem?_eq_getElem hi', Option.getD_some] at e ⊢
    rw [e]
  · rw [List.getElem?_eq_none (by omega), List.getElem?_eq_none (by omega)]
theorem resize_self (x : List Bool) : resize x x.length = x := list_ext (resize_len _ _) fun i => by
  rw [resize_get]
  by_cases h : i < x.length
  · simp [h]
  · rw [getD_ge (by omega)]; simp
theorem wds_none (n : Nat) : Wds (List.replicate n false) (List.replicate ((n + 63) / 64) 0) := by
  refine ⟨by simp, fun k j => ?_⟩
  have h1 : (List.replicate ((n + 63) / 64) 0).getD k 0 = 0 := by
    simp [List.getD, List.getElem?_replicate]; split <;> rfl
  have h2 : (List.replicate n false).getD (64 * k + j) false = false := by
    simp [List.getD, List.getElem?_replicate]; split <;> rfl
  rw [h1, h2]; simp
/-- what copy makes of words of 0 -/
def copyW (m : Nat) (ws : List Nat) : List Nat := (List.range m).map fun k => ws.getD k 0
theorem copyW_len (m : Nat) (ws : List Nat) : (copyW m ws).length = m := by simp [copyW]
theorem copyW_get (m : Nat) (ws : List Nat) (k : Nat) : (copyW m ws).getD k 0 = if k < m then ws.getD k 0 else 0 := by
  by_cases h : k < m
  · simp [copyW, h, List.getD]
  · simp [copyW, h, List.getD]
/-- what trim makes of words -/
def trimW (n : Nat) (ws : List Nat) : List Nat := if n % 64 = 0 then ws else ws.set (ws.length - 1) (ws.getD (ws.length - 1) 0 &&& (2 ^ (n % 64) - 1))
theorem trimW_len (n : Nat) (ws : List Nat) : (trimW n ws).length = ws.length := by unfold trimW; split <;> simp
theorem set_getD (ws : List Nat) (i k v : Nat) (hi : i < ws.length) : (ws.set i v).getD k 0 = if k = i then v else ws.getD k 0 := by
  by_cases h : k = i
  · subst h; simp [List.getD, hi]
  · simp [List.getD, List.getElem?_set, h, Ne.symm h]
/-- words of which nothing is known beyond the room -/
theorem wds_trim {x : List Bool} {n : Nat} {ws : List Nat} (hl : ws.length = (n + 63) / 64) (h : ∀ k j, k < ws.length → (ws.getD k 0).testBit j = (decide (j < 64) && x.getD (64 * k + j) false)) : Wds (resize x n) (trimW n ws) := by
  refine ⟨by rw [trimW_len, resize_len, hl], fun k j => ?_⟩
  rw [resize_get]
  by_cases hk : k < ws.length
  · unfold trimW
    split
    · rename_i h0
      rw [h k j hk]
      by_cases hj : j < 64
      · have : 64 * k + j < n := by omega
        simp [hj, this]
      · simp [hj]
    · rename_i h0
      rw [set_getD _ _ _ _ (by omega)]
      split
      · rename_i hkl
        subst hkl
        rw [Nat.testBit_and, Nat.testBit_two_pow_sub_one, h _ j hk]
        by_cases hj : j < n % 64
        · have h1 : j < 64 := by omega
          have h2 : 64 * (ws.length - 1) + j < n := by omega
          simp [hj, h1, h2]
        · by_cases h1 : j < 64
          · have h2 : ¬ 64 * (ws.length - 1) + j < n := by omega
            simp [hj, h2]
          · simp [h1, hj]
      · rw [h k j hk]
        by_cases hj : j < 64
        · have : 64 * k + j < n := by omega
          simp [hj, this]
        · simp [hj]
  · have h1 : (trimW n ws).getD k 0 = 0 := by
      have := trimW_len n ws
      simp [List.getD, List.getElem?_eq_none (show (trimW n ws).length ≤ k by omega)]
    rw [h1]
    by_cases hj : j < 64
    · have : ¬ 64 * k + j < n := by omega
      simp [this]
    · simp [hj]
theorem wds_cut {x : List Bool} {ws : List Nat} (h : Wds x ws) (n : Nat) : Wds (resize x n) (trimW n (copyW ((n + 63) / 64) ws)) :=
  wds_trim (copyW_len _ _) fun k j hk => by
    rw [copyW_len] at hk
    rw [copyW_get, if_pos hk, h.2]
theorem wds_all (n : Nat) : Wds (List.replicate n true) (trimW n (List.replicate ((n + 63) / 64) 18446744073709551615)) := by
  have h := wds_trim (x := List.replicate (n + 64) true) (n := n) (ws := List.replicate ((n + 63) / 64) 18446744073709551615) (by simp) (fun k j hk => by
    have hk' : k < (n + 63) / 64 := by simpa using hk
    have h1 : (List.replicate ((n + 63) / 64) 18446744073709551615).getD k 0 = 2 ^ 64 - 1 := by simp [List.getD, List.getElem?_replicate, hk']
    rw [h1, Nat.testBit_two_pow_sub_one]
    by_cases hj : j < 64
    · have : 64 * k + j < n + 64 := by omega
      simp [hj, List.getD, List.getElem?_replicate, this]
    · simp [hj])
  have e : resize (List.replicate (n + 64) true) n = List.replicate n true := list_ext (by simp [resize_len]) fun i => by
    rw [resize_get]
    by_cases hi : i < n
    · have : i < n + 64 := by omega
      simp [hi, List.getD, List.getElem?_replicate, this]
    · simp [hi, List.getD, List.getElem?_replicate]
  rw [e] at h; exact h
def withB (x : List Bool) (i : Int) : List Bool := if 0 ≤ i ∧ i < x.length then x.set i.toNat true else x
def hasB (x : List Bool) (i : Int) : Bool := if 0 ≤ i ∧ i < x.length then x.getD i.toNat false else false
theorem withB_len (x : List Bool) (i : Int) : (withB x i).length = x.length := by unfold withB; split <;> simp
theorem set_getB (x : List Bool) (i k : Nat) (v : Bool) (hi : i < x.length) : (x.set i v).getD k false = if k = i then v else x.getD k false := by
  by_cases h : k = i
  · subst h; simp [List.getD, hi]
  · simp [List.getD, List.getElem?_set, h, Ne.symm h]
theorem wds_with {x : List Bool} {ws : List Nat} (h : Wds x ws) {i : Nat} (hi : i < x.length) : Wds (x.set i true) (ws.set (i / 64) (ws.getD (i / 64) 0 ||| 2 ^ (i % 64))) := by
  have hm : i / 64 < ws.length := by rw [h.1]; omega
  refine ⟨by simp [h.1], fun k j => ?_⟩
  rw [set_getD _ _ _ _ hm, set_getB _ _ _ _ hi]
  by_cases hk : k = i / 64
  · subst hk
    rw [if_pos rfl, Nat.testBit_or, h.2, Nat.testBit_two_pow]
    by_cases hj : i % 64 = j
    · have h1 : 64 * (i / 64) + j = i := by omega
      have h2 : j < 64 := by omega
      simp [hj, h1, h2]
    · by_cases h2 : j < 64
      · have h1 : ¬ 64 * (i / 64) + j = i := by omega
        simp [hj, h1]
      · simp [h2]; omega
  · rw [if_neg hk, h.2]
    by_cases h2 : j < 64
    · have h1 : ¬ 64 * k + j = i := by omega
      simp [h1]
    · simp [h2]
theorem has_bit {x : List Bool} {ws : List Nat} (h : Wds x ws) (i : Nat) : (ws.getD (i / 64) 0).testBit (i % 64) = x.getD i false := by
  rw [h.2, show 64 * (i / 64) + i % 64 = i by omega]
  have : i % 64 < 64 := by omega
  simp [this]
def andB (x y : List Bool) : List Bool := (List.range (min x.length y.length)).map fun i => x.getD i false && y.getD i false
def orB (x y : List Bool) : List Bool := (List.range (max x.length y.length)).map fun i => x.getD i false || y.getD i false
theorem mapB_get (n i : Nat) (f : Nat → Bool) : ((List.range n).map f).getD i false = (decide (i < n) && f i) := by
  by_cases h : i < n
  · simp [h, List.getD]
  · simp [h, List.getD]
/-- the words of both, as far as one goes -/
def mapW (f : Nat → Nat → Nat) (a b : List Nat) : List Nat := (List.range a.length).map fun k => f (a.getD k 0) (b.getD k 0)
theorem mapW_get (f : Nat → Nat → Nat) (a b : List Nat) (k : Nat) : (mapW f a b).getD k 0 = if k < a.length then f (a.getD k 0) (b.getD k 0) else 0 := by
  by_cases h : k < a.length
  · simp [mapW, h, List.getD]
  · simp [mapW, h, List.getD]
theorem wds_and {x y : List Bool} {a b : List Nat} (h : Wds (resize x (min x.length y.length)) a) (g : Wds y b) : Wds (andB x y) (mapW (· &&& ·) a b) := by
  have hl := h.1
  rw [resize_len] at hl
  refine ⟨by simp [mapW, andB, hl], fun k j => ?_⟩
  unfold andB
  rw [mapW_get, mapB_get]
  have h1 := h.2 k j
  have h2 := g.2 k j
  rw [resize_get] at h1
  by_cases hk : k < a.length
  · rw [if_pos hk, Nat.testBit_and, h1, h2]
    by_cases hj : j < 64
    · simp only [hj, decide_true, Bool.true_and]
      rw [Bool.and_assoc]
    · simp [hj]
  · rw [if_neg hk]
    by_cases hj : j < 64
    · have : ¬ 64 * k + j < min x.length y.length := by omega
      rw [decide_eq_false this]; simp
    · simp [hj]
theorem wds_or {x y : List Bool} {a b : List Nat} (h : Wds (resize x (max x.length y.length)) a) (g : Wds y b) : Wds (orB x y) (mapW (· ||| ·) a b) := by
  have hl := h.1
  rw [resize_len] at hl
  refine ⟨by simp [mapW, orB, hl], fun k j => ?_⟩
  unfold orB
  rw [mapW_get, mapB_get]
  have h1 := h.2 k j
  have h2 := g.2 k j
  rw [resize_get] at h1
  by_cases hk : k < a.length
  · rw [if_pos hk, Nat.testBit_or, h1, h2]
    by_cases hj : j < 64
    · simp only [hj, decide_true, Bool.true_and]
      by_cases hi : 64 * k + j < max x.length y.length
      · simp only [decide_eq_true hi, Bool.true_and]
      · rw [decide_eq_false hi, getD_ge (x := y) (by omega)]; simp
    · simp [hj]
  · rw [if_neg hk]
    by_cases hj : j < 64
    · have : ¬ 64 * k + j < max x.length y.length := by omega
      rw [decide_eq_false this]; simp
    · simp [hj]
/-- the places of a set, rising, of the first n -/
def lstN (x : List Bool) (n : Nat) : List Nat := (List.range n).filter fun i => x.getD i false
def lst (x : List Bool) : List Nat := lstN x x.length
theorem lstN_succ (x : List Bool) (n : Nat) : lstN x (n + 1) = lstN x n ++ if x.getD n false then [n] else [] := by
  unfold lstN
  rw [List.range_succ, List.filter_append]
  congr 1
  by_cases h : x.getD n false = true
  · simp only [h, if_true]; simp only [List.filter, h]
  · simp only [Bool.not_eq_true] at h
    simp only [h]; simp only [List.filter, h]; rfl
theorem lstN_none (x : List Bool) (n : Nat) : ∀ m, n ≤ m → (∀ i, n ≤ i → i < m → x.getD i false = false) → lstN x m = lstN x n := by
  intro m
  induction m with
  | zero => intro h _; obtain rfl : n = 0 := by omega
            rfl
  | succ m ih =>
    intro h hx
    by_cases hn : n = m + 1
    · rw [hn]
    · rw [lstN_succ, hx m (by omega) (by omega), ih (by omega) fun i h1 h2 => hx i h1 (by omega)]; simp
theorem lstN_far (x : List Bool) {m : Nat} (h : x.length ≤ m) : lstN x m = lst x := lstN_none x x.length m h fun i h1 _ => getD_ge h1
/-- how many bits of the first f are on -/
def popN : Nat → Nat → Nat
  | 0, _ => 0
  | f + 1, n => n % 2 + popN f (n / 2)
theorem popN_add (f g : Nat) : ∀ n, popN (f + g) n = popN f n + popN g (n / 2 ^ f) := by
  induction f with
  | zero => intro n; simp [popN]
  | succ f ih =>
    intro n
    rw [show f + 1 + g = (f + g) + 1 by omega, popN, popN, ih, Nat.div_div_eq_div_mul, Nat.pow_succ, Nat.mul_comm 2 (2 ^ f)]
    omega
theorem popN_mod (f : Nat) : ∀ n, popN f n = popN f (n % 2 ^ f) := by
  induction f with
  | zero => intro n; rfl
  | succ f ih =>
    intro n
    rw [popN, popN, ih (n / 2), ih (n % 2 ^ (f + 1) / 2)]
    have h1 : n % 2 ^ (f + 1) % 2 = n % 2 := Nat.mod_mod_of_dvd n ⟨2 ^ f, by rw [Nat.pow_succ]; omega⟩
    have h2 : n % 2 ^ (f + 1) / 2 % 2 ^ f = n / 2 % 2 ^ f := by
      rw [Nat.pow_succ, Nat.mul_comm, Nat.mod_mul_right_div_self, Nat.mod_mod]
    rw [h1, h2]
theorem popN_lst (x : List Bool) : ∀ (f n b : Nat), (∀ j, j < f → n.testBit j = x.getD (b + j) false) → (lstN x (b + f)).length = (lstN x b).length + popN f n := by
  intro f
  induction f with
  | zero => intro n b _; simp [popN]
  | succ f ih =>
    intro n b h
    rw [show b + (f + 1) = (b + 1) + f by omega, ih (n / 2) (b + 1) fun j hj => by rw [← Nat.testBit_succ, h (j + 1) (by omega)]; congr 1; omega]
    rw [lstN_succ, popN]
    have h0 := h 0 (by omega)
    rw [Nat.add_zero] at h0
    rw [← h0, Nat.testBit_zero, List.length_append]
    by_cases hn : n % 2 = 1
    · simp [hn]; omega
    · have : n % 2 = 0 := by omega
      simp [this]
end Go.Proofs.Ytemihfcenmhieaa
