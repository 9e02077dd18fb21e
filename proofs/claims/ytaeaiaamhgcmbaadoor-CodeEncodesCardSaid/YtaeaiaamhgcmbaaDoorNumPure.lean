/- Layer 4: digits, without the program. -/
import Derived.Test.YtaeaiaamhgcmbaaDoorChecked
import Derived.Handy
namespace Go.Proofs.YtaeaiaamhgcmbaaDoor
open Go.RowKit
def dg (v : Nat) : UInt8 := UInt8.ofNat (48 + v % 10)
def digF : Nat → Nat → List UInt8
  | 0, v => [dg v]
  | n + 1, v => if v < 10 then [dg v] else digF n (v / 10) ++ [dg v]
theorem digF_eq : ∀ n m v : Nat, v ≤ n → v ≤ m → digF n v = digF m v
  | 0, 0, _, _, _ => rfl
  | 0, m + 1, v, h, _ => by
    have : v < 10 := by omega
    simp [digF, this]
  | n + 1, 0, v, _, h => by
    have : v < 10 := by omega
    simp [digF, this]
  | n + 1, m + 1, v, h1, h2 => by
    by_cases hv : v < 10
    · simp [digF, hv]
    · simp only [digF, if_neg hv]
      rw [digF_eq n m (v / 10) (by omega) (by omega)]
def dig (v : Nat) : List UInt8 := digF v v
theorem dig_lt {v : Nat} (h : v < 10) : dig v = [dg v] := by
  unfold dig
  cases v with
  | zero => rfl
  | succ n => simp only [digF, if_pos h]
theorem dig_ge {v : Nat} (h : ¬ v < 10) : dig v = dig (v / 10) ++ [dg v] := by
  unfold dig
  cases v with
  | zero => omega
  | succ n =>
    simp only [digF, if_neg h]
    rw [digF_eq n ((n + 1) / 10) ((n + 1) / 10) (by omega) (Nat.le_refl _)]
theorem dg_val (v : Nat) : (dg v).toNat = 48 + v % 10 := by unfold dg; rw [UInt8.toNat_ofNat']; omega
theorem dig_all (v : Nat) : ∀ c ∈ dig v, 48 ≤ c.toNat ∧ c.toNat ≤ 57 := by
  induction v using Nat.strongRecOn with
  | _ v ih =>
    intro c hc
    by_cases h : v < 10
    · rw [dig_lt h] at hc
      obtain rfl := List.mem_singleton.1 hc
      rw [dg_val]; omega
    · rw [dig_ge h] at hc
      rcases List.mem_append.1 hc with hc | hc
      · exact ih _ (by omega) c hc
      · obtain rfl := List.mem_singleton.1 hc
        rw [dg_val]; omega
theorem dig_ne (v : Nat) : dig v ≠ [] := by
  by_cases h : v < 10
  · rw [dig_lt h]; simp
  · rw [dig_ge h]; simp
theorem dig_len (k v : Nat) (h : v < 10 ^ (k + 1)) : (dig v).length ≤ k + 1 := by
  induction k generalizing v with
  | zero => rw [dig_lt (by simpa using h)]; simp
  | succ k ih =>
    by_cases hv : v < 10
    · rw [dig_lt hv]; simp
    · rw [dig_ge hv, List.length_append]
      have : v / 10 < 10 ^ (k + 1) := by rw [Nat.pow_succ] at h; omega
      have := ih _ this
      simp; omega
/-- the value of digits -/
def vl (l : List UInt8) : Nat := l.foldl (fun a c => a * 10 + (c.toNat - 48)) 0
theorem vl_snoc (l : List UInt8) (c : UInt8) : vl (l ++ [c]) = vl l * 10 + (c.toNat - 48) := by simp [vl]
theorem vl_dig (v : Nat) : vl (dig v) = v := by
  induction v using Nat.strongRecOn with
  | _ v ih =>
    by_cases h : v < 10
    · rw [dig_lt h]; simp [vl, dg_val]; omega
    · rw [dig_ge h, vl_snoc, ih _ (by omega), dg_val]; omega
theorem dig_inj {a b : Nat} (h : dig a = dig b) : a = b := by rw [← vl_dig a, ← vl_dig b, h]
def pr (n : Int) : List UInt8 := if n < 0 then 45 :: dig (-n).toNat else dig n.toNat
theorem pr_neg {n : Int} (h : n < 0) : pr n = 45 :: dig (-n).toNat := if_pos h
theorem pr_pos {n : Int} (h : ¬ n < 0) : pr n = dig n.toNat := if_neg h
theorem dig_head (v : Nat) (t : List UInt8) : dig v ≠ 45 :: t := by
  intro h
  have := dig_all v 45 (by rw [h]; simp)
  revert this; decide
theorem pr_inj {a b : Int} (h : pr a = pr b) : a = b := by
  by_cases ha : a < 0 <;> by_cases hb : b < 0
  · rw [pr_neg ha, pr_neg hb] at h
    have := dig_inj (List.cons.inj h).2
    omega
  · rw [pr_neg ha, pr_pos hb] at h
    exact absurd h.symm (dig_head _ _)
  · rw [pr_pos ha, pr_neg hb] at h
    exact absurd h (dig_head _ _)
  · rw [pr_pos ha, pr_pos hb] at h
    have := dig_inj h
    omega
theorem pr_len {n : Int} (h : -9223372036854775808 ≤ n ∧ n ≤ 9223372036854775807) : (pr n).length ≤ 20 := by
  by_cases hn : n < 0
  · rw [pr_neg hn, List.length_cons]
    have := dig_len 18 (-n).toNat (by omega)
    omega
  · rw [pr_pos hn]
    have := dig_len 18 n.toNat (by omega)
    omega
/-- without a sign -/
def body (l : List UInt8) : List UInt8 := if l.head? = some 45 then l.tail else l
def isNeg (l : List UInt8) : Bool := l.head? == some 45
def wu (n : Int) : Int := n % 18446744073709551616
def wi (n : Int) : Int := (n + 9223372036854775808) % 18446744073709551616 - 9223372036854775808
def pv (l : List UInt8) : Int := if isNeg l then wi (-(vl (body l) : Int)) else wi (vl (body l))
theorem pv_pr {n : Int} (h : -9223372036854775808 ≤ n ∧ n ≤ 9223372036854775807) : pv (pr n) = n := by
  by_cases hn : n < 0
  · rw [pr_neg hn]
    have : body (45 :: dig (-n).toNat) = dig (-n).toNat := by simp [body]
    simp only [pv, this, vl_dig]
    rw [if_pos (by simp [isNeg])]
    unfold wi
    omega
  · rw [pr_pos hn]
    have h1 : (dig n.toNat).head? ≠ some 45 := by
      intro h
      cases hd : dig n.toNat with
      | nil => rw [hd] at h; cases h
      | cons a t =>
        rw [hd] at h
        obtain rfl : a = 45 := by simpa using h
        exact dig_head _ _ hd
    have : body (dig n.toNat) = dig n.toNat := by unfold body; rw [if_neg h1]
    simp only [pv, this, vl_dig]
    rw [if_neg (by simpa [isNeg] using h1)]
    unfold wi
    omega
theorem body_pr (n : Int) : ∀ c ∈ body (pr n), 48 ≤ c.toNat ∧ c.toNat ≤ 57 := by
  by_cases hn : n < 0
  · rw [pr_neg hn]
    have : body (45 :: dig (-n).toNat) = dig (-n).toNat := by simp [body]
    rw [this]; exact dig_all _
  · rw [pr_pos hn]
    intro c hc
    unfold body at hc
    split at hc
    · exact dig_all _ c (List.mem_of_mem_tail hc)
    · exact dig_all _ c hc
theorem wi_range (n : Int) : -9223372036854775808 ≤ wi n ∧ wi n ≤ 9223372036854775807 := by unfold wi; omega
theorem pv_range (l : List UInt8) : -9223372036854775808 ≤ pv l ∧ pv l ≤ 9223372036854775807 := by
  unfold pv; split <;> exact wi_range _
/-- is it a number's text? -/
def isNum (l : List UInt8) : Bool := pr (pv l) == l
theorem isNum_bad {l : List UInt8} {c : UInt8} (hc : c ∈ body l) (h : ¬ (48 ≤ c.toNat ∧ c.toNat ≤ 57)) : isNum l = false := by
  cases hb : isNum l with
  | false => rfl
  | true =>
    have he : pr (pv l) = l := by simpa [isNum] using hb
    rw [← he] at hc
    exact absurd (body_pr _ c hc) h
theorem isNum_long {l : List UInt8} (h : 20 < l.length) : isNum l = false := by
  cases hb : isNum l with
  | false => rfl
  | true =>
    have he : pr (pv l) = l := by simpa [isNum] using hb
    have := pr_len (pv_range l)
    rw [he] at this; omega
theorem isNum_pr {n : Int} (h : -9223372036854775808 ≤ n ∧ n ≤ 9223372036854775807) : isNum (pr n) = true := by
  unfold isNum; rw [pv_pr h]; simp
end Go.Proofs.YtaeaiaamhgcmbaaDoor
