/- Sets: whether one is there; the room. -/
import Derived.Test.YtemihfcenmhieaaBitB
namespace Go.Proofs.Ytemihfcenmhieaa
open Go.RowKit
set_option linter.unusedSimpArgs false
set_option linter.unusedVariables false
theorem bit_of (y o : Nat) (h : y < 18446744073709551616) : (bits .and .u64 ((y : Int) / 2 ^ o) 1 == 1) = y.testBit o := by
  have h1 : y / 2 ^ o < 18446744073709551616 := Nat.lt_of_le_of_lt (Nat.div_le_self _ _) h
  have h2 : ((y : Int) / 2 ^ o) = ((y / 2 ^ o : Nat) : Int) := by simp
  rw [h2, show (1 : Int) = ((1 : Nat) : Int) from rfl, and_u _ _ h1 (by decide), Nat.and_one_is_mod, Nat.testBit_eq_decide_div_mod_eq]
  rcases (show y / 2 ^ o % 2 = 0 ∨ y / 2 ^ o % 2 = 1 by omega) with e | e <;> rw [e] <;> rfl
theorem bits_Room (v : Value) (x : List Bool) (w : World) (hx : SetR w v x) : Calls Try.prog 15 #[v] w fun e w' => e = .returned (.int .i64 x.length) ∧ Below w.heap.size w w' := by
  obtain ⟨vs, a, c, rfl, hvs, hlen, hcell⟩ := hx
  clear hcell
  generalize x.length = n at *
  go_enter Try.func15, Try.ntmps15
  go_wp2_with fail
  go_ret
  exact ⟨rfl, by (repeat' (first | (with_reducible exact Below.refl _ _) | (with_reducible assumption) | (with_reducible refine below_drewN ?_ _) | (with_reducible refine Below.alloc ?_ ?_ _) | (with_reducible refine Below.drew ?_) | (with_reducible refine Below.setCell ?_ ?_ _) | go_size))⟩
set_option maxHeartbeats 2000000 in
theorem bits_Has (v : Value) (x : List Bool) (i : Int) (w : World) (hx : SetR w v x) : Calls Try.prog 17 #[v, .int .i64 i] w fun e w' => e = .returned (.bool (hasB x i)) ∧ Below w.heap.size w w' := by
  obtain ⟨vs, a, c, rfl, hvs, hlen, hcell⟩ := hx
  obtain ⟨n, hn⟩ : ∃ n, x.length = n := ⟨_, rfl⟩
  obtain ⟨K, hK⟩ : ∃ K, vs.length = K := ⟨_, rfl⟩
  have HN := Lib.hid hn
  have hKn : K = (n + 63) / 64 := by rw [← hK, ← hn]; exact hvs.1
  have HK := Lib.hid hK
  rw [hn] at hlen
  rw [hK] at hcell
  rw [hn, hK]
  clear hn hK
  by_cases hi : 0 ≤ i ∧ i < (n : Int)
  · obtain ⟨k, rfl⟩ : ∃ k : Nat, i = (k : Int) := ⟨i.toNat, by omega⟩
    have hk : k < n := by omega
    have p1 : (0 ≤ (k : Int)) = True := eq_true (by omega)
    have p2 : ((k : Int) < (n : Int)) = True := eq_true (by omega)
    have p3 : (k < n) = True := eq_true (by omega)
    obtain ⟨q, hq⟩ : ∃ q, k / 64 = q := ⟨_, rfl⟩
    obtain ⟨o, ho⟩ : ∃ o, k % 64 = o := ⟨_, rfl⟩
    have hqK : q < K := by omega
    obtain ⟨b, off, rfl, l1, l2, l3, l4⟩ := hcell (by omega)
    have hc := l4 q hqK
    have ho64 : o < 64 := by omega
    have e1 : (k : Int) / 64 = (q : Int) := by omega
    have e2 : (k : Int) % 64 = (o : Int) := by omega
    have e3 : (k : Int).tmod 64 = (o : Int) := by rw [Int.tmod_eq_emod_of_nonneg (by omega)]; exact e2
    have hqm : (q : Int) < (K : Int) := by omega
    have hwq : IntKind.i64.wrap (q : Int) = (q : Int) := by rw [IntKind.wrap_i64]; omega
    have hwo : IntKind.i64.wrap (o : Int) = (o : Int) := by rw [IntKind.wrap_i64]; omega
    have hbit := has_bit hvs k
    rw [hq, ho] at hbit
    have HR := Lib.hid (show hasB x k = x.getD k false by unfold hasB; rw [if_pos ⟨by omega, by rw [HN.out]; omega⟩]; rfl)
    rw [HR.out, ← hbit]
    have hy := word_lt hvs q
    obtain ⟨y, hy'⟩ : ∃ y, vs.getD q 0 = y := ⟨_, rfl⟩
    rw [hy'] at hc hy ⊢
    clear l4 hbit hcell hvs hKn hq ho hk hi hy'
    go_enter Try.func17, Try.ntmps17
    go_wp2_with fail
    go_ret
    exact ⟨by rw [bit_of y o hy]; rfl, by (repeat' (first | (with_reducible exact Below.refl _ _) | (with_reducible assumption) | (with_reducible refine below_drewN ?_ _) | (with_reducible refine Below.alloc ?_ ?_ _) | (with_reducible refine Below.drew ?_) | (with_reducible refine Below.setCell ?_ ?_ _) | go_size))⟩
  · have HW := Lib.hid (show hasB x i = false by unfold hasB; rw [if_neg (by rw [HN.out]; exact hi)])
    rw [HW.out]
    clear hcell
    by_cases h0 : i < 0
    · have p1 : (0 ≤ i) = False := eq_false (by omega)
      clear hi h0
      go_enter Try.func17, Try.ntmps17
      go_wp2_with fail
      go_ret
      exact ⟨rfl, by (repeat' (first | (with_reducible exact Below.refl _ _) | (with_reducible assumption) | (with_reducible refine below_drewN ?_ _) | (with_reducible refine Below.alloc ?_ ?_ _) | (with_reducible refine Below.drew ?_) | (with_reducible refine Below.setCell ?_ ?_ _) | go_size))⟩
    · have p1 : (0 ≤ i) = True := eq_true (by omega)
      have p2 : (i < (n : Int)) = False := eq_false (by omega)
      clear hi h0
      go_enter Try.func17, Try.ntmps17
      go_wp2_with fail
      go_ret
      exact ⟨rfl, by (repeat' (first | (with_reducible exact Below.refl _ _) | (with_reducible assumption) | (with_reducible refine below_drewN ?_ _) | (with_reducible refine Below.alloc ?_ ?_ _) | (with_reducible refine Below.drew ?_) | (with_reducible refine Below.setCell ?_ ?_ _) | go_size))⟩
/-- how many of the first k words' bits are on -/
theorem lst_words {x : List Bool} {ws : List Nat} (h : Wds x ws) (k : Nat) : (lstN x (64 * (k + 1))).length = (lstN x (64 * k)).length + popN 64 (ws.getD k 0) := by
  rw [show 64 * (k + 1) = 64 * k + 64 by omega]
  exact popN_lst x 64 _ _ fun j hj => by rw [h.2]; simp [hj]
theorem lstN_le (x : List Bool) (n : Nat) : (lstN x n).length ≤ n := by
  unfold lstN
  have := List.length_filter_le (fun i => x.getD i false) (List.range n)
  simpa using this
end Go.Proofs.Ytemihfcenmhieaa
