/- Layer 4: the contract of Print. -/
import Derived.Test.YtaeaiaamhgcmbaaDoorNumDig
import Derived.Test.YtaeaiaamhgcmbaaDoorHeldMore
namespace Go.Proofs.YtaeaiaamhgcmbaaDoor
open Go.RowKit
set_option linter.unusedSimpArgs false
set_option linter.unusedVariables false
theorem digs_step {C : Array Value} {q : Nat} {c : UInt8} {L : List UInt8} {u : Value} (hC : C.size = 20) (hq : q + 1 + L.length = 20) (hu : u = .int .u8 (c.toNat : Int)) (h : ∀ j, j < L.length → C[q + 1 + j]? = some (byteV L j)) :
    ∀ j, j < (c :: L).length → (C.setIfInBounds q u)[q + j]? = some (byteV (c :: L) j) := by
  subst hu
  intro j hj
  cases j with
  | zero => rw [Array.getElem?_setIfInBounds, if_pos (by omega), if_pos (by omega)]; rfl
  | succ j =>
    rw [Array.getElem?_setIfInBounds, if_neg (by omega)]
    have := h j (by simpa using hj)
    rw [show q + (j + 1) = q + 1 + j from by omega, this]
    rfl
theorem row20 (w : World) {C : Array Value} {q : Nat} {L : List UInt8} (t : TypeId) (hL : 0 < L.length) (hq : q + L.length = 20) (h : ∀ j, j < L.length → C[q + j]? = some (byteV L j)) :
    RowAt (w.alloc (.cells C t)) (.slice (some ⟨w.heap.size, q, none⟩) (20 - q) (20 - q)) L.length (byteV L) := by
  have e : 20 - q = L.length := by omega
  rw [e]
  exact Or.inr ⟨_, q, L.length, rfl, hL, Nat.le_refl _, by unfold maxLen; omega, by simp, fun i hi => cell_new w C t _ _ (h i hi)⟩
theorem slice20 (b : Nat) {q : Nat} (hq : q < 20) (W : World) : (Instr.sliceAt 50 (.pointer (some ⟨b, 0, none⟩)) (some (.int .i64 q)) none none).run Tryd.prog W = .ok (.slice (some ⟨b, q, none⟩) (20 - q) (20 - q)) W := by
  have hn : Tryd.prog.arrayLen 50 = 20 := by kernel_rfl
  have he : Tryd.prog.elem 50 = 5 := by kernel_rfl
  rw [run_sliceAt_array_l W _ _ (by rw [hn, he]; exact Tryd.underlying50) _ _ (by omega) (by rw [hn]; omega), hn, he]
  obtain ⟨i, hi, _, hsize, _⟩ : ∃ i, Tryd.prog.info? 5 = some i ∧ i.zero = some (.int .u8 0) ∧ i.size = 1 ∧ i.bytes = 1 := ⟨(Tryd.prog.info? 5).get!, by kernel_rfl, by kernel_rfl, by kernel_rfl, by kernel_rfl⟩
  go_simp
  omega
set_option maxHeartbeats 2000000 in
theorem num_PrintPos (m : Nat) (hm : (m : Int) ≤ 9223372036854775807) (w : World) : Calls Tryd.prog 19 #[.int .i64 m] w fun e w' => e = .returned (.string (prS m)) ∧ Below w.heap.size w w' := by
  have hp := Lib.hid (prS_pos m)
  have hv := wu_pos m hm
  go_enter Tryd.func19, Tryd.ntmps19
  go_wp2_with fail
  go_loopw [4, 5] (fun a x wr => ∃ (p r : Nat) (L : List UInt8) (C : Array Value), r < 18446744073709551616 ∧ a = .int .i64 p ∧ x = .int .u64 r ∧ p + L.length = 20 ∧ C.size = 20 ∧ Hid (dig m = dig r ++ L) ∧ Hid (∀ j, j < L.length → C[p + j]? = some (byteV L j)) ∧ wr = w.alloc (.cells C 50)) (fun _ x _ => (intOf x).toNat)
  case atStart => exact ⟨20, m, [], _, by omega, rfl, rfl, rfl, rfl, Lib.hid (by simp), Lib.hid (fun j hj => by simp at hj), rfl⟩
  case round =>
    obtain ⟨p, r, L, C, hr, rfl, rfl, hpL, hC, hd, hcs, rfl⟩ := hrel
    have hL : L.length ≤ 19 := by
      have h1 := congrArg List.length hd.out
      have h2 := dig_len 19 m (by omega)
      have h3 := List.length_pos_iff.2 (dig_ne r)
      simp at h1; omega
    obtain ⟨q, rfl⟩ : ∃ q, p = q + 1 := ⟨p - 1, by omega⟩
    obtain ⟨u, hu⟩ : ∃ u, C[q]? = some u := ⟨C[q]'(by omega), by simp [hC]⟩
    have hC' : (C.setIfInBounds q (.int .u8 (48 + (r : Int) % 10))).size = 20 := by simp [hC]
    have hS := Lib.hid (digs_step (u := .int .u8 (48 + (r : Int) % 10)) (c := dg r) hC hpL (by rw [dg_val]; simp) hcs.out)
    have hsl := slice20 w.heap.size (q := q) (by omega)
    by_cases h10 : r < 10
    · have hcv := conv_row (P := Tryd.prog) (src := 24) (dst := 9) (e := 5) Tryd.underlying24 Tryd.underlying5 Tryd.underlying9 (row20 w 50 (by simp) (by simp; omega) hS.out)
      have hz : ((r : Int) / 10 == 0) = true := by simp; omega
      go_wp2_with fail
      go_ret
      exact ⟨by rw [hp.out, hd.out, dig_lt h10]; rfl, by (repeat' (first | (with_reducible exact Below.refl _ _) | (with_reducible assumption) | (with_reducible refine below_drewN ?_ _) | (with_reducible refine Below.alloc ?_ ?_ _) | (with_reducible refine Below.drew ?_) | (with_reducible refine Below.setCell ?_ ?_ _) | go_size))⟩
    · have hz : ((r : Int) / 10 == 0) = false := by simp; omega
      go_wp2_with fail
      go_roundw
      case rel => exact ⟨q, r / 10, dg r :: L, _, by omega, by simp, by simp, by simp; omega, hC', Lib.hid (by rw [hd.out, dig_ge h10]; simp), hS, rfl⟩
      case measure => simp [intOf]; omega
set_option maxHeartbeats 2000000 in
theorem num_PrintNeg (m : Nat) (h0 : 0 < m) (hm : (m : Int) ≤ 9223372036854775808) (w : World) : Calls Tryd.prog 19 #[.int .i64 (-(m : Int))] w fun e w' => e = .returned (.string (prS (-(m : Int)))) ∧ Below w.heap.size w w' := by
  have hp := Lib.hid (prS_neg m h0)
  have hv := wu_neg m h0 hm
  have hw := wu_back m hm
  have hlt : (-(m : Int) < 0) := by omega
  go_enter Tryd.func19, Tryd.ntmps19
  go_wp2_with fail
  go_loopw [4, 5] (fun a x wr => ∃ (p r : Nat) (L : List UInt8) (C : Array Value), r < 18446744073709551616 ∧ a = .int .i64 p ∧ x = .int .u64 r ∧ p + L.length = 20 ∧ C.size = 20 ∧ Hid (dig m = dig r ++ L) ∧ Hid (∀ j, j < L.length → C[p + j]? = some (byteV L j)) ∧ wr = w.alloc (.cells C 50)) (fun _ x _ => (intOf x).toNat)
  case atStart => exact ⟨20, m, [], _, by omega, rfl, rfl, rfl, rfl, Lib.hid (by simp), Lib.hid (fun j hj => by simp at hj), rfl⟩
  case round =>
    obtain ⟨p, r, L, C, hr, rfl, rfl, hpL, hC, hd, hcs, rfl⟩ := hrel
    have hL : L.length ≤ 18 := by
      have h1 := congrArg List.length hd.out
      have h2 := dig_len 18 m (by omega)
      have h3 := List.length_pos_iff.2 (dig_ne r)
      simp at h1; omega
    obtain ⟨q, rfl⟩ : ∃ q, p = q + 1 := ⟨p - 1, by omega⟩
    obtain ⟨u, hu⟩ : ∃ u, C[q]? = some u := ⟨C[q]'(by omega), by simp [hC]⟩
    have hC' : (C.setIfInBounds q (.int .u8 (48 + (r : Int) % 10))).size = 20 := by simp [hC]
    have hS := Lib.hid (digs_step (u := .int .u8 (48 + (r : Int) % 10)) (c := dg r) hC hpL (by rw [dg_val]; simp) hcs.out)
    by_cases h10 : r < 10
    · obtain ⟨q2, rfl⟩ : ∃ q2, q = q2 + 1 := ⟨q - 1, by omega⟩
      have hsl := slice20 w.heap.size (q := q2) (by omega)
      obtain ⟨u2, hu2⟩ : ∃ u2, (C.setIfInBounds (q2 + 1) (.int .u8 (48 + (r : Int) % 10)))[q2]? = some u2 := ⟨_, Array.getElem?_eq_getElem (by rw [hC']; omega)⟩
      have hS2 := digs_step (u := .int .u8 45) (c := 45) hC' (by simp; omega) rfl hS.out
      have hcv := conv_row (P := Tryd.prog) (src := 24) (dst := 9) (e := 5) Tryd.underlying24 Tryd.underlying5 Tryd.underlying9 (row20 w 50 (by simp) (by simp; omega) hS2)
      clear hS2
      have hz : ((r : Int) / 10 == 0) = true := by simp; omega
      go_wp2_with fail
      go_ret
      exact ⟨by rw [hp.out, hd.out, dig_lt h10]; rfl, by (repeat' (first | (with_reducible exact Below.refl _ _) | (with_reducible assumption) | (with_reducible refine below_drewN ?_ _) | (with_reducible refine Below.alloc ?_ ?_ _) | (with_reducible refine Below.drew ?_) | (with_reducible refine Below.setCell ?_ ?_ _) | go_size))⟩
    · have hz : ((r : Int) / 10 == 0) = false := by simp; omega
      go_wp2_with fail
      go_roundw
      case rel => exact ⟨q, r / 10, dg r :: L, _, by omega, by simp, by simp, by simp; omega, hC', Lib.hid (by rw [hd.out, dig_ge h10]; simp), hS, rfl⟩
      case measure => simp [intOf]; omega
theorem num_Print (n : Int) (hn : -9223372036854775808 ≤ n ∧ n ≤ 9223372036854775807) (w : World) : Calls Tryd.prog 19 #[.int .i64 n] w fun e w' => e = .returned (.string (prS n)) ∧ Below w.heap.size w w' := by
  by_cases h : 0 ≤ n
  · obtain ⟨m, rfl⟩ := Int.eq_ofNat_of_zero_le h
    exact num_PrintPos m hn.2 w
  · obtain ⟨m, rfl⟩ : ∃ m : Nat, n = -(m : Int) := ⟨(-n).toNat, by omega⟩
    exact num_PrintNeg m (by omega) (by omega) w
end Go.Proofs.YtaeaiaamhgcmbaaDoor
