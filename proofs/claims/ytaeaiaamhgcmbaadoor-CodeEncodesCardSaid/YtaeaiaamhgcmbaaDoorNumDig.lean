/- Layer 4: the contracts of Digits and Print. -/
import Derived.Test.YtaeaiaamhgcmbaaDoorNumLit
import Derived.Test.YtaeaiaamhgcmbaaDoorRow
import Derived.LoopTactic
namespace Go.Proofs.YtaeaiaamhgcmbaaDoor
open Go.RowKit
set_option linter.unusedSimpArgs false
set_option linter.unusedVariables false
theorem dgs (d : Nat) (h : d < 10) : (ByteArray.extract { data := #[48, 49, 50, 51, 52, 53, 54, 55, 56, 57] } d (d + 1)) = ⟨#[dg d]⟩ := by
  obtain rfl | rfl | rfl | rfl | rfl | rfl | rfl | rfl | rfl | rfl : d = 0 ∨ d = 1 ∨ d = 2 ∨ d = 3 ∨ d = 4 ∨ d = 5 ∨ d = 6 ∨ d = 7 ∨ d = 8 ∨ d = 9 := by omega
  all_goals decide +kernel
theorem ba_cons (c : UInt8) (L : List UInt8) : (⟨#[c]⟩ : ByteArray) ++ (⟨L.toArray⟩ : ByteArray) = ⟨(c :: L).toArray⟩ := by
  apply ByteArray.ext
  simp
theorem dg_mod (v : Nat) : dg (v % 10) = dg v := by unfold dg; congr 2; omega
theorem ref04_Digits (v : Nat) (hv : v < 18446744073709551616) (w : World) : Calls Tryd.prog 33 #[.int .u64 v] w fun e w' => e = .returned (.string ⟨(dig v).toArray⟩) ∧ w = w' := by
  go_enter Tryd.func33, Tryd.ntmps33
  go_wp2_with fail
  go_loopw [0, 3] (fun x s wr => ∃ (r : Nat) (L : List UInt8), r < 18446744073709551616 ∧ x = .int .u64 r ∧ s = .string ⟨L.toArray⟩ ∧ Hid (dig v = dig r ++ L) ∧ w = wr) (fun x _ _ => (intOf x).toNat)
  case atStart => exact ⟨v, [], hv, rfl, rfl, Lib.hid (by simp), rfl⟩
  case round =>
    obtain ⟨r, L, hr, rfl, rfl, hd, rfl⟩ := hrel
    have hd' := Lib.hid (dgs (r % 10) (by omega))
    have hL : L.length ≤ 20 := by
      have h1 := congrArg List.length hd.out
      have h2 := dig_len 19 v (by omega)
      simp at h1; omega
    have c1 : ¬ 9223372036854775807 < min (r % 10 + 1) 10 - r % 10 + L.length := by omega
    have c2 : ¬ 9223372036854775807 < min (r + 1) 10 - r + L.length := by omega
    by_cases h : 10 ≤ r
    · go_wp2_with fail
      go_roundw
      case rel => exact ⟨r / 10, dg r :: L, by omega, by simp, by rw [hd'.out, dg_mod, ba_cons], Lib.hid (by rw [hd.out, dig_ge (v := r) (by omega)]; simp), trivial⟩
      case measure => simp [intOf]; omega
    · have hd2 := Lib.hid (dgs r (by omega))
      go_wp2_with fail
      go_ret
      exact ⟨by rw [hd2.out, ba_cons, hd.out, dig_lt (v := r) (by omega)]; rfl, rfl⟩
theorem ba_app (a b : List UInt8) : (⟨a.toArray⟩ : ByteArray) ++ (⟨b.toArray⟩ : ByteArray) = ⟨(a ++ b).toArray⟩ := by
  apply ByteArray.ext
  simp
/-- a number's text -/
def prS (n : Int) : ByteArray := ⟨(pr n).toArray⟩
theorem prS_pos (m : Nat) : prS (m : Int) = ⟨(dig m).toArray⟩ := by unfold prS; rw [pr_pos (by omega)]; rfl
theorem prS_neg (m : Nat) (h : 0 < m) : prS (-(m : Int)) = ⟨(45 :: dig m).toArray⟩ := by unfold prS; rw [pr_neg (by omega), Int.neg_neg]; rfl
theorem wu_pos (m : Nat) (h : (m : Int) ≤ 9223372036854775807) : IntKind.u64.wrap (m : Int) = m := by simp [IntKind.wrap, IntKind.signed, IntKind.bits]; omega
theorem wu_neg (m : Nat) (h0 : 0 < m) (h : (m : Int) ≤ 9223372036854775808) : IntKind.u64.wrap (-(m : Int)) = 18446744073709551616 - m := by simp [IntKind.wrap, IntKind.signed, IntKind.bits]; omega
theorem wu_back (m : Nat) (h : (m : Int) ≤ 9223372036854775808) : IntKind.u64.wrap (-(18446744073709551616 - (m : Int))) = m := by simp [IntKind.wrap, IntKind.signed, IntKind.bits]; omega
theorem ref04_Print (n : Int) (hn : -9223372036854775808 ≤ n ∧ n ≤ 9223372036854775807) (w : World) : Calls Tryd.prog 21 #[.int .i64 n] w fun e w' => e = .returned (.string (prS n)) ∧ w = w' := by
  by_cases h : 0 ≤ n
  · obtain ⟨m, rfl⟩ := Int.eq_ofNat_of_zero_le h
    have hp := Lib.hid (prS_pos m)
    have hv := wu_pos m hn.2
    go_enter Tryd.func21, Tryd.ntmps21
    go_wp2_with fail
    refine (ref04_Digits m (by omega) _).mono ?_; rintro e w1 ⟨rfl, rfl⟩
    go_wp2_with fail
    go_ret
    exact ⟨by rw [hp.out]; rfl, rfl⟩
  · obtain ⟨m, rfl⟩ : ∃ m : Nat, n = -(m : Int) := ⟨(-n).toNat, by omega⟩
    have hp := Lib.hid (prS_neg m (by omega))
    have hv := wu_neg m (by omega) (by omega)
    have hw := wu_back m (by omega)
    have hl : (dig m).length ≤ 20 := dig_len 19 _ (by omega)
    go_enter Tryd.func21, Tryd.ntmps21
    go_wp2_with fail
    refine (ref04_Digits m (by omega) _).mono ?_; rintro e w1 ⟨rfl, rfl⟩
    go_wp2_with fail
    go_ret
    exact ⟨by rw [hp.out, ba_cons]; rfl, rfl⟩
end Go.Proofs.YtaeaiaamhgcmbaaDoor
