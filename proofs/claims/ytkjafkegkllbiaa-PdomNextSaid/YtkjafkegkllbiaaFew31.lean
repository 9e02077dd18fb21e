/- Which graphs are small. -/
import Derived.Test.YtkjafkegkllbiaaGrid
namespace Go.Proofs.Ytkjafkegkllbiaa
open Go.RowKit
set_option linter.unusedSimpArgs false
set_option linter.unusedVariables false
def few31 (next : List (List Int)) (most : Int) : Bool := decide ((next.length : Int) ≤ most) && next.all fun l => decide (l.length ≤ 40)
set_option maxHeartbeats 2000000 in
theorem ref31_Few (v : Value) (next : List (List Int)) (most : Int) (w : World) (hv : RowR 1 gridR w v next) :
    Calls Try.prog 5 #[v, .int .i64 most] w fun r w' => r = .returned (.bool (few31 next most)) ∧ w = w' := by
  have hlen := hv.len
  have HV := Lib.hid hv
  obtain ⟨ad, cap, rfl⟩ := row_get hv
  obtain ⟨n, hN⟩ : ∃ n, next.length = n := ⟨_, rfl⟩
  have HN := Lib.hid hN
  have HZ := Lib.hid (show few31 next most = (decide ((n : Int) ≤ most) && next.all fun l => decide (l.length ≤ 40)) by unfold few31; rw [hN])
  rw [hN] at hlen HV ⊢
  generalize few31 next most = Z at *
  clear hv hN
  by_cases h0 : (n : Int) ≤ most
  case neg =>
    have q0 : (most < (n : Int)) = True := eq_true (by omega)
    have hZ := Lib.hid (show Z = false by rw [HZ.out, show decide ((n : Int) ≤ most) = false from decide_eq_false h0]; rfl)
    clear h0
    go_enter Try.func5, Try.ntmps5
    go_wp2_with fail
    go_ret
    exact ⟨by rw [hZ.out]; rfl, rfl⟩
  have q0 : (most < (n : Int)) = False := eq_false (by omega)
  have HZ := Lib.hid (show Z = next.all fun l => decide (l.length ≤ 40) by rw [HZ.out, show decide ((n : Int) ≤ most) = true from decide_eq_true h0, Bool.true_and])
  clear h0
  go_enter Try.func5, Try.ntmps5
  go_wp2_with fail
  go_loopw [5] (fun jj wr => ∃ k : Nat, k ≤ n ∧ jj = .int .i64 k ∧ Hid ((next.take k).all (fun l => decide (l.length ≤ 40)) = true) ∧ wr = w) (fun jj _ => n - (intOf jj).toNat)
  case atStart => exact ⟨0, Nat.zero_le _, rfl, Lib.hid (by simp), rfl⟩
  case round =>
    obtain ⟨k, hk, rfl, hA, hwr⟩ := hrel
    have hwr := hwr.symm
    subst hwr
    by_cases hlt : k < n
    case neg =>
      obtain rfl : n = k := by omega
      have q1 : ((n : Int) < (n : Int)) = False := eq_false (by omega)
      have q1' : (n < n) = False := eq_false (by omega)
      have hZ := Lib.hid (show Z = true by rw [HZ.out, ← hA.out, List.take_of_length_le (by rw [HN.out]; exact Nat.le_refl _)])
      clear hA hlt hk
      go_wp2_with fail
      go_ret
      exact ⟨by rw [hZ.out]; rfl, rfl⟩
    have q1 : ((k : Int) < (n : Int)) = True := eq_true (by omega)
    have q1' : (k < n) = True := eq_true hlt
    have hk62 : k ≤ 9223372036854775806 := by omega
    have HK := Lib.hid hlt
    obtain ⟨l, hl⟩ := get_some (L := next) (n := k) (by rw [HN.out]; exact hlt)
    obtain ⟨bn, on', sl, sc, rfl, hbn, hnN, hcN, cn0, hL⟩ := grid_at HV.out hl
    have hlm := hL.len
    have HL := Lib.hid hl
    obtain ⟨m, hm⟩ : ∃ m, l.length = m := ⟨_, rfl⟩
    have HM := Lib.hid hm
    rw [hm] at cn0 hlm
    clear hL hl hm hlt hk
    by_cases h40 : m ≤ 40
    · have q2 : ((40 : Int) < (m : Int)) = False := eq_false (by omega)
      have q2' : (40 < m) = False := eq_false (by omega)
      have HA2 := Lib.hid (show (next.take (k + 1)).all (fun l => decide (l.length ≤ 40)) = true by rw [take_snoc HL.out, List.all_append, hA.out]; simp [HM.out, h40])
      clear hA h40
      go_wp2_with fail
      go_roundw
      case rel => exact ⟨k + 1, by have := HK.out; omega, by simp, HA2, by first | rfl | trivial⟩
      case measure => have := HK.out; first | (simp [intOf]; done) | (simp [intOf]; omega)
    · have q2 : ((40 : Int) < (m : Int)) = True := eq_true (by omega)
      have q2' : (40 < m) = True := eq_true (by omega)
      have hZ := Lib.hid (show Z = false by
        rw [HZ.out]
        refine List.all_eq_false.2 ⟨l, List.mem_of_getElem? HL.out, ?_⟩
        rw [HM.out]; simpa using h40)
      clear hA h40
      go_wp2_with fail
      go_ret
      exact ⟨by rw [hZ.out]; rfl, rfl⟩
end Go.Proofs.Ytkjafkegkllbiaa
