/- pdom.there, pdom.last. -/
import Derived.Test.YtkjafkegkllbiaaPdC
namespace Go.Proofs.Ytkjafkegkllbiaa
open Go.RowKit
set_option linter.unusedSimpArgs false
set_option linter.unusedVariables false
open DM (okN rowN lastB)
theorem pdom_there (v : Value) (next : List (List Int)) (T : Int) (w : World) (hv : RowR 1 gridR w v next) :
    Calls Try.prog 19 #[v, .int .i64 T] w fun r w' => r = .returned (.bool (okN next.length T)) ∧ w = w' := by
  have hlen := hv.len
  obtain ⟨ad, cap, rfl⟩ := row_get hv
  obtain ⟨n, hN⟩ : ∃ n, next.length = n := ⟨_, rfl⟩
  rw [hN] at hlen ⊢
  clear hv hN
  by_cases h0 : 0 ≤ T
  · obtain ⟨t, rfl⟩ : ∃ t : Nat, T = (t : Int) := ⟨T.toNat, by omega⟩
    by_cases htn : t < n
    · have p1 : ((t : Int) < (n : Int)) = True := eq_true (by omega)
      have p1' : (t < n) = True := eq_true htn
      have HK := Lib.hid (show okN n (t : Int) = true from decide_eq_true (by omega))
      clear h0 htn
      go_enter Try.func19, Try.ntmps19
      go_wp2_with fail
      go_ret
      exact ⟨by rw [HK.out]; rfl, rfl⟩
    · have p1 : ((t : Int) < (n : Int)) = False := eq_false (by omega)
      have p1' : (t < n) = False := eq_false htn
      have HK := Lib.hid (show okN n (t : Int) = false from decide_eq_false (by omega))
      clear h0 htn
      go_enter Try.func19, Try.ntmps19
      go_wp2_with fail
      go_ret
      exact ⟨by rw [HK.out]; rfl, rfl⟩
  · have p0 : (0 ≤ T) = False := eq_false h0
    have HK := Lib.hid (show okN n T = false from decide_eq_false (by omega))
    clear h0
    go_enter Try.func19, Try.ntmps19
    go_wp2_with fail
    go_ret
    exact ⟨by rw [HK.out]; rfl, rfl⟩
set_option maxHeartbeats 2000000 in
theorem pdom_last (v : Value) (next : List (List Int)) (i : Nat) (w : World) (hv : RowR 1 gridR w v next) (hi : i < next.length) :
    Calls Try.prog 17 #[v, .int .i64 (i : Int)] w fun r w' => r = .returned (.bool (lastB next i)) ∧ w = w' := by
  have HT := Lib.hid (fun T => pdom_there v next T w hv)
  have hlen := hv.len
  have HV := Lib.hid hv
  obtain ⟨ad, cap, rfl⟩ := row_get hv
  obtain ⟨n, hN⟩ : ∃ n, next.length = n := ⟨_, rfl⟩
  have HN := Lib.hid hN
  obtain ⟨l, hl⟩ := get_some (L := next) (n := i) hi
  have hrowN : rowN next i = l := by unfold rowN; simp [List.getD, hl]
  have HZ := Lib.hid (show lastB next i = !l.any (okN n) by unfold lastB; rw [hrowN, hN])
  rw [hN] at hlen HV hi HT ⊢
  obtain ⟨bn, on', sl, sc, rfl, hbn, hnN, hcN, cn0, hL⟩ := grid_at HV.out hl
  generalize lastB next i = Z at *
  have q1 : ((i : Int) < (n : Int)) = True := eq_true (by omega)
  have q1' : (i < n) = True := eq_true hi
  have HL := Lib.hid hL
  obtain ⟨m, hm⟩ : ∃ m, l.length = m := ⟨_, rfl⟩
  have HM := Lib.hid hm
  have hlm := hL.len
  rw [hm] at cn0 HL hlm
  clear hv hN hl hrowN hL hm hi
  go_enter Try.func17, Try.ntmps17
  go_wp2_with fail
  go_loopw [12] (fun jj wr => ∃ k : Nat, k ≤ m ∧ jj = .int .i64 k ∧ Hid ((l.drop k).any (okN n) = l.any (okN n)) ∧ wr = w) (fun jj _ => m - (intOf jj).toNat)
  case atStart => exact ⟨0, Nat.zero_le _, rfl, Lib.hid rfl, rfl⟩
  case round =>
    obtain ⟨k, hk, rfl, hA, hwr⟩ := hrel
    have hwr := hwr.symm
    subst hwr
    by_cases hlt : k < m
    case neg =>
      obtain rfl : m = k := by omega
      have q2 : ((m : Int) < (m : Int)) = False := eq_false (by omega)
      have q2' : (m < m) = False := eq_false (by omega)
      have hZ := Lib.hid (show Z = true by rw [HZ.out, ← hA.out, List.drop_of_length_le (by rw [HM.out]; exact Nat.le_refl _)]; rfl)
      clear hA hlt hk
      go_wp2_with fail
      go_ret
      exact ⟨by rw [hZ.out]; rfl, rfl⟩
    have q2 : ((k : Int) < (m : Int)) = True := eq_true (by omega)
    have q2' : (k < m) = True := eq_true hlt
    have hk62 : k ≤ 9223372036854775806 := by omega
    have HK := Lib.hid hlt
    obtain ⟨bl, ol, hse, hbl, hnl, hcl, cl1, _⟩ := int_at HL.out (k := k) (by rw [HM.out]; exact hlt)
    subst hse
    obtain ⟨T, hT⟩ : ∃ T, l.getD k 0 = T := ⟨_, rfl⟩
    have HA2 := Lib.hid (show (okN n T || (l.drop (k + 1)).any (okN n)) = l.any (okN n) by
      have h := hA.out
      rw [List.drop_eq_getElem_cons (by rw [HM.out]; exact hlt), List.any_cons] at h
      have : l[k]'(by rw [HM.out]; exact hlt) = T := by rw [← hT]; simp [List.getD, HM.out, hlt]
      rw [this] at h
      exact h)
    rw [hT] at cl1
    have HTT := Lib.hid (HT.out T)
    clear hT hlt hk hA
    cases hok : okN n T
    · have HTT := Lib.hid (show _ from hok ▸ HTT.out)
      have HA3 := Lib.hid (show (l.drop (k + 1)).any (okN n) = l.any (okN n) by have h := HA2.out; rwa [hok, Bool.false_or] at h)
      clear hok
      go_wp2_with fail
      refine HTT.out.mono ?_; rintro r w2 ⟨rfl, rfl⟩
      go_wp2_with fail
      go_roundw
      case rel => exact ⟨k + 1, by have := HK.out; omega, by simp, HA3, by first | rfl | trivial⟩
      case measure => have := HK.out; first | (simp [intOf]; done) | (simp [intOf]; omega)
    · have HTT := Lib.hid (show _ from hok ▸ HTT.out)
      have hZ := Lib.hid (show Z = false by rw [HZ.out, ← HA2.out, hok]; rfl)
      clear hok
      go_wp2_with fail
      refine HTT.out.mono ?_; rintro r w2 ⟨rfl, rfl⟩
      go_wp2_with fail
      go_ret
      exact ⟨by rw [hZ.out]; rfl, rfl⟩
end Go.Proofs.Ytkjafkegkllbiaa
