/- Layer 3: the reader's numbers. -/
import Derived.Test.YtdpcfcflcfjmjaaReader
import Derived.LoopTactic
import Derived.Laws.BitsAllLaws
namespace Go.Proofs.Ytdpcfcflcfjmjaa
open Go.RowKit
set_option linter.unusedSimpArgs false
set_option linter.unusedVariables false
def leV : List UInt8 → Nat
  | [] => 0
  | c :: l => c.toNat + 256 * leV l
theorem leV_snoc (c : UInt8) : ∀ l : List UInt8, leV (l ++ [c]) = leV l + c.toNat * 256 ^ l.length
  | [] => by simp [leV]
  | d :: l => by
    simp only [List.cons_append, leV, leV_snoc c l, List.length_cons, Nat.pow_succ]
    rw [Nat.mul_add, Nat.mul_comm (256 ^ l.length) 256, ← Nat.mul_assoc, ← Nat.mul_assoc, Nat.mul_comm 256 c.toNat]
    omega
theorem leV_lt : ∀ l : List UInt8, leV l < 256 ^ l.length
  | [] => by simp [leV]
  | d :: l => by
    have := leV_lt l
    have hd := d.toNat_lt
    simp only [leV, List.length_cons, Nat.pow_succ]
    omega
theorem or_step {A c k : Nat} (hk : k ≤ 7) (hA : A < 256 ^ k) (hc : c < 256) : bits .or .u64 (A : Int) (IntKind.u64.wrap ((c : Int) * 2 ^ (8 * k))) = ((A + c * 256 ^ k : Nat) : Int) := by
  have e1 : (256 : Nat) ^ k = 2 ^ (8 * k) := by rw [Nat.pow_mul]
  have e2 : (c : Int) * 2 ^ (8 * k) = ((c * 2 ^ (8 * k) : Nat) : Int) := by simp
  have hp : (2 : Nat) ^ (8 * k) ≤ 2 ^ 56 := Nat.pow_le_pow_right (by omega) (by omega)
  have hb : c * 2 ^ (8 * k) < 18446744073709551616 := by
    have h1 : c * 2 ^ (8 * k) ≤ 255 * 2 ^ 56 := Nat.mul_le_mul (by omega) hp
    have h2 : 255 * 2 ^ 56 < 18446744073709551616 := by decide
    omega
  rw [e1] at hA ⊢
  have hA2 : A < 18446744073709551616 := by
    have h2 : (2 : Nat) ^ 56 < 18446744073709551616 := by decide
    omega
  rw [e2, IntWalk.u64_in _ (by omega) , u64_or_nat A _ hA2 hb, Nat.or_comm, Nat.mul_comm, ← Nat.two_pow_add_eq_or_of_lt hA, Nat.add_comm]
def numV (l : List UInt8) : Int := wrap64 (leV l : Int)
set_option maxHeartbeats 1000000 in
theorem reader_Num_ok (g q : Nat) (L : List UInt8) (n N : Nat) (z : Int) (w : World) (h : RdAt w g q L n false) (hN : near8 z = N) (h8 : N ≤ 8) (hm : n + N ≤ L.length) :
    Calls Try.prog 31 #[.pointer (some ⟨g, 0, none⟩), .int .i64 z] w fun e w' => e = .returned (.int .i64 (numV ((L.drop n).take N))) ∧ RdAt w' g q L (n + N) false ∧ w.grownBy w' (some g) := by
  have HN := Lib.hid hN
  have HR := Lib.hid h
  obtain ⟨B, hB⟩ : ∃ B, (L.drop n).take N = B := ⟨_, rfl⟩
  have hl : B.length = N := by rw [← hB]; simp; omega
  have HBB := Lib.hid hB
  rw [hB]
  clear hN h hB
  go_enter Try.func31, Try.ntmps31
  go_wp2_with fail
  refine (octet_near _ _).mono ?_; rintro e w' ⟨rfl, rfl⟩
  rw [HN.out]
  go_wp2_with fail
  refine (next_ok g q L n N (N : Int) _ HR.out rfl hm).mono ?_; rintro e w' ⟨r, rfl, hr, hR, hG⟩
  have HR2 := Lib.hid hR
  have HG := Lib.hid hG
  have HL := Lib.hid hl
  rw [HBB.out] at hr
  clear hR hG hl hm HR HBB
  rcases hr with ⟨a, cap, rfl, h0, hcn⟩ | ⟨b, off, cap, rfl, h1, h2, h3, h4, hcell⟩
  · subst h0
    go_wp2_with fail
    refine wp_loop_rounds 1 ?_
    rw [rounds_succ]
    go_wp2_with fail
    go_ret
    exact ⟨by rw [List.eq_nil_of_length_eq_zero HL.out, show numV [] = 0 from by decide +kernel]; rfl, HR2.out, HG.out⟩
  · have h3' : cap ≤ 9223372036854775807 := by unfold maxLen at h3; omega
    go_wp2_with fail
    go_loop [5, 6, 7, 13] (fun s5 s6 s7 s13 => ∃ k : Nat, k ≤ N ∧ s13 = .int .i64 k ∧ s5 = .int .u64 (leV (B.take k) : Int)) (fun _ _ _ s13 => N - (intOf s13).toNat)
    case atStart => exact ⟨0, Nat.zero_le _, rfl, rfl⟩
    case round =>
      obtain ⟨k, hk, rfl, rfl⟩ := hrel
      by_cases hlt : k < N
      · have hc := hcell k hlt
        have hbyte : byteV B k = .int .u8 ((B.getD k 0).toNat : Int) := rfl
        rw [hbyte] at hc
        have hb1 : (B.getD k 0).toNat < 256 := (B.getD k 0).toNat_lt
        have hsn : leV (B.take (k + 1)) = leV (B.take k) + (B.getD k 0).toNat * 256 ^ k := by
          have hkB : k < B.length := by rw [HL.out]; exact hlt
          have hlen : (B.take k).length = k := by rw [List.length_take]; omega
          rw [List.take_succ_eq_append_getElem hkB, leV_snoc, hlen]
          simp [List.getD, hkB]
        have hlt2 : leV (B.take k) < 256 ^ k := by
          have := leV_lt (B.take k)
          rw [show (B.take k).length = k by rw [List.length_take]; have := HL.out; omega] at this
          exact this
        have HS := Lib.hid (show (leV (B.take (k + 1)) : Int) = bits .or .u64 (leV (B.take k) : Int) (IntKind.u64.wrap (((B.getD k 0).toNat : Int) * 2 ^ (8 * k))) by rw [hsn, or_step (by omega) hlt2 hb1])
        clear hcell hbyte hsn hlt2
        generalize (B.getD k 0).toNat = c at *
        generalize leV (B.take k) = A at *
        go_wp2_with fail
        go_round
        case rel => exact ⟨k + 1, by omega, by go_num, by rw [HS.out]⟩
        case measure => simp [intOf]; omega
      · obtain rfl : k = N := by omega
        clear hcell
        have HT := Lib.hid (show B.take k = B from List.take_of_length_le (by have := HL.out; omega))
        go_wp2_with fail
        go_ret
        exact ⟨by rw [HT.out]; rfl, HR2.out, HG.out⟩
theorem reader_Num_fail (g q : Nat) (L : List UInt8) (n N : Nat) (z : Int) (w : World) (h : RdAt w g q L n false) (hN : near8 z = N) (h8 : N ≤ 8) (hm : L.length < n + N) :
    Calls Try.prog 31 #[.pointer (some ⟨g, 0, none⟩), .int .i64 z] w fun e w' => e = .returned (.int .i64 0) ∧ RdAt w' g q L n true ∧ w.grownBy w' (some g) := by
  have HN := Lib.hid hN
  clear hN
  go_enter Try.func31, Try.ntmps31
  go_wp2_with fail
  refine (octet_near _ _).mono ?_; rintro e w' ⟨rfl, rfl⟩
  rw [HN.out]
  go_wp2_with fail
  refine (next_fail g q L n (N : Int) _ h (by omega)).mono ?_; rintro e w' ⟨rfl, hR, hG⟩
  have HR2 := Lib.hid hR
  have HG := Lib.hid hG
  clear hR hG
  go_wp2_with fail
  refine wp_loop_rounds 1 ?_
  rw [rounds_succ]
  go_wp2_with fail
  go_ret
  exact ⟨rfl, HR2.out, HG.out⟩
theorem reader_Num_bad (g q : Nat) (L : List UInt8) (n : Nat) (z : Int) (w : World) (h : RdAt w g q L n true) :
    Calls Try.prog 31 #[.pointer (some ⟨g, 0, none⟩), .int .i64 z] w fun e w' => e = .returned (.int .i64 0) ∧ w = w' := by
  go_enter Try.func31, Try.ntmps31
  go_wp2_with fail
  refine (octet_near _ _).mono ?_; rintro e w' ⟨rfl, rfl⟩
  go_wp2_with fail
  refine (next_bad g q L n _ _ h).mono ?_; rintro e w' ⟨rfl, rfl⟩
  go_wp2_with fail
  refine wp_loop_rounds 1 ?_
  rw [rounds_succ]
  go_wp2_with fail
  go_ret
  exact ⟨rfl, rfl⟩
theorem reader_Num_nil (z : Int) (w : World) :
    Calls Try.prog 31 #[.pointer none, .int .i64 z] w fun e w' => e = .returned (.int .i64 0) ∧ w = w' := by
  go_enter Try.func31, Try.ntmps31
  go_wp2_with fail
  refine (octet_near _ _).mono ?_; rintro e w' ⟨rfl, rfl⟩
  go_wp2_with fail
  refine (next_nil _ _).mono ?_; rintro e w' ⟨rfl, rfl⟩
  go_wp2_with fail
  refine wp_loop_rounds 1 ?_
  rw [rounds_succ]
  go_wp2_with fail
  go_ret
  exact ⟨rfl, rfl⟩
end Go.Proofs.Ytdpcfcflcfjmjaa
