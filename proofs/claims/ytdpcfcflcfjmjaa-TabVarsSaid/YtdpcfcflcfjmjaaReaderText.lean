/- Layer 3: the reader's Text; numbers that were put are read. -/
import Derived.Test.YtdpcfcflcfjmjaaReaderMore
namespace Go.Proofs.Ytdpcfcflcfjmjaa
open Go.RowKit
set_option linter.unusedSimpArgs false
set_option linter.unusedVariables false
theorem byte_step (n : Int) {k : Nat} (h : k < 8) : n % 256 ^ (k + 1) = n % 256 ^ k + ((n / 2 ^ (8 * k)) % 256) * 256 ^ k := by
  obtain rfl | rfl | rfl | rfl | rfl | rfl | rfl | rfl := ux_cases h <;> omega
theorem leV_putL (n : Int) : ∀ k : Nat, k ≤ 8 → (leV (putL k n) : Int) = n % 256 ^ k
  | 0, _ => by simp [putL, leV]
  | k + 1, h => by
    rw [putL_succ, leV_snoc, putL_len, Int.natCast_add, leV_putL n k (by omega), Int.natCast_mul, byteAt_val, byte_step n (by omega)]
    simp
theorem numV_put8 (n : Int) (h : -9223372036854775808 ≤ n ∧ n ≤ 9223372036854775807) : numV (putL 8 n) = n := by
  unfold numV
  rw [leV_putL n 8 (Nat.le_refl _)]
  unfold wrap64
  omega
theorem numV_put4 (n : Int) : numV (putL 4 n) = n % 4294967296 := by
  unfold numV
  rw [leV_putL n 4 (by omega)]
  unfold wrap64
  omega
theorem numV_one (c : UInt8) : numV [c] = (c.toNat : Int) := by
  have := c.toNat_lt
  simp only [numV, leV]
  unfold wrap64
  omega
theorem take_one {L : List UInt8} {n : Nat} (h : n + 1 ≤ L.length) : (L.drop n).take 1 = [L.getD n 0] := by
  have hn : n < L.length := h
  rw [List.drop_eq_getElem_cons hn, List.take_succ_cons, List.take_zero]
  congr 1
  simp [List.getD, hn]
set_option maxHeartbeats 400000 in
theorem reader_Text_ok (g q : Nat) (L : List UInt8) (n c : Nat) (w : World) (h : RdAt w g q L n false) (hc : (L.getD n 0).toNat = c) (hm : n + 1 + c ≤ L.length) :
    Calls Try.prog 41 #[.pointer (some ⟨g, 0, none⟩)] w fun e w' => e = .returned (.string ⟨((L.drop (n + 1)).take c).toArray⟩) ∧ RdAt w' g q L (n + 1 + c) false ∧ w.grownBy w' (some g) := by
  have hN : numV ((L.drop n).take 1) = (c : Int) := by rw [take_one (by omega), numV_one, hc]
  have HN := Lib.hid hN
  obtain ⟨B, hB⟩ : ∃ B, (L.drop (n + 1)).take c = B := ⟨_, rfl⟩
  have hl : B.length = c := by rw [← hB]; simp; omega
  have HL := Lib.hid hl
  have HBB := Lib.hid hB
  rw [hB]
  clear hN hc hl hB
  go_enter Try.func41, Try.ntmps41
  go_wp2_with fail
  refine (reader_Num_ok g q L n 1 1 _ h (by decide) (by omega) (by omega)).mono ?_; rintro e w1 ⟨rfl, hR, hG⟩
  rw [HN.out]
  have HG := Lib.hid hG
  clear hG h
  go_wp2_with fail
  refine (next_ok g q L (n + 1) c (c : Int) _ hR rfl hm).mono ?_; rintro e w2 ⟨r, rfl, hr, hR2, hG2⟩
  rw [HBB.out] at hr
  have hcv := conv_row (P := Try.prog) (src := 23) (dst := 9) (e := 5) Try.underlying23 Try.underlying5 Try.underlying9 (l := B) (by rw [HL.out]; exact hr)
  have HR2 := Lib.hid hR2
  have HG2 := Lib.hid hG2
  clear hr hR hR2 hG2
  go_wp2_with fail
  go_ret
  exact ⟨rfl, HR2.out, grown_grown HG.out HG2.out⟩
end Go.Proofs.Ytdpcfcflcfjmjaa
