/- Layer 14: numbers and texts that are read of any bytes. -/
import Derived.Test.YtdpcfcflcfjmjaaRdRows
namespace Go.Proofs.Ytdpcfcflcfjmjaa
open Go.RowKit
set_option linter.unusedSimpArgs false
set_option linter.unusedVariables false
theorem rNum_bad (L : List UInt8) (N n : Nat) : rNum L N n true = (0, n, true) := by
  unfold rNum; rw [rTake_bad, numV_nil]
theorem rText_bad (L : List UInt8) (n : Nat) : rText L n true = ([], n, true) := by
  unfold rText; rw [rNum_bad]; exact rTake_bad L 0 n
theorem rNum_at (L : List UInt8) (N n : Nat) (b : Bool) (hn : n ≤ L.length) : n ≤ (rNum L N n b).2.1 ∧ (rNum L N n b).2.1 ≤ L.length := by
  obtain ⟨h1, h2, _⟩ := rTake_at L N n b hn
  exact ⟨h1, h2⟩
theorem rText_at (L : List UInt8) (n : Nat) (b : Bool) (hn : n ≤ L.length) : n ≤ (rText L n b).2.1 ∧ (rText L n b).2.1 ≤ L.length := by
  obtain ⟨h1, h2⟩ := rNum_at L 1 n b hn
  obtain ⟨k1, k2, _⟩ := rTake_at L (rNum L 1 n b).1 (rNum L 1 n b).2.1 (rNum L 1 n b).2.2 h2
  exact ⟨Nat.le_trans h1 k1, k2⟩
theorem numV_in (B : List UInt8) : I64 (numV B) := by
  unfold numV
  generalize (leV B : Int) = x
  unfold I64 wrap64
  omega
theorem numV_byte {B : List UInt8} (h : B.length ≤ 1) : 0 ≤ numV B ∧ numV B ≤ 255 := by
  match B, h with
  | [], _ => rw [numV_nil]; omega
  | [c], _ =>
    rw [numV_one]
    have := c.toNat_lt
    omega
theorem rNum1_fit (L : List UInt8) (n : Nat) (b : Bool) : 0 ≤ (rNum L 1 n b).1 ∧ (rNum L 1 n b).1 ≤ 255 := numV_byte (rTake_len8 L 1 n b)
theorem rText_len (L : List UInt8) (n : Nat) (b : Bool) : (rText L n b).1.length ≤ 255 := by
  have h := rNum1_fit L n b
  unfold rText
  generalize (rNum L 1 n b).1 = c at *
  unfold rTake
  split
  · simp
  · split
    · simp
    · rw [List.length_take]; omega
theorem rNum_back {L B T : List UInt8} {n : Nat} (h : L.drop n = B ++ T) (hn : n ≤ L.length) : rNum L B.length n false = (numV B, n + B.length, false) := by
  obtain ⟨d1, d2⟩ := drop_enc h hn
  unfold rNum
  rw [rTake_ok d2, h, List.take_left' rfl]
theorem rNum_forth {L : List UInt8} {N n : Nat} (hb : (rNum L N n false).2.2 = false) : n + N ≤ L.length ∧ rNum L N n false = (numV ((L.drop n).take N), n + N, false) ∧ L.drop n = (L.drop n).take N ++ L.drop (n + N) ∧ ((L.drop n).take N).length = N := by
  by_cases hz : n + N ≤ L.length
  · refine ⟨hz, ?_, ?_, by rw [List.length_take, List.length_drop]; omega⟩
    · unfold rNum; rw [rTake_ok hz]
    · rw [← List.drop_drop, List.take_append_drop]
  · exfalso
    have : (rNum L N n false).2.2 = true := by unfold rNum; rw [rTake_fail (by omega)]
    rw [this] at hb
    cases hb
theorem rText_back {L s T : List UInt8} {n : Nat} (h : L.drop n = (UInt8.ofNat s.length :: s) ++ T) (hn : n ≤ L.length) (hs : s.length ≤ 255) : rText L n false = (s, n + (1 + s.length), false) := by
  have h1 : L.drop n = [UInt8.ofNat s.length] ++ (s ++ T) := by rw [h]; simp
  have h2 := rNum_back h1 hn
  obtain ⟨d1, d2⟩ := drop_enc h1 hn
  obtain ⟨f1, f2⟩ := drop_enc d1 d2
  have hc : numV [UInt8.ofNat s.length] = (s.length : Int) := by rw [numV_one, UInt8.toNat_ofNat']; omega
  rw [show [UInt8.ofNat s.length].length = 1 from rfl] at h2 d1 d2 f1 f2
  unfold rText
  rw [h2]
  dsimp only
  rw [hc, rTake_ok f2, d1, List.take_left' rfl, Nat.add_assoc]
theorem rText_forth {L : List UInt8} {n : Nat} (hb : (rText L n false).2.2 = false) : (rText L n false).1.length ≤ 255 ∧ L.drop n = (UInt8.ofNat (rText L n false).1.length :: (rText L n false).1) ++ L.drop (rText L n false).2.1 ∧ (rText L n false).2.1 = n + (1 + (rText L n false).1.length) := by
  have hb0 : (rNum L 1 n false).2.2 = false := by
    cases hc : (rNum L 1 n false).2.2
    · rfl
    · unfold rText at hb; rw [hc, rTake_bad] at hb; cases hb
  obtain ⟨h1, h2, h3, h4⟩ := rNum_forth hb0
  obtain ⟨c, hc⟩ : ∃ c, (L.drop n).take 1 = [c] := ⟨_, take_one h1⟩
  rw [hc] at h2 h3
  have hT : rText L n false = rTake L (c.toNat : Int) (n + 1) false := by unfold rText; rw [h2, numV_one]
  rw [hT] at hb ⊢
  have hlt := c.toNat_lt
  by_cases hz : n + 1 + c.toNat ≤ L.length
  · rw [rTake_ok hz]
    dsimp only
    have hl : ((L.drop (n + 1)).take c.toNat).length = c.toNat := by rw [List.length_take, List.length_drop]; omega
    rw [hl]
    refine ⟨by omega, ?_, by omega⟩
    have hdd : L.drop (n + 1 + c.toNat) = (L.drop (n + 1)).drop c.toNat := by rw [List.drop_drop]
    rw [h3, show UInt8.ofNat c.toNat = c from by simp, hdd]
    show c :: L.drop (n + 1) = c :: (_ ++ _)
    rw [List.take_append_drop]
  · exfalso
    rw [rTake_fail (by omega)] at hb
    cases hb
theorem putL8_num {B : List UInt8} (h : B.length = 8) : putL 8 (numV B) = B := by
  refine leV_inj (by rw [putL_len, h]) ?_
  have h1 := leV_putL (numV B) 8 (by omega)
  have h2 := leV_lt B
  rw [h] at h2
  have h3 : (numV B) % 256 ^ 8 = (leV B : Int) := by
    unfold numV wrap64
    generalize leV B = x at *
    omega
  rw [h3] at h1
  exact_mod_cast h1
end Go.Proofs.Ytdpcfcflcfjmjaa
