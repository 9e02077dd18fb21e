/- Layer 3: the reference's reader in any state: Take, Num, Text, Left. -/
import Derived.Test.YtdpcfcflcfjmjaaRefTake
namespace Go.Proofs.Ytdpcfcflcfjmjaa
open Go.RowKit
set_option linter.unusedSimpArgs false
set_option linter.unusedVariables false
theorem inBlk_none (q : Nat) : inBlk (.slice none 0 0) q := by intro a n c h; cases h
theorem rf_Take (g q : Nat) (L : List UInt8) (n : Nat) (bad : Bool) (z : Int) (w : World) (h : RfAt w g q L n bad) :
    Calls Try.prog 54 #[.pointer (some ⟨g, 0, none⟩), .int .i64 z] w fun e w' => ∃ r, e = .returned r ∧ RowAt w' r (rTake L z n bad).1.length (byteV (rTake L z n bad).1) ∧ inBlk r q ∧ RfAt w' g q L (rTake L z n bad).2.1 (rTake L z n bad).2.2 ∧ w.grownBy w' (some g) := by
  cases bad
  · by_cases hz : z < 0 ∨ (L.length : Int) - n < z
    · rw [rTake_fail hz]
      refine (ref_Take_fail g q L n z w h hz).mono ?_; rintro e w' ⟨rfl, h1, h2⟩
      exact ⟨_, rfl, Or.inl ⟨none, 0, rfl, rfl, fun _ => rfl⟩, inBlk_none q, h1, h2⟩
    · have hn := (rf_here h).1
      obtain ⟨m, rfl⟩ : ∃ m : Nat, z = m := ⟨z.toNat, by omega⟩
      have hm : n + m ≤ L.length := by omega
      rw [rTake_ok hm]
      refine (ref_Take_ok g q L n m w h hm).mono ?_; rintro e w' ⟨r, rfl, h1, h0, h2, h3⟩
      have hl : ((L.drop n).take m).length = m := by simp; omega
      exact ⟨r, rfl, by rw [hl]; exact h1, h0, h2, h3⟩
  · rw [rTake_bad]
    refine (ref_Take_bad g q L n z w h).mono ?_; rintro e w' ⟨rfl, h1, h2⟩
    exact ⟨_, rfl, Or.inl ⟨none, 0, rfl, rfl, fun _ => rfl⟩, inBlk_none q, h1, h2⟩
theorem leV_drop {B : List UInt8} {k : Nat} (h : k < B.length) : leV (B.drop k) = (B.getD k 0).toNat + 256 * leV (B.drop (k + 1)) := by
  rw [List.drop_eq_getElem_cons h, leV]
  simp [List.getD, h]
theorem rTake_len8 (L : List UInt8) (N n : Nat) (bad : Bool) : (rTake L N n bad).1.length ≤ N := by
  unfold rTake
  split
  · simp
  · split
    · simp
    · simp; omega
set_option maxHeartbeats 1000000 in
theorem rf_Num (g q : Nat) (L : List UInt8) (n N : Nat) (bad : Bool) (z : Int) (w : World) (h : RfAt w g q L n bad) (hN : near8 z = N) (h8 : N ≤ 8) :
    Calls Try.prog 33 #[.pointer (some ⟨g, 0, none⟩), .int .i64 z] w fun e w' => e = .returned (.int .i64 (rNum L N n bad).1) ∧ RfAt w' g q L (rNum L N n bad).2.1 (rNum L N n bad).2.2 ∧ w.grownBy w' (some g) := by
  have HT := Lib.hid (rf_Take g q L n bad N w h)
  have hB8 := rTake_len8 L N n bad
  unfold rNum
  obtain ⟨A, hA⟩ : ∃ A, rTake L N n bad = A := ⟨_, rfl⟩
  rw [hA] at HT hB8 ⊢
  clear hA h
  obtain ⟨B, n1, b1⟩ := A
  have HN := Lib.hid hN
  clear hN
  obtain ⟨K, hK⟩ : ∃ K, B.length = K := ⟨_, rfl⟩
  have HK := Lib.hid hK
  have hK8 : K ≤ 8 := by rw [← hK]; exact Nat.le_trans hB8 h8
  have hlt := leV_lt B
  go_enter Try.func33, Try.ntmps33
  go_wp2_with fail
  refine (ref03_held _ _).mono ?_; rintro e w1 ⟨rfl, rfl⟩
  rw [HN.out]
  go_wp2_with fail
  refine HT.out.mono ?_; rintro e w1 ⟨r, rfl, hr, _, hR, hG⟩
  have HR2 := Lib.hid hR
  have HG := Lib.hid hG
  have hr : RowAt w1 r K (byteV B) := by rw [← HK.out]; exact hr
  clear hR hG HT hB8 hK
  have hbnd : ∀ k, leV (B.drop k) < 18446744073709551616 := by
    intro k
    have h1 := leV_lt (B.drop k)
    have h2 : 256 ^ (B.drop k).length ≤ 256 ^ 8 := Nat.pow_le_pow_right (by omega) (by have := HK.out; simp; omega)
    have h3 : (256 : Nat) ^ 8 = 18446744073709551616 := by decide
    omega
  have HBn := Lib.hid hbnd
  obtain ⟨pp, cap, rfl⟩ : ∃ p c, r = .slice p K c := by
    rcases hr with ⟨p, cap, rfl, h0, _⟩ | ⟨b, off, cap, rfl, _⟩
    · exact ⟨p, cap, by rw [h0]⟩
    · exact ⟨_, cap, rfl⟩
  have hKi : (K : Int) ≤ 8 := by omega
  have hcell : ∀ k, k < K → ∃ bb off, pp = some ⟨bb, off, none⟩ ∧ w1.cell? ⟨bb, off + k, none⟩ = some (byteV B k) := by
    intro k hk
    rcases hr with ⟨p, c, h, h0, _⟩ | ⟨b, off, c, h, _, _, _, _, hc⟩
    · omega
    · exact ⟨b, off, by injection h, hc k hk⟩
  have HC := Lib.hid hcell
  clear hcell hr hbnd hlt
  go_wp2_with fail
  go_loop [6, 7] (fun s6 s7 => ∃ k : Nat, k ≤ K ∧ s7 = .int .i64 ((k : Int) - 1) ∧ s6 = .int .u64 (leV (B.drop k) : Int)) (fun _ s7 => (intOf s7 + 1).toNat)
  case atStart => exact ⟨K, Nat.le_refl _, rfl, by rw [List.drop_of_length_le (by have := HK.out; omega)]; rfl⟩
  case round =>
    obtain ⟨k, hk, rfl, rfl⟩ := hrel
    cases k with
    | zero =>
      go_wp2_with fail
      go_ret
      exact ⟨rfl, HR2.out, HG.out⟩
    | succ k =>
      have e1 : ((k + 1 : Nat) : Int) - 1 = (k : Int) := by omega
      rw [e1]
      obtain ⟨bb, off, rfl, hc⟩ := HC.out k (by omega)
      have hbyte : byteV B k = .int .u8 ((B.getD k 0).toNat : Int) := rfl
      rw [hbyte] at hc
      have hs := leV_drop (B := B) (k := k) (by have := HK.out; omega)
      have h1 := HBn.out k
      rw [hs] at h1
      have hb1 : (B.getD k 0).toNat < 256 := (B.getD k 0).toNat_lt
      have HS := Lib.hid (show (leV (B.drop k) : Int) = 256 * (leV (B.drop (k + 1)) : Int) + ((B.getD k 0).toNat : Int) by rw [hs]; omega)
      clear hs hbyte
      generalize (B.getD k 0).toNat = c at *
      generalize leV (B.drop (k + 1)) = A at *
      have w1 := IntWalk.u64_in (256 * (A : Int)) (by omega)
      have w2 := IntWalk.u64_in (256 * (A : Int) + (c : Int)) (by omega)
      go_wp2_with fail
      go_round
      case rel => exact ⟨k, by omega, by first | rfl | go_num, by rw [HS.out]⟩
      case measure => first | (simp [intOf]; done) | (simp [intOf]; omega)
theorem rf_Text (g q : Nat) (L : List UInt8) (n : Nat) (bad : Bool) (w : World) (h : RfAt w g q L n bad) :
    Calls Try.prog 42 #[.pointer (some ⟨g, 0, none⟩)] w fun e w' => e = .returned (.string ⟨(rText L n bad).1.toArray⟩) ∧ RfAt w' g q L (rText L n bad).2.1 (rText L n bad).2.2 ∧ w.grownBy w' (some g) := by
  unfold rText
  obtain ⟨A, hA⟩ : ∃ A, rNum L 1 n bad = A := ⟨_, rfl⟩
  obtain ⟨c, n1, b1⟩ := A
  have HNum := Lib.hid (rf_Num g q L n 1 bad 1 w h (by decide) (by omega))
  rw [hA] at HNum ⊢
  clear hA h
  obtain ⟨B, hB⟩ : ∃ B, rTake L c n1 b1 = B := ⟨_, rfl⟩
  have HNext := Lib.hid (fun W hW => rf_Take g q L n1 b1 c W hW)
  rw [hB] at HNext ⊢
  clear hB
  go_enter Try.func42, Try.ntmps42
  go_wp2_with fail
  refine HNum.out.mono ?_; rintro e w1 ⟨rfl, hR, hG⟩
  have HG := Lib.hid hG
  clear hG
  go_wp2_with fail
  refine (HNext.out w1 hR).mono ?_; rintro e w2 ⟨r, rfl, hr, _, hR2, hG2⟩
  have hcv := conv_row (P := Try.prog) (src := 23) (dst := 9) (e := 5) Try.underlying23 Try.underlying5 Try.underlying9 hr
  have HR2 := Lib.hid hR2
  have HG2 := Lib.hid hG2
  clear hr hR hR2 hG2 HNum HNext
  go_wp2_with fail
  go_ret
  exact ⟨rfl, HR2.out, grown_grown HG.out HG2.out⟩
end Go.Proofs.Ytdpcfcflcfjmjaa
