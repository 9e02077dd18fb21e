/- Layer 47: ref47.part. -/
import Derived.Test.YtfgnpphbkjeooaaLxIn
namespace Go.Proofs.Ytfgnpphbkjeooaa
open Go.RowKit
set_option linter.unusedSimpArgs false
set_option linter.unusedVariables false
def letters : List UInt8 := [97, 98, 99, 100, 101, 102, 103, 104, 105, 106, 107, 108, 109, 110, 111, 112, 113, 114, 115, 116, 117, 118, 119, 120, 121, 122, 65, 66, 67, 68, 69, 70, 71, 72, 73, 74, 75, 76, 77, 78, 79, 80, 81, 82, 83, 84, 85, 86, 87, 88, 89, 90, 48, 49, 50, 51, 52, 53, 54, 55, 56, 57, 95, 35]
theorem letters_all : ∀ n : Fin 256, letters.contains (UInt8.ofNat n.val) = LX.wordC (UInt8.ofNat n.val) := by decide +kernel
theorem letters_word (c : UInt8) : letters.contains c = LX.wordC c := by
  have h := letters_all ⟨c.toNat, c.toNat_lt⟩
  simpa using h
set_option maxHeartbeats 1000000 in
theorem ref47_part (c d : UInt8) (w : World) : Calls Try.prog 13 #[.int .u8 (c.toNat : Int), .int .u8 (d.toNat : Int)] w fun e w' => e = .returned (.bool (LX.wordC c || (decide (c = 45) && decide (d = 35)))) ∧ ∃ m, w' = w.drewN m := by
  have HI := Lib.hid (ref47_in letters c w (by decide))
  have hc45 : ((c.toNat : Nat) : Int) = 45 ↔ c = 45 := ⟨fun h => UInt8.toNat_inj.1 (show c.toNat = 45 by omega), fun h => by rw [h]; rfl⟩
  have hd35 : ((d.toNat : Nat) : Int) = 35 ↔ d = 35 := ⟨fun h => UInt8.toNat_inj.1 (show d.toNat = 35 by omega), fun h => by rw [h]; rfl⟩
  rw [letters_word] at HI
  obtain ⟨Z, hZ⟩ : ∃ Z, (LX.wordC c || (decide (c = 45) && decide (d = 35))) = Z := ⟨_, rfl⟩
  have HZ := Lib.hid hZ
  rw [hZ]
  clear hZ
  cases hw : LX.wordC c
  case true =>
    rw [hw] at HI HZ
    clear hw hc45 hd35
    generalize ((c.toNat : Nat) : Int) = cn at *
    generalize ((d.toNat : Nat) : Int) = dn at *
    go_enter Try.func13, Try.ntmps13
    go_wp2_with fail
    refine HI.out.mono ?_; rintro e w1 ⟨rfl, m, rfl⟩
    go_wp2_with fail
    go_ret
    exact ⟨by rw [← HZ.out]; rfl, m, rfl⟩
  rw [hw] at HI HZ
  clear hw
  by_cases h1 : c = 45
  case neg =>
    have q1 : (((c.toNat : Nat) : Int) == 45) = false := by simpa using fun h => h1 (hc45.1 h)
    have HY := Lib.hid (show Z = false by rw [← HZ.out]; simp [h1])
    clear h1 hc45 hd35 HZ
    generalize ((c.toNat : Nat) : Int) = cn at *
    generalize ((d.toNat : Nat) : Int) = dn at *
    go_enter Try.func13, Try.ntmps13
    go_wp2_with fail
    refine HI.out.mono ?_; rintro e w1 ⟨rfl, m, rfl⟩
    go_wp2_with fail
    go_ret
    exact ⟨by rw [HY.out]; rfl, m, rfl⟩
  have q1 : (((c.toNat : Nat) : Int) == 45) = true := by simpa using hc45.2 h1
  by_cases h2 : d = 35
  · have q2 : (((d.toNat : Nat) : Int) == 35) = true := by simpa using hd35.2 h2
    have HY := Lib.hid (show Z = true by rw [← HZ.out]; simp [h1, h2])
    clear h1 h2 hc45 hd35 HZ
    generalize ((c.toNat : Nat) : Int) = cn at *
    generalize ((d.toNat : Nat) : Int) = dn at *
    go_enter Try.func13, Try.ntmps13
    go_wp2_with fail
    refine HI.out.mono ?_; rintro e w1 ⟨rfl, m, rfl⟩
    go_wp2_with fail
    go_ret
    exact ⟨by rw [HY.out]; rfl, m, rfl⟩
  · have q2 : (((d.toNat : Nat) : Int) == 35) = false := by simpa using fun h => h2 (hd35.1 h)
    have HY := Lib.hid (show Z = false by rw [← HZ.out]; simp [h2])
    clear h1 h2 hc45 hd35 HZ
    generalize ((c.toNat : Nat) : Int) = cn at *
    generalize ((d.toNat : Nat) : Int) = dn at *
    go_enter Try.func13, Try.ntmps13
    go_wp2_with fail
    refine HI.out.mono ?_; rintro e w1 ⟨rfl, m, rfl⟩
    go_wp2_with fail
    go_ret
    exact ⟨by rw [HY.out]; rfl, m, rfl⟩
end Go.Proofs.Ytfgnpphbkjeooaa
