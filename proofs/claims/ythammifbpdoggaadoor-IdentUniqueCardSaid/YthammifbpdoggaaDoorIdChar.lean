/- Layer 5: signs of names; words at the front. -/
import Derived.Test.YthammifbpdoggaaDoorIdPure
import Derived.Test.YthammifbpdoggaaDoorSeq
import Derived.Test.YthammifbpdoggaaDoorMoreB
import Derived.LoopTactic
import Derived.OwnWalk
import Derived.WalkKit
import Derived.WalkSpells
import Derived.WalkLawsBesides
import Derived.Deep.QuietTactic
import Derived.BigQuiet
import Derived.WalkSmall
import Derived.IntWalk
namespace Go.Proofs.YthammifbpdoggaaDoor
open Go.RowKit
set_option linter.unusedSimpArgs false
set_option linter.unusedVariables false
theorem idx_atI {P : Program} {t : TypeId} (ht : P.underlying t = some .string) {l : List UInt8} {k : Nat} (W : World) (h : k < l.length) : (Instr.index t (.string ⟨l.toArray⟩) (.int .i64 k)).run P W = .ok (.int .u8 ((l.getD k 0).toNat : Int)) W := by
  have h2 : 0 ≤ (k : Int) ∧ (k : Int) < ((⟨l.toArray⟩ : ByteArray).size : Int) := ⟨by omega, by rw [show (⟨l.toArray⟩ : ByteArray).size = l.length from List.size_toArray]; omega⟩
  rw [run_index_string W t _ _ _ ht, dif_pos h2]
  have h3 : (⟨l.toArray⟩ : ByteArray)[(k : Int).toNat]'(by have := h2.2; omega) = l.getD k 0 := by
    show l.toArray[(k : Int).toNat]'_ = _
    simp [List.getD, h]
  rw [h3]
theorem ident_small (c : UInt8) (w : World) : Calls Tryd.prog 15 #[.int .u8 (c.toNat : Int)] w fun e w' => e = .returned (.bool (smallC c)) ∧ w' = w := by
  obtain ⟨n, hn⟩ : ∃ n, c.toNat = n := ⟨_, rfl⟩
  have HD := Lib.hid (show smallC c = decide (97 ≤ n ∧ n ≤ 122) by unfold smallC; rw [hn])
  rw [hn]
  clear hn
  by_cases h1 : 97 ≤ n
  · have q1 : (97 ≤ (n : Int)) = True := eq_true (by omega)
    have q1' : (97 ≤ n) = True := eq_true h1
    by_cases h2 : n ≤ 122
    · have q2 : ((n : Int) ≤ 122) = True := eq_true (by omega)
      have q2' : (n ≤ 122) = True := eq_true h2
      have hs := Lib.hid (HD.out.trans (decide_eq_true ⟨h1, h2⟩))
      clear h1 h2
      go_enter Tryd.func15, Tryd.ntmps15
      go_wp2_with fail
      go_ret
      exact ⟨by rw [hs.out]; rfl, rfl⟩
    · have q2 : ((n : Int) ≤ 122) = False := eq_false (by omega)
      have q2' : (n ≤ 122) = False := eq_false h2
      have hs := Lib.hid (HD.out.trans (decide_eq_false (fun h => h2 h.2)))
      clear h1 h2
      go_enter Tryd.func15, Tryd.ntmps15
      go_wp2_with fail
      go_ret
      exact ⟨by rw [hs.out]; rfl, rfl⟩
  · have q1 : (97 ≤ (n : Int)) = False := eq_false (by omega)
    have q1' : (97 ≤ n) = False := eq_false h1
    have hs := Lib.hid (HD.out.trans (decide_eq_false (fun h => h1 h.1)))
    clear h1
    go_enter Tryd.func15, Tryd.ntmps15
    go_wp2_with fail
    go_ret
    exact ⟨by rw [hs.out]; rfl, rfl⟩
theorem ident_digit (c : UInt8) (w : World) : Calls Tryd.prog 16 #[.int .u8 (c.toNat : Int)] w fun e w' => e = .returned (.bool (digitC c)) ∧ w' = w := by
  obtain ⟨n, hn⟩ : ∃ n, c.toNat = n := ⟨_, rfl⟩
  have HD := Lib.hid (show digitC c = decide (48 ≤ n ∧ n ≤ 57) by unfold digitC; rw [hn])
  rw [hn]
  clear hn
  by_cases h1 : 48 ≤ n
  · have q1 : (48 ≤ (n : Int)) = True := eq_true (by omega)
    have q1' : (48 ≤ n) = True := eq_true h1
    by_cases h2 : n ≤ 57
    · have q2 : ((n : Int) ≤ 57) = True := eq_true (by omega)
      have q2' : (n ≤ 57) = True := eq_true h2
      have hs := Lib.hid (HD.out.trans (decide_eq_true ⟨h1, h2⟩))
      clear h1 h2
      go_enter Tryd.func16, Tryd.ntmps16
      go_wp2_with fail
      go_ret
      exact ⟨by rw [hs.out]; rfl, rfl⟩
    · have q2 : ((n : Int) ≤ 57) = False := eq_false (by omega)
      have q2' : (n ≤ 57) = False := eq_false h2
      have hs := Lib.hid (HD.out.trans (decide_eq_false (fun h => h2 h.2)))
      clear h1 h2
      go_enter Tryd.func16, Tryd.ntmps16
      go_wp2_with fail
      go_ret
      exact ⟨by rw [hs.out]; rfl, rfl⟩
  · have q1 : (48 ≤ (n : Int)) = False := eq_false (by omega)
    have q1' : (48 ≤ n) = False := eq_false h1
    have hs := Lib.hid (HD.out.trans (decide_eq_false (fun h => h1 h.1)))
    clear h1
    go_enter Tryd.func16, Tryd.ntmps16
    go_wp2_with fail
    go_ret
    exact ⟨by rw [hs.out]; rfl, rfl⟩
theorem c95 {c : UInt8} {n : Nat} (hn : c.toNat = n) : (c == 95) = decide (n = 95) := by
  by_cases h : c = 95
  · subst h
    have : n = 95 := by rw [← hn]; rfl
    simp [this]
  · have : ¬ n = 95 := fun e => h (by rw [← UInt8.toNat_inj, hn, e]; rfl)
    rw [beq_eq_false_iff_ne.2 h, decide_eq_false this]
theorem ref05_sign (c : UInt8) (w : World) : Calls Tryd.prog 17 #[.int .u8 (c.toNat : Int)] w fun e w' => e = .returned (.bool (signC c)) ∧ w' = w := by
  obtain ⟨n, hn⟩ : ∃ n, c.toNat = n := ⟨_, rfl⟩
  have HD := Lib.hid (show signC c = (decide (97 ≤ n ∧ n ≤ 122) || decide (48 ≤ n ∧ n ≤ 57) || decide (n = 95)) by unfold signC smallC digitC; rw [hn, c95 hn])
  rw [hn]
  clear hn
  have hc : (97 ≤ n ∧ n ≤ 122) ∨ (48 ≤ n ∧ n ≤ 57) ∨ n = 95 ∨ n < 48 ∨ (57 < n ∧ n < 95) ∨ n = 96 ∨ 122 < n := by omega
  have key : ∃ b, signC c = b ∧ ((b = true ∧ (97 ≤ n ∧ n ≤ 122 ∨ 48 ≤ n ∧ n ≤ 57 ∨ n = 95)) ∨ (b = false ∧ (n < 48 ∨ (57 < n ∧ n < 95) ∨ n = 96 ∨ 122 < n))) := by
    refine ⟨_, rfl, ?_⟩
    rw [HD.out]
    rcases hc with h | h | h | h | h | h | h <;> simp <;> omega
  obtain ⟨b, hb, hcase⟩ := key
  have HB := Lib.hid hb
  clear hb hc HD
  rcases hcase with ⟨rfl, h | h | h⟩ | ⟨rfl, h | h | h | h⟩
  all_goals
    have q1 : ((97 ≤ (n : Int)) = True ∨ (97 ≤ (n : Int)) = False) := by first | exact Or.inl (eq_true (by omega)) | exact Or.inr (eq_false (by omega))
    clear q1
    go_enter Tryd.func17, Tryd.ntmps17
    go_wp2_with fail
    go_ret
    exact ⟨by rw [HB.out]; first | rfl | (congr 2; simp; done) | (congr 2; simp; omega), rfl⟩
end Go.Proofs.YthammifbpdoggaaDoor
