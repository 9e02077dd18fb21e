/- Layer 4: the contracts of Literal. -/
import Derived.Test.YtddemhpmdmhdcaaDoorNumRefParse
namespace Go.Proofs.YtddemhpmdmhdcaaDoor
open Go.RowKit
set_option linter.unusedSimpArgs false
set_option linter.unusedVariables false
def litS (t v : Int) : ByteArray := ⟨(lit t v).toArray⟩
theorem litS_6 {v : Int} (h : kIn 6 v = true) : litS 6 v = ⟨#[84, 35]⟩ ++ prS v ++ ⟨#[109, 115]⟩ := by
  unfold litS; rw [lit_6 h]
  unfold prS
  rw [show (⟨#[84, 35]⟩ : ByteArray) = ⟨[84, 35].toArray⟩ from rfl, show (⟨#[109, 115]⟩ : ByteArray) = ⟨[109, 115].toArray⟩ from rfl, ba_app, ba_app]
theorem litS_m {t v : Int} (h : kIn t v = true) (h1 : t ≠ 1) (h6 : t ≠ 6) : litS t v = kName t ++ ⟨#[35]⟩ ++ prS v := by
  unfold litS; rw [lit_m h h1 h6]
  unfold prS nm
  rw [show kName t = ⟨(kName t).data.toList.toArray⟩ from by simp, show (⟨#[35]⟩ : ByteArray) = ⟨[35].toArray⟩ from rfl, ba_app, ba_app]
theorem litS_no {t v : Int} (h : kIn t v = false) : litS t v = ⟨#[]⟩ := by unfold litS; rw [lit_no h]
theorem prS_size {n : Int} (h : -9223372036854775808 ≤ n ∧ n ≤ 9223372036854775807) : (prS n).size ≤ 20 := by
  rw [show (prS n).size = (pr n).length from List.size_toArray]; exact pr_len h
set_option maxHeartbeats 1000000 in
theorem num_Literal (t v : Int) (hv : -9223372036854775808 ≤ v ∧ v ≤ 9223372036854775807) (w : World) (hn : KNames w) : Calls Tryd.prog 13 #[.int .i64 t, .int .i64 v] w fun e w' => e = .returned (.string (litS t v)) ∧ Below w.heap.size w w' := by
  have hsz := prS_size hv
  cases hk : kIn t v
  · have HL := Lib.hid (litS_no hk)
    go_enter Tryd.func13, Tryd.ntmps13
    go_wp2_with fail
    refine (kind_In _ _ _).mono ?_; rintro e w1 ⟨rfl, rfl⟩
    go_wp2_with fail
    go_ret
    exact ⟨by rw [HL.out]; rfl, Below.refl _ _⟩
  · have ht : 1 ≤ t ∧ t ≤ 6 := by
      by_cases h : 1 ≤ t ∧ t ≤ 6
      · exact h
      · rw [kIn_no h] at hk; cases hk
    by_cases h1 : t = 1
    · subst h1
      rcases in_1 hk with rfl | rfl
      all_goals
        go_enter Tryd.func13, Tryd.ntmps13
        go_wp2_with fail
        refine (kind_In _ _ _).mono ?_; rintro e w1 ⟨rfl, rfl⟩
        go_wp2_with fail
        go_ret
        exact ⟨rfl, Below.refl _ _⟩
    by_cases h6 : t = 6
    · subst h6
      have HL := Lib.hid (litS_6 hk)
      go_enter Tryd.func13, Tryd.ntmps13
      go_wp2_with fail
      refine (kind_In _ _ _).mono ?_; rintro e w1 ⟨rfl, rfl⟩
      go_wp2_with fail
      refine (num_Print v hv _).mono ?_; rintro e w1 ⟨rfl, hb⟩
      go_wp2_with fail
      go_ret
      exact ⟨by rw [HL.out]; rfl, hb⟩
    · have HL := Lib.hid (litS_m hk h1 h6)
      have e1 : ((t : Int) == 1) = false := by simpa using h1
      have e6 : ((t : Int) == 6) = false := by simpa using h6
      have hks : (kName t).size ≤ 10 := by
        obtain rfl | rfl | rfl | rfl : t = 2 ∨ t = 3 ∨ t = 4 ∨ t = 5 := by omega
        all_goals decide
      clear h1 h6 ht
      go_enter Tryd.func13, Tryd.ntmps13
      go_wp2_with fail
      refine (kind_In _ _ _).mono ?_; rintro e w1 ⟨rfl, rfl⟩
      go_wp2_with fail
      refine (kind_Name _ _ hn).mono ?_; rintro e w1 ⟨rfl, rfl⟩
      go_wp2_with fail
      refine (num_Print v hv _).mono ?_; rintro e w1 ⟨rfl, hb⟩
      go_wp2_with fail
      go_ret
      exact ⟨by rw [HL.out]; rfl, hb⟩
set_option maxHeartbeats 1000000 in
theorem ref04_Literal (t v : Int) (hv : -9223372036854775808 ≤ v ∧ v ≤ 9223372036854775807) (w : World) : Calls Tryd.prog 14 #[.int .i64 t, .int .i64 v] w fun e w' => e = .returned (.string (litS t v)) ∧ Below w.heap.size w w' := by
  have hsz := prS_size hv
  cases hk : kIn t v
  · have HL := Lib.hid (litS_no hk)
    go_enter Tryd.func14, Tryd.ntmps14
    go_wp2_with fail
    refine (ref01_In _ _ _).mono ?_; rintro e w1 ⟨rfl, rfl⟩
    go_wp2_with fail
    go_ret
    exact ⟨by rw [HL.out]; rfl, Below.refl _ _⟩
  · have ht : 1 ≤ t ∧ t ≤ 6 := by
      by_cases h : 1 ≤ t ∧ t ≤ 6
      · exact h
      · rw [kIn_no h] at hk; cases hk
    by_cases h1 : t = 1
    · subst h1
      rcases in_1 hk with rfl | rfl
      all_goals
        go_enter Tryd.func14, Tryd.ntmps14
        go_wp2_with fail
        refine (ref01_In _ _ _).mono ?_; rintro e w1 ⟨rfl, rfl⟩
        go_wp2_with fail
        go_ret
        exact ⟨rfl, by (repeat' (first | (with_reducible exact Below.refl _ _) | (with_reducible assumption) | (with_reducible refine below_drewN ?_ _) | (with_reducible refine Below.alloc ?_ ?_ _) | (with_reducible refine Below.drew ?_) | (with_reducible refine Below.setCell ?_ ?_ _) | go_size))⟩
    by_cases h6 : t = 6
    · subst h6
      have HL := Lib.hid (litS_6 hk)
      go_enter Tryd.func14, Tryd.ntmps14
      go_wp2_with fail
      refine (ref01_In _ _ _).mono ?_; rintro e w1 ⟨rfl, rfl⟩
      go_wp2_with fail
      refine (ref04_Print v hv _).mono ?_; rintro e w1 ⟨rfl, rfl⟩
      go_wp2_with fail
      go_ret
      exact ⟨by rw [HL.out]; rfl, Below.refl _ _⟩
    · have HL := Lib.hid (litS_m hk h1 h6)
      have e1 : ((t : Int) == 1) = false := by simpa using h1
      have e6 : ((t : Int) == 6) = false := by simpa using h6
      have hks : (kName t).size ≤ 10 := by
        obtain rfl | rfl | rfl | rfl : t = 2 ∨ t = 3 ∨ t = 4 ∨ t = 5 := by omega
        all_goals decide
      clear h1 h6 ht
      go_enter Tryd.func14, Tryd.ntmps14
      go_wp2_with fail
      refine (ref01_In _ _ _).mono ?_; rintro e w1 ⟨rfl, rfl⟩
      go_wp2_with fail
      refine (ref01_Name _ _).mono ?_; rintro e w1 ⟨rfl, hb⟩
      go_wp2_with fail
      refine (ref04_Print v hv _).mono ?_; rintro e w1 ⟨rfl, rfl⟩
      go_wp2_with fail
      go_ret
      exact ⟨by rw [HL.out]; rfl, hb⟩
end Go.Proofs.YtddemhpmdmhdcaaDoor
